/-
  What a unit that was read of bulk at most 1048576 bears.
-/
import Derived.Test.YtkpieolmepngjaaTbTab
import Derived.Test.YtkpieolmepngjaaTbGreat3
import Derived.Test.YtkpieolmepngjaaPrOpen
namespace Go.Proofs.Ytkpieolmepngjaa
open Go Go.RowKit
set_option linter.unusedVariables false
set_option linter.unusedSimpArgs false

theorem sum_many {α : Type} (f : α → Nat) (m : Nat) (hf : ∀ x, m ≤ f x) : ∀ l : List α, m * l.length ≤ (l.map f).sum
  | [] => by simp
  | x :: r => by have := sum_many f m hf r; have := hf x; simp only [List.map_cons, List.sum_cons, List.length_cons, Nat.mul_add]; omega
theorem mem_sum {α : Type} (f : α → Nat) {l : List α} {x : α} (h : x ∈ l) : f x ≤ (l.map f).sum := by
  obtain ⟨k, hk, rfl⟩ := List.getElem_of_mem h
  exact sum_at f l k hk
theorem fit_of {L : List DT} (hw : wU L ≤ 25165824) (hfew : L.length ≤ 16) : Fit L := by
  have hd : ∀ d ∈ L, wD d ≤ 25165824 := fun d hd => Nat.le_trans (mem_sum wD hd) hw
  refine ⟨?_, fun d h => ?_, fun d h => ?_, fun d h => ?_, fun d h f hf => ?_, fun d h => ?_, fun d h => ?_⟩
  · omega
  · have := hd d h; unfold wD at this; omega
  · have := hd d h
    have h2 := sum_many wX 3 (fun s => by unfold wX; omega) d.faces
    unfold wD at this; omega
  · have := hd d h; unfold wD at this; omega
  · have := hd d h
    have h2 := mem_sum wX hf
    have h3 : wX f = 3 + f.size := rfl
    unfold wD at this; omega
  · have := hd d h
    have h2 := sum_many wM 64 (fun m => by unfold wM; omega) d.methods
    unfold wD at this; omega
  · have := hd d h
    have h2 := sum_many wV 32 (fun v => by unfold wV; omega) d.vars
    unfold wD at this; omega
end Go.Proofs.Ytkpieolmepngjaa
