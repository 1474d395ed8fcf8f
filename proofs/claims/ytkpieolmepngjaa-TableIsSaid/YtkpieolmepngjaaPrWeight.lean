/-
  How heavy trees are; the readings of the arguments as trees, no heavier than what is read.
-/
import Derived.Test.YtkpieolmepngjaaPrTree
import Derived.ProofKit
import Derived.OpenShut
import Derived.ChangeArms
import Derived.Lib.ItoaNum
import Derived.Lib.Join
namespace Go.Proofs.Ytkpieolmepngjaa
open Go Go.ChangeShapes Go.WideShapes Go.RowKit

/-- how many digits a number has. -/
def dn (n : Int) : Nat := (Lib.decDigits n.natAbs).length
theorem nDigits_le : ∀ (k u : Nat), u < 10 ^ (k + 1) → Lib.nDigits u ≤ k + 1
  | 0, u, h => by rw [Lib.nDigits_small (by simpa using h)]; exact Nat.le_refl _
  | k + 1, u, h => by
    by_cases h1 : u < 10
    · rw [Lib.nDigits_small h1]; omega
    · rw [Lib.nDigits_big h1]
      have := nDigits_le k (u / 10) (by rw [Nat.pow_succ] at h; omega)
      omega
theorem dn_le {n : Int} (h : I64 n) : dn n ≤ 19 := by
  unfold dn
  rw [Lib.decDigits_length]
  have h1 : n.natAbs < 10 ^ (18 + 1) := by have := h.1; have := h.2; omega
  exact nDigits_le 18 n.natAbs h1
mutual
/-- at least so long, blanks and all, is what is written of a tree. -/
def wE : ET → Nat
  | .mk _ n nm wh args => 36 + dn n + nm.size + wh.size + wEs args
def wEs : List ET → Nat
  | [] => 0
  | e :: r => wE e + wEs r
end
theorem wEs_sum : ∀ l : List ET, wEs l = (l.map wE).sum
  | [] => by simp [wEs]
  | e :: r => by simp [wEs, wEs_sum r]
def wN (n : Int) : Nat := 5 + dn n
def wL (l : List Int) : Nat := 3 + (l.map wN).sum
mutual
def wS : ST → Nat
  | .mk _ n nm ex lb bs => 64 + dn n + nm.size + wEs ex + (lb.map wL).sum + wBs bs
def wSs : List ST → Nat
  | [] => 0
  | s :: r => wS s + wSs r
def wBs : List (List ST) → Nat
  | [] => 0
  | l :: r => 1 + wSs l + wBs r
end
theorem wSs_sum : ∀ l : List ST, wSs l = (l.map wS).sum
  | [] => by simp [wSs]
  | e :: r => by simp [wSs, wSs_sum r]
theorem wBs_sum : ∀ l : List (List ST), wBs l = (l.map fun b => 1 + wSs b).sum
  | [] => by simp [wBs]
  | e :: r => by simp [wBs, wBs_sum r]
def wY (t : YT) : Nat := 24 + t.name.size + dn t.lo + dn t.hi
def wV (v : VT) : Nat := 32 + v.name.size + wY v.type + dn v.init + dn v.slot
def wM (m : MT) : Nat := 64 + m.name.size + wY m.result + (m.params.map wV).sum + (m.vars.map wV).sum + wSs m.body
def wX (s : ByteArray) : Nat := 3 + s.size
def wD (d : DT) : Nat := 64 + d.name.size + d.base.size + (d.faces.map wX).sum + (d.vars.map wV).sum + (d.methods.map wM).sum + wSs d.body + dn d.every + dn d.first
def wU (l : List DT) : Nat := (l.map wD).sum

section
variable {H : Type} {enc : TypeId × Value → H} {w : World} {sp : Nat → Bool} {held : Bool}

theorem pick {α : Type} {Q : Nat → α → Prop} : ∀ n : Nat, (∀ i, i < n → ∃ a, Q i a) → ∃ l : List α, l.length = n ∧ ∀ (i : Nat) (hi : i < l.length), Q i l[i]
  | 0, _ => ⟨[], rfl, fun i hi => by simp at hi⟩
  | n + 1, h => by
    obtain ⟨l, hl, hq⟩ := pick n (fun i hi => h i (by omega))
    obtain ⟨a, ha⟩ := h n (by omega)
    refine ⟨l ++ [a], by simp [hl], fun i hi => ?_⟩
    by_cases hin : i < l.length
    · rw [List.getElem_append_left hin]; exact hq i hin
    · have : i = l.length := by simp at hi; omega
      subst this
      simp only [List.getElem_append_right (Nat.le_refl _), Nat.sub_self, List.getElem_singleton]
      rw [hl]; exact ha
theorem sum_le {α β : Type} (f : α → Nat) (g : β → Nat) : ∀ (l : List α) (m : List β), l.length = m.length → (∀ (i : Nat) (h1 : i < l.length) (h2 : i < m.length), f l[i] ≤ g m[i]) → (l.map f).sum ≤ (m.map g).sum
  | [], [], _, _ => by simp
  | a :: l, b :: m, hl, h => by
    have h0 := h 0 (by simp) (by simp)
    have h1 := sum_le f g l m (by simpa using hl) (fun i h1 h2 => h (i + 1) (by simpa using h1) (by simpa using h2))
    simp only [List.getElem_cons_zero] at h0
    simp only [List.map_cons, List.sum_cons]
    omega
theorem sum_mul {β : Type} (c : Nat) (g : β → Nat) : ∀ l : List β, (l.map fun y => c * g y).sum = c * (l.map g).sum
  | [] => by simp
  | y :: r => by simp only [List.map_cons, List.sum_cons, sum_mul c g r, Nat.mul_add]
theorem bulkAll_sum : ∀ l : List (DataW H), Rows.uptoBulkAll l = (l.map Rows.uptoBulk).sum
  | [] => by simp [Rows.uptoBulkAll]
  | d :: r => by simp [Rows.uptoBulkAll, bulkAll_sum r]

/-- a row that is read. -/
theorem openRow {α : Type} {R : α → List Value → Prop} {wt : α → Nat} {S T : TypeId} {sz fuel : Nat} {cs : List Value} {x : DataW H × List MemPlace} (hu : Try.prog.underlying S = some (.slice T)) (hsz : Try.prog.cellsOf T = sz) (h0 : 0 < sz)
    (ih : ∀ n, n < fuel → ∀ (cs : List Value) (y : DataW H × List MemPlace), DataW.trod enc Try.prog w 0 sp held n T cs = some y → ∃ a, R a cs ∧ wt a ≤ 24 * Rows.uptoBulk y.1)
    (h : DataW.trod enc Try.prog w 0 sp held fuel S cs = some x) : ∃ (l : List α) (A : Option Addr) (c : Nat), cs = [.slice A l.length c] ∧ RowIn R w w.heap.size A sz l ∧ (l.map wt).sum + 24 ≤ 24 * Rows.uptoBulk x.1 ∧ (A = none → c = 0) := by
  rcases DataW.trod_slice hu h with ⟨rfl, rfl⟩ | ⟨a, len, cap, elems, rest, n, rfl, rfl, rfl, _, _, _, hlen, hel, _, _⟩
  · exact ⟨[], none, 0, rfl, fun k hk => by simp at hk, by simp [Rows.uptoBulk], fun _ => rfl⟩
  · rw [hsz] at hel
    obtain ⟨l, hl, hq⟩ := pick (α := α) (Q := fun i b => ∃ cs2 y, elems[i]? = some y ∧ w.cells? 0 (a.add (i * sz)) sz = some cs2 ∧ R b cs2 ∧ wt b ≤ 24 * Rows.uptoBulk y.1) len (fun i hi => by
      have h1 := hel i hi
      have h2 : elems[i]? = some (elems[i]'(by omega)) := List.getElem?_eq_getElem (by omega)
      rw [h2] at h1
      obtain ⟨cs2, h3, h4⟩ := Option.bind_eq_some_iff.1 h1
      obtain ⟨b, h5, h6⟩ := ih n (Nat.lt_succ_self n) cs2 _ h4
      exact ⟨b, cs2, _, h2, h3, h5, h6⟩)
    have hspot : 0 < l.length → a.spot = none := fun hz => by
      obtain ⟨cs2, y, h1, h2, h3, h4⟩ := hq 0 hz
      obtain ⟨_, hcl, hcc⟩ := World.cells?_some h2
      have h5 := hcc 0 h0
      have h6 : cs2[0]? = some (cs2[0]'(by omega)) := List.getElem?_eq_getElem (by omega)
      rw [h6] at h5
      have e1 : (a.add (0 * sz)).add 0 = a := by simp [Addr.add]
      rw [e1] at h5
      cases hs : a.spot with
      | none => rfl
      | some s =>
        exfalso
        unfold World.cell? at h5
        rw [hs] at h5
        cases hb : w.heap[a.block]? with
        | none => rw [hb] at h5; cases h5
        | some o => rw [hb] at h5; cases o <;> simp at h5
    refine ⟨l, some a, cap, by rw [hl], fun k hk => ?_, ?_, fun h => by cases h⟩
    · obtain ⟨cs2, y, h1, h2, h3, h4⟩ := hq k hk
      obtain ⟨_, hcl, hcc⟩ := World.cells?_some h2
      have hs := hspot (by omega)
      obtain ⟨g, o, sp0⟩ := a
      simp only at hs
      subst hs
      have eadd : ∀ n m, ((⟨g, o, none⟩ : Addr).add n).add m = ⟨g, o + n + m, none⟩ := by
        intro n m
        unfold Addr.add
        by_cases hn : n = 0 <;> by_cases hm : m = 0 <;> simp [hn, hm]
      have eblk : ((⟨g, o, none⟩ : Addr).add (k * sz)).block = g := by
        unfold Addr.add
        by_cases hn : k * sz = 0 <;> simp [hn]
      refine ⟨g, o, cs2, rfl, ?_, hcl, fun j u hj => ?_, h3⟩
      · have := World.cells?_block h2 h0
        rw [eblk] at this
        exact this
      · have hjl : j < sz := by
          rcases Nat.lt_or_ge j cs2.length with h6 | h6
          · omega
          · rw [List.getElem?_eq_none h6] at hj; cases hj
        have h7 := hcc j hjl
        rw [hj, eadd] at h7
        exact h7
    · have h1 := sum_le wt (fun y : DataW H × List MemPlace => 24 * Rows.uptoBulk y.1) l elems (by omega) (fun i h1 h2 => by
        obtain ⟨cs2, y, h3, h4, h5, h6⟩ := hq i h1
        have h7 : elems[i] = y := by
          rw [List.getElem?_eq_getElem h2] at h3
          exact Option.some.inj h3
        rw [h7]; exact h6)
      have e : Rows.uptoBulkAll (elems.map fun x => x.1) = (elems.map fun y : DataW H × List MemPlace => Rows.uptoBulk y.1).sum := by
        rw [bulkAll_sum, List.map_map]
        rfl
      have e2 : (elems.map fun y : DataW H × List MemPlace => 24 * Rows.uptoBulk y.1).sum = 24 * (elems.map fun y : DataW H × List MemPlace => Rows.uptoBulk y.1).sum := sum_mul 24 _ elems
      rw [e2] at h1
      simp only [Rows.uptoBulk]
      rw [e]
      omega
end
end Go.Proofs.Ytkpieolmepngjaa
