/-
  slices.Backward over numbers BY A CONTRACT: its iterator stops.
-/
import Derived.Test.YtkpieolmepngjaaLkFind0
import Derived.RangeFuncNested
import Derived.RangeFuncBox
import Derived.RangeFuncBound
import Derived.RangeFuncCalls
import Derived.RangeFuncLeaves
import Derived.Shelf.Abstract
import Derived.Shelf.RegionOpen
import Derived.OwnWalkIn
import Derived.TacticsInMore
import Derived.LoopNIn
import Derived.LoopIn
namespace Go.Proofs.Ytkpieolmepngjaa
open Go Go.RowKit Go.Shelf
set_option linter.unusedVariables false
set_option linter.unusedSimpArgs false

attribute [local go_sem] Oper.semAt_some

/-- the places that have come when k rounds are over, the last one first. -/
def backU (n k : Nat) : List (Fin n) := (List.finRange n).reverse.take k
theorem backU_succ (n k : Nat) (hk : k < n) : backU n (k + 1) = backU n k ++ [⟨n - 1 - k, by omega⟩] := by
  have h1 : k < (List.finRange n).reverse.length := by simp [hk]
  unfold backU
  rw [List.take_succ_eq_append_getElem h1]
  congr 2
  simp [List.getElem_reverse]
theorem backU_length (n k : Nat) (hk : k ≤ n) : (backU n k).length = k := by simp [backU]; omega
theorem backU_all {α : Type} (l : List α) : (backU l.length l.length).map (fun i => l[i.1]'i.2) = l.reverse := by
  unfold backU
  rw [List.take_of_length_le (by simp), List.map_reverse]
  congr 1
  apply List.ext_getElem
  · simp
  · intro i h1 h2
    simp

set_option maxRecDepth 100000 in
set_option maxHeartbeats 2000000 in
theorem backInts1_in (F : Fence) (n : Nat) (h7 : F.fn 89) (hro : F.round = none) (hn : 1 ≤ n) (l Bs B cap : Nat) (A : Option Addr) (C : List Int) (hreach : C.length ≤ 1000000000) (Kp : World → World → Prop) (hKp : ∀ W W', Kp W W' → (W.cell? ⟨Bs, 0, none⟩ = some (.slice A C.length cap) ∧ NsR W B A C) → W'.cell? ⟨Bs, 0, none⟩ = some (.slice A C.length cap) ∧ NsR W' B A C) (J Jx : List (Fin C.length) → World → Prop)
    (hY : ∀ pre x W, J pre W → pre.length < C.length → YieldAt F (n - 1) Try.prog l #[.int .i64 ((x.1 : Nat) : Int), .int .i64 (C[x.1]'x.2)] W fun e W' =>
      (e = .returned (.bool true) ∧ J (pre ++ [x]) W' ∧ Kp W W') ∨ (e = .returned (.bool false) ∧ Jx (pre ++ [x]) W'))
    (W : World) (hR0 : W.cell? ⟨Bs, 0, none⟩ = some (.slice A C.length cap) ∧ NsR W B A C) (h0 : J [] W) :
    CallsIn F n Try.prog 89 #[.func (.yield l) #[] #[], .pointer (some ⟨Bs, 0, none⟩)] W fun e W' => (∃ v, e = .returned v) ∧
      ((∃ ys, ys = backU C.length C.length ∧ J ys W') ∨ (∃ pre, (∃ k, k ≤ C.length ∧ pre = backU C.length k) ∧ Jx pre W')) := by
  obtain ⟨hc0, hI0⟩ := hR0
  have HI := Lib.hid hI0
  clear hI0
  have hw0 : wrap64 ((C.length : Int) - 1) = (C.length : Int) - 1 := by unfold wrap64; omega
  refine callsIn_of_wp Try.func89 rfl h7 ?_ hro
  simp only [Try.ntmps89, List.size_toArray, List.length_cons, List.length_nil, Nat.reduceAdd, Nat.reduceSub, Array.replicate_succ, Array.replicate_zero, List.push_toArray, List.append_toArray, List.nil_append, List.cons_append]
  gi_wp2
  gi_loopw [3] (fun i wr => ∃ (k : Nat) (m : Int), k ≤ C.length ∧ i = .int .i64 m ∧ Hid (m = (C.length : Int) - 1 - k) ∧ J (backU C.length k) wr ∧ Hid (wr.cell? ⟨Bs, 0, none⟩ = some (.slice A C.length cap) ∧ NsR wr B A C))
    (fun i _ => (intOf i + 1).toNat)
  case atStart => exact ⟨0, _, Nat.zero_le _, rfl, by unfold Hid; omega, h0, hc0, HI.out⟩
  case round =>
    obtain ⟨k, m, hk, rfl, hm, hJs, hnx⟩ := hrel
    by_cases hlt : k < C.length
    · obtain ⟨x, rfl⟩ : ∃ x : Nat, m = x := ⟨m.toNat, by have := hm.out; omega⟩
      have hx : x = C.length - 1 - k := by have := hm.out; omega
      have hxl : x < C.length := by omega
      obtain ⟨g, o, cs, rfl, hg, -, hcs, he⟩ := hnx.out.2 x hxl
      obtain ⟨rfl, -⟩ := he
      have hcx := hcs 0 _ rfl
      simp only [Nat.mul_one, Nat.add_zero] at hcx
      have hbx := hnx.out.1
      have q1 : (x : Int) < (C.length : Int) := by omega
      have q2 : (0 : Int) ≤ (x : Int) := by omega
      obtain ⟨fn, tmps, assign, body, hy, hR⟩ := hY _ ⟨x, hxl⟩ wr hJs (by rw [backU_length _ _ (by omega)]; exact hlt)
      dsimp only at hy
      have hup : backU C.length (k + 1) = backU C.length k ++ [⟨x, hxl⟩] := by
        rw [backU_succ _ _ hlt]
        simp only [hx]
      have HX := Lib.hid hx
      have HUP := Lib.hid hup
      clear hcs hx hup
      gi_wp2
      refine hR.mono ?_
      rintro e W3 (⟨rfl, hJ3, hk3⟩ | ⟨rfl, hJx3⟩)
      · gi_wp2
        go_roundw
        case rel => exact ⟨k + 1, _, by omega, rfl, by have := HX.out; unfold Hid; omega, by rw [HUP.out]; exact hJ3, hKp _ _ hk3 hnx.out⟩
        case measure => simp [intOf]
      · gi_wp2
        refine bodyPost_ret (results_none rfl _ _ _) rfl ?_
        exact ⟨⟨_, rfl⟩, .inr ⟨_, ⟨k + 1, by omega, by rw [HUP.out]⟩, hJx3⟩⟩
    · obtain rfl : k = C.length := by omega
      obtain rfl : m = -1 := by have := hm.out; omega
      gi_wp2
      go_end0
      exact ⟨⟨_, rfl⟩, .inl ⟨_, rfl, hJs⟩⟩

set_option maxHeartbeats 1000000 in
/-- slices.Backward: the slice is boxed; the function value captures the box. -/
theorem backInts_in (F : Fence) (n : Nat) (h5 : F.fn 70) (hro : F.round = none) (a : Option Addr) (len cap : Nat) (w : World) :
    CallsIn F n Try.prog 70 #[.slice a len cap] w fun e w' => e = .returned (.func (.func 89) #[] #[.pointer (some ⟨w.heap.size, 0, none⟩)]) ∧ w' = w.alloc (.cells #[.slice a len cap] 32) := by
  refine callsIn_of_wp Try.func70 rfl h5 ?_ hro
  simp only [Try.ntmps70, List.size_toArray, List.length_cons, List.length_nil, Nat.reduceAdd, Nat.reduceSub, Array.replicate_succ, Array.replicate_zero, List.push_toArray, List.append_toArray, List.nil_append, List.cons_append]
  gi_wp2
  go_ret
  exact ⟨rfl, rfl⟩
/-- its iterator stops: all places, the last one first; or a beginning of them. -/
theorem backInts_stops (F : Fence) (n : Nat) (h7 : F.fn 89) (hro : F.round = none) (hn : 1 ≤ n) (Bs B cap : Nat) (A : Option Addr) (C : List Int) (hreach : C.length ≤ 1000000000) (Kp : World → World → Prop) (hKp : ∀ W W', Kp W W' → (W.cell? ⟨Bs, 0, none⟩ = some (.slice A C.length cap) ∧ NsR W B A C) → W'.cell? ⟨Bs, 0, none⟩ = some (.slice A C.length cap) ∧ NsR W' B A C) (w : World) (hBs : Bs < w.heap.size) (hB : B ≤ w.heap.size)
    (hc : w.cell? ⟨Bs, 0, none⟩ = some (.slice A C.length cap)) (hI : NsR w B A C) :
    SeqStopsK F n Try.prog 89 #[.pointer (some ⟨Bs, 0, none⟩)] (fun x : Fin C.length => #[Value.int .i64 (x.1 : Int), Value.int .i64 (C[x.1]'x.2)]) Kp (fun ys => ys = backU C.length C.length) (fun pre => ∃ k, k ≤ C.length ∧ pre = backU C.length k) C.length w := fun l J Jx W hW _ _ hY h0 =>
  backInts1_in F n h7 hro hn l Bs B cap A C hreach Kp hKp J Jx hY W ⟨(hW.cell (p := ⟨Bs, 0, none⟩) hBs).trans hc, NsR.mono (Nat.le_refl _) (fun g hg => hW.block g (by omega)) hI⟩ h0
end Go.Proofs.Ytkpieolmepngjaa
