/-
  slices.Backward over declarations BY A CONTRACT: its iterator stops.
-/
import Derived.Test.YtbgilpmoijdcfaaGreatK2
namespace Go.Proofs.YtbgilpmoijdcfaaGreat
open Go Go.RowKit Go.Shelf
set_option linter.unusedVariables false
set_option linter.unusedSimpArgs false

attribute [local go_sem] Oper.semAt_some

/-- the k-th of a row of declarations, as a value. -/
abbrev dvv (V : Nat → Nat → Value) (k : Nat) : Value := .agg #[V k 0, V k 1, V k 2, V k 3, V k 4, V k 5, V k 6, V k 7, V k 8, V k 9, V k 10]
/-- what the iterator reads: its box, the row's cells. -/
def DRow (W : World) (Bs q o m cap : Nat) (V : Nat → Nat → Value) : Prop := W.cell? ⟨Bs, 0, none⟩ = some (.slice (some ⟨q, o, none⟩) m cap) ∧ ∀ k, k < m → ∀ j, j < 11 → W.cell? ⟨q, o + k * 11 + j, none⟩ = some (V k j)

set_option maxRecDepth 100000 in
set_option maxHeartbeats 2000000 in
theorem backDecls1_in (F : Fence) (n : Nat) (h7 : F.fn 103) (hro : F.round = none) (hn : 1 ≤ n) (l Bs cap : Nat) (q o m : Nat) (V : Nat → Nat → Value) (hreach : m ≤ 1000000000) (Kp : World → World → Prop) (hKp : ∀ W W', Kp W W' → (DRow W Bs q o m cap V) → DRow W' Bs q o m cap V) (J Jx : List (Fin m) → World → Prop)
    (hY : ∀ pre x W, J pre W → pre.length < m → YieldAt F (n - 1) Tryz.prog l #[.int .i64 ((x.1 : Nat) : Int), dvv V x.1] W fun e W' =>
      (e = .returned (.bool true) ∧ J (pre ++ [x]) W' ∧ Kp W W') ∨ (e = .returned (.bool false) ∧ Jx (pre ++ [x]) W'))
    (W : World) (hR0 : DRow W Bs q o m cap V) (h0 : J [] W) :
    CallsIn F n Tryz.prog 103 #[.func (.yield l) #[] #[], .pointer (some ⟨Bs, 0, none⟩)] W fun e W' => (∃ v, e = .returned v) ∧
      ((∃ ys, ys = backU m m ∧ J ys W') ∨ (∃ pre, (∃ k, k ≤ m ∧ pre = backU m k) ∧ Jx pre W')) := by
  obtain ⟨hc0, hI0⟩ := hR0
  have HI := Lib.hid hI0
  clear hI0
  have hw0 : wrap64 ((m : Int) - 1) = (m : Int) - 1 := by unfold wrap64; omega
  refine callsIn_of_wp Tryz.func103 rfl h7 ?_ hro
  simp only [Tryz.ntmps103, List.size_toArray, List.length_cons, List.length_nil, Nat.reduceAdd, Nat.reduceSub, Array.replicate_succ, Array.replicate_zero, List.push_toArray, List.append_toArray, List.nil_append, List.cons_append]
  gi_wp2
  gi_loopw [3] (fun i wr => ∃ (k : Nat) (mi : Int), k ≤ m ∧ i = .int .i64 mi ∧ Hid (mi = (m : Int) - 1 - k) ∧ J (backU m k) wr ∧ Hid (DRow wr Bs q o m cap V))
    (fun i _ => (intOf i + 1).toNat)
  case atStart => exact ⟨0, _, Nat.zero_le _, rfl, by unfold Hid; omega, h0, hc0, HI.out⟩
  case round =>
    obtain ⟨k, mi, hk, rfl, hm, hJs, hnx⟩ := hrel
    by_cases hlt : k < m
    · obtain ⟨x, rfl⟩ : ∃ x : Nat, mi = x := ⟨mi.toNat, by have := hm.out; omega⟩
      have hx : x = m - 1 - k := by have := hm.out; omega
      have hxl : x < m := by omega
      have c0 := hnx.out.2 x hxl 0 (by decide)
      have c1 := hnx.out.2 x hxl 1 (by decide)
      have c2 := hnx.out.2 x hxl 2 (by decide)
      have c3 := hnx.out.2 x hxl 3 (by decide)
      have c4 := hnx.out.2 x hxl 4 (by decide)
      have c5 := hnx.out.2 x hxl 5 (by decide)
      have c6 := hnx.out.2 x hxl 6 (by decide)
      have c7 := hnx.out.2 x hxl 7 (by decide)
      have c8 := hnx.out.2 x hxl 8 (by decide)
      have c9 := hnx.out.2 x hxl 9 (by decide)
      have c10 := hnx.out.2 x hxl 10 (by decide)
      rw [Nat.add_zero] at c0
      have hbx := hnx.out.1
      have q1 : (x : Int) < (m : Int) := by omega
      have q2 : (0 : Int) ≤ (x : Int) := by omega
      obtain ⟨fn, tmps, assign, body, hy, hR⟩ := hY _ ⟨x, hxl⟩ wr hJs (by rw [backU_length _ _ (by omega)]; exact hlt)
      dsimp only at hy
      have hup : backU m (k + 1) = backU m k ++ [⟨x, hxl⟩] := by
        rw [backU_succ _ _ hlt]
        simp only [hx]
      have HX := Lib.hid hx
      have HUP := Lib.hid hup
      unfold dvv at hy
      clear hx hup
      gi_wp2
      refine hR.mono ?_
      rintro e W3 (⟨rfl, hJ3, hk3⟩ | ⟨rfl, hJx3⟩)
      · gi_wp2
        go_roundw
        case rel => exact ⟨k + 1, _, by omega, rfl, by have := HX.out; unfold Hid; omega, by rw [HUP.out]; exact hJ3, hKp _ _ hk3 hnx.out⟩
        case measure => simp [intOf]
      · gi_wp2
        refine bodyPost_ret (results_none rfl _ _ _) rfl ?_
        exact ⟨⟨_, rfl⟩, .inr ⟨_, ⟨k + 1, by omega, by rw [HUP.out]⟩, hJx3⟩⟩
    · obtain rfl : k = m := by omega
      obtain rfl : mi = -1 := by have := hm.out; omega
      gi_wp2
      go_end0
      exact ⟨⟨_, rfl⟩, .inl ⟨_, rfl, hJs⟩⟩

set_option maxHeartbeats 1000000 in
/-- slices.Backward: the slice is boxed; the function value captures the box. -/
theorem backDecls_in (F : Fence) (n : Nat) (h5 : F.fn 93) (hro : F.round = none) (a : Option Addr) (len cap : Nat) (w : World) :
    CallsIn F n Tryz.prog 93 #[.slice a len cap] w fun e w' => e = .returned (.func (.func 103) #[] #[.pointer (some ⟨w.heap.size, 0, none⟩)]) ∧ w' = w.alloc (.cells #[.slice a len cap] 29) := by
  refine callsIn_of_wp Tryz.func93 rfl h5 ?_ hro
  simp only [Tryz.ntmps93, List.size_toArray, List.length_cons, List.length_nil, Nat.reduceAdd, Nat.reduceSub, Array.replicate_succ, Array.replicate_zero, List.push_toArray, List.append_toArray, List.nil_append, List.cons_append]
  gi_wp2
  go_ret
  exact ⟨rfl, rfl⟩
/-- its iterator stops: all places, the last one first; or a beginning of them. -/
theorem backDecls_stops (F : Fence) (n : Nat) (h7 : F.fn 103) (hro : F.round = none) (hn : 1 ≤ n) (Bs cap : Nat) (q o m : Nat) (V : Nat → Nat → Value) (hreach : m ≤ 1000000000) (Kp : World → World → Prop) (hKp : ∀ W W', Kp W W' → (DRow W Bs q o m cap V) → DRow W' Bs q o m cap V) (w : World) (hBs : Bs < w.heap.size) 
    (hq : q < w.heap.size) (hc : DRow w Bs q o m cap V) :
    SeqStopsK F n Tryz.prog 103 #[.pointer (some ⟨Bs, 0, none⟩)] (fun x : Fin m => #[Value.int .i64 (x.1 : Int), dvv V x.1]) Kp (fun ys => ys = backU m m) (fun pre => ∃ k, k ≤ m ∧ pre = backU m k) m w := fun l J Jx W hW _ _ hY h0 =>
  backDecls1_in F n h7 hro hn l Bs cap q o m V hreach Kp hKp J Jx hY W ⟨(hW.cell (p := ⟨Bs, 0, none⟩) hBs).trans hc.1, fun k hk j hj => (hW.cell (p := ⟨q, o + k * 11 + j, none⟩) hq).trans (hc.2 k hk j hj)⟩ h0
end Go.Proofs.YtbgilpmoijdcfaaGreat
