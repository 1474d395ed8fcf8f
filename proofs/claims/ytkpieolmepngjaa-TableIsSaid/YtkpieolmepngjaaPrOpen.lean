/-
  The readings of the arguments as trees, no heavier than what is read.
-/
import Derived.Test.YtkpieolmepngjaaPrWeight
namespace Go.Proofs.Ytkpieolmepngjaa
open Go Go.ChangeShapes Go.WideShapes Go.RowKit

theorem cells3 : Try.prog.cellsOf 3 = 1 := by kernel_rfl
theorem cells9 : Try.prog.cellsOf 9 = 1 := by kernel_rfl
theorem cells4 : Try.prog.cellsOf 4 = 1 := by kernel_rfl
theorem cells64 : Try.prog.cellsOf 64 = 1 := by kernel_rfl
theorem cells32 : Try.prog.cellsOf 32 = 1 := by kernel_rfl
theorem cells68 : Try.prog.cellsOf 68 = 1 := by kernel_rfl
theorem cells43 : Try.prog.cellsOf 43 = 1 := by kernel_rfl
theorem cells45 : Try.prog.cellsOf 45 = 1 := by kernel_rfl
theorem cells67 : Try.prog.cellsOf 67 = 1 := by kernel_rfl
theorem cells34 : Try.prog.cellsOf 34 = 1 := by kernel_rfl
theorem cells44 : Try.prog.cellsOf 44 = 1 := by kernel_rfl
theorem cells22 : Try.prog.cellsOf 22 = 1 := by kernel_rfl
theorem cells66 : Try.prog.cellsOf 66 = 5 := by kernel_rfl
theorem cells50 : Try.prog.cellsOf 50 = 4 := by kernel_rfl
theorem cells54 : Try.prog.cellsOf 54 = 8 := by kernel_rfl
theorem cells70 : Try.prog.cellsOf 70 = 6 := by kernel_rfl
theorem cells52 : Try.prog.cellsOf 52 = 11 := by kernel_rfl
theorem cells47 : Try.prog.cellsOf 47 = 11 := by kernel_rfl
theorem cells24 : Try.prog.cellsOf 24 = 1 := by kernel_rfl
set_option maxRecDepth 100000 in
theorem wf64 {n : Int} (h : (Lit.int .i64 n).wf = true) : I64 n := by
  unfold Lit.wf at h
  rw [Bool.and_eq_true] at h
  have h1 := of_decide_eq_true h.1
  have h2 := of_decide_eq_true h.2
  rw [show IntKind.min .i64 = -9223372036854775808 by kernel_rfl] at h1
  rw [show IntKind.max .i64 = 9223372036854775807 by kernel_rfl] at h2
  exact ⟨h1, h2⟩
theorem sum_ones (l : List Int) : (l.map fun _ => 1).sum = l.length := by
  induction l with
  | nil => rfl
  | cons x r ih => simp only [List.map_cons, List.sum_cons, List.length_cons, ih]; omega
section
variable {H : Type} {enc : TypeId × Value → H} {w : World} {sp : Nat → Bool} {held : Bool}
theorem bulk_str (s : ByteArray) : Rows.uptoBulk (DataW.lit (H := H) (.string s.data.toList)) = s.size + 1 := by
  simp only [Rows.uptoBulk, Array.length_toList]
  rfl
theorem bulk_int (k : IntKind) (n : Int) : Rows.uptoBulk (DataW.lit (H := H) (.int k n)) = 1 := rfl
theorem bulk_bool (b : Bool) : Rows.uptoBulk (DataW.lit (H := H) (.bool b)) = 1 := rfl
set_option maxRecDepth 100000 in
theorem openY {fuel : Nat} {cs : List Value} {x : DataW H × List MemPlace} (h : DataW.trod enc Try.prog w 0 sp held fuel 50 cs = some x) : ∃ t : YT, cs = t.cells ∧ t.wf ∧ wY t ≤ 24 * Rows.uptoBulk x.1 := by
  obtain ⟨xs, n, rfl, rfl, hcl, hxl, hf⟩ := DataW.trod_struct Try.underlying50 h
  rw [cells50] at hcl
  obtain ⟨v0, v1, v2, v3, rfl⟩ : ∃ v0 v1 v2 v3, cs = [v0, v1, v2, v3] := by
    match cs, hcl with
    | [v0, v1, v2, v3], _ => exact ⟨_, _, _, _, rfl⟩
  obtain ⟨y0, y1, y2, y3, rfl⟩ : ∃ y0 y1 y2 y3, xs = [y0, y1, y2, y3] := by
    match xs, hxl with
    | [y0, y1, y2, y3], _ => exact ⟨_, _, _, _, rfl⟩
  have f0 : DataW.trod enc Try.prog w 0 sp held n 3 (([v0, v1, v2, v3].drop 0).take (Try.prog.cellsOf 3)) = some y0 := hf 0 _ rfl
  have f1 : DataW.trod enc Try.prog w 0 sp held n 3 (([v0, v1, v2, v3].drop 1).take (Try.prog.cellsOf 3)) = some y1 := hf 1 _ rfl
  have f2 : DataW.trod enc Try.prog w 0 sp held n 3 (([v0, v1, v2, v3].drop 2).take (Try.prog.cellsOf 3)) = some y2 := hf 2 _ rfl
  have f3 : DataW.trod enc Try.prog w 0 sp held n 9 (([v0, v1, v2, v3].drop 3).take (Try.prog.cellsOf 9)) = some y3 := hf 3 _ rfl
  clear hf hcl hxl h
  rw [cells3] at f0
  simp only [List.drop_zero, List.take_succ_cons, List.take_zero] at f0
  obtain ⟨a0, e0, rfl, w0⟩ := DataW.trod_int Try.underlying3 f0
  injection e0 with e0 _
  subst e0
  have w0 := wf64 w0
  rw [cells3] at f1
  simp only [List.drop_succ_cons, List.drop_zero, List.take_succ_cons, List.take_zero] at f1
  obtain ⟨a1, e1, rfl, w1⟩ := DataW.trod_int Try.underlying3 f1
  injection e1 with e1 _
  subst e1
  have w1 := wf64 w1
  rw [cells3] at f2
  simp only [List.drop_succ_cons, List.drop_zero, List.take_succ_cons, List.take_zero] at f2
  obtain ⟨a2, e2, rfl, w2⟩ := DataW.trod_int Try.underlying3 f2
  injection e2 with e2 _
  subst e2
  have w2 := wf64 w2
  rw [cells9] at f3
  simp only [List.drop_succ_cons, List.drop_zero, List.take_succ_cons, List.take_nil] at f3
  obtain ⟨a3, e3, rfl, _⟩ := DataW.trod_string Try.underlying9 f3
  injection e3 with e3 _
  subst e3
  clear f0 f1 f2 f3
  refine ⟨⟨a0, a1, a2, a3⟩, rfl, ⟨w1, w2⟩, ?_⟩
  have := dn_le w1
  have := dn_le w2
  simp only [wY, List.map_cons, List.map_nil, Rows.uptoBulk, Rows.uptoBulkAll]
  simp only [ByteArray.size, Array.length_toList]
  omega
set_option maxRecDepth 100000 in
theorem openV {fuel : Nat} {cs : List Value} {x : DataW H × List MemPlace} (h : DataW.trod enc Try.prog w 0 sp held fuel 54 cs = some x) : ∃ v : VT, VIn v cs ∧ wV v ≤ 24 * Rows.uptoBulk x.1 := by
  obtain ⟨xs, n, rfl, rfl, hcl, hxl, hf⟩ := DataW.trod_struct Try.underlying54 h
  rw [cells54] at hcl
  obtain ⟨v0, v1, v2, v3, v4, v5, v6, v7, rfl⟩ : ∃ v0 v1 v2 v3 v4 v5 v6 v7, cs = [v0, v1, v2, v3, v4, v5, v6, v7] := by
    match cs, hcl with
    | [v0, v1, v2, v3, v4, v5, v6, v7], _ => exact ⟨_, _, _, _, _, _, _, _, rfl⟩
  obtain ⟨y0, y1, y2, y3, y4, rfl⟩ : ∃ y0 y1 y2 y3 y4, xs = [y0, y1, y2, y3, y4] := by
    match xs, hxl with
    | [y0, y1, y2, y3, y4], _ => exact ⟨_, _, _, _, _, rfl⟩
  have f0 : DataW.trod enc Try.prog w 0 sp held n 9 (([v0, v1, v2, v3, v4, v5, v6, v7].drop 0).take (Try.prog.cellsOf 9)) = some y0 := hf 0 _ rfl
  have f1 : DataW.trod enc Try.prog w 0 sp held n 50 (([v0, v1, v2, v3, v4, v5, v6, v7].drop 1).take (Try.prog.cellsOf 50)) = some y1 := hf 1 _ rfl
  have f2 : DataW.trod enc Try.prog w 0 sp held n 3 (([v0, v1, v2, v3, v4, v5, v6, v7].drop 5).take (Try.prog.cellsOf 3)) = some y2 := hf 2 _ rfl
  have f3 : DataW.trod enc Try.prog w 0 sp held n 3 (([v0, v1, v2, v3, v4, v5, v6, v7].drop 6).take (Try.prog.cellsOf 3)) = some y3 := hf 3 _ rfl
  have f4 : DataW.trod enc Try.prog w 0 sp held n 3 (([v0, v1, v2, v3, v4, v5, v6, v7].drop 7).take (Try.prog.cellsOf 3)) = some y4 := hf 4 _ rfl
  clear hf hcl hxl h
  rw [cells9] at f0
  simp only [List.drop_zero, List.take_succ_cons, List.take_zero] at f0
  obtain ⟨a0, e0, rfl, _⟩ := DataW.trod_string Try.underlying9 f0
  injection e0 with e0 _
  subst e0
  rw [cells50] at f1
  simp only [List.drop_succ_cons, List.drop_zero, List.take_succ_cons, List.take_zero] at f1
  obtain ⟨t1, e1, k1, b1⟩ := openY f1
  injection e1 with d0 e1
  injection e1 with d1 e1
  injection e1 with d2 e1
  injection e1 with d3 _
  subst d0 d1 d2 d3
  rw [cells3] at f2
  simp only [List.drop_succ_cons, List.drop_zero, List.take_succ_cons, List.take_zero] at f2
  obtain ⟨a2, e2, rfl, w2⟩ := DataW.trod_int Try.underlying3 f2
  injection e2 with e2 _
  subst e2
  have w2 := wf64 w2
  rw [cells3] at f3
  simp only [List.drop_succ_cons, List.drop_zero, List.take_succ_cons, List.take_zero] at f3
  obtain ⟨a3, e3, rfl, w3⟩ := DataW.trod_int Try.underlying3 f3
  injection e3 with e3 _
  subst e3
  have w3 := wf64 w3
  rw [cells3] at f4
  simp only [List.drop_succ_cons, List.drop_zero, List.take_succ_cons, List.take_nil] at f4
  obtain ⟨a4, e4, rfl, w4⟩ := DataW.trod_int Try.underlying3 f4
  injection e4 with e4 _
  subst e4
  have w4 := wf64 w4
  clear f0 f1 f2 f3 f4
  refine ⟨⟨a0, t1, a2, a3, a4⟩, ⟨rfl, ⟨k1, w2, w4⟩⟩, ?_⟩
  have := dn_le w2
  have := dn_le w4
  simp only [wV, List.map_cons, List.map_nil, Rows.uptoBulk, Rows.uptoBulkAll]
  unfold wY at b1 ⊢
  simp only [ByteArray.size, Array.length_toList] at b1 ⊢
  omega
theorem openN {fuel : Nat} {cs : List Value} {x : DataW H × List MemPlace} (h : DataW.trod enc Try.prog w 0 sp held fuel 3 cs = some x) : ∃ n : Int, NIn n cs ∧ wN n ≤ 24 * Rows.uptoBulk x.1 := by
  obtain ⟨n, rfl, rfl, hw⟩ := DataW.trod_int Try.underlying3 h
  refine ⟨n, ⟨rfl, wf64 hw⟩, ?_⟩
  have := dn_le (wf64 hw)
  rw [bulk_int]
  unfold wN
  omega
theorem openX {fuel : Nat} {cs : List Value} {x : DataW H × List MemPlace} (h : DataW.trod enc Try.prog w 0 sp held fuel 9 cs = some x) : ∃ s : ByteArray, XIn s cs ∧ wX s ≤ 24 * Rows.uptoBulk x.1 := by
  obtain ⟨s, rfl, rfl, _⟩ := DataW.trod_string Try.underlying9 h
  refine ⟨s, rfl, ?_⟩
  rw [bulk_str]
  unfold wX
  omega
theorem openL {fuel : Nat} {cs : List Value} {x : DataW H × List MemPlace} (h : DataW.trod enc Try.prog w 0 sp held fuel 32 cs = some x) : ∃ l : List Int, LIn w w.heap.size l cs ∧ wL l ≤ 24 * Rows.uptoBulk x.1 := by
  obtain ⟨l, A, c, rfl, hr, hb, _⟩ := openRow (R := NIn) (wt := wN) Try.underlying32 cells3 (by decide) (fun n _ cs y hy => openN hy) h
  refine ⟨l, ⟨A, c, rfl, hr⟩, ?_⟩
  unfold wL
  omega
set_option maxRecDepth 100000 in
theorem openE : ∀ {fuel : Nat} {cs : List Value} {x : DataW H × List MemPlace} , DataW.trod enc Try.prog w 0 sp held fuel 66 cs = some x → ∃ e : ET, EIn w w.heap.size e cs ∧ wE e ≤ 24 * Rows.uptoBulk x.1 := by
  intro fuel
  induction fuel using Nat.strongRecOn with
  | _ fuel ih =>
    intro cs x h
    obtain ⟨xs, n, rfl, rfl, hcl, hxl, hf⟩ := DataW.trod_struct Try.underlying66 h
    rw [cells66] at hcl
    obtain ⟨v0, v1, v2, v3, v4, rfl⟩ : ∃ v0 v1 v2 v3 v4, cs = [v0, v1, v2, v3, v4] := by
      match cs, hcl with
      | [v0, v1, v2, v3, v4], _ => exact ⟨_, _, _, _, _, rfl⟩
    obtain ⟨y0, y1, y2, y3, y4, rfl⟩ : ∃ y0 y1 y2 y3 y4, xs = [y0, y1, y2, y3, y4] := by
      match xs, hxl with
      | [y0, y1, y2, y3, y4], _ => exact ⟨_, _, _, _, _, rfl⟩
    have f0 : DataW.trod enc Try.prog w 0 sp held n 3 (([v0, v1, v2, v3, v4].drop 0).take (Try.prog.cellsOf 3)) = some y0 := hf 0 _ rfl
    have f1 : DataW.trod enc Try.prog w 0 sp held n 3 (([v0, v1, v2, v3, v4].drop 1).take (Try.prog.cellsOf 3)) = some y1 := hf 1 _ rfl
    have f2 : DataW.trod enc Try.prog w 0 sp held n 9 (([v0, v1, v2, v3, v4].drop 2).take (Try.prog.cellsOf 9)) = some y2 := hf 2 _ rfl
    have f3 : DataW.trod enc Try.prog w 0 sp held n 9 (([v0, v1, v2, v3, v4].drop 3).take (Try.prog.cellsOf 9)) = some y3 := hf 3 _ rfl
    have f4 : DataW.trod enc Try.prog w 0 sp held n 64 (([v0, v1, v2, v3, v4].drop 4).take (Try.prog.cellsOf 64)) = some y4 := hf 4 _ rfl
    clear hf hcl hxl h
    rw [cells3] at f0
    simp only [List.drop_zero, List.take_succ_cons, List.take_zero] at f0
    obtain ⟨a0, e0, rfl, w0⟩ := DataW.trod_int Try.underlying3 f0
    injection e0 with e0 _
    subst e0
    have w0 := wf64 w0
    rw [cells3] at f1
    simp only [List.drop_succ_cons, List.drop_zero, List.take_succ_cons, List.take_zero] at f1
    obtain ⟨a1, e1, rfl, w1⟩ := DataW.trod_int Try.underlying3 f1
    injection e1 with e1 _
    subst e1
    have w1 := wf64 w1
    rw [cells9] at f2
    simp only [List.drop_succ_cons, List.drop_zero, List.take_succ_cons, List.take_zero] at f2
    obtain ⟨a2, e2, rfl, _⟩ := DataW.trod_string Try.underlying9 f2
    injection e2 with e2 _
    subst e2
    rw [cells9] at f3
    simp only [List.drop_succ_cons, List.drop_zero, List.take_succ_cons, List.take_zero] at f3
    obtain ⟨a3, e3, rfl, _⟩ := DataW.trod_string Try.underlying9 f3
    injection e3 with e3 _
    subst e3
    rw [cells64] at f4
    simp only [List.drop_succ_cons, List.drop_zero, List.take_succ_cons, List.take_nil] at f4
    obtain ⟨l4, A4, c4, e4, r4, b4, n4⟩ := openRow (R := EIn w w.heap.size) (wt := wE) Try.underlying64 cells66 (by decide) (fun m hm cs y hy => ih m (by omega) hy) f4
    injection e4 with e4 _
    subst e4
    clear f0 f1 f2 f3 f4
    refine ⟨.mk a0 a1 a2 a3 l4, EIn.of_form A4 c4 w1 r4, ?_⟩
    have := dn_le w1
    simp only [wE, wEs_sum, List.map_cons, List.map_nil, Rows.uptoBulk, Rows.uptoBulkAll]
    simp only [ByteArray.size, Array.length_toList]
    omega
set_option maxRecDepth 100000 in
theorem openS : ∀ {fuel : Nat} {cs : List Value} {x : DataW H × List MemPlace} , DataW.trod enc Try.prog w 0 sp held fuel 70 cs = some x → ∃ s : ST, SIn w w.heap.size s cs ∧ wS s ≤ 24 * Rows.uptoBulk x.1 := by
  intro fuel
  induction fuel using Nat.strongRecOn with
  | _ fuel ih =>
    intro cs x h
    obtain ⟨xs, n, rfl, rfl, hcl, hxl, hf⟩ := DataW.trod_struct Try.underlying70 h
    rw [cells70] at hcl
    obtain ⟨v0, v1, v2, v3, v4, v5, rfl⟩ : ∃ v0 v1 v2 v3 v4 v5, cs = [v0, v1, v2, v3, v4, v5] := by
      match cs, hcl with
      | [v0, v1, v2, v3, v4, v5], _ => exact ⟨_, _, _, _, _, _, rfl⟩
    obtain ⟨y0, y1, y2, y3, y4, y5, rfl⟩ : ∃ y0 y1 y2 y3 y4 y5, xs = [y0, y1, y2, y3, y4, y5] := by
      match xs, hxl with
      | [y0, y1, y2, y3, y4, y5], _ => exact ⟨_, _, _, _, _, _, rfl⟩
    have f0 : DataW.trod enc Try.prog w 0 sp held n 3 (([v0, v1, v2, v3, v4, v5].drop 0).take (Try.prog.cellsOf 3)) = some y0 := hf 0 _ rfl
    have f1 : DataW.trod enc Try.prog w 0 sp held n 3 (([v0, v1, v2, v3, v4, v5].drop 1).take (Try.prog.cellsOf 3)) = some y1 := hf 1 _ rfl
    have f2 : DataW.trod enc Try.prog w 0 sp held n 9 (([v0, v1, v2, v3, v4, v5].drop 2).take (Try.prog.cellsOf 9)) = some y2 := hf 2 _ rfl
    have f3 : DataW.trod enc Try.prog w 0 sp held n 64 (([v0, v1, v2, v3, v4, v5].drop 3).take (Try.prog.cellsOf 64)) = some y3 := hf 3 _ rfl
    have f4 : DataW.trod enc Try.prog w 0 sp held n 68 (([v0, v1, v2, v3, v4, v5].drop 4).take (Try.prog.cellsOf 68)) = some y4 := hf 4 _ rfl
    have f5 : DataW.trod enc Try.prog w 0 sp held n 67 (([v0, v1, v2, v3, v4, v5].drop 5).take (Try.prog.cellsOf 67)) = some y5 := hf 5 _ rfl
    clear hf hcl hxl h
    rw [cells3] at f0
    simp only [List.drop_zero, List.take_succ_cons, List.take_zero] at f0
    obtain ⟨a0, e0, rfl, w0⟩ := DataW.trod_int Try.underlying3 f0
    injection e0 with e0 _
    subst e0
    have w0 := wf64 w0
    rw [cells3] at f1
    simp only [List.drop_succ_cons, List.drop_zero, List.take_succ_cons, List.take_zero] at f1
    obtain ⟨a1, e1, rfl, w1⟩ := DataW.trod_int Try.underlying3 f1
    injection e1 with e1 _
    subst e1
    have w1 := wf64 w1
    rw [cells9] at f2
    simp only [List.drop_succ_cons, List.drop_zero, List.take_succ_cons, List.take_zero] at f2
    obtain ⟨a2, e2, rfl, _⟩ := DataW.trod_string Try.underlying9 f2
    injection e2 with e2 _
    subst e2
    rw [cells64] at f3
    simp only [List.drop_succ_cons, List.drop_zero, List.take_succ_cons, List.take_zero] at f3
    obtain ⟨l3, A3, c3, e3, r3, b3, n3⟩ := openRow (R := EIn w w.heap.size) (wt := wE) Try.underlying64 cells66 (by decide) (fun m hm cs y hy => openE hy) f3
    injection e3 with e3 _
    subst e3
    rw [cells68] at f4
    simp only [List.drop_succ_cons, List.drop_zero, List.take_succ_cons, List.take_zero] at f4
    obtain ⟨l4, A4, c4, e4, r4, b4, n4⟩ := openRow (R := LIn w w.heap.size) (wt := wL) Try.underlying68 cells32 (by decide) (fun m hm cs y hy => openL hy) f4
    injection e4 with e4 _
    subst e4
    rw [cells67] at f5
    simp only [List.drop_succ_cons, List.drop_zero, List.take_succ_cons, List.take_nil] at f5
    obtain ⟨l5, A5, c5, e5, r5, b5, n5⟩ := openRow (R := BIn w w.heap.size) (wt := fun b => 1 + wSs b) Try.underlying67 cells45 (by decide) (fun m hm cs y hy => by
      obtain ⟨l, A, c, rfl, hr, hb, _⟩ := openRow (R := SIn w w.heap.size) (wt := wS) Try.underlying45 cells70 (by decide) (fun m2 hm2 cs y hy => ih m2 (by omega) hy) hy
      exact ⟨l, ⟨A, c, rfl, hr⟩, by rw [wSs_sum]; omega⟩) f5
    injection e5 with e5 _
    subst e5
    clear f0 f1 f2 f3 f4 f5
    refine ⟨.mk a0 a1 a2 l3 l4 l5, SIn.of_form A3 A4 A5 c3 c4 c5 w1 r3 r4 r5, ?_⟩
    have := dn_le w1
    simp only [wS, wEs_sum, wBs_sum, List.map_cons, List.map_nil, Rows.uptoBulk, Rows.uptoBulkAll]
    simp only [ByteArray.size, Array.length_toList]
    omega
set_option maxRecDepth 100000 in
theorem openM {fuel : Nat} {cs : List Value} {x : DataW H × List MemPlace} (h : DataW.trod enc Try.prog w 0 sp held fuel 52 cs = some x) : ∃ m : MT, MIn w w.heap.size m cs ∧ wM m ≤ 24 * Rows.uptoBulk x.1 := by
  obtain ⟨xs, n, rfl, rfl, hcl, hxl, hf⟩ := DataW.trod_struct Try.underlying52 h
  rw [cells52] at hcl
  obtain ⟨v0, v1, v2, v3, v4, v5, v6, v7, v8, v9, v10, rfl⟩ : ∃ v0 v1 v2 v3 v4 v5 v6 v7 v8 v9 v10, cs = [v0, v1, v2, v3, v4, v5, v6, v7, v8, v9, v10] := by
    match cs, hcl with
    | [v0, v1, v2, v3, v4, v5, v6, v7, v8, v9, v10], _ => exact ⟨_, _, _, _, _, _, _, _, _, _, _, rfl⟩
  obtain ⟨y0, y1, y2, y3, y4, y5, y6, y7, rfl⟩ : ∃ y0 y1 y2 y3 y4 y5 y6 y7, xs = [y0, y1, y2, y3, y4, y5, y6, y7] := by
    match xs, hxl with
    | [y0, y1, y2, y3, y4, y5, y6, y7], _ => exact ⟨_, _, _, _, _, _, _, _, rfl⟩
  have f0 : DataW.trod enc Try.prog w 0 sp held n 9 (([v0, v1, v2, v3, v4, v5, v6, v7, v8, v9, v10].drop 0).take (Try.prog.cellsOf 9)) = some y0 := hf 0 _ rfl
  have f1 : DataW.trod enc Try.prog w 0 sp held n 4 (([v0, v1, v2, v3, v4, v5, v6, v7, v8, v9, v10].drop 1).take (Try.prog.cellsOf 4)) = some y1 := hf 1 _ rfl
  have f2 : DataW.trod enc Try.prog w 0 sp held n 4 (([v0, v1, v2, v3, v4, v5, v6, v7, v8, v9, v10].drop 2).take (Try.prog.cellsOf 4)) = some y2 := hf 2 _ rfl
  have f3 : DataW.trod enc Try.prog w 0 sp held n 4 (([v0, v1, v2, v3, v4, v5, v6, v7, v8, v9, v10].drop 3).take (Try.prog.cellsOf 4)) = some y3 := hf 3 _ rfl
  have f4 : DataW.trod enc Try.prog w 0 sp held n 34 (([v0, v1, v2, v3, v4, v5, v6, v7, v8, v9, v10].drop 4).take (Try.prog.cellsOf 34)) = some y4 := hf 4 _ rfl
  have f5 : DataW.trod enc Try.prog w 0 sp held n 50 (([v0, v1, v2, v3, v4, v5, v6, v7, v8, v9, v10].drop 5).take (Try.prog.cellsOf 50)) = some y5 := hf 5 _ rfl
  have f6 : DataW.trod enc Try.prog w 0 sp held n 34 (([v0, v1, v2, v3, v4, v5, v6, v7, v8, v9, v10].drop 9).take (Try.prog.cellsOf 34)) = some y6 := hf 6 _ rfl
  have f7 : DataW.trod enc Try.prog w 0 sp held n 45 (([v0, v1, v2, v3, v4, v5, v6, v7, v8, v9, v10].drop 10).take (Try.prog.cellsOf 45)) = some y7 := hf 7 _ rfl
  clear hf hcl hxl h
  rw [cells9] at f0
  simp only [List.drop_zero, List.take_succ_cons, List.take_zero] at f0
  obtain ⟨a0, e0, rfl, _⟩ := DataW.trod_string Try.underlying9 f0
  injection e0 with e0 _
  subst e0
  rw [cells4] at f1
  simp only [List.drop_succ_cons, List.drop_zero, List.take_succ_cons, List.take_zero] at f1
  obtain ⟨a1, e1, rfl⟩ := DataW.trod_bool Try.underlying4 f1
  injection e1 with e1 _
  subst e1
  rw [cells4] at f2
  simp only [List.drop_succ_cons, List.drop_zero, List.take_succ_cons, List.take_zero] at f2
  obtain ⟨a2, e2, rfl⟩ := DataW.trod_bool Try.underlying4 f2
  injection e2 with e2 _
  subst e2
  rw [cells4] at f3
  simp only [List.drop_succ_cons, List.drop_zero, List.take_succ_cons, List.take_zero] at f3
  obtain ⟨a3, e3, rfl⟩ := DataW.trod_bool Try.underlying4 f3
  injection e3 with e3 _
  subst e3
  rw [cells34] at f4
  simp only [List.drop_succ_cons, List.drop_zero, List.take_succ_cons, List.take_zero] at f4
  obtain ⟨l4, A4, c4, e4, r4, b4, n4⟩ := openRow (R := VIn) (wt := wV) Try.underlying34 cells54 (by decide) (fun m hm cs y hy => openV hy) f4
  injection e4 with e4 _
  subst e4
  rw [cells50] at f5
  simp only [List.drop_succ_cons, List.drop_zero, List.take_succ_cons, List.take_zero] at f5
  obtain ⟨t5, e5, k5, b5⟩ := openY f5
  injection e5 with d0 e5
  injection e5 with d1 e5
  injection e5 with d2 e5
  injection e5 with d3 _
  subst d0 d1 d2 d3
  rw [cells34] at f6
  simp only [List.drop_succ_cons, List.drop_zero, List.take_succ_cons, List.take_zero] at f6
  obtain ⟨l6, A6, c6, e6, r6, b6, n6⟩ := openRow (R := VIn) (wt := wV) Try.underlying34 cells54 (by decide) (fun m hm cs y hy => openV hy) f6
  injection e6 with e6 _
  subst e6
  rw [cells45] at f7
  simp only [List.drop_succ_cons, List.drop_zero, List.take_succ_cons, List.take_nil] at f7
  obtain ⟨l7, A7, c7, e7, r7, b7, n7⟩ := openRow (R := SIn w w.heap.size) (wt := wS) Try.underlying45 cells70 (by decide) (fun m hm cs y hy => openS hy) f7
  injection e7 with e7 _
  subst e7
  clear f0 f1 f2 f3 f4 f5 f6 f7
  refine ⟨⟨a0, a1, a2, a3, l4, t5, l6, l7⟩, ⟨A4, c4, A6, c6, A7, c7, rfl, k5, r4, r6, r7⟩, ?_⟩
  simp only [wM, wSs_sum, List.map_cons, List.map_nil, Rows.uptoBulk, Rows.uptoBulkAll]
  unfold wY at b5 ⊢
  simp only [ByteArray.size, Array.length_toList] at b5 ⊢
  omega
set_option maxRecDepth 100000 in
theorem openD {fuel : Nat} {cs : List Value} {x : DataW H × List MemPlace} (h : DataW.trod enc Try.prog w 0 sp held fuel 47 cs = some x) : ∃ d : DT, DIn w w.heap.size d cs ∧ wD d ≤ 24 * Rows.uptoBulk x.1 := by
  obtain ⟨xs, n, rfl, rfl, hcl, hxl, hf⟩ := DataW.trod_struct Try.underlying47 h
  rw [cells47] at hcl
  obtain ⟨v0, v1, v2, v3, v4, v5, v6, v7, v8, v9, v10, rfl⟩ : ∃ v0 v1 v2 v3 v4 v5 v6 v7 v8 v9 v10, cs = [v0, v1, v2, v3, v4, v5, v6, v7, v8, v9, v10] := by
    match cs, hcl with
    | [v0, v1, v2, v3, v4, v5, v6, v7, v8, v9, v10], _ => exact ⟨_, _, _, _, _, _, _, _, _, _, _, rfl⟩
  obtain ⟨y0, y1, y2, y3, y4, y5, y6, y7, y8, y9, y10, rfl⟩ : ∃ y0 y1 y2 y3 y4 y5 y6 y7 y8 y9 y10, xs = [y0, y1, y2, y3, y4, y5, y6, y7, y8, y9, y10] := by
    match xs, hxl with
    | [y0, y1, y2, y3, y4, y5, y6, y7, y8, y9, y10], _ => exact ⟨_, _, _, _, _, _, _, _, _, _, _, rfl⟩
  have f0 : DataW.trod enc Try.prog w 0 sp held n 3 (([v0, v1, v2, v3, v4, v5, v6, v7, v8, v9, v10].drop 0).take (Try.prog.cellsOf 3)) = some y0 := hf 0 _ rfl
  have f1 : DataW.trod enc Try.prog w 0 sp held n 9 (([v0, v1, v2, v3, v4, v5, v6, v7, v8, v9, v10].drop 1).take (Try.prog.cellsOf 9)) = some y1 := hf 1 _ rfl
  have f2 : DataW.trod enc Try.prog w 0 sp held n 9 (([v0, v1, v2, v3, v4, v5, v6, v7, v8, v9, v10].drop 2).take (Try.prog.cellsOf 9)) = some y2 := hf 2 _ rfl
  have f3 : DataW.trod enc Try.prog w 0 sp held n 43 (([v0, v1, v2, v3, v4, v5, v6, v7, v8, v9, v10].drop 3).take (Try.prog.cellsOf 43)) = some y3 := hf 3 _ rfl
  have f4 : DataW.trod enc Try.prog w 0 sp held n 4 (([v0, v1, v2, v3, v4, v5, v6, v7, v8, v9, v10].drop 4).take (Try.prog.cellsOf 4)) = some y4 := hf 4 _ rfl
  have f5 : DataW.trod enc Try.prog w 0 sp held n 4 (([v0, v1, v2, v3, v4, v5, v6, v7, v8, v9, v10].drop 5).take (Try.prog.cellsOf 4)) = some y5 := hf 5 _ rfl
  have f6 : DataW.trod enc Try.prog w 0 sp held n 34 (([v0, v1, v2, v3, v4, v5, v6, v7, v8, v9, v10].drop 6).take (Try.prog.cellsOf 34)) = some y6 := hf 6 _ rfl
  have f7 : DataW.trod enc Try.prog w 0 sp held n 44 (([v0, v1, v2, v3, v4, v5, v6, v7, v8, v9, v10].drop 7).take (Try.prog.cellsOf 44)) = some y7 := hf 7 _ rfl
  have f8 : DataW.trod enc Try.prog w 0 sp held n 45 (([v0, v1, v2, v3, v4, v5, v6, v7, v8, v9, v10].drop 8).take (Try.prog.cellsOf 45)) = some y8 := hf 8 _ rfl
  have f9 : DataW.trod enc Try.prog w 0 sp held n 3 (([v0, v1, v2, v3, v4, v5, v6, v7, v8, v9, v10].drop 9).take (Try.prog.cellsOf 3)) = some y9 := hf 9 _ rfl
  have f10 : DataW.trod enc Try.prog w 0 sp held n 3 (([v0, v1, v2, v3, v4, v5, v6, v7, v8, v9, v10].drop 10).take (Try.prog.cellsOf 3)) = some y10 := hf 10 _ rfl
  clear hf hcl hxl h
  rw [cells3] at f0
  simp only [List.drop_zero, List.take_succ_cons, List.take_zero] at f0
  obtain ⟨a0, e0, rfl, w0⟩ := DataW.trod_int Try.underlying3 f0
  injection e0 with e0 _
  subst e0
  have w0 := wf64 w0
  rw [cells9] at f1
  simp only [List.drop_succ_cons, List.drop_zero, List.take_succ_cons, List.take_zero] at f1
  obtain ⟨a1, e1, rfl, _⟩ := DataW.trod_string Try.underlying9 f1
  injection e1 with e1 _
  subst e1
  rw [cells9] at f2
  simp only [List.drop_succ_cons, List.drop_zero, List.take_succ_cons, List.take_zero] at f2
  obtain ⟨a2, e2, rfl, _⟩ := DataW.trod_string Try.underlying9 f2
  injection e2 with e2 _
  subst e2
  rw [cells43] at f3
  simp only [List.drop_succ_cons, List.drop_zero, List.take_succ_cons, List.take_zero] at f3
  obtain ⟨l3, A3, c3, e3, r3, b3, n3⟩ := openRow (R := XIn) (wt := wX) Try.underlying43 cells9 (by decide) (fun m hm cs y hy => openX hy) f3
  injection e3 with e3 _
  subst e3
  rw [cells4] at f4
  simp only [List.drop_succ_cons, List.drop_zero, List.take_succ_cons, List.take_zero] at f4
  obtain ⟨a4, e4, rfl⟩ := DataW.trod_bool Try.underlying4 f4
  injection e4 with e4 _
  subst e4
  rw [cells4] at f5
  simp only [List.drop_succ_cons, List.drop_zero, List.take_succ_cons, List.take_zero] at f5
  obtain ⟨a5, e5, rfl⟩ := DataW.trod_bool Try.underlying4 f5
  injection e5 with e5 _
  subst e5
  rw [cells34] at f6
  simp only [List.drop_succ_cons, List.drop_zero, List.take_succ_cons, List.take_zero] at f6
  obtain ⟨l6, A6, c6, e6, r6, b6, n6⟩ := openRow (R := VIn) (wt := wV) Try.underlying34 cells54 (by decide) (fun m hm cs y hy => openV hy) f6
  injection e6 with e6 _
  subst e6
  rw [cells44] at f7
  simp only [List.drop_succ_cons, List.drop_zero, List.take_succ_cons, List.take_zero] at f7
  obtain ⟨l7, A7, c7, e7, r7, b7, n7⟩ := openRow (R := MIn w w.heap.size) (wt := wM) Try.underlying44 cells52 (by decide) (fun m hm cs y hy => openM hy) f7
  injection e7 with e7 _
  subst e7
  rw [cells45] at f8
  simp only [List.drop_succ_cons, List.drop_zero, List.take_succ_cons, List.take_zero] at f8
  obtain ⟨l8, A8, c8, e8, r8, b8, n8⟩ := openRow (R := SIn w w.heap.size) (wt := wS) Try.underlying45 cells70 (by decide) (fun m hm cs y hy => openS hy) f8
  injection e8 with e8 _
  subst e8
  rw [cells3] at f9
  simp only [List.drop_succ_cons, List.drop_zero, List.take_succ_cons, List.take_zero] at f9
  obtain ⟨a9, e9, rfl, w9⟩ := DataW.trod_int Try.underlying3 f9
  injection e9 with e9 _
  subst e9
  have w9 := wf64 w9
  rw [cells3] at f10
  simp only [List.drop_succ_cons, List.drop_zero, List.take_succ_cons, List.take_nil] at f10
  obtain ⟨a10, e10, rfl, w10⟩ := DataW.trod_int Try.underlying3 f10
  injection e10 with e10 _
  subst e10
  have w10 := wf64 w10
  clear f0 f1 f2 f3 f4 f5 f6 f7 f8 f9 f10
  refine ⟨⟨a0, a1, a2, l3, a4, a5, l6, l7, l8, a9, a10⟩, ⟨A3, c3, A6, c6, A7, c7, A8, c8, rfl, w9, w10, r3, r6, r7, r8⟩, ?_⟩
  have := dn_le w9
  have := dn_le w10
  simp only [wD, wSs_sum, List.map_cons, List.map_nil, Rows.uptoBulk, Rows.uptoBulkAll]
  simp only [ByteArray.size, Array.length_toList]
  omega
set_option maxRecDepth 100000 in
theorem openU {fuel : Nat} {cs : List Value} {x : DataW H × List MemPlace} (h : DataW.trod enc Try.prog w 0 sp held fuel 24 cs = some x) : ∃ (L : List DT) (A : Option Addr) (c : Nat), cs = [.slice A L.length c] ∧ DsR w w.heap.size A L ∧ wU L ≤ 24 * Rows.uptoBulk x.1 ∧ (A = none → c = 0) := by
  obtain ⟨xs, n, rfl, rfl, hcl, hxl, hf⟩ := DataW.trod_struct Try.underlying24 h
  rw [cells24] at hcl
  obtain ⟨v0, rfl⟩ : ∃ v0, cs = [v0] := by
    match cs, hcl with
    | [v0], _ => exact ⟨_, rfl⟩
  obtain ⟨y0, rfl⟩ : ∃ y0, xs = [y0] := by
    match xs, hxl with
    | [y0], _ => exact ⟨_, rfl⟩
  have f0 : DataW.trod enc Try.prog w 0 sp held n 22 (([v0].drop 0).take (Try.prog.cellsOf 22)) = some y0 := hf 0 _ rfl
  clear hf hcl hxl h
  rw [cells22] at f0
  simp only [List.drop_zero, List.take_succ_cons, List.take_nil] at f0
  obtain ⟨l0, A0, c0, e0, r0, b0, n0⟩ := openRow (R := DIn w w.heap.size) (wt := wD) Try.underlying22 cells47 (by decide) (fun m hm cs y hy => openD hy) f0
  injection e0 with e0 _
  subst e0
  clear f0
  refine ⟨l0, A0, c0, rfl, r0, ?_, n0⟩
  simp only [wU, List.map_cons, List.map_nil, Rows.uptoBulk, Rows.uptoBulkAll]
  omega
end
end Go.Proofs.Ytkpieolmepngjaa
