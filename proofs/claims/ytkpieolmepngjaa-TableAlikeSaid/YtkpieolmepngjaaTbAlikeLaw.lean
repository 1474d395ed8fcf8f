/-
  TableAlike, the walk: whatever the two methods and the name, the law returns true.
-/
import Derived.Test.YtkpieolmepngjaaTbLawKit
import Derived.Deep.RegionHeld3
namespace Go.Proofs.Ytkpieolmepngjaa
open Go Go.RowKit
set_option linter.unusedVariables false
set_option linter.unusedSimpArgs false

theorem alikeT_self (a : MT) : alikeT a a = true := by simp [alikeT]
theorem alikeT_sym (a b : MT) : alikeT b a = alikeT a b := by
  unfold alikeT
  congr 1
  · exact decide_eq_decide.2 ⟨Eq.symm, Eq.symm⟩
  · exact decide_eq_decide.2 ⟨Eq.symm, Eq.symm⟩
theorem alikeT_types (a c : MT) (h1 : c.result = a.result) (h2 : c.params.map VT.type = a.params.map VT.type) : alikeT a c = true := by
  have h3 : a.params.map (fun v => v.type.tup) = c.params.map (fun v => v.type.tup) := by
    have := congrArg (List.map YT.tup) h2
    simpa [List.map_map, Function.comp_def] using this.symm
  unfold alikeT
  rw [h1, h3]
  simp
/-- a variable's name written over, its row of the call's own. -/
theorem VRow.rename {B g c : Nat} {W : World} {l : List VT} (h : VRow B W (some ⟨g, 0, none⟩) c l) {k : Nat} (hk : k < l.length) (nm : ByteArray) : VRow B (W.setCell ⟨g, k * 8, none⟩ (.string nm)) (some ⟨g, 0, none⟩) c (l.set k { l[k] with name := nm }) := by
  obtain ⟨xs, hx, hv⟩ := h
  refine ⟨xs.set (k * 8) (.string nm), by rw [List.length_set]; exact (hx.stored (k * 8) (.string nm)).1, fun j hj => ?_⟩
  have hj2 : j < l.length := by simpa using hj
  have hvj := hv j hj2
  have hxl : xs.length = l.length * 8 := hx.1
  have hkm : (k + 1) * 8 ≤ l.length * 8 := Nat.mul_le_mul_right _ hk
  have hjm : (j + 1) * 8 ≤ l.length * 8 := Nat.mul_le_mul_right _ hj2
  rw [List.getElem_set]
  by_cases hkj : k = j
  · subst hkj
    rw [if_pos rfl, List.drop_set, if_neg (by omega), Nat.sub_self, List.take_set, hvj.1]
    exact ⟨rfl, hvj.2⟩
  · rw [if_neg hkj, List.drop_set]
    split
    · exact hvj
    · have h1 : (k * 8 - j * 8) ≥ 8 := by
        have : (j + 1) * 8 ≤ k * 8 := Nat.mul_le_mul_right _ (by omega)
        omega
      have e := List.set_eq_of_length_le (l := List.take 8 (List.drop (j * 8) xs)) (i := k * 8 - j * 8) (a := Value.string nm) (by simp only [List.length_take]; omega)
      rw [List.take_set, e]
      exact hvj
/-- the row behind. -/
theorem VRow.own2 {B : Nat} {w : World} {A : Option Addr} {c : Nat} {l : List VT} (h : Hid (VRow B w A c l)) : Owned B w 54 8 A l.length c := by
  obtain ⟨xs, hx, _⟩ := h.out
  exact ⟨xs, hx⟩
/-- the boxes of the two methods. -/
structure QM (w : World) (ca cb : Array Value) (W : World) : Prop where
  below : Below w.heap.size w W
  ba : W.heap[w.heap.size]? = some (.cells ca 52 (0, 0))
  bb : W.heap[w.heap.size + 1]? = some (.cells cb 52 (0, 0))
theorem QM.size {w W : World} {ca cb : Array Value} (h : QM w ca cb W) : w.heap.size + 2 ≤ W.heap.size := by
  have := (Array.getElem?_eq_some_iff.1 h.bb).1; omega
theorem QM.step {w : World} {ca cb : Array Value} : ∀ W W', QM w ca cb W → Below W.heap.size W W' → QM w ca cb W' := fun W W' h k => ⟨h.below.trans (k.mono h.below.size), (k.block _ (by have := h.size; omega)).trans h.ba, (k.block _ (by have := h.size; omega)).trans h.bb⟩
theorem QM.step2 {w W W' : World} {ca cb : Array Value} (h : QM w ca cb W) (k : Below (w.heap.size + 2) W W') : QM w ca cb W' := ⟨h.below.trans (k.mono (by omega)), (k.block _ (by omega)).trans h.ba, (k.block _ (by omega)).trans h.bb⟩
theorem QM.a {w W : World} {ca cb : Array Value} (h : QM w ca cb W) {j : Nat} {v : Value} (hj : ca[j]? = some v) : W.cell? ⟨w.heap.size, j, none⟩ = some v := by rw [cell_of_row _ _ j _ _ _ h.ba]; exact hj
theorem QM.b {w W : World} {ca cb : Array Value} (h : QM w ca cb W) {j : Nat} {v : Value} (hj : cb[j]? = some v) : W.cell? ⟨w.heap.size + 1, j, none⟩ = some v := by rw [cell_of_row _ _ j _ _ _ h.bb]; exact hj

structure QL (w : World) (gc : Nat) (ca cb cc : Array Value) (B : Nat) (A5 : Option Addr) (c5 : Nat) (l : List VT) (W : World) : Prop where
  q : QM w ca cb W
  c : W.heap[gc]? = some (.cells cc 52 (0, 0))
  r : Hid (VRow B W A5 c5 l)
theorem QL.step {w : World} {gc : Nat} {ca cb cc : Array Value} {B : Nat} {A5 : Option Addr} {c5 : Nat} {l : List VT} : ∀ W W', QL w gc ca cb cc B A5 c5 l W → Below W.heap.size W W' → QL w gc ca cb cc B A5 c5 l W' := fun W W' h k => ⟨QM.step _ _ h.q k, (k.block _ (Array.getElem?_eq_some_iff.1 h.c).1).trans h.c, VRow.far h.r k⟩
theorem QL.drew {w : World} {gc : Nat} {ca cb cc : Array Value} {B : Nat} {A5 : Option Addr} {c5 : Nat} {l : List VT} {W : World} (h : Hid (QL w gc ca cb cc B A5 c5 l W)) : Hid (QL w gc ca cb cc B A5 c5 l W.drew) := ⟨⟨h.out.q.below.drew, h.out.q.ba, h.out.q.bb⟩, h.out.c, h.out.r⟩

set_option maxHeartbeats 8000000 in
set_option maxRecDepth 100000 in
theorem alike_walk (a b : MT) (A1 A2 A3 B1 B2 B3 : Option Addr) (c1 c2 c3 d1 d2 d3 : Nat) (nm : ByteArray) (w : World) (ha : VsR w w.heap.size A1 a.params) (hb : VsR w w.heap.size B1 b.params) (hna : a.params.length ≤ 1000000000) (hnb : b.params.length ≤ 1000000000) :
    Calls Try.prog 5 #[.agg (mcells a A1 A2 A3 c1 c2 c3), .agg (mcells b B1 B2 B3 d1 d2 d3), .string nm] w fun e w' => e = .returned (.bool true) ∧ Below w.heap.size w w' := by
  obtain ⟨R, hR⟩ : ∃ R : World, R = (w.alloc (.cells #[.string a.name, .bool a.over, .bool a.abstract, .bool a.final, .slice A1 a.params.length c1, .int .i64 a.result.kind, .int .i64 a.result.lo, .int .i64 a.result.hi, .string a.result.name, .slice A2 a.vars.length c2, .slice A3 a.body.length c3] 52)).alloc (.cells #[.string b.name, .bool b.over, .bool b.abstract, .bool b.final, .slice B1 b.params.length d1, .int .i64 b.result.kind, .int .i64 b.result.lo, .int .i64 b.result.hi, .string b.result.name, .slice B2 b.vars.length d2, .slice B3 b.body.length d3] 52) := ⟨_, rfl⟩
  have q0 : Hid (QM w #[.string a.name, .bool a.over, .bool a.abstract, .bool a.final, .slice A1 a.params.length c1, .int .i64 a.result.kind, .int .i64 a.result.lo, .int .i64 a.result.hi, .string a.result.name, .slice A2 a.vars.length c2, .slice A3 a.body.length c3] #[.string b.name, .bool b.over, .bool b.abstract, .bool b.final, .slice B1 b.params.length d1, .int .i64 b.result.kind, .int .i64 b.result.lo, .int .i64 b.result.hi, .string b.result.name, .slice B2 b.vars.length d2, .slice B3 b.body.length d3] R) := by
    rw [hR]
    refine ⟨((Below.refl _ _).alloc (Nat.le_refl _) _).alloc (by simp) _, ?_, ?_⟩
    · rw [Below.heap_alloc _ _ _ (by simp)]; exact heap_alloc_new w _
    · have := heap_alloc_new (w.alloc (.cells #[.string a.name, .bool a.over, .bool a.abstract, .bool a.final, .slice A1 a.params.length c1, .int .i64 a.result.kind, .int .i64 a.result.lo, .int .i64 a.result.hi, .string a.result.name, .slice A2 a.vars.length c2, .slice A3 a.body.length c3] 52)) (.cells #[.string b.name, .bool b.over, .bool b.abstract, .bool b.final, .slice B1 b.params.length d1, .int .i64 b.result.kind, .int .i64 b.result.lo, .int .i64 b.result.hi, .string b.result.name, .slice B2 b.vars.length d2, .slice B3 b.body.length d3] 52)
      simpa using this
  have sR0 : R.heap.size = w.heap.size + 2 := by rw [hR]; simp
  have sR := Lib.hid sR0
  clear sR0
  have RA : Hid (∀ W, Hid (QM w #[.string a.name, .bool a.over, .bool a.abstract, .bool a.final, .slice A1 a.params.length c1, .int .i64 a.result.kind, .int .i64 a.result.lo, .int .i64 a.result.hi, .string a.result.name, .slice A2 a.vars.length c2, .slice A3 a.body.length c3] #[.string b.name, .bool b.over, .bool b.abstract, .bool b.final, .slice B1 b.params.length d1, .int .i64 b.result.kind, .int .i64 b.result.lo, .int .i64 b.result.hi, .string b.result.name, .slice B2 b.vars.length d2, .slice B3 b.body.length d3] W) → VsR W W.heap.size A1 a.params) := fun W h => VsR.mono h.out.below.size h.out.below.block ha
  have RB : Hid (∀ W, Hid (QM w #[.string a.name, .bool a.over, .bool a.abstract, .bool a.final, .slice A1 a.params.length c1, .int .i64 a.result.kind, .int .i64 a.result.lo, .int .i64 a.result.hi, .string a.result.name, .slice A2 a.vars.length c2, .slice A3 a.body.length c3] #[.string b.name, .bool b.over, .bool b.abstract, .bool b.final, .slice B1 b.params.length d1, .int .i64 b.result.kind, .int .i64 b.result.lo, .int .i64 b.result.hi, .string b.result.name, .slice B2 b.vars.length d2, .slice B3 b.body.length d3] W) → VsR W W.heap.size B1 b.params) := fun W h => VsR.mono h.out.below.size h.out.below.block hb
  have KW : Hid (∀ W, Hid (QM w #[.string a.name, .bool a.over, .bool a.abstract, .bool a.final, .slice A1 a.params.length c1, .int .i64 a.result.kind, .int .i64 a.result.lo, .int .i64 a.result.hi, .string a.result.name, .slice A2 a.vars.length c2, .slice A3 a.body.length c3] #[.string b.name, .bool b.over, .bool b.abstract, .bool b.final, .slice B1 b.params.length d1, .int .i64 b.result.kind, .int .i64 b.result.lo, .int .i64 b.result.hi, .string b.result.name, .slice B2 b.vars.length d2, .slice B3 b.body.length d3] W) → Calls Try.prog 13 #[] W fun e w' => e = .returned (.bool true) ∧ Hid (QM w #[.string a.name, .bool a.over, .bool a.abstract, .bool a.final, .slice A1 a.params.length c1, .int .i64 a.result.kind, .int .i64 a.result.lo, .int .i64 a.result.hi, .string a.result.name, .slice A2 a.vars.length c2, .slice A3 a.body.length c3] #[.string b.name, .bool b.over, .bool b.abstract, .bool b.final, .slice B1 b.params.length d1, .int .i64 b.result.kind, .int .i64 b.result.lo, .int .i64 b.result.hi, .string b.result.name, .slice B2 b.vars.length d2, .slice B3 b.body.length d3] w') ∧ Hid (Below W.heap.size W w')) := fun W hq => q_awake QM.step W hq
  have HNA := Lib.hid hna
  have HNB := Lib.hid hnb
  have y4 := q0.out.a (j := 4) rfl
  have z4 := q0.out.b (j := 4) rfl
  clear ha hb hna hnb
  rw [hR] at y4 z4
  go_enter Try.func5, Try.ntmps5
  by_cases p1 : (5 : Int) < (a.params.length : Int)
  · skip
    go_wp2_with fail
    rw [← hR]
    refine (KW.out _ q0).mono ?_
    rintro e2 w2 ⟨rfl, q2, -⟩
    go_wp2_with fail
    go_ret
    exact ⟨rfl, q2.out.below⟩
  by_cases p2 : (5 : Int) < (b.params.length : Int)
  · skip
    go_wp2_with fail
    rw [← hR]
    refine (KW.out _ q0).mono ?_
    rintro e2 w2 ⟨rfl, q2, -⟩
    go_wp2_with fail
    go_ret
    exact ⟨rfl, q2.out.below⟩
  by_cases p3 : (60 : Int) < (nm.size : Int)
  · skip
    go_wp2_with fail
    rw [← hR]
    refine (KW.out _ q0).mono ?_
    rintro e2 w2 ⟨rfl, q2, -⟩
    go_wp2_with fail
    go_ret
    exact ⟨rfl, q2.out.below⟩
  have y0 := q0.out.a (j := 0) rfl
  have y1 := q0.out.a (j := 1) rfl
  have y2 := q0.out.a (j := 2) rfl
  have y3 := q0.out.a (j := 3) rfl
  have y4 := q0.out.a (j := 4) rfl
  have y5 := q0.out.a (j := 5) rfl
  have y6 := q0.out.a (j := 6) rfl
  have y7 := q0.out.a (j := 7) rfl
  have y8 := q0.out.a (j := 8) rfl
  have y9 := q0.out.a (j := 9) rfl
  have y10 := q0.out.a (j := 10) rfl
  rw [hR] at y0 y1 y2 y3 y4 y5 y6 y7 y8 y9 y10
  go_wp2_with fail
  rw [← hR]
  obtain ⟨gc, hgc⟩ : ∃ g, g = w.heap.size + 1 + 1 := ⟨_, rfl⟩
  obtain ⟨R1, hR1⟩ : ∃ R1, R1 = R.alloc (.cells #[.string a.name, .bool a.over, .bool a.abstract, .bool a.final, .slice A1 a.params.length c1, .int .i64 a.result.kind, .int .i64 a.result.lo, .int .i64 a.result.hi, .string a.result.name, .slice A2 a.vars.length c2, .slice A3 a.body.length c3] 52) := ⟨_, rfl⟩
  have hc1 : R1.heap[gc]? = some (.cells #[.string a.name, .bool a.over, .bool a.abstract, .bool a.final, .slice A1 a.params.length c1, .int .i64 a.result.kind, .int .i64 a.result.lo, .int .i64 a.result.hi, .string a.result.name, .slice A2 a.vars.length c2, .slice A3 a.body.length c3] 52 (0, 0)) := by rw [hR1, hgc, ← show R.heap.size = w.heap.size + 1 + 1 from sR.out]; exact heap_alloc_new R _
  have q1 : Hid (QM w #[.string a.name, .bool a.over, .bool a.abstract, .bool a.final, .slice A1 a.params.length c1, .int .i64 a.result.kind, .int .i64 a.result.lo, .int .i64 a.result.hi, .string a.result.name, .slice A2 a.vars.length c2, .slice A3 a.body.length c3] #[.string b.name, .bool b.over, .bool b.abstract, .bool b.final, .slice B1 b.params.length d1, .int .i64 b.result.kind, .int .i64 b.result.lo, .int .i64 b.result.hi, .string b.result.name, .slice B2 b.vars.length d2, .slice B3 b.body.length d3] R1) := by rw [hR1]; exact QM.step _ _ q0.out ((Below.refl _ _).alloc (Nat.le_refl _) _)
  have hne : w.heap.size ≠ gc := by omega
  have hgt : Hid (w.heap.size + 2 ≤ gc) := by rw [hgc]; exact Nat.le_refl _
  rw [← hR1, ← hgc]
  clear hR1 hgc q0 sR hR y0 y1 y2 y3 y4 y5 y6 y7 y8 y9 y10 z4
  have y1 := q1.out.a (j := 1) rfl
  have y2 := q1.out.a (j := 2) rfl
  have y3 := q1.out.a (j := 3) rfl
  have x0 : R1.cell? ⟨gc, 0, none⟩ = some (.string a.name) := by rw [cell_of_row _ _ 0 _ _ _ hc1]; rfl
  have x1 : R1.cell? ⟨gc, 1, none⟩ = some (.bool a.over) := by rw [cell_of_row _ _ 1 _ _ _ hc1]; rfl
  have x2 : R1.cell? ⟨gc, 2, none⟩ = some (.bool a.abstract) := by rw [cell_of_row _ _ 2 _ _ _ hc1]; rfl
  have x3 : R1.cell? ⟨gc, 3, none⟩ = some (.bool a.final) := by rw [cell_of_row _ _ 3 _ _ _ hc1]; rfl
  have f0 : R1.frozen? ⟨gc, 0, none⟩ = false := frozen_of_row _ _ 0 _ _ hc1
  have f1 : R1.frozen? ⟨gc, 1, none⟩ = false := frozen_of_row _ _ 1 _ _ hc1
  have f2 : R1.frozen? ⟨gc, 2, none⟩ = false := frozen_of_row _ _ 2 _ _ hc1
  have f3 : R1.frozen? ⟨gc, 3, none⟩ = false := frozen_of_row _ _ 3 _ _ hc1
  have HC1 := Lib.hid hc1
  clear hc1
  go_region_held3 (fun w' => w'.cell? ⟨w.heap.size, 1, none⟩ = some (.bool a.over) ∧ w'.cell? ⟨w.heap.size, 2, none⟩ = some (.bool a.abstract) ∧ w'.cell? ⟨w.heap.size, 3, none⟩ = some (.bool a.final)) (first | exact ⟨y1, y2, y3⟩ | (simp [go_sem, hne, y1, y2, y3]))
    (first | fail)
  obtain ⟨W4, hW4⟩ : ∃ W4, W4 = ((((R1.setCell ⟨gc, 0, none⟩ (.string nm)).setCell ⟨gc, 1, none⟩ (.bool (!a.over))).setCell ⟨gc, 2, none⟩ (.bool (!a.abstract))).setCell ⟨gc, 3, none⟩ (.bool (!a.final))).drew := ⟨_, rfl⟩
  have hc4 : W4.heap[gc]? = some (.cells #[.string nm, .bool (!a.over), .bool (!a.abstract), .bool (!a.final), .slice A1 a.params.length c1, .int .i64 a.result.kind, .int .i64 a.result.lo, .int .i64 a.result.hi, .string a.result.name, .slice A2 a.vars.length c2, .slice A3 a.body.length c3] 52 (0, 0)) := by
    have h0 : R1.heap[gc]? = some (.cells #[.string a.name, .bool a.over, .bool a.abstract, .bool a.final, .slice A1 a.params.length c1, .int .i64 a.result.kind, .int .i64 a.result.lo, .int .i64 a.result.hi, .string a.result.name, .slice A2 a.vars.length c2, .slice A3 a.body.length c3] 52 (0, 0)) := HC1.out
    rw [hW4]
    exact heap_set_cell (heap_set_cell (heap_set_cell (heap_set_cell h0 0 _) 1 _) 2 _) 3 _
  have q4 : Hid (QM w #[.string a.name, .bool a.over, .bool a.abstract, .bool a.final, .slice A1 a.params.length c1, .int .i64 a.result.kind, .int .i64 a.result.lo, .int .i64 a.result.hi, .string a.result.name, .slice A2 a.vars.length c2, .slice A3 a.body.length c3] #[.string b.name, .bool b.over, .bool b.abstract, .bool b.final, .slice B1 b.params.length d1, .int .i64 b.result.kind, .int .i64 b.result.lo, .int .i64 b.result.hi, .string b.result.name, .slice B2 b.vars.length d2, .slice B3 b.body.length d3] W4) := by
    rw [hW4]
    exact q1.out.step2 (((((Below.refl _ _).setCell (p := ⟨gc, 0, none⟩) hgt.out _).setCell (p := ⟨gc, 1, none⟩) hgt.out _).setCell (p := ⟨gc, 2, none⟩) hgt.out _).setCell (p := ⟨gc, 3, none⟩) hgt.out _).drew
  rw [← hW4]
  clear hW4 HC1 q1 y1 y2 y3 x0 x1 x2 x3 f0 f1 f2 f3 hne
  have y4 := q4.out.a (j := 4) rfl
  have x4 : W4.cell? ⟨gc, 4, none⟩ = some (.slice A1 a.params.length c1) := by rw [cell_of_row _ _ 4 _ _ _ hc4]; rfl
  have f4 : W4.frozen? ⟨gc, 4, none⟩ = false := frozen_of_row _ _ 4 _ _ hc4
  have gl : gc < W4.heap.size := (Array.getElem?_eq_some_iff.1 hc4).1
  have HC4 := Lib.hid hc4
  have AP : Hid (∃ v' w', (Builtin.append_ #[34, 34] 34 #[.slice none 0 0, .slice A1 a.params.length c1]).run Try.prog W4 = .ok v' w' ∧ ∃ A' c', v' = .slice A' a.params.length c' ∧ Hid (VRow W4.heap.size w' A' c' a.params) ∧ Hid (Below W4.heap.size W4 w') ∧ w'.cell? ⟨gc, 4, none⟩ = some (.slice A1 a.params.length c1) ∧ w'.frozen? ⟨gc, 4, none⟩ = false) := by
    obtain ⟨A', c', w', k1, k2, k3, _⟩ := app_vars (c1 := c1) (VRow.nil W4.heap.size W4) (RA.out _ q4) (by have := HNA.out; simp; omega) (Nat.le_refl _)
    rw [List.nil_append] at k1 k2
    have hcw : w'.heap[gc]? = some (.cells #[.string nm, .bool (!a.over), .bool (!a.abstract), .bool (!a.final), .slice A1 a.params.length c1, .int .i64 a.result.kind, .int .i64 a.result.lo, .int .i64 a.result.hi, .string a.result.name, .slice A2 a.vars.length c2, .slice A3 a.body.length c3] 52 (0, 0)) := (k3.block gc gl).trans HC4.out
    exact ⟨_, w', k1, A', c', rfl, k2, k3, by rw [cell_of_row _ _ 4 _ _ _ hcw]; rfl, frozen_of_row _ _ 4 _ _ hcw⟩
  clear hc4
  go_wp2_with (at_builtin; refine wpList_app rfl _ _ _ rfl _ _ rfl rfl (use2 AP.out ?_))
  rintro v5 w5 A5 c5 rfl hrow5 hb5 z5 g5
  have hc5 : Hid (w5.heap[gc]? = some (.cells #[.string nm, .bool (!a.over), .bool (!a.abstract), .bool (!a.final), .slice A1 a.params.length c1, .int .i64 a.result.kind, .int .i64 a.result.lo, .int .i64 a.result.hi, .string a.result.name, .slice A2 a.vars.length c2, .slice A3 a.body.length c3] 52 (0, 0))) := (hb5.out.block gc gl).trans HC4.out
  have q5 : Hid (QM w #[.string a.name, .bool a.over, .bool a.abstract, .bool a.final, .slice A1 a.params.length c1, .int .i64 a.result.kind, .int .i64 a.result.lo, .int .i64 a.result.hi, .string a.result.name, .slice A2 a.vars.length c2, .slice A3 a.body.length c3] #[.string b.name, .bool b.over, .bool b.abstract, .bool b.final, .slice B1 b.params.length d1, .int .i64 b.result.kind, .int .i64 b.result.lo, .int .i64 b.result.hi, .string b.result.name, .slice B2 b.vars.length d2, .slice B3 b.body.length d3] w5) := QM.step _ _ q4.out hb5.out
  have GL := Lib.hid gl
  clear AP y4 x4 f4 gl
  go_wp2_with fail
  obtain ⟨W6, hW6⟩ : ∃ W6, W6 = w5.setCell ⟨gc, 4, none⟩ (.slice A5 a.params.length c5) := ⟨_, rfl⟩
  have u6 : Hid (QL w gc #[.string a.name, .bool a.over, .bool a.abstract, .bool a.final, .slice A1 a.params.length c1, .int .i64 a.result.kind, .int .i64 a.result.lo, .int .i64 a.result.hi, .string a.result.name, .slice A2 a.vars.length c2, .slice A3 a.body.length c3] #[.string b.name, .bool b.over, .bool b.abstract, .bool b.final, .slice B1 b.params.length d1, .int .i64 b.result.kind, .int .i64 b.result.lo, .int .i64 b.result.hi, .string b.result.name, .slice B2 b.vars.length d2, .slice B3 b.body.length d3] #[.string nm, .bool (!a.over), .bool (!a.abstract), .bool (!a.final), .slice A5 a.params.length c5, .int .i64 a.result.kind, .int .i64 a.result.lo, .int .i64 a.result.hi, .string a.result.name, .slice A2 a.vars.length c2, .slice A3 a.body.length c3] W4.heap.size A5 c5 a.params W6) := by
    rw [hW6]
    refine ⟨q5.out.step2 ((Below.refl _ _).setCell (p := ⟨gc, 4, none⟩) hgt.out _), heap_set_cell hc5.out 4 _, ?_⟩
    obtain ⟨xs, h1, h2⟩ := hrow5.out
    exact ⟨xs, ownsRow_setCell_below h1 (by show gc < _; exact GL.out) _, h2⟩
  rw [← hW6]
  clear hW6 hc5 q5 hrow5 hb5 z5 g5 HC4 q4
  go_loopw [8] (fun i wr => ∃ k : Nat, k ≤ a.params.length ∧ i = .int .i64 k ∧ Hid (∃ l, l.map VT.type = a.params.map VT.type ∧ QL w gc #[.string a.name, .bool a.over, .bool a.abstract, .bool a.final, .slice A1 a.params.length c1, .int .i64 a.result.kind, .int .i64 a.result.lo, .int .i64 a.result.hi, .string a.result.name, .slice A2 a.vars.length c2, .slice A3 a.body.length c3] #[.string b.name, .bool b.over, .bool b.abstract, .bool b.final, .slice B1 b.params.length d1, .int .i64 b.result.kind, .int .i64 b.result.lo, .int .i64 b.result.hi, .string b.result.name, .slice B2 b.vars.length d2, .slice B3 b.body.length d3] #[.string nm, .bool (!a.over), .bool (!a.abstract), .bool (!a.final), .slice A5 a.params.length c5, .int .i64 a.result.kind, .int .i64 a.result.lo, .int .i64 a.result.hi, .string a.result.name, .slice A2 a.vars.length c2, .slice A3 a.body.length c3] W4.heap.size A5 c5 l wr)) (fun i _ => a.params.length - (intOf i).toNat)
  case atStart => exact ⟨0, Nat.zero_le _, rfl, _, rfl, u6.out⟩
  case round =>
    obtain ⟨k, hk, rfl, hl⟩ := hrel
    obtain ⟨l, hlt, hql⟩ := hl.out
    have hll : l.length = a.params.length := by have := congrArg List.length hlt; simpa using this
    have z0 : (0 : Int) ≤ (k : Int) := by omega
    have x4 : wr.cell? ⟨gc, 4, none⟩ = some (.slice A5 a.params.length c5) := by rw [cell_of_row _ _ 4 _ _ _ hql.c]; rfl
    have UL := Lib.hid hql
    have HLT := Lib.hid hlt
    have HLL := Lib.hid hll
    clear hql hlt hl u6
    by_cases hkl : k < a.params.length
    · have z1 : (k : Int) < (a.params.length : Int) := by omega
      obtain ⟨g, rfl, hg, hc, hf⟩ := (VRow.own2 UL.out.r).cell (by omega)
      obtain ⟨v, xk⟩ := hc (k * 8) (by omega)
      have fk := hf (k * 8)
      have u7 : Hid (∃ l, l.map VT.type = a.params.map VT.type ∧ QL w gc #[.string a.name, .bool a.over, .bool a.abstract, .bool a.final, .slice A1 a.params.length c1, .int .i64 a.result.kind, .int .i64 a.result.lo, .int .i64 a.result.hi, .string a.result.name, .slice A2 a.vars.length c2, .slice A3 a.body.length c3] #[.string b.name, .bool b.over, .bool b.abstract, .bool b.final, .slice B1 b.params.length d1, .int .i64 b.result.kind, .int .i64 b.result.lo, .int .i64 b.result.hi, .string b.result.name, .slice B2 b.vars.length d2, .slice B3 b.body.length d3] #[.string nm, .bool (!a.over), .bool (!a.abstract), .bool (!a.final), .slice (some ⟨g, 0, none⟩) a.params.length c5, .int .i64 a.result.kind, .int .i64 a.result.lo, .int .i64 a.result.hi, .string a.result.name, .slice A2 a.vars.length c2, .slice A3 a.body.length c3] W4.heap.size (some ⟨g, 0, none⟩) c5 l (wr.setCell ⟨g, k * 8, none⟩ (.string nm))) := by
        have hkl2 : k < l.length := by have := HLL.out; omega
        refine ⟨l.set k { l[k] with name := nm }, ?_, UL.out.q.step2 ((Below.refl _ _).setCell (p := ⟨g, k * 8, none⟩) (by show _ ≤ g; have h1 := GL.out; have h2 := hgt.out; omega) _), ?_, UL.out.r.out.rename hkl2 nm⟩
        · rw [← HLT.out, List.map_set]
          have h1 : (l.map VT.type)[k]'(by simpa using hkl2) = l[k].type := by simp
          show (l.map VT.type).set k l[k].type = _
          rw [← h1]
          exact List.set_getElem_self _
        · rw [Below.heap_setCell _ _ _ _ (by show gc ≠ g; have h1 := GL.out; omega)]
          exact UL.out.c
      clear hc hf hll UL HLT HLL
      go_wp2_with fail
      go_roundw
      case rel => exact ⟨k + 1, by omega, by go_num, u7⟩
      case measure => simp [intOf]; omega
    · have z1 : ¬ (k : Int) < (a.params.length : Int) := by omega
      go_wp2_with fail
      obtain ⟨W8, hW8⟩ : ∃ W, W = wr := ⟨_, rfl⟩
      subst hW8
      obtain ⟨ab, hab⟩ : ∃ x, x = alikeT a b := ⟨_, rfl⟩
      have HAB := Lib.hid hab
      clear hab hll x4
      have u8 : Hid (QL w gc #[.string a.name, .bool a.over, .bool a.abstract, .bool a.final, .slice A1 a.params.length c1, .int .i64 a.result.kind, .int .i64 a.result.lo, .int .i64 a.result.hi, .string a.result.name, .slice A2 a.vars.length c2, .slice A3 a.body.length c3] #[.string b.name, .bool b.over, .bool b.abstract, .bool b.final, .slice B1 b.params.length d1, .int .i64 b.result.kind, .int .i64 b.result.lo, .int .i64 b.result.hi, .string b.result.name, .slice B2 b.vars.length d2, .slice B3 b.body.length d3] #[.string nm, .bool (!a.over), .bool (!a.abstract), .bool (!a.final), .slice A5 a.params.length c5, .int .i64 a.result.kind, .int .i64 a.result.lo, .int .i64 a.result.hi, .string a.result.name, .slice A2 a.vars.length c2, .slice A3 a.body.length c3] W4.heap.size A5 c5 l W8) := UL
      have CE : Hid (∀ W, Hid (QL w gc #[.string a.name, .bool a.over, .bool a.abstract, .bool a.final, .slice A1 a.params.length c1, .int .i64 a.result.kind, .int .i64 a.result.lo, .int .i64 a.result.hi, .string a.result.name, .slice A2 a.vars.length c2, .slice A3 a.body.length c3] #[.string b.name, .bool b.over, .bool b.abstract, .bool b.final, .slice B1 b.params.length d1, .int .i64 b.result.kind, .int .i64 b.result.lo, .int .i64 b.result.hi, .string b.result.name, .slice B2 b.vars.length d2, .slice B3 b.body.length d3] #[.string nm, .bool (!a.over), .bool (!a.abstract), .bool (!a.final), .slice A5 a.params.length c5, .int .i64 a.result.kind, .int .i64 a.result.lo, .int .i64 a.result.hi, .string a.result.name, .slice A2 a.vars.length c2, .slice A3 a.body.length c3] W4.heap.size A5 c5 l W) → W.cell? ⟨w.heap.size, 0, none⟩ = some (.string a.name) ∧ W.cell? ⟨w.heap.size, 1, none⟩ = some (.bool a.over) ∧ W.cell? ⟨w.heap.size, 2, none⟩ = some (.bool a.abstract) ∧ W.cell? ⟨w.heap.size, 3, none⟩ = some (.bool a.final) ∧ W.cell? ⟨w.heap.size, 4, none⟩ = some (.slice A1 a.params.length c1) ∧ W.cell? ⟨w.heap.size, 5, none⟩ = some (.int .i64 a.result.kind) ∧ W.cell? ⟨w.heap.size, 6, none⟩ = some (.int .i64 a.result.lo) ∧ W.cell? ⟨w.heap.size, 7, none⟩ = some (.int .i64 a.result.hi) ∧ W.cell? ⟨w.heap.size, 8, none⟩ = some (.string a.result.name) ∧ W.cell? ⟨w.heap.size, 9, none⟩ = some (.slice A2 a.vars.length c2) ∧ W.cell? ⟨w.heap.size, 10, none⟩ = some (.slice A3 a.body.length c3) ∧ W.cell? ⟨w.heap.size + 1, 0, none⟩ = some (.string b.name) ∧ W.cell? ⟨w.heap.size + 1, 1, none⟩ = some (.bool b.over) ∧ W.cell? ⟨w.heap.size + 1, 2, none⟩ = some (.bool b.abstract) ∧ W.cell? ⟨w.heap.size + 1, 3, none⟩ = some (.bool b.final) ∧ W.cell? ⟨w.heap.size + 1, 4, none⟩ = some (.slice B1 b.params.length d1) ∧ W.cell? ⟨w.heap.size + 1, 5, none⟩ = some (.int .i64 b.result.kind) ∧ W.cell? ⟨w.heap.size + 1, 6, none⟩ = some (.int .i64 b.result.lo) ∧ W.cell? ⟨w.heap.size + 1, 7, none⟩ = some (.int .i64 b.result.hi) ∧ W.cell? ⟨w.heap.size + 1, 8, none⟩ = some (.string b.result.name) ∧ W.cell? ⟨w.heap.size + 1, 9, none⟩ = some (.slice B2 b.vars.length d2) ∧ W.cell? ⟨w.heap.size + 1, 10, none⟩ = some (.slice B3 b.body.length d3) ∧ W.cell? ⟨gc, 0, none⟩ = some (.string nm) ∧ W.cell? ⟨gc, 1, none⟩ = some (.bool (!a.over)) ∧ W.cell? ⟨gc, 2, none⟩ = some (.bool (!a.abstract)) ∧ W.cell? ⟨gc, 3, none⟩ = some (.bool (!a.final)) ∧ W.cell? ⟨gc, 4, none⟩ = some (.slice A5 a.params.length c5) ∧ W.cell? ⟨gc, 5, none⟩ = some (.int .i64 a.result.kind) ∧ W.cell? ⟨gc, 6, none⟩ = some (.int .i64 a.result.lo) ∧ W.cell? ⟨gc, 7, none⟩ = some (.int .i64 a.result.hi) ∧ W.cell? ⟨gc, 8, none⟩ = some (.string a.result.name) ∧ W.cell? ⟨gc, 9, none⟩ = some (.slice A2 a.vars.length c2) ∧ W.cell? ⟨gc, 10, none⟩ = some (.slice A3 a.body.length c3)) := fun W h => ⟨h.out.q.a rfl, h.out.q.a rfl, h.out.q.a rfl, h.out.q.a rfl, h.out.q.a rfl, h.out.q.a rfl, h.out.q.a rfl, h.out.q.a rfl, h.out.q.a rfl, h.out.q.a rfl, h.out.q.a rfl, h.out.q.b rfl, h.out.q.b rfl, h.out.q.b rfl, h.out.q.b rfl, h.out.q.b rfl, h.out.q.b rfl, h.out.q.b rfl, h.out.q.b rfl, h.out.q.b rfl, h.out.q.b rfl, h.out.q.b rfl, (by rw [cell_of_row _ _ 0 _ _ _ h.out.c]; rfl), (by rw [cell_of_row _ _ 1 _ _ _ h.out.c]; rfl), (by rw [cell_of_row _ _ 2 _ _ _ h.out.c]; rfl), (by rw [cell_of_row _ _ 3 _ _ _ h.out.c]; rfl), (by rw [cell_of_row _ _ 4 _ _ _ h.out.c]; rfl), (by rw [cell_of_row _ _ 5 _ _ _ h.out.c]; rfl), (by rw [cell_of_row _ _ 6 _ _ _ h.out.c]; rfl), (by rw [cell_of_row _ _ 7 _ _ _ h.out.c]; rfl), (by rw [cell_of_row _ _ 8 _ _ _ h.out.c]; rfl), (by rw [cell_of_row _ _ 9 _ _ _ h.out.c]; rfl), (by rw [cell_of_row _ _ 10 _ _ _ h.out.c]; rfl)⟩
      have QS : Hid (∀ W W', Hid (QL w gc #[.string a.name, .bool a.over, .bool a.abstract, .bool a.final, .slice A1 a.params.length c1, .int .i64 a.result.kind, .int .i64 a.result.lo, .int .i64 a.result.hi, .string a.result.name, .slice A2 a.vars.length c2, .slice A3 a.body.length c3] #[.string b.name, .bool b.over, .bool b.abstract, .bool b.final, .slice B1 b.params.length d1, .int .i64 b.result.kind, .int .i64 b.result.lo, .int .i64 b.result.hi, .string b.result.name, .slice B2 b.vars.length d2, .slice B3 b.body.length d3] #[.string nm, .bool (!a.over), .bool (!a.abstract), .bool (!a.final), .slice A5 a.params.length c5, .int .i64 a.result.kind, .int .i64 a.result.lo, .int .i64 a.result.hi, .string a.result.name, .slice A2 a.vars.length c2, .slice A3 a.body.length c3] W4.heap.size A5 c5 l W) → Below W.heap.size W W' → Hid (QL w gc #[.string a.name, .bool a.over, .bool a.abstract, .bool a.final, .slice A1 a.params.length c1, .int .i64 a.result.kind, .int .i64 a.result.lo, .int .i64 a.result.hi, .string a.result.name, .slice A2 a.vars.length c2, .slice A3 a.body.length c3] #[.string b.name, .bool b.over, .bool b.abstract, .bool b.final, .slice B1 b.params.length d1, .int .i64 b.result.kind, .int .i64 b.result.lo, .int .i64 b.result.hi, .string b.result.name, .slice B2 b.vars.length d2, .slice B3 b.body.length d3] #[.string nm, .bool (!a.over), .bool (!a.abstract), .bool (!a.final), .slice A5 a.params.length c5, .int .i64 a.result.kind, .int .i64 a.result.lo, .int .i64 a.result.hi, .string a.result.name, .slice A2 a.vars.length c2, .slice A3 a.body.length c3] W4.heap.size A5 c5 l W')) := fun W W' h k => QL.step W W' h.out k
      have KAB : Hid (∀ W, Hid (QL w gc #[.string a.name, .bool a.over, .bool a.abstract, .bool a.final, .slice A1 a.params.length c1, .int .i64 a.result.kind, .int .i64 a.result.lo, .int .i64 a.result.hi, .string a.result.name, .slice A2 a.vars.length c2, .slice A3 a.body.length c3] #[.string b.name, .bool b.over, .bool b.abstract, .bool b.final, .slice B1 b.params.length d1, .int .i64 b.result.kind, .int .i64 b.result.lo, .int .i64 b.result.hi, .string b.result.name, .slice B2 b.vars.length d2, .slice B3 b.body.length d3] #[.string nm, .bool (!a.over), .bool (!a.abstract), .bool (!a.final), .slice A5 a.params.length c5, .int .i64 a.result.kind, .int .i64 a.result.lo, .int .i64 a.result.hi, .string a.result.name, .slice A2 a.vars.length c2, .slice A3 a.body.length c3] W4.heap.size A5 c5 l W) → Calls Try.prog 31 #[.agg #[.string a.name, .bool a.over, .bool a.abstract, .bool a.final, .slice A1 a.params.length c1, .int .i64 a.result.kind, .int .i64 a.result.lo, .int .i64 a.result.hi, .string a.result.name, .slice A2 a.vars.length c2, .slice A3 a.body.length c3], .agg #[.string b.name, .bool b.over, .bool b.abstract, .bool b.final, .slice B1 b.params.length d1, .int .i64 b.result.kind, .int .i64 b.result.lo, .int .i64 b.result.hi, .string b.result.name, .slice B2 b.vars.length d2, .slice B3 b.body.length d3]] W fun e w' => e = .returned (.bool ab) ∧ Hid (QL w gc #[.string a.name, .bool a.over, .bool a.abstract, .bool a.final, .slice A1 a.params.length c1, .int .i64 a.result.kind, .int .i64 a.result.lo, .int .i64 a.result.hi, .string a.result.name, .slice A2 a.vars.length c2, .slice A3 a.body.length c3] #[.string b.name, .bool b.over, .bool b.abstract, .bool b.final, .slice B1 b.params.length d1, .int .i64 b.result.kind, .int .i64 b.result.lo, .int .i64 b.result.hi, .string b.result.name, .slice B2 b.vars.length d2, .slice B3 b.body.length d3] #[.string nm, .bool (!a.over), .bool (!a.abstract), .bool (!a.final), .slice A5 a.params.length c5, .int .i64 a.result.kind, .int .i64 a.result.lo, .int .i64 a.result.hi, .string a.result.name, .slice A2 a.vars.length c2, .slice A3 a.body.length c3] W4.heap.size A5 c5 l w')) := fun W h => (Alike_any a b A1 A2 A3 B1 B2 B3 c1 c2 c3 d1 d2 d3 W (RA.out _ (Lib.hid h.out.q)) (RB.out _ (Lib.hid h.out.q)) HNA.out).mono fun e w' hh => ⟨by rw [hh.1, HAB.out], QS.out _ _ h hh.2⟩
      have KRB : Hid (∀ W, Hid (QL w gc #[.string a.name, .bool a.over, .bool a.abstract, .bool a.final, .slice A1 a.params.length c1, .int .i64 a.result.kind, .int .i64 a.result.lo, .int .i64 a.result.hi, .string a.result.name, .slice A2 a.vars.length c2, .slice A3 a.body.length c3] #[.string b.name, .bool b.over, .bool b.abstract, .bool b.final, .slice B1 b.params.length d1, .int .i64 b.result.kind, .int .i64 b.result.lo, .int .i64 b.result.hi, .string b.result.name, .slice B2 b.vars.length d2, .slice B3 b.body.length d3] #[.string nm, .bool (!a.over), .bool (!a.abstract), .bool (!a.final), .slice A5 a.params.length c5, .int .i64 a.result.kind, .int .i64 a.result.lo, .int .i64 a.result.hi, .string a.result.name, .slice A2 a.vars.length c2, .slice A3 a.body.length c3] W4.heap.size A5 c5 l W) → Calls Try.prog 32 #[.agg #[.string a.name, .bool a.over, .bool a.abstract, .bool a.final, .slice A1 a.params.length c1, .int .i64 a.result.kind, .int .i64 a.result.lo, .int .i64 a.result.hi, .string a.result.name, .slice A2 a.vars.length c2, .slice A3 a.body.length c3], .agg #[.string b.name, .bool b.over, .bool b.abstract, .bool b.final, .slice B1 b.params.length d1, .int .i64 b.result.kind, .int .i64 b.result.lo, .int .i64 b.result.hi, .string b.result.name, .slice B2 b.vars.length d2, .slice B3 b.body.length d3]] W fun e w' => e = .returned (.bool ab) ∧ Hid (QL w gc #[.string a.name, .bool a.over, .bool a.abstract, .bool a.final, .slice A1 a.params.length c1, .int .i64 a.result.kind, .int .i64 a.result.lo, .int .i64 a.result.hi, .string a.result.name, .slice A2 a.vars.length c2, .slice A3 a.body.length c3] #[.string b.name, .bool b.over, .bool b.abstract, .bool b.final, .slice B1 b.params.length d1, .int .i64 b.result.kind, .int .i64 b.result.lo, .int .i64 b.result.hi, .string b.result.name, .slice B2 b.vars.length d2, .slice B3 b.body.length d3] #[.string nm, .bool (!a.over), .bool (!a.abstract), .bool (!a.final), .slice A5 a.params.length c5, .int .i64 a.result.kind, .int .i64 a.result.lo, .int .i64 a.result.hi, .string a.result.name, .slice A2 a.vars.length c2, .slice A3 a.body.length c3] W4.heap.size A5 c5 l w')) := fun W h => (refAlike_any a b A1 A2 A3 B1 B2 B3 c1 c2 c3 d1 d2 d3 W (RA.out _ (Lib.hid h.out.q)) (RB.out _ (Lib.hid h.out.q)) HNA.out).mono fun e w' hh => ⟨by rw [hh.1, HAB.out], QS.out _ _ h hh.2⟩
      have KBA : Hid (∀ W, Hid (QL w gc #[.string a.name, .bool a.over, .bool a.abstract, .bool a.final, .slice A1 a.params.length c1, .int .i64 a.result.kind, .int .i64 a.result.lo, .int .i64 a.result.hi, .string a.result.name, .slice A2 a.vars.length c2, .slice A3 a.body.length c3] #[.string b.name, .bool b.over, .bool b.abstract, .bool b.final, .slice B1 b.params.length d1, .int .i64 b.result.kind, .int .i64 b.result.lo, .int .i64 b.result.hi, .string b.result.name, .slice B2 b.vars.length d2, .slice B3 b.body.length d3] #[.string nm, .bool (!a.over), .bool (!a.abstract), .bool (!a.final), .slice A5 a.params.length c5, .int .i64 a.result.kind, .int .i64 a.result.lo, .int .i64 a.result.hi, .string a.result.name, .slice A2 a.vars.length c2, .slice A3 a.body.length c3] W4.heap.size A5 c5 l W) → Calls Try.prog 31 #[.agg #[.string b.name, .bool b.over, .bool b.abstract, .bool b.final, .slice B1 b.params.length d1, .int .i64 b.result.kind, .int .i64 b.result.lo, .int .i64 b.result.hi, .string b.result.name, .slice B2 b.vars.length d2, .slice B3 b.body.length d3], .agg #[.string a.name, .bool a.over, .bool a.abstract, .bool a.final, .slice A1 a.params.length c1, .int .i64 a.result.kind, .int .i64 a.result.lo, .int .i64 a.result.hi, .string a.result.name, .slice A2 a.vars.length c2, .slice A3 a.body.length c3]] W fun e w' => e = .returned (.bool ab) ∧ Hid (QL w gc #[.string a.name, .bool a.over, .bool a.abstract, .bool a.final, .slice A1 a.params.length c1, .int .i64 a.result.kind, .int .i64 a.result.lo, .int .i64 a.result.hi, .string a.result.name, .slice A2 a.vars.length c2, .slice A3 a.body.length c3] #[.string b.name, .bool b.over, .bool b.abstract, .bool b.final, .slice B1 b.params.length d1, .int .i64 b.result.kind, .int .i64 b.result.lo, .int .i64 b.result.hi, .string b.result.name, .slice B2 b.vars.length d2, .slice B3 b.body.length d3] #[.string nm, .bool (!a.over), .bool (!a.abstract), .bool (!a.final), .slice A5 a.params.length c5, .int .i64 a.result.kind, .int .i64 a.result.lo, .int .i64 a.result.hi, .string a.result.name, .slice A2 a.vars.length c2, .slice A3 a.body.length c3] W4.heap.size A5 c5 l w')) := fun W h => (Alike_any b a B1 B2 B3 A1 A2 A3 d1 d2 d3 c1 c2 c3 W (RB.out _ (Lib.hid h.out.q)) (RA.out _ (Lib.hid h.out.q)) HNB.out).mono fun e w' hh => ⟨by rw [hh.1, HAB.out, alikeT_sym], QS.out _ _ h hh.2⟩
      have KAA : Hid (∀ W, Hid (QL w gc #[.string a.name, .bool a.over, .bool a.abstract, .bool a.final, .slice A1 a.params.length c1, .int .i64 a.result.kind, .int .i64 a.result.lo, .int .i64 a.result.hi, .string a.result.name, .slice A2 a.vars.length c2, .slice A3 a.body.length c3] #[.string b.name, .bool b.over, .bool b.abstract, .bool b.final, .slice B1 b.params.length d1, .int .i64 b.result.kind, .int .i64 b.result.lo, .int .i64 b.result.hi, .string b.result.name, .slice B2 b.vars.length d2, .slice B3 b.body.length d3] #[.string nm, .bool (!a.over), .bool (!a.abstract), .bool (!a.final), .slice A5 a.params.length c5, .int .i64 a.result.kind, .int .i64 a.result.lo, .int .i64 a.result.hi, .string a.result.name, .slice A2 a.vars.length c2, .slice A3 a.body.length c3] W4.heap.size A5 c5 l W) → Calls Try.prog 31 #[.agg #[.string a.name, .bool a.over, .bool a.abstract, .bool a.final, .slice A1 a.params.length c1, .int .i64 a.result.kind, .int .i64 a.result.lo, .int .i64 a.result.hi, .string a.result.name, .slice A2 a.vars.length c2, .slice A3 a.body.length c3], .agg #[.string a.name, .bool a.over, .bool a.abstract, .bool a.final, .slice A1 a.params.length c1, .int .i64 a.result.kind, .int .i64 a.result.lo, .int .i64 a.result.hi, .string a.result.name, .slice A2 a.vars.length c2, .slice A3 a.body.length c3]] W fun e w' => e = .returned (.bool true) ∧ Hid (QL w gc #[.string a.name, .bool a.over, .bool a.abstract, .bool a.final, .slice A1 a.params.length c1, .int .i64 a.result.kind, .int .i64 a.result.lo, .int .i64 a.result.hi, .string a.result.name, .slice A2 a.vars.length c2, .slice A3 a.body.length c3] #[.string b.name, .bool b.over, .bool b.abstract, .bool b.final, .slice B1 b.params.length d1, .int .i64 b.result.kind, .int .i64 b.result.lo, .int .i64 b.result.hi, .string b.result.name, .slice B2 b.vars.length d2, .slice B3 b.body.length d3] #[.string nm, .bool (!a.over), .bool (!a.abstract), .bool (!a.final), .slice A5 a.params.length c5, .int .i64 a.result.kind, .int .i64 a.result.lo, .int .i64 a.result.hi, .string a.result.name, .slice A2 a.vars.length c2, .slice A3 a.body.length c3] W4.heap.size A5 c5 l w')) := fun W h => (Alike_any a a A1 A2 A3 A1 A2 A3 c1 c2 c3 c1 c2 c3 W (RA.out _ (Lib.hid h.out.q)) (RA.out _ (Lib.hid h.out.q)) HNA.out).mono fun e w' hh => ⟨by rw [hh.1, alikeT_self], QS.out _ _ h hh.2⟩
      have KAC : Hid (∀ W, Hid (QL w gc #[.string a.name, .bool a.over, .bool a.abstract, .bool a.final, .slice A1 a.params.length c1, .int .i64 a.result.kind, .int .i64 a.result.lo, .int .i64 a.result.hi, .string a.result.name, .slice A2 a.vars.length c2, .slice A3 a.body.length c3] #[.string b.name, .bool b.over, .bool b.abstract, .bool b.final, .slice B1 b.params.length d1, .int .i64 b.result.kind, .int .i64 b.result.lo, .int .i64 b.result.hi, .string b.result.name, .slice B2 b.vars.length d2, .slice B3 b.body.length d3] #[.string nm, .bool (!a.over), .bool (!a.abstract), .bool (!a.final), .slice A5 a.params.length c5, .int .i64 a.result.kind, .int .i64 a.result.lo, .int .i64 a.result.hi, .string a.result.name, .slice A2 a.vars.length c2, .slice A3 a.body.length c3] W4.heap.size A5 c5 l W) → Calls Try.prog 31 #[.agg #[.string a.name, .bool a.over, .bool a.abstract, .bool a.final, .slice A1 a.params.length c1, .int .i64 a.result.kind, .int .i64 a.result.lo, .int .i64 a.result.hi, .string a.result.name, .slice A2 a.vars.length c2, .slice A3 a.body.length c3], .agg #[.string nm, .bool (!a.over), .bool (!a.abstract), .bool (!a.final), .slice A5 a.params.length c5, .int .i64 a.result.kind, .int .i64 a.result.lo, .int .i64 a.result.hi, .string a.result.name, .slice A2 a.vars.length c2, .slice A3 a.body.length c3]] W fun e w' => e = .returned (.bool true) ∧ Hid (QL w gc #[.string a.name, .bool a.over, .bool a.abstract, .bool a.final, .slice A1 a.params.length c1, .int .i64 a.result.kind, .int .i64 a.result.lo, .int .i64 a.result.hi, .string a.result.name, .slice A2 a.vars.length c2, .slice A3 a.body.length c3] #[.string b.name, .bool b.over, .bool b.abstract, .bool b.final, .slice B1 b.params.length d1, .int .i64 b.result.kind, .int .i64 b.result.lo, .int .i64 b.result.hi, .string b.result.name, .slice B2 b.vars.length d2, .slice B3 b.body.length d3] #[.string nm, .bool (!a.over), .bool (!a.abstract), .bool (!a.final), .slice A5 a.params.length c5, .int .i64 a.result.kind, .int .i64 a.result.lo, .int .i64 a.result.hi, .string a.result.name, .slice A2 a.vars.length c2, .slice A3 a.body.length c3] W4.heap.size A5 c5 l w')) := fun W h => by
        have K := (Alike_any a ⟨nm, !a.over, !a.abstract, !a.final, l, a.result, a.vars, a.body⟩ A1 A2 A3 A5 A2 A3 c1 c2 c3 c5 c2 c3 W (RA.out _ (Lib.hid h.out.q)) (VRow.vsr h.out.r.out) HNA.out)
        have e1 : alikeT a ⟨nm, !a.over, !a.abstract, !a.final, l, a.result, a.vars, a.body⟩ = true := alikeT_types _ _ rfl HLT.out
        rw [e1] at K
        unfold mcells at K
        rw [HLL.out] at K
        exact K.mono fun e w' hh => ⟨hh.1, QS.out _ _ h hh.2⟩
      have KWL : Hid (∀ W, Hid (QL w gc #[.string a.name, .bool a.over, .bool a.abstract, .bool a.final, .slice A1 a.params.length c1, .int .i64 a.result.kind, .int .i64 a.result.lo, .int .i64 a.result.hi, .string a.result.name, .slice A2 a.vars.length c2, .slice A3 a.body.length c3] #[.string b.name, .bool b.over, .bool b.abstract, .bool b.final, .slice B1 b.params.length d1, .int .i64 b.result.kind, .int .i64 b.result.lo, .int .i64 b.result.hi, .string b.result.name, .slice B2 b.vars.length d2, .slice B3 b.body.length d3] #[.string nm, .bool (!a.over), .bool (!a.abstract), .bool (!a.final), .slice A5 a.params.length c5, .int .i64 a.result.kind, .int .i64 a.result.lo, .int .i64 a.result.hi, .string a.result.name, .slice A2 a.vars.length c2, .slice A3 a.body.length c3] W4.heap.size A5 c5 l W) → Calls Try.prog 13 #[] W fun e w' => e = .returned (.bool true) ∧ Hid (QL w gc #[.string a.name, .bool a.over, .bool a.abstract, .bool a.final, .slice A1 a.params.length c1, .int .i64 a.result.kind, .int .i64 a.result.lo, .int .i64 a.result.hi, .string a.result.name, .slice A2 a.vars.length c2, .slice A3 a.body.length c3] #[.string b.name, .bool b.over, .bool b.abstract, .bool b.final, .slice B1 b.params.length d1, .int .i64 b.result.kind, .int .i64 b.result.lo, .int .i64 b.result.hi, .string b.result.name, .slice B2 b.vars.length d2, .slice B3 b.body.length d3] #[.string nm, .bool (!a.over), .bool (!a.abstract), .bool (!a.final), .slice A5 a.params.length c5, .int .i64 a.result.kind, .int .i64 a.result.lo, .int .i64 a.result.hi, .string a.result.name, .slice A2 a.vars.length c2, .slice A3 a.body.length c3] W4.heap.size A5 c5 l w')) := fun W h => (awake_any W).mono fun e w' hh => ⟨hh.1, QS.out _ _ h hh.2⟩
      have s8 := CE.out _ u8
      go_region_held3 (fun w' => w'.cell? ⟨w.heap.size, 0, none⟩ = some (.string a.name) ∧ w'.cell? ⟨w.heap.size, 1, none⟩ = some (.bool a.over) ∧ w'.cell? ⟨w.heap.size, 2, none⟩ = some (.bool a.abstract) ∧ w'.cell? ⟨w.heap.size, 3, none⟩ = some (.bool a.final) ∧ w'.cell? ⟨w.heap.size, 4, none⟩ = some (.slice A1 a.params.length c1) ∧ w'.cell? ⟨w.heap.size, 5, none⟩ = some (.int .i64 a.result.kind) ∧ w'.cell? ⟨w.heap.size, 6, none⟩ = some (.int .i64 a.result.lo) ∧ w'.cell? ⟨w.heap.size, 7, none⟩ = some (.int .i64 a.result.hi) ∧ w'.cell? ⟨w.heap.size, 8, none⟩ = some (.string a.result.name) ∧ w'.cell? ⟨w.heap.size, 9, none⟩ = some (.slice A2 a.vars.length c2) ∧ w'.cell? ⟨w.heap.size, 10, none⟩ = some (.slice A3 a.body.length c3) ∧ w'.cell? ⟨w.heap.size + 1, 0, none⟩ = some (.string b.name) ∧ w'.cell? ⟨w.heap.size + 1, 1, none⟩ = some (.bool b.over) ∧ w'.cell? ⟨w.heap.size + 1, 2, none⟩ = some (.bool b.abstract) ∧ w'.cell? ⟨w.heap.size + 1, 3, none⟩ = some (.bool b.final) ∧ w'.cell? ⟨w.heap.size + 1, 4, none⟩ = some (.slice B1 b.params.length d1) ∧ w'.cell? ⟨w.heap.size + 1, 5, none⟩ = some (.int .i64 b.result.kind) ∧ w'.cell? ⟨w.heap.size + 1, 6, none⟩ = some (.int .i64 b.result.lo) ∧ w'.cell? ⟨w.heap.size + 1, 7, none⟩ = some (.int .i64 b.result.hi) ∧ w'.cell? ⟨w.heap.size + 1, 8, none⟩ = some (.string b.result.name) ∧ w'.cell? ⟨w.heap.size + 1, 9, none⟩ = some (.slice B2 b.vars.length d2) ∧ w'.cell? ⟨w.heap.size + 1, 10, none⟩ = some (.slice B3 b.body.length d3) ∧ w'.cell? ⟨gc, 0, none⟩ = some (.string nm) ∧ w'.cell? ⟨gc, 1, none⟩ = some (.bool (!a.over)) ∧ w'.cell? ⟨gc, 2, none⟩ = some (.bool (!a.abstract)) ∧ w'.cell? ⟨gc, 3, none⟩ = some (.bool (!a.final)) ∧ w'.cell? ⟨gc, 4, none⟩ = some (.slice A5 a.params.length c5) ∧ w'.cell? ⟨gc, 5, none⟩ = some (.int .i64 a.result.kind) ∧ w'.cell? ⟨gc, 6, none⟩ = some (.int .i64 a.result.lo) ∧ w'.cell? ⟨gc, 7, none⟩ = some (.int .i64 a.result.hi) ∧ w'.cell? ⟨gc, 8, none⟩ = some (.string a.result.name) ∧ w'.cell? ⟨gc, 9, none⟩ = some (.slice A2 a.vars.length c2) ∧ w'.cell? ⟨gc, 10, none⟩ = some (.slice A3 a.body.length c3)) (first | exact s17 | exact s16 | exact s15 | exact s14 | exact s13 | exact s12 | exact s11 | exact s8)
        (first
          | (go_at_call 13; refine (KWL.out _ u16).mono ?_; rintro e17 w17 ⟨rfl, u17⟩; have s17 := CE.out _ u17)
          | (have _h := u15; go_at_call 31; refine (KAC.out _ u15).mono ?_; rintro e16 w16 ⟨rfl, u16⟩; have s16 := CE.out _ u16)
          | (have _h := u14; go_at_call 31; refine (KAA.out _ u14).mono ?_; rintro e15 w15 ⟨rfl, u15⟩; have s15 := CE.out _ u15)
          | (have _h := u13; go_at_call 31; refine (KAB.out _ u13).mono ?_; rintro e14 w14 ⟨rfl, u14⟩; have s14 := CE.out _ u14)
          | (have _h := u12; go_at_call 31; refine (KBA.out _ u12).mono ?_; rintro e13 w13 ⟨rfl, u13⟩; have s13 := CE.out _ u13)
          | (go_at_call 32; refine (KRB.out _ u11).mono ?_; rintro e12 w12 ⟨rfl, u12⟩; have s12 := CE.out _ u12)
          | (go_at_call 31; refine (KAB.out _ (by first | exact u8 | exact QL.drew u8)).mono ?_; rintro e11 w11 ⟨rfl, u11⟩; have s11 := CE.out _ u11))
      clear s8 s11 s12 s13 s14 s15 s16 s17
      go_wp2_with fail
      go_ret
      exact ⟨rfl, u17.out.q.below⟩
end Go.Proofs.Ytkpieolmepngjaa
