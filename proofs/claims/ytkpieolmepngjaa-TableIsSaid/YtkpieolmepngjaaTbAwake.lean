/-
  governorlaw6: two, awake BY CONTRACTS.
-/
import Derived.Test.YtkpieolmepngjaaTbLaw0
import Derived.Deep.RegionHeld3
import Derived.Deep.DeepCutAuto
namespace Go.Proofs.Ytkpieolmepngjaa
open Go Go.RowKit
set_option linter.unusedVariables false
set_option linter.unusedSimpArgs false

/-- a row that is a block of its own. -/
theorem row_of_block {α : Type} {R : α → List Value → Prop} {W : World} {g B : Nat} {cs : Array Value} {T : TypeId} {fr : Nat × Nat} (hg : g < B) (hs : W.heap[g]? = some (.cells cs T fr)) (l : List α) (sz : Nat) (hsz : cs.size = l.length * sz)
    (h : ∀ (k : Nat) (hk : k < l.length), R l[k] ((cs.toList.drop (k * sz)).take sz)) : RowIn R W B (some ⟨g, 0, none⟩) sz l := by
  intro k hk
  have h1 : (k + 1) * sz ≤ l.length * sz := Nat.mul_le_mul_right _ hk
  have h2 : (k + 1) * sz = k * sz + sz := by rw [Nat.add_mul, Nat.one_mul]
  have hl : ((cs.toList.drop (k * sz)).take sz).length = sz := by
    simp only [List.length_take, List.length_drop, Array.length_toList]
    omega
  refine ⟨g, 0, (cs.toList.drop (k * sz)).take sz, rfl, hg, hl, fun j u hj => ?_, h k hk⟩
  have hjl : j < sz := by
    rcases Nat.lt_or_ge j ((cs.toList.drop (k * sz)).take sz).length with h3 | h3
    · omega
    · rw [List.getElem?_eq_none h3] at hj; cases hj
  rw [List.getElem?_take, if_pos hjl, List.getElem?_drop] at hj
  rw [cell_of_row W g (0 + k * sz + j) cs T fr hs, Nat.zero_add]
  simpa using hj
def twoM : MT := ⟨⟨#[77]⟩, false, false, false, [], ⟨0, 0, 0, ⟨#[]⟩⟩, [], []⟩
def twoL : List DT := [⟨2, ⟨#[65]⟩, ⟨#[]⟩, [], false, false, [], [twoM], [], 0, 0⟩, ⟨2, ⟨#[66]⟩, ⟨#[65]⟩, [], false, false, [], [], [], 0, 0⟩]
theorem nil_row {α : Type} {R : α → List Value → Prop} {W : World} {B : Nat} {A : Option Addr} {sz : Nat} : RowIn R W B A sz [] := fun k hk => by simp at hk
abbrev mCells : Array Value := #[.string ⟨#[77]⟩, .bool false, .bool false, .bool false, .slice none 0 0, .int .i64 0, .int .i64 0, .int .i64 0, .string ⟨#[]⟩, .slice none 0 0, .slice none 0 0]
abbrev dCells (g : Nat) : Array Value := #[.int .i64 2, .string ⟨#[65]⟩, .string ⟨#[]⟩, .slice none 0 0, .bool false, .bool false, .slice none 0 0, .slice (some ⟨g, 0, none⟩) 1 1, .slice none 0 0, .int .i64 0, .int .i64 0,
  .int .i64 2, .string ⟨#[66]⟩, .string ⟨#[65]⟩, .slice none 0 0, .bool false, .bool false, .slice none 0 0, .slice none 0 0, .slice none 0 0, .int .i64 0, .int .i64 0]
theorem two_row {W : World} {g q B : Nat} {T S : TypeId} {fr fs : Nat × Nat} (hg : g < B) (hq : q < B) (h1 : W.heap[g]? = some (.cells mCells T fr)) (h2 : W.heap[q]? = some (.cells (dCells g) S fs)) : DsR W B (some ⟨q, 0, none⟩) twoL := by
  have i0 : I64 0 := ⟨by decide, by decide⟩
  have hm : MsR W B (some ⟨g, 0, none⟩) [twoM] := row_of_block hg h1 _ 11 rfl (fun k hk => by
    match k, hk with
    | 0, _ => exact ⟨none, 0, none, 0, none, 0, rfl, ⟨i0, i0⟩, nil_row, nil_row, nil_row⟩)
  exact row_of_block hq h2 _ 11 rfl (fun k hk => by
    match k, hk with
    | 0, _ => exact ⟨none, 0, none, 0, some ⟨g, 0, none⟩, 1, none, 0, rfl, i0, i0, nil_row, nil_row, hm, nil_row⟩
    | 1, _ => exact ⟨none, 0, none, 0, none, 0, none, 0, rfl, i0, i0, nil_row, nil_row, nil_row, nil_row⟩)
set_option maxHeartbeats 1000000 in
set_option maxRecDepth 100000 in
theorem two_any (w : World) : Calls Try.prog 46 #[] w fun e w' => ∃ q : Nat, e = .returned (.agg #[.slice (some ⟨q, 0, none⟩) 2 2]) ∧ Hid (DsR w' w'.heap.size (some ⟨q, 0, none⟩) twoL) ∧ Hid (Below w.heap.size w w') := by
  go_enter Try.func46, Try.ntmps46
  go_wp2_with fail
  obtain ⟨w0, e0⟩ : ∃ w0, w0 = w.alloc (.cells #[.slice (some ⟨w.heap.size + 1 + 1, 0, none⟩) 2 2] 24) := ⟨_, rfl⟩
  obtain ⟨w1, e1⟩ : ∃ w1, w1 = w0.alloc (.cells mCells 52) := ⟨_, rfl⟩
  obtain ⟨w2, e2⟩ : ∃ w2, w2 = w1.alloc (.cells (dCells (w.heap.size + 1)) 47) := ⟨_, rfl⟩
  have s0 : w0.heap.size = w.heap.size + 1 := by rw [e0]; simp
  have s1 : w1.heap.size = w.heap.size + 2 := by rw [e1]; simp [s0]
  have s2 : w2.heap.size = w.heap.size + 3 := by rw [e2]; simp [s1]
  have hb : Below w.heap.size w w2 := by
    rw [e2, e1, e0]
    exact (((Below.refl _ _).alloc (Nat.le_refl _) _).alloc (by simp) _).alloc (by simp; omega) _
  have h1 : w2.heap[w.heap.size + 1]? = some (.cells mCells 52 (0, 0)) := by
    rw [e2, Below.heap_alloc _ _ _ (by omega), e1, ← s0]
    exact heap_alloc_new w0 _
  have h2 : w2.heap[w.heap.size + 1 + 1]? = some (.cells (dCells (w.heap.size + 1)) 47 (0, 0)) := by
    rw [e2, show w.heap.size + 1 + 1 = w1.heap.size by omega]
    exact heap_alloc_new w1 _
  have h0 : w2.heap[w.heap.size]? = some (.cells #[.slice (some ⟨w.heap.size + 1 + 1, 0, none⟩) 2 2] 24 (0, 0)) := by
    rw [e2, Below.heap_alloc _ _ _ (by omega), e1, Below.heap_alloc _ _ _ (by omega), e0]
    exact heap_alloc_new w _
  have c0 : w2.cell? ⟨w.heap.size, 0, none⟩ = some (.slice (some ⟨w.heap.size + 1 + 1, 0, none⟩) 2 2) := by rw [cell_of_row _ _ 0 _ _ _ h0]; rfl
  rw [← e0, ← e1, ← e2]
  have hr : DsR w2 w2.heap.size (some ⟨w.heap.size + 1 + 1, 0, none⟩) twoL := two_row (by omega) (by omega) h1 h2
  clear e0 e1 e2 h0 h1 h2
  refine bodyPost_ret (v := .agg #[.slice (some ⟨w.heap.size + 1 + 1, 0, none⟩) 2 2]) ?_ rfl ⟨_, rfl, hr, hb⟩
  simp [results, Try.f46, go_sem, c0]
theorem two_fit : FitA twoL := ⟨⟨by decide, by decide, by decide, by decide, by decide⟩, by decide, by decide⟩
theorem two_chain : chainT twoL 1 = [1, 0] := by kernel_rfl
theorem two_method : whereV (methodT twoL 1 ⟨#[77]⟩) = .tuple #[.agg #[.int .i64 0, .int .i64 0], .bool true] := by kernel_rfl
theorem two_is : isT twoL ⟨#[66]⟩ ⟨#[65]⟩ = true := by kernel_rfl
theorem two_isnt : isT twoL ⟨#[65]⟩ ⟨#[66]⟩ = false := by kernel_rfl
theorem two_find : findT twoL ⟨#[66]⟩ = 1 := by kernel_rfl
theorem two_none : findT twoL ⟨#[67]⟩ = -1 := by kernel_rfl
/-- rows stay where blocks are added. -/
theorem dsr_alloc {W : World} {A : Option Addr} {L : List DT} (h : Hid (DsR W W.heap.size A L)) (o : Obj) : Hid (DsR (W.alloc o) (W.alloc o).heap.size A L) := DsR.mono (by simp) ((Below.refl _ _).alloc (Nat.le_refl _) _).block h.out
theorem hb_alloc {w W : World} (h : Hid (Below w.heap.size w W)) (o : Obj) : Hid (Below w.heap.size w (W.alloc o)) := h.out.alloc h.out.size o
theorem hb_drew {w W : World} (h : Hid (Below w.heap.size w W)) : Hid (Below w.heap.size w W.drew) := h.out.drew
theorem hb_step {w W w' : World} (h : Hid (Below w.heap.size w W)) (k : Hid (Below W.heap.size W w')) : Hid (Below w.heap.size w w') := h.out.trans (k.out.mono h.out.size)
/-- a block of two numbers. -/
def Two (W : World) (g : Nat) (T : TypeId) (a b : Int) : Prop := W.heap[g]? = some (.cells #[.int .i64 a, .int .i64 b] T (0, 0))
theorem Two.lt {W : World} {g : Nat} {T : TypeId} {a b : Int} (h : Two W g T a b) : g < W.heap.size := (Array.getElem?_eq_some_iff.1 h).1
theorem Two.new (W : World) (T : TypeId) (a b : Int) : Hid (Two (W.alloc (.cells #[.int .i64 a, .int .i64 b] T)) W.heap.size T a b) := heap_alloc_new W _
theorem Two.below {W w' : World} {g : Nat} {T : TypeId} {a b : Int} (h : Hid (Two W g T a b)) (k : Hid (Below W.heap.size W w')) : Hid (Two w' g T a b) := (k.out.block _ h.out.lt).trans h.out
theorem Two.alloc {W : World} {g : Nat} {T : TypeId} {a b : Int} (h : Hid (Two W g T a b)) (o : Obj) : Hid (Two (W.alloc o) g T a b) := Two.below h ((Below.refl _ _).alloc (Nat.le_refl _) _)
theorem Two.drew {W : World} {g : Nat} {T : TypeId} {a b : Int} (h : Hid (Two W g T a b)) : Hid (Two W.drew g T a b) := h
theorem Two.c0 {W : World} {g : Nat} {T : TypeId} {a b : Int} (h : Hid (Two W g T a b)) : W.cell? ⟨g, 0, none⟩ = some (.int .i64 a) := by rw [cell_of_row _ _ 0 _ _ _ h.out]; rfl
theorem Two.c1 {W : World} {g : Nat} {T : TypeId} {a b : Int} (h : Hid (Two W g T a b)) : W.cell? ⟨g, 1, none⟩ = some (.int .i64 b) := by rw [cell_of_row _ _ 1 _ _ _ h.out]; rfl
theorem Two.f0 {W : World} {g : Nat} {T : TypeId} {a b : Int} (h : Hid (Two W g T a b)) (j : Nat) : W.frozen? ⟨g, j, none⟩ = false := frozen_of_row _ _ j _ _ h.out
theorem Two.nsr {W : World} {g : Nat} {T : TypeId} {a b : Int} (h : Hid (Two W g T a b)) (ha : I64 a) (hb : I64 b) : NsR W W.heap.size (some ⟨g, 0, none⟩) [a, b] := row_of_block h.out.lt h.out _ 1 rfl (fun k hk => by
  match k, hk with
  | 0, _ => exact ⟨rfl, ha⟩
  | 1, _ => exact ⟨rfl, hb⟩)
theorem KT_any (w W : World) (hb : Hid (Below w.heap.size w W)) : Calls Try.prog 46 #[] W fun e w' => ∃ q : Nat, e = .returned (.agg #[.slice (some ⟨q, 0, none⟩) 2 2]) ∧ Hid (DsR w' w'.heap.size (some ⟨q, 0, none⟩) twoL) ∧ Hid (Below w.heap.size w w') ∧ Hid (Below W.heap.size W w') := (two_any W).mono fun e w' hh => by
  obtain ⟨q, h1, h2, h3⟩ := hh
  exact ⟨q, h1, h2, hb_step hb h3, h3⟩
theorem KM_any (w W : World) (q : Nat) (hb : Hid (Below w.heap.size w W)) (hr : Hid (DsR W W.heap.size (some ⟨q, 0, none⟩) twoL)) : Calls Try.prog 15 #[.agg #[.slice (some ⟨q, 0, none⟩) 2 2], .int .i64 1, .string ⟨#[77]⟩] W fun e w' => e = .returned (.tuple #[.agg #[.int .i64 0, .int .i64 0], .bool true]) ∧ Hid (Below w.heap.size w w') ∧ Hid (Below W.heap.size W w') := (Method_any twoL _ 2 1 ⟨#[77]⟩ W hr.out two_fit ⟨by decide, by decide⟩).mono fun e w' hh => by
  obtain ⟨h1, h2⟩ := hh
  rw [two_method] at h1
  exact ⟨h1, hb_step hb h2, h2⟩
theorem KI_any (w W : World) (q : Nat) (hb : Hid (Below w.heap.size w W)) (hr : Hid (DsR W W.heap.size (some ⟨q, 0, none⟩) twoL)) : Calls Try.prog 25 #[.agg #[.slice (some ⟨q, 0, none⟩) 2 2], .string ⟨#[66]⟩, .string ⟨#[65]⟩] W fun e w' => e = .returned (.bool true) ∧ Hid (Below w.heap.size w w') ∧ Hid (Below W.heap.size W w') := (Is_any twoL _ 2 ⟨#[66]⟩ ⟨#[65]⟩ W hr.out two_fit).mono fun e w' hh => by
  obtain ⟨h1, h2⟩ := hh
  rw [two_is] at h1
  exact ⟨h1, hb_step hb h2, h2⟩
theorem KJ_any (w W : World) (q : Nat) (hb : Hid (Below w.heap.size w W)) (hr : Hid (DsR W W.heap.size (some ⟨q, 0, none⟩) twoL)) : Calls Try.prog 25 #[.agg #[.slice (some ⟨q, 0, none⟩) 2 2], .string ⟨#[65]⟩, .string ⟨#[66]⟩] W fun e w' => e = .returned (.bool false) ∧ Hid (Below w.heap.size w w') ∧ Hid (Below W.heap.size W w') := (Is_any twoL _ 2 ⟨#[65]⟩ ⟨#[66]⟩ W hr.out two_fit).mono fun e w' hh => by
  obtain ⟨h1, h2⟩ := hh
  rw [two_isnt] at h1
  exact ⟨h1, hb_step hb h2, h2⟩
theorem KF_any (w W : World) (q : Nat) (hb : Hid (Below w.heap.size w W)) (hr : Hid (DsR W W.heap.size (some ⟨q, 0, none⟩) twoL)) : Calls Try.prog 20 #[.agg #[.slice (some ⟨q, 0, none⟩) 2 2], .string ⟨#[66]⟩] W fun e w' => e = .returned (.int .i64 1) ∧ Hid (Below w.heap.size w w') ∧ Hid (Below W.heap.size W w') := (find_any twoL _ 2 ⟨#[66]⟩ W hr.out (by decide)).mono fun e w' hh => by
  obtain ⟨h1, h2⟩ := hh
  rw [two_find] at h1
  exact ⟨h1, hb_step hb h2, h2⟩
theorem KG_any (w W : World) (q : Nat) (hb : Hid (Below w.heap.size w W)) (hr : Hid (DsR W W.heap.size (some ⟨q, 0, none⟩) twoL)) : Calls Try.prog 20 #[.agg #[.slice (some ⟨q, 0, none⟩) 2 2], .string ⟨#[67]⟩] W fun e w' => e = .returned (.int .i64 (-1)) ∧ Hid (Below w.heap.size w w') ∧ Hid (Below W.heap.size W w') := (find_any twoL _ 2 ⟨#[67]⟩ W hr.out (by decide)).mono fun e w' hh => by
  obtain ⟨h1, h2⟩ := hh
  rw [two_none] at h1
  exact ⟨h1, hb_step hb h2, h2⟩
theorem KC_any (w W : World) (q : Nat) (hb : Hid (Below w.heap.size w W)) (hr : Hid (DsR W W.heap.size (some ⟨q, 0, none⟩) twoL)) : Calls Try.prog 17 #[.agg #[.slice (some ⟨q, 0, none⟩) 2 2], .int .i64 1] W fun e w' => ∃ A c, e = .returned (.slice A 2 c) ∧ Hid (NsR w' w'.heap.size A [1, 0]) ∧ Hid (Below w.heap.size w w') ∧ Hid (Below W.heap.size W w') := (Chain_any twoL _ 2 1 W hr.out two_fit).mono fun e w' hh => by
  obtain ⟨A, c, h1, h2, h3⟩ := hh
  rw [two_chain] at h1 h2
  exact ⟨A, c, h1, h2.nsr, hb_step hb h3, h3⟩
theorem nsr_alloc {W : World} {A : Option Addr} {l : List Int} (h : Hid (NsR W W.heap.size A l)) (o : Obj) : Hid (NsR (W.alloc o) (W.alloc o).heap.size A l) := NsR.mono (by simp) ((Below.refl _ _).alloc (Nat.le_refl _) _).block h.out
theorem KS_any (w W : World) (A1 : Option Addr) (c1 g : Nat) (hb : Hid (Below w.heap.size w W)) (h1 : Hid (NsR W W.heap.size A1 [1, 0])) (h2 : Hid (Two W g 3 1 0)) : Calls Try.prog 22 #[.slice A1 2 c1, .slice (some ⟨g, 0, none⟩) 2 2] W fun e w' => e = .returned (.bool true) ∧ Hid (Below w.heap.size w w') ∧ Hid (Below W.heap.size W w') := (sameInts_any [1, 0] A1 _ c1 2 W h1.out (Two.nsr h2 ⟨by decide, by decide⟩ ⟨by decide, by decide⟩) (by decide)).mono fun e w' hh => by
  exact ⟨hh.1, hb_step hb hh.2, hh.2⟩
set_option maxHeartbeats 4000000 in
set_option maxRecDepth 100000 in
theorem awake_any (w : World) : Calls Try.prog 13 #[] w fun e w' => e = .returned (.bool true) ∧ Below w.heap.size w w' := by
  have HB0 : Hid (Below w.heap.size w w) := Below.refl _ _
  go_enter Try.func13, Try.ntmps13
  go_wp2_with fail
  refine (KT_any w _ HB0).mono ?_
  rintro e1 w1 ⟨q1, rfl, hr1, hb1, hk1⟩
  go_wp2_with fail
  refine (KM_any w _ q1 hb1 hr1).mono ?_
  rintro e2 w2 ⟨rfl, hb2, hk2⟩
  clear hr1 hb1 hk1
  go_wp2_with fail
  refine (KT_any w _ (hb_alloc hb2 _)).mono ?_
  rintro e3 w3 ⟨q3, rfl, hr3, hb3, hk3⟩
  have t3 := Two.below (Two.new w2 29 0 0) hk3
  clear hb2 hk2 hk3
  go_wp2_with fail
  refine (KC_any w _ q3 hb3 hr3).mono ?_
  rintro e4 w4 ⟨A4, c4, rfl, hn4, hb4, hk4⟩
  have t4 := Two.below t3 hk4
  clear hr3 hb3 hk4 t3
  go_wp2_with fail
  refine (KS_any w _ A4 c4 w4.heap.size (hb_alloc hb4 _) (nsr_alloc hn4 _) (Two.new w4 _ 1 0)).mono ?_
  rintro e5 w5 ⟨rfl, hb5, hk5⟩
  have t5 := Two.below (Two.alloc t4 _) hk5
  clear hn4 hb4 hk5 t4
  go_wp2_with fail
  refine (KT_any w _ hb5).mono ?_
  rintro e6 w6 ⟨q6, rfl, hr6, hb6, hk6⟩
  have t6 := Two.below t5 hk6
  clear hb5 hk6 t5
  go_wp2_with fail
  refine (KI_any w _ q6 hb6 hr6).mono ?_
  rintro e7 w7 ⟨rfl, hb7, hk7⟩
  have t7 := Two.below t6 hk7
  clear hr6 hb6 hk7 t6
  go_wp2_with fail
  refine (KT_any w _ hb7).mono ?_
  rintro e8 w8 ⟨q8, rfl, hr8, hb8, hk8⟩
  have t8 := Two.below t7 hk8
  clear hb7 hk8 t7
  go_wp2_with fail
  refine (KJ_any w _ q8 hb8 hr8).mono ?_
  rintro e9 w9 ⟨rfl, hb9, hk9⟩
  have t9 := Two.below t8 hk9
  clear hr8 hb8 hk9 t8
  have x0 := Two.c0 t9
  have x1 := Two.c1 t9
  go_wp2_with fail
  refine (KT_any w _ hb9).mono ?_
  rintro e10 w10 ⟨q10, rfl, hr10, hb10, hk10⟩
  clear hb9 hk10 t9 x0 x1
  go_wp2_with fail
  refine (KF_any w _ q10 hb10 hr10).mono ?_
  rintro e11 w11 ⟨rfl, hb11, hk11⟩
  clear hr10 hb10 hk11
  go_wp2_with fail
  refine (KT_any w _ hb11).mono ?_
  rintro e12 w12 ⟨q12, rfl, hr12, hb12, hk12⟩
  clear hb11 hk12
  go_wp2_with fail
  refine (KG_any w _ q12 hb12 hr12).mono ?_
  rintro e13 w13 ⟨rfl, hb13, hk13⟩
  clear hr12 hb12 hk13
  go_wp2_with fail
  go_ret
  exact ⟨rfl, hb13.out⟩
end Go.Proofs.Ytkpieolmepngjaa
