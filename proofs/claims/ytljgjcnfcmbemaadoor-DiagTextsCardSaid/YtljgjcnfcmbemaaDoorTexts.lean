/-
  DiagTexts, the walk: whatever the two codes and places, true.
-/
import Derived.Test.YtljgjcnfcmbemaaDoorAwake
import Derived.Deep.RegionHeld3
import Derived.Outline
import Derived.Lib.AppendIntMem
namespace Go.Proofs.YtljgjcnfcmbemaaDoor
open Go.RowKit Go.Extern.Stop Go.Stop Go.Extern

theorem below_grow {w : World} (k : Nat) (os : Array Obj) : Below w.heap.size w (Sort.grow (w.drewN k) os) := by
  refine (below_drewN (Below.refl _ _) k).trans ⟨rfl, rfl, rfl, ?_, fun i hi => ?_⟩
  · simp [Sort.grow]
  · show (w.heap ++ os)[i]? = w.heap[i]?
    rw [Array.getElem?_append_left hi]

theorem itoa_any (n : Int) (h0 : -9223372036854775808 ≤ n) (h1 : n ≤ 9223372036854775807) (w : World) (ht : Lib.TabIs Tryd.prog w "internal/strconv.uint64pow10" .u64 Lib.pow10Tab) :
    Calls Tryd.prog 17 #[.int .i64 n] w fun e w' => e = .returned (.string ⟨(Lib.itoa n).toArray⟩) ∧ Below w.heap.size w w' :=
  (Tryd.strconv_Itoa n h0 h1 w ht).mono fun _ _ ⟨he, k, os, hw⟩ => ⟨he, hw ▸ below_grow k os⟩

/-- errors.Unwrap of one of diag's own errors. -/
theorem errorsUnwrap_err (b : Nat) (c a : Int) (v : Value) (w : World) (h : IsErr w b c a v) :
    Calls Tryd.prog 18 #[errv b] w fun e w' => e = .returned v ∧ w = w' := by
  have K := Lib.hid (unwrap_any b c a v w h)
  have aU := Tryd.hasUnwrapE
  have mU := Tryd.methodUnwrapE
  clear h
  go_enter Tryd.func18, Tryd.ntmps18
  go_wp2_with (go_at_call 21; refine K.out.mono ?_; rintro e w' ⟨rfl, rfl⟩)
  go_ret
  exact ⟨rfl, rfl⟩

theorem run_eql_err_same (a : Addr) (w : World) : (binOp .eql 27 (.iface 45 (.pointer (some a))) (.iface 45 (.pointer (some a)))).run Tryd.prog w = .ok (.bool true) w := by
  obtain ⟨i, hi, hcmp⟩ := Option.map_eq_some_iff.1 Tryd.compE
  obtain ⟨j, hj, _⟩ := Option.map_eq_some_iff.1 Tryd.sizeErr
  exact run_eql_iface_ptr_same w a Tryd.underlying27 Tryd.underlying45 hi hcmp hj

/-- two errors' texts, joined. -/
theorem join_adds (c a c2 a2 : Int) (h1 : -9223372036854775808 ≤ c ∧ c ≤ 9223372036854775807) (h2 : -9223372036854775808 ≤ a ∧ a ≤ 9223372036854775807) (h3 : -9223372036854775808 ≤ c2 ∧ c2 ≤ 9223372036854775807) (h4 : -9223372036854775808 ≤ a2 ∧ a2 ≤ 9223372036854775807) :
    ∃ u : ByteArray, (∀ w, (Op.stringOp .add ⟨(txt [(c2, a2)]).toArray⟩ ⟨#[58, 32]⟩).run Tryd.prog w = .ok (.string u) w) ∧ (∀ w, (Op.stringOp .add u ⟨(txt [(c, a)]).toArray⟩).run Tryd.prog w = .ok (.string ⟨(txt [(c2, a2), (c, a)]).toArray⟩) w) := by
  have lc := Lib.itoa_length_le c h1.1 h1.2
  have la := Lib.itoa_length_le a h2.1 h2.2
  have lc2 := Lib.itoa_length_le c2 h3.1 h3.2
  have la2 := Lib.itoa_length_le a2 h4.1 h4.2
  have e1 : (⟨#[58, 32]⟩ : ByteArray) = ⟨sepWord.toArray⟩ := rfl
  refine ⟨⟨(txt [(c2, a2)] ++ sepWord).toArray⟩, fun w => ?_, fun w => ?_⟩
  · rw [e1]; exact run_string_add_lists w _ _ (by simp [txt, codeWord, atWord]; omega) (by simp [sepWord])
  · rw [show txt [(c2, a2), (c, a)] = (txt [(c2, a2)] ++ sepWord) ++ txt [(c, a)] by simp [txt]]
    exact run_string_add_lists w _ _ (by simp [txt, codeWord, atWord, sepWord]; omega) (by simp [txt, codeWord, atWord]; omega)

/-- an error's text, spelled by strings that are joined. -/
theorem spell_adds (c a : Int) (h1 : -9223372036854775808 ≤ c) (h2 : c ≤ 9223372036854775807) (h3 : -9223372036854775808 ≤ a) (h4 : a ≤ 9223372036854775807) :
    ∃ u1 u2 : ByteArray, (∀ w, (Op.stringOp .add ⟨#[99, 111, 100, 101, 32]⟩ ⟨(Lib.itoa c).toArray⟩).run Tryd.prog w = .ok (.string u1) w) ∧ (∀ w, (Op.stringOp .add u1 ⟨#[32, 97, 116, 32]⟩).run Tryd.prog w = .ok (.string u2) w) ∧
      (∀ w, (Op.stringOp .add u2 ⟨(Lib.itoa a).toArray⟩).run Tryd.prog w = .ok (.string ⟨(txt [(c, a)]).toArray⟩) w) := by
  have lc := Lib.itoa_length_le c h1 h2
  have la := Lib.itoa_length_le a h3 h4
  have e1 : (⟨#[99, 111, 100, 101, 32]⟩ : ByteArray) = ⟨codeWord.toArray⟩ := rfl
  have e2 : (⟨#[32, 97, 116, 32]⟩ : ByteArray) = ⟨atWord.toArray⟩ := rfl
  refine ⟨⟨(codeWord ++ Lib.itoa c).toArray⟩, ⟨(codeWord ++ Lib.itoa c ++ atWord).toArray⟩, fun w => ?_, fun w => ?_, fun w => ?_⟩
  · rw [e1]; exact run_string_add_lists w _ _ (by simp [codeWord]) (by omega)
  · rw [e2]; exact run_string_add_lists w _ _ (by simp [codeWord]; omega) (by simp [atWord])
  · exact run_string_add_lists w _ _ (by simp [codeWord, atWord]; omega) (by omega)

/-- where the statement that spells an error stands: the variable's two cells; what lay below is as it was. -/
def Spell (x : Nat) (c a : Int) (W w' : World) : Prop := w'.cell? ⟨x, 0, none⟩ = some (.int .i64 c) ∧ w'.cell? ⟨x, 1, none⟩ = some (.int .i64 a) ∧ Hid (Below W.heap.size W w')
theorem itoa_spell (n : Int) (h0 : -9223372036854775808 ≤ n) (h1 : n ≤ 9223372036854775807) (x : Nat) (c a : Int) (W w : World) (hx : x < W.heap.size) (ht : Lib.TabBelow Tryd.prog W.heap.size W "internal/strconv.uint64pow10" .u64 Lib.pow10Tab)
    (hc : w.cell? ⟨x, 0, none⟩ = some (.int .i64 c)) (ha : w.cell? ⟨x, 1, none⟩ = some (.int .i64 a)) (hb : Hid (Below W.heap.size W w)) :
    Calls Tryd.prog 17 #[.int .i64 n] w fun e w' => e = .returned (.string ⟨(Lib.itoa n).toArray⟩) ∧ w'.cell? ⟨x, 0, none⟩ = some (.int .i64 c) ∧ w'.cell? ⟨x, 1, none⟩ = some (.int .i64 a) ∧ Hid (Below W.heap.size W w') := by
  refine (itoa_any n h0 h1 w (ht w hb.out)).mono fun e w' ⟨he, hw⟩ => ⟨he, ?_, ?_, hb.out.trans (hw.mono hb.out.size)⟩
  · have hs := hb.out.size
    rw [hw.cell (p := ⟨x, 0, none⟩) (by show x < _; omega)]; exact hc
  · have hs := hb.out.size
    rw [hw.cell (p := ⟨x, 1, none⟩) (by show x < _; omega)]; exact ha

theorem two_boxes (w w1 : World) (u v u2 v2 : Value) (T : TypeId) (hb : Below ((w.alloc (.cells #[u, v] T)).alloc (.cells #[u2, v2] T)).heap.size ((w.alloc (.cells #[u, v] T)).alloc (.cells #[u2, v2] T)) w1) :
    w.heap.size + 2 ≤ w1.heap.size ∧ (w1.cell? ⟨w.heap.size, 0, none⟩ = some u ∧ w1.cell? ⟨w.heap.size, 1, none⟩ = some v) ∧ (w1.cell? ⟨w.heap.size + 1, 0, none⟩ = some u2 ∧ w1.cell? ⟨w.heap.size + 1, 1, none⟩ = some v2) := by
  have hs : ((w.alloc (.cells #[u, v] T)).alloc (.cells #[u2, v2] T)).heap.size = w.heap.size + 2 := by simp
  have h1 := hb.size
  have c1 : ∀ i, w1.cell? ⟨w.heap.size, i, none⟩ = (#[u, v] : Array Value)[i]? := fun i => by
    rw [hb.cell (p := ⟨w.heap.size, i, none⟩) (by show w.heap.size < _; omega), World.cell?_alloc2_first]
  have c2 : ∀ i, w1.cell? ⟨w.heap.size + 1, i, none⟩ = (#[u2, v2] : Array Value)[i]? := fun i => by
    rw [hb.cell (p := ⟨w.heap.size + 1, i, none⟩) (by show w.heap.size + 1 < _; omega), World.cell?_alloc_at _ _ _ _ (by simp)]
  exact ⟨by omega, ⟨c1 0, c1 1⟩, ⟨c2 0, c2 1⟩⟩

set_option maxHeartbeats 4000000 in
theorem texts_any (c1 a1 c2 a2 : Int) (w : World) (hg : HasErrorType w) (ht : Lib.TabIs Tryd.prog w "internal/strconv.uint64pow10" .u64 Lib.pow10Tab)
    (p1 : -9223372036854775808 ≤ c1 ∧ c1 ≤ 9223372036854775807) (p2 : -9223372036854775808 ≤ a1 ∧ a1 ≤ 9223372036854775807) (p3 : -9223372036854775808 ≤ c2 ∧ c2 ≤ 9223372036854775807) (p4 : -9223372036854775808 ≤ a2 ∧ a2 ≤ 9223372036854775807) :
    Calls Tryd.prog 4 #[.agg #[.int .i64 c1, .int .i64 a1], .agg #[.int .i64 c2, .int .i64 a2]] w fun e w' => e = .returned (.bool true) ∧ Below w.heap.size w w' := by
  have mE := Tryd.methodErrorE
  have HG := Lib.hid hg
  have HT := Lib.hid (Lib.tabBelow_of_tabIs ht)
  have P1 := Lib.hid p1
  have P2 := Lib.hid p2
  have P3 := Lib.hid p3
  have P4 := Lib.hid p4
  clear hg ht p1 p2 p3 p4
  have HX0 := Lib.hid (show Below w.heap.size w ((w.alloc (.cells #[.int .i64 c1, .int .i64 a1] 33)).alloc (.cells #[.int .i64 c2, .int .i64 a2] 33)) from ((Below.refl _ _).alloc (Nat.le_refl _) _).alloc (by simp) _)
  go_enter Tryd.func4, Tryd.ntmps4
  go_wp2_with fail
  refine (new_made c1 a1 _).mono ?_
  rintro e1 w1 ⟨b1, rfl, m1⟩
  have HX1 := Lib.hid (HX0.out.trans (m1.bel.mono HX0.out.size))
  have HE1 := Lib.hid m1.err
  obtain ⟨hs1, ⟨x10, x11⟩, ⟨x20, x21⟩⟩ := two_boxes _ _ _ _ _ _ _ m1.bel
  have HC := Lib.hid (And.intro (And.intro x10 x11) (And.intro x20 x21))
  clear x10 x11 m1 HX0
  go_wp2_with fail
  refine (wrap_made _ _ c2 a2 w1).mono ?_
  rintro e2 w2 ⟨b2, rfl, m2⟩
  have HX2 := Lib.hid (HX1.out.trans (m2.bel.mono HX1.out.size))
  have HE2 := Lib.hid m2.err
  have HE1b := Lib.hid (HE1.out.below m2.bel HE1.out.lt)
  have hs2 : w.heap.size + 2 ≤ w2.heap.size := by have := m2.bel.size; omega
  have x10 : w2.cell? ⟨w.heap.size, 0, none⟩ = some (.int .i64 c1) := by rw [m2.bel.cell (p := ⟨w.heap.size, 0, none⟩) (by show w.heap.size < _; omega)]; exact HC.out.1.1
  have x11 : w2.cell? ⟨w.heap.size, 1, none⟩ = some (.int .i64 a1) := by rw [m2.bel.cell (p := ⟨w.heap.size, 1, none⟩) (by show w.heap.size < _; omega)]; exact HC.out.1.2
  have y20 : w2.cell? ⟨w.heap.size + 1, 0, none⟩ = some (.int .i64 c2) := by rw [m2.bel.cell (p := ⟨w.heap.size + 1, 0, none⟩) (by show w.heap.size + 1 < _; omega)]; exact HC.out.2.1
  have y21 : w2.cell? ⟨w.heap.size + 1, 1, none⟩ = some (.int .i64 a2) := by rw [m2.bel.cell (p := ⟨w.heap.size + 1, 1, none⟩) (by show w.heap.size + 1 < _; omega)]; exact HC.out.2.2
  have HC2 := Lib.hid (And.intro y20 y21)
  clear x20 x21 y20 y21 m2 HC HE1 HX1 hs1
  have hT2 := Lib.hid (Lib.tabBelow_of_tabIs (HT.out w2 HX2.out))
  have hb2 : Hid (Below w2.heap.size w2 w2) := Below.refl _ _
  obtain ⟨l1, l2⟩ := P1.out
  obtain ⟨l3, l4⟩ := P2.out
  obtain ⟨u1, u2, k1, k2, k3⟩ := spell_adds c1 a1 l1 l2 l3 l4
  obtain ⟨T1, hT1⟩ : ∃ T, T = (⟨(txt [(c1, a1)]).toArray⟩ : ByteArray) := ⟨_, rfl⟩
  rw [← hT1] at k3
  have HT1 := Lib.hid hT1
  clear hT1
  go_wp2_with fail
  go_region_held3 (fun w' => w'.cell? ⟨w.heap.size, 0, none⟩ = some (.int .i64 c1) ∧ w'.cell? ⟨w.heap.size, 1, none⟩ = some (.int .i64 a1) ∧ Hid (Below w2.heap.size w2 w')) (first | exact ⟨x10, x11, Below.drew hb2⟩ | exact ⟨by assumption, by assumption, by assumption⟩)
    (first | (go_at_call 17; refine (itoa_spell _ ?_ ?_ w.heap.size c1 a1 w2 _ ?_ hT2.out ?_ ?_ ?_).mono ?_; omega; omega; omega; (first | assumption | exact x10); (first | assumption | exact x11); (first | assumption | exact Below.drew hb2); rintro e w' ⟨rfl, hk1, hk2, hk3⟩))
  obtain ⟨w3, h3w⟩ : ∃ w3 : World, w3 = w' := ⟨_, rfl⟩
  subst h3w
  have HX3 := Lib.hid hk3.out
  have hs3 : w.heap.size + 2 ≤ w3.heap.size := by have := hk3.out.size; omega
  have y20 : w3.cell? ⟨w.heap.size + 1, 0, none⟩ = some (.int .i64 c2) := by rw [hk3.out.cell (p := ⟨w.heap.size + 1, 0, none⟩) (by show w.heap.size + 1 < _; omega)]; exact HC2.out.1
  have y21 : w3.cell? ⟨w.heap.size + 1, 1, none⟩ = some (.int .i64 a2) := by rw [hk3.out.cell (p := ⟨w.heap.size + 1, 1, none⟩) (by show w.heap.size + 1 < _; omega)]; exact HC2.out.2
  clear hk1 hk2 hk3 x10 x11 k1 k2 k3 HC2 l1 l2 l3 l4
  have hT3 := Lib.hid (Lib.tabBelow_of_tabIs (HT.out w3 (HX2.out.trans (HX3.out.mono (by omega)))))
  have hb3 : Hid (Below w3.heap.size w3 w3) := Below.refl _ _
  obtain ⟨l1, l2⟩ := P3.out
  obtain ⟨l3, l4⟩ := P4.out
  obtain ⟨u3, u4, k1, k2, k3⟩ := spell_adds c2 a2 l1 l2 l3 l4
  obtain ⟨T2, hT2b⟩ : ∃ T, T = (⟨(txt [(c2, a2)]).toArray⟩ : ByteArray) := ⟨_, rfl⟩
  rw [← hT2b] at k3
  have HT2 := Lib.hid hT2b
  clear hT2b
  go_wp2_with fail
  go_region_held3 (fun w' => w'.cell? ⟨w.heap.size + 1, 0, none⟩ = some (.int .i64 c2) ∧ w'.cell? ⟨w.heap.size + 1, 1, none⟩ = some (.int .i64 a2) ∧ Hid (Below w3.heap.size w3 w')) (first | exact ⟨y20, y21, Below.drew hb3⟩ | exact ⟨by assumption, by assumption, by assumption⟩)
    (first | (go_at_call 17; refine (itoa_spell _ ?_ ?_ (w.heap.size + 1) c2 a2 w3 _ ?_ hT3.out ?_ ?_ ?_).mono ?_; omega; omega; omega; (first | assumption | exact y20); (first | assumption | exact y21); (first | assumption | exact Below.drew hb3); rintro e w' ⟨rfl, hj1, hj2, hj3⟩))
  obtain ⟨w4, h4w⟩ : ∃ w4 : World, w4 = w' := ⟨_, rfl⟩
  subst h4w
  have HX4 := Lib.hid (HX3.out.trans (hj3.out.mono HX3.out.size))
  have hs4 : w.heap.size + 2 ≤ w4.heap.size := by have := hj3.out.size; omega
  clear hj1 hj2 hj3 y20 y21 k1 k2 k3 l1 l2 l3 l4
  obtain ⟨u5, k1, k2⟩ := join_adds c1 a1 c2 a2 P1.out P2.out P3.out P4.out
  obtain ⟨V, hV⟩ : ∃ V, V = (⟨(txt [(c2, a2), (c1, a1)]).toArray⟩ : ByteArray) := ⟨_, rfl⟩
  rw [← hV, ← HT1.out] at k2
  rw [← HT2.out] at k1
  have HV := Lib.hid hV
  clear hV
  have HY4 := Lib.hid (HX2.out.trans (HX4.out.mono (by omega)))
  have hE1 := HE1b.out.below HX4.out HE1b.out.lt
  have KE1 := Lib.hid (error_chain [(c1, a1)] b1 w4 (HG.out.below HY4.out (Nat.le_refl _)) ⟨b1, _, rfl, hE1.lt, hE1, rfl⟩ (by simp) (by simp) (by
    intro x hx
    simp at hx
    subst hx
    have ht4 := Lib.tabBelow_of_tabIs (HT.out w4 HY4.out)
    exact ⟨appOk_any _ _ _ P1.out.1 P1.out.2 ht4, appOk_any _ _ _ P2.out.1 P2.out.2 ht4, P1.out.1, P1.out.2, P2.out.1, P2.out.2⟩))
  rw [← HT1.out] at KE1
  clear hE1
  go_wp2_with fail
  refine KE1.out.mono ?_
  rintro e5 w5 ⟨rfl, hx5⟩
  have HX5 := Lib.hid (HX4.out.trans (hx5.mono HX4.out.size))
  have HY5 := Lib.hid (HY4.out.trans (hx5.mono HY4.out.size))
  have hE1 := HE1b.out.below HX5.out HE1b.out.lt
  have hE2 := HE2.out.below HX5.out HE2.out.lt
  have KE2 := Lib.hid (error_chain [(c2, a2), (c1, a1)] b2 w5 (HG.out.below HY5.out (Nat.le_refl _)) ⟨b2, _, rfl, hE2.lt, hE2, b1, _, rfl, hE1.lt, hE1, rfl⟩ (by simp) (by simp) (by
    intro x hx
    simp at hx
    have ht5 := Lib.tabBelow_of_tabIs (HT.out w5 HY5.out)
    rcases hx with rfl | rfl
    · exact ⟨appOk_any _ _ _ P3.out.1 P3.out.2 ht5, appOk_any _ _ _ P4.out.1 P4.out.2 ht5, P3.out.1, P3.out.2, P4.out.1, P4.out.2⟩
    · exact ⟨appOk_any _ _ _ P1.out.1 P1.out.2 ht5, appOk_any _ _ _ P2.out.1 P2.out.2 ht5, P1.out.1, P1.out.2, P2.out.1, P2.out.2⟩))
  rw [← HV.out] at KE2
  clear hE1 hE2 hx5 KE1
  go_wp2_with fail
  refine KE2.out.mono ?_
  rintro e6 w6 ⟨rfl, hx6⟩
  have HX6 := Lib.hid (HX5.out.trans (hx6.mono HX5.out.size))
  have HY6 := Lib.hid (HY5.out.trans (hx6.mono HY5.out.size))
  clear hx6 KE2
  have heq := run_eql_err_same
  go_wp2_with fail
  refine (errorsUnwrap_err b2 c2 a2 _ w6 (HE2.out.below HX6.out HE2.out.lt)).mono ?_
  rintro e7 w7 ⟨rfl, rfl⟩
  go_wp2_with fail
  refine (errorsUnwrap_err b1 c1 a1 _ w6 (HE1b.out.below HX6.out HE1b.out.lt)).mono ?_
  rintro e8 w8 ⟨rfl, rfl⟩
  have KA := Lib.hid (awake_any w6 (HG.out.below HY6.out (Nat.le_refl _)))
  go_wp2_with fail
  refine KA.out.mono ?_
  rintro e9 w9 ⟨rfl, hx9⟩
  have HY9 := Lib.hid (HY6.out.trans (hx9.mono HY6.out.size))
  clear hx9
  go_wp2_with fail
  go_ret
  exact ⟨rfl, HY9.out⟩
end Go.Proofs.YtljgjcnfcmbemaaDoor
