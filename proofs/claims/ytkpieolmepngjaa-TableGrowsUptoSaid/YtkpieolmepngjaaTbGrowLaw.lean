/-
  TableGrows, the walk: whatever the unit, the number, the kind and the names, the law returns true.
-/
import Derived.Test.YtkpieolmepngjaaTbGrow0
import Derived.Deep.RegionHeld3
namespace Go.Proofs.Ytkpieolmepngjaa
open Go Go.RowKit
set_option linter.unusedVariables false
set_option linter.unusedSimpArgs false

theorem zeros_size (n : Nat) : (zeros n).size = n := by simp [zeros, ByteArray.size]
/-- the declaration that is added. -/
def newD (kd : Int) (nm : ByteArray) : DT := ⟨kd, nm, ⟨#[]⟩, [], false, false, [], [], [], 0, 0⟩
theorem newD_in (w : World) (B : Nat) (kd : Int) (nm : ByteArray) : DIn w B (newD kd nm) [.int .i64 kd, .string nm, .string ⟨#[]⟩, .slice none 0 0, .bool false, .bool false, .slice none 0 0, .slice none 0 0, .slice none 0 0, .int .i64 0, .int .i64 0] :=
  ⟨none, 0, none, 0, none, 0, none, 0, rfl, ⟨by show (-9223372036854775808 : Int) ≤ 0; decide, by show (0 : Int) ≤ 9223372036854775807; decide⟩, ⟨by show (-9223372036854775808 : Int) ≤ 0; decide, by show (0 : Int) ≤ 9223372036854775807; decide⟩, nil_row, nil_row, nil_row, nil_row⟩
theorem fit_more {L : List DT} (h : Fit L) (hl : L.length ≤ 31) (kd : Int) {nm : ByteArray} (hn : nm.size ≤ 1000000000) : Fit (L ++ [newD kd nm]) := by
  have hm : ∀ d ∈ L ++ [newD kd nm], d ∈ L ∨ d = newD kd nm := fun d hd => by
    rcases List.mem_append.1 hd with h | h
    · exact .inl h
    · exact .inr (List.mem_singleton.1 h)
  refine ⟨by simp; omega, fun d hd => ?_, fun d hd => ?_, fun d hd => ?_, fun d hd f hf => ?_, fun d hd => ?_, fun d hd => ?_⟩
  · rcases hm d hd with h1 | rfl
    · exact h.names d h1
    · exact hn
  · rcases hm d hd with h1 | rfl
    · exact h.faces d h1
    · simp [newD]
  · rcases hm d hd with h1 | rfl
    · exact h.bases d h1
    · simp [newD, ByteArray.size]
  · rcases hm d hd with h1 | rfl
    · exact h.fnames d h1 f hf
    · simp [newD] at hf
  · rcases hm d hd with h1 | rfl
    · exact h.methods d h1
    · simp [newD]
  · rcases hm d hd with h1 | rfl
    · exact h.vars d h1
    · simp [newD]

set_option maxHeartbeats 8000000 in
set_option maxRecDepth 100000 in
theorem grows_walk (L : List DT) (A : Option Addr) (c : Nat) (kd d0 : Int) (a b : ByteArray) (w : World) (ha : DsR w w.heap.size A L) (hw : wU L ≤ 1000000000) (hfit0 : L.length ≤ 16 → Fit L) (hsm : ∀ d ∈ L, Under d 100000000) :
    Calls Try.prog 7 #[.agg #[.slice A L.length c], .int .i64 kd, .int .i64 d0, .string a, .string b] w fun e w' => e = .returned (.bool true) ∧ Below w.heap.size w w' := by
  obtain ⟨R, hR⟩ : ∃ R : World, R = w.alloc (.cells #[.slice A L.length c] 24) := ⟨_, rfl⟩
  have hu : UAt w R A c L := hR ▸ UAt.of ha
  have HU := Lib.hid hu
  have HFIT0 := Lib.hid hfit0
  have HQ0 : Hid (QU R R) := Below.refl _ _
  have KG : Hid (∀ W, Hid (QU R W) → Calls Try.prog 12 #[.agg #[.slice A L.length c], .int .i64 200] W fun e w' => (∃ r : Bool, e = .returned (.bool r) ∧ Hid (r = false → L.length ≤ 16)) ∧ Hid (QU R w')) := fun W hq => (greatUnit_any L A c 200 W (hu.rowAt hq.out) hw).mono fun e w' hh => ⟨hh.1, (stayU hu).step _ _ hq.out hh.2⟩
  have KA : Hid (∀ W, Hid (QU R W) → Calls Try.prog 13 #[] W fun e w' => e = .returned (.bool true) ∧ Hid (QU R w') ∧ Hid (Below W.heap.size W w')) := fun W hq => q_awake (stayU hu).step W hq
  have HSM := Lib.hid hsm
  have y0 := hu.cell _ (Below.refl _ _)
  clear ha hw hfit0 hu
  rw [hR] at y0
  go_enter Try.func7, Try.ntmps7
  go_wp2_with fail
  rw [← hR] at y0 ⊢
  refine (KG.out _ HQ0).mono ?_
  rintro e1 w1 ⟨⟨great, rfl, hgr⟩, q1⟩
  have y1 := HU.out.cell _ q1.out
  clear y0 HQ0 KG
  have away : great = true ∨ (60 : Int) < (a.size : Int) ∨ (60 : Int) < (b.size : Int) ∨ (great = false ∧ ¬ (60 : Int) < (a.size : Int) ∧ ¬ (60 : Int) < (b.size : Int)) := by
    cases great
    · by_cases h1 : (60 : Int) < (a.size : Int)
      · exact .inr (.inl h1)
      · by_cases h2 : (60 : Int) < (b.size : Int)
        · exact .inr (.inr (.inl h2))
        · exact .inr (.inr (.inr ⟨rfl, h1, h2⟩))
    · exact .inl rfl
  cases great
  case true =>
    clear away
    go_wp2_with fail
    refine (KA.out _ q1).mono ?_
    rintro e2 w2 ⟨rfl, q2, -⟩
    go_wp2_with fail
    go_ret
    exact ⟨rfl, HU.out.out q2.out⟩
  have hfit : Fit L := HFIT0.out (hgr.out rfl)
  have HFIT := Lib.hid hfit
  have HL : Hid (L.length ≤ 31) := Nat.le_trans (hgr.out rfl) (by decide)
  clear hfit hgr HFIT0
  by_cases p1 : (60 : Int) < (a.size : Int)
  · clear away
    go_wp2_with fail
    refine (KA.out _ q1).mono ?_
    rintro e2 w2 ⟨rfl, q2, -⟩
    go_wp2_with fail
    go_ret
    exact ⟨rfl, HU.out.out q2.out⟩
  by_cases p2 : (60 : Int) < (b.size : Int)
  · clear away
    go_wp2_with fail
    refine (KA.out _ q1).mono ?_
    rintro e2 w2 ⟨rfl, q2, -⟩
    go_wp2_with fail
    go_ret
    exact ⟨rfl, HU.out.out q2.out⟩
  clear away
  have hL := HL.out
  have KF := Lib.hid (fresh_any L A c w1 (HU.out.rowAt q1.out) HFIT.out HSM.out)
  go_wp2_with fail
  refine KF.out.mono ?_
  rintro e3 w3 ⟨n, rfl, hn, hun, hb3⟩
  have q3 : Hid (QU R w3) := (stayU HU.out).step _ _ q1.out hb3
  obtain ⟨nm, hnm⟩ : ∃ x, x = zeros (n + 1) := ⟨_, rfl⟩
  have hns : nm.size = n + 1 := by rw [hnm]; exact zeros_size _
  have hap : Hid (Apart L nm) := fun d hd => by
    obtain ⟨h1, h2, h3⟩ := hun d hd
    exact ⟨fun e => by rw [e] at h1; omega, fun e => by rw [e] at h2; omega, fun f hf e => by have := h3 f hf; rw [e] at this; omega⟩
  have hnb : Hid (nm.size ≤ 1000000000) := by rw [hns]; show n + 1 ≤ 1000000000; omega
  rw [← hnm]
  clear hnm hns hun hb3 hn KF y1 q1
  have y3 := HU.out.cell _ q3.out
  by_cases ea : a = nm
  · have e1 := str_eq ea
    clear ea
    go_wp2_with fail
    refine (KA.out _ q3).mono ?_
    rintro e4 w4 ⟨rfl, q4, -⟩
    go_wp2_with fail
    go_ret
    exact ⟨rfl, HU.out.out q4.out⟩
  by_cases eb : b = nm
  · have e1 := str_ne ea
    have e2 := str_eq eb
    clear ea eb
    go_wp2_with fail
    refine (KA.out _ q3).mono ?_
    rintro e4 w4 ⟨rfl, q4, -⟩
    go_wp2_with fail
    go_ret
    exact ⟨rfl, HU.out.out q4.out⟩
  have e1 := str_ne ea
  have e2 := str_ne eb
  have NA : Hid (nm ≠ a) := fun e => ea e.symm
  have NB : Hid (nm ≠ b) := fun e => eb e.symm
  obtain ⟨L2, hL2⟩ : ∃ x, x = L ++ [newD kd nm] := ⟨_, rfl⟩
  have HL2 := Lib.hid hL2
  have AP : Hid (∃ v' w', (Builtin.append_ #[22, 22] 22 #[.slice none 0 0, .slice A L.length c]).run Try.prog w3 = .ok v' w' ∧ ∃ A' c', v' = .slice A' L.length c' ∧ Hid (DRw (DIn w3 w3.heap.size) w3.heap.size w' A' c' L) ∧ Hid (Below w3.heap.size w3 w')) := by
    obtain ⟨A', c', w', k1, k2, k3, _⟩ := app_decls (c1 := c) (DRw.nil (DIn w3 w3.heap.size) w3.heap.size w3) (HU.out.rowAt q3.out) (fun d cs h => din_one h) (by simp; omega) (Nat.le_refl _)
    rw [List.nil_append] at k1 k2
    exact ⟨_, w', k1, A', c', rfl, k2, k3⟩
  clear ea eb hL2 hL
  go_wp2_with (at_builtin; refine wpList_app rfl _ _ _ rfl _ _ rfl rfl (use2 AP.out ?_))
  rintro v4 w4 A4 c4 rfl hrow4 hb4
  have AP2 : Hid (∃ v' w', (Builtin.append_ #[22, 22] 22 #[.slice A4 L.length c4, .slice (some ⟨w4.heap.size, 0, none⟩) 1 1]).run Try.prog (w4.alloc (.cells #[.int .i64 kd, .string nm, .string ⟨#[]⟩, .slice none 0 0, .bool false, .bool false, .slice none 0 0, .slice none 0 0, .slice none 0 0, .int .i64 0, .int .i64 0] 47)) = .ok v' w' ∧ ∃ A' c', v' = .slice A' L2.length c' ∧ Hid (DsR w' w'.heap.size A' L2) ∧ Hid (Below w3.heap.size w3 w')) := by
    have hs : (w4.alloc (.cells #[.int .i64 kd, .string nm, .string ⟨#[]⟩, .slice none 0 0, .bool false, .bool false, .slice none 0 0, .slice none 0 0, .slice none 0 0, .int .i64 0, .int .i64 0] 47)).heap[w4.heap.size]? = some (.cells #[.int .i64 kd, .string nm, .string ⟨#[]⟩, .slice none 0 0, .bool false, .bool false, .slice none 0 0, .slice none 0 0, .slice none 0 0, .int .i64 0, .int .i64 0] 47 (0, 0)) := heap_alloc_new w4 _
    have h1 : DRw (DIn w3 w3.heap.size) w3.heap.size (w4.alloc (.cells #[.int .i64 kd, .string nm, .string ⟨#[]⟩, .slice none 0 0, .bool false, .bool false, .slice none 0 0, .slice none 0 0, .slice none 0 0, .int .i64 0, .int .i64 0] 47)) A4 c4 L := by
      obtain ⟨xs, hx, hv⟩ := hrow4.out
      exact ⟨xs, hx.alloc _, hv⟩
    have h2 : RowIn (DIn w3 w3.heap.size) (w4.alloc (.cells #[.int .i64 kd, .string nm, .string ⟨#[]⟩, .slice none 0 0, .bool false, .bool false, .slice none 0 0, .slice none 0 0, .slice none 0 0, .int .i64 0, .int .i64 0] 47)) (w4.alloc (.cells #[.int .i64 kd, .string nm, .string ⟨#[]⟩, .slice none 0 0, .bool false, .bool false, .slice none 0 0, .slice none 0 0, .slice none 0 0, .int .i64 0, .int .i64 0] 47)).heap.size (some ⟨w4.heap.size, 0, none⟩) 11 [newD kd nm] := row_of_block (by simp) hs _ 11 rfl (fun k hk => by
      match k, hk with
      | 0, _ => exact newD_in _ _ _ _)
    have hb5 : Below w3.heap.size w3 (w4.alloc (.cells #[.int .i64 kd, .string nm, .string ⟨#[]⟩, .slice none 0 0, .bool false, .bool false, .slice none 0 0, .slice none 0 0, .slice none 0 0, .int .i64 0, .int .i64 0] 47)) := hb4.out.alloc hb4.out.size _
    obtain ⟨A', c', w', k1, k2, k3, _⟩ := app_decls (c1 := 1) h1 h2 (fun d cs h => din_one h) (by have := HL.out; simp; omega) hb5.size
    rw [← HL2.out] at k1 k2
    have hb6 := hb5.trans k3
    exact ⟨_, w', k1, A', c', rfl, DRw.row k2 (fun d cs h => DIn.mono hb6.size hb6.block h), hb6⟩
  clear AP
  have HR3 := Lib.hid q3.out
  have HY : Hid (∀ W, Hid (Below w3.heap.size w3 W) → Hid (QU R W)) := fun W h => Below.trans HR3.out (h.out.mono (Below.size HR3.out))
  clear y3
  go_wp2_with (at_builtin; refine wpList_app rfl _ _ _ rfl _ _ rfl rfl (use2 AP2.out ?_))
  rintro v5 w5 A5 c5 rfl hrow5 hb5
  have q6 : Hid (QU R (w5.alloc (.cells #[.slice A5 L2.length c5] 24))) := (HY.out _ hb5).out.alloc (HY.out _ hb5).out.size _
  have y6 := HU.out.cell _ q6.out
  have HD5 : Hid (DsR (w5.alloc (.cells #[.slice A5 L2.length c5] 24)) (w5.alloc (.cells #[.slice A5 L2.length c5] 24)).heap.size A5 L2) := dsr_alloc hrow5 _
  have hL := HL.out
  have hs5 : (w5.alloc (.cells #[.slice A5 L2.length c5] 24)).heap[w5.heap.size]? = some (.cells #[.slice A5 L2.length c5] 24 (0, 0)) := heap_alloc_new w5 _
  have K0 : Hid (∀ W, Calls Try.prog 14 #[.int .i64 d0, .int .i64 ((L.length : Int) + 1)] W fun e w' => (∃ r : Nat, r < L.length + 1 ∧ e = .returned (.int .i64 (r : Int))) ∧ w' = W) := fun W => by
    have := low_any d0 (L.length + 1) (by omega) (by omega) W
    push_cast at this
    exact this
  clear AP2 hrow4 hb4 hrow5 hb5
  go_wp2_with fail
  refine (K0.out _).mono ?_
  rintro e6 w6 ⟨⟨r, hr, rfl⟩, rfl⟩
  have hd : I64 ((r : Int) - 1) := ⟨by omega, by omega⟩
  obtain ⟨d, hdd⟩ : ∃ d : Int, d = (r : Int) - 1 := ⟨_, rfl⟩
  have HDL : Hid (d < (L.length : Int)) := by show d < _; omega
  rw [← hdd] at hd
  have HD := Lib.hid hd
  clear K0
  go_wp2_with fail
  rw [← hdd]
  clear hdd hd hr hL
  obtain ⟨W0, hW0⟩ : ∃ W, W = w5.alloc (.cells #[.slice A5 L2.length c5] 24) := ⟨_, rfl⟩
  rw [← hW0] at q6 y6 HD5 hs5 ⊢
  obtain ⟨gb, hgb⟩ : ∃ g, g = w5.heap.size := ⟨_, rfl⟩
  rw [← hgb] at hs5 ⊢
  clear hgb hW0
  have gbl : Hid (gb < W0.heap.size) := (Array.getElem?_eq_some_iff.1 hs5).1
  have hcb : W0.cell? ⟨gb, 0, none⟩ = some (.slice A5 L2.length c5) := by rw [cell_of_row _ _ 0 _ _ _ hs5]; rfl
  have HCB := Lib.hid hcb
  have HBB : Hid (∀ W, Hid (Below W0.heap.size W0 W) → Hid (Below R.heap.size R W) ∧ W.cell? ⟨w.heap.size, 0, none⟩ = some (.slice A L.length c) ∧ W.cell? ⟨gb, 0, none⟩ = some (.slice A5 L2.length c5)) := fun W h => by
    have h1 : Below R.heap.size R W := Below.trans q6.out (h.out.mono (Below.size q6.out))
    exact ⟨h1, HU.out.cell _ h1, (h.out.cell (p := ⟨gb, 0, none⟩) gbl.out).trans HCB.out⟩
  have SA : Hid (Stay (QU W0) A L) := ⟨fun _ _ h k => Below.trans h (k.mono (Below.size h)), fun W h => HU.out.rowAt (HBB.out W h).1.out⟩
  have SB : Hid (Stay (QU W0) A5 L2) := ⟨fun _ _ h k => Below.trans h (k.mono (Below.size h)), fun W h => DsR.mono (Below.size h) (Below.block h) HD5.out⟩
  have hap2 : Apart L (newD kd nm).name := hap.out
  have fit2 : Hid (Fit L2) := by rw [HL2.out]; exact fit_more HFIT.out HL.out kd hnb.out
  obtain ⟨m0, m1, ok, hm⟩ := where_shape (methodT L d a)
  have hm2 : Value.tuple #[.agg #[.int .i64 m0, .int .i64 m1], .bool ok] = whereV (methodT L2 d a) := by rw [HL2.out, methodT_app hap2 HDL.out, hm]
  have KM := Lib.hid (q_Method c SA.out HFIT.out d HD.out a _ hm.symm)
  have KN := Lib.hid (q_Method c5 SB.out fit2.out d HD.out a _ hm2)
  have q0 : Hid (QU W0 W0) := Below.refl _ _
  clear hm hm2 hs5 y6
  obtain ⟨-, yu, yv⟩ := HBB.out _ q0
  clear hcb q6
  refine (KM.out _ q0).mono ?_
  rintro e7 w7 ⟨rfl, q7, -⟩
  have qa : Hid (QU W0 (w7.alloc (.cells #[.int .i64 m0, .int .i64 m1] 29))) := q7.out.alloc q7.out.size _
  obtain ⟨-, yua, yva⟩ := HBB.out _ qa
  clear yu yv q0 KM q7
  go_wp2_with fail
  refine (KN.out _ qa).mono ?_
  rintro e8 w8 ⟨rfl, q8, k8⟩
  have t8 := Two.below (Two.new w7 29 m0 m1) k8
  obtain ⟨g1, hg1⟩ : ∃ g, g = w7.heap.size := ⟨_, rfl⟩
  rw [← hg1] at t8 ⊢
  clear hg1
  have u0 : Hid (QT W0 g1 w8.heap.size 29 m0 m1 (w8.alloc (.cells #[.int .i64 m0, .int .i64 m1] 29))) := ⟨Below.alloc q8.out q8.out.size _, Two.alloc t8 _, Two.new w8 _ m0 m1⟩
  clear yua yva qa KN k8 t8 q8
  go_wp2_with fail
  obtain ⟨W5, hW5⟩ : ∃ W, W = w8.alloc (.cells #[.int .i64 m0, .int .i64 m1] 29) := ⟨_, rfl⟩
  obtain ⟨g2, hg2⟩ : ∃ g, g = w8.heap.size := ⟨_, rfl⟩
  rw [← hW5, ← hg2] at u0
  rw [← hW5, ← hg2]
  clear hW5 hg2
  have ST1 : Hid (Stay (QT W0 g1 g2 29 m0 m1) A L) := ⟨QT.step, fun W h => SA.out.row W h.below⟩
  have ST2 : Hid (Stay (QT W0 g1 g2 29 m0 m1) A5 L2) := ⟨QT.step, fun W h => SB.out.row W h.below⟩
  have CE : Hid (∀ W, Hid (QT W0 g1 g2 29 m0 m1 W) → W.cell? ⟨w.heap.size, 0, none⟩ = some (.slice A L.length c) ∧ W.cell? ⟨gb, 0, none⟩ = some (.slice A5 L2.length c5) ∧ W.cell? ⟨g1, 0, none⟩ = some (.int .i64 m0) ∧ W.cell? ⟨g1, 1, none⟩ = some (.int .i64 m1) ∧ W.cell? ⟨g2, 0, none⟩ = some (.int .i64 m0) ∧ W.cell? ⟨g2, 1, none⟩ = some (.int .i64 m1)) := fun W h => ⟨(HBB.out W (Lib.hid h.out.below)).2.1, (HBB.out W (Lib.hid h.out.below)).2.2, Two.c0 h.out.one, Two.c1 h.out.one, Two.c0 h.out.two, Two.c1 h.out.two⟩
  obtain ⟨C, hC⟩ : ∃ x, x = chainT L d := ⟨_, rfl⟩
  obtain ⟨F, hF⟩ : ∃ x, x = facesT L d := ⟨_, rfl⟩
  obtain ⟨V, hV⟩ : ∃ x, x = fieldsT L d := ⟨_, rfl⟩
  obtain ⟨fa, hfa⟩ : ∃ x, x = findT L a := ⟨_, rfl⟩
  obtain ⟨ia, hia⟩ : ∃ x, x = isT L a b := ⟨_, rfl⟩
  have K1 := Lib.hid (q_Find c5 ST2.out fit2.out a fa (by rw [HL2.out, findT_app (D := newD kd nm) NA.out]; exact hfa))
  have K2 := Lib.hid (q_Find c ST1.out HFIT.out a fa hfa)
  have K3 := Lib.hid (q_Is c5 ST2.out fit2.out a b ia (by rw [HL2.out, isT_app hap2 NA.out NB.out]; exact hia))
  have K4 := Lib.hid (q_Is c ST1.out HFIT.out a b ia hia)
  have K5 := Lib.hid (q_Chain c5 ST2.out fit2.out d C (by rw [HL2.out, chainT_app hap2 HDL.out]; exact hC))
  have K6 := Lib.hid (q_Chain c ST1.out HFIT.out d C hC)
  have K8 := Lib.hid (q_Faces c5 ST2.out fit2.out d F (by rw [HL2.out, facesT_app hap2 HDL.out]; exact hF))
  have K9 := Lib.hid (q_Faces c ST1.out HFIT.out d F hF)
  have K11 := Lib.hid (q_Fields c5 ST2.out fit2.out d HD.out V (by rw [HL2.out, fieldsT_app hap2 HDL.out]; exact hV))
  have K12 := Lib.hid (q_Fields c ST1.out HFIT.out d HD.out V hV)
  have K14 := Lib.hid (q_Find c5 ST2.out fit2.out nm (L.length : Int) (by rw [HL2.out]; exact (findT_new hap2).symm))
  have LC : Hid (C.length ≤ 1000000000) := by rw [hC]; exact Nat.le_trans (chainT_met L d).len HFIT.out.cnt
  have LF : Hid (F.length ≤ 1000000000) := by rw [hF]; exact Nat.le_trans (facesT_met L d).len HFIT.out.cnt
  have LV : Hid (V.length ≤ 1700000000000) := by rw [hV]; exact fieldsT_len HFIT.out d
  have z0 := CE.out _ u0
  clear hC hF hV hfa hia hap2 e1 e2
  simp only [List.append_eq, List.cons_append, List.nil_append]
  go_region_held3 (fun w' => w'.cell? ⟨w.heap.size, 0, none⟩ = some (.slice A L.length c) ∧ w'.cell? ⟨gb, 0, none⟩ = some (.slice A5 L2.length c5) ∧ w'.cell? ⟨g1, 0, none⟩ = some (.int .i64 m0) ∧ w'.cell? ⟨g1, 1, none⟩ = some (.int .i64 m1) ∧ w'.cell? ⟨g2, 0, none⟩ = some (.int .i64 m0) ∧ w'.cell? ⟨g2, 1, none⟩ = some (.int .i64 m1)) (first | exact z15 | exact z14 | exact z13 | exact z12 | exact z11 | exact z10 | exact z9 | exact z8 | exact z7 | exact z6 | exact z5 | exact z4 | exact z3 | exact z2 | exact z1 | exact z0)
    (first
      | (go_at_call 13; refine (q_awake QT.step _ u14).mono ?_; rintro e15 w15 ⟨rfl, u15, -⟩; have z15 := CE.out _ u15)
      | (have _h := u13; go_at_call 20; refine (K14.out _ u13).mono ?_; rintro e14 w14 ⟨rfl, u14, -⟩; have z14 := CE.out _ u14)
      | (go_at_call 27; refine (q_SameVars QT.step V LV.out _ _ A11 A12 c11 c12 _ u12 r11b r12).mono ?_; rintro e13 w13 ⟨rfl, u13, -⟩; have z13 := CE.out _ u13)
      | (have _h := u11; go_at_call 19; refine (K12.out _ u11).mono ?_; rintro e12 w12 ⟨A12, c12, rfl, r12, u12, k12⟩; have z12 := CE.out _ u12; have r11b := VRow.far r11 k12)
      | (go_at_call 19; refine (K11.out _ u10).mono ?_; rintro e11 w11 ⟨A11, c11, rfl, r11, u11, -⟩; have z11 := CE.out _ u11)
      | (have _h := u9; go_at_call 22; refine (q_SameInts QT.step F LF.out _ _ A8 A9 c8 c9 _ u9 r8b r9).mono ?_; rintro e10 w10 ⟨rfl, u10, -⟩; have z10 := CE.out _ u10)
      | (have _h := u8; go_at_call 18; refine (K9.out _ u8).mono ?_; rintro e9 w9 ⟨A9, c9, rfl, r9, u9, k9⟩; have z9 := CE.out _ u9; have r8b := IRow.far r8 k9)
      | (go_at_call 18; refine (K8.out _ u7).mono ?_; rintro e8 w8' ⟨A8, c8, rfl, r8, u8, -⟩; have z8 := CE.out _ u8)
      | (go_at_call 22; refine (q_SameInts QT.step C LC.out _ _ A5' A6 c5' c6 _ u6 r5b r6).mono ?_; rintro e7 w7' ⟨rfl, u7, -⟩; have z7 := CE.out _ u7)
      | (have _h := u5; go_at_call 17; refine (K6.out _ u5).mono ?_; rintro e6 w6' ⟨A6, c6, rfl, r6, u6, k6⟩; have z6 := CE.out _ u6; have r5b := IRow.far r5 k6)
      | (go_at_call 17; refine (K5.out _ u4).mono ?_; rintro e5 w5' ⟨A5', c5', rfl, r5, u5, -⟩; have z5 := CE.out _ u5)
      | (have _h := u3; go_at_call 25; refine (K4.out _ u3).mono ?_; rintro e4 w4' ⟨rfl, u4, -⟩; have z4 := CE.out _ u4)
      | (go_at_call 25; refine (K3.out _ u2).mono ?_; rintro e3 w3' ⟨rfl, u3, -⟩; have z3 := CE.out _ u3)
      | (have _h := u1; go_at_call 20; refine (K2.out _ u1).mono ?_; rintro e2 w2' ⟨rfl, u2, -⟩; have z2 := CE.out _ u2)
      | (go_at_call 20; refine (K1.out _ (by first | exact u0 | exact QT.drew u0)).mono ?_; rintro e1 w1' ⟨rfl, u1, -⟩; have z1 := CE.out _ u1))
  clear z0 z1 z2 z3 z4 z5 z6 z7 z8 z9 z10 z11 z12 z13 z14 z15
  go_wp2_with fail
  go_ret
  exact ⟨rfl, HU.out.out (HBB.out _ (Lib.hid u15.out.below)).1.out⟩
end Go.Proofs.Ytkpieolmepngjaa
