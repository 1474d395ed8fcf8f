/-
  governorref6.Is BY A CONTRACT.
-/
import Derived.Test.YtkpieolmepngjaaTbRefF
namespace Go.Proofs.Ytkpieolmepngjaa
open Go Go.RowKit
set_option linter.unusedVariables false
set_option linter.unusedSimpArgs false

/-- a class, an interface, neither. -/
theorem kinds3 (k : Int) : ((k != 2) = false ∧ (k != 1) = true ∧ decide (k = 2) = true ∧ decide (k = 1) = false) ∨ ((k != 2) = true ∧ (k != 1) = false ∧ decide (k = 2) = false ∧ decide (k = 1) = true) ∨ ((k != 2) = true ∧ (k != 1) = true ∧ decide (k = 2) = false ∧ decide (k = 1) = false) := by
  by_cases h2 : k = 2
  · subst h2; left; decide
  · by_cases h1 : k = 1
    · subst h1; right; left; decide
    · right; right; simp [h1, h2]
set_option maxHeartbeats 4000000 in
set_option maxRecDepth 100000 in
theorem refIs_any (L : List DT) (A : Option Addr) (c : Nat) (name what : ByteArray) (w : World) (ha : DsR w w.heap.size A L) (hcnt : L.length ≤ 1000000000) (hfs : ∀ d ∈ L, d.faces.length ≤ 1000000000) :
    Calls Try.prog 26 #[.agg #[.slice A L.length c], .string name, .string what] w fun e w' => e = .returned (.bool (isT L name what)) ∧ Below w.heap.size w w' := by
  obtain ⟨R0, hR0⟩ : ∃ R0 : World, R0 = w.alloc (.cells #[.slice A L.length c] 24) := ⟨_, rfl⟩
  have hu : UAt w R0 A c L := hR0 ▸ UAt.of ha
  have HU := Lib.hid hu
  have HR0 := Lib.hid hR0
  have HU0 : Hid (∀ W, Hid (Below R0.heap.size R0 W) → W.cell? ⟨w.heap.size, 0, none⟩ = some (.slice A L.length c)) := fun W h => hu.cell W h.out
  have KK : Hid (∀ W d, Hid (Below R0.heap.size R0 W) → Calls Try.prog 49 #[.agg #[.slice A L.length c], .int .i64 d] W fun e w' => e = .returned (.int .i64 (kindT L d)) ∧ Hid (Below R0.heap.size R0 w')) := fun W d hb => (refKind_any L A c d W (hu.rowAt hb)).mono fun e w' hh => ⟨hh.1, hb.out.trans (hh.2.mono hb.out.size)⟩
  have KF : Hid (∀ W s, Hid (Below R0.heap.size R0 W) → Calls Try.prog 21 #[.agg #[.slice A L.length c], .string s] W fun e w' => e = .returned (.int .i64 (findT L s)) ∧ Hid (Below R0.heap.size R0 w')) := fun W s hb => (refFind_any L A c s W (hu.rowAt hb) hcnt).mono fun e w' hh => ⟨hh.1, hb.out.trans (hh.2.mono hb.out.size)⟩
  have KC : Hid (∀ W d, Hid (Below R0.heap.size R0 W) → Calls Try.prog 23 #[.agg #[.slice A L.length c], .int .i64 d] W fun e w' => ∃ A' c', e = .returned (.slice A' (chainT L d).length c') ∧ Hid (IRow R0.heap.size w' A' c' (chainT L d)) ∧ Hid (Below R0.heap.size R0 w')) := fun W d hb => (refChain_any L A c d W (hu.rowAt hb) hcnt).mono fun e w' hh => by
    obtain ⟨A', c', h1, h2, h3⟩ := hh
    exact ⟨A', c', h1, ⟨ownsRow_lower hb.out.size h2.1, h2.2⟩, hb.out.trans (h3.mono hb.out.size)⟩
  have KFA : Hid (∀ W d, Hid (Below R0.heap.size R0 W) → Calls Try.prog 24 #[.agg #[.slice A L.length c], .int .i64 d] W fun e w' => ∃ A' c', e = .returned (.slice A' (facesT L d).length c') ∧ Hid (IRow R0.heap.size w' A' c' (facesT L d)) ∧ Hid (Below R0.heap.size R0 w')) := fun W d hb => (refFaces_any L A c d W (hu.rowAt hb) hcnt hfs).mono fun e w' hh => by
    obtain ⟨A', c', h1, h2, h3⟩ := hh
    exact ⟨A', c', h1, ⟨ownsRow_lower hb.out.size h2.1, h2.2⟩, hb.out.trans (h3.mono hb.out.size)⟩
  have KH : Hid (∀ W l A' c' n, l.length ≤ 1000000000 → Hid (IRow R0.heap.size W A' c' l) → Calls Try.prog 55 #[.slice A' l.length c', .int .i64 n] W fun e w' => e = .returned (.bool (l.contains n)) ∧ w' = W) := fun W l A' c' n hl hr => refHas_any l A' c' n W hr.out.nsr hl
  have HBW : Hid (∀ W, Hid (Below R0.heap.size R0 W) → Below w.heap.size w W) := fun W h => hu.out h.out
  obtain ⟨d, hd⟩ : ∃ d, d = findT L name := ⟨_, rfl⟩
  obtain ⟨m, hm⟩ : ∃ m, m = findT L what := ⟨_, rfl⟩
  have hcl : (chainT L d).length ≤ 1000000000 := Nat.le_trans (chainT_met L d).len hcnt
  have hfl : (facesT L d).length ≤ 1000000000 := Nat.le_trans (facesT_met L d).len hcnt
  obtain ⟨r, hr⟩ : ∃ r, r = isT L name what := ⟨_, rfl⟩
  rw [← hr]
  have hr1 : r = ((isOfT L d 2 || isOfT L d 1) && (decide (name = what) || (chainT L d).contains m || (facesT L d).contains m)) := by rw [hr, isT, ← hd, ← hm]
  have k2 : isOfT L d 2 = decide (kindT L d = 2) := kindT_isOf _ _ _ (by decide)
  have k1 : isOfT L d 1 = decide (kindT L d = 1) := kindT_isOf _ _ _ (by decide)
  rw [k1, k2] at hr1
  obtain ⟨k, hk⟩ : ∃ k, k = kindT L d := ⟨_, rfl⟩
  have KF1 : Hid (∀ W, Hid (Below R0.heap.size R0 W) → Calls Try.prog 21 #[.agg #[.slice A L.length c], .string name] W fun e w' => e = .returned (.int .i64 d) ∧ Hid (Below R0.heap.size R0 w')) := fun W h => hd ▸ KF.out W name h
  have KF2 : Hid (∀ W, Hid (Below R0.heap.size R0 W) → Calls Try.prog 21 #[.agg #[.slice A L.length c], .string what] W fun e w' => e = .returned (.int .i64 m) ∧ Hid (Below R0.heap.size R0 w')) := fun W h => hm ▸ KF.out W what h
  have KK1 : Hid (∀ W, Hid (Below R0.heap.size R0 W) → Calls Try.prog 49 #[.agg #[.slice A L.length c], .int .i64 d] W fun e w' => e = .returned (.int .i64 k) ∧ Hid (Below R0.heap.size R0 w')) := fun W h => hk ▸ KK.out W d h
  rw [← hk] at hr1
  have KC1 := Lib.hid (fun W => KC.out W d)
  have KFA1 := Lib.hid (fun W => KFA.out W d)
  obtain ⟨CH, hCH⟩ : ∃ x, x = chainT L d := ⟨_, rfl⟩
  obtain ⟨FA, hFA⟩ : ∃ x, x = facesT L d := ⟨_, rfl⟩
  rw [← hCH] at KC1 hcl hr1
  rw [← hFA] at KFA1 hfl hr1
  have KH1 : Hid (∀ W A' c', Hid (IRow R0.heap.size W A' c' CH) → Calls Try.prog 55 #[.slice A' CH.length c', .int .i64 m] W fun e w' => e = .returned (.bool (CH.contains m)) ∧ w' = W) := fun W A' c' h => KH.out W CH A' c' m hcl h
  have KH2 : Hid (∀ W A' c', Hid (IRow R0.heap.size W A' c' FA) → Calls Try.prog 55 #[.slice A' FA.length c', .int .i64 m] W fun e w' => e = .returned (.bool (FA.contains m)) ∧ w' = W) := fun W A' c' h => KH.out W FA A' c' m hfl h
  obtain ⟨b1, hb1⟩ : ∃ b, b = CH.contains m := ⟨_, rfl⟩
  obtain ⟨b2, hb2⟩ : ∃ b, b = FA.contains m := ⟨_, rfl⟩
  rw [← hb1] at KH1 hr1
  rw [← hb2] at KH2 hr1
  have HRr := Lib.hid hr1
  clear KF KC KFA KK KH hu hr hr1 k1 k2 hk hb1 hb2 hCH hFA hcl hfl hd hm hcnt hfs ha hR0
  have HB0 : Hid (Below R0.heap.size R0 R0) := Below.refl _ _
  have y0 := HU0.out _ HB0
  go_enter Try.func26, Try.ntmps26
  rw [HR0.out] at y0
  go_wp2_with fail
  rw [← HR0.out] at y0 ⊢
  refine (KF1.out _ HB0).mono ?_
  rintro e1 w1 ⟨rfl, h1⟩
  clear y0
  have y0 := HU0.out _ h1
  go_wp2_with fail
  refine (KK1.out _ h1).mono ?_
  rintro e2 w2 ⟨rfl, h2⟩
  clear y0 h1
  have y0 := HU0.out _ h2
  rcases kinds3 k with ⟨p2, p1, e2, e1⟩ | ⟨p2, p1, e2, e1⟩ | ⟨p2, p1, e2, e1⟩
  rotate_left 2
  · skip
    have HF : Hid (r = false) := by unfold Hid; rw [HRr.out]; simp [e1, e2]
    clear e1 e2
    go_wp2_with fail
    go_ret
    exact ⟨by rw [HF.out]; rfl, HBW.out _ h2⟩
  all_goals
    have HRR : Hid (r = (decide (name = what) || b1 || b2)) := by unfold Hid; rw [HRr.out]; simp only [e1, e2, Bool.true_or, Bool.or_true, Bool.true_and]
    clear e1 e2
    go_wp2_with fail
    refine (KF2.out _ h2).mono ?_
    rintro e3 w3 ⟨rfl, h3⟩
    clear y0 h2
    have y0 := HU0.out _ h3
    by_cases q : name = what
    · have qq := str_eq q
      have HF : Hid (r = true) := by unfold Hid; rw [HRR.out]; simp [q]
      clear q
      go_wp2_with fail
      go_ret
      exact ⟨by rw [HF.out]; rfl, HBW.out _ h3⟩
    · have qq := str_ne q
      have HF1 : Hid (r = (b1 || b2)) := by unfold Hid; rw [HRR.out]; simp [q]
      clear q
      go_wp2_with fail
      refine (KC1.out _ h3).mono ?_
      rintro e4 w4 ⟨A4, c4, rfl, r4, h4⟩
      clear y0 h3
      have y0 := HU0.out _ h4
      go_wp2_with fail
      refine (KH1.out _ _ _ r4).mono ?_
      rintro e5 w5 ⟨rfl, rfl⟩
      cases b1
      · have HF2 : Hid (r = b2) := by unfold Hid; rw [HF1.out]; simp
        go_wp2_with fail
        refine (KFA1.out _ h4).mono ?_
        rintro e6 w6 ⟨A6, c6, rfl, r6, h6⟩
        clear y0 h4
        go_wp2_with fail
        refine (KH2.out _ _ _ r6).mono ?_
        rintro e7 w7 ⟨rfl, rfl⟩
        go_wp2_with fail
        go_ret
        exact ⟨by rw [HF2.out]; rfl, HBW.out _ h6⟩
      · have HF2 : Hid (r = true) := by unfold Hid; rw [HF1.out]; simp
        go_wp2_with fail
        go_ret
        exact ⟨by rw [HF2.out]; rfl, HBW.out _ h4⟩
end Go.Proofs.Ytkpieolmepngjaa
