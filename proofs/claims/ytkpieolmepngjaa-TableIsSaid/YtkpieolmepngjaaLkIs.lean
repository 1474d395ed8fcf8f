/-
  lookup: what is of one name, and stands for another, BY CONTRACTS.
-/
import Derived.Test.YtkpieolmepngjaaLkFaces
namespace Go.Proofs.Ytkpieolmepngjaa
open Go Go.RowKit
set_option linter.unusedVariables false
set_option linter.unusedSimpArgs false

/-- what a call of an index answers. -/
def XRet (L : List DT) (A : Option Addr) (c p N : Nat) (W : World) (I : IX) (v : Value) (e : Ending) (w' : World) : Prop := ∃ I', e = .returned v ∧ Hid (XAt L A c p N w' I') ∧ Hid (XTo p W I w' I')
def thingT (L : List DT) (s : ByteArray) : Bool := isOfT L (findT L s) 2 || isOfT L (findT L s) 1
def typeV (L : List DT) (s : ByteArray) : Value := .tuple #[.int .i64 (if thingT L s then findT L s else 0), .bool (thingT L s)]
set_option maxHeartbeats 1000000 in
set_option maxRecDepth 100000 in
theorem lkType_any (L : List DT) (A : Option Addr) (c p N : Nat) (I : IX) (s : ByteArray) (w : World) (h : XAt L A c p N w I) (hfit : Fit L) :
    Calls Try.prog 71 #[.pointer (some ⟨p, 0, none⟩), .string s] w (XRet L A c p N w I (typeV L s)) := by
  have hcl0 := hfit.cnt
  have hfew := hfit.len
  obtain ⟨d, hd⟩ : ∃ d, d = findT L s := ⟨_, rfl⟩
  have KF : Hid (Calls Try.prog 69 #[.pointer (some ⟨p, 0, none⟩), .string s] w fun e w' => e = .returned (.int .i64 d) ∧ Hid (XAt L A c p N w' I) ∧ Hid (XTo p w I w' I)) := hd ▸ lkFind_few L A c p N I s w h hcl0 hfew
  obtain ⟨b2, hb2⟩ : ∃ b, b = isOfT L d 2 := ⟨_, rfl⟩
  obtain ⟨b1, hb1⟩ : ∃ b, b = isOfT L d 1 := ⟨_, rfl⟩
  have K2 : Hid (∀ W, Hid (XAt L A c p N W I) → Calls Try.prog 65 #[.pointer (some ⟨p, 0, none⟩), .int .i64 d, .int .i64 2] W fun e w' => e = .returned (.bool b2) ∧ Hid (Below W.heap.size W w')) := fun W hx => hb2 ▸ lkIsOf_any L A c p N I d 2 W hx.out
  have K1 : Hid (∀ W, Hid (XAt L A c p N W I) → Calls Try.prog 65 #[.pointer (some ⟨p, 0, none⟩), .int .i64 d, .int .i64 1] W fun e w' => e = .returned (.bool b1) ∧ Hid (Below W.heap.size W w')) := fun W hx => hb1 ▸ lkIsOf_any L A c p N I d 1 W hx.out
  have hv : typeV L s = .tuple #[.int .i64 (if (b2 || b1) then d else 0), .bool (b2 || b1)] := by unfold typeV thingT; rw [← hd, ← hb2, ← hb1]
  unfold XRet
  rw [hv]
  clear hv hb1 hb2 hd h hfit
  go_enter Try.func71, Try.ntmps71
  go_wp2_with fail
  refine KF.out.mono ?_
  rintro e1 w1 ⟨rfl, hx1, ht1⟩
  go_wp2_with fail
  refine (K2.out _ hx1).mono ?_
  rintro e2 w2 ⟨rfl, hb2⟩
  have hx2 := Lib.hid (hx1.out.below hb2.out)
  have ht2 := Lib.hid (ht1.out.trans (XTo.of_below hb2.out))
  clear hx1 ht1 hb2
  cases b2
  case' false =>
    go_wp2_with fail
    refine (K1.out _ hx2).mono ?_
    rintro e3 w3 ⟨rfl, hb3⟩
    have hx3 := Lib.hid (hx2.out.below hb3.out)
    have ht3 := Lib.hid (ht2.out.trans (XTo.of_below hb3.out))
    clear hx2 ht2 hb3
    cases b1
    case false =>
      go_wp2_with fail
      go_ret2
      exact ⟨rfl, I, hx3, ht3⟩
    have hx2 := hx3
    have ht2 := ht3
    clear hx3 ht3
  all_goals
    go_wp2_with fail
    go_ret2
    exact ⟨rfl, I, hx2, ht2⟩
set_option maxHeartbeats 4000000 in
set_option maxRecDepth 100000 in
theorem lkIs_any (L : List DT) (A : Option Addr) (c p N : Nat) (I : IX) (name what : ByteArray) (w : World) (h : XAt L A c p N w I) (hfit : Fit L) :
    Calls Try.prog 56 #[.pointer (some ⟨p, 0, none⟩), .string name, .string what] w (XRet L A c p N w I (.bool (isT L name what))) := by
  have hcnt := hfit.cnt
  have hfew := hfit.len
  obtain ⟨d, hd⟩ : ∃ d, d = findT L name := ⟨_, rfl⟩
  obtain ⟨m, hm⟩ : ∃ m, m = findT L what := ⟨_, rfl⟩
  obtain ⟨th, hth⟩ : ∃ b, b = thingT L name := ⟨_, rfl⟩
  obtain ⟨d2, hd2⟩ : ∃ d2, d2 = (if th then d else 0) := ⟨_, rfl⟩
  have KT : Hid (Calls Try.prog 71 #[.pointer (some ⟨p, 0, none⟩), .string name] w fun e w' => ∃ I', e = .returned (.tuple #[.int .i64 d2, .bool th]) ∧ Hid (XAt L A c p N w' I') ∧ Hid (XTo p w I w' I')) := by
    have := lkType_any L A c p N I name w h hfit
    unfold XRet typeV at this
    rw [← hth, ← hd, ← hd2] at this
    exact this
  have KF : Hid (∀ W J, Hid (XAt L A c p N W J) → Calls Try.prog 69 #[.pointer (some ⟨p, 0, none⟩), .string what] W fun e w' => e = .returned (.int .i64 m) ∧ Hid (XAt L A c p N w' J) ∧ Hid (XTo p W J w' J)) := fun W J hx => hm ▸ lkFind_few L A c p N J what W hx.out hcnt hfew
  have KC : Hid (∀ W J, Hid (XAt L A c p N W J) → Calls Try.prog 51 #[.pointer (some ⟨p, 0, none⟩), .int .i64 d] W (XSays L A c p N W J (chainT L d))) := fun W J hx => lkChain_any L A c p N J d W hx.out hfit
  have KFA : Hid (∀ W J, Hid (XAt L A c p N W J) → Calls Try.prog 52 #[.pointer (some ⟨p, 0, none⟩), .int .i64 d] W (XSays L A c p N W J (facesT L d))) := fun W J hx => lkFaces_any L A c p N J d W hx.out hfit
  have KH : Hid (∀ W B l A' c' n, l.length ≤ 1000000000 → Hid (IRow B W A' c' l) → Calls Try.prog 72 #[.slice A' l.length c', .int .i64 n] W fun e w' => e = .returned (.bool (l.contains n)) ∧ w' = W) := fun W B l A' c' n hl hr => contains_any l A' c' n W hr.out.nsr hl
  have hcl : (chainT L d).length ≤ 1000000000 := Nat.le_trans (chainT_met L d).len hcnt
  have hfl : (facesT L d).length ≤ 1000000000 := Nat.le_trans (facesT_met L d).len hcnt
  obtain ⟨r, hr⟩ : ∃ r, r = isT L name what := ⟨_, rfl⟩
  rw [← hr]
  have hr1 : r = (th && (decide (name = what) || (chainT L d).contains m || (facesT L d).contains m)) := by rw [hr, isT, hth, thingT, ← hd, ← hm]
  obtain ⟨CH, hCH⟩ : ∃ x, x = chainT L d := ⟨_, rfl⟩
  obtain ⟨FA, hFA⟩ : ∃ x, x = facesT L d := ⟨_, rfl⟩
  rw [← hCH] at KC hcl hr1
  rw [← hFA] at KFA hfl hr1
  have KH1 : Hid (∀ W B A' c', Hid (IRow B W A' c' CH) → Calls Try.prog 72 #[.slice A' CH.length c', .int .i64 m] W fun e w' => e = .returned (.bool (CH.contains m)) ∧ w' = W) := fun W B A' c' h => KH.out W B CH A' c' m hcl h
  have KH2 : Hid (∀ W B A' c', Hid (IRow B W A' c' FA) → Calls Try.prog 72 #[.slice A' FA.length c', .int .i64 m] W fun e w' => e = .returned (.bool (FA.contains m)) ∧ w' = W) := fun W B A' c' h => KH.out W B FA A' c' m hfl h
  obtain ⟨b3, hb3⟩ : ∃ b, b = CH.contains m := ⟨_, rfl⟩
  obtain ⟨b4, hb4⟩ : ∃ b, b = FA.contains m := ⟨_, rfl⟩
  rw [← hb3] at KH1 hr1
  rw [← hb4] at KH2 hr1
  have HRr := Lib.hid hr1
  have HD2 := Lib.hid hd2
  unfold XRet
  clear hr hr1 hb3 hb4 hCH hFA hcl hfl hd hm hcnt hfit KH h hth hd2 hfew
  go_enter Try.func56, Try.ntmps56
  go_wp2_with fail
  refine KT.out.mono ?_
  rintro e1 w1 ⟨J1, rfl, hx1, ht1⟩
  cases th
  · have HF : Hid (r = false) := HRr.out
    go_wp2_with fail
    go_ret
    exact ⟨J1, by rw [HF.out]; rfl, hx1, ht1⟩
  · have HRR : Hid (r = (decide (name = what) || b3 || b4)) := HRr.out
    have hdd : d2 = d := HD2.out
    subst hdd
    by_cases q : name = what
    · have qq := str_eq q
      have HF : Hid (r = true) := by unfold Hid; rw [HRR.out]; simp [q]
      clear q
      go_wp2_with fail
      go_ret
      exact ⟨J1, by rw [HF.out]; rfl, hx1, ht1⟩
    · have qq := str_ne q
      have HF1 : Hid (r = (b3 || b4)) := by unfold Hid; rw [HRR.out]; simp [q]
      clear q
      go_wp2_with fail
      refine (KF.out _ _ hx1).mono ?_
      rintro e3 w3 ⟨rfl, hx3, ht3⟩
      have ht3 := Lib.hid (ht1.out.trans ht3.out)
      go_wp2_with fail
      refine (KC.out _ _ hx3).mono ?_
      rintro e4 w4 ⟨A4, c4, J4, rfl, r4, n4, hx4, ht4⟩
      have ht4 := Lib.hid (ht3.out.trans ht4.out)
      clear hx3
      go_wp2_with fail
      refine (KH1.out _ _ _ _ r4).mono ?_
      rintro e5 w5 ⟨rfl, rfl⟩
      cases b3
      · have HF2 : Hid (r = b4) := by unfold Hid; rw [HF1.out]; simp
        go_wp2_with fail
        refine (KFA.out _ _ hx4).mono ?_
        rintro e6 w6 ⟨A6, c6, J6, rfl, r6, n6, hx6, ht6⟩
        have ht6 := Lib.hid (ht4.out.trans ht6.out)
        clear hx4
        go_wp2_with fail
        refine (KH2.out _ _ _ _ r6).mono ?_
        rintro e7 w7 ⟨rfl, rfl⟩
        go_wp2_with fail
        go_ret
        exact ⟨J6, by rw [HF2.out]; rfl, hx6, ht6⟩
      · have HF2 : Hid (r = true) := by unfold Hid; rw [HF1.out]; simp
        go_wp2_with fail
        go_ret
        exact ⟨J4, by rw [HF2.out]; rfl, hx4, ht4⟩
end Go.Proofs.Ytkpieolmepngjaa
