/-
  governorlaw0: GreatTexts, vars, exprs BY CONTRACTS: some answer, nothing changed.
-/
import Derived.Test.YtmbddofcildibaaK1
import Derived.WalkSpells
import Derived.Deep.RegionWith
import Derived.Deep.RegionHeld3
import Derived.Deep.AppendLies
namespace Go.Proofs.Ytmbddofcildibaa
open Go Go.RowKit

/-- some bool, nothing changed; some number. -/
def SomeB (w : World) (e : Ending) (w' : World) : Prop := (∃ r : Bool, e = .returned (.bool r)) ∧ Below w.heap.size w w'
def SomeN (w : World) (e : Ending) (w' : World) : Prop := (∃ n : Int, e = .returned (.int .i64 n)) ∧ Below w.heap.size w w'

set_option maxHeartbeats 1000000 in
theorem greatTexts_any (L : List ByteArray) (A : Option Addr) (c : Nat) (most long : Int) (w : World) (ha : XsR w w.heap.size A L) (hcnt : L.length ≤ 1000000000) :
    Calls Try.prog 43 #[.slice A L.length c, .int .i64 most, .int .i64 long] w (SomeB w) := by
  have HA := Lib.hid (fun (w' : World) (hb : Below w.heap.size w w') => XsR.mono (Nat.le_refl _) hb.block ha)
  clear ha
  go_enter Try.func43, Try.ntmps43
  go_wp2_with fail
  go_loopw [7] (fun i wr => ∃ k : Nat, k ≤ L.length ∧ i = .int .i64 k ∧ Hid (Below w.heap.size w wr)) (fun i _ => L.length - (intOf i).toNat)
  case atStart => exact ⟨0, Nat.zero_le _, rfl, Below.refl _ _⟩
  case round =>
    obtain ⟨k, hk, rfl, hb⟩ := hrel
    by_cases hlt : k < L.length
    · have h1 : (k : Int) < (L.length : Int) := by omega
      have h2 : (0 : Int) ≤ (k : Int) := by omega
      by_cases hm : (L.length : Int) ≤ most
      · obtain ⟨g, o, cs, rfl, hg, hlen, hc, he⟩ := HA.out wr hb.out k hlt
        obtain ⟨s, hN⟩ : ∃ s : ByteArray, s = L[k] := ⟨_, rfl⟩
        rw [← hN] at he
        obtain rfl := he
        have c0 := hc 0 _ rfl
        simp only [Nat.mul_one, Nat.add_zero] at c0
        by_cases hs : long < (s.size : Int)
        · clear hc hlen hg hN
          go_wp2_with fail
          go_ret
          exact ⟨⟨_, rfl⟩, hb.out⟩
        · clear hc hlen hg hN
          go_wp2_with fail
          go_roundw
          case rel => exact ⟨k + 1, by omega, by go_num, hb⟩
          case measure => simp [intOf]; omega
      · go_wp2_with fail
        go_ret
        exact ⟨⟨_, rfl⟩, hb.out⟩
    · have h1 : ¬ (k : Int) < (L.length : Int) := by omega
      go_wp2_with fail
      go_ret
      exact ⟨⟨_, rfl⟩, hb.out⟩

set_option maxHeartbeats 1000000 in
theorem vars_great (L : List VT) (A : Option Addr) (c : Nat) (most : Int) (w : World) (ha : VsR w w.heap.size A L) (hcnt : L.length ≤ 1000000000) :
    Calls Try.prog 44 #[.slice A L.length c, .int .i64 most] w (SomeN w) := by
  have HA := Lib.hid (fun (w' : World) (hb : Below w.heap.size w w') => VsR.mono (Nat.le_refl _) hb.block ha)
  clear ha
  go_enter Try.func44, Try.ntmps44
  go_wp2_with fail
  go_loopw [5] (fun i wr => ∃ k : Nat, k ≤ L.length ∧ i = .int .i64 k ∧ Hid (Below w.heap.size w wr)) (fun i _ => L.length - (intOf i).toNat)
  case atStart => exact ⟨0, Nat.zero_le _, rfl, Below.refl _ _⟩
  case round =>
    obtain ⟨k, hk, rfl, hb⟩ := hrel
    by_cases hlt : k < L.length
    · have h1 : (k : Int) < (L.length : Int) := by omega
      have h2 : (0 : Int) ≤ (k : Int) := by omega
      by_cases hm : (L.length : Int) ≤ most
      · obtain ⟨g, o, cs, rfl, hg, hlen, hc, he⟩ := HA.out wr hb.out k hlt
        obtain ⟨⟨nm, ⟨yk, ylo, yhi, ynm⟩, ini, dir, slot⟩, hN⟩ : ∃ s : VT, s = L[k] := ⟨_, rfl⟩
        rw [← hN] at he
        obtain ⟨rfl, hwf⟩ := he
        have c0 := hc 0 _ rfl
        have c4 := hc 4 _ rfl
        rw [Nat.add_zero] at c0
        by_cases hs : (60 : Int) < (nm.size : Int)
        · clear hc hlen hg hN
          go_wp2_with fail
          go_ret
          exact ⟨⟨_, rfl⟩, hb.out⟩
        · by_cases hs2 : (60 : Int) < (ynm.size : Int)
          · clear hc hlen hg hN
            go_wp2_with fail
            go_ret
            exact ⟨⟨_, rfl⟩, hb.out⟩
          · clear hc hlen hg hN
            go_wp2_with fail
            go_roundw
            case rel => exact ⟨k + 1, by omega, by go_num, hb⟩
            case measure => simp [intOf]; omega
      · go_wp2_with fail
        go_ret
        exact ⟨⟨_, rfl⟩, hb.out⟩
    · have h1 : ¬ (k : Int) < (L.length : Int) := by omega
      go_wp2_with fail
      go_ret
      exact ⟨⟨_, rfl⟩, hb.out⟩

/-- exprs says something. -/
def GX (L : List ET) : Prop := wEs L ≤ 1000000000 → ∀ (A : Option Addr) (c : Nat) (most : Int) (w : World), EsR w w.heap.size A L → Calls Try.prog 64 #[.slice A L.length c, .int .i64 most] w (SomeN w)
def ET.args : ET → List ET | .mk _ _ _ _ a => a
theorem wEs_len : ∀ L : List ET, L.length ≤ wEs L
  | [] => by simp [wEs]
  | .mk k n nm wh args :: r => by have := wEs_len r; simp only [wEs, wE, List.length_cons]; omega
theorem wEs_at : ∀ (L : List ET) (k : Nat) (hk : k < L.length), wEs L[k].args ≤ wEs L
  | .mk _ _ _ _ args :: r, 0, _ => by simp only [List.getElem_cons_zero, ET.args, wEs, wE]; omega
  | e :: r, k + 1, hk => by
    have := wEs_at r k (by simpa using hk)
    simp only [List.getElem_cons_succ, wEs]
    omega

set_option maxHeartbeats 1000000 in
theorem gx_of (L : List ET) (ih : ∀ (k : Nat) (hk : k < L.length), GX L[k].args) : GX L := by
  intro hw A c most w ha
  have hcnt : L.length ≤ 1000000000 := Nat.le_trans (wEs_len L) hw
  have HA := Lib.hid (fun (w' : World) (hb : Below w.heap.size w w') => EsR.mono (Nat.le_refl _) hb.block ha)
  have IH : Hid (∀ (k : Nat) (hk : k < L.length) (A : Option Addr) (c : Nat) (most : Int) (w : World), EsR w w.heap.size A L[k].args → Calls Try.prog 64 #[.slice A L[k].args.length c, .int .i64 most] w (SomeN w)) := fun k hk => ih k hk (Nat.le_trans (wEs_at L k hk) hw)
  clear ha ih hw
  go_enter Try.func64, Try.ntmps64
  go_wp2_with fail
  go_loopw [5, 6] (fun m i wr => ∃ (k : Nat) (n : Int), k ≤ L.length ∧ m = .int .i64 n ∧ i = .int .i64 k ∧ Hid (Below w.heap.size w wr)) (fun _ i _ => L.length - (intOf i).toNat)
  case atStart => exact ⟨0, 0, Nat.zero_le _, rfl, rfl, Below.refl _ _⟩
  case round =>
    obtain ⟨k, n, hk, rfl, rfl, hb⟩ := hrel
    by_cases hlt : k < L.length
    · have h1 : (k : Int) < (L.length : Int) := by omega
      have h2 : (0 : Int) ≤ (k : Int) := by omega
      by_cases hm : n ≤ most
      · obtain ⟨g, o, cs, rfl, hg, hlen, hc, he⟩ := HA.out wr hb.out k hlt
        have KX := IH.out k hlt
        obtain ⟨⟨xk, xn, nm, wh, args⟩, hN⟩ : ∃ s : ET, s = L[k] := ⟨_, rfl⟩
        rw [← hN] at he KX
        obtain ⟨A', c', rfl, hn, hr⟩ := he.form
        have KX : Hid (∀ (m : Int) (W : World), W.heap = wr.heap → Calls Try.prog 64 #[.slice A' args.length c', .int .i64 m] W (SomeN W)) := fun m W hW => KX A' c' m W (EsR.mono (by rw [hW]; exact hb.out.size) (fun g _ => by rw [hW]) hr)
        have c2 := hc 2 _ rfl
        have c3 := hc 3 _ rfl
        have c4 := hc 4 _ rfl
        by_cases hs : (60 : Int) < (nm.size : Int)
        · clear hc hlen hg hN KX he hr hn
          go_wp2_with fail
          go_ret
          exact ⟨⟨_, rfl⟩, hb.out⟩
        · by_cases hs2 : (60 : Int) < (wh.size : Int)
          · clear hc hlen hg hN KX he hr hn
            go_wp2_with fail
            go_ret
            exact ⟨⟨_, rfl⟩, hb.out⟩
          · clear hc hlen hg hN he hr hn
            go_wp2_with fail
            refine (KX.out _ _ rfl).mono ?_
            rintro e1 w1 ⟨⟨r, rfl⟩, hb1⟩
            have HB1 : Hid (Below w.heap.size w w1) := hb.out.trans (hb1.mono hb.out.size)
            clear hb1 KX
            go_wp2_with fail
            go_roundw
            case rel => exact ⟨k + 1, _, by omega, rfl, by go_num, HB1⟩
            case measure => simp [intOf]; omega
      · go_wp2_with fail
        go_ret
        exact ⟨⟨_, rfl⟩, hb.out⟩
    · have h1 : ¬ (k : Int) < (L.length : Int) := by omega
      go_wp2_with fail
      go_ret
      exact ⟨⟨_, rfl⟩, hb.out⟩
mutual
theorem gx_e : ∀ e : ET, GX e.args
  | .mk _ _ _ _ args => gx_of args (gx_es args)
theorem gx_es : ∀ (l : List ET) (k : Nat) (hk : k < l.length), GX l[k].args
  | a :: r, 0, _ => gx_e a
  | a :: r, k + 1, hk => gx_es r k (by simpa using hk)
end
theorem gx_all (L : List ET) : GX L := gx_of L (gx_es L)
end Go.Proofs.Ytmbddofcildibaa

/-
  governorlaw0: GreatExpr, stmts BY CONTRACTS: some answer, nothing changed.
-/
namespace Go.Proofs.Ytmbddofcildibaa
open Go Go.RowKit
set_option linter.unusedVariables false
set_option linter.unusedSimpArgs false

/-- stmts says something. -/
def GS (L : List ST) : Prop := wSs L ≤ 1000000000 → ∀ (A : Option Addr) (c : Nat) (most : Int) (w : World), SsR w w.heap.size A L → Calls Try.prog 45 #[.slice A L.length c, .int .i64 most] w (SomeN w)
def ST.blocks : ST → List (List ST) | .mk _ _ _ _ _ b => b
theorem wSs_len : ∀ L : List ST, L.length ≤ wSs L
  | [] => by simp [wSs]
  | .mk k n nm ex lb bs :: r => by have := wSs_len r; simp only [wSs, wS, List.length_cons]; omega
theorem wBs_len : ∀ L : List (List ST), L.length ≤ wBs L
  | [] => by simp [wBs]
  | b :: r => by have := wBs_len r; simp only [wBs, List.length_cons]; omega
theorem wBs_at : ∀ (L : List (List ST)) (k : Nat) (hk : k < L.length), wSs L[k] ≤ wBs L
  | b :: r, 0, _ => by simp only [List.getElem_cons_zero, wBs]; omega
  | b :: r, k + 1, hk => by
    have := wBs_at r k (by simpa using hk)
    simp only [List.getElem_cons_succ, wBs]
    omega
theorem wSs_at : ∀ (L : List ST) (k : Nat) (hk : k < L.length), wS L[k] ≤ wSs L
  | e :: r, 0, _ => by simp only [List.getElem_cons_zero, wSs]; omega
  | e :: r, k + 1, hk => by
    have := wSs_at r k (by simpa using hk)
    simp only [List.getElem_cons_succ, wSs]
    omega
theorem EsR.heap {w w' : World} {A : Option Addr} {l : List ET} (hb : Below w.heap.size w w') (h : EsR w w.heap.size A l) : EsR w' w'.heap.size A l := EsR.mono hb.size hb.block h

set_option maxHeartbeats 2000000 in
set_option maxRecDepth 100000 in
theorem gs_of (L : List ST) (ih : ∀ (k : Nat) (hk : k < L.length) (j : Nat) (hj : j < L[k].blocks.length), GS L[k].blocks[j]) : GS L := by
  intro hw A c most w ha
  have hcnt : L.length ≤ 1000000000 := Nat.le_trans (wSs_len L) hw
  have HA := Lib.hid (fun (w' : World) (hb : Below w.heap.size w w') => SsR.mono (Nat.le_refl _) hb.block ha)
  have IH := Lib.hid ih
  have HW := Lib.hid hw
  clear ha ih hw
  go_enter Try.func45, Try.ntmps45
  go_wp2_with fail
  go_loopw [5, 6] (fun m i wr => ∃ (k : Nat) (n : Int), k ≤ L.length ∧ m = .int .i64 n ∧ i = .int .i64 k ∧ Hid (Below w.heap.size w wr)) (fun _ i _ => L.length - (intOf i).toNat)
  case atStart => exact ⟨0, 0, Nat.zero_le _, rfl, rfl, Below.refl _ _⟩
  case round =>
    obtain ⟨R, hR⟩ : ∃ R : World, R = wr := ⟨_, rfl⟩
    subst hR
    obtain ⟨k, n, hk, rfl, rfl, hb⟩ := hrel
    by_cases hlt : k < L.length
    · have h1 : (k : Int) < (L.length : Int) := by omega
      have h2 : (0 : Int) ≤ (k : Int) := by omega
      by_cases hm : n ≤ most
      · obtain ⟨g, o, cs, rfl, hg, hlen, hc, he⟩ := HA.out R hb.out k hlt
        have KS := IH.out k hlt
        have hwk := wSs_at L k hlt
        obtain ⟨⟨sk, sn, nm, ex, lb, bs⟩, hN⟩ : ∃ s : ST, s = L[k] := ⟨_, rfl⟩
        rw [← hN] at he KS hwk
        obtain ⟨A1, c1, A2, c2, A3, c3, rfl, hn, r1, r2, r3⟩ := he.form
        simp only [wS] at hwk
        have hwl := HW.out
        have hbl : lb.length ≤ 1000000000 := by
          have : lb.length ≤ (lb.map wL).sum := by
            have : ∀ l : List (List Int), l.length ≤ (l.map wL).sum := by
              intro l
              induction l with
              | nil => simp
              | cons x r ih => simp only [List.map_cons, List.sum_cons, List.length_cons, wL]; omega
            exact this lb
          omega
        have KX : Hid (∀ (m : Int) (W : World), W.heap = R.heap → Calls Try.prog 64 #[.slice A1 ex.length c1, .int .i64 m] W (SomeN W)) := fun m W hW => gx_all ex (by omega) A1 c1 m W (EsR.mono (by rw [hW]; exact hb.out.size) (fun g _ => by rw [hW]) r1)
        have hgr : g < R.heap.size := Nat.lt_of_lt_of_le hg hb.out.size
        have HC : Hid (∀ w', Below R.heap.size R w' → w'.cell? ⟨g, o + k * 6 + 4, none⟩ = some (.slice A2 lb.length c2) ∧ w'.cell? ⟨g, o + k * 6 + 5, none⟩ = some (.slice A3 bs.length c3)) := fun w' hh => ⟨(hh.cell (p := ⟨g, o + k * 6 + 4, none⟩) hgr).trans (hc 4 _ rfl), (hh.cell (p := ⟨g, o + k * 6 + 5, none⟩) hgr).trans (hc 5 _ rfl)⟩
        have HL : Hid (∀ w', Below R.heap.size R w' → LsR w' R.heap.size A2 lb) := fun w' hh => LsR.mono (Nat.le_refl _) hh.block (LsR.mono hb.out.size (fun _ _ => rfl) r2)
        have HBb : Hid (∀ w', Below R.heap.size R w' → BsR w' R.heap.size A3 bs) := fun w' hh => BsR.mono (Nat.le_refl _) hh.block (BsR.mono hb.out.size (fun _ _ => rfl) r3)
        have hbb : bs.length ≤ 1000000000 := by have := wBs_len bs; omega
        have KB : Hid (∀ (j : Nat) (hj : j < bs.length), wSs bs[j] ≤ 1000000000) := fun j hj => by have := wBs_at bs j hj; omega
        have KS := Lib.hid KS
        have y2 := hc 2 _ rfl
        have y3 := hc 3 _ rfl
        by_cases hs : (60 : Int) < (nm.size : Int)
        · clear hc hlen hg hN he r1 r2 r3 hn hwk hwl hgr
          go_wp2_with fail
          go_ret
          exact ⟨⟨_, rfl⟩, hb.out⟩
        · clear hc hlen hg hN he r1 r2 r3 hn hwk hwl
          go_wp2_with fail
          refine (KX.out _ _ rfl).mono ?_
          rintro e1 w1 ⟨⟨r, rfl⟩, hb1⟩
          have HB1 := Lib.hid hb1
          clear hb1 KX y2 y3
          go_wp2_with fail
          go_loopw [5, 7] (fun m j w2 => ∃ (a : Nat) (n2 : Int), a ≤ lb.length ∧ m = .int .i64 n2 ∧ j = .int .i64 a ∧ Hid (Below R.heap.size R w2)) (fun _ j _ => lb.length - (intOf j).toNat)
          case atStart => exact ⟨0, _, Nat.zero_le _, rfl, rfl, HB1⟩
          case round =>
            obtain ⟨a, n2, ha, rfl, rfl, hb2⟩ := hrel
            obtain ⟨z4, z5⟩ := HC.out _ hb2.out
            have h0 : (0 : Int) ≤ (a : Int) := by omega
            have hcase : (a < lb.length ∧ n2 ≤ most) ∨ ¬ a < lb.length ∨ (a < lb.length ∧ ¬ n2 ≤ most) := by
              by_cases p1 : a < lb.length <;> by_cases p2 : n2 ≤ most <;> simp [p1, p2]
            rcases hcase with ⟨p1, p2⟩ | p1 | ⟨p1, p2⟩
            · obtain ⟨g2, o2, cs2, rfl, hg2, hlen2, hc2, A4, c4, rfl, he4⟩ := HL.out _ hb2.out a p1
              have y0 := hc2 0 _ rfl
              simp only [Nat.mul_one, Nat.add_zero] at y0
              have q1 : (a : Int) < (lb.length : Int) := by omega
              clear hc2 hlen2 hg2 he4
              go_wp2_with fail
              go_roundw
              case rel => exact ⟨a + 1, _, by omega, rfl, by go_num, hb2⟩
              case measure => simp [intOf]; omega
            all_goals
              have q1 := Lib.hid p1
              try have q2 : (a : Int) < (lb.length : Int) := by omega
              try have q2 : ¬ (a : Int) < (lb.length : Int) := by omega
              clear p1
              go_wp2_with fail
              go_loopw [5, 8] (fun m j w3 => ∃ (a : Nat) (n3 : Int), a ≤ bs.length ∧ m = .int .i64 n3 ∧ j = .int .i64 a ∧ Hid (Below R.heap.size R w3)) (fun _ j _ => bs.length - (intOf j).toNat)
              case atStart => exact ⟨0, _, Nat.zero_le _, rfl, rfl, hb2⟩
              case round =>
                obtain ⟨a3, n3, ha3, rfl, rfl, hb3⟩ := hrel
                obtain ⟨x4, x5⟩ := HC.out _ hb3.out
                have h3 : (0 : Int) ≤ (a3 : Int) := by omega
                have hcase : (a3 < bs.length ∧ n3 ≤ most) ∨ ¬ a3 < bs.length ∨ (a3 < bs.length ∧ ¬ n3 ≤ most) := by
                  by_cases p1 : a3 < bs.length <;> by_cases p2 : n3 ≤ most <;> simp [p1, p2]
                rcases hcase with ⟨p1, p2⟩ | p1 | ⟨p1, p2⟩
                · obtain ⟨g2, o2, cs2, rfl, hg2, hlen2, hc2, A4, c4, rfl, he4⟩ := HBb.out _ hb3.out a3 p1
                  have y0 := hc2 0 _ rfl
                  simp only [Nat.mul_one, Nat.add_zero] at y0
                  have q1 : (a3 : Int) < (bs.length : Int) := by omega
                  have KC : Hid (∀ (m : Int) (W : World), W.heap = wr.heap → Calls Try.prog 45 #[.slice A4 bs[a3].length c4, .int .i64 m] W (SomeN W)) := fun m W hW => KS.out a3 p1 (KB.out a3 p1) A4 c4 m W (SsR.mono (by rw [hW]; exact hb3.out.size) (fun g _ => by rw [hW]) he4)
                  clear hc2 hlen2 hg2 he4
                  go_wp2_with fail
                  refine (KC.out _ _ rfl).mono ?_
                  rintro e4 w4 ⟨⟨r4, rfl⟩, hb4⟩
                  have HB4 : Hid (Below R.heap.size R w4) := hb3.out.trans (hb4.mono hb3.out.size)
                  clear hb4 KC
                  go_wp2_with fail
                  go_roundw
                  case rel => exact ⟨a3 + 1, _, by omega, rfl, by go_num, HB4⟩
                  case measure => simp [intOf]; omega
                all_goals
                  have q4 := Lib.hid p1
                  try have q5 : (a3 : Int) < (bs.length : Int) := by omega
                  try have q5 : ¬ (a3 : Int) < (bs.length : Int) := by omega
                  clear p1
                  have HZ : Hid (Below w.heap.size w wr) := hb.out.trans (hb3.out.mono hb.out.size)
                  go_wp2_with fail
                  go_roundw
                  case rel => exact ⟨k + 1, _, by omega, rfl, by go_num, HZ⟩
                  case measure => simp [intOf]; omega
      · go_wp2_with fail
        go_ret
        exact ⟨⟨_, rfl⟩, hb.out⟩
    · have h1 : ¬ (k : Int) < (L.length : Int) := by omega
      go_wp2_with fail
      go_ret
      exact ⟨⟨_, rfl⟩, hb.out⟩
mutual
theorem gs_s : ∀ (s : ST) (j : Nat) (hj : j < s.blocks.length), GS s.blocks[j]
  | .mk _ _ _ _ _ bs => gs_bs bs
theorem gs_ss : ∀ (l : List ST) (k : Nat) (hk : k < l.length) (j : Nat) (hj : j < l[k].blocks.length), GS l[k].blocks[j]
  | a :: r, 0, _ => gs_s a
  | a :: r, k + 1, hk => gs_ss r k (by simpa using hk)
theorem gs_bs : ∀ (l : List (List ST)) (k : Nat) (hk : k < l.length), GS l[k]
  | a :: r, 0, _ => gs_of a (gs_ss a)
  | a :: r, k + 1, hk => gs_bs r k (by simpa using hk)
end
theorem gs_all (L : List ST) : GS L := gs_of L (gs_ss L)
end Go.Proofs.Ytmbddofcildibaa

/-
  governorlaw0: GreatUnit BY A CONTRACT: some answer, nothing changed.
-/
namespace Go.Proofs.Ytmbddofcildibaa
open Go Go.RowKit
set_option linter.unusedVariables false
set_option linter.unusedSimpArgs false

theorem len_sum {α : Type} (f : α → Nat) (hf : ∀ x, 1 ≤ f x) : ∀ l : List α, l.length ≤ (l.map f).sum
  | [] => by simp
  | x :: r => by have := len_sum f hf r; have := hf x; simp only [List.map_cons, List.sum_cons, List.length_cons]; omega
theorem sum_at {α : Type} (f : α → Nat) : ∀ (l : List α) (k : Nat) (hk : k < l.length), f l[k] ≤ (l.map f).sum
  | x :: r, 0, _ => by simp only [List.getElem_cons_zero, List.map_cons, List.sum_cons]; omega
  | x :: r, k + 1, hk => by
    have := sum_at f r k (by simpa using hk)
    simp only [List.getElem_cons_succ, List.map_cons, List.sum_cons]
    omega
theorem news_cell {w w' : World} {cs : Array Value} {T : TypeId} (h : Below (w.alloc (.cells cs T)).heap.size (w.alloc (.cells cs T)) w') (j : Nat) (v : Value) (hv : cs[j]? = some v) : w'.cell? ⟨w.heap.size, j, none⟩ = some v := by
  rw [h.cell (p := ⟨w.heap.size, j, none⟩) (by simp)]
  have hs : (w.alloc (.cells cs T)).heap[w.heap.size]? = some (.cells cs T (0, 0)) := heap_alloc_new w _
  rw [cell_of_row _ _ j cs T (0, 0) hs]
  exact hv

/-- what GreatUnit says: what is not great has at most 16 declarations. -/
def GreatB (L : List DT) (w : World) (e : Ending) (w' : World) : Prop := (∃ r : Bool, e = .returned (.bool r) ∧ Hid (r = false → L.length ≤ 16)) ∧ Below w.heap.size w w'
set_option maxHeartbeats 4000000 in
set_option maxRecDepth 100000 in
theorem greatUnit_any (L : List DT) (A : Option Addr) (c : Nat) (most : Int) (w : World) (ha : DsR w w.heap.size A L) (hw : wU L ≤ 1000000000) :
    Calls Try.prog 12 #[.agg #[.slice A L.length c], .int .i64 most] w (GreatB L w) := by
  have hcnt : L.length ≤ 1000000000 := Nat.le_trans (len_sum wD (fun d => by unfold wD; omega) L) hw
  have HU : Hid (∀ w', Below (w.alloc (.cells #[.slice A L.length c] 24)).heap.size (w.alloc (.cells #[.slice A L.length c] 24)) w' → w'.cell? ⟨w.heap.size, 0, none⟩ = some (.slice A L.length c)) := fun w' h => news_cell h 0 _ rfl
  have HA : Hid (∀ w', Below (w.alloc (.cells #[.slice A L.length c] 24)).heap.size (w.alloc (.cells #[.slice A L.length c] 24)) w' → DsR w' w.heap.size A L) := fun w' h => DsR.mono (Nat.le_refl _) (((Below.refl w.heap.size w).alloc (Nat.le_refl _) _).trans (h.mono (by simp))).block ha
  have HW0 : Hid (∀ w', Below (w.alloc (.cells #[.slice A L.length c] 24)).heap.size (w.alloc (.cells #[.slice A L.length c] 24)) w' → Below w.heap.size w w') := fun w' h => ((Below.refl w.heap.size w).alloc (Nat.le_refl _) _).trans (h.mono (by simp))
  have HW := Lib.hid hw
  clear ha hw
  go_enter Try.func12, Try.ntmps12
  go_wp2_with fail
  go_loopw [5, 6] (fun m i wr => ∃ (k : Nat) (n : Int), k ≤ L.length ∧ m = .int .i64 n ∧ i = .int .i64 k ∧ Hid (Below (w.alloc (.cells #[.slice A L.length c] 24)).heap.size (w.alloc (.cells #[.slice A L.length c] 24)) wr)) (fun _ i _ => L.length - (intOf i).toNat)
  case atStart => exact ⟨0, 0, Nat.zero_le _, rfl, rfl, Below.refl _ _⟩
  case round =>
    obtain ⟨R, hR⟩ : ∃ R : World, R = wr := ⟨_, rfl⟩
    subst hR
    obtain ⟨k, n, hk, rfl, rfl, hb⟩ := hrel
    have u0 := HU.out _ hb.out
    have h2 : (0 : Int) ≤ (k : Int) := by omega
    have HZ := Lib.hid (HW0.out _ hb.out)
    by_cases hlt : k < L.length <;> by_cases p2 : (L.length : Int) ≤ 16 <;> by_cases p3 : n ≤ most
    · have h1 : (k : Int) < (L.length : Int) := by omega
      obtain ⟨g, o, cs, rfl, hg, hlen, hc, he⟩ := HA.out _ hb.out k hlt
      have hwk := sum_at wD L k hlt
      obtain ⟨⟨kind, name, base, faces, ab, fin, vars, methods, body, every, first⟩, hN⟩ : ∃ d : DT, d = L[k] := ⟨_, rfl⟩
      rw [← hN] at he hwk
      obtain ⟨A1, c1, A2, c2, A3, c3, A4, c4, rfl, hev, hfi, r1, r2, r3, r4⟩ := he
      have hwu := HW.out
      unfold wU at hwu
      simp only [wD] at hwk
      have y0 := hc 0 _ rfl
      have y1 := hc 1 _ rfl
      have y2 := hc 2 _ rfl
      have y3 := hc 3 _ rfl
      have y4 := hc 4 _ rfl
      have y5 := hc 5 _ rfl
      have y6 := hc 6 _ rfl
      have y7 := hc 7 _ rfl
      have y8 := hc 8 _ rfl
      have y9 := hc 9 _ rfl
      have y10 := hc 10 _ rfl
      rw [Nat.add_zero] at y0
      by_cases q1 : (60 : Int) < (name.size : Int)
      · clear hc hlen hg hN hev hfi r1 r2 r3 r4 hwk hwu
        go_wp2_with fail
        go_ret
        exact ⟨⟨_, rfl, fun hr => by first | omega | cases hr | (simp at hr; omega) | (simp at hr)⟩, HZ.out.alloc HZ.out.size _⟩
      by_cases q2 : (60 : Int) < (base.size : Int)
      · clear hc hlen hg hN hev hfi r1 r2 r3 r4 hwk hwu
        go_wp2_with fail
        go_ret
        exact ⟨⟨_, rfl, fun hr => by first | omega | cases hr | (simp at hr; omega) | (simp at hr)⟩, HZ.out.alloc HZ.out.size _⟩
      have hzs := HZ.out.size
      obtain ⟨R1, hR1⟩ : ∃ R1 : World, R1 = (R.alloc (.cells #[.int .i64 kind, .string name, .string base, .slice A1 faces.length c1, .bool ab, .bool fin, .slice A2 vars.length c2, .slice A3 methods.length c3, .slice A4 body.length c4, .int .i64 every, .int .i64 first] 47)) := ⟨_, rfl⟩
      have hR2 : Below R.heap.size R R1 := by rw [hR1]; exact (Below.refl _ _).alloc (Nat.le_refl _) _
      have HT : Hid (∀ W, Below R1.heap.size R1 W → Below R.heap.size R W) := fun W h => hR2.trans (h.mono hR2.size)
      have hle : ∀ W, Below R.heap.size R W → w.heap.size ≤ W.heap.size := fun W h => Nat.le_trans hzs h.size
      have hbl : ∀ W, Below R.heap.size R W → ∀ g, g < w.heap.size → W.heap[g]? = R.heap[g]? := fun W h g hg => h.block g (by omega)
      have hvl := len_sum wV (fun d => by unfold wV; omega) vars
      have hfl := len_sum wX (fun d => by unfold wX; omega) faces
      have hml := len_sum wM (fun d => by unfold wM; omega) methods
      have hmc : methods.length ≤ 1000000000 := by omega
      have HD : Hid (∀ W, Hid (Below R1.heap.size R1 W) → W.cell? ⟨R.heap.size, 6, none⟩ = some (.slice A2 vars.length c2) ∧ W.cell? ⟨R.heap.size, 7, none⟩ = some (.slice A3 methods.length c3) ∧ W.cell? ⟨R.heap.size, 8, none⟩ = some (.slice A4 body.length c4)) := fun W h => by
        rw [hR1] at h
        exact ⟨news_cell h.out 6 _ rfl, news_cell h.out 7 _ rfl, news_cell h.out 8 _ rfl⟩
      have HD1 : Hid (R1.cell? ⟨R.heap.size, 1, none⟩ = some (.string name) ∧ R1.cell? ⟨R.heap.size, 2, none⟩ = some (.string base) ∧ R1.cell? ⟨R.heap.size, 3, none⟩ = some (.slice A1 faces.length c1)) := by
        rw [hR1]
        exact ⟨news_cell (Below.refl _ _) 1 _ rfl, news_cell (Below.refl _ _) 2 _ rfl, news_cell (Below.refl _ _) 3 _ rfl⟩
      have KF : Hid (Calls Try.prog 43 #[.slice A1 faces.length c1, .int .i64 8, .int .i64 60] R1 (SomeB R1)) := greatTexts_any faces A1 c1 8 60 R1 (XsR.mono (hle _ hR2) (hbl _ hR2) r1) (by omega)
      have KV : Hid (∀ W (m : Int), Hid (Below R1.heap.size R1 W) → Calls Try.prog 44 #[.slice A2 vars.length c2, .int .i64 m] W fun e w' => (∃ n : Int, e = .returned (.int .i64 n)) ∧ (w'.cell? ⟨R.heap.size, 6, none⟩ = some (.slice A2 vars.length c2) ∧ w'.cell? ⟨R.heap.size, 8, none⟩ = some (.slice A4 body.length c4)) ∧ Hid (Below R1.heap.size R1 w')) := fun W m h =>
        (vars_great vars A2 c2 m W (VsR.mono (hle W (HT.out _ h.out)) (hbl W (HT.out _ h.out)) r2) (by omega)).mono fun e w' hh => by
          have hz : Hid (Below R1.heap.size R1 w') := h.out.trans (hh.2.mono h.out.size)
          have hd := HD.out w' hz
          exact ⟨hh.1, ⟨hd.1, hd.2.2⟩, hz⟩
      have KB : Hid (∀ W (m : Int), Hid (Below R1.heap.size R1 W) → Calls Try.prog 45 #[.slice A4 body.length c4, .int .i64 m] W fun e w' => (∃ n : Int, e = .returned (.int .i64 n)) ∧ (w'.cell? ⟨R.heap.size, 6, none⟩ = some (.slice A2 vars.length c2) ∧ w'.cell? ⟨R.heap.size, 8, none⟩ = some (.slice A4 body.length c4)) ∧ Hid (Below R1.heap.size R1 w')) := fun W m h =>
        (gs_all body (by omega) A4 c4 m W (SsR.mono (hle W (HT.out _ h.out)) (hbl W (HT.out _ h.out)) r4)).mono fun e w' hh => by
          have hz : Hid (Below R1.heap.size R1 w') := h.out.trans (hh.2.mono h.out.size)
          have hd := HD.out w' hz
          exact ⟨hh.1, ⟨hd.1, hd.2.2⟩, hz⟩
      have HM : Hid (∀ W, Below R.heap.size R W → MsR W w.heap.size A3 methods) := fun W h => MsR.mono (Nat.le_refl _) (hbl W h) r3
      have HWM : Hid ((methods.map wM).sum ≤ 1000000000) := by unfold Hid; omega
      have HR1 := Lib.hid hR1
      clear HA HW
      clear hc hlen hg hN hev hfi r1 r2 r3 r4 hwk hwu hzs hle hbl hvl hfl hml hR2 hR1
      go_wp2_with fail
      rw [← HR1.out]
      refine KF.out.mono ?_
      rintro e1 w1 ⟨⟨r, rfl⟩, hb1⟩
      have HB1 : Hid (Below R1.heap.size R1 w1) := hb1
      obtain ⟨x6, x7, x8⟩ := HD.out _ HB1
      clear hb1 KF HD1 y0 y1 y2 y3 y4 y5 y6 y7 y8 y9 y10
      cases r
      · go_wp2_with fail
        go_region_held3 (fun w' => w'.cell? ⟨R.heap.size, 6, none⟩ = some (.slice A2 vars.length c2) ∧ w'.cell? ⟨R.heap.size, 8, none⟩ = some (.slice A4 body.length c4) ∧ Hid (Below R1.heap.size R1 w'))
          (first | exact ⟨x6, x8, Below.drew HB1⟩ | exact ⟨by assumption, by assumption, by assumption⟩ | exact ⟨by assumption, by assumption, Below.drew (by assumption)⟩)
          (first
            | (go_at_call 44; refine (KV.out _ _ ?_).mono ?_; (first | assumption | exact Below.drew HB1 | exact HB1); rintro e2 w2 ⟨⟨r2, rfl⟩, ⟨v6, v8⟩, HB2⟩)
            | (go_at_call 45; refine (KB.out _ _ ?_).mono ?_; (first | assumption | exact Below.drew HB1 | exact HB1); rintro e3 w3 ⟨⟨r3, rfl⟩, ⟨u6, u8⟩, HB3⟩))
        clear x6 x7 x8 v6 v8 u6 u8 HB2
        go_wp2_with fail
        go_loopw [5, 8] (fun m j w4 => ∃ (a : Nat) (n2 : Int), a ≤ methods.length ∧ m = .int .i64 n2 ∧ j = .int .i64 a ∧ Hid (Below R1.heap.size R1 w4)) (fun _ j _ => methods.length - (intOf j).toNat)
        case atStart => exact ⟨0, _, Nat.zero_le _, rfl, rfl, by first | exact HB3 | exact Below.drew HB3⟩
        case round =>
          obtain ⟨R2, hR2⟩ : ∃ R2 : World, R2 = wr := ⟨_, rfl⟩
          subst hR2
          obtain ⟨a, n2, ha, rfl, rfl, hb4⟩ := hrel
          obtain ⟨z6, z7, z8⟩ := HD.out _ hb4
          have h0 : (0 : Int) ≤ (a : Int) := by omega
          have HZ4 : Hid (Below w.heap.size w R2) := HZ.out.trans ((HT.out _ hb4.out).mono HZ.out.size)
          by_cases t1 : a < methods.length <;> by_cases t2 : n2 ≤ most
          · obtain ⟨g2, o2, cs2, rfl, hg2, hlen2, hc2, he2⟩ := HM.out _ (HT.out _ hb4.out) a t1
            have hwm := sum_at wM methods a t1
            obtain ⟨⟨mn, mo, ma, mf, mp, mr, mv, mb⟩, hN⟩ : ∃ m : MT, m = methods[a] := ⟨_, rfl⟩
            rw [← hN] at he2 hwm
            obtain ⟨B1, d1, B2, d2, B3, d3, rfl, hwf, r1, r2, r3⟩ := he2
            simp only [wM] at hwm
            have hwk := HWM.out
            have q0 : (a : Int) < (methods.length : Int) := by omega
            have y0 := hc2 0 _ rfl
            have y1 := hc2 1 _ rfl
            have y2 := hc2 2 _ rfl
            have y3 := hc2 3 _ rfl
            have y4 := hc2 4 _ rfl
            have y5 := hc2 5 _ rfl
            have y6 := hc2 6 _ rfl
            have y7 := hc2 7 _ rfl
            have y8 := hc2 8 _ rfl
            have y9 := hc2 9 _ rfl
            have y10 := hc2 10 _ rfl
            rw [Nat.add_zero] at y0
            by_cases q1 : (60 : Int) < (mn.size : Int)
            · clear hc2 hlen2 hg2 hN hwf r1 r2 r3 hwk hwm
              go_wp2_with fail
              go_ret
              exact ⟨⟨_, rfl, fun hr => by first | omega | cases hr | (simp at hr; omega) | (simp at hr)⟩, HZ4.out.alloc HZ4.out.size _⟩
            by_cases q2 : (60 : Int) < (mr.name.size : Int)
            · clear hc2 hlen2 hg2 hN hwf r1 r2 r3 hwk hwm
              go_wp2_with fail
              go_ret
              exact ⟨⟨_, rfl, fun hr => by first | omega | cases hr | (simp at hr; omega) | (simp at hr)⟩, HZ4.out.alloc HZ4.out.size _⟩
            obtain ⟨R4, hR4⟩ : ∃ R4 : World, R4 = (R2.alloc (.cells #[.string mn, .bool mo, .bool ma, .bool mf, .slice B1 mp.length d1, .int .i64 mr.kind, .int .i64 mr.lo, .int .i64 mr.hi, .string mr.name, .slice B2 mv.length d2, .slice B3 mb.length d3] 52)) := ⟨_, rfl⟩
            have hR5 : Below R2.heap.size R2 R4 := by rw [hR4]; exact (Below.refl _ _).alloc (Nat.le_refl _) _
            have hzs := HZ4.out.size
            have hvl := len_sum wV (fun d => by unfold wV; omega) mv
            have hpl := len_sum wV (fun d => by unfold wV; omega) mp
            have hT4 : ∀ W, Below R4.heap.size R4 W → Below R2.heap.size R2 W := fun W h => hR5.trans (h.mono hR5.size)
            have hle : ∀ W, Below R2.heap.size R2 W → w.heap.size ≤ W.heap.size := fun W h => Nat.le_trans hzs h.size
            have hbl : ∀ W, Below R2.heap.size R2 W → ∀ g, g < w.heap.size → W.heap[g]? = R2.heap[g]? := fun W h g hg => h.block g (by omega)
            have HD4 : Hid (∀ W, Hid (Below R4.heap.size R4 W) → W.cell? ⟨R2.heap.size, 4, none⟩ = some (.slice B1 mp.length d1) ∧ W.cell? ⟨R2.heap.size, 9, none⟩ = some (.slice B2 mv.length d2) ∧ W.cell? ⟨R2.heap.size, 10, none⟩ = some (.slice B3 mb.length d3)) := fun W h => by
              rw [hR4] at h
              exact ⟨news_cell h.out 4 _ rfl, news_cell h.out 9 _ rfl, news_cell h.out 10 _ rfl⟩
            have KP : Hid (∀ W (m : Int) (X : Option Addr) (n c : Nat), ((X = B1 ∧ n = mp.length ∧ c = d1) ∨ (X = B2 ∧ n = mv.length ∧ c = d2)) → Hid (Below R4.heap.size R4 W) → Calls Try.prog 44 #[.slice X n c, .int .i64 m] W fun e w' => (∃ n : Int, e = .returned (.int .i64 n)) ∧ (w'.cell? ⟨R2.heap.size, 4, none⟩ = some (.slice B1 mp.length d1) ∧ w'.cell? ⟨R2.heap.size, 9, none⟩ = some (.slice B2 mv.length d2) ∧ w'.cell? ⟨R2.heap.size, 10, none⟩ = some (.slice B3 mb.length d3)) ∧ Hid (Below R4.heap.size R4 w')) := fun W m X n c hx h =>
              (by
                rcases hx with ⟨rfl, rfl, rfl⟩ | ⟨rfl, rfl, rfl⟩
                · exact vars_great mp _ _ m W (VsR.mono (hle W (hT4 _ h.out)) (hbl W (hT4 _ h.out)) r1) (by omega)
                · exact vars_great mv _ _ m W (VsR.mono (hle W (hT4 _ h.out)) (hbl W (hT4 _ h.out)) r2) (by omega) : Calls Try.prog 44 #[.slice X n c, .int .i64 m] W (SomeN W)).mono fun e w' hh => by
                have hz : Hid (Below R4.heap.size R4 w') := h.out.trans (hh.2.mono h.out.size)
                exact ⟨hh.1, HD4.out w' hz, hz⟩
            have KS : Hid (∀ W (m : Int), Hid (Below R4.heap.size R4 W) → Calls Try.prog 45 #[.slice B3 mb.length d3, .int .i64 m] W fun e w' => (∃ n : Int, e = .returned (.int .i64 n)) ∧ (w'.cell? ⟨R2.heap.size, 4, none⟩ = some (.slice B1 mp.length d1) ∧ w'.cell? ⟨R2.heap.size, 9, none⟩ = some (.slice B2 mv.length d2) ∧ w'.cell? ⟨R2.heap.size, 10, none⟩ = some (.slice B3 mb.length d3)) ∧ Hid (Below R4.heap.size R4 w')) := fun W m h =>
              (gs_all mb (by omega) B3 d3 m W (SsR.mono (hle W (hT4 _ h.out)) (hbl W (hT4 _ h.out)) r3)).mono fun e w' hh => by
                have hz : Hid (Below R4.heap.size R4 w') := h.out.trans (hh.2.mono h.out.size)
                exact ⟨hh.1, HD4.out w' hz, hz⟩
            have HX4 : Hid (∀ W, Hid (Below R4.heap.size R4 W) → Hid (Below R1.heap.size R1 W)) := fun W h => hb4.out.trans ((hT4 _ h.out).mono hb4.out.size)
            have HB4 : Hid (Below R4.heap.size R4 R4) := Below.refl _ _
            obtain ⟨x4, x9, x10⟩ := HD4.out _ HB4
            have p0 : R4.cell? ⟨R2.heap.size, 0, none⟩ = some (.string mn) := by rw [hR4]; exact news_cell (Below.refl _ _) 0 _ rfl
            have p8 : R4.cell? ⟨R2.heap.size, 8, none⟩ = some (.string mr.name) := by rw [hR4]; exact news_cell (Below.refl _ _) 8 _ rfl
            have HR4 := Lib.hid hR4
            have hs4 : R4.heap.size = R2.heap.size + 1 := by rw [hR4]; simp
            clear hc2 hlen2 hg2 hN hwf r1 r2 r3 hwk hwm hR5 hzs hvl hpl hT4 hle hbl hR4
            go_wp2_with (rw [← HR4.out])
            clear p0 p8 z6 z7 z8 y0 y1 y2 y3 y4 y5 y6 y7 y8 y9 y10
            go_region_held3 (fun w' => w'.cell? ⟨R2.heap.size, 4, none⟩ = some (.slice B1 mp.length d1) ∧ w'.cell? ⟨R2.heap.size, 9, none⟩ = some (.slice B2 mv.length d2) ∧ w'.cell? ⟨R2.heap.size, 10, none⟩ = some (.slice B3 mb.length d3) ∧ Hid (Below R4.heap.size R4 w'))
              (first | exact ⟨x4, x9, x10, Below.drew HB4⟩ | exact ⟨by assumption, by assumption, by assumption, by assumption⟩ | exact ⟨by assumption, by assumption, by assumption, Below.drew (by assumption)⟩)
              (first
                | (go_at_call 44; refine (KP.out _ _ _ _ _ ?_ ?_).mono ?_; (first | exact .inl ⟨rfl, rfl, rfl⟩ | exact .inr ⟨rfl, rfl, rfl⟩); (first | assumption | exact Below.drew HB4); rintro e5 w5 ⟨⟨s5, rfl⟩, ⟨a4, a9, a10⟩, HB5⟩)
                | (go_at_call 45; refine (KS.out _ _ ?_).mono ?_; (first | assumption | exact Below.drew HB4); rintro e7 w7 ⟨⟨s7, rfl⟩, ⟨c4, c9, c10⟩, HB7⟩))
            have HZ8 := HX4.out _ (by assumption)
            go_wp2_with fail
            go_roundw
            case rel => exact ⟨a + 1, _, by omega, rfl, by go_num, HZ8⟩
            case measure => simp [intOf]; omega
          all_goals
            try have q0 : (a : Int) < (methods.length : Int) := by omega
            try have q0 : ¬ (a : Int) < (methods.length : Int) := by omega
            clear t1
            have HZ5 : Hid (Below (w.alloc (.cells #[.slice (some ⟨g, o, none⟩) L.length c] 24)).heap.size (w.alloc (.cells #[.slice (some ⟨g, o, none⟩) L.length c] 24)) R2) := hb.out.trans ((HT.out _ hb4.out).mono hb.out.size)
            go_wp2_with fail
            go_roundw
            case rel => exact ⟨k + 1, _, by omega, rfl, by go_num, HZ5⟩
            case measure => simp [intOf]; omega
      · have HZ1 : Hid (Below w.heap.size w w1) := HZ.out.trans ((HT.out _ HB1.out).mono HZ.out.size)
        go_wp2_with fail
        go_ret
        exact ⟨⟨_, rfl, fun hr => by first | omega | cases hr | (simp at hr; omega) | (simp at hr)⟩, HZ1.out⟩
    all_goals
      try have q1 : (k : Int) < (L.length : Int) := by omega
      try have q1 : ¬ (k : Int) < (L.length : Int) := by omega
      clear hlt
      go_wp2_with fail
      go_ret
      exact ⟨⟨_, rfl, fun hr => by first | omega | cases hr | (simp at hr; omega) | (simp at hr)⟩, HZ.out⟩
end Go.Proofs.Ytmbddofcildibaa

/-
  The readings of the arguments as trees, no heavier than what is read.
-/
namespace Go.Proofs.Ytmbddofcildibaa
open Go Go.ChangeShapes Go.WideShapes Go.RowKit

theorem cells3 : Try.prog.cellsOf 3 = 1 := by kernel_rfl
theorem cells9 : Try.prog.cellsOf 9 = 1 := by kernel_rfl
theorem cells4 : Try.prog.cellsOf 4 = 1 := by kernel_rfl
theorem cells64 : Try.prog.cellsOf 64 = 1 := by kernel_rfl
theorem cells32 : Try.prog.cellsOf 32 = 1 := by kernel_rfl
theorem cells68 : Try.prog.cellsOf 68 = 1 := by kernel_rfl
theorem cells43 : Try.prog.cellsOf 43 = 1 := by kernel_rfl
theorem cells45 : Try.prog.cellsOf 45 = 1 := by kernel_rfl
theorem cells67 : Try.prog.cellsOf 67 = 1 := by kernel_rfl
theorem cells34 : Try.prog.cellsOf 34 = 1 := by kernel_rfl
theorem cells44 : Try.prog.cellsOf 44 = 1 := by kernel_rfl
theorem cells22 : Try.prog.cellsOf 22 = 1 := by kernel_rfl
theorem cells66 : Try.prog.cellsOf 66 = 5 := by kernel_rfl
theorem cells50 : Try.prog.cellsOf 50 = 4 := by kernel_rfl
theorem cells54 : Try.prog.cellsOf 54 = 8 := by kernel_rfl
theorem cells70 : Try.prog.cellsOf 70 = 6 := by kernel_rfl
theorem cells52 : Try.prog.cellsOf 52 = 11 := by kernel_rfl
theorem cells47 : Try.prog.cellsOf 47 = 11 := by kernel_rfl
theorem cells24 : Try.prog.cellsOf 24 = 1 := by kernel_rfl
set_option maxRecDepth 100000 in
theorem wf64 {n : Int} (h : (Lit.int .i64 n).wf = true) : I64 n := by
  unfold Lit.wf at h
  rw [Bool.and_eq_true] at h
  have h1 := of_decide_eq_true h.1
  have h2 := of_decide_eq_true h.2
  rw [show IntKind.min .i64 = -9223372036854775808 by kernel_rfl] at h1
  rw [show IntKind.max .i64 = 9223372036854775807 by kernel_rfl] at h2
  exact ⟨h1, h2⟩
theorem sum_ones (l : List Int) : (l.map fun _ => 1).sum = l.length := by
  induction l with
  | nil => rfl
  | cons x r ih => simp only [List.map_cons, List.sum_cons, List.length_cons, ih]; omega
section
variable {H : Type} {enc : TypeId × Value → H} {w : World} {sp : Nat → Bool} {held : Bool}
theorem bulk_str (s : ByteArray) : Rows.uptoBulk (DataW.lit (H := H) (.string s.data.toList)) = s.size + 1 := by
  simp only [Rows.uptoBulk, Array.length_toList]
  rfl
theorem bulk_int (k : IntKind) (n : Int) : Rows.uptoBulk (DataW.lit (H := H) (.int k n)) = 1 := rfl
theorem bulk_bool (b : Bool) : Rows.uptoBulk (DataW.lit (H := H) (.bool b)) = 1 := rfl
set_option maxRecDepth 100000 in
theorem openY {fuel : Nat} {cs : List Value} {x : DataW H × List MemPlace} (h : DataW.trod enc Try.prog w 0 sp held fuel 50 cs = some x) : ∃ t : YT, cs = t.cells ∧ t.wf ∧ wY t ≤ 24 * Rows.uptoBulk x.1 := by
  obtain ⟨xs, n, rfl, rfl, hcl, hxl, hf⟩ := DataW.trod_struct Try.underlying50 h
  rw [cells50] at hcl
  obtain ⟨v0, v1, v2, v3, rfl⟩ : ∃ v0 v1 v2 v3, cs = [v0, v1, v2, v3] := by
    match cs, hcl with
    | [v0, v1, v2, v3], _ => exact ⟨_, _, _, _, rfl⟩
  obtain ⟨y0, y1, y2, y3, rfl⟩ : ∃ y0 y1 y2 y3, xs = [y0, y1, y2, y3] := by
    match xs, hxl with
    | [y0, y1, y2, y3], _ => exact ⟨_, _, _, _, rfl⟩
  have f0 : DataW.trod enc Try.prog w 0 sp held n 3 (([v0, v1, v2, v3].drop 0).take (Try.prog.cellsOf 3)) = some y0 := hf 0 _ rfl
  have f1 : DataW.trod enc Try.prog w 0 sp held n 3 (([v0, v1, v2, v3].drop 1).take (Try.prog.cellsOf 3)) = some y1 := hf 1 _ rfl
  have f2 : DataW.trod enc Try.prog w 0 sp held n 3 (([v0, v1, v2, v3].drop 2).take (Try.prog.cellsOf 3)) = some y2 := hf 2 _ rfl
  have f3 : DataW.trod enc Try.prog w 0 sp held n 9 (([v0, v1, v2, v3].drop 3).take (Try.prog.cellsOf 9)) = some y3 := hf 3 _ rfl
  clear hf hcl hxl h
  rw [cells3] at f0
  simp only [List.drop_zero, List.take_succ_cons, List.take_zero] at f0
  obtain ⟨a0, e0, rfl, w0⟩ := DataW.trod_int Try.underlying3 f0
  injection e0 with e0 _
  subst e0
  have w0 := wf64 w0
  rw [cells3] at f1
  simp only [List.drop_succ_cons, List.drop_zero, List.take_succ_cons, List.take_zero] at f1
  obtain ⟨a1, e1, rfl, w1⟩ := DataW.trod_int Try.underlying3 f1
  injection e1 with e1 _
  subst e1
  have w1 := wf64 w1
  rw [cells3] at f2
  simp only [List.drop_succ_cons, List.drop_zero, List.take_succ_cons, List.take_zero] at f2
  obtain ⟨a2, e2, rfl, w2⟩ := DataW.trod_int Try.underlying3 f2
  injection e2 with e2 _
  subst e2
  have w2 := wf64 w2
  rw [cells9] at f3
  simp only [List.drop_succ_cons, List.drop_zero, List.take_succ_cons, List.take_nil] at f3
  obtain ⟨a3, e3, rfl, _⟩ := DataW.trod_string Try.underlying9 f3
  injection e3 with e3 _
  subst e3
  clear f0 f1 f2 f3
  refine ⟨⟨a0, a1, a2, a3⟩, rfl, ⟨w1, w2⟩, ?_⟩
  have := dn_le w1
  have := dn_le w2
  simp only [wY, List.map_cons, List.map_nil, Rows.uptoBulk, Rows.uptoBulkAll]
  simp only [ByteArray.size, Array.length_toList]
  omega
set_option maxRecDepth 100000 in
theorem openV {fuel : Nat} {cs : List Value} {x : DataW H × List MemPlace} (h : DataW.trod enc Try.prog w 0 sp held fuel 54 cs = some x) : ∃ v : VT, VIn v cs ∧ wV v ≤ 24 * Rows.uptoBulk x.1 := by
  obtain ⟨xs, n, rfl, rfl, hcl, hxl, hf⟩ := DataW.trod_struct Try.underlying54 h
  rw [cells54] at hcl
  obtain ⟨v0, v1, v2, v3, v4, v5, v6, v7, rfl⟩ : ∃ v0 v1 v2 v3 v4 v5 v6 v7, cs = [v0, v1, v2, v3, v4, v5, v6, v7] := by
    match cs, hcl with
    | [v0, v1, v2, v3, v4, v5, v6, v7], _ => exact ⟨_, _, _, _, _, _, _, _, rfl⟩
  obtain ⟨y0, y1, y2, y3, y4, rfl⟩ : ∃ y0 y1 y2 y3 y4, xs = [y0, y1, y2, y3, y4] := by
    match xs, hxl with
    | [y0, y1, y2, y3, y4], _ => exact ⟨_, _, _, _, _, rfl⟩
  have f0 : DataW.trod enc Try.prog w 0 sp held n 9 (([v0, v1, v2, v3, v4, v5, v6, v7].drop 0).take (Try.prog.cellsOf 9)) = some y0 := hf 0 _ rfl
  have f1 : DataW.trod enc Try.prog w 0 sp held n 50 (([v0, v1, v2, v3, v4, v5, v6, v7].drop 1).take (Try.prog.cellsOf 50)) = some y1 := hf 1 _ rfl
  have f2 : DataW.trod enc Try.prog w 0 sp held n 3 (([v0, v1, v2, v3, v4, v5, v6, v7].drop 5).take (Try.prog.cellsOf 3)) = some y2 := hf 2 _ rfl
  have f3 : DataW.trod enc Try.prog w 0 sp held n 3 (([v0, v1, v2, v3, v4, v5, v6, v7].drop 6).take (Try.prog.cellsOf 3)) = some y3 := hf 3 _ rfl
  have f4 : DataW.trod enc Try.prog w 0 sp held n 3 (([v0, v1, v2, v3, v4, v5, v6, v7].drop 7).take (Try.prog.cellsOf 3)) = some y4 := hf 4 _ rfl
  clear hf hcl hxl h
  rw [cells9] at f0
  simp only [List.drop_zero, List.take_succ_cons, List.take_zero] at f0
  obtain ⟨a0, e0, rfl, _⟩ := DataW.trod_string Try.underlying9 f0
  injection e0 with e0 _
  subst e0
  rw [cells50] at f1
  simp only [List.drop_succ_cons, List.drop_zero, List.take_succ_cons, List.take_zero] at f1
  obtain ⟨t1, e1, k1, b1⟩ := openY f1
  injection e1 with d0 e1
  injection e1 with d1 e1
  injection e1 with d2 e1
  injection e1 with d3 _
  subst d0 d1 d2 d3
  rw [cells3] at f2
  simp only [List.drop_succ_cons, List.drop_zero, List.take_succ_cons, List.take_zero] at f2
  obtain ⟨a2, e2, rfl, w2⟩ := DataW.trod_int Try.underlying3 f2
  injection e2 with e2 _
  subst e2
  have w2 := wf64 w2
  rw [cells3] at f3
  simp only [List.drop_succ_cons, List.drop_zero, List.take_succ_cons, List.take_zero] at f3
  obtain ⟨a3, e3, rfl, w3⟩ := DataW.trod_int Try.underlying3 f3
  injection e3 with e3 _
  subst e3
  have w3 := wf64 w3
  rw [cells3] at f4
  simp only [List.drop_succ_cons, List.drop_zero, List.take_succ_cons, List.take_nil] at f4
  obtain ⟨a4, e4, rfl, w4⟩ := DataW.trod_int Try.underlying3 f4
  injection e4 with e4 _
  subst e4
  have w4 := wf64 w4
  clear f0 f1 f2 f3 f4
  refine ⟨⟨a0, t1, a2, a3, a4⟩, ⟨rfl, ⟨k1, w2, w4⟩⟩, ?_⟩
  have := dn_le w2
  have := dn_le w4
  simp only [wV, List.map_cons, List.map_nil, Rows.uptoBulk, Rows.uptoBulkAll]
  unfold wY at b1 ⊢
  simp only [ByteArray.size, Array.length_toList] at b1 ⊢
  omega
theorem openN {fuel : Nat} {cs : List Value} {x : DataW H × List MemPlace} (h : DataW.trod enc Try.prog w 0 sp held fuel 3 cs = some x) : ∃ n : Int, NIn n cs ∧ wN n ≤ 24 * Rows.uptoBulk x.1 := by
  obtain ⟨n, rfl, rfl, hw⟩ := DataW.trod_int Try.underlying3 h
  refine ⟨n, ⟨rfl, wf64 hw⟩, ?_⟩
  have := dn_le (wf64 hw)
  rw [bulk_int]
  unfold wN
  omega
theorem openX {fuel : Nat} {cs : List Value} {x : DataW H × List MemPlace} (h : DataW.trod enc Try.prog w 0 sp held fuel 9 cs = some x) : ∃ s : ByteArray, XIn s cs ∧ wX s ≤ 24 * Rows.uptoBulk x.1 := by
  obtain ⟨s, rfl, rfl, _⟩ := DataW.trod_string Try.underlying9 h
  refine ⟨s, rfl, ?_⟩
  rw [bulk_str]
  unfold wX
  omega
theorem openL {fuel : Nat} {cs : List Value} {x : DataW H × List MemPlace} (h : DataW.trod enc Try.prog w 0 sp held fuel 32 cs = some x) : ∃ l : List Int, LIn w w.heap.size l cs ∧ wL l ≤ 24 * Rows.uptoBulk x.1 := by
  obtain ⟨l, A, c, rfl, hr, hb, _⟩ := openRow (R := NIn) (wt := wN) Try.underlying32 cells3 (by decide) (fun n _ cs y hy => openN hy) h
  refine ⟨l, ⟨A, c, rfl, hr⟩, ?_⟩
  unfold wL
  omega
set_option maxRecDepth 100000 in
theorem openE : ∀ {fuel : Nat} {cs : List Value} {x : DataW H × List MemPlace} , DataW.trod enc Try.prog w 0 sp held fuel 66 cs = some x → ∃ e : ET, EIn w w.heap.size e cs ∧ wE e ≤ 24 * Rows.uptoBulk x.1 := by
  intro fuel
  induction fuel using Nat.strongRecOn with
  | _ fuel ih =>
    intro cs x h
    obtain ⟨xs, n, rfl, rfl, hcl, hxl, hf⟩ := DataW.trod_struct Try.underlying66 h
    rw [cells66] at hcl
    obtain ⟨v0, v1, v2, v3, v4, rfl⟩ : ∃ v0 v1 v2 v3 v4, cs = [v0, v1, v2, v3, v4] := by
      match cs, hcl with
      | [v0, v1, v2, v3, v4], _ => exact ⟨_, _, _, _, _, rfl⟩
    obtain ⟨y0, y1, y2, y3, y4, rfl⟩ : ∃ y0 y1 y2 y3 y4, xs = [y0, y1, y2, y3, y4] := by
      match xs, hxl with
      | [y0, y1, y2, y3, y4], _ => exact ⟨_, _, _, _, _, rfl⟩
    have f0 : DataW.trod enc Try.prog w 0 sp held n 3 (([v0, v1, v2, v3, v4].drop 0).take (Try.prog.cellsOf 3)) = some y0 := hf 0 _ rfl
    have f1 : DataW.trod enc Try.prog w 0 sp held n 3 (([v0, v1, v2, v3, v4].drop 1).take (Try.prog.cellsOf 3)) = some y1 := hf 1 _ rfl
    have f2 : DataW.trod enc Try.prog w 0 sp held n 9 (([v0, v1, v2, v3, v4].drop 2).take (Try.prog.cellsOf 9)) = some y2 := hf 2 _ rfl
    have f3 : DataW.trod enc Try.prog w 0 sp held n 9 (([v0, v1, v2, v3, v4].drop 3).take (Try.prog.cellsOf 9)) = some y3 := hf 3 _ rfl
    have f4 : DataW.trod enc Try.prog w 0 sp held n 64 (([v0, v1, v2, v3, v4].drop 4).take (Try.prog.cellsOf 64)) = some y4 := hf 4 _ rfl
    clear hf hcl hxl h
    rw [cells3] at f0
    simp only [List.drop_zero, List.take_succ_cons, List.take_zero] at f0
    obtain ⟨a0, e0, rfl, w0⟩ := DataW.trod_int Try.underlying3 f0
    injection e0 with e0 _
    subst e0
    have w0 := wf64 w0
    rw [cells3] at f1
    simp only [List.drop_succ_cons, List.drop_zero, List.take_succ_cons, List.take_zero] at f1
    obtain ⟨a1, e1, rfl, w1⟩ := DataW.trod_int Try.underlying3 f1
    injection e1 with e1 _
    subst e1
    have w1 := wf64 w1
    rw [cells9] at f2
    simp only [List.drop_succ_cons, List.drop_zero, List.take_succ_cons, List.take_zero] at f2
    obtain ⟨a2, e2, rfl, _⟩ := DataW.trod_string Try.underlying9 f2
    injection e2 with e2 _
    subst e2
    rw [cells9] at f3
    simp only [List.drop_succ_cons, List.drop_zero, List.take_succ_cons, List.take_zero] at f3
    obtain ⟨a3, e3, rfl, _⟩ := DataW.trod_string Try.underlying9 f3
    injection e3 with e3 _
    subst e3
    rw [cells64] at f4
    simp only [List.drop_succ_cons, List.drop_zero, List.take_succ_cons, List.take_nil] at f4
    obtain ⟨l4, A4, c4, e4, r4, b4, n4⟩ := openRow (R := EIn w w.heap.size) (wt := wE) Try.underlying64 cells66 (by decide) (fun m hm cs y hy => ih m (by omega) hy) f4
    injection e4 with e4 _
    subst e4
    clear f0 f1 f2 f3 f4
    refine ⟨.mk a0 a1 a2 a3 l4, EIn.of_form A4 c4 w1 r4, ?_⟩
    have := dn_le w1
    simp only [wE, wEs_sum, List.map_cons, List.map_nil, Rows.uptoBulk, Rows.uptoBulkAll]
    simp only [ByteArray.size, Array.length_toList]
    omega
set_option maxRecDepth 100000 in
theorem openS : ∀ {fuel : Nat} {cs : List Value} {x : DataW H × List MemPlace} , DataW.trod enc Try.prog w 0 sp held fuel 70 cs = some x → ∃ s : ST, SIn w w.heap.size s cs ∧ wS s ≤ 24 * Rows.uptoBulk x.1 := by
  intro fuel
  induction fuel using Nat.strongRecOn with
  | _ fuel ih =>
    intro cs x h
    obtain ⟨xs, n, rfl, rfl, hcl, hxl, hf⟩ := DataW.trod_struct Try.underlying70 h
    rw [cells70] at hcl
    obtain ⟨v0, v1, v2, v3, v4, v5, rfl⟩ : ∃ v0 v1 v2 v3 v4 v5, cs = [v0, v1, v2, v3, v4, v5] := by
      match cs, hcl with
      | [v0, v1, v2, v3, v4, v5], _ => exact ⟨_, _, _, _, _, _, rfl⟩
    obtain ⟨y0, y1, y2, y3, y4, y5, rfl⟩ : ∃ y0 y1 y2 y3 y4 y5, xs = [y0, y1, y2, y3, y4, y5] := by
      match xs, hxl with
      | [y0, y1, y2, y3, y4, y5], _ => exact ⟨_, _, _, _, _, _, rfl⟩
    have f0 : DataW.trod enc Try.prog w 0 sp held n 3 (([v0, v1, v2, v3, v4, v5].drop 0).take (Try.prog.cellsOf 3)) = some y0 := hf 0 _ rfl
    have f1 : DataW.trod enc Try.prog w 0 sp held n 3 (([v0, v1, v2, v3, v4, v5].drop 1).take (Try.prog.cellsOf 3)) = some y1 := hf 1 _ rfl
    have f2 : DataW.trod enc Try.prog w 0 sp held n 9 (([v0, v1, v2, v3, v4, v5].drop 2).take (Try.prog.cellsOf 9)) = some y2 := hf 2 _ rfl
    have f3 : DataW.trod enc Try.prog w 0 sp held n 64 (([v0, v1, v2, v3, v4, v5].drop 3).take (Try.prog.cellsOf 64)) = some y3 := hf 3 _ rfl
    have f4 : DataW.trod enc Try.prog w 0 sp held n 68 (([v0, v1, v2, v3, v4, v5].drop 4).take (Try.prog.cellsOf 68)) = some y4 := hf 4 _ rfl
    have f5 : DataW.trod enc Try.prog w 0 sp held n 67 (([v0, v1, v2, v3, v4, v5].drop 5).take (Try.prog.cellsOf 67)) = some y5 := hf 5 _ rfl
    clear hf hcl hxl h
    rw [cells3] at f0
    simp only [List.drop_zero, List.take_succ_cons, List.take_zero] at f0
    obtain ⟨a0, e0, rfl, w0⟩ := DataW.trod_int Try.underlying3 f0
    injection e0 with e0 _
    subst e0
    have w0 := wf64 w0
    rw [cells3] at f1
    simp only [List.drop_succ_cons, List.drop_zero, List.take_succ_cons, List.take_zero] at f1
    obtain ⟨a1, e1, rfl, w1⟩ := DataW.trod_int Try.underlying3 f1
    injection e1 with e1 _
    subst e1
    have w1 := wf64 w1
    rw [cells9] at f2
    simp only [List.drop_succ_cons, List.drop_zero, List.take_succ_cons, List.take_zero] at f2
    obtain ⟨a2, e2, rfl, _⟩ := DataW.trod_string Try.underlying9 f2
    injection e2 with e2 _
    subst e2
    rw [cells64] at f3
    simp only [List.drop_succ_cons, List.drop_zero, List.take_succ_cons, List.take_zero] at f3
    obtain ⟨l3, A3, c3, e3, r3, b3, n3⟩ := openRow (R := EIn w w.heap.size) (wt := wE) Try.underlying64 cells66 (by decide) (fun m hm cs y hy => openE hy) f3
    injection e3 with e3 _
    subst e3
    rw [cells68] at f4
    simp only [List.drop_succ_cons, List.drop_zero, List.take_succ_cons, List.take_zero] at f4
    obtain ⟨l4, A4, c4, e4, r4, b4, n4⟩ := openRow (R := LIn w w.heap.size) (wt := wL) Try.underlying68 cells32 (by decide) (fun m hm cs y hy => openL hy) f4
    injection e4 with e4 _
    subst e4
    rw [cells67] at f5
    simp only [List.drop_succ_cons, List.drop_zero, List.take_succ_cons, List.take_nil] at f5
    obtain ⟨l5, A5, c5, e5, r5, b5, n5⟩ := openRow (R := BIn w w.heap.size) (wt := fun b => 1 + wSs b) Try.underlying67 cells45 (by decide) (fun m hm cs y hy => by
      obtain ⟨l, A, c, rfl, hr, hb, _⟩ := openRow (R := SIn w w.heap.size) (wt := wS) Try.underlying45 cells70 (by decide) (fun m2 hm2 cs y hy => ih m2 (by omega) hy) hy
      exact ⟨l, ⟨A, c, rfl, hr⟩, by rw [wSs_sum]; omega⟩) f5
    injection e5 with e5 _
    subst e5
    clear f0 f1 f2 f3 f4 f5
    refine ⟨.mk a0 a1 a2 l3 l4 l5, SIn.of_form A3 A4 A5 c3 c4 c5 w1 r3 r4 r5, ?_⟩
    have := dn_le w1
    simp only [wS, wEs_sum, wBs_sum, List.map_cons, List.map_nil, Rows.uptoBulk, Rows.uptoBulkAll]
    simp only [ByteArray.size, Array.length_toList]
    omega
set_option maxRecDepth 100000 in
theorem openM {fuel : Nat} {cs : List Value} {x : DataW H × List MemPlace} (h : DataW.trod enc Try.prog w 0 sp held fuel 52 cs = some x) : ∃ m : MT, MIn w w.heap.size m cs ∧ wM m ≤ 24 * Rows.uptoBulk x.1 := by
  obtain ⟨xs, n, rfl, rfl, hcl, hxl, hf⟩ := DataW.trod_struct Try.underlying52 h
  rw [cells52] at hcl
  obtain ⟨v0, v1, v2, v3, v4, v5, v6, v7, v8, v9, v10, rfl⟩ : ∃ v0 v1 v2 v3 v4 v5 v6 v7 v8 v9 v10, cs = [v0, v1, v2, v3, v4, v5, v6, v7, v8, v9, v10] := by
    match cs, hcl with
    | [v0, v1, v2, v3, v4, v5, v6, v7, v8, v9, v10], _ => exact ⟨_, _, _, _, _, _, _, _, _, _, _, rfl⟩
  obtain ⟨y0, y1, y2, y3, y4, y5, y6, y7, rfl⟩ : ∃ y0 y1 y2 y3 y4 y5 y6 y7, xs = [y0, y1, y2, y3, y4, y5, y6, y7] := by
    match xs, hxl with
    | [y0, y1, y2, y3, y4, y5, y6, y7], _ => exact ⟨_, _, _, _, _, _, _, _, rfl⟩
  have f0 : DataW.trod enc Try.prog w 0 sp held n 9 (([v0, v1, v2, v3, v4, v5, v6, v7, v8, v9, v10].drop 0).take (Try.prog.cellsOf 9)) = some y0 := hf 0 _ rfl
  have f1 : DataW.trod enc Try.prog w 0 sp held n 4 (([v0, v1, v2, v3, v4, v5, v6, v7, v8, v9, v10].drop 1).take (Try.prog.cellsOf 4)) = some y1 := hf 1 _ rfl
  have f2 : DataW.trod enc Try.prog w 0 sp held n 4 (([v0, v1, v2, v3, v4, v5, v6, v7, v8, v9, v10].drop 2).take (Try.prog.cellsOf 4)) = some y2 := hf 2 _ rfl
  have f3 : DataW.trod enc Try.prog w 0 sp held n 4 (([v0, v1, v2, v3, v4, v5, v6, v7, v8, v9, v10].drop 3).take (Try.prog.cellsOf 4)) = some y3 := hf 3 _ rfl
  have f4 : DataW.trod enc Try.prog w 0 sp held n 34 (([v0, v1, v2, v3, v4, v5, v6, v7, v8, v9, v10].drop 4).take (Try.prog.cellsOf 34)) = some y4 := hf 4 _ rfl
  have f5 : DataW.trod enc Try.prog w 0 sp held n 50 (([v0, v1, v2, v3, v4, v5, v6, v7, v8, v9, v10].drop 5).take (Try.prog.cellsOf 50)) = some y5 := hf 5 _ rfl
  have f6 : DataW.trod enc Try.prog w 0 sp held n 34 (([v0, v1, v2, v3, v4, v5, v6, v7, v8, v9, v10].drop 9).take (Try.prog.cellsOf 34)) = some y6 := hf 6 _ rfl
  have f7 : DataW.trod enc Try.prog w 0 sp held n 45 (([v0, v1, v2, v3, v4, v5, v6, v7, v8, v9, v10].drop 10).take (Try.prog.cellsOf 45)) = some y7 := hf 7 _ rfl
  clear hf hcl hxl h
  rw [cells9] at f0
  simp only [List.drop_zero, List.take_succ_cons, List.take_zero] at f0
  obtain ⟨a0, e0, rfl, _⟩ := DataW.trod_string Try.underlying9 f0
  injection e0 with e0 _
  subst e0
  rw [cells4] at f1
  simp only [List.drop_succ_cons, List.drop_zero, List.take_succ_cons, List.take_zero] at f1
  obtain ⟨a1, e1, rfl⟩ := DataW.trod_bool Try.underlying4 f1
  injection e1 with e1 _
  subst e1
  rw [cells4] at f2
  simp only [List.drop_succ_cons, List.drop_zero, List.take_succ_cons, List.take_zero] at f2
  obtain ⟨a2, e2, rfl⟩ := DataW.trod_bool Try.underlying4 f2
  injection e2 with e2 _
  subst e2
  rw [cells4] at f3
  simp only [List.drop_succ_cons, List.drop_zero, List.take_succ_cons, List.take_zero] at f3
  obtain ⟨a3, e3, rfl⟩ := DataW.trod_bool Try.underlying4 f3
  injection e3 with e3 _
  subst e3
  rw [cells34] at f4
  simp only [List.drop_succ_cons, List.drop_zero, List.take_succ_cons, List.take_zero] at f4
  obtain ⟨l4, A4, c4, e4, r4, b4, n4⟩ := openRow (R := VIn) (wt := wV) Try.underlying34 cells54 (by decide) (fun m hm cs y hy => openV hy) f4
  injection e4 with e4 _
  subst e4
  rw [cells50] at f5
  simp only [List.drop_succ_cons, List.drop_zero, List.take_succ_cons, List.take_zero] at f5
  obtain ⟨t5, e5, k5, b5⟩ := openY f5
  injection e5 with d0 e5
  injection e5 with d1 e5
  injection e5 with d2 e5
  injection e5 with d3 _
  subst d0 d1 d2 d3
  rw [cells34] at f6
  simp only [List.drop_succ_cons, List.drop_zero, List.take_succ_cons, List.take_zero] at f6
  obtain ⟨l6, A6, c6, e6, r6, b6, n6⟩ := openRow (R := VIn) (wt := wV) Try.underlying34 cells54 (by decide) (fun m hm cs y hy => openV hy) f6
  injection e6 with e6 _
  subst e6
  rw [cells45] at f7
  simp only [List.drop_succ_cons, List.drop_zero, List.take_succ_cons, List.take_nil] at f7
  obtain ⟨l7, A7, c7, e7, r7, b7, n7⟩ := openRow (R := SIn w w.heap.size) (wt := wS) Try.underlying45 cells70 (by decide) (fun m hm cs y hy => openS hy) f7
  injection e7 with e7 _
  subst e7
  clear f0 f1 f2 f3 f4 f5 f6 f7
  refine ⟨⟨a0, a1, a2, a3, l4, t5, l6, l7⟩, ⟨A4, c4, A6, c6, A7, c7, rfl, k5, r4, r6, r7⟩, ?_⟩
  simp only [wM, wSs_sum, List.map_cons, List.map_nil, Rows.uptoBulk, Rows.uptoBulkAll]
  unfold wY at b5 ⊢
  simp only [ByteArray.size, Array.length_toList] at b5 ⊢
  omega
set_option maxRecDepth 100000 in
theorem openD {fuel : Nat} {cs : List Value} {x : DataW H × List MemPlace} (h : DataW.trod enc Try.prog w 0 sp held fuel 47 cs = some x) : ∃ d : DT, DIn w w.heap.size d cs ∧ wD d ≤ 24 * Rows.uptoBulk x.1 := by
  obtain ⟨xs, n, rfl, rfl, hcl, hxl, hf⟩ := DataW.trod_struct Try.underlying47 h
  rw [cells47] at hcl
  obtain ⟨v0, v1, v2, v3, v4, v5, v6, v7, v8, v9, v10, rfl⟩ : ∃ v0 v1 v2 v3 v4 v5 v6 v7 v8 v9 v10, cs = [v0, v1, v2, v3, v4, v5, v6, v7, v8, v9, v10] := by
    match cs, hcl with
    | [v0, v1, v2, v3, v4, v5, v6, v7, v8, v9, v10], _ => exact ⟨_, _, _, _, _, _, _, _, _, _, _, rfl⟩
  obtain ⟨y0, y1, y2, y3, y4, y5, y6, y7, y8, y9, y10, rfl⟩ : ∃ y0 y1 y2 y3 y4 y5 y6 y7 y8 y9 y10, xs = [y0, y1, y2, y3, y4, y5, y6, y7, y8, y9, y10] := by
    match xs, hxl with
    | [y0, y1, y2, y3, y4, y5, y6, y7, y8, y9, y10], _ => exact ⟨_, _, _, _, _, _, _, _, _, _, _, rfl⟩
  have f0 : DataW.trod enc Try.prog w 0 sp held n 3 (([v0, v1, v2, v3, v4, v5, v6, v7, v8, v9, v10].drop 0).take (Try.prog.cellsOf 3)) = some y0 := hf 0 _ rfl
  have f1 : DataW.trod enc Try.prog w 0 sp held n 9 (([v0, v1, v2, v3, v4, v5, v6, v7, v8, v9, v10].drop 1).take (Try.prog.cellsOf 9)) = some y1 := hf 1 _ rfl
  have f2 : DataW.trod enc Try.prog w 0 sp held n 9 (([v0, v1, v2, v3, v4, v5, v6, v7, v8, v9, v10].drop 2).take (Try.prog.cellsOf 9)) = some y2 := hf 2 _ rfl
  have f3 : DataW.trod enc Try.prog w 0 sp held n 43 (([v0, v1, v2, v3, v4, v5, v6, v7, v8, v9, v10].drop 3).take (Try.prog.cellsOf 43)) = some y3 := hf 3 _ rfl
  have f4 : DataW.trod enc Try.prog w 0 sp held n 4 (([v0, v1, v2, v3, v4, v5, v6, v7, v8, v9, v10].drop 4).take (Try.prog.cellsOf 4)) = some y4 := hf 4 _ rfl
  have f5 : DataW.trod enc Try.prog w 0 sp held n 4 (([v0, v1, v2, v3, v4, v5, v6, v7, v8, v9, v10].drop 5).take (Try.prog.cellsOf 4)) = some y5 := hf 5 _ rfl
  have f6 : DataW.trod enc Try.prog w 0 sp held n 34 (([v0, v1, v2, v3, v4, v5, v6, v7, v8, v9, v10].drop 6).take (Try.prog.cellsOf 34)) = some y6 := hf 6 _ rfl
  have f7 : DataW.trod enc Try.prog w 0 sp held n 44 (([v0, v1, v2, v3, v4, v5, v6, v7, v8, v9, v10].drop 7).take (Try.prog.cellsOf 44)) = some y7 := hf 7 _ rfl
  have f8 : DataW.trod enc Try.prog w 0 sp held n 45 (([v0, v1, v2, v3, v4, v5, v6, v7, v8, v9, v10].drop 8).take (Try.prog.cellsOf 45)) = some y8 := hf 8 _ rfl
  have f9 : DataW.trod enc Try.prog w 0 sp held n 3 (([v0, v1, v2, v3, v4, v5, v6, v7, v8, v9, v10].drop 9).take (Try.prog.cellsOf 3)) = some y9 := hf 9 _ rfl
  have f10 : DataW.trod enc Try.prog w 0 sp held n 3 (([v0, v1, v2, v3, v4, v5, v6, v7, v8, v9, v10].drop 10).take (Try.prog.cellsOf 3)) = some y10 := hf 10 _ rfl
  clear hf hcl hxl h
  rw [cells3] at f0
  simp only [List.drop_zero, List.take_succ_cons, List.take_zero] at f0
  obtain ⟨a0, e0, rfl, w0⟩ := DataW.trod_int Try.underlying3 f0
  injection e0 with e0 _
  subst e0
  have w0 := wf64 w0
  rw [cells9] at f1
  simp only [List.drop_succ_cons, List.drop_zero, List.take_succ_cons, List.take_zero] at f1
  obtain ⟨a1, e1, rfl, _⟩ := DataW.trod_string Try.underlying9 f1
  injection e1 with e1 _
  subst e1
  rw [cells9] at f2
  simp only [List.drop_succ_cons, List.drop_zero, List.take_succ_cons, List.take_zero] at f2
  obtain ⟨a2, e2, rfl, _⟩ := DataW.trod_string Try.underlying9 f2
  injection e2 with e2 _
  subst e2
  rw [cells43] at f3
  simp only [List.drop_succ_cons, List.drop_zero, List.take_succ_cons, List.take_zero] at f3
  obtain ⟨l3, A3, c3, e3, r3, b3, n3⟩ := openRow (R := XIn) (wt := wX) Try.underlying43 cells9 (by decide) (fun m hm cs y hy => openX hy) f3
  injection e3 with e3 _
  subst e3
  rw [cells4] at f4
  simp only [List.drop_succ_cons, List.drop_zero, List.take_succ_cons, List.take_zero] at f4
  obtain ⟨a4, e4, rfl⟩ := DataW.trod_bool Try.underlying4 f4
  injection e4 with e4 _
  subst e4
  rw [cells4] at f5
  simp only [List.drop_succ_cons, List.drop_zero, List.take_succ_cons, List.take_zero] at f5
  obtain ⟨a5, e5, rfl⟩ := DataW.trod_bool Try.underlying4 f5
  injection e5 with e5 _
  subst e5
  rw [cells34] at f6
  simp only [List.drop_succ_cons, List.drop_zero, List.take_succ_cons, List.take_zero] at f6
  obtain ⟨l6, A6, c6, e6, r6, b6, n6⟩ := openRow (R := VIn) (wt := wV) Try.underlying34 cells54 (by decide) (fun m hm cs y hy => openV hy) f6
  injection e6 with e6 _
  subst e6
  rw [cells44] at f7
  simp only [List.drop_succ_cons, List.drop_zero, List.take_succ_cons, List.take_zero] at f7
  obtain ⟨l7, A7, c7, e7, r7, b7, n7⟩ := openRow (R := MIn w w.heap.size) (wt := wM) Try.underlying44 cells52 (by decide) (fun m hm cs y hy => openM hy) f7
  injection e7 with e7 _
  subst e7
  rw [cells45] at f8
  simp only [List.drop_succ_cons, List.drop_zero, List.take_succ_cons, List.take_zero] at f8
  obtain ⟨l8, A8, c8, e8, r8, b8, n8⟩ := openRow (R := SIn w w.heap.size) (wt := wS) Try.underlying45 cells70 (by decide) (fun m hm cs y hy => openS hy) f8
  injection e8 with e8 _
  subst e8
  rw [cells3] at f9
  simp only [List.drop_succ_cons, List.drop_zero, List.take_succ_cons, List.take_zero] at f9
  obtain ⟨a9, e9, rfl, w9⟩ := DataW.trod_int Try.underlying3 f9
  injection e9 with e9 _
  subst e9
  have w9 := wf64 w9
  rw [cells3] at f10
  simp only [List.drop_succ_cons, List.drop_zero, List.take_succ_cons, List.take_nil] at f10
  obtain ⟨a10, e10, rfl, w10⟩ := DataW.trod_int Try.underlying3 f10
  injection e10 with e10 _
  subst e10
  have w10 := wf64 w10
  clear f0 f1 f2 f3 f4 f5 f6 f7 f8 f9 f10
  refine ⟨⟨a0, a1, a2, l3, a4, a5, l6, l7, l8, a9, a10⟩, ⟨A3, c3, A6, c6, A7, c7, A8, c8, rfl, w9, w10, r3, r6, r7, r8⟩, ?_⟩
  have := dn_le w9
  have := dn_le w10
  simp only [wD, wSs_sum, List.map_cons, List.map_nil, Rows.uptoBulk, Rows.uptoBulkAll]
  simp only [ByteArray.size, Array.length_toList]
  omega
set_option maxRecDepth 100000 in
theorem openU {fuel : Nat} {cs : List Value} {x : DataW H × List MemPlace} (h : DataW.trod enc Try.prog w 0 sp held fuel 24 cs = some x) : ∃ (L : List DT) (A : Option Addr) (c : Nat), cs = [.slice A L.length c] ∧ DsR w w.heap.size A L ∧ wU L ≤ 24 * Rows.uptoBulk x.1 ∧ (A = none → c = 0) := by
  obtain ⟨xs, n, rfl, rfl, hcl, hxl, hf⟩ := DataW.trod_struct Try.underlying24 h
  rw [cells24] at hcl
  obtain ⟨v0, rfl⟩ : ∃ v0, cs = [v0] := by
    match cs, hcl with
    | [v0], _ => exact ⟨_, rfl⟩
  obtain ⟨y0, rfl⟩ : ∃ y0, xs = [y0] := by
    match xs, hxl with
    | [y0], _ => exact ⟨_, rfl⟩
  have f0 : DataW.trod enc Try.prog w 0 sp held n 22 (([v0].drop 0).take (Try.prog.cellsOf 22)) = some y0 := hf 0 _ rfl
  clear hf hcl hxl h
  rw [cells22] at f0
  simp only [List.drop_zero, List.take_succ_cons, List.take_nil] at f0
  obtain ⟨l0, A0, c0, e0, r0, b0, n0⟩ := openRow (R := DIn w w.heap.size) (wt := wD) Try.underlying22 cells47 (by decide) (fun m hm cs y hy => openD hy) f0
  injection e0 with e0 _
  subst e0
  clear f0
  refine ⟨l0, A0, c0, rfl, r0, ?_, n0⟩
  simp only [wU, List.map_cons, List.map_nil, Rows.uptoBulk, Rows.uptoBulkAll]
  omega
end
end Go.Proofs.Ytmbddofcildibaa

/-
  The readings of the arguments as trees, no list of which is longer than a slice may be.
-/
namespace Go.Proofs.Ytmbddofcildibaa
open Go Go.ChangeShapes Go.WideShapes Go.RowKit
set_option linter.unusedVariables false
set_option linter.unusedSimpArgs false

/-- no list of it is longer than a slice may be. -/
inductive OE : ET → Prop
  | mk {k n : Int} {nm wh : ByteArray} {args : List ET} : args.length ≤ 9223372036854775807 → (∀ (i : Nat) (hi : i < args.length), OE args[i]) → OE (.mk k n nm wh args)
inductive OS : ST → Prop
  | mk {k n : Int} {nm : ByteArray} {ex : List ET} {lb : List (List Int)} {bs : List (List ST)} : ex.length ≤ 9223372036854775807 → (∀ (i : Nat) (hi : i < ex.length), OE ex[i]) → lb.length ≤ 9223372036854775807 → bs.length ≤ 9223372036854775807 →
      (∀ (j : Nat) (hj : j < bs.length), bs[j].length ≤ 9223372036854775807) → (∀ (j : Nat) (hj : j < bs.length) (i : Nat) (hi : i < bs[j].length), OS bs[j][i]) → OS (.mk k n nm ex lb bs)
structure OM (m : MT) : Prop where
  params : m.params.length ≤ 9223372036854775807
  vars : m.vars.length ≤ 9223372036854775807
  body : m.body.length ≤ 9223372036854775807
  stmts : ∀ (i : Nat) (hi : i < m.body.length), OS m.body[i]
structure OD (d : DT) : Prop where
  faces : d.faces.length ≤ 9223372036854775807
  vars : d.vars.length ≤ 9223372036854775807
  methods : d.methods.length ≤ 9223372036854775807
  each : ∀ (i : Nat) (hi : i < d.methods.length), OM d.methods[i]
  body : d.body.length ≤ 9223372036854775807
  stmts : ∀ (i : Nat) (hi : i < d.body.length), OS d.body[i]
theorem RowIn.left {α : Type} {R : α → List Value → Prop} {o : α → Prop} {w : World} {B : Nat} {A : Option Addr} {sz : Nat} {l : List α} (h : RowIn (fun a cs => R a cs ∧ o a) w B A sz l) : RowIn R w B A sz l :=
  RowIn.mono (Nat.le_refl _) (fun _ _ => rfl) (fun _ _ _ h => h.1) h
theorem RowIn.right {α : Type} {R : α → List Value → Prop} {o : α → Prop} {w : World} {B : Nat} {A : Option Addr} {sz : Nat} {l : List α} (h : RowIn (fun a cs => R a cs ∧ o a) w B A sz l) (k : Nat) (hk : k < l.length) : o l[k] := by
  obtain ⟨_, _, _, _, _, _, _, h2⟩ := h k hk
  exact h2.2
section
variable {H : Type} {enc : TypeId × Value → H} {w : World} {sp : Nat → Bool} {held : Bool}
theorem openRowO {α : Type} {R : α → List Value → Prop} {S T : TypeId} {sz fuel : Nat} {cs : List Value} {x : DataW H × List MemPlace} (hu : Try.prog.underlying S = some (.slice T)) (hsz : Try.prog.cellsOf T = sz) (h0 : 0 < sz)
    (ih : ∀ n, n < fuel → ∀ (cs : List Value) (y : DataW H × List MemPlace), DataW.trod enc Try.prog w 0 sp held n T cs = some y → ∃ a, R a cs)
    (h : DataW.trod enc Try.prog w 0 sp held fuel S cs = some x) : ∃ (l : List α) (A : Option Addr) (c : Nat), cs = [.slice A l.length c] ∧ RowIn R w w.heap.size A sz l ∧ l.length ≤ 9223372036854775807 ∧ (A = none → c = 0) := by
  obtain ⟨l, A, c, rfl, h1, _, h3⟩ := openRow (R := R) (wt := fun _ => 0) hu hsz h0 (fun n hn cs y hy => by
    obtain ⟨a, ha⟩ := ih n hn cs y hy
    exact ⟨a, ha, Nat.zero_le _⟩) h
  refine ⟨l, A, c, rfl, h1, ?_, h3⟩
  have hm : maxLen = 9223372036854775807 := by decide
  rcases DataW.trod_slice hu h with ⟨e, _⟩ | ⟨a, len, cap, _, _, _, _, e, _, _, h4, h5, _⟩
  · injection e with e _
    injection e with _ e _
    omega
  · injection e with e _
    injection e with _ e _
    omega
theorem openLo {fuel : Nat} {cs : List Value} {x : DataW H × List MemPlace} (h : DataW.trod enc Try.prog w 0 sp held fuel 32 cs = some x) : ∃ l : List Int, LIn w w.heap.size l cs := by
  obtain ⟨l, A, c, rfl, hr, hb, _⟩ := openRowO (R := NIn) Try.underlying32 cells3 (by decide) (fun n _ cs y hy => ⟨_, (openN hy).choose_spec.1⟩) h
  exact ⟨l, ⟨A, c, rfl, hr⟩⟩
set_option maxRecDepth 100000 in
theorem openEo : ∀ {fuel : Nat} {cs : List Value} {x : DataW H × List MemPlace} , DataW.trod enc Try.prog w 0 sp held fuel 66 cs = some x → ∃ e : ET, EIn w w.heap.size e cs ∧ OE e := by
  intro fuel
  induction fuel using Nat.strongRecOn with
  | _ fuel ih =>
    intro cs x h
    obtain ⟨xs, n, rfl, rfl, hcl, hxl, hf⟩ := DataW.trod_struct Try.underlying66 h
    rw [cells66] at hcl
    obtain ⟨v0, v1, v2, v3, v4, rfl⟩ : ∃ v0 v1 v2 v3 v4, cs = [v0, v1, v2, v3, v4] := by
      match cs, hcl with
      | [v0, v1, v2, v3, v4], _ => exact ⟨_, _, _, _, _, rfl⟩
    obtain ⟨y0, y1, y2, y3, y4, rfl⟩ : ∃ y0 y1 y2 y3 y4, xs = [y0, y1, y2, y3, y4] := by
      match xs, hxl with
      | [y0, y1, y2, y3, y4], _ => exact ⟨_, _, _, _, _, rfl⟩
    have f0 : DataW.trod enc Try.prog w 0 sp held n 3 (([v0, v1, v2, v3, v4].drop 0).take (Try.prog.cellsOf 3)) = some y0 := hf 0 _ rfl
    have f1 : DataW.trod enc Try.prog w 0 sp held n 3 (([v0, v1, v2, v3, v4].drop 1).take (Try.prog.cellsOf 3)) = some y1 := hf 1 _ rfl
    have f2 : DataW.trod enc Try.prog w 0 sp held n 9 (([v0, v1, v2, v3, v4].drop 2).take (Try.prog.cellsOf 9)) = some y2 := hf 2 _ rfl
    have f3 : DataW.trod enc Try.prog w 0 sp held n 9 (([v0, v1, v2, v3, v4].drop 3).take (Try.prog.cellsOf 9)) = some y3 := hf 3 _ rfl
    have f4 : DataW.trod enc Try.prog w 0 sp held n 64 (([v0, v1, v2, v3, v4].drop 4).take (Try.prog.cellsOf 64)) = some y4 := hf 4 _ rfl
    clear hf hcl hxl h
    rw [cells3] at f0
    simp only [List.drop_zero, List.take_succ_cons, List.take_zero] at f0
    obtain ⟨a0, e0, rfl, w0⟩ := DataW.trod_int Try.underlying3 f0
    injection e0 with e0 _
    subst e0
    have w0 := wf64 w0
    rw [cells3] at f1
    simp only [List.drop_succ_cons, List.drop_zero, List.take_succ_cons, List.take_zero] at f1
    obtain ⟨a1, e1, rfl, w1⟩ := DataW.trod_int Try.underlying3 f1
    injection e1 with e1 _
    subst e1
    have w1 := wf64 w1
    rw [cells9] at f2
    simp only [List.drop_succ_cons, List.drop_zero, List.take_succ_cons, List.take_zero] at f2
    obtain ⟨a2, e2, rfl, _⟩ := DataW.trod_string Try.underlying9 f2
    injection e2 with e2 _
    subst e2
    rw [cells9] at f3
    simp only [List.drop_succ_cons, List.drop_zero, List.take_succ_cons, List.take_zero] at f3
    obtain ⟨a3, e3, rfl, _⟩ := DataW.trod_string Try.underlying9 f3
    injection e3 with e3 _
    subst e3
    rw [cells64] at f4
    simp only [List.drop_succ_cons, List.drop_zero, List.take_succ_cons, List.take_nil] at f4
    obtain ⟨l4, A4, c4, e4, r4, n4, _⟩ := openRowO (R := fun e cs => EIn w w.heap.size e cs ∧ OE e) Try.underlying64 cells66 (by decide) (fun m hm cs y hy => ih m (by omega) hy) f4
    injection e4 with e4 _
    subst e4
    clear f0 f1 f2 f3 f4
    exact ⟨.mk a0 a1 a2 a3 l4, EIn.of_form A4 c4 w1 r4.left, .mk n4 r4.right⟩
set_option maxRecDepth 100000 in
theorem openSo : ∀ {fuel : Nat} {cs : List Value} {x : DataW H × List MemPlace} , DataW.trod enc Try.prog w 0 sp held fuel 70 cs = some x → ∃ s : ST, SIn w w.heap.size s cs ∧ OS s := by
  intro fuel
  induction fuel using Nat.strongRecOn with
  | _ fuel ih =>
    intro cs x h
    obtain ⟨xs, n, rfl, rfl, hcl, hxl, hf⟩ := DataW.trod_struct Try.underlying70 h
    rw [cells70] at hcl
    obtain ⟨v0, v1, v2, v3, v4, v5, rfl⟩ : ∃ v0 v1 v2 v3 v4 v5, cs = [v0, v1, v2, v3, v4, v5] := by
      match cs, hcl with
      | [v0, v1, v2, v3, v4, v5], _ => exact ⟨_, _, _, _, _, _, rfl⟩
    obtain ⟨y0, y1, y2, y3, y4, y5, rfl⟩ : ∃ y0 y1 y2 y3 y4 y5, xs = [y0, y1, y2, y3, y4, y5] := by
      match xs, hxl with
      | [y0, y1, y2, y3, y4, y5], _ => exact ⟨_, _, _, _, _, _, rfl⟩
    have f0 : DataW.trod enc Try.prog w 0 sp held n 3 (([v0, v1, v2, v3, v4, v5].drop 0).take (Try.prog.cellsOf 3)) = some y0 := hf 0 _ rfl
    have f1 : DataW.trod enc Try.prog w 0 sp held n 3 (([v0, v1, v2, v3, v4, v5].drop 1).take (Try.prog.cellsOf 3)) = some y1 := hf 1 _ rfl
    have f2 : DataW.trod enc Try.prog w 0 sp held n 9 (([v0, v1, v2, v3, v4, v5].drop 2).take (Try.prog.cellsOf 9)) = some y2 := hf 2 _ rfl
    have f3 : DataW.trod enc Try.prog w 0 sp held n 64 (([v0, v1, v2, v3, v4, v5].drop 3).take (Try.prog.cellsOf 64)) = some y3 := hf 3 _ rfl
    have f4 : DataW.trod enc Try.prog w 0 sp held n 68 (([v0, v1, v2, v3, v4, v5].drop 4).take (Try.prog.cellsOf 68)) = some y4 := hf 4 _ rfl
    have f5 : DataW.trod enc Try.prog w 0 sp held n 67 (([v0, v1, v2, v3, v4, v5].drop 5).take (Try.prog.cellsOf 67)) = some y5 := hf 5 _ rfl
    clear hf hcl hxl h
    rw [cells3] at f0
    simp only [List.drop_zero, List.take_succ_cons, List.take_zero] at f0
    obtain ⟨a0, e0, rfl, w0⟩ := DataW.trod_int Try.underlying3 f0
    injection e0 with e0 _
    subst e0
    have w0 := wf64 w0
    rw [cells3] at f1
    simp only [List.drop_succ_cons, List.drop_zero, List.take_succ_cons, List.take_zero] at f1
    obtain ⟨a1, e1, rfl, w1⟩ := DataW.trod_int Try.underlying3 f1
    injection e1 with e1 _
    subst e1
    have w1 := wf64 w1
    rw [cells9] at f2
    simp only [List.drop_succ_cons, List.drop_zero, List.take_succ_cons, List.take_zero] at f2
    obtain ⟨a2, e2, rfl, _⟩ := DataW.trod_string Try.underlying9 f2
    injection e2 with e2 _
    subst e2
    rw [cells64] at f3
    simp only [List.drop_succ_cons, List.drop_zero, List.take_succ_cons, List.take_zero] at f3
    obtain ⟨l3, A3, c3, e3, r3, n3, _⟩ := openRowO (R := fun e cs => EIn w w.heap.size e cs ∧ OE e) Try.underlying64 cells66 (by decide) (fun m hm cs y hy => openEo hy) f3
    injection e3 with e3 _
    subst e3
    rw [cells68] at f4
    simp only [List.drop_succ_cons, List.drop_zero, List.take_succ_cons, List.take_zero] at f4
    obtain ⟨l4, A4, c4, e4, r4, n4, _⟩ := openRowO (R := LIn w w.heap.size) Try.underlying68 cells32 (by decide) (fun m hm cs y hy => openLo hy) f4
    injection e4 with e4 _
    subst e4
    rw [cells67] at f5
    simp only [List.drop_succ_cons, List.drop_zero, List.take_succ_cons, List.take_nil] at f5
    obtain ⟨l5, A5, c5, e5, r5, n5, _⟩ := openRowO (R := fun b cs => BIn w w.heap.size b cs ∧ (b.length ≤ 9223372036854775807 ∧ ∀ (i : Nat) (hi : i < b.length), OS b[i])) Try.underlying67 cells45 (by decide) (fun m hm cs y hy => by
      obtain ⟨l, A, c, rfl, hr, hb, _⟩ := openRowO (R := fun e cs => SIn w w.heap.size e cs ∧ OS e) Try.underlying45 cells70 (by decide) (fun m2 hm2 cs y hy => ih m2 (by omega) hy) hy
      exact ⟨l, ⟨A, c, rfl, hr.left⟩, hb, hr.right⟩) f5
    injection e5 with e5 _
    subst e5
    clear f0 f1 f2 f3 f4 f5
    exact ⟨.mk a0 a1 a2 l3 l4 l5, SIn.of_form A3 A4 A5 c3 c4 c5 w1 r3.left r4 r5.left, .mk n3 r3.right n4 n5 (fun j hj => (r5.right j hj).1) (fun j hj => (r5.right j hj).2)⟩
set_option maxRecDepth 100000 in
theorem openMo {fuel : Nat} {cs : List Value} {x : DataW H × List MemPlace} (h : DataW.trod enc Try.prog w 0 sp held fuel 52 cs = some x) : ∃ m : MT, MIn w w.heap.size m cs ∧ OM m := by
  obtain ⟨xs, n, rfl, rfl, hcl, hxl, hf⟩ := DataW.trod_struct Try.underlying52 h
  rw [cells52] at hcl
  obtain ⟨v0, v1, v2, v3, v4, v5, v6, v7, v8, v9, v10, rfl⟩ : ∃ v0 v1 v2 v3 v4 v5 v6 v7 v8 v9 v10, cs = [v0, v1, v2, v3, v4, v5, v6, v7, v8, v9, v10] := by
    match cs, hcl with
    | [v0, v1, v2, v3, v4, v5, v6, v7, v8, v9, v10], _ => exact ⟨_, _, _, _, _, _, _, _, _, _, _, rfl⟩
  obtain ⟨y0, y1, y2, y3, y4, y5, y6, y7, rfl⟩ : ∃ y0 y1 y2 y3 y4 y5 y6 y7, xs = [y0, y1, y2, y3, y4, y5, y6, y7] := by
    match xs, hxl with
    | [y0, y1, y2, y3, y4, y5, y6, y7], _ => exact ⟨_, _, _, _, _, _, _, _, rfl⟩
  have f0 : DataW.trod enc Try.prog w 0 sp held n 9 (([v0, v1, v2, v3, v4, v5, v6, v7, v8, v9, v10].drop 0).take (Try.prog.cellsOf 9)) = some y0 := hf 0 _ rfl
  have f1 : DataW.trod enc Try.prog w 0 sp held n 4 (([v0, v1, v2, v3, v4, v5, v6, v7, v8, v9, v10].drop 1).take (Try.prog.cellsOf 4)) = some y1 := hf 1 _ rfl
  have f2 : DataW.trod enc Try.prog w 0 sp held n 4 (([v0, v1, v2, v3, v4, v5, v6, v7, v8, v9, v10].drop 2).take (Try.prog.cellsOf 4)) = some y2 := hf 2 _ rfl
  have f3 : DataW.trod enc Try.prog w 0 sp held n 4 (([v0, v1, v2, v3, v4, v5, v6, v7, v8, v9, v10].drop 3).take (Try.prog.cellsOf 4)) = some y3 := hf 3 _ rfl
  have f4 : DataW.trod enc Try.prog w 0 sp held n 34 (([v0, v1, v2, v3, v4, v5, v6, v7, v8, v9, v10].drop 4).take (Try.prog.cellsOf 34)) = some y4 := hf 4 _ rfl
  have f5 : DataW.trod enc Try.prog w 0 sp held n 50 (([v0, v1, v2, v3, v4, v5, v6, v7, v8, v9, v10].drop 5).take (Try.prog.cellsOf 50)) = some y5 := hf 5 _ rfl
  have f6 : DataW.trod enc Try.prog w 0 sp held n 34 (([v0, v1, v2, v3, v4, v5, v6, v7, v8, v9, v10].drop 9).take (Try.prog.cellsOf 34)) = some y6 := hf 6 _ rfl
  have f7 : DataW.trod enc Try.prog w 0 sp held n 45 (([v0, v1, v2, v3, v4, v5, v6, v7, v8, v9, v10].drop 10).take (Try.prog.cellsOf 45)) = some y7 := hf 7 _ rfl
  clear hf hcl hxl h
  rw [cells9] at f0
  simp only [List.drop_zero, List.take_succ_cons, List.take_zero] at f0
  obtain ⟨a0, e0, rfl, _⟩ := DataW.trod_string Try.underlying9 f0
  injection e0 with e0 _
  subst e0
  rw [cells4] at f1
  simp only [List.drop_succ_cons, List.drop_zero, List.take_succ_cons, List.take_zero] at f1
  obtain ⟨a1, e1, rfl⟩ := DataW.trod_bool Try.underlying4 f1
  injection e1 with e1 _
  subst e1
  rw [cells4] at f2
  simp only [List.drop_succ_cons, List.drop_zero, List.take_succ_cons, List.take_zero] at f2
  obtain ⟨a2, e2, rfl⟩ := DataW.trod_bool Try.underlying4 f2
  injection e2 with e2 _
  subst e2
  rw [cells4] at f3
  simp only [List.drop_succ_cons, List.drop_zero, List.take_succ_cons, List.take_zero] at f3
  obtain ⟨a3, e3, rfl⟩ := DataW.trod_bool Try.underlying4 f3
  injection e3 with e3 _
  subst e3
  rw [cells34] at f4
  simp only [List.drop_succ_cons, List.drop_zero, List.take_succ_cons, List.take_zero] at f4
  obtain ⟨l4, A4, c4, e4, r4, n4, _⟩ := openRowO (R := VIn) Try.underlying34 cells54 (by decide) (fun m hm cs y hy => ⟨_, (openV hy).choose_spec.1⟩) f4
  injection e4 with e4 _
  subst e4
  rw [cells50] at f5
  simp only [List.drop_succ_cons, List.drop_zero, List.take_succ_cons, List.take_zero] at f5
  obtain ⟨t5, e5, k5, b5⟩ := openY f5
  injection e5 with d0 e5
  injection e5 with d1 e5
  injection e5 with d2 e5
  injection e5 with d3 _
  subst d0 d1 d2 d3
  rw [cells34] at f6
  simp only [List.drop_succ_cons, List.drop_zero, List.take_succ_cons, List.take_zero] at f6
  obtain ⟨l6, A6, c6, e6, r6, n6, _⟩ := openRowO (R := VIn) Try.underlying34 cells54 (by decide) (fun m hm cs y hy => ⟨_, (openV hy).choose_spec.1⟩) f6
  injection e6 with e6 _
  subst e6
  rw [cells45] at f7
  simp only [List.drop_succ_cons, List.drop_zero, List.take_succ_cons, List.take_nil] at f7
  obtain ⟨l7, A7, c7, e7, r7, n7, _⟩ := openRowO (R := fun e cs => SIn w w.heap.size e cs ∧ OS e) Try.underlying45 cells70 (by decide) (fun m hm cs y hy => openSo hy) f7
  injection e7 with e7 _
  subst e7
  clear f0 f1 f2 f3 f4 f5 f6 f7
  exact ⟨⟨a0, a1, a2, a3, l4, t5, l6, l7⟩, ⟨A4, c4, A6, c6, A7, c7, rfl, k5, r4, r6, r7.left⟩, ⟨n4, n6, n7, r7.right⟩⟩
set_option maxRecDepth 100000 in
theorem openDo {fuel : Nat} {cs : List Value} {x : DataW H × List MemPlace} (h : DataW.trod enc Try.prog w 0 sp held fuel 47 cs = some x) : ∃ d : DT, DIn w w.heap.size d cs ∧ OD d := by
  obtain ⟨xs, n, rfl, rfl, hcl, hxl, hf⟩ := DataW.trod_struct Try.underlying47 h
  rw [cells47] at hcl
  obtain ⟨v0, v1, v2, v3, v4, v5, v6, v7, v8, v9, v10, rfl⟩ : ∃ v0 v1 v2 v3 v4 v5 v6 v7 v8 v9 v10, cs = [v0, v1, v2, v3, v4, v5, v6, v7, v8, v9, v10] := by
    match cs, hcl with
    | [v0, v1, v2, v3, v4, v5, v6, v7, v8, v9, v10], _ => exact ⟨_, _, _, _, _, _, _, _, _, _, _, rfl⟩
  obtain ⟨y0, y1, y2, y3, y4, y5, y6, y7, y8, y9, y10, rfl⟩ : ∃ y0 y1 y2 y3 y4 y5 y6 y7 y8 y9 y10, xs = [y0, y1, y2, y3, y4, y5, y6, y7, y8, y9, y10] := by
    match xs, hxl with
    | [y0, y1, y2, y3, y4, y5, y6, y7, y8, y9, y10], _ => exact ⟨_, _, _, _, _, _, _, _, _, _, _, rfl⟩
  have f0 : DataW.trod enc Try.prog w 0 sp held n 3 (([v0, v1, v2, v3, v4, v5, v6, v7, v8, v9, v10].drop 0).take (Try.prog.cellsOf 3)) = some y0 := hf 0 _ rfl
  have f1 : DataW.trod enc Try.prog w 0 sp held n 9 (([v0, v1, v2, v3, v4, v5, v6, v7, v8, v9, v10].drop 1).take (Try.prog.cellsOf 9)) = some y1 := hf 1 _ rfl
  have f2 : DataW.trod enc Try.prog w 0 sp held n 9 (([v0, v1, v2, v3, v4, v5, v6, v7, v8, v9, v10].drop 2).take (Try.prog.cellsOf 9)) = some y2 := hf 2 _ rfl
  have f3 : DataW.trod enc Try.prog w 0 sp held n 43 (([v0, v1, v2, v3, v4, v5, v6, v7, v8, v9, v10].drop 3).take (Try.prog.cellsOf 43)) = some y3 := hf 3 _ rfl
  have f4 : DataW.trod enc Try.prog w 0 sp held n 4 (([v0, v1, v2, v3, v4, v5, v6, v7, v8, v9, v10].drop 4).take (Try.prog.cellsOf 4)) = some y4 := hf 4 _ rfl
  have f5 : DataW.trod enc Try.prog w 0 sp held n 4 (([v0, v1, v2, v3, v4, v5, v6, v7, v8, v9, v10].drop 5).take (Try.prog.cellsOf 4)) = some y5 := hf 5 _ rfl
  have f6 : DataW.trod enc Try.prog w 0 sp held n 34 (([v0, v1, v2, v3, v4, v5, v6, v7, v8, v9, v10].drop 6).take (Try.prog.cellsOf 34)) = some y6 := hf 6 _ rfl
  have f7 : DataW.trod enc Try.prog w 0 sp held n 44 (([v0, v1, v2, v3, v4, v5, v6, v7, v8, v9, v10].drop 7).take (Try.prog.cellsOf 44)) = some y7 := hf 7 _ rfl
  have f8 : DataW.trod enc Try.prog w 0 sp held n 45 (([v0, v1, v2, v3, v4, v5, v6, v7, v8, v9, v10].drop 8).take (Try.prog.cellsOf 45)) = some y8 := hf 8 _ rfl
  have f9 : DataW.trod enc Try.prog w 0 sp held n 3 (([v0, v1, v2, v3, v4, v5, v6, v7, v8, v9, v10].drop 9).take (Try.prog.cellsOf 3)) = some y9 := hf 9 _ rfl
  have f10 : DataW.trod enc Try.prog w 0 sp held n 3 (([v0, v1, v2, v3, v4, v5, v6, v7, v8, v9, v10].drop 10).take (Try.prog.cellsOf 3)) = some y10 := hf 10 _ rfl
  clear hf hcl hxl h
  rw [cells3] at f0
  simp only [List.drop_zero, List.take_succ_cons, List.take_zero] at f0
  obtain ⟨a0, e0, rfl, w0⟩ := DataW.trod_int Try.underlying3 f0
  injection e0 with e0 _
  subst e0
  have w0 := wf64 w0
  rw [cells9] at f1
  simp only [List.drop_succ_cons, List.drop_zero, List.take_succ_cons, List.take_zero] at f1
  obtain ⟨a1, e1, rfl, _⟩ := DataW.trod_string Try.underlying9 f1
  injection e1 with e1 _
  subst e1
  rw [cells9] at f2
  simp only [List.drop_succ_cons, List.drop_zero, List.take_succ_cons, List.take_zero] at f2
  obtain ⟨a2, e2, rfl, _⟩ := DataW.trod_string Try.underlying9 f2
  injection e2 with e2 _
  subst e2
  rw [cells43] at f3
  simp only [List.drop_succ_cons, List.drop_zero, List.take_succ_cons, List.take_zero] at f3
  obtain ⟨l3, A3, c3, e3, r3, n3, _⟩ := openRowO (R := XIn) Try.underlying43 cells9 (by decide) (fun m hm cs y hy => ⟨_, (openX hy).choose_spec.1⟩) f3
  injection e3 with e3 _
  subst e3
  rw [cells4] at f4
  simp only [List.drop_succ_cons, List.drop_zero, List.take_succ_cons, List.take_zero] at f4
  obtain ⟨a4, e4, rfl⟩ := DataW.trod_bool Try.underlying4 f4
  injection e4 with e4 _
  subst e4
  rw [cells4] at f5
  simp only [List.drop_succ_cons, List.drop_zero, List.take_succ_cons, List.take_zero] at f5
  obtain ⟨a5, e5, rfl⟩ := DataW.trod_bool Try.underlying4 f5
  injection e5 with e5 _
  subst e5
  rw [cells34] at f6
  simp only [List.drop_succ_cons, List.drop_zero, List.take_succ_cons, List.take_zero] at f6
  obtain ⟨l6, A6, c6, e6, r6, n6, _⟩ := openRowO (R := VIn) Try.underlying34 cells54 (by decide) (fun m hm cs y hy => ⟨_, (openV hy).choose_spec.1⟩) f6
  injection e6 with e6 _
  subst e6
  rw [cells44] at f7
  simp only [List.drop_succ_cons, List.drop_zero, List.take_succ_cons, List.take_zero] at f7
  obtain ⟨l7, A7, c7, e7, r7, n7, _⟩ := openRowO (R := fun e cs => MIn w w.heap.size e cs ∧ OM e) Try.underlying44 cells52 (by decide) (fun m hm cs y hy => openMo hy) f7
  injection e7 with e7 _
  subst e7
  rw [cells45] at f8
  simp only [List.drop_succ_cons, List.drop_zero, List.take_succ_cons, List.take_zero] at f8
  obtain ⟨l8, A8, c8, e8, r8, n8, _⟩ := openRowO (R := fun e cs => SIn w w.heap.size e cs ∧ OS e) Try.underlying45 cells70 (by decide) (fun m hm cs y hy => openSo hy) f8
  injection e8 with e8 _
  subst e8
  rw [cells3] at f9
  simp only [List.drop_succ_cons, List.drop_zero, List.take_succ_cons, List.take_zero] at f9
  obtain ⟨a9, e9, rfl, w9⟩ := DataW.trod_int Try.underlying3 f9
  injection e9 with e9 _
  subst e9
  have w9 := wf64 w9
  rw [cells3] at f10
  simp only [List.drop_succ_cons, List.drop_zero, List.take_succ_cons, List.take_nil] at f10
  obtain ⟨a10, e10, rfl, w10⟩ := DataW.trod_int Try.underlying3 f10
  injection e10 with e10 _
  subst e10
  have w10 := wf64 w10
  clear f0 f1 f2 f3 f4 f5 f6 f7 f8 f9 f10
  exact ⟨⟨a0, a1, a2, l3, a4, a5, l6, l7, l8, a9, a10⟩, ⟨A3, c3, A6, c6, A7, c7, A8, c8, rfl, w9, w10, r3, r6, r7.left, r8.left⟩, ⟨n3, n6, n7, r7.right, n8, r8.right⟩⟩
set_option maxRecDepth 100000 in
theorem openUo {fuel : Nat} {cs : List Value} {x : DataW H × List MemPlace} (h : DataW.trod enc Try.prog w 0 sp held fuel 24 cs = some x) : ∃ (L : List DT) (A : Option Addr) (c : Nat), cs = [.slice A L.length c] ∧ DsR w w.heap.size A L ∧ L.length ≤ 9223372036854775807 ∧ (∀ (i : Nat) (hi : i < L.length), OD L[i]) ∧ (A = none → c = 0) := by
  obtain ⟨xs, n, rfl, rfl, hcl, hxl, hf⟩ := DataW.trod_struct Try.underlying24 h
  rw [cells24] at hcl
  obtain ⟨v0, rfl⟩ : ∃ v0, cs = [v0] := by
    match cs, hcl with
    | [v0], _ => exact ⟨_, rfl⟩
  obtain ⟨y0, rfl⟩ : ∃ y0, xs = [y0] := by
    match xs, hxl with
    | [y0], _ => exact ⟨_, rfl⟩
  have f0 : DataW.trod enc Try.prog w 0 sp held n 22 (([v0].drop 0).take (Try.prog.cellsOf 22)) = some y0 := hf 0 _ rfl
  clear hf hcl hxl h
  rw [cells22] at f0
  simp only [List.drop_zero, List.take_succ_cons, List.take_nil] at f0
  obtain ⟨l0, A0, c0, e0, r0, n0, z0⟩ := openRowO (R := fun e cs => DIn w w.heap.size e cs ∧ OD e) Try.underlying22 cells47 (by decide) (fun m hm cs y hy => openDo hy) f0
  injection e0 with e0 _
  subst e0
  clear f0
  exact ⟨l0, A0, c0, rfl, r0.left, n0, r0.right, z0⟩
end
end Go.Proofs.Ytmbddofcildibaa

/-
  governorlaw0: GreatTexts, vars, exprs, stmts BY CONTRACTS, over lists of whatever length: some answer, nothing changed.
-/
namespace Go.Proofs.Ytmbddofcildibaa
open Go Go.RowKit
set_option linter.unusedVariables false
set_option linter.unusedSimpArgs false

/-- what GreatTexts says. -/
def TextsB (L : List ByteArray) (most long : Int) (w : World) (e : Ending) (w' : World) : Prop := (∃ r : Bool, e = .returned (.bool r) ∧ Hid (r = false → (L.length : Int) ≤ most ∧ ∀ s ∈ L, (s.size : Int) ≤ long)) ∧ Below w.heap.size w w'
set_option maxHeartbeats 1000000 in
theorem greatTexts_full (L : List ByteArray) (A : Option Addr) (c : Nat) (most long : Int) (w : World) (ha : XsR w w.heap.size A L) (hcnt : L.length ≤ 9223372036854775807) :
    Calls Try.prog 43 #[.slice A L.length c, .int .i64 most, .int .i64 long] w (TextsB L most long w) := by
  have HA := Lib.hid (fun (w' : World) (hb : Below w.heap.size w w') => XsR.mono (Nat.le_refl _) hb.block ha)
  clear ha
  go_enter Try.func43, Try.ntmps43
  go_wp2_with fail
  go_loopw [7] (fun i wr => ∃ k : Nat, k ≤ L.length ∧ i = .int .i64 k ∧ Hid (Below w.heap.size w wr) ∧ Hid (∀ (j : Nat) (hj : j < L.length), j < k → (L[j].size : Int) ≤ long)) (fun i _ => L.length - (intOf i).toNat)
  case atStart => exact ⟨0, Nat.zero_le _, rfl, Below.refl _ _, fun j _ h => absurd h (Nat.not_lt_zero j)⟩
  case round =>
    obtain ⟨k, hk, rfl, hb, hq⟩ := hrel
    by_cases hlt : k < L.length
    · have h1 : (k : Int) < (L.length : Int) := by omega
      have h2 : (0 : Int) ≤ (k : Int) := by omega
      by_cases hm : (L.length : Int) ≤ most
      · obtain ⟨g, o, cs, rfl, hg, hlen, hc, he⟩ := HA.out wr hb.out k hlt
        obtain ⟨s, hN⟩ : ∃ s : ByteArray, s = L[k] := ⟨_, rfl⟩
        have HN : Hid (s = L[k]) := hN
        rw [← hN] at he
        obtain rfl := he
        have c0 := hc 0 _ rfl
        simp only [Nat.mul_one, Nat.add_zero] at c0
        by_cases hs : long < (s.size : Int)
        · clear hc hlen hg hN
          go_wp2_with fail
          go_ret
          exact ⟨⟨_, rfl, fun hr => by first | cases hr | (exfalso; have := of_decide_eq_false hr; omega) | (exfalso; simp at hr; omega)⟩, hb.out⟩
        · clear hc hlen hg hN
          go_wp2_with fail
          go_roundw
          case rel => exact ⟨k + 1, by omega, by go_num, hb, fun j hj h => by
            rcases Nat.lt_or_ge j k with h3 | h3
            · exact hq.out j hj h3
            · obtain rfl : j = k := by omega
              rw [← HN.out]; omega⟩
          case measure => simp [intOf]; omega
      · go_wp2_with fail
        go_ret
        exact ⟨⟨_, rfl, fun hr => by first | cases hr | (exfalso; have := of_decide_eq_false hr; omega) | (exfalso; simp at hr; omega)⟩, hb.out⟩
    · have h1 : ¬ (k : Int) < (L.length : Int) := by omega
      have HF : Hid (∀ s ∈ L, (s.size : Int) ≤ long) := fun s hs => by
        obtain ⟨j, hj, rfl⟩ := List.getElem_of_mem hs
        exact hq.out j hj (by omega)
      go_wp2_with fail
      go_ret
      exact ⟨⟨_, rfl, fun hr => ⟨by first | omega | (have := of_decide_eq_false hr; omega) | (simp at hr; omega), HF.out⟩⟩, hb.out⟩

set_option maxHeartbeats 1000000 in
theorem vars_full (L : List VT) (A : Option Addr) (c : Nat) (most : Int) (w : World) (ha : VsR w w.heap.size A L) (hcnt : L.length ≤ 9223372036854775807) :
    Calls Try.prog 44 #[.slice A L.length c, .int .i64 most] w (SomeN w) := by
  have HA := Lib.hid (fun (w' : World) (hb : Below w.heap.size w w') => VsR.mono (Nat.le_refl _) hb.block ha)
  clear ha
  go_enter Try.func44, Try.ntmps44
  go_wp2_with fail
  go_loopw [5] (fun i wr => ∃ k : Nat, k ≤ L.length ∧ i = .int .i64 k ∧ Hid (Below w.heap.size w wr)) (fun i _ => L.length - (intOf i).toNat)
  case atStart => exact ⟨0, Nat.zero_le _, rfl, Below.refl _ _⟩
  case round =>
    obtain ⟨k, hk, rfl, hb⟩ := hrel
    by_cases hlt : k < L.length
    · have h1 : (k : Int) < (L.length : Int) := by omega
      have h2 : (0 : Int) ≤ (k : Int) := by omega
      by_cases hm : (L.length : Int) ≤ most
      · obtain ⟨g, o, cs, rfl, hg, hlen, hc, he⟩ := HA.out wr hb.out k hlt
        obtain ⟨⟨nm, ⟨yk, ylo, yhi, ynm⟩, ini, dir, slot⟩, hN⟩ : ∃ s : VT, s = L[k] := ⟨_, rfl⟩
        rw [← hN] at he
        obtain ⟨rfl, hwf⟩ := he
        have c0 := hc 0 _ rfl
        have c4 := hc 4 _ rfl
        rw [Nat.add_zero] at c0
        by_cases hs : (60 : Int) < (nm.size : Int)
        · clear hc hlen hg hN
          go_wp2_with fail
          go_ret
          exact ⟨⟨_, rfl⟩, hb.out⟩
        · by_cases hs2 : (60 : Int) < (ynm.size : Int)
          · clear hc hlen hg hN
            go_wp2_with fail
            go_ret
            exact ⟨⟨_, rfl⟩, hb.out⟩
          · clear hc hlen hg hN
            go_wp2_with fail
            go_roundw
            case rel => exact ⟨k + 1, by omega, by go_num, hb⟩
            case measure => simp [intOf]; omega
      · go_wp2_with fail
        go_ret
        exact ⟨⟨_, rfl⟩, hb.out⟩
    · have h1 : ¬ (k : Int) < (L.length : Int) := by omega
      go_wp2_with fail
      go_ret
      exact ⟨⟨_, rfl⟩, hb.out⟩

/-- exprs says something. -/
def GXo (L : List ET) : Prop := ∀ (A : Option Addr) (c : Nat) (most : Int) (w : World), EsR w w.heap.size A L → Calls Try.prog 64 #[.slice A L.length c, .int .i64 most] w (SomeN w)
set_option maxHeartbeats 1000000 in
theorem gxo_of (L : List ET) (hcnt : L.length ≤ 9223372036854775807) (ih : ∀ (k : Nat) (hk : k < L.length), GXo L[k].args) : GXo L := by
  intro A c most w ha
  have HA := Lib.hid (fun (w' : World) (hb : Below w.heap.size w w') => EsR.mono (Nat.le_refl _) hb.block ha)
  have IH : Hid (∀ (k : Nat) (hk : k < L.length) (A : Option Addr) (c : Nat) (most : Int) (w : World), EsR w w.heap.size A L[k].args → Calls Try.prog 64 #[.slice A L[k].args.length c, .int .i64 most] w (SomeN w)) := fun k hk => ih k hk
  clear ha ih
  go_enter Try.func64, Try.ntmps64
  go_wp2_with fail
  go_loopw [5, 6] (fun m i wr => ∃ (k : Nat) (n : Int), k ≤ L.length ∧ m = .int .i64 n ∧ i = .int .i64 k ∧ Hid (Below w.heap.size w wr)) (fun _ i _ => L.length - (intOf i).toNat)
  case atStart => exact ⟨0, 0, Nat.zero_le _, rfl, rfl, Below.refl _ _⟩
  case round =>
    obtain ⟨k, n, hk, rfl, rfl, hb⟩ := hrel
    by_cases hlt : k < L.length
    · have h1 : (k : Int) < (L.length : Int) := by omega
      have h2 : (0 : Int) ≤ (k : Int) := by omega
      by_cases hm : n ≤ most
      · obtain ⟨g, o, cs, rfl, hg, hlen, hc, he⟩ := HA.out wr hb.out k hlt
        have KX := IH.out k hlt
        obtain ⟨⟨xk, xn, nm, wh, args⟩, hN⟩ : ∃ s : ET, s = L[k] := ⟨_, rfl⟩
        rw [← hN] at he KX
        obtain ⟨A', c', rfl, hn, hr⟩ := he.form
        have KX : Hid (∀ (m : Int) (W : World), W.heap = wr.heap → Calls Try.prog 64 #[.slice A' args.length c', .int .i64 m] W (SomeN W)) := fun m W hW => KX A' c' m W (EsR.mono (by rw [hW]; exact hb.out.size) (fun g _ => by rw [hW]) hr)
        have c2 := hc 2 _ rfl
        have c3 := hc 3 _ rfl
        have c4 := hc 4 _ rfl
        by_cases hs : (60 : Int) < (nm.size : Int)
        · clear hc hlen hg hN KX he hr hn
          go_wp2_with fail
          go_ret
          exact ⟨⟨_, rfl⟩, hb.out⟩
        · by_cases hs2 : (60 : Int) < (wh.size : Int)
          · clear hc hlen hg hN KX he hr hn
            go_wp2_with fail
            go_ret
            exact ⟨⟨_, rfl⟩, hb.out⟩
          · clear hc hlen hg hN he hr hn
            go_wp2_with fail
            refine (KX.out _ _ rfl).mono ?_
            rintro e1 w1 ⟨⟨r, rfl⟩, hb1⟩
            have HB1 : Hid (Below w.heap.size w w1) := hb.out.trans (hb1.mono hb.out.size)
            clear hb1 KX
            go_wp2_with fail
            go_roundw
            case rel => exact ⟨k + 1, _, by omega, rfl, by go_num, HB1⟩
            case measure => simp [intOf]; omega
      · go_wp2_with fail
        go_ret
        exact ⟨⟨_, rfl⟩, hb.out⟩
    · have h1 : ¬ (k : Int) < (L.length : Int) := by omega
      go_wp2_with fail
      go_ret
      exact ⟨⟨_, rfl⟩, hb.out⟩
theorem OE.gx {e : ET} (h : OE e) : GXo e.args := by
  induction h with
  | mk h1 h2 ih => exact gxo_of _ h1 ih
theorem gxo_all (L : List ET) (hcnt : L.length ≤ 9223372036854775807) (h : ∀ (k : Nat) (hk : k < L.length), OE L[k]) : GXo L := gxo_of L hcnt fun k hk => (h k hk).gx

/-- stmts says something. -/
def GSo (L : List ST) : Prop := ∀ (A : Option Addr) (c : Nat) (most : Int) (w : World), SsR w w.heap.size A L → Calls Try.prog 45 #[.slice A L.length c, .int .i64 most] w (SomeN w)
theorem OS.form {k n : Int} {nm : ByteArray} {ex : List ET} {lb : List (List Int)} {bs : List (List ST)} (h : OS (.mk k n nm ex lb bs)) : ex.length ≤ 9223372036854775807 ∧ (∀ (i : Nat) (hi : i < ex.length), OE ex[i]) ∧ lb.length ≤ 9223372036854775807 ∧ bs.length ≤ 9223372036854775807 := by
  cases h with
  | mk h1 h2 h3 h4 => exact ⟨h1, h2, h3, h4⟩
set_option maxHeartbeats 2000000 in
set_option maxRecDepth 100000 in
theorem gso_of (L : List ST) (hcnt : L.length ≤ 9223372036854775807) (ho : ∀ (k : Nat) (hk : k < L.length), OS L[k]) (ih : ∀ (k : Nat) (hk : k < L.length) (j : Nat) (hj : j < L[k].blocks.length), GSo L[k].blocks[j]) : GSo L := by
  intro A c most w ha
  have HA := Lib.hid (fun (w' : World) (hb : Below w.heap.size w w') => SsR.mono (Nat.le_refl _) hb.block ha)
  have IH := Lib.hid ih
  have HO := Lib.hid ho
  clear ha ih ho
  go_enter Try.func45, Try.ntmps45
  go_wp2_with fail
  go_loopw [5, 6] (fun m i wr => ∃ (k : Nat) (n : Int), k ≤ L.length ∧ m = .int .i64 n ∧ i = .int .i64 k ∧ Hid (Below w.heap.size w wr)) (fun _ i _ => L.length - (intOf i).toNat)
  case atStart => exact ⟨0, 0, Nat.zero_le _, rfl, rfl, Below.refl _ _⟩
  case round =>
    obtain ⟨R, hR⟩ : ∃ R : World, R = wr := ⟨_, rfl⟩
    subst hR
    obtain ⟨k, n, hk, rfl, rfl, hb⟩ := hrel
    by_cases hlt : k < L.length
    · have h1 : (k : Int) < (L.length : Int) := by omega
      have h2 : (0 : Int) ≤ (k : Int) := by omega
      by_cases hm : n ≤ most
      · obtain ⟨g, o, cs, rfl, hg, hlen, hc, he⟩ := HA.out R hb.out k hlt
        have KS := IH.out k hlt
        have hwk := HO.out k hlt
        obtain ⟨⟨sk, sn, nm, ex, lb, bs⟩, hN⟩ : ∃ s : ST, s = L[k] := ⟨_, rfl⟩
        rw [← hN] at he KS hwk
        obtain ⟨A1, c1, A2, c2, A3, c3, rfl, hn, r1, r2, r3⟩ := he.form
        obtain ⟨hxl, hxe, hbl, hbb⟩ := hwk.form
        have KX : Hid (∀ (m : Int) (W : World), W.heap = R.heap → Calls Try.prog 64 #[.slice A1 ex.length c1, .int .i64 m] W (SomeN W)) := fun m W hW => gxo_all ex hxl hxe A1 c1 m W (EsR.mono (by rw [hW]; exact hb.out.size) (fun g _ => by rw [hW]) r1)
        have hgr : g < R.heap.size := Nat.lt_of_lt_of_le hg hb.out.size
        have HC : Hid (∀ w', Below R.heap.size R w' → w'.cell? ⟨g, o + k * 6 + 4, none⟩ = some (.slice A2 lb.length c2) ∧ w'.cell? ⟨g, o + k * 6 + 5, none⟩ = some (.slice A3 bs.length c3)) := fun w' hh => ⟨(hh.cell (p := ⟨g, o + k * 6 + 4, none⟩) hgr).trans (hc 4 _ rfl), (hh.cell (p := ⟨g, o + k * 6 + 5, none⟩) hgr).trans (hc 5 _ rfl)⟩
        have HL : Hid (∀ w', Below R.heap.size R w' → LsR w' R.heap.size A2 lb) := fun w' hh => LsR.mono (Nat.le_refl _) hh.block (LsR.mono hb.out.size (fun _ _ => rfl) r2)
        have HBb : Hid (∀ w', Below R.heap.size R w' → BsR w' R.heap.size A3 bs) := fun w' hh => BsR.mono (Nat.le_refl _) hh.block (BsR.mono hb.out.size (fun _ _ => rfl) r3)
        have KS := Lib.hid KS
        have y2 := hc 2 _ rfl
        have y3 := hc 3 _ rfl
        by_cases hs : (60 : Int) < (nm.size : Int)
        · clear hc hlen hg hN he r1 r2 r3 hn hwk hxe hgr
          go_wp2_with fail
          go_ret
          exact ⟨⟨_, rfl⟩, hb.out⟩
        · clear hc hlen hg hN he r1 r2 r3 hn hwk hxe
          go_wp2_with fail
          refine (KX.out _ _ rfl).mono ?_
          rintro e1 w1 ⟨⟨r, rfl⟩, hb1⟩
          have HB1 := Lib.hid hb1
          clear hb1 KX y2 y3
          go_wp2_with fail
          go_loopw [5, 7] (fun m j w2 => ∃ (a : Nat) (n2 : Int), a ≤ lb.length ∧ m = .int .i64 n2 ∧ j = .int .i64 a ∧ Hid (Below R.heap.size R w2)) (fun _ j _ => lb.length - (intOf j).toNat)
          case atStart => exact ⟨0, _, Nat.zero_le _, rfl, rfl, HB1⟩
          case round =>
            obtain ⟨a, n2, ha, rfl, rfl, hb2⟩ := hrel
            obtain ⟨z4, z5⟩ := HC.out _ hb2.out
            have h0 : (0 : Int) ≤ (a : Int) := by omega
            have hcase : (a < lb.length ∧ n2 ≤ most) ∨ ¬ a < lb.length ∨ (a < lb.length ∧ ¬ n2 ≤ most) := by
              by_cases p1 : a < lb.length <;> by_cases p2 : n2 ≤ most <;> simp [p1, p2]
            rcases hcase with ⟨p1, p2⟩ | p1 | ⟨p1, p2⟩
            · obtain ⟨g2, o2, cs2, rfl, hg2, hlen2, hc2, A4, c4, rfl, he4⟩ := HL.out _ hb2.out a p1
              have y0 := hc2 0 _ rfl
              simp only [Nat.mul_one, Nat.add_zero] at y0
              have q1 : (a : Int) < (lb.length : Int) := by omega
              clear hc2 hlen2 hg2 he4
              go_wp2_with fail
              go_roundw
              case rel => exact ⟨a + 1, _, by omega, rfl, by go_num, hb2⟩
              case measure => simp [intOf]; omega
            all_goals
              have q1 := Lib.hid p1
              try have q2 : (a : Int) < (lb.length : Int) := by omega
              try have q2 : ¬ (a : Int) < (lb.length : Int) := by omega
              clear p1
              go_wp2_with fail
              go_loopw [5, 8] (fun m j w3 => ∃ (a : Nat) (n3 : Int), a ≤ bs.length ∧ m = .int .i64 n3 ∧ j = .int .i64 a ∧ Hid (Below R.heap.size R w3)) (fun _ j _ => bs.length - (intOf j).toNat)
              case atStart => exact ⟨0, _, Nat.zero_le _, rfl, rfl, hb2⟩
              case round =>
                obtain ⟨a3, n3, ha3, rfl, rfl, hb3⟩ := hrel
                obtain ⟨x4, x5⟩ := HC.out _ hb3.out
                have h3 : (0 : Int) ≤ (a3 : Int) := by omega
                have hcase : (a3 < bs.length ∧ n3 ≤ most) ∨ ¬ a3 < bs.length ∨ (a3 < bs.length ∧ ¬ n3 ≤ most) := by
                  by_cases p1 : a3 < bs.length <;> by_cases p2 : n3 ≤ most <;> simp [p1, p2]
                rcases hcase with ⟨p1, p2⟩ | p1 | ⟨p1, p2⟩
                · obtain ⟨g2, o2, cs2, rfl, hg2, hlen2, hc2, A4, c4, rfl, he4⟩ := HBb.out _ hb3.out a3 p1
                  have y0 := hc2 0 _ rfl
                  simp only [Nat.mul_one, Nat.add_zero] at y0
                  have q1 : (a3 : Int) < (bs.length : Int) := by omega
                  have KC : Hid (∀ (m : Int) (W : World), W.heap = wr.heap → Calls Try.prog 45 #[.slice A4 bs[a3].length c4, .int .i64 m] W (SomeN W)) := fun m W hW => KS.out a3 p1 A4 c4 m W (SsR.mono (by rw [hW]; exact hb3.out.size) (fun g _ => by rw [hW]) he4)
                  clear hc2 hlen2 hg2 he4
                  go_wp2_with fail
                  refine (KC.out _ _ rfl).mono ?_
                  rintro e4 w4 ⟨⟨r4, rfl⟩, hb4⟩
                  have HB4 : Hid (Below R.heap.size R w4) := hb3.out.trans (hb4.mono hb3.out.size)
                  clear hb4 KC
                  go_wp2_with fail
                  go_roundw
                  case rel => exact ⟨a3 + 1, _, by omega, rfl, by go_num, HB4⟩
                  case measure => simp [intOf]; omega
                all_goals
                  have q4 := Lib.hid p1
                  try have q5 : (a3 : Int) < (bs.length : Int) := by omega
                  try have q5 : ¬ (a3 : Int) < (bs.length : Int) := by omega
                  clear p1
                  have HZ : Hid (Below w.heap.size w wr) := hb.out.trans (hb3.out.mono hb.out.size)
                  go_wp2_with fail
                  go_roundw
                  case rel => exact ⟨k + 1, _, by omega, rfl, by go_num, HZ⟩
                  case measure => simp [intOf]; omega
      · go_wp2_with fail
        go_ret
        exact ⟨⟨_, rfl⟩, hb.out⟩
    · have h1 : ¬ (k : Int) < (L.length : Int) := by omega
      go_wp2_with fail
      go_ret
      exact ⟨⟨_, rfl⟩, hb.out⟩
theorem OS.gs {s : ST} (h : OS s) : ∀ (j : Nat) (hj : j < s.blocks.length), GSo s.blocks[j] := by
  induction h with
  | mk h1 h2 h3 h4 h5 h6 ih => exact fun j hj => gso_of _ (h5 j hj) (h6 j hj) fun i hi j2 hj2 => ih j hj i hi j2 hj2
theorem gso_all (L : List ST) (hcnt : L.length ≤ 9223372036854775807) (h : ∀ (k : Nat) (hk : k < L.length), OS L[k]) : GSo L := gso_of L hcnt h fun k hk j hj => (h k hk).gs j hj
end Go.Proofs.Ytmbddofcildibaa
