/-
  governorlaw0: GreatExpr, stmts BY CONTRACTS: some answer, nothing changed.
-/
import Derived.Test.YtkpieolmepngjaaPrGreat
namespace Go.Proofs.Ytkpieolmepngjaa
open Go Go.RowKit
set_option linter.unusedVariables false
set_option linter.unusedSimpArgs false

/-- stmts says something. -/
def GS (L : List ST) : Prop := wSs L ≤ 1000000000 → ∀ (A : Option Addr) (c : Nat) (most : Int) (w : World), SsR w w.heap.size A L → Calls Try.prog 45 #[.slice A L.length c, .int .i64 most] w (SomeN w)
def ST.blocks : ST → List (List ST) | .mk _ _ _ _ _ b => b
theorem wSs_len : ∀ L : List ST, L.length ≤ wSs L
  | [] => by simp [wSs]
  | .mk k n nm ex lb bs :: r => by have := wSs_len r; simp only [wSs, wS, List.length_cons]; omega
theorem wBs_len : ∀ L : List (List ST), L.length ≤ wBs L
  | [] => by simp [wBs]
  | b :: r => by have := wBs_len r; simp only [wBs, List.length_cons]; omega
theorem wBs_at : ∀ (L : List (List ST)) (k : Nat) (hk : k < L.length), wSs L[k] ≤ wBs L
  | b :: r, 0, _ => by simp only [List.getElem_cons_zero, wBs]; omega
  | b :: r, k + 1, hk => by
    have := wBs_at r k (by simpa using hk)
    simp only [List.getElem_cons_succ, wBs]
    omega
theorem wSs_at : ∀ (L : List ST) (k : Nat) (hk : k < L.length), wS L[k] ≤ wSs L
  | e :: r, 0, _ => by simp only [List.getElem_cons_zero, wSs]; omega
  | e :: r, k + 1, hk => by
    have := wSs_at r k (by simpa using hk)
    simp only [List.getElem_cons_succ, wSs]
    omega
theorem EsR.heap {w w' : World} {A : Option Addr} {l : List ET} (hb : Below w.heap.size w w') (h : EsR w w.heap.size A l) : EsR w' w'.heap.size A l := EsR.mono hb.size hb.block h

set_option maxHeartbeats 2000000 in
set_option maxRecDepth 100000 in
theorem gs_of (L : List ST) (ih : ∀ (k : Nat) (hk : k < L.length) (j : Nat) (hj : j < L[k].blocks.length), GS L[k].blocks[j]) : GS L := by
  intro hw A c most w ha
  have hcnt : L.length ≤ 1000000000 := Nat.le_trans (wSs_len L) hw
  have HA := Lib.hid (fun (w' : World) (hb : Below w.heap.size w w') => SsR.mono (Nat.le_refl _) hb.block ha)
  have IH := Lib.hid ih
  have HW := Lib.hid hw
  clear ha ih hw
  go_enter Try.func45, Try.ntmps45
  go_wp2_with fail
  go_loopw [5, 6] (fun m i wr => ∃ (k : Nat) (n : Int), k ≤ L.length ∧ m = .int .i64 n ∧ i = .int .i64 k ∧ Hid (Below w.heap.size w wr)) (fun _ i _ => L.length - (intOf i).toNat)
  case atStart => exact ⟨0, 0, Nat.zero_le _, rfl, rfl, Below.refl _ _⟩
  case round =>
    obtain ⟨R, hR⟩ : ∃ R : World, R = wr := ⟨_, rfl⟩
    subst hR
    obtain ⟨k, n, hk, rfl, rfl, hb⟩ := hrel
    by_cases hlt : k < L.length
    · have h1 : (k : Int) < (L.length : Int) := by omega
      have h2 : (0 : Int) ≤ (k : Int) := by omega
      by_cases hm : n ≤ most
      · obtain ⟨g, o, cs, rfl, hg, hlen, hc, he⟩ := HA.out R hb.out k hlt
        have KS := IH.out k hlt
        have hwk := wSs_at L k hlt
        obtain ⟨⟨sk, sn, nm, ex, lb, bs⟩, hN⟩ : ∃ s : ST, s = L[k] := ⟨_, rfl⟩
        rw [← hN] at he KS hwk
        obtain ⟨A1, c1, A2, c2, A3, c3, rfl, hn, r1, r2, r3⟩ := he.form
        simp only [wS] at hwk
        have hwl := HW.out
        have hbl : lb.length ≤ 1000000000 := by
          have : lb.length ≤ (lb.map wL).sum := by
            have : ∀ l : List (List Int), l.length ≤ (l.map wL).sum := by
              intro l
              induction l with
              | nil => simp
              | cons x r ih => simp only [List.map_cons, List.sum_cons, List.length_cons, wL]; omega
            exact this lb
          omega
        have KX : Hid (∀ (m : Int) (W : World), W.heap = R.heap → Calls Try.prog 64 #[.slice A1 ex.length c1, .int .i64 m] W (SomeN W)) := fun m W hW => gx_all ex (by omega) A1 c1 m W (EsR.mono (by rw [hW]; exact hb.out.size) (fun g _ => by rw [hW]) r1)
        have hgr : g < R.heap.size := Nat.lt_of_lt_of_le hg hb.out.size
        have HC : Hid (∀ w', Below R.heap.size R w' → w'.cell? ⟨g, o + k * 6 + 4, none⟩ = some (.slice A2 lb.length c2) ∧ w'.cell? ⟨g, o + k * 6 + 5, none⟩ = some (.slice A3 bs.length c3)) := fun w' hh => ⟨(hh.cell (p := ⟨g, o + k * 6 + 4, none⟩) hgr).trans (hc 4 _ rfl), (hh.cell (p := ⟨g, o + k * 6 + 5, none⟩) hgr).trans (hc 5 _ rfl)⟩
        have HL : Hid (∀ w', Below R.heap.size R w' → LsR w' R.heap.size A2 lb) := fun w' hh => LsR.mono (Nat.le_refl _) hh.block (LsR.mono hb.out.size (fun _ _ => rfl) r2)
        have HBb : Hid (∀ w', Below R.heap.size R w' → BsR w' R.heap.size A3 bs) := fun w' hh => BsR.mono (Nat.le_refl _) hh.block (BsR.mono hb.out.size (fun _ _ => rfl) r3)
        have hbb : bs.length ≤ 1000000000 := by have := wBs_len bs; omega
        have KB : Hid (∀ (j : Nat) (hj : j < bs.length), wSs bs[j] ≤ 1000000000) := fun j hj => by have := wBs_at bs j hj; omega
        have KS := Lib.hid KS
        have y2 := hc 2 _ rfl
        have y3 := hc 3 _ rfl
        by_cases hs : (60 : Int) < (nm.size : Int)
        · clear hc hlen hg hN he r1 r2 r3 hn hwk hwl hgr
          go_wp2_with fail
          go_ret
          exact ⟨⟨_, rfl⟩, hb.out⟩
        · clear hc hlen hg hN he r1 r2 r3 hn hwk hwl
          go_wp2_with fail
          refine (KX.out _ _ rfl).mono ?_
          rintro e1 w1 ⟨⟨r, rfl⟩, hb1⟩
          have HB1 := Lib.hid hb1
          clear hb1 KX y2 y3
          go_wp2_with fail
          go_loopw [5, 7] (fun m j w2 => ∃ (a : Nat) (n2 : Int), a ≤ lb.length ∧ m = .int .i64 n2 ∧ j = .int .i64 a ∧ Hid (Below R.heap.size R w2)) (fun _ j _ => lb.length - (intOf j).toNat)
          case atStart => exact ⟨0, _, Nat.zero_le _, rfl, rfl, HB1⟩
          case round =>
            obtain ⟨a, n2, ha, rfl, rfl, hb2⟩ := hrel
            obtain ⟨z4, z5⟩ := HC.out _ hb2.out
            have h0 : (0 : Int) ≤ (a : Int) := by omega
            have hcase : (a < lb.length ∧ n2 ≤ most) ∨ ¬ a < lb.length ∨ (a < lb.length ∧ ¬ n2 ≤ most) := by
              by_cases p1 : a < lb.length <;> by_cases p2 : n2 ≤ most <;> simp [p1, p2]
            rcases hcase with ⟨p1, p2⟩ | p1 | ⟨p1, p2⟩
            · obtain ⟨g2, o2, cs2, rfl, hg2, hlen2, hc2, A4, c4, rfl, he4⟩ := HL.out _ hb2.out a p1
              have y0 := hc2 0 _ rfl
              simp only [Nat.mul_one, Nat.add_zero] at y0
              have q1 : (a : Int) < (lb.length : Int) := by omega
              clear hc2 hlen2 hg2 he4
              go_wp2_with fail
              go_roundw
              case rel => exact ⟨a + 1, _, by omega, rfl, by go_num, hb2⟩
              case measure => simp [intOf]; omega
            all_goals
              have q1 := Lib.hid p1
              try have q2 : (a : Int) < (lb.length : Int) := by omega
              try have q2 : ¬ (a : Int) < (lb.length : Int) := by omega
              clear p1
              go_wp2_with fail
              go_loopw [5, 8] (fun m j w3 => ∃ (a : Nat) (n3 : Int), a ≤ bs.length ∧ m = .int .i64 n3 ∧ j = .int .i64 a ∧ Hid (Below R.heap.size R w3)) (fun _ j _ => bs.length - (intOf j).toNat)
              case atStart => exact ⟨0, _, Nat.zero_le _, rfl, rfl, hb2⟩
              case round =>
                obtain ⟨a3, n3, ha3, rfl, rfl, hb3⟩ := hrel
                obtain ⟨x4, x5⟩ := HC.out _ hb3.out
                have h3 : (0 : Int) ≤ (a3 : Int) := by omega
                have hcase : (a3 < bs.length ∧ n3 ≤ most) ∨ ¬ a3 < bs.length ∨ (a3 < bs.length ∧ ¬ n3 ≤ most) := by
                  by_cases p1 : a3 < bs.length <;> by_cases p2 : n3 ≤ most <;> simp [p1, p2]
                rcases hcase with ⟨p1, p2⟩ | p1 | ⟨p1, p2⟩
                · obtain ⟨g2, o2, cs2, rfl, hg2, hlen2, hc2, A4, c4, rfl, he4⟩ := HBb.out _ hb3.out a3 p1
                  have y0 := hc2 0 _ rfl
                  simp only [Nat.mul_one, Nat.add_zero] at y0
                  have q1 : (a3 : Int) < (bs.length : Int) := by omega
                  have KC : Hid (∀ (m : Int) (W : World), W.heap = wr.heap → Calls Try.prog 45 #[.slice A4 bs[a3].length c4, .int .i64 m] W (SomeN W)) := fun m W hW => KS.out a3 p1 (KB.out a3 p1) A4 c4 m W (SsR.mono (by rw [hW]; exact hb3.out.size) (fun g _ => by rw [hW]) he4)
                  clear hc2 hlen2 hg2 he4
                  go_wp2_with fail
                  refine (KC.out _ _ rfl).mono ?_
                  rintro e4 w4 ⟨⟨r4, rfl⟩, hb4⟩
                  have HB4 : Hid (Below R.heap.size R w4) := hb3.out.trans (hb4.mono hb3.out.size)
                  clear hb4 KC
                  go_wp2_with fail
                  go_roundw
                  case rel => exact ⟨a3 + 1, _, by omega, rfl, by go_num, HB4⟩
                  case measure => simp [intOf]; omega
                all_goals
                  have q4 := Lib.hid p1
                  try have q5 : (a3 : Int) < (bs.length : Int) := by omega
                  try have q5 : ¬ (a3 : Int) < (bs.length : Int) := by omega
                  clear p1
                  have HZ : Hid (Below w.heap.size w wr) := hb.out.trans (hb3.out.mono hb.out.size)
                  go_wp2_with fail
                  go_roundw
                  case rel => exact ⟨k + 1, _, by omega, rfl, by go_num, HZ⟩
                  case measure => simp [intOf]; omega
      · go_wp2_with fail
        go_ret
        exact ⟨⟨_, rfl⟩, hb.out⟩
    · have h1 : ¬ (k : Int) < (L.length : Int) := by omega
      go_wp2_with fail
      go_ret
      exact ⟨⟨_, rfl⟩, hb.out⟩
mutual
theorem gs_s : ∀ (s : ST) (j : Nat) (hj : j < s.blocks.length), GS s.blocks[j]
  | .mk _ _ _ _ _ bs => gs_bs bs
theorem gs_ss : ∀ (l : List ST) (k : Nat) (hk : k < l.length) (j : Nat) (hj : j < l[k].blocks.length), GS l[k].blocks[j]
  | a :: r, 0, _ => gs_s a
  | a :: r, k + 1, hk => gs_ss r k (by simpa using hk)
theorem gs_bs : ∀ (l : List (List ST)) (k : Nat) (hk : k < l.length), GS l[k]
  | a :: r, 0, _ => gs_of a (gs_ss a)
  | a :: r, k + 1, hk => gs_bs r k (by simpa using hk)
end
theorem gs_all (L : List ST) : GS L := gs_of L (gs_ss L)
end Go.Proofs.Ytkpieolmepngjaa
