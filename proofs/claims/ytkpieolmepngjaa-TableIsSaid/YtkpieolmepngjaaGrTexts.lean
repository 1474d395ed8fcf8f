/-
  governorlaw0: GreatTexts, vars, exprs, stmts BY CONTRACTS, over lists of whatever length: some answer, nothing changed.
-/
import Derived.Test.YtkpieolmepngjaaTbGreat2
import Derived.Test.YtkpieolmepngjaaGrOpen
namespace Go.Proofs.Ytkpieolmepngjaa
open Go Go.RowKit
set_option linter.unusedVariables false
set_option linter.unusedSimpArgs false

/-- what GreatTexts says. -/
def TextsB (L : List ByteArray) (most long : Int) (w : World) (e : Ending) (w' : World) : Prop := (∃ r : Bool, e = .returned (.bool r) ∧ Hid (r = false → (L.length : Int) ≤ most ∧ ∀ s ∈ L, (s.size : Int) ≤ long)) ∧ Below w.heap.size w w'
set_option maxHeartbeats 1000000 in
theorem greatTexts_full (L : List ByteArray) (A : Option Addr) (c : Nat) (most long : Int) (w : World) (ha : XsR w w.heap.size A L) (hcnt : L.length ≤ 9223372036854775807) :
    Calls Try.prog 43 #[.slice A L.length c, .int .i64 most, .int .i64 long] w (TextsB L most long w) := by
  have HA := Lib.hid (fun (w' : World) (hb : Below w.heap.size w w') => XsR.mono (Nat.le_refl _) hb.block ha)
  clear ha
  go_enter Try.func43, Try.ntmps43
  go_wp2_with fail
  go_loopw [7] (fun i wr => ∃ k : Nat, k ≤ L.length ∧ i = .int .i64 k ∧ Hid (Below w.heap.size w wr) ∧ Hid (∀ (j : Nat) (hj : j < L.length), j < k → (L[j].size : Int) ≤ long)) (fun i _ => L.length - (intOf i).toNat)
  case atStart => exact ⟨0, Nat.zero_le _, rfl, Below.refl _ _, fun j _ h => absurd h (Nat.not_lt_zero j)⟩
  case round =>
    obtain ⟨k, hk, rfl, hb, hq⟩ := hrel
    by_cases hlt : k < L.length
    · have h1 : (k : Int) < (L.length : Int) := by omega
      have h2 : (0 : Int) ≤ (k : Int) := by omega
      by_cases hm : (L.length : Int) ≤ most
      · obtain ⟨g, o, cs, rfl, hg, hlen, hc, he⟩ := HA.out wr hb.out k hlt
        obtain ⟨s, hN⟩ : ∃ s : ByteArray, s = L[k] := ⟨_, rfl⟩
        have HN : Hid (s = L[k]) := hN
        rw [← hN] at he
        obtain rfl := he
        have c0 := hc 0 _ rfl
        simp only [Nat.mul_one, Nat.add_zero] at c0
        by_cases hs : long < (s.size : Int)
        · clear hc hlen hg hN
          go_wp2_with fail
          go_ret
          exact ⟨⟨_, rfl, fun hr => by first | cases hr | (exfalso; have := of_decide_eq_false hr; omega) | (exfalso; simp at hr; omega)⟩, hb.out⟩
        · clear hc hlen hg hN
          go_wp2_with fail
          go_roundw
          case rel => exact ⟨k + 1, by omega, by go_num, hb, fun j hj h => by
            rcases Nat.lt_or_ge j k with h3 | h3
            · exact hq.out j hj h3
            · obtain rfl : j = k := by omega
              rw [← HN.out]; omega⟩
          case measure => simp [intOf]; omega
      · go_wp2_with fail
        go_ret
        exact ⟨⟨_, rfl, fun hr => by first | cases hr | (exfalso; have := of_decide_eq_false hr; omega) | (exfalso; simp at hr; omega)⟩, hb.out⟩
    · have h1 : ¬ (k : Int) < (L.length : Int) := by omega
      have HF : Hid (∀ s ∈ L, (s.size : Int) ≤ long) := fun s hs => by
        obtain ⟨j, hj, rfl⟩ := List.getElem_of_mem hs
        exact hq.out j hj (by omega)
      go_wp2_with fail
      go_ret
      exact ⟨⟨_, rfl, fun hr => ⟨by first | omega | (have := of_decide_eq_false hr; omega) | (simp at hr; omega), HF.out⟩⟩, hb.out⟩

set_option maxHeartbeats 1000000 in
theorem vars_full (L : List VT) (A : Option Addr) (c : Nat) (most : Int) (w : World) (ha : VsR w w.heap.size A L) (hcnt : L.length ≤ 9223372036854775807) :
    Calls Try.prog 44 #[.slice A L.length c, .int .i64 most] w (SomeN w) := by
  have HA := Lib.hid (fun (w' : World) (hb : Below w.heap.size w w') => VsR.mono (Nat.le_refl _) hb.block ha)
  clear ha
  go_enter Try.func44, Try.ntmps44
  go_wp2_with fail
  go_loopw [5] (fun i wr => ∃ k : Nat, k ≤ L.length ∧ i = .int .i64 k ∧ Hid (Below w.heap.size w wr)) (fun i _ => L.length - (intOf i).toNat)
  case atStart => exact ⟨0, Nat.zero_le _, rfl, Below.refl _ _⟩
  case round =>
    obtain ⟨k, hk, rfl, hb⟩ := hrel
    by_cases hlt : k < L.length
    · have h1 : (k : Int) < (L.length : Int) := by omega
      have h2 : (0 : Int) ≤ (k : Int) := by omega
      by_cases hm : (L.length : Int) ≤ most
      · obtain ⟨g, o, cs, rfl, hg, hlen, hc, he⟩ := HA.out wr hb.out k hlt
        obtain ⟨⟨nm, ⟨yk, ylo, yhi, ynm⟩, ini, dir, slot⟩, hN⟩ : ∃ s : VT, s = L[k] := ⟨_, rfl⟩
        rw [← hN] at he
        obtain ⟨rfl, hwf⟩ := he
        have c0 := hc 0 _ rfl
        have c4 := hc 4 _ rfl
        rw [Nat.add_zero] at c0
        by_cases hs : (60 : Int) < (nm.size : Int)
        · clear hc hlen hg hN
          go_wp2_with fail
          go_ret
          exact ⟨⟨_, rfl⟩, hb.out⟩
        · by_cases hs2 : (60 : Int) < (ynm.size : Int)
          · clear hc hlen hg hN
            go_wp2_with fail
            go_ret
            exact ⟨⟨_, rfl⟩, hb.out⟩
          · clear hc hlen hg hN
            go_wp2_with fail
            go_roundw
            case rel => exact ⟨k + 1, by omega, by go_num, hb⟩
            case measure => simp [intOf]; omega
      · go_wp2_with fail
        go_ret
        exact ⟨⟨_, rfl⟩, hb.out⟩
    · have h1 : ¬ (k : Int) < (L.length : Int) := by omega
      go_wp2_with fail
      go_ret
      exact ⟨⟨_, rfl⟩, hb.out⟩

/-- exprs says something. -/
def GXo (L : List ET) : Prop := ∀ (A : Option Addr) (c : Nat) (most : Int) (w : World), EsR w w.heap.size A L → Calls Try.prog 64 #[.slice A L.length c, .int .i64 most] w (SomeN w)
set_option maxHeartbeats 1000000 in
theorem gxo_of (L : List ET) (hcnt : L.length ≤ 9223372036854775807) (ih : ∀ (k : Nat) (hk : k < L.length), GXo L[k].args) : GXo L := by
  intro A c most w ha
  have HA := Lib.hid (fun (w' : World) (hb : Below w.heap.size w w') => EsR.mono (Nat.le_refl _) hb.block ha)
  have IH : Hid (∀ (k : Nat) (hk : k < L.length) (A : Option Addr) (c : Nat) (most : Int) (w : World), EsR w w.heap.size A L[k].args → Calls Try.prog 64 #[.slice A L[k].args.length c, .int .i64 most] w (SomeN w)) := fun k hk => ih k hk
  clear ha ih
  go_enter Try.func64, Try.ntmps64
  go_wp2_with fail
  go_loopw [5, 6] (fun m i wr => ∃ (k : Nat) (n : Int), k ≤ L.length ∧ m = .int .i64 n ∧ i = .int .i64 k ∧ Hid (Below w.heap.size w wr)) (fun _ i _ => L.length - (intOf i).toNat)
  case atStart => exact ⟨0, 0, Nat.zero_le _, rfl, rfl, Below.refl _ _⟩
  case round =>
    obtain ⟨k, n, hk, rfl, rfl, hb⟩ := hrel
    by_cases hlt : k < L.length
    · have h1 : (k : Int) < (L.length : Int) := by omega
      have h2 : (0 : Int) ≤ (k : Int) := by omega
      by_cases hm : n ≤ most
      · obtain ⟨g, o, cs, rfl, hg, hlen, hc, he⟩ := HA.out wr hb.out k hlt
        have KX := IH.out k hlt
        obtain ⟨⟨xk, xn, nm, wh, args⟩, hN⟩ : ∃ s : ET, s = L[k] := ⟨_, rfl⟩
        rw [← hN] at he KX
        obtain ⟨A', c', rfl, hn, hr⟩ := he.form
        have KX : Hid (∀ (m : Int) (W : World), W.heap = wr.heap → Calls Try.prog 64 #[.slice A' args.length c', .int .i64 m] W (SomeN W)) := fun m W hW => KX A' c' m W (EsR.mono (by rw [hW]; exact hb.out.size) (fun g _ => by rw [hW]) hr)
        have c2 := hc 2 _ rfl
        have c3 := hc 3 _ rfl
        have c4 := hc 4 _ rfl
        by_cases hs : (60 : Int) < (nm.size : Int)
        · clear hc hlen hg hN KX he hr hn
          go_wp2_with fail
          go_ret
          exact ⟨⟨_, rfl⟩, hb.out⟩
        · by_cases hs2 : (60 : Int) < (wh.size : Int)
          · clear hc hlen hg hN KX he hr hn
            go_wp2_with fail
            go_ret
            exact ⟨⟨_, rfl⟩, hb.out⟩
          · clear hc hlen hg hN he hr hn
            go_wp2_with fail
            refine (KX.out _ _ rfl).mono ?_
            rintro e1 w1 ⟨⟨r, rfl⟩, hb1⟩
            have HB1 : Hid (Below w.heap.size w w1) := hb.out.trans (hb1.mono hb.out.size)
            clear hb1 KX
            go_wp2_with fail
            go_roundw
            case rel => exact ⟨k + 1, _, by omega, rfl, by go_num, HB1⟩
            case measure => simp [intOf]; omega
      · go_wp2_with fail
        go_ret
        exact ⟨⟨_, rfl⟩, hb.out⟩
    · have h1 : ¬ (k : Int) < (L.length : Int) := by omega
      go_wp2_with fail
      go_ret
      exact ⟨⟨_, rfl⟩, hb.out⟩
theorem OE.gx {e : ET} (h : OE e) : GXo e.args := by
  induction h with
  | mk h1 h2 ih => exact gxo_of _ h1 ih
theorem gxo_all (L : List ET) (hcnt : L.length ≤ 9223372036854775807) (h : ∀ (k : Nat) (hk : k < L.length), OE L[k]) : GXo L := gxo_of L hcnt fun k hk => (h k hk).gx

/-- stmts says something. -/
def GSo (L : List ST) : Prop := ∀ (A : Option Addr) (c : Nat) (most : Int) (w : World), SsR w w.heap.size A L → Calls Try.prog 45 #[.slice A L.length c, .int .i64 most] w (SomeN w)
theorem OS.form {k n : Int} {nm : ByteArray} {ex : List ET} {lb : List (List Int)} {bs : List (List ST)} (h : OS (.mk k n nm ex lb bs)) : ex.length ≤ 9223372036854775807 ∧ (∀ (i : Nat) (hi : i < ex.length), OE ex[i]) ∧ lb.length ≤ 9223372036854775807 ∧ bs.length ≤ 9223372036854775807 := by
  cases h with
  | mk h1 h2 h3 h4 => exact ⟨h1, h2, h3, h4⟩
set_option maxHeartbeats 2000000 in
set_option maxRecDepth 100000 in
theorem gso_of (L : List ST) (hcnt : L.length ≤ 9223372036854775807) (ho : ∀ (k : Nat) (hk : k < L.length), OS L[k]) (ih : ∀ (k : Nat) (hk : k < L.length) (j : Nat) (hj : j < L[k].blocks.length), GSo L[k].blocks[j]) : GSo L := by
  intro A c most w ha
  have HA := Lib.hid (fun (w' : World) (hb : Below w.heap.size w w') => SsR.mono (Nat.le_refl _) hb.block ha)
  have IH := Lib.hid ih
  have HO := Lib.hid ho
  clear ha ih ho
  go_enter Try.func45, Try.ntmps45
  go_wp2_with fail
  go_loopw [5, 6] (fun m i wr => ∃ (k : Nat) (n : Int), k ≤ L.length ∧ m = .int .i64 n ∧ i = .int .i64 k ∧ Hid (Below w.heap.size w wr)) (fun _ i _ => L.length - (intOf i).toNat)
  case atStart => exact ⟨0, 0, Nat.zero_le _, rfl, rfl, Below.refl _ _⟩
  case round =>
    obtain ⟨R, hR⟩ : ∃ R : World, R = wr := ⟨_, rfl⟩
    subst hR
    obtain ⟨k, n, hk, rfl, rfl, hb⟩ := hrel
    by_cases hlt : k < L.length
    · have h1 : (k : Int) < (L.length : Int) := by omega
      have h2 : (0 : Int) ≤ (k : Int) := by omega
      by_cases hm : n ≤ most
      · obtain ⟨g, o, cs, rfl, hg, hlen, hc, he⟩ := HA.out R hb.out k hlt
        have KS := IH.out k hlt
        have hwk := HO.out k hlt
        obtain ⟨⟨sk, sn, nm, ex, lb, bs⟩, hN⟩ : ∃ s : ST, s = L[k] := ⟨_, rfl⟩
        rw [← hN] at he KS hwk
        obtain ⟨A1, c1, A2, c2, A3, c3, rfl, hn, r1, r2, r3⟩ := he.form
        obtain ⟨hxl, hxe, hbl, hbb⟩ := hwk.form
        have KX : Hid (∀ (m : Int) (W : World), W.heap = R.heap → Calls Try.prog 64 #[.slice A1 ex.length c1, .int .i64 m] W (SomeN W)) := fun m W hW => gxo_all ex hxl hxe A1 c1 m W (EsR.mono (by rw [hW]; exact hb.out.size) (fun g _ => by rw [hW]) r1)
        have hgr : g < R.heap.size := Nat.lt_of_lt_of_le hg hb.out.size
        have HC : Hid (∀ w', Below R.heap.size R w' → w'.cell? ⟨g, o + k * 6 + 4, none⟩ = some (.slice A2 lb.length c2) ∧ w'.cell? ⟨g, o + k * 6 + 5, none⟩ = some (.slice A3 bs.length c3)) := fun w' hh => ⟨(hh.cell (p := ⟨g, o + k * 6 + 4, none⟩) hgr).trans (hc 4 _ rfl), (hh.cell (p := ⟨g, o + k * 6 + 5, none⟩) hgr).trans (hc 5 _ rfl)⟩
        have HL : Hid (∀ w', Below R.heap.size R w' → LsR w' R.heap.size A2 lb) := fun w' hh => LsR.mono (Nat.le_refl _) hh.block (LsR.mono hb.out.size (fun _ _ => rfl) r2)
        have HBb : Hid (∀ w', Below R.heap.size R w' → BsR w' R.heap.size A3 bs) := fun w' hh => BsR.mono (Nat.le_refl _) hh.block (BsR.mono hb.out.size (fun _ _ => rfl) r3)
        have KS := Lib.hid KS
        have y2 := hc 2 _ rfl
        have y3 := hc 3 _ rfl
        by_cases hs : (60 : Int) < (nm.size : Int)
        · clear hc hlen hg hN he r1 r2 r3 hn hwk hxe hgr
          go_wp2_with fail
          go_ret
          exact ⟨⟨_, rfl⟩, hb.out⟩
        · clear hc hlen hg hN he r1 r2 r3 hn hwk hxe
          go_wp2_with fail
          refine (KX.out _ _ rfl).mono ?_
          rintro e1 w1 ⟨⟨r, rfl⟩, hb1⟩
          have HB1 := Lib.hid hb1
          clear hb1 KX y2 y3
          go_wp2_with fail
          go_loopw [5, 7] (fun m j w2 => ∃ (a : Nat) (n2 : Int), a ≤ lb.length ∧ m = .int .i64 n2 ∧ j = .int .i64 a ∧ Hid (Below R.heap.size R w2)) (fun _ j _ => lb.length - (intOf j).toNat)
          case atStart => exact ⟨0, _, Nat.zero_le _, rfl, rfl, HB1⟩
          case round =>
            obtain ⟨a, n2, ha, rfl, rfl, hb2⟩ := hrel
            obtain ⟨z4, z5⟩ := HC.out _ hb2.out
            have h0 : (0 : Int) ≤ (a : Int) := by omega
            have hcase : (a < lb.length ∧ n2 ≤ most) ∨ ¬ a < lb.length ∨ (a < lb.length ∧ ¬ n2 ≤ most) := by
              by_cases p1 : a < lb.length <;> by_cases p2 : n2 ≤ most <;> simp [p1, p2]
            rcases hcase with ⟨p1, p2⟩ | p1 | ⟨p1, p2⟩
            · obtain ⟨g2, o2, cs2, rfl, hg2, hlen2, hc2, A4, c4, rfl, he4⟩ := HL.out _ hb2.out a p1
              have y0 := hc2 0 _ rfl
              simp only [Nat.mul_one, Nat.add_zero] at y0
              have q1 : (a : Int) < (lb.length : Int) := by omega
              clear hc2 hlen2 hg2 he4
              go_wp2_with fail
              go_roundw
              case rel => exact ⟨a + 1, _, by omega, rfl, by go_num, hb2⟩
              case measure => simp [intOf]; omega
            all_goals
              have q1 := Lib.hid p1
              try have q2 : (a : Int) < (lb.length : Int) := by omega
              try have q2 : ¬ (a : Int) < (lb.length : Int) := by omega
              clear p1
              go_wp2_with fail
              go_loopw [5, 8] (fun m j w3 => ∃ (a : Nat) (n3 : Int), a ≤ bs.length ∧ m = .int .i64 n3 ∧ j = .int .i64 a ∧ Hid (Below R.heap.size R w3)) (fun _ j _ => bs.length - (intOf j).toNat)
              case atStart => exact ⟨0, _, Nat.zero_le _, rfl, rfl, hb2⟩
              case round =>
                obtain ⟨a3, n3, ha3, rfl, rfl, hb3⟩ := hrel
                obtain ⟨x4, x5⟩ := HC.out _ hb3.out
                have h3 : (0 : Int) ≤ (a3 : Int) := by omega
                have hcase : (a3 < bs.length ∧ n3 ≤ most) ∨ ¬ a3 < bs.length ∨ (a3 < bs.length ∧ ¬ n3 ≤ most) := by
                  by_cases p1 : a3 < bs.length <;> by_cases p2 : n3 ≤ most <;> simp [p1, p2]
                rcases hcase with ⟨p1, p2⟩ | p1 | ⟨p1, p2⟩
                · obtain ⟨g2, o2, cs2, rfl, hg2, hlen2, hc2, A4, c4, rfl, he4⟩ := HBb.out _ hb3.out a3 p1
                  have y0 := hc2 0 _ rfl
                  simp only [Nat.mul_one, Nat.add_zero] at y0
                  have q1 : (a3 : Int) < (bs.length : Int) := by omega
                  have KC : Hid (∀ (m : Int) (W : World), W.heap = wr.heap → Calls Try.prog 45 #[.slice A4 bs[a3].length c4, .int .i64 m] W (SomeN W)) := fun m W hW => KS.out a3 p1 A4 c4 m W (SsR.mono (by rw [hW]; exact hb3.out.size) (fun g _ => by rw [hW]) he4)
                  clear hc2 hlen2 hg2 he4
                  go_wp2_with fail
                  refine (KC.out _ _ rfl).mono ?_
                  rintro e4 w4 ⟨⟨r4, rfl⟩, hb4⟩
                  have HB4 : Hid (Below R.heap.size R w4) := hb3.out.trans (hb4.mono hb3.out.size)
                  clear hb4 KC
                  go_wp2_with fail
                  go_roundw
                  case rel => exact ⟨a3 + 1, _, by omega, rfl, by go_num, HB4⟩
                  case measure => simp [intOf]; omega
                all_goals
                  have q4 := Lib.hid p1
                  try have q5 : (a3 : Int) < (bs.length : Int) := by omega
                  try have q5 : ¬ (a3 : Int) < (bs.length : Int) := by omega
                  clear p1
                  have HZ : Hid (Below w.heap.size w wr) := hb.out.trans (hb3.out.mono hb.out.size)
                  go_wp2_with fail
                  go_roundw
                  case rel => exact ⟨k + 1, _, by omega, rfl, by go_num, HZ⟩
                  case measure => simp [intOf]; omega
      · go_wp2_with fail
        go_ret
        exact ⟨⟨_, rfl⟩, hb.out⟩
    · have h1 : ¬ (k : Int) < (L.length : Int) := by omega
      go_wp2_with fail
      go_ret
      exact ⟨⟨_, rfl⟩, hb.out⟩
theorem OS.gs {s : ST} (h : OS s) : ∀ (j : Nat) (hj : j < s.blocks.length), GSo s.blocks[j] := by
  induction h with
  | mk h1 h2 h3 h4 h5 h6 ih => exact fun j hj => gso_of _ (h5 j hj) (h6 j hj) fun i hi j2 hj2 => ih j hj i hi j2 hj2
theorem gso_all (L : List ST) (hcnt : L.length ≤ 9223372036854775807) (h : ∀ (k : Nat) (hk : k < L.length), OS L[k]) : GSo L := gso_of L hcnt h fun k hk j hj => (h k hk).gs j hj
end Go.Proofs.Ytkpieolmepngjaa
