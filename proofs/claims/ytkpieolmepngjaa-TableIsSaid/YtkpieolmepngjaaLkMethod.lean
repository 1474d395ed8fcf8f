/-
  lookup: where a method is BY A CONTRACT.
-/
import Derived.Test.YtkpieolmepngjaaLkIs
namespace Go.Proofs.Ytkpieolmepngjaa
open Go Go.RowKit
set_option linter.unusedVariables false
set_option linter.unusedSimpArgs false

set_option maxHeartbeats 4000000 in
set_option maxRecDepth 100000 in
theorem lkMethod_any (L : List DT) (A : Option Addr) (c p N : Nat) (I : IX) (d0 : Int) (s : ByteArray) (w : World) (h : XAt L A c p N w I) (hfit : FitA L) (hd0 : I64 d0) :
    Calls Try.prog 48 #[.pointer (some ⟨p, 0, none⟩), .int .i64 d0, .string s] w (XRet L A c p N w I (whereV (methodT L d0 s))) := by
  obtain ⟨R0, hR0⟩ : ∃ R0 : World, R0 = w.alloc (.cells #[.int .i64 0, .int .i64 0] 29) := ⟨_, rfl⟩
  have hb0 : Below w.heap.size w R0 := by rw [hR0]; exact (Below.refl _ _).alloc (Nat.le_refl _) _
  have hg0 : R0.heap[w.heap.size]? = some (.cells #[.int .i64 0, .int .i64 0] 29 (0, 0)) := by rw [hR0]; exact heap_alloc_new w _
  have hs0 : R0.heap.size = w.heap.size + 1 := by rw [hR0]; simp
  have hx0 := Lib.hid (h.below hb0)
  have hni : ¬ I.has p w.heap.size := fun e => by have := (h.far _ e).2; omega
  have HFIT := Lib.hid hfit
  have HD0 := Lib.hid hd0
  have KC : Hid (Calls Try.prog 51 #[.pointer (some ⟨p, 0, none⟩), .int .i64 d0] R0 fun e w1 => ∃ A1 c1 J, e = .returned (.slice A1 (chainT L d0).length c1) ∧ Hid (IRow R0.heap.size w1 A1 c1 (chainT L d0)) ∧ Hid (XAt L A c p N w1 J) ∧ Hid (w1.heap[w.heap.size]? = some (.cells #[.int .i64 0, .int .i64 0] 29 (0, 0))) ∧ Hid (XTo p w I w1 J) ∧ Hid (w.heap.size + 1 ≤ w1.heap.size) ∧ Hid (N ≤ w1.heap.size) ∧ Hid (¬ J.has p w.heap.size)) := (lkChain_any L A c p N I d0 R0 hx0.out hfit).mono fun e w1 hh => by
    obtain ⟨A1, c1, J, h1, h2, h3, h4, h5⟩ := hh
    exact ⟨A1, c1, J, h1, h2, h4, (h5.out.block _ (by omega) hni).trans hg0, (XTo.of_below hb0).trans h5.out, by have := h5.out.size; unfold Hid; omega, Nat.le_of_lt h4.out.lt, h5.out.none (by omega) hni⟩
  have KI : Hid (∀ W J, Hid (XAt L A c p N W J) → Calls Try.prog 65 #[.pointer (some ⟨p, 0, none⟩), .int .i64 d0, .int .i64 1] W fun e w' => e = .returned (.bool (isOfT L d0 1)) ∧ Hid (Below W.heap.size W w')) := fun W J hx => lkIsOf_any L A c p N J d0 1 W hx.out
  obtain ⟨r, hr0⟩ : ∃ r, r = methodT L d0 s := ⟨_, rfl⟩
  rw [← hr0]
  have HR := Lib.hid hr0
  have HR0 := Lib.hid hR0
  have HNW : Hid (N ≤ w.heap.size) := Nat.le_of_lt h.lt
  unfold XRet
  clear hr0 h hfit hd0 hg0 hb0 hs0 hni hR0
  go_enter Try.func48, Try.ntmps48
  go_wp2_with fail
  rw [← HR0.out]
  refine KC.out.mono ?_
  rintro e1 w1 ⟨A1, c1, J, rfl, hrow1, hx1, HG, ht1, hs1, hn1, hnj⟩
  have hNw : N ≤ w.heap.size := HNW.out
  have HFIN : Hid (∀ W a b, Hid (Below w1.heap.size w1 W) → Hid (XAt L A c p N ((W.setCell ⟨w.heap.size, 0, none⟩ (.int .i64 a)).setCell ⟨w.heap.size, 1, none⟩ (.int .i64 b)) J) ∧ Hid (XTo p w I ((W.setCell ⟨w.heap.size, 0, none⟩ (.int .i64 a)).setCell ⟨w.heap.size, 1, none⟩ (.int .i64 b)) J)) := fun W a b hb => by
    have e : ∀ k, k ≠ w.heap.size → ((W.setCell ⟨w.heap.size, 0, none⟩ (.int .i64 a)).setCell ⟨w.heap.size, 1, none⟩ (.int .i64 b)).heap[k]? = W.heap[k]? := fun k hk => (Below.heap_setCell _ _ _ _ hk).trans (Below.heap_setCell _ _ _ _ hk)
    have hsz : ((W.setCell ⟨w.heap.size, 0, none⟩ (.int .i64 a)).setCell ⟨w.heap.size, 1, none⟩ (.int .i64 b)).heap.size = W.heap.size := by simp [World.setCell]
    refine ⟨(hx1.out.below hb.out).stay (by omega) (fun k hk => e k ?_), ht1.out.quiet ⟨hb.out.os, hb.out.tape, hb.out.output, by have := hb.out.size; omega, fun k hk => (e k (by omega)).trans (hb.out.block k (by have := hs1.out; omega))⟩⟩
    rcases hk with hk | hk
    · omega
    · exact fun e => hnj.out (e ▸ hk)
  have HB1 : Hid (Below w1.heap.size w1 w1) := Below.refl _ _
  have HDA := Lib.hid (fun k (hk : k < L.length) => declAll hx1.out.row hk)
  have HO2 : Hid (∀ W, Hid (Below w1.heap.size w1 W) → Hid (XAt L A c p N W J)) := fun W h => hx1.out.below h.out
  have KI1 := KI.out w1 J hx1
  cases hk1 : isOfT L d0 1
  · rw [hk1] at KI1
    have KI2 := Lib.hid KI1
    have hh : homesT L d0 = chainT L d0 := by unfold homesT; rw [hk1]; rfl
    have hr1 : methodF L s (homesT L d0) = r := HR.out.symm
    have hin := homesT_in L d0
    have hmet := (chainT_met L d0).len
    have hcl0 := HFIT.out.cnt
    rw [hh] at hr1 hin
    obtain ⟨H, hH⟩ : ∃ H, H = chainT L d0 := ⟨_, rfl⟩
    rw [← hH] at hr1 hin hmet hrow1
    have HR1 := Lib.hid hr1
    have HIN := Lib.hid hin
    rw [← hH]
    clear hh hr1 hin hH hk1 KI1
    go_wp2_with fail
    refine KI2.out.mono ?_
    rintro e2 w2 ⟨rfl, hb2⟩
    have hrow2 : Hid (IRow R0.heap.size w2 A1 c1 H) := hrow1.out.below hb2.out
    clear hrow1
    go_wp2_with fail
    go_loopw [22] (fun iv wr => ∃ k : Nat, k ≤ H.length ∧ iv = .int .i64 k ∧ Hid (methodF L s (H.drop k) = r) ∧ Hid (IRow R0.heap.size wr A1 c1 H) ∧ Hid (Below w1.heap.size w1 wr)) (fun i _ => H.length - (intOf i).toNat)
    case atStart => exact ⟨0, Nat.zero_le _, rfl, HR1, hrow2, hb2⟩
    case round =>
      obtain ⟨k, hk, rfl, hdr, hrow3, hb3⟩ := hrel
      have h2 : (0 : Int) ≤ (k : Int) := by omega
      by_cases hlt : k < H.length
      · have h1 : (k : Int) < (H.length : Int) := by omega
        have hdrop := hdr.out
        rw [methodF_drop hlt] at hdrop
        have hhome := HIN.out _ (List.getElem_mem hlt)
        obtain ⟨x, hx⟩ : ∃ x, x = H[k] := ⟨_, rfl⟩
        rw [← hx] at hhome hdrop
        obtain ⟨kk, hkk, hkl⟩ := hhome
        obtain ⟨q, o, E1, e1, E2, e2, E3, e3, E4, e4, hA, hg, hY⟩ := HDA.out kk hkl
        obtain ⟨gl, hAl⟩ := hrow3.out.isBlock (by omega)
        subst hAl
        subst hA
        have z : wr.cell? ⟨gl, k, none⟩ = some (.int .i64 (kk : Int)) := by
          have h9 := hrow3.out.at_ hlt
          rw [Nat.zero_add, ← hx, hkk] at h9
          exact h9
        obtain ⟨M, hM⟩ : ∃ M, M = L[kk].methods := ⟨_, rfl⟩
        have hmo : methodsOf L x = M := by rw [hkk]; unfold methodsOf; rw [Int.toNat_natCast, List.getElem?_eq_getElem hkl, hM]; rfl
        have hml : M.length ≤ 1000000000 := hM ▸ HFIT.out.methods _ (List.getElem_mem _)
        rw [hmo, hkk] at hdrop
        have HDR := Lib.hid hdrop
        have HCE : Hid (∀ W, Hid (Below w1.heap.size w1 W) → W.cell? ⟨p, 0, none⟩ = some (.slice (some ⟨q, o, none⟩) L.length c) ∧ W.cell? ⟨q, o + kk * 11 + 7, none⟩ = some (.slice E3 M.length e3) ∧ MsR W N E3 M) := fun W h => ⟨(HO2.out W h).out.c0, hM ▸ (hY W (h.out.mono hn1.out)).2.2.2.2.2.2.2.2.1, hM ▸ (hY W (h.out.mono hn1.out)).1.2.2.1⟩
        obtain ⟨y0, x7, -⟩ := HCE.out _ hb3
        have q1 : (kk : Int) < (L.length : Int) := by omega
        have q2 : (0 : Int) ≤ (kk : Int) := by omega
        clear hmo hM hY hdrop hkk hx
        go_wp2_with fail
        clear y0 x7 z
        go_loopw [35] (fun jv w4 => ∃ j : Nat, j ≤ M.length ∧ jv = .int .i64 j ∧ Hid (∀ i (hi : i < M.length), i < j → M[i].name ≠ s) ∧ Hid (IRow R0.heap.size w4 (some ⟨gl, 0, none⟩) c1 H) ∧ Hid (Below w1.heap.size w1 w4)) (fun j _ => M.length - (intOf j).toNat)
        case atStart => exact ⟨0, Nat.zero_le _, rfl, fun _ _ h => absurd h (Nat.not_lt_zero _), hrow3, hb3⟩
        case round =>
          obtain ⟨j, hj, rfl, hn, hrow4, hb4⟩ := hrel
          obtain ⟨W4, hW4⟩ : ∃ W4 : World, W4 = wr := ⟨_, rfl⟩
          subst hW4
          obtain ⟨y0, x7, hms⟩ := HCE.out _ hb4
          have j0 : (0 : Int) ≤ (j : Int) := by omega
          by_cases hjl : j < M.length
          · have j1 : (j : Int) < (M.length : Int) := by omega
            obtain ⟨g, om, cs, hE, hgm, -, hc, he⟩ := hms j hjl
            subst hE
            obtain ⟨m, hN⟩ : ∃ d : MT, d = M[j] := ⟨_, rfl⟩
            rw [← hN] at he
            obtain ⟨B1, d1, B2, d2, B3, d3, rfl, _⟩ := he
            have y1 := hc 0 _ rfl
            rw [Nat.add_zero] at y1
            by_cases hs : m.name = s
            · have hr := ownT_at hjl hn.out (hN ▸ hs)
              have qs : (m.name.toList == s.toList) = true := str_eq hs
              have hres := HDR.out
              rw [hr, if_pos (by omega)] at hres
              have HRES := Lib.hid hres
              have hw6 := blk_cells HG.out hb4.out
              have g0 : W4.cell? ⟨w.heap.size, 0, none⟩ = some (.int .i64 0) := by rw [cell_of_row _ _ 0 _ _ _ hw6]; rfl
              have g1 : W4.cell? ⟨w.heap.size, 1, none⟩ = some (.int .i64 0) := by rw [cell_of_row _ _ 1 _ _ _ hw6]; rfl
              have f0 : W4.frozen? ⟨w.heap.size, 0, none⟩ = false := frozen_of_row _ _ 0 _ _ hw6
              have f1 : W4.frozen? ⟨w.heap.size, 1, none⟩ = false := frozen_of_row _ _ 1 _ _ hw6
              have HW6 := Lib.hid hw6
              clear hc hN hs hms hr hres hw6
              go_wp2_with fail
              refine ret_where (w3 := W4) (g := w.heap.size) (a := kk) (b := j) (ev := true) rfl HW6.out rfl rfl rfl ?_
              first
                | exact ⟨J, (by rw [← HRES.out]; rfl), (HFIN.out _ _ _ hb4).1, (HFIN.out _ _ _ hb4).2⟩
                | exact ⟨(by rw [← HRES.out]; rfl), J, (HFIN.out _ _ _ hb4).1, (HFIN.out _ _ _ hb4).2⟩
            · have hn2 : Hid (∀ i (hi : i < M.length), i < j + 1 → M[i].name ≠ s) := fun i hi h => by
                rcases Nat.lt_or_ge i j with h3 | h3
                · exact hn.out i hi h3
                · obtain rfl : i = j := by omega
                  exact hN ▸ hs
              have qs : (m.name.toList == s.toList) = false := str_ne hs
              clear hc hN hs hms
              go_wp2_with fail
              go_roundw
              case rel => exact ⟨j + 1, by omega, by go_num, hn2, hrow4, hb4⟩
              case measure => simp [intOf]; omega
          · have j1 : ¬ (j : Int) < (M.length : Int) := by omega
            have hr := ownT_none (L := M) (s := s) (fun i hi => hn.out i hi (by omega))
            have hres := HDR.out
            rw [hr, if_neg (by omega)] at hres
            have HRES := Lib.hid hres
            clear hr hres hms
            go_wp2_with fail
            go_roundw
            case rel => exact ⟨k + 1, by omega, by go_num, HRES, hrow4, hb4⟩
            case measure => simp [intOf]; omega
      · have h1 : ¬ (k : Int) < (H.length : Int) := by omega
        have hres := hdr.out
        rw [List.drop_of_length_le (by omega)] at hres
        have HRES := Lib.hid hres
        have hw6 := blk_cells HG.out hb3.out
        have g0 : wr.cell? ⟨w.heap.size, 0, none⟩ = some (.int .i64 0) := by rw [cell_of_row _ _ 0 _ _ _ hw6]; rfl
        have g1 : wr.cell? ⟨w.heap.size, 1, none⟩ = some (.int .i64 0) := by rw [cell_of_row _ _ 1 _ _ _ hw6]; rfl
        have f0 : wr.frozen? ⟨w.heap.size, 0, none⟩ = false := frozen_of_row _ _ 0 _ _ hw6
        have f1 : wr.frozen? ⟨w.heap.size, 1, none⟩ = false := frozen_of_row _ _ 1 _ _ hw6
        have HW6 := Lib.hid hw6
        clear hw6 hres
        go_wp2_with fail
        refine ret_where (w3 := wr) (g := w.heap.size) (a := 0) (b := 0) (ev := false) rfl HW6.out rfl rfl rfl ?_
        first
          | exact ⟨J, (by rw [← HRES.out]; rfl), (HFIN.out _ _ _ hb3).1, (HFIN.out _ _ _ hb3).2⟩
          | exact ⟨(by rw [← HRES.out]; rfl), J, (HFIN.out _ _ _ hb3).1, (HFIN.out _ _ _ hb3).2⟩
  · rw [hk1] at KI1
    have KI2 := Lib.hid KI1
    have hh : homesT L d0 = [d0] := by unfold homesT; rw [hk1]; rfl
    have hr1 : methodF L s (homesT L d0) = r := HR.out.symm
    have hin := homesT_in L d0
    have hcl0 := HFIT.out.cnt
    rw [hh] at hr1 hin
    obtain ⟨H, hH⟩ : ∃ H, H = [d0] := ⟨_, rfl⟩
    have hHl : H.length = 1 := by rw [hH]; rfl
    rw [← hH] at hr1 hin
    have HR1 := Lib.hid hr1
    have HIN := Lib.hid hin
    have HH := Lib.hid hH
    clear hh hr1 hin hH hk1 KI1 hrow1
    go_wp2_with fail
    refine KI2.out.mono ?_
    rintro e2 w2 ⟨rfl, hb2⟩
    have hs2 := hb2.out.size
    have hrow4 : Hid (IRow w1.heap.size (w2.alloc (.cells #[.int .i64 d0] 3)) (some ⟨w2.heap.size, 0, none⟩) 1 H) := HH.out ▸ IRow.one w2 d0 HD0.out hs2
    have hb4 : Hid (Below w1.heap.size w1 (w2.alloc (.cells #[.int .i64 d0] 3))) := hb2.out.alloc hs2 _
    go_wp2_with fail
    generalize (w2.alloc (.cells #[.int .i64 d0] 3)) = w4 at hrow4 hb4 ⊢
    generalize w2.heap.size = gl at hrow4 ⊢
    go_loopw [22] (fun iv wr => ∃ k : Nat, k ≤ H.length ∧ iv = .int .i64 k ∧ Hid (methodF L s (H.drop k) = r) ∧ Hid (IRow w1.heap.size wr (some ⟨gl, 0, none⟩) 1 H) ∧ Hid (Below w1.heap.size w1 wr)) (fun i _ => H.length - (intOf i).toNat)
    case atStart => exact ⟨0, Nat.zero_le _, rfl, HR1, hrow4, hb4⟩
    case round =>
      obtain ⟨k, hk, rfl, hdr, hrow3, hb3⟩ := hrel
      rcases (show k = 0 ∨ k = 1 by omega) with rfl | rfl
      · have hlt : 0 < H.length := by omega
        have hdrop := hdr.out
        rw [methodF_drop hlt] at hdrop
        have hhome := HIN.out _ (List.getElem_mem hlt)
        obtain ⟨x, hx⟩ : ∃ x, x = H[0] := ⟨_, rfl⟩
        rw [← hx] at hhome hdrop
        obtain ⟨kk, hkk, hkl⟩ := hhome
        obtain ⟨q, o, E1, e1, E2, e2, E3, e3, E4, e4, hA, hg, hY⟩ := HDA.out kk hkl
        subst hA
        have z : wr.cell? ⟨gl, 0, none⟩ = some (.int .i64 (kk : Int)) := by
          have h9 := hrow3.out.at_ hlt
          rw [Nat.zero_add, ← hx, hkk] at h9
          exact h9
        obtain ⟨M, hM⟩ : ∃ M, M = L[kk].methods := ⟨_, rfl⟩
        have hmo : methodsOf L x = M := by rw [hkk]; unfold methodsOf; rw [Int.toNat_natCast, List.getElem?_eq_getElem hkl, hM]; rfl
        have hml : M.length ≤ 1000000000 := hM ▸ HFIT.out.methods _ (List.getElem_mem _)
        rw [hmo, hkk] at hdrop
        have HDR := Lib.hid hdrop
        have HCE : Hid (∀ W, Hid (Below w1.heap.size w1 W) → W.cell? ⟨p, 0, none⟩ = some (.slice (some ⟨q, o, none⟩) L.length c) ∧ W.cell? ⟨q, o + kk * 11 + 7, none⟩ = some (.slice E3 M.length e3) ∧ MsR W N E3 M) := fun W h => ⟨(HO2.out W h).out.c0, hM ▸ (hY W (h.out.mono hn1.out)).2.2.2.2.2.2.2.2.1, hM ▸ (hY W (h.out.mono hn1.out)).1.2.2.1⟩
        obtain ⟨y0, x7, -⟩ := HCE.out _ hb3
        have q1 : (kk : Int) < (L.length : Int) := by omega
        have q2 : (0 : Int) ≤ (kk : Int) := by omega
        clear hmo hM hY hdrop hkk hx
        go_wp2_with fail
        clear y0 x7 z
        go_loopw [35] (fun jv w4 => ∃ j : Nat, j ≤ M.length ∧ jv = .int .i64 j ∧ Hid (∀ i (hi : i < M.length), i < j → M[i].name ≠ s) ∧ Hid (IRow w1.heap.size w4 (some ⟨gl, 0, none⟩) 1 H) ∧ Hid (Below w1.heap.size w1 w4)) (fun j _ => M.length - (intOf j).toNat)
        case atStart => exact ⟨0, Nat.zero_le _, rfl, fun _ _ h => absurd h (Nat.not_lt_zero _), hrow3, hb3⟩
        case round =>
          obtain ⟨j, hj, rfl, hn, hrow4, hb4⟩ := hrel
          obtain ⟨W4, hW4⟩ : ∃ W4 : World, W4 = wr := ⟨_, rfl⟩
          subst hW4
          obtain ⟨y0, x7, hms⟩ := HCE.out _ hb4
          have j0 : (0 : Int) ≤ (j : Int) := by omega
          by_cases hjl : j < M.length
          · have j1 : (j : Int) < (M.length : Int) := by omega
            obtain ⟨g, om, cs, hE, hgm, -, hc, he⟩ := hms j hjl
            subst hE
            obtain ⟨m, hN⟩ : ∃ d : MT, d = M[j] := ⟨_, rfl⟩
            rw [← hN] at he
            obtain ⟨B1, d1, B2, d2, B3, d3, rfl, _⟩ := he
            have y1 := hc 0 _ rfl
            rw [Nat.add_zero] at y1
            by_cases hs : m.name = s
            · have hr := ownT_at hjl hn.out (hN ▸ hs)
              have qs : (m.name.toList == s.toList) = true := str_eq hs
              have hres := HDR.out
              rw [hr, if_pos (by omega)] at hres
              have HRES := Lib.hid hres
              have hw6 := blk_cells HG.out hb4.out
              have g0 : W4.cell? ⟨w.heap.size, 0, none⟩ = some (.int .i64 0) := by rw [cell_of_row _ _ 0 _ _ _ hw6]; rfl
              have g1 : W4.cell? ⟨w.heap.size, 1, none⟩ = some (.int .i64 0) := by rw [cell_of_row _ _ 1 _ _ _ hw6]; rfl
              have f0 : W4.frozen? ⟨w.heap.size, 0, none⟩ = false := frozen_of_row _ _ 0 _ _ hw6
              have f1 : W4.frozen? ⟨w.heap.size, 1, none⟩ = false := frozen_of_row _ _ 1 _ _ hw6
              have HW6 := Lib.hid hw6
              clear hc hN hs hms hr hres hw6
              go_wp2_with fail
              refine ret_where (w3 := W4) (g := w.heap.size) (a := kk) (b := j) (ev := true) rfl HW6.out rfl rfl rfl ?_
              first
                | exact ⟨J, (by rw [← HRES.out]; rfl), (HFIN.out _ _ _ hb4).1, (HFIN.out _ _ _ hb4).2⟩
                | exact ⟨(by rw [← HRES.out]; rfl), J, (HFIN.out _ _ _ hb4).1, (HFIN.out _ _ _ hb4).2⟩
            · have hn2 : Hid (∀ i (hi : i < M.length), i < j + 1 → M[i].name ≠ s) := fun i hi h => by
                rcases Nat.lt_or_ge i j with h3 | h3
                · exact hn.out i hi h3
                · obtain rfl : i = j := by omega
                  exact hN ▸ hs
              have qs : (m.name.toList == s.toList) = false := str_ne hs
              clear hc hN hs hms
              go_wp2_with fail
              go_roundw
              case rel => exact ⟨j + 1, by omega, by go_num, hn2, hrow4, hb4⟩
              case measure => simp [intOf]; omega
          · have j1 : ¬ (j : Int) < (M.length : Int) := by omega
            have hr := ownT_none (L := M) (s := s) (fun i hi => hn.out i hi (by omega))
            have hres := HDR.out
            rw [hr, if_neg (by omega)] at hres
            have HRES := Lib.hid hres
            clear hr hres hms
            go_wp2_with fail
            go_roundw
            case rel => exact ⟨1, by omega, rfl, HRES, hrow4, hb4⟩
            case measure => simp [intOf]; omega
      · skip
        have hres := hdr.out
        rw [List.drop_of_length_le (by omega)] at hres
        have HRES := Lib.hid hres
        have hw6 := blk_cells HG.out hb3.out
        have g0 : wr.cell? ⟨w.heap.size, 0, none⟩ = some (.int .i64 0) := by rw [cell_of_row _ _ 0 _ _ _ hw6]; rfl
        have g1 : wr.cell? ⟨w.heap.size, 1, none⟩ = some (.int .i64 0) := by rw [cell_of_row _ _ 1 _ _ _ hw6]; rfl
        have f0 : wr.frozen? ⟨w.heap.size, 0, none⟩ = false := frozen_of_row _ _ 0 _ _ hw6
        have f1 : wr.frozen? ⟨w.heap.size, 1, none⟩ = false := frozen_of_row _ _ 1 _ _ hw6
        have HW6 := Lib.hid hw6
        clear hw6 hres
        go_wp2_with fail
        refine ret_where (w3 := wr) (g := w.heap.size) (a := 0) (b := 0) (ev := false) rfl HW6.out rfl rfl rfl ?_
        first
          | exact ⟨J, (by rw [← HRES.out]; rfl), (HFIN.out _ _ _ hb3).1, (HFIN.out _ _ _ hb3).2⟩
          | exact ⟨(by rw [← HRES.out]; rfl), J, (HFIN.out _ _ _ hb3).1, (HFIN.out _ _ _ hb3).2⟩
end Go.Proofs.Ytkpieolmepngjaa
