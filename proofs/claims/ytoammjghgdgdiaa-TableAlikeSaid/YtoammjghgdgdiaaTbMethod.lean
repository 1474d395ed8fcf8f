/-
  table.Method BY A CONTRACT.
-/
import Derived.Test.YtoammjghgdgdiaaTbIs
namespace Go.Proofs.Ytoammjghgdgdiaa
open Go Go.RowKit
set_option linter.unusedVariables false
set_option linter.unusedSimpArgs false

set_option maxHeartbeats 4000000 in
set_option maxRecDepth 100000 in
theorem Method_any (L : List DT) (A : Option Addr) (c : Nat) (d0 : Int) (s : ByteArray) (w : World) (ha : DsR w w.heap.size A L) (hfit : Fit L) (hd0 : I64 d0) :
    Calls Try.prog 11 #[.agg #[.slice A L.length c], .int .i64 d0, .string s] w (MSays w (methodT L d0 s)) := by
  obtain ⟨R0, hR0⟩ : ∃ R0 : World, R0 = (w.alloc (.cells #[.slice A L.length c] 24)).alloc (.cells #[.int .i64 0, .int .i64 0] 29) := ⟨_, rfl⟩
  have hu : UAt w R0 A c L := hR0 ▸ (UAt.of ha).alloc _
  have hg0 : R0.heap[w.heap.size + 1]? = some (.cells #[.int .i64 0, .int .i64 0] 29 (0, 0)) := by
    have := heap_alloc_new (w.alloc (.cells #[.slice A L.length c] 24)) (.cells #[.int .i64 0, .int .i64 0] 29)
    rw [hR0]
    simpa using this
  have HG := Lib.hid hg0
  have HU := Lib.hid hu
  have HR0 := Lib.hid hR0
  have HS := Lib.hid hu.size
  have HFIT := Lib.hid hfit
  have HD0 := Lib.hid hd0
  have KI : Hid (∀ W, Hid (Below R0.heap.size R0 W) → Calls Try.prog 34 #[.agg #[.slice A L.length c], .int .i64 d0, .int .i64 1] W fun e w' => e = .returned (.bool (isOfT L d0 1)) ∧ Hid (Below R0.heap.size R0 w') ∧ Hid (Below W.heap.size W w')) := fun W hb => (isOf_any L A c d0 1 W (hu.rowAt hb)).mono fun e w' hh => ⟨hh.1, hb.out.trans (hh.2.mono hb.out.size), hh.2⟩
  have KC : Hid (∀ W d, Hid (Below R0.heap.size R0 W) → Calls Try.prog 13 #[.agg #[.slice A L.length c], .int .i64 d] W fun e w' => ∃ A' c', e = .returned (.slice A' (chainT L d).length c') ∧ Hid (IRow R0.heap.size w' A' c' (chainT L d)) ∧ Hid (Below R0.heap.size R0 w')) := fun W d hb => (Chain_any L A c d W (hu.rowAt hb) hfit).mono fun e w' hh => by
    obtain ⟨A', c', h1, h2, h3⟩ := hh
    exact ⟨A', c', h1, ⟨ownsRow_lower hb.out.size h2.1, h2.2⟩, hb.out.trans (h3.mono hb.out.size)⟩
  obtain ⟨r, hr0⟩ : ∃ r, r = methodT L d0 s := ⟨_, rfl⟩
  rw [← hr0]
  have HR := Lib.hid hr0
  have y0 := hu.cell _ (Below.refl _ _)
  clear hr0 ha hu hR0 hg0 hfit hd0
  unfold MSays
  go_enter Try.func11, Try.ntmps11
  have HB0 : Hid (Below R0.heap.size R0 R0) := Below.refl _ _
  rw [HR0.out] at y0
  go_wp2_with fail
  rw [← HR0.out] at y0 ⊢
  refine (KC.out _ _ HB0).mono ?_
  rintro e1 w1 ⟨A1, c1, rfl, hrow1, hb1⟩
  clear y0
  have y0 := HU.out.cell _ hb1.out
  have KI1 := KI.out _ hb1
  cases hk1 : isOfT L d0 1
  · rw [hk1] at KI1
    have KI2 := Lib.hid KI1
    have hh : homesT L d0 = chainT L d0 := by unfold homesT; rw [hk1]; rfl
    have hr1 : methodF L s (homesT L d0) = r := HR.out.symm
    have hin := homesT_in L d0
    have hmet := (chainT_met L d0).len
    have hcl0 := HFIT.out.cnt
    rw [hh] at hr1 hin
    obtain ⟨H, hH⟩ : ∃ H, H = chainT L d0 := ⟨_, rfl⟩
    rw [← hH] at hr1 hin hmet hrow1
    have HR1 := Lib.hid hr1
    have HIN := Lib.hid hin
    rw [← hH]
    clear hh hr1 hin hH hk1 KI1
    go_wp2_with fail
    refine KI2.out.mono ?_
    rintro e2 w2 ⟨rfl, hb2, hl2⟩
    have hrow2 : Hid (IRow R0.heap.size w2 A1 c1 H) := hrow1.out.below hl2.out
    clear y0 hb1 hrow1 hl2
    go_wp2_with fail
    go_loopw [22] (fun iv wr => ∃ k : Nat, k ≤ H.length ∧ iv = .int .i64 k ∧ Hid (methodF L s (H.drop k) = r) ∧ Hid (IRow R0.heap.size wr A1 c1 H) ∧ Hid (Below R0.heap.size R0 wr)) (fun i _ => H.length - (intOf i).toNat)
    case atStart => exact ⟨0, Nat.zero_le _, rfl, HR1, hrow2, hb2⟩
    case round =>
      obtain ⟨k, hk, rfl, hdr, hrow3, hb3⟩ := hrel
      have h2 : (0 : Int) ≤ (k : Int) := by omega
      by_cases hlt : k < H.length
      · have h1 : (k : Int) < (H.length : Int) := by omega
        have hdrop := hdr.out
        rw [methodF_drop hlt] at hdrop
        have hhome := HIN.out _ (List.getElem_mem hlt)
        obtain ⟨x, hx⟩ : ∃ x, x = H[k] := ⟨_, rfl⟩
        rw [← hx] at hhome hdrop
        obtain ⟨kk, hkk, hkl⟩ := hhome
        obtain ⟨q, o, E1, e1, E2, e2, E3, e3, E4, e4, hA, hg, hY⟩ := HU.out.decl hkl
        obtain ⟨gl, hAl⟩ := hrow3.out.isBlock (by omega)
        subst hAl
        subst hA
        have z : wr.cell? ⟨gl, k, none⟩ = some (.int .i64 (kk : Int)) := by
          have h9 := hrow3.out.at_ hlt
          rw [Nat.zero_add, ← hx, hkk] at h9
          exact h9
        obtain ⟨M, hM⟩ : ∃ M, M = L[kk].methods := ⟨_, rfl⟩
        have hmo : methodsOf L x = M := by rw [hkk]; unfold methodsOf; rw [Int.toNat_natCast, List.getElem?_eq_getElem hkl, hM]; rfl
        have hml : M.length ≤ 1000000000 := hM ▸ HFIT.out.methods _ (List.getElem_mem _)
        rw [hmo, hkk] at hdrop
        have HDR := Lib.hid hdrop
        have HCE : Hid (∀ W, Hid (Below R0.heap.size R0 W) → W.cell? ⟨w.heap.size, 0, none⟩ = some (.slice (some ⟨q, o, none⟩) L.length c) ∧ W.cell? ⟨q, o + kk * 11 + 7, none⟩ = some (.slice E3 M.length e3) ∧ MsR W w.heap.size E3 M) := fun W h => ⟨HU.out.cell W h.out, hM ▸ (hY W h.out).2.2.2.2.2.2.2.2.1, hM ▸ (hY W h.out).1.2.2.1⟩
        obtain ⟨y0, x7, -⟩ := HCE.out _ hb3
        have q1 : (kk : Int) < (L.length : Int) := by omega
        have q2 : (0 : Int) ≤ (kk : Int) := by omega
        clear hmo hM hY hdrop hkk hx
        go_wp2_with fail
        clear y0 x7 z
        go_loopw [33] (fun jv w4 => ∃ j : Nat, j ≤ M.length ∧ jv = .int .i64 j ∧ Hid (∀ i (hi : i < M.length), i < j → M[i].name ≠ s) ∧ Hid (IRow R0.heap.size w4 (some ⟨gl, 0, none⟩) c1 H) ∧ Hid (Below R0.heap.size R0 w4)) (fun j _ => M.length - (intOf j).toNat)
        case atStart => exact ⟨0, Nat.zero_le _, rfl, fun _ _ h => absurd h (Nat.not_lt_zero _), hrow3, hb3⟩
        case round =>
          obtain ⟨j, hj, rfl, hn, hrow4, hb4⟩ := hrel
          obtain ⟨W4, hW4⟩ : ∃ W4 : World, W4 = wr := ⟨_, rfl⟩
          subst hW4
          obtain ⟨y0, x7, hms⟩ := HCE.out _ hb4
          have j0 : (0 : Int) ≤ (j : Int) := by omega
          by_cases hjl : j < M.length
          · have j1 : (j : Int) < (M.length : Int) := by omega
            obtain ⟨g, om, cs, hE, hgm, -, hc, he⟩ := hms j hjl
            subst hE
            obtain ⟨m, hN⟩ : ∃ d : MT, d = M[j] := ⟨_, rfl⟩
            rw [← hN] at he
            obtain ⟨B1, d1, B2, d2, B3, d3, rfl, _⟩ := he
            have y1 := hc 0 _ rfl
            rw [Nat.add_zero] at y1
            by_cases hs : m.name = s
            · have hr := ownT_at hjl hn.out (hN ▸ hs)
              have qs : (m.name.toList == s.toList) = true := str_eq hs
              have hres := HDR.out
              rw [hr, if_pos (by omega)] at hres
              have HRES := Lib.hid hres
              have hw6 := blk_cells HG.out hb4.out
              have g0 : W4.cell? ⟨w.heap.size + 1, 0, none⟩ = some (.int .i64 0) := by rw [cell_of_row _ _ 0 _ _ _ hw6]; rfl
              have g1 : W4.cell? ⟨w.heap.size + 1, 1, none⟩ = some (.int .i64 0) := by rw [cell_of_row _ _ 1 _ _ _ hw6]; rfl
              have f0 : W4.frozen? ⟨w.heap.size + 1, 0, none⟩ = false := frozen_of_row _ _ 0 _ _ hw6
              have f1 : W4.frozen? ⟨w.heap.size + 1, 1, none⟩ = false := frozen_of_row _ _ 1 _ _ hw6
              have HW6 := Lib.hid hw6
              have HO := Lib.hid ((HU.out.out hb4.out).setCell (p := ⟨w.heap.size + 1, 0, none⟩) (by show w.heap.size ≤ w.heap.size + 1; omega) (.int .i64 (kk : Int)) |>.setCell (p := ⟨w.heap.size + 1, 1, none⟩) (by show w.heap.size ≤ w.heap.size + 1; omega) (.int .i64 (j : Int)))
              clear hc hN hs hms hr hres hw6
              go_wp2_with fail
              refine ret_where (w3 := W4) (g := w.heap.size + 1) (a := kk) (b := j) (ev := true) rfl HW6.out rfl rfl rfl ⟨?_, HO.out⟩
              rw [← HRES.out]
              rfl
            · have hn2 : Hid (∀ i (hi : i < M.length), i < j + 1 → M[i].name ≠ s) := fun i hi h => by
                rcases Nat.lt_or_ge i j with h3 | h3
                · exact hn.out i hi h3
                · obtain rfl : i = j := by omega
                  exact hN ▸ hs
              have qs : (m.name.toList == s.toList) = false := str_ne hs
              clear hc hN hs hms
              go_wp2_with fail
              go_roundw
              case rel => exact ⟨j + 1, by omega, by go_num, hn2, hrow4, hb4⟩
              case measure => simp [intOf]; omega
          · have j1 : ¬ (j : Int) < (M.length : Int) := by omega
            have hr := ownT_none (L := M) (s := s) (fun i hi => hn.out i hi (by omega))
            have hres := HDR.out
            rw [hr, if_neg (by omega)] at hres
            have HRES := Lib.hid hres
            clear hr hres hms
            go_wp2_with fail
            go_roundw
            case rel => exact ⟨k + 1, by omega, by go_num, HRES, hrow4, hb4⟩
            case measure => simp [intOf]; omega
      · have h1 : ¬ (k : Int) < (H.length : Int) := by omega
        have hres := hdr.out
        rw [List.drop_of_length_le (by omega)] at hres
        have HRES := Lib.hid hres
        have hw6 := blk_cells HG.out hb3.out
        have g0 : wr.cell? ⟨w.heap.size + 1, 0, none⟩ = some (.int .i64 0) := by rw [cell_of_row _ _ 0 _ _ _ hw6]; rfl
        have g1 : wr.cell? ⟨w.heap.size + 1, 1, none⟩ = some (.int .i64 0) := by rw [cell_of_row _ _ 1 _ _ _ hw6]; rfl
        have f0 : wr.frozen? ⟨w.heap.size + 1, 0, none⟩ = false := frozen_of_row _ _ 0 _ _ hw6
        have f1 : wr.frozen? ⟨w.heap.size + 1, 1, none⟩ = false := frozen_of_row _ _ 1 _ _ hw6
        have HW6 := Lib.hid hw6
        have HO := Lib.hid ((HU.out.out hb3.out).setCell (p := ⟨w.heap.size + 1, 0, none⟩) (by show w.heap.size ≤ w.heap.size + 1; omega) (.int .i64 0) |>.setCell (p := ⟨w.heap.size + 1, 1, none⟩) (by show w.heap.size ≤ w.heap.size + 1; omega) (.int .i64 0))
        clear hw6 hres
        go_wp2_with fail
        refine ret_where (w3 := wr) (g := w.heap.size + 1) (a := 0) (b := 0) (ev := false) rfl HW6.out rfl rfl rfl ⟨?_, HO.out⟩
        rw [← HRES.out]
        rfl
  · rw [hk1] at KI1
    have KI2 := Lib.hid KI1
    have hh : homesT L d0 = [d0] := by unfold homesT; rw [hk1]; rfl
    have hr1 : methodF L s (homesT L d0) = r := HR.out.symm
    have hin := homesT_in L d0
    have hcl0 := HFIT.out.cnt
    rw [hh] at hr1 hin
    obtain ⟨H, hH⟩ : ∃ H, H = [d0] := ⟨_, rfl⟩
    have hHl : H.length = 1 := by rw [hH]; rfl
    rw [← hH] at hr1 hin
    have HR1 := Lib.hid hr1
    have HIN := Lib.hid hin
    have HH := Lib.hid hH
    clear hh hr1 hin hH hk1 KI1 hrow1
    go_wp2_with fail
    refine KI2.out.mono ?_
    rintro e2 w2 ⟨rfl, hb2, -⟩
    have hs2 := hb2.out.size
    have hrow4 : Hid (IRow R0.heap.size (w2.alloc (.cells #[.int .i64 d0] 3)) (some ⟨w2.heap.size, 0, none⟩) 1 H) := HH.out ▸ IRow.one w2 d0 HD0.out hs2
    have hb4 : Hid (Below R0.heap.size R0 (w2.alloc (.cells #[.int .i64 d0] 3))) := hb2.out.alloc hs2 _
    clear y0 hb1
    go_wp2_with fail
    generalize (w2.alloc (.cells #[.int .i64 d0] 3)) = w4 at hrow4 hb4 ⊢
    generalize w2.heap.size = gl at hrow4 ⊢
    go_loopw [22] (fun iv wr => ∃ k : Nat, k ≤ H.length ∧ iv = .int .i64 k ∧ Hid (methodF L s (H.drop k) = r) ∧ Hid (IRow R0.heap.size wr (some ⟨gl, 0, none⟩) 1 H) ∧ Hid (Below R0.heap.size R0 wr)) (fun i _ => H.length - (intOf i).toNat)
    case atStart => exact ⟨0, Nat.zero_le _, rfl, HR1, hrow4, hb4⟩
    case round =>
      obtain ⟨k, hk, rfl, hdr, hrow3, hb3⟩ := hrel
      rcases (show k = 0 ∨ k = 1 by omega) with rfl | rfl
      · have hlt : 0 < H.length := by omega
        have hdrop := hdr.out
        rw [methodF_drop hlt] at hdrop
        have hhome := HIN.out _ (List.getElem_mem hlt)
        obtain ⟨x, hx⟩ : ∃ x, x = H[0] := ⟨_, rfl⟩
        rw [← hx] at hhome hdrop
        obtain ⟨kk, hkk, hkl⟩ := hhome
        obtain ⟨q, o, E1, e1, E2, e2, E3, e3, E4, e4, hA, hg, hY⟩ := HU.out.decl hkl
        subst hA
        have z : wr.cell? ⟨gl, 0, none⟩ = some (.int .i64 (kk : Int)) := by
          have h9 := hrow3.out.at_ hlt
          rw [Nat.zero_add, ← hx, hkk] at h9
          exact h9
        obtain ⟨M, hM⟩ : ∃ M, M = L[kk].methods := ⟨_, rfl⟩
        have hmo : methodsOf L x = M := by rw [hkk]; unfold methodsOf; rw [Int.toNat_natCast, List.getElem?_eq_getElem hkl, hM]; rfl
        have hml : M.length ≤ 1000000000 := hM ▸ HFIT.out.methods _ (List.getElem_mem _)
        rw [hmo, hkk] at hdrop
        have HDR := Lib.hid hdrop
        have HCE : Hid (∀ W, Hid (Below R0.heap.size R0 W) → W.cell? ⟨w.heap.size, 0, none⟩ = some (.slice (some ⟨q, o, none⟩) L.length c) ∧ W.cell? ⟨q, o + kk * 11 + 7, none⟩ = some (.slice E3 M.length e3) ∧ MsR W w.heap.size E3 M) := fun W h => ⟨HU.out.cell W h.out, hM ▸ (hY W h.out).2.2.2.2.2.2.2.2.1, hM ▸ (hY W h.out).1.2.2.1⟩
        obtain ⟨y0, x7, -⟩ := HCE.out _ hb3
        have q1 : (kk : Int) < (L.length : Int) := by omega
        have q2 : (0 : Int) ≤ (kk : Int) := by omega
        clear hmo hM hY hdrop hkk hx
        go_wp2_with fail
        clear y0 x7 z
        go_loopw [33] (fun jv w4 => ∃ j : Nat, j ≤ M.length ∧ jv = .int .i64 j ∧ Hid (∀ i (hi : i < M.length), i < j → M[i].name ≠ s) ∧ Hid (IRow R0.heap.size w4 (some ⟨gl, 0, none⟩) 1 H) ∧ Hid (Below R0.heap.size R0 w4)) (fun j _ => M.length - (intOf j).toNat)
        case atStart => exact ⟨0, Nat.zero_le _, rfl, fun _ _ h => absurd h (Nat.not_lt_zero _), hrow3, hb3⟩
        case round =>
          obtain ⟨j, hj, rfl, hn, hrow4, hb4⟩ := hrel
          obtain ⟨W4, hW4⟩ : ∃ W4 : World, W4 = wr := ⟨_, rfl⟩
          subst hW4
          obtain ⟨y0, x7, hms⟩ := HCE.out _ hb4
          have j0 : (0 : Int) ≤ (j : Int) := by omega
          by_cases hjl : j < M.length
          · have j1 : (j : Int) < (M.length : Int) := by omega
            obtain ⟨g, om, cs, hE, hgm, -, hc, he⟩ := hms j hjl
            subst hE
            obtain ⟨m, hN⟩ : ∃ d : MT, d = M[j] := ⟨_, rfl⟩
            rw [← hN] at he
            obtain ⟨B1, d1, B2, d2, B3, d3, rfl, _⟩ := he
            have y1 := hc 0 _ rfl
            rw [Nat.add_zero] at y1
            by_cases hs : m.name = s
            · have hr := ownT_at hjl hn.out (hN ▸ hs)
              have qs : (m.name.toList == s.toList) = true := str_eq hs
              have hres := HDR.out
              rw [hr, if_pos (by omega)] at hres
              have HRES := Lib.hid hres
              have hw6 := blk_cells HG.out hb4.out
              have g0 : W4.cell? ⟨w.heap.size + 1, 0, none⟩ = some (.int .i64 0) := by rw [cell_of_row _ _ 0 _ _ _ hw6]; rfl
              have g1 : W4.cell? ⟨w.heap.size + 1, 1, none⟩ = some (.int .i64 0) := by rw [cell_of_row _ _ 1 _ _ _ hw6]; rfl
              have f0 : W4.frozen? ⟨w.heap.size + 1, 0, none⟩ = false := frozen_of_row _ _ 0 _ _ hw6
              have f1 : W4.frozen? ⟨w.heap.size + 1, 1, none⟩ = false := frozen_of_row _ _ 1 _ _ hw6
              have HW6 := Lib.hid hw6
              have HO := Lib.hid ((HU.out.out hb4.out).setCell (p := ⟨w.heap.size + 1, 0, none⟩) (by show w.heap.size ≤ w.heap.size + 1; omega) (.int .i64 (kk : Int)) |>.setCell (p := ⟨w.heap.size + 1, 1, none⟩) (by show w.heap.size ≤ w.heap.size + 1; omega) (.int .i64 (j : Int)))
              clear hc hN hs hms hr hres hw6
              go_wp2_with fail
              refine ret_where (w3 := W4) (g := w.heap.size + 1) (a := kk) (b := j) (ev := true) rfl HW6.out rfl rfl rfl ⟨?_, HO.out⟩
              rw [← HRES.out]
              rfl
            · have hn2 : Hid (∀ i (hi : i < M.length), i < j + 1 → M[i].name ≠ s) := fun i hi h => by
                rcases Nat.lt_or_ge i j with h3 | h3
                · exact hn.out i hi h3
                · obtain rfl : i = j := by omega
                  exact hN ▸ hs
              have qs : (m.name.toList == s.toList) = false := str_ne hs
              clear hc hN hs hms
              go_wp2_with fail
              go_roundw
              case rel => exact ⟨j + 1, by omega, by go_num, hn2, hrow4, hb4⟩
              case measure => simp [intOf]; omega
          · have j1 : ¬ (j : Int) < (M.length : Int) := by omega
            have hr := ownT_none (L := M) (s := s) (fun i hi => hn.out i hi (by omega))
            have hres := HDR.out
            rw [hr, if_neg (by omega)] at hres
            have HRES := Lib.hid hres
            clear hr hres hms
            go_wp2_with fail
            go_roundw
            case rel => exact ⟨1, by omega, rfl, HRES, hrow4, hb4⟩
            case measure => simp [intOf]; omega
      · skip
        have hres := hdr.out
        rw [List.drop_of_length_le (by omega)] at hres
        have HRES := Lib.hid hres
        have hw6 := blk_cells HG.out hb3.out
        have g0 : wr.cell? ⟨w.heap.size + 1, 0, none⟩ = some (.int .i64 0) := by rw [cell_of_row _ _ 0 _ _ _ hw6]; rfl
        have g1 : wr.cell? ⟨w.heap.size + 1, 1, none⟩ = some (.int .i64 0) := by rw [cell_of_row _ _ 1 _ _ _ hw6]; rfl
        have f0 : wr.frozen? ⟨w.heap.size + 1, 0, none⟩ = false := frozen_of_row _ _ 0 _ _ hw6
        have f1 : wr.frozen? ⟨w.heap.size + 1, 1, none⟩ = false := frozen_of_row _ _ 1 _ _ hw6
        have HW6 := Lib.hid hw6
        have HO := Lib.hid ((HU.out.out hb3.out).setCell (p := ⟨w.heap.size + 1, 0, none⟩) (by show w.heap.size ≤ w.heap.size + 1; omega) (.int .i64 0) |>.setCell (p := ⟨w.heap.size + 1, 1, none⟩) (by show w.heap.size ≤ w.heap.size + 1; omega) (.int .i64 0))
        clear hw6 hres
        go_wp2_with fail
        refine ret_where (w3 := wr) (g := w.heap.size + 1) (a := 0) (b := 0) (ev := false) rfl HW6.out rfl rfl rfl ⟨?_, HO.out⟩
        rw [← HRES.out]
        rfl
end Go.Proofs.Ytoammjghgdgdiaa
