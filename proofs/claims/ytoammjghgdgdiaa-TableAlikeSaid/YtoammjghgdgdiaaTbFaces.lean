/-
  table.Faces BY A CONTRACT.
-/
import Derived.Test.YtoammjghgdgdiaaTbTab
namespace Go.Proofs.Ytoammjghgdgdiaa
open Go Go.RowKit
set_option linter.unusedVariables false
set_option linter.unusedSimpArgs false

theorem faceStep_meet {L : List DT} {out : List Int} {s : ByteArray} (h : isOfT L (findT L s) 1 = true) : faceStep L out s = if out.contains (findT L s) then out else out ++ [findT L s] := by
  unfold faceStep
  rw [h, Bool.true_and]
  cases out.contains (findT L s) <;> rfl
theorem faceStep_no {L : List DT} {out : List Int} {s : ByteArray} (h : isOfT L (findT L s) 1 = false) : faceStep L out s = out := by
  unfold faceStep
  rw [h]
  rfl
set_option maxHeartbeats 4000000 in
set_option maxRecDepth 100000 in
theorem Faces_any (L : List DT) (A : Option Addr) (c : Nat) (d0 : Int) (w : World) (ha : DsR w w.heap.size A L) (hfit : Fit L) :
    Calls Try.prog 14 #[.agg #[.slice A L.length c], .int .i64 d0] w (ISays w (facesT L d0)) := by
  obtain ⟨R0, hR0⟩ : ∃ R0 : World, R0 = w.alloc (.cells #[.slice A L.length c] 24) := ⟨_, rfl⟩
  have hu : UAt w R0 A c L := hR0 ▸ UAt.of ha
  have HU := Lib.hid hu
  have HR0 := Lib.hid hR0
  have HFIT := Lib.hid hfit
  have KF : Hid (Calls Try.prog 38 #[.agg #[.slice A L.length c]] R0 (FSays L R0)) := finder_any L A c R0 (hu.rowAt (Below.refl _ _)) hfit.cnt hfit.names
  have KN : Hid (∀ W, Calls Try.prog 39 #[.agg #[.slice A L.length c]] W fun e w' => ∃ p g, e = .returned (.pointer (some ⟨p, 0, none⟩)) ∧ Hid (WNew w' p g L.length ∧ W.heap.size ≤ p ∧ W.heap.size ≤ g ∧ Below W.heap.size W w')) := fun W => newWalk_any A L.length c W hfit.cnt
  have KC : Hid (∀ W fn b, Hid (fn = 47 ∨ fn = 49) → Hid (IsFinder fn b L W) → Hid (Below R0.heap.size R0 W) → Calls Try.prog 37 #[.agg #[.slice A L.length c], .int .i64 d0, .func (.func fn) #[] #[.pointer (some ⟨b, 0, none⟩)]] W (ISays W (chainT L d0))) := fun W fn b h1 h2 hb => chain_any L A c d0 fn b W (hu.rowAt hb) hfit.cnt hfit.bases h2.out h1.out
  have KI : Hid (∀ W d q, Hid (Below R0.heap.size R0 W) → Calls Try.prog 34 #[.agg #[.slice A L.length c], .int .i64 d, .int .i64 q] W fun e w' => e = .returned (.bool (isOfT L d q)) ∧ Hid (Below W.heap.size W w')) := fun W d q hb => isOf_any L A c d q W (hu.rowAt hb)
  have y0 := hu.cell _ (Below.refl _ _)
  obtain ⟨r, hr0⟩ : ∃ r, r = facesT L d0 := ⟨_, rfl⟩
  rw [← hr0]
  have HR := Lib.hid hr0
  clear hr0 ha hu hfit hR0
  unfold ISays
  rw [HR0.out] at y0
  go_enter Try.func14, Try.ntmps14
  go_wp2_with fail
  rw [← HR0.out] at y0 ⊢
  refine KF.out.mono ?_
  rintro e1 w1 ⟨fn, b, rfl, hfn, hfi, hb1⟩
  clear y0
  have y0 := HU.out.cell _ hb1.out
  go_wp2_with fail
  refine (KN.out w1).mono ?_
  rintro e2 w2 ⟨p, g, rfl, hN⟩
  have HB2 : Hid (Below R0.heap.size R0 w2) := hb1.out.trans (hN.out.2.2.2.mono hb1.out.size)
  have HFI2 := Lib.hid (hfi.out.later hN.out.2.2.2)
  clear y0
  have y0 := HU.out.cell _ HB2.out
  go_wp2_with fail
  refine (KC.out w2 fn b hfn HFI2 HB2).mono ?_
  rintro e3 w3 ⟨A1, c1, rfl, hrow1, hb3⟩
  have HW0 := Lib.hid (hN.out.1.below hb3).start
  have HB3 : Hid (Below R0.heap.size R0 w3) := HB2.out.trans (hb3.mono HB2.out.size)
  have HFI3 := Lib.hid (HFI2.out.later hb3)
  have hs12 := hN.out.2.2.2.size
  have hs01 := hb1.out.size
  obtain ⟨S, hS⟩ : ∃ S, S = w3.heap.size := ⟨_, rfl⟩
  rw [← hS] at HW0
  have hS2 : w2.heap.size ≤ S := by rw [hS]; exact hb3.size
  have hp2 := hN.out.1.lp
  have hg2 := hN.out.1.lg
  have hp1 := hN.out.2.1
  have hg1 := hN.out.2.2.1
  have HT : Hid (∀ W, Hid (Keep S p g w3 W) → Hid (Below R0.heap.size R0 W)) := fun W h => HB3.out.trans (h.out.below (by omega) (by omega) (by omega))
  have HFK : Hid (∀ W s, s.size ≤ 1000000000 → Hid (Keep S p g w3 W) → Calls Try.prog fn #[.string s, .pointer (some ⟨b, 0, none⟩)] W fun e w' => e = .returned (.int .i64 (findT L s)) ∧ Hid (Below W.heap.size W w')) := fun W s hs h => by
    have h12 : Below w1.heap.size w1 w3 := hN.out.2.2.2.trans (hb3.mono hs12)
    exact hfi.out W s hs (h12.trans (h.out.below (by omega) (by omega) (by omega)))
  have hmet := chainT_met L d0
  have hin : ∀ x ∈ chainT L d0, ∃ k : Nat, x = k ∧ k < L.length := fun x hx => by
    have := hmet.2 x hx
    exact ⟨x.toNat, by omega, by omega⟩
  have hr2 : facesF L [] (chainT L d0) = r := HR.out.symm
  have hml := hmet.len
  obtain ⟨C, hC⟩ : ∃ C, C = chainT L d0 := ⟨_, rfl⟩
  rw [← hC] at hr2 hin hml hrow1
  have HCR : Hid (∀ W, Hid (Keep S p g w3 W) → ∀ i (hi : i < C.length) gl, A1 = some ⟨gl, 0, none⟩ → W.cell? ⟨gl, i, none⟩ = some (.int .i64 C[i])) := fun W h i hi gl e => by
    subst e
    have h9 := hrow1.at_ hi
    rw [Nat.zero_add] at h9
    have hlo : w2.heap.size ≤ gl := (hrow1.1.lt gl rfl).1
    have hhi : gl < S := by rw [hS]; exact (hrow1.1.lt gl rfl).2
    exact (World.cell?_of_block (h.out.block gl hhi (by omega) (by omega))).trans h9
  have HA1 := Lib.hid (fun (h : 0 < C.length) => hrow1.isBlock h)
  have HR1 := Lib.hid hr2
  have HIN := Lib.hid hin
  have hcl0 := HFIT.out.cnt
  have HWS : Hid (w.heap.size ≤ S) := by have := HU.out.below.size; unfold Hid; omega
  have HUO : Hid (∀ W, Hid (Below R0.heap.size R0 W) → Below w.heap.size w W) := fun W h => HU.out.out h.out
  rw [← hC]
  clear hr2 hin hC hrow1 hmet hN hb1 hfi HFI2 HFI3 hb3 hS hS2 hp2 hg2 hp1 hg1 hs12 hs01 y0 HB2 HB3 KC KF KN
  rcases hfn.out with rfl | rfl
  all_goals
    go_wp2_with fail
    go_loopw [21] (fun iv wr => ∃ (i : Nat) (out : List Int), i ≤ C.length ∧ iv = .int .i64 i ∧ Hid (Met L out) ∧ Hid (facesF L out (C.drop i) = r) ∧ Hid (WAt S wr p g L.length out) ∧ Hid (Keep S p g w3 wr)) (fun i _ => C.length - (intOf i).toNat)
    case atStart => exact ⟨0, [], Nat.zero_le _, rfl, Met.nil L, HR1, HW0, Keep.refl _ _ _ _⟩
    case round =>
      obtain ⟨i, out, hi, rfl, hm, hdr, hw2, hk2⟩ := hrel
      have h2 : (0 : Int) ≤ (i : Int) := by omega
      by_cases hlt : i < C.length
      · have h1 : (i : Int) < (C.length : Int) := by omega
        have hdrop := hdr.out
        rw [facesF_drop hlt] at hdrop
        obtain ⟨kk, hkk, hkl⟩ := HIN.out _ (List.getElem_mem hlt)
        obtain ⟨q, o, E1, e1, E2, e2, E3, e3, E4, e4, hA, hg, hY⟩ := HU.out.decl hkl
        obtain ⟨gl, hAl⟩ := HA1.out (by omega)
        have z := HCR.out _ hk2 i hlt gl hAl
        rw [hkk] at z
        subst hA hAl
        obtain ⟨-, -, -, -, x3, -⟩ := hY _ (HT.out _ hk2).out
        have y0 := HU.out.cell _ (HT.out _ hk2).out
        have q1 : (kk : Int) < (L.length : Int) := by omega
        have q2 : (0 : Int) ≤ (kk : Int) := by omega
        obtain ⟨F, hF⟩ : ∃ F, F = L[kk].faces := ⟨_, rfl⟩
        have hfo : facesOf L C[i] = F := by rw [hkk]; unfold facesOf; rw [Int.toNat_natCast, List.getElem?_eq_getElem hkl, hF]; rfl
        have hfl : F.length ≤ 1000000000 := hF ▸ HFIT.out.faces _ (List.getElem_mem _)
        have HFN : Hid (∀ f ∈ F, f.size ≤ 1000000000) := hF ▸ HFIT.out.fnames _ (List.getElem_mem _)
        rw [hfo] at hdrop
        have hXS : ∀ W, Hid (Keep S p g w3 W) → XsR W w.heap.size E1 F := fun W h => hF ▸ (hY W (HT.out _ h).out).1.1
        rw [← hF] at x3
        have HXS := Lib.hid hXS
        have HDR := Lib.hid hdrop
        clear hdrop hY hF hfo hXS hkk
        go_wp2_with fail
        clear z x3 y0
        go_loopw [32] (fun jv w4 => ∃ (j : Nat) (out4 : List Int), j ≤ F.length ∧ jv = .int .i64 j ∧ Hid (Met L out4) ∧ Hid (facesF L ((F.drop j).foldl (faceStep L) out4) (C.drop (i + 1)) = r) ∧ Hid (WAt S w4 p g L.length out4) ∧ Hid (Keep S p g w3 w4)) (fun j _ => F.length - (intOf j).toNat)
        case atStart => exact ⟨0, out, Nat.zero_le _, rfl, hm, HDR, hw2, hk2⟩
        case round =>
          obtain ⟨j, out4, hj, rfl, hm4, hdr4, hw4, hk4⟩ := hrel
          obtain ⟨W4, hW4⟩ : ∃ W4 : World, W4 = wr := ⟨_, rfl⟩
          subst hW4
          have h3 : (0 : Int) ≤ (j : Int) := by omega
          by_cases hjl : j < F.length
          · have h4 : (j : Int) < (F.length : Int) := by omega
            have hdrop := hdr4.out
            rw [fold_drop hjl] at hdrop
            obtain ⟨gf, off, csf, hE, hgf, -, hcf, hef⟩ := HXS.out _ hk4 j hjl
            subst hE
            have hss := HFN.out _ (List.getElem_mem hjl)
            obtain ⟨s, hs⟩ : ∃ s, s = F[j] := ⟨_, rfl⟩
            rw [← hs] at hef hdrop hss
            have hef' : csf = [.string s] := hef
            subst hef'
            have x := hcf 0 _ rfl
            simp only [Nat.mul_one, Nat.add_zero] at x
            have hyes := @faceStep_meet L out4 s
            have hno := @faceStep_no L out4 s
            have hni := findT_le L s
            have KF2 : Hid (Calls Try.prog _ #[.string s, .pointer (some ⟨b, 0, none⟩)] W4 fun e w' => e = .returned (.int .i64 (findT L s)) ∧ Hid (Below W4.heap.size W4 w')) := HFK.out W4 s hss hk4
            obtain ⟨n, hn⟩ : ∃ n, n = findT L s := ⟨_, rfl⟩
            rw [← hn] at KF2 hyes hno hni
            have HDR4 := Lib.hid hdrop
            have HYES := Lib.hid hyes
            have HNO := Lib.hid hno
            have HNI := Lib.hid hni
            clear hcf hef hs hdrop hn hyes hno hni hss
            go_wp2_with fail
            refine KF2.out.mono ?_
            rintro e5 w5 ⟨rfl, hb5⟩
            have HW5 := Lib.hid (hw4.out.below hb5.out)
            have HK5 := Lib.hid (hk4.out.trans (Keep.of_below (hb5.out.mono hw4.out.le)))
            have y0 := HU.out.cell _ (HT.out _ HK5).out
            have KI5 := KI.out w5 n 1 (HT.out _ HK5)
            clear x hb5 KF2
            cases hk : isOfT L n 1
            · rw [hk] at KI5
              have KI6 := Lib.hid KI5
              have hd5 := HDR4.out
              rw [HNO.out hk] at hd5
              have HD5 := Lib.hid hd5
              clear KI5 hk hd5
              go_wp2_with fail
              refine KI6.out.mono ?_
              rintro e6 w6 ⟨rfl, hb6⟩
              have HW6 := Lib.hid (HW5.out.below hb6.out)
              have HK6 := Lib.hid (HK5.out.trans (Keep.of_below (hb6.out.mono HW5.out.le)))
              clear y0 hb6
              go_wp2_with fail
              go_roundw
              case rel => exact ⟨j + 1, out4, by omega, by go_num, hm4, HD5, HW6, HK6⟩
              case measure => simp [intOf]; omega
            · rw [hk] at KI5
              have KI6 := Lib.hid KI5
              have hd5 := HDR4.out
              rw [HYES.out hk] at hd5
              obtain ⟨nn, hnn, hnl⟩ := isOfT_lt hk
              have hol := hm4.out.len
              have KM : Hid (∀ W, Hid (WAt S W p g L.length out4) → Calls Try.prog 40 #[.pointer (some ⟨p, 0, none⟩), .int .i64 n] W fun e w' => e = .returned (.bool (!out4.contains n)) ∧ Hid (WAt S w' p g L.length (if out4.contains n then out4 else out4 ++ [n])) ∧ Hid (Keep S p g W w')) := fun W h => hnn ▸ meet_any S p g L.length nn out4 W h.out hnl hcl0 (by omega) (hm4.out.i64 hcl0)
              have hm5 : Hid (Met L (if out4.contains n then out4 else out4 ++ [n])) := by
                cases hcn : out4.contains n
                · exact hm4.out.snoc hk hcn
                · exact hm4
              obtain ⟨out5, ho5⟩ : ∃ o, o = (if out4.contains n then out4 else out4 ++ [n]) := ⟨_, rfl⟩
              obtain ⟨bb, hbb⟩ : ∃ x, x = (!out4.contains n) := ⟨_, rfl⟩
              rw [← ho5] at KM hm5 hd5
              rw [← hbb] at KM
              have HD5 := Lib.hid hd5
              clear KI5 hk hd5 hnn ho5 hbb hol
              go_wp2_with fail
              refine KI6.out.mono ?_
              rintro e6 w6 ⟨rfl, hb6⟩
              have HW6 := Lib.hid (HW5.out.below hb6.out)
              have HK6 := Lib.hid (HK5.out.trans (Keep.of_below (hb6.out.mono HW5.out.le)))
              clear y0 hb6
              go_wp2_with fail
              refine (KM.out _ HW6).mono ?_
              rintro e7 w7 ⟨rfl, hw7, hk7⟩
              have HK7 := Lib.hid (HK6.out.trans hk7.out)
              go_wp2_with fail
              go_roundw
              case rel => exact ⟨j + 1, out5, by omega, by go_num, hm5, HD5, hw7, HK7⟩
              case measure => simp [intOf]; omega
          · have h4 : ¬ (j : Int) < (F.length : Int) := by omega
            have hdr5 := hdr4.out
            rw [List.drop_of_length_le (i := j) (l := F) (by omega)] at hdr5
            have HD5 := Lib.hid hdr5
            clear hdr5
            go_wp2_with fail
            go_roundw
            case rel => exact ⟨i + 1, out4, by omega, by go_num, hm4, HD5, hw4, hk4⟩
            case measure => simp [intOf]; omega
      · have h1 : ¬ (i : Int) < (C.length : Int) := by omega
        have hres := hdr.out
        rw [List.drop_of_length_le (by omega)] at hres
        have HRES := Lib.hid hres
        obtain ⟨A5, c5, o5, hrow⟩ := hw2.out.order
        have HROW := Lib.hid hrow
        clear hres hrow
        go_wp2_with fail
        go_ret
        have e : out = r := HRES.out
        exact ⟨A5, c5, by rw [← e]; rfl, e ▸ ⟨ownsRow_lower HWS.out HROW.out.1, HROW.out.2⟩, HUO.out _ (HT.out _ hk2)⟩
end Go.Proofs.Ytoammjghgdgdiaa
