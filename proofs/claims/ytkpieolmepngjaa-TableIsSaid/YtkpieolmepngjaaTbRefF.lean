/-
  governorref6.Faces BY A CONTRACT.
-/
import Derived.Test.YtkpieolmepngjaaTbRefM
namespace Go.Proofs.Ytkpieolmepngjaa
open Go Go.RowKit
set_option linter.unusedVariables false
set_option linter.unusedSimpArgs false

/-- the interfaces of these classes, those ahead given. -/
def facesF (L : List DT) (out : List Int) (cs : List Int) : List Int := cs.foldl (fun out c => (facesOf L c).foldl (faceStep L) out) out
theorem facesF_drop {L : List DT} {out C : List Int} {i : Nat} (hi : i < C.length) : facesF L out (C.drop i) = facesF L ((facesOf L C[i]).foldl (faceStep L) out) (C.drop (i + 1)) := by
  rw [List.drop_eq_getElem_cons hi]
  rfl
theorem fold_drop {L : List DT} {out : List Int} {F : List ByteArray} {k : Nat} (hk : k < F.length) : (F.drop k).foldl (faceStep L) out = (F.drop (k + 1)).foldl (faceStep L) (faceStep L out F[k]) := by
  rw [List.drop_eq_getElem_cons hk]
  rfl
theorem faceStep_met {L : List DT} {out : List Int} {s : ByteArray} (h : Met L out) : Met L (faceStep L out s) := by
  unfold faceStep
  split
  · rename_i hh
    simp only [Bool.and_eq_true, Bool.not_eq_eq_eq_not, Bool.not_true] at hh
    exact h.snoc hh.1 hh.2
  · exact h

theorem facesF_met {L : List DT} : ∀ (cs out : List Int), Met L out → Met L (facesF L out cs)
  | [], _, h => h
  | x :: r, out, h => by
    have h2 : ∀ (F : List ByteArray) (o : List Int), Met L o → Met L (F.foldl (faceStep L) o) := by
      intro F
      induction F with
      | nil => exact fun o h => h
      | cons s F ih => exact fun o h => ih _ (faceStep_met h)
    exact facesF_met r _ (h2 _ _ h)
theorem facesT_met (L : List DT) (d : Int) : Met L (facesT L d) := facesF_met _ _ (Met.nil L)
set_option maxHeartbeats 4000000 in
set_option maxRecDepth 100000 in
theorem refFaces_any (L : List DT) (A : Option Addr) (c : Nat) (d0 : Int) (w : World) (ha : DsR w w.heap.size A L) (hcnt : L.length ≤ 1000000000) (hfs : ∀ d ∈ L, d.faces.length ≤ 1000000000) :
    Calls Try.prog 24 #[.agg #[.slice A L.length c], .int .i64 d0] w (ISays w (facesT L d0)) := by
  obtain ⟨R0, hR0⟩ : ∃ R0 : World, R0 = w.alloc (.cells #[.slice A L.length c] 24) := ⟨_, rfl⟩
  have hu : UAt w R0 A c L := hR0 ▸ UAt.of ha
  have HU := Lib.hid hu
  have HR0 := Lib.hid hR0
  have HS := Lib.hid hu.size
  have HFS := Lib.hid hfs
  obtain ⟨i0, hi0, hz0, hz1, hz2⟩ := info_parts Try.infoInt
  have KC : Hid (∀ W d, Hid (Below R0.heap.size R0 W) → Calls Try.prog 23 #[.agg #[.slice A L.length c], .int .i64 d] W fun e w' => ∃ A' c', e = .returned (.slice A' (chainT L d).length c') ∧ Hid (IRow R0.heap.size w' A' c' (chainT L d)) ∧ Hid (Below R0.heap.size R0 w')) := fun W d hb => (refChain_any L A c d W (hu.rowAt hb) hcnt).mono fun e w' hh => by
    obtain ⟨A', c', h1, h2, h3⟩ := hh
    exact ⟨A', c', h1, ⟨ownsRow_lower hb.out.size h2.1, h2.2⟩, hb.out.trans (h3.mono hb.out.size)⟩
  have HC := Lib.hid hcnt
  have KK0 : Hid (∀ w1 W d, Below R0.heap.size R0 w1 → Hid (Below w1.heap.size w1 W) → Calls Try.prog 49 #[.agg #[.slice A L.length c], .int .i64 d] W fun e w' => e = .returned (.int .i64 (kindT L d)) ∧ Hid (Below w1.heap.size w1 w') ∧ Hid (Below W.heap.size W w')) := fun w1 W d h1 hb => (refKind_any L A c d W (hu.rowAt (h1.trans (hb.out.mono h1.size)))).mono fun e w' hh => ⟨hh.1, hb.out.trans (hh.2.mono hb.out.size), hh.2⟩
  have KF0 : Hid (∀ w1 W s, Below R0.heap.size R0 w1 → Hid (Below w1.heap.size w1 W) → Calls Try.prog 21 #[.agg #[.slice A L.length c], .string s] W fun e w' => e = .returned (.int .i64 (findT L s)) ∧ Hid (Below w1.heap.size w1 w') ∧ Hid (Below W.heap.size W w')) := fun w1 W s h1 hb => (refFind_any L A c s W (hu.rowAt (h1.trans (hb.out.mono h1.size))) hcnt).mono fun e w' hh => ⟨hh.1, hb.out.trans (hh.2.mono hb.out.size), hh.2⟩
  obtain ⟨r, hr0⟩ : ∃ r, r = facesT L d0 := ⟨_, rfl⟩
  rw [← hr0]
  have HR := Lib.hid hr0
  clear hr0 ha hu hR0 hcnt hfs
  unfold ISays
  go_enter Try.func24, Try.ntmps24
  have y0 := HU.out.cell _ (Below.refl _ _)
  have HB0 : Hid (Below R0.heap.size R0 R0) := Below.refl _ _
  rw [HR0.out] at y0
  go_wp2_with fail
  rw [← HR0.out] at y0 ⊢
  refine (KC.out _ _ HB0).mono ?_
  rintro e1 w1 ⟨A1, c1, rfl, hrow1, hb1⟩
  clear y0
  have hin : ∀ x ∈ chainT L d0, ∃ k : Nat, x = k ∧ k < L.length := fun x hx => by
    have := (chainT_met L d0).2 x hx
    exact ⟨x.toNat, by omega, by omega⟩
  have hr2 : facesF L [] (chainT L d0) = r := HR.out.symm
  have hmet := (chainT_met L d0).len
  have hcl0 := HC.out
  obtain ⟨C, hC⟩ : ∃ C, C = chainT L d0 := ⟨_, rfl⟩
  rw [← hC] at hr2 hin hmet hrow1
  have HR1 := Lib.hid hr2
  have HIN := Lib.hid hin
  rw [← hC]
  have HT : Hid (∀ W, Hid (Below w1.heap.size w1 W) → Below R0.heap.size R0 W) := fun W h => hb1.out.trans (h.out.mono hb1.out.size)
  have KK : Hid (∀ W d, Hid (Below w1.heap.size w1 W) → Calls Try.prog 49 #[.agg #[.slice A L.length c], .int .i64 d] W fun e w' => e = .returned (.int .i64 (kindT L d)) ∧ Hid (Below w1.heap.size w1 w') ∧ Hid (Below W.heap.size W w')) := fun W d => KK0.out w1 W d hb1.out
  have KF : Hid (∀ W s, Hid (Below w1.heap.size w1 W) → Calls Try.prog 21 #[.agg #[.slice A L.length c], .string s] W fun e w' => e = .returned (.int .i64 (findT L s)) ∧ Hid (Below w1.heap.size w1 w') ∧ Hid (Below W.heap.size W w')) := fun W s => KF0.out w1 W s hb1.out
  have HBW : Hid (Below w1.heap.size w1 w1) := Below.refl _ _
  clear hr2 hin hC KC KK0 KF0 HB0
  go_wp2_with fail
  go_loopw [5, 7] (fun ov iv wr => ∃ (i : Nat) (out : List Int) (A2 : Option Addr) (c2 : Nat), i ≤ C.length ∧ ov = .slice A2 out.length c2 ∧ iv = .int .i64 i ∧ Hid (Met L out) ∧ Hid (facesF L out (C.drop i) = r) ∧ Hid (IRow w1.heap.size wr A2 c2 out) ∧ Hid (Below w1.heap.size w1 wr)) (fun _ i _ => C.length - (intOf i).toNat)
  case atStart => exact ⟨0, [], none, 0, Nat.zero_le _, rfl, rfl, Met.nil L, HR1, IRow.nil _ _, HBW⟩
  case round =>
    obtain ⟨i, out, A2, c2, hi, rfl, rfl, hm, hdr, hrow2, hb2⟩ := hrel
    have h2 : (0 : Int) ≤ (i : Int) := by omega
    by_cases hlt : i < C.length
    · have h1 : (i : Int) < (C.length : Int) := by omega
      have hdrop := hdr.out
      rw [facesF_drop hlt] at hdrop
      obtain ⟨kk, hkk, hkl⟩ := HIN.out _ (List.getElem_mem hlt)
      obtain ⟨q, o, E1, e1, E2, e2, E3, e3, E4, e4, hA, hg, hY⟩ := HU.out.decl hkl
      obtain ⟨gl, hAl⟩ := hrow1.out.isBlock (by omega)
      subst hA hAl
      have hz : ∀ W, Hid (Below w1.heap.size w1 W) → W.cell? ⟨gl, i, none⟩ = some (.int .i64 (kk : Int)) := fun W h => by
        have h9 := (hrow1.out.below h.out).at_ hlt
        rw [Nat.zero_add, hkk] at h9
        exact h9
      have z := hz _ hb2
      obtain ⟨hfr, -, -, -, x3, -⟩ := hY _ (HT.out _ hb2)
      have y0 := HU.out.cell _ (HT.out _ hb2)
      have q1 : (kk : Int) < (L.length : Int) := by omega
      have q2 : (0 : Int) ≤ (kk : Int) := by omega
      obtain ⟨F, hF⟩ : ∃ F, F = L[kk].faces := ⟨_, rfl⟩
      have hfo : facesOf L C[i] = F := by rw [hkk]; unfold facesOf; rw [Int.toNat_natCast, List.getElem?_eq_getElem hkl, hF]; rfl
      have hfl : F.length ≤ 1000000000 := hF ▸ HFS.out _ (List.getElem_mem _)
      rw [hfo] at hdrop
      have hXS : ∀ W, Hid (Below w1.heap.size w1 W) → XsR W w.heap.size E1 F := fun W h => hF ▸ (hY W (HT.out _ h)).1.1
      rw [← hF] at x3
      have HXS := Lib.hid hXS
      have HDR := Lib.hid hdrop
      clear hdrop hz hY hfr hF hfo hXS hkk
      go_wp2_with fail
      go_region
      go_wp2_with fail
      have HBI : Hid (Below w1.heap.size w1 wr.drew) := Below.drew hb2
      have HRI : Hid (IRow w1.heap.size wr.drew A2 c2 out) := hrow2
      generalize hWI : wr.drew = wi at HBI HRI ⊢
      clear hWI hb2 hrow2 z x3 y0
      go_loopw [5, 9] (fun ov jv w4 => ∃ (j : Nat) (out4 : List Int) (A4 : Option Addr) (c4 : Nat), j ≤ F.length ∧ ov = .slice A4 out4.length c4 ∧ jv = .int .i64 j ∧ Hid (Met L out4) ∧ Hid (facesF L ((F.drop j).foldl (faceStep L) out4) (C.drop (i + 1)) = r) ∧ Hid (IRow w1.heap.size w4 A4 c4 out4) ∧ Hid (Below w1.heap.size w1 w4)) (fun _ j _ => F.length - (intOf j).toNat)
      case atStart => exact ⟨0, out, A2, c2, Nat.zero_le _, rfl, rfl, hm, HDR, HRI, HBI⟩
      case round =>
        obtain ⟨j, out4, A4, c4, hj, rfl, rfl, hm4, hdr4, hrow4, hb4⟩ := hrel
        obtain ⟨W4, hW4⟩ : ∃ W4 : World, W4 = wr := ⟨_, rfl⟩
        subst hW4
        have h3 : (0 : Int) ≤ (j : Int) := by omega
        by_cases hjl : j < F.length
        · have h4 : (j : Int) < (F.length : Int) := by omega
          have hdrop := hdr4.out
          rw [fold_drop hjl] at hdrop
          obtain ⟨gf, off, csf, hE, hgf, -, hcf, hef⟩ := HXS.out _ hb4 j hjl
          subst hE
          obtain ⟨s, hs⟩ : ∃ s, s = F[j] := ⟨_, rfl⟩
          rw [← hs] at hef hdrop
          have hef' : csf = [.string s] := hef
          subst hef'
          have x := hcf 0 _ rfl
          simp only [Nat.mul_one, Nat.add_zero] at x
          have y0 := HU.out.cell _ (HT.out _ hb4)
          have KF2 : Hid (∀ W, Hid (Below w1.heap.size w1 W) → Hid (IRow w1.heap.size W A4 c4 out4) → Calls Try.prog 21 #[.agg #[.slice (some ⟨q, o, none⟩) L.length c], .string s] W fun e w' => e = .returned (.int .i64 (findT L s)) ∧ Hid (Below w1.heap.size w1 w') ∧ Hid (IRow w1.heap.size w' A4 c4 out4) ∧ w'.cell? ⟨w.heap.size, 0, none⟩ = some (.slice (some ⟨q, o, none⟩) L.length c) ∧ w'.cell? ⟨gf, off + j, none⟩ = some (.string s)) := fun W k1 k2 => (KF.out W s k1).mono fun e w' hh => by
            refine ⟨hh.1, hh.2.1, k2.out.below hh.2.2.out, HU.out.cell _ (HT.out _ hh.2.1), ?_⟩
            exact ((HU.out.out (HT.out _ hh.2.1)).cell (p := ⟨gf, off + j, none⟩) hgf).trans (((HU.out.out (HT.out _ hb4)).cell (p := ⟨gf, off + j, none⟩) hgf).symm.trans x)
          have HFS1 : Hid (faceStep L out4 s = if isOfT L (findT L s) 1 && !out4.contains (findT L s) then out4 ++ [findT L s] else out4) := rfl
          obtain ⟨n, hn⟩ : ∃ n, n = findT L s := ⟨_, rfl⟩
          have hni : I64 n := by have := findT_le L s; have := HC.out; unfold I64; omega
          rw [← hn] at KF2 HFS1
          have HDR4 := Lib.hid hdrop
          have HNI := Lib.hid hni
          clear hcf hef hs hdrop hn hni
          go_wp2_with fail
          go_region_held3 (fun w' => w'.cell? ⟨w.heap.size, 0, none⟩ = some (.slice (some ⟨q, o, none⟩) L.length c) ∧ w'.cell? ⟨gf, off + j, none⟩ = some (.string s) ∧ Hid (Below w1.heap.size w1 w') ∧ Hid (IRow w1.heap.size w' A4 c4 out4))
            (first | exact ⟨y0, x, hb4, hrow4⟩ | exact ⟨y0, x, Below.drew hb4, hrow4⟩ | exact ⟨z0, z1, HB6, HL6⟩)
            (first | (go_at_call 21; refine (KF2.out _ (by first | exact Below.drew hb4 | exact hb4) (by exact hrow4)).mono ?_; rintro e6 w6 ⟨rfl, HB6, HL6, z0, z1⟩))
          all_goals
            clear y0 x z1
            have KH : Hid (∀ W, Hid (IRow w1.heap.size W A4 c4 out4) → Calls Try.prog 55 #[.slice A4 out4.length c4, .int .i64 n] W fun e w' => e = .returned (.bool (out4.contains n)) ∧ w' = W) := fun W hr => refHas_any out4 A4 c4 n W hr.out.nsr (by have := hm4.out.len; have := HC.out; omega)
            obtain ⟨b, hb0⟩ : ∃ b, b = out4.contains n := ⟨_, rfl⟩
            rw [← hb0] at KH HFS1
            have HB0 := Lib.hid hb0
            clear hb0
            by_cases hk : kindT L n = 1
            · have hk2 : isOfT L n 1 = true := by rw [kindT_isOf _ _ _ (by decide), hk]; rfl
              rw [hk2] at HFS1
              have HK2 := Lib.hid hk2
              clear hk2
              go_wp2_with fail
              refine (KK.out _ _ HB6).mono ?_
              rintro e7 w7 ⟨rfl, HB7, hl7⟩
              have HL7 : Hid (IRow w1.heap.size w7 A4 c4 out4) := HL6.out.below hl7.out
              clear HB6 HL6 z0 hl7
              go_wp2_with fail
              refine (KH.out _ HL7).mono ?_
              rintro e8 w8 ⟨rfl, rfl⟩
              cases b
              · have hfs : faceStep L out4 s = out4 ++ [n] := HFS1.out
                have hdr5 := HDR4.out
                rw [hfs] at hdr5
                have HD5 := Lib.hid hdr5
                have hm5 : Hid (Met L (out4 ++ [n])) := hm4.out.snoc HK2.out HB0.out.symm
                have hs8 := HB7.out.size
                have hol := hm4.out.len
                have hcl := HC.out
                clear hfs hdr5
                go_wp2_with (at_builtin; refine wpList_append_own _ rfl _ _ 32 rfl w1.heap.size 3 i0 (.int .i64 0) 1 8 Try.underlying32 hi0 hz0 hz1 hz2 rfl (by decide) _ _ _ rfl (HL7.out.1.alloc _) ⟨w8.heap.size, 0, none⟩ 1 1 [.int .i64 n] rfl rfl (cell_one_new _ _ _) (by simp [Value.oneCell']) (by unfold maxLen; omega) (by omega) (by simp; omega) ?_)
                intro v2 w9 hown3 hgrow3 _
                obtain ⟨A5, c5, rfl, hrow5, hb5'⟩ := HL7.out.snoc HNI.out hs8 hown3 hgrow3
                have HR5 := Lib.hid hrow5
                have HB5 : Hid (Below w1.heap.size w1 w9) := HB7.out.trans hb5'
                obtain ⟨out5, ho5⟩ : ∃ o, o = out4 ++ [n] := ⟨_, rfl⟩
                rw [← ho5] at HR5 HD5 hm5 ⊢
                clear hown3 hgrow3 hrow5 hb5' ho5
                go_wp2_with fail
                go_roundw
                case rel => exact ⟨j + 1, out5, A5, c5, by omega, rfl, by go_num, hm5, HD5, HR5, HB5⟩
                case measure => simp [intOf]; omega
              · have hfs : faceStep L out4 s = out4 := HFS1.out
                have hdr5 := HDR4.out
                rw [hfs] at hdr5
                have HD5 := Lib.hid hdr5
                clear hfs hdr5
                go_wp2_with fail
                go_roundw
                case rel => exact ⟨j + 1, out4, A4, c4, by omega, rfl, by go_num, hm4, HD5, HL7, HB7⟩
                case measure => simp [intOf]; omega
            · have hk2 : isOfT L n 1 = false := by rw [kindT_isOf _ _ _ (by decide)]; simp [hk]
              rw [hk2] at HFS1
              have hfs : faceStep L out4 s = out4 := HFS1.out
              have hdr5 := HDR4.out
              rw [hfs] at hdr5
              have HD5 := Lib.hid hdr5
              clear hfs hdr5 hk2
              go_wp2_with fail
              refine (KK.out _ _ HB6).mono ?_
              rintro e7 w7 ⟨rfl, HB7, hl7⟩
              have HL7 : Hid (IRow w1.heap.size w7 A4 c4 out4) := HL6.out.below hl7.out
              clear HB6 HL6 z0 hl7
              go_wp2_with fail
              go_roundw
              case rel => exact ⟨j + 1, out4, A4, c4, by omega, rfl, by go_num, hm4, HD5, HL7, HB7⟩
              case measure => simp [intOf]; omega
        · have h4 : ¬ (j : Int) < (F.length : Int) := by omega
          have hdr5 := hdr4.out
          rw [List.drop_of_length_le (i := j) (l := F) (by omega)] at hdr5
          have HD5 := Lib.hid hdr5
          clear hdr5
          go_wp2_with fail
          go_roundw
          case rel => exact ⟨i + 1, out4, A4, c4, by omega, rfl, by go_num, hm4, HD5, hrow4, hb4⟩
          case measure => simp [intOf]; omega
    · have h1 : ¬ (i : Int) < (C.length : Int) := by omega
      have hres := hdr.out
      rw [List.drop_of_length_le (by omega)] at hres
      have HRES := Lib.hid hres
      clear hres
      go_wp2_with fail
      go_ret
      have e : out = r := HRES.out
      exact ⟨A2, c2, by rw [← e]; rfl, e ▸ ⟨ownsRow_lower (Nat.le_trans HU.out.below.size hb1.out.size) hrow2.out.1, hrow2.out.2⟩, HU.out.out (HT.out _ hb2)⟩
end Go.Proofs.Ytkpieolmepngjaa
