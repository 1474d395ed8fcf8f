/-
  lookup: a class's interfaces BY A CONTRACT.
-/
import Derived.Test.YtkpieolmepngjaaLkChain
namespace Go.Proofs.Ytkpieolmepngjaa
open Go Go.RowKit
set_option linter.unusedVariables false
set_option linter.unusedSimpArgs false

theorem faceStep_meet {L : List DT} {out : List Int} {s : ByteArray} (h : isOfT L (findT L s) 1 = true) : faceStep L out s = if out.contains (findT L s) then out else out ++ [findT L s] := by
  unfold faceStep
  rw [h, Bool.true_and]
  cases out.contains (findT L s) <;> rfl
theorem faceStep_no {L : List DT} {out : List Int} {s : ByteArray} (h : isOfT L (findT L s) 1 = false) : faceStep L out s = out := by
  unfold faceStep
  rw [h]
  rfl
/-- a declaration's cells, wherever the call goes on. -/
theorem declAll {w : World} {N : Nat} {A : Option Addr} {L : List DT} (h : DsR w N A L) {k : Nat} (hk : k < L.length) : ∃ (q o : Nat) (E1 : Option Addr) (e1 : Nat) (E2 : Option Addr) (e2 : Nat) (E3 : Option Addr) (e3 : Nat) (E4 : Option Addr) (e4 : Nat), A = some ⟨q, o, none⟩ ∧ q < N ∧ ∀ W, Below N w W →
    (XsR W N E1 L[k].faces ∧ VsR W N E2 L[k].vars ∧ MsR W N E3 L[k].methods ∧ SsR W N E4 L[k].body ∧ I64 L[k].every ∧ I64 L[k].first) ∧
    W.cell? ⟨q, o + k * 11, none⟩ = some (.int .i64 L[k].kind) ∧ W.cell? ⟨q, o + k * 11 + 1, none⟩ = some (.string L[k].name) ∧ W.cell? ⟨q, o + k * 11 + 2, none⟩ = some (.string L[k].base) ∧ W.cell? ⟨q, o + k * 11 + 3, none⟩ = some (.slice E1 L[k].faces.length e1) ∧
    W.cell? ⟨q, o + k * 11 + 4, none⟩ = some (.bool L[k].abstract) ∧ W.cell? ⟨q, o + k * 11 + 5, none⟩ = some (.bool L[k].final) ∧ W.cell? ⟨q, o + k * 11 + 6, none⟩ = some (.slice E2 L[k].vars.length e2) ∧ W.cell? ⟨q, o + k * 11 + 7, none⟩ = some (.slice E3 L[k].methods.length e3) ∧
    W.cell? ⟨q, o + k * 11 + 8, none⟩ = some (.slice E4 L[k].body.length e4) ∧ W.cell? ⟨q, o + k * 11 + 9, none⟩ = some (.int .i64 L[k].every) ∧ W.cell? ⟨q, o + k * 11 + 10, none⟩ = some (.int .i64 L[k].first) := by
  obtain ⟨q, o, cs, hA, hq, _, hcs, he⟩ := h k hk
  obtain ⟨E1, e1, E2, e2, E3, e3, E4, e4, rfl, hv1, hv2, r1, r2, r3, r4⟩ := he
  refine ⟨q, o, E1, e1, E2, e2, E3, e3, E4, e4, hA, hq, fun W hW => ?_⟩
  have hk2 : ∀ g, g < N → W.heap[g]? = w.heap[g]? := fun g hg => hW.block g hg
  have hc : ∀ (j : Nat) u, [Value.int .i64 L[k].kind, .string L[k].name, .string L[k].base, .slice E1 L[k].faces.length e1, .bool L[k].abstract, .bool L[k].final, .slice E2 L[k].vars.length e2, .slice E3 L[k].methods.length e3, .slice E4 L[k].body.length e4, .int .i64 L[k].every, .int .i64 L[k].first][j]? = some u → W.cell? ⟨q, o + k * 11 + j, none⟩ = some u := fun j u hj => (World.cell?_of_block (hk2 q hq)).trans (hcs j u hj)
  refine ⟨⟨r1.mono (Nat.le_refl _) hk2, r2.mono (Nat.le_refl _) hk2, r3.mono (Nat.le_refl _) hk2, r4.mono (Nat.le_refl _) hk2, hv1, hv2⟩, ?_⟩
  exact ⟨hc 0 _ rfl, hc 1 _ rfl, hc 2 _ rfl, hc 3 _ rfl, hc 4 _ rfl, hc 5 _ rfl, hc 6 _ rfl, hc 7 _ rfl, hc 8 _ rfl, hc 9 _ rfl, hc 10 _ rfl⟩
/-- an index, a walk, a row of the call's own, side by side. -/
structure FX (L : List DT) (A : Option Addr) (c p N S : Nat) (W0 : World) (I0 : IX) (pw gw B : Nat) (A1 : Option Addr) (c1 : Nat) (C : List Int) (W : World) (I : IX) (A' : Option Addr) (c' : Nat) (out : List Int) : Prop where
  wx : WX L A c p N S W0 I0 pw gw W I A' c' out
  row : IRow B W A1 c1 C
  ni : ∀ j, I.has p j → (Value.slice A1 C.length c1).ownBlock ≠ some j
  nk : ∀ j, KS pw gw A' out c' j → (Value.slice A1 C.length c1).ownBlock ≠ some j
theorem FX.quiet {L : List DT} {A : Option Addr} {c p N S : Nat} {W0 : World} {I0 : IX} {pw gw B : Nat} {A1 : Option Addr} {c1 : Nat} {C : List Int} {W W' : World} {I : IX} {A' : Option Addr} {c' : Nat} {out : List Int} (h : FX L A c p N S W0 I0 pw gw B A1 c1 C W I A' c' out) (k : Below W.heap.size W W') : FX L A c p N S W0 I0 pw gw B A1 c1 C W' I A' c' out := ⟨h.wx.quiet k, h.row.below k, h.ni, h.nk⟩
theorem FX.step {L : List DT} {A : Option Addr} {c p N S : Nat} {W0 : World} {I0 : IX} {pw gw B : Nat} {A1 : Option Addr} {c1 : Nat} {C : List Int} {W W' : World} {I I' : IX} {A' : Option Addr} {c' : Nat} {out : List Int} (h : FX L A c p N S W0 I0 pw gw B A1 c1 C W I A' c' out) (hx : XAt L A c p N W' I') (k : XTo p W I W' I') : FX L A c p N S W0 I0 pw gw B A1 c1 C W' I' A' c' out :=
  ⟨h.wx.step hx k, (h.row.ix h.ni k).1, (h.row.ix h.ni k).2, h.nk⟩
theorem FX.meet {L : List DT} {A : Option Addr} {c p N S : Nat} {W0 : World} {I0 : IX} {pw gw B : Nat} {A1 : Option Addr} {c1 : Nat} {C : List Int} {W W' : World} {I : IX} {A' A2 : Option Addr} {c' c2 : Nat} {out out2 : List Int} (h : FX L A c p N S W0 I0 pw gw B A1 c1 C W I A' c' out) (hw : WX L A c p N S W0 I0 pw gw W' I A2 c2 out2) (k : KFr pw gw A' c' out W A2 c2 out2 W') : FX L A c p N S W0 I0 pw gw B A1 c1 C W' I A2 c2 out2 := by
  refine ⟨hw, h.row.stay fun j hj => k.block j (h.row.own_lt hj).2 fun h1 => h.nk j h1 hj, h.ni, fun j h1 h2 => ?_⟩
  rcases k.later j h1 with h3 | h3
  · exact h.nk j h3 h2
  · have := (h.row.own_lt h2).2
    omega
theorem FX.below {L : List DT} {A : Option Addr} {c p N S : Nat} {W0 : World} {I0 : IX} {pw gw B : Nat} {A1 : Option Addr} {c1 : Nat} {C : List Int} {W : World} {I : IX} {A' : Option Addr} {c' : Nat} {out : List Int} (h : FX L A c p N S W0 I0 pw gw B A1 c1 C W I A' c' out) (h0 : XAt L A c p N W0 I0) : Below N W0 W := h.wx.fr.toBelow h0 h.wx.le
theorem FX.at_ {L : List DT} {A : Option Addr} {c p N S : Nat} {W0 : World} {I0 : IX} {pw gw B : Nat} {A1 : Option Addr} {c1 : Nat} {C : List Int} {W : World} {I : IX} {A' : Option Addr} {c' : Nat} {out : List Int} (h : FX L A c p N S W0 I0 pw gw B A1 c1 C W I A' c' out) {i gl : Nat} (hi : i < C.length) (e : A1 = some ⟨gl, 0, none⟩) : W.cell? ⟨gl, i, none⟩ = some (.int .i64 C[i]) := by
  subst e
  have h9 := h.row.at_ hi
  rw [Nat.zero_add] at h9
  exact h9
set_option maxHeartbeats 4000000 in
set_option maxRecDepth 100000 in
theorem lkFaces_any (L : List DT) (A : Option Addr) (c p N : Nat) (I : IX) (d0 : Int) (w : World) (h : XAt L A c p N w I) (hfit : Fit L) :
    Calls Try.prog 52 #[.pointer (some ⟨p, 0, none⟩), .int .i64 d0] w (XSays L A c p N w I (facesT L d0)) := by
  have hcl0 := hfit.cnt
  have hfew := hfit.len
  have HFIT := Lib.hid hfit
  have HX := Lib.hid h
  have KW : Hid (Calls Try.prog 66 #[.pointer (some ⟨p, 0, none⟩)] w fun e w' => ∃ pw gw, e = .returned (.pointer (some ⟨pw, 0, none⟩)) ∧ Hid (WX L A c p N w.heap.size w I pw gw w' I none 0 [])) := lkWalk_any L A c p N I w h hcl0
  have KC : Hid (∀ W J d, Hid (XAt L A c p N W J) → Calls Try.prog 51 #[.pointer (some ⟨p, 0, none⟩), .int .i64 d] W (XSays L A c p N W J (chainT L d))) := fun W J d hx => lkChain_any L A c p N J d W hx.out hfit
  have KI : Hid (∀ W J d, Hid (XAt L A c p N W J) → Calls Try.prog 65 #[.pointer (some ⟨p, 0, none⟩), .int .i64 d, .int .i64 1] W fun e w' => e = .returned (.bool (isOfT L d 1)) ∧ Hid (Below W.heap.size W w')) := fun W J d hx => lkIsOf_any L A c p N J d 1 W hx.out
  have KF : Hid (∀ W J s, Hid (XAt L A c p N W J) → Calls Try.prog 69 #[.pointer (some ⟨p, 0, none⟩), .string s] W fun e w' => e = .returned (.int .i64 (findT L s)) ∧ Hid (XAt L A c p N w' J) ∧ Hid (XTo p W J w' J)) := fun W J s hx => lkFind_few L A c p N J s W hx.out hcl0 hfew
  obtain ⟨r, hr0⟩ : ∃ r, r = facesT L d0 := ⟨_, rfl⟩
  rw [← hr0]
  have HR := Lib.hid hr0
  have HDA := Lib.hid (fun k (hk : k < L.length) => declAll h.row hk)
  clear hr0 h hfit hfew
  go_enter Try.func52, Try.ntmps52
  go_wp2_with fail
  refine KW.out.mono ?_
  rintro e1 w2 ⟨pw, gw, rfl, hw0⟩
  clear KW
  go_wp2_with fail
  refine (KC.out w2 I d0 hw0.out.ix).mono ?_
  rintro e3 w3 ⟨A1, c1, I3, rfl, hrow1, hno1, hx3, ht3⟩
  have hmet := chainT_met L d0
  have hin : ∀ x ∈ chainT L d0, ∃ k : Nat, x = k ∧ k < L.length := fun x hx => by
    have := hmet.2 x hx
    exact ⟨x.toNat, by omega, by omega⟩
  have hr2 : facesF L [] (chainT L d0) = r := HR.out.symm
  have hml := hmet.len
  obtain ⟨C, hC⟩ : ∃ C, C = chainT L d0 := ⟨_, rfl⟩
  rw [← hC] at hr2 hin hml hrow1 hno1
  have hfx : Hid (FX L A c p N w.heap.size w I pw gw w2.heap.size A1 c1 C w3 I3 none 0 []) := ⟨hw0.out.step hx3.out ht3.out, hrow1.out, hno1.out, fun j h1 h2 => by
    have := (hrow1.out.own_lt h2).1
    have := (hw0.out.wk.far j h1).2
    omega⟩
  have HA1 := Lib.hid (fun (h : 0 < C.length) => hrow1.out.isBlock h)
  have HR1 := Lib.hid hr2
  have HIN := Lib.hid hin
  rw [← hC]
  clear hr2 hin hC hrow1 hno1 hmet hw0 hx3 ht3 KC
  go_wp2_with fail
  go_loopw [17] (fun iv wr => ∃ (i : Nat) (out : List Int) (J : IX) (A' : Option Addr) (c' : Nat), i ≤ C.length ∧ iv = .int .i64 i ∧ Hid (Met L out) ∧ Hid (facesF L out (C.drop i) = r) ∧ Hid (FX L A c p N w.heap.size w I pw gw w2.heap.size A1 c1 C wr J A' c' out)) (fun i _ => C.length - (intOf i).toNat)
  case atStart => exact ⟨0, [], I3, none, 0, Nat.zero_le _, rfl, Met.nil L, HR1, hfx⟩
  case round =>
    obtain ⟨i, out, J, A', c', hi, rfl, hm, hdr, hw2⟩ := hrel
    have h2 : (0 : Int) ≤ (i : Int) := by omega
    by_cases hlt : i < C.length
    · have h1 : (i : Int) < (C.length : Int) := by omega
      have hdrop := hdr.out
      rw [facesF_drop hlt] at hdrop
      obtain ⟨kk, hkk, hkl⟩ := HIN.out _ (List.getElem_mem hlt)
      obtain ⟨q, o, E1, e1, E2, e2, E3, e3, E4, e4, hA, hg, hY⟩ := HDA.out kk hkl
      obtain ⟨gl, hAl⟩ := HA1.out (by omega)
      have z := hw2.out.at_ hlt hAl
      rw [hkk] at z
      have hbel := hw2.out.below HX.out
      obtain ⟨-, -, -, -, x3, -⟩ := hY _ hbel
      have y0 := hw2.out.wx.ix.c0
      subst hA hAl
      have q1 : (kk : Int) < (L.length : Int) := by omega
      have q2 : (0 : Int) ≤ (kk : Int) := by omega
      obtain ⟨F, hF⟩ : ∃ F, F = L[kk].faces := ⟨_, rfl⟩
      have hfo : facesOf L C[i] = F := by rw [hkk]; unfold facesOf; rw [Int.toNat_natCast, List.getElem?_eq_getElem hkl, hF]; rfl
      have hfl : F.length ≤ 1000000000 := hF ▸ HFIT.out.faces _ (List.getElem_mem _)
      rw [hfo] at hdrop
      have hXS : ∀ W, Below N w W → XsR W N E1 F := fun W h => hF ▸ (hY W h).1.1
      rw [← hF] at x3
      have HXS := Lib.hid hXS
      have HDR := Lib.hid hdrop
      clear hdrop hY hF hfo hXS hkk hbel
      go_wp2_with fail
      clear z x3 y0
      go_loopw [30] (fun jv w4 => ∃ (j : Nat) (out4 : List Int) (J4 : IX) (A4 : Option Addr) (c4 : Nat), j ≤ F.length ∧ jv = .int .i64 j ∧ Hid (Met L out4) ∧ Hid (facesF L ((F.drop j).foldl (faceStep L) out4) (C.drop (i + 1)) = r) ∧ Hid (FX L (some ⟨q, o, none⟩) c p N w.heap.size w I pw gw w2.heap.size (some ⟨gl, 0, none⟩) c1 C w4 J4 A4 c4 out4)) (fun j _ => F.length - (intOf j).toNat)
      case atStart => exact ⟨0, out, J, A', c', Nat.zero_le _, rfl, hm, HDR, hw2⟩
      case round =>
        obtain ⟨j, out4, J4, A4, c4, hj, rfl, hm4, hdr4, hw4⟩ := hrel
        obtain ⟨W4, hW4⟩ : ∃ W4 : World, W4 = wr := ⟨_, rfl⟩
        subst hW4
        have h3 : (0 : Int) ≤ (j : Int) := by omega
        by_cases hjl : j < F.length
        · have h4 : (j : Int) < (F.length : Int) := by omega
          have hdrop := hdr4.out
          rw [fold_drop hjl] at hdrop
          obtain ⟨gf, off, csf, hE, hgf, -, hcf, hef⟩ := HXS.out _ (hw4.out.below HX.out) j hjl
          subst hE
          obtain ⟨s, hs⟩ : ∃ s, s = F[j] := ⟨_, rfl⟩
          rw [← hs] at hef hdrop
          have hef' : csf = [.string s] := hef
          subst hef'
          have x := hcf 0 _ rfl
          simp only [Nat.mul_one, Nat.add_zero] at x
          have hyes := @faceStep_meet L out4 s
          have hno := @faceStep_no L out4 s
          have hni := findT_le L s
          have KF2 := KF.out W4 J4 s hw4.out.wx.ix
          obtain ⟨n, hn⟩ : ∃ n, n = findT L s := ⟨_, rfl⟩
          rw [← hn] at KF2 hyes hno hni
          have KF3 := Lib.hid KF2
          have HDR4 := Lib.hid hdrop
          have HYES := Lib.hid hyes
          have HNO := Lib.hid hno
          have HNI := Lib.hid hni
          clear hcf hef hs hdrop hn hyes hno hni KF2
          go_wp2_with fail
          refine KF3.out.mono ?_
          rintro e5 w5 ⟨rfl, hx5, ht5⟩
          have HW5 := Lib.hid (hw4.out.step hx5.out ht5.out)
          have KI5 := KI.out w5 J4 n hx5
          clear x KF3
          cases hk : isOfT L n 1
          · rw [hk] at KI5
            have KI6 := Lib.hid KI5
            have hd5 := HDR4.out
            rw [HNO.out hk] at hd5
            have HD5 := Lib.hid hd5
            clear KI5 hk hd5
            go_wp2_with fail
            refine KI6.out.mono ?_
            rintro e6 w6 ⟨rfl, hb6⟩
            have HW6 := Lib.hid (HW5.out.quiet hb6.out)
            clear hb6
            go_wp2_with fail
            go_roundw
            case rel => exact ⟨j + 1, out4, J4, A4, c4, by omega, by go_num, hm4, HD5, HW6⟩
            case measure => simp [intOf]; omega
          · rw [hk] at KI5
            have KI6 := Lib.hid KI5
            have hd5 := HDR4.out
            rw [HYES.out hk] at hd5
            obtain ⟨nn, hnn, hnl⟩ := isOfT_lt hk
            have hol := hm4.out.len
            have KM : Hid (∀ W, Hid (WX L (some ⟨q, o, none⟩) c p N w.heap.size w I pw gw W J4 A4 c4 out4) → Calls Try.prog 67 #[.pointer (some ⟨pw, 0, none⟩), .int .i64 n] W fun e w' => e = .returned (.bool (!out4.contains n)) ∧ ∃ A2 c2, Hid (WX L (some ⟨q, o, none⟩) c p N w.heap.size w I pw gw w' J4 A2 c2 (if out4.contains n then out4 else out4 ++ [n])) ∧ Hid (KFr pw gw A4 c4 out4 W A2 c2 (if out4.contains n then out4 else out4 ++ [n]) w')) := fun W h => hnn ▸ lkMeet_any L _ c p N _ w I J4 pw gw nn A4 c4 out4 W h.out hnl hcl0 (by omega) (hm4.out.i64 hcl0)
            have hm5 : Hid (Met L (if out4.contains n then out4 else out4 ++ [n])) := by
              cases hcn : out4.contains n
              · exact hm4.out.snoc hk hcn
              · exact hm4
            obtain ⟨out5, ho5⟩ : ∃ o, o = (if out4.contains n then out4 else out4 ++ [n]) := ⟨_, rfl⟩
            obtain ⟨bb, hbb⟩ : ∃ x, x = (!out4.contains n) := ⟨_, rfl⟩
            rw [← ho5] at KM hm5 hd5
            rw [← hbb] at KM
            have HD5 := Lib.hid hd5
            clear KI5 hk hd5 hnn ho5 hbb hol
            go_wp2_with fail
            refine KI6.out.mono ?_
            rintro e6 w6 ⟨rfl, hb6⟩
            have HW6 := Lib.hid (HW5.out.quiet hb6.out)
            clear hb6
            go_wp2_with fail
            refine (KM.out _ HW6.out.wx).mono ?_
            rintro e7 w7 ⟨rfl, A7, c7, hw7, hk7⟩
            have HW7 := Lib.hid (HW6.out.meet hw7.out hk7.out)
            go_wp2_with fail
            go_roundw
            case rel => exact ⟨j + 1, out5, J4, A7, c7, by omega, by go_num, hm5, HD5, HW7⟩
            case measure => simp [intOf]; omega
        · have h4 : ¬ (j : Int) < (F.length : Int) := by omega
          have hdr5 := hdr4.out
          rw [List.drop_of_length_le (i := j) (l := F) (by omega)] at hdr5
          have HD5 := Lib.hid hdr5
          clear hdr5
          go_wp2_with fail
          go_roundw
          case rel => exact ⟨i + 1, out4, J4, A4, c4, by omega, by go_num, hm4, HD5, hw4⟩
          case measure => simp [intOf]; omega
    · have h1 : ¬ (i : Int) < (C.length : Int) := by omega
      have hres := hdr.out
      rw [List.drop_of_length_le (by omega)] at hres
      have HRES := Lib.hid hres
      have o1 := hw2.out.wx.order
      clear hres
      go_wp2_with fail
      go_ret
      have e : out = r := HRES.out
      exact e ▸ hw2.out.wx.says
end Go.Proofs.Ytkpieolmepngjaa
