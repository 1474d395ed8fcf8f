/-
  DiagChains, the walk: whatever the links and the code, true.
-/
import Derived.Test.YtljgjcnfcmbemaaDoorChained
namespace Go.Proofs.YtljgjcnfcmbemaaDoor
open Go.RowKit Go.Extern.Stop Go.Stop Go.Extern

theorem find_e (x : Int × Int) (r : List (Int × Int)) (v : Value) (B : Nat) (w : World) (hg : HasErrorType w) (h : EChn w B (x :: r) v) :
    Calls Tryd.prog 10 #[v] w fun e w' => e = .returned (.tuple #[.int .i64 x.1, .int .i64 x.2, .bool true]) ∧ Below w.heap.size w w' := by
  obtain ⟨b, u, h1, _, h3, _⟩ := h
  rcases h1 with rfl | rfl
  · exact find_err _ b x.1 x.2 u w (first_err ⟨b, 0, none⟩ w hg) h3
  · exact find_err _ b x.1 x.2 u w (first_other ⟨b, 0, none⟩ w hg) h3

theorem chains_edge (A : Option Addr) (n cap : Nat) (code : Int) (w : World) (hg : HasErrorType w) (hn : 20 < n ∨ n = 0) (hm : n ≤ maxLen) :
    Calls Tryd.prog 3 #[.slice A n cap, .int .i64 code] w fun e w' => e = .returned (.bool true) ∧ Below w.heap.size w w' := by
  unfold maxLen at hm
  have HG := Lib.hid hg
  have K := Lib.hid (chain_none .nilIface w (first_nil w))
  clear hg
  rcases hn with hn | hn
  all_goals
    (try subst hn)
    go_enter Tryd.func3, Tryd.ntmps3
    go_wp2_with fail
    refine K.out.mono ?_
    rintro e1 w1 ⟨rfl, hx⟩
    have KA := Lib.hid (awake_any w1 (HG.out.below hx (Nat.le_refl _)))
    have HX := Lib.hid hx
    clear hx
    go_wp2_with fail
    refine KA.out.mono ?_
    rintro e2 w2 ⟨rfl, hx⟩
    go_wp2_with fail
    go_ret
    exact ⟨rfl, HX.out.trans (hx.mono HX.out.size)⟩

/-- where the loop over the codes stands behind i of them. -/
def InOf (code : Int) (es : List (Int × Int)) (i : Nat) : Bool := (es.take i).any fun x => x.1 == code
theorem inOf_succ (code : Int) (es : List (Int × Int)) (i : Nat) (h : i < es.length) : InOf code es (i + 1) = (InOf code es i || es[i].1 == code) := by
  unfold InOf
  rw [List.take_succ_eq_append_getElem h, List.any_append]
  simp
theorem inOf_all (code : Int) (es : List (Int × Int)) : InOf code es es.length = es.any fun x => code == x.1 := by
  unfold InOf
  rw [List.take_length]
  rw [show (fun x : Int × Int => x.1 == code) = (fun x : Int × Int => code == x.1) from funext fun x => BEq.comm]

/-- errors.Is asked at what Of has just made: what was there in the world ahead of Of stays. -/
theorem is_made2 (bl : Bool) (k : Int) (q : Nat) (l : List (Option (Int × Int))) (v : Value) (w0 w w' : World) (hg : HasErrorType w0) (hc : Chn w0 w0.heap.size l v) (hne : l ≠ []) (hx : Below w0.heap.size w0 w) (hm : Made w w' q k (-1) .nilIface) (hbl : hasCode k l = bl) :
    Calls Tryd.prog 11 #[v, errv q] w' fun e w2 => e = .returned (.bool bl) ∧ Below w.heap.size w w2 := by
  have hy := hx.trans (hm.bel.mono hx.size)
  exact (isAny k q w0.heap.size l v w' (hg.below hy (Nat.le_refl _)) hm.err (Nat.le_trans hx.size hm.lo) (hc.below hy (Nat.le_refl _)) hne).mono fun _ _ ⟨he, hw⟩ => ⟨hbl ▸ he, hm.bel.trans (hw.mono hm.bel.size)⟩

set_option maxHeartbeats 8000000 in
set_option maxRecDepth 100000 in
theorem chains_any (L : List ((Int × Int) × Bool)) (b off cap : Nat) (code : Int) (w : World) (hg : HasErrorType w) (hL : LinksAt w b off L) (hn : L.length ≤ 20) (hp : 0 < L.length) :
    Calls Tryd.prog 3 #[.slice (some ⟨b, off, none⟩) L.length cap, .int .i64 code] w fun e w' => e = .returned (.bool true) ∧ Below w.heap.size w w' := by
  have HG := Lib.hid hg
  have KC := Lib.hid (chained_any L b off cap w hL hn hp)
  have d1 : decide ((20 : Int) < (L.length : Int)) = false := by simp; omega
  have d2 : ((L.length : Int) == 0) = false := by simp; intro e; rw [e] at hp; simp at hp
  clear hg hL
  go_enter Tryd.func3, Tryd.ntmps3
  go_wp2_with fail
  refine KC.out.mono ?_
  rintro e1 w1 ⟨ev, wv, rfl, hA⟩
  have hel : (upto L L.length).length = L.length := upto_length L _ (Nat.le_refl _)
  obtain ⟨es, hes⟩ : ∃ es, es = upto L L.length := ⟨_, rfl⟩
  have hC := hA.chn
  have hO := hA.own
  have HX1 := Lib.hid hA.bel
  rw [← hes] at hC hO hel
  clear hes hA KC
  have hne : es ≠ [] := fun e => by rw [e] at hel; simp at hel; omega
  have HG1 := Lib.hid (HG.out.below HX1.out (Nat.le_refl _))
  obtain ⟨m, hm, hmn, hmk⟩ := hC.chn
  have HM := Lib.hid (And.intro hm (And.intro (hmn hne) hmk))
  obtain ⟨t0, x0, hv0⟩ : ∃ t x, ev = Value.iface t x := by
    rcases hm.shape with ⟨h1, _⟩ | ⟨_, h2⟩
    · exact absurd h1 (hmn hne)
    · exact h2
  subst hv0
  obtain ⟨g, cw, hwv, -, hgl, hcells⟩ := hO.cells hne
  subst hwv
  have HO := Lib.hid hO
  have HCL := Lib.hid hcells
  have HC := Lib.hid hC
  have hel20 : es.length ≤ 20 := by omega
  have HEL := Lib.hid hel
  clear hm hmn hmk hO hC hcells hel
  obtain ⟨y, r, hyr⟩ : ∃ y r, es = y :: r := by
    cases es with
    | nil => exact absurd rfl hne
    | cons y r => exact ⟨y, r, rfl⟩
  have HYR := Lib.hid hyr
  have HNE := Lib.hid hne
  clear hne hyr
  have KF := Lib.hid (find_e y r _ w1.heap.size w1 HG1.out (HYR.out ▸ HC.out))
  go_wp2_with fail
  refine KF.out.mono ?_
  rintro e2 w2 ⟨rfl, hx⟩
  have HX2 := Lib.hid hx
  clear hx KF
  have KH := Lib.hid (chain_e es _ w2 (HG1.out.below HX2.out (Nat.le_refl _)) ((HC.out.below HX2.out (Nat.le_refl _)).grow HX2.out.size) (by omega))
  go_wp2_with fail
  refine KH.out.mono ?_
  rintro e3 w3 ⟨gv, rfl, hgo, hx⟩
  have HX3 := Lib.hid (HX2.out.trans (hx.mono HX2.out.size))
  have HGO := Lib.hid hgo
  have HS2 := Lib.hid hx.size
  clear hx hgo KH
  have hx0 := HX3.out.size
  go_wp2_with fail
  go_loopw [11, 12] (fun iv i wr => ∃ k : Nat, k ≤ es.length ∧ i = .int .i64 k ∧ Hid (iv = .bool (InOf code es k)) ∧ Hid (Below w3.heap.size w3 wr)) (fun _ i _ => es.length - (intOf i).toNat)
  case atStart => exact ⟨0, Nat.zero_le _, rfl, rfl, Below.refl _ _⟩
  case round =>
    obtain ⟨k, hk, rfl, hiv, hb⟩ := hrel
    have hi := hiv.out
    clear hiv
    by_cases hlt : k < es.length
    · have hz : (k : Int) < (es.length : Int) := by omega
      have hz0' : (0 : Int) ≤ (k : Int) := Int.natCast_nonneg _
      have HXr := Lib.hid (HX3.out.trans (hb.out.mono HX3.out.size))
      obtain ⟨q0, q1⟩ := HCL.out k hlt
      rw [← HXr.out.cell (p := ⟨g, k * 2, none⟩) hgl] at q0
      clear q1
      have hin := inOf_succ code es k hlt
      obtain ⟨c, hc⟩ : ∃ c, c = es[k].1 := ⟨_, rfl⟩
      rw [← hc] at q0 hin
      have hcode : hasCode c m = true := by
        rw [HM.out.2.2 c, List.any_eq_true]
        exact ⟨es[k], List.getElem_mem _, by rw [hc]; simp⟩
      have HIN := Lib.hid hin
      have HCODE := Lib.hid hcode
      clear hin hcode hc
      cases hI : InOf code es k with
      | true =>
        rw [hI] at hi
        subst hi
        have HI := Lib.hid hI
        clear hI
        go_wp2_with fail
        refine (of_made c wr).mono ?_
        rintro e4 w4 ⟨q, rfl, hm⟩
        have KI := Lib.hid (is_made2 true c q _ _ w1 wr w4 HG1.out HM.out.1 HM.out.2.1 HXr.out hm HCODE.out)
        clear hm
        go_wp2_with fail
        refine KI.out.mono ?_
        rintro e5 w5 ⟨rfl, hx5⟩
        have HX5 := Lib.hid (hb.out.trans (hx5.mono hb.out.size))
        clear hx5 KI
        go_wp2_with fail
        go_roundw
        case rel => exact ⟨k + 1, by omega, by go_num, by rw [HIN.out, HI.out]; rfl, HX5.out⟩
        case measure => simp [intOf]; omega
      | false =>
        rw [hI] at hi
        subst hi
        have HI := Lib.hid hI
        clear hI
        go_wp2_with fail
        refine (of_made c wr).mono ?_
        rintro e4 w4 ⟨q, rfl, hm⟩
        have KI := Lib.hid (is_made2 true c q _ _ w1 wr w4 HG1.out HM.out.1 HM.out.2.1 HXr.out hm HCODE.out)
        clear hm
        go_wp2_with fail
        refine KI.out.mono ?_
        rintro e5 w5 ⟨rfl, hx5⟩
        have HX5 := Lib.hid (hb.out.trans (hx5.mono hb.out.size))
        clear hx5 KI
        go_wp2_with fail
        go_roundw
        case rel => exact ⟨k + 1, by omega, by go_num, by rw [HIN.out, HI.out]; rfl, HX5.out⟩
        case measure => simp [intOf]; omega
    · have hkn : k = es.length := by omega
      subst hkn
      rw [inOf_all] at hi
      obtain ⟨bb, hbb⟩ : ∃ bb, bb = es.any fun x => code == x.1 := ⟨_, rfl⟩
      rw [← hbb] at hi
      have HBB : Hid (hasCode code m = bb) := (HM.out.2.2 code).trans hbb.symm
      clear hbb
      subst hi
      have HXr := Lib.hid (HX3.out.trans (hb.out.mono HX3.out.size))
      have hs3 := hb.out.size
      have HGOr := Lib.hid (HGO.out.below hb.out)
      have KS := Lib.hid (same_yes es _ _ _ _ wr HGOr.out (HO.out.below HXr.out) (by omega))
      clear hb
      go_wp2_with fail
      refine KS.out.mono ?_
      rintro e6 w6 ⟨rfl, hx6⟩
      have HX6 := Lib.hid (HXr.out.trans (hx6.mono HXr.out.size))
      have hs6 := hx6.size
      have hs2 := HS2.out
      have KO := Lib.hid (over_any es w2.heap.size gv w6 (HGOr.out.below hx6) (by omega) (by omega))
      clear hx6 KS
      go_wp2_with fail
      refine KO.out.mono ?_
      rintro e7 w7 ⟨rfl, hx7⟩
      have HX7 := Lib.hid (HX6.out.trans (hx7.mono HX2.out.size))
      clear hx7 KO
      have hlen : 0 < es.length := List.length_pos_iff.2 HNE.out
      obtain ⟨q0, q1⟩ := HCL.out 0 hlen
      rw [← HX7.out.cell (p := ⟨g, 0 * 2, none⟩) hgl] at q0
      rw [← HX7.out.cell (p := ⟨g, 0 * 2 + 1, none⟩) hgl] at q1
      have e0 : es[0] = y := by have := HYR.out; subst this; rfl
      rw [e0] at q0 q1
      clear e0
      simp only [Nat.zero_mul, Nat.zero_add] at q0 q1
      go_wp2_with fail
      refine (of_made code w7).mono ?_
      rintro e8 w8 ⟨q, rfl, hm⟩
      have KI := Lib.hid (is_made2 bb code q _ _ w1 w7 w8 HG1.out HM.out.1 HM.out.2.1 HX7.out hm HBB.out)
      clear hm q0 q1
      go_wp2_with fail
      refine KI.out.mono ?_
      rintro e9 w9 ⟨rfl, hx9⟩
      have HX9 := Lib.hid (HX7.out.trans (hx9.mono HX7.out.size))
      clear hx9 KI
      have KH := Lib.hid (chain_e es _ w9 (HG1.out.below HX9.out (Nat.le_refl _)) ((HC.out.below HX9.out (Nat.le_refl _)).grow HX9.out.size) (by omega))
      go_wp2_with fail
      refine KH.out.mono ?_
      rintro e10 w10 ⟨gv2, rfl, hgo, hx⟩
      have HX10 := Lib.hid (HX9.out.trans (hx.mono HX9.out.size))
      have KS := Lib.hid (same_yes es _ _ _ _ w10 hgo (HO.out.below HX10.out) (by omega))
      clear hx hgo KH
      go_wp2_with fail
      refine KS.out.mono ?_
      rintro e11 w11 ⟨rfl, hx11⟩
      have HX11 := Lib.hid (HX10.out.trans (hx11.mono HX10.out.size))
      clear hx11 KS
      have KA := Lib.hid (awake_any w11 (HG1.out.below HX11.out (Nat.le_refl _)))
      go_wp2_with fail
      refine KA.out.mono ?_
      rintro e12 w12 ⟨rfl, hx12⟩
      have HX12 := Lib.hid (HX11.out.trans (hx12.mono HX11.out.size))
      clear hx12 KA
      go_wp2_with fail
      go_ret
      exact ⟨rfl, HX1.out.trans (HX12.out.mono HX1.out.size)⟩
end Go.Proofs.YtljgjcnfcmbemaaDoor
