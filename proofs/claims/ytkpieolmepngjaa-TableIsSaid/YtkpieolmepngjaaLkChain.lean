/-
  lookup: a chain BY A CONTRACT.
-/
import Derived.Test.YtkpieolmepngjaaLkBase
namespace Go.Proofs.Ytkpieolmepngjaa
open Go Go.RowKit
set_option linter.unusedVariables false
set_option linter.unusedSimpArgs false

def lenOfV2 : Value → Nat | .slice _ n _ => n | _ => 0
/-- what is answered behind a walk: its order's row. -/
theorem WX.says {L : List DT} {A : Option Addr} {c p N : Nat} {W0 : World} {I0 : IX} {pw gw : Nat} {W : World} {I : IX} {A' : Option Addr} {c' : Nat} {out : List Int} (h : WX L A c p N W0.heap.size W0 I0 pw gw W I A' c' out) : XSays L A c p N W0 I0 out (.returned (.slice A' out.length c')) W :=
  ⟨A', c', I, rfl, h.wk.row, fun j h1 h2 => h.dis j h1 (.inr (.inr h2)), h.ix, h.fr⟩
set_option maxHeartbeats 2000000 in
set_option maxRecDepth 100000 in
theorem lkChain_any (L : List DT) (A : Option Addr) (c p N : Nat) (I : IX) (d0 : Int) (w : World) (h : XAt L A c p N w I) (hfit : Fit L) :
    Calls Try.prog 51 #[.pointer (some ⟨p, 0, none⟩), .int .i64 d0] w (XSays L A c p N w I (chainT L d0)) := by
  have hcl := hfit.cnt
  have KW : Hid (Calls Try.prog 66 #[.pointer (some ⟨p, 0, none⟩)] w fun e w' => ∃ pw gw, e = .returned (.pointer (some ⟨pw, 0, none⟩)) ∧ Hid (WX L A c p N w.heap.size w I pw gw w' I none 0 [])) := lkWalk_any L A c p N I w h hcl
  have KI : Hid (∀ W J d, Hid (XAt L A c p N W J) → Calls Try.prog 65 #[.pointer (some ⟨p, 0, none⟩), .int .i64 d, .int .i64 2] W fun e w' => e = .returned (.bool (isOfT L d 2)) ∧ Hid (Below W.heap.size W w')) := fun W J d hx => lkIsOf_any L A c p N J d 2 W hx.out
  have KB : Hid (∀ W J k, (hk : k < L.length) → Hid (XAt L A c p N W J) → Calls Try.prog 68 #[.pointer (some ⟨p, 0, none⟩), .int .i64 ((k : Nat) : Int)] W fun e w' => ∃ J', e = .returned (.int .i64 (findT L (baseT L k))) ∧ Hid (XAt L A c p N w' J') ∧ Hid (XTo p W J w' J')) := fun W J k hk hx => by
    rw [baseT_at hk]
    exact lkBase_any L A c p N k J W hx.out hfit hk
  have HC := Lib.hid hcl
  obtain ⟨r, hr0⟩ : ∃ r, r = chainT L d0 := ⟨_, rfl⟩
  rw [← hr0]
  have HR := Lib.hid hr0
  clear hr0 h hfit hcl
  go_enter Try.func51, Try.ntmps51
  go_wp2_with fail
  refine KW.out.mono ?_
  rintro e1 w2 ⟨pw, gw, rfl, hw0⟩
  clear KW
  go_wp2_with fail
  go_loopw [1] (fun dv wr => ∃ (f : Nat) (d : Int) (out : List Int) (J : IX) (A' : Option Addr) (c' : Nat), dv = .int .i64 d ∧ Hid (Met L out) ∧ Hid (out.length + f = L.length + 1) ∧ Hid (chainF L f out d = r) ∧ Hid (WX L A c p N w.heap.size w I pw gw wr J A' c' out)) (fun _ wr => L.length + 1 - lenOfV2 ((wr.cell? ⟨pw, 1, none⟩).getD undef))
  case atStart => exact ⟨L.length + 1, d0, [], I, none, 0, rfl, Met.nil L, by simp [Hid], HR.out.symm, hw0⟩
  case round =>
    obtain ⟨f, d, out, J, A', c', rfl, hm, hf, hc, hw⟩ := hrel
    obtain ⟨f1, hf1⟩ : ∃ g, f = g + 1 := ⟨f - 1, by have := hm.out.len; have := hf.out; omega⟩
    subst hf1
    have KI1 : Hid (Calls Try.prog 65 #[.pointer (some ⟨p, 0, none⟩), .int .i64 d, .int .i64 2] wr fun e w' => e = .returned (.bool (isOfT L d 2)) ∧ Hid (Below wr.heap.size wr w')) := KI.out wr J d hw.out.ix
    cases hk : isOfT L d 2
    · have he := chainF_end (L := L) (f := f1) (out := out) (d := d) (.inl hk)
      have hre := Lib.hid (he.symm.trans hc.out)
      rw [hk] at KI1
      clear he hk
      go_wp2_with fail
      refine KI1.out.mono ?_
      rintro e3 w3 ⟨rfl, hb3⟩
      have HW3 := Lib.hid (hw.out.quiet hb3.out)
      have o1 := HW3.out.order
      clear hb3
      go_wp2_with fail
      go_ret
      exact hre.out ▸ HW3.out.says
    · obtain ⟨k, hdk, hkl⟩ := isOfT_lt hk
      subst hdk
      have hol := hm.out.len
      have hcl := HC.out
      have KM : Hid (∀ W, Hid (WX L A c p N w.heap.size w I pw gw W J A' c' out) → Calls Try.prog 67 #[.pointer (some ⟨pw, 0, none⟩), .int .i64 (k : Int)] W fun e w' => e = .returned (.bool (!out.contains (k : Int))) ∧ ∃ A2 c2, Hid (WX L A c p N w.heap.size w I pw gw w' J A2 c2 (if out.contains (k : Int) then out else out ++ [(k : Int)]))) := fun W h => (lkMeet_any L A c p N _ w I J pw gw k A' c' out W h.out hkl hcl (by omega) (hm.out.i64 hcl)).mono fun e w' hh => by
        obtain ⟨h1, A2, c2, h2, -⟩ := hh
        exact ⟨h1, A2, c2, h2⟩
      rw [hk] at KI1
      have HK2 := Lib.hid hk
      clear hk
      obtain ⟨bb, hb0⟩ : ∃ x, x = out.contains (k : Int) := ⟨_, rfl⟩
      rw [← hb0] at KM
      have HB0 := Lib.hid hb0
      clear hb0
      go_wp2_with fail
      refine KI1.out.mono ?_
      rintro e3 w3 ⟨rfl, hb3⟩
      have HW3 := Lib.hid (hw.out.quiet hb3.out)
      have hw0 := Lib.hid hw.out.order
      clear hb3
      cases bb
      · go_wp2_with fail
        refine (KM.out _ HW3).mono ?_
        rintro e4 w4 ⟨rfl, A4, c4, hw4⟩
        have hw4 : Hid (WX L A c p N w.heap.size w I pw gw w4 J A4 c4 (out ++ [(k : Int)])) := hw4
        have hm4 : Hid (Met L (out ++ [(k : Int)])) := hm.out.snoc HK2.out HB0.out.symm
        have hc4 : Hid (chainF L f1 (out ++ [(k : Int)]) (findT L (baseT L k)) = r) := by rw [← chainF_go HK2.out HB0.out.symm]; exact hc
        have hf4 : Hid ((out ++ [(k : Int)]).length + f1 = L.length + 1) := by have := hf.out; unfold Hid; rw [List.length_append]; simp only [List.length_cons, List.length_nil]; omega
        have hl4 : Hid ((out ++ [(k : Int)]).length = out.length + 1) := by simp [Hid]
        obtain ⟨out4, ho4⟩ : ∃ o, o = out ++ [(k : Int)] := ⟨_, rfl⟩
        rw [← ho4] at hw4 hm4 hc4 hf4 hl4
        have KB2 := Lib.hid (KB.out w4 J k hkl hw4.out.ix)
        clear ho4
        go_wp2_with fail
        refine KB2.out.mono ?_
        rintro e5 w5 ⟨J5, rfl, hx5, ht5⟩
        have HW5 := Lib.hid (hw4.out.step hx5.out ht5.out)
        have HO5 := Lib.hid HW5.out.order
        clear hx5 ht5
        go_wp2_with fail
        go_roundw
        case rel => exact ⟨f1, _, out4, J5, A4, c4, rfl, hm4, hf4, hc4, HW5⟩
        case measure =>
          rw [hw0.out, HO5.out]
          have h1 := hf4.out
          have h2 := hl4.out
          simp only [Option.getD_some, lenOfV2]
          omega
      · have he := chainF_end (L := L) (f := f1) (out := out) (d := k) (.inr HB0.out.symm)
        have hre := Lib.hid (he.symm.trans hc.out)
        clear he
        go_wp2_with fail
        refine (KM.out _ HW3).mono ?_
        rintro e4 w4 ⟨rfl, A4, c4, hw4⟩
        have hw4 : Hid (WX L A c p N w.heap.size w I pw gw w4 J A4 c4 out) := hw4
        have o1 := hw4.out.order
        go_wp2_with fail
        go_ret
        exact hre.out ▸ hw4.out.says
end Go.Proofs.Ytkpieolmepngjaa
