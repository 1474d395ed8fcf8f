/-
  table.chain BY A CONTRACT.
-/
import Derived.Test.YtoammjghgdgdiaaTbFind
namespace Go.Proofs.Ytoammjghgdgdiaa
open Go Go.RowKit
set_option linter.unusedVariables false
set_option linter.unusedSimpArgs false

theorem WAt.order {S p g n : Nat} {w : World} {out : List Int} (h : WAt S w p g n out) : ∃ A c, w.cell? ⟨p, 1, none⟩ = some (.slice A out.length c) ∧ IRow S w A c out := by
  obtain ⟨A, c, h1, h2⟩ := h.at_
  exact ⟨A, c, by rw [cell_of_row _ _ 1 _ _ _ h1]; rfl, h2⟩
set_option maxHeartbeats 2000000 in
set_option maxRecDepth 100000 in
theorem chain_any (L : List DT) (A : Option Addr) (c : Nat) (d0 : Int) (fn b : Nat) (w : World) (ha : DsR w w.heap.size A L) (hcnt : L.length ≤ 1000000000) (hbs : ∀ d ∈ L, d.base.size ≤ 1000000000) (hf : IsFinder fn b L w) (hfn : fn = 47 ∨ fn = 49) :
    Calls Try.prog 37 #[.agg #[.slice A L.length c], .int .i64 d0, .func (.func fn) #[] #[.pointer (some ⟨b, 0, none⟩)]] w (ISays w (chainT L d0)) := by
  obtain ⟨R0, hR0⟩ : ∃ R0 : World, R0 = w.alloc (.cells #[.slice A L.length c] 24) := ⟨_, rfl⟩
  have hu : UAt w R0 A c L := hR0 ▸ UAt.of ha
  have HU := Lib.hid hu
  have HR0 := Lib.hid hR0
  have KN : Hid (Calls Try.prog 39 #[.agg #[.slice A L.length c]] R0 fun e w' => ∃ p g, e = .returned (.pointer (some ⟨p, 0, none⟩)) ∧ WNew w' p g L.length ∧ R0.heap.size ≤ p ∧ R0.heap.size ≤ g ∧ Below R0.heap.size R0 w') := newWalk_any A L.length c R0 hcnt
  have KI : Hid (∀ W d q, Hid (Below R0.heap.size R0 W) → Calls Try.prog 34 #[.agg #[.slice A L.length c], .int .i64 d, .int .i64 q] W fun e w' => e = .returned (.bool (isOfT L d q)) ∧ Below W.heap.size W w') := fun W d q hb => isOf_any L A c d q W (hu.rowAt hb)
  have KF : Hid (∀ W s, s.size ≤ 1000000000 → Hid (Below R0.heap.size R0 W) → Calls Try.prog fn #[.string s, .pointer (some ⟨b, 0, none⟩)] W fun e w' => e = .returned (.int .i64 (findT L s)) ∧ Below W.heap.size W w') := fun W s hs hb => hf W s hs (hu.out hb)
  have HBS := Lib.hid hbs
  have HC := Lib.hid hcnt
  obtain ⟨r, hr0⟩ : ∃ r, r = chainT L d0 := ⟨_, rfl⟩
  rw [← hr0]
  have HR := Lib.hid hr0
  have y0 := hu.cell _ (Below.refl _ _)
  clear hr0 ha hu hcnt hf hbs
  unfold ISays
  rw [hR0] at y0
  rcases hfn with rfl | rfl
  all_goals
    go_enter Try.func37, Try.ntmps37
    go_wp2_with fail
    rw [← hR0] at y0 ⊢
    refine KN.out.mono ?_
    rintro e1 w2 ⟨p, g, rfl, hwn, hp, hg, hb2⟩
    have HW0 := Lib.hid hwn.start
    have HB2 := Lib.hid hb2
    obtain ⟨S, hS⟩ : ∃ S, S = w2.heap.size := ⟨_, rfl⟩
    rw [← hS] at HW0
    have hS2 : R0.heap.size ≤ S := by rw [hS]; exact hb2.size
    have HT : Hid (∀ W, Hid (Keep S p g w2 W) → Hid (Below R0.heap.size R0 W)) := fun W h => hb2.trans (h.out.below hS2 hp hg)
    have HU2 := Lib.hid (Nat.le_trans HU.out.below.size hS2)
    have HUO : Hid (∀ W, Hid (Below R0.heap.size R0 W) → Below w.heap.size w W) := fun W h => HU.out.out h
    clear hwn hb2 y0 hR0 hS hS2 hp hg KN
    go_wp2_with fail
    go_loopw [1] (fun dv wr => ∃ (f : Nat) (d : Int) (out : List Int), dv = .int .i64 d ∧ Hid (Met L out) ∧ Hid (out.length + f = L.length + 1) ∧ Hid (chainF L f out d = r) ∧ Hid (WAt S wr p g L.length out) ∧ Hid (Keep S p g w2 wr)) (fun _ wr => L.length + 1 - lenOfV ((wr.cell? ⟨p, 1, none⟩).getD undef))
    case atStart => exact ⟨L.length + 1, d0, [], rfl, Met.nil L, by simp [Hid], HR.out.symm, HW0, Keep.refl _ _ _ _⟩
    case round =>
      obtain ⟨f, d, out, rfl, hm, hf, hc, hw, hkp⟩ := hrel
      have hb := HT.out _ hkp
      have y0 := HU.out.cell _ hb.out
      obtain ⟨f1, hf1⟩ : ∃ g, f = g + 1 := ⟨f - 1, by have := hm.out.len; have := hf.out; omega⟩
      subst hf1
      have KI1 : Hid (Calls Try.prog 34 #[.agg #[.slice A L.length c], .int .i64 d, .int .i64 2] wr fun e w' => e = .returned (.bool (isOfT L d 2)) ∧ Below wr.heap.size wr w') := KI.out wr d 2 hb
      cases hk : isOfT L d 2
      · have he := chainF_end (L := L) (f := f1) (out := out) (d := d) (.inl hk)
        have hre := Lib.hid (he.symm.trans hc.out)
        rw [hk] at KI1
        clear he hk
        go_wp2_with fail
        refine KI1.out.mono ?_
        rintro e3 w3 ⟨rfl, hb3⟩
        obtain ⟨A1, c1, o1, hrow⟩ := (hw.out.below hb3).order
        have HB3 := Lib.hid (hb.out.trans (hb3.mono hb.out.size))
        have HROW := Lib.hid hrow
        clear hb3 hrow y0
        go_wp2_with fail
        go_ret
        exact ⟨A1, c1, by rw [← hre.out]; rfl, hre.out ▸ ⟨ownsRow_lower HU2.out HROW.out.1, HROW.out.2⟩, HUO.out _ HB3⟩
      · obtain ⟨k, hdk, hkl⟩ := isOfT_lt hk
        subst hdk
        have hol := hm.out.len
        have hcl := HC.out
        have KM : Hid (∀ W, Hid (WAt S W p g L.length out) → Calls Try.prog 40 #[.pointer (some ⟨p, 0, none⟩), .int .i64 (k : Int)] W fun e w' => e = .returned (.bool (!out.contains (k : Int))) ∧ Hid (WAt S w' p g L.length (if out.contains (k : Int) then out else out ++ [(k : Int)])) ∧ Hid (Keep S p g W w')) := fun W h => meet_any S p g L.length k out W h.out hkl hcl (by omega) (hm.out.i64 hcl)
        rw [hk] at KI1
        have HK2 := Lib.hid hk
        clear hk
        obtain ⟨bb, hb0⟩ : ∃ x, x = out.contains (k : Int) := ⟨_, rfl⟩
        rw [← hb0] at KM
        have HB0 := Lib.hid hb0
        clear hb0
        go_wp2_with fail
        refine KI1.out.mono ?_
        rintro e3 w3 ⟨rfl, hb3⟩
        have HW3 := Lib.hid (hw.out.below hb3)
        have HK3 := Lib.hid (hkp.out.trans (Keep.of_below (hb3.mono hw.out.le)))
        clear hb3 y0
        cases bb
        · go_wp2_with fail
          refine (KM.out _ HW3).mono ?_
          rintro e4 w4 ⟨rfl, hw4, hk4⟩
          have hw4 : Hid (WAt S w4 p g L.length (out ++ [(k : Int)])) := hw4
          have HK4 := Lib.hid (HK3.out.trans hk4.out)
          have hb4 := HT.out _ HK4
          have hm4 : Hid (Met L (out ++ [(k : Int)])) := hm.out.snoc HK2.out HB0.out.symm
          have hc4 : Hid (chainF L f1 (out ++ [(k : Int)]) (findT L (baseT L k)) = r) := by rw [← chainF_go HK2.out HB0.out.symm]; exact hc
          have hf4 : Hid ((out ++ [(k : Int)]).length + f1 = L.length + 1) := by have := hf.out; unfold Hid; rw [List.length_append]; simp only [List.length_cons, List.length_nil]; omega
          have hl4 : Hid ((out ++ [(k : Int)]).length = out.length + 1) := by simp [Hid]
          obtain ⟨q, o, E1, e1, E2, e2, E3, e3, E4, e4, hA, hg, hY⟩ := HU.out.decl hkl
          subst hA
          have q1 : (k : Int) < (L.length : Int) := by omega
          have q2 : (0 : Int) ≤ (k : Int) := by omega
          obtain ⟨-, -, -, x2, -⟩ := hY _ hb4.out
          have y0 := HU.out.cell _ hb4.out
          have hbase : baseT L k = L[k].base := by unfold baseT; rw [Int.toNat_natCast, List.getElem?_eq_getElem hkl]; rfl
          rw [hbase] at hc4
          have hss := HBS.out L[k] (List.getElem_mem hkl)
          obtain ⟨s, hs⟩ : ∃ s, s = L[k].base := ⟨_, rfl⟩
          rw [← hs] at x2 hc4 hss
          have KF2 := Lib.hid (KF.out w4 s hss hb4)
          obtain ⟨out4, ho4⟩ : ∃ o, o = out ++ [(k : Int)] := ⟨_, rfl⟩
          rw [← ho4] at hw4 hm4 hc4 hf4 hl4
          have HO := Lib.hid hw.out.order
          clear hY hbase hs ho4 hss
          go_wp2_with fail
          refine KF2.out.mono ?_
          rintro e5 w5 ⟨rfl, hb5⟩
          have HW5 := Lib.hid (hw4.out.below hb5)
          have HK5 := Lib.hid (HK4.out.trans (Keep.of_below (hb5.mono hw4.out.le)))
          have HO5 := Lib.hid HW5.out.order
          clear x2 y0 hb5
          go_wp2_with fail
          go_roundw
          case rel => exact ⟨f1, _, out4, rfl, hm4, hf4, hc4, HW5, HK5⟩
          case measure =>
            obtain ⟨A1, c1, o1, -⟩ := HO.out
            obtain ⟨A5, c5, o5, -⟩ := HO5.out
            rw [o1, o5]
            have h1 := hf4.out
            have h2 := hl4.out
            simp only [Option.getD_some, lenOfV]
            omega
        · have he := chainF_end (L := L) (f := f1) (out := out) (d := k) (.inr HB0.out.symm)
          have hre := Lib.hid (he.symm.trans hc.out)
          clear he
          go_wp2_with fail
          refine (KM.out _ HW3).mono ?_
          rintro e4 w4 ⟨rfl, hw4, hk4⟩
          have hw4 : Hid (WAt S w4 p g L.length out) := hw4
          have HK4 := Lib.hid (HK3.out.trans hk4.out)
          have hb4 := HT.out _ HK4
          obtain ⟨A1, c1, o1, hrow⟩ := hw4.out.order
          have HROW := Lib.hid hrow
          clear hrow
          go_wp2_with fail
          go_ret
          exact ⟨A1, c1, by rw [← hre.out]; rfl, hre.out ▸ ⟨ownsRow_lower HU2.out HROW.out.1, HROW.out.2⟩, HUO.out _ hb4⟩
end Go.Proofs.Ytoammjghgdgdiaa
