/-
  governorref6.Chain BY A CONTRACT.
-/
import Derived.Test.YtkpieolmepngjaaTbRow
import Derived.Deep.RegionHeld3
namespace Go.Proofs.Ytkpieolmepngjaa
open Go Go.RowKit
set_option linter.unusedVariables false
set_option linter.unusedSimpArgs false

/-- what a unit's parameter is: a block of its own that holds the row's slice. -/
structure UAt (w R : World) (A : Option Addr) (c : Nat) (L : List DT) : Prop where
  size : w.heap.size + 1 ≤ R.heap.size
  below : Below w.heap.size w R
  cell : ∀ W, Below R.heap.size R W → W.cell? ⟨w.heap.size, 0, none⟩ = some (.slice A L.length c)
  row : ∀ W, Below R.heap.size R W → DsR W w.heap.size A L
theorem UAt.of {w : World} {A : Option Addr} {c : Nat} {L : List DT} (ha : DsR w w.heap.size A L) : UAt w (w.alloc (.cells #[.slice A L.length c] 24)) A c L := by
  have hb0 : Below w.heap.size w (w.alloc (.cells #[.slice A L.length c] 24)) := (Below.refl _ _).alloc (Nat.le_refl _) _
  refine ⟨by simp, hb0, fun W h => ?_, fun W h => ?_⟩
  · rw [h.cell (p := ⟨w.heap.size, 0, none⟩) (by simp), cell_of_row _ _ 0 _ _ _ (heap_alloc_new w _)]
    rfl
  · exact DsR.mono (Nat.le_refl _) (hb0.trans (h.mono hb0.size)).block ha
theorem UAt.alloc {w R : World} {A : Option Addr} {c : Nat} {L : List DT} (h : UAt w R A c L) (o : Obj) : UAt w (R.alloc o) A c L := by
  have hb : Below R.heap.size R (R.alloc o) := (Below.refl _ _).alloc (Nat.le_refl _) _
  have hs := h.size
  refine ⟨by simp; omega, h.below.trans (hb.mono (by omega)), fun W k => h.cell W (hb.trans (k.mono (by simp))), fun W k => h.row W (hb.trans (k.mono (by simp)))⟩
theorem UAt.out {w R W : World} {A : Option Addr} {c : Nat} {L : List DT} (h : UAt w R A c L) (hb : Below R.heap.size R W) : Below w.heap.size w W := h.below.trans (hb.mono h.below.size)
/-- in memory of later on the row is still one. -/
theorem UAt.rowAt {w R W : World} {A : Option Addr} {c : Nat} {L : List DT} (h : UAt w R A c L) (hb : Below R.heap.size R W) : DsR W W.heap.size A L := DsR.mono (h.out hb).size (fun _ _ => rfl) (h.row W hb)

theorem IRow.at_ {B : Nat} {w : World} {g o c : Nat} {l : List Int} (h : IRow B w (some ⟨g, o, none⟩) c l) {k : Nat} (hk : k < l.length) : w.cell? ⟨g, o + k, none⟩ = some (.int .i64 l[k]) := by
  obtain ⟨g', o', cs, e, _, _, hc, he⟩ := h.nsr k hk
  simp only [Option.some.injEq, Addr.mk.injEq, and_true] at e
  obtain ⟨rfl, rfl⟩ := e
  obtain ⟨rfl, _⟩ := he
  have := hc 0 _ rfl
  simpa using this
theorem IRow.isBlock {B : Nat} {w : World} {A : Option Addr} {c : Nat} {l : List Int} (h : IRow B w A c l) (hk : 0 < l.length) : ∃ g, A = some ⟨g, 0, none⟩ := by
  rcases h.1.2 with ⟨_, h0⟩ | ⟨g, cap, cur, hv, _⟩
  · omega
  · simp only [Value.slice.injEq] at hv
    exact ⟨g, hv.1⟩
theorem IRow.one {B : Nat} (w : World) (d : Int) (hd : I64 d) (hB : B ≤ w.heap.size) : IRow B (w.alloc (.cells #[.int .i64 d] 3)) (some ⟨w.heap.size, 0, none⟩) 1 [d] := by
  refine ⟨(⟨rfl, .inr ⟨w.heap.size, 1, #[.int .i64 d], rfl, hB, heap_alloc_new _ _, Nat.le_refl _, by unfold maxLen; omega, rfl, rfl⟩⟩ : World.ownsRow _ _ _ 1 _ 1 [.int .i64 d]), fun x hx => ?_⟩
  simp only [List.mem_singleton] at hx
  rw [hx]; exact hd
/-- a declaration in a unit: its cells, its rows; wherever the call goes on. -/
theorem UAt.decl {w R : World} {A : Option Addr} {c : Nat} {L : List DT} (h : UAt w R A c L) {k : Nat} (hk : k < L.length) : ∃ (q o : Nat) (E1 : Option Addr) (e1 : Nat) (E2 : Option Addr) (e2 : Nat) (E3 : Option Addr) (e3 : Nat) (E4 : Option Addr) (e4 : Nat), A = some ⟨q, o, none⟩ ∧ q < w.heap.size ∧ ∀ W, Below R.heap.size R W →
    (XsR W w.heap.size E1 L[k].faces ∧ VsR W w.heap.size E2 L[k].vars ∧ MsR W w.heap.size E3 L[k].methods ∧ SsR W w.heap.size E4 L[k].body ∧ I64 L[k].every ∧ I64 L[k].first) ∧
    W.cell? ⟨q, o + k * 11, none⟩ = some (.int .i64 L[k].kind) ∧ W.cell? ⟨q, o + k * 11 + 1, none⟩ = some (.string L[k].name) ∧ W.cell? ⟨q, o + k * 11 + 2, none⟩ = some (.string L[k].base) ∧ W.cell? ⟨q, o + k * 11 + 3, none⟩ = some (.slice E1 L[k].faces.length e1) ∧
    W.cell? ⟨q, o + k * 11 + 4, none⟩ = some (.bool L[k].abstract) ∧ W.cell? ⟨q, o + k * 11 + 5, none⟩ = some (.bool L[k].final) ∧ W.cell? ⟨q, o + k * 11 + 6, none⟩ = some (.slice E2 L[k].vars.length e2) ∧ W.cell? ⟨q, o + k * 11 + 7, none⟩ = some (.slice E3 L[k].methods.length e3) ∧
    W.cell? ⟨q, o + k * 11 + 8, none⟩ = some (.slice E4 L[k].body.length e4) ∧ W.cell? ⟨q, o + k * 11 + 9, none⟩ = some (.int .i64 L[k].every) ∧ W.cell? ⟨q, o + k * 11 + 10, none⟩ = some (.int .i64 L[k].first) := by
  obtain ⟨q, o, cs, hA, hq, _, hcs, he⟩ := h.row R (Below.refl _ _) k hk
  obtain ⟨E1, e1, E2, e2, E3, e3, E4, e4, rfl, hv1, hv2, r1, r2, r3, r4⟩ := he
  refine ⟨q, o, E1, e1, E2, e2, E3, e3, E4, e4, hA, hq, fun W hW => ?_⟩
  have hk2 : ∀ g, g < w.heap.size → W.heap[g]? = R.heap[g]? := fun g hg => hW.block g (by have := h.size; omega)
  have hc : ∀ (j : Nat) u, [Value.int .i64 L[k].kind, .string L[k].name, .string L[k].base, .slice E1 L[k].faces.length e1, .bool L[k].abstract, .bool L[k].final, .slice E2 L[k].vars.length e2, .slice E3 L[k].methods.length e3, .slice E4 L[k].body.length e4, .int .i64 L[k].every, .int .i64 L[k].first][j]? = some u → W.cell? ⟨q, o + k * 11 + j, none⟩ = some u := fun j u hj => (World.cell?_of_block (hk2 q hq)).trans (hcs j u hj)
  refine ⟨⟨r1.mono (Nat.le_refl _) hk2, r2.mono (Nat.le_refl _) hk2, r3.mono (Nat.le_refl _) hk2, r4.mono (Nat.le_refl _) hk2, hv1, hv2⟩, ?_⟩
  exact ⟨hc 0 _ rfl, hc 1 _ rfl, hc 2 _ rfl, hc 3 _ rfl, hc 4 _ rfl, hc 5 _ rfl, hc 6 _ rfl, hc 7 _ rfl, hc 8 _ rfl, hc 9 _ rfl, hc 10 _ rfl⟩
theorem ownsRow_lower {w : World} {B B' sz n : Nat} {e : TypeId} {v : Value} {xs : List Value} (h : B' ≤ B) (hr : w.ownsRow B e sz v n xs) : w.ownsRow B' e sz v n xs := by
  refine ⟨hr.1, ?_⟩
  rcases hr.2 with h0 | ⟨g, cap, cur, hv, hb, rest⟩
  · exact .inl h0
  · exact .inr ⟨g, cap, cur, hv, Nat.le_trans h hb, rest⟩
set_option maxHeartbeats 2000000 in
set_option maxRecDepth 100000 in
theorem refChain_any (L : List DT) (A : Option Addr) (c : Nat) (d0 : Int) (w : World) (ha : DsR w w.heap.size A L) (hcnt : L.length ≤ 1000000000) :
    Calls Try.prog 23 #[.agg #[.slice A L.length c], .int .i64 d0] w (ISays w (chainT L d0)) := by
  obtain ⟨R0, hR0⟩ : ∃ R0 : World, R0 = w.alloc (.cells #[.slice A L.length c] 24) := ⟨_, rfl⟩
  have hu : UAt w R0 A c L := hR0 ▸ UAt.of ha
  have HU := Lib.hid hu
  have HR0 := Lib.hid hR0
  have HS := Lib.hid hu.size
  obtain ⟨i0, hi0, hz0, hz1, hz2⟩ := info_parts Try.infoInt
  have KK : Hid (∀ W d, Hid (Below R0.heap.size R0 W) → Calls Try.prog 49 #[.agg #[.slice A L.length c], .int .i64 d] W fun e w' => e = .returned (.int .i64 (kindT L d)) ∧ Hid (Below R0.heap.size R0 w') ∧ Hid (Below W.heap.size W w')) := fun W d hb => (refKind_any L A c d W (hu.rowAt hb)).mono fun e w' hh => ⟨hh.1, hb.out.trans (hh.2.mono hb.out.size), hh.2⟩
  have KF : Hid (∀ W s, Hid (Below R0.heap.size R0 W) → Calls Try.prog 21 #[.agg #[.slice A L.length c], .string s] W fun e w' => e = .returned (.int .i64 (findT L s)) ∧ Hid (Below R0.heap.size R0 w') ∧ Hid (Below W.heap.size W w')) := fun W s hb => (refFind_any L A c s W (hu.rowAt hb) hcnt).mono fun e w' hh => ⟨hh.1, hb.out.trans (hh.2.mono hb.out.size), hh.2⟩
  have HC := Lib.hid hcnt
  obtain ⟨r, hr0⟩ : ∃ r, r = chainT L d0 := ⟨_, rfl⟩
  rw [← hr0]
  have HR := Lib.hid hr0
  clear hr0 ha hu hR0 hcnt
  unfold ISays
  go_enter Try.func23, Try.ntmps23
  go_wp2_with fail
  rw [← HR0.out]
  go_loopw [1, 5] (fun dv ov wr => ∃ (f : Nat) (d : Int) (out : List Int) (A1 : Option Addr) (c1 : Nat), dv = .int .i64 d ∧ ov = .slice A1 out.length c1 ∧ Hid (Met L out) ∧ Hid (out.length + f = L.length + 1) ∧ Hid (chainF L f out d = r) ∧ Hid (IRow R0.heap.size wr A1 c1 out) ∧ Hid (Below R0.heap.size R0 wr)) (fun _ o _ => L.length + 1 - lenOfV o)
  case atStart => exact ⟨L.length + 1, d0, [], none, 0, rfl, rfl, Met.nil L, by simp [Hid], HR.out.symm, IRow.nil _ _, Below.refl _ _⟩
  case round =>
    obtain ⟨f, d, out, A1, c1, rfl, rfl, hm, hf, hc, hrow, hb⟩ := hrel
    have y0 := HU.out.cell _ hb.out
    obtain ⟨g, hg⟩ : ∃ g, f = g + 1 := ⟨f - 1, by have := hm.out.len; have := hf.out; omega⟩
    subst hg
    have KH : Hid (∀ W, Hid (Below R0.heap.size R0 W) → Hid (IRow R0.heap.size W A1 c1 out) → Calls Try.prog 55 #[.slice A1 out.length c1, .int .i64 d] W fun e w' => e = .returned (.bool (out.contains d)) ∧ w' = W) := fun W _ hr => refHas_any out A1 c1 d W hr.out.nsr (by have := hm.out.len; have := HC.out; omega)
    by_cases hk : kindT L d = 2
    · have hk2 : isOfT L d 2 = true := by rw [kindT_isOf _ _ _ (by decide), hk]; rfl
      obtain ⟨k, hdk, hkl⟩ := isOfT_lt hk2
      obtain ⟨b, hb0⟩ : ∃ b, b = out.contains d := ⟨_, rfl⟩
      rw [← hb0] at KH
      have HB0 := Lib.hid hb0
      clear hb0
      subst hdk
      have HK := Lib.hid hk
      have HK2 := Lib.hid hk2
      have q1 : (k : Int) < (L.length : Int) := by omega
      have q2 : (0 : Int) ≤ (k : Int) := by omega
      clear hk2
      cases b
      · go_wp2_with fail
        refine (KK.out _ _ hb).mono ?_
        rintro e1 w1 ⟨rfl, hb1, hl1⟩
        have hrow1 : Hid (IRow R0.heap.size w1 A1 c1 out) := hrow.out.below hl1.out
        clear hb hrow y0
        go_wp2_with fail
        refine (KH.out _ hb1 hrow1).mono ?_
        rintro e2 w2 ⟨rfl, rfl⟩
        have hs2 := hb1.out.size
        have hol := hm.out.len
        have hcl := HC.out
        go_wp2_with (at_builtin; refine wpList_append_own _ rfl _ _ 32 rfl R0.heap.size 3 i0 (.int .i64 0) 1 8 Try.underlying32 hi0 hz0 hz1 hz2 rfl (by decide) _ _ _ rfl (hrow1.out.1.alloc _) ⟨w2.heap.size, 0, none⟩ 1 1 [.int .i64 (k : Int)] rfl rfl (cell_one_new _ _ _) (by simp [Value.oneCell']) (by unfold maxLen; omega) (by omega) (by simp; omega) ?_)
        intro v2 w3 hown3 hgrow3 _
        obtain ⟨A2, c2, rfl, hrow3, hb3'⟩ := hrow1.out.snoc (x := (k : Int)) (by unfold I64; omega) hs2 hown3 hgrow3
        have hb3 : Hid (Below R0.heap.size R0 w3) := hb1.out.trans hb3'
        have hm3 : Hid (Met L (out ++ [(k : Int)])) := hm.out.snoc HK2.out HB0.out.symm
        have hc3 : Hid (chainF L g (out ++ [(k : Int)]) (findT L (baseT L k)) = r) := by rw [← chainF_go HK2.out HB0.out.symm]; exact hc
        have hf3 : Hid ((out ++ [(k : Int)]).length + g = L.length + 1) := by have := hf.out; unfold Hid; rw [List.length_append]; simp only [List.length_cons, List.length_nil]; omega
        have hlt3 : Hid ((out ++ [(k : Int)]).length = out.length + 1) := by simp [Hid]
        have HROW := Lib.hid hrow3
        obtain ⟨q, o, cs, hA, hg, hlen, hcs, he⟩ := HU.out.row w3 hb3.out k hkl
        subst hA
        obtain ⟨D, hN⟩ : ∃ D : DT, D = L[k] := ⟨_, rfl⟩
        rw [← hN] at he
        obtain ⟨A1', c1', A2', c2', A3', c3', A4', c4', rfl, _⟩ := he
        have y1 := hcs 2 _ rfl
        have y0 := HU.out.cell _ hb3.out
        have hbase : baseT L k = D.base := by unfold baseT; rw [Int.toNat_natCast, List.getElem?_eq_getElem hkl, hN]; rfl
        rw [hbase] at hc3
        obtain ⟨out3, ho3⟩ : ∃ o, o = out ++ [(k : Int)] := ⟨_, rfl⟩
        rw [← ho3] at HROW hm3 hc3 hf3 hlt3 ⊢
        obtain ⟨s, hs⟩ : ∃ s, s = D.base := ⟨_, rfl⟩
        rw [← hs] at y1 hc3
        have KF2 : Hid (∀ W, Hid (Below R0.heap.size R0 W) → Hid (IRow R0.heap.size W A2 c2 out3) → Calls Try.prog 21 #[.agg #[.slice (some ⟨q, o, none⟩) L.length c], .string s] W fun e w' => e = .returned (.int .i64 (findT L s)) ∧ Hid (Below R0.heap.size R0 w') ∧ Hid (IRow R0.heap.size w' A2 c2 out3) ∧ w'.cell? ⟨w.heap.size, 0, none⟩ = some (.slice (some ⟨q, o, none⟩) L.length c) ∧ w'.cell? ⟨q, o + k * 11 + 2, none⟩ = some (.string s)) := fun W h1 h2 => (KF.out W s h1).mono fun e w' hh => ⟨hh.1, hh.2.1, h2.out.below hh.2.2.out, HU.out.cell _ hh.2.1.out, ((HU.out.out hh.2.1.out).cell (p := ⟨q, o + k * 11 + 2, none⟩) hg).trans (((HU.out.out hb3.out).cell (p := ⟨q, o + k * 11 + 2, none⟩) hg).symm.trans y1)⟩
        clear hown3 hgrow3 hb3' hrow3 hrow1 hb1 hl1 hg hlen hcs hN hbase hs2 ho3 hs
        go_wp2_with fail
        go_region_held3 (fun w' => w'.cell? ⟨w.heap.size, 0, none⟩ = some (.slice (some ⟨q, o, none⟩) L.length c) ∧ w'.cell? ⟨q, o + k * 11 + 2, none⟩ = some (.string s) ∧ Hid (Below R0.heap.size R0 w') ∧ Hid (IRow R0.heap.size w' A2 c2 out3))
          (first | exact ⟨y0, y1, hb3, HROW⟩ | exact ⟨y0, y1, Below.drew hb3, HROW⟩ | exact ⟨z0, z1, HB6, HL6⟩)
          (first | (go_at_call 21; refine (KF2.out _ ?_ ?_).mono ?_; (first | exact Below.drew hb3 | assumption); (first | exact HROW | assumption); rintro e6 w6 ⟨rfl, HB6, HL6, z0, z1⟩))
        all_goals
          clear y0 y1 z0 z1
          go_wp2_with fail
          go_roundw
          case rel => exact ⟨g, _, out3, A2, c2, rfl, rfl, hm3, hf3, hc3, HL6, HB6⟩
          case measure =>
            have h1 := hf3.out
            have h2 := hlt3.out
            simp only [lenOfV]
            omega
      · go_wp2_with fail
        refine (KK.out _ _ hb).mono ?_
        rintro e1 w1 ⟨rfl, hb1, hl1⟩
        have hrow1 : Hid (IRow R0.heap.size w1 A1 c1 out) := hrow.out.below hl1.out
        clear hb hrow y0
        go_wp2_with fail
        refine (KH.out _ hb1 hrow1).mono ?_
        rintro e2 w2 ⟨rfl, rfl⟩
        have he := chainF_end (L := L) (f := g) (out := out) (d := k) (.inr HB0.out.symm)
        have hre := Lib.hid (he.symm.trans hc.out)
        clear he
        go_wp2_with fail
        go_ret
        exact ⟨A1, c1, by rw [← hre.out]; rfl, hre.out ▸ ⟨ownsRow_lower (by have := HS.out; omega) hrow1.out.1, hrow1.out.2⟩, HU.out.out hb1.out⟩
    · have hk2 : isOfT L d 2 = false := by rw [kindT_isOf _ _ _ (by decide)]; simp [hk]
      have he := chainF_end (L := L) (f := g) (out := out) (d := d) (.inl hk2)
      have hre := Lib.hid (he.symm.trans hc.out)
      clear he hk2
      go_wp2_with fail
      refine (KK.out _ _ hb).mono ?_
      rintro e1 w1 ⟨rfl, hb1, hl1⟩
      have hrow1 : Hid (IRow R0.heap.size w1 A1 c1 out) := hrow.out.below hl1.out
      clear hb hrow y0
      go_wp2_with fail
      go_ret
      exact ⟨A1, c1, by rw [← hre.out]; rfl, hre.out ▸ ⟨ownsRow_lower (by have := HS.out; omega) hrow1.out.1, hrow1.out.2⟩, HU.out.out hb1.out⟩
end Go.Proofs.Ytkpieolmepngjaa
