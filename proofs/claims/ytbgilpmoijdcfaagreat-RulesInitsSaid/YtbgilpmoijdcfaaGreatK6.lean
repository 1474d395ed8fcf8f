/-
  rules: the declarations ahead that are of a kind, BY A CONTRACT.
-/
import Derived.Test.YtbgilpmoijdcfaaGreatK5
import Derived.Maps.OwnSet
import Derived.MapKept
import Derived.RangeFuncRecord
import Derived.Deep.RegionHeld3
import Derived.Deep.DeepCutAuto
namespace Go.Proofs.YtbgilpmoijdcfaaGreat
open Go Go.RowKit Go.Shelf
set_option linter.unusedVariables false
set_option linter.unusedSimpArgs false

theorem Tryz.infoDecl : (Tryz.prog.info? 28).map (fun i => (i.zero.map (·.cells.size), i.size, i.bytes)) = some (some 11, 11, 160) := by kernel_rfl
theorem din_one {w : World} {B : Nat} {d : DT} {cs : List Value} (h : DIn w B d cs) : ∀ u ∈ cs, u.oneCell' = true := by
  obtain ⟨A1, c1, A2, c2, A3, c3, A4, c4, rfl, -⟩ := h
  simp [Value.oneCell']
/-- v is a row of the call's own (from block B on) that holds these declarations; what they name lies ahead of N0. -/
def DcRow (B N0 : Nat) (w : World) (A : Option Addr) (c : Nat) (l : List DT) : Prop := ∃ xs, w.ownsRow B 28 11 (.slice A l.length c) l.length xs ∧ ∀ (k : Nat) (hk : k < l.length), DIn w N0 l[k] ((xs.drop (k * 11)).take 11)
theorem DcRow.dsr {B N0 : Nat} {w : World} {A : Option Addr} {c : Nat} {l : List DT} (h : DcRow B N0 w A c l) (hN : N0 ≤ w.heap.size) : DsR w w.heap.size A l := by
  obtain ⟨xs, h1, h2⟩ := h
  obtain ⟨A', c', e, h3⟩ := row_owned (R := DIn w N0) rfl h1 h2
  simp only [Value.slice.injEq, true_and] at e
  obtain ⟨rfl, rfl⟩ := e
  exact RowIn.mono (Nat.le_refl _) (fun _ _ => rfl) (fun k hk cs h => DIn.mono hN (fun _ _ => rfl) h) h3
theorem DcRow.below {B N0 : Nat} {w w' : World} {A : Option Addr} {c : Nat} {l : List DT} (h : DcRow B N0 w A c l) (hN : N0 ≤ w.heap.size) (hb : Below w.heap.size w w') : DcRow B N0 w' A c l := by
  obtain ⟨xs, h1, h2⟩ := h
  exact ⟨xs, ownsRow_far h1 hb, fun k hk => DIn.mono (Nat.le_refl _) (fun g hg => hb.block g (by omega)) (h2 k hk)⟩
theorem DcRow.nil (B N0 : Nat) (w : World) : DcRow B N0 w none 0 [] := ⟨[], World.ownsRow_nil _ _ _ _, fun k hk => by simp at hk⟩
/-- append of a row of variables, wherever it lies, onto one of the call's own. -/
theorem app_decls {B B' N0 : Nat} {W : World} {A A1 : Option Addr} {c c1 : Nat} {l m : List DT} (h : DcRow B N0 W A c l) (hm : RowIn (DIn W N0) W B' A1 11 m) (hN : N0 ≤ B) (hlen : l.length + m.length ≤ 800000000000) (hB : B ≤ W.heap.size) :
    ∃ A' c' w', (Builtin.append_ #[29, 29] 29 #[.slice A l.length c, .slice A1 m.length c1]).run Tryz.prog W = .ok (.slice A' (l ++ m).length c') w' ∧ DcRow B N0 w' A' c' (l ++ m) ∧ Below B W w' ∧ W.grownBy w' (Value.slice A l.length c).ownBlock ∧
      ((Value.slice A' (l ++ m).length c').ownBlock = (Value.slice A l.length c).ownBlock ∨ (Value.slice A' (l ++ m).length c').ownBlock = some W.heap.size) := by
  have hi0 : (Tryz.prog.info? 28).map (fun i => (i.zero.map (·.cells.size), i.size, i.bytes)) = some (some 11, 11, 160) := Tryz.infoDecl
  obtain ⟨i0, hi, hz0, hz1, hz2⟩ : ∃ i0, Tryz.prog.info? 28 = some i0 ∧ i0.zero.map (·.cells.size) = some 11 ∧ i0.size = 11 ∧ i0.bytes = 160 := by
    cases hq : Tryz.prog.info? 28 with
    | none => rw [hq] at hi0; simp at hi0
    | some i0 => rw [hq] at hi0; simp at hi0; exact ⟨i0, rfl, by simpa using hi0.1, hi0.2.1, hi0.2.2⟩
  obtain ⟨z, hz, hzs⟩ := Option.map_eq_some_iff.1 hz0
  obtain ⟨xs, hown, hx⟩ := h
  obtain ⟨ys, y1, y2, y3, y4⟩ := row_cells (by decide) (fun a cs h => din_one h) hm
  have hA : (A1 = none ∧ m.length = 0) ∨ ∃ g o, A1 = some ⟨g, o, none⟩ ∨ (m.length = 0 ∧ A1 = some ⟨g, o, none⟩) ∨ (m.length = 0 ∧ ∃ a, A1 = some a) := by
    cases A1 with
    | none =>
      left
      refine ⟨rfl, ?_⟩
      rcases Nat.eq_zero_or_pos m.length with h0 | h0
      · exact h0
      · obtain ⟨g, o, cs, e, _⟩ := hm 0 h0
        cases e
    | some a =>
      right
      rcases Nat.eq_zero_or_pos m.length with h0 | h0
      · exact ⟨0, 0, .inr (.inr ⟨h0, a, rfl⟩)⟩
      · obtain ⟨g, o, cs, e, _⟩ := hm 0 h0
        exact ⟨g, o, .inl e⟩
  have run : ∃ v' w', (Builtin.append_ #[29, 29] 29 #[.slice A l.length c, .slice A1 m.length c1]).run Tryz.prog W = .ok v' w' ∧ w'.ownsRow B 28 11 v' (l.length + m.length) (xs ++ ys) ∧ W.grownBy w' (Value.slice A l.length c).ownBlock ∧ (v'.ownBlock = (Value.slice A l.length c).ownBlock ∨ v'.ownBlock = some W.heap.size) := by
    have go : ∀ c1 : Nat, ((A1 = none ∧ m.length = 0 ∧ c1 = 0) ∨ (m.length = 0 ∧ ∃ a, A1 = some a) ∨ ∃ g o, A1 = some ⟨g, o, none⟩) → ∃ v' w', (Builtin.append_ #[29, 29] 29 #[.slice A l.length c, .slice A1 m.length c1]).run Tryz.prog W = .ok v' w' ∧ w'.ownsRow B 28 11 v' (l.length + m.length) (xs ++ ys) ∧ W.grownBy w' (Value.slice A l.length c).ownBlock ∧ (v'.ownBlock = (Value.slice A l.length c).ownBlock ∨ v'.ownBlock = some W.heap.size) := fun c1 hA => app_run (P := Tryz.prog) (w := W) (base := B) (t := 29) (ty := 29) (bytes := 160) Tryz.underlying29 hi hz hz1 hz2 hzs (by decide) hown (A := A1) (m := m.length) (c := c1) (news := ys) y1 (fun g o e j u hj => y2 g o e j u hj) hA y3 (by unfold maxLen; omega) (by omega) hB
    rcases hA with ⟨h1, h2⟩ | ⟨g, o, h1 | ⟨h2, h1⟩ | ⟨h2, h1⟩⟩
    · have := go 0 (.inl ⟨h1, h2, rfl⟩)
      rw [h1, h2, append_capless]
      rw [h1, h2] at this
      exact this
    · exact go c1 (.inr (.inr ⟨g, o, h1⟩))
    · exact go c1 (.inr (.inr ⟨g, o, h1⟩))
    · exact go c1 (.inr (.inl ⟨h2, h1⟩))
  obtain ⟨v', w', k1, k2, k3, k4⟩ := run
  have hlm : (l ++ m).length = l.length + m.length := List.length_append
  have hshape : ∃ A' c', v' = .slice A' (l ++ m).length c' := by
    rcases k2.2 with ⟨h1, h2⟩ | ⟨g, cap, cur, h1, _⟩
    · exact ⟨none, 0, by rw [h1, hlm, h2]⟩
    · exact ⟨_, cap, by rw [h1, hlm]⟩
  obtain ⟨A', c', rfl⟩ := hshape
  have hbw : Below B W w' := (Below.refl B W).grown k3 hB (fun j hj => (hown.lt j hj).1)
  refine ⟨A', c', w', k1, ⟨xs ++ ys, by rw [← hlm] at k2; exact k2, fun k hk => DIn.mono (Nat.le_refl _) (fun g hg => hbw.block g (by omega)) ?_⟩, hbw, k3, k4⟩
  have hxl : xs.length = l.length * 11 := hown.1
  by_cases hkn : k < l.length
  · rw [List.getElem_append_left hkn]
    have e : (((xs ++ ys).drop (k * 11)).take 11) = ((xs.drop (k * 11)).take 11) := by
      have : (k + 1) * 11 ≤ l.length * 11 := Nat.mul_le_mul_right _ (by omega)
      rw [List.drop_append_of_le_length (by omega), List.take_append_of_le_length (by simp only [List.length_drop]; omega)]
    rw [e]
    exact hx k hkn
  · have hk2 : k - l.length < m.length := by simp at hk; omega
    rw [List.getElem_append_right (by omega)]
    have e : (((xs ++ ys).drop (k * 11)).take 11) = ((ys.drop ((k - l.length) * 11)).take 11) := by
      have e1 : k * 11 = xs.length + (k - l.length) * 11 := by
        have e2 : l.length + (k - l.length) = k := by omega
        rw [hxl, ← Nat.add_mul, e2]
      rw [e1, ← List.drop_drop, List.drop_left]
    rw [e]
    exact y4 (k - l.length) hk2
def aheadT (L : List DT) (k : Nat) (q : Int) : List DT := (L.take k).filter fun d => decide (d.kind = q)
theorem ahead_step {L : List DT} {k : Nat} (hk : k < L.length) (q : Int) : aheadT L (k + 1) q = aheadT L k q ++ (if L[k].kind = q then [L[k]] else []) := by
  unfold aheadT
  rw [List.take_succ_eq_append_getElem hk, List.filter_append]
  by_cases h : L[k].kind = q <;> simp [h]
theorem ahead_len (L : List DT) (k : Nat) (q : Int) : (aheadT L k q).length ≤ L.length := by
  have h1 := List.length_filter_le (fun d : DT => decide (d.kind = q)) (L.take k)
  have h2 : (L.take k).length ≤ L.length := by simp; omega
  exact Nat.le_trans h1 h2
set_option maxHeartbeats 4000000 in
set_option maxRecDepth 100000 in
theorem ahead_any (X : AX) (I : IX) (q : Int) (w : World) (h : XOk X w I) :
    Calls Tryz.prog 63 #[X.val, .int .i64 q] w fun e w' => ∃ A' c', e = .returned (.slice A' (aheadT X.L X.k q).length c') ∧ Hid (DcRow w.heap.size X.N w' A' c' (aheadT X.L X.k q)) ∧ Hid (Below w.heap.size w w') := by
  obtain ⟨R0, hR0⟩ : ∃ R0 : World, R0 = w.alloc (.cells X.cells 55) := ⟨_, rfl⟩
  have B0 : ABox X w R0 I := hR0 ▸ ABox.of h
  have HB0 : Hid (Below R0.heap.size R0 R0) := Below.refl _ _
  have HO : Hid (∀ W, Hid (Below R0.heap.size R0 W) → Hid (Below w.heap.size w W)) := fun W hW => B0.below.trans (hW.out.mono B0.below.size)
  have OK : Hid (∀ W, Hid (Below R0.heap.size R0 W) → XOk X W I) := fun W hW => B0.ok.below hW.out
  have CE : Hid (∀ W, Hid (Below R0.heap.size R0 W) → ACells X W w.heap.size) := fun W hW => B0.cells (XTo.of_below (I := I) hW.out)
  have BX : Hid (∀ W, Hid (Below R0.heap.size R0 W) → W.heap[w.heap.size]? = some (.cells X.cells 55 (0, 0))) := fun W hW => B0.stays (XTo.of_below (I := I) hW.out)
  obtain ⟨a0, a1, a2, a3, a4, a5, a6, a7, a8, a9, a10, a11, a12, a13⟩ := CE.out _ HB0
  have HR0 := Lib.hid hR0
  rw [hR0] at a0 a1 a2 a3 a4 a5 a6 a7 a8 a9 a10 a11 a12 a13
  clear hR0 a1 a3 a4 a5 a6 a7 a8 a9 a10 a11 a12 a13
  have hN : X.N < w.heap.size := h.ix.lt
  have hcap : (X.k : Int) ≤ (X.c : Int) := by have := h.cap; have := h.lt; omega
  have hk0 : (0 : Int) ≤ (X.k : Int) := by omega
  have hkL := h.lt
  have hfl := h.fit.toFit.cnt
  obtain ⟨A, hA⟩ : ∃ A, A = X.A := ⟨_, rfl⟩
  have DS : Hid (∀ W, Hid (Below w.heap.size w W) → DsR W X.N A X.L) := fun W hW => by rw [hA]; exact DsR.mono (Nat.le_refl _) (fun g hg => hW.out.block g (by omega)) h.ix.row
  rw [← hA] at a0
  obtain ⟨g, o, rfl⟩ : ∃ g o, A = some ⟨g, o, none⟩ := by
    obtain ⟨g, o, cs, hg, -⟩ := DS.out w (Below.refl _ _) X.k hkL
    exact ⟨g, o, hg⟩
  obtain ⟨r, hr⟩ : ∃ r, r = aheadT X.L X.k q := ⟨_, rfl⟩
  rw [← hr]
  have HR := Lib.hid hr
  have HW0 : Hid (Below w.heap.size w R0) := HO.out _ HB0
  clear hr B0 h hA
  go_enter Tryz.func63, Tryz.ntmps63
  go_wp2_with fail
  rw [← HR0.out]
  go_loopw [5, 15] (fun m i wr => ∃ (k : Nat) (A : Option Addr) (c : Nat) (out : List DT), k ≤ X.k ∧ i = .int .i64 k ∧ m = .slice A out.length c ∧ Hid (out = aheadT X.L k q) ∧ Hid (DcRow w.heap.size X.N wr A c out) ∧ Hid (Below w.heap.size w wr)) (fun _ i _ => X.k - (intOf i).toNat)
  case atStart => exact ⟨0, none, 0, [], Nat.zero_le _, rfl, rfl, rfl, DcRow.nil _ _ _, HW0⟩
  case round =>
    obtain ⟨k, A, c, out, hk2, rfl, rfl, ho, hv, hb⟩ := hrel
    have h2 : (0 : Int) ≤ (k : Int) := by omega
    by_cases hlt : k < X.k
    · have h1 : (k : Int) < (X.k : Int) := by omega
      have hkl : k < X.L.length := by omega
      obtain ⟨g2, o2, cs, e2, hg, hlen, hc, he⟩ := (DS.out wr hb) k hkl
      cases e2
      obtain ⟨D, hD⟩ : ∃ D : DT, D = X.L[k] := ⟨_, rfl⟩
      have hstep := ahead_step hkl q
      rw [← hD] at he hstep
      have HE := Lib.hid he
      obtain ⟨P1, q1, P2, q2, P3, q3, P4, q4, rfl, -⟩ := he
      have y0 := hc 0 (.int .i64 D.kind) rfl
      have y1 := hc 1 (.string D.name) rfl
      have y2 := hc 2 (.string D.base) rfl
      have y3 := hc 3 (.slice P1 D.faces.length q1) rfl
      have y4 := hc 4 (.bool D.abstract) rfl
      have y5 := hc 5 (.bool D.final) rfl
      have y6 := hc 6 (.slice P2 D.vars.length q2) rfl
      have y7 := hc 7 (.slice P3 D.methods.length q3) rfl
      have y8 := hc 8 (.slice P4 D.body.length q4) rfl
      have y9 := hc 9 (.int .i64 D.every) rfl
      have y10 := hc 10 (.int .i64 D.first) rfl
      rw [Nat.add_zero] at y0
      obtain ⟨R1, hR1⟩ : ∃ R1 : World, R1 = wr.alloc (.cells (declV D P1 P2 P3 P4 q1 q2 q3 q4) 28) := ⟨_, rfl⟩
      have hb1 : Below wr.heap.size wr R1 := by rw [hR1]; exact (Below.refl _ _).alloc (Nat.le_refl _) _
      have g1 : R1.heap[wr.heap.size]? = some (.cells (declV D P1 P2 P3 P4 q1 q2 q3 q4) 28 (0, 0)) := by rw [hR1]; exact heap_alloc_new wr _
      have x0 : R1.cell? ⟨wr.heap.size, 0, none⟩ = some (.int .i64 D.kind) := (cell_of_row _ _ 0 _ _ _ g1).trans rfl
      have x1 : R1.cell? ⟨wr.heap.size, 1, none⟩ = some (.string D.name) := (cell_of_row _ _ 1 _ _ _ g1).trans rfl
      have x2 : R1.cell? ⟨wr.heap.size, 2, none⟩ = some (.string D.base) := (cell_of_row _ _ 2 _ _ _ g1).trans rfl
      have x3 : R1.cell? ⟨wr.heap.size, 3, none⟩ = some (.slice P1 D.faces.length q1) := (cell_of_row _ _ 3 _ _ _ g1).trans rfl
      have x4 : R1.cell? ⟨wr.heap.size, 4, none⟩ = some (.bool D.abstract) := (cell_of_row _ _ 4 _ _ _ g1).trans rfl
      have x5 : R1.cell? ⟨wr.heap.size, 5, none⟩ = some (.bool D.final) := (cell_of_row _ _ 5 _ _ _ g1).trans rfl
      have x6 : R1.cell? ⟨wr.heap.size, 6, none⟩ = some (.slice P2 D.vars.length q2) := (cell_of_row _ _ 6 _ _ _ g1).trans rfl
      have x7 : R1.cell? ⟨wr.heap.size, 7, none⟩ = some (.slice P3 D.methods.length q3) := (cell_of_row _ _ 7 _ _ _ g1).trans rfl
      have x8 : R1.cell? ⟨wr.heap.size, 8, none⟩ = some (.slice P4 D.body.length q4) := (cell_of_row _ _ 8 _ _ _ g1).trans rfl
      have x9 : R1.cell? ⟨wr.heap.size, 9, none⟩ = some (.int .i64 D.every) := (cell_of_row _ _ 9 _ _ _ g1).trans rfl
      have x10 : R1.cell? ⟨wr.heap.size, 10, none⟩ = some (.int .i64 D.first) := (cell_of_row _ _ 10 _ _ _ g1).trans rfl
      have hws := hb.out.size
      have hv1 : DcRow w.heap.size X.N R1 A c out := hv.out.below (by omega) hb1
      have HB1 : Hid (Below w.heap.size w R1) := hb.out.trans (hb1.mono hb.out.size)
      have HR1 := Lib.hid hR1
      by_cases hq : D.kind = q
      · have HS : Hid (aheadT X.L (k + 1) q = out ++ [D]) := by rw [hstep, if_pos hq, ho.out]; rfl
        obtain ⟨R2, hR2⟩ : ∃ R2 : World, R2 = R1.alloc (.cells (declV D P1 P2 P3 P4 q1 q2 q3 q4) 28) := ⟨_, rfl⟩
        have hb2 : Below R1.heap.size R1 R2 := by rw [hR2]; exact (Below.refl _ _).alloc (Nat.le_refl _) _
        have g2 : R2.heap[R1.heap.size]? = some (.cells (declV D P1 P2 P3 P4 q1 q2 q3 q4) 28 (0, 0)) := by rw [hR2]; exact heap_alloc_new R1 _
        have hb02 : Below w.heap.size w R2 := HB1.out.trans (hb2.mono HB1.out.size)
        have hs1 := HB1.out.size
        have hs2 : R2.heap.size = R1.heap.size + 1 := by rw [hR2]; simp
        have hm : RowIn (DIn R2 X.N) R2 R2.heap.size (some ⟨R1.heap.size, 0, none⟩) 11 [D] := fun j hj => by
          obtain rfl : j = 0 := by simp at hj; omega
          refine ⟨R1.heap.size, 0, (declV D P1 P2 P3 P4 q1 q2 q3 q4).toList, rfl, by omega, rfl, fun i u hi => ?_, DIn.mono (Nat.le_refl _) (fun g hg => ((hb1.trans (hb2.mono hb1.size)).block g (by omega))) HE.out⟩
          rw [show 0 + 0 * 11 + i = i by omega, cell_of_row _ _ i _ _ _ g2]
          simpa using hi
        have hal := ahead_len X.L k q
        rw [← ho.out] at hal
        obtain ⟨A', c', w', k1, k2, k3, _⟩ := app_decls (c1 := 1) (hv1.below (by omega) hb2) hm (Nat.le_of_lt hN) (by simp; omega) (by omega)
        have AP : Hid (∃ v' w', (Builtin.append_ #[29, 29] 29 #[.slice A out.length c, .slice (some ⟨R1.heap.size, 0, none⟩) 1 1]).run Tryz.prog R2 = .ok v' w' ∧ ∃ A' c' out', v' = .slice A' out'.length c' ∧ Hid (out' = aheadT X.L (k + 1) q) ∧ Hid (DcRow w.heap.size X.N w' A' c' out') ∧ Hid (Below w.heap.size w w')) :=
          ⟨_, w', k1, A', c', out ++ [D], rfl, HS.out.symm, k2, hb02.trans k3⟩
        have HR2 := Lib.hid hR2
        rw [show R1 = wr.alloc (.cells #[.int .i64 D.kind, .string D.name, .string D.base, .slice P1 D.faces.length q1, .bool D.abstract, .bool D.final, .slice P2 D.vars.length q2, .slice P3 D.methods.length q3, .slice P4 D.body.length q4, .int .i64 D.every, .int .i64 D.first] 28) from hR1] at x0 x1 x2 x3 x4 x5 x6 x7 x8 x9 x10
        have HS1 : Hid (R1.heap.size = wr.heap.size + 1) := Lib.hid (by rw [hR1]; simp)
        have HR12 : Hid (R2 = (wr.alloc (.cells #[.int .i64 D.kind, .string D.name, .string D.base, .slice P1 D.faces.length q1, .bool D.abstract, .bool D.final, .slice P2 D.vars.length q2, .slice P3 D.methods.length q3, .slice P4 D.body.length q4, .int .i64 D.every, .int .i64 D.first] 28)).alloc (.cells #[.int .i64 D.kind, .string D.name, .string D.base, .slice P1 D.faces.length q1, .bool D.abstract, .bool D.final, .slice P2 D.vars.length q2, .slice P3 D.methods.length q3, .slice P4 D.body.length q4, .int .i64 D.every, .int .i64 D.first] 28)) := Lib.hid (by rw [hR2, hR1])
        rw [HR12.out, HS1.out] at AP
        have q0 : (D.kind == q) = true := by rw [hq]; simp
        clear hc hlen hg hstep hR1 hR2 hb1 hb2 g1 g2 hb02 hs1 hs2 hm hal k1 k2 k3 hv1 hD hq
        go_wp2_with (at_builtin; refine wpList_app rfl _ _ _ rfl _ _ rfl rfl (use2 AP.out ?_))
        rintro v3 w3 A3 c3 out3 rfl ho3 hv3 hb3
        go_wp2_with fail
        go_roundw
        case rel => exact ⟨k + 1, A3, c3, out3, by omega, by go_num, rfl, ho3, hv3, hb3⟩
        case measure => simp [intOf]; omega
      · have HS : Hid (out = aheadT X.L (k + 1) q) := by rw [hstep, if_neg hq, List.append_nil]; exact ho
        have HV1 := Lib.hid hv1
        rw [show R1 = wr.alloc (.cells #[.int .i64 D.kind, .string D.name, .string D.base, .slice P1 D.faces.length q1, .bool D.abstract, .bool D.final, .slice P2 D.vars.length q2, .slice P3 D.methods.length q3, .slice P4 D.body.length q4, .int .i64 D.every, .int .i64 D.first] 28) from hR1] at x0 x1 x2 x3 x4 x5 x6 x7 x8 x9 x10
        have q0 := eq_no hq
        clear hc hlen hg hstep hR1 hb1 g1 hv1 hD hq
        go_wp2_with fail
        go_roundw
        case rel => exact ⟨k + 1, A, c, out, by omega, by go_num, rfl, HS, HR1.out ▸ HV1, HR1.out ▸ HB1⟩
        case measure => simp [intOf]; omega
    · have h1 : ¬ (k : Int) < (X.k : Int) := by omega
      obtain rfl : k = X.k := by omega
      have HE : Hid (r = out) := HR.out.trans ho.out.symm
      go_wp2_with fail
      go_ret
      exact ⟨A, c, by rw [HE.out]; rfl, HE.out ▸ hv, hb⟩
end Go.Proofs.YtbgilpmoijdcfaaGreat

/-
  rules: a task's program, its times, BY CONTRACTS.
-/
namespace Go.Proofs.YtbgilpmoijdcfaaGreat
open Go Go.RowKit Go.Shelf
set_option linter.unusedVariables false
set_option linter.unusedSimpArgs false

theorem Tryz.enters_hasOddProgram1 : Enters Tryz.prog 65 := enters_of Tryz.func65 (by kernel_rfl) rfl
def oddTimesT (D : DT) : Bool := !btwT D.every 1 100 || !btwT D.first 0 9
def oddProgT (L : List DT) (D : DT) (k : Nat) : Bool := !namedT L D.base 3 || decide ((k : Int) ≤ findT L D.base) || (aheadT L k 4).any (fun d => decide (d.base = D.base))
theorem str_yes {a b : ByteArray} (h : a = b) : (a == b) = true := (MapKept.bytes_beq a b).2 h
set_option maxHeartbeats 1000000 in
set_option maxRecDepth 100000 in
theorem hasOddTimes_any (X : AX) (I : IX) (w : World) (h : XOk X w I) :
    Calls Tryz.prog 31 #[X.val] w fun e w' => e = .returned (.bool (oddTimesT X.D)) ∧ Hid (Below w.heap.size w w') := by
  obtain ⟨R0, hR0⟩ : ∃ R0 : World, R0 = w.alloc (.cells X.cells 55) := ⟨_, rfl⟩
  have B0 : ABox X w R0 I := hR0 ▸ ABox.of h
  have HB0 : Hid (Below R0.heap.size R0 R0) := Below.refl _ _
  have HO : Hid (∀ W, Hid (Below R0.heap.size R0 W) → Hid (Below w.heap.size w W)) := fun W hW => B0.below.trans (hW.out.mono B0.below.size)
  have OK : Hid (∀ W, Hid (Below R0.heap.size R0 W) → XOk X W I) := fun W hW => B0.ok.below hW.out
  have CE : Hid (∀ W, Hid (Below R0.heap.size R0 W) → ACells X W w.heap.size) := fun W hW => B0.cells (XTo.of_below (I := I) hW.out)
  have BX : Hid (∀ W, Hid (Below R0.heap.size R0 W) → W.heap[w.heap.size]? = some (.cells X.cells 55 (0, 0))) := fun W hW => B0.stays (XTo.of_below (I := I) hW.out)
  obtain ⟨a0, a1, a2, a3, a4, a5, a6, a7, a8, a9, a10, a11, a12, a13⟩ := CE.out _ HB0
  have HR0 := Lib.hid hR0
  rw [hR0] at a0 a1 a2 a3 a4 a5 a6 a7 a8 a9 a10 a11 a12 a13
  clear hR0 a0 a1 a2 a3 a4 a5 a6 a7 a8 a9 a10 a11
  have KB : Hid (∀ W n lo hi, Hid (Below R0.heap.size R0 W) → Calls Tryz.prog 64 #[.int .i64 n, .int .i64 lo, .int .i64 hi] W fun e w' => e = .returned (.bool (btwT n lo hi)) ∧ Hid (Below R0.heap.size R0 w')) := fun W n lo hi hW => (between_any n lo hi W).mono fun e w' hh => ⟨hh.1, hW.out.trans (hh.2.out.mono hW.out.size)⟩
  obtain ⟨r, hr⟩ : ∃ r, r = oddTimesT X.D := ⟨_, rfl⟩
  obtain ⟨b1, hb1⟩ : ∃ b, b = btwT X.D.every 1 100 := ⟨_, rfl⟩
  obtain ⟨b2, hb2⟩ : ∃ b, b = btwT X.D.first 0 9 := ⟨_, rfl⟩
  have HR : Hid (r = (!b1 || !b2)) := Lib.hid (by rw [hr, hb1, hb2]; rfl)
  have K1 : Hid (Calls Tryz.prog 64 #[.int .i64 X.D.every, .int .i64 1, .int .i64 100] R0 fun e w' => e = .returned (.bool b1) ∧ Hid (Below R0.heap.size R0 w')) := hb1 ▸ KB.out _ _ _ _ HB0
  have K2 : Hid (∀ W, Hid (Below R0.heap.size R0 W) → Calls Tryz.prog 64 #[.int .i64 X.D.first, .int .i64 0, .int .i64 9] W fun e w' => e = .returned (.bool b2) ∧ Hid (Below R0.heap.size R0 w')) := fun W hW => hb2 ▸ KB.out _ _ _ _ hW
  rw [← hr]
  clear hr hb1 hb2 KB B0 h
  go_enter Tryz.func31, Tryz.ntmps31
  go_wp2_with fail
  rw [← HR0.out]
  refine K1.out.mono ?_
  rintro e1 w1 ⟨rfl, hb1⟩
  clear a12 a13
  cases b1
  · have HQ : Hid (r = true) := HR.out
    go_wp2_with fail
    go_ret
    exact ⟨by rw [HQ.out]; rfl, HO.out _ hb1⟩
  · have a13 := (CE.out _ hb1).first
    go_wp2_with fail
    refine (K2.out _ hb1).mono ?_
    rintro e2 w2 ⟨rfl, hb2⟩
    clear a13
    cases b2
    · have HQ : Hid (r = true) := HR.out
      go_wp2_with fail
      go_ret
      exact ⟨by rw [HQ.out]; rfl, HO.out _ hb2⟩
    · have HQ : Hid (r = false) := HR.out
      go_wp2_with fail
      go_ret
      exact ⟨by rw [HQ.out]; rfl, HO.out _ hb2⟩
set_option maxHeartbeats 1000000 in
set_option maxRecDepth 100000 in
/-- the closure of hasOddProgram: a declaration, and what it captured. -/
theorem hasOddProgram1_any (X : AX) (d : DT) (cs : List Value) (B b : Nat) (w : World) (hd : DIn w B d cs) (hb : w.heap[b]? = some (.cells X.cells 55 (0, 0))) :
    Calls Tryz.prog 65 #[.agg cs.toArray, .pointer (some ⟨b, 0, none⟩)] w fun e w' => e = .returned (.bool (decide (d.base = X.D.base))) ∧ Hid (Below w.heap.size w w') := by
  obtain ⟨P1, q1, P2, q2, P3, q3, P4, q4, rfl, -⟩ := hd
  obtain ⟨R0, hR0⟩ : ∃ R0 : World, R0 = w.alloc (.cells (declV d P1 P2 P3 P4 q1 q2 q3 q4) 28) := ⟨_, rfl⟩
  have hbl : b < w.heap.size := (Array.getElem?_eq_some_iff.1 hb).1
  have hbw : Below w.heap.size w R0 := by rw [hR0]; exact (Below.refl _ _).alloc (Nat.le_refl _) _
  have hg : R0.heap[w.heap.size]? = some (.cells (declV d P1 P2 P3 P4 q1 q2 q3 q4) 28 (0, 0)) := by rw [hR0]; exact heap_alloc_new w _
  have y2 : R0.cell? ⟨w.heap.size, 2, none⟩ = some (.string d.base) := (cell_of_row _ _ 2 _ _ _ hg).trans rfl
  have z5 := (ACells.of ((hbw.block _ hbl).trans hb)).base
  have HB : Hid (Below w.heap.size w R0) := hbw
  have HR0 := Lib.hid hR0
  rw [hR0] at y2 z5
  clear hbw hg hb hR0
  by_cases hq : d.base = X.D.base
  · rw [decide_eq_true hq]
    have q : (d.base.toList == X.D.base.toList) = true := by rw [hq]; simp
    clear hq
    go_enter Tryz.func65, Tryz.ntmps65
    go_wp2_with fail
    go_ret
    exact ⟨by first | rfl | (rw [q]; rfl), HR0.out ▸ HB⟩
  · rw [decide_eq_false hq]
    have q := str_ne hq
    clear hq
    go_enter Tryz.func65, Tryz.ntmps65
    go_wp2_with fail
    go_ret
    exact ⟨by first | rfl | (rw [q]; rfl), HR0.out ▸ HB⟩
set_option maxHeartbeats 1000000 in
set_option maxRecDepth 100000 in
theorem hasOddProgram_any (X : AX) (I : IX) (w : World) (h : XOk X w I) :
    Calls Tryz.prog 30 #[X.val] w fun e w' => e = .returned (.bool (oddProgT X.L X.D X.k)) ∧ Hid (Below w.heap.size w w') := by
  obtain ⟨R0, hR0⟩ : ∃ R0 : World, R0 = w.alloc (.cells X.cells 55) := ⟨_, rfl⟩
  have B0 : ABox X w R0 I := hR0 ▸ ABox.of h
  have HB0 : Hid (Below R0.heap.size R0 R0) := Below.refl _ _
  have HO : Hid (∀ W, Hid (Below R0.heap.size R0 W) → Hid (Below w.heap.size w W)) := fun W hW => B0.below.trans (hW.out.mono B0.below.size)
  have OK : Hid (∀ W, Hid (Below R0.heap.size R0 W) → XOk X W I) := fun W hW => B0.ok.below hW.out
  have CE : Hid (∀ W, Hid (Below R0.heap.size R0 W) → ACells X W w.heap.size) := fun W hW => B0.cells (XTo.of_below (I := I) hW.out)
  have BX : Hid (∀ W, Hid (Below R0.heap.size R0 W) → W.heap[w.heap.size]? = some (.cells X.cells 55 (0, 0))) := fun W hW => B0.stays (XTo.of_below (I := I) hW.out)
  obtain ⟨a0, a1, a2, a3, a4, a5, a6, a7, a8, a9, a10, a11, a12, a13⟩ := CE.out _ HB0
  have HR0 := Lib.hid hR0
  rw [hR0] at a0 a1 a2 a3 a4 a5 a6 a7 a8 a9 a10 a11 a12 a13
  clear hR0 
  have KN : Hid (Calls Tryz.prog 43 #[X.val, .string X.D.base, .int .i64 3] R0 fun e w' => e = .returned (.tuple #[.int .i64 (findT X.L X.D.base), .bool (namedT X.L X.D.base 3)]) ∧ Hid (Below R0.heap.size R0 w')) := named_any X I X.D.base 3 R0 (OK.out _ HB0)
  have KA : Hid (∀ W, Hid (Below R0.heap.size R0 W) → Calls Tryz.prog 63 #[X.val, .int .i64 4] W fun e w' => ∃ A' c', e = .returned (.slice A' (aheadT X.L X.k 4).length c') ∧ Hid (DsR w' w'.heap.size A' (aheadT X.L X.k 4)) ∧ Hid (Below R0.heap.size R0 w')) := fun W hW => (ahead_any X I 4 W (OK.out _ hW)).mono fun e w' ⟨A', c', h1, h2, h3⟩ => ⟨A', c', h1, h2.out.dsr (by have := (OK.out _ hW).ix.lt; have := h3.out.size; omega), hW.out.trans (h3.out.mono hW.out.size)⟩
  have KC : Hid (∀ W A' c', Hid (Below R0.heap.size R0 W) → Hid (DsR W W.heap.size A' (aheadT X.L X.k 4)) → Calls Tryz.prog 66 #[.slice A' (aheadT X.L X.k 4).length c', .func (.func 65) #[] #[.pointer (some ⟨w.heap.size, 0, none⟩)]] W fun e w' => e = .returned (.bool ((aheadT X.L X.k 4).any (fun d => decide (d.base = X.D.base)))) ∧ Hid (Below R0.heap.size R0 w')) := fun W A' c' hW hd => by
    have hL := h.fit.toFit.cnt
    have hl := ahead_len X.L X.k 4
    refine (containsFuncDecl_any _ Tryz.enters_hasOddProgram1 #[.pointer (some ⟨w.heap.size, 0, none⟩)] (aheadT X.L X.k 4) A' c' W.heap.size (fun V => Below W.heap.size W V) (fun d => decide (d.base = X.D.base)) W (Below.refl _ _) (fun V hV => DsR.mono (Nat.le_refl _) hV.block hd.out) (by omega) (fun V d _ hV cs hc => ?_)).mono fun e w' hh => ⟨hh.1, hW.out.trans (hh.2.mono hW.out.size)⟩
    exact (hasOddProgram1_any X d cs _ w.heap.size V hc (BX.out _ (hW.out.trans (hV.mono hW.out.size)))).mono fun e w' hh => ⟨hh.1, hV.trans (hh.2.out.mono hV.size)⟩
  obtain ⟨r, hr⟩ : ∃ r, r = oddProgT X.L X.D X.k := ⟨_, rfl⟩
  obtain ⟨nb, hnb⟩ : ∃ b, b = namedT X.L X.D.base 3 := ⟨_, rfl⟩
  obtain ⟨d, hd⟩ : ∃ d, d = findT X.L X.D.base := ⟨_, rfl⟩
  obtain ⟨ab, hab⟩ : ∃ b, b = (aheadT X.L X.k 4).any (fun d => decide (d.base = X.D.base)) := ⟨_, rfl⟩
  have HR : Hid (r = (!nb || decide ((X.k : Int) ≤ d) || ab)) := Lib.hid (by rw [hr, hnb, hd, hab]; rfl)
  rw [← hr]
  rw [← hnb, ← hd] at KN
  rw [← hab] at KC
  clear hr hnb hd hab B0 h
  go_enter Tryz.func30, Tryz.ntmps30
  go_wp2_with fail
  rw [← HR0.out]
  refine KN.out.mono ?_
  rintro e1 w1 ⟨rfl, hb1⟩
  clear a0 a1 a2 a3 a4 a5 a6 a7 a8 a9 a10 a11 a12 a13
  cases nb
  · have HQ : Hid (r = true) := HR.out
    go_wp2_with fail
    go_ret
    exact ⟨by rw [HQ.out]; rfl, HO.out _ hb1⟩
  obtain ⟨a0, a1, a2, a3, a4, a5, a6, a7, a8, a9, a10, a11, a12, a13⟩ := CE.out _ hb1
  by_cases hk : (X.k : Int) ≤ d
  · have HQ : Hid (r = true) := Lib.hid (by rw [HR.out, decide_eq_true hk]; rfl)
    clear a0 a1 a3 a4 a5 a6 a7 a8 a9 a10 a11 a12 a13
    go_wp2_with fail
    go_ret
    exact ⟨by rw [HQ.out]; rfl, HO.out _ hb1⟩
  · have HQ : Hid (r = ab) := Lib.hid (by rw [HR.out, decide_eq_false hk]; rfl)
    have HZ : Hid (decide ((X.k : Int) ≤ d) = false) := decide_eq_false hk
    go_wp2_with fail
    refine (KA.out _ hb1).mono ?_
    rintro e2 w2 ⟨A2, c2, rfl, hd2, hb2⟩
    clear a0 a1 a2 a3 a4 a5 a6 a7 a8 a9 a10 a11 a12 a13
    go_wp2_with fail
    refine (KC.out _ _ _ hb2 hd2).mono ?_
    rintro e3 w3 ⟨rfl, hb3⟩
    rw [← HQ.out]
    go_wp2_with fail
    go_ret
    exact ⟨by first | rfl | simp [HZ.out], HO.out _ hb3⟩
end Go.Proofs.YtbgilpmoijdcfaaGreat

/-
  A map of numbers to values of any kind: what is found in it, what is put into it.
-/
namespace Go.Proofs.YtbgilpmoijdcfaaGreat
open Go Go.RowKit
set_option linter.unusedVariables false
set_option linter.unusedSimpArgs false

/-- what a list of numbers and values says of a number. -/
def sayI (l : List (Int × Value)) (s : Int) : Option Value := (l.find? (fun x => decide (x.1 = s))).map (·.2)
/-- a map's block says this of each name. -/
def MapAtI (W : World) (mb : Nat) (f : Int → Option Value) : Prop := ∃ es ck, W.heap[mb]? = some (.map es ck) ∧ ∃ l : List (Int × Value), es.toList.map (fun e => (e.key, e.val)) = l.map (fun x => (Value.int .i64 x.1, x.2)) ∧ ∀ s, f s = sayI l s
theorem MapAtI.stay {W W' : World} {mb : Nat} {f : Int → Option Value} (h : MapAtI W mb f) (hb : W'.heap[mb]? = W.heap[mb]?) : MapAtI W' mb f := by
  obtain ⟨es, ck, h1, h2⟩ := h
  exact ⟨es, ck, hb.trans h1, h2⟩
theorem MapAtI.lt {W : World} {mb : Nat} {f : Int → Option Value} (h : MapAtI W mb f) : mb < W.heap.size := by
  obtain ⟨es, ck, h1, h2⟩ := h
  exact (Array.getElem?_eq_some_iff.1 h1).1
theorem MapAtI.new (W : World) : MapAtI (W.alloc (.map #[] 0)) W.heap.size (fun _ => none) := ⟨#[], 0, heap_alloc_new W _, [], rfl, fun s => rfl⟩
theorem findNow_sayI (s : Int) : ∀ (es : List MapEntry) (l : List (Int × Value)) (i : Nat), es.map (fun e => (e.key, e.val)) = l.map (fun x => (Value.int .i64 x.1, x.2)) → ∃ r, Instr.findNow (.int .i64) (.int .i64 s) es i = some r ∧ r.map (·.2) = sayI l s ∧ (∀ j v, r = some (j, v) → i ≤ j ∧ ∃ e, es[j - i]? = some e ∧ e.key = .int .i64 s ∧ ∀ k, k < j - i → ∀ e', es[k]? = some e' → e'.key ≠ .int .i64 s)
  | [], l, i, h => by
    have : l = [] := by cases l with | nil => rfl | cons a b => simp at h
    subst this
    exact ⟨none, rfl, rfl, fun j v e => by cases e⟩
  | e :: es, [], i, h => by simp at h
  | e :: es, x :: l, i, h => by
    simp only [List.map_cons, List.cons.injEq, Prod.mk.injEq] at h
    obtain ⟨⟨hk, hv⟩, hr⟩ := h
    by_cases hx : x.1 = s
    · refine ⟨some (i, e.val), ?_, ?_, ?_⟩
      · simp [Instr.findNow, Instr.sameNow, hk, hx]
      · simp [sayI, hx, hv]
      · intro j v ej
        simp only [Option.some.injEq, Prod.mk.injEq] at ej
        obtain ⟨rfl, rfl⟩ := ej
        refine ⟨Nat.le_refl _, e, by simp, by rw [hk, hx], fun k hk2 => by omega⟩
    · obtain ⟨r, h1, h2, h3⟩ := findNow_sayI s es l (i + 1) hr
      have hne : (s == x.1) = false := by simp; exact fun e => hx e.symm
      refine ⟨r, ?_, ?_, ?_⟩
      · simp [Instr.findNow, Instr.sameNow, hk, hne, h1]
      · rw [h2]
        simp [sayI, hx]
      · intro j v ej
        obtain ⟨h4, e', h5, h6, h7⟩ := h3 j v ej
        refine ⟨by omega, e', ?_, h6, ?_⟩
        · rw [show j - i = (j - (i + 1)) + 1 by omega]
          simpa using h5
        · intro k hk2 e'' he
          match k, he with
          | 0, he =>
            simp only [List.getElem?_cons_zero, Option.some.injEq] at he
            subst he
            rw [hk]
            intro e3
            injection e3 with _ e3
            exact hx e3
          | k + 1, he =>
            exact h7 k (by omega) e'' (by simpa using he)
theorem run_lookupI {P : Program} {t k E : TypeId} {W : World} {mb : Nat} {f : Int → Option Value} {z : Value} (ht : P.underlying t = some (.map k E)) (hk : P.underlying k = some (.int .i64)) (hz : ∀ W, (zeroValue E).run P W = .ok z W) (h : MapAtI W mb f) (s : Int) :
    (Instr.lookup t (.map (some mb)) (.int .i64 s) true).run P W = .ok (.tuple #[(f s).getD z, .bool (f s).isSome]) W := by
  obtain ⟨es, ck, h1, l, h2, h3⟩ := h
  obtain ⟨r, h4, h5, -⟩ := findNow_sayI s es.toList l 0 h2
  have hf : f s = r.map (·.2) := by rw [h5, h3]
  have hg : (getObj mb).run P W = .ok (.map es ck) W := by simp [getObj, Sem.run, h1]
  rw [hf]
  have hfk : (Instr.findKey k (.int .i64 s) es.toList).run P W = .ok r W := by
    unfold Instr.findKey
    simp [run_underlying hk, h4]
  have hck : (Instr.checkKey es.isEmpty 10000 k (.int .i64 s)).run P W = .ok () W := by
    rw [show (10000 : Nat) = 9999 + 1 from rfl, Instr.checkKey]
    simp [run_underlying hk]
  unfold Instr.lookup
  cases r with
  | none => simp [run_underlying ht, run_underlying hk, hg, hck, hfk, hz]
  | some jv => simp [run_underlying ht, run_underlying hk, hg, hck, hfk]
theorem sayI_set (s x : Int) (v : Value) : ∀ (l : List (Int × Value)) (j : Nat) (hj : j < l.length), l[j].1 = s → (∀ k (hk : k < j), l[k].1 ≠ s) → sayI (l.set j (s, v)) x = if x = s then some v else sayI l x
  | a :: l, 0, _, h1, _ => by
    simp only [List.getElem_cons_zero] at h1
    by_cases hx : x = s
    · simp [sayI, hx]
    · have h2 : ¬ a.1 = x := fun e => hx (e ▸ h1)
      have h3 : ¬ s = x := fun e => hx e.symm
      simp [sayI, hx, h2, h3]
  | a :: l, j + 1, hj, h1, h2 => by
    have ih := sayI_set s x v l j (by simpa using hj) (by simpa using h1) (fun k hk => by have := h2 (k + 1) (by omega); simpa using this)
    have h0 : ¬ a.1 = s := by have := h2 0 (by omega); simpa using this
    by_cases ha : a.1 = x
    · have hx : ¬ x = s := fun e => h0 (ha.trans e)
      simp [sayI, ha, hx]
    · have e1 : sayI ((a :: l).set (j + 1) (s, v)) x = sayI (l.set j (s, v)) x := by simp [sayI, ha]
      have e2 : sayI (a :: l) x = sayI l x := by simp [sayI, ha]
      rw [e1, e2, ih]
/-- put into a map. -/
theorem run_updateI {P : Program} {t k E : TypeId} {W : World} {mb : Nat} {f g : Int → Option Value} (ht : P.underlying t = some (.map k E)) (hk : P.underlying k = some (.int .i64)) (h : MapAtI W mb f) (s : Int) (v : Value) (hg : ∀ x, g x = if x = s then some v else f x) :
    ∃ W', (Instr.mapUpdate t (.map (some mb)) (.int .i64 s) v).run P W = .ok () W' ∧ MapAtI W' mb g ∧ W'.os = W.os ∧ W'.tape = W.tape ∧ W'.output = W.output ∧ W'.heap.size = W.heap.size ∧ ∀ j, j ≠ mb → W'.heap[j]? = W.heap[j]? := by
  obtain ⟨es, ck, h1, l, h2, h3⟩ := h
  obtain ⟨r, h4, h5, h6⟩ := findNow_sayI s es.toList l 0 h2
  have hgo : (getObj mb).run P W = .ok (.map es ck) W := by simp [getObj, Sem.run, h1]
  have hso : ∀ o, (setObj mb o).run P W = .ok () (W.putObj mb o) := fun o => by simp [setObj, Sem.run, h1, World.putObj]
  have hfk : (Instr.findKey k (.int .i64 s) es.toList).run P W = .ok r W := by
    unfold Instr.findKey
    simp [run_underlying hk, h4]
  have hck : (Instr.checkKey false 10000 k (.int .i64 s)).run P W = .ok () W := by
    rw [show (10000 : Nat) = 9999 + 1 from rfl, Instr.checkKey]
    simp [run_underlying hk]
  have hml : mb < W.heap.size := (Array.getElem?_eq_some_iff.1 h1).1
  cases r with
  | none =>
    refine ⟨W.putObj mb (.map (es.push { key := .int .i64 s, val := v, born := ck }) (ck + 1)), ?_, ⟨_, _, World.putObj_heap_same hml, l ++ [(s, v)], ?_, fun x => ?_⟩, rfl, rfl, rfl, ?_, fun j hj => ?_⟩
    · unfold Instr.mapUpdate
      simp [run_underlying ht, hgo, hck, hfk, hso]
    · simp [h2]
    · rw [hg x, h3 x]
      have hn : sayI l s = none := h5.symm
      by_cases hx : x = s
      · subst hx
        unfold sayI at hn ⊢
        rw [Option.map_eq_none_iff] at hn
        simp [List.find?_append, hn]
      · have h9 : ¬ s = x := fun e => hx e.symm
        simp [sayI, List.find?_append, hx, h9]
    · simp
    · exact World.putObj_heap_other hj
  | some jv =>
    obtain ⟨j, vo⟩ := jv
    obtain ⟨-, e, he, hek, hfirst⟩ := h6 j vo rfl
    simp only [Nat.sub_zero] at he hfirst
    have hjl : j < es.size := by
      have := (List.getElem?_eq_some_iff.1 he).1
      simpa using this
    have hej : es[j]? = some e := by rw [← Array.getElem?_toList]; exact he
    have hks : (Instr.keyThatStays (((es[j]?).map (·.key)).getD (.int .i64 s)) (.int .i64 s)).run P W = .ok (.int .i64 s) W := by
      rw [hej]
      simp only [Option.map_some, Option.getD_some, hek]
      unfold Instr.keyThatStays
      have : Instr.sameBits 10000 (.int .i64 s) (.int .i64 s) = true := by
        rw [show (10000 : Nat) = 9999 + 1 from rfl, Instr.sameBits]
        simp
      simp [this]
    have hl : l.length = es.size := by
      have := congrArg List.length h2
      simpa using this.symm
    have hjl2 : j < l.length := by omega
    have hlk : ∀ (i : Nat) (hi : i < l.length), (es[i]'(by omega)).key = .int .i64 l[i].1 ∧ (es[i]'(by omega)).val = l[i].2 := fun i hi => by
      have h8 : (es.toList.map (fun e => (e.key, e.val)))[i]? = (l.map (fun x => (Value.int .i64 x.1, x.2)))[i]? := by rw [h2]
      have hi2 : i < es.size := by omega
      simp [hi, hi2] at h8
      exact h8
    refine ⟨W.putObj mb (.map (es.modify j fun e => { e with key := .int .i64 s, val := v }) ck), ?_, ⟨_, _, World.putObj_heap_same hml, l.set j (s, v), ?_, fun x => ?_⟩, rfl, rfl, rfl, by simp, fun i hi => World.putObj_heap_other hi⟩
    · unfold Instr.mapUpdate
      simp [run_underlying ht, hgo, hck, hfk, hks, hso]
    · apply List.ext_getElem
      · simp [hl]
      · intro i h7 h8
        simp only [List.length_map, Array.length_toList, Array.size_modify] at h7
        have hil : i < l.length := by omega
        by_cases hij : i = j
        · subst hij
          simp [Array.getElem_modify]
        · have := hlk i hil
          have h9 : ¬ j = i := fun e => hij e.symm
          simp [Array.getElem_modify, h9, this.1, this.2, List.getElem_set]
    · rw [hg x, h3 x]
      refine (sayI_set s x v l j hjl2 ?_ ?_).symm
      · have h8 := (hlk j hjl2).1
        have h9 : es[j] = e := by
          have := Array.getElem?_eq_getElem hjl
          rw [this] at hej
          injection hej
        rw [h9, hek] at h8
        injection h8 with _ h8
        exact h8.symm
      · intro k hk e2
        have h8 := (hlk k (by omega)).1
        refine hfirst k hk (es[k]'(by omega)) ?_ ?_
        · rw [List.getElem?_eq_getElem (by simp; omega)]
          simp
        · rw [h8, e2]
end Go.Proofs.YtbgilpmoijdcfaaGreat

/-
  rules: a program's inputs and outputs, BY A CONTRACT.
-/
namespace Go.Proofs.YtbgilpmoijdcfaaGreat
open Go Go.RowKit Go.Shelf
set_option linter.unusedVariables false
set_option linter.unusedSimpArgs false

theorem Tryz.underSlots : Tryz.prog.underlying 91 = some (.map 3 93) := by kernel_rfl
/-- a map of numbers that were met. -/
def metI (l : List Int) (s : Int) : Option Value := if s ∈ l then some (.agg #[]) else none
theorem metI_val (l : List Int) (s : Int) : (metI l s).getD (.agg #[]) = .agg #[] := by unfold metI; split <;> rfl
theorem metI_is (l : List Int) (s : Int) : (metI l s).isSome = decide (s ∈ l) := by
  unfold metI
  by_cases h : s ∈ l <;> simp [h]
theorem metI_snoc (l : List Int) (s x : Int) : metI (l ++ [s]) x = if x = s then some (.agg #[]) else metI l x := by
  unfold metI
  by_cases h : x = s
  · simp [h]
  · simp [h]
theorem lookup_slots {W : World} {mb : Nat} {l : List Int} (h : MapAtI W mb (metI l)) (s : Int) :
    (Instr.lookup 91 (.map (some mb)) (.int .i64 s) true).run Tryz.prog W = .ok (.tuple #[.agg #[], .bool (decide (s ∈ l))]) W := by
  have := run_lookupI (P := Tryz.prog) (t := 91) (k := 3) (E := 93) (by kernel_rfl) (by kernel_rfl) run_zeroUnit h s
  rw [metI_val, metI_is] at this
  exact this
def outSlots (l : List VT) : List Int := (l.filter fun v => decide (v.dir = 2)).map VT.slot
theorem outSlots_step {l : List VT} {k : Nat} (hk : k < l.length) : outSlots (l.take (k + 1)) = outSlots (l.take k) ++ (if l[k].dir = 2 then [l[k].slot] else []) := by
  unfold outSlots
  rw [List.take_succ_eq_append_getElem hk, List.filter_append, List.map_append]
  by_cases h : l[k].dir = 2 <;> simp [h]
def takenT (L : List DT) : List Int := L.flatMap fun d => outSlots d.vars
theorem taken_step {L : List DT} {k : Nat} (hk : k < L.length) : takenT (L.take (k + 1)) = takenT (L.take k) ++ outSlots L[k].vars := by
  unfold takenT
  rw [List.take_succ_eq_append_getElem hk, List.flatMap_append]
  simp
def oddSlotT : List Int → List VT → Bool
  | _, [] => false
  | T, v :: r => if v.dir ≠ 0 ∧ btwT v.slot 0 7 = false then true else if v.dir = 2 then (if v.slot ∈ T then true else oddSlotT (T ++ [v.slot]) r) else oddSlotT T r
/-- what a walk over variables has met; nothing else is changed. -/
structure Sl (w2 : World) (m0 : Nat) (T : List Int) (W : World) : Prop where
  keep : Keep w2.heap.size m0 m0 w2 W
  map : MapAtI W m0 (metI T)
theorem Sl.below {w2 : World} {m0 : Nat} {T : List Int} {W W' : World} (h : Sl w2 m0 T W) (hb : Below W.heap.size W W') : Sl w2 m0 T W' := ⟨h.keep.trans (Keep.of_below (hb.mono h.keep.size)), h.map.stay (hb.block _ h.map.lt)⟩
theorem Sl.alloc {w2 : World} {m0 : Nat} {T : List Int} {W : World} (h : Sl w2 m0 T W) (o : Obj) : Sl w2 m0 T (W.alloc o) := h.below ((Below.refl _ _).alloc (Nat.le_refl _) _)
/-- a number is put into the map. -/
theorem Sl.put {w2 : World} {m0 : Nat} {T : List Int} {W : World} (h : Sl w2 m0 T W) (s : Int) : ∃ W', (Instr.mapUpdate 91 (.map (some m0)) (.int .i64 s) (.agg #[])).run Tryz.prog W = .ok () W' ∧ Hid (Sl w2 m0 (T ++ [s]) W') := by
  obtain ⟨W', hup, hmap, hos, htp, hou, hsz, hbl⟩ := run_updateI (P := Tryz.prog) (t := 91) (k := 3) (E := 93) (by kernel_rfl) (by kernel_rfl) h.map s (.agg #[]) (g := metI (T ++ [s])) (fun x => by rw [metI_snoc])
  exact ⟨W', hup, h.keep.trans ⟨hos, htp, hou, by rw [hsz]; exact Nat.le_refl _, fun j _ h2 _ => hbl j h2⟩, hmap⟩
theorem DcRow.row {B N0 : Nat} {w : World} {A : Option Addr} {c : Nat} {l : List DT} (h : DcRow B N0 w A c l) : RowIn (DIn w N0) w w.heap.size A 11 l := by
  obtain ⟨xs, h1, h2⟩ := h
  obtain ⟨A', c', e, h3⟩ := row_owned (R := DIn w N0) rfl h1 h2
  simp only [Value.slice.injEq, true_and] at e
  obtain ⟨rfl, rfl⟩ := e
  exact h3
theorem DcRow.keep {B N0 m0 : Nat} {w w' : World} {A : Option Addr} {c : Nat} {l : List DT} (h : DcRow B N0 w A c l) (hN : N0 ≤ m0) (hm : m0 < B) (hmw : m0 ≤ w.heap.size) (hk : Keep w.heap.size m0 m0 w w') : DcRow B N0 w' A c l := by
  obtain ⟨xs, h1, h2⟩ := h
  refine ⟨xs, ⟨h1.1, ?_⟩, fun k hk2 => DIn.mono (Nat.le_refl _) (fun g hg => hk.block g (by omega) (by omega) (by omega)) (h2 k hk2)⟩
  rcases h1.2 with h0 | ⟨g, cap, cur, hv, hbg, hg, rest⟩
  · exact .inl h0
  · refine .inr ⟨g, cap, cur, hv, hbg, ?_, rest⟩
    have : g < w.heap.size := (Array.getElem?_eq_some_iff.1 hg).1
    rw [hk.block g this (by omega) (by omega)]
    exact hg
set_option maxHeartbeats 4000000 in
set_option maxRecDepth 100000 in
theorem hasOddSlot_any (X : AX) (I : IX) (w : World) (h : XOk X w I) (hv : ∀ d ∈ X.L, d.vars.length ≤ 1000000000) :
    Calls Tryz.prog 28 #[X.val] w fun e w' => e = .returned (.bool (oddSlotT (takenT (aheadT X.L X.k 3)) X.D.vars)) ∧ Hid (Below w.heap.size w w') := by
  obtain ⟨R0, hR0⟩ : ∃ R0 : World, R0 = w.alloc (.cells X.cells 55) := ⟨_, rfl⟩
  have B0 : ABox X w R0 I := hR0 ▸ ABox.of h
  have HB0 : Hid (Below R0.heap.size R0 R0) := Below.refl _ _
  have HO : Hid (∀ W, Hid (Below R0.heap.size R0 W) → Hid (Below w.heap.size w W)) := fun W hW => B0.below.trans (hW.out.mono B0.below.size)
  have OK : Hid (∀ W, Hid (Below R0.heap.size R0 W) → XOk X W I) := fun W hW => B0.ok.below hW.out
  have CE : Hid (∀ W, Hid (Below R0.heap.size R0 W) → ACells X W w.heap.size) := fun W hW => B0.cells (XTo.of_below (I := I) hW.out)
  have BX : Hid (∀ W, Hid (Below R0.heap.size R0 W) → W.heap[w.heap.size]? = some (.cells X.cells 55 (0, 0))) := fun W hW => B0.stays (XTo.of_below (I := I) hW.out)
  obtain ⟨a0, a1, a2, a3, a4, a5, a6, a7, a8, a9, a10, a11, a12, a13⟩ := CE.out _ HB0
  have HR0 := Lib.hid hR0
  rw [hR0] at a0 a1 a2 a3 a4 a5 a6 a7 a8 a9 a10 a11 a12 a13
  clear hR0 
  have hN : X.N < w.heap.size := h.ix.lt
  have hvD : X.D.vars.length ≤ 1000000000 := by rw [h.decl]; exact hv _ (List.getElem_mem _)
  have hal : (aheadT X.L X.k 3).length ≤ 1000000000 := Nat.le_trans (ahead_len X.L X.k 3) h.fit.toFit.cnt
  have hva : ∀ d ∈ aheadT X.L X.k 3, d.vars.length ≤ 1000000000 := fun d hd => hv d (List.mem_of_mem_take (List.mem_filter.1 hd).1)
  obtain ⟨out, hout⟩ : ∃ l, l = aheadT X.L X.k 3 := ⟨_, rfl⟩
  obtain ⟨m0, hm0⟩ : ∃ m, m = R0.heap.size := ⟨_, rfl⟩
  have hm1 : w.heap.size < m0 := by rw [hm0]; exact B0.lt
  have hmm : ∀ W : World, (Instr.makeMap 91 none).run Tryz.prog W = .ok (.map (some W.heap.size)) (W.alloc (.map #[] 0)) := fun W => by simp [Instr.makeMap, run_underlying Tryz.underSlots, asInt, asIntOf]
  have KA : Hid (Calls Tryz.prog 63 #[X.val, .int .i64 3] (R0.alloc (.map #[] 0)) fun e w2 => ∃ A' c', e = .returned (.slice A' out.length c') ∧ Hid (DcRow (m0 + 1) X.N w2 A' c' out) ∧ Hid (Sl w2 m0 [] w2) ∧ Hid (Below R0.heap.size R0 w2) ∧ Hid (m0 < w2.heap.size)) := by
    have hbm : Below R0.heap.size R0 (R0.alloc (.map #[] 0)) := (Below.refl _ _).alloc (Nat.le_refl _) _
    refine (ahead_any X I 3 _ (OK.out _ hbm)).mono fun e w2 ⟨A', c', h1, h2, h3⟩ => ⟨A', c', by rw [hout]; exact h1, ?_, ?_, hbm.trans (h3.out.mono hbm.size), ?_⟩
    · rw [hout, hm0]
      simpa using h2
    · have hmap : MapAtI (R0.alloc (.map #[] 0)) R0.heap.size (metI []) := by have := MapAtI.new R0; exact this
      exact ⟨Keep.refl _ _ _ _, by rw [hm0]; exact hmap.stay (h3.out.block _ hmap.lt)⟩
    · have := h3.out.size
      rw [hm0]
      simp at this
      show _ < _
      omega
  have HN2 : Hid (X.N < w.heap.size ∧ w.heap.size < m0) := ⟨hN, hm1⟩
  have BK : Hid (∀ w2 W, Hid (Below R0.heap.size R0 w2) → Keep w2.heap.size m0 m0 w2 W → Hid (Below R0.heap.size R0 W)) := fun w2 W h2 hk => ⟨hk.os.trans h2.out.os, hk.tape.trans h2.out.tape, hk.output.trans h2.out.output, Nat.le_trans h2.out.size hk.size, fun g hg => (hk.block g (Nat.lt_of_lt_of_le hg h2.out.size) (by omega) (by omega)).trans (h2.out.block g hg)⟩
  obtain ⟨r, hr⟩ : ∃ r, r = oddSlotT (takenT (aheadT X.L X.k 3)) X.D.vars := ⟨_, rfl⟩
  rw [← hr]
  rw [← hout] at hal hva
  have HR : Hid (r = oddSlotT (takenT out) X.D.vars) := by rw [hr, hout]; rfl
  have HVA := Lib.hid hva
  have hm0' := Lib.hid hm0
  have HMW : Hid (m0 = w.heap.size + 1) := Lib.hid (by rw [hm0, HR0.out]; simp)
  have cc : ∀ (j : Nat) (u : Value), X.cells[j]? = some u → ((w.alloc (.cells X.cells 55)).alloc (.map #[] 0)).cell? ⟨w.heap.size, j, none⟩ = some u := fun j u hj => by
    have q := BX.out (R0.alloc (.map #[] 0)) ((Below.refl _ _).alloc (Nat.le_refl _) _)
    rw [HR0.out] at q
    rw [cell_of_row _ _ j _ _ _ q]
    simpa using hj
  have b0 := cc 0 _ rfl
  have b1 := cc 1 _ rfl
  have b2 := cc 2 _ rfl
  have b3 := cc 3 _ rfl
  have b4 := cc 4 _ rfl
  have b5 := cc 5 _ rfl
  have b6 := cc 6 _ rfl
  have b7 := cc 7 _ rfl
  have b8 := cc 8 _ rfl
  have b9 := cc 9 _ rfl
  have b10 := cc 10 _ rfl
  have b11 := cc 11 _ rfl
  have b12 := cc 12 _ rfl
  have b13 := cc 13 _ rfl
  clear hr hout B0 h hv hva cc a0 a1 a2 a3 a4 a5 a6 a7 a8 a9 a10 a11 a12 a13 hm0 hN hm1
  go_enter Tryz.func28, Tryz.ntmps28
  go_wp2_with fail
  rw [← HR0.out]
  refine KA.out.mono ?_
  rintro e2 w2 ⟨A, c, rfl, hrow, hsl, hb2, hm2⟩
  clear b0 b1 b2 b3 b4 b5 b6 b7 b8 b9 b10 b11 b12 b13 hmm
  rw [← HMW.out]
  go_wp2_with fail
  go_loopw [16] (fun i wr => ∃ k : Nat, k ≤ out.length ∧ i = .int .i64 k ∧ Hid (Sl w2 m0 (takenT (out.take k)) wr)) (fun i _ => out.length - (intOf i).toNat)
  case atStart => exact ⟨0, Nat.zero_le _, rfl, hsl⟩
  case round =>
    obtain ⟨k, hk, rfl, hsk⟩ := hrel
    have h2 : (0 : Int) ≤ (k : Int) := by omega
    by_cases hlt : k < out.length
    · have h1 : (k : Int) < (out.length : Int) := by omega
      have hst := taken_step hlt
      obtain ⟨g, o, cs, rfl, hg, hlen, hc, he⟩ := (hrow.out.keep (by have := HN2.out; omega) (by omega) (by have := hm2.out; show m0 ≤ w2.heap.size; exact Nat.le_of_lt this) hsk.out.keep).row k hlt
      obtain ⟨D, hD⟩ : ∃ D : DT, D = out[k] := ⟨_, rfl⟩
      have hDl : D.vars.length ≤ 1000000000 := by rw [hD]; exact HVA.out _ (List.getElem_mem _)
      rw [← hD] at he hst
      obtain ⟨P1, q1, P2, q2, P3, q3, P4, q4, rfl, -, -, -, hvs, -⟩ := he
      have y0 := hc 0 (.int .i64 D.kind) rfl
      have y1 := hc 1 (.string D.name) rfl
      have y2 := hc 2 (.string D.base) rfl
      have y3 := hc 3 (.slice P1 D.faces.length q1) rfl
      have y4 := hc 4 (.bool D.abstract) rfl
      have y5 := hc 5 (.bool D.final) rfl
      have y6 := hc 6 (.slice P2 D.vars.length q2) rfl
      have y7 := hc 7 (.slice P3 D.methods.length q3) rfl
      have y8 := hc 8 (.slice P4 D.body.length q4) rfl
      have y9 := hc 9 (.int .i64 D.every) rfl
      have y10 := hc 10 (.int .i64 D.first) rfl
      rw [Nat.add_zero] at y0
      have g1 : (wr.alloc (.cells (declV D P1 P2 P3 P4 q1 q2 q3 q4) 28)).heap[wr.heap.size]? = some (.cells (declV D P1 P2 P3 P4 q1 q2 q3 q4) 28 (0, 0)) := heap_alloc_new wr _
      have x6 : (wr.alloc (.cells #[.int .i64 D.kind, .string D.name, .string D.base, .slice P1 D.faces.length q1, .bool D.abstract, .bool D.final, .slice P2 D.vars.length q2, .slice P3 D.methods.length q3, .slice P4 D.body.length q4, .int .i64 D.every, .int .i64 D.first] 28)).cell? ⟨wr.heap.size, 6, none⟩ = some (.slice P2 D.vars.length q2) := (cell_of_row _ _ 6 _ _ _ g1).trans rfl
      have HS1 : Hid (Sl w2 m0 (takenT (out.take k)) (wr.alloc (.cells #[.int .i64 D.kind, .string D.name, .string D.base, .slice P1 D.faces.length q1, .bool D.abstract, .bool D.final, .slice P2 D.vars.length q2, .slice P3 D.methods.length q3, .slice P4 D.body.length q4, .int .i64 D.every, .int .i64 D.first] 28))) := hsk.out.alloc _
      have HVS : Hid (VsR wr X.N P2 D.vars) := hvs
      have HST := Lib.hid hst
      have HVX : Hid (∀ W, Keep w2.heap.size m0 m0 w2 W → VsR W X.N P2 D.vars) := fun W hW => VsR.mono (Nat.le_refl _) (fun g2 hg2 => by
        have h3 := HN2.out
        have h4 := hm2.out
        have h5 : g2 < w2.heap.size := by
          show g2 < w2.heap.size
          have : m0 < w2.heap.size := h4
          omega
        exact (hW.block g2 h5 (by omega) (by omega)).trans (hsk.out.keep.block g2 h5 (by omega) (by omega)).symm) HVS.out
      have HD := Lib.hid hD
      clear hc hlen hg hst hvs hD g1
      go_wp2_with fail
      go_loopw [23] (fun i wr => ∃ j : Nat, j ≤ D.vars.length ∧ i = .int .i64 j ∧ Hid (Sl w2 m0 (takenT (out.take k) ++ outSlots (D.vars.take j)) wr)) (fun i _ => D.vars.length - (intOf i).toNat)
      case atStart => exact ⟨0, Nat.zero_le _, rfl, by have := HS1.out; unfold Hid; simpa [outSlots] using this⟩
      case round =>
        clear y0 y1 y2 y3 y4 y5 y6 y7 y8 y9 y10 x6
        obtain ⟨j, hj, rfl, hsj⟩ := hrel
        have k2 : (0 : Int) ≤ (j : Int) := by omega
        by_cases hjt : j < D.vars.length
        · have k1 : (j : Int) < (D.vars.length : Int) := by omega
          have hst := outSlots_step hjt
          obtain ⟨gv, ov, cs, rfl, hgv, hlen, hc, he⟩ := (HVX.out _ hsj.out.keep) j hjt
          obtain ⟨v, hv⟩ : ∃ v : VT, v = D.vars[j] := ⟨_, rfl⟩
          rw [← hv] at he hst
          obtain ⟨rfl, -⟩ := he
          have y0 := hc 0 (.string v.name) rfl
          have y1 := hc 1 (.int .i64 v.type.kind) rfl
          have y2 := hc 2 (.int .i64 v.type.lo) rfl
          have y3 := hc 3 (.int .i64 v.type.hi) rfl
          have y4 := hc 4 (.string v.type.name) rfl
          have y5 := hc 5 (.int .i64 v.init) rfl
          have y6 := hc 6 (.int .i64 v.dir) rfl
          have y7 := hc 7 (.int .i64 v.slot) rfl
          rw [Nat.add_zero] at y0
          obtain ⟨R1, hR1⟩ : ∃ R1 : World, R1 = wr.alloc (.cells #[.string v.name, .int .i64 v.type.kind, .int .i64 v.type.lo, .int .i64 v.type.hi, .string v.type.name, .int .i64 v.init, .int .i64 v.dir, .int .i64 v.slot] 41) := ⟨_, rfl⟩
          have g1 : R1.heap[wr.heap.size]? = some (.cells #[.string v.name, .int .i64 v.type.kind, .int .i64 v.type.lo, .int .i64 v.type.hi, .string v.type.name, .int .i64 v.init, .int .i64 v.dir, .int .i64 v.slot] 41 (0, 0)) := by rw [hR1]; exact heap_alloc_new wr _
          have x6 : R1.cell? ⟨wr.heap.size, 6, none⟩ = some (.int .i64 v.dir) := (cell_of_row _ _ 6 _ _ _ g1).trans rfl
          have x7 : R1.cell? ⟨wr.heap.size, 7, none⟩ = some (.int .i64 v.slot) := (cell_of_row _ _ 7 _ _ _ g1).trans rfl
          have HR1 := Lib.hid hR1
          have hs1 : Sl w2 m0 (takenT (out.take k) ++ outSlots (D.vars.take j)) R1 := hR1 ▸ hsj.out.alloc _
          by_cases hd : v.dir = 2
          · obtain ⟨W5, hup, hs5⟩ := hs1.put v.slot
            have HS5 : Hid (Sl w2 m0 (takenT (out.take k) ++ outSlots (D.vars.take (j + 1))) W5) := by rw [hst, if_pos hd, ← List.append_assoc]; exact hs5
            rw [hR1] at x6 x7 hup
            have qd : (v.dir == 2) = true := by rw [hd]; rfl
            clear hc hlen hgv hv hst g1 hR1 hs1 hs5 hd
            go_wp2_with fail
            go_roundw
            case rel => exact ⟨j + 1, by omega, by go_num, HS5⟩
            case measure => simp [intOf]; omega
          · have HS5 : Hid (Sl w2 m0 (takenT (out.take k) ++ outSlots (D.vars.take (j + 1))) R1) := by rw [hst, if_neg hd, List.append_nil]; exact hs1
            have qd := eq_no hd
            rw [hR1] at x6 x7
            clear hc hlen hgv hv hst g1 hR1 hs1 hd
            go_wp2_with fail
            go_roundw
            case rel => exact ⟨j + 1, by omega, by go_num, HR1.out ▸ HS5⟩
            case measure => simp [intOf]; omega
        · have k1 : ¬ (j : Int) < (D.vars.length : Int) := by omega
          have HS6 : Hid (Sl w2 m0 (takenT (out.take (k + 1))) wr) := by
            have h7 := hsj.out
            have e9 : D.vars.take j = D.vars := List.take_of_length_le (by omega)
            rw [e9] at h7
            rw [HST.out]
            exact h7
          go_wp2_with fail
          go_roundw
          case rel => exact ⟨k + 1, by omega, by go_num, HS6⟩
          case measure => simp [intOf]; omega
    · have h1 : ¬ (k : Int) < (out.length : Int) := by omega
      have hs3 := hsk.out
      rw [List.take_of_length_le (by omega)] at hs3
      have HBr := BK.out _ _ hb2 hs3.keep
      have HS3 := Lib.hid hs3
      have VR : Hid (∀ W, Keep w2.heap.size m0 m0 w2 W → VsR W X.N X.A2 X.D.vars) := fun W hW => (OK.out _ (BK.out _ _ hb2 hW)).vars
      have a9 := (CE.out _ HBr).vars
      obtain ⟨A2, hA2⟩ : ∃ A2, A2 = X.A2 := ⟨_, rfl⟩
      rw [← hA2] at a9 VR
      clear hA2
      clear hs3 hsk hlt hk
      go_wp2_with fail
      go_loopw [40] (fun i wr => ∃ (j : Nat) (T : List Int), j ≤ X.D.vars.length ∧ i = .int .i64 j ∧ Hid (Sl w2 m0 T wr) ∧ Hid (r = oddSlotT T (X.D.vars.drop j))) (fun i _ => X.D.vars.length - (intOf i).toNat)
      case atStart => exact ⟨0, takenT out, Nat.zero_le _, rfl, HS3, HR⟩
      case round =>
        clear a9
        obtain ⟨j, T, hj, rfl, hsj, hrj⟩ := hrel
        have k2 : (0 : Int) ≤ (j : Int) := by omega
        by_cases hjt : j < X.D.vars.length
        · have k1 : (j : Int) < (X.D.vars.length : Int) := by omega
          obtain ⟨gv, ov, cs, rfl, hgv, hlen, hc, he⟩ := (VR.out _ hsj.out.keep) j hjt
          obtain ⟨v, hv⟩ : ∃ v : VT, v = X.D.vars[j] := ⟨_, rfl⟩
          have hrv := hrj.out
          rw [List.drop_eq_getElem_cons hjt, ← hv, oddSlotT] at hrv
          rw [← hv] at he
          obtain ⟨rfl, -⟩ := he
          have y0 := hc 0 (.string v.name) rfl
          have y1 := hc 1 (.int .i64 v.type.kind) rfl
          have y2 := hc 2 (.int .i64 v.type.lo) rfl
          have y3 := hc 3 (.int .i64 v.type.hi) rfl
          have y4 := hc 4 (.string v.type.name) rfl
          have y5 := hc 5 (.int .i64 v.init) rfl
          have y6 := hc 6 (.int .i64 v.dir) rfl
          have y7 := hc 7 (.int .i64 v.slot) rfl
          rw [Nat.add_zero] at y0
          obtain ⟨R1, hR1⟩ : ∃ R1 : World, R1 = wr.alloc (.cells #[.string v.name, .int .i64 v.type.kind, .int .i64 v.type.lo, .int .i64 v.type.hi, .string v.type.name, .int .i64 v.init, .int .i64 v.dir, .int .i64 v.slot] 41) := ⟨_, rfl⟩
          have g1 : R1.heap[wr.heap.size]? = some (.cells #[.string v.name, .int .i64 v.type.kind, .int .i64 v.type.lo, .int .i64 v.type.hi, .string v.type.name, .int .i64 v.init, .int .i64 v.dir, .int .i64 v.slot] 41 (0, 0)) := by rw [hR1]; exact heap_alloc_new wr _
          have x6 : R1.cell? ⟨wr.heap.size, 6, none⟩ = some (.int .i64 v.dir) := (cell_of_row _ _ 6 _ _ _ g1).trans rfl
          have x7 : R1.cell? ⟨wr.heap.size, 7, none⟩ = some (.int .i64 v.slot) := (cell_of_row _ _ 7 _ _ _ g1).trans rfl
          have HR1 := Lib.hid hR1
          have hs1 : Sl w2 m0 T R1 := hR1 ▸ hsj.out.alloc _
          have KB : Hid (Calls Tryz.prog 64 #[.int .i64 v.slot, .int .i64 0, .int .i64 7] R1 fun e w' => e = .returned (.bool (btwT v.slot 0 7)) ∧ Hid (Below R1.heap.size R1 w')) := between_any _ _ _ _
          have CV : Hid (∀ W, Hid (Below R1.heap.size R1 W) → W.cell? ⟨wr.heap.size, 6, none⟩ = some (.int .i64 v.dir) ∧ W.cell? ⟨wr.heap.size, 7, none⟩ = some (.int .i64 v.slot)) := fun W hW => by
            have q := (hW.out.block _ (Array.getElem?_eq_some_iff.1 g1).1).trans g1
            exact ⟨(cell_of_row _ _ 6 _ _ _ q).trans rfl, (cell_of_row _ _ 7 _ _ _ q).trans rfl⟩
          have HBR : Hid (Below R1.heap.size R1 R1) := Below.refl _ _
          have HS1 := Lib.hid hs1
          have HRV := Lib.hid hrv
          rw [hR1] at x6 x7
          have RET : Hid (∀ W T, Sl w2 m0 T W → Hid (Below w.heap.size w W)) := fun W T hW => HO.out _ (BK.out _ _ hb2 hW.keep)
          clear hc hlen hgv hv g1 hR1 hs1 hrv
          by_cases hd0 : v.dir = 0
          · have HQ : Hid (r = oddSlotT T (X.D.vars.drop (j + 1))) := Lib.hid (by rw [HRV.out, hd0, if_neg (by simp), if_neg (by simp)])
            have q0 : (v.dir != 0) = false := by rw [hd0]; rfl
            have q2 : (v.dir != 2) = true := by rw [hd0]; rfl
            clear hd0 KB CV
            go_wp2_with fail
            go_roundw
            case rel => exact ⟨j + 1, T, by omega, by go_num, HR1.out ▸ HS1, HQ⟩
            case measure => simp [intOf]; omega
          have q0 : (v.dir != 0) = true := by simp [hd0]
          go_wp2_with fail
          rw [← HR1.out]
          refine KB.out.mono ?_
          rintro e3 w3 ⟨rfl, hb3⟩
          clear x6 x7 y0 y1 y2 y3 y4 y5 y6 y7
          obtain ⟨x6, x7⟩ := CV.out _ hb3
          have HS2 : Hid (Sl w2 m0 T w3) := HS1.out.below hb3.out
          obtain ⟨bt, hbt⟩ : ∃ b, b = btwT v.slot 0 7 := ⟨_, rfl⟩
          rw [← hbt]
          cases bt
          · have HQ : Hid (r = true) := Lib.hid (by rw [HRV.out, if_pos ⟨hd0, hbt.symm⟩])
            have HO3 := RET.out _ _ HS2.out
            clear x6 x7 hbt
            go_wp2_with fail
            go_ret
            exact ⟨by rw [HQ.out]; rfl, HO3⟩
          by_cases hd2 : v.dir = 2
          · have hlk := lookup_slots HS2.out.map v.slot
            have q2 : (v.dir != 2) = false := by rw [hd2]; rfl
            obtain ⟨mb, hmb⟩ : ∃ b, b = decide (v.slot ∈ T) := ⟨_, rfl⟩
            rw [← hmb] at hlk
            have HSu : Hid (Sl w2 m0 T (w3.alloc (.cells #[] 93))) := HS2.out.alloc _
            cases mb
            · have HQ : Hid (r = oddSlotT (T ++ [v.slot]) (X.D.vars.drop (j + 1))) := Lib.hid (by rw [HRV.out, if_neg (by rw [← hbt]; simp), if_pos hd2, if_neg (of_decide_eq_false hmb.symm)])
              obtain ⟨W5, hup, hs5⟩ := HSu.out.put v.slot
              have u7 := (CV.out (w3.alloc (.cells #[] 93)) (hb3.out.alloc hb3.out.size _)).2
              clear hmb hbt hd2 hd0 
              go_wp2_with fail
              go_roundw
              case rel => exact ⟨j + 1, _, by omega, by go_num, hs5, HQ⟩
              case measure => simp [intOf]; omega
            · have HQ : Hid (r = true) := Lib.hid (by rw [HRV.out, if_neg (by rw [← hbt]; simp), if_pos hd2, if_pos (of_decide_eq_true hmb.symm)])
              have HO3 := RET.out _ _ HSu.out
              clear hmb hbt hd2 hd0
              go_wp2_with fail
              go_ret
              exact ⟨by rw [HQ.out]; rfl, HO3⟩
          · have HQ : Hid (r = oddSlotT T (X.D.vars.drop (j + 1))) := Lib.hid (by rw [HRV.out, if_neg (by rw [← hbt]; simp), if_neg hd2])
            have q2 : (v.dir != 2) = true := by simp [hd2]
            clear hbt hd2 hd0
            go_wp2_with fail
            go_roundw
            case rel => exact ⟨j + 1, T, by omega, by go_num, HS2, HQ⟩
            case measure => simp [intOf]; omega
        · have k1 : ¬ (j : Int) < (X.D.vars.length : Int) := by omega
          have HQ : Hid (r = false) := Lib.hid (by rw [hrj.out, List.drop_eq_nil_of_le (by omega)]; rfl)
          have HO3 := HO.out _ (BK.out _ _ hb2 hsj.out.keep)
          go_wp2_with fail
          go_ret
          exact ⟨by rw [HQ.out]; rfl, HO3⟩
end Go.Proofs.YtbgilpmoijdcfaaGreat

/-
  governorlaw0: SameInts, SameVars, OverInts, OverVars, Low BY CONTRACTS.
-/
namespace Go.Proofs.YtbgilpmoijdcfaaGreat
open Go Go.RowKit
set_option linter.unusedVariables false
set_option linter.unusedSimpArgs false

/-- a row of the call's own, whatever it holds. -/
def Owned (B : Nat) (w : World) (e : TypeId) (sz : Nat) (A : Option Addr) (n c : Nat) : Prop := ∃ xs, w.ownsRow B e sz (.slice A n c) n xs
theorem Owned.set {B : Nat} {w : World} {e : TypeId} {sz n c g : Nat} (h : Owned B w e sz (some ⟨g, 0, none⟩) n c) (j : Nat) (u : Value) : Owned B (w.setCell ⟨g, j, none⟩ u) e sz (some ⟨g, 0, none⟩) n c := by
  obtain ⟨xs, hx, h1⟩ := h
  rcases h1 with ⟨h1, _⟩ | ⟨g', cap, cur, hv, hb, hg, h2, h3, h4, h5⟩
  · cases h1
  · simp only [Value.slice.injEq, Option.some.injEq, Addr.mk.injEq, and_true, true_and] at hv
    obtain ⟨rfl, rfl⟩ := hv
    refine ⟨(cur.set! j u).toList.take (n * sz), ?_, .inr ⟨g, c, cur.set! j u, rfl, hb, heap_set_cell hg j u, h2, h3, by simp [h4], rfl⟩⟩
    have hle : n * sz ≤ c * sz := Nat.mul_le_mul_right _ h2
    simp only [List.length_take, Array.length_toList]
    have : (cur.set! j u).size = cur.size := by simp
    omega
theorem Owned.cell {B : Nat} {w : World} {e : TypeId} {sz n c : Nat} {A : Option Addr} (h : Owned B w e sz A n c) (hn : 0 < n) : ∃ g, A = some ⟨g, 0, none⟩ ∧ B ≤ g ∧ (∀ j, j < n * sz → ∃ v, w.cell? ⟨g, j, none⟩ = some v) ∧ ∀ j, w.frozen? ⟨g, j, none⟩ = false := by
  obtain ⟨xs, hx, h1⟩ := h
  rcases h1 with ⟨_, h1⟩ | ⟨g, cap, cur, hv, hb, hg, h2, h3, h4, h5⟩
  · omega
  · simp only [Value.slice.injEq, true_and] at hv
    obtain ⟨rfl, rfl⟩ := hv
    refine ⟨g, rfl, hb, fun j hj => ⟨cur[j]'?_, ?_⟩, fun j => frozen_of_row _ _ j _ _ hg⟩
    · have hle : n * sz ≤ c * sz := Nat.mul_le_mul_right _ h2
      omega
    · rw [cell_of_row _ _ j _ _ _ hg]
      exact Array.getElem?_eq_getElem _
theorem grown_refl (w : World) (o : Option Nat) : w.grownBy w o := ⟨rfl, rfl, rfl, Nat.le_refl _, fun _ _ _ => rfl⟩
theorem grown_trans {u v w : World} {o : Option Nat} (h : u.grownBy v o) (k : v.grownBy w o) : u.grownBy w o := ⟨k.os.trans h.os, k.tape.trans h.tape, k.output.trans h.output, Nat.le_trans h.size k.size, fun i hi hn => (k.block i (Nat.lt_of_lt_of_le hi h.size) hn).trans (h.block i hi hn)⟩
theorem grown_set {u w : World} {g j : Nat} {v : Value} (h : u.grownBy w (some g)) : u.grownBy (w.setCell ⟨g, j, none⟩ v) (some g) := ⟨h.os, h.tape, h.output, Nat.le_trans h.size (by simp [World.setCell]), fun i hi hn => by
  rw [Below.heap_setCell _ _ _ _ (by show i ≠ g; exact fun e => hn (by rw [e]))]
  exact h.block i hi hn⟩
theorem grown_alloc (w : World) (o : Obj) (r : Option Nat) : w.grownBy (w.alloc o) r := ⟨rfl, rfl, rfl, by simp, fun i hi _ => Below.heap_alloc _ _ _ hi⟩
theorem grown_below {w w' : World} {A : Option Addr} {n c B : Nat} (h : w.grownBy w' (Value.slice A n c).ownBlock) (hg : ∀ g, A = some ⟨g, 0, none⟩ → B ≤ g) (hA : A = none ∨ ∃ g, A = some ⟨g, 0, none⟩) (hB : B ≤ w.heap.size) : Below B w w' := ⟨h.os, h.tape, h.output, h.size, fun i hi => h.block i (Nat.lt_of_lt_of_le hi hB) (fun e => by
  rcases hA with rfl | ⟨g, rfl⟩
  · cases e
  · have := hg g rfl
    have : i = g := by simpa [Value.ownBlock] using e
    omega)⟩
theorem setCell_below {B : Nat} {a w : World} {g j : Nat} {u : Value} (h : Below B a w) (hg : B ≤ g) : Below B a (w.setCell ⟨g, j, none⟩ u) := h.setCell (p := ⟨g, j, none⟩) hg u
theorem ret_int {a b : Int} (h : a = b) : Ending.returned (.int .i64 a) = .returned (.int .i64 b) := by rw [h]
/-- Low: from 0 to below n. -/
theorem low_any (x : Int) (m : Nat) (hm : 0 < m) (hm2 : m ≤ 2000000) (w : World) : Calls Tryz.prog 5 #[.int .i64 x, .int .i64 (m : Int)] w fun e w' => (∃ r : Nat, r < m ∧ e = .returned (.int .i64 (r : Int))) ∧ w' = w := by
  have hu : IntKind.u64.wrap (m : Int) = (m : Int) := by rw [IntKind.wrap_u64]; omega
  have hz : ((m : Int) == 0) = false := by simp only [beq_eq_false_iff_ne, ne_eq]; omega
  go_enter Tryz.func5, Tryz.ntmps5
  go_wp2
  go_ret
  have h0 : 0 ≤ IntKind.u64.wrap x := by rw [IntKind.wrap_u64]; omega
  clear hu hz
  generalize IntKind.u64.wrap x = q at *
  have h1 : 0 ≤ q % (m : Int) := Int.emod_nonneg _ (by omega)
  have h2 : q % (m : Int) < (m : Int) := Int.emod_lt_of_pos _ (by omega)
  refine ⟨⟨(q % (m : Int)).toNat, by omega, ret_int ?_⟩, rfl⟩
  rw [Int.tmod_eq_emod_of_nonneg h0]
  generalize q % (m : Int) = y at *
  unfold wrap64
  omega
/-- the zero row of a variable. -/
theorem var_parts : ∃ i0 z, Tryz.prog.info? 41 = some i0 ∧ i0.zero = some z ∧ i0.size = 8 ∧ i0.bytes = 80 ∧ z.cells.size = 8 := by
  have hi0 : (Tryz.prog.info? 41).map (fun i => (i.zero.map (·.cells.size), i.size, i.bytes)) = some (some 8, 8, 80) := Tryz.infoVar
  cases hq : Tryz.prog.info? 41 with
  | none => rw [hq] at hi0; simp at hi0
  | some i0 =>
    rw [hq] at hi0
    simp at hi0
    obtain ⟨⟨z, h1, h2⟩, h3, h4⟩ := hi0
    exact ⟨i0, z, rfl, h1, h3, h4, h2⟩
theorem over_cells (w : World) (T : TypeId) : ∀ (j : Nat) (u : Value), ([.string ⟨#[111, 118, 101, 114]⟩, .int .i64 0, .int .i64 0, .int .i64 0, .string ⟨#[]⟩, .int .i64 0, .int .i64 0, .int .i64 0] : List Value)[j]? = some u → (w.alloc (.cells #[.string ⟨#[111, 118, 101, 114]⟩, .int .i64 0, .int .i64 0, .int .i64 0, .string ⟨#[]⟩, .int .i64 0, .int .i64 0, .int .i64 0] T)).cell? ((⟨w.heap.size, 0, none⟩ : Addr).add j) = some u := by
  intro j u hj
  match j, hj with
  | 0, hj => simp at hj; subst hj; simp [Addr.add]
  | 1, hj => simp at hj; subst hj; simp [Addr.add]
  | 2, hj => simp at hj; subst hj; simp [Addr.add]
  | 3, hj => simp at hj; subst hj; simp [Addr.add]
  | 4, hj => simp at hj; subst hj; simp [Addr.add]
  | 5, hj => simp at hj; subst hj; simp [Addr.add]
  | 6, hj => simp at hj; subst hj; simp [Addr.add]
  | 7, hj => simp at hj; subst hj; simp [Addr.add]
theorem over_one : ∀ u ∈ ([.string ⟨#[111, 118, 101, 114]⟩, .int .i64 0, .int .i64 0, .int .i64 0, .string ⟨#[]⟩, .int .i64 0, .int .i64 0, .int .i64 0] : List Value), u.oneCell' = true := by
  intro u hu
  simp at hu
  rcases hu with rfl | rfl | rfl | rfl <;> rfl
end Go.Proofs.YtbgilpmoijdcfaaGreat

/-
  governorlaw6: two, awake BY CONTRACTS.
-/
namespace Go.Proofs.YtbgilpmoijdcfaaGreat
open Go Go.RowKit
set_option linter.unusedVariables false
set_option linter.unusedSimpArgs false

/-- a row that is a block of its own. -/
theorem row_of_block {α : Type} {R : α → List Value → Prop} {W : World} {g B : Nat} {cs : Array Value} {T : TypeId} {fr : Nat × Nat} (hg : g < B) (hs : W.heap[g]? = some (.cells cs T fr)) (l : List α) (sz : Nat) (hsz : cs.size = l.length * sz)
    (h : ∀ (k : Nat) (hk : k < l.length), R l[k] ((cs.toList.drop (k * sz)).take sz)) : RowIn R W B (some ⟨g, 0, none⟩) sz l := by
  intro k hk
  have h1 : (k + 1) * sz ≤ l.length * sz := Nat.mul_le_mul_right _ hk
  have h2 : (k + 1) * sz = k * sz + sz := by rw [Nat.add_mul, Nat.one_mul]
  have hl : ((cs.toList.drop (k * sz)).take sz).length = sz := by
    simp only [List.length_take, List.length_drop, Array.length_toList]
    omega
  refine ⟨g, 0, (cs.toList.drop (k * sz)).take sz, rfl, hg, hl, fun j u hj => ?_, h k hk⟩
  have hjl : j < sz := by
    rcases Nat.lt_or_ge j ((cs.toList.drop (k * sz)).take sz).length with h3 | h3
    · omega
    · rw [List.getElem?_eq_none h3] at hj; cases hj
  rw [List.getElem?_take, if_pos hjl, List.getElem?_drop] at hj
  rw [cell_of_row W g (0 + k * sz + j) cs T fr hs, Nat.zero_add]
  simpa using hj
def twoM : MT := ⟨⟨#[77]⟩, false, false, false, [], ⟨0, 0, 0, ⟨#[]⟩⟩, [], []⟩
def twoL : List DT := [⟨2, ⟨#[65]⟩, ⟨#[]⟩, [], false, false, [], [twoM], [], 0, 0⟩, ⟨2, ⟨#[66]⟩, ⟨#[65]⟩, [], false, false, [], [], [], 0, 0⟩]
theorem nil_row {α : Type} {R : α → List Value → Prop} {W : World} {B : Nat} {A : Option Addr} {sz : Nat} : RowIn R W B A sz [] := fun k hk => by simp at hk
abbrev mCells : Array Value := #[.string ⟨#[77]⟩, .bool false, .bool false, .bool false, .slice none 0 0, .int .i64 0, .int .i64 0, .int .i64 0, .string ⟨#[]⟩, .slice none 0 0, .slice none 0 0]
abbrev dCells (g : Nat) : Array Value := #[.int .i64 2, .string ⟨#[65]⟩, .string ⟨#[]⟩, .slice none 0 0, .bool false, .bool false, .slice none 0 0, .slice (some ⟨g, 0, none⟩) 1 1, .slice none 0 0, .int .i64 0, .int .i64 0,
  .int .i64 2, .string ⟨#[66]⟩, .string ⟨#[65]⟩, .slice none 0 0, .bool false, .bool false, .slice none 0 0, .slice none 0 0, .slice none 0 0, .int .i64 0, .int .i64 0]
theorem two_row {W : World} {g q B : Nat} {T S : TypeId} {fr fs : Nat × Nat} (hg : g < B) (hq : q < B) (h1 : W.heap[g]? = some (.cells mCells T fr)) (h2 : W.heap[q]? = some (.cells (dCells g) S fs)) : DsR W B (some ⟨q, 0, none⟩) twoL := by
  have i0 : I64 0 := ⟨by decide, by decide⟩
  have hm : MsR W B (some ⟨g, 0, none⟩) [twoM] := row_of_block hg h1 _ 11 rfl (fun k hk => by
    match k, hk with
    | 0, _ => exact ⟨none, 0, none, 0, none, 0, rfl, ⟨i0, i0⟩, nil_row, nil_row, nil_row⟩)
  exact row_of_block hq h2 _ 11 rfl (fun k hk => by
    match k, hk with
    | 0, _ => exact ⟨none, 0, none, 0, some ⟨g, 0, none⟩, 1, none, 0, rfl, i0, i0, nil_row, nil_row, hm, nil_row⟩
    | 1, _ => exact ⟨none, 0, none, 0, none, 0, none, 0, rfl, i0, i0, nil_row, nil_row, nil_row, nil_row⟩)
theorem two_fit : FitA twoL := ⟨⟨by decide, by decide, by decide, by decide, by decide⟩, by decide, by decide⟩
theorem two_chain : chainT twoL 1 = [1, 0] := by kernel_rfl
theorem two_method : whereV (methodT twoL 1 ⟨#[77]⟩) = .tuple #[.agg #[.int .i64 0, .int .i64 0], .bool true] := by kernel_rfl
theorem two_is : isT twoL ⟨#[66]⟩ ⟨#[65]⟩ = true := by kernel_rfl
theorem two_isnt : isT twoL ⟨#[65]⟩ ⟨#[66]⟩ = false := by kernel_rfl
theorem two_find : findT twoL ⟨#[66]⟩ = 1 := by kernel_rfl
theorem two_none : findT twoL ⟨#[67]⟩ = -1 := by kernel_rfl
/-- rows stay where blocks are added. -/
theorem dsr_alloc {W : World} {A : Option Addr} {L : List DT} (h : Hid (DsR W W.heap.size A L)) (o : Obj) : Hid (DsR (W.alloc o) (W.alloc o).heap.size A L) := DsR.mono (by simp) ((Below.refl _ _).alloc (Nat.le_refl _) _).block h.out
theorem hb_alloc {w W : World} (h : Hid (Below w.heap.size w W)) (o : Obj) : Hid (Below w.heap.size w (W.alloc o)) := h.out.alloc h.out.size o
theorem hb_drew {w W : World} (h : Hid (Below w.heap.size w W)) : Hid (Below w.heap.size w W.drew) := h.out.drew
theorem hb_step {w W w' : World} (h : Hid (Below w.heap.size w W)) (k : Hid (Below W.heap.size W w')) : Hid (Below w.heap.size w w') := h.out.trans (k.out.mono h.out.size)
/-- a block of two numbers. -/
def Two (W : World) (g : Nat) (T : TypeId) (a b : Int) : Prop := W.heap[g]? = some (.cells #[.int .i64 a, .int .i64 b] T (0, 0))
theorem Two.lt {W : World} {g : Nat} {T : TypeId} {a b : Int} (h : Two W g T a b) : g < W.heap.size := (Array.getElem?_eq_some_iff.1 h).1
theorem Two.new (W : World) (T : TypeId) (a b : Int) : Hid (Two (W.alloc (.cells #[.int .i64 a, .int .i64 b] T)) W.heap.size T a b) := heap_alloc_new W _
theorem Two.below {W w' : World} {g : Nat} {T : TypeId} {a b : Int} (h : Hid (Two W g T a b)) (k : Hid (Below W.heap.size W w')) : Hid (Two w' g T a b) := (k.out.block _ h.out.lt).trans h.out
theorem Two.alloc {W : World} {g : Nat} {T : TypeId} {a b : Int} (h : Hid (Two W g T a b)) (o : Obj) : Hid (Two (W.alloc o) g T a b) := Two.below h ((Below.refl _ _).alloc (Nat.le_refl _) _)
theorem Two.drew {W : World} {g : Nat} {T : TypeId} {a b : Int} (h : Hid (Two W g T a b)) : Hid (Two W.drew g T a b) := h
theorem Two.c0 {W : World} {g : Nat} {T : TypeId} {a b : Int} (h : Hid (Two W g T a b)) : W.cell? ⟨g, 0, none⟩ = some (.int .i64 a) := by rw [cell_of_row _ _ 0 _ _ _ h.out]; rfl
theorem Two.c1 {W : World} {g : Nat} {T : TypeId} {a b : Int} (h : Hid (Two W g T a b)) : W.cell? ⟨g, 1, none⟩ = some (.int .i64 b) := by rw [cell_of_row _ _ 1 _ _ _ h.out]; rfl
theorem Two.f0 {W : World} {g : Nat} {T : TypeId} {a b : Int} (h : Hid (Two W g T a b)) (j : Nat) : W.frozen? ⟨g, j, none⟩ = false := frozen_of_row _ _ j _ _ h.out
theorem Two.nsr {W : World} {g : Nat} {T : TypeId} {a b : Int} (h : Hid (Two W g T a b)) (ha : I64 a) (hb : I64 b) : NsR W W.heap.size (some ⟨g, 0, none⟩) [a, b] := row_of_block h.out.lt h.out _ 1 rfl (fun k hk => by
  match k, hk with
  | 0, _ => exact ⟨rfl, ha⟩
  | 1, _ => exact ⟨rfl, hb⟩)
theorem nsr_alloc {W : World} {A : Option Addr} {l : List Int} (h : Hid (NsR W W.heap.size A l)) (o : Obj) : Hid (NsR (W.alloc o) (W.alloc o).heap.size A l) := NsR.mono (by simp) ((Below.refl _ _).alloc (Nat.le_refl _) _).block h.out
end Go.Proofs.YtbgilpmoijdcfaaGreat

/-
  The callees of governorlaw6's statements, each under a condition that stays where blocks are added.
-/
namespace Go.Proofs.YtbgilpmoijdcfaaGreat
open Go Go.RowKit
set_option linter.unusedVariables false
set_option linter.unusedSimpArgs false

/-- a condition that stays where nothing that was there is changed, and that tells the unit's row. -/
structure Stay (Q : World → Prop) (A : Option Addr) (L : List DT) : Prop where
  step : ∀ W W', Q W → Below W.heap.size W W' → Q W'
  row : ∀ W, Q W → DsR W W.heap.size A L
theorem where_shape (r : Option (Int × Int)) : ∃ m0 m1 ok, whereV r = .tuple #[.agg #[.int .i64 m0, .int .i64 m1], .bool ok] := by
  rcases r with _ | ⟨a, b⟩
  · exact ⟨0, 0, false, rfl⟩
  · exact ⟨a, b, true, rfl⟩
theorem fieldsT_len {L : List DT} (hf : FitA L) (d : Int) : (fieldsT L d).length ≤ 1700000000000 := by
  have hv : ∀ x, (varsOf L x).length ≤ 1048576 := fun x => by
    unfold varsOf
    cases hx : L[x.toNat]? with
    | none => simp
    | some v => exact hf.vars v (List.mem_of_getElem? hx)
  unfold fieldsT
  split
  · exact Nat.le_trans (hv d) (by decide)
  · refine Nat.le_trans (flat_le _ 1048576 _ fun x _ => hv x) ?_
    rw [List.length_reverse]
    have h1 := (chainT_met L d).len
    have h2 := hf.len
    have : (chainT L d).length * 1048576 ≤ 1048576 * 1048576 := Nat.mul_le_mul_right _ (by omega)
    omega
theorem IRow.far {B : Nat} {w w' : World} {A : Option Addr} {c : Nat} {l : List Int} (h : Hid (IRow B w A c l)) (k : Hid (Below w.heap.size w w')) : Hid (IRow B w' A c l) := h.out.below k.out
theorem VRow.far {B : Nat} {w w' : World} {A : Option Addr} {c : Nat} {l : List VT} (h : Hid (VRow B w A c l)) (k : Hid (Below w.heap.size w w')) : Hid (VRow B w' A c l) := h.out.below k.out
theorem q_Fields {Q : World → Prop} {A : Option Addr} {L : List DT} (c : Nat) (h : Stay Q A L) (hfit : FitA L) (d : Int) (hd : I64 d) (x : List VT) (hx : x = fieldsT L d) (W : World) (hq : Hid (Q W)) :
    Calls Tryz.prog 83 #[.agg #[.slice A L.length c], .int .i64 d] W fun e w' => ∃ A' c', e = .returned (.slice A' x.length c') ∧ Hid (VRow W.heap.size w' A' c' x) ∧ Hid (Q w') ∧ Hid (Below W.heap.size W w') := by
  subst hx
  refine (Fields_any L A c d W (h.row W hq.out) hfit hd).mono fun e w' hh => ?_
  obtain ⟨A', c', k1, k2, k3⟩ := hh
  exact ⟨A', c', k1, k2, h.step _ _ hq.out k3, k3⟩
end Go.Proofs.YtbgilpmoijdcfaaGreat

/-
  typing: what fits, BY CONTRACTS: the program's, and governorref7's.
-/
namespace Go.Proofs.YtbgilpmoijdcfaaGreat
open Go Go.RowKit
set_option linter.unusedVariables false
set_option linter.unusedSimpArgs false

/-- a type's cells. -/
abbrev ycells (t : YT) : Array Value := #[.int .i64 t.kind, .int .i64 t.lo, .int .i64 t.hi, .string t.name]
def fitsT (L : List DT) (ty fr : YT) : Bool :=
  if ty.kind = 3 ∨ ty.kind = 1 then decide (fr.kind = 1) else if ty.kind = 2 then decide (fr.kind = 2) else
  if ty.kind = 5 then decide (fr.kind = 5) && (decide (fr.name = ⟨#[]⟩) || decide (fr.name = ty.name) || isT L fr.name ty.name) else false
theorem XAt.far2 {L : List DT} {A : Option Addr} {c p N : Nat} {W : World} {I : IX} (h : XAt L A c p N W I) (o o' : Obj) : Below W.heap.size W ((W.alloc o).alloc o') := ((Below.refl _ _).alloc (Nat.le_refl _) _).alloc (by simp) _
theorem box_two (W : World) (a b : Array Value) (S T : TypeId) : ((W.alloc (.cells a S)).alloc (.cells b T)).heap[W.heap.size]? = some (.cells a S (0, 0)) ∧ ((W.alloc (.cells a S)).alloc (.cells b T)).heap[W.heap.size + 1]? = some (.cells b T (0, 0)) := by
  refine ⟨?_, ?_⟩
  · rw [Below.heap_alloc _ _ _ (by simp)]
    exact heap_alloc_new W _
  · have := heap_alloc_new (W.alloc (.cells a S)) (.cells b T)
    simpa using this
theorem empty_ne {s : ByteArray} (h : ¬ s = ⟨#[]⟩) : (s.toList == ([] : List UInt8)) = false := by
  have := str_ne h
  simpa using this
set_option maxHeartbeats 2000000 in
set_option maxRecDepth 100000 in
theorem tyfits_any (L : List DT) (A : Option Addr) (c p N : Nat) (I : IX) (ty fr : YT) (w : World) (h : XAt L A c p N w I) (hfit : Fit L) :
    Calls Tryz.prog 123 #[.pointer (some ⟨p, 0, none⟩), .agg (ycells ty), .agg (ycells fr)] w (XRet L A c p N w I (.bool (fitsT L ty fr))) := by
  obtain ⟨R0, hR0⟩ : ∃ R0 : World, R0 = (w.alloc (.cells (ycells ty) 38)).alloc (.cells (ycells fr) 38) := ⟨_, rfl⟩
  have hb0 : Below w.heap.size w R0 := by rw [hR0]; exact h.far2 _ _
  obtain ⟨g1, g2⟩ := box_two w (ycells ty) (ycells fr) 38 38
  rw [← hR0] at g1 g2
  have a0 : R0.cell? ⟨w.heap.size, 0, none⟩ = some (.int .i64 ty.kind) := by rw [cell_of_row _ _ 0 _ _ _ g1]; rfl
  have a3 : R0.cell? ⟨w.heap.size, 3, none⟩ = some (.string ty.name) := by rw [cell_of_row _ _ 3 _ _ _ g1]; rfl
  have b0 : R0.cell? ⟨w.heap.size + 1, 0, none⟩ = some (.int .i64 fr.kind) := by rw [cell_of_row _ _ 0 _ _ _ g2]; rfl
  have b3 : R0.cell? ⟨w.heap.size + 1, 3, none⟩ = some (.string fr.name) := by rw [cell_of_row _ _ 3 _ _ _ g2]; rfl
  have hx := Lib.hid (h.below hb0)
  have ht := Lib.hid (XTo.of_below (p := p) (I := I) hb0)
  have HB : Hid (∀ W I', Hid (XTo p R0 I W I') → Hid (XTo p w I W I')) := fun W I' k => (XTo.of_below hb0).trans k.out
  have KI : Hid (∀ s t, Calls Tryz.prog 134 #[.pointer (some ⟨p, 0, none⟩), .string s, .string t] R0 fun e w' => ∃ I', e = .returned (.bool (isT L s t)) ∧ Hid (XAt L A c p N w' I') ∧ Hid (XTo p w I w' I')) := fun s t => (lkIs_any L A c p N I s t R0 hx.out hfit).mono fun e w' hh => by
    obtain ⟨I', h1, h2, h3⟩ := hh
    exact ⟨I', h1, h2, HB.out _ _ h3⟩
  have HR0 := Lib.hid hR0
  obtain ⟨tk, tl, tH, tn⟩ := ty
  obtain ⟨fk, fl, fh, fn⟩ := fr
  simp only at a0 a3 b0 b3
  obtain ⟨r, hr⟩ : ∃ r, r = fitsT L ⟨tk, tl, tH, tn⟩ ⟨fk, fl, fh, fn⟩ := ⟨_, rfl⟩
  rw [← hr]
  unfold fitsT at hr
  simp only at hr
  obtain ⟨b, hb⟩ : ∃ b, b = isT L fn tn := ⟨_, rfl⟩
  rw [← hb] at hr
  have KI2 : Hid (Calls Tryz.prog 134 #[.pointer (some ⟨p, 0, none⟩), .string fn, .string tn] R0 fun e w' => ∃ I', e = .returned (.bool b) ∧ Hid (XAt L A c p N w' I') ∧ Hid (XTo p w I w' I')) := hb ▸ KI.out fn tn
  unfold XRet
  clear h hb0 g1 g2 HB KI hfit hb
  unfold ycells at HR0 ⊢
  simp only at HR0 ⊢
  have hRR := HR0.out
  rw [hRR] at a0 a3 b0 b3
  clear hR0 hRR
  have done : ∀ (x : Bool) (W : World), W = R0 → x = r → ∃ I', Ending.returned (.bool x) = .returned (.bool r) ∧ Hid (XAt L A c p N W I') ∧ Hid (XTo p w I W I') := fun x W hW hxr => ⟨I, by rw [hxr], by rw [hW]; exact hx, by rw [hW]; exact ht⟩
  have done2 : ∀ (x : Bool) (W : World), W = R0 → x = r → Ending.returned (.bool x) = .returned (.bool r) ∧ ∃ I', Hid (XAt L A c p N W I') ∧ Hid (XTo p w I W I') := fun x W hW hxr => ⟨by rw [hxr], I, by rw [hW]; exact hx, by rw [hW]; exact ht⟩
  have HD := Lib.hid done
  have HE := Lib.hid done2
  clear done done2
  by_cases k3 : tk = 3
  · subst k3
    rw [if_pos (.inl rfl)] at hr
    by_cases f1 : fk = 1
    · subst f1
      have hz : Hid (r = true) := by unfold Hid; rw [hr]; simp
      clear hr
      go_enter Tryz.func123, Tryz.ntmps123
      go_wp2_with fail
      go_ret
      first
        | exact HD.out _ _ HR0.out.symm hz.out.symm
        | exact HE.out _ _ HR0.out.symm hz.out.symm
    · have f1b := eq_no f1
      have hz : Hid (r = false) := by unfold Hid; rw [hr]; simp [f1]
      clear hr
      go_enter Tryz.func123, Tryz.ntmps123
      go_wp2_with fail
      go_ret
      first
        | exact HD.out _ _ HR0.out.symm hz.out.symm
        | exact HE.out _ _ HR0.out.symm hz.out.symm
  by_cases k1 : tk = 1
  · subst k1
    rw [if_pos (.inr rfl)] at hr
    by_cases f1 : fk = 1
    · subst f1
      have hz : Hid (r = true) := by unfold Hid; rw [hr]; simp
      clear hr
      go_enter Tryz.func123, Tryz.ntmps123
      go_wp2_with fail
      go_ret
      first
        | exact HD.out _ _ HR0.out.symm hz.out.symm
        | exact HE.out _ _ HR0.out.symm hz.out.symm
    · have f1b := eq_no f1
      have hz : Hid (r = false) := by unfold Hid; rw [hr]; simp [f1]
      clear hr
      go_enter Tryz.func123, Tryz.ntmps123
      go_wp2_with fail
      go_ret
      first
        | exact HD.out _ _ HR0.out.symm hz.out.symm
        | exact HE.out _ _ HR0.out.symm hz.out.symm
  by_cases k2 : tk = 2
  · subst k2
    rw [if_neg (by omega), if_pos rfl] at hr
    by_cases f1 : fk = 2
    · subst f1
      have hz : Hid (r = true) := by unfold Hid; rw [hr]; simp
      clear hr
      go_enter Tryz.func123, Tryz.ntmps123
      go_wp2_with fail
      go_ret
      first
        | exact HD.out _ _ HR0.out.symm hz.out.symm
        | exact HE.out _ _ HR0.out.symm hz.out.symm
    · have f1b := eq_no f1
      have hz : Hid (r = false) := by unfold Hid; rw [hr]; simp [f1]
      clear hr
      go_enter Tryz.func123, Tryz.ntmps123
      go_wp2_with fail
      go_ret
      first
        | exact HD.out _ _ HR0.out.symm hz.out.symm
        | exact HE.out _ _ HR0.out.symm hz.out.symm
  by_cases k5 : tk = 5
  · subst k5
    rw [if_neg (by omega), if_neg (by omega), if_pos rfl] at hr
    by_cases f1 : fk = 5
    · subst f1
      by_cases n0 : fn = ⟨#[]⟩
      · subst n0
        have hz : Hid (r = true) := by unfold Hid; rw [hr]; simp
        clear hr
        go_enter Tryz.func123, Tryz.ntmps123
        go_wp2_with fail
        go_ret
        first
          | exact HD.out _ _ HR0.out.symm hz.out.symm
          | exact HE.out _ _ HR0.out.symm hz.out.symm
      · have n0b := empty_ne n0
        by_cases n1 : fn = tn
        · have n1b := str_eq n1
          have hz : Hid (r = true) := by unfold Hid; rw [hr]; simp [n1]
          clear hr
          subst n1
          go_enter Tryz.func123, Tryz.ntmps123
          go_wp2_with fail
          go_ret
          first
            | exact HD.out _ _ HR0.out.symm hz.out.symm
            | exact HE.out _ _ HR0.out.symm hz.out.symm
        · have n1b := str_ne n1
          have hrb : Hid (b = r) := by unfold Hid; rw [hr]; simp [n0, n1]
          clear hr n0 n1
          go_enter Tryz.func123, Tryz.ntmps123
          go_wp2_with fail
          rw [← HR0.out]
          refine KI2.out.mono ?_
          rintro e1 w1 ⟨I', rfl, hx1, ht1⟩
          clear a0 a3 b0 b3
          go_wp2_with fail
          go_ret
          exact ⟨I', by rw [← hrb.out]; rfl, hx1, ht1⟩
    · have f1b := eq_no f1
      have hz : Hid (r = false) := by unfold Hid; rw [hr]; simp [f1]
      clear hr
      go_enter Tryz.func123, Tryz.ntmps123
      go_wp2_with fail
      go_ret
      first
        | exact HD.out _ _ HR0.out.symm hz.out.symm
        | exact HE.out _ _ HR0.out.symm hz.out.symm
  · have k1b := eq_no k1
    have k2b := eq_no k2
    have k3b := eq_no k3
    have k5b := eq_no k5
    rw [if_neg (by omega), if_neg k2, if_neg k5] at hr
    have hz : Hid (r = false) := by unfold Hid; rw [hr]
    clear hr
    go_enter Tryz.func123, Tryz.ntmps123
    go_wp2_with fail
    go_ret
    first
      | exact HD.out _ _ HR0.out.symm hz.out.symm
      | exact HE.out _ _ HR0.out.symm hz.out.symm
end Go.Proofs.YtbgilpmoijdcfaaGreat

/-
  governorref7.Fits, typing.Fits BY CONTRACTS.
-/
namespace Go.Proofs.YtbgilpmoijdcfaaGreat
open Go Go.RowKit
set_option linter.unusedVariables false
set_option linter.unusedSimpArgs false

end Go.Proofs.YtbgilpmoijdcfaaGreat
