/-
  Rows of variables that a call makes; governorref6.Fields BY A CONTRACT.
-/
import Derived.Test.YtkpieolmepngjaaTbRefI
namespace Go.Proofs.Ytkpieolmepngjaa
open Go Go.RowKit
set_option linter.unusedVariables false
set_option linter.unusedSimpArgs false

theorem Try.infoVar : (Try.prog.info? 54).map (fun i => (i.zero.map (·.cells.size), i.size, i.bytes)) = some (some 8, 8, 80) := by kernel_rfl
theorem vin_one {v : VT} {cs : List Value} (h : VIn v cs) : ∀ u ∈ cs, u.oneCell' = true := by
  obtain ⟨rfl, _⟩ := h
  unfold VT.cells
  simp [Value.oneCell']
/-- v is a row of the call's own (from block B on) that holds these variables. -/
def VRow (B : Nat) (w : World) (A : Option Addr) (c : Nat) (l : List VT) : Prop := ∃ xs, w.ownsRow B 54 8 (.slice A l.length c) l.length xs ∧ ∀ (k : Nat) (hk : k < l.length), VIn l[k] ((xs.drop (k * 8)).take 8)
theorem VRow.vsr {B : Nat} {w : World} {A : Option Addr} {c : Nat} {l : List VT} (h : VRow B w A c l) : VsR w w.heap.size A l := by
  obtain ⟨xs, h1, h2⟩ := h
  obtain ⟨A', c', e, h3⟩ := row_owned (R := VIn) rfl h1 h2
  simp only [Value.slice.injEq, true_and] at e
  obtain ⟨rfl, rfl⟩ := e
  exact h3
theorem ownsRow_far {w w' : World} {B sz n : Nat} {e : TypeId} {v : Value} {xs : List Value} (h : w.ownsRow B e sz v n xs) (hb : Below w.heap.size w w') : w'.ownsRow B e sz v n xs := by
  refine ⟨h.1, ?_⟩
  rcases h.2 with h0 | ⟨g, cap, cur, hv, hbg, hg, rest⟩
  · exact .inl h0
  · refine .inr ⟨g, cap, cur, hv, hbg, ?_, rest⟩
    have : g < w.heap.size := by
      rcases Nat.lt_or_ge g w.heap.size with h2 | h2
      · exact h2
      · rw [Array.getElem?_eq_none h2] at hg; cases hg
    rw [hb.block g this]
    exact hg
theorem VRow.below {B : Nat} {w w' : World} {A : Option Addr} {c : Nat} {l : List VT} (h : VRow B w A c l) (hb : Below w.heap.size w w') : VRow B w' A c l := by
  obtain ⟨xs, h1, h2⟩ := h
  exact ⟨xs, ownsRow_far h1 hb, h2⟩
theorem VRow.nil (B : Nat) (w : World) : VRow B w none 0 [] := ⟨[], World.ownsRow_nil _ _ _ _, fun k hk => by simp at hk⟩
theorem VRow.lower {B B' : Nat} {w : World} {A : Option Addr} {c : Nat} {l : List VT} (h : VRow B w A c l) (hb : B' ≤ B) : VRow B' w A c l := by
  obtain ⟨xs, h1, h2⟩ := h
  exact ⟨xs, ownsRow_lower hb h1, h2⟩
/-- a call answers a new row of these variables; nothing that was there is changed. -/
def VSays (w : World) (l : List VT) (e : Ending) (w' : World) : Prop := ∃ A c, e = .returned (.slice A l.length c) ∧ VRow w.heap.size w' A c l ∧ Below w.heap.size w w'
theorem use2 {α β : Type} {R : α → β → Prop} {S P : α → β → Prop} (h : ∃ a b, R a b ∧ S a b) (k : ∀ a b, S a b → P a b) : ∃ a b, R a b ∧ P a b := by
  obtain ⟨a, b, h1, h2⟩ := h
  exact ⟨a, b, h1, k a b h2⟩
theorem sum_at_le {α : Type} (f : α → Nat) : ∀ (l : List α) (k : Nat) (hk : k < l.length), f l[k] ≤ (l.map f).sum
  | x :: r, 0, _ => by simp only [List.getElem_cons_zero, List.map_cons, List.sum_cons]; omega
  | x :: r, k + 1, hk => by
    have := sum_at_le f r k (by simpa using hk)
    simp only [List.getElem_cons_succ, List.map_cons, List.sum_cons]
    omega
theorem flat_le {α β : Type} (f : α → List β) (M : Nat) : ∀ l : List α, (∀ x ∈ l, (f x).length ≤ M) → (l.flatMap f).length ≤ l.length * M
  | [], _ => by simp
  | x :: r, h => by
    have h1 := h x (by simp)
    have h2 := flat_le f M r (fun y hy => h y (by simp [hy]))
    simp only [List.flatMap_cons, List.length_append, List.length_cons, Nat.add_mul]
    omega
theorem append_capless (t ty : TypeId) (v : Value) (c : Nat) : Builtin.append_ #[t, t] ty #[v, .slice none 0 c] = Builtin.append_ #[t, t] ty #[v, .slice none 0 0] := rfl
/-- append of a row of variables, wherever it lies, onto one of the call's own. -/
theorem app_vars {B B' : Nat} {W : World} {A A1 : Option Addr} {c c1 : Nat} {l m : List VT} (h : VRow B W A c l) (hm : VsR W B' A1 m) (hlen : l.length + m.length ≤ 1700000000000) (hB : B ≤ W.heap.size) :
    ∃ A' c' w', (Builtin.append_ #[34, 34] 34 #[.slice A l.length c, .slice A1 m.length c1]).run Try.prog W = .ok (.slice A' (l ++ m).length c') w' ∧ VRow B w' A' c' (l ++ m) ∧ Below B W w' ∧ W.grownBy w' (Value.slice A l.length c).ownBlock ∧
      ((Value.slice A' (l ++ m).length c').ownBlock = (Value.slice A l.length c).ownBlock ∨ (Value.slice A' (l ++ m).length c').ownBlock = some W.heap.size) := by
  have hi0 : (Try.prog.info? 54).map (fun i => (i.zero.map (·.cells.size), i.size, i.bytes)) = some (some 8, 8, 80) := Try.infoVar
  obtain ⟨i0, hi, hz0, hz1, hz2⟩ : ∃ i0, Try.prog.info? 54 = some i0 ∧ i0.zero.map (·.cells.size) = some 8 ∧ i0.size = 8 ∧ i0.bytes = 80 := by
    cases hq : Try.prog.info? 54 with
    | none => rw [hq] at hi0; simp at hi0
    | some i0 => rw [hq] at hi0; simp at hi0; exact ⟨i0, rfl, by simpa using hi0.1, hi0.2.1, hi0.2.2⟩
  obtain ⟨z, hz, hzs⟩ := Option.map_eq_some_iff.1 hz0
  obtain ⟨xs, hown, hx⟩ := h
  obtain ⟨ys, y1, y2, y3, y4⟩ := row_cells (by decide) (fun a cs h => vin_one h) hm
  have hA : (A1 = none ∧ m.length = 0) ∨ ∃ g o, A1 = some ⟨g, o, none⟩ ∨ (m.length = 0 ∧ A1 = some ⟨g, o, none⟩) ∨ (m.length = 0 ∧ ∃ a, A1 = some a) := by
    cases A1 with
    | none =>
      left
      refine ⟨rfl, ?_⟩
      rcases Nat.eq_zero_or_pos m.length with h0 | h0
      · exact h0
      · obtain ⟨g, o, cs, e, _⟩ := hm 0 h0
        cases e
    | some a =>
      right
      rcases Nat.eq_zero_or_pos m.length with h0 | h0
      · exact ⟨0, 0, .inr (.inr ⟨h0, a, rfl⟩)⟩
      · obtain ⟨g, o, cs, e, _⟩ := hm 0 h0
        exact ⟨g, o, .inl e⟩
  have run : ∃ v' w', (Builtin.append_ #[34, 34] 34 #[.slice A l.length c, .slice A1 m.length c1]).run Try.prog W = .ok v' w' ∧ w'.ownsRow B 54 8 v' (l.length + m.length) (xs ++ ys) ∧ W.grownBy w' (Value.slice A l.length c).ownBlock ∧ (v'.ownBlock = (Value.slice A l.length c).ownBlock ∨ v'.ownBlock = some W.heap.size) := by
    have go : ∀ c1 : Nat, ((A1 = none ∧ m.length = 0 ∧ c1 = 0) ∨ (m.length = 0 ∧ ∃ a, A1 = some a) ∨ ∃ g o, A1 = some ⟨g, o, none⟩) → ∃ v' w', (Builtin.append_ #[34, 34] 34 #[.slice A l.length c, .slice A1 m.length c1]).run Try.prog W = .ok v' w' ∧ w'.ownsRow B 54 8 v' (l.length + m.length) (xs ++ ys) ∧ W.grownBy w' (Value.slice A l.length c).ownBlock ∧ (v'.ownBlock = (Value.slice A l.length c).ownBlock ∨ v'.ownBlock = some W.heap.size) := fun c1 hA => app_run (P := Try.prog) (w := W) (base := B) (t := 34) (ty := 34) (bytes := 80) Try.underlying34 hi hz hz1 hz2 hzs (by decide) hown (A := A1) (m := m.length) (c := c1) (news := ys) y1 (fun g o e j u hj => y2 g o e j u hj) hA y3 (by unfold maxLen; omega) (by omega) hB
    rcases hA with ⟨h1, h2⟩ | ⟨g, o, h1 | ⟨h2, h1⟩ | ⟨h2, h1⟩⟩
    · have := go 0 (.inl ⟨h1, h2, rfl⟩)
      rw [h1, h2, append_capless]
      rw [h1, h2] at this
      exact this
    · exact go c1 (.inr (.inr ⟨g, o, h1⟩))
    · exact go c1 (.inr (.inr ⟨g, o, h1⟩))
    · exact go c1 (.inr (.inl ⟨h2, h1⟩))
  obtain ⟨v', w', k1, k2, k3, k4⟩ := run
  have hlm : (l ++ m).length = l.length + m.length := List.length_append
  have hshape : ∃ A' c', v' = .slice A' (l ++ m).length c' := by
    rcases k2.2 with ⟨h1, h2⟩ | ⟨g, cap, cur, h1, _⟩
    · exact ⟨none, 0, by rw [h1, hlm, h2]⟩
    · exact ⟨_, cap, by rw [h1, hlm]⟩
  obtain ⟨A', c', rfl⟩ := hshape
  refine ⟨A', c', w', k1, ⟨xs ++ ys, by rw [← hlm] at k2; exact k2, fun k hk => ?_⟩, (Below.refl B W).grown k3 hB (fun j hj => (hown.lt j hj).1), k3, k4⟩
  have hxl : xs.length = l.length * 8 := hown.1
  by_cases hkn : k < l.length
  · rw [List.getElem_append_left hkn]
    have e : (((xs ++ ys).drop (k * 8)).take 8) = ((xs.drop (k * 8)).take 8) := by
      have : (k + 1) * 8 ≤ l.length * 8 := Nat.mul_le_mul_right _ (by omega)
      rw [List.drop_append_of_le_length (by omega), List.take_append_of_le_length (by simp only [List.length_drop]; omega)]
    rw [e]
    exact hx k hkn
  · have hk2 : k - l.length < m.length := by simp at hk; omega
    rw [List.getElem_append_right (by omega)]
    have e : (((xs ++ ys).drop (k * 8)).take 8) = ((ys.drop ((k - l.length) * 8)).take 8) := by
      have e1 : k * 8 = xs.length + (k - l.length) * 8 := by
        have e2 : l.length + (k - l.length) = k := by omega
        rw [hxl, ← Nat.add_mul, e2]
      rw [e1, ← List.drop_drop, List.drop_left]
    rw [e]
    exact y4 (k - l.length) hk2
set_option maxRecDepth 100000 in
/-- append, walked in the text's order. -/
theorem wpList_app {P : Program} {w : World} {ops : Array Oper} {rest : List Oper} {o : Oper} {a : Act} {Q : Exit → Act → World → Prop} (hgd : o.guard = none) (s x : Operand) (t : TypeId)
    (ho : o.op = .call { callee := .builtin .append, args := #[s, x], argTypes := #[t, t] }) (v u : Value) (hs : a.eval s = v) (hx : a.eval x = u)
    (h : ∃ v' w', (Builtin.append_ #[t, t] o.type #[v, u]).run P w = .ok v' w' ∧ wpList P ops Q rest (a.put o.dst v') w') : wpList P ops Q (o :: rest) a w := by
  obtain ⟨v', w', hr, hk⟩ := h
  refine wpList_plain hgd fun K hK => ?_
  unfold Oper.wp execOp
  simp only [ho, resolve, invoke, builtin, Sem.run_bind, Sem.run_pure, Result.andThen_ok, List.map_toArray, List.map_cons, List.map_nil, hs, hx, hr]
  exact hK _ _ hk

set_option maxHeartbeats 4000000 in
set_option maxRecDepth 100000 in
theorem refFields_any (L : List DT) (A : Option Addr) (c : Nat) (d0 : Int) (w : World) (ha : DsR w w.heap.size A L) (hcnt : L.length ≤ 1000000000) (hc6 : L.length ≤ 1048576) (hvs : ∀ d ∈ L, d.vars.length ≤ 1048576) :
    Calls Try.prog 28 #[.agg #[.slice A L.length c], .int .i64 d0] w (VSays w (fieldsT L d0)) := by
  obtain ⟨R0, hR0⟩ : ∃ R0 : World, R0 = w.alloc (.cells #[.slice A L.length c] 24) := ⟨_, rfl⟩
  have hu : UAt w R0 A c L := hR0 ▸ UAt.of ha
  have HU := Lib.hid hu
  have HR0 := Lib.hid hR0
  have HVS := Lib.hid hvs
  have HC := Lib.hid hcnt
  have KK : Hid (∀ W d, Hid (Below R0.heap.size R0 W) → Calls Try.prog 49 #[.agg #[.slice A L.length c], .int .i64 d] W fun e w' => e = .returned (.int .i64 (kindT L d)) ∧ Hid (Below R0.heap.size R0 w') ∧ Hid (Below W.heap.size W w')) := fun W d hb => (refKind_any L A c d W (hu.rowAt hb)).mono fun e w' hh => ⟨hh.1, hb.out.trans (hh.2.mono hb.out.size), hh.2⟩
  have KC : Hid (∀ W d, Hid (Below R0.heap.size R0 W) → Calls Try.prog 23 #[.agg #[.slice A L.length c], .int .i64 d] W fun e w' => ∃ A' c', e = .returned (.slice A' (chainT L d).length c') ∧ Hid (IRow R0.heap.size w' A' c' (chainT L d)) ∧ Hid (Below R0.heap.size R0 w')) := fun W d hb => (refChain_any L A c d W (hu.rowAt hb) hcnt).mono fun e w' hh => by
    obtain ⟨A', c', h1, h2, h3⟩ := hh
    exact ⟨A', c', h1, ⟨ownsRow_lower hb.out.size h2.1, h2.2⟩, hb.out.trans (h3.mono hb.out.size)⟩
  obtain ⟨r, hr0⟩ : ∃ r, r = fieldsT L d0 := ⟨_, rfl⟩
  rw [← hr0]
  have HR := Lib.hid hr0
  have HC6 := Lib.hid hc6
  clear hr0 ha hu hR0 hcnt hvs hc6
  unfold VSays
  go_enter Try.func28, Try.ntmps28
  have y0 := HU.out.cell _ (Below.refl _ _)
  have HB0 : Hid (Below R0.heap.size R0 R0) := Below.refl _ _
  rw [HR0.out] at y0
  go_wp2_with fail
  rw [← HR0.out] at y0 ⊢
  refine (KK.out _ _ HB0).mono ?_
  rintro e1 w1 ⟨rfl, hb1, -⟩
  clear y0
  by_cases hk : kindT L d0 = 3
  · have hk2 : isOfT L d0 3 = true := by rw [kindT_isOf _ _ _ (by decide), hk]; rfl
    obtain ⟨kk, hkk, hkl⟩ := isOfT_lt hk2
    have y0 := HU.out.cell _ hb1.out
    obtain ⟨q, o, E1, e1, E2, e2, E3, e3, E4, e4, hA, hg, hY⟩ := HU.out.decl hkl
    subst hA hkk
    obtain ⟨⟨-, hV, -⟩, -, -, -, -, -, -, x6, -⟩ := hY _ hb1.out
    have q1 : (kk : Int) < (L.length : Int) := by omega
    have q2 : (0 : Int) ≤ (kk : Int) := by omega
    have hr3 : r = L[kk].vars := by
      rw [HR.out]
      unfold fieldsT varsOf
      rw [hk2, if_pos rfl, Int.toNat_natCast, List.getElem?_eq_getElem hkl]
      rfl
    have hvl : L[kk].vars.length ≤ 1048576 := HVS.out _ (List.getElem_mem _)
    have AP : Hid (∃ v' w', (Builtin.append_ #[34, 34] 34 #[.slice none 0 0, .slice E2 L[kk].vars.length e2]).run Try.prog w1 = .ok v' w' ∧ ∃ A' c', v' = .slice A' r.length c' ∧ Hid (VRow R0.heap.size w' A' c' r) ∧ Hid (Below R0.heap.size R0 w')) := by
      obtain ⟨A', c', w', k1, k2, k3, _⟩ := app_vars (c1 := e2) (VRow.nil R0.heap.size w1) hV (by simp; omega) hb1.out.size
      rw [List.nil_append] at k1 k2
      exact ⟨_, w', k1, A', c', by rw [hr3], hr3 ▸ k2, hb1.out.trans k3⟩
    obtain ⟨V, hVV⟩ : ∃ V, V = L[kk].vars := ⟨_, rfl⟩
    rw [← hVV] at AP x6
    clear hV hr3 hvl hVV hY
    go_wp2_with (at_builtin; refine wpList_app rfl _ _ _ rfl _ _ rfl rfl (use2 AP.out ?_))
    rintro v2 w2 A2 c2 rfl hrow2 hb2
    go_wp2_with fail
    go_ret
    exact ⟨A2, c2, rfl, hrow2.out.lower HU.out.below.size, HU.out.out hb2.out⟩
  · have hk2 : isOfT L d0 3 = false := by rw [kindT_isOf _ _ _ (by decide)]; simp [hk]
    have hr2 : r = (chainT L d0).reverse.flatMap (varsOf L) := by rw [HR.out]; unfold fieldsT; rw [hk2]; rfl
    have y0 := HU.out.cell _ hb1.out
    go_wp2_with fail
    refine (KC.out _ _ hb1).mono ?_
    rintro e2 w2 ⟨A1, c1, rfl, hrow1, hb2⟩
    have hin : ∀ x ∈ chainT L d0, ∃ k : Nat, x = k ∧ k < L.length := fun x hx => by
      have := (chainT_met L d0).2 x hx
      exact ⟨x.toNat, by omega, by omega⟩
    have hmet := (chainT_met L d0).len
    obtain ⟨C, hC⟩ : ∃ C, C = chainT L d0 := ⟨_, rfl⟩
    rw [← hC] at hr2 hin hmet hrow1
    have HR1 := Lib.hid hr2
    have HIN := Lib.hid hin
    have hc6 := HC6.out
    have hcl : C.length ≤ 1048576 := by omega
    rw [← hC]
    have HT : Hid (∀ W, Hid (Below w2.heap.size w2 W) → Below R0.heap.size R0 W) := fun W h => hb2.out.trans (h.out.mono hb2.out.size)
    have HBW : Hid (Below w2.heap.size w2 w2) := Below.refl _ _
    have hw0 : wrap64 ((C.length : Int) - 1) = (C.length : Int) - 1 := by unfold wrap64; omega
    clear hr2 hin hC KC KK HB0 y0 hb1 hk2
    go_wp2_with fail
    go_loopw [5, 7] (fun ov iv wr => ∃ (k : Nat) (n : Int) (out : List VT) (A2 : Option Addr) (c2 : Nat), k ≤ C.length ∧ ov = .slice A2 out.length c2 ∧ iv = .int .i64 n ∧ Hid (n = (k : Int) - 1) ∧ Hid (out = (C.drop k).reverse.flatMap (varsOf L)) ∧ Hid (VRow w2.heap.size wr A2 c2 out) ∧ Hid (Below w2.heap.size w2 wr)) (fun _ i _ => (intOf i + 1).toNat)
    case atStart => exact ⟨C.length, _, [], none, 0, Nat.le_refl _, rfl, rfl, rfl, by simp [Hid], VRow.nil _ _, HBW⟩
    case round =>
      obtain ⟨k, n, out, A2, c2, hk, rfl, rfl, hn, ho, hrow2, hb3⟩ := hrel
      cases k with
      | zero =>
        obtain rfl : n = -1 := by have := hn.out; omega
        have hres : r = out := by rw [HR1.out, ho.out]; simp
        have HRES := Lib.hid hres
        clear hres
        go_wp2_with fail
        go_ret
        exact ⟨A2, c2, by rw [HRES.out]; rfl, HRES.out ▸ hrow2.out.lower (Nat.le_trans HU.out.below.size hb2.out.size), HU.out.out (HT.out _ hb3)⟩
      | succ m =>
        obtain rfl : n = (m : Int) := by have := hn.out; omega
        have h2 : (0 : Int) ≤ (m : Int) := by omega
        have hlt : m < C.length := by omega
        have h1 : (m : Int) < (C.length : Int) := by omega
        obtain ⟨kk, hkk, hkl⟩ := HIN.out _ (List.getElem_mem hlt)
        obtain ⟨q, o, E1, e1, E2, e2, E3, e3, E4, e4, hA, hg, hY⟩ := HU.out.decl hkl
        obtain ⟨gl, hAl⟩ := hrow1.out.isBlock (by omega)
        subst hA hAl
        have z : wr.cell? ⟨gl, m, none⟩ = some (.int .i64 (kk : Int)) := by
          have h9 := (hrow1.out.below hb3.out).at_ hlt
          rw [Nat.zero_add, hkk] at h9
          exact h9
        obtain ⟨⟨-, hV, -⟩, -, -, -, -, -, -, x6, -⟩ := hY _ (HT.out _ hb3)
        have y0 := HU.out.cell _ (HT.out _ hb3)
        have q1 : (kk : Int) < (L.length : Int) := by omega
        have q2 : (0 : Int) ≤ (kk : Int) := by omega
        have hvo : varsOf L C[m] = L[kk].vars := by rw [hkk]; unfold varsOf; rw [Int.toNat_natCast, List.getElem?_eq_getElem hkl]; rfl
        have hvl : L[kk].vars.length ≤ 1048576 := HVS.out _ (List.getElem_mem _)
        have hol : out.length ≤ (C.length - (m + 1)) * 1048576 := by
          rw [ho.out]
          refine Nat.le_trans (flat_le (varsOf L) 1048576 _ fun x hx => ?_) (by simp)
          obtain ⟨kx, hx1, hx2⟩ := HIN.out x (List.mem_of_mem_drop (List.mem_reverse.1 hx))
          rw [hx1, show varsOf L (kx : Int) = L[kx].vars from by unfold varsOf; rw [Int.toNat_natCast, List.getElem?_eq_getElem hx2]; rfl]
          exact HVS.out _ (List.getElem_mem _)
        have ho2 : out ++ L[kk].vars = (C.drop m).reverse.flatMap (varsOf L) := by
          rw [List.drop_eq_getElem_cons hlt, List.reverse_cons, List.flatMap_append, ← ho.out, List.flatMap_cons, List.flatMap_nil, List.append_nil, hvo]
        have HCE : Hid (∀ W, Hid (Below w2.heap.size w2 W) → W.cell? ⟨w.heap.size, 0, none⟩ = some (.slice (some ⟨q, o, none⟩) L.length c) ∧ W.cell? ⟨gl, m, none⟩ = some (.int .i64 (kk : Int)) ∧ W.cell? ⟨q, o + kk * 11 + 6, none⟩ = some (.slice E2 L[kk].vars.length e2)) := fun W h => ⟨HU.out.cell _ (HT.out _ h), by
          have h9 := (hrow1.out.below h.out).at_ hlt
          rw [Nat.zero_add, hkk] at h9
          exact h9, (hY _ (HT.out _ h)).2.2.2.2.2.2.2.1⟩
        have AP : Hid (∀ W, Hid (Below w2.heap.size w2 W) → Hid (VRow w2.heap.size W A2 c2 out) → ∃ v' w', (Builtin.append_ #[34, 34] 34 #[.slice A2 out.length c2, .slice E2 L[kk].vars.length e2]).run Try.prog W = .ok v' w' ∧ ∃ A' c' out', v' = .slice A' out'.length c' ∧ Hid (out' = (C.drop m).reverse.flatMap (varsOf L)) ∧ Hid (VRow w2.heap.size w' A' c' out') ∧ Hid (Below w2.heap.size w2 w') ∧ w'.cell? ⟨w.heap.size, 0, none⟩ = some (.slice (some ⟨q, o, none⟩) L.length c) ∧ w'.cell? ⟨gl, m, none⟩ = some (.int .i64 (kk : Int)) ∧ w'.cell? ⟨q, o + kk * 11 + 6, none⟩ = some (.slice E2 L[kk].vars.length e2)) := fun W h hr => by
          have hV' := (hY _ (HT.out _ h)).1.2.1
          obtain ⟨A', c', w', k1, k2, k3, _⟩ := app_vars (c1 := e2) hr.out hV' (by omega) h.out.size
          have hb' : Hid (Below w2.heap.size w2 w') := h.out.trans k3
          exact ⟨_, w', k1, A', c', out ++ L[kk].vars, rfl, ho2, k2, hb', HCE.out _ hb'⟩
        obtain ⟨V, hVV⟩ : ∃ V, V = L[kk].vars := ⟨_, rfl⟩
        rw [← hVV] at AP x6 HCE
        clear hV hvl hVV hY hkk hvo hol ho2
        go_wp2_with fail
        go_region_held3 (fun w' => w'.cell? ⟨w.heap.size, 0, none⟩ = some (.slice (some ⟨q, o, none⟩) L.length c) ∧ w'.cell? ⟨gl, m, none⟩ = some (.int .i64 (kk : Int)) ∧ w'.cell? ⟨q, o + kk * 11 + 6, none⟩ = some (.slice E2 V.length e2))
          (first | exact ⟨y0, z, x6⟩ | exact ⟨z0, z1, z2⟩)
          (first | (refine step_app (by rfl) _ _ _ (by rfl) (.slice A2 out.length c2) (.slice E2 V.length e2) (by rfl) (by rfl) (use2 (AP.out _ (by first | exact hb3 | exact Below.drew hb3) (by exact hrow2)) ?_); rintro v4 w4 ⟨A4, c4, out4, rfl, ho4, hr4, hb4, z0, z1, z2⟩))
        all_goals
          clear y0 z x6 z0 z1 z2
          go_wp2_with fail
          go_roundw
          case rel => exact ⟨m, (m : Int) - 1, out4, A4, c4, by omega, rfl, by go_num, rfl, ho4, hr4, hb4⟩
          case measure => simp [intOf]
end Go.Proofs.Ytkpieolmepngjaa
