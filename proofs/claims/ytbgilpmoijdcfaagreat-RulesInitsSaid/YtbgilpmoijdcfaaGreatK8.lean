/-
  slices.Grow of none, slices.Concat of variables, BY CONTRACTS.
-/
import Derived.Test.YtbgilpmoijdcfaaGreatK7
import Derived.Test.YtbgilpmoijdcfaaGreatK5
import Derived.Test.YtbgilpmoijdcfaaGreatK2
namespace Go.Proofs.YtbgilpmoijdcfaaGreat
open Go Go.RowKit
set_option linter.unusedVariables false
set_option linter.unusedSimpArgs false

def V0 : VT := ⟨⟨#[]⟩, ⟨0, 0, 0, ⟨#[]⟩⟩, 0, 0, 0⟩
abbrev v0cells : Array Value := #[.string ⟨#[]⟩, .int .i64 0, .int .i64 0, .int .i64 0, .string ⟨#[]⟩, .int .i64 0, .int .i64 0, .int .i64 0]
theorem Tryz.infoVar2 : (Tryz.prog.info? 41).map (fun i => (i.zero, i.size, i.bytes)) = some (some (.agg v0cells), 8, 80) := by kernel_rfl
theorem v0_in (w : World) : VIn V0 v0cells.toList := by
  have i0 : I64 0 := ⟨by decide, by decide⟩
  exact ⟨rfl, ⟨i0, i0⟩, i0, i0⟩
theorem size_zeroCells (z : Array Value) (n : Nat) : (Builtin.zeroCells z n).size = n * z.size := by simp [Builtin.zeroCells]
/-- append of a row that is made, onto none. -/
theorem run_append_zeros {P : Program} {w : World} (t ty e u : TypeId) (i : TypeInfo) (z : Value) (ht : P.underlying t = some (.slice e)) (hu : P.underlying u = some (.int .i64)) (hi : P.info? e = some i) (hz : i.zero = some z)
    (n : Nat) (h0 : 0 < n) (hs : 0 < i.size) (h63 : (n : Int) ≤ 9223372036854775807) (h48 : n * i.bytes ≤ 281474976710656) :
    (Builtin.append_ #[t, u] ty #[.slice none 0 0, .int .i64 (n : Int)]).run P w =
      .ok (.slice (some ⟨w.heap.size, 0, none⟩) n (grownCap w n 0 e)) (w.drew.alloc (.cells (Builtin.zeroCells z.cells n ++ Builtin.zeroCells z.cells (grownCap w n 0 e - n)) e)) := by
  have hn : n ≠ 0 := by omega
  have h63' : ¬ (9223372036854775807 < (n : Int)) := by omega
  have h48' : ¬ (281474976710656 < Builtin.nextslicecap n 0 * i.bytes) := by rw [nextslicecap_zero h0]; omega
  have hw : IntKind.i64.wrap (n : Int) = (n : Int) := by rw [IntKind.wrap_i64]; omega
  have hneg : ¬ ((n : Int) < 0) := by omega
  have h48i : ¬ (281474976710656 < (n : Int) * (i.bytes : Int)) := by
    have h1 : ((n * i.bytes : Nat) : Int) ≤ 281474976710656 := by omega
    rw [Int.natCast_mul] at h1
    omega
  have hns : ¬ (i.size = 0) := by omega
  have hai : ∀ W : World, (asInt (.int .i64 (n : Int))).run P W = .ok (n : Int) W := fun W => rfl
  simp [Builtin.append_, run_underlying ht, run_underlying hu, sizeOf, typeInfo, zeroValue, hi, hz, Builtin.lenOf, hn, h63', h48', Question.forced, run_firstCells_none, newRow, grownCap, hai, hw, hneg, h48i, hns]
  intro h
  have := Nat.mul_pos h0 hs
  omega
set_option maxRecDepth 100000 in
/-- append, whatever is appended, walked in the text's order. -/
theorem wpList_app2 {P : Program} {w : World} {ops : Array Oper} {rest : List Oper} {o : Oper} {a : Act} {Q : Exit → Act → World → Prop} (hgd : o.guard = none) (s x : Operand) (t u : TypeId)
    (ho : o.op = .call { callee := .builtin .append, args := #[s, x], argTypes := #[t, u] }) (v z : Value) (hs : a.eval s = v) (hx : a.eval x = z)
    (h : ∃ v' w', (Builtin.append_ #[t, u] o.type #[v, z]).run P w = .ok v' w' ∧ wpList P ops Q rest (a.put o.dst v') w') : wpList P ops Q (o :: rest) a w := by
  obtain ⟨v', w', hr, hk⟩ := h
  refine wpList_plain hgd fun K hK => ?_
  unfold Oper.wp execOp
  simp only [ho, resolve, invoke, builtin, Sem.run_bind, Sem.run_pure, Result.andThen_ok, List.map_toArray, List.map_cons, List.map_nil, hs, hx, hr]
  exact hK _ _ hk
set_option maxHeartbeats 1000000 in
set_option maxRecDepth 100000 in
theorem grow_any (n : Nat) (w : World) (hn : n ≤ 1000000000) : Calls Tryz.prog 100 #[.slice none 0 0, .int .i64 (n : Int)] w fun e w' => ∃ A c, e = .returned (.slice A 0 c) ∧ Hid (VRow w.heap.size w' A c []) ∧ Hid (Below w.heap.size w w') := by
  have n0 : ¬ (n : Int) < 0 := by omega
  have s0 : IntKind.i64.wrap ((n : Int) - 0) = (n : Int) := by rw [IntKind.wrap_i64]; omega
  have HB : Hid (Below w.heap.size w w) := Below.refl _ _
  have HV : Hid (VRow w.heap.size w none 0 []) := VRow.nil _ _
  by_cases hz : n = 0
  · subst hz
    go_enter Tryz.func100, Tryz.ntmps100
    go_wp2_with fail
    go_ret
    exact ⟨none, 0, rfl, HV, HB⟩
  · have np : (0 : Int) < (n : Int) := by omega
    obtain ⟨i0, hi0, hz0, hz1, hz2⟩ := info_parts Tryz.infoVar2
    have hap : ∀ W : World, ∃ v' w', (Builtin.append_ #[24, 3] 24 #[.slice none 0 0, .int .i64 (n : Int)]).run Tryz.prog W = .ok v' w' ∧ ∃ g cap, v' = .slice (some ⟨g, 0, none⟩) n cap ∧ n ≤ cap ∧ Hid (VRow W.heap.size w' (some ⟨g, 0, none⟩) cap []) ∧ Hid (Below W.heap.size W w') := fun W => by
      have h1 := run_append_zeros (P := Tryz.prog) (w := W) 24 24 41 3 i0 (.agg v0cells) Tryz.underlying24 Tryz.underlying3 hi0 hz0 n (by omega) (by rw [hz1]; decide) (by omega) (by rw [hz2]; omega)
      refine ⟨_, _, h1, W.heap.size, grownCap W n 0 41, rfl, ?_, ⟨[], ⟨rfl, .inr ⟨W.heap.size, _, _, rfl, Nat.le_refl _, heap_alloc_new W.drew _, Nat.zero_le _, ?_, ?_, by simp⟩⟩, fun k hk => by simp at hk⟩, ?_⟩
      · exact grownCap_ge _ _ _ _
      · exact grownCap_le_maxLen _ _ _ _ (by unfold maxLen; omega)
      · have hg := grownCap_ge W n 0 41
        have hv : (Value.cells (.agg v0cells)).size = 8 := by simp [Value.cells]
        rw [Array.size_append, size_zeroCells, size_zeroCells, hv]
        omega
      · exact (Below.refl W.heap.size W).drew.alloc (Nat.le_refl _) _
    have HAP := Lib.hid (hap w)
    clear hi0 hz0 hz1 hz2 hz hap
    go_enter Tryz.func100, Tryz.ntmps100
    go_wp2_with (at_builtin; refine wpList_app2 rfl _ _ _ _ rfl _ _ rfl rfl (use2 HAP.out ?_))
    rintro v5 w5 g cap rfl hnc hv hb
    have hcap : (0 : Int) ≤ (cap : Int) := by omega
    go_wp2_with fail
    go_ret
    exact ⟨some ⟨g, 0, none⟩, cap, rfl, hv, hb⟩
/-- rows of variables, one behind the other: what a row of rows tells. -/
def VVs (W : World) (B g : Nat) (Af : Nat → Option Addr) (cf : Nat → Nat) (LL : List (List VT)) : Prop := ∀ i (hi : i < LL.length), W.cell? ⟨g, i, none⟩ = some (.slice (Af i) LL[i].length (cf i)) ∧ VsR W B (Af i) LL[i]
theorem flat_take (LL : List (List VT)) (i : Nat) (hi : i < LL.length) : (LL.take (i + 1)).flatten = (LL.take i).flatten ++ LL[i] := by
  rw [List.take_succ_eq_append_getElem hi, List.flatten_append]
  simp
theorem flat_le_all (LL : List (List VT)) (i : Nat) : (LL.take i).flatten.length ≤ LL.flatten.length := by
  have h : LL.flatten = (LL.take i).flatten ++ (LL.drop i).flatten := by rw [← List.flatten_append, List.take_append_drop]
  rw [h, List.length_append]
  omega
set_option maxHeartbeats 2000000 in
set_option maxRecDepth 100000 in
theorem concat_any (LL : List (List VT)) (g : Nat) (Af : Nat → Option Addr) (cf : Nat → Nat) (w : World) (hg : g < w.heap.size) (h : VVs w w.heap.size g Af cf LL) (hsum : LL.flatten.length ≤ 1000000000) (hk : LL.length ≤ 1000) (r : List VT) (hr : r = LL.flatten) :
    Calls Tryz.prog 82 #[.slice (some ⟨g, 0, none⟩) LL.length LL.length] w (VSays w r) := by
  have HR := Lib.hid hr
  clear hr
  have HV : Hid (∀ W, Below w.heap.size w W → ∀ i (hi : i < LL.length), W.cell? ⟨g, i, none⟩ = some (.slice (Af i) LL[i].length (cf i)) ∧ VsR W w.heap.size (Af i) LL[i]) := fun W hb i hi => ⟨(hb.cell (p := ⟨g, i, none⟩) hg).trans (h i hi).1, VsR.mono (Nat.le_refl _) hb.block (h i hi).2⟩
  have HS := Lib.hid hsum
  have KG : Hid (∀ (W : World) (n : Nat), Hid (Below w.heap.size w W) → n ≤ 1000000000 → Calls Tryz.prog 100 #[.slice none 0 0, .int .i64 (n : Int)] W fun e w' => ∃ A c, e = .returned (.slice A 0 c) ∧ Hid (VRow w.heap.size w' A c []) ∧ Hid (Below w.heap.size w w')) := fun W n hW hn => (grow_any n W hn).mono fun e w' ⟨A, c, he, hv, hb⟩ => ⟨A, c, he, hv.out.lower hW.out.size, hW.out.trans (hb.out.mono hW.out.size)⟩
  clear h hsum
  unfold VSays
  go_enter Tryz.func82, Tryz.ntmps82
  go_wp2_with fail
  go_loopw [11, 3] (fun i m wr => ∃ k : Nat, k ≤ LL.length ∧ i = .int .i64 k ∧ m = .int .i64 ((LL.take k).flatten.length : Nat) ∧ Hid (Below w.heap.size w wr)) (fun i _ _ => LL.length - (intOf i).toNat)
  case atStart => exact ⟨0, Nat.zero_le _, rfl, rfl, Below.refl _ _⟩
  case round =>
    obtain ⟨k, hk2, rfl, rfl, hb⟩ := hrel
    have h2 : (0 : Int) ≤ (k : Int) := by omega
    have hs0 := HS.out
    by_cases hlt : k < LL.length
    · have h1 : (k : Int) < (LL.length : Int) := by omega
      obtain ⟨z, -⟩ := HV.out _ hb.out k hlt
      have hs : (LL.take (k + 1)).flatten.length = (LL.take k).flatten.length + LL[k].length := by rw [flat_take LL k hlt, List.length_append]
      have hle := flat_le_all LL (k + 1)
      obtain ⟨n, hn⟩ : ∃ n, n = (LL.take k).flatten.length := ⟨_, rfl⟩
      obtain ⟨l, hl⟩ : ∃ l, l = LL[k] := ⟨_, rfl⟩
      rw [← hn, ← hl] at hs
      rw [← hl] at z
      rw [← hn]
      have hneg : ¬ ((n : Int) + (l.length : Int)) < 0 := by omega
      have hwr : IntKind.i64.wrap ((n : Int) + (l.length : Int)) = (n : Int) + (l.length : Int) := by rw [IntKind.wrap_i64]; omega
      have HN := Lib.hid hs
      clear hs hn hl hle
      go_wp2_with fail
      go_roundw
      case rel => exact ⟨k + 1, by omega, by go_num, by rw [HN.out]; go_num, hb⟩
      case measure => simp [intOf]; omega
    · have h1 : ¬ (k : Int) < (LL.length : Int) := by omega
      have ht : LL.take k = LL := List.take_of_length_le (by omega)
      rw [ht]
      obtain ⟨n, hn⟩ : ∃ n, n = LL.flatten.length := ⟨_, rfl⟩
      rw [← hn] at hs0 ⊢
      have KG2 : Hid (Calls Tryz.prog 100 #[.slice none 0 0, .int .i64 (n : Int)] _ _) := KG.out wr n hb hs0
      clear ht hlt hn
      go_wp2_with fail
      refine KG2.out.mono ?_
      rintro e1 w1 ⟨A, c, rfl, hv, hb1⟩
      clear KG2 KG hb hs0
      go_wp2_with fail
      go_loopw [27, 6] (fun i m wr => ∃ (k : Nat) (A : Option Addr) (c : Nat) (out : List VT), k ≤ LL.length ∧ i = .int .i64 k ∧ m = .slice A out.length c ∧ Hid (out = (LL.take k).flatten) ∧ Hid (VRow w.heap.size wr A c out) ∧ Hid (Below w.heap.size w wr)) (fun i _ _ => LL.length - (intOf i).toNat)
      case atStart => exact ⟨0, A, c, [], Nat.zero_le _, rfl, rfl, rfl, hv, hb1⟩
      case round =>
        obtain ⟨k, A, c, out, hk2, rfl, rfl, ho, hv, hb⟩ := hrel
        have h2 : (0 : Int) ≤ (k : Int) := by omega
        by_cases hlt : k < LL.length
        · have h1 : (k : Int) < (LL.length : Int) := by omega
          obtain ⟨z, hV⟩ := HV.out _ hb.out k hlt
          have hs : (LL.take (k + 1)).flatten = out ++ LL[k] := by rw [flat_take LL k hlt, ho.out]
          have hle := flat_le_all LL (k + 1)
          rw [hs, List.length_append] at hle
          have hs0 := HS.out
          obtain ⟨A', c', w', k1, k2, k3, _⟩ := app_vars (c1 := cf k) hv.out hV (by omega) hb.out.size
          have AP : Hid (∃ v' w', (Builtin.append_ #[24, 24] 24 #[.slice A out.length c, .slice (Af k) LL[k].length (cf k)]).run Tryz.prog wr = .ok v' w' ∧ ∃ A' c' out', v' = .slice A' out'.length c' ∧ Hid (out' = (LL.take (k + 1)).flatten) ∧ Hid (VRow w.heap.size w' A' c' out') ∧ Hid (Below w.heap.size w w')) :=
            ⟨_, w', k1, A', c', out ++ LL[k], rfl, hs.symm, k2, hb.out.trans k3⟩
          obtain ⟨l, hl⟩ : ∃ l, l = LL[k] := ⟨_, rfl⟩
          rw [← hl] at z AP
          clear hs hle hs0 k1 k2 k3 hV hl
          go_wp2_with (at_builtin; refine wpList_app rfl _ _ _ rfl _ _ rfl rfl (use2 AP.out ?_))
          rintro v2 w2 A2 c2 out2 rfl ho2 hv2 hb2
          go_wp2_with fail
          go_roundw
          case rel => exact ⟨k + 1, A2, c2, out2, by omega, by go_num, rfl, ho2, hv2, hb2⟩
          case measure => simp [intOf]; omega
        · have h1 : ¬ (k : Int) < (LL.length : Int) := by omega
          have ht : LL.take k = LL := List.take_of_length_le (by omega)
          have HO : Hid (r = out) := by rw [ho.out, ht]; exact HR.out
          clear ht hlt
          go_wp2_with fail
          go_ret
          exact ⟨A, c, by rw [HO.out]; rfl, HO.out ▸ hv.out, hb.out⟩
end Go.Proofs.YtbgilpmoijdcfaaGreat

/-
  Rows of rules; slices.Grow of none, slices.Concat of them, BY CONTRACTS.
-/
namespace Go.Proofs.YtbgilpmoijdcfaaGreat
open Go Go.RowKit Go.Shelf
set_option linter.unusedVariables false
set_option linter.unusedSimpArgs false

/-- a rule: its code, the number of the function that asks it. -/
structure RT where
  code : Int
  fn : Nat
abbrev RT.cells (r : RT) : List Value := [.int .i64 r.code, .func (.func r.fn) #[] #[]]
def RIn : RT → List Value → Prop := fun r cs => cs = r.cells
abbrev RsR (w : World) (B : Nat) (A : Option Addr) (l : List RT) : Prop := RowIn RIn w B A 2 l
theorem RsR.mono {w w' : World} {B B' : Nat} (hb : B ≤ B') (hk : ∀ g, g < B → w'.heap[g]? = w.heap[g]?) {A : Option Addr} {l : List RT} (h : RsR w B A l) : RsR w' B' A l := RowIn.mono hb hk (fun _ _ _ h => h) h
theorem Tryz.infoRule : (Tryz.prog.info? 61).map (fun i => (i.zero.map (·.cells.size), i.size, i.bytes)) = some (some 2, 2, 16) := by kernel_rfl
abbrev r0cells : Array Value := #[.int .i64 0, .nilFunc]
theorem Tryz.infoRule2 : (Tryz.prog.info? 61).map (fun i => (i.zero, i.size, i.bytes)) = some (some (.agg r0cells), 2, 16) := by kernel_rfl
theorem rin_one {r : RT} {cs : List Value} (h : RIn r cs) : ∀ u ∈ cs, u.oneCell' = true := by
  obtain rfl := h
  simp [Value.oneCell']
/-- v is a row of the call's own (from block B on) that holds these variables. -/
def RRow (B : Nat) (w : World) (A : Option Addr) (c : Nat) (l : List RT) : Prop := ∃ xs, w.ownsRow B 61 2 (.slice A l.length c) l.length xs ∧ ∀ (k : Nat) (hk : k < l.length), RIn l[k] ((xs.drop (k * 2)).take 2)
theorem RRow.rsr {B : Nat} {w : World} {A : Option Addr} {c : Nat} {l : List RT} (h : RRow B w A c l) : RsR w w.heap.size A l := by
  obtain ⟨xs, h1, h2⟩ := h
  obtain ⟨A', c', e, h3⟩ := row_owned (R := RIn) rfl h1 h2
  simp only [Value.slice.injEq, true_and] at e
  obtain ⟨rfl, rfl⟩ := e
  exact h3

theorem RRow.below {B : Nat} {w w' : World} {A : Option Addr} {c : Nat} {l : List RT} (h : RRow B w A c l) (hb : Below w.heap.size w w') : RRow B w' A c l := by
  obtain ⟨xs, h1, h2⟩ := h
  exact ⟨xs, ownsRow_far h1 hb, h2⟩
theorem RRow.nil (B : Nat) (w : World) : RRow B w none 0 [] := ⟨[], World.ownsRow_nil _ _ _ _, fun k hk => by simp at hk⟩
theorem RRow.lower {B B' : Nat} {w : World} {A : Option Addr} {c : Nat} {l : List RT} (h : RRow B w A c l) (hb : B' ≤ B) : RRow B' w A c l := by
  obtain ⟨xs, h1, h2⟩ := h
  exact ⟨xs, ownsRow_lower hb h1, h2⟩
/-- a call answers a new row of these variables; nothing that was there is changed. -/
def RrSays (w : World) (l : List RT) (e : Ending) (w' : World) : Prop := ∃ A c, e = .returned (.slice A l.length c) ∧ RRow w.heap.size w' A c l ∧ Below w.heap.size w w'

/-- append of a row of variables, wherever it lies, onto one of the call's own. -/
theorem app_rules {B B' : Nat} {W : World} {A A1 : Option Addr} {c c1 : Nat} {l m : List RT} (h : RRow B W A c l) (hm : RsR W B' A1 m) (hlen : l.length + m.length ≤ 1700000000000) (hB : B ≤ W.heap.size) :
    ∃ A' c' w', (Builtin.append_ #[56, 56] 56 #[.slice A l.length c, .slice A1 m.length c1]).run Tryz.prog W = .ok (.slice A' (l ++ m).length c') w' ∧ RRow B w' A' c' (l ++ m) ∧ Below B W w' ∧ W.grownBy w' (Value.slice A l.length c).ownBlock ∧
      ((Value.slice A' (l ++ m).length c').ownBlock = (Value.slice A l.length c).ownBlock ∨ (Value.slice A' (l ++ m).length c').ownBlock = some W.heap.size) := by
  have hi0 : (Tryz.prog.info? 61).map (fun i => (i.zero.map (·.cells.size), i.size, i.bytes)) = some (some 2, 2, 16) := Tryz.infoRule
  obtain ⟨i0, hi, hz0, hz1, hz2⟩ : ∃ i0, Tryz.prog.info? 61 = some i0 ∧ i0.zero.map (·.cells.size) = some 2 ∧ i0.size = 2 ∧ i0.bytes = 16 := by
    cases hq : Tryz.prog.info? 61 with
    | none => rw [hq] at hi0; simp at hi0
    | some i0 => rw [hq] at hi0; simp at hi0; exact ⟨i0, rfl, by simpa using hi0.1, hi0.2.1, hi0.2.2⟩
  obtain ⟨z, hz, hzs⟩ := Option.map_eq_some_iff.1 hz0
  obtain ⟨xs, hown, hx⟩ := h
  obtain ⟨ys, y1, y2, y3, y4⟩ := row_cells (by decide) (fun a cs h => rin_one h) hm
  have hA : (A1 = none ∧ m.length = 0) ∨ ∃ g o, A1 = some ⟨g, o, none⟩ ∨ (m.length = 0 ∧ A1 = some ⟨g, o, none⟩) ∨ (m.length = 0 ∧ ∃ a, A1 = some a) := by
    cases A1 with
    | none =>
      left
      refine ⟨rfl, ?_⟩
      rcases Nat.eq_zero_or_pos m.length with h0 | h0
      · exact h0
      · obtain ⟨g, o, cs, e, _⟩ := hm 0 h0
        cases e
    | some a =>
      right
      rcases Nat.eq_zero_or_pos m.length with h0 | h0
      · exact ⟨0, 0, .inr (.inr ⟨h0, a, rfl⟩)⟩
      · obtain ⟨g, o, cs, e, _⟩ := hm 0 h0
        exact ⟨g, o, .inl e⟩
  have run : ∃ v' w', (Builtin.append_ #[56, 56] 56 #[.slice A l.length c, .slice A1 m.length c1]).run Tryz.prog W = .ok v' w' ∧ w'.ownsRow B 61 2 v' (l.length + m.length) (xs ++ ys) ∧ W.grownBy w' (Value.slice A l.length c).ownBlock ∧ (v'.ownBlock = (Value.slice A l.length c).ownBlock ∨ v'.ownBlock = some W.heap.size) := by
    have go : ∀ c1 : Nat, ((A1 = none ∧ m.length = 0 ∧ c1 = 0) ∨ (m.length = 0 ∧ ∃ a, A1 = some a) ∨ ∃ g o, A1 = some ⟨g, o, none⟩) → ∃ v' w', (Builtin.append_ #[56, 56] 56 #[.slice A l.length c, .slice A1 m.length c1]).run Tryz.prog W = .ok v' w' ∧ w'.ownsRow B 61 2 v' (l.length + m.length) (xs ++ ys) ∧ W.grownBy w' (Value.slice A l.length c).ownBlock ∧ (v'.ownBlock = (Value.slice A l.length c).ownBlock ∨ v'.ownBlock = some W.heap.size) := fun c1 hA => app_run (P := Tryz.prog) (w := W) (base := B) (t := 56) (ty := 56) (bytes := 16) Tryz.underlying56 hi hz hz1 hz2 hzs (by decide) hown (A := A1) (m := m.length) (c := c1) (news := ys) y1 (fun g o e j u hj => y2 g o e j u hj) hA y3 (by unfold maxLen; omega) (by omega) hB
    rcases hA with ⟨h1, h2⟩ | ⟨g, o, h1 | ⟨h2, h1⟩ | ⟨h2, h1⟩⟩
    · have := go 0 (.inl ⟨h1, h2, rfl⟩)
      rw [h1, h2, append_capless]
      rw [h1, h2] at this
      exact this
    · exact go c1 (.inr (.inr ⟨g, o, h1⟩))
    · exact go c1 (.inr (.inr ⟨g, o, h1⟩))
    · exact go c1 (.inr (.inl ⟨h2, h1⟩))
  obtain ⟨v', w', k1, k2, k3, k4⟩ := run
  have hlm : (l ++ m).length = l.length + m.length := List.length_append
  have hshape : ∃ A' c', v' = .slice A' (l ++ m).length c' := by
    rcases k2.2 with ⟨h1, h2⟩ | ⟨g, cap, cur, h1, _⟩
    · exact ⟨none, 0, by rw [h1, hlm, h2]⟩
    · exact ⟨_, cap, by rw [h1, hlm]⟩
  obtain ⟨A', c', rfl⟩ := hshape
  refine ⟨A', c', w', k1, ⟨xs ++ ys, by rw [← hlm] at k2; exact k2, fun k hk => ?_⟩, (Below.refl B W).grown k3 hB (fun j hj => (hown.lt j hj).1), k3, k4⟩
  have hxl : xs.length = l.length * 2 := hown.1
  by_cases hkn : k < l.length
  · rw [List.getElem_append_left hkn]
    have e : (((xs ++ ys).drop (k * 2)).take 2) = ((xs.drop (k * 2)).take 2) := by
      have : (k + 1) * 2 ≤ l.length * 2 := Nat.mul_le_mul_right _ (by omega)
      rw [List.drop_append_of_le_length (by omega), List.take_append_of_le_length (by simp only [List.length_drop]; omega)]
    rw [e]
    exact hx k hkn
  · have hk2 : k - l.length < m.length := by simp at hk; omega
    rw [List.getElem_append_right (by omega)]
    have e : (((xs ++ ys).drop (k * 2)).take 2) = ((ys.drop ((k - l.length) * 2)).take 2) := by
      have e1 : k * 2 = xs.length + (k - l.length) * 2 := by
        have e2 : l.length + (k - l.length) = k := by omega
        rw [hxl, ← Nat.add_mul, e2]
      rw [e1, ← List.drop_drop, List.drop_left]
    rw [e]
    exact y4 (k - l.length) hk2

set_option maxHeartbeats 1000000 in
set_option maxRecDepth 100000 in
theorem ruGrow_any (n : Nat) (w : World) (hn : n ≤ 1000000000) : Calls Tryz.prog 32 #[.slice none 0 0, .int .i64 (n : Int)] w fun e w' => ∃ A c, e = .returned (.slice A 0 c) ∧ Hid (RRow w.heap.size w' A c []) ∧ Hid (Below w.heap.size w w') := by
  have n0 : ¬ (n : Int) < 0 := by omega
  have s0 : IntKind.i64.wrap ((n : Int) - 0) = (n : Int) := by rw [IntKind.wrap_i64]; omega
  have HB : Hid (Below w.heap.size w w) := Below.refl _ _
  have HV : Hid (RRow w.heap.size w none 0 []) := RRow.nil _ _
  by_cases hz : n = 0
  · subst hz
    go_enter Tryz.func32, Tryz.ntmps32
    go_wp2_with fail
    go_ret
    exact ⟨none, 0, rfl, HV, HB⟩
  · have np : (0 : Int) < (n : Int) := by omega
    obtain ⟨i0, hi0, hz0, hz1, hz2⟩ := info_parts Tryz.infoRule2
    have hap : ∀ W : World, ∃ v' w', (Builtin.append_ #[56, 3] 56 #[.slice none 0 0, .int .i64 (n : Int)]).run Tryz.prog W = .ok v' w' ∧ ∃ g cap, v' = .slice (some ⟨g, 0, none⟩) n cap ∧ n ≤ cap ∧ Hid (RRow W.heap.size w' (some ⟨g, 0, none⟩) cap []) ∧ Hid (Below W.heap.size W w') := fun W => by
      have h1 := run_append_zeros (P := Tryz.prog) (w := W) 56 56 61 3 i0 (.agg r0cells) Tryz.underlying56 Tryz.underlying3 hi0 hz0 n (by omega) (by rw [hz1]; decide) (by omega) (by rw [hz2]; omega)
      refine ⟨_, _, h1, W.heap.size, grownCap W n 0 61, rfl, ?_, ⟨[], ⟨rfl, .inr ⟨W.heap.size, _, _, rfl, Nat.le_refl _, heap_alloc_new W.drew _, Nat.zero_le _, ?_, ?_, by simp⟩⟩, fun k hk => by simp at hk⟩, ?_⟩
      · exact grownCap_ge _ _ _ _
      · exact grownCap_le_maxLen _ _ _ _ (by unfold maxLen; omega)
      · have hg := grownCap_ge W n 0 61
        have hv : (Value.cells (.agg r0cells)).size = 2 := by simp [Value.cells]
        rw [Array.size_append, size_zeroCells, size_zeroCells, hv]
        omega
      · exact (Below.refl W.heap.size W).drew.alloc (Nat.le_refl _) _
    have HAP := Lib.hid (hap w)
    clear hi0 hz0 hz1 hz2 hz hap
    go_enter Tryz.func32, Tryz.ntmps32
    go_wp2_with (at_builtin; refine wpList_app2 rfl _ _ _ _ rfl _ _ rfl rfl (use2 HAP.out ?_))
    rintro v5 w5 g cap rfl hnc hv hb
    have hcap : (0 : Int) ≤ (cap : Int) := by omega
    go_wp2_with fail
    go_ret
    exact ⟨some ⟨g, 0, none⟩, cap, rfl, hv, hb⟩
/-- rows of variables, one behind the other: what a row of rows tells. -/
def RRs (W : World) (B g : Nat) (Af : Nat → Option Addr) (cf : Nat → Nat) (LL : List (List RT)) : Prop := ∀ i (hi : i < LL.length), W.cell? ⟨g, i, none⟩ = some (.slice (Af i) LL[i].length (cf i)) ∧ RsR W B (Af i) LL[i]
theorem ruFlat_take (LL : List (List RT)) (i : Nat) (hi : i < LL.length) : (LL.take (i + 1)).flatten = (LL.take i).flatten ++ LL[i] := by
  rw [List.take_succ_eq_append_getElem hi, List.flatten_append]
  simp
theorem ruFlat_le (LL : List (List RT)) (i : Nat) : (LL.take i).flatten.length ≤ LL.flatten.length := by
  have h : LL.flatten = (LL.take i).flatten ++ (LL.drop i).flatten := by rw [← List.flatten_append, List.take_append_drop]
  rw [h, List.length_append]
  omega
set_option maxHeartbeats 2000000 in
set_option maxRecDepth 100000 in
theorem ruConcat_any (LL : List (List RT)) (g : Nat) (Af : Nat → Option Addr) (cf : Nat → Nat) (w : World) (hg : g < w.heap.size) (h : RRs w w.heap.size g Af cf LL) (hsum : LL.flatten.length ≤ 1000000000) (hk : LL.length ≤ 1000) (r : List RT) (hr : r = LL.flatten) :
    Calls Tryz.prog 13 #[.slice (some ⟨g, 0, none⟩) LL.length LL.length] w (RrSays w r) := by
  have HR := Lib.hid hr
  clear hr
  have HV : Hid (∀ W, Below w.heap.size w W → ∀ i (hi : i < LL.length), W.cell? ⟨g, i, none⟩ = some (.slice (Af i) LL[i].length (cf i)) ∧ RsR W w.heap.size (Af i) LL[i]) := fun W hb i hi => ⟨(hb.cell (p := ⟨g, i, none⟩) hg).trans (h i hi).1, RsR.mono (Nat.le_refl _) hb.block (h i hi).2⟩
  have HS := Lib.hid hsum
  have KG : Hid (∀ (W : World) (n : Nat), Hid (Below w.heap.size w W) → n ≤ 1000000000 → Calls Tryz.prog 32 #[.slice none 0 0, .int .i64 (n : Int)] W fun e w' => ∃ A c, e = .returned (.slice A 0 c) ∧ Hid (RRow w.heap.size w' A c []) ∧ Hid (Below w.heap.size w w')) := fun W n hW hn => (ruGrow_any n W hn).mono fun e w' ⟨A, c, he, hv, hb⟩ => ⟨A, c, he, hv.out.lower hW.out.size, hW.out.trans (hb.out.mono hW.out.size)⟩
  clear h hsum
  unfold RrSays
  go_enter Tryz.func13, Tryz.ntmps13
  go_wp2_with fail
  go_loopw [11, 3] (fun i m wr => ∃ k : Nat, k ≤ LL.length ∧ i = .int .i64 k ∧ m = .int .i64 ((LL.take k).flatten.length : Nat) ∧ Hid (Below w.heap.size w wr)) (fun i _ _ => LL.length - (intOf i).toNat)
  case atStart => exact ⟨0, Nat.zero_le _, rfl, rfl, Below.refl _ _⟩
  case round =>
    obtain ⟨k, hk2, rfl, rfl, hb⟩ := hrel
    have h2 : (0 : Int) ≤ (k : Int) := by omega
    have hs0 := HS.out
    by_cases hlt : k < LL.length
    · have h1 : (k : Int) < (LL.length : Int) := by omega
      obtain ⟨z, -⟩ := HV.out _ hb.out k hlt
      have hs : (LL.take (k + 1)).flatten.length = (LL.take k).flatten.length + LL[k].length := by rw [ruFlat_take LL k hlt, List.length_append]
      have hle := ruFlat_le LL (k + 1)
      obtain ⟨n, hn⟩ : ∃ n, n = (LL.take k).flatten.length := ⟨_, rfl⟩
      obtain ⟨l, hl⟩ : ∃ l, l = LL[k] := ⟨_, rfl⟩
      rw [← hn, ← hl] at hs
      rw [← hl] at z
      rw [← hn]
      have hneg : ¬ ((n : Int) + (l.length : Int)) < 0 := by omega
      have hwr : IntKind.i64.wrap ((n : Int) + (l.length : Int)) = (n : Int) + (l.length : Int) := by rw [IntKind.wrap_i64]; omega
      have HN := Lib.hid hs
      clear hs hn hl hle
      go_wp2_with fail
      go_roundw
      case rel => exact ⟨k + 1, by omega, by go_num, by rw [HN.out]; go_num, hb⟩
      case measure => simp [intOf]; omega
    · have h1 : ¬ (k : Int) < (LL.length : Int) := by omega
      have ht : LL.take k = LL := List.take_of_length_le (by omega)
      rw [ht]
      obtain ⟨n, hn⟩ : ∃ n, n = LL.flatten.length := ⟨_, rfl⟩
      rw [← hn] at hs0 ⊢
      have KG2 : Hid (Calls Tryz.prog 32 #[.slice none 0 0, .int .i64 (n : Int)] _ _) := KG.out wr n hb hs0
      clear ht hlt hn
      go_wp2_with fail
      refine KG2.out.mono ?_
      rintro e1 w1 ⟨A, c, rfl, hv, hb1⟩
      clear KG2 KG hb hs0
      go_wp2_with fail
      go_loopw [27, 6] (fun i m wr => ∃ (k : Nat) (A : Option Addr) (c : Nat) (out : List RT), k ≤ LL.length ∧ i = .int .i64 k ∧ m = .slice A out.length c ∧ Hid (out = (LL.take k).flatten) ∧ Hid (RRow w.heap.size wr A c out) ∧ Hid (Below w.heap.size w wr)) (fun i _ _ => LL.length - (intOf i).toNat)
      case atStart => exact ⟨0, A, c, [], Nat.zero_le _, rfl, rfl, rfl, hv, hb1⟩
      case round =>
        obtain ⟨k, A, c, out, hk2, rfl, rfl, ho, hv, hb⟩ := hrel
        have h2 : (0 : Int) ≤ (k : Int) := by omega
        by_cases hlt : k < LL.length
        · have h1 : (k : Int) < (LL.length : Int) := by omega
          obtain ⟨z, hV⟩ := HV.out _ hb.out k hlt
          have hs : (LL.take (k + 1)).flatten = out ++ LL[k] := by rw [ruFlat_take LL k hlt, ho.out]
          have hle := ruFlat_le LL (k + 1)
          rw [hs, List.length_append] at hle
          have hs0 := HS.out
          obtain ⟨A', c', w', k1, k2, k3, _⟩ := app_rules (c1 := cf k) hv.out hV (by omega) hb.out.size
          have AP : Hid (∃ v' w', (Builtin.append_ #[56, 56] 56 #[.slice A out.length c, .slice (Af k) LL[k].length (cf k)]).run Tryz.prog wr = .ok v' w' ∧ ∃ A' c' out', v' = .slice A' out'.length c' ∧ Hid (out' = (LL.take (k + 1)).flatten) ∧ Hid (RRow w.heap.size w' A' c' out') ∧ Hid (Below w.heap.size w w')) :=
            ⟨_, w', k1, A', c', out ++ LL[k], rfl, hs.symm, k2, hb.out.trans k3⟩
          obtain ⟨l, hl⟩ : ∃ l, l = LL[k] := ⟨_, rfl⟩
          rw [← hl] at z AP
          clear hs hle hs0 k1 k2 k3 hV hl
          go_wp2_with (at_builtin; refine wpList_app rfl _ _ _ rfl _ _ rfl rfl (use2 AP.out ?_))
          rintro v2 w2 A2 c2 out2 rfl ho2 hv2 hb2
          go_wp2_with fail
          go_roundw
          case rel => exact ⟨k + 1, A2, c2, out2, by omega, by go_num, rfl, ho2, hv2, hb2⟩
          case measure => simp [intOf]; omega
        · have h1 : ¬ (k : Int) < (LL.length : Int) := by omega
          have ht : LL.take k = LL := List.take_of_length_le (by omega)
          have HO : Hid (r = out) := by rw [ho.out, ht]; exact HR.out
          clear ht hlt
          go_wp2_with fail
          go_ret
          exact ⟨A, c, by rw [HO.out]; rfl, HO.out ▸ hv.out, hb.out⟩
end Go.Proofs.YtbgilpmoijdcfaaGreat

/-
  typing on plain data: types of expressions; the scope's block; the small functions BY CONTRACTS.
-/
namespace Go.Proofs.YtbgilpmoijdcfaaGreat
open Go Go.RowKit
set_option linter.unusedVariables false
set_option linter.unusedSimpArgs false

def sayV (V : List VT) (s : ByteArray) : Option VT := V.find? (fun v => decide (v.name = s))
def Y0 : YT := ⟨0, 0, 0, ⟨#[]⟩⟩
def plainT (k : Int) : YT := ⟨k, 0, 0, ⟨#[]⟩⟩
def toldT (t : YT) (c : Int) : YT × Int := if c = 0 then (t, 0) else (Y0, c)
def variableT (V : List VT) (s : ByteArray) (k : Int) : VT × Int := match sayV V s with
  | none => (V0, 13)
  | some v => if v.type.kind = k then (v, 0) else (V0, 14)
def nameT (V : List VT) (s : ByteArray) : YT × Int := match sayV V s with
  | none => (Y0, 13)
  | some v => if v.type.kind = 1 ∨ v.type.kind = 3 then (plainT 1, 0) else if v.type.kind = 2 then (plainT 2, 0) else if v.type.kind = 5 then (v.type, 0) else (Y0, 14)
def formedT (k : Int) (n : Nat) : Bool :=
  if k = 1 ∨ k = 2 ∨ k = 3 ∨ k = 4 ∨ k = 5 ∨ k = 10 ∨ k = 11 ∨ k = 12 then decide (n = 0) else if k = 6 ∨ k = 7 ∨ k = 8 ∨ k = 14 then decide (n = 1) else if k = 9 then decide (n = 2) else decide (k = 13)

/-- a place: its numbers, what is visible there, its result. -/
structure SC where
  d : Int
  m : Int
  V : List VT
  res : YT
/-- what a scope stands over. -/
structure CX where
  L : List DT
  A : Option Addr
  c : Nat
  p : Nat
  N : Nat
  sb : Nat
  vb : Nat
  S : SC
abbrev scells (K : CX) : Array Value := #[.pointer (some ⟨K.p, 0, none⟩), .slice K.A K.L.length K.c, .int .i64 K.S.d, .int .i64 K.S.m, .map (some K.vb), .int .i64 K.S.res.kind, .int .i64 K.S.res.lo, .int .i64 K.S.res.hi, .string K.S.res.name]
structure SAt (K : CX) (W : World) (I : IX) : Prop where
  ix : XAt K.L K.A K.c K.p K.N W I
  box : W.heap[K.sb]? = some (.cells (scells K) 131 (0, 0))
  map : MapAt W K.vb (fun s => (sayV K.S.V s).map vv)
  ns : ¬ I.has K.p K.sb
  nv : ¬ I.has K.p K.vb
theorem SAt.sb {K : CX} {W : World} {I : IX} (h : SAt K W I) : K.sb < W.heap.size := (Array.getElem?_eq_some_iff.1 h.box).1
theorem SAt.step {K : CX} {W W' : World} {I I' : IX} (h : SAt K W I) (hx : XAt K.L K.A K.c K.p K.N W' I') (ht : XTo K.p W I W' I') : SAt K W' I' :=
  ⟨hx, (ht.block _ h.sb h.ns).trans h.box, h.map.stay (ht.block _ h.map.lt h.nv), ht.none h.sb h.ns, ht.none h.map.lt h.nv⟩
theorem SAt.below {K : CX} {W W' : World} {I : IX} (h : SAt K W I) (hb : Below W.heap.size W W') : SAt K W' I := h.step (h.ix.below hb) (XTo.of_below hb)
theorem SAt.c0 {K : CX} {W : World} {I : IX} (h : SAt K W I) : W.cell? ⟨K.sb, 0, none⟩ = some (.pointer (some ⟨K.p, 0, none⟩)) := by rw [cell_of_row _ _ 0 _ _ _ h.box]; rfl
theorem SAt.c1 {K : CX} {W : World} {I : IX} (h : SAt K W I) : W.cell? ⟨K.sb, 1, none⟩ = some (.slice K.A K.L.length K.c) := by rw [cell_of_row _ _ 1 _ _ _ h.box]; rfl
theorem SAt.c2 {K : CX} {W : World} {I : IX} (h : SAt K W I) : W.cell? ⟨K.sb, 2, none⟩ = some (.int .i64 K.S.d) := by rw [cell_of_row _ _ 2 _ _ _ h.box]; rfl
theorem SAt.c3 {K : CX} {W : World} {I : IX} (h : SAt K W I) : W.cell? ⟨K.sb, 3, none⟩ = some (.int .i64 K.S.m) := by rw [cell_of_row _ _ 3 _ _ _ h.box]; rfl
theorem SAt.c4 {K : CX} {W : World} {I : IX} (h : SAt K W I) : W.cell? ⟨K.sb, 4, none⟩ = some (.map (some K.vb)) := by rw [cell_of_row _ _ 4 _ _ _ h.box]; rfl
theorem SAt.c5 {K : CX} {W : World} {I : IX} (h : SAt K W I) : W.cell? ⟨K.sb, 5, none⟩ = some (.int .i64 K.S.res.kind) := by rw [cell_of_row _ _ 5 _ _ _ h.box]; rfl
theorem SAt.c6 {K : CX} {W : World} {I : IX} (h : SAt K W I) : W.cell? ⟨K.sb, 6, none⟩ = some (.int .i64 K.S.res.lo) := by rw [cell_of_row _ _ 6 _ _ _ h.box]; rfl
theorem SAt.c7 {K : CX} {W : World} {I : IX} (h : SAt K W I) : W.cell? ⟨K.sb, 7, none⟩ = some (.int .i64 K.S.res.hi) := by rw [cell_of_row _ _ 7 _ _ _ h.box]; rfl
theorem SAt.c8 {K : CX} {W : World} {I : IX} (h : SAt K W I) : W.cell? ⟨K.sb, 8, none⟩ = some (.string K.S.res.name) := by rw [cell_of_row _ _ 8 _ _ _ h.box]; rfl
/-- this value is answered; the scope stands. -/
def SRet (K : CX) (W : World) (I : IX) (v : Value) (e : Ending) (w' : World) : Prop := ∃ I', e = .returned v ∧ Hid (SAt K w' I') ∧ Hid (XTo K.p W I w' I')
/-- this value is answered; nothing that was there is changed. -/
def QRet (W : World) (v : Value) (e : Ending) (w' : World) : Prop := e = .returned v ∧ Hid (Below W.heap.size W w')
theorem SAt.quiet {K : CX} {W : World} {I : IX} (h : SAt K W I) {v : Value} {e : Ending} {w' : World} (q : QRet W v e w') : SRet K W I v e w' := ⟨I, q.1, h.below q.2, XTo.of_below q.2⟩
theorem SRet.from {K : CX} {W W1 : World} {I I1 : IX} (ht : XTo K.p W I W1 I1) {v : Value} {e : Ending} {w' : World} (q : SRet K W1 I1 v e w') : SRet K W I v e w' := by
  obtain ⟨I', h1, h2, h3⟩ := q
  exact ⟨I', h1, h2, ht.trans h3⟩
abbrev y0cells : Array Value := #[.int .i64 0, .int .i64 0, .int .i64 0, .string ⟨#[]⟩]
def tc (r : YT × Int) : Value := .tuple #[.agg (ycells r.1), .int .i64 r.2]
theorem run_zeroVar (W : World) : (zeroValue 41).run Tryz.prog W = .ok (.agg v0cells) W := by
  have h := Tryz.infoVar2
  cases hi : Tryz.prog.info? 41 with
  | none => rw [hi] at h; simp at h
  | some i =>
    rw [hi] at h
    simp only [Option.map_some, Option.some.injEq, Prod.mk.injEq] at h
    simp [zeroValue, typeInfo, hi, h.1]
theorem run_vars {K : CX} {W : World} {I : IX} (h : SAt K W I) (s : ByteArray) :
    (Instr.lookup 129 (.map (some K.vb)) (.string s) true).run Tryz.prog W = .ok (.tuple #[((sayV K.S.V s).map vv).getD (.agg v0cells), .bool (sayV K.S.V s).isSome]) W := by
  have := run_lookup (P := Tryz.prog) (t := 129) (k := 9) (E := 41) (by kernel_rfl) (by kernel_rfl) run_zeroVar h.map s
  simpa using this


theorem results_ty1 {fn : Func} {p : Tmp} (h : fn.results = #[.cell p 38]) (tmps : Array Value) (w : World) (g : Nat) (v0 v1 v2 v3 : Value) (hp : tmps.getD p undef = .pointer (some ⟨g, 0, none⟩))
    (c0 : w.cell? ⟨g, 0, none⟩ = some v0) (c1 : w.cell? ⟨g, 1, none⟩ = some v1) (c2 : w.cell? ⟨g, 2, none⟩ = some v2) (c3 : w.cell? ⟨g, 3, none⟩ = some v3) :
    (results fn tmps).run Tryz.prog w = .ok (.agg #[v0, v1, v2, v3]) w := by
  have hp2 : tmps[p]?.getD undef = .pointer (some ⟨g, 0, none⟩) := by simpa using hp
  simp only [results, h]
  simp [hp2, go_sem, c0, c1, c2, c3]
theorem results_ty2 {fn : Func} {p u : Tmp} (h : fn.results = #[.cell p 38, .tmp u]) (tmps : Array Value) (w : World) (g : Nat) (v0 v1 v2 v3 : Value) (hp : tmps.getD p undef = .pointer (some ⟨g, 0, none⟩))
    (c0 : w.cell? ⟨g, 0, none⟩ = some v0) (c1 : w.cell? ⟨g, 1, none⟩ = some v1) (c2 : w.cell? ⟨g, 2, none⟩ = some v2) (c3 : w.cell? ⟨g, 3, none⟩ = some v3) :
    (results fn tmps).run Tryz.prog w = .ok (.tuple #[.agg #[v0, v1, v2, v3], tmps.getD u undef]) w := by
  have hp2 : tmps[p]?.getD undef = .pointer (some ⟨g, 0, none⟩) := by simpa using hp
  simp only [results, h]
  simp [hp2, go_sem, c0, c1, c2, c3]
abbrev vcells (v : VT) : Array Value := #[.string v.name, .int .i64 v.type.kind, .int .i64 v.type.lo, .int .i64 v.type.hi, .string v.type.name, .int .i64 v.init, .int .i64 v.dir, .int .i64 v.slot]
/-- a result of a type in a block of its own. -/
theorem ret_y1 {fn : Func} {p : Tmp} (h : fn.results = #[.cell p 38]) {R : Ending → World → Prop} {W : World} {x : Act} (g : Nat) (v0 v1 v2 v3 : Value)
    (hg : W.heap[g]? = some (.cells #[v0, v1, v2, v3] 38 (0, 0))) (hp : x.tmps.getD p undef = .pointer (some ⟨g, 0, none⟩)) (hd : x.defers = []) (hR : R (.returned (.agg #[v0, v1, v2, v3])) W) : bodyPost Tryz.prog fn R Exit.ret x W := by
  refine bodyPost_ret (results_ty1 h _ _ g v0 v1 v2 v3 hp ?_ ?_ ?_ ?_) hd hR
  · exact (cell_of_row _ _ 0 _ _ _ hg).trans rfl
  · exact (cell_of_row _ _ 1 _ _ _ hg).trans rfl
  · exact (cell_of_row _ _ 2 _ _ _ hg).trans rfl
  · exact (cell_of_row _ _ 3 _ _ _ hg).trans rfl
theorem ret_y2 {fn : Func} {p u : Tmp} (h : fn.results = #[.cell p 38, .tmp u]) {R : Ending → World → Prop} {W : World} {x : Act} (g : Nat) (v0 v1 v2 v3 : Value) (c : Value)
    (hg : W.heap[g]? = some (.cells #[v0, v1, v2, v3] 38 (0, 0))) (hp : x.tmps.getD p undef = .pointer (some ⟨g, 0, none⟩)) (hu : x.tmps.getD u undef = c) (hd : x.defers = []) (hR : R (.returned (.tuple #[.agg #[v0, v1, v2, v3], c])) W) : bodyPost Tryz.prog fn R Exit.ret x W := by
  rw [← hu] at hR
  refine bodyPost_ret (results_ty2 h _ _ g v0 v1 v2 v3 hp ?_ ?_ ?_ ?_) hd hR
  · exact (cell_of_row _ _ 0 _ _ _ hg).trans rfl
  · exact (cell_of_row _ _ 1 _ _ _ hg).trans rfl
  · exact (cell_of_row _ _ 2 _ _ _ hg).trans rfl
  · exact (cell_of_row _ _ 3 _ _ _ hg).trans rfl
theorem results_var {fn : Func} {p u : Tmp} (h : fn.results = #[.cell p 41, .tmp u]) (tmps : Array Value) (w : World) (g : Nat) (v0 v1 v2 v3 v4 v5 v6 v7 : Value) (hp : tmps.getD p undef = .pointer (some ⟨g, 0, none⟩))
    (c0 : w.cell? ⟨g, 0, none⟩ = some v0) (c1 : w.cell? ⟨g, 1, none⟩ = some v1) (c2 : w.cell? ⟨g, 2, none⟩ = some v2) (c3 : w.cell? ⟨g, 3, none⟩ = some v3) (c4 : w.cell? ⟨g, 4, none⟩ = some v4) (c5 : w.cell? ⟨g, 5, none⟩ = some v5) (c6 : w.cell? ⟨g, 6, none⟩ = some v6) (c7 : w.cell? ⟨g, 7, none⟩ = some v7) :
    (results fn tmps).run Tryz.prog w = .ok (.tuple #[.agg #[v0, v1, v2, v3, v4, v5, v6, v7], tmps.getD u undef]) w := by
  have hp2 : tmps[p]?.getD undef = .pointer (some ⟨g, 0, none⟩) := by simpa using hp
  simp only [results, h]
  simp [hp2, go_sem, c0, c1, c2, c3, c4, c5, c6, c7]
theorem ret_var {fn : Func} {p u : Tmp} (h : fn.results = #[.cell p 41, .tmp u]) {R : Ending → World → Prop} {W : World} {x : Act} (g : Nat) (v0 v1 v2 v3 v4 v5 v6 v7 : Value) (c : Value)
    (hg : W.heap[g]? = some (.cells #[v0, v1, v2, v3, v4, v5, v6, v7] 41 (0, 0))) (hp : x.tmps.getD p undef = .pointer (some ⟨g, 0, none⟩)) (hu : x.tmps.getD u undef = c) (hd : x.defers = []) (hR : R (.returned (.tuple #[.agg #[v0, v1, v2, v3, v4, v5, v6, v7], c])) W) : bodyPost Tryz.prog fn R Exit.ret x W := by
  rw [← hu] at hR
  refine bodyPost_ret (results_var h _ _ g v0 v1 v2 v3 v4 v5 v6 v7 hp ?_ ?_ ?_ ?_ ?_ ?_ ?_ ?_) hd hR
  · exact (cell_of_row _ _ 0 _ _ _ hg).trans rfl
  · exact (cell_of_row _ _ 1 _ _ _ hg).trans rfl
  · exact (cell_of_row _ _ 2 _ _ _ hg).trans rfl
  · exact (cell_of_row _ _ 3 _ _ _ hg).trans rfl
  · exact (cell_of_row _ _ 4 _ _ _ hg).trans rfl
  · exact (cell_of_row _ _ 5 _ _ _ hg).trans rfl
  · exact (cell_of_row _ _ 6 _ _ _ hg).trans rfl
  · exact (cell_of_row _ _ 7 _ _ _ hg).trans rfl
theorem far1 (W : World) (o : Obj) : Below W.heap.size W (W.alloc o) := (Below.refl _ _).alloc (Nat.le_refl _) _
theorem far2 (W : World) (o o' : Obj) : Below W.heap.size W ((W.alloc o).alloc o') := (far1 W o).alloc (by simp) _
theorem far3 (W : World) (o o' o'' : Obj) : Below W.heap.size W (((W.alloc o).alloc o').alloc o'') := (far2 W o o').alloc (by simp; omega) _
theorem new1 (W : World) (a : Array Value) (S : TypeId) : (W.alloc (.cells a S)).heap[W.heap.size]? = some (.cells a S (0, 0)) := heap_alloc_new W _
theorem new2 (W : World) (a b : Array Value) (S T : TypeId) : ((W.alloc (.cells a S)).alloc (.cells b T)).heap[W.heap.size]? = some (.cells a S (0, 0)) := (box_two W a b S T).1
theorem new22 (W : World) (a b : Array Value) (S T : TypeId) : ((W.alloc (.cells a S)).alloc (.cells b T)).heap[W.heap.size + 1]? = some (.cells b T (0, 0)) := (box_two W a b S T).2
theorem new3 (W : World) (a b c : Array Value) (S T U : TypeId) : (((W.alloc (.cells a S)).alloc (.cells b T)).alloc (.cells c U)).heap[W.heap.size]? = some (.cells a S (0, 0)) := by
  rw [Below.heap_alloc _ _ _ (by simp; omega)]
  exact new2 W a b S T
theorem new32 (W : World) (a b c : Array Value) (S T U : TypeId) : (((W.alloc (.cells a S)).alloc (.cells b T)).alloc (.cells c U)).heap[W.heap.size + 1]? = some (.cells b T (0, 0)) := by
  rw [Below.heap_alloc _ _ _ (by simp)]
  exact new22 W a b S T
set_option maxHeartbeats 1000000 in
set_option maxRecDepth 100000 in
theorem plain_any (k : Int) (w : World) : Calls Tryz.prog 127 #[.int .i64 k] w (QRet w (.agg (ycells (plainT k)))) := by
  go_enter Tryz.func127, Tryz.ntmps127
  go_wp2_with fail
  exact ret_y1 rfl w.heap.size _ _ _ _ (new1 _ _ _) rfl rfl ⟨rfl, far1 _ _⟩
set_option maxHeartbeats 1000000 in
set_option maxRecDepth 100000 in
theorem told_any (t : YT) (c : Int) (w : World) : Calls Tryz.prog 129 #[.agg (ycells t), .int .i64 c] w (QRet w (tc (toldT t c))) := by
  obtain ⟨r, hr⟩ : ∃ r, r = toldT t c := ⟨_, rfl⟩
  rw [← hr]
  unfold toldT at hr
  by_cases hc : c = 0
  · subst hc
    rw [if_pos rfl] at hr
    have HZ := Lib.hid hr
    clear hr
    go_enter Tryz.func129, Tryz.ntmps129
    go_wp2_with fail
    exact ret_y2 rfl (w.heap.size + 1) _ _ _ _ _ (new22 _ _ _ _ _) rfl rfl rfl ⟨by rw [HZ.out]; rfl, far2 _ _ _⟩
  · have hcb := eq_no hc
    rw [if_neg hc] at hr
    have HZ := Lib.hid hr
    clear hr hc
    go_enter Tryz.func129, Tryz.ntmps129
    go_wp2_with fail
    exact ret_y2 rfl (w.heap.size + 1) _ _ _ _ _ (new22 _ _ _ _ _) rfl rfl rfl ⟨by rw [HZ.out]; rfl, far2 _ _ _⟩
set_option maxHeartbeats 1000000 in
set_option maxRecDepth 100000 in
theorem variable_any (K : CX) (I : IX) (s : ByteArray) (k : Int) (w : World) (h : SAt K w I) :
    Calls Tryz.prog 119 #[.pointer (some ⟨K.sb, 0, none⟩), .string s, .int .i64 k] w (QRet w (.tuple #[vv (variableT K.S.V s k).1, .int .i64 (variableT K.S.V s k).2])) := by
  have h0 : SAt K (w.alloc (.cells v0cells 41)) I := h.below (far1 _ _)
  have y4 := h0.c4
  have hl := run_vars h0 s
  obtain ⟨r, hr⟩ : ∃ r, r = variableT K.S.V s k := ⟨_, rfl⟩
  rw [← hr]
  unfold variableT at hr
  clear h h0
  cases hs : sayV K.S.V s with
  | none =>
    rw [hs] at hr hl
    simp only [Option.map_none, Option.getD_none, Option.isSome_none] at hl hr
    have HZ := Lib.hid hr
    clear hr hs
    go_enter Tryz.func119, Tryz.ntmps119
    go_wp2_with fail
    exact ret_var rfl w.heap.size _ _ _ _ _ _ _ _ _ (new2 _ _ _ _ _) rfl rfl rfl ⟨by rw [HZ.out]; rfl, far2 _ _ _⟩
  | some v =>
    rw [hs] at hr hl
    simp only [Option.map_some, Option.getD_some, Option.isSome_some] at hl hr
    by_cases hk : v.type.kind = k
    · subst hk
      rw [if_pos rfl] at hr
      have HZ := Lib.hid hr
      clear hr hs
      go_enter Tryz.func119, Tryz.ntmps119
      go_wp2_with fail
      exact ret_var rfl w.heap.size _ _ _ _ _ _ _ _ _ (new2 _ _ _ _ _) rfl rfl rfl ⟨by rw [HZ.out]; rfl, far2 _ _ _⟩
    · rw [if_neg hk] at hr
      have hkb := eq_no hk
      have HZ := Lib.hid hr
      clear hr hs hk
      go_enter Tryz.func119, Tryz.ntmps119
      go_wp2_with fail
      exact ret_var rfl w.heap.size _ _ _ _ _ _ _ _ _ (new2 _ _ _ _ _) rfl rfl rfl ⟨by rw [HZ.out]; rfl, far2 _ _ _⟩
def mustT (V : List VT) (s : ByteArray) (k : Int) : Int := (variableT V s k).2
set_option maxHeartbeats 1000000 in
set_option maxRecDepth 100000 in
theorem must_any (K : CX) (I : IX) (s : ByteArray) (k : Int) (w : World) (h : SAt K w I) :
    Calls Tryz.prog 108 #[.pointer (some ⟨K.sb, 0, none⟩), .string s, .int .i64 k] w (QRet w (.int .i64 (mustT K.S.V s k))) := by
  have KV := Lib.hid (variable_any K I s k w h)
  obtain ⟨r, hr⟩ : ∃ r, r = variableT K.S.V s k := ⟨_, rfl⟩
  rw [← hr] at KV
  have hz : Hid (mustT K.S.V s k = r.2) := by rw [hr]; rfl
  obtain ⟨q, hq⟩ : ∃ q, q = mustT K.S.V s k := ⟨_, rfl⟩
  rw [← hq] at hz ⊢
  clear hr hq h
  go_enter Tryz.func108, Tryz.ntmps108
  go_wp2_with fail
  refine KV.out.mono ?_
  rintro e1 w1 ⟨rfl, hb1⟩
  go_wp2_with fail
  go_ret
  exact ⟨by rw [hz.out]; rfl, hb1.out.alloc hb1.out.size _⟩
theorem lenq (m k : Nat) : ((m : Int) == ((k : Nat) : Int)) = decide (m = k) := by
  rw [Bool.eq_iff_iff, beq_iff_eq, decide_eq_true_eq]
  exact Int.ofNat_inj
set_option maxHeartbeats 2000000 in
set_option maxRecDepth 100000 in
theorem formed_any (k n : Int) (nm wh : ByteArray) (A : Option Addr) (m c : Nat) (w : World) :
    Calls Tryz.prog 126 #[.agg #[.int .i64 k, .int .i64 n, .string nm, .string wh, .slice A m c]] w (QRet w (.bool (formedT k m))) := by
  obtain ⟨r, hr⟩ : ∃ r, r = formedT k m := ⟨_, rfl⟩
  rw [← hr]
  unfold formedT at hr
  have HB : Hid (Below w.heap.size w (w.alloc (.cells #[.int .i64 k, .int .i64 n, .string nm, .string wh, .slice A m c] 158))) := far1 _ _
  by_cases k1 : k = 1 ∨ k = 2 ∨ k = 3 ∨ k = 4 ∨ k = 5 ∨ k = 10 ∨ k = 11 ∨ k = 12
  · rw [if_pos k1] at hr
    have HR : Hid (Ending.returned (.bool ((m : Int) == 0)) = .returned (.bool r)) := by unfold Hid; rw [hr, ← lenq m 0]; rfl
    clear hr
    rcases k1 with rfl | rfl | rfl | rfl | rfl | rfl | rfl | rfl
    all_goals
      go_enter Tryz.func126, Tryz.ntmps126
      go_wp2_with fail
      go_ret
      exact ⟨HR.out, HB⟩
  rw [if_neg k1] at hr
  by_cases k2 : k = 6 ∨ k = 7 ∨ k = 8 ∨ k = 14
  · rw [if_pos k2] at hr
    have HR : Hid (Ending.returned (.bool ((m : Int) == 1)) = .returned (.bool r)) := by unfold Hid; rw [hr, ← lenq m 1]; rfl
    clear hr k1
    rcases k2 with rfl | rfl | rfl | rfl
    all_goals
      go_enter Tryz.func126, Tryz.ntmps126
      go_wp2_with fail
      go_ret
      exact ⟨HR.out, HB⟩
  rw [if_neg k2] at hr
  by_cases k3 : k = 9
  · rw [if_pos k3] at hr
    have HR : Hid (Ending.returned (.bool ((m : Int) == 2)) = .returned (.bool r)) := by unfold Hid; rw [hr, ← lenq m 2]; rfl
    clear hr k1 k2
    subst k3
    go_enter Tryz.func126, Tryz.ntmps126
    go_wp2_with fail
    go_ret
    exact ⟨HR.out, HB⟩
  rw [if_neg k3] at hr
  have HR : Hid (Ending.returned (.bool (k == 13)) = .returned (.bool r)) := by
    unfold Hid
    rw [hr]
    congr 2
  have e1 : (k == 1) = false := eq_no (by omega)
  have e2 : (k == 2) = false := eq_no (by omega)
  have e3 : (k == 3) = false := eq_no (by omega)
  have e4 : (k == 4) = false := eq_no (by omega)
  have e5 : (k == 5) = false := eq_no (by omega)
  have e6 : (k == 6) = false := eq_no (by omega)
  have e7 : (k == 7) = false := eq_no (by omega)
  have e8 : (k == 8) = false := eq_no (by omega)
  have e9 : (k == 9) = false := eq_no (by omega)
  have e10 : (k == 10) = false := eq_no (by omega)
  have e11 : (k == 11) = false := eq_no (by omega)
  have e12 : (k == 12) = false := eq_no (by omega)
  have e14 : (k == 14) = false := eq_no (by omega)
  clear hr k1 k2 k3
  go_enter Tryz.func126, Tryz.ntmps126
  go_wp2_with fail
  go_ret
  exact ⟨HR.out, HB⟩
/-- the four cells of a type: what is read there, that they may be written. -/
theorem four {W : World} {g : Nat} {a0 a1 a2 a3 : Value} {T : TypeId} (hg : W.heap[g]? = some (.cells #[a0, a1, a2, a3] T (0, 0))) :
    (W.cell? ⟨g, 0, none⟩ = some a0 ∧ W.cell? ⟨g, 1, none⟩ = some a1 ∧ W.cell? ⟨g, 2, none⟩ = some a2 ∧ W.cell? ⟨g, 3, none⟩ = some a3) ∧ W.frozen? ⟨g, 0, none⟩ = false ∧ W.frozen? ⟨g, 1, none⟩ = false ∧ W.frozen? ⟨g, 2, none⟩ = false ∧ W.frozen? ⟨g, 3, none⟩ = false :=
  ⟨⟨(cell_of_row _ _ 0 _ _ _ hg).trans rfl, (cell_of_row _ _ 1 _ _ _ hg).trans rfl, (cell_of_row _ _ 2 _ _ _ hg).trans rfl, (cell_of_row _ _ 3 _ _ _ hg).trans rfl⟩, frozen_of_row _ _ 0 _ _ hg, frozen_of_row _ _ 1 _ _ hg, frozen_of_row _ _ 2 _ _ hg, frozen_of_row _ _ 3 _ _ hg⟩
theorem eight {W : World} {g : Nat} {a0 a1 a2 a3 a4 a5 a6 a7 : Value} {T : TypeId} (hg : W.heap[g]? = some (.cells #[a0, a1, a2, a3, a4, a5, a6, a7] T (0, 0))) :
    W.cell? ⟨g, 0, none⟩ = some a0 ∧ W.cell? ⟨g, 1, none⟩ = some a1 ∧ W.cell? ⟨g, 2, none⟩ = some a2 ∧ W.cell? ⟨g, 3, none⟩ = some a3 ∧ W.cell? ⟨g, 4, none⟩ = some a4 ∧ W.cell? ⟨g, 5, none⟩ = some a5 ∧ W.cell? ⟨g, 6, none⟩ = some a6 ∧ W.cell? ⟨g, 7, none⟩ = some a7 :=
  ⟨(cell_of_row _ _ 0 _ _ _ hg).trans rfl, (cell_of_row _ _ 1 _ _ _ hg).trans rfl, (cell_of_row _ _ 2 _ _ _ hg).trans rfl, (cell_of_row _ _ 3 _ _ _ hg).trans rfl, (cell_of_row _ _ 4 _ _ _ hg).trans rfl, (cell_of_row _ _ 5 _ _ _ hg).trans rfl, (cell_of_row _ _ 6 _ _ _ hg).trans rfl, (cell_of_row _ _ 7 _ _ _ hg).trans rfl⟩
/-- a type is written over a type's four cells. -/
abbrev put4 (W : World) (g : Nat) (a0 a1 a2 a3 : Value) : World := (((W.setCell ⟨g, 0, none⟩ a0).setCell ⟨g, 1, none⟩ a1).setCell ⟨g, 2, none⟩ a2).setCell ⟨g, 3, none⟩ a3
theorem put4_below {B : Nat} {w W : World} (h : Below B w W) {g : Nat} (hg : B ≤ g) (a0 a1 a2 a3 : Value) : Below B w (put4 W g a0 a1 a2 a3) := (((h.setCell (p := ⟨g, 0, none⟩) hg _).setCell (p := ⟨g, 1, none⟩) hg _).setCell (p := ⟨g, 2, none⟩) hg _).setCell (p := ⟨g, 3, none⟩) hg _
/-- behind the store of a result of a type, its variable in block g. -/
theorem ret_y2s {fn : Func} {p u : Tmp} (h : fn.results = #[.cell p 38, .tmp u]) {R : Ending → World → Prop} {W : World} {x : Act} (g : Nat) {u0 u1 u2 u3 : Value} (v0 v1 v2 v3 : Value) (c : Value)
    (hg : W.heap[g]? = some (.cells #[u0, u1, u2, u3] 38 (0, 0))) (hp : x.tmps.getD p undef = .pointer (some ⟨g, 0, none⟩)) (hu : x.tmps.getD u undef = c) (hd : x.defers = []) (hR : R (.returned (.tuple #[.agg #[v0, v1, v2, v3], c])) (put4 W g v0 v1 v2 v3)) : bodyPost Tryz.prog fn R Exit.ret x (put4 W g v0 v1 v2 v3) := by
  obtain ⟨⟨z0, z1, z2, z3⟩, -⟩ := four hg
  rw [← hu] at hR
  refine bodyPost_ret (results_ty2 h _ _ g v0 v1 v2 v3 hp ?_ ?_ ?_ ?_) hd hR
  all_goals simp [go_sem, put4, z0, z1, z2, z3]
set_option maxHeartbeats 4000000 in
set_option maxRecDepth 100000 in
theorem name_any (K : CX) (I : IX) (k n : Int) (nm wh : ByteArray) (A : Option Addr) (m c : Nat) (w : World) (h : SAt K w I) :
    Calls Tryz.prog 128 #[.pointer (some ⟨K.sb, 0, none⟩), .agg #[.int .i64 k, .int .i64 n, .string nm, .string wh, .slice A m c]] w (QRet w (tc (nameT K.S.V nm))) := by
  obtain ⟨R0, hR0⟩ : ∃ R0 : World, R0 = (w.alloc (.cells #[.int .i64 k, .int .i64 n, .string nm, .string wh, .slice A m c] 158)).alloc (.cells y0cells 38) := ⟨_, rfl⟩
  have hb0 : Below w.heap.size w R0 := by rw [hR0]; exact far2 _ _ _
  have h0 : SAt K R0 I := h.below hb0
  have hs0 : R0.heap.size = w.heap.size + 1 + 1 := by rw [hR0]; simp
  have hg := new2 w #[.int .i64 k, .int .i64 n, .string nm, .string wh, .slice A m c] y0cells 158 38
  have hg2 := new22 w #[.int .i64 k, .int .i64 n, .string nm, .string wh, .slice A m c] y0cells 158 38
  rw [← hR0] at hg hg2
  obtain ⟨lv, hlv⟩ : ∃ v, v = Value.tuple #[((sayV K.S.V nm).map vv).getD (.agg v0cells), .bool (sayV K.S.V nm).isSome] := ⟨_, rfl⟩
  have CF : Hid (∀ W, Hid (Below R0.heap.size R0 W) → W.cell? ⟨K.sb, 4, none⟩ = some (.map (some K.vb)) ∧ W.cell? ⟨w.heap.size, 2, none⟩ = some (.string nm) ∧ (Instr.lookup 129 (.map (some K.vb)) (.string nm) true).run Tryz.prog W = .ok lv W) := fun W hb => by
    have hW := h0.below hb.out
    refine ⟨hW.c4, ?_, hlv ▸ run_vars hW nm⟩
    have q := (hb.out.block _ (Array.getElem?_eq_some_iff.1 hg).1).trans hg
    rw [cell_of_row _ _ 2 _ _ _ q]
    rfl
  have HB0 : Hid (Below R0.heap.size R0 R0) := Below.refl _ _
  obtain ⟨r, hr⟩ : ∃ r, r = nameT K.S.V nm := ⟨_, rfl⟩
  rw [← hr]
  unfold nameT at hr
  have HR0 := Lib.hid hR0
  unfold y0cells at HR0 hg2
  have HV : Hid (∀ vc : Array Value, ∃ R1 : World, R1 = (R0.alloc (.cells vc 41)).drew ∧ R1.heap[w.heap.size + 1 + 1]? = some (.cells vc 41 (0, 0)) ∧ Hid (R1.heap[w.heap.size + 1]? = some (.cells #[.int .i64 0, .int .i64 0, .int .i64 0, .string ⟨#[]⟩] 38 (0, 0))) ∧ Hid (Below w.heap.size w R1)) := fun vc => by
    refine ⟨_, rfl, ?_, ?_, ?_⟩
    · rw [← hs0]
      exact heap_alloc_new R0 _
    · exact (Below.heap_alloc R0 _ _ (by omega)).trans hg2
    · exact (hb0.alloc hb0.size _).drew
  have KP : Hid (∀ (k : Int) (R1 W : World), R1 = W → Hid (Below w.heap.size w R1) → Hid (R1.heap[w.heap.size + 1]? = some (.cells #[.int .i64 0, .int .i64 0, .int .i64 0, .string ⟨#[]⟩] 38 (0, 0))) → Calls Tryz.prog 127 #[.int .i64 k] W fun e w' => e = .returned (.agg (ycells (plainT k))) ∧ w'.heap[w.heap.size + 1]? = some (.cells #[.int .i64 0, .int .i64 0, .int .i64 0, .string ⟨#[]⟩] 38 (0, 0)) ∧ Hid (Below w.heap.size w w')) := fun k R1 W e h1 h2 => by
    subst e
    refine (plain_any k R1).mono fun e w' q => ⟨q.1, (q.2.out.block _ (Array.getElem?_eq_some_iff.1 h2.out).1).trans h2.out, h1.out.trans (q.2.out.mono h1.out.size)⟩
  clear h h0 hg hg2 hb0 hR0
  cases hs : sayV K.S.V nm with
  | none =>
    rw [hs] at hr hlv
    simp only [Option.map_none, Option.getD_none, Option.isSome_none] at hlv hr
    have HZ := Lib.hid hr
    subst hlv
    clear hr hs
    go_enter Tryz.func128, Tryz.ntmps128
    go_wp2_with fail
    rw [← HR0.out]
    go_region_held3 (fun w' => w'.cell? ⟨K.sb, 4, none⟩ = some (.map (some K.vb)) ∧ w'.cell? ⟨w.heap.size, 2, none⟩ = some (.string nm) ∧ (Instr.lookup 129 (.map (some K.vb)) (.string nm) true).run Tryz.prog w' = .ok (.tuple #[.agg v0cells, .bool false]) w')
      ((refine CF.out _ ?_; unfold Hid; (repeat (first | exact HB0.out | refine Below.setCell ?_ (by first | omega | (simp <;> omega)) _ | refine Below.alloc ?_ (by first | exact Nat.le_refl _ | (simp <;> omega)) _ | refine Below.drew ?_))))
      (fail)
    all_goals
      obtain ⟨R1, hR1, hv1, ht1, hb1⟩ := HV.out #[.string ⟨#[]⟩, .int .i64 0, .int .i64 0, .int .i64 0, .string ⟨#[]⟩, .int .i64 0, .int .i64 0, .int .i64 0]
      rw [← hR1]
      clear CF HB0 hR1
      obtain ⟨x0, x1, x2, x3, x4, x5, x6, x7⟩ := eight hv1
      obtain ⟨⟨z0, z1, z2, z3⟩, f0, f1, f2, f3⟩ := four ht1.out
      clear hv1
      go_wp2_with fail
      exact ret_y2s rfl (w.heap.size + 1) _ _ _ _ _ ht1.out rfl rfl rfl ⟨by rw [HZ.out]; rfl, put4_below hb1.out (by omega) _ _ _ _⟩
  | some v =>
    rw [hs] at hr hlv
    simp only [Option.map_some, Option.getD_some, Option.isSome_some] at hlv hr
    obtain ⟨vn, ⟨vk, vlo, vhi, vt⟩, vi, vd, vs⟩ := v
    simp only at hr hlv
    subst hlv
    by_cases k1 : vk = 1
    · subst k1
      rw [if_pos (.inl rfl)] at hr
      have HZ := Lib.hid hr
      clear hr hs
      go_enter Tryz.func128, Tryz.ntmps128
      go_wp2_with fail
      rw [← HR0.out]
      go_region_held3 (fun w' => w'.cell? ⟨K.sb, 4, none⟩ = some (.map (some K.vb)) ∧ w'.cell? ⟨w.heap.size, 2, none⟩ = some (.string nm) ∧ (Instr.lookup 129 (.map (some K.vb)) (.string nm) true).run Tryz.prog w' = .ok (.tuple #[.agg #[.string vn, .int .i64 1, .int .i64 vlo, .int .i64 vhi, .string vt, .int .i64 vi, .int .i64 vd, .int .i64 vs], .bool true]) w')
        ((refine CF.out _ ?_; unfold Hid; (repeat (first | exact HB0.out | refine Below.setCell ?_ (by first | omega | (simp <;> omega)) _ | refine Below.alloc ?_ (by first | exact Nat.le_refl _ | (simp <;> omega)) _ | refine Below.drew ?_))))
        (fail)
      all_goals
        obtain ⟨R1, hR1, hv1, ht1, hb1⟩ := HV.out #[.string vn, .int .i64 1, .int .i64 vlo, .int .i64 vhi, .string vt, .int .i64 vi, .int .i64 vd, .int .i64 vs]
        rw [← hR1]
        clear CF HB0 hR1
        obtain ⟨x0, x1, x2, x3, x4, x5, x6, x7⟩ := eight hv1
        obtain ⟨⟨z0, z1, z2, z3⟩, f0, f1, f2, f3⟩ := four ht1.out
        clear hv1
        go_wp2_with fail
        refine (KP.out _ R1 _ rfl hb1 ht1).mono ?_
        rintro e2 w2 ⟨rfl, ht2, hb2⟩
        clear x0 x1 x2 x3 x4 x5 x6 x7 z0 z1 z2 z3 f0 f1 f2 f3
        obtain ⟨⟨z0, z1, z2, z3⟩, f0, f1, f2, f3⟩ := four ht2
        have HT2 := Lib.hid ht2
        clear ht2
        go_wp2_with fail
        exact ret_y2s rfl (w.heap.size + 1) _ _ _ _ _ HT2.out rfl rfl rfl ⟨by rw [HZ.out]; rfl, put4_below hb2.out (by omega) _ _ _ _⟩
    by_cases k3 : vk = 3
    · subst k3
      rw [if_pos (.inr rfl)] at hr
      have HZ := Lib.hid hr
      clear hr hs
      go_enter Tryz.func128, Tryz.ntmps128
      go_wp2_with fail
      rw [← HR0.out]
      go_region_held3 (fun w' => w'.cell? ⟨K.sb, 4, none⟩ = some (.map (some K.vb)) ∧ w'.cell? ⟨w.heap.size, 2, none⟩ = some (.string nm) ∧ (Instr.lookup 129 (.map (some K.vb)) (.string nm) true).run Tryz.prog w' = .ok (.tuple #[.agg #[.string vn, .int .i64 3, .int .i64 vlo, .int .i64 vhi, .string vt, .int .i64 vi, .int .i64 vd, .int .i64 vs], .bool true]) w')
        ((refine CF.out _ ?_; unfold Hid; (repeat (first | exact HB0.out | refine Below.setCell ?_ (by first | omega | (simp <;> omega)) _ | refine Below.alloc ?_ (by first | exact Nat.le_refl _ | (simp <;> omega)) _ | refine Below.drew ?_))))
        (fail)
      all_goals
        obtain ⟨R1, hR1, hv1, ht1, hb1⟩ := HV.out #[.string vn, .int .i64 3, .int .i64 vlo, .int .i64 vhi, .string vt, .int .i64 vi, .int .i64 vd, .int .i64 vs]
        rw [← hR1]
        clear CF HB0 hR1
        obtain ⟨x0, x1, x2, x3, x4, x5, x6, x7⟩ := eight hv1
        obtain ⟨⟨z0, z1, z2, z3⟩, f0, f1, f2, f3⟩ := four ht1.out
        clear hv1
        go_wp2_with fail
        refine (KP.out _ R1 _ rfl hb1 ht1).mono ?_
        rintro e2 w2 ⟨rfl, ht2, hb2⟩
        clear x0 x1 x2 x3 x4 x5 x6 x7 z0 z1 z2 z3 f0 f1 f2 f3
        obtain ⟨⟨z0, z1, z2, z3⟩, f0, f1, f2, f3⟩ := four ht2
        have HT2 := Lib.hid ht2
        clear ht2
        go_wp2_with fail
        exact ret_y2s rfl (w.heap.size + 1) _ _ _ _ _ HT2.out rfl rfl rfl ⟨by rw [HZ.out]; rfl, put4_below hb2.out (by omega) _ _ _ _⟩
    rw [if_neg (by omega)] at hr
    by_cases k2 : vk = 2
    · subst k2
      rw [if_pos (rfl)] at hr
      have HZ := Lib.hid hr
      clear hr hs
      go_enter Tryz.func128, Tryz.ntmps128
      go_wp2_with fail
      rw [← HR0.out]
      go_region_held3 (fun w' => w'.cell? ⟨K.sb, 4, none⟩ = some (.map (some K.vb)) ∧ w'.cell? ⟨w.heap.size, 2, none⟩ = some (.string nm) ∧ (Instr.lookup 129 (.map (some K.vb)) (.string nm) true).run Tryz.prog w' = .ok (.tuple #[.agg #[.string vn, .int .i64 2, .int .i64 vlo, .int .i64 vhi, .string vt, .int .i64 vi, .int .i64 vd, .int .i64 vs], .bool true]) w')
        ((refine CF.out _ ?_; unfold Hid; (repeat (first | exact HB0.out | refine Below.setCell ?_ (by first | omega | (simp <;> omega)) _ | refine Below.alloc ?_ (by first | exact Nat.le_refl _ | (simp <;> omega)) _ | refine Below.drew ?_))))
        (fail)
      all_goals
        obtain ⟨R1, hR1, hv1, ht1, hb1⟩ := HV.out #[.string vn, .int .i64 2, .int .i64 vlo, .int .i64 vhi, .string vt, .int .i64 vi, .int .i64 vd, .int .i64 vs]
        rw [← hR1]
        clear CF HB0 hR1
        obtain ⟨x0, x1, x2, x3, x4, x5, x6, x7⟩ := eight hv1
        obtain ⟨⟨z0, z1, z2, z3⟩, f0, f1, f2, f3⟩ := four ht1.out
        clear hv1
        go_wp2_with fail
        refine (KP.out _ R1 _ rfl hb1 ht1).mono ?_
        rintro e2 w2 ⟨rfl, ht2, hb2⟩
        clear x0 x1 x2 x3 x4 x5 x6 x7 z0 z1 z2 z3 f0 f1 f2 f3
        obtain ⟨⟨z0, z1, z2, z3⟩, f0, f1, f2, f3⟩ := four ht2
        have HT2 := Lib.hid ht2
        clear ht2
        go_wp2_with fail
        exact ret_y2s rfl (w.heap.size + 1) _ _ _ _ _ HT2.out rfl rfl rfl ⟨by rw [HZ.out]; rfl, put4_below hb2.out (by omega) _ _ _ _⟩
    rw [if_neg k2] at hr
    by_cases k5 : vk = 5
    · subst k5
      rw [if_pos (rfl)] at hr
      have HZ := Lib.hid hr
      clear hr hs
      go_enter Tryz.func128, Tryz.ntmps128
      go_wp2_with fail
      rw [← HR0.out]
      go_region_held3 (fun w' => w'.cell? ⟨K.sb, 4, none⟩ = some (.map (some K.vb)) ∧ w'.cell? ⟨w.heap.size, 2, none⟩ = some (.string nm) ∧ (Instr.lookup 129 (.map (some K.vb)) (.string nm) true).run Tryz.prog w' = .ok (.tuple #[.agg #[.string vn, .int .i64 5, .int .i64 vlo, .int .i64 vhi, .string vt, .int .i64 vi, .int .i64 vd, .int .i64 vs], .bool true]) w')
        ((refine CF.out _ ?_; unfold Hid; (repeat (first | exact HB0.out | refine Below.setCell ?_ (by first | omega | (simp <;> omega)) _ | refine Below.alloc ?_ (by first | exact Nat.le_refl _ | (simp <;> omega)) _ | refine Below.drew ?_))))
        (fail)
      all_goals
        obtain ⟨R1, hR1, hv1, ht1, hb1⟩ := HV.out #[.string vn, .int .i64 5, .int .i64 vlo, .int .i64 vhi, .string vt, .int .i64 vi, .int .i64 vd, .int .i64 vs]
        rw [← hR1]
        clear CF HB0 hR1
        obtain ⟨x0, x1, x2, x3, x4, x5, x6, x7⟩ := eight hv1
        obtain ⟨⟨z0, z1, z2, z3⟩, f0, f1, f2, f3⟩ := four ht1.out
        clear hv1
        go_wp2_with fail
        exact ret_y2s rfl (w.heap.size + 1) _ _ _ _ _ ht1.out rfl rfl rfl ⟨by rw [HZ.out]; rfl, put4_below hb1.out (by omega) _ _ _ _⟩
    rw [if_neg k5] at hr
    have HZ := Lib.hid hr
    have b1 := eq_no k1
    have b2 := eq_no k2
    have b3 := eq_no k3
    have b5 := eq_no k5
    clear hr hs k1 k2 k3 k5
    go_enter Tryz.func128, Tryz.ntmps128
    go_wp2_with fail
    rw [← HR0.out]
    go_region_held3 (fun w' => w'.cell? ⟨K.sb, 4, none⟩ = some (.map (some K.vb)) ∧ w'.cell? ⟨w.heap.size, 2, none⟩ = some (.string nm) ∧ (Instr.lookup 129 (.map (some K.vb)) (.string nm) true).run Tryz.prog w' = .ok (.tuple #[.agg #[.string vn, .int .i64 vk, .int .i64 vlo, .int .i64 vhi, .string vt, .int .i64 vi, .int .i64 vd, .int .i64 vs], .bool true]) w')
      ((refine CF.out _ ?_; unfold Hid; (repeat (first | exact HB0.out | refine Below.setCell ?_ (by first | omega | (simp <;> omega)) _ | refine Below.alloc ?_ (by first | exact Nat.le_refl _ | (simp <;> omega)) _ | refine Below.drew ?_))))
      (fail)
    all_goals
      obtain ⟨R1, hR1, hv1, ht1, hb1⟩ := HV.out #[.string vn, .int .i64 vk, .int .i64 vlo, .int .i64 vhi, .string vt, .int .i64 vi, .int .i64 vd, .int .i64 vs]
      rw [← hR1]
      clear CF HB0 hR1
      obtain ⟨x0, x1, x2, x3, x4, x5, x6, x7⟩ := eight hv1
      obtain ⟨⟨z0, z1, z2, z3⟩, f0, f1, f2, f3⟩ := four ht1.out
      clear hv1
      go_wp2_with fail
      exact ret_y2s rfl (w.heap.size + 1) _ _ _ _ _ ht1.out rfl rfl rfl ⟨by rw [HZ.out]; rfl, put4_below hb1.out (by omega) _ _ _ _⟩
end Go.Proofs.YtbgilpmoijdcfaaGreat

/-
  typing.Visible BY A CONTRACT: a program's body, or no place.
-/
namespace Go.Proofs.YtbgilpmoijdcfaaGreat
open Go Go.RowKit
set_option linter.unusedVariables false
set_option linter.unusedSimpArgs false

/-- a method's variables, its parameters ahead; an instance's behind. -/
def paramsOf (L : List DT) (d m : Int) : List VT := match (methodsOf L d)[m.toNat]? with | some x => x.params ++ x.vars | none => []
def visT (L : List DT) (d m : Int) : List VT := if isMethodT L d m then paramsOf L d m ++ fieldsT L d else if isBodyT L d m then fieldsT L d else []
/-- no list of methods' variables is longer than memory bears. -/
structure FitV (L : List DT) : Prop extends FitA L where
  params : ∀ d ∈ L, ∀ m ∈ d.methods, m.params.length ≤ 1048576
  locals : ∀ d ∈ L, ∀ m ∈ d.methods, m.vars.length ≤ 1048576

set_option maxHeartbeats 1000000 in
set_option maxRecDepth 100000 in
theorem Visible_body (L : List DT) (A : Option Addr) (c : Nat) (d m : Int) (w : World) (ha : DsR w w.heap.size A L) (hfit : FitA L) (hd0 : I64 d) (hm0 : isMethodT L d m = false) :
    Calls Tryz.prog 53 #[.agg #[.slice A L.length c], .agg #[.int .i64 d, .int .i64 m]] w (VSays w (visT L d m)) := by
  obtain ⟨R0, hR0⟩ : ∃ R0 : World, R0 = (w.alloc (.cells #[.slice A L.length c] 31)).alloc (.cells #[.int .i64 d, .int .i64 m] 68) := ⟨_, rfl⟩
  have hu : UAt w R0 A c L := hR0 ▸ (UAt.of ha).alloc _
  have g2 := box_place w A L.length c d m
  rw [← hR0] at g2
  have HU := Lib.hid hu
  have CE : Hid (∀ W, Hid (Below R0.heap.size R0 W) → W.cell? ⟨w.heap.size, 0, none⟩ = some (.slice A L.length c) ∧ W.cell? ⟨w.heap.size + 1, 0, none⟩ = some (.int .i64 d) ∧ W.cell? ⟨w.heap.size + 1, 1, none⟩ = some (.int .i64 m)) := fun W h => by
    have q := (h.out.block _ (Array.getElem?_eq_some_iff.1 g2).1).trans g2
    exact ⟨hu.cell W h.out, by rw [cell_of_row _ _ 0 _ _ _ q]; rfl, by rw [cell_of_row _ _ 1 _ _ _ q]; rfl⟩
  obtain ⟨b, hb⟩ : ∃ b, b = isMethodT L d m := ⟨_, rfl⟩
  obtain ⟨b2, hb2⟩ : ∃ b, b = isBodyT L d m := ⟨_, rfl⟩
  have KM : Hid (∀ W, Hid (Below R0.heap.size R0 W) → Calls Tryz.prog 81 #[.agg #[.slice A L.length c], .agg #[.int .i64 d, .int .i64 m]] W fun e w' => e = .returned (.bool b) ∧ Hid (Below R0.heap.size R0 w')) := fun W h => hb ▸ (isMethod_any L A c d m W (hu.rowAt h.out)).mono fun e w' hh => ⟨hh.1, h.out.trans (hh.2.mono h.out.size)⟩
  have KB : Hid (∀ W, Hid (Below R0.heap.size R0 W) → Calls Tryz.prog 84 #[.agg #[.slice A L.length c], .agg #[.int .i64 d, .int .i64 m]] W fun e w' => e = .returned (.bool b2) ∧ Hid (Below R0.heap.size R0 w')) := fun W h => hb2 ▸ (isBody_any L A c d m W (hu.rowAt h.out)).mono fun e w' hh => ⟨hh.1, h.out.trans (hh.2.mono h.out.size)⟩
  obtain ⟨fs, hfs⟩ : ∃ l, l = fieldsT L d := ⟨_, rfl⟩
  have KF : Hid (∀ W, Hid (Below R0.heap.size R0 W) → Calls Tryz.prog 83 #[.agg #[.slice A L.length c], .int .i64 d] W fun e w' => ∃ A' c', e = .returned (.slice A' fs.length c') ∧ Hid (VRow R0.heap.size w' A' c' fs) ∧ Hid (Below R0.heap.size R0 w')) := fun W h => (Fields_any L A c d W (hu.rowAt h.out) hfit hd0).mono fun e w' ⟨A', c', he, hv, hh⟩ => ⟨A', c', by rw [he, hfs], hfs ▸ hv.lower h.out.size, h.out.trans (hh.mono h.out.size)⟩
  obtain ⟨r, hr⟩ : ∃ r, r = visT L d m := ⟨_, rfl⟩
  rw [← hr]
  have HR : Hid (r = if b then paramsOf L d m ++ fs else if b2 then fs else []) := by rw [hr, hb, hb2, hfs]; rfl
  have HB := Lib.hid hb
  have HR0 := Lib.hid hR0
  have HB0 : Hid (Below R0.heap.size R0 R0) := Below.refl _ _
  obtain ⟨y0, yd, ym⟩ := CE.out R0 HB0
  clear hr hb hb2 hfs ha hu g2 hfit
  rw [hR0] at y0 yd ym
  clear hR0
  unfold VSays
  go_enter Tryz.func53, Tryz.ntmps53
  go_wp2_with fail
  rw [← HR0.out] at y0 yd ym ⊢
  refine (KM.out _ HB0).mono ?_
  rintro e1 w1 ⟨rfl, hb1⟩
  clear y0 yd ym
  obtain ⟨y0, yd, ym⟩ := CE.out _ hb1
  obtain rfl : b = false := HB.out.trans hm0
  · go_wp2_with fail
    refine (KB.out _ hb1).mono ?_
    rintro e2 w2 ⟨rfl, hb2⟩
    clear y0 yd ym
    obtain ⟨y0, yd, ym⟩ := CE.out _ hb2
    cases b2
    · have hz : Hid (r = []) := HR.out
      go_wp2_with fail
      go_ret
      exact ⟨none, 0, by rw [hz.out]; rfl, hz.out ▸ VRow.nil _ _, HU.out.out hb2.out⟩
    · have hz : Hid (r = fs) := HR.out
      go_wp2_with fail
      refine (KF.out _ hb2).mono ?_
      rintro e3 w3 ⟨A3, c3, rfl, hv3, hb3⟩
      clear y0 yd ym
      go_wp2_with fail
      go_ret
      exact ⟨A3, c3, by rw [hz.out]; rfl, hz.out ▸ hv3.out.lower HU.out.below.size, HU.out.out hb3.out⟩
end Go.Proofs.YtbgilpmoijdcfaaGreat

/-
  slices.Backward over variables BY A CONTRACT: its iterator stops.
-/
namespace Go.Proofs.YtbgilpmoijdcfaaGreat
open Go Go.RowKit Go.Shelf
set_option linter.unusedVariables false
set_option linter.unusedSimpArgs false

attribute [local go_sem] Oper.semAt_some

set_option maxRecDepth 100000 in
set_option maxHeartbeats 2000000 in
theorem backVars1_in (F : Fence) (n : Nat) (h7 : F.fn 104) (hro : F.round = none) (hn : 1 ≤ n) (l Bs B cap : Nat) (A : Option Addr) (C : List VT) (hreach : C.length ≤ 1000000000) (Kp : World → World → Prop) (hKp : ∀ W W', Kp W W' → (W.cell? ⟨Bs, 0, none⟩ = some (.slice A C.length cap) ∧ VsR W B A C) → W'.cell? ⟨Bs, 0, none⟩ = some (.slice A C.length cap) ∧ VsR W' B A C) (J Jx : List (Fin C.length) → World → Prop)
    (hY : ∀ pre x W, J pre W → pre.length < C.length → YieldAt F (n - 1) Tryz.prog l #[.int .i64 ((x.1 : Nat) : Int), vv (C[x.1]'x.2)] W fun e W' =>
      (e = .returned (.bool true) ∧ J (pre ++ [x]) W' ∧ Kp W W') ∨ (e = .returned (.bool false) ∧ Jx (pre ++ [x]) W'))
    (W : World) (hR0 : W.cell? ⟨Bs, 0, none⟩ = some (.slice A C.length cap) ∧ VsR W B A C) (h0 : J [] W) :
    CallsIn F n Tryz.prog 104 #[.func (.yield l) #[] #[], .pointer (some ⟨Bs, 0, none⟩)] W fun e W' => (∃ v, e = .returned v) ∧
      ((∃ ys, ys = backU C.length C.length ∧ J ys W') ∨ (∃ pre, (∃ k, k ≤ C.length ∧ pre = backU C.length k) ∧ Jx pre W')) := by
  obtain ⟨hc0, hI0⟩ := hR0
  have HI := Lib.hid hI0
  clear hI0
  have hw0 : wrap64 ((C.length : Int) - 1) = (C.length : Int) - 1 := by unfold wrap64; omega
  refine callsIn_of_wp Tryz.func104 rfl h7 ?_ hro
  simp only [Tryz.ntmps104, List.size_toArray, List.length_cons, List.length_nil, Nat.reduceAdd, Nat.reduceSub, Array.replicate_succ, Array.replicate_zero, List.push_toArray, List.append_toArray, List.nil_append, List.cons_append]
  gi_wp2
  gi_loopw [3] (fun i wr => ∃ (k : Nat) (m : Int), k ≤ C.length ∧ i = .int .i64 m ∧ Hid (m = (C.length : Int) - 1 - k) ∧ J (backU C.length k) wr ∧ Hid (wr.cell? ⟨Bs, 0, none⟩ = some (.slice A C.length cap) ∧ VsR wr B A C))
    (fun i _ => (intOf i + 1).toNat)
  case atStart => exact ⟨0, _, Nat.zero_le _, rfl, by unfold Hid; omega, h0, hc0, HI.out⟩
  case round =>
    obtain ⟨k, m, hk, rfl, hm, hJs, hnx⟩ := hrel
    by_cases hlt : k < C.length
    · obtain ⟨x, rfl⟩ : ∃ x : Nat, m = x := ⟨m.toNat, by have := hm.out; omega⟩
      have hx : x = C.length - 1 - k := by have := hm.out; omega
      have hxl : x < C.length := by omega
      obtain ⟨g, o, cs, rfl, hg, -, hcs, he⟩ := hnx.out.2 x hxl
      obtain ⟨rfl, -⟩ := he
      obtain ⟨v, hv⟩ : ∃ v, v = C[x] := ⟨_, rfl⟩
      have HVX := Lib.hid hv
      rw [← hv] at hcs
      have c0 := hcs 0 _ rfl
      have c1 := hcs 1 _ rfl
      have c2 := hcs 2 _ rfl
      have c3 := hcs 3 _ rfl
      have c4 := hcs 4 _ rfl
      have c5 := hcs 5 _ rfl
      have c6 := hcs 6 _ rfl
      have c7 := hcs 7 _ rfl
      rw [Nat.add_zero] at c0
      have hbx := hnx.out.1
      have q1 : (x : Int) < (C.length : Int) := by omega
      have q2 : (0 : Int) ≤ (x : Int) := by omega
      obtain ⟨fn, tmps, assign, body, hy, hR⟩ := hY _ ⟨x, hxl⟩ wr hJs (by rw [backU_length _ _ (by omega)]; exact hlt)
      dsimp only at hy
      rw [← hv] at hy
      have hup : backU C.length (k + 1) = backU C.length k ++ [⟨x, hxl⟩] := by
        rw [backU_succ _ _ hlt]
        simp only [hx]
      have HX := Lib.hid hx
      have HUP := Lib.hid hup
      clear hcs hx hup hv
      gi_wp2
      refine hR.mono ?_
      rintro e W3 (⟨rfl, hJ3, hk3⟩ | ⟨rfl, hJx3⟩)
      · gi_wp2
        go_roundw
        case rel => exact ⟨k + 1, _, by omega, rfl, by have := HX.out; unfold Hid; omega, by rw [HUP.out]; exact hJ3, hKp _ _ hk3 hnx.out⟩
        case measure => simp [intOf]
      · gi_wp2
        refine bodyPost_ret (results_none rfl _ _ _) rfl ?_
        exact ⟨⟨_, rfl⟩, .inr ⟨_, ⟨k + 1, by omega, by rw [HUP.out]⟩, hJx3⟩⟩
    · obtain rfl : k = C.length := by omega
      obtain rfl : m = -1 := by have := hm.out; omega
      gi_wp2
      go_end0
      exact ⟨⟨_, rfl⟩, .inl ⟨_, rfl, hJs⟩⟩

set_option maxHeartbeats 1000000 in
/-- slices.Backward: the slice is boxed; the function value captures the box. -/
theorem backVars_in (F : Fence) (n : Nat) (h5 : F.fn 94) (hro : F.round = none) (a : Option Addr) (len cap : Nat) (w : World) :
    CallsIn F n Tryz.prog 94 #[.slice a len cap] w fun e w' => e = .returned (.func (.func 104) #[] #[.pointer (some ⟨w.heap.size, 0, none⟩)]) ∧ w' = w.alloc (.cells #[.slice a len cap] 24) := by
  refine callsIn_of_wp Tryz.func94 rfl h5 ?_ hro
  simp only [Tryz.ntmps94, List.size_toArray, List.length_cons, List.length_nil, Nat.reduceAdd, Nat.reduceSub, Array.replicate_succ, Array.replicate_zero, List.push_toArray, List.append_toArray, List.nil_append, List.cons_append]
  gi_wp2
  go_ret
  exact ⟨rfl, rfl⟩
/-- its iterator stops: all places, the last one first; or a beginning of them. -/
theorem backVars_stops (F : Fence) (n : Nat) (h7 : F.fn 104) (hro : F.round = none) (hn : 1 ≤ n) (Bs B cap : Nat) (A : Option Addr) (C : List VT) (hreach : C.length ≤ 1000000000) (Kp : World → World → Prop) (hKp : ∀ W W', Kp W W' → (W.cell? ⟨Bs, 0, none⟩ = some (.slice A C.length cap) ∧ VsR W B A C) → W'.cell? ⟨Bs, 0, none⟩ = some (.slice A C.length cap) ∧ VsR W' B A C) (w : World) (hBs : Bs < w.heap.size) (hB : B ≤ w.heap.size)
    (hc : w.cell? ⟨Bs, 0, none⟩ = some (.slice A C.length cap)) (hI : VsR w B A C) :
    SeqStopsK F n Tryz.prog 104 #[.pointer (some ⟨Bs, 0, none⟩)] (fun x : Fin C.length => #[Value.int .i64 (x.1 : Int), vv (C[x.1]'x.2)]) Kp (fun ys => ys = backU C.length C.length) (fun pre => ∃ k, k ≤ C.length ∧ pre = backU C.length k) C.length w := fun l J Jx W hW _ _ hY h0 =>
  backVars1_in F n h7 hro hn l Bs B cap A C hreach Kp hKp J Jx hY W ⟨(hW.cell (p := ⟨Bs, 0, none⟩) hBs).trans hc, VsR.mono (Nat.le_refl _) (fun g hg => hW.block g (by omega)) hI⟩ h0
end Go.Proofs.YtbgilpmoijdcfaaGreat
