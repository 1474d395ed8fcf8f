/-
  The readings of the arguments as trees, no list of which is longer than a slice may be.
-/
import Derived.Test.YtkpieolmepngjaaPrOpen
namespace Go.Proofs.Ytkpieolmepngjaa
open Go Go.ChangeShapes Go.WideShapes Go.RowKit
set_option linter.unusedVariables false
set_option linter.unusedSimpArgs false

/-- no list of it is longer than a slice may be. -/
inductive OE : ET → Prop
  | mk {k n : Int} {nm wh : ByteArray} {args : List ET} : args.length ≤ 9223372036854775807 → (∀ (i : Nat) (hi : i < args.length), OE args[i]) → OE (.mk k n nm wh args)
inductive OS : ST → Prop
  | mk {k n : Int} {nm : ByteArray} {ex : List ET} {lb : List (List Int)} {bs : List (List ST)} : ex.length ≤ 9223372036854775807 → (∀ (i : Nat) (hi : i < ex.length), OE ex[i]) → lb.length ≤ 9223372036854775807 → bs.length ≤ 9223372036854775807 →
      (∀ (j : Nat) (hj : j < bs.length), bs[j].length ≤ 9223372036854775807) → (∀ (j : Nat) (hj : j < bs.length) (i : Nat) (hi : i < bs[j].length), OS bs[j][i]) → OS (.mk k n nm ex lb bs)
structure OM (m : MT) : Prop where
  params : m.params.length ≤ 9223372036854775807
  vars : m.vars.length ≤ 9223372036854775807
  body : m.body.length ≤ 9223372036854775807
  stmts : ∀ (i : Nat) (hi : i < m.body.length), OS m.body[i]
structure OD (d : DT) : Prop where
  faces : d.faces.length ≤ 9223372036854775807
  vars : d.vars.length ≤ 9223372036854775807
  methods : d.methods.length ≤ 9223372036854775807
  each : ∀ (i : Nat) (hi : i < d.methods.length), OM d.methods[i]
  body : d.body.length ≤ 9223372036854775807
  stmts : ∀ (i : Nat) (hi : i < d.body.length), OS d.body[i]
theorem RowIn.left {α : Type} {R : α → List Value → Prop} {o : α → Prop} {w : World} {B : Nat} {A : Option Addr} {sz : Nat} {l : List α} (h : RowIn (fun a cs => R a cs ∧ o a) w B A sz l) : RowIn R w B A sz l :=
  RowIn.mono (Nat.le_refl _) (fun _ _ => rfl) (fun _ _ _ h => h.1) h
theorem RowIn.right {α : Type} {R : α → List Value → Prop} {o : α → Prop} {w : World} {B : Nat} {A : Option Addr} {sz : Nat} {l : List α} (h : RowIn (fun a cs => R a cs ∧ o a) w B A sz l) (k : Nat) (hk : k < l.length) : o l[k] := by
  obtain ⟨_, _, _, _, _, _, _, h2⟩ := h k hk
  exact h2.2
section
variable {H : Type} {enc : TypeId × Value → H} {w : World} {sp : Nat → Bool} {held : Bool}
theorem openRowO {α : Type} {R : α → List Value → Prop} {S T : TypeId} {sz fuel : Nat} {cs : List Value} {x : DataW H × List MemPlace} (hu : Try.prog.underlying S = some (.slice T)) (hsz : Try.prog.cellsOf T = sz) (h0 : 0 < sz)
    (ih : ∀ n, n < fuel → ∀ (cs : List Value) (y : DataW H × List MemPlace), DataW.trod enc Try.prog w 0 sp held n T cs = some y → ∃ a, R a cs)
    (h : DataW.trod enc Try.prog w 0 sp held fuel S cs = some x) : ∃ (l : List α) (A : Option Addr) (c : Nat), cs = [.slice A l.length c] ∧ RowIn R w w.heap.size A sz l ∧ l.length ≤ 9223372036854775807 ∧ (A = none → c = 0) := by
  obtain ⟨l, A, c, rfl, h1, _, h3⟩ := openRow (R := R) (wt := fun _ => 0) hu hsz h0 (fun n hn cs y hy => by
    obtain ⟨a, ha⟩ := ih n hn cs y hy
    exact ⟨a, ha, Nat.zero_le _⟩) h
  refine ⟨l, A, c, rfl, h1, ?_, h3⟩
  have hm : maxLen = 9223372036854775807 := by decide
  rcases DataW.trod_slice hu h with ⟨e, _⟩ | ⟨a, len, cap, _, _, _, _, e, _, _, h4, h5, _⟩
  · injection e with e _
    injection e with _ e _
    omega
  · injection e with e _
    injection e with _ e _
    omega
theorem openLo {fuel : Nat} {cs : List Value} {x : DataW H × List MemPlace} (h : DataW.trod enc Try.prog w 0 sp held fuel 32 cs = some x) : ∃ l : List Int, LIn w w.heap.size l cs := by
  obtain ⟨l, A, c, rfl, hr, hb, _⟩ := openRowO (R := NIn) Try.underlying32 cells3 (by decide) (fun n _ cs y hy => ⟨_, (openN hy).choose_spec.1⟩) h
  exact ⟨l, ⟨A, c, rfl, hr⟩⟩
set_option maxRecDepth 100000 in
theorem openEo : ∀ {fuel : Nat} {cs : List Value} {x : DataW H × List MemPlace} , DataW.trod enc Try.prog w 0 sp held fuel 66 cs = some x → ∃ e : ET, EIn w w.heap.size e cs ∧ OE e := by
  intro fuel
  induction fuel using Nat.strongRecOn with
  | _ fuel ih =>
    intro cs x h
    obtain ⟨xs, n, rfl, rfl, hcl, hxl, hf⟩ := DataW.trod_struct Try.underlying66 h
    rw [cells66] at hcl
    obtain ⟨v0, v1, v2, v3, v4, rfl⟩ : ∃ v0 v1 v2 v3 v4, cs = [v0, v1, v2, v3, v4] := by
      match cs, hcl with
      | [v0, v1, v2, v3, v4], _ => exact ⟨_, _, _, _, _, rfl⟩
    obtain ⟨y0, y1, y2, y3, y4, rfl⟩ : ∃ y0 y1 y2 y3 y4, xs = [y0, y1, y2, y3, y4] := by
      match xs, hxl with
      | [y0, y1, y2, y3, y4], _ => exact ⟨_, _, _, _, _, rfl⟩
    have f0 : DataW.trod enc Try.prog w 0 sp held n 3 (([v0, v1, v2, v3, v4].drop 0).take (Try.prog.cellsOf 3)) = some y0 := hf 0 _ rfl
    have f1 : DataW.trod enc Try.prog w 0 sp held n 3 (([v0, v1, v2, v3, v4].drop 1).take (Try.prog.cellsOf 3)) = some y1 := hf 1 _ rfl
    have f2 : DataW.trod enc Try.prog w 0 sp held n 9 (([v0, v1, v2, v3, v4].drop 2).take (Try.prog.cellsOf 9)) = some y2 := hf 2 _ rfl
    have f3 : DataW.trod enc Try.prog w 0 sp held n 9 (([v0, v1, v2, v3, v4].drop 3).take (Try.prog.cellsOf 9)) = some y3 := hf 3 _ rfl
    have f4 : DataW.trod enc Try.prog w 0 sp held n 64 (([v0, v1, v2, v3, v4].drop 4).take (Try.prog.cellsOf 64)) = some y4 := hf 4 _ rfl
    clear hf hcl hxl h
    rw [cells3] at f0
    simp only [List.drop_zero, List.take_succ_cons, List.take_zero] at f0
    obtain ⟨a0, e0, rfl, w0⟩ := DataW.trod_int Try.underlying3 f0
    injection e0 with e0 _
    subst e0
    have w0 := wf64 w0
    rw [cells3] at f1
    simp only [List.drop_succ_cons, List.drop_zero, List.take_succ_cons, List.take_zero] at f1
    obtain ⟨a1, e1, rfl, w1⟩ := DataW.trod_int Try.underlying3 f1
    injection e1 with e1 _
    subst e1
    have w1 := wf64 w1
    rw [cells9] at f2
    simp only [List.drop_succ_cons, List.drop_zero, List.take_succ_cons, List.take_zero] at f2
    obtain ⟨a2, e2, rfl, _⟩ := DataW.trod_string Try.underlying9 f2
    injection e2 with e2 _
    subst e2
    rw [cells9] at f3
    simp only [List.drop_succ_cons, List.drop_zero, List.take_succ_cons, List.take_zero] at f3
    obtain ⟨a3, e3, rfl, _⟩ := DataW.trod_string Try.underlying9 f3
    injection e3 with e3 _
    subst e3
    rw [cells64] at f4
    simp only [List.drop_succ_cons, List.drop_zero, List.take_succ_cons, List.take_nil] at f4
    obtain ⟨l4, A4, c4, e4, r4, n4, _⟩ := openRowO (R := fun e cs => EIn w w.heap.size e cs ∧ OE e) Try.underlying64 cells66 (by decide) (fun m hm cs y hy => ih m (by omega) hy) f4
    injection e4 with e4 _
    subst e4
    clear f0 f1 f2 f3 f4
    exact ⟨.mk a0 a1 a2 a3 l4, EIn.of_form A4 c4 w1 r4.left, .mk n4 r4.right⟩
set_option maxRecDepth 100000 in
theorem openSo : ∀ {fuel : Nat} {cs : List Value} {x : DataW H × List MemPlace} , DataW.trod enc Try.prog w 0 sp held fuel 70 cs = some x → ∃ s : ST, SIn w w.heap.size s cs ∧ OS s := by
  intro fuel
  induction fuel using Nat.strongRecOn with
  | _ fuel ih =>
    intro cs x h
    obtain ⟨xs, n, rfl, rfl, hcl, hxl, hf⟩ := DataW.trod_struct Try.underlying70 h
    rw [cells70] at hcl
    obtain ⟨v0, v1, v2, v3, v4, v5, rfl⟩ : ∃ v0 v1 v2 v3 v4 v5, cs = [v0, v1, v2, v3, v4, v5] := by
      match cs, hcl with
      | [v0, v1, v2, v3, v4, v5], _ => exact ⟨_, _, _, _, _, _, rfl⟩
    obtain ⟨y0, y1, y2, y3, y4, y5, rfl⟩ : ∃ y0 y1 y2 y3 y4 y5, xs = [y0, y1, y2, y3, y4, y5] := by
      match xs, hxl with
      | [y0, y1, y2, y3, y4, y5], _ => exact ⟨_, _, _, _, _, _, rfl⟩
    have f0 : DataW.trod enc Try.prog w 0 sp held n 3 (([v0, v1, v2, v3, v4, v5].drop 0).take (Try.prog.cellsOf 3)) = some y0 := hf 0 _ rfl
    have f1 : DataW.trod enc Try.prog w 0 sp held n 3 (([v0, v1, v2, v3, v4, v5].drop 1).take (Try.prog.cellsOf 3)) = some y1 := hf 1 _ rfl
    have f2 : DataW.trod enc Try.prog w 0 sp held n 9 (([v0, v1, v2, v3, v4, v5].drop 2).take (Try.prog.cellsOf 9)) = some y2 := hf 2 _ rfl
    have f3 : DataW.trod enc Try.prog w 0 sp held n 64 (([v0, v1, v2, v3, v4, v5].drop 3).take (Try.prog.cellsOf 64)) = some y3 := hf 3 _ rfl
    have f4 : DataW.trod enc Try.prog w 0 sp held n 68 (([v0, v1, v2, v3, v4, v5].drop 4).take (Try.prog.cellsOf 68)) = some y4 := hf 4 _ rfl
    have f5 : DataW.trod enc Try.prog w 0 sp held n 67 (([v0, v1, v2, v3, v4, v5].drop 5).take (Try.prog.cellsOf 67)) = some y5 := hf 5 _ rfl
    clear hf hcl hxl h
    rw [cells3] at f0
    simp only [List.drop_zero, List.take_succ_cons, List.take_zero] at f0
    obtain ⟨a0, e0, rfl, w0⟩ := DataW.trod_int Try.underlying3 f0
    injection e0 with e0 _
    subst e0
    have w0 := wf64 w0
    rw [cells3] at f1
    simp only [List.drop_succ_cons, List.drop_zero, List.take_succ_cons, List.take_zero] at f1
    obtain ⟨a1, e1, rfl, w1⟩ := DataW.trod_int Try.underlying3 f1
    injection e1 with e1 _
    subst e1
    have w1 := wf64 w1
    rw [cells9] at f2
    simp only [List.drop_succ_cons, List.drop_zero, List.take_succ_cons, List.take_zero] at f2
    obtain ⟨a2, e2, rfl, _⟩ := DataW.trod_string Try.underlying9 f2
    injection e2 with e2 _
    subst e2
    rw [cells64] at f3
    simp only [List.drop_succ_cons, List.drop_zero, List.take_succ_cons, List.take_zero] at f3
    obtain ⟨l3, A3, c3, e3, r3, n3, _⟩ := openRowO (R := fun e cs => EIn w w.heap.size e cs ∧ OE e) Try.underlying64 cells66 (by decide) (fun m hm cs y hy => openEo hy) f3
    injection e3 with e3 _
    subst e3
    rw [cells68] at f4
    simp only [List.drop_succ_cons, List.drop_zero, List.take_succ_cons, List.take_zero] at f4
    obtain ⟨l4, A4, c4, e4, r4, n4, _⟩ := openRowO (R := LIn w w.heap.size) Try.underlying68 cells32 (by decide) (fun m hm cs y hy => openLo hy) f4
    injection e4 with e4 _
    subst e4
    rw [cells67] at f5
    simp only [List.drop_succ_cons, List.drop_zero, List.take_succ_cons, List.take_nil] at f5
    obtain ⟨l5, A5, c5, e5, r5, n5, _⟩ := openRowO (R := fun b cs => BIn w w.heap.size b cs ∧ (b.length ≤ 9223372036854775807 ∧ ∀ (i : Nat) (hi : i < b.length), OS b[i])) Try.underlying67 cells45 (by decide) (fun m hm cs y hy => by
      obtain ⟨l, A, c, rfl, hr, hb, _⟩ := openRowO (R := fun e cs => SIn w w.heap.size e cs ∧ OS e) Try.underlying45 cells70 (by decide) (fun m2 hm2 cs y hy => ih m2 (by omega) hy) hy
      exact ⟨l, ⟨A, c, rfl, hr.left⟩, hb, hr.right⟩) f5
    injection e5 with e5 _
    subst e5
    clear f0 f1 f2 f3 f4 f5
    exact ⟨.mk a0 a1 a2 l3 l4 l5, SIn.of_form A3 A4 A5 c3 c4 c5 w1 r3.left r4 r5.left, .mk n3 r3.right n4 n5 (fun j hj => (r5.right j hj).1) (fun j hj => (r5.right j hj).2)⟩
set_option maxRecDepth 100000 in
theorem openMo {fuel : Nat} {cs : List Value} {x : DataW H × List MemPlace} (h : DataW.trod enc Try.prog w 0 sp held fuel 52 cs = some x) : ∃ m : MT, MIn w w.heap.size m cs ∧ OM m := by
  obtain ⟨xs, n, rfl, rfl, hcl, hxl, hf⟩ := DataW.trod_struct Try.underlying52 h
  rw [cells52] at hcl
  obtain ⟨v0, v1, v2, v3, v4, v5, v6, v7, v8, v9, v10, rfl⟩ : ∃ v0 v1 v2 v3 v4 v5 v6 v7 v8 v9 v10, cs = [v0, v1, v2, v3, v4, v5, v6, v7, v8, v9, v10] := by
    match cs, hcl with
    | [v0, v1, v2, v3, v4, v5, v6, v7, v8, v9, v10], _ => exact ⟨_, _, _, _, _, _, _, _, _, _, _, rfl⟩
  obtain ⟨y0, y1, y2, y3, y4, y5, y6, y7, rfl⟩ : ∃ y0 y1 y2 y3 y4 y5 y6 y7, xs = [y0, y1, y2, y3, y4, y5, y6, y7] := by
    match xs, hxl with
    | [y0, y1, y2, y3, y4, y5, y6, y7], _ => exact ⟨_, _, _, _, _, _, _, _, rfl⟩
  have f0 : DataW.trod enc Try.prog w 0 sp held n 9 (([v0, v1, v2, v3, v4, v5, v6, v7, v8, v9, v10].drop 0).take (Try.prog.cellsOf 9)) = some y0 := hf 0 _ rfl
  have f1 : DataW.trod enc Try.prog w 0 sp held n 4 (([v0, v1, v2, v3, v4, v5, v6, v7, v8, v9, v10].drop 1).take (Try.prog.cellsOf 4)) = some y1 := hf 1 _ rfl
  have f2 : DataW.trod enc Try.prog w 0 sp held n 4 (([v0, v1, v2, v3, v4, v5, v6, v7, v8, v9, v10].drop 2).take (Try.prog.cellsOf 4)) = some y2 := hf 2 _ rfl
  have f3 : DataW.trod enc Try.prog w 0 sp held n 4 (([v0, v1, v2, v3, v4, v5, v6, v7, v8, v9, v10].drop 3).take (Try.prog.cellsOf 4)) = some y3 := hf 3 _ rfl
  have f4 : DataW.trod enc Try.prog w 0 sp held n 34 (([v0, v1, v2, v3, v4, v5, v6, v7, v8, v9, v10].drop 4).take (Try.prog.cellsOf 34)) = some y4 := hf 4 _ rfl
  have f5 : DataW.trod enc Try.prog w 0 sp held n 50 (([v0, v1, v2, v3, v4, v5, v6, v7, v8, v9, v10].drop 5).take (Try.prog.cellsOf 50)) = some y5 := hf 5 _ rfl
  have f6 : DataW.trod enc Try.prog w 0 sp held n 34 (([v0, v1, v2, v3, v4, v5, v6, v7, v8, v9, v10].drop 9).take (Try.prog.cellsOf 34)) = some y6 := hf 6 _ rfl
  have f7 : DataW.trod enc Try.prog w 0 sp held n 45 (([v0, v1, v2, v3, v4, v5, v6, v7, v8, v9, v10].drop 10).take (Try.prog.cellsOf 45)) = some y7 := hf 7 _ rfl
  clear hf hcl hxl h
  rw [cells9] at f0
  simp only [List.drop_zero, List.take_succ_cons, List.take_zero] at f0
  obtain ⟨a0, e0, rfl, _⟩ := DataW.trod_string Try.underlying9 f0
  injection e0 with e0 _
  subst e0
  rw [cells4] at f1
  simp only [List.drop_succ_cons, List.drop_zero, List.take_succ_cons, List.take_zero] at f1
  obtain ⟨a1, e1, rfl⟩ := DataW.trod_bool Try.underlying4 f1
  injection e1 with e1 _
  subst e1
  rw [cells4] at f2
  simp only [List.drop_succ_cons, List.drop_zero, List.take_succ_cons, List.take_zero] at f2
  obtain ⟨a2, e2, rfl⟩ := DataW.trod_bool Try.underlying4 f2
  injection e2 with e2 _
  subst e2
  rw [cells4] at f3
  simp only [List.drop_succ_cons, List.drop_zero, List.take_succ_cons, List.take_zero] at f3
  obtain ⟨a3, e3, rfl⟩ := DataW.trod_bool Try.underlying4 f3
  injection e3 with e3 _
  subst e3
  rw [cells34] at f4
  simp only [List.drop_succ_cons, List.drop_zero, List.take_succ_cons, List.take_zero] at f4
  obtain ⟨l4, A4, c4, e4, r4, n4, _⟩ := openRowO (R := VIn) Try.underlying34 cells54 (by decide) (fun m hm cs y hy => ⟨_, (openV hy).choose_spec.1⟩) f4
  injection e4 with e4 _
  subst e4
  rw [cells50] at f5
  simp only [List.drop_succ_cons, List.drop_zero, List.take_succ_cons, List.take_zero] at f5
  obtain ⟨t5, e5, k5, b5⟩ := openY f5
  injection e5 with d0 e5
  injection e5 with d1 e5
  injection e5 with d2 e5
  injection e5 with d3 _
  subst d0 d1 d2 d3
  rw [cells34] at f6
  simp only [List.drop_succ_cons, List.drop_zero, List.take_succ_cons, List.take_zero] at f6
  obtain ⟨l6, A6, c6, e6, r6, n6, _⟩ := openRowO (R := VIn) Try.underlying34 cells54 (by decide) (fun m hm cs y hy => ⟨_, (openV hy).choose_spec.1⟩) f6
  injection e6 with e6 _
  subst e6
  rw [cells45] at f7
  simp only [List.drop_succ_cons, List.drop_zero, List.take_succ_cons, List.take_nil] at f7
  obtain ⟨l7, A7, c7, e7, r7, n7, _⟩ := openRowO (R := fun e cs => SIn w w.heap.size e cs ∧ OS e) Try.underlying45 cells70 (by decide) (fun m hm cs y hy => openSo hy) f7
  injection e7 with e7 _
  subst e7
  clear f0 f1 f2 f3 f4 f5 f6 f7
  exact ⟨⟨a0, a1, a2, a3, l4, t5, l6, l7⟩, ⟨A4, c4, A6, c6, A7, c7, rfl, k5, r4, r6, r7.left⟩, ⟨n4, n6, n7, r7.right⟩⟩
set_option maxRecDepth 100000 in
theorem openDo {fuel : Nat} {cs : List Value} {x : DataW H × List MemPlace} (h : DataW.trod enc Try.prog w 0 sp held fuel 47 cs = some x) : ∃ d : DT, DIn w w.heap.size d cs ∧ OD d := by
  obtain ⟨xs, n, rfl, rfl, hcl, hxl, hf⟩ := DataW.trod_struct Try.underlying47 h
  rw [cells47] at hcl
  obtain ⟨v0, v1, v2, v3, v4, v5, v6, v7, v8, v9, v10, rfl⟩ : ∃ v0 v1 v2 v3 v4 v5 v6 v7 v8 v9 v10, cs = [v0, v1, v2, v3, v4, v5, v6, v7, v8, v9, v10] := by
    match cs, hcl with
    | [v0, v1, v2, v3, v4, v5, v6, v7, v8, v9, v10], _ => exact ⟨_, _, _, _, _, _, _, _, _, _, _, rfl⟩
  obtain ⟨y0, y1, y2, y3, y4, y5, y6, y7, y8, y9, y10, rfl⟩ : ∃ y0 y1 y2 y3 y4 y5 y6 y7 y8 y9 y10, xs = [y0, y1, y2, y3, y4, y5, y6, y7, y8, y9, y10] := by
    match xs, hxl with
    | [y0, y1, y2, y3, y4, y5, y6, y7, y8, y9, y10], _ => exact ⟨_, _, _, _, _, _, _, _, _, _, _, rfl⟩
  have f0 : DataW.trod enc Try.prog w 0 sp held n 3 (([v0, v1, v2, v3, v4, v5, v6, v7, v8, v9, v10].drop 0).take (Try.prog.cellsOf 3)) = some y0 := hf 0 _ rfl
  have f1 : DataW.trod enc Try.prog w 0 sp held n 9 (([v0, v1, v2, v3, v4, v5, v6, v7, v8, v9, v10].drop 1).take (Try.prog.cellsOf 9)) = some y1 := hf 1 _ rfl
  have f2 : DataW.trod enc Try.prog w 0 sp held n 9 (([v0, v1, v2, v3, v4, v5, v6, v7, v8, v9, v10].drop 2).take (Try.prog.cellsOf 9)) = some y2 := hf 2 _ rfl
  have f3 : DataW.trod enc Try.prog w 0 sp held n 43 (([v0, v1, v2, v3, v4, v5, v6, v7, v8, v9, v10].drop 3).take (Try.prog.cellsOf 43)) = some y3 := hf 3 _ rfl
  have f4 : DataW.trod enc Try.prog w 0 sp held n 4 (([v0, v1, v2, v3, v4, v5, v6, v7, v8, v9, v10].drop 4).take (Try.prog.cellsOf 4)) = some y4 := hf 4 _ rfl
  have f5 : DataW.trod enc Try.prog w 0 sp held n 4 (([v0, v1, v2, v3, v4, v5, v6, v7, v8, v9, v10].drop 5).take (Try.prog.cellsOf 4)) = some y5 := hf 5 _ rfl
  have f6 : DataW.trod enc Try.prog w 0 sp held n 34 (([v0, v1, v2, v3, v4, v5, v6, v7, v8, v9, v10].drop 6).take (Try.prog.cellsOf 34)) = some y6 := hf 6 _ rfl
  have f7 : DataW.trod enc Try.prog w 0 sp held n 44 (([v0, v1, v2, v3, v4, v5, v6, v7, v8, v9, v10].drop 7).take (Try.prog.cellsOf 44)) = some y7 := hf 7 _ rfl
  have f8 : DataW.trod enc Try.prog w 0 sp held n 45 (([v0, v1, v2, v3, v4, v5, v6, v7, v8, v9, v10].drop 8).take (Try.prog.cellsOf 45)) = some y8 := hf 8 _ rfl
  have f9 : DataW.trod enc Try.prog w 0 sp held n 3 (([v0, v1, v2, v3, v4, v5, v6, v7, v8, v9, v10].drop 9).take (Try.prog.cellsOf 3)) = some y9 := hf 9 _ rfl
  have f10 : DataW.trod enc Try.prog w 0 sp held n 3 (([v0, v1, v2, v3, v4, v5, v6, v7, v8, v9, v10].drop 10).take (Try.prog.cellsOf 3)) = some y10 := hf 10 _ rfl
  clear hf hcl hxl h
  rw [cells3] at f0
  simp only [List.drop_zero, List.take_succ_cons, List.take_zero] at f0
  obtain ⟨a0, e0, rfl, w0⟩ := DataW.trod_int Try.underlying3 f0
  injection e0 with e0 _
  subst e0
  have w0 := wf64 w0
  rw [cells9] at f1
  simp only [List.drop_succ_cons, List.drop_zero, List.take_succ_cons, List.take_zero] at f1
  obtain ⟨a1, e1, rfl, _⟩ := DataW.trod_string Try.underlying9 f1
  injection e1 with e1 _
  subst e1
  rw [cells9] at f2
  simp only [List.drop_succ_cons, List.drop_zero, List.take_succ_cons, List.take_zero] at f2
  obtain ⟨a2, e2, rfl, _⟩ := DataW.trod_string Try.underlying9 f2
  injection e2 with e2 _
  subst e2
  rw [cells43] at f3
  simp only [List.drop_succ_cons, List.drop_zero, List.take_succ_cons, List.take_zero] at f3
  obtain ⟨l3, A3, c3, e3, r3, n3, _⟩ := openRowO (R := XIn) Try.underlying43 cells9 (by decide) (fun m hm cs y hy => ⟨_, (openX hy).choose_spec.1⟩) f3
  injection e3 with e3 _
  subst e3
  rw [cells4] at f4
  simp only [List.drop_succ_cons, List.drop_zero, List.take_succ_cons, List.take_zero] at f4
  obtain ⟨a4, e4, rfl⟩ := DataW.trod_bool Try.underlying4 f4
  injection e4 with e4 _
  subst e4
  rw [cells4] at f5
  simp only [List.drop_succ_cons, List.drop_zero, List.take_succ_cons, List.take_zero] at f5
  obtain ⟨a5, e5, rfl⟩ := DataW.trod_bool Try.underlying4 f5
  injection e5 with e5 _
  subst e5
  rw [cells34] at f6
  simp only [List.drop_succ_cons, List.drop_zero, List.take_succ_cons, List.take_zero] at f6
  obtain ⟨l6, A6, c6, e6, r6, n6, _⟩ := openRowO (R := VIn) Try.underlying34 cells54 (by decide) (fun m hm cs y hy => ⟨_, (openV hy).choose_spec.1⟩) f6
  injection e6 with e6 _
  subst e6
  rw [cells44] at f7
  simp only [List.drop_succ_cons, List.drop_zero, List.take_succ_cons, List.take_zero] at f7
  obtain ⟨l7, A7, c7, e7, r7, n7, _⟩ := openRowO (R := fun e cs => MIn w w.heap.size e cs ∧ OM e) Try.underlying44 cells52 (by decide) (fun m hm cs y hy => openMo hy) f7
  injection e7 with e7 _
  subst e7
  rw [cells45] at f8
  simp only [List.drop_succ_cons, List.drop_zero, List.take_succ_cons, List.take_zero] at f8
  obtain ⟨l8, A8, c8, e8, r8, n8, _⟩ := openRowO (R := fun e cs => SIn w w.heap.size e cs ∧ OS e) Try.underlying45 cells70 (by decide) (fun m hm cs y hy => openSo hy) f8
  injection e8 with e8 _
  subst e8
  rw [cells3] at f9
  simp only [List.drop_succ_cons, List.drop_zero, List.take_succ_cons, List.take_zero] at f9
  obtain ⟨a9, e9, rfl, w9⟩ := DataW.trod_int Try.underlying3 f9
  injection e9 with e9 _
  subst e9
  have w9 := wf64 w9
  rw [cells3] at f10
  simp only [List.drop_succ_cons, List.drop_zero, List.take_succ_cons, List.take_nil] at f10
  obtain ⟨a10, e10, rfl, w10⟩ := DataW.trod_int Try.underlying3 f10
  injection e10 with e10 _
  subst e10
  have w10 := wf64 w10
  clear f0 f1 f2 f3 f4 f5 f6 f7 f8 f9 f10
  exact ⟨⟨a0, a1, a2, l3, a4, a5, l6, l7, l8, a9, a10⟩, ⟨A3, c3, A6, c6, A7, c7, A8, c8, rfl, w9, w10, r3, r6, r7.left, r8.left⟩, ⟨n3, n6, n7, r7.right, n8, r8.right⟩⟩
set_option maxRecDepth 100000 in
theorem openUo {fuel : Nat} {cs : List Value} {x : DataW H × List MemPlace} (h : DataW.trod enc Try.prog w 0 sp held fuel 24 cs = some x) : ∃ (L : List DT) (A : Option Addr) (c : Nat), cs = [.slice A L.length c] ∧ DsR w w.heap.size A L ∧ L.length ≤ 9223372036854775807 ∧ (∀ (i : Nat) (hi : i < L.length), OD L[i]) ∧ (A = none → c = 0) := by
  obtain ⟨xs, n, rfl, rfl, hcl, hxl, hf⟩ := DataW.trod_struct Try.underlying24 h
  rw [cells24] at hcl
  obtain ⟨v0, rfl⟩ : ∃ v0, cs = [v0] := by
    match cs, hcl with
    | [v0], _ => exact ⟨_, rfl⟩
  obtain ⟨y0, rfl⟩ : ∃ y0, xs = [y0] := by
    match xs, hxl with
    | [y0], _ => exact ⟨_, rfl⟩
  have f0 : DataW.trod enc Try.prog w 0 sp held n 22 (([v0].drop 0).take (Try.prog.cellsOf 22)) = some y0 := hf 0 _ rfl
  clear hf hcl hxl h
  rw [cells22] at f0
  simp only [List.drop_zero, List.take_succ_cons, List.take_nil] at f0
  obtain ⟨l0, A0, c0, e0, r0, n0, z0⟩ := openRowO (R := fun e cs => DIn w w.heap.size e cs ∧ OD e) Try.underlying22 cells47 (by decide) (fun m hm cs y hy => openDo hy) f0
  injection e0 with e0 _
  subst e0
  clear f0
  exact ⟨l0, A0, c0, rfl, r0.left, n0, r0.right, z0⟩
end
end Go.Proofs.Ytkpieolmepngjaa
