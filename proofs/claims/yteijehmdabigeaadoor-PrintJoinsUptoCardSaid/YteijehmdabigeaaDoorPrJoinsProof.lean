/-
  PrintJoins: whatever the trees, the name and the type (of bulk at most 1048576, as the second form says), the law returns true and changes nothing that was there. Conditions: the five package-level variables that its road names and the row lists are as their initialisers lay them (the card ties them).
-/
import Derived.Test.YteijehmdabigeaaDoorPrJoins
import Derived.Test.YteijehmdabigeaaDoorPrOpen
import Derived.Test.YteijehmdabigeaaDoorPrLaid
import Derived.Test.YteijehmdabigeaaDoorTie
import Derived.Test.YteijehmdabigeaaDoorCards
import Derived.SevenTiedAt
import Derived.ChangeSame
import Derived.Deep.DeepHandedRow
import Derived.Carry
namespace Go.Proofs.YteijehmdabigeaaDoor.printjoins
open Go Go.ChangeShapes Go.WideShapes Go.RowKit
open Go.WideMaps Go.WideElems
open Go.ChangeMaps (open_string shut_string)

theorem laidOut : laidOutB Tryd.prog = true := by kernel_rfl
theorem cells_agg (cs : Array Value) : (Value.cells (.agg cs)) = cs := by simp [Value.cells]

set_option maxRecDepth 100000 in
set_option maxHeartbeats 2000000 in
theorem contract (H : Type) (enc : TypeId × Value → H) (W : World) (base : Nat) (args : Array Value) (ds gs : List (DataW H)) (before : List MemPlace)
    (hval : ∀ (j : Nat) t v, Tryd.f4.params[j]? = some t → args[j]? = some v → Value.okWide Tryd.prog W .any base t v)
    (hW : DataW.Whole enc Tryd.prog Tryd.f4.params.toList Rows.printJoinsSpec.vars false W args.toList ds gs before) (hk : Rows.uptoSmall H (ds ++ gs) = true) (hL : laidMetH Tryd.prog fiveLaid W) :
    Calls Tryd.prog 4 args W fun e W' => ∃ v, e = .returned v ∧ Rows.printJoinsSpec.post enc Tryd.prog Tryd.f4 false true false false W args v W' := by
  have hW' := hW
  obtain ⟨p, q, hA0, hV, rfl, hfz, hnd⟩ := hW
  have hA : DataW.TrodAll enc Tryd.prog W 0 (fun _ => true) true Tryd.f4.params.toList args.toList ds p := hA0
  rw [Tryd.params4] at hA hval
  obtain ⟨v0, vs0, d0, ds0, p0, q0, hargs, rfl, rfl, h0, r0⟩ := trodAll_cons hA
  obtain ⟨v1, vs1, d1, ds1, p1, q1, rfl, rfl, rfl, h1, r1⟩ := trodAll_cons r0
  obtain ⟨v2, vs2, d2, ds2, p2, q2, rfl, rfl, rfl, h2, r2⟩ := trodAll_cons r1
  obtain ⟨v3, vs3, d3, ds3, p3, q3, rfl, rfl, rfl, h3, r3⟩ := trodAll_cons r2
  obtain ⟨v4, vs4, d4, ds4, p4, q4, rfl, rfl, rfl, h4, r4⟩ := trodAll_cons r3
  obtain ⟨rfl, rfl, rfl⟩ := trodAll_nil r4
  obtain rfl : args = #[v0, v1, v2, v3, v4] := by cases args; simp_all
  obtain ⟨rfl, rfl⟩ := trodVars_none hV
  obtain ⟨x0, rfl, _⟩ := okWide_struct Tryd.underlying24 (hval 0 24 v0 rfl rfl)
  obtain ⟨x1, rfl, _⟩ := okWide_struct Tryd.underlying24 (hval 1 24 v1 rfl rfl)
  obtain ⟨x2, rfl, _⟩ := okWide_struct Tryd.underlying27 (hval 2 27 v2 rfl rfl)
  obtain ⟨x3, rfl, _⟩ := okWide_struct Tryd.underlying29 (hval 3 29 v3 rfl rfl)
  obtain ⟨name, rfl, rfl, rfl, wn⟩ := open_string Tryd.underlying9 (hval 4 9 v4 rfl rfl) h4
  have h0k := h0
  have h1k := h1
  have h2k := h2
  have h3k := h3
  obtain ⟨k0, f0⟩ := h0
  obtain ⟨k1, f1⟩ := h1
  obtain ⟨k2, f2⟩ := h2
  obtain ⟨k3, f3⟩ := h3
  rw [cells_agg] at f0 f1 f2 f3
  obtain ⟨L, A1, c1, e0, l0, w0, g0⟩ := openU f0
  obtain ⟨M, A2, c2, e1, l1, w1, g1⟩ := openU f1
  obtain ⟨E, l2, w2⟩ := openE f2
  obtain ⟨t, e3, l3, w3⟩ := openY f3
  obtain ⟨k, n, nm, wh, xs⟩ := E
  obtain ⟨A3, c3, e2, _, _⟩ := l2.form
  rw [e2] at l2
  obtain rfl : x0 = #[.slice A1 L.length c1] := Array.ext' e0
  obtain rfl : x1 = #[.slice A2 M.length c2] := Array.ext' e1
  obtain rfl : x2 = #[.int .i64 k, .int .i64 n, .string nm, .string wh, .slice A3 xs.length c3] := Array.ext' e2
  obtain rfl : x3 = t.cells.toArray := Array.ext' (by simpa using e3)
  have hE := env_of_laid hL
  have hbulk : Rows.uptoBulkAll [d0, d1, d2, d3, .lit (.string name.data.toList)] ≤ 1048576 := by
    have := of_decide_eq_true hk
    simpa using this
  simp only [Rows.uptoBulkAll, bulk_str] at hbulk
  have goal : Calls Tryd.prog 4 #[.agg #[.slice A1 L.length c1], .agg #[.slice A2 M.length c2], .agg #[.int .i64 k, .int .i64 n, .string nm, .string wh, .slice A3 xs.length c3], yv t, .string name] W fun e w' => e = .returned (.bool true) ∧ Below W.heap.size W w' :=
    joins_walk L M k n nm wh xs t name A1 A2 A3 c1 c2 c3 W hE l0 l1 g0 g1 l2 l3 (by simp only at w0 w1 w2 w3; omega)
  clear hA0 hval
  simp only [List.append_nil] at hW'
  have hlt0 : ∀ x ∈ p0, x.block < W.heap.size := fun x hx => hW'.lt x (by simp [hx])
  have hlt1 : ∀ x ∈ p1, x.block < W.heap.size := fun x hx => hW'.lt x (by simp [hx])
  have hlt2 : ∀ x ∈ p2, x.block < W.heap.size := fun x hx => hW'.lt x (by simp [hx])
  have hlt3 : ∀ x ∈ p3, x.block < W.heap.size := fun x hx => hW'.lt x (by simp [hx])
  have eS : Rows.printJoinsSpec.fn H ([d0, d1, d2, d3, .lit (.string name.data.toList)] ++ []) = { results := [.lit (.bool true)], args := [d0, d1, d2, d3, .lit (.string name.data.toList)] } := by simp [Rows.printJoinsSpec]
  refine goal.mono fun e W' ⟨he, hb⟩ => ?_
  subst he
  refine ⟨_, rfl, _, _, _, [], p0 ++ (p1 ++ (p2 ++ (p3 ++ ([] ++ [])))), [], hW', ?_, ?_, ?_, hb.frame _, fun h => by cases h⟩
  · rw [eS]; exact trodAll_mk1 (shut_bool Tryd.underlying4 true)
  · rw [eS]
    exact trodAll_cons_mk (Below.trod laidOut (by kernel_rfl) (of_decide_eq_true (by kernel_rfl)) h0k hb hlt0) (trodAll_cons_mk (Below.trod laidOut (by kernel_rfl) (of_decide_eq_true (by kernel_rfl)) h1k hb hlt1)
      (trodAll_cons_mk (Below.trod laidOut (by kernel_rfl) (of_decide_eq_true (by kernel_rfl)) h2k hb hlt2) (trodAll_cons_mk (Below.trod laidOut (by kernel_rfl) (of_decide_eq_true (by kernel_rfl)) h3k hb hlt3) (trodAll_cons_mk (shut_string Tryd.underlying9 wn) trodAll_mk0))))
  · rw [eS]; rfl

/-- the least input: nothing declared. -/
abbrev least : Array Value := #[.agg #[.slice none 0 0], .agg #[.slice none 0 0], .agg #[.int .i64 0, .int .i64 0, .string ⟨#[]⟩, .string ⟨#[]⟩, .slice none 0 0], .agg #[.int .i64 0, .int .i64 0, .int .i64 0, .string ⟨#[]⟩], .string ⟨#[]⟩]
theorem reads (os : Os) {H : Type} (enc : TypeId × Value → H) : ∃ x, DataW.whole enc Tryd.prog ((World.doorLaid Tryd.prog 200 os).forCall (fun _ _ => 0) ⟨#[], least, []⟩).memory Tryd.f4.params.toList Rows.printJoinsSpec.vars false least.toList 8 = some ([.agg [.nil], .agg [.nil], .agg [.lit (.int .i64 0), .lit (.int .i64 0), .lit (.string []), .lit (.string []), .nil], .agg [.lit (.int .i64 0), .lit (.int .i64 0), .lit (.int .i64 0), .lit (.string [])], .lit (.string [])], [], x) :=
  ⟨[], by kernel_rfl⟩

set_option maxRecDepth 100000 in
theorem liftedUpto (os : Os) (started : os.Started) (H : Type) (enc : TypeId × Value → H) (F : Stop.Interp) :
    ReturnsInHanded {} Tryd.checked os 4 .any ((Rows.OpenSpec.upto Rows.printJoinsSpec).preRow enc Tryd.prog Tryd.f4 Rows.printJoinsUptoRow.domain false Rows.printJoinsUptoRow.laid) (((Rows.OpenSpec.upto Rows.printJoinsSpec).at F).post enc Tryd.prog Tryd.f4 false true false false) := by
  obtain ⟨places, hx⟩ := reads os enc
  refine returnsInHanded_of_row (C := Tryd.checked) (s := Rows.OpenSpec.upto Rows.printJoinsSpec) own started (by kernel_rfl) Tryd.func4
    (witness_row_at (enc := enc) (C := Tryd.checked) false (World.doorLaid Tryd.prog 200 os) least rfl (by kernel_rfl) (by kernel_rfl) (by kernel_rfl)
      (OpenSpec.preRow_of_cond 8 hx (by kernel_rfl) (fun k hk => by cases hk; kernel_rfl) (by kernel_rfl) (door_met os least))) ?_
  intro W base args ds gs before hval hW _ hcond _ hL _ _
  exact contract H enc W base args ds gs before hval hW (hcond _ rfl) hL

theorem saidUpto : Rows.PrintJoinsUptoSaid :=
  OpenClaim.holds_of_cond 4 Tryd.f4 rfl rfl rfl rfl rfl rfl rfl ⟨rfl, rfl, rfl, rfl, rfl⟩ rfl rfl rfl rfl rfl (by kernel_rfl) Tryd.func4 (by kernel_rfl)
    (of_decide_eq_true (by kernel_rfl)) (by unfold Func.isWrapper; first | (rw [if_pos (by decide +kernel)]; kernel_rfl) | (rw [if_neg (by decide +kernel)]; exact ⟨rfl, rfl⟩))
    (fun os started H enc _ F => by rw [OpenClaim.pre_eq_preRow]; exact liftedUpto os started H enc F)

theorem plain (f : FuncId) (fn : Func) (hf : Tryd.pinned.checked.prog.funcNamed "governor/governorlaw5.PrintJoins" = some f) (hfn : Tryd.pinned.checked.prog.funcs[f]? = some fn) :
    false = Tryd.pinned.checked.prog.looks [] ∧ ∀ (j : Nat) t, fn.params[j]? = some t → Tryd.pinned.checked.prog.wantsStandIn t = false := by
  obtain rfl : f = 4 := Option.some.inj ((show Tryd.prog.funcNamed "governor/governorlaw5.PrintJoins" = some 4 by kernel_rfl).symm.trans hf) |>.symm
  obtain rfl : fn = Tryd.f4 := (Option.some.inj (Tryd.func4.symm.trans hfn)).symm
  refine ⟨by kernel_rfl, fun j t ht => ?_⟩
  rw [Tryd.params4] at ht
  have h3 : t = 24 ∨ t = 27 ∨ t = 29 ∨ t = 9 := by
    rcases j with _ | _ | _ | _ | _ | j
    · exact Or.inl (by simpa using ht.symm)
    · exact Or.inl (by simpa using ht.symm)
    · exact Or.inr (Or.inl (by simpa using ht.symm))
    · exact Or.inr (Or.inr (Or.inl (by simpa using ht.symm)))
    · exact Or.inr (Or.inr (Or.inr (by simpa using ht.symm)))
    · simp at ht
  rcases h3 with rfl | rfl | rfl | rfl
  · exact (show Tryd.prog.wantsStandIn 24 = false by kernel_rfl)
  · exact (show Tryd.prog.wantsStandIn 27 = false by kernel_rfl)
  · exact (show Tryd.prog.wantsStandIn 29 = false by kernel_rfl)
  · exact (show Tryd.prog.wantsStandIn 9 = false by kernel_rfl)

theorem proved : Rows.PrintJoinsUptoCardSaid :=
  Claim7.holds_tied_plain_at .later [] _ _ _ _ saidUpto (fun _ h => by cases h) (by kernel_rfl) (fun _ h => by cases h) printJoinsUpto_row_tie rfl ⟨rfl, rfl⟩ (by kernel_rfl) rfl plain (by kernel_rfl)
#print axioms proved
end Go.Proofs.YteijehmdabigeaaDoor.printjoins
