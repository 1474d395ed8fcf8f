/-
  TableAlike: whatever it is given, the law returns true and changes nothing that was there.
-/
import Derived.Test.YtkpieolmepngjaaTbAlikeFull
import Derived.Test.YtkpieolmepngjaaPrOpen
import Derived.Test.YtkpieolmepngjaaRows
import Derived.ProofKit
import Derived.OpenShut
import Derived.JoinedCond
import Derived.SevenTiedAt
import Derived.ChangeSame
import Derived.Deep.DeepHandedRow
import Derived.Carry
namespace Go.Proofs.Ytkpieolmepngjaa.tableAlike
open Go Go.ChangeShapes Go.WideShapes Go.RowKit Go.ChangeAt
set_option linter.unusedVariables false
set_option linter.unusedSimpArgs false
open Go.WideMaps Go.WideElems
open Go.ChangeMaps (open_string shut_string)

theorem own : ownKnob Try.prog.godebug = none := by kernel_rfl
theorem laidOut : laidOutB Try.prog = true := by kernel_rfl
theorem cells_agg (cs : Array Value) : (Value.cells (.agg cs)) = cs := by simp [Value.cells]

set_option maxRecDepth 100000 in
set_option maxHeartbeats 2000000 in
theorem contract (H : Type) (enc : TypeId × Value → H) (W : World) (base : Nat) (args : Array Value) (ds gs : List (DataW H)) (before : List MemPlace)
    (hval : ∀ (j : Nat) t v, Try.f5.params[j]? = some t → args[j]? = some v → Value.okWide Try.prog W .any base t v)
    (hW : DataW.Whole enc Try.prog Try.f5.params.toList Rows.tableAlikeSpec.vars false W args.toList ds gs before) :
    Calls Try.prog 5 args W fun e W' => ∃ v, e = .returned v ∧ Rows.tableAlikeSpec.post enc Try.prog Try.f5 false true false false W args v W' := by
  have hW' := hW
  obtain ⟨p, q, hA0, hV, rfl, hfz, hnd⟩ := hW
  have hA : DataW.TrodAll enc Try.prog W 0 (fun _ => true) true Try.f5.params.toList args.toList ds p := hA0
  rw [Try.params5] at hA hval
  obtain ⟨v0, vs0, d0, ds0, p0, q0, hargs, rfl, rfl, h0, r0⟩ := trodAll_cons hA
  obtain ⟨v1, vs1, d1, ds1, p1, q1, rfl, rfl, rfl, h1, r1⟩ := trodAll_cons r0
  obtain ⟨v2, vs2, d2, ds2, p2, q2, rfl, rfl, rfl, h2, r2⟩ := trodAll_cons r1
  obtain ⟨rfl, rfl, rfl⟩ := trodAll_nil r2
  obtain rfl : args = #[v0, v1, v2] := by cases args; simp_all
  obtain ⟨rfl, rfl⟩ := trodVars_none hV
  obtain ⟨x0, rfl, _⟩ := okWide_struct Try.underlying52 (hval 0 52 v0 rfl rfl)
  obtain ⟨x1, rfl, _⟩ := okWide_struct Try.underlying52 (hval 1 52 v1 rfl rfl)
  obtain ⟨s2, rfl, rfl, rfl, ws2⟩ := open_string Try.underlying9 (hval 2 9 v2 rfl rfl) h2
  have h0k := h0
  obtain ⟨k0, f0⟩ := h0
  rw [cells_agg] at f0
  have h1k := h1
  obtain ⟨k1, f1⟩ := h1
  rw [cells_agg] at f1
  obtain ⟨m0, mi0, w0⟩ := openM f0
  obtain ⟨Aa0, ca0, Ab0, cb0, Ac0, cc0, e0, hy0, la0, lb0, lc0⟩ := mi0
  obtain rfl : x0 = mcells m0 Aa0 Ab0 Ac0 ca0 cb0 cc0 := Array.ext' e0
  obtain ⟨m1, mi1, w1⟩ := openM f1
  obtain ⟨Aa1, ca1, Ab1, cb1, Ac1, cc1, e1, hy1, la1, lb1, lc1⟩ := mi1
  obtain rfl : x1 = mcells m1 Aa1 Ab1 Ac1 ca1 cb1 cc1 := Array.ext' e1
  have goal : Calls Try.prog 5 #[.agg (mcells m0 Aa0 Ab0 Ac0 ca0 cb0 cc0), .agg (mcells m1 Aa1 Ab1 Ac1 ca1 cb1 cc1), .string s2] W fun e w' => e = .returned (.bool true) ∧ Below W.heap.size W w' :=
    alike_full m0 m1 Aa0 Ab0 Ac0 Aa1 Ab1 Ac1 ca0 cb0 cc0 ca1 cb1 cc1 s2 W la0 la1
  clear hA0 hval
  simp only [List.append_nil] at hW'
  have hlt0 : ∀ x ∈ p0, x.block < W.heap.size := fun x hx => hW'.lt x (by simp [hx])
  have hlt1 : ∀ x ∈ p1, x.block < W.heap.size := fun x hx => hW'.lt x (by simp [hx])
  have eS : Rows.tableAlikeSpec.fn H ([d0, d1, .lit (.string s2.data.toList)] ++ []) = { results := [.lit (.bool true)], args := [d0, d1, .lit (.string s2.data.toList)] } := by simp [Rows.tableAlikeSpec]
  refine goal.mono fun e W' ⟨he, hb⟩ => ?_
  subst he
  refine ⟨_, rfl, _, _, _, [], p0 ++ (p1 ++ ([] ++ [])), [], hW', ?_, ?_, ?_, hb.frame _, fun h => by cases h⟩
  · rw [eS]; exact trodAll_mk1 (shut_bool Try.underlying4 true)
  · rw [eS]
    exact trodAll_cons_mk (Below.trod laidOut (by kernel_rfl) (of_decide_eq_true (by kernel_rfl)) h0k hb hlt0) (trodAll_cons_mk (Below.trod laidOut (by kernel_rfl) (of_decide_eq_true (by kernel_rfl)) h1k hb hlt1) (trodAll_cons_mk (shut_string Try.underlying9 ws2) trodAll_mk0))
  · rw [eS]; rfl

/-- the least input: nothing declared. -/
abbrev least : Array Value := #[.agg #[.string ⟨#[]⟩, .bool false, .bool false, .bool false, .slice none 0 0, .int .i64 0, .int .i64 0, .int .i64 0, .string ⟨#[]⟩, .slice none 0 0, .slice none 0 0], .agg #[.string ⟨#[]⟩, .bool false, .bool false, .bool false, .slice none 0 0, .int .i64 0, .int .i64 0, .int .i64 0, .string ⟨#[]⟩, .slice none 0 0, .slice none 0 0], .string ⟨#[]⟩]
set_option maxRecDepth 100000 in
theorem lifted (os : Os) (started : os.Started) (H : Type) (enc : TypeId × Value → H) :
    ReturnsInHanded {} Try.checked os 5 .any (Rows.tableAlikeSpec.pre6 enc Try.prog Try.f5 Rows.tableAlikeRow.domain false) (Rows.tableAlikeSpec.post enc Try.prog Try.f5 false true false false) := by
  refine returnsInHanded_of_change (C := Try.checked) own started (by kernel_rfl) Try.func5
    (ChangeSpec.witness6 (enc := enc) (C := Try.checked) false ⟨#[], least, []⟩ 8 (by kernel_rfl) (by kernel_rfl) (by kernel_rfl) (by kernel_rfl)) ?_
  intro W base args ds gs before hval hW _ _
  exact contract H enc W base args ds gs before hval hW

theorem proved : Rows.TableAlikeSaid :=
  OpenClaim.holds_of_wide 5 Try.f5 rfl rfl rfl rfl rfl rfl rfl ⟨rfl, rfl, rfl, rfl, rfl⟩ rfl rfl rfl rfl rfl (by kernel_rfl) Try.func5 (by kernel_rfl)
    (of_decide_eq_true (by kernel_rfl)) (by unfold Func.isWrapper; first | (rw [if_pos (by decide +kernel)]; kernel_rfl) | (rw [if_neg (by decide +kernel)]; exact ⟨rfl, rfl⟩))
    (fun os started H enc _ => lifted os started H enc)
#print axioms proved
end Go.Proofs.Ytkpieolmepngjaa.tableAlike
