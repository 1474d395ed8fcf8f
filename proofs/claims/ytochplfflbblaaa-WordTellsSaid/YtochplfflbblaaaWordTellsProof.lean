/-
  WordTells: for every input the law returns true and leaves its arguments as they were. No condition narrows it.
-/
import Derived.Test.YtochplfflbblaaaRef2
import Derived.Test.YtochplfflbblaaaAwake2
import Derived.Test.YtochplfflbblaaaRows
import Derived.WalkKit
import Derived.ProofKit
import Derived.OpenShut
namespace Go.Proofs.Ytochplfflbblaaa.wordTells
open Go.ChangeShapes Go.WideShapes Go.ChangeAt Go.RowKit
set_option linter.unusedVariables false      -- a walk need not use every 'w<i>' (that an integer argument fits its kind)

theorem own : ownKnob Try.prog.godebug = none := by kernel_rfl

theorem rest (op a b x : Int) (p : Bool) (w : World)
    (K1 : Hid (Calls Try.prog 9 #[.int .i64 op, .int .i64 a, .int .i64 b] w fun e w' => e = .returned (.tuple #[.int .i64 x, .bool p]) ∧ w = w'))
    (K2 : Hid (Calls Try.prog 10 #[.int .i64 op, .int .i64 a, .int .i64 b] w fun e w' => e = .returned (.tuple #[.int .i64 x, .bool p]) ∧ w = w')) :
    Calls Try.prog 3 #[.int .i64 op, .int .i64 a, .int .i64 b] w fun e w' => e = .returned (.bool true) ∧ w = w' := by
  go_enter Try.func3, Try.ntmps3
  go_wp2_with fail
  refine K1.out.mono ?_; rintro e1 w1 ⟨rfl, rfl⟩
  go_wp2_with fail
  refine K2.out.mono ?_; rintro e2 w1 ⟨rfl, rfl⟩
  go_wp2_with fail
  refine (fit_any a _).mono ?_; rintro e3 w1 ⟨rfl, rfl⟩
  go_wp2_with fail
  refine (ref_fit_any a _).mono ?_; rintro e4 w1 ⟨rfl, rfl⟩
  go_wp2_with fail
  refine (neg_any a _).mono ?_; rintro e5 w1 ⟨rfl, rfl⟩
  go_wp2_with fail
  refine (ref_neg_any a _).mono ?_; rintro e6 w1 ⟨rfl, rfl⟩
  go_wp2_with fail
  refine (not_any a _).mono ?_; rintro e7 w1 ⟨rfl, rfl⟩
  go_wp2_with fail
  refine (ref_not_any a _).mono ?_; rintro e8 w1 ⟨rfl, rfl⟩
  go_wp2_with fail
  refine (awake_any _).mono ?_; rintro e9 w1 ⟨rfl, rfl⟩
  go_wp2_with fail
  go_ret
  exact ⟨rfl, rfl⟩
theorem cases14 (op : Int) : op = 1 ∨ op = 2 ∨ op = 3 ∨ op = 4 ∨ op = 5 ∨ op = 6 ∨ op = 7 ∨ op = 8 ∨ op = 9 ∨ op = 10 ∨ op = 11 ∨ op = 12 ∨ op = 13 ∨ op = 14 ∨ (op < 1 ∨ 14 < op) := by omega
/-! ### STEP 1: THE WALK: the Go text returns true. 'Grown w w'': the world has at most new blocks (Derived/RowKit3.lean). Part the cases AHEAD of 'go_enter' where a test parts the walk; take each callee by a contract of your own. -/
theorem walk (a0 : Int) (a1 : Int) (a2 : Int) (w0 : (Lit.int .i64 a0).wf = true) (w1 : (Lit.int .i64 a1).wf = true) (w2 : (Lit.int .i64 a2).wf = true) (w : World) :
    Calls Try.prog 3 #[.int .i64 a0, .int .i64 a1, .int .i64 a2] w fun e w' => e = .returned (.bool true) ∧ Grown w w' := by
  suffices h : Calls Try.prog 3 #[.int .i64 a0, .int .i64 a1, .int .i64 a2] w fun e w' => e = .returned (.bool true) ∧ w = w' from
    h.mono fun e w' ⟨he, hw⟩ => ⟨he, hw ▸ Grown.refl _⟩
  rcases cases14 a0 with rfl | rfl | rfl | rfl | rfl | rfl | rfl | rfl | rfl | rfl | rfl | rfl | rfl | rfl | h
  · exact rest _ _ _ _ _ _ (Lib.hid (do_add _ _ _)) (Lib.hid (ref_do_add _ _ _))
  · exact rest _ _ _ _ _ _ (Lib.hid (do_sub _ _ _)) (Lib.hid (ref_do_sub _ _ _))
  · exact rest _ _ _ _ _ _ (Lib.hid (do_mul _ _ _)) (Lib.hid (ref_do_mul _ _ _))
  · by_cases h : a2 = 0
    · subst h; exact rest _ _ _ _ _ _ (Lib.hid (do_div0 _ _)) (Lib.hid (ref_do_div0 _ _))
    · exact rest _ _ _ _ _ _ (Lib.hid (do_div _ _ _ h)) (Lib.hid (ref_do_div _ _ _ h))
  · by_cases h : a2 = 0
    · subst h; exact rest _ _ _ _ _ _ (Lib.hid (do_mod0 _ _)) (Lib.hid (ref_do_mod0 _ _))
    · exact rest _ _ _ _ _ _ (Lib.hid (do_mod _ _ _ h)) (Lib.hid (ref_do_mod _ _ _ h))
  · exact rest _ _ _ _ _ _ (Lib.hid (do_eq _ _ _)) (Lib.hid (ref_do_eq _ _ _))
  · exact rest _ _ _ _ _ _ (Lib.hid (do_ne _ _ _)) (Lib.hid (ref_do_ne _ _ _))
  · exact rest _ _ _ _ _ _ (Lib.hid (do_lt _ _ _)) (Lib.hid (ref_do_lt _ _ _))
  · exact rest _ _ _ _ _ _ (Lib.hid (do_le _ _ _)) (Lib.hid (ref_do_le _ _ _))
  · exact rest _ _ _ _ _ _ (Lib.hid (do_gt _ _ _)) (Lib.hid (ref_do_gt _ _ _))
  · exact rest _ _ _ _ _ _ (Lib.hid (do_ge _ _ _)) (Lib.hid (ref_do_ge _ _ _))
  · exact rest _ _ _ _ _ _ (Lib.hid (do_and _ _ _)) (Lib.hid (ref_do_and _ _ _))
  · exact rest _ _ _ _ _ _ (Lib.hid (do_or _ _ _)) (Lib.hid (ref_do_or _ _ _))
  · exact rest _ _ _ _ _ _ (Lib.hid (do_xor _ _ _)) (Lib.hid (ref_do_xor _ _ _))
  · exact rest _ _ _ _ _ _ (Lib.hid (do_none _ _ _ _ h)) (Lib.hid (ref_do_none _ _ _ _ h))

/-! ### THE ROW's STEP: WRITTEN OUT: LEAVE IT -/
set_option maxRecDepth 100000 in
theorem lifted (os : Os) (started : os.Started) (H : Type) (enc : TypeId × Value → H) :
    ReturnsInHanded {} Try.checked os 3 .any (Rows.wordTellsSpec.pre6 enc Try.prog Try.f3 Rows.wordTellsRow.domain false) (Rows.wordTellsSpec.post enc Try.prog Try.f3 false true false false) := by
  refine returnsInHanded_of_change (C := Try.checked) own started (by kernel_rfl) Try.func3
    (ChangeSpec.witness6 (enc := enc) (C := Try.checked) false ⟨#[], #[.int .i64 0, .int .i64 0, .int .i64 0], []⟩ 8 (by kernel_rfl) (by kernel_rfl) (by kernel_rfl) (by kernel_rfl)) ?_
  intro W base args ds gs before hval0 hW hcnd _
  have hval : ∀ (j : Nat) t v, Try.f3.params[j]? = some t → args[j]? = some v → Value.okWide Try.prog W .any base t v := hval0
  have hW' := hW
  obtain ⟨p, q, hA0, hV, rfl, hfz, hnd⟩ := hW
  have hA : DataW.TrodAll enc Try.prog W 0 (fun _ => true) true Try.f3.params.toList args.toList ds p := hA0
  rw [Try.params3] at hA hval
  obtain ⟨v0, vs0, d0, ds0, p0, q0, hargs, rfl, rfl, h0, r0⟩ := trodAll_cons hA
  obtain ⟨v1, vs1, d1, ds1, p1, q1, rfl, rfl, rfl, h1, r1⟩ := trodAll_cons r0
  obtain ⟨v2, vs2, d2, ds2, p2, q2, rfl, rfl, rfl, h2, r2⟩ := trodAll_cons r1
  obtain ⟨rfl, rfl, rfl⟩ := trodAll_nil r2
  obtain rfl : args = #[v0, v1, v2] := by cases args; simp_all
  obtain ⟨rfl, rfl⟩ := trodVars_none hV
  obtain ⟨a0, rfl, rfl, rfl, w0⟩ := open_int Try.underlying3 (hval 0 3 v0 rfl rfl) h0
  obtain ⟨a1, rfl, rfl, rfl, w1⟩ := open_int Try.underlying3 (hval 1 3 v1 rfl rfl) h1
  obtain ⟨a2, rfl, rfl, rfl, w2⟩ := open_int Try.underlying3 (hval 2 3 v2 rfl rfl) h2
  clear hA0 hval0
  simp only [List.append_nil] at hW'
  refine (walk a0 a1 a2 w0 w1 w2 W).mono fun e W' ⟨he, hg⟩ => ?_
  subst he
  exact ⟨_, rfl, post_of_same (pa := []) (pv := []) hW' (fun _ _ _ => (trodAll_cons_mk (shut_bool Try.underlying4 _) trodAll_mk0)) (fun sp _ => (trodAll_cons_mk (shut_int Try.underlying3 w0) (trodAll_cons_mk (shut_int Try.underlying3 w1) (trodAll_cons_mk (shut_int Try.underlying3 w2) trodAll_mk0)))) (fun _ _ => rfl) rfl
    (hg.frame _) hg.2.1 (ok_one (by kernel_rfl) rfl (okWide_bool_mk Try.underlying4 _))⟩

theorem over : Rows.wordTellsRow.holds Try.pinned (OpenSpec.ofChange Rows.wordTellsSpec) :=
  OpenClaim.holds_of_wide 3 Try.f3 rfl rfl rfl rfl rfl rfl rfl ⟨rfl, rfl, rfl, rfl, rfl⟩ rfl rfl rfl rfl rfl (by kernel_rfl) Try.func3 (by kernel_rfl)
    (of_decide_eq_true (by kernel_rfl)) (by unfold Func.isWrapper; first | (rw [if_pos (by decide +kernel)]; kernel_rfl) | (rw [if_neg (by decide +kernel)]; exact ⟨rfl, rfl⟩))
    (fun os started H enc _ => lifted os started H enc)

/-- ████ THE STATEMENT ████ -/
theorem proved : Rows.WordTellsSaid :=
  over
#print axioms proved
end Go.Proofs.Ytochplfflbblaaa.wordTells
