/-
  WordMirrors: for every input the law returns true and leaves its arguments as they were. No condition narrows it.
-/
import Derived.Test.YtochplfflbblaaaAwake2
import Derived.Test.YtochplfflbblaaaRows
import Derived.WalkKit
import Derived.ProofKit
import Derived.OpenShut
namespace Go.Proofs.Ytochplfflbblaaa.wordMirrors
open Go.ChangeShapes Go.WideShapes Go.ChangeAt Go.RowKit
set_option linter.unusedVariables false      -- a walk need not use every 'w<i>' (that an integer argument fits its kind)

theorem own : ownKnob Try.prog.godebug = none := by kernel_rfl

/-- Do answers that, and true. -/
abbrev Gives (op a b v : Int) (w : World) : Prop := Calls Try.prog 9 #[.int .i64 op, .int .i64 a, .int .i64 b] w fun e w' => e = .returned (.tuple #[.int .i64 v, .bool true]) ∧ w = w'
theorem gives_eq {op a b v u : Int} {w : World} (h : Gives op a b v w) (e : v = u) : Gives op a b u w := e ▸ h
abbrev Turns (a v : Int) (w : World) : Prop := Calls Try.prog 13 #[.int .i64 a] w fun e w' => e = .returned (.int .i64 v) ∧ w = w'
theorem turns_eq {a v u : Int} {w : World} (h : Turns a v w) (e : v = u) : Turns a u w := e ▸ h
abbrev Nots (a v : Int) (w : World) : Prop := Calls Try.prog 15 #[.int .i64 a] w fun e w' => e = .returned (.int .i64 v) ∧ w = w'
theorem nots_eq {a v u : Int} {w : World} (h : Nots a v w) (e : v = u) : Nots a u w := e ▸ h
set_option maxRecDepth 100000 in
set_option maxHeartbeats 1000000 in
theorem rest (i j a b x y m lt le n1 n2 : Int) (w : World) (hi : fit i = a) (hj : fit j = b)
    (K1 : Hid (Gives 2 a b x w)) (K2 : Hid (Gives 2 b a y w)) (K3 : Hid (Gives 3 a (-1) m w)) (K4 : Hid (Gives 3 a 1 a w)) (K5 : Hid (Gives 4 a 1 a w)) (K6 : Hid (Gives 5 a 1 0 w))
    (K7 : Hid (Gives 8 a b lt w)) (K8 : Hid (Gives 10 b a lt w)) (K9 : Hid (Gives 9 a b le w)) (K10 : Hid (Gives 11 b a le w)) (K11 : Hid (Gives 2 a a 0 w))
    (N1 : Hid (Turns y x w)) (N2 : Hid (Turns a m w)) (N3 : Hid (Turns m a w))
    (T1 : Hid (Nots a n1 w)) (T2 : Hid (Nots n1 n2 w)) (T3 : Hid (Nots n2 n1 w)) :
    Calls Try.prog 8 #[.int .i64 i, .int .i64 j] w fun e w' => e = .returned (.bool true) ∧ w = w' := by
  have KI := Lib.hid (fit_any i w)
  have KJ := Lib.hid (fit_any j w)
  rw [hi] at KI
  rw [hj] at KJ
  clear hi hj
  go_enter Try.func8, Try.ntmps8
  go_wp2_with fail
  refine KI.out.mono ?_; rintro e1 w1 ⟨rfl, rfl⟩
  go_wp2_with fail
  refine KJ.out.mono ?_; rintro e1 w1 ⟨rfl, rfl⟩
  go_wp2_with fail
  refine K1.out.mono ?_; rintro e1 w1 ⟨rfl, rfl⟩
  go_wp2_with fail
  refine K2.out.mono ?_; rintro e1 w1 ⟨rfl, rfl⟩
  go_wp2_with fail
  refine K3.out.mono ?_; rintro e1 w1 ⟨rfl, rfl⟩
  go_wp2_with fail
  refine K4.out.mono ?_; rintro e1 w1 ⟨rfl, rfl⟩
  go_wp2_with fail
  refine K5.out.mono ?_; rintro e1 w1 ⟨rfl, rfl⟩
  go_wp2_with fail
  refine K6.out.mono ?_; rintro e1 w1 ⟨rfl, rfl⟩
  go_wp2_with fail
  refine K7.out.mono ?_; rintro e1 w1 ⟨rfl, rfl⟩
  go_wp2_with fail
  refine K8.out.mono ?_; rintro e1 w1 ⟨rfl, rfl⟩
  go_wp2_with fail
  refine K9.out.mono ?_; rintro e1 w1 ⟨rfl, rfl⟩
  go_wp2_with fail
  refine K10.out.mono ?_; rintro e1 w1 ⟨rfl, rfl⟩
  go_wp2_with fail
  refine K11.out.mono ?_; rintro e1 w1 ⟨rfl, rfl⟩
  go_wp2_with fail
  refine N1.out.mono ?_; rintro e1 w1 ⟨rfl, rfl⟩
  go_wp2_with fail
  refine N2.out.mono ?_; rintro e1 w1 ⟨rfl, rfl⟩
  go_wp2_with fail
  refine N3.out.mono ?_; rintro e1 w1 ⟨rfl, rfl⟩
  go_wp2_with fail
  refine T1.out.mono ?_; rintro e1 w1 ⟨rfl, rfl⟩
  go_wp2_with fail
  refine T2.out.mono ?_; rintro e1 w1 ⟨rfl, rfl⟩
  go_wp2_with fail
  refine T3.out.mono ?_; rintro e1 w1 ⟨rfl, rfl⟩
  go_wp2_with fail
  refine T1.out.mono ?_; rintro e1 w1 ⟨rfl, rfl⟩
  go_wp2_with fail
  refine (awake_any _).mono ?_; rintro e1 w1 ⟨rfl, rfl⟩
  go_wp2_with fail
  go_ret
  exact ⟨rfl, rfl⟩
theorem turned (a b : Int) (ha : fit a = a) : fit (-(fit (b - a))) = fit (a - b) ∧ fit (a * -1) = fit (-a) ∧ fit (a * 1) = a ∧ fit (a.tdiv 1) = a ∧ fit (a.tmod 1) = 0 ∧ fit (a - a) = 0 ∧ fit (-(fit (-a))) = a := by
  refine ⟨by unfold fit; omega, by rw [Int.mul_neg, Int.mul_one], by rw [Int.mul_one, ha], by rw [Int.tdiv_one, ha], by rw [Int.tmod_one]; rfl, by rw [Int.sub_self]; rfl, ?_⟩
  unfold fit at *; omega
theorem nots3 (a : Int) : b2i (decide (b2i (decide (b2i (decide (a = 0)) = 0)) = 0)) = b2i (decide (a = 0)) := by
  by_cases h : a = 0
  · rw [decide_eq_true h]; rfl
  · rw [decide_eq_false h]; rfl
/-! ### STEP 1: THE WALK: the Go text returns true. 'Grown w w'': the world has at most new blocks (Derived/RowKit3.lean). Part the cases AHEAD of 'go_enter' where a test parts the walk; take each callee by a contract of your own. -/
theorem walk (a0 : Int) (a1 : Int) (w0 : (Lit.int .i64 a0).wf = true) (w1 : (Lit.int .i64 a1).wf = true) (w : World) :
    Calls Try.prog 8 #[.int .i64 a0, .int .i64 a1] w fun e w' => e = .returned (.bool true) ∧ Grown w w' := by
  suffices h : Calls Try.prog 8 #[.int .i64 a0, .int .i64 a1] w fun e w' => e = .returned (.bool true) ∧ w = w' from
    h.mono fun e w' ⟨he, hw⟩ => ⟨he, hw ▸ Grown.refl _⟩
  obtain ⟨r1, r2, r3, r4, r5, r6, r7⟩ := turned (fit a0) (fit a1) (fit_fit _)
  exact rest a0 a1 (fit a0) (fit a1) _ _ _ _ _ _ _ w rfl rfl
    (Lib.hid (do_sub _ _ _)) (Lib.hid (do_sub _ _ _)) (Lib.hid (gives_eq (do_mul _ _ _) r2)) (Lib.hid (gives_eq (do_mul _ _ _) r3)) (Lib.hid (gives_eq (do_div _ _ _ (by decide)) r4)) (Lib.hid (gives_eq (do_mod _ _ _ (by decide)) r5))
    (Lib.hid (do_lt _ _ _)) (Lib.hid (do_gt _ _ _)) (Lib.hid (do_le _ _ _)) (Lib.hid (do_ge _ _ _)) (Lib.hid (gives_eq (do_sub _ _ _) r6))
    (Lib.hid (turns_eq (neg_any _ _) r1)) (Lib.hid (neg_any _ _)) (Lib.hid (turns_eq (neg_any _ _) r7))
    (Lib.hid (not_any _ _)) (Lib.hid (not_any _ _)) (Lib.hid (nots_eq (not_any _ _) (nots3 _)))

/-! ### THE ROW's STEP: WRITTEN OUT: LEAVE IT -/
set_option maxRecDepth 100000 in
theorem lifted (os : Os) (started : os.Started) (H : Type) (enc : TypeId × Value → H) :
    ReturnsInHanded {} Try.checked os 8 .any (Rows.wordMirrorsSpec.pre6 enc Try.prog Try.f8 Rows.wordMirrorsRow.domain false) (Rows.wordMirrorsSpec.post enc Try.prog Try.f8 false true false false) := by
  refine returnsInHanded_of_change (C := Try.checked) own started (by kernel_rfl) Try.func8
    (ChangeSpec.witness6 (enc := enc) (C := Try.checked) false ⟨#[], #[.int .i64 0, .int .i64 0], []⟩ 8 (by kernel_rfl) (by kernel_rfl) (by kernel_rfl) (by kernel_rfl)) ?_
  intro W base args ds gs before hval0 hW hcnd _
  have hval : ∀ (j : Nat) t v, Try.f8.params[j]? = some t → args[j]? = some v → Value.okWide Try.prog W .any base t v := hval0
  have hW' := hW
  obtain ⟨p, q, hA0, hV, rfl, hfz, hnd⟩ := hW
  have hA : DataW.TrodAll enc Try.prog W 0 (fun _ => true) true Try.f8.params.toList args.toList ds p := hA0
  rw [Try.params8] at hA hval
  obtain ⟨v0, vs0, d0, ds0, p0, q0, hargs, rfl, rfl, h0, r0⟩ := trodAll_cons hA
  obtain ⟨v1, vs1, d1, ds1, p1, q1, rfl, rfl, rfl, h1, r1⟩ := trodAll_cons r0
  obtain ⟨rfl, rfl, rfl⟩ := trodAll_nil r1
  obtain rfl : args = #[v0, v1] := by cases args; simp_all
  obtain ⟨rfl, rfl⟩ := trodVars_none hV
  obtain ⟨a0, rfl, rfl, rfl, w0⟩ := open_int Try.underlying3 (hval 0 3 v0 rfl rfl) h0
  obtain ⟨a1, rfl, rfl, rfl, w1⟩ := open_int Try.underlying3 (hval 1 3 v1 rfl rfl) h1
  clear hA0 hval0
  simp only [List.append_nil] at hW'
  refine (walk a0 a1 w0 w1 W).mono fun e W' ⟨he, hg⟩ => ?_
  subst he
  exact ⟨_, rfl, post_of_same (pa := []) (pv := []) hW' (fun _ _ _ => (trodAll_cons_mk (shut_bool Try.underlying4 _) trodAll_mk0)) (fun sp _ => (trodAll_cons_mk (shut_int Try.underlying3 w0) (trodAll_cons_mk (shut_int Try.underlying3 w1) trodAll_mk0))) (fun _ _ => rfl) rfl
    (hg.frame _) hg.2.1 (ok_one (by kernel_rfl) rfl (okWide_bool_mk Try.underlying4 _))⟩

theorem over : Rows.wordMirrorsRow.holds Try.pinned (OpenSpec.ofChange Rows.wordMirrorsSpec) :=
  OpenClaim.holds_of_wide 8 Try.f8 rfl rfl rfl rfl rfl rfl rfl ⟨rfl, rfl, rfl, rfl, rfl⟩ rfl rfl rfl rfl rfl (by kernel_rfl) Try.func8 (by kernel_rfl)
    (of_decide_eq_true (by kernel_rfl)) (by unfold Func.isWrapper; first | (rw [if_pos (by decide +kernel)]; kernel_rfl) | (rw [if_neg (by decide +kernel)]; exact ⟨rfl, rfl⟩))
    (fun os started H enc _ => lifted os started H enc)

/-- ████ THE STATEMENT ████ -/
theorem proved : Rows.WordMirrorsSaid :=
  over
#print axioms proved
end Go.Proofs.Ytochplfflbblaaa.wordMirrors
