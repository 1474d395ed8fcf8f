/-
  WordOrder: for every input the law returns true and leaves its arguments as they were. No condition narrows it.
-/
import Derived.Test.YtochplfflbblaaaAwake2
import Derived.Test.YtochplfflbblaaaRows
import Derived.WalkKit
import Derived.ProofKit
import Derived.OpenShut
namespace Go.Proofs.Ytochplfflbblaaa.wordOrder
open Go.ChangeShapes Go.WideShapes Go.ChangeAt Go.RowKit
set_option linter.unusedVariables false      -- a walk need not use every 'w<i>' (that an integer argument fits its kind)

theorem own : ownKnob Try.prog.godebug = none := by kernel_rfl

/-- Do answers that, and true. -/
abbrev Gives (op a b v : Int) (w : World) : Prop := Calls Try.prog 9 #[.int .i64 op, .int .i64 a, .int .i64 b] w fun e w' => e = .returned (.tuple #[.int .i64 v, .bool true]) ∧ w = w'
abbrev Nots (a v : Int) (w : World) : Prop := Calls Try.prog 15 #[.int .i64 a] w fun e w' => e = .returned (.int .i64 v) ∧ w = w'
/-- 0 or 1. -/
def Bit (v : Int) : Prop := 0 ≤ v ∧ v ≤ 1
theorem bit_b2i (t : Bool) : Bit (b2i t) := by cases t <;> (unfold Bit b2i; simp)
set_option maxRecDepth 100000 in
set_option maxHeartbeats 1000000 in
theorem rest (a b lt eq gt le ge ne an o x no na nna nb nnb : Int) (w : World)
    (hlt : Bit lt) (heq : Bit eq) (hgt : Bit gt) (han : Bit an) (hx : Bit x) (hna : Bit nna) (hnb : Bit nnb)
    (K1 : Hid (Gives 8 a b lt w)) (K2 : Hid (Gives 6 a b eq w)) (K3 : Hid (Gives 10 a b gt w)) (K4 : Hid (Gives 9 a b le w)) (K5 : Hid (Gives 11 a b ge w)) (K6 : Hid (Gives 7 a b ne w))
    (K7 : Hid (Gives 12 a b an w)) (K8 : Hid (Gives 13 a b o w)) (K9 : Hid (Gives 14 a b x w))
    (N1 : Hid (Nots o no w)) (N2 : Hid (Nots a na w)) (N3 : Hid (Nots na nna w)) (N4 : Hid (Nots b nb w)) (N5 : Hid (Nots nb nnb w))
    (t1 : (lt + eq + gt == 1) = true) (t2 : (le == 1 - gt) = true) (t3 : (ge == 1 - lt) = true) (t4 : (ne == 1 - eq) = true) (t5 : ((lt == 1) == decide (a < b)) = true) (t6 : ((eq == 1) == (a == b)) = true)
    (t7 : (o == an + x) = true) (t8 : (no == wrap64 ((1 - nna) * (1 - nnb))) = true) :
    Calls Try.prog 7 #[.int .i64 a, .int .i64 b] w fun e w' => e = .returned (.bool true) ∧ w = w' := by
  obtain ⟨l1, l2⟩ := hlt
  obtain ⟨l3, l4⟩ := heq
  obtain ⟨l5, l6⟩ := hgt
  obtain ⟨l7, l8⟩ := han
  obtain ⟨l9, l10⟩ := hx
  obtain ⟨l11, l12⟩ := hna
  obtain ⟨l13, l14⟩ := hnb
  go_enter Try.func7, Try.ntmps7
  go_wp2_with fail
  refine K1.out.mono ?_; rintro e1 w1 ⟨rfl, rfl⟩
  go_wp2_with fail
  refine K2.out.mono ?_; rintro e1 w1 ⟨rfl, rfl⟩
  go_wp2_with fail
  refine K3.out.mono ?_; rintro e1 w1 ⟨rfl, rfl⟩
  go_wp2_with fail
  refine K4.out.mono ?_; rintro e1 w1 ⟨rfl, rfl⟩
  go_wp2_with fail
  refine K5.out.mono ?_; rintro e1 w1 ⟨rfl, rfl⟩
  go_wp2_with fail
  refine K6.out.mono ?_; rintro e1 w1 ⟨rfl, rfl⟩
  go_wp2_with fail
  refine K7.out.mono ?_; rintro e1 w1 ⟨rfl, rfl⟩
  go_wp2_with fail
  refine K8.out.mono ?_; rintro e1 w1 ⟨rfl, rfl⟩
  go_wp2_with fail
  refine K9.out.mono ?_; rintro e1 w1 ⟨rfl, rfl⟩
  go_wp2_with fail
  refine N1.out.mono ?_; rintro e1 w1 ⟨rfl, rfl⟩
  go_wp2_with fail
  refine N2.out.mono ?_; rintro e1 w1 ⟨rfl, rfl⟩
  go_wp2_with fail
  refine N3.out.mono ?_; rintro e1 w1 ⟨rfl, rfl⟩
  go_wp2_with fail
  refine N4.out.mono ?_; rintro e1 w1 ⟨rfl, rfl⟩
  go_wp2_with fail
  refine N5.out.mono ?_; rintro e1 w1 ⟨rfl, rfl⟩
  go_wp2_with fail
  refine (awake_any _).mono ?_; rintro e1 w1 ⟨rfl, rfl⟩
  go_wp2_with fail
  go_ret
  exact ⟨rfl, rfl⟩
/-- the tests by themselves: the order of two numbers. -/
theorem order (a b : Int) :
    (b2i (decide (a < b)) + b2i (decide (a = b)) + b2i (decide (b < a)) == 1) = true ∧ (b2i (decide (a ≤ b)) == 1 - b2i (decide (b < a))) = true ∧ (b2i (decide (b ≤ a)) == 1 - b2i (decide (a < b))) = true ∧
    (b2i (decide (¬ a = b)) == 1 - b2i (decide (a = b))) = true ∧ ((b2i (decide (a < b)) == 1) == decide (a < b)) = true ∧ ((b2i (decide (a = b)) == 1) == (a == b)) = true := by
  have e : (a == b) = decide (a = b) := by rw [Bool.eq_iff_iff]; simp
  rw [e]
  rcases Int.lt_trichotomy a b with h | h | h
  · rw [decide_eq_true h, decide_eq_false (by omega : ¬ a = b), decide_eq_false (by omega : ¬ b < a), decide_eq_true (by omega : a ≤ b), decide_eq_false (by omega : ¬ b ≤ a), decide_eq_true (by omega : ¬ a = b)]; decide
  · rw [decide_eq_false (by omega : ¬ a < b), decide_eq_true h, decide_eq_false (by omega : ¬ b < a), decide_eq_true (by omega : a ≤ b), decide_eq_true (by omega : b ≤ a), decide_eq_false (by omega : ¬ ¬ a = b)]; decide
  · rw [decide_eq_false (by omega : ¬ a < b), decide_eq_false (by omega : ¬ a = b), decide_eq_true h, decide_eq_false (by omega : ¬ a ≤ b), decide_eq_true (by omega : b ≤ a), decide_eq_true (by omega : ¬ a = b)]; decide
/-- the tests by themselves: what is made of two truths. -/
theorem truths (a b : Int) :
    (b2i (decide (¬ a = 0 ∨ ¬ b = 0)) == b2i (decide (¬ a = 0 ∧ ¬ b = 0)) + b2i (decide (¬ (a = 0 ↔ b = 0)))) = true ∧
    (b2i (decide (b2i (decide (¬ a = 0 ∨ ¬ b = 0)) = 0)) == wrap64 ((1 - b2i (decide (b2i (decide (a = 0)) = 0))) * (1 - b2i (decide (b2i (decide (b = 0)) = 0))))) = true := by
  have w0 : wrap64 0 = 0 := IntWalk.wrap64_in 0 (by omega)
  have w1 : wrap64 1 = 1 := IntWalk.wrap64_in 1 (by omega)
  by_cases h : a = 0 <;> by_cases g : b = 0 <;> simp [h, g, b2i, w0, w1]
/-! ### STEP 1: THE WALK: the Go text returns true. 'Grown w w'': the world has at most new blocks (Derived/RowKit3.lean). Part the cases AHEAD of 'go_enter' where a test parts the walk; take each callee by a contract of your own. -/
theorem walk (a0 : Int) (a1 : Int) (w0 : (Lit.int .i64 a0).wf = true) (w1 : (Lit.int .i64 a1).wf = true) (w : World) :
    Calls Try.prog 7 #[.int .i64 a0, .int .i64 a1] w fun e w' => e = .returned (.bool true) ∧ Grown w w' := by
  suffices h : Calls Try.prog 7 #[.int .i64 a0, .int .i64 a1] w fun e w' => e = .returned (.bool true) ∧ w = w' from
    h.mono fun e w' ⟨he, hw⟩ => ⟨he, hw ▸ Grown.refl _⟩
  obtain ⟨t1, t2, t3, t4, t5, t6⟩ := order a0 a1
  obtain ⟨t7, t8⟩ := truths a0 a1
  exact rest a0 a1 _ _ _ _ _ _ _ _ _ _ _ _ _ _ w (bit_b2i _) (bit_b2i _) (bit_b2i _) (bit_b2i _) (bit_b2i _) (bit_b2i _) (bit_b2i _)
    (Lib.hid (do_lt _ _ _)) (Lib.hid (do_eq _ _ _)) (Lib.hid (do_gt _ _ _)) (Lib.hid (do_le _ _ _)) (Lib.hid (do_ge _ _ _)) (Lib.hid (do_ne _ _ _)) (Lib.hid (do_and _ _ _)) (Lib.hid (do_or _ _ _)) (Lib.hid (do_xor _ _ _))
    (Lib.hid (not_any _ _)) (Lib.hid (not_any _ _)) (Lib.hid (not_any _ _)) (Lib.hid (not_any _ _)) (Lib.hid (not_any _ _)) t1 t2 t3 t4 t5 t6 t7 t8

/-! ### THE ROW's STEP: WRITTEN OUT: LEAVE IT -/
set_option maxRecDepth 100000 in
theorem lifted (os : Os) (started : os.Started) (H : Type) (enc : TypeId × Value → H) :
    ReturnsInHanded {} Try.checked os 7 .any (Rows.wordOrderSpec.pre6 enc Try.prog Try.f7 Rows.wordOrderRow.domain false) (Rows.wordOrderSpec.post enc Try.prog Try.f7 false true false false) := by
  refine returnsInHanded_of_change (C := Try.checked) own started (by kernel_rfl) Try.func7
    (ChangeSpec.witness6 (enc := enc) (C := Try.checked) false ⟨#[], #[.int .i64 0, .int .i64 0], []⟩ 8 (by kernel_rfl) (by kernel_rfl) (by kernel_rfl) (by kernel_rfl)) ?_
  intro W base args ds gs before hval0 hW hcnd _
  have hval : ∀ (j : Nat) t v, Try.f7.params[j]? = some t → args[j]? = some v → Value.okWide Try.prog W .any base t v := hval0
  have hW' := hW
  obtain ⟨p, q, hA0, hV, rfl, hfz, hnd⟩ := hW
  have hA : DataW.TrodAll enc Try.prog W 0 (fun _ => true) true Try.f7.params.toList args.toList ds p := hA0
  rw [Try.params7] at hA hval
  obtain ⟨v0, vs0, d0, ds0, p0, q0, hargs, rfl, rfl, h0, r0⟩ := trodAll_cons hA
  obtain ⟨v1, vs1, d1, ds1, p1, q1, rfl, rfl, rfl, h1, r1⟩ := trodAll_cons r0
  obtain ⟨rfl, rfl, rfl⟩ := trodAll_nil r1
  obtain rfl : args = #[v0, v1] := by cases args; simp_all
  obtain ⟨rfl, rfl⟩ := trodVars_none hV
  obtain ⟨a0, rfl, rfl, rfl, w0⟩ := open_int Try.underlying3 (hval 0 3 v0 rfl rfl) h0
  obtain ⟨a1, rfl, rfl, rfl, w1⟩ := open_int Try.underlying3 (hval 1 3 v1 rfl rfl) h1
  clear hA0 hval0
  simp only [List.append_nil] at hW'
  refine (walk a0 a1 w0 w1 W).mono fun e W' ⟨he, hg⟩ => ?_
  subst he
  exact ⟨_, rfl, post_of_same (pa := []) (pv := []) hW' (fun _ _ _ => (trodAll_cons_mk (shut_bool Try.underlying4 _) trodAll_mk0)) (fun sp _ => (trodAll_cons_mk (shut_int Try.underlying3 w0) (trodAll_cons_mk (shut_int Try.underlying3 w1) trodAll_mk0))) (fun _ _ => rfl) rfl
    (hg.frame _) hg.2.1 (ok_one (by kernel_rfl) rfl (okWide_bool_mk Try.underlying4 _))⟩

theorem over : Rows.wordOrderRow.holds Try.pinned (OpenSpec.ofChange Rows.wordOrderSpec) :=
  OpenClaim.holds_of_wide 7 Try.f7 rfl rfl rfl rfl rfl rfl rfl ⟨rfl, rfl, rfl, rfl, rfl⟩ rfl rfl rfl rfl rfl (by kernel_rfl) Try.func7 (by kernel_rfl)
    (of_decide_eq_true (by kernel_rfl)) (by unfold Func.isWrapper; first | (rw [if_pos (by decide +kernel)]; kernel_rfl) | (rw [if_neg (by decide +kernel)]; exact ⟨rfl, rfl⟩))
    (fun os started H enc _ => lifted os started H enc)

/-- ████ THE STATEMENT ████ -/
theorem proved : Rows.WordOrderSaid :=
  over
#print axioms proved
end Go.Proofs.Ytochplfflbblaaa.wordOrder
