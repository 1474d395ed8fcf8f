/-
  WordParts: for every input the law returns true and leaves its arguments as they were. No condition narrows it.
-/
import Derived.Test.YtochplfflbblaaaAwake2
import Derived.Test.YtochplfflbblaaaRows
import Derived.WalkKit
import Derived.ProofKit
import Derived.OpenShut
namespace Go.Proofs.Ytochplfflbblaaa.wordParts
open Go.ChangeShapes Go.WideShapes Go.ChangeAt Go.RowKit
set_option linter.unusedVariables false      -- a walk need not use every 'w<i>' (that an integer argument fits its kind)

theorem own : ownKnob Try.prog.godebug = none := by kernel_rfl

/-- in the range of 16 bits: what the quotient and the rest make, and where the rest lies. -/
theorem parts (a b : Int) (ha : -32768 ≤ a) (ha' : a ≤ 32767) (hb : -32768 ≤ b) (hb' : b ≤ 32767) (hb0 : ¬ b = 0) :
    fit (wrap64 (wrap64 (fit (a.tdiv b) * b) + a.tmod b)) = a ∧ (0 < b → -b < a.tmod b ∧ a.tmod b < b) ∧ (b < 0 → b < a.tmod b ∧ a.tmod b < -b) ∧ (a.tmod b = 0 ∨ (a.tmod b < 0 ∧ a < 0) ∨ (0 < a.tmod b ∧ 0 ≤ a)) := by
  have hd := Int.tmod_add_mul_tdiv a b
  have hl : (a.tmod b).natAbs < b.natAbs := by
    rw [Int.natAbs_tmod]; exact Nat.mod_lt _ (by omega)
  have hs : (0 ≤ a → 0 ≤ a.tmod b) ∧ (a ≤ 0 → a.tmod b ≤ 0) := ⟨fun h => Int.tmod_nonneg b h, fun h => by
    have := Int.tmod_nonneg b (a := -a) (by omega); rw [Int.neg_tmod] at this; omega⟩
  refine ⟨?_, fun h => by omega, fun h => by omega, by omega⟩
  obtain ⟨k, hk⟩ := fit_is (a.tdiv b)
  rw [fit_wrap]
  have e : fit (wrap64 (fit (a.tdiv b) * b) + a.tmod b) = fit (fit (a.tdiv b) * b + a.tmod b) := by
    generalize fit (a.tdiv b) * b = z
    unfold fit wrap64; omega
  rw [e, hk, fit_eq (y := a) (k * b) (by rw [Int.add_mul, Int.mul_comm (a.tdiv b) b, Int.mul_assoc]; omega)]
  exact fit_in a ha ha'
theorem rest (x y a b q r : Int) (w : World) (hx : fit x = a) (hy : fit y = b) (ha : -32768 ≤ a) (ha' : a ≤ 32767) (hb : -32768 ≤ b) (hb' : b ≤ 32767)
    (K1 : Hid (Calls Try.prog 9 #[.int .i64 4, .int .i64 a, .int .i64 b] w fun e w' => e = .returned (.tuple #[.int .i64 q, .bool true]) ∧ w = w'))
    (K2 : Hid (Calls Try.prog 9 #[.int .i64 5, .int .i64 a, .int .i64 b] w fun e w' => e = .returned (.tuple #[.int .i64 r, .bool true]) ∧ w = w'))
    (hf : fit (wrap64 (wrap64 (q * b) + r)) = a)
    (hs : r = 0 ∨ (r < 0 ∧ a < 0) ∨ (0 < r ∧ 0 ≤ a)) (hm : (0 < b ∧ -b < r ∧ r < b) ∨ (b < 0 ∧ b < r ∧ r < -b)) :
    Calls Try.prog 6 #[.int .i64 x, .int .i64 y] w fun e w' => e = .returned (.bool true) ∧ w = w' := by
  have KX := Lib.hid (fit_any x w)
  have KY := Lib.hid (fit_any y w)
  have KF := Lib.hid (fit_any (wrap64 (wrap64 (q * b) + r)) w)
  rw [hx] at KX
  rw [hy] at KY
  rw [hf] at KF
  clear hx hy hf
  have z1 : (b == 0) = false := by simpa using (by omega : ¬ b = 0)
  have hs' : (r = 0) ∨ ((r != 0) = true ∧ r < 0 ∧ a < 0) ∨ ((r != 0) = true ∧ 0 < r ∧ 0 ≤ a) := by
    rcases hs with h | h | h
    · exact .inl h
    · exact .inr (.inl ⟨by simpa using (by omega : ¬ r = 0), h⟩)
    · exact .inr (.inr ⟨by simpa using (by omega : ¬ r = 0), h⟩)
  clear hs
  rcases hs' with h | ⟨h1, h2, h3⟩ | ⟨h1, h2, h3⟩ <;> rcases hm with ⟨g1, g2, g3⟩ | ⟨g1, g2, g3⟩
  all_goals
    (try have i1 : ¬ r < 0 := by omega)
    (try have i2 : ¬ a < 0 := by omega)
    (try have i3 : ¬ b < 0 := by omega)
    (try have i4 : -r < b := by omega)
    (try have i5 : -r < -b := by omega)
    (try have i6 : b < -b := by omega)
    (try have i7 : r < -r := by omega)
    (try have i8 : ¬ r < -r := by omega)
    (try have i9 : ¬ b < -b := by omega)
    (try have j1 : decide (r < 0) = false := decide_eq_false (by omega))
    (try have j2 : decide (a < 0) = false := decide_eq_false (by omega))
    (try have j3 : decide (r < 0) = true := decide_eq_true (by omega))
    (try have j4 : decide (a < 0) = true := decide_eq_true (by omega))
    (try (subst h; rw [Int.add_zero] at KF))
    go_enter Try.func6, Try.ntmps6
    go_wp2_with fail
    refine KX.out.mono ?_; rintro e1 w1 ⟨rfl, rfl⟩
    go_wp2_with fail
    refine KY.out.mono ?_; rintro e1 w1 ⟨rfl, rfl⟩
    go_wp2_with fail
    refine K1.out.mono ?_; rintro e1 w1 ⟨rfl, rfl⟩
    go_wp2_with fail
    refine K2.out.mono ?_; rintro e1 w1 ⟨rfl, rfl⟩
    go_wp2_with fail
    refine KF.out.mono ?_; rintro e1 w1 ⟨rfl, rfl⟩
    go_wp2_with fail
    refine (awake_any _).mono ?_; rintro e1 w1 ⟨rfl, rfl⟩
    go_wp2_with fail
    go_ret
    exact ⟨rfl, rfl⟩
theorem of_none (x y : Int) (w : World) (hy : fit y = 0) : 
    Calls Try.prog 6 #[.int .i64 x, .int .i64 y] w fun e w' => e = .returned (.bool true) ∧ w = w' := by
  have KY := Lib.hid (fit_any y w)
  rw [hy] at KY
  clear hy
  go_enter Try.func6, Try.ntmps6
  go_wp2_with fail
  refine (fit_any x _).mono ?_; rintro e1 w1 ⟨rfl, rfl⟩
  go_wp2_with fail
  refine KY.out.mono ?_; rintro e1 w1 ⟨rfl, rfl⟩
  go_wp2_with fail
  refine (do_div0 _ _).mono ?_; rintro e1 w1 ⟨rfl, rfl⟩
  go_wp2_with fail
  refine (do_mod0 _ _).mono ?_; rintro e1 w1 ⟨rfl, rfl⟩
  go_wp2_with fail
  refine (awake_any _).mono ?_; rintro e1 w1 ⟨rfl, rfl⟩
  go_wp2_with fail
  go_ret
  exact ⟨rfl, rfl⟩
/-! ### STEP 1: THE WALK: the Go text returns true. 'Grown w w'': the world has at most new blocks (Derived/RowKit3.lean). Part the cases AHEAD of 'go_enter' where a test parts the walk; take each callee by a contract of your own. -/
theorem walk (a0 : Int) (a1 : Int) (w0 : (Lit.int .i64 a0).wf = true) (w1 : (Lit.int .i64 a1).wf = true) (w : World) :
    Calls Try.prog 6 #[.int .i64 a0, .int .i64 a1] w fun e w' => e = .returned (.bool true) ∧ Grown w w' := by
  suffices h : Calls Try.prog 6 #[.int .i64 a0, .int .i64 a1] w fun e w' => e = .returned (.bool true) ∧ w = w' from
    h.mono fun e w' ⟨he, hw⟩ => ⟨he, hw ▸ Grown.refl _⟩
  by_cases hb : fit a1 = 0
  · exact of_none _ _ _ hb
  · obtain ⟨p1, p2, p3, p4⟩ := parts (fit a0) (fit a1) (fit_lo _) (fit_hi _) (fit_lo _) (fit_hi _) hb
    have l1 := fit_lo a1
    have l2 := fit_hi a1
    have hm : (0 < fit a1 ∧ -fit a1 < (fit a0).tmod (fit a1) ∧ (fit a0).tmod (fit a1) < fit a1) ∨ (fit a1 < 0 ∧ fit a1 < (fit a0).tmod (fit a1) ∧ (fit a0).tmod (fit a1) < -fit a1) := by omega
    have hr := do_mod (fit a0) (fit a1) w hb
    rw [fit_in ((fit a0).tmod (fit a1)) (by omega) (by omega)] at hr
    exact rest a0 a1 _ _ _ _ w rfl rfl (fit_lo _) (fit_hi _) (fit_lo _) (fit_hi _) (Lib.hid (do_div _ _ _ hb)) (Lib.hid hr) p1 p4 hm

/-! ### THE ROW's STEP: WRITTEN OUT: LEAVE IT -/
set_option maxRecDepth 100000 in
theorem lifted (os : Os) (started : os.Started) (H : Type) (enc : TypeId × Value → H) :
    ReturnsInHanded {} Try.checked os 6 .any (Rows.wordPartsSpec.pre6 enc Try.prog Try.f6 Rows.wordPartsRow.domain false) (Rows.wordPartsSpec.post enc Try.prog Try.f6 false true false false) := by
  refine returnsInHanded_of_change (C := Try.checked) own started (by kernel_rfl) Try.func6
    (ChangeSpec.witness6 (enc := enc) (C := Try.checked) false ⟨#[], #[.int .i64 0, .int .i64 0], []⟩ 8 (by kernel_rfl) (by kernel_rfl) (by kernel_rfl) (by kernel_rfl)) ?_
  intro W base args ds gs before hval0 hW hcnd _
  have hval : ∀ (j : Nat) t v, Try.f6.params[j]? = some t → args[j]? = some v → Value.okWide Try.prog W .any base t v := hval0
  have hW' := hW
  obtain ⟨p, q, hA0, hV, rfl, hfz, hnd⟩ := hW
  have hA : DataW.TrodAll enc Try.prog W 0 (fun _ => true) true Try.f6.params.toList args.toList ds p := hA0
  rw [Try.params6] at hA hval
  obtain ⟨v0, vs0, d0, ds0, p0, q0, hargs, rfl, rfl, h0, r0⟩ := trodAll_cons hA
  obtain ⟨v1, vs1, d1, ds1, p1, q1, rfl, rfl, rfl, h1, r1⟩ := trodAll_cons r0
  obtain ⟨rfl, rfl, rfl⟩ := trodAll_nil r1
  obtain rfl : args = #[v0, v1] := by cases args; simp_all
  obtain ⟨rfl, rfl⟩ := trodVars_none hV
  obtain ⟨a0, rfl, rfl, rfl, w0⟩ := open_int Try.underlying3 (hval 0 3 v0 rfl rfl) h0
  obtain ⟨a1, rfl, rfl, rfl, w1⟩ := open_int Try.underlying3 (hval 1 3 v1 rfl rfl) h1
  clear hA0 hval0
  simp only [List.append_nil] at hW'
  refine (walk a0 a1 w0 w1 W).mono fun e W' ⟨he, hg⟩ => ?_
  subst he
  exact ⟨_, rfl, post_of_same (pa := []) (pv := []) hW' (fun _ _ _ => (trodAll_cons_mk (shut_bool Try.underlying4 _) trodAll_mk0)) (fun sp _ => (trodAll_cons_mk (shut_int Try.underlying3 w0) (trodAll_cons_mk (shut_int Try.underlying3 w1) trodAll_mk0))) (fun _ _ => rfl) rfl
    (hg.frame _) hg.2.1 (ok_one (by kernel_rfl) rfl (okWide_bool_mk Try.underlying4 _))⟩

theorem over : Rows.wordPartsRow.holds Try.pinned (OpenSpec.ofChange Rows.wordPartsSpec) :=
  OpenClaim.holds_of_wide 6 Try.f6 rfl rfl rfl rfl rfl rfl rfl ⟨rfl, rfl, rfl, rfl, rfl⟩ rfl rfl rfl rfl rfl (by kernel_rfl) Try.func6 (by kernel_rfl)
    (of_decide_eq_true (by kernel_rfl)) (by unfold Func.isWrapper; first | (rw [if_pos (by decide +kernel)]; kernel_rfl) | (rw [if_neg (by decide +kernel)]; exact ⟨rfl, rfl⟩))
    (fun os started H enc _ => lifted os started H enc)

/-- ████ THE STATEMENT ████ -/
theorem proved : Rows.WordPartsSaid :=
  over
#print axioms proved
end Go.Proofs.Ytochplfflbblaaa.wordParts
