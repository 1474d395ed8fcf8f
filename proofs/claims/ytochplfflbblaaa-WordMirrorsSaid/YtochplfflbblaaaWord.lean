/-
  package word BY ITS CONTRACTS: Fit, Neg, Not, Do (each operator by itself; no operator).
-/
import Derived.Test.YtochplfflbblaaaFitMath
import Derived.Test.YtochplfflbblaaaChecked
import Derived.WalkKit
import Derived.ProofKit
import Derived.WalkSpells
import Derived.Lib.Hide
namespace Go.Proofs.Ytochplfflbblaaa
open Go Go.RowKit

theorem i16_wrap (n : Int) : wrap64 (IntKind.i16.wrap n) = fit n := by rw [i16_fit, ← IntWalk.i64_left, i64_fit]
theorem sub_wraps (a b : Int) : fit (wrap64 (a + wrap64 (-b))) = fit (a - b) := by rw [fit_wrap]; unfold fit wrap64; omega

theorem fit_any (n : Int) (w : World) : Calls Try.prog 11 #[.int .i64 n] w fun e w' => e = .returned (.int .i64 (fit n)) ∧ w = w' := by
  go_enter Try.func11, Try.ntmps11
  go_wp2_with fail
  go_ret
  exact ⟨by rw [i16_wrap]; rfl, rfl⟩

theorem neg_any (a : Int) (w : World) : Calls Try.prog 13 #[.int .i64 a] w fun e w' => e = .returned (.int .i64 (fit (-a))) ∧ w = w' := by
  go_enter Try.func13, Try.ntmps13
  go_wp2_with (go_at_call 11; refine (fit_any _ _).mono ?_; rintro e w1 ⟨rfl, rfl⟩)
  go_ret
  exact ⟨by rw [fit_wrap]; rfl, rfl⟩

theorem not_any (a : Int) (w : World) : Calls Try.prog 15 #[.int .i64 a] w fun e w' => e = .returned (.int .i64 (b2i (decide (a = 0)))) ∧ w = w' := by
  by_cases h : a = 0
  · have HB := Lib.hid (show b2i (decide (a = 0)) = 1 by rw [decide_eq_true h]; rfl)
    rw [HB.out]
    go_enter Try.func15, Try.ntmps15
    go_wp2
    go_ret
    exact ⟨rfl, rfl⟩
  · have HB := Lib.hid (show b2i (decide (a = 0)) = 0 by rw [decide_eq_false h]; rfl)
    rw [HB.out]
    go_enter Try.func15, Try.ntmps15
    go_wp2
    go_ret
    exact ⟨rfl, rfl⟩

theorem do_add (a b : Int) (w : World) : Calls Try.prog 9 #[.int .i64 1, .int .i64 a, .int .i64 b] w fun e w' => e = .returned (.tuple #[.int .i64 (fit (a + b)), .bool true]) ∧ w = w' := by
  go_enter Try.func9, Try.ntmps9
  go_wp2_with (go_at_call 11; refine (fit_any _ _).mono ?_; rintro e w1 ⟨rfl, rfl⟩)
  go_ret2
  exact ⟨by rw [fit_wrap]; rfl, rfl⟩

theorem do_sub (a b : Int) (w : World) : Calls Try.prog 9 #[.int .i64 2, .int .i64 a, .int .i64 b] w fun e w' => e = .returned (.tuple #[.int .i64 (fit (a - b)), .bool true]) ∧ w = w' := by
  go_enter Try.func9, Try.ntmps9
  go_wp2_with (go_at_call 11; refine (fit_any _ _).mono ?_; rintro e w1 ⟨rfl, rfl⟩)
  go_ret2
  exact ⟨by rw [sub_wraps]; rfl, rfl⟩

theorem do_mul (a b : Int) (w : World) : Calls Try.prog 9 #[.int .i64 3, .int .i64 a, .int .i64 b] w fun e w' => e = .returned (.tuple #[.int .i64 (fit (a * b)), .bool true]) ∧ w = w' := by
  go_enter Try.func9, Try.ntmps9
  go_wp2_with (go_at_call 11; refine (fit_any _ _).mono ?_; rintro e w1 ⟨rfl, rfl⟩)
  go_ret2
  exact ⟨by rw [fit_wrap]; rfl, rfl⟩

theorem do_div0 (a : Int) (w : World) : Calls Try.prog 9 #[.int .i64 4, .int .i64 a, .int .i64 0] w fun e w' => e = .returned (.tuple #[.int .i64 0, .bool false]) ∧ w = w' := by
  go_enter Try.func9, Try.ntmps9
  go_wp2
  go_ret2
  exact ⟨rfl, rfl⟩

theorem divide_div (a b : Int) (w : World) (hb : ¬ b = 0) : Calls Try.prog 18 #[.int .i64 4, .int .i64 a, .int .i64 b] w fun e w' => e = .returned (.tuple #[.int .i64 (fit (a.tdiv b)), .bool true]) ∧ w = w' := by
  have h1 : (b == 0) = false := by simpa using hb
  go_enter Try.func18, Try.ntmps18
  go_wp2_with (go_at_call 11; refine (fit_any _ _).mono ?_; rintro e w1 ⟨rfl, rfl⟩)
  go_ret2
  exact ⟨by first | (rw [fit_wrap]; rfl) | rfl, rfl⟩

theorem do_div (a b : Int) (w : World) (hb : ¬ b = 0) : Calls Try.prog 9 #[.int .i64 4, .int .i64 a, .int .i64 b] w fun e w' => e = .returned (.tuple #[.int .i64 (fit (a.tdiv b)), .bool true]) ∧ w = w' := by
  go_enter Try.func9, Try.ntmps9
  go_wp2_with (go_at_call 18; refine (divide_div _ _ _ hb).mono ?_; rintro e w1 ⟨rfl, rfl⟩)
  go_ret2
  exact ⟨rfl, rfl⟩

theorem do_mod0 (a : Int) (w : World) : Calls Try.prog 9 #[.int .i64 5, .int .i64 a, .int .i64 0] w fun e w' => e = .returned (.tuple #[.int .i64 0, .bool false]) ∧ w = w' := by
  go_enter Try.func9, Try.ntmps9
  go_wp2
  go_ret2
  exact ⟨rfl, rfl⟩

theorem divide_mod (a b : Int) (w : World) (hb : ¬ b = 0) : Calls Try.prog 18 #[.int .i64 5, .int .i64 a, .int .i64 b] w fun e w' => e = .returned (.tuple #[.int .i64 (fit (a.tmod b)), .bool true]) ∧ w = w' := by
  have h1 : (b == 0) = false := by simpa using hb
  go_enter Try.func18, Try.ntmps18
  go_wp2_with (go_at_call 11; refine (fit_any _ _).mono ?_; rintro e w1 ⟨rfl, rfl⟩)
  go_ret2
  exact ⟨by first | (rw [fit_wrap]; rfl) | rfl, rfl⟩

theorem do_mod (a b : Int) (w : World) (hb : ¬ b = 0) : Calls Try.prog 9 #[.int .i64 5, .int .i64 a, .int .i64 b] w fun e w' => e = .returned (.tuple #[.int .i64 (fit (a.tmod b)), .bool true]) ∧ w = w' := by
  go_enter Try.func9, Try.ntmps9
  go_wp2_with (go_at_call 18; refine (divide_mod _ _ _ hb).mono ?_; rintro e w1 ⟨rfl, rfl⟩)
  go_ret2
  exact ⟨rfl, rfl⟩

theorem do_eq (a b : Int) (w : World) : Calls Try.prog 9 #[.int .i64 6, .int .i64 a, .int .i64 b] w fun e w' => e = .returned (.tuple #[.int .i64 (b2i (decide (a = b))), .bool true]) ∧ w = w' := by
  rcases Int.lt_trichotomy a b with h | h | h
  · have HB := Lib.hid (show b2i (decide (a = b)) = 0 by rw [decide_eq_false (by omega)]; rfl)
    rw [HB.out]
    have h1 : (a == b) = false := by simpa using (by omega : ¬ a = b)
    have h2 : (a != b) = true := by simpa using (by omega : ¬ a = b)
    go_enter Try.func9, Try.ntmps9
    go_wp2
    go_ret2
    exact ⟨rfl, rfl⟩
  · have HB := Lib.hid (show b2i (decide (a = b)) = 1 by rw [decide_eq_true (by omega)]; rfl)
    rw [HB.out]
    subst h
    go_enter Try.func9, Try.ntmps9
    go_wp2
    go_ret2
    exact ⟨rfl, rfl⟩
  · have HB := Lib.hid (show b2i (decide (a = b)) = 0 by rw [decide_eq_false (by omega)]; rfl)
    rw [HB.out]
    have h1 : (a == b) = false := by simpa using (by omega : ¬ a = b)
    have h2 : (a != b) = true := by simpa using (by omega : ¬ a = b)
    go_enter Try.func9, Try.ntmps9
    go_wp2
    go_ret2
    exact ⟨rfl, rfl⟩

theorem do_ne (a b : Int) (w : World) : Calls Try.prog 9 #[.int .i64 7, .int .i64 a, .int .i64 b] w fun e w' => e = .returned (.tuple #[.int .i64 (b2i (decide (¬ a = b))), .bool true]) ∧ w = w' := by
  rcases Int.lt_trichotomy a b with h | h | h
  · have HB := Lib.hid (show b2i (decide (¬ a = b)) = 1 by rw [decide_eq_true (by omega)]; rfl)
    rw [HB.out]
    have h1 : (a == b) = false := by simpa using (by omega : ¬ a = b)
    have h2 : (a != b) = true := by simpa using (by omega : ¬ a = b)
    go_enter Try.func9, Try.ntmps9
    go_wp2
    go_ret2
    exact ⟨rfl, rfl⟩
  · have HB := Lib.hid (show b2i (decide (¬ a = b)) = 0 by rw [decide_eq_false (by omega)]; rfl)
    rw [HB.out]
    subst h
    go_enter Try.func9, Try.ntmps9
    go_wp2
    go_ret2
    exact ⟨rfl, rfl⟩
  · have HB := Lib.hid (show b2i (decide (¬ a = b)) = 1 by rw [decide_eq_true (by omega)]; rfl)
    rw [HB.out]
    have h1 : (a == b) = false := by simpa using (by omega : ¬ a = b)
    have h2 : (a != b) = true := by simpa using (by omega : ¬ a = b)
    go_enter Try.func9, Try.ntmps9
    go_wp2
    go_ret2
    exact ⟨rfl, rfl⟩

theorem do_lt (a b : Int) (w : World) : Calls Try.prog 9 #[.int .i64 8, .int .i64 a, .int .i64 b] w fun e w' => e = .returned (.tuple #[.int .i64 (b2i (decide (a < b))), .bool true]) ∧ w = w' := by
  rcases Int.lt_trichotomy a b with h | h | h
  · have HB := Lib.hid (show b2i (decide (a < b)) = 1 by rw [decide_eq_true (by omega)]; rfl)
    rw [HB.out]
    have h1 : (a == b) = false := by simpa using (by omega : ¬ a = b)
    have h2 : (a != b) = true := by simpa using (by omega : ¬ a = b)
    go_enter Try.func9, Try.ntmps9
    go_wp2
    go_ret2
    exact ⟨rfl, rfl⟩
  · have HB := Lib.hid (show b2i (decide (a < b)) = 0 by rw [decide_eq_false (by omega)]; rfl)
    rw [HB.out]
    subst h
    go_enter Try.func9, Try.ntmps9
    go_wp2
    go_ret2
    exact ⟨rfl, rfl⟩
  · have HB := Lib.hid (show b2i (decide (a < b)) = 0 by rw [decide_eq_false (by omega)]; rfl)
    rw [HB.out]
    have h1 : (a == b) = false := by simpa using (by omega : ¬ a = b)
    have h2 : (a != b) = true := by simpa using (by omega : ¬ a = b)
    go_enter Try.func9, Try.ntmps9
    go_wp2
    go_ret2
    exact ⟨rfl, rfl⟩

theorem do_le (a b : Int) (w : World) : Calls Try.prog 9 #[.int .i64 9, .int .i64 a, .int .i64 b] w fun e w' => e = .returned (.tuple #[.int .i64 (b2i (decide (a ≤ b))), .bool true]) ∧ w = w' := by
  rcases Int.lt_trichotomy a b with h | h | h
  · have HB := Lib.hid (show b2i (decide (a ≤ b)) = 1 by rw [decide_eq_true (by omega)]; rfl)
    rw [HB.out]
    have h1 : (a == b) = false := by simpa using (by omega : ¬ a = b)
    have h2 : (a != b) = true := by simpa using (by omega : ¬ a = b)
    go_enter Try.func9, Try.ntmps9
    go_wp2
    go_ret2
    exact ⟨rfl, rfl⟩
  · have HB := Lib.hid (show b2i (decide (a ≤ b)) = 1 by rw [decide_eq_true (by omega)]; rfl)
    rw [HB.out]
    subst h
    go_enter Try.func9, Try.ntmps9
    go_wp2
    go_ret2
    exact ⟨rfl, rfl⟩
  · have HB := Lib.hid (show b2i (decide (a ≤ b)) = 0 by rw [decide_eq_false (by omega)]; rfl)
    rw [HB.out]
    have h1 : (a == b) = false := by simpa using (by omega : ¬ a = b)
    have h2 : (a != b) = true := by simpa using (by omega : ¬ a = b)
    go_enter Try.func9, Try.ntmps9
    go_wp2
    go_ret2
    exact ⟨rfl, rfl⟩

theorem do_gt (a b : Int) (w : World) : Calls Try.prog 9 #[.int .i64 10, .int .i64 a, .int .i64 b] w fun e w' => e = .returned (.tuple #[.int .i64 (b2i (decide (b < a))), .bool true]) ∧ w = w' := by
  rcases Int.lt_trichotomy a b with h | h | h
  · have HB := Lib.hid (show b2i (decide (b < a)) = 0 by rw [decide_eq_false (by omega)]; rfl)
    rw [HB.out]
    have h1 : (a == b) = false := by simpa using (by omega : ¬ a = b)
    have h2 : (a != b) = true := by simpa using (by omega : ¬ a = b)
    go_enter Try.func9, Try.ntmps9
    go_wp2
    go_ret2
    exact ⟨rfl, rfl⟩
  · have HB := Lib.hid (show b2i (decide (b < a)) = 0 by rw [decide_eq_false (by omega)]; rfl)
    rw [HB.out]
    subst h
    go_enter Try.func9, Try.ntmps9
    go_wp2
    go_ret2
    exact ⟨rfl, rfl⟩
  · have HB := Lib.hid (show b2i (decide (b < a)) = 1 by rw [decide_eq_true (by omega)]; rfl)
    rw [HB.out]
    have h1 : (a == b) = false := by simpa using (by omega : ¬ a = b)
    have h2 : (a != b) = true := by simpa using (by omega : ¬ a = b)
    go_enter Try.func9, Try.ntmps9
    go_wp2
    go_ret2
    exact ⟨rfl, rfl⟩

theorem do_ge (a b : Int) (w : World) : Calls Try.prog 9 #[.int .i64 11, .int .i64 a, .int .i64 b] w fun e w' => e = .returned (.tuple #[.int .i64 (b2i (decide (b ≤ a))), .bool true]) ∧ w = w' := by
  rcases Int.lt_trichotomy a b with h | h | h
  · have HB := Lib.hid (show b2i (decide (b ≤ a)) = 0 by rw [decide_eq_false (by omega)]; rfl)
    rw [HB.out]
    have h1 : (a == b) = false := by simpa using (by omega : ¬ a = b)
    have h2 : (a != b) = true := by simpa using (by omega : ¬ a = b)
    go_enter Try.func9, Try.ntmps9
    go_wp2
    go_ret2
    exact ⟨rfl, rfl⟩
  · have HB := Lib.hid (show b2i (decide (b ≤ a)) = 1 by rw [decide_eq_true (by omega)]; rfl)
    rw [HB.out]
    subst h
    go_enter Try.func9, Try.ntmps9
    go_wp2
    go_ret2
    exact ⟨rfl, rfl⟩
  · have HB := Lib.hid (show b2i (decide (b ≤ a)) = 1 by rw [decide_eq_true (by omega)]; rfl)
    rw [HB.out]
    have h1 : (a == b) = false := by simpa using (by omega : ¬ a = b)
    have h2 : (a != b) = true := by simpa using (by omega : ¬ a = b)
    go_enter Try.func9, Try.ntmps9
    go_wp2
    go_ret2
    exact ⟨rfl, rfl⟩

theorem do_and (a b : Int) (w : World) : Calls Try.prog 9 #[.int .i64 12, .int .i64 a, .int .i64 b] w fun e w' => e = .returned (.tuple #[.int .i64 (b2i (decide (¬ a = 0 ∧ ¬ b = 0))), .bool true]) ∧ w = w' := by
  by_cases h : a = 0 <;> by_cases g : b = 0
  · have HB := Lib.hid (show b2i (decide (¬ a = 0 ∧ ¬ b = 0)) = 0 by rw [decide_eq_false (by omega)]; rfl)
    rw [HB.out]
    subst h
    subst g
    go_enter Try.func9, Try.ntmps9
    go_wp2
    go_ret2
    exact ⟨rfl, rfl⟩
  · have HB := Lib.hid (show b2i (decide (¬ a = 0 ∧ ¬ b = 0)) = 0 by rw [decide_eq_false (by omega)]; rfl)
    rw [HB.out]
    subst h
    have g1 : (b == 0) = false := by simpa using g
    have g2 : (b != 0) = true := by simpa using g
    go_enter Try.func9, Try.ntmps9
    go_wp2
    go_ret2
    exact ⟨rfl, rfl⟩
  · have HB := Lib.hid (show b2i (decide (¬ a = 0 ∧ ¬ b = 0)) = 0 by rw [decide_eq_false (by omega)]; rfl)
    rw [HB.out]
    subst g
    have h1 : (a == 0) = false := by simpa using h
    have h2 : (a != 0) = true := by simpa using h
    go_enter Try.func9, Try.ntmps9
    go_wp2
    go_ret2
    exact ⟨rfl, rfl⟩
  · have HB := Lib.hid (show b2i (decide (¬ a = 0 ∧ ¬ b = 0)) = 1 by rw [decide_eq_true (by omega)]; rfl)
    rw [HB.out]
    have h1 : (a == 0) = false := by simpa using h
    have h2 : (a != 0) = true := by simpa using h
    have g1 : (b == 0) = false := by simpa using g
    have g2 : (b != 0) = true := by simpa using g
    go_enter Try.func9, Try.ntmps9
    go_wp2
    go_ret2
    exact ⟨rfl, rfl⟩

theorem do_or (a b : Int) (w : World) : Calls Try.prog 9 #[.int .i64 13, .int .i64 a, .int .i64 b] w fun e w' => e = .returned (.tuple #[.int .i64 (b2i (decide (¬ a = 0 ∨ ¬ b = 0))), .bool true]) ∧ w = w' := by
  by_cases h : a = 0 <;> by_cases g : b = 0
  · have HB := Lib.hid (show b2i (decide (¬ a = 0 ∨ ¬ b = 0)) = 0 by rw [decide_eq_false (by omega)]; rfl)
    rw [HB.out]
    subst h
    subst g
    go_enter Try.func9, Try.ntmps9
    go_wp2
    go_ret2
    exact ⟨rfl, rfl⟩
  · have HB := Lib.hid (show b2i (decide (¬ a = 0 ∨ ¬ b = 0)) = 1 by rw [decide_eq_true (by omega)]; rfl)
    rw [HB.out]
    subst h
    have g1 : (b == 0) = false := by simpa using g
    have g2 : (b != 0) = true := by simpa using g
    go_enter Try.func9, Try.ntmps9
    go_wp2
    go_ret2
    exact ⟨rfl, rfl⟩
  · have HB := Lib.hid (show b2i (decide (¬ a = 0 ∨ ¬ b = 0)) = 1 by rw [decide_eq_true (by omega)]; rfl)
    rw [HB.out]
    subst g
    have h1 : (a == 0) = false := by simpa using h
    have h2 : (a != 0) = true := by simpa using h
    go_enter Try.func9, Try.ntmps9
    go_wp2
    go_ret2
    exact ⟨rfl, rfl⟩
  · have HB := Lib.hid (show b2i (decide (¬ a = 0 ∨ ¬ b = 0)) = 1 by rw [decide_eq_true (by omega)]; rfl)
    rw [HB.out]
    have h1 : (a == 0) = false := by simpa using h
    have h2 : (a != 0) = true := by simpa using h
    have g1 : (b == 0) = false := by simpa using g
    have g2 : (b != 0) = true := by simpa using g
    go_enter Try.func9, Try.ntmps9
    go_wp2
    go_ret2
    exact ⟨rfl, rfl⟩

theorem do_xor (a b : Int) (w : World) : Calls Try.prog 9 #[.int .i64 14, .int .i64 a, .int .i64 b] w fun e w' => e = .returned (.tuple #[.int .i64 (b2i (decide (¬ (a = 0 ↔ b = 0)))), .bool true]) ∧ w = w' := by
  by_cases h : a = 0 <;> by_cases g : b = 0
  · have HB := Lib.hid (show b2i (decide (¬ (a = 0 ↔ b = 0))) = 0 by rw [decide_eq_false (by omega)]; rfl)
    rw [HB.out]
    subst h
    subst g
    go_enter Try.func9, Try.ntmps9
    go_wp2
    go_ret2
    exact ⟨rfl, rfl⟩
  · have HB := Lib.hid (show b2i (decide (¬ (a = 0 ↔ b = 0))) = 1 by rw [decide_eq_true (by omega)]; rfl)
    rw [HB.out]
    subst h
    have g1 : (b == 0) = false := by simpa using g
    have g2 : (b != 0) = true := by simpa using g
    go_enter Try.func9, Try.ntmps9
    go_wp2
    go_ret2
    exact ⟨rfl, rfl⟩
  · have HB := Lib.hid (show b2i (decide (¬ (a = 0 ↔ b = 0))) = 1 by rw [decide_eq_true (by omega)]; rfl)
    rw [HB.out]
    subst g
    have h1 : (a == 0) = false := by simpa using h
    have h2 : (a != 0) = true := by simpa using h
    go_enter Try.func9, Try.ntmps9
    go_wp2
    go_ret2
    exact ⟨rfl, rfl⟩
  · have HB := Lib.hid (show b2i (decide (¬ (a = 0 ↔ b = 0))) = 0 by rw [decide_eq_false (by omega)]; rfl)
    rw [HB.out]
    have h1 : (a == 0) = false := by simpa using h
    have h2 : (a != 0) = true := by simpa using h
    have g1 : (b == 0) = false := by simpa using g
    have g2 : (b != 0) = true := by simpa using g
    go_enter Try.func9, Try.ntmps9
    go_wp2
    go_ret2
    exact ⟨rfl, rfl⟩

theorem do_none (op a b : Int) (w : World) (h : op < 1 ∨ 14 < op) : Calls Try.prog 9 #[.int .i64 op, .int .i64 a, .int .i64 b] w fun e w' => e = .returned (.tuple #[.int .i64 0, .bool false]) ∧ w = w' := by
  have h1 : ¬ op = 1 := by omega
  have h2 : ¬ op = 2 := by omega
  have h3 : ¬ op = 3 := by omega
  have h4 : ¬ op = 4 := by omega
  have h5 : ¬ op = 5 := by omega
  have h6 : ¬ op = 6 := by omega
  have h7 : ¬ op = 7 := by omega
  have h8 : ¬ op = 8 := by omega
  have h9 : ¬ op = 9 := by omega
  have h10 : ¬ op = 10 := by omega
  have h11 : ¬ op = 11 := by omega
  have h12 : ¬ op = 12 := by omega
  have h13 : ¬ op = 13 := by omega
  have h14 : ¬ op = 14 := by omega
  clear h
  go_enter Try.func9, Try.ntmps9
  go_wp2
  go_ret2
  exact ⟨rfl, rfl⟩
end Go.Proofs.Ytochplfflbblaaa
