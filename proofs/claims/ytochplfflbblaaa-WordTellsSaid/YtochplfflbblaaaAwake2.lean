/-
  governorlaw2.awake: what every program answers that is one: true; the world stays as it is.
-/
import Derived.Test.YtochplfflbblaaaWord
namespace Go.Proofs.Ytochplfflbblaaa
open Go Go.RowKit

theorem aw_add (w : World) : Calls Try.prog 9 #[.int .i64 1, .int .i64 32767, .int .i64 1] w fun e w' => e = .returned (.tuple #[.int .i64 (-32768), .bool true]) ∧ w = w' := do_add 32767 1 w
theorem aw_div (w : World) : Calls Try.prog 9 #[.int .i64 4, .int .i64 1, .int .i64 0] w fun e w' => e = .returned (.tuple #[.int .i64 0, .bool false]) ∧ w = w' := do_div0 1 w
theorem aw_fit (w : World) : Calls Try.prog 11 #[.int .i64 65537] w fun e w' => e = .returned (.int .i64 1) ∧ w = w' := fit_any 65537 w
theorem aw_neg (w : World) : Calls Try.prog 13 #[.int .i64 (-32768)] w fun e w' => e = .returned (.int .i64 (-32768)) ∧ w = w' := neg_any (-32768) w
theorem aw_not (w : World) : Calls Try.prog 15 #[.int .i64 0] w fun e w' => e = .returned (.int .i64 1) ∧ w = w' := not_any 0 w

theorem awake_any (w : World) : Calls Try.prog 17 #[] w fun e w' => e = .returned (.bool true) ∧ w = w' := by
  go_enter Try.func17, Try.ntmps17
  go_wp2_with fail
  refine (aw_add _).mono ?_; rintro e1 w1 ⟨rfl, rfl⟩
  go_wp2_with fail
  refine (aw_div _).mono ?_; rintro e2 w1 ⟨rfl, rfl⟩
  go_wp2_with fail
  refine (aw_fit _).mono ?_; rintro e3 w1 ⟨rfl, rfl⟩
  go_wp2_with fail
  refine (aw_neg _).mono ?_; rintro e4 w1 ⟨rfl, rfl⟩
  go_wp2_with fail
  refine (aw_not _).mono ?_; rintro e5 w1 ⟨rfl, rfl⟩
  go_wp2_with fail
  go_ret
  exact ⟨rfl, rfl⟩
end Go.Proofs.Ytochplfflbblaaa
