/-
  governorlaw8.RulesTasks: the walk.
-/
import Derived.Test.YtbgilpmoijdcfaaGreatK12
import Derived.Test.YtbgilpmoijdcfaaGreatK13
import Derived.Test.YtbgilpmoijdcfaaGreatK14
namespace Go.Proofs.YtbgilpmoijdcfaaGreat
open Go Go.RowKit Go.Shelf
set_option linter.unusedVariables false
set_option linter.unusedSimpArgs false

theorem tasks_walk (n0 n1 : Int) (ah ag : Bool) (w : World) : Calls Tryz.prog 3 #[.int .i64 n0, .int .i64 n1, .bool ah, .bool ag] w fun e w' => e = .returned (.bool true) ∧ Below w.heap.size w w' := by
  cases ah <;> cases ag
  · exact tasks_ff n0 n1 w
  · exact tasks_ft n0 n1 w
  · exact tasks_tf n0 n1 w
  · exact tasks_tt n0 n1 w
end Go.Proofs.YtbgilpmoijdcfaaGreat
