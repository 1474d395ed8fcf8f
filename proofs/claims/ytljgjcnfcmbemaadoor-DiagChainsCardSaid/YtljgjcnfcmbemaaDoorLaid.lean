/-
  What the rows' listed variables give the walks; a start that meets the condition.
-/
import Derived.Test.YtljgjcnfcmbemaaDoorRows
import Derived.Test.YtljgjcnfcmbemaaDoorText
import Derived.ProofKit
import Derived.OpenShut
import Derived.LaidMore
import Derived.LaidHandle
import Derived.ChangeVars
import Derived.Lib.LaidTab
import Derived.Stop.Joined
import Derived.Stop.LaidErr
namespace Go.Proofs.YtljgjcnfcmbemaaDoor
open Go.ChangeShapes Go.WideShapes Go.RowKit

theorem own : ownKnob Tryd.prog.godebug = none := by kernel_rfl
theorem gET : Tryd.prog.globalNamed "errors.errorType" = some 0 := by kernel_rfl
theorem rtRow : (Tryd.prog.cutTypes.find? (·.1 == "internal/reflectlite.rtype")).map (·.2) = some 74 := by kernel_rfl
theorem oneRow : ((List.range 145).filter fun t => Tryd.prog.rowNamed t [101, 114, 114, 111, 114]) = [27] := by kernel_rfl
theorem typesSize : Tryd.prog.types.size = 145 := by kernel_rfl

abbrev etOnly : List (String × DataW Unit) := [("errors.errorType", Rows.laid_errors_errorType)]

theorem errorType_of_handles {W : World} (h : handlesMet Tryd.prog etOnly W) : HasErrorType W := by
  obtain ⟨name, u, ty, e1, e2, e3, e4, e5⟩ := h _ (List.mem_singleton.2 rfl)
  have en : name = [101, 114, 114, 111, 114] := (Option.some.inj e1).symm
  subst en
  obtain rfl := Option.some.inj (rtRow.symm.trans e2)
  have hm : ty ∈ (List.range 145).filter fun t => Tryd.prog.rowNamed t [101, 114, 114, 111, 114] := List.mem_filter.2 ⟨List.mem_range.2 (by rw [← typesSize]; exact e3), e4⟩
  rw [oneRow] at hm
  obtain rfl := List.mem_singleton.1 hm
  have hh : typeHandle Tryd.prog 27 = .pointer (some ⟨4, 27, none⟩) := by kernel_rfl
  rw [hh] at e5
  unfold HasErrorType
  simpa using World.var?_cell gET e5 0

theorem errorType_of_one {W : World} (h : laidMetH Tryd.prog etOnly W) : HasErrorType W := by
  have h' : laidMet Tryd.prog [] W ∧ handlesMet Tryd.prog etOnly W := h
  exact errorType_of_handles h'.2

/-- the door's own heap meets the condition. -/
theorem door_met_one (os : Os) (args : Array Value) : laidMetH Tryd.prog etOnly ((World.doorLaid Tryd.prog 31 os).forCall (fun _ _ => 0) ⟨#[], args, []⟩).memory :=
  laidMetH_of_parts (laidMet_nil _ _) (by kernel_rfl)

abbrev fourLaid : List (String × DataW Unit) := [("math/bits.deBruijn32tab", Rows.laid_math_bits_deBruijn32tab), ("math/bits.deBruijn64tab", Rows.laid_math_bits_deBruijn64tab), ("internal/strconv.uint64pow10", Rows.laid_internal_strconv_uint64pow10), ("errors.errorType", Rows.laid_errors_errorType)]
abbrev threeLaid : List (String × DataW Unit) := [("math/bits.deBruijn32tab", Rows.laid_math_bits_deBruijn32tab), ("math/bits.deBruijn64tab", Rows.laid_math_bits_deBruijn64tab), ("internal/strconv.uint64pow10", Rows.laid_internal_strconv_uint64pow10)]
theorem parts_of_four {W : World} (h : laidMetH Tryd.prog fourLaid W) : laidMet Tryd.prog threeLaid W ∧ HasErrorType W := by
  have h' : laidMet Tryd.prog threeLaid W ∧ handlesMet Tryd.prog etOnly W := h
  exact ⟨h'.1, errorType_of_handles h'.2⟩
theorem door_met_four (os : Os) (args : Array Value) : laidMetH Tryd.prog fourLaid ((World.doorLaid Tryd.prog 31 os).forCall (fun _ _ => 0) ⟨#[], args, []⟩).memory :=
  laidMetH_of_parts (laidMet_of_run' 8 (by kernel_rfl) (by kernel_rfl)) (by kernel_rfl)

theorem gPow : Tryd.prog.globalNamed "internal/strconv.uint64pow10" = some 1 := by kernel_rfl
theorem gPowType : (Tryd.prog.globals[1]?).map (·.type) = some 107 := by kernel_rfl
theorem cellsU64 : Tryd.prog.cellsOf 95 = 1 := by kernel_rfl
theorem cellsPow : Tryd.prog.cellsOf 107 = 20 := by kernel_rfl
theorem powTab_of_three {W : World} (h : laidMet Tryd.prog threeLaid W) : Lib.TabIs Tryd.prog W "internal/strconv.uint64pow10" .u64 Lib.pow10Tab := by
  have e : (Rows.laid_internal_strconv_uint64pow10 : DataW Unit) = Lib.tabData .u64 Lib.pow10Tab := by kernel_rfl
  have h2 := laidMet.tail (laidMet.tail h)
  rw [e] at h2
  exact Lib.tabIs_of_head gPow gPowType Tryd.underlying107 Tryd.underlying95 cellsU64 cellsPow h2
end Go.Proofs.YtljgjcnfcmbemaaDoor
