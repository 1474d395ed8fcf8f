/-
  errors.Is BY ITS CONTRACTS, the whole call: over a chain of errors, and over an *errors.errorString.
-/
import Derived.Test.YtljgjcnfcmbemaaDoorIs
namespace Go.Proofs.YtljgjcnfcmbemaaDoor
open Go.RowKit Go.Extern.Stop Go.Stop Go.Extern

theorem Tryd.comparableE (w : World) : (callFunc 76 #[.agg #[.pointer (some ⟨4, 45, none⟩)]]).run Tryd.prog w = .ok (.value (.bool true)) w := by kernel_rfl
theorem Tryd.methodComparable (v : Value) (w : World) : (Go.method 245 74 (.agg #[v]) "Comparable").run Tryd.prog w = .ok (76, .agg #[v]) w := by kernel_rfl
theorem Tryd.noIsS (v : Value) (xT : TypeId) (w : World) : (Instr.typeAssert (.iface 64 v) xT 76 true).run Tryd.prog w = .ok (.tuple #[.nilIface, .bool false]) w := run_typeAssert_lacksB Tryd.underlying76 (by kernel_rfl) (by kernel_rfl) v xT w

/-- errors.Is over a chain, asked at what Of makes, in a block above the chain's. -/
theorem isAny (k : Int) (q B : Nat) (l : List (Option (Int × Int))) (v : Value) (w : World) (hg : HasErrorType w) (hq : IsErr w q k (-1) .nilIface) (hB : B ≤ q) (hc : Chn w B l v) (hne : l ≠ []) :
    Calls Tryd.prog 11 #[v, errv q] w fun e w' => e = .returned (.bool (hasCode k l)) ∧ Below w.heap.size w w' := by
  have K := Lib.hid (is25 k q B l v w hg hq hB hc hne)
  have h8 := @run_callFunc_extern Tryd.prog 24 _ Extern.ReflectliteType.typeOf Tryd.func24 (by kernel_rfl) (by kernel_rfl) (by kernel_rfl) (by kernel_rfl)
  have tT := Tryd.typeOfE
  have cT := Tryd.comparableE
  have mR := Tryd.methodComparable
  rcases hc.shape with ⟨h1, h2⟩ | ⟨h1, t, x, h2⟩
  · exact absurd h1 hne
  · subst h2
    clear h1 hg hq hc hne
    go_enter Tryd.func11, Tryd.ntmps11
    go_wp2_with (go_at_call 25; refine K.out.mono ?_; rintro e1 w1 ⟨rfl, hw⟩)
    go_ret
    exact ⟨rfl, hw⟩

/-- errors.Is of an error of errors.New's make. -/
theorem isStr (s : Value) (q : Nat) (w : World) :
    Calls Tryd.prog 11 #[.iface 64 s, errv q] w fun e w' => e = .returned (.bool false) ∧ w = w' := by
  have h8 := @run_callFunc_extern Tryd.prog 24 _ Extern.ReflectliteType.typeOf Tryd.func24 (by kernel_rfl) (by kernel_rfl) (by kernel_rfl) (by kernel_rfl)
  have tT := Tryd.typeOfE
  have cT := Tryd.comparableE
  have mR := Tryd.methodComparable
  have n1 := Tryd.noIsS
  have n2 := Tryd.noUnwrapS
  have n3 := Tryd.noUnwrapsS
  have hty := fun (u v : Value) (w : World) => run_eql_iface_types (P := Tryd.prog) 64 45 u v Tryd.underlying27 (by decide) w
  go_enter Tryd.func11, Tryd.ntmps11
  go_wp2
  refine wp_loop_rounds 1 ?_
  rw [rounds_succ]
  go_wp2
  go_ret
  exact ⟨rfl, rfl⟩
end Go.Proofs.YtljgjcnfcmbemaaDoor
