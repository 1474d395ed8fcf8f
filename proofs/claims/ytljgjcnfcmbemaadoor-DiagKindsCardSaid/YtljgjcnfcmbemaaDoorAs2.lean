/-
  errors.As BY ITS CONTRACTS, the walks: at a *diag.Error it is found; at governorlaw1.other round one that one is found; at an *errors.errorString none is.
-/
import Derived.Test.YtljgjcnfcmbemaaDoorAs
import Derived.WalkSmall
namespace Go.Proofs.YtljgjcnfcmbemaaDoor
open Go.RowKit Go.Extern.Stop Go.Stop Go.Extern

theorem lt_of_cell {w : World} {a : Addr} {v : Value} (h : w.cell? a = some v) : a.block < w.heap.size := by
  rcases Nat.lt_or_ge a.block w.heap.size with h1 | h1
  · exact h1
  · simp [World.cell?, Array.getElem?_eq_none h1] at h

/-- what errors.As leaves: the target's variable holds r, what lay below it is as it was. -/
def Found (t : Addr) (r : Value) (w w' : World) : Prop := Below t.block w w' ∧ w'.cell? t = some r ∧ w'.frozen? t = false

theorem Found.refl {t : Addr} {r : Value} {w : World} (h : w.cell? t = some r) (hf : w.frozen? t = false) : Found t r w w := ⟨Below.refl _ _, h, hf⟩
theorem Found.alloc {t : Addr} {r : Value} {w w' : World} (h : Found t r w w') (o : Obj) : Found t r w (w'.alloc o) := by
  have hl := lt_of_cell h.2.1
  exact ⟨h.1.alloc (by omega) o, by rw [World.cell?_alloc_lt _ _ t hl]; exact h.2.1, by rw [World.frozen?_alloc_old _ _ t (Nat.ne_of_lt hl)]; exact h.2.2⟩
theorem Found.set {t : Addr} {r : Value} {w w' : World} (h : Found t r w w') (x : Value) : Found t x w (w'.setCell t x) :=
  ⟨h.1.setCell (Nat.le_refl _) x, World.cell?_setCell_same _ _ _ h.2.1, by rw [World.frozen?_setCell]; exact h.2.2⟩

/-- package errors' own variable, as its initialiser lays it. -/
def HasErrorType (w : World) : Prop := w.cell? ⟨0, 0, none⟩ = some (.iface 74 (.agg #[.pointer (some ⟨4, 27, none⟩)]))

theorem Tryd.noAsO (v : Value) (xT : TypeId) (w : World) : (Instr.typeAssert (.iface 57 v) xT 102 true).run Tryd.prog w = .ok (.tuple #[.nilIface, .bool false]) w := run_typeAssert_lacksB Tryd.underlying102 (by kernel_rfl) (by kernel_rfl) v xT w
theorem Tryd.noAsS (v : Value) (xT : TypeId) (w : World) : (Instr.typeAssert (.iface 64 v) xT 102 true).run Tryd.prog w = .ok (.tuple #[.nilIface, .bool false]) w := run_typeAssert_lacksB Tryd.underlying102 (by kernel_rfl) (by kernel_rfl) v xT w
theorem Tryd.noUnwrapS (v : Value) (xT : TypeId) (w : World) : (Instr.typeAssert (.iface 64 v) xT 62 true).run Tryd.prog w = .ok (.tuple #[.nilIface, .bool false]) w := run_typeAssert_lacksB Tryd.underlying62 (by kernel_rfl) (by kernel_rfl) v xT w
theorem Tryd.noUnwrapsS (v : Value) (xT : TypeId) (w : World) : (Instr.typeAssert (.iface 64 v) xT 78 true).run Tryd.prog w = .ok (.tuple #[.nilIface, .bool false]) w := run_typeAssert_lacksB Tryd.underlying78 (by kernel_rfl) (by kernel_rfl) v xT w
theorem Tryd.hasUnwrapO (v : Value) (xT : TypeId) (w : World) : (Instr.typeAssert (.iface 57 v) xT 62 true).run Tryd.prog w = .ok (.tuple #[.iface 57 v, .bool true]) w := run_typeAssert_hasB Tryd.underlying62 (by kernel_rfl) v xT w
theorem Tryd.methodUnwrapO (v : Value) (w : World) : (Go.method 245 57 (.agg #[v]) "Unwrap").run Tryd.prog w = .ok (72, .agg #[v]) w := by kernel_rfl

theorem unwrap_other (v : Value) (w : World) :
    Calls Tryd.prog 72 #[.agg #[v]] w fun e w' => e = .returned v ∧ w.alloc (.cells #[v] 57) = w' := by
  go_enter Tryd.func72, Tryd.ntmps72
  go_wp2
  go_ret
  exact ⟨rfl, rfl⟩

set_option maxHeartbeats 4000000 in
theorem as37_err (e t vp : Addr) (old : Value) (w : World) (hv0 : w.cell? vp = some (.pointer (some t))) (ht0 : w.cell? t = some old) (hf0 : w.frozen? t = false) :
    Calls Tryd.prog 37 #[.iface 45 (.pointer (some e)), .iface 72 (.pointer (some t)), .agg #[.pointer (some ⟨4, 72, none⟩), .pointer (some vp), .int .u64 150], .iface 74 (.agg #[.pointer (some ⟨4, 45, none⟩)])] w fun ev w' =>
      ev = .returned (.bool true) ∧ ((w.alloc (.cells #[.pointer (some ⟨4, 72, none⟩), .pointer (some vp), .int .u64 150] 87)).alloc (.cells #[.pointer (some e)] 45)).setCell t (.pointer (some e)) = w' := by
  have h6 := @run_callFunc_extern Tryd.prog 34 _ (fun args => ReflectliteValue.unpack (args.getD 0 (.tuple #[]))) Tryd.func34 (by kernel_rfl) (by kernel_rfl) (by kernel_rfl) (by kernel_rfl)
  have h10 := @run_callFunc_extern Tryd.prog 24 _ ReflectliteType.typeOf Tryd.func24 (by kernel_rfl) (by kernel_rfl) (by kernel_rfl) (by kernel_rfl)
  have h35 := @run_callFunc_extern Tryd.prog 75 _ (ReflectliteType.relation "AssignableTo" ReflectliteType.assignableTo) Tryd.func75 (by kernel_rfl) (by kernel_rfl) (by kernel_rfl) (by kernel_rfl)
  have h11 := @run_callFunc_extern Tryd.prog 44 _ (ReflectliteValue.method (ReflectliteValue.valueError "reflectlite.Value.Elem" 0) ReflectliteValue.elem) Tryd.func44 (by kernel_rfl) (by kernel_rfl) (by kernel_rfl) (by kernel_rfl)
  have h12 := @run_callFunc_extern Tryd.prog 45 _ ReflectliteValue.set Tryd.func45 (by kernel_rfl) (by kernel_rfl) (by kernel_rfl) (by kernel_rfl)
  have tO := Tryd.typeOfE
  have mA := Tryd.methodAssignableTo
  have aE := Tryd.assignableE
  have vE := Tryd.valueOfE
  have htl := lt_of_cell ht0
  have hvl := lt_of_cell hv0
  have el := Tryd.elemVT vp t (w.alloc (.cells #[.pointer (some ⟨4, 72, none⟩), .pointer (some vp), .int .u64 150] 87)) (by rw [World.cell?_alloc_lt _ _ vp hvl]; exact hv0)
  have st := Tryd.setE t ⟨w.heap.size + 1, 0, none⟩ e old ((w.alloc (.cells #[.pointer (some ⟨4, 72, none⟩), .pointer (some vp), .int .u64 150] 87)).alloc (.cells #[.pointer (some e)] 45))
    (by rw [World.cell?_alloc_at _ _ _ _ (by simp)]; rfl)
    (by rw [World.cell?_alloc_lt _ _ t (by simp; omega), World.cell?_alloc_lt _ _ t htl]; exact ht0)
    (by rw [World.frozen?_alloc_old _ _ t (by simp; omega), World.frozen?_alloc_old _ _ t (Nat.ne_of_lt htl)]; exact hf0)
  go_enter Tryd.func37, Tryd.ntmps37
  go_wp2
  refine wp_loop_rounds 1 ?_
  rw [rounds_succ]
  go_wp2
  go_ret
  exact ⟨rfl, rfl⟩
set_option maxHeartbeats 4000000 in
theorem as37_other (e t vp : Addr) (old : Value) (w : World) (hv0 : w.cell? vp = some (.pointer (some t))) (ht0 : w.cell? t = some old) (hf0 : w.frozen? t = false) :
    Calls Tryd.prog 37 #[.iface 57 (.agg #[.iface 45 (.pointer (some e))]), .iface 72 (.pointer (some t)), .agg #[.pointer (some ⟨4, 72, none⟩), .pointer (some vp), .int .u64 150], .iface 74 (.agg #[.pointer (some ⟨4, 45, none⟩)])] w fun ev w' =>
      ev = .returned (.bool true) ∧ (((w.alloc (.cells #[.pointer (some ⟨4, 72, none⟩), .pointer (some vp), .int .u64 150] 87)).alloc (.cells #[.iface 45 (.pointer (some e))] 57)).alloc (.cells #[.pointer (some e)] 45)).setCell t (.pointer (some e)) = w' := by
  have h6 := @run_callFunc_extern Tryd.prog 34 _ (fun args => ReflectliteValue.unpack (args.getD 0 (.tuple #[]))) Tryd.func34 (by kernel_rfl) (by kernel_rfl) (by kernel_rfl) (by kernel_rfl)
  have h10 := @run_callFunc_extern Tryd.prog 24 _ ReflectliteType.typeOf Tryd.func24 (by kernel_rfl) (by kernel_rfl) (by kernel_rfl) (by kernel_rfl)
  have h35 := @run_callFunc_extern Tryd.prog 75 _ (ReflectliteType.relation "AssignableTo" ReflectliteType.assignableTo) Tryd.func75 (by kernel_rfl) (by kernel_rfl) (by kernel_rfl) (by kernel_rfl)
  have h11 := @run_callFunc_extern Tryd.prog 44 _ (ReflectliteValue.method (ReflectliteValue.valueError "reflectlite.Value.Elem" 0) ReflectliteValue.elem) Tryd.func44 (by kernel_rfl) (by kernel_rfl) (by kernel_rfl) (by kernel_rfl)
  have h12 := @run_callFunc_extern Tryd.prog 45 _ ReflectliteValue.set Tryd.func45 (by kernel_rfl) (by kernel_rfl) (by kernel_rfl) (by kernel_rfl)
  have tO := Tryd.typeOfE
  have mA := Tryd.methodAssignableTo
  have aE := Tryd.assignableE
  have tO2 := Tryd.typeOfO
  have aO2 := Tryd.assignableO
  have nA := Tryd.noAsO
  have hU := Tryd.hasUnwrapO
  have mU := Tryd.methodUnwrapO
  have vE := Tryd.valueOfE
  have htl := lt_of_cell ht0
  have hvl := lt_of_cell hv0
  have el := Tryd.elemVT vp t ((w.alloc (.cells #[.pointer (some ⟨4, 72, none⟩), .pointer (some vp), .int .u64 150] 87)).alloc (.cells #[.iface 45 (.pointer (some e))] 57)) (by rw [World.cell?_alloc_lt _ _ vp (by simp; omega), World.cell?_alloc_lt _ _ vp hvl]; exact hv0)
  have st := Tryd.setE t ⟨w.heap.size + 1 + 1, 0, none⟩ e old (((w.alloc (.cells #[.pointer (some ⟨4, 72, none⟩), .pointer (some vp), .int .u64 150] 87)).alloc (.cells #[.iface 45 (.pointer (some e))] 57)).alloc (.cells #[.pointer (some e)] 45))
    (by rw [World.cell?_alloc_at _ _ _ _ (by simp)]; rfl)
    (by rw [World.cell?_alloc_lt _ _ t (by simp; omega), World.cell?_alloc_lt _ _ t (by simp; omega), World.cell?_alloc_lt _ _ t htl]; exact ht0)
    (by rw [World.frozen?_alloc_old _ _ t (by simp; omega), World.frozen?_alloc_old _ _ t (by simp; omega), World.frozen?_alloc_old _ _ t (Nat.ne_of_lt htl)]; exact hf0)
  go_enter Tryd.func37, Tryd.ntmps37
  go_wp2
  refine wp_loop_rounds 2 ?_
  rw [rounds_succ]
  go_wp2
  rw [rounds_succ]
  go_wp2
  go_ret
  exact ⟨rfl, rfl⟩

set_option maxHeartbeats 4000000 in
theorem as37_str (v : Value) (t vp : Addr) (w : World) :
    Calls Tryd.prog 37 #[.iface 64 v, .iface 72 (.pointer (some t)), .agg #[.pointer (some ⟨4, 72, none⟩), .pointer (some vp), .int .u64 150], .iface 74 (.agg #[.pointer (some ⟨4, 45, none⟩)])] w fun ev w' =>
      ev = .returned (.bool false) ∧ w.alloc (.cells #[.pointer (some ⟨4, 72, none⟩), .pointer (some vp), .int .u64 150] 87) = w' := by
  have h10 := @run_callFunc_extern Tryd.prog 24 _ ReflectliteType.typeOf Tryd.func24 (by kernel_rfl) (by kernel_rfl) (by kernel_rfl) (by kernel_rfl)
  have h35 := @run_callFunc_extern Tryd.prog 75 _ (ReflectliteType.relation "AssignableTo" ReflectliteType.assignableTo) Tryd.func75 (by kernel_rfl) (by kernel_rfl) (by kernel_rfl) (by kernel_rfl)
  have tO := Tryd.typeOfS
  have mA := Tryd.methodAssignableTo
  have aE := Tryd.assignableS
  have nA := Tryd.noAsS
  have nU := Tryd.noUnwrapS
  have nV := Tryd.noUnwrapsS
  go_enter Tryd.func37, Tryd.ntmps37
  go_wp2
  refine wp_loop_rounds 1 ?_
  rw [rounds_succ]
  go_wp2
  go_ret
  exact ⟨rfl, rfl⟩
end Go.Proofs.YtljgjcnfcmbemaaDoor
