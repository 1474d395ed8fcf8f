/-
  diag.first BY ITS CONTRACTS: the deferred closure that finds nothing to recover; the *diag.Error that errors.As finds in an error.
-/
import Derived.Test.YtljgjcnfcmbemaaDoorAs3
import Derived.Tactics
import Derived.Tactics2
import Derived.Defers
import Derived.Recover
import Derived.Laws.Pointers
import Derived.Lib.Hide
import Derived.Outline
namespace Go.Proofs.YtljgjcnfcmbemaaDoor
open Go.RowKit Go.Extern.Stop Go.Stop Go.Extern

theorem first_idle (p : Addr) (w : World) :
    CallsD Tryd.prog 29 #[.pointer (some p)] .returning w fun e u' w' => e = .returned (.tuple #[]) ∧ u' = .returning ∧ w = w' := by
  refine callsD_of_wpS Tryd.func29 rfl fun c₀ cs hu => ?_
  apply wpS_seq
  apply wpS_region
  simp [wpOpsS, go_sem, recoverD, hu, Tryd.ntmps29, Exit.thenS]
  refine wpS_cond (t := false) (by simp [Act.eval, Array.replicate]) ?_
  simp only [Bool.false_eq_true, if_false]
  refine wpS_of_wp (wp_skip ?_)
  cases c₀
  simp_all [bodyPostS, results, Tryd.results29]


set_option maxHeartbeats 1000000 in
theorem first_err (e : Addr) (w : World) (hg : HasErrorType w) :
    Calls Tryd.prog 23 #[.iface 45 (.pointer (some e))] w fun ev w' => ev = .returned (.pointer (some e)) ∧ Below w.heap.size w w' := by
  have hmf : ∀ (fn : Fn) (first cap : Array Value) (w : World), (Instr.makeFunc fn first cap).run Tryd.prog w = .ok (.func fn first cap) w := fun _ _ _ _ => rfl
  have hb0 := Lib.hid (show Below w.heap.size w (w.alloc (.cells #[.pointer none] 45)) from (Below.refl _ _).alloc (Nat.le_refl _) _)
  have K := Lib.hid (as_err e ⟨w.heap.size, 0, none⟩ (.pointer none) (w.alloc (.cells #[.pointer none] 45)) (by unfold HasErrorType at *; rw [World.cell?_alloc_lt _ _ _ (lt_of_cell hg)]; exact hg) (by simp) (by simp))
  clear hg
  go_enter_defers Tryd.func23, Tryd.ntmps23
  go_wp2_with (go_at_call 30; refine K.out.mono ?_; rintro e1 w1 ⟨rfl, hF⟩; obtain ⟨hb, hc, hz⟩ := hF; have HB := Lib.hid hb; clear hb)
  refine leaves_cons (f := 29) (args := #[.pointer (some ⟨w.heap.size, 0, none⟩)]) (by simp) (by simp [go_sem]) ?_
  refine (first_idle ⟨w.heap.size, 0, none⟩ _).mono ?_
  rintro e u' w'' ⟨rfl, rfl, rfl⟩
  simp [Leaves, settle, results, Tryd.results23, go_sem, hc]
  exact (hb0.out.trans (HB.out.mono (Nat.le_refl _))).setCell (Nat.le_refl _) _

set_option maxHeartbeats 1000000 in
theorem first_other (e : Addr) (w : World) (hg : HasErrorType w) :
    Calls Tryd.prog 23 #[.iface 57 (.agg #[.iface 45 (.pointer (some e))])] w fun ev w' => ev = .returned (.pointer (some e)) ∧ Below w.heap.size w w' := by
  have hmf : ∀ (fn : Fn) (first cap : Array Value) (w : World), (Instr.makeFunc fn first cap).run Tryd.prog w = .ok (.func fn first cap) w := fun _ _ _ _ => rfl
  have hb0 := Lib.hid (show Below w.heap.size w (w.alloc (.cells #[.pointer none] 45)) from (Below.refl _ _).alloc (Nat.le_refl _) _)
  have K := Lib.hid (as_other e ⟨w.heap.size, 0, none⟩ (.pointer none) (w.alloc (.cells #[.pointer none] 45)) (by unfold HasErrorType at *; rw [World.cell?_alloc_lt _ _ _ (lt_of_cell hg)]; exact hg) (by simp) (by simp))
  clear hg
  go_enter_defers Tryd.func23, Tryd.ntmps23
  go_wp2_with (go_at_call 30; refine K.out.mono ?_; rintro e1 w1 ⟨rfl, hF⟩; obtain ⟨hb, hc, hz⟩ := hF; have HB := Lib.hid hb; clear hb)
  refine leaves_cons (f := 29) (args := #[.pointer (some ⟨w.heap.size, 0, none⟩)]) (by simp) (by simp [go_sem]) ?_
  refine (first_idle ⟨w.heap.size, 0, none⟩ _).mono ?_
  rintro e u' w'' ⟨rfl, rfl, rfl⟩
  simp [Leaves, settle, results, Tryd.results23, go_sem, hc]
  exact (hb0.out.trans (HB.out.mono (Nat.le_refl _))).setCell (Nat.le_refl _) _

set_option maxHeartbeats 1000000 in
theorem first_str (v : Value) (w : World) (hg : HasErrorType w) :
    Calls Tryd.prog 23 #[.iface 64 v] w fun ev w' => ev = .returned (.pointer none) ∧ Below w.heap.size w w' := by
  have hmf : ∀ (fn : Fn) (first cap : Array Value) (w : World), (Instr.makeFunc fn first cap).run Tryd.prog w = .ok (.func fn first cap) w := fun _ _ _ _ => rfl
  have hb0 := Lib.hid (show Below w.heap.size w (w.alloc (.cells #[.pointer none] 45)) from (Below.refl _ _).alloc (Nat.le_refl _) _)
  have K := Lib.hid (as_str v ⟨w.heap.size, 0, none⟩ (.pointer none) (w.alloc (.cells #[.pointer none] 45)) (by unfold HasErrorType at *; rw [World.cell?_alloc_lt _ _ _ (lt_of_cell hg)]; exact hg) (by simp) (by simp))
  clear hg
  go_enter_defers Tryd.func23, Tryd.ntmps23
  go_wp2_with (go_at_call 30; refine K.out.mono ?_; rintro e1 w1 ⟨rfl, hF⟩; obtain ⟨hb, hc, hz⟩ := hF; have HB := Lib.hid hb; clear hb)
  refine leaves_cons (f := 29) (args := #[.pointer (some ⟨w.heap.size, 0, none⟩)]) (by simp) (by simp [go_sem]) ?_
  refine (first_idle ⟨w.heap.size, 0, none⟩ _).mono ?_
  rintro e u' w'' ⟨rfl, rfl, rfl⟩
  simp [Leaves, settle, results, Tryd.results23, go_sem, hc]
  exact (hb0.out.trans (HB.out.mono (Nat.le_refl _))).setCell (Nat.le_refl _) _

set_option maxHeartbeats 1000000 in
theorem first_nil (w : World) :
    Calls Tryd.prog 23 #[.nilIface] w fun ev w' => ev = .returned (.pointer none) ∧ Below w.heap.size w w' := by
  have hmf : ∀ (fn : Fn) (first cap : Array Value) (w : World), (Instr.makeFunc fn first cap).run Tryd.prog w = .ok (.func fn first cap) w := fun _ _ _ _ => rfl
  have hb0 := Lib.hid (show Below w.heap.size w (w.alloc (.cells #[.pointer none] 45)) from (Below.refl _ _).alloc (Nat.le_refl _) _)
  go_enter_defers Tryd.func23, Tryd.ntmps23
  go_wp2_with (go_at_call 30; refine (as_nil _ _).mono ?_; rintro e1 w1 ⟨rfl, rfl⟩)
  refine leaves_cons (f := 29) (args := #[.pointer (some ⟨w.heap.size, 0, none⟩)]) (by simp) (by simp [go_sem]) ?_
  refine (first_idle ⟨w.heap.size, 0, none⟩ _).mono ?_
  rintro e u' w'' ⟨rfl, rfl, rfl⟩
  simp [Leaves, settle, results, Tryd.results23, go_sem]
  exact hb0.out
end Go.Proofs.YtljgjcnfcmbemaaDoor
