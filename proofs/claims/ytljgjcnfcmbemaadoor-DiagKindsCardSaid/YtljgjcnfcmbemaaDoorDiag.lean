/-
  package diag BY ITS CONTRACTS: New, Of, Wrap, Unwrap, itself, Is, Find.
-/
import Derived.Test.YtljgjcnfcmbemaaDoorFirst
import Derived.WalkSpells
import Derived.Deep.QuietTactic
import Derived.BigQuiet
namespace Go.Proofs.YtljgjcnfcmbemaaDoor
open Go.RowKit Go.Extern.Stop Go.Stop Go.Extern

/-- block b is an Error of code c, at a, round v. -/
def IsErr (w : World) (b : Nat) (c a : Int) (v : Value) : Prop := w.heap[b]? = some (.cells #[.int .i64 c, .int .i64 a, v] 53 (0, 0))
/-- the error value that points to block b. -/
abbrev errv (b : Nat) : Value := .iface 45 (.pointer (some ⟨b, 0, none⟩))

theorem IsErr.lt {w : World} {b : Nat} {c a : Int} {v : Value} (h : IsErr w b c a v) : b < w.heap.size := by
  rcases Nat.lt_or_ge b w.heap.size with h1 | h1
  · exact h1
  · unfold IsErr at h; rw [Array.getElem?_eq_none h1] at h; cases h
theorem IsErr.below {w w' : World} {b : Nat} {c a : Int} {v : Value} (h : IsErr w b c a v) {B : Nat} (hb : Below B w w') (hlt : b < B) : IsErr w' b c a v := by
  unfold IsErr at *; rw [hb.block b hlt]; exact h
theorem IsErr.cells {w : World} {b : Nat} {c a : Int} {v : Value} (h : IsErr w b c a v) :
    w.cell? ⟨b, 0, none⟩ = some (.int .i64 c) ∧ w.cell? ⟨b, 1, none⟩ = some (.int .i64 a) ∧ w.cell? ⟨b, 2, none⟩ = some v := by
  unfold IsErr at h; simp [World.cell?, h]
theorem IsErr.new (w : World) (c a : Int) (v : Value) : IsErr (w.alloc (.cells #[.int .i64 c, .int .i64 a, v] 53)) w.heap.size c a v := by
  unfold IsErr; show (w.heap.push _)[w.heap.size]? = _; simp

theorem new_any (c a : Int) (w : World) :
    Calls Tryd.prog 15 #[.int .i64 c, .int .i64 a] w fun e w' => e = .returned (errv w.heap.size) ∧ w.alloc (.cells #[.int .i64 c, .int .i64 a, .nilIface] 53) = w' := by
  go_enter Tryd.func15, Tryd.ntmps15
  go_wp2
  go_ret
  exact ⟨rfl, rfl⟩
theorem of_any (c : Int) (w : World) :
    Calls Tryd.prog 12 #[.int .i64 c] w fun e w' => e = .returned (errv w.heap.size) ∧ w.alloc (.cells #[.int .i64 c, .int .i64 (-1), .nilIface] 53) = w' := by
  go_enter Tryd.func12, Tryd.ntmps12
  go_wp2
  go_ret
  exact ⟨rfl, rfl⟩
theorem wrap_nil (c a : Int) (w : World) :
    Calls Tryd.prog 16 #[.nilIface, .int .i64 c, .int .i64 a] w fun e w' => e = .returned .nilIface ∧ w = w' := by
  go_enter Tryd.func16, Tryd.ntmps16
  go_wp2
  go_ret
  exact ⟨rfl, rfl⟩
theorem wrap_any (t : Nat) (v : Value) (c a : Int) (w : World) :
    Calls Tryd.prog 16 #[.iface t v, .int .i64 c, .int .i64 a] w fun e w' => e = .returned (errv w.heap.size) ∧ w.alloc (.cells #[.int .i64 c, .int .i64 a, .iface t v] 53) = w' := by
  go_enter Tryd.func16, Tryd.ntmps16
  go_wp2
  go_ret
  exact ⟨rfl, rfl⟩
theorem unwrap_any (b : Nat) (c a : Int) (v : Value) (w : World) (h : IsErr w b c a v) :
    Calls Tryd.prog 21 #[.pointer (some ⟨b, 0, none⟩)] w fun e w' => e = .returned v ∧ w = w' := by
  obtain ⟨h0, h1, h2⟩ := h.cells
  clear h
  go_enter Tryd.func21, Tryd.ntmps21
  go_wp2
  go_ret
  exact ⟨rfl, rfl⟩
theorem unwrap_none (w : World) :
    Calls Tryd.prog 21 #[.pointer none] w fun e w' => e = .returned .nilIface ∧ w = w' := by
  go_enter Tryd.func21, Tryd.ntmps21
  go_wp2
  go_ret
  exact ⟨rfl, rfl⟩

theorem Tryd.compE : (Tryd.prog.info? 45).map (·.comparable) = some true := by kernel_rfl
theorem Tryd.sizeErr : (Tryd.prog.info? 53).map (·.size) = some 3 := by kernel_rfl

theorem run_neq_err_same (a : Addr) (w : World) : (binOp .neq 27 (.iface 45 (.pointer (some a))) (.iface 45 (.pointer (some a)))).run Tryd.prog w = .ok (.bool false) w := by
  obtain ⟨i, hi, hcmp⟩ := Option.map_eq_some_iff.1 Tryd.compE
  obtain ⟨j, hj, _⟩ := Option.map_eq_some_iff.1 Tryd.sizeErr
  simp only [binOp]
  simp [Op.equal, Op.maxDepth, run_equalIn_iface_ptr_same w 9998 a Tryd.underlying27 Tryd.underlying45 hi hcmp hj]

/-- itself: what is an *Error. -/
theorem itself_err (a : Addr) (w : World) (hg : HasErrorType w) :
    Calls Tryd.prog 28 #[.iface 45 (.pointer (some a))] w fun e w' => e = .returned (.tuple #[.pointer (some a), .bool true]) ∧ Below w.heap.size w w' := by
  have hn := run_neq_err_same a
  have K := Lib.hid (first_err a w hg)
  clear hg
  go_enter Tryd.func28, Tryd.ntmps28
  go_wp2_with (go_at_call 23; refine K.out.mono ?_; rintro e1 w1 ⟨rfl, hb⟩)
  go_ret2
  exact ⟨rfl, hb⟩

/-- (*Error).Is, asked at what Of makes: the code decides. -/
theorem is_yes (b q : Nat) (c a : Int) (v : Value) (w : World) (hg : HasErrorType w) (hb : IsErr w b c a v) (hq : IsErr w q c (-1) .nilIface) :
    Calls Tryd.prog 22 #[.pointer (some ⟨b, 0, none⟩), errv q] w fun e w' => e = .returned (.bool true) ∧ Below w.heap.size w w' := by
  have K := Lib.hid (itself_err ⟨q, 0, none⟩ w hg)
  have HB := Lib.hid hb
  have HQ := Lib.hid hq
  clear hg hb hq
  go_enter Tryd.func22, Tryd.ntmps22
  go_wp2_with (go_at_call 28; refine K.out.mono ?_; rintro e1 w1 ⟨rfl, hw⟩; have HW := Lib.hid hw; obtain ⟨b0, b1, b2⟩ := (HB.out.below hw HB.out.lt).cells; obtain ⟨q0, q1, q2⟩ := (HQ.out.below hw HQ.out.lt).cells; clear hw b1 b2)
  go_quiet (fail)
  go_wp2
  go_ret
  exact ⟨rfl, below_drewN HW.out _⟩
theorem is_no (b q : Nat) (c c2 a : Int) (v : Value) (w : World) (hg : HasErrorType w) (hb : IsErr w b c a v) (hq : IsErr w q c2 (-1) .nilIface) (hne : ¬ c2 = c) :
    Calls Tryd.prog 22 #[.pointer (some ⟨b, 0, none⟩), errv q] w fun e w' => e = .returned (.bool false) ∧ Below w.heap.size w w' := by
  have hf : (c2 == c) = false := by simpa using hne
  have K := Lib.hid (itself_err ⟨q, 0, none⟩ w hg)
  have HB := Lib.hid hb
  have HQ := Lib.hid hq
  clear hg hb hq hne
  go_enter Tryd.func22, Tryd.ntmps22
  go_wp2_with (go_at_call 28; refine K.out.mono ?_; rintro e1 w1 ⟨rfl, hw⟩; have HW := Lib.hid hw; obtain ⟨b0, b1, b2⟩ := (HB.out.below hw HB.out.lt).cells; obtain ⟨q0, q1, q2⟩ := (HQ.out.below hw HQ.out.lt).cells; clear hw b1 b2 q1 q2)
  go_quiet (fail)
  go_wp2
  go_ret
  exact ⟨rfl, below_drewN HW.out _⟩

/-- Find, by what first finds. -/
theorem find_err (ev : Value) (b : Nat) (c a : Int) (v : Value) (w : World)
    (hf : Calls Tryd.prog 23 #[ev] w fun e w' => e = .returned (.pointer (some ⟨b, 0, none⟩)) ∧ Below w.heap.size w w') (hb : IsErr w b c a v) :
    Calls Tryd.prog 10 #[ev] w fun e w' => e = .returned (.tuple #[.int .i64 c, .int .i64 a, .bool true]) ∧ Below w.heap.size w w' := by
  have K := Lib.hid hf
  have HB := Lib.hid hb
  clear hf hb
  go_enter Tryd.func10, Tryd.ntmps10
  go_wp2_with (go_at_call 23; refine K.out.mono ?_; rintro e1 w1 ⟨rfl, hw⟩; have HW := Lib.hid hw; obtain ⟨b0, b1, b2⟩ := (HB.out.below hw HB.out.lt).cells; clear hw b2)
  go_quiet (fail)
  go_wp2
  go_ret3
  exact ⟨rfl, below_drewN HW.out _⟩
theorem find_none (ev : Value) (w : World)
    (hf : Calls Tryd.prog 23 #[ev] w fun e w' => e = .returned (.pointer none) ∧ Below w.heap.size w w') :
    Calls Tryd.prog 10 #[ev] w fun e w' => e = .returned (.tuple #[.int .i64 0, .int .i64 0, .bool false]) ∧ Below w.heap.size w w' := by
  have K := Lib.hid hf
  clear hf
  go_enter Tryd.func10, Tryd.ntmps10
  go_wp2_with (go_at_call 23; refine K.out.mono ?_; rintro e1 w1 ⟨rfl, hw⟩; have HW := Lib.hid hw; clear hw)
  go_ret3
  exact ⟨rfl, HW.out⟩
end Go.Proofs.YtljgjcnfcmbemaaDoor
