/-
  TableAlike, the walk, for lists of whatever length.
-/
import Derived.Test.YtkpieolmepngjaaTbAlikeLaw
namespace Go.Proofs.Ytkpieolmepngjaa
open Go Go.RowKit
set_option linter.unusedVariables false
set_option linter.unusedSimpArgs false

set_option maxHeartbeats 8000000 in
set_option maxRecDepth 100000 in
theorem alike_full (a b : MT) (A1 A2 A3 B1 B2 B3 : Option Addr) (c1 c2 c3 d1 d2 d3 : Nat) (nm : ByteArray) (w : World) (ha : VsR w w.heap.size A1 a.params) (hb : VsR w w.heap.size B1 b.params) :
    Calls Try.prog 5 #[.agg (mcells a A1 A2 A3 c1 c2 c3), .agg (mcells b B1 B2 B3 d1 d2 d3), .string nm] w fun e w' => e = .returned (.bool true) ∧ Below w.heap.size w w' := by
  by_cases hall : a.params.length ≤ 1000000000 ∧ b.params.length ≤ 1000000000
  · exact alike_walk a b A1 A2 A3 B1 B2 B3 c1 c2 c3 d1 d2 d3 nm w ha hb hall.1 hall.2
  obtain ⟨R, hR⟩ : ∃ R : World, R = (w.alloc (.cells #[.string a.name, .bool a.over, .bool a.abstract, .bool a.final, .slice A1 a.params.length c1, .int .i64 a.result.kind, .int .i64 a.result.lo, .int .i64 a.result.hi, .string a.result.name, .slice A2 a.vars.length c2, .slice A3 a.body.length c3] 52)).alloc (.cells #[.string b.name, .bool b.over, .bool b.abstract, .bool b.final, .slice B1 b.params.length d1, .int .i64 b.result.kind, .int .i64 b.result.lo, .int .i64 b.result.hi, .string b.result.name, .slice B2 b.vars.length d2, .slice B3 b.body.length d3] 52) := ⟨_, rfl⟩
  have q0 : Hid (QM w #[.string a.name, .bool a.over, .bool a.abstract, .bool a.final, .slice A1 a.params.length c1, .int .i64 a.result.kind, .int .i64 a.result.lo, .int .i64 a.result.hi, .string a.result.name, .slice A2 a.vars.length c2, .slice A3 a.body.length c3] #[.string b.name, .bool b.over, .bool b.abstract, .bool b.final, .slice B1 b.params.length d1, .int .i64 b.result.kind, .int .i64 b.result.lo, .int .i64 b.result.hi, .string b.result.name, .slice B2 b.vars.length d2, .slice B3 b.body.length d3] R) := by
    rw [hR]
    refine ⟨((Below.refl _ _).alloc (Nat.le_refl _) _).alloc (by simp) _, ?_, ?_⟩
    · rw [Below.heap_alloc _ _ _ (by simp)]; exact heap_alloc_new w _
    · have := heap_alloc_new (w.alloc (.cells #[.string a.name, .bool a.over, .bool a.abstract, .bool a.final, .slice A1 a.params.length c1, .int .i64 a.result.kind, .int .i64 a.result.lo, .int .i64 a.result.hi, .string a.result.name, .slice A2 a.vars.length c2, .slice A3 a.body.length c3] 52)) (.cells #[.string b.name, .bool b.over, .bool b.abstract, .bool b.final, .slice B1 b.params.length d1, .int .i64 b.result.kind, .int .i64 b.result.lo, .int .i64 b.result.hi, .string b.result.name, .slice B2 b.vars.length d2, .slice B3 b.body.length d3] 52)
      simpa using this
  have sR0 : R.heap.size = w.heap.size + 2 := by rw [hR]; simp
  have sR := Lib.hid sR0
  clear sR0
  have RA : Hid (∀ W, Hid (QM w #[.string a.name, .bool a.over, .bool a.abstract, .bool a.final, .slice A1 a.params.length c1, .int .i64 a.result.kind, .int .i64 a.result.lo, .int .i64 a.result.hi, .string a.result.name, .slice A2 a.vars.length c2, .slice A3 a.body.length c3] #[.string b.name, .bool b.over, .bool b.abstract, .bool b.final, .slice B1 b.params.length d1, .int .i64 b.result.kind, .int .i64 b.result.lo, .int .i64 b.result.hi, .string b.result.name, .slice B2 b.vars.length d2, .slice B3 b.body.length d3] W) → VsR W W.heap.size A1 a.params) := fun W h => VsR.mono h.out.below.size h.out.below.block ha
  have RB : Hid (∀ W, Hid (QM w #[.string a.name, .bool a.over, .bool a.abstract, .bool a.final, .slice A1 a.params.length c1, .int .i64 a.result.kind, .int .i64 a.result.lo, .int .i64 a.result.hi, .string a.result.name, .slice A2 a.vars.length c2, .slice A3 a.body.length c3] #[.string b.name, .bool b.over, .bool b.abstract, .bool b.final, .slice B1 b.params.length d1, .int .i64 b.result.kind, .int .i64 b.result.lo, .int .i64 b.result.hi, .string b.result.name, .slice B2 b.vars.length d2, .slice B3 b.body.length d3] W) → VsR W W.heap.size B1 b.params) := fun W h => VsR.mono h.out.below.size h.out.below.block hb
  have KW : Hid (∀ W, Hid (QM w #[.string a.name, .bool a.over, .bool a.abstract, .bool a.final, .slice A1 a.params.length c1, .int .i64 a.result.kind, .int .i64 a.result.lo, .int .i64 a.result.hi, .string a.result.name, .slice A2 a.vars.length c2, .slice A3 a.body.length c3] #[.string b.name, .bool b.over, .bool b.abstract, .bool b.final, .slice B1 b.params.length d1, .int .i64 b.result.kind, .int .i64 b.result.lo, .int .i64 b.result.hi, .string b.result.name, .slice B2 b.vars.length d2, .slice B3 b.body.length d3] W) → Calls Try.prog 13 #[] W fun e w' => e = .returned (.bool true) ∧ Hid (QM w #[.string a.name, .bool a.over, .bool a.abstract, .bool a.final, .slice A1 a.params.length c1, .int .i64 a.result.kind, .int .i64 a.result.lo, .int .i64 a.result.hi, .string a.result.name, .slice A2 a.vars.length c2, .slice A3 a.body.length c3] #[.string b.name, .bool b.over, .bool b.abstract, .bool b.final, .slice B1 b.params.length d1, .int .i64 b.result.kind, .int .i64 b.result.lo, .int .i64 b.result.hi, .string b.result.name, .slice B2 b.vars.length d2, .slice B3 b.body.length d3] w') ∧ Hid (Below W.heap.size W w')) := fun W hq => q_awake QM.step W hq
  have y4 := q0.out.a (j := 4) rfl
  have z4 := q0.out.b (j := 4) rfl
  clear ha hb
  rw [hR] at y4 z4
  go_enter Try.func5, Try.ntmps5
  by_cases p1 : (5 : Int) < (a.params.length : Int)
  · skip
    go_wp2_with fail
    rw [← hR]
    refine (KW.out _ q0).mono ?_
    rintro e2 w2 ⟨rfl, q2, -⟩
    go_wp2_with fail
    go_ret
    exact ⟨rfl, q2.out.below⟩
  by_cases p2 : (5 : Int) < (b.params.length : Int)
  · skip
    go_wp2_with fail
    rw [← hR]
    refine (KW.out _ q0).mono ?_
    rintro e2 w2 ⟨rfl, q2, -⟩
    go_wp2_with fail
    go_ret
    exact ⟨rfl, q2.out.below⟩
  exact absurd ⟨by omega, by omega⟩ hall
end Go.Proofs.Ytkpieolmepngjaa
