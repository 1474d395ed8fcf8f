/-
  DiagKinds, the walk: whatever the codes and the place, true.
-/
import Derived.Test.YtljgjcnfcmbemaaDoorAwake
namespace Go.Proofs.YtljgjcnfcmbemaaDoor
open Go.RowKit Go.Extern.Stop Go.Stop Go.Extern

set_option maxHeartbeats 4000000 in
theorem kinds_same (a at0 : Int) (w : World) (hg : HasErrorType w) :
    Calls Tryd.prog 6 #[.int .i64 a, .int .i64 a, .int .i64 at0] w fun e w' => e = .returned (.bool true) ∧ Below w.heap.size w w' := by
  have HG := Lib.hid hg
  clear hg
  go_enter Tryd.func6, Tryd.ntmps6
  go_wp2_with fail
  refine (new_made a at0 w).mono ?_
  rintro e1 w1 ⟨b1, rfl, m1⟩
  have HX := Lib.hid m1.bel
  have HG1 := Lib.hid (HG.out.below m1.bel (Nat.le_refl _))
  have HC : Hid (Chn w1 w1.heap.size [some (a, at0)] (errv b1)) := ⟨b1, _, rfl, m1.err.lt, m1.err, rfl⟩
  have HX1 := Lib.hid (Below.refl w1.heap.size w1)
  clear m1
  go_wp2_with fail
  refine (of_made a w1).mono ?_
  rintro ea1 wq1 ⟨q1, rfl, m1⟩
  have KI1 := Lib.hid (is_made true a q1 _ _ w1 w1 wq1 HG1.out HC.out (by simp) HX1.out m1 (by simp [hasCode]))
  clear m1
  go_wp2_with fail
  refine KI1.out.mono ?_
  rintro eb1 w2 ⟨rfl, hx2⟩
  have HX2 := Lib.hid hx2
  clear hx2 KI1
  go_wp2_with fail
  refine (of_made a w2).mono ?_
  rintro ea2 wq2 ⟨q2, rfl, m2⟩
  have KI2 := Lib.hid (is_made true a q2 _ _ w1 w2 wq2 HG1.out HC.out (by simp) HX2.out m2 (by simp [hasCode]))
  clear m2
  go_wp2_with fail
  refine KI2.out.mono ?_
  rintro eb2 w3 ⟨rfl, hx3⟩
  have HX3 := Lib.hid hx3
  clear hx3 KI2
  go_wp2_with fail
  refine (of_made a w3).mono ?_
  rintro ea3 w4 ⟨b4, rfl, m4⟩
  have HX4 := Lib.hid (HX3.out.trans (m4.bel.mono HX3.out.size))
  have HG4 := Lib.hid (HG1.out.below HX4.out (Nat.le_refl _))
  have HC4 : Hid (Chn w4 w4.heap.size [some (a, -1)] (errv b4)) := ⟨b4, _, rfl, m4.err.lt, m4.err, rfl⟩
  have HY4 := Lib.hid (Below.refl w4.heap.size w4)
  clear m4
  go_wp2_with fail
  refine (of_made a w4).mono ?_
  rintro ea4 wq4 ⟨q4, rfl, m4⟩
  have KI4 := Lib.hid (is_made true a q4 _ _ w4 w4 wq4 HG4.out HC4.out (by simp) HY4.out m4 (by simp [hasCode]))
  clear m4
  go_wp2_with fail
  refine KI4.out.mono ?_
  rintro eb4 w5 ⟨rfl, hx5⟩
  have HX5 := Lib.hid hx5
  clear hx5 KI4
  have HX5b := Lib.hid (HX4.out.trans (HX5.out.mono HX4.out.size))
  go_wp2_with fail
  refine (new_made a _ w5).mono ?_
  rintro ea5 w6 ⟨b6, rfl, m6⟩
  have HX6 := Lib.hid (HX5b.out.trans (m6.bel.mono HX5b.out.size))
  have HG6 := Lib.hid (HG1.out.below HX6.out (Nat.le_refl _))
  have HC6 := Lib.hid (show Chn w6 w6.heap.size [some (a, _)] (errv b6) from ⟨b6, _, rfl, m6.err.lt, m6.err, rfl⟩)
  have HY6 := Lib.hid (Below.refl w6.heap.size w6)
  clear m6
  go_wp2_with fail
  refine (of_made a w6).mono ?_
  rintro ea6 wq6 ⟨q6, rfl, m6⟩
  have KI6 := Lib.hid (is_made true a q6 _ _ w6 w6 wq6 HG6.out HC6.out (by simp) HY6.out m6 (by simp [hasCode]))
  clear m6
  go_wp2_with fail
  refine KI6.out.mono ?_
  rintro eb6 w7 ⟨rfl, hx7⟩
  have HX7 := Lib.hid hx7
  clear hx7 KI6
  have HX7b := Lib.hid (HX6.out.trans (HX7.out.mono HX6.out.size))
  have KA := Lib.hid (awake_any w7 (HG1.out.below HX7b.out (Nat.le_refl _)))
  go_wp2_with fail
  refine KA.out.mono ?_
  rintro ez w8 ⟨rfl, hx8⟩
  have HX8 := Lib.hid (HX7b.out.trans (hx8.mono HX7b.out.size))
  clear hx8 KA
  go_wp2_with fail
  go_ret
  exact ⟨rfl, HX.out.trans (HX8.out.mono HX.out.size)⟩

set_option maxHeartbeats 4000000 in
theorem kinds_other (a b at0 : Int) (w : World) (hg : HasErrorType w) (hn : ¬ b = a) :
    Calls Tryd.prog 6 #[.int .i64 a, .int .i64 b, .int .i64 at0] w fun e w' => e = .returned (.bool true) ∧ Below w.heap.size w w' := by
  have HG := Lib.hid hg
  have HN := Lib.hid hn
  have hf : (a == b) = false := by simpa using fun h => hn h.symm
  clear hg hn
  go_enter Tryd.func6, Tryd.ntmps6
  go_wp2_with fail
  refine (new_made a at0 w).mono ?_
  rintro e1 w1 ⟨b1, rfl, m1⟩
  have HX := Lib.hid m1.bel
  have HG1 := Lib.hid (HG.out.below m1.bel (Nat.le_refl _))
  have HC : Hid (Chn w1 w1.heap.size [some (a, at0)] (errv b1)) := ⟨b1, _, rfl, m1.err.lt, m1.err, rfl⟩
  have HX1 := Lib.hid (Below.refl w1.heap.size w1)
  clear m1
  go_wp2_with fail
  refine (of_made a w1).mono ?_
  rintro ea1 wq1 ⟨q1, rfl, m1⟩
  have KI1 := Lib.hid (is_made true a q1 _ _ w1 w1 wq1 HG1.out HC.out (by simp) HX1.out m1 (by simp [hasCode]))
  clear m1
  go_wp2_with fail
  refine KI1.out.mono ?_
  rintro eb1 w2 ⟨rfl, hx2⟩
  have HX2 := Lib.hid hx2
  clear hx2 KI1
  go_wp2_with fail
  refine (of_made b w2).mono ?_
  rintro ea2 wq2 ⟨q2, rfl, m2⟩
  have KI2 := Lib.hid (is_made false b q2 _ _ w1 w2 wq2 HG1.out HC.out (by simp) HX2.out m2 (by simp [hasCode, HN.out]))
  clear m2
  go_wp2_with fail
  refine KI2.out.mono ?_
  rintro eb2 w3 ⟨rfl, hx3⟩
  have HX3 := Lib.hid hx3
  clear hx3 KI2
  go_wp2_with fail
  refine (of_made a w3).mono ?_
  rintro ea3 w4 ⟨b4, rfl, m4⟩
  have HX4 := Lib.hid (HX3.out.trans (m4.bel.mono HX3.out.size))
  have HG4 := Lib.hid (HG1.out.below HX4.out (Nat.le_refl _))
  have HC4 : Hid (Chn w4 w4.heap.size [some (a, -1)] (errv b4)) := ⟨b4, _, rfl, m4.err.lt, m4.err, rfl⟩
  have HY4 := Lib.hid (Below.refl w4.heap.size w4)
  clear m4
  go_wp2_with fail
  refine (of_made b w4).mono ?_
  rintro ea4 wq4 ⟨q4, rfl, m4⟩
  have KI4 := Lib.hid (is_made false b q4 _ _ w4 w4 wq4 HG4.out HC4.out (by simp) HY4.out m4 (by simp [hasCode, HN.out]))
  clear m4
  go_wp2_with fail
  refine KI4.out.mono ?_
  rintro eb4 w5 ⟨rfl, hx5⟩
  have HX5 := Lib.hid hx5
  clear hx5 KI4
  have HX5b := Lib.hid (HX4.out.trans (HX5.out.mono HX4.out.size))
  go_wp2_with fail
  refine (new_made a _ w5).mono ?_
  rintro ea5 w6 ⟨b6, rfl, m6⟩
  have HX6 := Lib.hid (HX5b.out.trans (m6.bel.mono HX5b.out.size))
  have HG6 := Lib.hid (HG1.out.below HX6.out (Nat.le_refl _))
  have HC6 := Lib.hid (show Chn w6 w6.heap.size [some (a, _)] (errv b6) from ⟨b6, _, rfl, m6.err.lt, m6.err, rfl⟩)
  have HY6 := Lib.hid (Below.refl w6.heap.size w6)
  clear m6
  go_wp2_with fail
  refine (of_made a w6).mono ?_
  rintro ea6 wq6 ⟨q6, rfl, m6⟩
  have KI6 := Lib.hid (is_made true a q6 _ _ w6 w6 wq6 HG6.out HC6.out (by simp) HY6.out m6 (by simp [hasCode]))
  clear m6
  go_wp2_with fail
  refine KI6.out.mono ?_
  rintro eb6 w7 ⟨rfl, hx7⟩
  have HX7 := Lib.hid hx7
  clear hx7 KI6
  have HX7b := Lib.hid (HX6.out.trans (HX7.out.mono HX6.out.size))
  have KA := Lib.hid (awake_any w7 (HG1.out.below HX7b.out (Nat.le_refl _)))
  go_wp2_with fail
  refine KA.out.mono ?_
  rintro ez w8 ⟨rfl, hx8⟩
  have HX8 := Lib.hid (HX7b.out.trans (hx8.mono HX7b.out.size))
  clear hx8 KA
  go_wp2_with fail
  go_ret
  exact ⟨rfl, HX.out.trans (HX8.out.mono HX.out.size)⟩

end Go.Proofs.YtljgjcnfcmbemaaDoor
