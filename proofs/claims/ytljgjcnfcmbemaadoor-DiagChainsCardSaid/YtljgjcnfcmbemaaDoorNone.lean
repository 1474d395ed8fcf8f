/-
  DiagNone, the walk: whatever the code, the place and the text, true.
-/
import Derived.Test.YtljgjcnfcmbemaaDoorAwake
namespace Go.Proofs.YtljgjcnfcmbemaaDoor
open Go.RowKit Go.Extern.Stop Go.Stop Go.Extern

theorem errorsNew_any (s : ByteArray) (w : World) :
    Calls Tryd.prog 19 #[.string s] w fun e w' => ∃ b, e = .returned (.iface 64 (.pointer (some ⟨b, 0, none⟩))) ∧ Below w.heap.size w w' := by
  go_enter Tryd.func19, Tryd.ntmps19
  go_wp2
  go_ret
  exact ⟨_, rfl, (Below.refl _ _).alloc (Nat.le_refl _) _⟩

theorem is_nilrecv (v : Value) (w : World) :
    Calls Tryd.prog 22 #[.pointer none, v] w fun e w' => e = .returned (.bool false) ∧ w = w' := by
  go_enter Tryd.func22, Tryd.ntmps22
  go_wp2
  go_ret
  exact ⟨rfl, rfl⟩

/-- Chain of what first finds nothing in: none. -/
theorem chain_none (ev : Value) (w : World)
    (hf : Calls Tryd.prog 23 #[ev] w fun e w' => e = .returned (.pointer none) ∧ Below w.heap.size w w') :
    Calls Tryd.prog 7 #[ev] w fun e w' => e = .returned (.slice none 0 0) ∧ Below w.heap.size w w' := by
  have K := Lib.hid hf
  clear hf
  go_enter Tryd.func7, Tryd.ntmps7
  go_wp2_with (go_at_call 23; refine K.out.mono ?_; rintro e1 w1 ⟨rfl, hw⟩; have HW := Lib.hid hw; clear hw)
  refine wp_loop_rounds 1 ?_
  rw [rounds_succ]
  go_wp2
  go_ret
  exact ⟨rfl, HW.out⟩

theorem none_long (c a : Int) (s : ByteArray) (w : World) (hg : HasErrorType w) (hs : 100 < s.size) (hm : s.size ≤ maxLen) :
    Calls Tryd.prog 5 #[.int .i64 c, .int .i64 a, .string s] w fun e w' => e = .returned (.bool true) ∧ Below w.heap.size w w' := by
  unfold maxLen at hm
  have KA := Lib.hid (awake_any w hg)
  clear hg
  go_enter Tryd.func5, Tryd.ntmps5
  go_wp2_with fail
  refine KA.out.mono ?_
  rintro e1 w1 ⟨rfl, hx⟩
  go_wp2_with fail
  go_ret
  exact ⟨rfl, hx⟩

set_option maxHeartbeats 4000000 in
theorem none_short (c a : Int) (s : ByteArray) (w : World) (hg : HasErrorType w) (hs : s.size ≤ 100) :
    Calls Tryd.prog 5 #[.int .i64 c, .int .i64 a, .string s] w fun e w' => e = .returned (.bool true) ∧ Below w.heap.size w w' := by
  have HG := Lib.hid hg
  have HX0 := Lib.hid (Below.refl w.heap.size w)
  clear hg
  go_enter Tryd.func5, Tryd.ntmps5
  have K0 := Lib.hid (find_none .nilIface w (first_nil w))
  go_wp2_with fail
  refine K0.out.mono ?_
  rintro e0 w1 ⟨rfl, hx0⟩
  have HX1 := Lib.hid (HX0.out.trans (hx0.mono HX0.out.size))
  clear K0 hx0
  have K1 := Lib.hid (errorsNew_any s w1)
  go_wp2_with fail
  refine K1.out.mono ?_
  rintro e1 w2 ⟨b1, rfl, hx1⟩
  have HX2 := Lib.hid (HX1.out.trans (hx1.mono HX1.out.size))
  clear K1 hx1
  have K2 := Lib.hid (find_none _ w2 (first_str (.pointer (some ⟨b1, 0, none⟩)) w2 (HG.out.below HX2.out (Nat.le_refl _))))
  go_wp2_with fail
  refine K2.out.mono ?_
  rintro e2 w3 ⟨rfl, hx2⟩
  have HX3 := Lib.hid (HX2.out.trans (hx2.mono HX2.out.size))
  clear K2 hx2
  go_wp2_with fail
  refine (wrap_nil c a w3).mono ?_
  rintro e3s w3s ⟨rfl, rfl⟩
  have K3 := Lib.hid (errorsNew_any s w3)
  go_wp2_with fail
  refine K3.out.mono ?_
  rintro e3 w4 ⟨b3, rfl, hx3⟩
  have HX4 := Lib.hid (HX3.out.trans (hx3.mono HX3.out.size))
  clear K3 hx3
  have K4 := Lib.hid (chain_none _ w4 (first_str (.pointer (some ⟨b3, 0, none⟩)) w4 (HG.out.below HX4.out (Nat.le_refl _))))
  go_wp2_with fail
  refine K4.out.mono ?_
  rintro e4 w5 ⟨rfl, hx4⟩
  have HX5 := Lib.hid (HX4.out.trans (hx4.mono HX4.out.size))
  clear K4 hx4
  have K5 := Lib.hid (error_nil w5)
  go_wp2_with fail
  refine K5.out.mono ?_
  rintro e5 w6 ⟨rfl, hx5⟩
  have HX6 := Lib.hid (HX5.out.trans (hx5.mono HX5.out.size))
  clear K5 hx5
  go_wp2_with fail
  refine (unwrap_none w6).mono ?_
  rintro e6s w6s ⟨rfl, rfl⟩
  go_wp2_with fail
  refine (of_made c w6).mono ?_
  rintro e6 w7 ⟨b6, rfl, hm6⟩
  have HX7 := Lib.hid (HX6.out.trans (hm6.bel.mono HX6.out.size))
  clear hm6
  go_wp2_with fail
  refine (is_nilrecv _ w7).mono ?_
  rintro e7s w7s ⟨rfl, rfl⟩
  have K7 := Lib.hid (errorsNew_any s w7)
  go_wp2_with fail
  refine K7.out.mono ?_
  rintro e7 w8 ⟨b7, rfl, hx7⟩
  have HX8 := Lib.hid (HX7.out.trans (hx7.mono HX7.out.size))
  clear K7 hx7
  go_wp2_with fail
  refine (of_made c w8).mono ?_
  rintro e8 w9 ⟨b8, rfl, hm8⟩
  have HX9 := Lib.hid (HX8.out.trans (hm8.bel.mono HX8.out.size))
  clear hm8
  go_wp2_with fail
  refine (isStr _ b8 w9).mono ?_
  rintro e9s w9s ⟨rfl, rfl⟩
  have K9 := Lib.hid (awake_any w9 (HG.out.below HX9.out (Nat.le_refl _)))
  go_wp2_with fail
  refine K9.out.mono ?_
  rintro e9 w10 ⟨rfl, hx9⟩
  have HX10 := Lib.hid (HX9.out.trans (hx9.mono HX9.out.size))
  clear K9 hx9
  go_wp2_with fail
  go_ret
  exact ⟨rfl, HX10.out⟩
end Go.Proofs.YtljgjcnfcmbemaaDoor
