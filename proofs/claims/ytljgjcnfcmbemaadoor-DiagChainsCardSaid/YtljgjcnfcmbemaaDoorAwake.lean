/-
  awake: what every program answers that is one: true.
-/
import Derived.Test.YtljgjcnfcmbemaaDoorText
namespace Go.Proofs.YtljgjcnfcmbemaaDoor
open Go.RowKit Go.Extern.Stop Go.Stop Go.Extern

/-- b is a new block of w', an Error of code c, at a, round v. -/
structure Made (w w' : World) (b : Nat) (c a : Int) (v : Value) : Prop where
  lo : w.heap.size ≤ b
  err : IsErr w' b c a v
  bel : Below w.heap.size w w'
theorem Made.alloc (w : World) (c a : Int) (v : Value) : Made w (w.alloc (.cells #[.int .i64 c, .int .i64 a, v] 53)) w.heap.size c a v :=
  ⟨Nat.le_refl _, IsErr.new w c a v, (Below.refl _ _).alloc (Nat.le_refl _) _⟩

theorem new_made (c a : Int) (w : World) :
    Calls Tryd.prog 15 #[.int .i64 c, .int .i64 a] w fun e w' => ∃ b, e = .returned (errv b) ∧ Made w w' b c a .nilIface :=
  (new_any c a w).mono fun _ _ ⟨he, hw⟩ => ⟨_, he, hw ▸ Made.alloc w c a _⟩
theorem of_made (c : Int) (w : World) :
    Calls Tryd.prog 12 #[.int .i64 c] w fun e w' => ∃ b, e = .returned (errv b) ∧ Made w w' b c (-1) .nilIface :=
  (of_any c w).mono fun _ _ ⟨he, hw⟩ => ⟨_, he, hw ▸ Made.alloc w c (-1) _⟩
theorem wrap_made (t : Nat) (v : Value) (c a : Int) (w : World) :
    Calls Tryd.prog 16 #[.iface t v, .int .i64 c, .int .i64 a] w fun e w' => ∃ b, e = .returned (errv b) ∧ Made w w' b c a (.iface t v) :=
  (wrap_any t v c a w).mono fun _ _ ⟨he, hw⟩ => ⟨_, he, hw ▸ Made.alloc w c a _⟩

/-- errors.Is asked at what Of has just made, of a chain that has been there since w0. -/
theorem is_made (bl : Bool) (k : Int) (q : Nat) (l : List (Option (Int × Int))) (v : Value) (w0 w w' : World) (hg : HasErrorType w0) (hc : Chn w0 w0.heap.size l v) (hne : l ≠ []) (hx : Below w0.heap.size w0 w) (hm : Made w w' q k (-1) .nilIface) (hbl : hasCode k l = bl) :
    Calls Tryd.prog 11 #[v, errv q] w' fun e w2 => e = .returned (.bool bl) ∧ Below w0.heap.size w0 w2 := by
  have hy := hx.trans (hm.bel.mono hx.size)
  exact (isAny k q w0.heap.size l v w' (hg.below hy (Nat.le_refl _)) hm.err (Nat.le_trans hx.size hm.lo) (hc.below hy (Nat.le_refl _)) hne).mono fun _ _ ⟨he, hw⟩ => ⟨hbl ▸ he, hy.trans (hw.mono hy.size)⟩

theorem Chn.grow {w : World} {B C : Nat} (hBC : B ≤ C) : ∀ {l : List (Option (Int × Int))} {v : Value}, Chn w B l v → Chn w C l v
  | [], _, h => h
  | some _ :: _, _, ⟨b, u, h1, h2, h3, h4⟩ => ⟨b, u, h1, by omega, h3, Chn.grow hBC h4⟩
  | none :: _, _, ⟨u, h1, h2⟩ => ⟨u, h1, Chn.grow hBC h2⟩

theorem Tryd.methodErrorE (a : Addr) (w : World) : (Go.method 245 45 (.pointer (some a)) "Error").run Tryd.prog w = .ok (20, .pointer (some a)) w := by kernel_rfl

theorem txt_awake : (⟨(txt [(5, 9), (3, 7)]).toArray⟩ : ByteArray) = ⟨#[99, 111, 100, 101, 32, 53, 32, 97, 116, 32, 57, 58, 32, 99, 111, 100, 101, 32, 51, 32, 97, 116, 32, 55]⟩ := by
  have h5 : Lib.itoa 5 = [53] := by rw [show (5 : Int) = ((5 : Nat) : Int) from rfl, itoa_small, Lib.decDigits]; rfl
  have h9 : Lib.itoa 9 = [57] := by rw [show (9 : Int) = ((9 : Nat) : Int) from rfl, itoa_small, Lib.decDigits]; rfl
  have h3 : Lib.itoa 3 = [51] := by rw [show (3 : Int) = ((3 : Nat) : Int) from rfl, itoa_small, Lib.decDigits]; rfl
  have h7 : Lib.itoa 7 = [55] := by rw [show (7 : Int) = ((7 : Nat) : Int) from rfl, itoa_small, Lib.decDigits]; rfl
  simp only [txt, h5, h9, h3, h7]
  rfl

set_option maxHeartbeats 4000000 in
theorem awake_any (w : World) (hg : HasErrorType w) :
    Calls Tryd.prog 8 #[] w fun e w' => e = .returned (.bool true) ∧ Below w.heap.size w w' := by
  have mE := Tryd.methodErrorE
  have HG := Lib.hid hg
  clear hg
  go_enter Tryd.func8, Tryd.ntmps8
  go_wp2_with fail
  refine (new_made 3 7 w).mono ?_
  rintro e1 w1 ⟨b1, rfl, m1⟩
  have M1 := Lib.hid m1
  clear m1
  go_wp2_with fail
  refine (wrap_made _ _ 5 9 w1).mono ?_
  rintro e2 w2 ⟨b2, rfl, m2⟩
  have hx2 := M1.out.bel.trans (m2.bel.mono M1.out.bel.size)
  have hg2 : HasErrorType w2 := HG.out.below hx2 (Nat.le_refl _)
  have hc2 : Chn w2 w2.heap.size [some (5, 9), some (3, 7)] (errv b2) := ⟨b2, _, rfl, m2.err.lt, m2.err, b1, _, rfl, Nat.lt_of_lt_of_le M1.out.err.lt m2.bel.size, M1.out.err.below m2.bel M1.out.err.lt, rfl⟩
  have HX := Lib.hid hx2
  have HG2 := Lib.hid hg2
  have HC := Lib.hid hc2
  have HE := Lib.hid m2.err
  clear hx2 hg2 hc2 m2 M1 HG
  have KF := Lib.hid (find_err (errv b2) b2 5 9 _ w2 (first_err ⟨b2, 0, none⟩ w2 HG2.out) HE.out)
  go_wp2_with fail
  refine KF.out.mono ?_
  rintro e3 w3 ⟨rfl, hx3⟩
  have HX3 := Lib.hid hx3
  clear hx3 KF HE
  go_wp2_with fail
  refine (of_made 3 w3).mono ?_
  rintro ea3 wq3 ⟨q3, rfl, m3⟩
  have KI3 := Lib.hid (is_made true 3 q3 _ _ w2 w3 wq3 HG2.out HC.out (by simp) HX3.out m3 rfl)
  clear m3
  go_wp2_with fail
  refine KI3.out.mono ?_
  rintro eb3 w4 ⟨rfl, hx4⟩
  have HX4 := Lib.hid hx4
  clear hx4 KI3
  go_wp2_with fail
  refine (of_made 5 w4).mono ?_
  rintro ea4 wq4 ⟨q4, rfl, m4⟩
  have KI4 := Lib.hid (is_made true 5 q4 _ _ w2 w4 wq4 HG2.out HC.out (by simp) HX4.out m4 rfl)
  clear m4
  go_wp2_with fail
  refine KI4.out.mono ?_
  rintro eb4 w5 ⟨rfl, hx5⟩
  have HX5 := Lib.hid hx5
  clear hx5 KI4
  go_wp2_with fail
  refine (of_made 4 w5).mono ?_
  rintro ea5 wq5 ⟨q5, rfl, m5⟩
  have KI5 := Lib.hid (is_made false 4 q5 _ _ w2 w5 wq5 HG2.out HC.out (by simp) HX5.out m5 rfl)
  clear m5
  go_wp2_with fail
  refine KI5.out.mono ?_
  rintro eb5 w6 ⟨rfl, hx6⟩
  have HX6 := Lib.hid hx6
  clear hx6 KI5
  have HC6 := Lib.hid (HC.out.below HX6.out (Nat.le_refl _))
  have KE := Lib.hid (error_chain [(5, 9), (3, 7)] b2 w6 (HG2.out.below HX6.out (Nat.le_refl _)) (HC6.out.grow HX6.out.size) (by simp) (by simp) (by
    intro x hx
    simp at hx
    rcases hx with rfl | rfl
    · exact ⟨appOk_small _ _ 5 (by omega), appOk_small _ _ 9 (by omega), by omega, by omega, by omega, by omega⟩
    · exact ⟨appOk_small _ _ 3 (by omega), appOk_small _ _ 7 (by omega), by omega, by omega, by omega, by omega⟩))
  rw [txt_awake] at KE
  go_wp2_with fail
  refine KE.out.mono ?_
  rintro ec w7 ⟨rfl, hx7⟩
  have HX7 := Lib.hid (HX6.out.trans (hx7.mono HX6.out.size))
  clear hx7 KE HC6
  go_wp2_with fail
  refine (wrap_nil 1 1 w7).mono ?_
  rintro ed w8 ⟨rfl, rfl⟩
  go_wp2_with fail
  go_ret
  exact ⟨rfl, HX.out.trans (HX7.out.mono HX.out.size)⟩
end Go.Proofs.YtljgjcnfcmbemaaDoor
