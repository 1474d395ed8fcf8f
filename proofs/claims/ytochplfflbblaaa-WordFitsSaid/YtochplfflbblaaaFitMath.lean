/-
  16 bits that go round: plain arithmetic, nothing of the dump. 'fit' is the number from -32768 to 32767 that is n but for a multiple of 65536.
-/
import Derived.IntWalk
namespace Go.Proofs.Ytochplfflbblaaa
open Go Go.RowKit

/-- n but for a multiple of 65536, from -32768 to 32767. -/
def fit (n : Int) : Int := (n + 32768) % 65536 - 32768
/-- a truth as a number. -/
def b2i (t : Bool) : Int := if t then 1 else 0

theorem fit_lo (n : Int) : -32768 ≤ fit n := by unfold fit; omega
theorem fit_hi (n : Int) : fit n ≤ 32767 := by unfold fit; omega
theorem fit_in (n : Int) (h : -32768 ≤ n) (h' : n ≤ 32767) : fit n = n := by unfold fit; omega
theorem fit_fit (n : Int) : fit (fit n) = fit n := by unfold fit; omega
theorem fit_is (n : Int) : ∃ k : Int, fit n = n + 65536 * k := ⟨-((n + 32768) / 65536), by unfold fit; omega⟩
theorem fit_more (n k : Int) : fit (n + 65536 * k) = fit n := by unfold fit; omega
theorem fit_wrap (n : Int) : fit (wrap64 n) = fit n := by unfold fit wrap64; omega
theorem i16_fit (n : Int) : IntKind.i16.wrap n = fit n := by
  unfold fit
  simp only [IntKind.wrap, IntKind.bits, IntKind.signed]; simp; split <;> omega
theorem i64_fit (n : Int) : IntKind.i64.wrap (fit n) = fit n := IntWalk.i64_in _ ⟨by have := fit_lo n; omega, by have := fit_hi n; omega⟩
theorem u64_i64 (n : Int) : IntKind.i16.wrap (IntKind.u16.wrap (IntKind.u64.wrap n)) = fit n := by
  rw [i16_fit]
  have h1 : IntKind.u64.wrap n = n % 18446744073709551616 := by simp [IntKind.wrap, IntKind.bits, IntKind.signed]
  have h2 : ∀ m : Int, IntKind.u16.wrap m = m % 65536 := fun m => by simp [IntKind.wrap, IntKind.bits, IntKind.signed]
  rw [h1, h2]
  unfold fit; omega
/-- what one law's text does to two numbers is a matter of their rests alone. -/
theorem fit_eq {x y : Int} (k : Int) (h : x = y + 65536 * k) : fit x = fit y := by rw [h]; exact fit_more y k
theorem fit_add (a b : Int) : fit (fit a + b) = fit (a + b) := by
  obtain ⟨k, hk⟩ := fit_is a
  exact fit_eq k (by omega)
theorem fit_mul (a b : Int) : fit (a * fit b) = fit (a * b) := by
  obtain ⟨k, hk⟩ := fit_is b
  exact fit_eq (a * k) (by rw [hk, Int.mul_add, Int.mul_left_comm])
end Go.Proofs.Ytochplfflbblaaa
