/-
  TypingBins, the walk: whatever the operator and the two sides, the law returns true.
-/
import Derived.Test.YtmbddofcildibaaK5
import Derived.Test.YtmbddofcildibaaK11
namespace Go.Proofs.Ytmbddofcildibaa
open Go Go.RowKit
set_option linter.unusedVariables false
set_option linter.unusedSimpArgs false

/-- the sides: a number, a truth, NULL. -/
def sideK (a : Nat) : Int := if a = 0 then 1 else if a = 1 then 2 else 4
def sideN (a : Nat) : Int := if a = 0 then 3 else 0
def sideT (a : Nat) : ET := .mk (sideK a) (sideN a) ⟨#[]⟩ ⟨#[]⟩ []
/-- the kind that an operator of two sides has; none: 0. -/
def binK (n : Int) (a b : Nat) : Int :=
  if a ≠ b then 0 else if 1 ≤ n ∧ n ≤ 5 ∧ a = 0 then 1 else if n = 6 ∨ n = 7 ∨ (8 ≤ n ∧ n ≤ 11 ∧ a = 0) ∨ (12 ≤ n ∧ n ≤ 14 ∧ a = 1) then 2 else 0
def binR (n : Int) (a b : Nat) : YT × Int := if binK n a b = 0 then (Y0, 14) else (plainT (binK n a b), 0)
theorem side_leaf {a : Nat} : sideK a = 1 ∨ sideK a = 2 ∨ sideK a = 4 ∨ sideK a = 5 := by
  unfold sideK
  by_cases h0 : a = 0
  · simp [h0]
  · by_cases h1 : a = 1
    · simp [h1]
    · simp [h0, h1]
theorem bin_val (V : List VT) (n : Int) {a b : Nat} (ha : a < 3) (hb : b < 3) : operT n (exprsR (tyE V) [sideT a, sideT b]) = binR n a b := by
  have h3 : ∀ x : Nat, x < 3 → x = 0 ∨ x = 1 ∨ x = 2 := fun x hx => by omega
  rcases h3 a ha with rfl | rfl | rfl <;> rcases h3 b hb with rfl | rfl | rfl <;>
    simp [operT, exprsR, tyE, sideT, sideK, sideN, binR, binK, plainT, Y0] <;> (repeat' split) <;> first | rfl | omega | simp_all
theorem side_in (W : World) (B a : Nat) : EIn W B (sideT a) [.int .i64 (sideK a), .int .i64 (sideN a), .string ⟨#[]⟩, .string ⟨#[]⟩, .slice none 0 0] := EIn.of_form none 0 (by unfold sideN; split <;> exact ⟨by decide, by decide⟩) (fun k hk => by simp at hk)
/-- an operator of two sides at one's body. -/
theorem bin_any7 (W : World) (q g : Nat) {T : TypeId} (n : Int) (hn : I64 n) (a b : Nat) (ha : a < 3) (hb : b < 3) (hr : DsR W W.heap.size (some ⟨q, 0, none⟩) oneL)
    (hg : W.heap[g]? = some (.cells #[.int .i64 (sideK a), .int .i64 (sideN a), .string ⟨#[]⟩, .string ⟨#[]⟩, .slice none 0 0, .int .i64 (sideK b), .int .i64 (sideN b), .string ⟨#[]⟩, .string ⟨#[]⟩, .slice none 0 0] T (0, 0))) :
    Calls Try.prog 39 #[.agg #[.slice (some ⟨q, 0, none⟩) 1 1], .agg #[.int .i64 0, .int .i64 (-1)], .agg #[.int .i64 9, .int .i64 n, .string ⟨#[]⟩, .string ⟨#[]⟩, .slice (some ⟨g, 0, none⟩) 2 2]] W fun e w' => e = .returned (tc (binR n a b)) ∧ Hid (Below W.heap.size W w') := by
  have hin : EIn W W.heap.size (.mk 9 n ⟨#[]⟩ ⟨#[]⟩ [sideT a, sideT b]) [.int .i64 9, .int .i64 n, .string ⟨#[]⟩, .string ⟨#[]⟩, .slice (some ⟨g, 0, none⟩) 2 2] :=
    EIn.of_form (some ⟨g, 0, none⟩) 2 hn (row_of_block (Array.getElem?_eq_some_iff.1 hg).1 hg _ 5 rfl (fun k hk => by
      match k, hk with
      | 0, _ => exact side_in W _ a
      | 1, _ => exact side_in W _ b))
  have := Expr_body oneL (some ⟨q, 0, none⟩) 1 0 (-1) 9 n ⟨#[]⟩ ⟨#[]⟩ [sideT a, sideT b] (some ⟨g, 0, none⟩) 2 (binR n a b) W hr one_fit one_I64 one_nomethod one_body one_len hin (fun p N sb vb => by
    have h := exc_bin (bodyCX oneL (some ⟨q, 0, none⟩) 1 0 (-1) p N sb vb) (tyE (fieldsT oneL 0)) n ⟨#[]⟩ ⟨#[]⟩ [sideT a, sideT b] rfl (fun k hk => by
      match k, hk with
      | 0, _ => exact exc_leaf _ _ _ _ _ side_leaf
      | 1, _ => exact exc_leaf _ _ _ _ _ side_leaf)
    rw [bin_val _ n ha hb] at h
    exact h)
  exact this
set_option maxHeartbeats 40000000 in
set_option maxRecDepth 100000 in
theorem bins_walk (op0 a0 b0 : Int) (w : World)
    (hA : ∀ W, Calls Try.prog 34 #[] W fun e w' => e = .returned (.bool true) ∧ Below W.heap.size W w') :
    Calls Try.prog 10 #[.int .i64 op0, .int .i64 a0, .int .i64 b0] w fun e w' => e = .returned (.bool true) ∧ Below w.heap.size w w' := by
  have l1 := lowT_lt op0 (m := 18) (by decide)
  have l2 := lowT_lt a0 (m := 3) (by decide)
  have l3 := lowT_lt b0 (m := 3) (by decide)
  have K1 : Hid (∀ W, Calls Try.prog 14 #[.int .i64 op0, .int .i64 18] W fun e w' => e = .returned (.int .i64 (lowT op0 18 : Int)) ∧ w' = W) := fun W => low_at op0 18 (by decide) (by decide) W
  have K2 : Hid (∀ W, Calls Try.prog 14 #[.int .i64 a0, .int .i64 3] W fun e w' => e = .returned (.int .i64 (lowT a0 3 : Int)) ∧ w' = W) := fun W => low_at a0 3 (by decide) (by decide) W
  have K3 : Hid (∀ W, Calls Try.prog 14 #[.int .i64 b0, .int .i64 3] W fun e w' => e = .returned (.int .i64 (lowT b0 3 : Int)) ∧ w' = W) := fun W => low_at b0 3 (by decide) (by decide) W
  obtain ⟨r1, h1⟩ : ∃ r, r = lowT op0 18 := ⟨_, rfl⟩
  obtain ⟨r2, h2⟩ : ∃ r, r = lowT a0 3 := ⟨_, rfl⟩
  obtain ⟨r3, h3⟩ : ∃ r, r = lowT b0 3 := ⟨_, rfl⟩
  rw [← h1] at l1 K1
  rw [← h2] at l2 K2
  rw [← h3] at l3 K3
  clear h1 h2 h3
  go_enter Try.func10, Try.ntmps10
  go_wp2_with fail
  refine (K1.out _).mono ?_
  rintro e1 w1 ⟨rfl, rfl⟩
  go_wp2_with fail
  refine (K2.out _).mono ?_
  rintro e2 w2 ⟨rfl, rfl⟩
  go_wp2_with fail
  refine (K3.out _).mono ?_
  rintro e3 w0 ⟨rfl, rfl⟩
  clear K1 K2 K3
  go_wp2_with fail
  obtain ⟨n, hn⟩ : ∃ n : Int, n = (r1 : Int) - 1 := ⟨_, rfl⟩
  rw [← hn]
  have hn64 : I64 n := ⟨by omega, by omega⟩
  have hlo : -1 ≤ n := by omega
  have hhi : n ≤ 16 := by omega
  clear hn l1
  obtain ⟨R0, hR0⟩ : ∃ R0, R0 = w0.alloc (.cells #[.int .i64 1, .int .i64 3, .string ⟨#[]⟩, .string ⟨#[]⟩, .slice none 0 0, .int .i64 2, .int .i64 0, .string ⟨#[]⟩, .string ⟨#[]⟩, .slice none 0 0, .int .i64 4, .int .i64 0, .string ⟨#[]⟩, .string ⟨#[]⟩, .slice none 0 0] 66) := ⟨_, rfl⟩
  have hg0 : R0.heap[w0.heap.size]? = some (.cells #[.int .i64 1, .int .i64 3, .string ⟨#[]⟩, .string ⟨#[]⟩, .slice none 0 0, .int .i64 2, .int .i64 0, .string ⟨#[]⟩, .string ⟨#[]⟩, .slice none 0 0, .int .i64 4, .int .i64 0, .string ⟨#[]⟩, .string ⟨#[]⟩, .slice none 0 0] 66 (0, 0)) := by rw [hR0]; exact new1 _ _ _
  have HBW : Hid (Below w0.heap.size w0 R0) := by unfold Hid; rw [hR0]; exact far1 _ _
  obtain ⟨sb, hsb⟩ : ∃ s, s = w0.heap.size := ⟨_, rfl⟩
  rw [← hR0]
  rw [← hsb] at hg0 ⊢
  have HB0 : Hid (Below R0.heap.size R0 R0) := Below.refl _ _
  have hlts : sb < R0.heap.size := (Array.getElem?_eq_some_iff.1 hg0).1
  have KLT : Hid (∀ W q g, Hid (DsR W W.heap.size (some ⟨q, 0, none⟩) oneL) → Hid (W.heap[g]? = some (.cells #[.int .i64 (sideK r2), .int .i64 (sideN r2), .string ⟨#[]⟩, .string ⟨#[]⟩, .slice none 0 0, .int .i64 (sideK r3), .int .i64 (sideN r3), .string ⟨#[]⟩, .string ⟨#[]⟩, .slice none 0 0] 66 (0, 0))) → Hid (Below R0.heap.size R0 W) → Calls Try.prog 39 #[.agg #[.slice (some ⟨q, 0, none⟩) 1 1], .agg #[.int .i64 0, .int .i64 (-1)], .agg #[.int .i64 9, .int .i64 n, .string ⟨#[]⟩, .string ⟨#[]⟩, .slice (some ⟨g, 0, none⟩) 2 2]] W fun e w' => e = .returned (tc (binR n r2 r3)) ∧ Hid (Below R0.heap.size R0 w') ∧ Hid (Below W.heap.size W w')) := fun W q g hd hg hb => (bin_any7 W q g n hn64 r2 r3 l2 l3 hd.out hg.out).mono fun e w' ⟨h1, h3⟩ => ⟨h1, hb.out.trans (h3.out.mono hb.out.size), h3⟩
  have CX : Hid (∀ W, Hid (Below R0.heap.size R0 W) → W.cell? ⟨sb, r2 * 5, none⟩ = some (.int .i64 (sideK r2)) ∧ W.cell? ⟨sb, r2 * 5 + 1, none⟩ = some (.int .i64 (sideN r2)) ∧ W.cell? ⟨sb, r2 * 5 + 2, none⟩ = some (.string ⟨#[]⟩) ∧ W.cell? ⟨sb, r2 * 5 + 3, none⟩ = some (.string ⟨#[]⟩) ∧ W.cell? ⟨sb, r2 * 5 + 4, none⟩ = some (.slice none 0 0) ∧ W.cell? ⟨sb, r3 * 5, none⟩ = some (.int .i64 (sideK r3)) ∧ W.cell? ⟨sb, r3 * 5 + 1, none⟩ = some (.int .i64 (sideN r3)) ∧ W.cell? ⟨sb, r3 * 5 + 2, none⟩ = some (.string ⟨#[]⟩) ∧ W.cell? ⟨sb, r3 * 5 + 3, none⟩ = some (.string ⟨#[]⟩) ∧ W.cell? ⟨sb, r3 * 5 + 4, none⟩ = some (.slice none 0 0)) := fun W h => by
    have q := (h.out.block _ hlts).trans hg0
    have h3 : ∀ x : Nat, x < 3 → x = 0 ∨ x = 1 ∨ x = 2 := fun x hx => by omega
    have c : ∀ x : Nat, x < 3 → W.cell? ⟨sb, x * 5, none⟩ = some (.int .i64 (sideK x)) ∧ W.cell? ⟨sb, x * 5 + 1, none⟩ = some (.int .i64 (sideN x)) ∧ W.cell? ⟨sb, x * 5 + 2, none⟩ = some (.string ⟨#[]⟩) ∧ W.cell? ⟨sb, x * 5 + 3, none⟩ = some (.string ⟨#[]⟩) ∧ W.cell? ⟨sb, x * 5 + 4, none⟩ = some (.slice none 0 0) := fun x hx => by
      rcases h3 x hx with rfl | rfl | rfl
      · exact ⟨(cell_of_row _ _ 0 _ _ _ q).trans rfl, (cell_of_row _ _ 1 _ _ _ q).trans rfl, (cell_of_row _ _ 2 _ _ _ q).trans rfl, (cell_of_row _ _ 3 _ _ _ q).trans rfl, (cell_of_row _ _ 4 _ _ _ q).trans rfl⟩
      · exact ⟨(cell_of_row _ _ 5 _ _ _ q).trans rfl, (cell_of_row _ _ 6 _ _ _ q).trans rfl, (cell_of_row _ _ 7 _ _ _ q).trans rfl, (cell_of_row _ _ 8 _ _ _ q).trans rfl, (cell_of_row _ _ 9 _ _ _ q).trans rfl⟩
      · exact ⟨(cell_of_row _ _ 10 _ _ _ q).trans rfl, (cell_of_row _ _ 11 _ _ _ q).trans rfl, (cell_of_row _ _ 12 _ _ _ q).trans rfl, (cell_of_row _ _ 13 _ _ _ q).trans rfl, (cell_of_row _ _ 14 _ _ _ q).trans rfl⟩
    obtain ⟨p0, p1, p2, p3, p4⟩ := c r2 l2
    obtain ⟨s0, s1, s2, s3, s4⟩ := c r3 l3
    exact ⟨p0, p1, p2, p3, p4, s0, s1, s2, s3, s4⟩
  obtain ⟨ka, hka⟩ : ∃ k, k = sideK r2 := ⟨_, rfl⟩
  obtain ⟨na, hna⟩ : ∃ k, k = sideN r2 := ⟨_, rfl⟩
  obtain ⟨kb, hkb⟩ : ∃ k, k = sideK r3 := ⟨_, rfl⟩
  obtain ⟨nb, hnb⟩ : ∃ k, k = sideN r3 := ⟨_, rfl⟩
  rw [← hka, ← hna, ← hkb, ← hnb] at KLT CX
  clear hka hna hkb hnb
  obtain ⟨r, hr⟩ : ∃ r, r = binR n r2 r3 := ⟨_, rfl⟩
  rw [← hr] at KLT
  unfold binR at hr
  obtain ⟨kd, hkd⟩ : ∃ k, k = binK n r2 r3 := ⟨_, rfl⟩
  rw [← hkd] at hr
  obtain ⟨⟨rk, rl, rh, rn⟩, rc⟩ := r
  unfold tc ycells at KLT
  simp only at KLT
  have HRR := Lib.hid hr
  have HKD := Lib.hid hkd
  have CXP : Hid (∀ W g a0 a1 a2 a3, Hid (Below R0.heap.size R0 W) → R0.heap.size ≤ g → (put4 W g a0 a1 a2 a3).cell? ⟨sb, r2 * 5, none⟩ = some (.int .i64 ka) ∧ (put4 W g a0 a1 a2 a3).cell? ⟨sb, r2 * 5 + 1, none⟩ = some (.int .i64 na) ∧ (put4 W g a0 a1 a2 a3).cell? ⟨sb, r2 * 5 + 2, none⟩ = some (.string ⟨#[]⟩) ∧ (put4 W g a0 a1 a2 a3).cell? ⟨sb, r2 * 5 + 3, none⟩ = some (.string ⟨#[]⟩) ∧ (put4 W g a0 a1 a2 a3).cell? ⟨sb, r2 * 5 + 4, none⟩ = some (.slice none 0 0) ∧ (put4 W g a0 a1 a2 a3).cell? ⟨sb, r3 * 5, none⟩ = some (.int .i64 kb) ∧ (put4 W g a0 a1 a2 a3).cell? ⟨sb, r3 * 5 + 1, none⟩ = some (.int .i64 nb) ∧ (put4 W g a0 a1 a2 a3).cell? ⟨sb, r3 * 5 + 2, none⟩ = some (.string ⟨#[]⟩) ∧ (put4 W g a0 a1 a2 a3).cell? ⟨sb, r3 * 5 + 3, none⟩ = some (.string ⟨#[]⟩) ∧ (put4 W g a0 a1 a2 a3).cell? ⟨sb, r3 * 5 + 4, none⟩ = some (.slice none 0 0)) := fun W g a0 a1 a2 a3 hb hg => CX.out _ (put4_below hb.out hg _ _ _ _)
  have KO : Hid (∀ W, Hid (Below R0.heap.size R0 W) → Calls Try.prog 40 #[] W fun e w' => ∃ q : Nat, e = .returned (.agg #[.slice (some ⟨q, 0, none⟩) 1 1]) ∧ Hid (DsR w' w'.heap.size (some ⟨q, 0, none⟩) oneL) ∧ Hid (Below R0.heap.size R0 w') ∧ Hid (Below W.heap.size W w')) := fun W hb => (one_any W).mono fun e w' ⟨q, h1, h2, h3⟩ => ⟨q, h1, h2, hb.out.trans (h3.out.mono hb.out.size), h3⟩
  have KY : Hid (∀ W, Hid (Below R0.heap.size R0 W) → Calls Try.prog 41 #[] W fun e w' => e = .returned (.agg #[.int .i64 0, .int .i64 (-1)]) ∧ Hid (Below R0.heap.size R0 w') ∧ Hid (Below W.heap.size W w')) := fun W hb => (body_any W).mono fun e w' ⟨h1, h3⟩ => ⟨h1, hb.out.trans (h3.out.mono hb.out.size), h3⟩
  have KA : Hid (∀ W, Hid (Below w0.heap.size w0 W) → Calls Try.prog 34 #[] W fun e w' => e = .returned (.bool true) ∧ Hid (Below w0.heap.size w0 w')) := fun W hb => (hA W).mono fun e w' hh => ⟨hh.1, hb.out.trans (hh.2.mono hb.out.size)⟩
  have i2 : (0 : Int) ≤ (r2 : Int) := by omega
  have i3 : (0 : Int) ≤ (r3 : Int) := by omega
  have j2 : (r2 : Int) < 3 := by omega
  have j3 : (r3 : Int) < 3 := by omega
  have L2 := Lib.hid l2
  have L3 := Lib.hid l3
  have HLO := Lib.hid hlo
  have HHI := Lib.hid hhi
  clear hr hkd hR0 hg0 hsb hlts hn64 hA l2 l3 hlo hhi
  rename_i K1 hK1
  refine (fun (MID1 : Hid (∀ (q sl tb : Nat) (W : World), Hid (Below R0.heap.size R0 W) → Hid (W.heap[tb]? = some (.cells #[.int .i64 rk, .int .i64 rl, .int .i64 rh, .string rn] 50 (0, 0))) → K1 { tmps := #[.int .i64 n, .int .i64 (r2 : Int), .int .i64 (r3 : Int), undef, undef, undef, .bool false, .slice (some ⟨sb, 0, none⟩) 3 3, .pointer (some ⟨tb, 0, none⟩), .int .i64 rc, undef, .int .i64 op0, .int .i64 (r1 : Int), .int .i64 n, .int .i64 a0, .int .i64 (r2 : Int), .int .i64 b0, .int .i64 (r3 : Int), .agg #[.int .i64 1, .int .i64 3, .string ⟨#[]⟩, .string ⟨#[]⟩, .slice none 0 0], .agg #[.int .i64 2, .int .i64 0, .string ⟨#[]⟩, .string ⟨#[]⟩, .slice none 0 0], .agg #[.int .i64 4, .int .i64 0, .string ⟨#[]⟩, .string ⟨#[]⟩, .slice none 0 0], .slice (some ⟨sb, 0, none⟩) 3 3, .tuple #[.agg #[.int .i64 rk, .int .i64 rl, .int .i64 rh, .string rn], .int .i64 rc], .agg #[.slice (some ⟨q, 0, none⟩) 1 1], .agg #[.int .i64 0, .int .i64 (-1)], .int .i64 n, .slice (some ⟨sb, 0, none⟩) 3 3, .int .i64 (r2 : Int), .pointer (some ⟨sb, r2 * 5, none⟩), .agg #[.int .i64 ka, .int .i64 na, .string ⟨#[]⟩, .string ⟨#[]⟩, .slice none 0 0], .slice (some ⟨sb, 0, none⟩) 3 3, .int .i64 (r3 : Int), .pointer (some ⟨sb, r3 * 5, none⟩), .agg #[.int .i64 kb, .int .i64 nb, .string ⟨#[]⟩, .string ⟨#[]⟩, .slice none 0 0], .slice (some ⟨sl, 0, none⟩) 2 2, .agg #[.int .i64 9, .int .i64 n, .string ⟨#[]⟩, .string ⟨#[]⟩, .slice (some ⟨sl, 0, none⟩) 2 2], .tuple #[.agg #[.int .i64 rk, .int .i64 rl, .int .i64 rh, .string rn], .int .i64 rc], .agg #[.int .i64 rk, .int .i64 rl, .int .i64 rh, .string rn], .int .i64 rc, undef, undef, undef, undef, undef, undef, undef, undef, undef, undef, undef, undef, undef, undef, undef, undef, undef, undef, undef, undef, undef, undef, undef, undef, undef, undef, undef, undef, undef, undef, undef, undef, undef, undef, undef, undef, undef, undef, undef, undef, undef, undef, undef, undef, undef, undef, undef, undef, undef, undef, undef, undef, undef, undef, undef, undef, undef, undef, undef, undef, undef, undef, undef, undef, undef, undef, undef, undef, undef], defers := [] } W)) => ?g1) ?g2
  case g1 =>
    clear hK1
    clear HRR HKD L2 L3 HLO HHI KA HBW
    go_region_held3 (fun w' => w'.cell? ⟨sb, r2 * 5, none⟩ = some (.int .i64 ka) ∧ w'.cell? ⟨sb, r2 * 5 + 1, none⟩ = some (.int .i64 na) ∧ w'.cell? ⟨sb, r2 * 5 + 2, none⟩ = some (.string ⟨#[]⟩) ∧ w'.cell? ⟨sb, r2 * 5 + 3, none⟩ = some (.string ⟨#[]⟩) ∧ w'.cell? ⟨sb, r2 * 5 + 4, none⟩ = some (.slice none 0 0) ∧ w'.cell? ⟨sb, r3 * 5, none⟩ = some (.int .i64 kb) ∧ w'.cell? ⟨sb, r3 * 5 + 1, none⟩ = some (.int .i64 nb) ∧ w'.cell? ⟨sb, r3 * 5 + 2, none⟩ = some (.string ⟨#[]⟩) ∧ w'.cell? ⟨sb, r3 * 5 + 3, none⟩ = some (.string ⟨#[]⟩) ∧ w'.cell? ⟨sb, r3 * 5 + 4, none⟩ = some (.slice none 0 0))
      (first
        | (with_reducible refine CXP.out w3 _ _ _ _ _ B3 ?_; (first | exact Nat.le_refl _ | exact Nat.le_succ _ | exact B1.out.size | exact Nat.le_succ_of_le B1.out.size | exact B2.out.size | exact Nat.le_succ_of_le B2.out.size))
        | (with_reducible refine CX.out _ ?_; unfold Hid; (repeat (first | with_reducible exact B3.out | with_reducible exact B2.out | with_reducible exact B1.out | with_reducible exact HB0.out | with_reducible refine gal ?_ _ | with_reducible refine Below.drew ?_)); done)
        | (with_reducible refine CX.out _ ?_; unfold Hid; (repeat (first | with_reducible exact B2.out | with_reducible exact B1.out | with_reducible exact HB0.out | with_reducible refine gal ?_ _ | with_reducible refine Below.drew ?_)); done)
        | (with_reducible refine CX.out _ ?_; unfold Hid; (repeat (first | with_reducible exact B1.out | with_reducible exact HB0.out | with_reducible refine gal ?_ _ | with_reducible refine Below.drew ?_)); done)
        | (with_reducible refine CX.out _ ?_; unfold Hid; (repeat (first  | with_reducible exact HB0.out | with_reducible refine gal ?_ _ | with_reducible refine Below.drew ?_)); done))
      (first
        | (go_at_call 40; refine (KO.out _ ?_).mono ?_; (focus (unfold Hid; (repeat (first  | with_reducible exact HB0.out | with_reducible refine gal ?_ _ | with_reducible refine Below.drew ?_)); done)); rintro e1 w1 ⟨q, rfl, D1, B1, G1⟩)
        | (go_at_call 41; refine (KY.out _ ?_).mono ?_; (focus (unfold Hid; (repeat (first | with_reducible exact B1.out | with_reducible exact HB0.out | with_reducible refine gal ?_ _ | with_reducible refine Below.drew ?_)); done)); rintro e2 w2 ⟨rfl, B2, G2⟩)
        | (go_at_call 39; refine (KLT.out _ q _ ?_ ?_ ?_).mono ?_; (focus (with_reducible refine dsr_far D1 ?_; (repeat (first | with_reducible exact Below.refl _ _ | with_reducible refine gal ?_ _ | with_reducible refine Below.drew ?_ | with_reducible refine gtrans ?_ G2.out)); done)); (focus (first | (with_reducible refine slB R0 #[.int .i64 ka, .int .i64 na, .string ⟨#[]⟩, .string ⟨#[]⟩, .slice none 0 0, .int .i64 kb, .int .i64 nb, .string ⟨#[]⟩, .string ⟨#[]⟩, .slice none 0 0] ?_ ?_; (focus (first | rfl | simp)); (focus ((repeat (first | with_reducible exact Below.refl _ _ | with_reducible refine gal ?_ _ | with_reducible refine Below.drew ?_ | with_reducible refine gtrans ?_ G2.out | with_reducible refine gtrans ?_ G1.out)); done))) | (with_reducible refine slB (R0.alloc (.cells y0cells 50)) #[.int .i64 ka, .int .i64 na, .string ⟨#[]⟩, .string ⟨#[]⟩, .slice none 0 0, .int .i64 kb, .int .i64 nb, .string ⟨#[]⟩, .string ⟨#[]⟩, .slice none 0 0] ?_ ?_; (focus (first | rfl | simp)); (focus ((repeat (first | with_reducible exact Below.refl _ _ | with_reducible refine gal ?_ _ | with_reducible refine Below.drew ?_ | with_reducible refine gtrans ?_ G2.out | with_reducible refine gtrans ?_ G1.out)); done))) | (with_reducible refine slB w1 #[.int .i64 ka, .int .i64 na, .string ⟨#[]⟩, .string ⟨#[]⟩, .slice none 0 0, .int .i64 kb, .int .i64 nb, .string ⟨#[]⟩, .string ⟨#[]⟩, .slice none 0 0] ?_ ?_; (focus (first | rfl | simp)); (focus ((repeat (first | with_reducible exact Below.refl _ _ | with_reducible refine gal ?_ _ | with_reducible refine Below.drew ?_ | with_reducible refine gtrans ?_ G2.out | with_reducible refine gtrans ?_ G1.out)); done))) | (with_reducible refine slB (w1.alloc (.cells y0cells 50)) #[.int .i64 ka, .int .i64 na, .string ⟨#[]⟩, .string ⟨#[]⟩, .slice none 0 0, .int .i64 kb, .int .i64 nb, .string ⟨#[]⟩, .string ⟨#[]⟩, .slice none 0 0] ?_ ?_; (focus (first | rfl | simp)); (focus ((repeat (first | with_reducible exact Below.refl _ _ | with_reducible refine gal ?_ _ | with_reducible refine Below.drew ?_ | with_reducible refine gtrans ?_ G2.out | with_reducible refine gtrans ?_ G1.out)); done))) | (with_reducible refine slB w2 #[.int .i64 ka, .int .i64 na, .string ⟨#[]⟩, .string ⟨#[]⟩, .slice none 0 0, .int .i64 kb, .int .i64 nb, .string ⟨#[]⟩, .string ⟨#[]⟩, .slice none 0 0] ?_ ?_; (focus (first | rfl | simp)); (focus ((repeat (first | with_reducible exact Below.refl _ _ | with_reducible refine gal ?_ _ | with_reducible refine Below.drew ?_ | with_reducible refine gtrans ?_ G2.out | with_reducible refine gtrans ?_ G1.out)); done))) | (with_reducible refine slB (w2.alloc (.cells y0cells 50)) #[.int .i64 ka, .int .i64 na, .string ⟨#[]⟩, .string ⟨#[]⟩, .slice none 0 0, .int .i64 kb, .int .i64 nb, .string ⟨#[]⟩, .string ⟨#[]⟩, .slice none 0 0] ?_ ?_; (focus (first | rfl | simp)); (focus ((repeat (first | with_reducible exact Below.refl _ _ | with_reducible refine gal ?_ _ | with_reducible refine Below.drew ?_ | with_reducible refine gtrans ?_ G2.out | with_reducible refine gtrans ?_ G1.out)); done))))); (focus (unfold Hid; (repeat (first | with_reducible exact B2.out | with_reducible exact B1.out | with_reducible exact HB0.out | with_reducible refine gal ?_ _ | with_reducible refine Below.drew ?_)); done)); rintro e3 w3 ⟨rfl, B3, G3⟩; (first | (refine tUse R0 w3 R0.heap.size ?_ ?_ ?_; (focus (first | rfl | simp)); (focus ((repeat (first | with_reducible exact Below.refl _ _ | with_reducible refine gal ?_ _ | with_reducible refine Below.drew ?_ | with_reducible refine gtrans ?_ G3.out | with_reducible refine gtrans ?_ G2.out | with_reducible refine gtrans ?_ G1.out)); done)); intro z0 z1 z2 z3 f0 f1 f2 f3 HT3) | (refine tUse w1 w3 w1.heap.size ?_ ?_ ?_; (focus (first | rfl | simp)); (focus ((repeat (first | with_reducible exact Below.refl _ _ | with_reducible refine gal ?_ _ | with_reducible refine Below.drew ?_ | with_reducible refine gtrans ?_ G3.out | with_reducible refine gtrans ?_ G2.out | with_reducible refine gtrans ?_ G1.out)); done)); intro z0 z1 z2 z3 f0 f1 f2 f3 HT3) | (refine tUse w2 w3 w2.heap.size ?_ ?_ ?_; (focus (first | rfl | simp)); (focus ((repeat (first | with_reducible exact Below.refl _ _ | with_reducible refine gal ?_ _ | with_reducible refine Below.drew ?_ | with_reducible refine gtrans ?_ G3.out | with_reducible refine gtrans ?_ G2.out | with_reducible refine gtrans ?_ G1.out)); done)); intro z0 z1 z2 z3 f0 f1 f2 f3 HT3) | (refine tUse (R0.alloc (.cells #[.int .i64 ka, .int .i64 na, .string ⟨#[]⟩, .string ⟨#[]⟩, .slice none 0 0, .int .i64 kb, .int .i64 nb, .string ⟨#[]⟩, .string ⟨#[]⟩, .slice none 0 0] 66)) w3 (R0.heap.size + 1) ?_ ?_ ?_; (focus (first | rfl | simp)); (focus ((repeat (first | with_reducible exact Below.refl _ _ | with_reducible refine gal ?_ _ | with_reducible refine Below.drew ?_ | with_reducible refine gtrans ?_ G3.out | with_reducible refine gtrans ?_ G2.out | with_reducible refine gtrans ?_ G1.out)); done)); intro z0 z1 z2 z3 f0 f1 f2 f3 HT3) | (refine tUse (w1.alloc (.cells #[.int .i64 ka, .int .i64 na, .string ⟨#[]⟩, .string ⟨#[]⟩, .slice none 0 0, .int .i64 kb, .int .i64 nb, .string ⟨#[]⟩, .string ⟨#[]⟩, .slice none 0 0] 66)) w3 (w1.heap.size + 1) ?_ ?_ ?_; (focus (first | rfl | simp)); (focus ((repeat (first | with_reducible exact Below.refl _ _ | with_reducible refine gal ?_ _ | with_reducible refine Below.drew ?_ | with_reducible refine gtrans ?_ G3.out | with_reducible refine gtrans ?_ G2.out | with_reducible refine gtrans ?_ G1.out)); done)); intro z0 z1 z2 z3 f0 f1 f2 f3 HT3) | (refine tUse (w2.alloc (.cells #[.int .i64 ka, .int .i64 na, .string ⟨#[]⟩, .string ⟨#[]⟩, .slice none 0 0, .int .i64 kb, .int .i64 nb, .string ⟨#[]⟩, .string ⟨#[]⟩, .slice none 0 0] 66)) w3 (w2.heap.size + 1) ?_ ?_ ?_; (focus (first | rfl | simp)); (focus ((repeat (first | with_reducible exact Below.refl _ _ | with_reducible refine gal ?_ _ | with_reducible refine Below.drew ?_ | with_reducible refine gtrans ?_ G3.out | with_reducible refine gtrans ?_ G2.out | with_reducible refine gtrans ?_ G1.out)); done)); intro z0 z1 z2 z3 f0 f1 f2 f3 HT3) | skip)))
    all_goals
      change K1 _ _
      first
        | with_reducible exact MID1.out q _ _ _ (Lib.hid (gal B3.out _)) (Lib.hid (new1 _ _ _))
        | (with_reducible refine MID1.out q _ _ _ ?_ (Lib.hid (put4_at HT3.out _ _ _ _)); (focus (unfold Hid; with_reducible refine put4_below B3.out ?_ _ _ _ _; (first | exact Nat.le_refl _ | exact Nat.le_succ _ | exact B1.out.size | exact Nat.le_succ_of_le B1.out.size | exact B2.out.size | exact Nat.le_succ_of_le B2.out.size))))
  case g2 =>
    intro q sl tb W HB HT
    refine hK1 _ _ ?_
    clear hK1
    have HW : Hid (Below w0.heap.size w0 W) := HBW.out.trans (HB.out.mono HBW.out.size)
    have h0 : kd = 0 → rk = 0 ∧ rl = 0 ∧ rh = 0 ∧ rn = ⟨#[]⟩ ∧ rc = 14 := fun e => by
      have h := HRR.out
      rw [if_pos e] at h
      simp only [Y0, Prod.mk.injEq, YT.mk.injEq] at h
      exact ⟨h.1.1, h.1.2.1, h.1.2.2.1, h.1.2.2.2, h.2⟩
    have h1 : kd ≠ 0 → rk = kd ∧ rl = 0 ∧ rh = 0 ∧ rn = ⟨#[]⟩ ∧ rc = 0 := fun e => by
      have h := HRR.out
      rw [if_neg e] at h
      simp only [plainT, Prod.mk.injEq, YT.mk.injEq] at h
      exact ⟨h.1.1, h.1.2.1, h.1.2.2.1, h.1.2.2.2, h.2⟩
    have H0 := Lib.hid h0
    have H1 := Lib.hid h1
    have hkd := HKD.out
    have hlo := HLO.out
    have hhi := HHI.out
    have l2 := L2.out
    unfold binK at hkd
    clear KLT CX CXP KO KY HB HRR HKD h0 h1 i2 i3 j2 j3
    by_cases he : r2 = r3
    · subst he
      have hne : ((r2 : Int) != (r2 : Int)) = false := by simp
      by_cases a0 : r2 = 0
      · have z0 : ((r2 : Int) == 0) = true := by simp [a0]
        have z1 : ((r2 : Int) == 1) = false := eq_no (by omega)
        by_cases hc : n < 1
        · skip
          have g1 : n < 1 := by omega
          have g8 : n < 8 := by omega
          have g12 : n < 12 := by omega
          have m5 : n ≤ 5 := by omega
          have m11 : n ≤ 11 := by omega
          have m14 : n ≤ 14 := by omega
          have q6 : (n == 6) = false := eq_no (by omega)
          have q7 : (n == 7) = false := eq_no (by omega)
          have hk : kd = 0 := by
            rw [hkd, if_neg (by omega)]
            rw [if_neg (by omega)]
            rw [if_neg (by omega)]
          obtain ⟨rfl, rfl, rfl, rfl, rfl⟩ := H0.out (by omega)
          clear hc
          subst hk
          clear hkd hlo hhi l2
          obtain ⟨⟨t0, t1, t2, t3⟩, -⟩ := four HT.out
          clear HT H0 H1 L2 L3 HLO HHI
          go_wp2_with fail
          refine (KA.out _ (by first | exact HW | exact Lib.hid HW.out.drew)).mono ?_
          rintro e9 w9 ⟨rfl, H9⟩
          go_wp2_with fail
          go_ret
          exact ⟨rfl, H9.out⟩
        by_cases hc : 1 ≤ n ∧ n ≤ 5
        · skip
          have g1 : (1 : Int) ≤ n := by omega
          have g8 : n < 8 := by omega
          have g12 : n < 12 := by omega
          have m5 : n ≤ 5 := by omega
          have m11 : n ≤ 11 := by omega
          have m14 : n ≤ 14 := by omega
          have q6 : (n == 6) = false := eq_no (by omega)
          have q7 : (n == 7) = false := eq_no (by omega)
          have hk : kd = 1 := by
            rw [hkd, if_neg (by omega)]
            rw [if_pos (by omega)]
          obtain ⟨rfl, rfl, rfl, rfl, rfl⟩ := H1.out (by omega)
          clear hc
          subst hk
          clear hkd hlo hhi l2
          obtain ⟨⟨t0, t1, t2, t3⟩, -⟩ := four HT.out
          clear HT H0 H1 L2 L3 HLO HHI
          go_wp2_with fail
          refine (KA.out _ (by first | exact HW | exact Lib.hid HW.out.drew)).mono ?_
          rintro e9 w9 ⟨rfl, H9⟩
          go_wp2_with fail
          go_ret
          exact ⟨rfl, H9.out⟩
        by_cases hc : n = 6
        · skip
          have g1 : (1 : Int) ≤ n := by omega
          have g8 : n < 8 := by omega
          have g12 : n < 12 := by omega
          have m5 : (5 : Int) < n := by omega
          have m11 : n ≤ 11 := by omega
          have m14 : n ≤ 14 := by omega
          have q6 : (n == 6) = true := by simp [hc]
          have q7 : (n == 7) = false := eq_no (by omega)
          have hk : kd = 2 := by
            rw [hkd, if_neg (by omega)]
            rw [if_neg (by omega)]
            rw [if_pos (by omega)]
          obtain ⟨rfl, rfl, rfl, rfl, rfl⟩ := H1.out (by omega)
          clear hc
          subst hk
          clear hkd hlo hhi l2
          obtain ⟨⟨t0, t1, t2, t3⟩, -⟩ := four HT.out
          clear HT H0 H1 L2 L3 HLO HHI
          go_wp2_with fail
          refine (KA.out _ (by first | exact HW | exact Lib.hid HW.out.drew)).mono ?_
          rintro e9 w9 ⟨rfl, H9⟩
          go_wp2_with fail
          go_ret
          exact ⟨rfl, H9.out⟩
        by_cases hc : n = 7
        · skip
          have g1 : (1 : Int) ≤ n := by omega
          have g8 : n < 8 := by omega
          have g12 : n < 12 := by omega
          have m5 : (5 : Int) < n := by omega
          have m11 : n ≤ 11 := by omega
          have m14 : n ≤ 14 := by omega
          have q6 : (n == 6) = false := eq_no (by omega)
          have q7 : (n == 7) = true := by simp [hc]
          have hk : kd = 2 := by
            rw [hkd, if_neg (by omega)]
            rw [if_neg (by omega)]
            rw [if_pos (by omega)]
          obtain ⟨rfl, rfl, rfl, rfl, rfl⟩ := H1.out (by omega)
          clear hc
          subst hk
          clear hkd hlo hhi l2
          obtain ⟨⟨t0, t1, t2, t3⟩, -⟩ := four HT.out
          clear HT H0 H1 L2 L3 HLO HHI
          go_wp2_with fail
          refine (KA.out _ (by first | exact HW | exact Lib.hid HW.out.drew)).mono ?_
          rintro e9 w9 ⟨rfl, H9⟩
          go_wp2_with fail
          go_ret
          exact ⟨rfl, H9.out⟩
        by_cases hc : 8 ≤ n ∧ n ≤ 11
        · skip
          have g1 : (1 : Int) ≤ n := by omega
          have g8 : (8 : Int) ≤ n := by omega
          have g12 : n < 12 := by omega
          have m5 : (5 : Int) < n := by omega
          have m11 : n ≤ 11 := by omega
          have m14 : n ≤ 14 := by omega
          have q6 : (n == 6) = false := eq_no (by omega)
          have q7 : (n == 7) = false := eq_no (by omega)
          have hk : kd = 2 := by
            rw [hkd, if_neg (by omega)]
            rw [if_neg (by omega)]
            rw [if_pos (by omega)]
          obtain ⟨rfl, rfl, rfl, rfl, rfl⟩ := H1.out (by omega)
          clear hc
          subst hk
          clear hkd hlo hhi l2
          obtain ⟨⟨t0, t1, t2, t3⟩, -⟩ := four HT.out
          clear HT H0 H1 L2 L3 HLO HHI
          go_wp2_with fail
          refine (KA.out _ (by first | exact HW | exact Lib.hid HW.out.drew)).mono ?_
          rintro e9 w9 ⟨rfl, H9⟩
          go_wp2_with fail
          go_ret
          exact ⟨rfl, H9.out⟩
        by_cases hc : 12 ≤ n ∧ n ≤ 14
        · skip
          have g1 : (1 : Int) ≤ n := by omega
          have g8 : (8 : Int) ≤ n := by omega
          have g12 : (12 : Int) ≤ n := by omega
          have m5 : (5 : Int) < n := by omega
          have m11 : (11 : Int) < n := by omega
          have m14 : n ≤ 14 := by omega
          have q6 : (n == 6) = false := eq_no (by omega)
          have q7 : (n == 7) = false := eq_no (by omega)
          have hk : kd = 0 := by
            rw [hkd, if_neg (by omega)]
            rw [if_neg (by omega)]
            rw [if_neg (by omega)]
          obtain ⟨rfl, rfl, rfl, rfl, rfl⟩ := H0.out (by omega)
          clear hc
          subst hk
          clear hkd hlo hhi l2
          obtain ⟨⟨t0, t1, t2, t3⟩, -⟩ := four HT.out
          clear HT H0 H1 L2 L3 HLO HHI
          go_wp2_with fail
          refine (KA.out _ (by first | exact HW | exact Lib.hid HW.out.drew)).mono ?_
          rintro e9 w9 ⟨rfl, H9⟩
          go_wp2_with fail
          go_ret
          exact ⟨rfl, H9.out⟩
        have g1 : (1 : Int) ≤ n := by omega
        have g8 : (8 : Int) ≤ n := by omega
        have g12 : (12 : Int) ≤ n := by omega
        have m5 : (5 : Int) < n := by omega
        have m11 : (11 : Int) < n := by omega
        have m14 : (14 : Int) < n := by omega
        have q6 : (n == 6) = false := eq_no (by omega)
        have q7 : (n == 7) = false := eq_no (by omega)
        have hk : kd = 0 := by
          rw [hkd, if_neg (by omega)]
          rw [if_neg (by omega)]
          rw [if_neg (by omega)]
        obtain ⟨rfl, rfl, rfl, rfl, rfl⟩ := H0.out (by omega)
        subst hk
        clear hkd hlo hhi l2
        obtain ⟨⟨t0, t1, t2, t3⟩, -⟩ := four HT.out
        clear HT H0 H1 L2 L3 HLO HHI
        go_wp2_with fail
        refine (KA.out _ (by first | exact HW | exact Lib.hid HW.out.drew)).mono ?_
        rintro e9 w9 ⟨rfl, H9⟩
        go_wp2_with fail
        go_ret
        exact ⟨rfl, H9.out⟩
      have z0 : ((r2 : Int) == 0) = false := eq_no (by omega)
      by_cases a1 : r2 = 1
      · have z1 : ((r2 : Int) == 1) = true := by simp [a1]
        by_cases hc : n < 1
        · skip
          have g1 : n < 1 := by omega
          have g8 : n < 8 := by omega
          have g12 : n < 12 := by omega
          have m5 : n ≤ 5 := by omega
          have m11 : n ≤ 11 := by omega
          have m14 : n ≤ 14 := by omega
          have q6 : (n == 6) = false := eq_no (by omega)
          have q7 : (n == 7) = false := eq_no (by omega)
          have hk : kd = 0 := by
            rw [hkd, if_neg (by omega)]
            rw [if_neg (by omega)]
            rw [if_neg (by omega)]
          obtain ⟨rfl, rfl, rfl, rfl, rfl⟩ := H0.out (by omega)
          clear hc
          subst hk
          clear hkd hlo hhi l2
          obtain ⟨⟨t0, t1, t2, t3⟩, -⟩ := four HT.out
          clear HT H0 H1 L2 L3 HLO HHI
          go_wp2_with fail
          refine (KA.out _ (by first | exact HW | exact Lib.hid HW.out.drew)).mono ?_
          rintro e9 w9 ⟨rfl, H9⟩
          go_wp2_with fail
          go_ret
          exact ⟨rfl, H9.out⟩
        by_cases hc : 1 ≤ n ∧ n ≤ 5
        · skip
          have g1 : (1 : Int) ≤ n := by omega
          have g8 : n < 8 := by omega
          have g12 : n < 12 := by omega
          have m5 : n ≤ 5 := by omega
          have m11 : n ≤ 11 := by omega
          have m14 : n ≤ 14 := by omega
          have q6 : (n == 6) = false := eq_no (by omega)
          have q7 : (n == 7) = false := eq_no (by omega)
          have hk : kd = 0 := by
            rw [hkd, if_neg (by omega)]
            rw [if_neg (by omega)]
            rw [if_neg (by omega)]
          obtain ⟨rfl, rfl, rfl, rfl, rfl⟩ := H0.out (by omega)
          clear hc
          subst hk
          clear hkd hlo hhi l2
          obtain ⟨⟨t0, t1, t2, t3⟩, -⟩ := four HT.out
          clear HT H0 H1 L2 L3 HLO HHI
          go_wp2_with fail
          refine (KA.out _ (by first | exact HW | exact Lib.hid HW.out.drew)).mono ?_
          rintro e9 w9 ⟨rfl, H9⟩
          go_wp2_with fail
          go_ret
          exact ⟨rfl, H9.out⟩
        by_cases hc : n = 6
        · skip
          have g1 : (1 : Int) ≤ n := by omega
          have g8 : n < 8 := by omega
          have g12 : n < 12 := by omega
          have m5 : (5 : Int) < n := by omega
          have m11 : n ≤ 11 := by omega
          have m14 : n ≤ 14 := by omega
          have q6 : (n == 6) = true := by simp [hc]
          have q7 : (n == 7) = false := eq_no (by omega)
          have hk : kd = 2 := by
            rw [hkd, if_neg (by omega)]
            rw [if_neg (by omega)]
            rw [if_pos (by omega)]
          obtain ⟨rfl, rfl, rfl, rfl, rfl⟩ := H1.out (by omega)
          clear hc
          subst hk
          clear hkd hlo hhi l2
          obtain ⟨⟨t0, t1, t2, t3⟩, -⟩ := four HT.out
          clear HT H0 H1 L2 L3 HLO HHI
          go_wp2_with fail
          refine (KA.out _ (by first | exact HW | exact Lib.hid HW.out.drew)).mono ?_
          rintro e9 w9 ⟨rfl, H9⟩
          go_wp2_with fail
          go_ret
          exact ⟨rfl, H9.out⟩
        by_cases hc : n = 7
        · skip
          have g1 : (1 : Int) ≤ n := by omega
          have g8 : n < 8 := by omega
          have g12 : n < 12 := by omega
          have m5 : (5 : Int) < n := by omega
          have m11 : n ≤ 11 := by omega
          have m14 : n ≤ 14 := by omega
          have q6 : (n == 6) = false := eq_no (by omega)
          have q7 : (n == 7) = true := by simp [hc]
          have hk : kd = 2 := by
            rw [hkd, if_neg (by omega)]
            rw [if_neg (by omega)]
            rw [if_pos (by omega)]
          obtain ⟨rfl, rfl, rfl, rfl, rfl⟩ := H1.out (by omega)
          clear hc
          subst hk
          clear hkd hlo hhi l2
          obtain ⟨⟨t0, t1, t2, t3⟩, -⟩ := four HT.out
          clear HT H0 H1 L2 L3 HLO HHI
          go_wp2_with fail
          refine (KA.out _ (by first | exact HW | exact Lib.hid HW.out.drew)).mono ?_
          rintro e9 w9 ⟨rfl, H9⟩
          go_wp2_with fail
          go_ret
          exact ⟨rfl, H9.out⟩
        by_cases hc : 8 ≤ n ∧ n ≤ 11
        · skip
          have g1 : (1 : Int) ≤ n := by omega
          have g8 : (8 : Int) ≤ n := by omega
          have g12 : n < 12 := by omega
          have m5 : (5 : Int) < n := by omega
          have m11 : n ≤ 11 := by omega
          have m14 : n ≤ 14 := by omega
          have q6 : (n == 6) = false := eq_no (by omega)
          have q7 : (n == 7) = false := eq_no (by omega)
          have hk : kd = 0 := by
            rw [hkd, if_neg (by omega)]
            rw [if_neg (by omega)]
            rw [if_neg (by omega)]
          obtain ⟨rfl, rfl, rfl, rfl, rfl⟩ := H0.out (by omega)
          clear hc
          subst hk
          clear hkd hlo hhi l2
          obtain ⟨⟨t0, t1, t2, t3⟩, -⟩ := four HT.out
          clear HT H0 H1 L2 L3 HLO HHI
          go_wp2_with fail
          refine (KA.out _ (by first | exact HW | exact Lib.hid HW.out.drew)).mono ?_
          rintro e9 w9 ⟨rfl, H9⟩
          go_wp2_with fail
          go_ret
          exact ⟨rfl, H9.out⟩
        by_cases hc : 12 ≤ n ∧ n ≤ 14
        · skip
          have g1 : (1 : Int) ≤ n := by omega
          have g8 : (8 : Int) ≤ n := by omega
          have g12 : (12 : Int) ≤ n := by omega
          have m5 : (5 : Int) < n := by omega
          have m11 : (11 : Int) < n := by omega
          have m14 : n ≤ 14 := by omega
          have q6 : (n == 6) = false := eq_no (by omega)
          have q7 : (n == 7) = false := eq_no (by omega)
          have hk : kd = 2 := by
            rw [hkd, if_neg (by omega)]
            rw [if_neg (by omega)]
            rw [if_pos (by omega)]
          obtain ⟨rfl, rfl, rfl, rfl, rfl⟩ := H1.out (by omega)
          clear hc
          subst hk
          clear hkd hlo hhi l2
          obtain ⟨⟨t0, t1, t2, t3⟩, -⟩ := four HT.out
          clear HT H0 H1 L2 L3 HLO HHI
          go_wp2_with fail
          refine (KA.out _ (by first | exact HW | exact Lib.hid HW.out.drew)).mono ?_
          rintro e9 w9 ⟨rfl, H9⟩
          go_wp2_with fail
          go_ret
          exact ⟨rfl, H9.out⟩
        have g1 : (1 : Int) ≤ n := by omega
        have g8 : (8 : Int) ≤ n := by omega
        have g12 : (12 : Int) ≤ n := by omega
        have m5 : (5 : Int) < n := by omega
        have m11 : (11 : Int) < n := by omega
        have m14 : (14 : Int) < n := by omega
        have q6 : (n == 6) = false := eq_no (by omega)
        have q7 : (n == 7) = false := eq_no (by omega)
        have hk : kd = 0 := by
          rw [hkd, if_neg (by omega)]
          rw [if_neg (by omega)]
          rw [if_neg (by omega)]
        obtain ⟨rfl, rfl, rfl, rfl, rfl⟩ := H0.out (by omega)
        subst hk
        clear hkd hlo hhi l2
        obtain ⟨⟨t0, t1, t2, t3⟩, -⟩ := four HT.out
        clear HT H0 H1 L2 L3 HLO HHI
        go_wp2_with fail
        refine (KA.out _ (by first | exact HW | exact Lib.hid HW.out.drew)).mono ?_
        rintro e9 w9 ⟨rfl, H9⟩
        go_wp2_with fail
        go_ret
        exact ⟨rfl, H9.out⟩
      have z1 : ((r2 : Int) == 1) = false := eq_no (by omega)
      by_cases hc : n < 1
      · skip
        have g1 : n < 1 := by omega
        have g8 : n < 8 := by omega
        have g12 : n < 12 := by omega
        have m5 : n ≤ 5 := by omega
        have m11 : n ≤ 11 := by omega
        have m14 : n ≤ 14 := by omega
        have q6 : (n == 6) = false := eq_no (by omega)
        have q7 : (n == 7) = false := eq_no (by omega)
        have hk : kd = 0 := by
          rw [hkd, if_neg (by omega)]
          rw [if_neg (by omega)]
          rw [if_neg (by omega)]
        obtain ⟨rfl, rfl, rfl, rfl, rfl⟩ := H0.out (by omega)
        clear hc
        subst hk
        clear hkd hlo hhi l2
        obtain ⟨⟨t0, t1, t2, t3⟩, -⟩ := four HT.out
        clear HT H0 H1 L2 L3 HLO HHI
        go_wp2_with fail
        refine (KA.out _ (by first | exact HW | exact Lib.hid HW.out.drew)).mono ?_
        rintro e9 w9 ⟨rfl, H9⟩
        go_wp2_with fail
        go_ret
        exact ⟨rfl, H9.out⟩
      by_cases hc : 1 ≤ n ∧ n ≤ 5
      · skip
        have g1 : (1 : Int) ≤ n := by omega
        have g8 : n < 8 := by omega
        have g12 : n < 12 := by omega
        have m5 : n ≤ 5 := by omega
        have m11 : n ≤ 11 := by omega
        have m14 : n ≤ 14 := by omega
        have q6 : (n == 6) = false := eq_no (by omega)
        have q7 : (n == 7) = false := eq_no (by omega)
        have hk : kd = 0 := by
          rw [hkd, if_neg (by omega)]
          rw [if_neg (by omega)]
          rw [if_neg (by omega)]
        obtain ⟨rfl, rfl, rfl, rfl, rfl⟩ := H0.out (by omega)
        clear hc
        subst hk
        clear hkd hlo hhi l2
        obtain ⟨⟨t0, t1, t2, t3⟩, -⟩ := four HT.out
        clear HT H0 H1 L2 L3 HLO HHI
        go_wp2_with fail
        refine (KA.out _ (by first | exact HW | exact Lib.hid HW.out.drew)).mono ?_
        rintro e9 w9 ⟨rfl, H9⟩
        go_wp2_with fail
        go_ret
        exact ⟨rfl, H9.out⟩
      by_cases hc : n = 6
      · skip
        have g1 : (1 : Int) ≤ n := by omega
        have g8 : n < 8 := by omega
        have g12 : n < 12 := by omega
        have m5 : (5 : Int) < n := by omega
        have m11 : n ≤ 11 := by omega
        have m14 : n ≤ 14 := by omega
        have q6 : (n == 6) = true := by simp [hc]
        have q7 : (n == 7) = false := eq_no (by omega)
        have hk : kd = 2 := by
          rw [hkd, if_neg (by omega)]
          rw [if_neg (by omega)]
          rw [if_pos (by omega)]
        obtain ⟨rfl, rfl, rfl, rfl, rfl⟩ := H1.out (by omega)
        clear hc
        subst hk
        clear hkd hlo hhi l2
        obtain ⟨⟨t0, t1, t2, t3⟩, -⟩ := four HT.out
        clear HT H0 H1 L2 L3 HLO HHI
        go_wp2_with fail
        refine (KA.out _ (by first | exact HW | exact Lib.hid HW.out.drew)).mono ?_
        rintro e9 w9 ⟨rfl, H9⟩
        go_wp2_with fail
        go_ret
        exact ⟨rfl, H9.out⟩
      by_cases hc : n = 7
      · skip
        have g1 : (1 : Int) ≤ n := by omega
        have g8 : n < 8 := by omega
        have g12 : n < 12 := by omega
        have m5 : (5 : Int) < n := by omega
        have m11 : n ≤ 11 := by omega
        have m14 : n ≤ 14 := by omega
        have q6 : (n == 6) = false := eq_no (by omega)
        have q7 : (n == 7) = true := by simp [hc]
        have hk : kd = 2 := by
          rw [hkd, if_neg (by omega)]
          rw [if_neg (by omega)]
          rw [if_pos (by omega)]
        obtain ⟨rfl, rfl, rfl, rfl, rfl⟩ := H1.out (by omega)
        clear hc
        subst hk
        clear hkd hlo hhi l2
        obtain ⟨⟨t0, t1, t2, t3⟩, -⟩ := four HT.out
        clear HT H0 H1 L2 L3 HLO HHI
        go_wp2_with fail
        refine (KA.out _ (by first | exact HW | exact Lib.hid HW.out.drew)).mono ?_
        rintro e9 w9 ⟨rfl, H9⟩
        go_wp2_with fail
        go_ret
        exact ⟨rfl, H9.out⟩
      by_cases hc : 8 ≤ n ∧ n ≤ 11
      · skip
        have g1 : (1 : Int) ≤ n := by omega
        have g8 : (8 : Int) ≤ n := by omega
        have g12 : n < 12 := by omega
        have m5 : (5 : Int) < n := by omega
        have m11 : n ≤ 11 := by omega
        have m14 : n ≤ 14 := by omega
        have q6 : (n == 6) = false := eq_no (by omega)
        have q7 : (n == 7) = false := eq_no (by omega)
        have hk : kd = 0 := by
          rw [hkd, if_neg (by omega)]
          rw [if_neg (by omega)]
          rw [if_neg (by omega)]
        obtain ⟨rfl, rfl, rfl, rfl, rfl⟩ := H0.out (by omega)
        clear hc
        subst hk
        clear hkd hlo hhi l2
        obtain ⟨⟨t0, t1, t2, t3⟩, -⟩ := four HT.out
        clear HT H0 H1 L2 L3 HLO HHI
        go_wp2_with fail
        refine (KA.out _ (by first | exact HW | exact Lib.hid HW.out.drew)).mono ?_
        rintro e9 w9 ⟨rfl, H9⟩
        go_wp2_with fail
        go_ret
        exact ⟨rfl, H9.out⟩
      by_cases hc : 12 ≤ n ∧ n ≤ 14
      · skip
        have g1 : (1 : Int) ≤ n := by omega
        have g8 : (8 : Int) ≤ n := by omega
        have g12 : (12 : Int) ≤ n := by omega
        have m5 : (5 : Int) < n := by omega
        have m11 : (11 : Int) < n := by omega
        have m14 : n ≤ 14 := by omega
        have q6 : (n == 6) = false := eq_no (by omega)
        have q7 : (n == 7) = false := eq_no (by omega)
        have hk : kd = 0 := by
          rw [hkd, if_neg (by omega)]
          rw [if_neg (by omega)]
          rw [if_neg (by omega)]
        obtain ⟨rfl, rfl, rfl, rfl, rfl⟩ := H0.out (by omega)
        clear hc
        subst hk
        clear hkd hlo hhi l2
        obtain ⟨⟨t0, t1, t2, t3⟩, -⟩ := four HT.out
        clear HT H0 H1 L2 L3 HLO HHI
        go_wp2_with fail
        refine (KA.out _ (by first | exact HW | exact Lib.hid HW.out.drew)).mono ?_
        rintro e9 w9 ⟨rfl, H9⟩
        go_wp2_with fail
        go_ret
        exact ⟨rfl, H9.out⟩
      have g1 : (1 : Int) ≤ n := by omega
      have g8 : (8 : Int) ≤ n := by omega
      have g12 : (12 : Int) ≤ n := by omega
      have m5 : (5 : Int) < n := by omega
      have m11 : (11 : Int) < n := by omega
      have m14 : (14 : Int) < n := by omega
      have q6 : (n == 6) = false := eq_no (by omega)
      have q7 : (n == 7) = false := eq_no (by omega)
      have hk : kd = 0 := by
        rw [hkd, if_neg (by omega)]
        rw [if_neg (by omega)]
        rw [if_neg (by omega)]
      obtain ⟨rfl, rfl, rfl, rfl, rfl⟩ := H0.out (by omega)
      subst hk
      clear hkd hlo hhi l2
      obtain ⟨⟨t0, t1, t2, t3⟩, -⟩ := four HT.out
      clear HT H0 H1 L2 L3 HLO HHI
      go_wp2_with fail
      refine (KA.out _ (by first | exact HW | exact Lib.hid HW.out.drew)).mono ?_
      rintro e9 w9 ⟨rfl, H9⟩
      go_wp2_with fail
      go_ret
      exact ⟨rfl, H9.out⟩
    have hne : ((r2 : Int) != (r3 : Int)) = true := by simp only [bne_iff_ne, ne_eq]; omega
    have hk : kd = 0 := by rw [hkd, if_pos he]
    obtain ⟨rfl, rfl, rfl, rfl, rfl⟩ := H0.out hk
    subst hk
    clear hkd hlo hhi l2
    obtain ⟨⟨t0, t1, t2, t3⟩, -⟩ := four HT.out
    clear HT H0 H1 L2 L3 HLO HHI
    go_wp2_with fail
    refine (KA.out _ (by first | exact HW | exact Lib.hid HW.out.drew)).mono ?_
    rintro e9 w9 ⟨rfl, H9⟩
    go_wp2_with fail
    go_ret
    exact ⟨rfl, H9.out⟩
end Go.Proofs.Ytmbddofcildibaa
