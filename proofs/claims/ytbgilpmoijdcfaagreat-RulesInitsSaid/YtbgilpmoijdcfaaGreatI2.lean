/-
  governorlaw8.RulesInits: the walk, kind 4.
-/
import Derived.Test.YtbgilpmoijdcfaaGreatI1
import Derived.Test.YtbgilpmoijdcfaaGreatK1
namespace Go.Proofs.YtbgilpmoijdcfaaGreat
open Go Go.RowKit Go.Shelf
set_option linter.unusedVariables false
set_option linter.unusedSimpArgs false

set_option maxHeartbeats 8000000 in
set_option maxRecDepth 100000 in
theorem inits_4 (m0 n m2 m3 m4 m5 : Int) (inn : I64 n) (hk : lowT m0 5 = 4) (w : World) : Calls Tryz.prog 4 #[.int .i64 m0, .int .i64 n, .int .i64 m2, .int .i64 m3, .int .i64 m4, .int .i64 m5] w fun e w' => e = .returned (.bool true) ∧ Below w.heap.size w w' := by
  obtain ⟨a1, e1, b1⟩ : ∃ a : Nat, a = lowT m2 50 ∧ a < 50 := ⟨_, rfl, lowT_lt _ (by decide)⟩
  obtain ⟨a2, e2, b2⟩ : ∃ a : Nat, a = lowT m3 30 ∧ a < 30 := ⟨_, rfl, lowT_lt _ (by decide)⟩
  obtain ⟨a3, e3, b3⟩ : ∃ a : Nat, a = lowT m4 3 ∧ a < 3 := ⟨_, rfl, lowT_lt _ (by decide)⟩
  obtain ⟨a4, e4, b4⟩ : ∃ a : Nat, a = lowT m5 12 ∧ a < 12 := ⟨_, rfl, lowT_lt _ (by decide)⟩
  obtain ⟨lo, elo⟩ : ∃ e : Int, e = (a1 : Int) - 25 := ⟨_, rfl⟩
  obtain ⟨hi, ehi⟩ : ∃ e : Int, e = lo + (a2 : Int) := ⟨_, rfl⟩
  obtain ⟨d, ed⟩ : ∃ e : Int, e = (a3 : Int) := ⟨_, rfl⟩
  obtain ⟨s, es⟩ : ∃ e : Int, e = (a4 : Int) - 2 := ⟨_, rfl⟩
  have w1 : IntKind.i64.wrap ((a1 : Int) - 25) = lo := by rw [IntKind.wrap_i64]; omega
  have w2 : IntKind.i64.wrap (lo + (a2 : Int)) = hi := by rw [IntKind.wrap_i64]; omega
  have w4 : IntKind.i64.wrap ((a4 : Int) - 2) = s := by rw [IntKind.wrap_i64]; omega
  have K1 : Hid (∀ W, Calls Tryz.prog 5 #[.int .i64 m2, .int .i64 50] W fun e w' => e = .returned (.int .i64 (a1 : Int)) ∧ w' = W) := fun W => e1 ▸ low_at m2 50 (by decide) (by decide) W
  have K2 : Hid (∀ W, Calls Tryz.prog 5 #[.int .i64 m3, .int .i64 30] W fun e w' => e = .returned (.int .i64 (a2 : Int)) ∧ w' = W) := fun W => e2 ▸ low_at m3 30 (by decide) (by decide) W
  have K3 : Hid (∀ W, Calls Tryz.prog 5 #[.int .i64 m4, .int .i64 3] W fun e w' => e = .returned (.int .i64 d) ∧ w' = W) := fun W => by rw [ed, e3]; exact low_at m4 3 (by decide) (by decide) W
  have K4 : Hid (∀ W, Calls Tryz.prog 5 #[.int .i64 m5, .int .i64 12] W fun e w' => e = .returned (.int .i64 (a4 : Int)) ∧ w' = W) := fun W => e4 ▸ low_at m5 12 (by decide) (by decide) W
  have K5 : Hid (∀ W, Calls Tryz.prog 5 #[.int .i64 m0, .int .i64 5] W fun e w' => e = .returned (.int .i64 4) ∧ w' = W) := fun W => by have := low_at m0 5 (by decide) (by decide) W; rw [hk] at this; exact this
  have d0 : 0 ≤ d := by omega
  have d2 : d ≤ 2 := by omega
  have ilo : I64 lo := ⟨by omega, by omega⟩
  have ihi : I64 hi := ⟨by omega, by omega⟩
  have is : I64 s := ⟨by omega, by omega⟩
  have i0 : I64 0 := ⟨by decide, by decide⟩
  have i1 : I64 1 := ⟨by decide, by decide⟩
  have i3 : I64 3 := ⟨by decide, by decide⟩
  have hcases : (n = 0 ∧ d = 0 ∧ codeT [inD 7 1 0 n d s] 0 = 0) ∨ (n = 0 ∧ ¬ d = 0 ∧ codeT [inD 7 1 0 n d s] 0 = 9) ∨ (¬ n = 0 ∧ d = 0 ∧ codeT [inD 7 1 0 n d s] 0 = 10) ∨ (¬ n = 0 ∧ ¬ d = 0 ∧ codeT [inD 7 1 0 n d s] 0 = 9) := by
    have hp := in_4 n d s
    by_cases c1 : n = 0
    · by_cases c2 : d = 0
      · refine Or.inl ⟨(by omega), (by omega), hp.trans ?_⟩
        simp [btwT] <;> omega
      · refine Or.inr (Or.inl ⟨(by omega), (by omega), hp.trans ?_⟩)
        simp [btwT] <;> omega
    · by_cases c3 : d = 0
      · refine Or.inr (Or.inr (Or.inl ⟨(by omega), (by omega), hp.trans ?_⟩))
        simp [btwT] <;> omega
      · refine Or.inr (Or.inr (Or.inr (⟨(by omega), (by omega), hp.trans ?_⟩)))
        simp [btwT] <;> omega
  clear e1 e2 e3 e4 elo ehi ed es hk
  have hy : (w.alloc (.cells #[.int .i64 1, .int .i64 0, .int .i64 0, .string ⟨#[]⟩, .int .i64 2, .int .i64 0, .int .i64 0, .string ⟨#[]⟩, .int .i64 3, .int .i64 lo, .int .i64 hi, .string ⟨#[]⟩, .int .i64 4, .int .i64 0, .int .i64 3, .string ⟨#[]⟩, .int .i64 7, .int .i64 1, .int .i64 0, .string ⟨#[]⟩] 38)).heap[w.heap.size]? = some (.cells #[.int .i64 1, .int .i64 0, .int .i64 0, .string ⟨#[]⟩, .int .i64 2, .int .i64 0, .int .i64 0, .string ⟨#[]⟩, .int .i64 3, .int .i64 lo, .int .i64 hi, .string ⟨#[]⟩, .int .i64 4, .int .i64 0, .int .i64 3, .string ⟨#[]⟩, .int .i64 7, .int .i64 1, .int .i64 0, .string ⟨#[]⟩] 38 (0, 0)) := heap_alloc_new w _
  have y_0 : (w.alloc (.cells #[.int .i64 1, .int .i64 0, .int .i64 0, .string ⟨#[]⟩, .int .i64 2, .int .i64 0, .int .i64 0, .string ⟨#[]⟩, .int .i64 3, .int .i64 lo, .int .i64 hi, .string ⟨#[]⟩, .int .i64 4, .int .i64 0, .int .i64 3, .string ⟨#[]⟩, .int .i64 7, .int .i64 1, .int .i64 0, .string ⟨#[]⟩] 38)).cell? ⟨w.heap.size, 16, none⟩ = some (.int .i64 7) := (cell_of_row _ _ 16 _ _ _ hy).trans rfl
  have y_1 : (w.alloc (.cells #[.int .i64 1, .int .i64 0, .int .i64 0, .string ⟨#[]⟩, .int .i64 2, .int .i64 0, .int .i64 0, .string ⟨#[]⟩, .int .i64 3, .int .i64 lo, .int .i64 hi, .string ⟨#[]⟩, .int .i64 4, .int .i64 0, .int .i64 3, .string ⟨#[]⟩, .int .i64 7, .int .i64 1, .int .i64 0, .string ⟨#[]⟩] 38)).cell? ⟨w.heap.size, 17, none⟩ = some (.int .i64 1) := (cell_of_row _ _ 17 _ _ _ hy).trans rfl
  have y_2 : (w.alloc (.cells #[.int .i64 1, .int .i64 0, .int .i64 0, .string ⟨#[]⟩, .int .i64 2, .int .i64 0, .int .i64 0, .string ⟨#[]⟩, .int .i64 3, .int .i64 lo, .int .i64 hi, .string ⟨#[]⟩, .int .i64 4, .int .i64 0, .int .i64 3, .string ⟨#[]⟩, .int .i64 7, .int .i64 1, .int .i64 0, .string ⟨#[]⟩] 38)).cell? ⟨w.heap.size, 18, none⟩ = some (.int .i64 0) := (cell_of_row _ _ 18 _ _ _ hy).trans rfl
  have y_3 : (w.alloc (.cells #[.int .i64 1, .int .i64 0, .int .i64 0, .string ⟨#[]⟩, .int .i64 2, .int .i64 0, .int .i64 0, .string ⟨#[]⟩, .int .i64 3, .int .i64 lo, .int .i64 hi, .string ⟨#[]⟩, .int .i64 4, .int .i64 0, .int .i64 3, .string ⟨#[]⟩, .int .i64 7, .int .i64 1, .int .i64 0, .string ⟨#[]⟩] 38)).cell? ⟨w.heap.size, 19, none⟩ = some (.string ⟨#[]⟩) := (cell_of_row _ _ 19 _ _ _ hy).trans rfl
  have ht : ((w.alloc (.cells #[.int .i64 1, .int .i64 0, .int .i64 0, .string ⟨#[]⟩, .int .i64 2, .int .i64 0, .int .i64 0, .string ⟨#[]⟩, .int .i64 3, .int .i64 lo, .int .i64 hi, .string ⟨#[]⟩, .int .i64 4, .int .i64 0, .int .i64 3, .string ⟨#[]⟩, .int .i64 7, .int .i64 1, .int .i64 0, .string ⟨#[]⟩] 38)).alloc (.cells #[.int .i64 7, .int .i64 1, .int .i64 0, .string ⟨#[]⟩] 38)).heap[w.heap.size + 1]? = some (.cells #[.int .i64 7, .int .i64 1, .int .i64 0, .string ⟨#[]⟩] 38 (0, 0)) := by
    have := heap_alloc_new (w.alloc (.cells #[.int .i64 1, .int .i64 0, .int .i64 0, .string ⟨#[]⟩, .int .i64 2, .int .i64 0, .int .i64 0, .string ⟨#[]⟩, .int .i64 3, .int .i64 lo, .int .i64 hi, .string ⟨#[]⟩, .int .i64 4, .int .i64 0, .int .i64 3, .string ⟨#[]⟩, .int .i64 7, .int .i64 1, .int .i64 0, .string ⟨#[]⟩] 38)) (.cells #[.int .i64 7, .int .i64 1, .int .i64 0, .string ⟨#[]⟩] 38)
    simpa using this
  have t_0 : ((w.alloc (.cells #[.int .i64 1, .int .i64 0, .int .i64 0, .string ⟨#[]⟩, .int .i64 2, .int .i64 0, .int .i64 0, .string ⟨#[]⟩, .int .i64 3, .int .i64 lo, .int .i64 hi, .string ⟨#[]⟩, .int .i64 4, .int .i64 0, .int .i64 3, .string ⟨#[]⟩, .int .i64 7, .int .i64 1, .int .i64 0, .string ⟨#[]⟩] 38)).alloc (.cells #[.int .i64 7, .int .i64 1, .int .i64 0, .string ⟨#[]⟩] 38)).cell? ⟨w.heap.size + 1, 0, none⟩ = some (.int .i64 7) := (cell_of_row _ _ 0 _ _ _ ht).trans rfl
  have t_1 : ((w.alloc (.cells #[.int .i64 1, .int .i64 0, .int .i64 0, .string ⟨#[]⟩, .int .i64 2, .int .i64 0, .int .i64 0, .string ⟨#[]⟩, .int .i64 3, .int .i64 lo, .int .i64 hi, .string ⟨#[]⟩, .int .i64 4, .int .i64 0, .int .i64 3, .string ⟨#[]⟩, .int .i64 7, .int .i64 1, .int .i64 0, .string ⟨#[]⟩] 38)).alloc (.cells #[.int .i64 7, .int .i64 1, .int .i64 0, .string ⟨#[]⟩] 38)).cell? ⟨w.heap.size + 1, 1, none⟩ = some (.int .i64 1) := (cell_of_row _ _ 1 _ _ _ ht).trans rfl
  have t_2 : ((w.alloc (.cells #[.int .i64 1, .int .i64 0, .int .i64 0, .string ⟨#[]⟩, .int .i64 2, .int .i64 0, .int .i64 0, .string ⟨#[]⟩, .int .i64 3, .int .i64 lo, .int .i64 hi, .string ⟨#[]⟩, .int .i64 4, .int .i64 0, .int .i64 3, .string ⟨#[]⟩, .int .i64 7, .int .i64 1, .int .i64 0, .string ⟨#[]⟩] 38)).alloc (.cells #[.int .i64 7, .int .i64 1, .int .i64 0, .string ⟨#[]⟩] 38)).cell? ⟨w.heap.size + 1, 2, none⟩ = some (.int .i64 0) := (cell_of_row _ _ 2 _ _ _ ht).trans rfl
  have t_3 : ((w.alloc (.cells #[.int .i64 1, .int .i64 0, .int .i64 0, .string ⟨#[]⟩, .int .i64 2, .int .i64 0, .int .i64 0, .string ⟨#[]⟩, .int .i64 3, .int .i64 lo, .int .i64 hi, .string ⟨#[]⟩, .int .i64 4, .int .i64 0, .int .i64 3, .string ⟨#[]⟩, .int .i64 7, .int .i64 1, .int .i64 0, .string ⟨#[]⟩] 38)).alloc (.cells #[.int .i64 7, .int .i64 1, .int .i64 0, .string ⟨#[]⟩] 38)).cell? ⟨w.heap.size + 1, 3, none⟩ = some (.string ⟨#[]⟩) := (cell_of_row _ _ 3 _ _ _ ht).trans rfl
  obtain ⟨R4, hR4⟩ : ∃ R4 : World, R4 = (((((w.alloc (.cells #[.int .i64 1, .int .i64 0, .int .i64 0, .string ⟨#[]⟩, .int .i64 2, .int .i64 0, .int .i64 0, .string ⟨#[]⟩, .int .i64 3, .int .i64 lo, .int .i64 hi, .string ⟨#[]⟩, .int .i64 4, .int .i64 0, .int .i64 3, .string ⟨#[]⟩, .int .i64 7, .int .i64 1, .int .i64 0, .string ⟨#[]⟩] 38)).alloc (.cells #[.int .i64 7, .int .i64 1, .int .i64 0, .string ⟨#[]⟩] 38)).alloc (.cells #[.string ⟨#[120]⟩, .int .i64 7, .int .i64 1, .int .i64 0, .string ⟨#[]⟩, .int .i64 n, .int .i64 d, .int .i64 s] 41)).alloc (.cells #[.int .i64 3, .string ⟨#[80]⟩, .string ⟨#[]⟩, .slice none 0 0, .bool false, .bool false, .slice (some ⟨w.heap.size + 1 + 1, 0, none⟩) 1 1, .slice none 0 0, .slice none 0 0, .int .i64 0, .int .i64 0] 28)).alloc (.cells #[.slice (some ⟨w.heap.size + 1 + 1 + 1, 0, none⟩) 1 1] 31)) := ⟨_, rfl⟩
  have hs5 : R4.heap.size = w.heap.size + 1 + 1 + 1 + 1 + 1 := by rw [hR4]; simp
  have hb5 : Below w.heap.size w R4 := by rw [hR4]; exact ((((((Below.refl _ _).alloc (Nat.le_refl _) _).alloc (by simp; try omega) _).alloc (by simp; try omega) _).alloc (by simp; try omega) _).alloc (by simp; try omega) _)
  have hu : R4.heap[w.heap.size + 1 + 1 + 1 + 1]? = some (.cells #[.slice (some ⟨w.heap.size + 1 + 1 + 1, 0, none⟩) 1 1] 31 (0, 0)) := by
    have := heap_alloc_new ((((w.alloc (.cells #[.int .i64 1, .int .i64 0, .int .i64 0, .string ⟨#[]⟩, .int .i64 2, .int .i64 0, .int .i64 0, .string ⟨#[]⟩, .int .i64 3, .int .i64 lo, .int .i64 hi, .string ⟨#[]⟩, .int .i64 4, .int .i64 0, .int .i64 3, .string ⟨#[]⟩, .int .i64 7, .int .i64 1, .int .i64 0, .string ⟨#[]⟩] 38)).alloc (.cells #[.int .i64 7, .int .i64 1, .int .i64 0, .string ⟨#[]⟩] 38)).alloc (.cells #[.string ⟨#[120]⟩, .int .i64 7, .int .i64 1, .int .i64 0, .string ⟨#[]⟩, .int .i64 n, .int .i64 d, .int .i64 s] 41)).alloc (.cells #[.int .i64 3, .string ⟨#[80]⟩, .string ⟨#[]⟩, .slice none 0 0, .bool false, .bool false, .slice (some ⟨w.heap.size + 1 + 1, 0, none⟩) 1 1, .slice none 0 0, .slice none 0 0, .int .i64 0, .int .i64 0] 28)) (.cells #[.slice (some ⟨w.heap.size + 1 + 1 + 1, 0, none⟩) 1 1] 31)
    rw [hR4]
    simpa using this
  have hd : R4.heap[w.heap.size + 1 + 1 + 1]? = some (.cells #[.int .i64 3, .string ⟨#[80]⟩, .string ⟨#[]⟩, .slice none 0 0, .bool false, .bool false, .slice (some ⟨w.heap.size + 1 + 1, 0, none⟩) 1 1, .slice none 0 0, .slice none 0 0, .int .i64 0, .int .i64 0] 28 (0, 0)) := by
    have := heap_alloc_new (((w.alloc (.cells #[.int .i64 1, .int .i64 0, .int .i64 0, .string ⟨#[]⟩, .int .i64 2, .int .i64 0, .int .i64 0, .string ⟨#[]⟩, .int .i64 3, .int .i64 lo, .int .i64 hi, .string ⟨#[]⟩, .int .i64 4, .int .i64 0, .int .i64 3, .string ⟨#[]⟩, .int .i64 7, .int .i64 1, .int .i64 0, .string ⟨#[]⟩] 38)).alloc (.cells #[.int .i64 7, .int .i64 1, .int .i64 0, .string ⟨#[]⟩] 38)).alloc (.cells #[.string ⟨#[120]⟩, .int .i64 7, .int .i64 1, .int .i64 0, .string ⟨#[]⟩, .int .i64 n, .int .i64 d, .int .i64 s] 41)) (.cells #[.int .i64 3, .string ⟨#[80]⟩, .string ⟨#[]⟩, .slice none 0 0, .bool false, .bool false, .slice (some ⟨w.heap.size + 1 + 1, 0, none⟩) 1 1, .slice none 0 0, .slice none 0 0, .int .i64 0, .int .i64 0] 28)
    rw [hR4]
    exact (Below.heap_alloc _ _ _ (by simp; try omega)).trans (by simpa using this)
  have hv : R4.heap[w.heap.size + 1 + 1]? = some (.cells #[.string ⟨#[120]⟩, .int .i64 7, .int .i64 1, .int .i64 0, .string ⟨#[]⟩, .int .i64 n, .int .i64 d, .int .i64 s] 41 (0, 0)) := by
    have := heap_alloc_new ((w.alloc (.cells #[.int .i64 1, .int .i64 0, .int .i64 0, .string ⟨#[]⟩, .int .i64 2, .int .i64 0, .int .i64 0, .string ⟨#[]⟩, .int .i64 3, .int .i64 lo, .int .i64 hi, .string ⟨#[]⟩, .int .i64 4, .int .i64 0, .int .i64 3, .string ⟨#[]⟩, .int .i64 7, .int .i64 1, .int .i64 0, .string ⟨#[]⟩] 38)).alloc (.cells #[.int .i64 7, .int .i64 1, .int .i64 0, .string ⟨#[]⟩] 38)) (.cells #[.string ⟨#[120]⟩, .int .i64 7, .int .i64 1, .int .i64 0, .string ⟨#[]⟩, .int .i64 n, .int .i64 d, .int .i64 s] 41)
    rw [hR4]
    exact (Below.heap_alloc _ _ _ (by simp; try omega)).trans ((Below.heap_alloc _ _ _ (by simp; try omega)).trans (by simpa using this))
  have htb : R4.heap[w.heap.size + 1]? = some (.cells #[.int .i64 7, .int .i64 1, .int .i64 0, .string ⟨#[]⟩] 38 (0, 0)) := by rw [hR4]; exact (Below.heap_alloc _ _ _ (by simp; try omega)).trans ((Below.heap_alloc _ _ _ (by simp; try omega)).trans ((Below.heap_alloc _ _ _ (by simp; try omega)).trans ht))
  have VS : ∀ W, Below R4.heap.size R4 W → VsR W W.heap.size (some ⟨w.heap.size + 1 + 1, 0, none⟩) [inV 7 1 0 n d s] := fun W hW => rowC_block (R := VIn) (l := [(inV 7 1 0 n d s, [.string ⟨#[120]⟩, .int .i64 7, .int .i64 1, .int .i64 0, .string ⟨#[]⟩, .int .i64 n, .int .i64 d, .int .i64 s])]) ((hW.block _ (by omega)).trans hv) (by have := hW.size; omega) (by simp) (fun x hx => by
    obtain rfl : x = _ := by simpa using hx
    exact ⟨rfl, ⟨by first | exact i0 | exact i1 | exact ilo, by first | exact i0 | exact i3 | exact ihi⟩, inn, is⟩)
  have DS : Hid (∀ W, Hid (Below R4.heap.size R4 W) → DsR W W.heap.size (some ⟨w.heap.size + 1 + 1 + 1, 0, none⟩) [inD 7 1 0 n d s]) := fun W hW => rowC_block (l := [(inD 7 1 0 n d s, [.int .i64 3, .string ⟨#[80]⟩, .string ⟨#[]⟩, .slice none 0 0, .bool false, .bool false, .slice (some ⟨w.heap.size + 1 + 1, 0, none⟩) 1 1, .slice none 0 0, .slice none 0 0, .int .i64 0, .int .i64 0])]) ((hW.out.block _ (by omega)).trans hd) (by have := hW.out.size; omega) (by simp) (fun x hx => by
    obtain rfl : x = _ := by simpa using hx
    exact ⟨none, 0, some ⟨w.heap.size + 1 + 1, 0, none⟩, 1, none, 0, none, 0, rfl, i0, i0, fun k hk => by simp [inD] at hk, VS W hW.out, fun k hk => by simp [inD] at hk, fun k hk => by simp [inD] at hk⟩)
  have CE : Hid (∀ W, Hid (Below R4.heap.size R4 W) → W.cell? ⟨w.heap.size + 1 + 1 + 1 + 1, 0, none⟩ = some (.slice (some ⟨w.heap.size + 1 + 1 + 1, 0, none⟩) 1 1)) := fun W hW => (cell_of_row _ _ 0 _ _ _ ((hW.out.block _ (by omega)).trans hu)).trans rfl
  have KD : Hid (∀ v : Int, codeT [inD 7 1 0 n d s] 0 = v → Calls Tryz.prog 7 #[.agg #[.slice (some ⟨w.heap.size + 1 + 1 + 1, 0, none⟩) 1 1], .int .i64 0] R4 fun e' w' => e' = .returned (.int .i64 v) ∧ Hid (Below R4.heap.size R4 w')) := fun v hv => hv ▸ Decl_any [inD 7 1 0 n d s] (some ⟨w.heap.size + 1 + 1 + 1, 0, none⟩) 1 0 R4 (DS.out _ (Below.refl _ _)) (in_small _ _ _ _ _ _) (by simp)
  have KA : Hid (∀ W, Hid (Below R4.heap.size R4 W) → Calls Tryz.prog 8 #[] W fun e' w' => e' = .returned (.bool true) ∧ Hid (Below R4.heap.size R4 w')) := fun W hW => (ruAwake_any W).mono fun e' w' hh => ⟨hh.1, hW.out.trans (hh.2.out.mono hW.out.size)⟩
  have HO : Hid (∀ W, Hid (Below R4.heap.size R4 W) → Below w.heap.size w W) := fun W hW => hb5.trans (hW.out.mono hb5.size)
  have HB4 : Hid (Below R4.heap.size R4 R4) := Below.refl _ _
  have y0 := CE.out _ HB4
  have tk0 : R4.cell? ⟨w.heap.size + 1, 0, none⟩ = some (.int .i64 7) := (cell_of_row _ _ 0 _ _ _ htb).trans rfl
  have HR4 := Lib.hid hR4
  rw [hR4] at y0 tk0
  have HCA := Lib.hid hcases
  clear hcases hR4 hs5 hb5 hu hd hv htb VS DS hy ht ilo ihi is i0 i1 i3 inn
  go_enter Tryz.func4, Tryz.ntmps4
  go_wp2_with fail
  refine (K1.out _).mono ?_
  rintro e0 v0 ⟨rfl, hw0⟩
  subst hw0
  go_wp2_with fail
  refine (K2.out _).mono ?_
  rintro e1 v1 ⟨rfl, hw1⟩
  subst hw1
  go_wp2_with fail
  refine (K3.out _).mono ?_
  rintro e2 v2 ⟨rfl, hw2⟩
  subst hw2
  go_wp2_with fail
  refine (K4.out _).mono ?_
  rintro e3 v3 ⟨rfl, hw3⟩
  subst hw3
  go_wp2_with fail
  refine (K5.out _).mono ?_
  rintro e4 v4 ⟨rfl, hw4⟩
  subst hw4
  have hcases := HCA.out
  clear HCA
  rcases hcases with ⟨u0, u1, HV⟩ | ⟨u0, u1, HV⟩ | ⟨u0, u1, HV⟩ | ⟨u0, u1, HV⟩
  · have q0 : (n == 0) = true := by rw [u0]; rfl
    clear u0
    have q1 : (d == 0) = true := by rw [u1]; rfl
    have p1 : (d != 0) = false := by rw [u1]; rfl
    clear u1
    replace HV := Lib.hid HV
    go_wp2_with fail
    rw [← HR4.out]
    refine (KD.out 0 HV.out).mono ?_
    rintro e6 w6 ⟨rfl, hb6⟩
    clear y0
    go_wp2_with fail
    refine (KA.out _ hb6).mono ?_
    rintro e7 w7 ⟨rfl, hb7⟩
    go_wp2_with fail
    go_ret
    exact ⟨rfl, HO.out _ hb7⟩
  · have q0 : (n == 0) = true := by rw [u0]; rfl
    clear u0
    have p1 : (d != 0) = true := by simp [u1]
    clear u1
    replace HV := Lib.hid HV
    go_wp2_with fail
    rw [← HR4.out]
    refine (KD.out 9 HV.out).mono ?_
    rintro e6 w6 ⟨rfl, hb6⟩
    clear y0
    go_wp2_with fail
    refine (KA.out _ hb6).mono ?_
    rintro e7 w7 ⟨rfl, hb7⟩
    go_wp2_with fail
    go_ret
    exact ⟨rfl, HO.out _ hb7⟩
  · have q0 : (n == 0) = false := eq_no u0
    clear u0
    have q1 : (d == 0) = true := by rw [u1]; rfl
    have p1 : (d != 0) = false := by rw [u1]; rfl
    clear u1
    replace HV := Lib.hid HV
    go_wp2_with fail
    rw [← HR4.out]
    refine (KD.out 10 HV.out).mono ?_
    rintro e6 w6 ⟨rfl, hb6⟩
    clear y0
    go_wp2_with fail
    refine (KA.out _ hb6).mono ?_
    rintro e7 w7 ⟨rfl, hb7⟩
    go_wp2_with fail
    go_ret
    exact ⟨rfl, HO.out _ hb7⟩
  · have q0 : (n == 0) = false := eq_no u0
    clear u0
    have p1 : (d != 0) = true := by simp [u1]
    clear u1
    replace HV := Lib.hid HV
    go_wp2_with fail
    rw [← HR4.out]
    refine (KD.out 9 HV.out).mono ?_
    rintro e6 w6 ⟨rfl, hb6⟩
    clear y0
    go_wp2_with fail
    refine (KA.out _ hb6).mono ?_
    rintro e7 w7 ⟨rfl, hb7⟩
    go_wp2_with fail
    go_ret
    exact ⟨rfl, HO.out _ hb7⟩
end Go.Proofs.YtbgilpmoijdcfaaGreat

/-
  governorlaw8.RulesInits: the walk.
-/
namespace Go.Proofs.YtbgilpmoijdcfaaGreat
open Go Go.RowKit Go.Shelf
set_option linter.unusedVariables false
set_option linter.unusedSimpArgs false

theorem inits_walk (m0 n m2 m3 m4 m5 : Int) (inn : I64 n) (w : World) : Calls Tryz.prog 4 #[.int .i64 m0, .int .i64 n, .int .i64 m2, .int .i64 m3, .int .i64 m4, .int .i64 m5] w fun e w' => e = .returned (.bool true) ∧ Below w.heap.size w w' := by
  have hl : lowT m0 5 < 5 := lowT_lt _ (by decide)
  have hk : lowT m0 5 = 0 ∨ lowT m0 5 = 1 ∨ lowT m0 5 = 2 ∨ lowT m0 5 = 3 ∨ lowT m0 5 = 4 := by omega
  rcases hk with h | h | h | h | h
  · exact inits_0 m0 n m2 m3 m4 m5 inn h w
  · exact inits_1 m0 n m2 m3 m4 m5 inn h w
  · exact inits_2 m0 n m2 m3 m4 m5 inn h w
  · exact inits_3 m0 n m2 m3 m4 m5 inn h w
  · exact inits_4 m0 n m2 m3 m4 m5 inn h w
end Go.Proofs.YtbgilpmoijdcfaaGreat

/-
  The readings of the arguments as trees, no heavier than what is read.
-/
namespace Go.Proofs.YtbgilpmoijdcfaaGreat
open Go Go.ChangeShapes Go.WideShapes Go.RowKit

theorem cells3 : Tryz.prog.cellsOf 3 = 1 := by kernel_rfl
theorem cells9 : Tryz.prog.cellsOf 9 = 1 := by kernel_rfl
theorem cells4 : Tryz.prog.cellsOf 4 = 1 := by kernel_rfl
theorem cells135 : Tryz.prog.cellsOf 135 = 1 := by kernel_rfl
theorem cells51 : Tryz.prog.cellsOf 51 = 1 := by kernel_rfl
theorem cells136 : Tryz.prog.cellsOf 136 = 1 := by kernel_rfl
theorem cells23 : Tryz.prog.cellsOf 23 = 1 := by kernel_rfl
theorem cells26 : Tryz.prog.cellsOf 26 = 1 := by kernel_rfl
theorem cells137 : Tryz.prog.cellsOf 137 = 1 := by kernel_rfl
theorem cells24 : Tryz.prog.cellsOf 24 = 1 := by kernel_rfl
theorem cells25 : Tryz.prog.cellsOf 25 = 1 := by kernel_rfl
theorem cells29 : Tryz.prog.cellsOf 29 = 1 := by kernel_rfl
theorem cells158 : Tryz.prog.cellsOf 158 = 5 := by kernel_rfl
theorem cells38 : Tryz.prog.cellsOf 38 = 4 := by kernel_rfl
theorem cells41 : Tryz.prog.cellsOf 41 = 8 := by kernel_rfl
theorem cells139 : Tryz.prog.cellsOf 139 = 6 := by kernel_rfl
theorem cells70 : Tryz.prog.cellsOf 70 = 11 := by kernel_rfl
theorem cells28 : Tryz.prog.cellsOf 28 = 11 := by kernel_rfl
theorem cells31 : Tryz.prog.cellsOf 31 = 1 := by kernel_rfl
set_option maxRecDepth 100000 in
theorem wf64 {n : Int} (h : (Lit.int .i64 n).wf = true) : I64 n := by
  unfold Lit.wf at h
  rw [Bool.and_eq_true] at h
  have h1 := of_decide_eq_true h.1
  have h2 := of_decide_eq_true h.2
  rw [show IntKind.min .i64 = -9223372036854775808 by kernel_rfl] at h1
  rw [show IntKind.max .i64 = 9223372036854775807 by kernel_rfl] at h2
  exact ⟨h1, h2⟩
theorem sum_ones (l : List Int) : (l.map fun _ => 1).sum = l.length := by
  induction l with
  | nil => rfl
  | cons x r ih => simp only [List.map_cons, List.sum_cons, List.length_cons, ih]; omega
section
variable {H : Type} {enc : TypeId × Value → H} {w : World} {sp : Nat → Bool} {held : Bool}
theorem bulk_str (s : ByteArray) : Rows.uptoBulk (DataW.lit (H := H) (.string s.data.toList)) = s.size + 1 := by
  simp only [Rows.uptoBulk, Array.length_toList]
  rfl
theorem bulk_int (k : IntKind) (n : Int) : Rows.uptoBulk (DataW.lit (H := H) (.int k n)) = 1 := rfl
theorem bulk_bool (b : Bool) : Rows.uptoBulk (DataW.lit (H := H) (.bool b)) = 1 := rfl
set_option maxRecDepth 100000 in
theorem openY {fuel : Nat} {cs : List Value} {x : DataW H × List MemPlace} (h : DataW.trod enc Tryz.prog w 0 sp held fuel 38 cs = some x) : ∃ t : YT, cs = t.cells ∧ t.wf ∧ wY t ≤ 24 * Rows.uptoBulk x.1 := by
  obtain ⟨xs, n, rfl, rfl, hcl, hxl, hf⟩ := DataW.trod_struct Tryz.underlying38 h
  rw [cells38] at hcl
  obtain ⟨v0, v1, v2, v3, rfl⟩ : ∃ v0 v1 v2 v3, cs = [v0, v1, v2, v3] := by
    match cs, hcl with
    | [v0, v1, v2, v3], _ => exact ⟨_, _, _, _, rfl⟩
  obtain ⟨y0, y1, y2, y3, rfl⟩ : ∃ y0 y1 y2 y3, xs = [y0, y1, y2, y3] := by
    match xs, hxl with
    | [y0, y1, y2, y3], _ => exact ⟨_, _, _, _, rfl⟩
  have f0 : DataW.trod enc Tryz.prog w 0 sp held n 3 (([v0, v1, v2, v3].drop 0).take (Tryz.prog.cellsOf 3)) = some y0 := hf 0 _ rfl
  have f1 : DataW.trod enc Tryz.prog w 0 sp held n 3 (([v0, v1, v2, v3].drop 1).take (Tryz.prog.cellsOf 3)) = some y1 := hf 1 _ rfl
  have f2 : DataW.trod enc Tryz.prog w 0 sp held n 3 (([v0, v1, v2, v3].drop 2).take (Tryz.prog.cellsOf 3)) = some y2 := hf 2 _ rfl
  have f3 : DataW.trod enc Tryz.prog w 0 sp held n 9 (([v0, v1, v2, v3].drop 3).take (Tryz.prog.cellsOf 9)) = some y3 := hf 3 _ rfl
  clear hf hcl hxl h
  rw [cells3] at f0
  simp only [List.drop_zero, List.take_succ_cons, List.take_zero] at f0
  obtain ⟨a0, e0, rfl, w0⟩ := DataW.trod_int Tryz.underlying3 f0
  injection e0 with e0 _
  subst e0
  have w0 := wf64 w0
  rw [cells3] at f1
  simp only [List.drop_succ_cons, List.drop_zero, List.take_succ_cons, List.take_zero] at f1
  obtain ⟨a1, e1, rfl, w1⟩ := DataW.trod_int Tryz.underlying3 f1
  injection e1 with e1 _
  subst e1
  have w1 := wf64 w1
  rw [cells3] at f2
  simp only [List.drop_succ_cons, List.drop_zero, List.take_succ_cons, List.take_zero] at f2
  obtain ⟨a2, e2, rfl, w2⟩ := DataW.trod_int Tryz.underlying3 f2
  injection e2 with e2 _
  subst e2
  have w2 := wf64 w2
  rw [cells9] at f3
  simp only [List.drop_succ_cons, List.drop_zero, List.take_succ_cons, List.take_nil] at f3
  obtain ⟨a3, e3, rfl, _⟩ := DataW.trod_string Tryz.underlying9 f3
  injection e3 with e3 _
  subst e3
  clear f0 f1 f2 f3
  refine ⟨⟨a0, a1, a2, a3⟩, rfl, ⟨w1, w2⟩, ?_⟩
  have := dn_le w1
  have := dn_le w2
  simp only [wY, List.map_cons, List.map_nil, Rows.uptoBulk, Rows.uptoBulkAll]
  simp only [ByteArray.size, Array.length_toList]
  omega
set_option maxRecDepth 100000 in
theorem openV {fuel : Nat} {cs : List Value} {x : DataW H × List MemPlace} (h : DataW.trod enc Tryz.prog w 0 sp held fuel 41 cs = some x) : ∃ v : VT, VIn v cs ∧ wV v ≤ 24 * Rows.uptoBulk x.1 := by
  obtain ⟨xs, n, rfl, rfl, hcl, hxl, hf⟩ := DataW.trod_struct Tryz.underlying41 h
  rw [cells41] at hcl
  obtain ⟨v0, v1, v2, v3, v4, v5, v6, v7, rfl⟩ : ∃ v0 v1 v2 v3 v4 v5 v6 v7, cs = [v0, v1, v2, v3, v4, v5, v6, v7] := by
    match cs, hcl with
    | [v0, v1, v2, v3, v4, v5, v6, v7], _ => exact ⟨_, _, _, _, _, _, _, _, rfl⟩
  obtain ⟨y0, y1, y2, y3, y4, rfl⟩ : ∃ y0 y1 y2 y3 y4, xs = [y0, y1, y2, y3, y4] := by
    match xs, hxl with
    | [y0, y1, y2, y3, y4], _ => exact ⟨_, _, _, _, _, rfl⟩
  have f0 : DataW.trod enc Tryz.prog w 0 sp held n 9 (([v0, v1, v2, v3, v4, v5, v6, v7].drop 0).take (Tryz.prog.cellsOf 9)) = some y0 := hf 0 _ rfl
  have f1 : DataW.trod enc Tryz.prog w 0 sp held n 38 (([v0, v1, v2, v3, v4, v5, v6, v7].drop 1).take (Tryz.prog.cellsOf 38)) = some y1 := hf 1 _ rfl
  have f2 : DataW.trod enc Tryz.prog w 0 sp held n 3 (([v0, v1, v2, v3, v4, v5, v6, v7].drop 5).take (Tryz.prog.cellsOf 3)) = some y2 := hf 2 _ rfl
  have f3 : DataW.trod enc Tryz.prog w 0 sp held n 3 (([v0, v1, v2, v3, v4, v5, v6, v7].drop 6).take (Tryz.prog.cellsOf 3)) = some y3 := hf 3 _ rfl
  have f4 : DataW.trod enc Tryz.prog w 0 sp held n 3 (([v0, v1, v2, v3, v4, v5, v6, v7].drop 7).take (Tryz.prog.cellsOf 3)) = some y4 := hf 4 _ rfl
  clear hf hcl hxl h
  rw [cells9] at f0
  simp only [List.drop_zero, List.take_succ_cons, List.take_zero] at f0
  obtain ⟨a0, e0, rfl, _⟩ := DataW.trod_string Tryz.underlying9 f0
  injection e0 with e0 _
  subst e0
  rw [cells38] at f1
  simp only [List.drop_succ_cons, List.drop_zero, List.take_succ_cons, List.take_zero] at f1
  obtain ⟨t1, e1, k1, b1⟩ := openY f1
  injection e1 with d0 e1
  injection e1 with d1 e1
  injection e1 with d2 e1
  injection e1 with d3 _
  subst d0 d1 d2 d3
  rw [cells3] at f2
  simp only [List.drop_succ_cons, List.drop_zero, List.take_succ_cons, List.take_zero] at f2
  obtain ⟨a2, e2, rfl, w2⟩ := DataW.trod_int Tryz.underlying3 f2
  injection e2 with e2 _
  subst e2
  have w2 := wf64 w2
  rw [cells3] at f3
  simp only [List.drop_succ_cons, List.drop_zero, List.take_succ_cons, List.take_zero] at f3
  obtain ⟨a3, e3, rfl, w3⟩ := DataW.trod_int Tryz.underlying3 f3
  injection e3 with e3 _
  subst e3
  have w3 := wf64 w3
  rw [cells3] at f4
  simp only [List.drop_succ_cons, List.drop_zero, List.take_succ_cons, List.take_nil] at f4
  obtain ⟨a4, e4, rfl, w4⟩ := DataW.trod_int Tryz.underlying3 f4
  injection e4 with e4 _
  subst e4
  have w4 := wf64 w4
  clear f0 f1 f2 f3 f4
  refine ⟨⟨a0, t1, a2, a3, a4⟩, ⟨rfl, ⟨k1, w2, w4⟩⟩, ?_⟩
  have := dn_le w2
  have := dn_le w4
  simp only [wV, List.map_cons, List.map_nil, Rows.uptoBulk, Rows.uptoBulkAll]
  unfold wY at b1 ⊢
  simp only [ByteArray.size, Array.length_toList] at b1 ⊢
  omega
theorem openN {fuel : Nat} {cs : List Value} {x : DataW H × List MemPlace} (h : DataW.trod enc Tryz.prog w 0 sp held fuel 3 cs = some x) : ∃ n : Int, NIn n cs ∧ wN n ≤ 24 * Rows.uptoBulk x.1 := by
  obtain ⟨n, rfl, rfl, hw⟩ := DataW.trod_int Tryz.underlying3 h
  refine ⟨n, ⟨rfl, wf64 hw⟩, ?_⟩
  have := dn_le (wf64 hw)
  rw [bulk_int]
  unfold wN
  omega
theorem openX {fuel : Nat} {cs : List Value} {x : DataW H × List MemPlace} (h : DataW.trod enc Tryz.prog w 0 sp held fuel 9 cs = some x) : ∃ s : ByteArray, XIn s cs ∧ wX s ≤ 24 * Rows.uptoBulk x.1 := by
  obtain ⟨s, rfl, rfl, _⟩ := DataW.trod_string Tryz.underlying9 h
  refine ⟨s, rfl, ?_⟩
  rw [bulk_str]
  unfold wX
  omega
theorem openL {fuel : Nat} {cs : List Value} {x : DataW H × List MemPlace} (h : DataW.trod enc Tryz.prog w 0 sp held fuel 51 cs = some x) : ∃ l : List Int, LIn w w.heap.size l cs ∧ wL l ≤ 24 * Rows.uptoBulk x.1 := by
  obtain ⟨l, A, c, rfl, hr, hb, _⟩ := openRow (R := NIn) (wt := wN) Tryz.underlying51 cells3 (by decide) (fun n _ cs y hy => openN hy) h
  refine ⟨l, ⟨A, c, rfl, hr⟩, ?_⟩
  unfold wL
  omega
set_option maxRecDepth 100000 in
theorem openE : ∀ {fuel : Nat} {cs : List Value} {x : DataW H × List MemPlace} , DataW.trod enc Tryz.prog w 0 sp held fuel 158 cs = some x → ∃ e : ET, EIn w w.heap.size e cs ∧ wE e ≤ 24 * Rows.uptoBulk x.1 := by
  intro fuel
  induction fuel using Nat.strongRecOn with
  | _ fuel ih =>
    intro cs x h
    obtain ⟨xs, n, rfl, rfl, hcl, hxl, hf⟩ := DataW.trod_struct Tryz.underlying158 h
    rw [cells158] at hcl
    obtain ⟨v0, v1, v2, v3, v4, rfl⟩ : ∃ v0 v1 v2 v3 v4, cs = [v0, v1, v2, v3, v4] := by
      match cs, hcl with
      | [v0, v1, v2, v3, v4], _ => exact ⟨_, _, _, _, _, rfl⟩
    obtain ⟨y0, y1, y2, y3, y4, rfl⟩ : ∃ y0 y1 y2 y3 y4, xs = [y0, y1, y2, y3, y4] := by
      match xs, hxl with
      | [y0, y1, y2, y3, y4], _ => exact ⟨_, _, _, _, _, rfl⟩
    have f0 : DataW.trod enc Tryz.prog w 0 sp held n 3 (([v0, v1, v2, v3, v4].drop 0).take (Tryz.prog.cellsOf 3)) = some y0 := hf 0 _ rfl
    have f1 : DataW.trod enc Tryz.prog w 0 sp held n 3 (([v0, v1, v2, v3, v4].drop 1).take (Tryz.prog.cellsOf 3)) = some y1 := hf 1 _ rfl
    have f2 : DataW.trod enc Tryz.prog w 0 sp held n 9 (([v0, v1, v2, v3, v4].drop 2).take (Tryz.prog.cellsOf 9)) = some y2 := hf 2 _ rfl
    have f3 : DataW.trod enc Tryz.prog w 0 sp held n 9 (([v0, v1, v2, v3, v4].drop 3).take (Tryz.prog.cellsOf 9)) = some y3 := hf 3 _ rfl
    have f4 : DataW.trod enc Tryz.prog w 0 sp held n 135 (([v0, v1, v2, v3, v4].drop 4).take (Tryz.prog.cellsOf 135)) = some y4 := hf 4 _ rfl
    clear hf hcl hxl h
    rw [cells3] at f0
    simp only [List.drop_zero, List.take_succ_cons, List.take_zero] at f0
    obtain ⟨a0, e0, rfl, w0⟩ := DataW.trod_int Tryz.underlying3 f0
    injection e0 with e0 _
    subst e0
    have w0 := wf64 w0
    rw [cells3] at f1
    simp only [List.drop_succ_cons, List.drop_zero, List.take_succ_cons, List.take_zero] at f1
    obtain ⟨a1, e1, rfl, w1⟩ := DataW.trod_int Tryz.underlying3 f1
    injection e1 with e1 _
    subst e1
    have w1 := wf64 w1
    rw [cells9] at f2
    simp only [List.drop_succ_cons, List.drop_zero, List.take_succ_cons, List.take_zero] at f2
    obtain ⟨a2, e2, rfl, _⟩ := DataW.trod_string Tryz.underlying9 f2
    injection e2 with e2 _
    subst e2
    rw [cells9] at f3
    simp only [List.drop_succ_cons, List.drop_zero, List.take_succ_cons, List.take_zero] at f3
    obtain ⟨a3, e3, rfl, _⟩ := DataW.trod_string Tryz.underlying9 f3
    injection e3 with e3 _
    subst e3
    rw [cells135] at f4
    simp only [List.drop_succ_cons, List.drop_zero, List.take_succ_cons, List.take_nil] at f4
    obtain ⟨l4, A4, c4, e4, r4, b4, n4⟩ := openRow (R := EIn w w.heap.size) (wt := wE) Tryz.underlying135 cells158 (by decide) (fun m hm cs y hy => ih m (by omega) hy) f4
    injection e4 with e4 _
    subst e4
    clear f0 f1 f2 f3 f4
    refine ⟨.mk a0 a1 a2 a3 l4, EIn.of_form A4 c4 w1 r4, ?_⟩
    have := dn_le w1
    simp only [wE, wEs_sum, List.map_cons, List.map_nil, Rows.uptoBulk, Rows.uptoBulkAll]
    simp only [ByteArray.size, Array.length_toList]
    omega
set_option maxRecDepth 100000 in
theorem openS : ∀ {fuel : Nat} {cs : List Value} {x : DataW H × List MemPlace} , DataW.trod enc Tryz.prog w 0 sp held fuel 139 cs = some x → ∃ s : ST, SIn w w.heap.size s cs ∧ wS s ≤ 24 * Rows.uptoBulk x.1 := by
  intro fuel
  induction fuel using Nat.strongRecOn with
  | _ fuel ih =>
    intro cs x h
    obtain ⟨xs, n, rfl, rfl, hcl, hxl, hf⟩ := DataW.trod_struct Tryz.underlying139 h
    rw [cells139] at hcl
    obtain ⟨v0, v1, v2, v3, v4, v5, rfl⟩ : ∃ v0 v1 v2 v3 v4 v5, cs = [v0, v1, v2, v3, v4, v5] := by
      match cs, hcl with
      | [v0, v1, v2, v3, v4, v5], _ => exact ⟨_, _, _, _, _, _, rfl⟩
    obtain ⟨y0, y1, y2, y3, y4, y5, rfl⟩ : ∃ y0 y1 y2 y3 y4 y5, xs = [y0, y1, y2, y3, y4, y5] := by
      match xs, hxl with
      | [y0, y1, y2, y3, y4, y5], _ => exact ⟨_, _, _, _, _, _, rfl⟩
    have f0 : DataW.trod enc Tryz.prog w 0 sp held n 3 (([v0, v1, v2, v3, v4, v5].drop 0).take (Tryz.prog.cellsOf 3)) = some y0 := hf 0 _ rfl
    have f1 : DataW.trod enc Tryz.prog w 0 sp held n 3 (([v0, v1, v2, v3, v4, v5].drop 1).take (Tryz.prog.cellsOf 3)) = some y1 := hf 1 _ rfl
    have f2 : DataW.trod enc Tryz.prog w 0 sp held n 9 (([v0, v1, v2, v3, v4, v5].drop 2).take (Tryz.prog.cellsOf 9)) = some y2 := hf 2 _ rfl
    have f3 : DataW.trod enc Tryz.prog w 0 sp held n 135 (([v0, v1, v2, v3, v4, v5].drop 3).take (Tryz.prog.cellsOf 135)) = some y3 := hf 3 _ rfl
    have f4 : DataW.trod enc Tryz.prog w 0 sp held n 136 (([v0, v1, v2, v3, v4, v5].drop 4).take (Tryz.prog.cellsOf 136)) = some y4 := hf 4 _ rfl
    have f5 : DataW.trod enc Tryz.prog w 0 sp held n 137 (([v0, v1, v2, v3, v4, v5].drop 5).take (Tryz.prog.cellsOf 137)) = some y5 := hf 5 _ rfl
    clear hf hcl hxl h
    rw [cells3] at f0
    simp only [List.drop_zero, List.take_succ_cons, List.take_zero] at f0
    obtain ⟨a0, e0, rfl, w0⟩ := DataW.trod_int Tryz.underlying3 f0
    injection e0 with e0 _
    subst e0
    have w0 := wf64 w0
    rw [cells3] at f1
    simp only [List.drop_succ_cons, List.drop_zero, List.take_succ_cons, List.take_zero] at f1
    obtain ⟨a1, e1, rfl, w1⟩ := DataW.trod_int Tryz.underlying3 f1
    injection e1 with e1 _
    subst e1
    have w1 := wf64 w1
    rw [cells9] at f2
    simp only [List.drop_succ_cons, List.drop_zero, List.take_succ_cons, List.take_zero] at f2
    obtain ⟨a2, e2, rfl, _⟩ := DataW.trod_string Tryz.underlying9 f2
    injection e2 with e2 _
    subst e2
    rw [cells135] at f3
    simp only [List.drop_succ_cons, List.drop_zero, List.take_succ_cons, List.take_zero] at f3
    obtain ⟨l3, A3, c3, e3, r3, b3, n3⟩ := openRow (R := EIn w w.heap.size) (wt := wE) Tryz.underlying135 cells158 (by decide) (fun m hm cs y hy => openE hy) f3
    injection e3 with e3 _
    subst e3
    rw [cells136] at f4
    simp only [List.drop_succ_cons, List.drop_zero, List.take_succ_cons, List.take_zero] at f4
    obtain ⟨l4, A4, c4, e4, r4, b4, n4⟩ := openRow (R := LIn w w.heap.size) (wt := wL) Tryz.underlying136 cells51 (by decide) (fun m hm cs y hy => openL hy) f4
    injection e4 with e4 _
    subst e4
    rw [cells137] at f5
    simp only [List.drop_succ_cons, List.drop_zero, List.take_succ_cons, List.take_nil] at f5
    obtain ⟨l5, A5, c5, e5, r5, b5, n5⟩ := openRow (R := BIn w w.heap.size) (wt := fun b => 1 + wSs b) Tryz.underlying137 cells26 (by decide) (fun m hm cs y hy => by
      obtain ⟨l, A, c, rfl, hr, hb, _⟩ := openRow (R := SIn w w.heap.size) (wt := wS) Tryz.underlying26 cells139 (by decide) (fun m2 hm2 cs y hy => ih m2 (by omega) hy) hy
      exact ⟨l, ⟨A, c, rfl, hr⟩, by rw [wSs_sum]; omega⟩) f5
    injection e5 with e5 _
    subst e5
    clear f0 f1 f2 f3 f4 f5
    refine ⟨.mk a0 a1 a2 l3 l4 l5, SIn.of_form A3 A4 A5 c3 c4 c5 w1 r3 r4 r5, ?_⟩
    have := dn_le w1
    simp only [wS, wEs_sum, wBs_sum, List.map_cons, List.map_nil, Rows.uptoBulk, Rows.uptoBulkAll]
    simp only [ByteArray.size, Array.length_toList]
    omega
set_option maxRecDepth 100000 in
theorem openM {fuel : Nat} {cs : List Value} {x : DataW H × List MemPlace} (h : DataW.trod enc Tryz.prog w 0 sp held fuel 70 cs = some x) : ∃ m : MT, MIn w w.heap.size m cs ∧ wM m ≤ 24 * Rows.uptoBulk x.1 := by
  obtain ⟨xs, n, rfl, rfl, hcl, hxl, hf⟩ := DataW.trod_struct Tryz.underlying70 h
  rw [cells70] at hcl
  obtain ⟨v0, v1, v2, v3, v4, v5, v6, v7, v8, v9, v10, rfl⟩ : ∃ v0 v1 v2 v3 v4 v5 v6 v7 v8 v9 v10, cs = [v0, v1, v2, v3, v4, v5, v6, v7, v8, v9, v10] := by
    match cs, hcl with
    | [v0, v1, v2, v3, v4, v5, v6, v7, v8, v9, v10], _ => exact ⟨_, _, _, _, _, _, _, _, _, _, _, rfl⟩
  obtain ⟨y0, y1, y2, y3, y4, y5, y6, y7, rfl⟩ : ∃ y0 y1 y2 y3 y4 y5 y6 y7, xs = [y0, y1, y2, y3, y4, y5, y6, y7] := by
    match xs, hxl with
    | [y0, y1, y2, y3, y4, y5, y6, y7], _ => exact ⟨_, _, _, _, _, _, _, _, rfl⟩
  have f0 : DataW.trod enc Tryz.prog w 0 sp held n 9 (([v0, v1, v2, v3, v4, v5, v6, v7, v8, v9, v10].drop 0).take (Tryz.prog.cellsOf 9)) = some y0 := hf 0 _ rfl
  have f1 : DataW.trod enc Tryz.prog w 0 sp held n 4 (([v0, v1, v2, v3, v4, v5, v6, v7, v8, v9, v10].drop 1).take (Tryz.prog.cellsOf 4)) = some y1 := hf 1 _ rfl
  have f2 : DataW.trod enc Tryz.prog w 0 sp held n 4 (([v0, v1, v2, v3, v4, v5, v6, v7, v8, v9, v10].drop 2).take (Tryz.prog.cellsOf 4)) = some y2 := hf 2 _ rfl
  have f3 : DataW.trod enc Tryz.prog w 0 sp held n 4 (([v0, v1, v2, v3, v4, v5, v6, v7, v8, v9, v10].drop 3).take (Tryz.prog.cellsOf 4)) = some y3 := hf 3 _ rfl
  have f4 : DataW.trod enc Tryz.prog w 0 sp held n 24 (([v0, v1, v2, v3, v4, v5, v6, v7, v8, v9, v10].drop 4).take (Tryz.prog.cellsOf 24)) = some y4 := hf 4 _ rfl
  have f5 : DataW.trod enc Tryz.prog w 0 sp held n 38 (([v0, v1, v2, v3, v4, v5, v6, v7, v8, v9, v10].drop 5).take (Tryz.prog.cellsOf 38)) = some y5 := hf 5 _ rfl
  have f6 : DataW.trod enc Tryz.prog w 0 sp held n 24 (([v0, v1, v2, v3, v4, v5, v6, v7, v8, v9, v10].drop 9).take (Tryz.prog.cellsOf 24)) = some y6 := hf 6 _ rfl
  have f7 : DataW.trod enc Tryz.prog w 0 sp held n 26 (([v0, v1, v2, v3, v4, v5, v6, v7, v8, v9, v10].drop 10).take (Tryz.prog.cellsOf 26)) = some y7 := hf 7 _ rfl
  clear hf hcl hxl h
  rw [cells9] at f0
  simp only [List.drop_zero, List.take_succ_cons, List.take_zero] at f0
  obtain ⟨a0, e0, rfl, _⟩ := DataW.trod_string Tryz.underlying9 f0
  injection e0 with e0 _
  subst e0
  rw [cells4] at f1
  simp only [List.drop_succ_cons, List.drop_zero, List.take_succ_cons, List.take_zero] at f1
  obtain ⟨a1, e1, rfl⟩ := DataW.trod_bool Tryz.underlying4 f1
  injection e1 with e1 _
  subst e1
  rw [cells4] at f2
  simp only [List.drop_succ_cons, List.drop_zero, List.take_succ_cons, List.take_zero] at f2
  obtain ⟨a2, e2, rfl⟩ := DataW.trod_bool Tryz.underlying4 f2
  injection e2 with e2 _
  subst e2
  rw [cells4] at f3
  simp only [List.drop_succ_cons, List.drop_zero, List.take_succ_cons, List.take_zero] at f3
  obtain ⟨a3, e3, rfl⟩ := DataW.trod_bool Tryz.underlying4 f3
  injection e3 with e3 _
  subst e3
  rw [cells24] at f4
  simp only [List.drop_succ_cons, List.drop_zero, List.take_succ_cons, List.take_zero] at f4
  obtain ⟨l4, A4, c4, e4, r4, b4, n4⟩ := openRow (R := VIn) (wt := wV) Tryz.underlying24 cells41 (by decide) (fun m hm cs y hy => openV hy) f4
  injection e4 with e4 _
  subst e4
  rw [cells38] at f5
  simp only [List.drop_succ_cons, List.drop_zero, List.take_succ_cons, List.take_zero] at f5
  obtain ⟨t5, e5, k5, b5⟩ := openY f5
  injection e5 with d0 e5
  injection e5 with d1 e5
  injection e5 with d2 e5
  injection e5 with d3 _
  subst d0 d1 d2 d3
  rw [cells24] at f6
  simp only [List.drop_succ_cons, List.drop_zero, List.take_succ_cons, List.take_zero] at f6
  obtain ⟨l6, A6, c6, e6, r6, b6, n6⟩ := openRow (R := VIn) (wt := wV) Tryz.underlying24 cells41 (by decide) (fun m hm cs y hy => openV hy) f6
  injection e6 with e6 _
  subst e6
  rw [cells26] at f7
  simp only [List.drop_succ_cons, List.drop_zero, List.take_succ_cons, List.take_nil] at f7
  obtain ⟨l7, A7, c7, e7, r7, b7, n7⟩ := openRow (R := SIn w w.heap.size) (wt := wS) Tryz.underlying26 cells139 (by decide) (fun m hm cs y hy => openS hy) f7
  injection e7 with e7 _
  subst e7
  clear f0 f1 f2 f3 f4 f5 f6 f7
  refine ⟨⟨a0, a1, a2, a3, l4, t5, l6, l7⟩, ⟨A4, c4, A6, c6, A7, c7, rfl, k5, r4, r6, r7⟩, ?_⟩
  simp only [wM, wSs_sum, List.map_cons, List.map_nil, Rows.uptoBulk, Rows.uptoBulkAll]
  unfold wY at b5 ⊢
  simp only [ByteArray.size, Array.length_toList] at b5 ⊢
  omega
set_option maxRecDepth 100000 in
theorem openD {fuel : Nat} {cs : List Value} {x : DataW H × List MemPlace} (h : DataW.trod enc Tryz.prog w 0 sp held fuel 28 cs = some x) : ∃ d : DT, DIn w w.heap.size d cs ∧ wD d ≤ 24 * Rows.uptoBulk x.1 := by
  obtain ⟨xs, n, rfl, rfl, hcl, hxl, hf⟩ := DataW.trod_struct Tryz.underlying28 h
  rw [cells28] at hcl
  obtain ⟨v0, v1, v2, v3, v4, v5, v6, v7, v8, v9, v10, rfl⟩ : ∃ v0 v1 v2 v3 v4 v5 v6 v7 v8 v9 v10, cs = [v0, v1, v2, v3, v4, v5, v6, v7, v8, v9, v10] := by
    match cs, hcl with
    | [v0, v1, v2, v3, v4, v5, v6, v7, v8, v9, v10], _ => exact ⟨_, _, _, _, _, _, _, _, _, _, _, rfl⟩
  obtain ⟨y0, y1, y2, y3, y4, y5, y6, y7, y8, y9, y10, rfl⟩ : ∃ y0 y1 y2 y3 y4 y5 y6 y7 y8 y9 y10, xs = [y0, y1, y2, y3, y4, y5, y6, y7, y8, y9, y10] := by
    match xs, hxl with
    | [y0, y1, y2, y3, y4, y5, y6, y7, y8, y9, y10], _ => exact ⟨_, _, _, _, _, _, _, _, _, _, _, rfl⟩
  have f0 : DataW.trod enc Tryz.prog w 0 sp held n 3 (([v0, v1, v2, v3, v4, v5, v6, v7, v8, v9, v10].drop 0).take (Tryz.prog.cellsOf 3)) = some y0 := hf 0 _ rfl
  have f1 : DataW.trod enc Tryz.prog w 0 sp held n 9 (([v0, v1, v2, v3, v4, v5, v6, v7, v8, v9, v10].drop 1).take (Tryz.prog.cellsOf 9)) = some y1 := hf 1 _ rfl
  have f2 : DataW.trod enc Tryz.prog w 0 sp held n 9 (([v0, v1, v2, v3, v4, v5, v6, v7, v8, v9, v10].drop 2).take (Tryz.prog.cellsOf 9)) = some y2 := hf 2 _ rfl
  have f3 : DataW.trod enc Tryz.prog w 0 sp held n 23 (([v0, v1, v2, v3, v4, v5, v6, v7, v8, v9, v10].drop 3).take (Tryz.prog.cellsOf 23)) = some y3 := hf 3 _ rfl
  have f4 : DataW.trod enc Tryz.prog w 0 sp held n 4 (([v0, v1, v2, v3, v4, v5, v6, v7, v8, v9, v10].drop 4).take (Tryz.prog.cellsOf 4)) = some y4 := hf 4 _ rfl
  have f5 : DataW.trod enc Tryz.prog w 0 sp held n 4 (([v0, v1, v2, v3, v4, v5, v6, v7, v8, v9, v10].drop 5).take (Tryz.prog.cellsOf 4)) = some y5 := hf 5 _ rfl
  have f6 : DataW.trod enc Tryz.prog w 0 sp held n 24 (([v0, v1, v2, v3, v4, v5, v6, v7, v8, v9, v10].drop 6).take (Tryz.prog.cellsOf 24)) = some y6 := hf 6 _ rfl
  have f7 : DataW.trod enc Tryz.prog w 0 sp held n 25 (([v0, v1, v2, v3, v4, v5, v6, v7, v8, v9, v10].drop 7).take (Tryz.prog.cellsOf 25)) = some y7 := hf 7 _ rfl
  have f8 : DataW.trod enc Tryz.prog w 0 sp held n 26 (([v0, v1, v2, v3, v4, v5, v6, v7, v8, v9, v10].drop 8).take (Tryz.prog.cellsOf 26)) = some y8 := hf 8 _ rfl
  have f9 : DataW.trod enc Tryz.prog w 0 sp held n 3 (([v0, v1, v2, v3, v4, v5, v6, v7, v8, v9, v10].drop 9).take (Tryz.prog.cellsOf 3)) = some y9 := hf 9 _ rfl
  have f10 : DataW.trod enc Tryz.prog w 0 sp held n 3 (([v0, v1, v2, v3, v4, v5, v6, v7, v8, v9, v10].drop 10).take (Tryz.prog.cellsOf 3)) = some y10 := hf 10 _ rfl
  clear hf hcl hxl h
  rw [cells3] at f0
  simp only [List.drop_zero, List.take_succ_cons, List.take_zero] at f0
  obtain ⟨a0, e0, rfl, w0⟩ := DataW.trod_int Tryz.underlying3 f0
  injection e0 with e0 _
  subst e0
  have w0 := wf64 w0
  rw [cells9] at f1
  simp only [List.drop_succ_cons, List.drop_zero, List.take_succ_cons, List.take_zero] at f1
  obtain ⟨a1, e1, rfl, _⟩ := DataW.trod_string Tryz.underlying9 f1
  injection e1 with e1 _
  subst e1
  rw [cells9] at f2
  simp only [List.drop_succ_cons, List.drop_zero, List.take_succ_cons, List.take_zero] at f2
  obtain ⟨a2, e2, rfl, _⟩ := DataW.trod_string Tryz.underlying9 f2
  injection e2 with e2 _
  subst e2
  rw [cells23] at f3
  simp only [List.drop_succ_cons, List.drop_zero, List.take_succ_cons, List.take_zero] at f3
  obtain ⟨l3, A3, c3, e3, r3, b3, n3⟩ := openRow (R := XIn) (wt := wX) Tryz.underlying23 cells9 (by decide) (fun m hm cs y hy => openX hy) f3
  injection e3 with e3 _
  subst e3
  rw [cells4] at f4
  simp only [List.drop_succ_cons, List.drop_zero, List.take_succ_cons, List.take_zero] at f4
  obtain ⟨a4, e4, rfl⟩ := DataW.trod_bool Tryz.underlying4 f4
  injection e4 with e4 _
  subst e4
  rw [cells4] at f5
  simp only [List.drop_succ_cons, List.drop_zero, List.take_succ_cons, List.take_zero] at f5
  obtain ⟨a5, e5, rfl⟩ := DataW.trod_bool Tryz.underlying4 f5
  injection e5 with e5 _
  subst e5
  rw [cells24] at f6
  simp only [List.drop_succ_cons, List.drop_zero, List.take_succ_cons, List.take_zero] at f6
  obtain ⟨l6, A6, c6, e6, r6, b6, n6⟩ := openRow (R := VIn) (wt := wV) Tryz.underlying24 cells41 (by decide) (fun m hm cs y hy => openV hy) f6
  injection e6 with e6 _
  subst e6
  rw [cells25] at f7
  simp only [List.drop_succ_cons, List.drop_zero, List.take_succ_cons, List.take_zero] at f7
  obtain ⟨l7, A7, c7, e7, r7, b7, n7⟩ := openRow (R := MIn w w.heap.size) (wt := wM) Tryz.underlying25 cells70 (by decide) (fun m hm cs y hy => openM hy) f7
  injection e7 with e7 _
  subst e7
  rw [cells26] at f8
  simp only [List.drop_succ_cons, List.drop_zero, List.take_succ_cons, List.take_zero] at f8
  obtain ⟨l8, A8, c8, e8, r8, b8, n8⟩ := openRow (R := SIn w w.heap.size) (wt := wS) Tryz.underlying26 cells139 (by decide) (fun m hm cs y hy => openS hy) f8
  injection e8 with e8 _
  subst e8
  rw [cells3] at f9
  simp only [List.drop_succ_cons, List.drop_zero, List.take_succ_cons, List.take_zero] at f9
  obtain ⟨a9, e9, rfl, w9⟩ := DataW.trod_int Tryz.underlying3 f9
  injection e9 with e9 _
  subst e9
  have w9 := wf64 w9
  rw [cells3] at f10
  simp only [List.drop_succ_cons, List.drop_zero, List.take_succ_cons, List.take_nil] at f10
  obtain ⟨a10, e10, rfl, w10⟩ := DataW.trod_int Tryz.underlying3 f10
  injection e10 with e10 _
  subst e10
  have w10 := wf64 w10
  clear f0 f1 f2 f3 f4 f5 f6 f7 f8 f9 f10
  refine ⟨⟨a0, a1, a2, l3, a4, a5, l6, l7, l8, a9, a10⟩, ⟨A3, c3, A6, c6, A7, c7, A8, c8, rfl, w9, w10, r3, r6, r7, r8⟩, ?_⟩
  have := dn_le w9
  have := dn_le w10
  simp only [wD, wSs_sum, List.map_cons, List.map_nil, Rows.uptoBulk, Rows.uptoBulkAll]
  simp only [ByteArray.size, Array.length_toList]
  omega
set_option maxRecDepth 100000 in
theorem openU {fuel : Nat} {cs : List Value} {x : DataW H × List MemPlace} (h : DataW.trod enc Tryz.prog w 0 sp held fuel 31 cs = some x) : ∃ (L : List DT) (A : Option Addr) (c : Nat), cs = [.slice A L.length c] ∧ DsR w w.heap.size A L ∧ wU L ≤ 24 * Rows.uptoBulk x.1 ∧ (A = none → c = 0) := by
  obtain ⟨xs, n, rfl, rfl, hcl, hxl, hf⟩ := DataW.trod_struct Tryz.underlying31 h
  rw [cells31] at hcl
  obtain ⟨v0, rfl⟩ : ∃ v0, cs = [v0] := by
    match cs, hcl with
    | [v0], _ => exact ⟨_, rfl⟩
  obtain ⟨y0, rfl⟩ : ∃ y0, xs = [y0] := by
    match xs, hxl with
    | [y0], _ => exact ⟨_, rfl⟩
  have f0 : DataW.trod enc Tryz.prog w 0 sp held n 29 (([v0].drop 0).take (Tryz.prog.cellsOf 29)) = some y0 := hf 0 _ rfl
  clear hf hcl hxl h
  rw [cells29] at f0
  simp only [List.drop_zero, List.take_succ_cons, List.take_nil] at f0
  obtain ⟨l0, A0, c0, e0, r0, b0, n0⟩ := openRow (R := DIn w w.heap.size) (wt := wD) Tryz.underlying29 cells28 (by decide) (fun m hm cs y hy => openD hy) f0
  injection e0 with e0 _
  subst e0
  clear f0
  refine ⟨l0, A0, c0, rfl, r0, ?_, n0⟩
  simp only [wU, List.map_cons, List.map_nil, Rows.uptoBulk, Rows.uptoBulkAll]
  omega
end
end Go.Proofs.YtbgilpmoijdcfaaGreat
