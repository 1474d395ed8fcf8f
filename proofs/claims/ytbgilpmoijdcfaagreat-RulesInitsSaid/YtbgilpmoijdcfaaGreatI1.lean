/-
  governorlaw8.RulesInits: what a program of one variable is told.
-/
import Derived.Test.YtbgilpmoijdcfaaGreatK11
namespace Go.Proofs.YtbgilpmoijdcfaaGreat
open Go Go.RowKit Go.Shelf
set_option linter.unusedVariables false
set_option linter.unusedSimpArgs false

def inV (k tl th n d s : Int) : VT := ⟨⟨#[120]⟩, ⟨k, tl, th, ⟨#[]⟩⟩, n, d, s⟩
def inD (k tl th n d s : Int) : DT := ⟨3, ⟨#[80]⟩, ⟨#[]⟩, [], false, false, [inV k tl th n d s], [], [], 0, 0⟩
theorem in_small (k tl th n d s : Int) : SmallU [inD k tl th n d s] := bare_small (by simp) fun x hx => by
  obtain rfl : x = inD k tl th n d s := by simpa using hx
  exact ⟨by show (ByteArray.size ⟨#[80]⟩) ≤ 10; decide, by show (ByteArray.size ⟨#[]⟩) ≤ 10; decide, rfl, rfl, by simp [inD], .inr ⟨rfl, rfl⟩⟩
theorem in_code (k tl th n d s : Int) : codeT [inD k tl th n d s] 0 = if (oddVarT [inD k tl th n d s] (inV k tl th n d s) || false) = true then 9 else if (!startT (inV k tl th n d s) || false) = true then 10 else if oddSlotT [] [inV k tl th n d s] = true then 16 else 0 := by kernel_rfl
theorem in_slot (k tl th n d s : Int) : oddSlotT [] [inV k tl th n d s] = decide (d ≠ 0 ∧ btwT s 0 7 = false) := by
  have e : oddSlotT [] [inV k tl th n d s] = if d ≠ 0 ∧ btwT s 0 7 = false then true else if d = 2 then (if s ∈ ([] : List Int) then true else false) else false := rfl
  rw [e]
  by_cases h : d ≠ 0 ∧ btwT s 0 7 = false
  · rw [if_pos h, decide_eq_true h]
  · rw [if_neg h, decide_eq_false h]
    split <;> simp
theorem in_odd (k tl th n d s : Int) : oddVarT [inD k tl th n d s] (inV k tl th n d s) = (!holdT [inD k tl th n d s] ⟨k, tl, th, ⟨#[]⟩⟩ || !(decide (d = 0) || (btwT d 1 2 && (decide (k = 1) || decide (k = 2))))) := rfl
theorem in_0 (n d s : Int) (h0 : 0 ≤ d) (h2 : d ≤ 2) : codeT [inD 1 0 0 n d s] 0 = if btwT n (-32768) 32767 = false then 10 else if d ≠ 0 ∧ btwT s 0 7 = false then 16 else 0 := by
  have hl : (decide (d = 0) || (btwT d 1 2 && (decide ((1 : Int) = 1) || decide ((1 : Int) = 2)))) = true := by
    by_cases h : d = 0
    · simp [h]
    · simp [btwT, h2]; omega
  have hh : holdT [inD 1 0 0 n d s] ⟨1, 0, 0, ⟨#[]⟩⟩ = true := by kernel_rfl
  have hs : startT (inV 1 0 0 n d s) = btwT n (-32768) 32767 := by kernel_rfl
  rw [in_code, in_odd, hl, hh, hs, in_slot]
  cases btwT n (-32768) 32767 <;> simp
theorem in_1 (n d s : Int) (h0 : 0 ≤ d) (h2 : d ≤ 2) : codeT [inD 2 0 0 n d s] 0 = if btwT n 0 1 = false then 10 else if d ≠ 0 ∧ btwT s 0 7 = false then 16 else 0 := by
  have hl : (decide (d = 0) || (btwT d 1 2 && (decide ((2 : Int) = 1) || decide ((2 : Int) = 2)))) = true := by
    by_cases h : d = 0
    · simp [h]
    · simp [btwT, h2]; omega
  have hh : holdT [inD 2 0 0 n d s] ⟨2, 0, 0, ⟨#[]⟩⟩ = true := by kernel_rfl
  have hs : startT (inV 2 0 0 n d s) = btwT n 0 1 := by kernel_rfl
  rw [in_code, in_odd, hl, hh, hs, in_slot]
  cases btwT n 0 1 <;> simp
theorem in_o (k tl th n d s : Int) (hk1 : k ≠ 1) (hk2 : k ≠ 2) (hh : holdT [inD k tl th n d s] ⟨k, tl, th, ⟨#[]⟩⟩ = true) : codeT [inD k tl th n d s] 0 = if d ≠ 0 then 9 else if startT (inV k tl th n d s) = false then 10 else 0 := by
  rw [in_code, in_odd, hh, in_slot, decide_eq_false hk1, decide_eq_false hk2]
  by_cases h : d = 0
  · cases startT (inV k tl th n d s) <;> simp [h]
  · cases startT (inV k tl th n d s) <;> simp [h]
theorem in_2 (lo hi n d s : Int) (h1 : -32768 ≤ lo) (h2 : hi ≤ 32767) (h3 : lo ≤ hi) : codeT [inD 3 lo hi n d s] 0 = if d ≠ 0 then 9 else if btwT n lo hi = false then 10 else 0 := by
  have hh : holdT [inD 3 lo hi n d s] ⟨3, lo, hi, ⟨#[]⟩⟩ = true := by simp [holdT, keepT, h1, h2, h3]
  have hs : startT (inV 3 lo hi n d s) = btwT n lo hi := by kernel_rfl
  rw [in_o 3 lo hi n d s (by decide) (by decide) hh, hs]
theorem in_3 (n d s : Int) : codeT [inD 4 0 3 n d s] 0 = if d ≠ 0 then 9 else if decide (n = 0) = false then 10 else 0 := by
  have hs : startT (inV 4 0 3 n d s) = decide (n = 0) := by kernel_rfl
  rw [in_o 4 0 3 n d s (by decide) (by decide) (by kernel_rfl), hs]
theorem in_4 (n d s : Int) : codeT [inD 7 1 0 n d s] 0 = if d ≠ 0 then 9 else if decide (n = 0) = false then 10 else 0 := by
  have hs : startT (inV 7 1 0 n d s) = decide (n = 0) := by kernel_rfl
  rw [in_o 7 1 0 n d s (by decide) (by decide) (by kernel_rfl), hs]
end Go.Proofs.YtbgilpmoijdcfaaGreat

/-
  governorlaw8.RulesInits: the walk, kind 0.
-/
namespace Go.Proofs.YtbgilpmoijdcfaaGreat
open Go Go.RowKit Go.Shelf
set_option linter.unusedVariables false
set_option linter.unusedSimpArgs false

set_option maxHeartbeats 8000000 in
set_option maxRecDepth 100000 in
theorem inits_0 (m0 n m2 m3 m4 m5 : Int) (inn : I64 n) (hk : lowT m0 5 = 0) (w : World) : Calls Tryz.prog 4 #[.int .i64 m0, .int .i64 n, .int .i64 m2, .int .i64 m3, .int .i64 m4, .int .i64 m5] w fun e w' => e = .returned (.bool true) ∧ Below w.heap.size w w' := by
  obtain ⟨a1, e1, b1⟩ : ∃ a : Nat, a = lowT m2 50 ∧ a < 50 := ⟨_, rfl, lowT_lt _ (by decide)⟩
  obtain ⟨a2, e2, b2⟩ : ∃ a : Nat, a = lowT m3 30 ∧ a < 30 := ⟨_, rfl, lowT_lt _ (by decide)⟩
  obtain ⟨a3, e3, b3⟩ : ∃ a : Nat, a = lowT m4 3 ∧ a < 3 := ⟨_, rfl, lowT_lt _ (by decide)⟩
  obtain ⟨a4, e4, b4⟩ : ∃ a : Nat, a = lowT m5 12 ∧ a < 12 := ⟨_, rfl, lowT_lt _ (by decide)⟩
  obtain ⟨lo, elo⟩ : ∃ e : Int, e = (a1 : Int) - 25 := ⟨_, rfl⟩
  obtain ⟨hi, ehi⟩ : ∃ e : Int, e = lo + (a2 : Int) := ⟨_, rfl⟩
  obtain ⟨d, ed⟩ : ∃ e : Int, e = (a3 : Int) := ⟨_, rfl⟩
  obtain ⟨s, es⟩ : ∃ e : Int, e = (a4 : Int) - 2 := ⟨_, rfl⟩
  have w1 : IntKind.i64.wrap ((a1 : Int) - 25) = lo := by rw [IntKind.wrap_i64]; omega
  have w2 : IntKind.i64.wrap (lo + (a2 : Int)) = hi := by rw [IntKind.wrap_i64]; omega
  have w4 : IntKind.i64.wrap ((a4 : Int) - 2) = s := by rw [IntKind.wrap_i64]; omega
  have K1 : Hid (∀ W, Calls Tryz.prog 5 #[.int .i64 m2, .int .i64 50] W fun e w' => e = .returned (.int .i64 (a1 : Int)) ∧ w' = W) := fun W => e1 ▸ low_at m2 50 (by decide) (by decide) W
  have K2 : Hid (∀ W, Calls Tryz.prog 5 #[.int .i64 m3, .int .i64 30] W fun e w' => e = .returned (.int .i64 (a2 : Int)) ∧ w' = W) := fun W => e2 ▸ low_at m3 30 (by decide) (by decide) W
  have K3 : Hid (∀ W, Calls Tryz.prog 5 #[.int .i64 m4, .int .i64 3] W fun e w' => e = .returned (.int .i64 d) ∧ w' = W) := fun W => by rw [ed, e3]; exact low_at m4 3 (by decide) (by decide) W
  have K4 : Hid (∀ W, Calls Tryz.prog 5 #[.int .i64 m5, .int .i64 12] W fun e w' => e = .returned (.int .i64 (a4 : Int)) ∧ w' = W) := fun W => e4 ▸ low_at m5 12 (by decide) (by decide) W
  have K5 : Hid (∀ W, Calls Tryz.prog 5 #[.int .i64 m0, .int .i64 5] W fun e w' => e = .returned (.int .i64 0) ∧ w' = W) := fun W => by have := low_at m0 5 (by decide) (by decide) W; rw [hk] at this; exact this
  have d0 : 0 ≤ d := by omega
  have d2 : d ≤ 2 := by omega
  have ilo : I64 lo := ⟨by omega, by omega⟩
  have ihi : I64 hi := ⟨by omega, by omega⟩
  have is : I64 s := ⟨by omega, by omega⟩
  have i0 : I64 0 := ⟨by decide, by decide⟩
  have i1 : I64 1 := ⟨by decide, by decide⟩
  have i3 : I64 3 := ⟨by decide, by decide⟩
  have hcases : (n < -32768 ∧ d = 0 ∧ codeT [inD 1 0 0 n d s] 0 = 10) ∨ (n < -32768 ∧ ¬ d = 0 ∧ codeT [inD 1 0 0 n d s] 0 = 10) ∨ (-32768 ≤ n ∧ 32767 < n ∧ d = 0 ∧ codeT [inD 1 0 0 n d s] 0 = 10) ∨ (-32768 ≤ n ∧ 32767 < n ∧ ¬ d = 0 ∧ codeT [inD 1 0 0 n d s] 0 = 10) ∨ (-32768 ≤ n ∧ n ≤ 32767 ∧ d = 0 ∧ codeT [inD 1 0 0 n d s] 0 = 0) ∨ (-32768 ≤ n ∧ n ≤ 32767 ∧ ¬ d = 0 ∧ s < 0 ∧ codeT [inD 1 0 0 n d s] 0 = 16) ∨ (-32768 ≤ n ∧ n ≤ 32767 ∧ ¬ d = 0 ∧ 0 ≤ s ∧ 8 ≤ s ∧ codeT [inD 1 0 0 n d s] 0 = 16) ∨ (-32768 ≤ n ∧ n ≤ 32767 ∧ ¬ d = 0 ∧ 0 ≤ s ∧ s < 8 ∧ codeT [inD 1 0 0 n d s] 0 = 0) := by
    have hp := in_0 n d s d0 d2
    by_cases c1 : -32768 ≤ n
    · by_cases c2 : n ≤ 32767
      · by_cases c3 : d = 0
        · refine Or.inr (Or.inr (Or.inr (Or.inr (Or.inl ⟨(by omega), (by omega), (by omega), hp.trans ?_⟩))))
          simp [btwT] <;> omega
        · by_cases c4 : 0 ≤ s
          · by_cases c5 : s < 8
            · refine Or.inr (Or.inr (Or.inr (Or.inr (Or.inr (Or.inr (Or.inr (⟨(by omega), (by omega), (by omega), (by omega), (by omega), hp.trans ?_⟩)))))))
              simp [btwT] <;> omega
            · refine Or.inr (Or.inr (Or.inr (Or.inr (Or.inr (Or.inr (Or.inl ⟨(by omega), (by omega), (by omega), (by omega), (by omega), hp.trans ?_⟩))))))
              simp [btwT] <;> omega
          · refine Or.inr (Or.inr (Or.inr (Or.inr (Or.inr (Or.inl ⟨(by omega), (by omega), (by omega), (by omega), hp.trans ?_⟩)))))
            simp [btwT] <;> omega
      · by_cases c6 : d = 0
        · refine Or.inr (Or.inr (Or.inl ⟨(by omega), (by omega), (by omega), hp.trans ?_⟩))
          simp [btwT] <;> omega
        · refine Or.inr (Or.inr (Or.inr (Or.inl ⟨(by omega), (by omega), (by omega), hp.trans ?_⟩)))
          simp [btwT] <;> omega
    · by_cases c7 : d = 0
      · refine Or.inl ⟨(by omega), (by omega), hp.trans ?_⟩
        simp [btwT] <;> omega
      · refine Or.inr (Or.inl ⟨(by omega), (by omega), hp.trans ?_⟩)
        simp [btwT] <;> omega
  clear e1 e2 e3 e4 elo ehi ed es hk
  have hy : (w.alloc (.cells #[.int .i64 1, .int .i64 0, .int .i64 0, .string ⟨#[]⟩, .int .i64 2, .int .i64 0, .int .i64 0, .string ⟨#[]⟩, .int .i64 3, .int .i64 lo, .int .i64 hi, .string ⟨#[]⟩, .int .i64 4, .int .i64 0, .int .i64 3, .string ⟨#[]⟩, .int .i64 7, .int .i64 1, .int .i64 0, .string ⟨#[]⟩] 38)).heap[w.heap.size]? = some (.cells #[.int .i64 1, .int .i64 0, .int .i64 0, .string ⟨#[]⟩, .int .i64 2, .int .i64 0, .int .i64 0, .string ⟨#[]⟩, .int .i64 3, .int .i64 lo, .int .i64 hi, .string ⟨#[]⟩, .int .i64 4, .int .i64 0, .int .i64 3, .string ⟨#[]⟩, .int .i64 7, .int .i64 1, .int .i64 0, .string ⟨#[]⟩] 38 (0, 0)) := heap_alloc_new w _
  have y_0 : (w.alloc (.cells #[.int .i64 1, .int .i64 0, .int .i64 0, .string ⟨#[]⟩, .int .i64 2, .int .i64 0, .int .i64 0, .string ⟨#[]⟩, .int .i64 3, .int .i64 lo, .int .i64 hi, .string ⟨#[]⟩, .int .i64 4, .int .i64 0, .int .i64 3, .string ⟨#[]⟩, .int .i64 7, .int .i64 1, .int .i64 0, .string ⟨#[]⟩] 38)).cell? ⟨w.heap.size, 0, none⟩ = some (.int .i64 1) := (cell_of_row _ _ 0 _ _ _ hy).trans rfl
  have y_1 : (w.alloc (.cells #[.int .i64 1, .int .i64 0, .int .i64 0, .string ⟨#[]⟩, .int .i64 2, .int .i64 0, .int .i64 0, .string ⟨#[]⟩, .int .i64 3, .int .i64 lo, .int .i64 hi, .string ⟨#[]⟩, .int .i64 4, .int .i64 0, .int .i64 3, .string ⟨#[]⟩, .int .i64 7, .int .i64 1, .int .i64 0, .string ⟨#[]⟩] 38)).cell? ⟨w.heap.size, 1, none⟩ = some (.int .i64 0) := (cell_of_row _ _ 1 _ _ _ hy).trans rfl
  have y_2 : (w.alloc (.cells #[.int .i64 1, .int .i64 0, .int .i64 0, .string ⟨#[]⟩, .int .i64 2, .int .i64 0, .int .i64 0, .string ⟨#[]⟩, .int .i64 3, .int .i64 lo, .int .i64 hi, .string ⟨#[]⟩, .int .i64 4, .int .i64 0, .int .i64 3, .string ⟨#[]⟩, .int .i64 7, .int .i64 1, .int .i64 0, .string ⟨#[]⟩] 38)).cell? ⟨w.heap.size, 2, none⟩ = some (.int .i64 0) := (cell_of_row _ _ 2 _ _ _ hy).trans rfl
  have y_3 : (w.alloc (.cells #[.int .i64 1, .int .i64 0, .int .i64 0, .string ⟨#[]⟩, .int .i64 2, .int .i64 0, .int .i64 0, .string ⟨#[]⟩, .int .i64 3, .int .i64 lo, .int .i64 hi, .string ⟨#[]⟩, .int .i64 4, .int .i64 0, .int .i64 3, .string ⟨#[]⟩, .int .i64 7, .int .i64 1, .int .i64 0, .string ⟨#[]⟩] 38)).cell? ⟨w.heap.size, 3, none⟩ = some (.string ⟨#[]⟩) := (cell_of_row _ _ 3 _ _ _ hy).trans rfl
  have ht : ((w.alloc (.cells #[.int .i64 1, .int .i64 0, .int .i64 0, .string ⟨#[]⟩, .int .i64 2, .int .i64 0, .int .i64 0, .string ⟨#[]⟩, .int .i64 3, .int .i64 lo, .int .i64 hi, .string ⟨#[]⟩, .int .i64 4, .int .i64 0, .int .i64 3, .string ⟨#[]⟩, .int .i64 7, .int .i64 1, .int .i64 0, .string ⟨#[]⟩] 38)).alloc (.cells #[.int .i64 1, .int .i64 0, .int .i64 0, .string ⟨#[]⟩] 38)).heap[w.heap.size + 1]? = some (.cells #[.int .i64 1, .int .i64 0, .int .i64 0, .string ⟨#[]⟩] 38 (0, 0)) := by
    have := heap_alloc_new (w.alloc (.cells #[.int .i64 1, .int .i64 0, .int .i64 0, .string ⟨#[]⟩, .int .i64 2, .int .i64 0, .int .i64 0, .string ⟨#[]⟩, .int .i64 3, .int .i64 lo, .int .i64 hi, .string ⟨#[]⟩, .int .i64 4, .int .i64 0, .int .i64 3, .string ⟨#[]⟩, .int .i64 7, .int .i64 1, .int .i64 0, .string ⟨#[]⟩] 38)) (.cells #[.int .i64 1, .int .i64 0, .int .i64 0, .string ⟨#[]⟩] 38)
    simpa using this
  have t_0 : ((w.alloc (.cells #[.int .i64 1, .int .i64 0, .int .i64 0, .string ⟨#[]⟩, .int .i64 2, .int .i64 0, .int .i64 0, .string ⟨#[]⟩, .int .i64 3, .int .i64 lo, .int .i64 hi, .string ⟨#[]⟩, .int .i64 4, .int .i64 0, .int .i64 3, .string ⟨#[]⟩, .int .i64 7, .int .i64 1, .int .i64 0, .string ⟨#[]⟩] 38)).alloc (.cells #[.int .i64 1, .int .i64 0, .int .i64 0, .string ⟨#[]⟩] 38)).cell? ⟨w.heap.size + 1, 0, none⟩ = some (.int .i64 1) := (cell_of_row _ _ 0 _ _ _ ht).trans rfl
  have t_1 : ((w.alloc (.cells #[.int .i64 1, .int .i64 0, .int .i64 0, .string ⟨#[]⟩, .int .i64 2, .int .i64 0, .int .i64 0, .string ⟨#[]⟩, .int .i64 3, .int .i64 lo, .int .i64 hi, .string ⟨#[]⟩, .int .i64 4, .int .i64 0, .int .i64 3, .string ⟨#[]⟩, .int .i64 7, .int .i64 1, .int .i64 0, .string ⟨#[]⟩] 38)).alloc (.cells #[.int .i64 1, .int .i64 0, .int .i64 0, .string ⟨#[]⟩] 38)).cell? ⟨w.heap.size + 1, 1, none⟩ = some (.int .i64 0) := (cell_of_row _ _ 1 _ _ _ ht).trans rfl
  have t_2 : ((w.alloc (.cells #[.int .i64 1, .int .i64 0, .int .i64 0, .string ⟨#[]⟩, .int .i64 2, .int .i64 0, .int .i64 0, .string ⟨#[]⟩, .int .i64 3, .int .i64 lo, .int .i64 hi, .string ⟨#[]⟩, .int .i64 4, .int .i64 0, .int .i64 3, .string ⟨#[]⟩, .int .i64 7, .int .i64 1, .int .i64 0, .string ⟨#[]⟩] 38)).alloc (.cells #[.int .i64 1, .int .i64 0, .int .i64 0, .string ⟨#[]⟩] 38)).cell? ⟨w.heap.size + 1, 2, none⟩ = some (.int .i64 0) := (cell_of_row _ _ 2 _ _ _ ht).trans rfl
  have t_3 : ((w.alloc (.cells #[.int .i64 1, .int .i64 0, .int .i64 0, .string ⟨#[]⟩, .int .i64 2, .int .i64 0, .int .i64 0, .string ⟨#[]⟩, .int .i64 3, .int .i64 lo, .int .i64 hi, .string ⟨#[]⟩, .int .i64 4, .int .i64 0, .int .i64 3, .string ⟨#[]⟩, .int .i64 7, .int .i64 1, .int .i64 0, .string ⟨#[]⟩] 38)).alloc (.cells #[.int .i64 1, .int .i64 0, .int .i64 0, .string ⟨#[]⟩] 38)).cell? ⟨w.heap.size + 1, 3, none⟩ = some (.string ⟨#[]⟩) := (cell_of_row _ _ 3 _ _ _ ht).trans rfl
  obtain ⟨R4, hR4⟩ : ∃ R4 : World, R4 = (((((w.alloc (.cells #[.int .i64 1, .int .i64 0, .int .i64 0, .string ⟨#[]⟩, .int .i64 2, .int .i64 0, .int .i64 0, .string ⟨#[]⟩, .int .i64 3, .int .i64 lo, .int .i64 hi, .string ⟨#[]⟩, .int .i64 4, .int .i64 0, .int .i64 3, .string ⟨#[]⟩, .int .i64 7, .int .i64 1, .int .i64 0, .string ⟨#[]⟩] 38)).alloc (.cells #[.int .i64 1, .int .i64 0, .int .i64 0, .string ⟨#[]⟩] 38)).alloc (.cells #[.string ⟨#[120]⟩, .int .i64 1, .int .i64 0, .int .i64 0, .string ⟨#[]⟩, .int .i64 n, .int .i64 d, .int .i64 s] 41)).alloc (.cells #[.int .i64 3, .string ⟨#[80]⟩, .string ⟨#[]⟩, .slice none 0 0, .bool false, .bool false, .slice (some ⟨w.heap.size + 1 + 1, 0, none⟩) 1 1, .slice none 0 0, .slice none 0 0, .int .i64 0, .int .i64 0] 28)).alloc (.cells #[.slice (some ⟨w.heap.size + 1 + 1 + 1, 0, none⟩) 1 1] 31)) := ⟨_, rfl⟩
  have hs5 : R4.heap.size = w.heap.size + 1 + 1 + 1 + 1 + 1 := by rw [hR4]; simp
  have hb5 : Below w.heap.size w R4 := by rw [hR4]; exact ((((((Below.refl _ _).alloc (Nat.le_refl _) _).alloc (by simp; try omega) _).alloc (by simp; try omega) _).alloc (by simp; try omega) _).alloc (by simp; try omega) _)
  have hu : R4.heap[w.heap.size + 1 + 1 + 1 + 1]? = some (.cells #[.slice (some ⟨w.heap.size + 1 + 1 + 1, 0, none⟩) 1 1] 31 (0, 0)) := by
    have := heap_alloc_new ((((w.alloc (.cells #[.int .i64 1, .int .i64 0, .int .i64 0, .string ⟨#[]⟩, .int .i64 2, .int .i64 0, .int .i64 0, .string ⟨#[]⟩, .int .i64 3, .int .i64 lo, .int .i64 hi, .string ⟨#[]⟩, .int .i64 4, .int .i64 0, .int .i64 3, .string ⟨#[]⟩, .int .i64 7, .int .i64 1, .int .i64 0, .string ⟨#[]⟩] 38)).alloc (.cells #[.int .i64 1, .int .i64 0, .int .i64 0, .string ⟨#[]⟩] 38)).alloc (.cells #[.string ⟨#[120]⟩, .int .i64 1, .int .i64 0, .int .i64 0, .string ⟨#[]⟩, .int .i64 n, .int .i64 d, .int .i64 s] 41)).alloc (.cells #[.int .i64 3, .string ⟨#[80]⟩, .string ⟨#[]⟩, .slice none 0 0, .bool false, .bool false, .slice (some ⟨w.heap.size + 1 + 1, 0, none⟩) 1 1, .slice none 0 0, .slice none 0 0, .int .i64 0, .int .i64 0] 28)) (.cells #[.slice (some ⟨w.heap.size + 1 + 1 + 1, 0, none⟩) 1 1] 31)
    rw [hR4]
    simpa using this
  have hd : R4.heap[w.heap.size + 1 + 1 + 1]? = some (.cells #[.int .i64 3, .string ⟨#[80]⟩, .string ⟨#[]⟩, .slice none 0 0, .bool false, .bool false, .slice (some ⟨w.heap.size + 1 + 1, 0, none⟩) 1 1, .slice none 0 0, .slice none 0 0, .int .i64 0, .int .i64 0] 28 (0, 0)) := by
    have := heap_alloc_new (((w.alloc (.cells #[.int .i64 1, .int .i64 0, .int .i64 0, .string ⟨#[]⟩, .int .i64 2, .int .i64 0, .int .i64 0, .string ⟨#[]⟩, .int .i64 3, .int .i64 lo, .int .i64 hi, .string ⟨#[]⟩, .int .i64 4, .int .i64 0, .int .i64 3, .string ⟨#[]⟩, .int .i64 7, .int .i64 1, .int .i64 0, .string ⟨#[]⟩] 38)).alloc (.cells #[.int .i64 1, .int .i64 0, .int .i64 0, .string ⟨#[]⟩] 38)).alloc (.cells #[.string ⟨#[120]⟩, .int .i64 1, .int .i64 0, .int .i64 0, .string ⟨#[]⟩, .int .i64 n, .int .i64 d, .int .i64 s] 41)) (.cells #[.int .i64 3, .string ⟨#[80]⟩, .string ⟨#[]⟩, .slice none 0 0, .bool false, .bool false, .slice (some ⟨w.heap.size + 1 + 1, 0, none⟩) 1 1, .slice none 0 0, .slice none 0 0, .int .i64 0, .int .i64 0] 28)
    rw [hR4]
    exact (Below.heap_alloc _ _ _ (by simp; try omega)).trans (by simpa using this)
  have hv : R4.heap[w.heap.size + 1 + 1]? = some (.cells #[.string ⟨#[120]⟩, .int .i64 1, .int .i64 0, .int .i64 0, .string ⟨#[]⟩, .int .i64 n, .int .i64 d, .int .i64 s] 41 (0, 0)) := by
    have := heap_alloc_new ((w.alloc (.cells #[.int .i64 1, .int .i64 0, .int .i64 0, .string ⟨#[]⟩, .int .i64 2, .int .i64 0, .int .i64 0, .string ⟨#[]⟩, .int .i64 3, .int .i64 lo, .int .i64 hi, .string ⟨#[]⟩, .int .i64 4, .int .i64 0, .int .i64 3, .string ⟨#[]⟩, .int .i64 7, .int .i64 1, .int .i64 0, .string ⟨#[]⟩] 38)).alloc (.cells #[.int .i64 1, .int .i64 0, .int .i64 0, .string ⟨#[]⟩] 38)) (.cells #[.string ⟨#[120]⟩, .int .i64 1, .int .i64 0, .int .i64 0, .string ⟨#[]⟩, .int .i64 n, .int .i64 d, .int .i64 s] 41)
    rw [hR4]
    exact (Below.heap_alloc _ _ _ (by simp; try omega)).trans ((Below.heap_alloc _ _ _ (by simp; try omega)).trans (by simpa using this))
  have htb : R4.heap[w.heap.size + 1]? = some (.cells #[.int .i64 1, .int .i64 0, .int .i64 0, .string ⟨#[]⟩] 38 (0, 0)) := by rw [hR4]; exact (Below.heap_alloc _ _ _ (by simp; try omega)).trans ((Below.heap_alloc _ _ _ (by simp; try omega)).trans ((Below.heap_alloc _ _ _ (by simp; try omega)).trans ht))
  have VS : ∀ W, Below R4.heap.size R4 W → VsR W W.heap.size (some ⟨w.heap.size + 1 + 1, 0, none⟩) [inV 1 0 0 n d s] := fun W hW => rowC_block (R := VIn) (l := [(inV 1 0 0 n d s, [.string ⟨#[120]⟩, .int .i64 1, .int .i64 0, .int .i64 0, .string ⟨#[]⟩, .int .i64 n, .int .i64 d, .int .i64 s])]) ((hW.block _ (by omega)).trans hv) (by have := hW.size; omega) (by simp) (fun x hx => by
    obtain rfl : x = _ := by simpa using hx
    exact ⟨rfl, ⟨by first | exact i0 | exact i1 | exact ilo, by first | exact i0 | exact i3 | exact ihi⟩, inn, is⟩)
  have DS : Hid (∀ W, Hid (Below R4.heap.size R4 W) → DsR W W.heap.size (some ⟨w.heap.size + 1 + 1 + 1, 0, none⟩) [inD 1 0 0 n d s]) := fun W hW => rowC_block (l := [(inD 1 0 0 n d s, [.int .i64 3, .string ⟨#[80]⟩, .string ⟨#[]⟩, .slice none 0 0, .bool false, .bool false, .slice (some ⟨w.heap.size + 1 + 1, 0, none⟩) 1 1, .slice none 0 0, .slice none 0 0, .int .i64 0, .int .i64 0])]) ((hW.out.block _ (by omega)).trans hd) (by have := hW.out.size; omega) (by simp) (fun x hx => by
    obtain rfl : x = _ := by simpa using hx
    exact ⟨none, 0, some ⟨w.heap.size + 1 + 1, 0, none⟩, 1, none, 0, none, 0, rfl, i0, i0, fun k hk => by simp [inD] at hk, VS W hW.out, fun k hk => by simp [inD] at hk, fun k hk => by simp [inD] at hk⟩)
  have CE : Hid (∀ W, Hid (Below R4.heap.size R4 W) → W.cell? ⟨w.heap.size + 1 + 1 + 1 + 1, 0, none⟩ = some (.slice (some ⟨w.heap.size + 1 + 1 + 1, 0, none⟩) 1 1)) := fun W hW => (cell_of_row _ _ 0 _ _ _ ((hW.out.block _ (by omega)).trans hu)).trans rfl
  have KD : Hid (∀ v : Int, codeT [inD 1 0 0 n d s] 0 = v → Calls Tryz.prog 7 #[.agg #[.slice (some ⟨w.heap.size + 1 + 1 + 1, 0, none⟩) 1 1], .int .i64 0] R4 fun e' w' => e' = .returned (.int .i64 v) ∧ Hid (Below R4.heap.size R4 w')) := fun v hv => hv ▸ Decl_any [inD 1 0 0 n d s] (some ⟨w.heap.size + 1 + 1 + 1, 0, none⟩) 1 0 R4 (DS.out _ (Below.refl _ _)) (in_small _ _ _ _ _ _) (by simp)
  have KA : Hid (∀ W, Hid (Below R4.heap.size R4 W) → Calls Tryz.prog 8 #[] W fun e' w' => e' = .returned (.bool true) ∧ Hid (Below R4.heap.size R4 w')) := fun W hW => (ruAwake_any W).mono fun e' w' hh => ⟨hh.1, hW.out.trans (hh.2.out.mono hW.out.size)⟩
  have HO : Hid (∀ W, Hid (Below R4.heap.size R4 W) → Below w.heap.size w W) := fun W hW => hb5.trans (hW.out.mono hb5.size)
  have HB4 : Hid (Below R4.heap.size R4 R4) := Below.refl _ _
  have y0 := CE.out _ HB4
  have tk0 : R4.cell? ⟨w.heap.size + 1, 0, none⟩ = some (.int .i64 1) := (cell_of_row _ _ 0 _ _ _ htb).trans rfl
  have HR4 := Lib.hid hR4
  rw [hR4] at y0 tk0
  have HCA := Lib.hid hcases
  clear hcases hR4 hs5 hb5 hu hd hv htb VS DS hy ht ilo ihi is i0 i1 i3 inn
  go_enter Tryz.func4, Tryz.ntmps4
  go_wp2_with fail
  refine (K1.out _).mono ?_
  rintro e0 v0 ⟨rfl, hw0⟩
  subst hw0
  go_wp2_with fail
  refine (K2.out _).mono ?_
  rintro e1 v1 ⟨rfl, hw1⟩
  subst hw1
  go_wp2_with fail
  refine (K3.out _).mono ?_
  rintro e2 v2 ⟨rfl, hw2⟩
  subst hw2
  go_wp2_with fail
  refine (K4.out _).mono ?_
  rintro e3 v3 ⟨rfl, hw3⟩
  subst hw3
  go_wp2_with fail
  refine (K5.out _).mono ?_
  rintro e4 v4 ⟨rfl, hw4⟩
  subst hw4
  have hcases := HCA.out
  clear HCA
  rcases hcases with ⟨u0, u1, HV⟩ | ⟨u0, u1, HV⟩ | ⟨u0, u1, u2, HV⟩ | ⟨u0, u1, u2, HV⟩ | ⟨u0, u1, u2, HV⟩ | ⟨u0, u1, u2, u3, HV⟩ | ⟨u0, u1, u2, u3, u4, HV⟩ | ⟨u0, u1, u2, u3, u4, HV⟩
  · have p0 : decide (-32768 ≤ n) = false := decide_eq_false (by omega)
    have q1 : (d == 0) = true := by rw [u1]; rfl
    have p1 : (d != 0) = false := by rw [u1]; rfl
    clear u1
    replace HV := Lib.hid HV
    go_wp2_with fail
    rw [← HR4.out]
    refine (KD.out 10 HV.out).mono ?_
    rintro e6 w6 ⟨rfl, hb6⟩
    clear y0
    go_wp2_with fail
    refine (KA.out _ hb6).mono ?_
    rintro e7 w7 ⟨rfl, hb7⟩
    go_wp2_with fail
    go_ret
    exact ⟨rfl, HO.out _ hb7⟩
  · have p0 : decide (-32768 ≤ n) = false := decide_eq_false (by omega)
    have p1 : (d != 0) = true := by simp [u1]
    clear u1
    replace HV := Lib.hid HV
    go_wp2_with fail
    rw [← HR4.out]
    refine (KD.out 10 HV.out).mono ?_
    rintro e6 w6 ⟨rfl, hb6⟩
    clear y0
    go_wp2_with fail
    refine (KA.out _ hb6).mono ?_
    rintro e7 w7 ⟨rfl, hb7⟩
    go_wp2_with fail
    go_ret
    exact ⟨rfl, HO.out _ hb7⟩
  · have p0 : decide (-32768 ≤ n) = true := decide_eq_true (by omega)
    have p1 : decide (n ≤ 32767) = false := decide_eq_false (by omega)
    have q2 : (d == 0) = true := by rw [u2]; rfl
    have p2 : (d != 0) = false := by rw [u2]; rfl
    clear u2
    replace HV := Lib.hid HV
    go_wp2_with fail
    rw [← HR4.out]
    refine (KD.out 10 HV.out).mono ?_
    rintro e6 w6 ⟨rfl, hb6⟩
    clear y0
    go_wp2_with fail
    refine (KA.out _ hb6).mono ?_
    rintro e7 w7 ⟨rfl, hb7⟩
    go_wp2_with fail
    go_ret
    exact ⟨rfl, HO.out _ hb7⟩
  · have p0 : decide (-32768 ≤ n) = true := decide_eq_true (by omega)
    have p1 : decide (n ≤ 32767) = false := decide_eq_false (by omega)
    have p2 : (d != 0) = true := by simp [u2]
    clear u2
    replace HV := Lib.hid HV
    go_wp2_with fail
    rw [← HR4.out]
    refine (KD.out 10 HV.out).mono ?_
    rintro e6 w6 ⟨rfl, hb6⟩
    clear y0
    go_wp2_with fail
    refine (KA.out _ hb6).mono ?_
    rintro e7 w7 ⟨rfl, hb7⟩
    go_wp2_with fail
    go_ret
    exact ⟨rfl, HO.out _ hb7⟩
  · have p0 : decide (-32768 ≤ n) = true := decide_eq_true (by omega)
    have p1 : decide (n ≤ 32767) = true := decide_eq_true (by omega)
    have q2 : (d == 0) = true := by rw [u2]; rfl
    have p2 : (d != 0) = false := by rw [u2]; rfl
    clear u2
    replace HV := Lib.hid HV
    go_wp2_with fail
    rw [← HR4.out]
    refine (KD.out 0 HV.out).mono ?_
    rintro e6 w6 ⟨rfl, hb6⟩
    clear y0
    go_wp2_with fail
    refine (KA.out _ hb6).mono ?_
    rintro e7 w7 ⟨rfl, hb7⟩
    go_wp2_with fail
    go_ret
    exact ⟨rfl, HO.out _ hb7⟩
  · have p0 : decide (-32768 ≤ n) = true := decide_eq_true (by omega)
    have p1 : decide (n ≤ 32767) = true := decide_eq_true (by omega)
    have p2 : (d != 0) = true := by simp [u2]
    clear u2
    have p3 : decide (s < 0) = true := decide_eq_true u3
    replace HV := Lib.hid HV
    go_wp2_with fail
    rw [← HR4.out]
    refine (KD.out 16 HV.out).mono ?_
    rintro e6 w6 ⟨rfl, hb6⟩
    clear y0
    go_wp2_with fail
    refine (KA.out _ hb6).mono ?_
    rintro e7 w7 ⟨rfl, hb7⟩
    go_wp2_with fail
    go_ret
    exact ⟨rfl, HO.out _ hb7⟩
  · have p0 : decide (-32768 ≤ n) = true := decide_eq_true (by omega)
    have p1 : decide (n ≤ 32767) = true := decide_eq_true (by omega)
    have p2 : (d != 0) = true := by simp [u2]
    clear u2
    have p3 : decide (s < 0) = false := decide_eq_false (by omega)
    have p4 : decide (s ≥ 8) = true := decide_eq_true u4
    have r4 : decide (8 ≤ s) = true := decide_eq_true u4
    replace HV := Lib.hid HV
    go_wp2_with fail
    rw [← HR4.out]
    refine (KD.out 16 HV.out).mono ?_
    rintro e6 w6 ⟨rfl, hb6⟩
    clear y0
    go_wp2_with fail
    refine (KA.out _ hb6).mono ?_
    rintro e7 w7 ⟨rfl, hb7⟩
    go_wp2_with fail
    go_ret
    exact ⟨rfl, HO.out _ hb7⟩
  · have p0 : decide (-32768 ≤ n) = true := decide_eq_true (by omega)
    have p1 : decide (n ≤ 32767) = true := decide_eq_true (by omega)
    have p2 : (d != 0) = true := by simp [u2]
    clear u2
    have p3 : decide (s < 0) = false := decide_eq_false (by omega)
    have p4 : decide (8 ≤ s) = false := decide_eq_false (by omega)
    replace HV := Lib.hid HV
    go_wp2_with fail
    rw [← HR4.out]
    refine (KD.out 0 HV.out).mono ?_
    rintro e6 w6 ⟨rfl, hb6⟩
    clear y0
    go_wp2_with fail
    refine (KA.out _ hb6).mono ?_
    rintro e7 w7 ⟨rfl, hb7⟩
    go_wp2_with fail
    go_ret
    exact ⟨rfl, HO.out _ hb7⟩
end Go.Proofs.YtbgilpmoijdcfaaGreat

/-
  governorlaw8.RulesInits: the walk, kind 1.
-/
namespace Go.Proofs.YtbgilpmoijdcfaaGreat
open Go Go.RowKit Go.Shelf
set_option linter.unusedVariables false
set_option linter.unusedSimpArgs false

set_option maxHeartbeats 8000000 in
set_option maxRecDepth 100000 in
theorem inits_1 (m0 n m2 m3 m4 m5 : Int) (inn : I64 n) (hk : lowT m0 5 = 1) (w : World) : Calls Tryz.prog 4 #[.int .i64 m0, .int .i64 n, .int .i64 m2, .int .i64 m3, .int .i64 m4, .int .i64 m5] w fun e w' => e = .returned (.bool true) ∧ Below w.heap.size w w' := by
  obtain ⟨a1, e1, b1⟩ : ∃ a : Nat, a = lowT m2 50 ∧ a < 50 := ⟨_, rfl, lowT_lt _ (by decide)⟩
  obtain ⟨a2, e2, b2⟩ : ∃ a : Nat, a = lowT m3 30 ∧ a < 30 := ⟨_, rfl, lowT_lt _ (by decide)⟩
  obtain ⟨a3, e3, b3⟩ : ∃ a : Nat, a = lowT m4 3 ∧ a < 3 := ⟨_, rfl, lowT_lt _ (by decide)⟩
  obtain ⟨a4, e4, b4⟩ : ∃ a : Nat, a = lowT m5 12 ∧ a < 12 := ⟨_, rfl, lowT_lt _ (by decide)⟩
  obtain ⟨lo, elo⟩ : ∃ e : Int, e = (a1 : Int) - 25 := ⟨_, rfl⟩
  obtain ⟨hi, ehi⟩ : ∃ e : Int, e = lo + (a2 : Int) := ⟨_, rfl⟩
  obtain ⟨d, ed⟩ : ∃ e : Int, e = (a3 : Int) := ⟨_, rfl⟩
  obtain ⟨s, es⟩ : ∃ e : Int, e = (a4 : Int) - 2 := ⟨_, rfl⟩
  have w1 : IntKind.i64.wrap ((a1 : Int) - 25) = lo := by rw [IntKind.wrap_i64]; omega
  have w2 : IntKind.i64.wrap (lo + (a2 : Int)) = hi := by rw [IntKind.wrap_i64]; omega
  have w4 : IntKind.i64.wrap ((a4 : Int) - 2) = s := by rw [IntKind.wrap_i64]; omega
  have K1 : Hid (∀ W, Calls Tryz.prog 5 #[.int .i64 m2, .int .i64 50] W fun e w' => e = .returned (.int .i64 (a1 : Int)) ∧ w' = W) := fun W => e1 ▸ low_at m2 50 (by decide) (by decide) W
  have K2 : Hid (∀ W, Calls Tryz.prog 5 #[.int .i64 m3, .int .i64 30] W fun e w' => e = .returned (.int .i64 (a2 : Int)) ∧ w' = W) := fun W => e2 ▸ low_at m3 30 (by decide) (by decide) W
  have K3 : Hid (∀ W, Calls Tryz.prog 5 #[.int .i64 m4, .int .i64 3] W fun e w' => e = .returned (.int .i64 d) ∧ w' = W) := fun W => by rw [ed, e3]; exact low_at m4 3 (by decide) (by decide) W
  have K4 : Hid (∀ W, Calls Tryz.prog 5 #[.int .i64 m5, .int .i64 12] W fun e w' => e = .returned (.int .i64 (a4 : Int)) ∧ w' = W) := fun W => e4 ▸ low_at m5 12 (by decide) (by decide) W
  have K5 : Hid (∀ W, Calls Tryz.prog 5 #[.int .i64 m0, .int .i64 5] W fun e w' => e = .returned (.int .i64 1) ∧ w' = W) := fun W => by have := low_at m0 5 (by decide) (by decide) W; rw [hk] at this; exact this
  have d0 : 0 ≤ d := by omega
  have d2 : d ≤ 2 := by omega
  have ilo : I64 lo := ⟨by omega, by omega⟩
  have ihi : I64 hi := ⟨by omega, by omega⟩
  have is : I64 s := ⟨by omega, by omega⟩
  have i0 : I64 0 := ⟨by decide, by decide⟩
  have i1 : I64 1 := ⟨by decide, by decide⟩
  have i3 : I64 3 := ⟨by decide, by decide⟩
  have hcases : (n = 0 ∧ d = 0 ∧ codeT [inD 2 0 0 n d s] 0 = 0) ∨ (n = 0 ∧ ¬ d = 0 ∧ s < 0 ∧ codeT [inD 2 0 0 n d s] 0 = 16) ∨ (n = 0 ∧ ¬ d = 0 ∧ 0 ≤ s ∧ 8 ≤ s ∧ codeT [inD 2 0 0 n d s] 0 = 16) ∨ (n = 0 ∧ ¬ d = 0 ∧ 0 ≤ s ∧ s < 8 ∧ codeT [inD 2 0 0 n d s] 0 = 0) ∨ (¬ n = 0 ∧ n = 1 ∧ d = 0 ∧ codeT [inD 2 0 0 n d s] 0 = 0) ∨ (¬ n = 0 ∧ n = 1 ∧ ¬ d = 0 ∧ s < 0 ∧ codeT [inD 2 0 0 n d s] 0 = 16) ∨ (¬ n = 0 ∧ n = 1 ∧ ¬ d = 0 ∧ 0 ≤ s ∧ 8 ≤ s ∧ codeT [inD 2 0 0 n d s] 0 = 16) ∨ (¬ n = 0 ∧ n = 1 ∧ ¬ d = 0 ∧ 0 ≤ s ∧ s < 8 ∧ codeT [inD 2 0 0 n d s] 0 = 0) ∨ (¬ n = 0 ∧ ¬ n = 1 ∧ d = 0 ∧ codeT [inD 2 0 0 n d s] 0 = 10) ∨ (¬ n = 0 ∧ ¬ n = 1 ∧ ¬ d = 0 ∧ codeT [inD 2 0 0 n d s] 0 = 10) := by
    have hp := in_1 n d s d0 d2
    by_cases c1 : n = 0
    · by_cases c2 : d = 0
      · refine Or.inl ⟨(by omega), (by omega), hp.trans ?_⟩
        simp [btwT] <;> omega
      · by_cases c3 : 0 ≤ s
        · by_cases c4 : s < 8
          · refine Or.inr (Or.inr (Or.inr (Or.inl ⟨(by omega), (by omega), (by omega), (by omega), hp.trans ?_⟩)))
            simp [btwT] <;> omega
          · refine Or.inr (Or.inr (Or.inl ⟨(by omega), (by omega), (by omega), (by omega), hp.trans ?_⟩))
            simp [btwT] <;> omega
        · refine Or.inr (Or.inl ⟨(by omega), (by omega), (by omega), hp.trans ?_⟩)
          simp [btwT] <;> omega
    · by_cases c5 : n = 1
      · by_cases c6 : d = 0
        · refine Or.inr (Or.inr (Or.inr (Or.inr (Or.inl ⟨(by omega), (by omega), (by omega), hp.trans ?_⟩))))
          simp [btwT] <;> omega
        · by_cases c7 : 0 ≤ s
          · by_cases c8 : s < 8
            · refine Or.inr (Or.inr (Or.inr (Or.inr (Or.inr (Or.inr (Or.inr (Or.inl ⟨(by omega), (by omega), (by omega), (by omega), (by omega), hp.trans ?_⟩)))))))
              simp [btwT] <;> omega
            · refine Or.inr (Or.inr (Or.inr (Or.inr (Or.inr (Or.inr (Or.inl ⟨(by omega), (by omega), (by omega), (by omega), (by omega), hp.trans ?_⟩))))))
              simp [btwT] <;> omega
          · refine Or.inr (Or.inr (Or.inr (Or.inr (Or.inr (Or.inl ⟨(by omega), (by omega), (by omega), (by omega), hp.trans ?_⟩)))))
            simp [btwT] <;> omega
      · by_cases c9 : d = 0
        · refine Or.inr (Or.inr (Or.inr (Or.inr (Or.inr (Or.inr (Or.inr (Or.inr (Or.inl ⟨(by omega), (by omega), (by omega), hp.trans ?_⟩))))))))
          simp [btwT] <;> omega
        · refine Or.inr (Or.inr (Or.inr (Or.inr (Or.inr (Or.inr (Or.inr (Or.inr (Or.inr (⟨(by omega), (by omega), (by omega), hp.trans ?_⟩)))))))))
          simp [btwT] <;> omega
  clear e1 e2 e3 e4 elo ehi ed es hk
  have hy : (w.alloc (.cells #[.int .i64 1, .int .i64 0, .int .i64 0, .string ⟨#[]⟩, .int .i64 2, .int .i64 0, .int .i64 0, .string ⟨#[]⟩, .int .i64 3, .int .i64 lo, .int .i64 hi, .string ⟨#[]⟩, .int .i64 4, .int .i64 0, .int .i64 3, .string ⟨#[]⟩, .int .i64 7, .int .i64 1, .int .i64 0, .string ⟨#[]⟩] 38)).heap[w.heap.size]? = some (.cells #[.int .i64 1, .int .i64 0, .int .i64 0, .string ⟨#[]⟩, .int .i64 2, .int .i64 0, .int .i64 0, .string ⟨#[]⟩, .int .i64 3, .int .i64 lo, .int .i64 hi, .string ⟨#[]⟩, .int .i64 4, .int .i64 0, .int .i64 3, .string ⟨#[]⟩, .int .i64 7, .int .i64 1, .int .i64 0, .string ⟨#[]⟩] 38 (0, 0)) := heap_alloc_new w _
  have y_0 : (w.alloc (.cells #[.int .i64 1, .int .i64 0, .int .i64 0, .string ⟨#[]⟩, .int .i64 2, .int .i64 0, .int .i64 0, .string ⟨#[]⟩, .int .i64 3, .int .i64 lo, .int .i64 hi, .string ⟨#[]⟩, .int .i64 4, .int .i64 0, .int .i64 3, .string ⟨#[]⟩, .int .i64 7, .int .i64 1, .int .i64 0, .string ⟨#[]⟩] 38)).cell? ⟨w.heap.size, 4, none⟩ = some (.int .i64 2) := (cell_of_row _ _ 4 _ _ _ hy).trans rfl
  have y_1 : (w.alloc (.cells #[.int .i64 1, .int .i64 0, .int .i64 0, .string ⟨#[]⟩, .int .i64 2, .int .i64 0, .int .i64 0, .string ⟨#[]⟩, .int .i64 3, .int .i64 lo, .int .i64 hi, .string ⟨#[]⟩, .int .i64 4, .int .i64 0, .int .i64 3, .string ⟨#[]⟩, .int .i64 7, .int .i64 1, .int .i64 0, .string ⟨#[]⟩] 38)).cell? ⟨w.heap.size, 5, none⟩ = some (.int .i64 0) := (cell_of_row _ _ 5 _ _ _ hy).trans rfl
  have y_2 : (w.alloc (.cells #[.int .i64 1, .int .i64 0, .int .i64 0, .string ⟨#[]⟩, .int .i64 2, .int .i64 0, .int .i64 0, .string ⟨#[]⟩, .int .i64 3, .int .i64 lo, .int .i64 hi, .string ⟨#[]⟩, .int .i64 4, .int .i64 0, .int .i64 3, .string ⟨#[]⟩, .int .i64 7, .int .i64 1, .int .i64 0, .string ⟨#[]⟩] 38)).cell? ⟨w.heap.size, 6, none⟩ = some (.int .i64 0) := (cell_of_row _ _ 6 _ _ _ hy).trans rfl
  have y_3 : (w.alloc (.cells #[.int .i64 1, .int .i64 0, .int .i64 0, .string ⟨#[]⟩, .int .i64 2, .int .i64 0, .int .i64 0, .string ⟨#[]⟩, .int .i64 3, .int .i64 lo, .int .i64 hi, .string ⟨#[]⟩, .int .i64 4, .int .i64 0, .int .i64 3, .string ⟨#[]⟩, .int .i64 7, .int .i64 1, .int .i64 0, .string ⟨#[]⟩] 38)).cell? ⟨w.heap.size, 7, none⟩ = some (.string ⟨#[]⟩) := (cell_of_row _ _ 7 _ _ _ hy).trans rfl
  have ht : ((w.alloc (.cells #[.int .i64 1, .int .i64 0, .int .i64 0, .string ⟨#[]⟩, .int .i64 2, .int .i64 0, .int .i64 0, .string ⟨#[]⟩, .int .i64 3, .int .i64 lo, .int .i64 hi, .string ⟨#[]⟩, .int .i64 4, .int .i64 0, .int .i64 3, .string ⟨#[]⟩, .int .i64 7, .int .i64 1, .int .i64 0, .string ⟨#[]⟩] 38)).alloc (.cells #[.int .i64 2, .int .i64 0, .int .i64 0, .string ⟨#[]⟩] 38)).heap[w.heap.size + 1]? = some (.cells #[.int .i64 2, .int .i64 0, .int .i64 0, .string ⟨#[]⟩] 38 (0, 0)) := by
    have := heap_alloc_new (w.alloc (.cells #[.int .i64 1, .int .i64 0, .int .i64 0, .string ⟨#[]⟩, .int .i64 2, .int .i64 0, .int .i64 0, .string ⟨#[]⟩, .int .i64 3, .int .i64 lo, .int .i64 hi, .string ⟨#[]⟩, .int .i64 4, .int .i64 0, .int .i64 3, .string ⟨#[]⟩, .int .i64 7, .int .i64 1, .int .i64 0, .string ⟨#[]⟩] 38)) (.cells #[.int .i64 2, .int .i64 0, .int .i64 0, .string ⟨#[]⟩] 38)
    simpa using this
  have t_0 : ((w.alloc (.cells #[.int .i64 1, .int .i64 0, .int .i64 0, .string ⟨#[]⟩, .int .i64 2, .int .i64 0, .int .i64 0, .string ⟨#[]⟩, .int .i64 3, .int .i64 lo, .int .i64 hi, .string ⟨#[]⟩, .int .i64 4, .int .i64 0, .int .i64 3, .string ⟨#[]⟩, .int .i64 7, .int .i64 1, .int .i64 0, .string ⟨#[]⟩] 38)).alloc (.cells #[.int .i64 2, .int .i64 0, .int .i64 0, .string ⟨#[]⟩] 38)).cell? ⟨w.heap.size + 1, 0, none⟩ = some (.int .i64 2) := (cell_of_row _ _ 0 _ _ _ ht).trans rfl
  have t_1 : ((w.alloc (.cells #[.int .i64 1, .int .i64 0, .int .i64 0, .string ⟨#[]⟩, .int .i64 2, .int .i64 0, .int .i64 0, .string ⟨#[]⟩, .int .i64 3, .int .i64 lo, .int .i64 hi, .string ⟨#[]⟩, .int .i64 4, .int .i64 0, .int .i64 3, .string ⟨#[]⟩, .int .i64 7, .int .i64 1, .int .i64 0, .string ⟨#[]⟩] 38)).alloc (.cells #[.int .i64 2, .int .i64 0, .int .i64 0, .string ⟨#[]⟩] 38)).cell? ⟨w.heap.size + 1, 1, none⟩ = some (.int .i64 0) := (cell_of_row _ _ 1 _ _ _ ht).trans rfl
  have t_2 : ((w.alloc (.cells #[.int .i64 1, .int .i64 0, .int .i64 0, .string ⟨#[]⟩, .int .i64 2, .int .i64 0, .int .i64 0, .string ⟨#[]⟩, .int .i64 3, .int .i64 lo, .int .i64 hi, .string ⟨#[]⟩, .int .i64 4, .int .i64 0, .int .i64 3, .string ⟨#[]⟩, .int .i64 7, .int .i64 1, .int .i64 0, .string ⟨#[]⟩] 38)).alloc (.cells #[.int .i64 2, .int .i64 0, .int .i64 0, .string ⟨#[]⟩] 38)).cell? ⟨w.heap.size + 1, 2, none⟩ = some (.int .i64 0) := (cell_of_row _ _ 2 _ _ _ ht).trans rfl
  have t_3 : ((w.alloc (.cells #[.int .i64 1, .int .i64 0, .int .i64 0, .string ⟨#[]⟩, .int .i64 2, .int .i64 0, .int .i64 0, .string ⟨#[]⟩, .int .i64 3, .int .i64 lo, .int .i64 hi, .string ⟨#[]⟩, .int .i64 4, .int .i64 0, .int .i64 3, .string ⟨#[]⟩, .int .i64 7, .int .i64 1, .int .i64 0, .string ⟨#[]⟩] 38)).alloc (.cells #[.int .i64 2, .int .i64 0, .int .i64 0, .string ⟨#[]⟩] 38)).cell? ⟨w.heap.size + 1, 3, none⟩ = some (.string ⟨#[]⟩) := (cell_of_row _ _ 3 _ _ _ ht).trans rfl
  obtain ⟨R4, hR4⟩ : ∃ R4 : World, R4 = (((((w.alloc (.cells #[.int .i64 1, .int .i64 0, .int .i64 0, .string ⟨#[]⟩, .int .i64 2, .int .i64 0, .int .i64 0, .string ⟨#[]⟩, .int .i64 3, .int .i64 lo, .int .i64 hi, .string ⟨#[]⟩, .int .i64 4, .int .i64 0, .int .i64 3, .string ⟨#[]⟩, .int .i64 7, .int .i64 1, .int .i64 0, .string ⟨#[]⟩] 38)).alloc (.cells #[.int .i64 2, .int .i64 0, .int .i64 0, .string ⟨#[]⟩] 38)).alloc (.cells #[.string ⟨#[120]⟩, .int .i64 2, .int .i64 0, .int .i64 0, .string ⟨#[]⟩, .int .i64 n, .int .i64 d, .int .i64 s] 41)).alloc (.cells #[.int .i64 3, .string ⟨#[80]⟩, .string ⟨#[]⟩, .slice none 0 0, .bool false, .bool false, .slice (some ⟨w.heap.size + 1 + 1, 0, none⟩) 1 1, .slice none 0 0, .slice none 0 0, .int .i64 0, .int .i64 0] 28)).alloc (.cells #[.slice (some ⟨w.heap.size + 1 + 1 + 1, 0, none⟩) 1 1] 31)) := ⟨_, rfl⟩
  have hs5 : R4.heap.size = w.heap.size + 1 + 1 + 1 + 1 + 1 := by rw [hR4]; simp
  have hb5 : Below w.heap.size w R4 := by rw [hR4]; exact ((((((Below.refl _ _).alloc (Nat.le_refl _) _).alloc (by simp; try omega) _).alloc (by simp; try omega) _).alloc (by simp; try omega) _).alloc (by simp; try omega) _)
  have hu : R4.heap[w.heap.size + 1 + 1 + 1 + 1]? = some (.cells #[.slice (some ⟨w.heap.size + 1 + 1 + 1, 0, none⟩) 1 1] 31 (0, 0)) := by
    have := heap_alloc_new ((((w.alloc (.cells #[.int .i64 1, .int .i64 0, .int .i64 0, .string ⟨#[]⟩, .int .i64 2, .int .i64 0, .int .i64 0, .string ⟨#[]⟩, .int .i64 3, .int .i64 lo, .int .i64 hi, .string ⟨#[]⟩, .int .i64 4, .int .i64 0, .int .i64 3, .string ⟨#[]⟩, .int .i64 7, .int .i64 1, .int .i64 0, .string ⟨#[]⟩] 38)).alloc (.cells #[.int .i64 2, .int .i64 0, .int .i64 0, .string ⟨#[]⟩] 38)).alloc (.cells #[.string ⟨#[120]⟩, .int .i64 2, .int .i64 0, .int .i64 0, .string ⟨#[]⟩, .int .i64 n, .int .i64 d, .int .i64 s] 41)).alloc (.cells #[.int .i64 3, .string ⟨#[80]⟩, .string ⟨#[]⟩, .slice none 0 0, .bool false, .bool false, .slice (some ⟨w.heap.size + 1 + 1, 0, none⟩) 1 1, .slice none 0 0, .slice none 0 0, .int .i64 0, .int .i64 0] 28)) (.cells #[.slice (some ⟨w.heap.size + 1 + 1 + 1, 0, none⟩) 1 1] 31)
    rw [hR4]
    simpa using this
  have hd : R4.heap[w.heap.size + 1 + 1 + 1]? = some (.cells #[.int .i64 3, .string ⟨#[80]⟩, .string ⟨#[]⟩, .slice none 0 0, .bool false, .bool false, .slice (some ⟨w.heap.size + 1 + 1, 0, none⟩) 1 1, .slice none 0 0, .slice none 0 0, .int .i64 0, .int .i64 0] 28 (0, 0)) := by
    have := heap_alloc_new (((w.alloc (.cells #[.int .i64 1, .int .i64 0, .int .i64 0, .string ⟨#[]⟩, .int .i64 2, .int .i64 0, .int .i64 0, .string ⟨#[]⟩, .int .i64 3, .int .i64 lo, .int .i64 hi, .string ⟨#[]⟩, .int .i64 4, .int .i64 0, .int .i64 3, .string ⟨#[]⟩, .int .i64 7, .int .i64 1, .int .i64 0, .string ⟨#[]⟩] 38)).alloc (.cells #[.int .i64 2, .int .i64 0, .int .i64 0, .string ⟨#[]⟩] 38)).alloc (.cells #[.string ⟨#[120]⟩, .int .i64 2, .int .i64 0, .int .i64 0, .string ⟨#[]⟩, .int .i64 n, .int .i64 d, .int .i64 s] 41)) (.cells #[.int .i64 3, .string ⟨#[80]⟩, .string ⟨#[]⟩, .slice none 0 0, .bool false, .bool false, .slice (some ⟨w.heap.size + 1 + 1, 0, none⟩) 1 1, .slice none 0 0, .slice none 0 0, .int .i64 0, .int .i64 0] 28)
    rw [hR4]
    exact (Below.heap_alloc _ _ _ (by simp; try omega)).trans (by simpa using this)
  have hv : R4.heap[w.heap.size + 1 + 1]? = some (.cells #[.string ⟨#[120]⟩, .int .i64 2, .int .i64 0, .int .i64 0, .string ⟨#[]⟩, .int .i64 n, .int .i64 d, .int .i64 s] 41 (0, 0)) := by
    have := heap_alloc_new ((w.alloc (.cells #[.int .i64 1, .int .i64 0, .int .i64 0, .string ⟨#[]⟩, .int .i64 2, .int .i64 0, .int .i64 0, .string ⟨#[]⟩, .int .i64 3, .int .i64 lo, .int .i64 hi, .string ⟨#[]⟩, .int .i64 4, .int .i64 0, .int .i64 3, .string ⟨#[]⟩, .int .i64 7, .int .i64 1, .int .i64 0, .string ⟨#[]⟩] 38)).alloc (.cells #[.int .i64 2, .int .i64 0, .int .i64 0, .string ⟨#[]⟩] 38)) (.cells #[.string ⟨#[120]⟩, .int .i64 2, .int .i64 0, .int .i64 0, .string ⟨#[]⟩, .int .i64 n, .int .i64 d, .int .i64 s] 41)
    rw [hR4]
    exact (Below.heap_alloc _ _ _ (by simp; try omega)).trans ((Below.heap_alloc _ _ _ (by simp; try omega)).trans (by simpa using this))
  have htb : R4.heap[w.heap.size + 1]? = some (.cells #[.int .i64 2, .int .i64 0, .int .i64 0, .string ⟨#[]⟩] 38 (0, 0)) := by rw [hR4]; exact (Below.heap_alloc _ _ _ (by simp; try omega)).trans ((Below.heap_alloc _ _ _ (by simp; try omega)).trans ((Below.heap_alloc _ _ _ (by simp; try omega)).trans ht))
  have VS : ∀ W, Below R4.heap.size R4 W → VsR W W.heap.size (some ⟨w.heap.size + 1 + 1, 0, none⟩) [inV 2 0 0 n d s] := fun W hW => rowC_block (R := VIn) (l := [(inV 2 0 0 n d s, [.string ⟨#[120]⟩, .int .i64 2, .int .i64 0, .int .i64 0, .string ⟨#[]⟩, .int .i64 n, .int .i64 d, .int .i64 s])]) ((hW.block _ (by omega)).trans hv) (by have := hW.size; omega) (by simp) (fun x hx => by
    obtain rfl : x = _ := by simpa using hx
    exact ⟨rfl, ⟨by first | exact i0 | exact i1 | exact ilo, by first | exact i0 | exact i3 | exact ihi⟩, inn, is⟩)
  have DS : Hid (∀ W, Hid (Below R4.heap.size R4 W) → DsR W W.heap.size (some ⟨w.heap.size + 1 + 1 + 1, 0, none⟩) [inD 2 0 0 n d s]) := fun W hW => rowC_block (l := [(inD 2 0 0 n d s, [.int .i64 3, .string ⟨#[80]⟩, .string ⟨#[]⟩, .slice none 0 0, .bool false, .bool false, .slice (some ⟨w.heap.size + 1 + 1, 0, none⟩) 1 1, .slice none 0 0, .slice none 0 0, .int .i64 0, .int .i64 0])]) ((hW.out.block _ (by omega)).trans hd) (by have := hW.out.size; omega) (by simp) (fun x hx => by
    obtain rfl : x = _ := by simpa using hx
    exact ⟨none, 0, some ⟨w.heap.size + 1 + 1, 0, none⟩, 1, none, 0, none, 0, rfl, i0, i0, fun k hk => by simp [inD] at hk, VS W hW.out, fun k hk => by simp [inD] at hk, fun k hk => by simp [inD] at hk⟩)
  have CE : Hid (∀ W, Hid (Below R4.heap.size R4 W) → W.cell? ⟨w.heap.size + 1 + 1 + 1 + 1, 0, none⟩ = some (.slice (some ⟨w.heap.size + 1 + 1 + 1, 0, none⟩) 1 1)) := fun W hW => (cell_of_row _ _ 0 _ _ _ ((hW.out.block _ (by omega)).trans hu)).trans rfl
  have KD : Hid (∀ v : Int, codeT [inD 2 0 0 n d s] 0 = v → Calls Tryz.prog 7 #[.agg #[.slice (some ⟨w.heap.size + 1 + 1 + 1, 0, none⟩) 1 1], .int .i64 0] R4 fun e' w' => e' = .returned (.int .i64 v) ∧ Hid (Below R4.heap.size R4 w')) := fun v hv => hv ▸ Decl_any [inD 2 0 0 n d s] (some ⟨w.heap.size + 1 + 1 + 1, 0, none⟩) 1 0 R4 (DS.out _ (Below.refl _ _)) (in_small _ _ _ _ _ _) (by simp)
  have KA : Hid (∀ W, Hid (Below R4.heap.size R4 W) → Calls Tryz.prog 8 #[] W fun e' w' => e' = .returned (.bool true) ∧ Hid (Below R4.heap.size R4 w')) := fun W hW => (ruAwake_any W).mono fun e' w' hh => ⟨hh.1, hW.out.trans (hh.2.out.mono hW.out.size)⟩
  have HO : Hid (∀ W, Hid (Below R4.heap.size R4 W) → Below w.heap.size w W) := fun W hW => hb5.trans (hW.out.mono hb5.size)
  have HB4 : Hid (Below R4.heap.size R4 R4) := Below.refl _ _
  have y0 := CE.out _ HB4
  have tk0 : R4.cell? ⟨w.heap.size + 1, 0, none⟩ = some (.int .i64 2) := (cell_of_row _ _ 0 _ _ _ htb).trans rfl
  have HR4 := Lib.hid hR4
  rw [hR4] at y0 tk0
  have HCA := Lib.hid hcases
  clear hcases hR4 hs5 hb5 hu hd hv htb VS DS hy ht ilo ihi is i0 i1 i3 inn
  go_enter Tryz.func4, Tryz.ntmps4
  go_wp2_with fail
  refine (K1.out _).mono ?_
  rintro e0 v0 ⟨rfl, hw0⟩
  subst hw0
  go_wp2_with fail
  refine (K2.out _).mono ?_
  rintro e1 v1 ⟨rfl, hw1⟩
  subst hw1
  go_wp2_with fail
  refine (K3.out _).mono ?_
  rintro e2 v2 ⟨rfl, hw2⟩
  subst hw2
  go_wp2_with fail
  refine (K4.out _).mono ?_
  rintro e3 v3 ⟨rfl, hw3⟩
  subst hw3
  go_wp2_with fail
  refine (K5.out _).mono ?_
  rintro e4 v4 ⟨rfl, hw4⟩
  subst hw4
  have hcases := HCA.out
  clear HCA
  rcases hcases with ⟨u0, u1, HV⟩ | ⟨u0, u1, u2, HV⟩ | ⟨u0, u1, u2, u3, HV⟩ | ⟨u0, u1, u2, u3, HV⟩ | ⟨u0, u1, u2, HV⟩ | ⟨u0, u1, u2, u3, HV⟩ | ⟨u0, u1, u2, u3, u4, HV⟩ | ⟨u0, u1, u2, u3, u4, HV⟩ | ⟨u0, u1, u2, HV⟩ | ⟨u0, u1, u2, HV⟩
  · have q0 : (n == 0) = true := by rw [u0]; rfl
    clear u0
    have q1 : (d == 0) = true := by rw [u1]; rfl
    have p1 : (d != 0) = false := by rw [u1]; rfl
    clear u1
    replace HV := Lib.hid HV
    go_wp2_with fail
    rw [← HR4.out]
    refine (KD.out 0 HV.out).mono ?_
    rintro e6 w6 ⟨rfl, hb6⟩
    clear y0
    go_wp2_with fail
    refine (KA.out _ hb6).mono ?_
    rintro e7 w7 ⟨rfl, hb7⟩
    go_wp2_with fail
    go_ret
    exact ⟨rfl, HO.out _ hb7⟩
  · have q0 : (n == 0) = true := by rw [u0]; rfl
    clear u0
    have p1 : (d != 0) = true := by simp [u1]
    clear u1
    have p2 : decide (s < 0) = true := decide_eq_true u2
    replace HV := Lib.hid HV
    go_wp2_with fail
    rw [← HR4.out]
    refine (KD.out 16 HV.out).mono ?_
    rintro e6 w6 ⟨rfl, hb6⟩
    clear y0
    go_wp2_with fail
    refine (KA.out _ hb6).mono ?_
    rintro e7 w7 ⟨rfl, hb7⟩
    go_wp2_with fail
    go_ret
    exact ⟨rfl, HO.out _ hb7⟩
  · have q0 : (n == 0) = true := by rw [u0]; rfl
    clear u0
    have p1 : (d != 0) = true := by simp [u1]
    clear u1
    have p2 : decide (s < 0) = false := decide_eq_false (by omega)
    have p3 : decide (s ≥ 8) = true := decide_eq_true u3
    have r3 : decide (8 ≤ s) = true := decide_eq_true u3
    replace HV := Lib.hid HV
    go_wp2_with fail
    rw [← HR4.out]
    refine (KD.out 16 HV.out).mono ?_
    rintro e6 w6 ⟨rfl, hb6⟩
    clear y0
    go_wp2_with fail
    refine (KA.out _ hb6).mono ?_
    rintro e7 w7 ⟨rfl, hb7⟩
    go_wp2_with fail
    go_ret
    exact ⟨rfl, HO.out _ hb7⟩
  · have q0 : (n == 0) = true := by rw [u0]; rfl
    clear u0
    have p1 : (d != 0) = true := by simp [u1]
    clear u1
    have p2 : decide (s < 0) = false := decide_eq_false (by omega)
    have p3 : decide (8 ≤ s) = false := decide_eq_false (by omega)
    replace HV := Lib.hid HV
    go_wp2_with fail
    rw [← HR4.out]
    refine (KD.out 0 HV.out).mono ?_
    rintro e6 w6 ⟨rfl, hb6⟩
    clear y0
    go_wp2_with fail
    refine (KA.out _ hb6).mono ?_
    rintro e7 w7 ⟨rfl, hb7⟩
    go_wp2_with fail
    go_ret
    exact ⟨rfl, HO.out _ hb7⟩
  · have q0 : (n == 0) = false := eq_no u0
    clear u0
    have q1 : (n == 1) = true := by rw [u1]; rfl
    clear u1
    have q2 : (d == 0) = true := by rw [u2]; rfl
    have p2 : (d != 0) = false := by rw [u2]; rfl
    clear u2
    replace HV := Lib.hid HV
    go_wp2_with fail
    rw [← HR4.out]
    refine (KD.out 0 HV.out).mono ?_
    rintro e6 w6 ⟨rfl, hb6⟩
    clear y0
    go_wp2_with fail
    refine (KA.out _ hb6).mono ?_
    rintro e7 w7 ⟨rfl, hb7⟩
    go_wp2_with fail
    go_ret
    exact ⟨rfl, HO.out _ hb7⟩
  · have q0 : (n == 0) = false := eq_no u0
    clear u0
    have q1 : (n == 1) = true := by rw [u1]; rfl
    clear u1
    have p2 : (d != 0) = true := by simp [u2]
    clear u2
    have p3 : decide (s < 0) = true := decide_eq_true u3
    replace HV := Lib.hid HV
    go_wp2_with fail
    rw [← HR4.out]
    refine (KD.out 16 HV.out).mono ?_
    rintro e6 w6 ⟨rfl, hb6⟩
    clear y0
    go_wp2_with fail
    refine (KA.out _ hb6).mono ?_
    rintro e7 w7 ⟨rfl, hb7⟩
    go_wp2_with fail
    go_ret
    exact ⟨rfl, HO.out _ hb7⟩
  · have q0 : (n == 0) = false := eq_no u0
    clear u0
    have q1 : (n == 1) = true := by rw [u1]; rfl
    clear u1
    have p2 : (d != 0) = true := by simp [u2]
    clear u2
    have p3 : decide (s < 0) = false := decide_eq_false (by omega)
    have p4 : decide (s ≥ 8) = true := decide_eq_true u4
    have r4 : decide (8 ≤ s) = true := decide_eq_true u4
    replace HV := Lib.hid HV
    go_wp2_with fail
    rw [← HR4.out]
    refine (KD.out 16 HV.out).mono ?_
    rintro e6 w6 ⟨rfl, hb6⟩
    clear y0
    go_wp2_with fail
    refine (KA.out _ hb6).mono ?_
    rintro e7 w7 ⟨rfl, hb7⟩
    go_wp2_with fail
    go_ret
    exact ⟨rfl, HO.out _ hb7⟩
  · have q0 : (n == 0) = false := eq_no u0
    clear u0
    have q1 : (n == 1) = true := by rw [u1]; rfl
    clear u1
    have p2 : (d != 0) = true := by simp [u2]
    clear u2
    have p3 : decide (s < 0) = false := decide_eq_false (by omega)
    have p4 : decide (8 ≤ s) = false := decide_eq_false (by omega)
    replace HV := Lib.hid HV
    go_wp2_with fail
    rw [← HR4.out]
    refine (KD.out 0 HV.out).mono ?_
    rintro e6 w6 ⟨rfl, hb6⟩
    clear y0
    go_wp2_with fail
    refine (KA.out _ hb6).mono ?_
    rintro e7 w7 ⟨rfl, hb7⟩
    go_wp2_with fail
    go_ret
    exact ⟨rfl, HO.out _ hb7⟩
  · have q0 : (n == 0) = false := eq_no u0
    clear u0
    have q1 : (n == 1) = false := eq_no u1
    clear u1
    have q2 : (d == 0) = true := by rw [u2]; rfl
    have p2 : (d != 0) = false := by rw [u2]; rfl
    clear u2
    replace HV := Lib.hid HV
    go_wp2_with fail
    rw [← HR4.out]
    refine (KD.out 10 HV.out).mono ?_
    rintro e6 w6 ⟨rfl, hb6⟩
    clear y0
    go_wp2_with fail
    refine (KA.out _ hb6).mono ?_
    rintro e7 w7 ⟨rfl, hb7⟩
    go_wp2_with fail
    go_ret
    exact ⟨rfl, HO.out _ hb7⟩
  · have q0 : (n == 0) = false := eq_no u0
    clear u0
    have q1 : (n == 1) = false := eq_no u1
    clear u1
    have p2 : (d != 0) = true := by simp [u2]
    clear u2
    replace HV := Lib.hid HV
    go_wp2_with fail
    rw [← HR4.out]
    refine (KD.out 10 HV.out).mono ?_
    rintro e6 w6 ⟨rfl, hb6⟩
    clear y0
    go_wp2_with fail
    refine (KA.out _ hb6).mono ?_
    rintro e7 w7 ⟨rfl, hb7⟩
    go_wp2_with fail
    go_ret
    exact ⟨rfl, HO.out _ hb7⟩
end Go.Proofs.YtbgilpmoijdcfaaGreat

/-
  governorlaw8.RulesInits: the walk, kind 2.
-/
namespace Go.Proofs.YtbgilpmoijdcfaaGreat
open Go Go.RowKit Go.Shelf
set_option linter.unusedVariables false
set_option linter.unusedSimpArgs false

set_option maxHeartbeats 8000000 in
set_option maxRecDepth 100000 in
theorem inits_2 (m0 n m2 m3 m4 m5 : Int) (inn : I64 n) (hk : lowT m0 5 = 2) (w : World) : Calls Tryz.prog 4 #[.int .i64 m0, .int .i64 n, .int .i64 m2, .int .i64 m3, .int .i64 m4, .int .i64 m5] w fun e w' => e = .returned (.bool true) ∧ Below w.heap.size w w' := by
  obtain ⟨a1, e1, b1⟩ : ∃ a : Nat, a = lowT m2 50 ∧ a < 50 := ⟨_, rfl, lowT_lt _ (by decide)⟩
  obtain ⟨a2, e2, b2⟩ : ∃ a : Nat, a = lowT m3 30 ∧ a < 30 := ⟨_, rfl, lowT_lt _ (by decide)⟩
  obtain ⟨a3, e3, b3⟩ : ∃ a : Nat, a = lowT m4 3 ∧ a < 3 := ⟨_, rfl, lowT_lt _ (by decide)⟩
  obtain ⟨a4, e4, b4⟩ : ∃ a : Nat, a = lowT m5 12 ∧ a < 12 := ⟨_, rfl, lowT_lt _ (by decide)⟩
  obtain ⟨lo, elo⟩ : ∃ e : Int, e = (a1 : Int) - 25 := ⟨_, rfl⟩
  obtain ⟨hi, ehi⟩ : ∃ e : Int, e = lo + (a2 : Int) := ⟨_, rfl⟩
  obtain ⟨d, ed⟩ : ∃ e : Int, e = (a3 : Int) := ⟨_, rfl⟩
  obtain ⟨s, es⟩ : ∃ e : Int, e = (a4 : Int) - 2 := ⟨_, rfl⟩
  have w1 : IntKind.i64.wrap ((a1 : Int) - 25) = lo := by rw [IntKind.wrap_i64]; omega
  have w2 : IntKind.i64.wrap (lo + (a2 : Int)) = hi := by rw [IntKind.wrap_i64]; omega
  have w4 : IntKind.i64.wrap ((a4 : Int) - 2) = s := by rw [IntKind.wrap_i64]; omega
  have K1 : Hid (∀ W, Calls Tryz.prog 5 #[.int .i64 m2, .int .i64 50] W fun e w' => e = .returned (.int .i64 (a1 : Int)) ∧ w' = W) := fun W => e1 ▸ low_at m2 50 (by decide) (by decide) W
  have K2 : Hid (∀ W, Calls Tryz.prog 5 #[.int .i64 m3, .int .i64 30] W fun e w' => e = .returned (.int .i64 (a2 : Int)) ∧ w' = W) := fun W => e2 ▸ low_at m3 30 (by decide) (by decide) W
  have K3 : Hid (∀ W, Calls Tryz.prog 5 #[.int .i64 m4, .int .i64 3] W fun e w' => e = .returned (.int .i64 d) ∧ w' = W) := fun W => by rw [ed, e3]; exact low_at m4 3 (by decide) (by decide) W
  have K4 : Hid (∀ W, Calls Tryz.prog 5 #[.int .i64 m5, .int .i64 12] W fun e w' => e = .returned (.int .i64 (a4 : Int)) ∧ w' = W) := fun W => e4 ▸ low_at m5 12 (by decide) (by decide) W
  have K5 : Hid (∀ W, Calls Tryz.prog 5 #[.int .i64 m0, .int .i64 5] W fun e w' => e = .returned (.int .i64 2) ∧ w' = W) := fun W => by have := low_at m0 5 (by decide) (by decide) W; rw [hk] at this; exact this
  have d0 : 0 ≤ d := by omega
  have d2 : d ≤ 2 := by omega
  have ilo : I64 lo := ⟨by omega, by omega⟩
  have ihi : I64 hi := ⟨by omega, by omega⟩
  have is : I64 s := ⟨by omega, by omega⟩
  have i0 : I64 0 := ⟨by decide, by decide⟩
  have i1 : I64 1 := ⟨by decide, by decide⟩
  have i3 : I64 3 := ⟨by decide, by decide⟩
  have hcases : (n < lo ∧ d = 0 ∧ codeT [inD 3 lo hi n d s] 0 = 10) ∨ (n < lo ∧ ¬ d = 0 ∧ codeT [inD 3 lo hi n d s] 0 = 9) ∨ (lo ≤ n ∧ hi < n ∧ d = 0 ∧ codeT [inD 3 lo hi n d s] 0 = 10) ∨ (lo ≤ n ∧ hi < n ∧ ¬ d = 0 ∧ codeT [inD 3 lo hi n d s] 0 = 9) ∨ (lo ≤ n ∧ n ≤ hi ∧ d = 0 ∧ codeT [inD 3 lo hi n d s] 0 = 0) ∨ (lo ≤ n ∧ n ≤ hi ∧ ¬ d = 0 ∧ codeT [inD 3 lo hi n d s] 0 = 9) := by
    have hp := in_2 lo hi n d s (by omega) (by omega) (by omega)
    by_cases c1 : lo ≤ n
    · by_cases c2 : n ≤ hi
      · by_cases c3 : d = 0
        · refine Or.inr (Or.inr (Or.inr (Or.inr (Or.inl ⟨(by omega), (by omega), (by omega), hp.trans ?_⟩))))
          simp [btwT] <;> omega
        · refine Or.inr (Or.inr (Or.inr (Or.inr (Or.inr (⟨(by omega), (by omega), (by omega), hp.trans ?_⟩)))))
          simp [btwT] <;> omega
      · by_cases c4 : d = 0
        · refine Or.inr (Or.inr (Or.inl ⟨(by omega), (by omega), (by omega), hp.trans ?_⟩))
          simp [btwT] <;> omega
        · refine Or.inr (Or.inr (Or.inr (Or.inl ⟨(by omega), (by omega), (by omega), hp.trans ?_⟩)))
          simp [btwT] <;> omega
    · by_cases c5 : d = 0
      · refine Or.inl ⟨(by omega), (by omega), hp.trans ?_⟩
        simp [btwT] <;> omega
      · refine Or.inr (Or.inl ⟨(by omega), (by omega), hp.trans ?_⟩)
        simp [btwT] <;> omega
  clear e1 e2 e3 e4 elo ehi ed es hk
  have hy : (w.alloc (.cells #[.int .i64 1, .int .i64 0, .int .i64 0, .string ⟨#[]⟩, .int .i64 2, .int .i64 0, .int .i64 0, .string ⟨#[]⟩, .int .i64 3, .int .i64 lo, .int .i64 hi, .string ⟨#[]⟩, .int .i64 4, .int .i64 0, .int .i64 3, .string ⟨#[]⟩, .int .i64 7, .int .i64 1, .int .i64 0, .string ⟨#[]⟩] 38)).heap[w.heap.size]? = some (.cells #[.int .i64 1, .int .i64 0, .int .i64 0, .string ⟨#[]⟩, .int .i64 2, .int .i64 0, .int .i64 0, .string ⟨#[]⟩, .int .i64 3, .int .i64 lo, .int .i64 hi, .string ⟨#[]⟩, .int .i64 4, .int .i64 0, .int .i64 3, .string ⟨#[]⟩, .int .i64 7, .int .i64 1, .int .i64 0, .string ⟨#[]⟩] 38 (0, 0)) := heap_alloc_new w _
  have y_0 : (w.alloc (.cells #[.int .i64 1, .int .i64 0, .int .i64 0, .string ⟨#[]⟩, .int .i64 2, .int .i64 0, .int .i64 0, .string ⟨#[]⟩, .int .i64 3, .int .i64 lo, .int .i64 hi, .string ⟨#[]⟩, .int .i64 4, .int .i64 0, .int .i64 3, .string ⟨#[]⟩, .int .i64 7, .int .i64 1, .int .i64 0, .string ⟨#[]⟩] 38)).cell? ⟨w.heap.size, 8, none⟩ = some (.int .i64 3) := (cell_of_row _ _ 8 _ _ _ hy).trans rfl
  have y_1 : (w.alloc (.cells #[.int .i64 1, .int .i64 0, .int .i64 0, .string ⟨#[]⟩, .int .i64 2, .int .i64 0, .int .i64 0, .string ⟨#[]⟩, .int .i64 3, .int .i64 lo, .int .i64 hi, .string ⟨#[]⟩, .int .i64 4, .int .i64 0, .int .i64 3, .string ⟨#[]⟩, .int .i64 7, .int .i64 1, .int .i64 0, .string ⟨#[]⟩] 38)).cell? ⟨w.heap.size, 9, none⟩ = some (.int .i64 lo) := (cell_of_row _ _ 9 _ _ _ hy).trans rfl
  have y_2 : (w.alloc (.cells #[.int .i64 1, .int .i64 0, .int .i64 0, .string ⟨#[]⟩, .int .i64 2, .int .i64 0, .int .i64 0, .string ⟨#[]⟩, .int .i64 3, .int .i64 lo, .int .i64 hi, .string ⟨#[]⟩, .int .i64 4, .int .i64 0, .int .i64 3, .string ⟨#[]⟩, .int .i64 7, .int .i64 1, .int .i64 0, .string ⟨#[]⟩] 38)).cell? ⟨w.heap.size, 10, none⟩ = some (.int .i64 hi) := (cell_of_row _ _ 10 _ _ _ hy).trans rfl
  have y_3 : (w.alloc (.cells #[.int .i64 1, .int .i64 0, .int .i64 0, .string ⟨#[]⟩, .int .i64 2, .int .i64 0, .int .i64 0, .string ⟨#[]⟩, .int .i64 3, .int .i64 lo, .int .i64 hi, .string ⟨#[]⟩, .int .i64 4, .int .i64 0, .int .i64 3, .string ⟨#[]⟩, .int .i64 7, .int .i64 1, .int .i64 0, .string ⟨#[]⟩] 38)).cell? ⟨w.heap.size, 11, none⟩ = some (.string ⟨#[]⟩) := (cell_of_row _ _ 11 _ _ _ hy).trans rfl
  have ht : ((w.alloc (.cells #[.int .i64 1, .int .i64 0, .int .i64 0, .string ⟨#[]⟩, .int .i64 2, .int .i64 0, .int .i64 0, .string ⟨#[]⟩, .int .i64 3, .int .i64 lo, .int .i64 hi, .string ⟨#[]⟩, .int .i64 4, .int .i64 0, .int .i64 3, .string ⟨#[]⟩, .int .i64 7, .int .i64 1, .int .i64 0, .string ⟨#[]⟩] 38)).alloc (.cells #[.int .i64 3, .int .i64 lo, .int .i64 hi, .string ⟨#[]⟩] 38)).heap[w.heap.size + 1]? = some (.cells #[.int .i64 3, .int .i64 lo, .int .i64 hi, .string ⟨#[]⟩] 38 (0, 0)) := by
    have := heap_alloc_new (w.alloc (.cells #[.int .i64 1, .int .i64 0, .int .i64 0, .string ⟨#[]⟩, .int .i64 2, .int .i64 0, .int .i64 0, .string ⟨#[]⟩, .int .i64 3, .int .i64 lo, .int .i64 hi, .string ⟨#[]⟩, .int .i64 4, .int .i64 0, .int .i64 3, .string ⟨#[]⟩, .int .i64 7, .int .i64 1, .int .i64 0, .string ⟨#[]⟩] 38)) (.cells #[.int .i64 3, .int .i64 lo, .int .i64 hi, .string ⟨#[]⟩] 38)
    simpa using this
  have t_0 : ((w.alloc (.cells #[.int .i64 1, .int .i64 0, .int .i64 0, .string ⟨#[]⟩, .int .i64 2, .int .i64 0, .int .i64 0, .string ⟨#[]⟩, .int .i64 3, .int .i64 lo, .int .i64 hi, .string ⟨#[]⟩, .int .i64 4, .int .i64 0, .int .i64 3, .string ⟨#[]⟩, .int .i64 7, .int .i64 1, .int .i64 0, .string ⟨#[]⟩] 38)).alloc (.cells #[.int .i64 3, .int .i64 lo, .int .i64 hi, .string ⟨#[]⟩] 38)).cell? ⟨w.heap.size + 1, 0, none⟩ = some (.int .i64 3) := (cell_of_row _ _ 0 _ _ _ ht).trans rfl
  have t_1 : ((w.alloc (.cells #[.int .i64 1, .int .i64 0, .int .i64 0, .string ⟨#[]⟩, .int .i64 2, .int .i64 0, .int .i64 0, .string ⟨#[]⟩, .int .i64 3, .int .i64 lo, .int .i64 hi, .string ⟨#[]⟩, .int .i64 4, .int .i64 0, .int .i64 3, .string ⟨#[]⟩, .int .i64 7, .int .i64 1, .int .i64 0, .string ⟨#[]⟩] 38)).alloc (.cells #[.int .i64 3, .int .i64 lo, .int .i64 hi, .string ⟨#[]⟩] 38)).cell? ⟨w.heap.size + 1, 1, none⟩ = some (.int .i64 lo) := (cell_of_row _ _ 1 _ _ _ ht).trans rfl
  have t_2 : ((w.alloc (.cells #[.int .i64 1, .int .i64 0, .int .i64 0, .string ⟨#[]⟩, .int .i64 2, .int .i64 0, .int .i64 0, .string ⟨#[]⟩, .int .i64 3, .int .i64 lo, .int .i64 hi, .string ⟨#[]⟩, .int .i64 4, .int .i64 0, .int .i64 3, .string ⟨#[]⟩, .int .i64 7, .int .i64 1, .int .i64 0, .string ⟨#[]⟩] 38)).alloc (.cells #[.int .i64 3, .int .i64 lo, .int .i64 hi, .string ⟨#[]⟩] 38)).cell? ⟨w.heap.size + 1, 2, none⟩ = some (.int .i64 hi) := (cell_of_row _ _ 2 _ _ _ ht).trans rfl
  have t_3 : ((w.alloc (.cells #[.int .i64 1, .int .i64 0, .int .i64 0, .string ⟨#[]⟩, .int .i64 2, .int .i64 0, .int .i64 0, .string ⟨#[]⟩, .int .i64 3, .int .i64 lo, .int .i64 hi, .string ⟨#[]⟩, .int .i64 4, .int .i64 0, .int .i64 3, .string ⟨#[]⟩, .int .i64 7, .int .i64 1, .int .i64 0, .string ⟨#[]⟩] 38)).alloc (.cells #[.int .i64 3, .int .i64 lo, .int .i64 hi, .string ⟨#[]⟩] 38)).cell? ⟨w.heap.size + 1, 3, none⟩ = some (.string ⟨#[]⟩) := (cell_of_row _ _ 3 _ _ _ ht).trans rfl
  obtain ⟨R4, hR4⟩ : ∃ R4 : World, R4 = (((((w.alloc (.cells #[.int .i64 1, .int .i64 0, .int .i64 0, .string ⟨#[]⟩, .int .i64 2, .int .i64 0, .int .i64 0, .string ⟨#[]⟩, .int .i64 3, .int .i64 lo, .int .i64 hi, .string ⟨#[]⟩, .int .i64 4, .int .i64 0, .int .i64 3, .string ⟨#[]⟩, .int .i64 7, .int .i64 1, .int .i64 0, .string ⟨#[]⟩] 38)).alloc (.cells #[.int .i64 3, .int .i64 lo, .int .i64 hi, .string ⟨#[]⟩] 38)).alloc (.cells #[.string ⟨#[120]⟩, .int .i64 3, .int .i64 lo, .int .i64 hi, .string ⟨#[]⟩, .int .i64 n, .int .i64 d, .int .i64 s] 41)).alloc (.cells #[.int .i64 3, .string ⟨#[80]⟩, .string ⟨#[]⟩, .slice none 0 0, .bool false, .bool false, .slice (some ⟨w.heap.size + 1 + 1, 0, none⟩) 1 1, .slice none 0 0, .slice none 0 0, .int .i64 0, .int .i64 0] 28)).alloc (.cells #[.slice (some ⟨w.heap.size + 1 + 1 + 1, 0, none⟩) 1 1] 31)) := ⟨_, rfl⟩
  have hs5 : R4.heap.size = w.heap.size + 1 + 1 + 1 + 1 + 1 := by rw [hR4]; simp
  have hb5 : Below w.heap.size w R4 := by rw [hR4]; exact ((((((Below.refl _ _).alloc (Nat.le_refl _) _).alloc (by simp; try omega) _).alloc (by simp; try omega) _).alloc (by simp; try omega) _).alloc (by simp; try omega) _)
  have hu : R4.heap[w.heap.size + 1 + 1 + 1 + 1]? = some (.cells #[.slice (some ⟨w.heap.size + 1 + 1 + 1, 0, none⟩) 1 1] 31 (0, 0)) := by
    have := heap_alloc_new ((((w.alloc (.cells #[.int .i64 1, .int .i64 0, .int .i64 0, .string ⟨#[]⟩, .int .i64 2, .int .i64 0, .int .i64 0, .string ⟨#[]⟩, .int .i64 3, .int .i64 lo, .int .i64 hi, .string ⟨#[]⟩, .int .i64 4, .int .i64 0, .int .i64 3, .string ⟨#[]⟩, .int .i64 7, .int .i64 1, .int .i64 0, .string ⟨#[]⟩] 38)).alloc (.cells #[.int .i64 3, .int .i64 lo, .int .i64 hi, .string ⟨#[]⟩] 38)).alloc (.cells #[.string ⟨#[120]⟩, .int .i64 3, .int .i64 lo, .int .i64 hi, .string ⟨#[]⟩, .int .i64 n, .int .i64 d, .int .i64 s] 41)).alloc (.cells #[.int .i64 3, .string ⟨#[80]⟩, .string ⟨#[]⟩, .slice none 0 0, .bool false, .bool false, .slice (some ⟨w.heap.size + 1 + 1, 0, none⟩) 1 1, .slice none 0 0, .slice none 0 0, .int .i64 0, .int .i64 0] 28)) (.cells #[.slice (some ⟨w.heap.size + 1 + 1 + 1, 0, none⟩) 1 1] 31)
    rw [hR4]
    simpa using this
  have hd : R4.heap[w.heap.size + 1 + 1 + 1]? = some (.cells #[.int .i64 3, .string ⟨#[80]⟩, .string ⟨#[]⟩, .slice none 0 0, .bool false, .bool false, .slice (some ⟨w.heap.size + 1 + 1, 0, none⟩) 1 1, .slice none 0 0, .slice none 0 0, .int .i64 0, .int .i64 0] 28 (0, 0)) := by
    have := heap_alloc_new (((w.alloc (.cells #[.int .i64 1, .int .i64 0, .int .i64 0, .string ⟨#[]⟩, .int .i64 2, .int .i64 0, .int .i64 0, .string ⟨#[]⟩, .int .i64 3, .int .i64 lo, .int .i64 hi, .string ⟨#[]⟩, .int .i64 4, .int .i64 0, .int .i64 3, .string ⟨#[]⟩, .int .i64 7, .int .i64 1, .int .i64 0, .string ⟨#[]⟩] 38)).alloc (.cells #[.int .i64 3, .int .i64 lo, .int .i64 hi, .string ⟨#[]⟩] 38)).alloc (.cells #[.string ⟨#[120]⟩, .int .i64 3, .int .i64 lo, .int .i64 hi, .string ⟨#[]⟩, .int .i64 n, .int .i64 d, .int .i64 s] 41)) (.cells #[.int .i64 3, .string ⟨#[80]⟩, .string ⟨#[]⟩, .slice none 0 0, .bool false, .bool false, .slice (some ⟨w.heap.size + 1 + 1, 0, none⟩) 1 1, .slice none 0 0, .slice none 0 0, .int .i64 0, .int .i64 0] 28)
    rw [hR4]
    exact (Below.heap_alloc _ _ _ (by simp; try omega)).trans (by simpa using this)
  have hv : R4.heap[w.heap.size + 1 + 1]? = some (.cells #[.string ⟨#[120]⟩, .int .i64 3, .int .i64 lo, .int .i64 hi, .string ⟨#[]⟩, .int .i64 n, .int .i64 d, .int .i64 s] 41 (0, 0)) := by
    have := heap_alloc_new ((w.alloc (.cells #[.int .i64 1, .int .i64 0, .int .i64 0, .string ⟨#[]⟩, .int .i64 2, .int .i64 0, .int .i64 0, .string ⟨#[]⟩, .int .i64 3, .int .i64 lo, .int .i64 hi, .string ⟨#[]⟩, .int .i64 4, .int .i64 0, .int .i64 3, .string ⟨#[]⟩, .int .i64 7, .int .i64 1, .int .i64 0, .string ⟨#[]⟩] 38)).alloc (.cells #[.int .i64 3, .int .i64 lo, .int .i64 hi, .string ⟨#[]⟩] 38)) (.cells #[.string ⟨#[120]⟩, .int .i64 3, .int .i64 lo, .int .i64 hi, .string ⟨#[]⟩, .int .i64 n, .int .i64 d, .int .i64 s] 41)
    rw [hR4]
    exact (Below.heap_alloc _ _ _ (by simp; try omega)).trans ((Below.heap_alloc _ _ _ (by simp; try omega)).trans (by simpa using this))
  have htb : R4.heap[w.heap.size + 1]? = some (.cells #[.int .i64 3, .int .i64 lo, .int .i64 hi, .string ⟨#[]⟩] 38 (0, 0)) := by rw [hR4]; exact (Below.heap_alloc _ _ _ (by simp; try omega)).trans ((Below.heap_alloc _ _ _ (by simp; try omega)).trans ((Below.heap_alloc _ _ _ (by simp; try omega)).trans ht))
  have VS : ∀ W, Below R4.heap.size R4 W → VsR W W.heap.size (some ⟨w.heap.size + 1 + 1, 0, none⟩) [inV 3 lo hi n d s] := fun W hW => rowC_block (R := VIn) (l := [(inV 3 lo hi n d s, [.string ⟨#[120]⟩, .int .i64 3, .int .i64 lo, .int .i64 hi, .string ⟨#[]⟩, .int .i64 n, .int .i64 d, .int .i64 s])]) ((hW.block _ (by omega)).trans hv) (by have := hW.size; omega) (by simp) (fun x hx => by
    obtain rfl : x = _ := by simpa using hx
    exact ⟨rfl, ⟨by first | exact i0 | exact i1 | exact ilo, by first | exact i0 | exact i3 | exact ihi⟩, inn, is⟩)
  have DS : Hid (∀ W, Hid (Below R4.heap.size R4 W) → DsR W W.heap.size (some ⟨w.heap.size + 1 + 1 + 1, 0, none⟩) [inD 3 lo hi n d s]) := fun W hW => rowC_block (l := [(inD 3 lo hi n d s, [.int .i64 3, .string ⟨#[80]⟩, .string ⟨#[]⟩, .slice none 0 0, .bool false, .bool false, .slice (some ⟨w.heap.size + 1 + 1, 0, none⟩) 1 1, .slice none 0 0, .slice none 0 0, .int .i64 0, .int .i64 0])]) ((hW.out.block _ (by omega)).trans hd) (by have := hW.out.size; omega) (by simp) (fun x hx => by
    obtain rfl : x = _ := by simpa using hx
    exact ⟨none, 0, some ⟨w.heap.size + 1 + 1, 0, none⟩, 1, none, 0, none, 0, rfl, i0, i0, fun k hk => by simp [inD] at hk, VS W hW.out, fun k hk => by simp [inD] at hk, fun k hk => by simp [inD] at hk⟩)
  have CE : Hid (∀ W, Hid (Below R4.heap.size R4 W) → W.cell? ⟨w.heap.size + 1 + 1 + 1 + 1, 0, none⟩ = some (.slice (some ⟨w.heap.size + 1 + 1 + 1, 0, none⟩) 1 1)) := fun W hW => (cell_of_row _ _ 0 _ _ _ ((hW.out.block _ (by omega)).trans hu)).trans rfl
  have KD : Hid (∀ v : Int, codeT [inD 3 lo hi n d s] 0 = v → Calls Tryz.prog 7 #[.agg #[.slice (some ⟨w.heap.size + 1 + 1 + 1, 0, none⟩) 1 1], .int .i64 0] R4 fun e' w' => e' = .returned (.int .i64 v) ∧ Hid (Below R4.heap.size R4 w')) := fun v hv => hv ▸ Decl_any [inD 3 lo hi n d s] (some ⟨w.heap.size + 1 + 1 + 1, 0, none⟩) 1 0 R4 (DS.out _ (Below.refl _ _)) (in_small _ _ _ _ _ _) (by simp)
  have KA : Hid (∀ W, Hid (Below R4.heap.size R4 W) → Calls Tryz.prog 8 #[] W fun e' w' => e' = .returned (.bool true) ∧ Hid (Below R4.heap.size R4 w')) := fun W hW => (ruAwake_any W).mono fun e' w' hh => ⟨hh.1, hW.out.trans (hh.2.out.mono hW.out.size)⟩
  have HO : Hid (∀ W, Hid (Below R4.heap.size R4 W) → Below w.heap.size w W) := fun W hW => hb5.trans (hW.out.mono hb5.size)
  have HB4 : Hid (Below R4.heap.size R4 R4) := Below.refl _ _
  have y0 := CE.out _ HB4
  have tk0 : R4.cell? ⟨w.heap.size + 1, 0, none⟩ = some (.int .i64 3) := (cell_of_row _ _ 0 _ _ _ htb).trans rfl
  have HR4 := Lib.hid hR4
  rw [hR4] at y0 tk0
  have HCA := Lib.hid hcases
  clear hcases hR4 hs5 hb5 hu hd hv htb VS DS hy ht ilo ihi is i0 i1 i3 inn
  go_enter Tryz.func4, Tryz.ntmps4
  go_wp2_with fail
  refine (K1.out _).mono ?_
  rintro e0 v0 ⟨rfl, hw0⟩
  subst hw0
  go_wp2_with fail
  refine (K2.out _).mono ?_
  rintro e1 v1 ⟨rfl, hw1⟩
  subst hw1
  go_wp2_with fail
  refine (K3.out _).mono ?_
  rintro e2 v2 ⟨rfl, hw2⟩
  subst hw2
  go_wp2_with fail
  refine (K4.out _).mono ?_
  rintro e3 v3 ⟨rfl, hw3⟩
  subst hw3
  go_wp2_with fail
  refine (K5.out _).mono ?_
  rintro e4 v4 ⟨rfl, hw4⟩
  subst hw4
  have hcases := HCA.out
  clear HCA
  rcases hcases with ⟨u0, u1, HV⟩ | ⟨u0, u1, HV⟩ | ⟨u0, u1, u2, HV⟩ | ⟨u0, u1, u2, HV⟩ | ⟨u0, u1, u2, HV⟩ | ⟨u0, u1, u2, HV⟩
  · have p0 : decide (lo ≤ n) = false := decide_eq_false (by omega)
    have q1 : (d == 0) = true := by rw [u1]; rfl
    have p1 : (d != 0) = false := by rw [u1]; rfl
    clear u1
    replace HV := Lib.hid HV
    go_wp2_with fail
    rw [← HR4.out]
    refine (KD.out 10 HV.out).mono ?_
    rintro e6 w6 ⟨rfl, hb6⟩
    clear y0
    go_wp2_with fail
    refine (KA.out _ hb6).mono ?_
    rintro e7 w7 ⟨rfl, hb7⟩
    go_wp2_with fail
    go_ret
    exact ⟨rfl, HO.out _ hb7⟩
  · have p0 : decide (lo ≤ n) = false := decide_eq_false (by omega)
    have p1 : (d != 0) = true := by simp [u1]
    clear u1
    replace HV := Lib.hid HV
    go_wp2_with fail
    rw [← HR4.out]
    refine (KD.out 9 HV.out).mono ?_
    rintro e6 w6 ⟨rfl, hb6⟩
    clear y0
    go_wp2_with fail
    refine (KA.out _ hb6).mono ?_
    rintro e7 w7 ⟨rfl, hb7⟩
    go_wp2_with fail
    go_ret
    exact ⟨rfl, HO.out _ hb7⟩
  · have p0 : decide (lo ≤ n) = true := decide_eq_true (by omega)
    have p1 : decide (n ≤ hi) = false := decide_eq_false (by omega)
    have q2 : (d == 0) = true := by rw [u2]; rfl
    have p2 : (d != 0) = false := by rw [u2]; rfl
    clear u2
    replace HV := Lib.hid HV
    go_wp2_with fail
    rw [← HR4.out]
    refine (KD.out 10 HV.out).mono ?_
    rintro e6 w6 ⟨rfl, hb6⟩
    clear y0
    go_wp2_with fail
    refine (KA.out _ hb6).mono ?_
    rintro e7 w7 ⟨rfl, hb7⟩
    go_wp2_with fail
    go_ret
    exact ⟨rfl, HO.out _ hb7⟩
  · have p0 : decide (lo ≤ n) = true := decide_eq_true (by omega)
    have p1 : decide (n ≤ hi) = false := decide_eq_false (by omega)
    have p2 : (d != 0) = true := by simp [u2]
    clear u2
    replace HV := Lib.hid HV
    go_wp2_with fail
    rw [← HR4.out]
    refine (KD.out 9 HV.out).mono ?_
    rintro e6 w6 ⟨rfl, hb6⟩
    clear y0
    go_wp2_with fail
    refine (KA.out _ hb6).mono ?_
    rintro e7 w7 ⟨rfl, hb7⟩
    go_wp2_with fail
    go_ret
    exact ⟨rfl, HO.out _ hb7⟩
  · have p0 : decide (lo ≤ n) = true := decide_eq_true (by omega)
    have p1 : decide (n ≤ hi) = true := decide_eq_true (by omega)
    have q2 : (d == 0) = true := by rw [u2]; rfl
    have p2 : (d != 0) = false := by rw [u2]; rfl
    clear u2
    replace HV := Lib.hid HV
    go_wp2_with fail
    rw [← HR4.out]
    refine (KD.out 0 HV.out).mono ?_
    rintro e6 w6 ⟨rfl, hb6⟩
    clear y0
    go_wp2_with fail
    refine (KA.out _ hb6).mono ?_
    rintro e7 w7 ⟨rfl, hb7⟩
    go_wp2_with fail
    go_ret
    exact ⟨rfl, HO.out _ hb7⟩
  · have p0 : decide (lo ≤ n) = true := decide_eq_true (by omega)
    have p1 : decide (n ≤ hi) = true := decide_eq_true (by omega)
    have p2 : (d != 0) = true := by simp [u2]
    clear u2
    replace HV := Lib.hid HV
    go_wp2_with fail
    rw [← HR4.out]
    refine (KD.out 9 HV.out).mono ?_
    rintro e6 w6 ⟨rfl, hb6⟩
    clear y0
    go_wp2_with fail
    refine (KA.out _ hb6).mono ?_
    rintro e7 w7 ⟨rfl, hb7⟩
    go_wp2_with fail
    go_ret
    exact ⟨rfl, HO.out _ hb7⟩
end Go.Proofs.YtbgilpmoijdcfaaGreat

/-
  governorlaw8.RulesInits: the walk, kind 3.
-/
namespace Go.Proofs.YtbgilpmoijdcfaaGreat
open Go Go.RowKit Go.Shelf
set_option linter.unusedVariables false
set_option linter.unusedSimpArgs false

set_option maxHeartbeats 8000000 in
set_option maxRecDepth 100000 in
theorem inits_3 (m0 n m2 m3 m4 m5 : Int) (inn : I64 n) (hk : lowT m0 5 = 3) (w : World) : Calls Tryz.prog 4 #[.int .i64 m0, .int .i64 n, .int .i64 m2, .int .i64 m3, .int .i64 m4, .int .i64 m5] w fun e w' => e = .returned (.bool true) ∧ Below w.heap.size w w' := by
  obtain ⟨a1, e1, b1⟩ : ∃ a : Nat, a = lowT m2 50 ∧ a < 50 := ⟨_, rfl, lowT_lt _ (by decide)⟩
  obtain ⟨a2, e2, b2⟩ : ∃ a : Nat, a = lowT m3 30 ∧ a < 30 := ⟨_, rfl, lowT_lt _ (by decide)⟩
  obtain ⟨a3, e3, b3⟩ : ∃ a : Nat, a = lowT m4 3 ∧ a < 3 := ⟨_, rfl, lowT_lt _ (by decide)⟩
  obtain ⟨a4, e4, b4⟩ : ∃ a : Nat, a = lowT m5 12 ∧ a < 12 := ⟨_, rfl, lowT_lt _ (by decide)⟩
  obtain ⟨lo, elo⟩ : ∃ e : Int, e = (a1 : Int) - 25 := ⟨_, rfl⟩
  obtain ⟨hi, ehi⟩ : ∃ e : Int, e = lo + (a2 : Int) := ⟨_, rfl⟩
  obtain ⟨d, ed⟩ : ∃ e : Int, e = (a3 : Int) := ⟨_, rfl⟩
  obtain ⟨s, es⟩ : ∃ e : Int, e = (a4 : Int) - 2 := ⟨_, rfl⟩
  have w1 : IntKind.i64.wrap ((a1 : Int) - 25) = lo := by rw [IntKind.wrap_i64]; omega
  have w2 : IntKind.i64.wrap (lo + (a2 : Int)) = hi := by rw [IntKind.wrap_i64]; omega
  have w4 : IntKind.i64.wrap ((a4 : Int) - 2) = s := by rw [IntKind.wrap_i64]; omega
  have K1 : Hid (∀ W, Calls Tryz.prog 5 #[.int .i64 m2, .int .i64 50] W fun e w' => e = .returned (.int .i64 (a1 : Int)) ∧ w' = W) := fun W => e1 ▸ low_at m2 50 (by decide) (by decide) W
  have K2 : Hid (∀ W, Calls Tryz.prog 5 #[.int .i64 m3, .int .i64 30] W fun e w' => e = .returned (.int .i64 (a2 : Int)) ∧ w' = W) := fun W => e2 ▸ low_at m3 30 (by decide) (by decide) W
  have K3 : Hid (∀ W, Calls Tryz.prog 5 #[.int .i64 m4, .int .i64 3] W fun e w' => e = .returned (.int .i64 d) ∧ w' = W) := fun W => by rw [ed, e3]; exact low_at m4 3 (by decide) (by decide) W
  have K4 : Hid (∀ W, Calls Tryz.prog 5 #[.int .i64 m5, .int .i64 12] W fun e w' => e = .returned (.int .i64 (a4 : Int)) ∧ w' = W) := fun W => e4 ▸ low_at m5 12 (by decide) (by decide) W
  have K5 : Hid (∀ W, Calls Tryz.prog 5 #[.int .i64 m0, .int .i64 5] W fun e w' => e = .returned (.int .i64 3) ∧ w' = W) := fun W => by have := low_at m0 5 (by decide) (by decide) W; rw [hk] at this; exact this
  have d0 : 0 ≤ d := by omega
  have d2 : d ≤ 2 := by omega
  have ilo : I64 lo := ⟨by omega, by omega⟩
  have ihi : I64 hi := ⟨by omega, by omega⟩
  have is : I64 s := ⟨by omega, by omega⟩
  have i0 : I64 0 := ⟨by decide, by decide⟩
  have i1 : I64 1 := ⟨by decide, by decide⟩
  have i3 : I64 3 := ⟨by decide, by decide⟩
  have hcases : (n = 0 ∧ d = 0 ∧ codeT [inD 4 0 3 n d s] 0 = 0) ∨ (n = 0 ∧ ¬ d = 0 ∧ codeT [inD 4 0 3 n d s] 0 = 9) ∨ (¬ n = 0 ∧ d = 0 ∧ codeT [inD 4 0 3 n d s] 0 = 10) ∨ (¬ n = 0 ∧ ¬ d = 0 ∧ codeT [inD 4 0 3 n d s] 0 = 9) := by
    have hp := in_3 n d s
    by_cases c1 : n = 0
    · by_cases c2 : d = 0
      · refine Or.inl ⟨(by omega), (by omega), hp.trans ?_⟩
        simp [btwT] <;> omega
      · refine Or.inr (Or.inl ⟨(by omega), (by omega), hp.trans ?_⟩)
        simp [btwT] <;> omega
    · by_cases c3 : d = 0
      · refine Or.inr (Or.inr (Or.inl ⟨(by omega), (by omega), hp.trans ?_⟩))
        simp [btwT] <;> omega
      · refine Or.inr (Or.inr (Or.inr (⟨(by omega), (by omega), hp.trans ?_⟩)))
        simp [btwT] <;> omega
  clear e1 e2 e3 e4 elo ehi ed es hk
  have hy : (w.alloc (.cells #[.int .i64 1, .int .i64 0, .int .i64 0, .string ⟨#[]⟩, .int .i64 2, .int .i64 0, .int .i64 0, .string ⟨#[]⟩, .int .i64 3, .int .i64 lo, .int .i64 hi, .string ⟨#[]⟩, .int .i64 4, .int .i64 0, .int .i64 3, .string ⟨#[]⟩, .int .i64 7, .int .i64 1, .int .i64 0, .string ⟨#[]⟩] 38)).heap[w.heap.size]? = some (.cells #[.int .i64 1, .int .i64 0, .int .i64 0, .string ⟨#[]⟩, .int .i64 2, .int .i64 0, .int .i64 0, .string ⟨#[]⟩, .int .i64 3, .int .i64 lo, .int .i64 hi, .string ⟨#[]⟩, .int .i64 4, .int .i64 0, .int .i64 3, .string ⟨#[]⟩, .int .i64 7, .int .i64 1, .int .i64 0, .string ⟨#[]⟩] 38 (0, 0)) := heap_alloc_new w _
  have y_0 : (w.alloc (.cells #[.int .i64 1, .int .i64 0, .int .i64 0, .string ⟨#[]⟩, .int .i64 2, .int .i64 0, .int .i64 0, .string ⟨#[]⟩, .int .i64 3, .int .i64 lo, .int .i64 hi, .string ⟨#[]⟩, .int .i64 4, .int .i64 0, .int .i64 3, .string ⟨#[]⟩, .int .i64 7, .int .i64 1, .int .i64 0, .string ⟨#[]⟩] 38)).cell? ⟨w.heap.size, 12, none⟩ = some (.int .i64 4) := (cell_of_row _ _ 12 _ _ _ hy).trans rfl
  have y_1 : (w.alloc (.cells #[.int .i64 1, .int .i64 0, .int .i64 0, .string ⟨#[]⟩, .int .i64 2, .int .i64 0, .int .i64 0, .string ⟨#[]⟩, .int .i64 3, .int .i64 lo, .int .i64 hi, .string ⟨#[]⟩, .int .i64 4, .int .i64 0, .int .i64 3, .string ⟨#[]⟩, .int .i64 7, .int .i64 1, .int .i64 0, .string ⟨#[]⟩] 38)).cell? ⟨w.heap.size, 13, none⟩ = some (.int .i64 0) := (cell_of_row _ _ 13 _ _ _ hy).trans rfl
  have y_2 : (w.alloc (.cells #[.int .i64 1, .int .i64 0, .int .i64 0, .string ⟨#[]⟩, .int .i64 2, .int .i64 0, .int .i64 0, .string ⟨#[]⟩, .int .i64 3, .int .i64 lo, .int .i64 hi, .string ⟨#[]⟩, .int .i64 4, .int .i64 0, .int .i64 3, .string ⟨#[]⟩, .int .i64 7, .int .i64 1, .int .i64 0, .string ⟨#[]⟩] 38)).cell? ⟨w.heap.size, 14, none⟩ = some (.int .i64 3) := (cell_of_row _ _ 14 _ _ _ hy).trans rfl
  have y_3 : (w.alloc (.cells #[.int .i64 1, .int .i64 0, .int .i64 0, .string ⟨#[]⟩, .int .i64 2, .int .i64 0, .int .i64 0, .string ⟨#[]⟩, .int .i64 3, .int .i64 lo, .int .i64 hi, .string ⟨#[]⟩, .int .i64 4, .int .i64 0, .int .i64 3, .string ⟨#[]⟩, .int .i64 7, .int .i64 1, .int .i64 0, .string ⟨#[]⟩] 38)).cell? ⟨w.heap.size, 15, none⟩ = some (.string ⟨#[]⟩) := (cell_of_row _ _ 15 _ _ _ hy).trans rfl
  have ht : ((w.alloc (.cells #[.int .i64 1, .int .i64 0, .int .i64 0, .string ⟨#[]⟩, .int .i64 2, .int .i64 0, .int .i64 0, .string ⟨#[]⟩, .int .i64 3, .int .i64 lo, .int .i64 hi, .string ⟨#[]⟩, .int .i64 4, .int .i64 0, .int .i64 3, .string ⟨#[]⟩, .int .i64 7, .int .i64 1, .int .i64 0, .string ⟨#[]⟩] 38)).alloc (.cells #[.int .i64 4, .int .i64 0, .int .i64 3, .string ⟨#[]⟩] 38)).heap[w.heap.size + 1]? = some (.cells #[.int .i64 4, .int .i64 0, .int .i64 3, .string ⟨#[]⟩] 38 (0, 0)) := by
    have := heap_alloc_new (w.alloc (.cells #[.int .i64 1, .int .i64 0, .int .i64 0, .string ⟨#[]⟩, .int .i64 2, .int .i64 0, .int .i64 0, .string ⟨#[]⟩, .int .i64 3, .int .i64 lo, .int .i64 hi, .string ⟨#[]⟩, .int .i64 4, .int .i64 0, .int .i64 3, .string ⟨#[]⟩, .int .i64 7, .int .i64 1, .int .i64 0, .string ⟨#[]⟩] 38)) (.cells #[.int .i64 4, .int .i64 0, .int .i64 3, .string ⟨#[]⟩] 38)
    simpa using this
  have t_0 : ((w.alloc (.cells #[.int .i64 1, .int .i64 0, .int .i64 0, .string ⟨#[]⟩, .int .i64 2, .int .i64 0, .int .i64 0, .string ⟨#[]⟩, .int .i64 3, .int .i64 lo, .int .i64 hi, .string ⟨#[]⟩, .int .i64 4, .int .i64 0, .int .i64 3, .string ⟨#[]⟩, .int .i64 7, .int .i64 1, .int .i64 0, .string ⟨#[]⟩] 38)).alloc (.cells #[.int .i64 4, .int .i64 0, .int .i64 3, .string ⟨#[]⟩] 38)).cell? ⟨w.heap.size + 1, 0, none⟩ = some (.int .i64 4) := (cell_of_row _ _ 0 _ _ _ ht).trans rfl
  have t_1 : ((w.alloc (.cells #[.int .i64 1, .int .i64 0, .int .i64 0, .string ⟨#[]⟩, .int .i64 2, .int .i64 0, .int .i64 0, .string ⟨#[]⟩, .int .i64 3, .int .i64 lo, .int .i64 hi, .string ⟨#[]⟩, .int .i64 4, .int .i64 0, .int .i64 3, .string ⟨#[]⟩, .int .i64 7, .int .i64 1, .int .i64 0, .string ⟨#[]⟩] 38)).alloc (.cells #[.int .i64 4, .int .i64 0, .int .i64 3, .string ⟨#[]⟩] 38)).cell? ⟨w.heap.size + 1, 1, none⟩ = some (.int .i64 0) := (cell_of_row _ _ 1 _ _ _ ht).trans rfl
  have t_2 : ((w.alloc (.cells #[.int .i64 1, .int .i64 0, .int .i64 0, .string ⟨#[]⟩, .int .i64 2, .int .i64 0, .int .i64 0, .string ⟨#[]⟩, .int .i64 3, .int .i64 lo, .int .i64 hi, .string ⟨#[]⟩, .int .i64 4, .int .i64 0, .int .i64 3, .string ⟨#[]⟩, .int .i64 7, .int .i64 1, .int .i64 0, .string ⟨#[]⟩] 38)).alloc (.cells #[.int .i64 4, .int .i64 0, .int .i64 3, .string ⟨#[]⟩] 38)).cell? ⟨w.heap.size + 1, 2, none⟩ = some (.int .i64 3) := (cell_of_row _ _ 2 _ _ _ ht).trans rfl
  have t_3 : ((w.alloc (.cells #[.int .i64 1, .int .i64 0, .int .i64 0, .string ⟨#[]⟩, .int .i64 2, .int .i64 0, .int .i64 0, .string ⟨#[]⟩, .int .i64 3, .int .i64 lo, .int .i64 hi, .string ⟨#[]⟩, .int .i64 4, .int .i64 0, .int .i64 3, .string ⟨#[]⟩, .int .i64 7, .int .i64 1, .int .i64 0, .string ⟨#[]⟩] 38)).alloc (.cells #[.int .i64 4, .int .i64 0, .int .i64 3, .string ⟨#[]⟩] 38)).cell? ⟨w.heap.size + 1, 3, none⟩ = some (.string ⟨#[]⟩) := (cell_of_row _ _ 3 _ _ _ ht).trans rfl
  obtain ⟨R4, hR4⟩ : ∃ R4 : World, R4 = (((((w.alloc (.cells #[.int .i64 1, .int .i64 0, .int .i64 0, .string ⟨#[]⟩, .int .i64 2, .int .i64 0, .int .i64 0, .string ⟨#[]⟩, .int .i64 3, .int .i64 lo, .int .i64 hi, .string ⟨#[]⟩, .int .i64 4, .int .i64 0, .int .i64 3, .string ⟨#[]⟩, .int .i64 7, .int .i64 1, .int .i64 0, .string ⟨#[]⟩] 38)).alloc (.cells #[.int .i64 4, .int .i64 0, .int .i64 3, .string ⟨#[]⟩] 38)).alloc (.cells #[.string ⟨#[120]⟩, .int .i64 4, .int .i64 0, .int .i64 3, .string ⟨#[]⟩, .int .i64 n, .int .i64 d, .int .i64 s] 41)).alloc (.cells #[.int .i64 3, .string ⟨#[80]⟩, .string ⟨#[]⟩, .slice none 0 0, .bool false, .bool false, .slice (some ⟨w.heap.size + 1 + 1, 0, none⟩) 1 1, .slice none 0 0, .slice none 0 0, .int .i64 0, .int .i64 0] 28)).alloc (.cells #[.slice (some ⟨w.heap.size + 1 + 1 + 1, 0, none⟩) 1 1] 31)) := ⟨_, rfl⟩
  have hs5 : R4.heap.size = w.heap.size + 1 + 1 + 1 + 1 + 1 := by rw [hR4]; simp
  have hb5 : Below w.heap.size w R4 := by rw [hR4]; exact ((((((Below.refl _ _).alloc (Nat.le_refl _) _).alloc (by simp; try omega) _).alloc (by simp; try omega) _).alloc (by simp; try omega) _).alloc (by simp; try omega) _)
  have hu : R4.heap[w.heap.size + 1 + 1 + 1 + 1]? = some (.cells #[.slice (some ⟨w.heap.size + 1 + 1 + 1, 0, none⟩) 1 1] 31 (0, 0)) := by
    have := heap_alloc_new ((((w.alloc (.cells #[.int .i64 1, .int .i64 0, .int .i64 0, .string ⟨#[]⟩, .int .i64 2, .int .i64 0, .int .i64 0, .string ⟨#[]⟩, .int .i64 3, .int .i64 lo, .int .i64 hi, .string ⟨#[]⟩, .int .i64 4, .int .i64 0, .int .i64 3, .string ⟨#[]⟩, .int .i64 7, .int .i64 1, .int .i64 0, .string ⟨#[]⟩] 38)).alloc (.cells #[.int .i64 4, .int .i64 0, .int .i64 3, .string ⟨#[]⟩] 38)).alloc (.cells #[.string ⟨#[120]⟩, .int .i64 4, .int .i64 0, .int .i64 3, .string ⟨#[]⟩, .int .i64 n, .int .i64 d, .int .i64 s] 41)).alloc (.cells #[.int .i64 3, .string ⟨#[80]⟩, .string ⟨#[]⟩, .slice none 0 0, .bool false, .bool false, .slice (some ⟨w.heap.size + 1 + 1, 0, none⟩) 1 1, .slice none 0 0, .slice none 0 0, .int .i64 0, .int .i64 0] 28)) (.cells #[.slice (some ⟨w.heap.size + 1 + 1 + 1, 0, none⟩) 1 1] 31)
    rw [hR4]
    simpa using this
  have hd : R4.heap[w.heap.size + 1 + 1 + 1]? = some (.cells #[.int .i64 3, .string ⟨#[80]⟩, .string ⟨#[]⟩, .slice none 0 0, .bool false, .bool false, .slice (some ⟨w.heap.size + 1 + 1, 0, none⟩) 1 1, .slice none 0 0, .slice none 0 0, .int .i64 0, .int .i64 0] 28 (0, 0)) := by
    have := heap_alloc_new (((w.alloc (.cells #[.int .i64 1, .int .i64 0, .int .i64 0, .string ⟨#[]⟩, .int .i64 2, .int .i64 0, .int .i64 0, .string ⟨#[]⟩, .int .i64 3, .int .i64 lo, .int .i64 hi, .string ⟨#[]⟩, .int .i64 4, .int .i64 0, .int .i64 3, .string ⟨#[]⟩, .int .i64 7, .int .i64 1, .int .i64 0, .string ⟨#[]⟩] 38)).alloc (.cells #[.int .i64 4, .int .i64 0, .int .i64 3, .string ⟨#[]⟩] 38)).alloc (.cells #[.string ⟨#[120]⟩, .int .i64 4, .int .i64 0, .int .i64 3, .string ⟨#[]⟩, .int .i64 n, .int .i64 d, .int .i64 s] 41)) (.cells #[.int .i64 3, .string ⟨#[80]⟩, .string ⟨#[]⟩, .slice none 0 0, .bool false, .bool false, .slice (some ⟨w.heap.size + 1 + 1, 0, none⟩) 1 1, .slice none 0 0, .slice none 0 0, .int .i64 0, .int .i64 0] 28)
    rw [hR4]
    exact (Below.heap_alloc _ _ _ (by simp; try omega)).trans (by simpa using this)
  have hv : R4.heap[w.heap.size + 1 + 1]? = some (.cells #[.string ⟨#[120]⟩, .int .i64 4, .int .i64 0, .int .i64 3, .string ⟨#[]⟩, .int .i64 n, .int .i64 d, .int .i64 s] 41 (0, 0)) := by
    have := heap_alloc_new ((w.alloc (.cells #[.int .i64 1, .int .i64 0, .int .i64 0, .string ⟨#[]⟩, .int .i64 2, .int .i64 0, .int .i64 0, .string ⟨#[]⟩, .int .i64 3, .int .i64 lo, .int .i64 hi, .string ⟨#[]⟩, .int .i64 4, .int .i64 0, .int .i64 3, .string ⟨#[]⟩, .int .i64 7, .int .i64 1, .int .i64 0, .string ⟨#[]⟩] 38)).alloc (.cells #[.int .i64 4, .int .i64 0, .int .i64 3, .string ⟨#[]⟩] 38)) (.cells #[.string ⟨#[120]⟩, .int .i64 4, .int .i64 0, .int .i64 3, .string ⟨#[]⟩, .int .i64 n, .int .i64 d, .int .i64 s] 41)
    rw [hR4]
    exact (Below.heap_alloc _ _ _ (by simp; try omega)).trans ((Below.heap_alloc _ _ _ (by simp; try omega)).trans (by simpa using this))
  have htb : R4.heap[w.heap.size + 1]? = some (.cells #[.int .i64 4, .int .i64 0, .int .i64 3, .string ⟨#[]⟩] 38 (0, 0)) := by rw [hR4]; exact (Below.heap_alloc _ _ _ (by simp; try omega)).trans ((Below.heap_alloc _ _ _ (by simp; try omega)).trans ((Below.heap_alloc _ _ _ (by simp; try omega)).trans ht))
  have VS : ∀ W, Below R4.heap.size R4 W → VsR W W.heap.size (some ⟨w.heap.size + 1 + 1, 0, none⟩) [inV 4 0 3 n d s] := fun W hW => rowC_block (R := VIn) (l := [(inV 4 0 3 n d s, [.string ⟨#[120]⟩, .int .i64 4, .int .i64 0, .int .i64 3, .string ⟨#[]⟩, .int .i64 n, .int .i64 d, .int .i64 s])]) ((hW.block _ (by omega)).trans hv) (by have := hW.size; omega) (by simp) (fun x hx => by
    obtain rfl : x = _ := by simpa using hx
    exact ⟨rfl, ⟨by first | exact i0 | exact i1 | exact ilo, by first | exact i0 | exact i3 | exact ihi⟩, inn, is⟩)
  have DS : Hid (∀ W, Hid (Below R4.heap.size R4 W) → DsR W W.heap.size (some ⟨w.heap.size + 1 + 1 + 1, 0, none⟩) [inD 4 0 3 n d s]) := fun W hW => rowC_block (l := [(inD 4 0 3 n d s, [.int .i64 3, .string ⟨#[80]⟩, .string ⟨#[]⟩, .slice none 0 0, .bool false, .bool false, .slice (some ⟨w.heap.size + 1 + 1, 0, none⟩) 1 1, .slice none 0 0, .slice none 0 0, .int .i64 0, .int .i64 0])]) ((hW.out.block _ (by omega)).trans hd) (by have := hW.out.size; omega) (by simp) (fun x hx => by
    obtain rfl : x = _ := by simpa using hx
    exact ⟨none, 0, some ⟨w.heap.size + 1 + 1, 0, none⟩, 1, none, 0, none, 0, rfl, i0, i0, fun k hk => by simp [inD] at hk, VS W hW.out, fun k hk => by simp [inD] at hk, fun k hk => by simp [inD] at hk⟩)
  have CE : Hid (∀ W, Hid (Below R4.heap.size R4 W) → W.cell? ⟨w.heap.size + 1 + 1 + 1 + 1, 0, none⟩ = some (.slice (some ⟨w.heap.size + 1 + 1 + 1, 0, none⟩) 1 1)) := fun W hW => (cell_of_row _ _ 0 _ _ _ ((hW.out.block _ (by omega)).trans hu)).trans rfl
  have KD : Hid (∀ v : Int, codeT [inD 4 0 3 n d s] 0 = v → Calls Tryz.prog 7 #[.agg #[.slice (some ⟨w.heap.size + 1 + 1 + 1, 0, none⟩) 1 1], .int .i64 0] R4 fun e' w' => e' = .returned (.int .i64 v) ∧ Hid (Below R4.heap.size R4 w')) := fun v hv => hv ▸ Decl_any [inD 4 0 3 n d s] (some ⟨w.heap.size + 1 + 1 + 1, 0, none⟩) 1 0 R4 (DS.out _ (Below.refl _ _)) (in_small _ _ _ _ _ _) (by simp)
  have KA : Hid (∀ W, Hid (Below R4.heap.size R4 W) → Calls Tryz.prog 8 #[] W fun e' w' => e' = .returned (.bool true) ∧ Hid (Below R4.heap.size R4 w')) := fun W hW => (ruAwake_any W).mono fun e' w' hh => ⟨hh.1, hW.out.trans (hh.2.out.mono hW.out.size)⟩
  have HO : Hid (∀ W, Hid (Below R4.heap.size R4 W) → Below w.heap.size w W) := fun W hW => hb5.trans (hW.out.mono hb5.size)
  have HB4 : Hid (Below R4.heap.size R4 R4) := Below.refl _ _
  have y0 := CE.out _ HB4
  have tk0 : R4.cell? ⟨w.heap.size + 1, 0, none⟩ = some (.int .i64 4) := (cell_of_row _ _ 0 _ _ _ htb).trans rfl
  have HR4 := Lib.hid hR4
  rw [hR4] at y0 tk0
  have HCA := Lib.hid hcases
  clear hcases hR4 hs5 hb5 hu hd hv htb VS DS hy ht ilo ihi is i0 i1 i3 inn
  go_enter Tryz.func4, Tryz.ntmps4
  go_wp2_with fail
  refine (K1.out _).mono ?_
  rintro e0 v0 ⟨rfl, hw0⟩
  subst hw0
  go_wp2_with fail
  refine (K2.out _).mono ?_
  rintro e1 v1 ⟨rfl, hw1⟩
  subst hw1
  go_wp2_with fail
  refine (K3.out _).mono ?_
  rintro e2 v2 ⟨rfl, hw2⟩
  subst hw2
  go_wp2_with fail
  refine (K4.out _).mono ?_
  rintro e3 v3 ⟨rfl, hw3⟩
  subst hw3
  go_wp2_with fail
  refine (K5.out _).mono ?_
  rintro e4 v4 ⟨rfl, hw4⟩
  subst hw4
  have hcases := HCA.out
  clear HCA
  rcases hcases with ⟨u0, u1, HV⟩ | ⟨u0, u1, HV⟩ | ⟨u0, u1, HV⟩ | ⟨u0, u1, HV⟩
  · have q0 : (n == 0) = true := by rw [u0]; rfl
    clear u0
    have q1 : (d == 0) = true := by rw [u1]; rfl
    have p1 : (d != 0) = false := by rw [u1]; rfl
    clear u1
    replace HV := Lib.hid HV
    go_wp2_with fail
    rw [← HR4.out]
    refine (KD.out 0 HV.out).mono ?_
    rintro e6 w6 ⟨rfl, hb6⟩
    clear y0
    go_wp2_with fail
    refine (KA.out _ hb6).mono ?_
    rintro e7 w7 ⟨rfl, hb7⟩
    go_wp2_with fail
    go_ret
    exact ⟨rfl, HO.out _ hb7⟩
  · have q0 : (n == 0) = true := by rw [u0]; rfl
    clear u0
    have p1 : (d != 0) = true := by simp [u1]
    clear u1
    replace HV := Lib.hid HV
    go_wp2_with fail
    rw [← HR4.out]
    refine (KD.out 9 HV.out).mono ?_
    rintro e6 w6 ⟨rfl, hb6⟩
    clear y0
    go_wp2_with fail
    refine (KA.out _ hb6).mono ?_
    rintro e7 w7 ⟨rfl, hb7⟩
    go_wp2_with fail
    go_ret
    exact ⟨rfl, HO.out _ hb7⟩
  · have q0 : (n == 0) = false := eq_no u0
    clear u0
    have q1 : (d == 0) = true := by rw [u1]; rfl
    have p1 : (d != 0) = false := by rw [u1]; rfl
    clear u1
    replace HV := Lib.hid HV
    go_wp2_with fail
    rw [← HR4.out]
    refine (KD.out 10 HV.out).mono ?_
    rintro e6 w6 ⟨rfl, hb6⟩
    clear y0
    go_wp2_with fail
    refine (KA.out _ hb6).mono ?_
    rintro e7 w7 ⟨rfl, hb7⟩
    go_wp2_with fail
    go_ret
    exact ⟨rfl, HO.out _ hb7⟩
  · have q0 : (n == 0) = false := eq_no u0
    clear u0
    have p1 : (d != 0) = true := by simp [u1]
    clear u1
    replace HV := Lib.hid HV
    go_wp2_with fail
    rw [← HR4.out]
    refine (KD.out 9 HV.out).mono ?_
    rintro e6 w6 ⟨rfl, hb6⟩
    clear y0
    go_wp2_with fail
    refine (KA.out _ hb6).mono ?_
    rintro e7 w7 ⟨rfl, hb7⟩
    go_wp2_with fail
    go_ret
    exact ⟨rfl, HO.out _ hb7⟩
end Go.Proofs.YtbgilpmoijdcfaaGreat
