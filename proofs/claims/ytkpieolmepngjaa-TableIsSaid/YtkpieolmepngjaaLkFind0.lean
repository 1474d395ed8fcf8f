/-
  lookup: Find, slices.Contains BY CONTRACTS.
-/
import Derived.Test.YtkpieolmepngjaaLkWalk
namespace Go.Proofs.Ytkpieolmepngjaa
open Go Go.RowKit
set_option linter.unusedVariables false
set_option linter.unusedSimpArgs false

set_option maxHeartbeats 1000000 in
theorem lkFind0_any (L : List DT) (A : Option Addr) (c : Nat) (s : ByteArray) (w : World) (ha : DsR w w.heap.size A L) (hcnt : L.length ≤ 1000000000) :
    Calls Try.prog 54 #[.agg #[.slice A L.length c], .string s] w fun e w' => e = .returned (.int .i64 (findT L s)) ∧ Below w.heap.size w w' := by
  obtain ⟨R0, hR0⟩ : ∃ R0 : World, R0 = w.alloc (.cells #[.slice A L.length c] 24) := ⟨_, rfl⟩
  have hb0 : Below w.heap.size w R0 := by rw [hR0]; exact (Below.refl _ _).alloc (Nat.le_refl _) _
  have hg : R0.heap[w.heap.size]? = some (.cells #[.slice A L.length c] 24 (0, 0)) := by rw [hR0]; exact heap_alloc_new w _
  have y0 : R0.cell? ⟨w.heap.size, 0, none⟩ = some (.slice A L.length c) := by rw [cell_of_row _ _ 0 _ _ _ hg]; rfl
  have HA := Lib.hid (DsR.mono (Nat.le_refl _) hb0.block ha)
  have HB := Lib.hid hb0
  have HR0 := Lib.hid hR0
  clear ha hb0 hg hR0
  go_enter Try.func54, Try.ntmps54
  go_wp2_with fail
  rw [← HR0.out]
  go_loopw [9] (fun i wr => ∃ k : Nat, k ≤ L.length ∧ i = .int .i64 k ∧ wr = R0 ∧ Hid (∀ j (hj : j < L.length), j < k → L[j].name ≠ s)) (fun i _ => L.length - (intOf i).toNat)
  case atStart => exact ⟨0, Nat.zero_le _, rfl, rfl, fun _ _ h => absurd h (Nat.not_lt_zero _)⟩
  case round =>
    obtain ⟨k, hk, rfl, rfl, hn⟩ := hrel
    have h2 : (0 : Int) ≤ (k : Int) := by omega
    by_cases hlt : k < L.length
    · have h1 : (k : Int) < (L.length : Int) := by omega
      obtain ⟨g, o, cs, rfl, hg, hlen, hc, he⟩ := HA.out k hlt
      obtain ⟨d, hN⟩ : ∃ d : DT, d = L[k] := ⟨_, rfl⟩
      rw [← hN] at he
      obtain ⟨A1, c1, A2, c2, A3, c3, A4, c4, rfl, _⟩ := he
      have y1 := hc 1 _ rfl
      by_cases hs : d.name = s
      · have hr := findT_at hlt hn.out (hN ▸ hs)
        have q : (d.name.toList == s.toList) = true := str_eq hs
        have HF := Lib.hid hr
        clear hc hlen hg hN hr hs
        go_wp2_with fail
        go_ret
        exact ⟨by rw [HF.out]; rfl, HB.out⟩
      · have hn2 : Hid (∀ j (hj : j < L.length), j < k + 1 → L[j].name ≠ s) := fun j hj h => by
          rcases Nat.lt_or_ge j k with h3 | h3
          · exact hn.out j hj h3
          · obtain rfl : j = k := by omega
            exact hN ▸ hs
        have q : (d.name.toList == s.toList) = false := str_ne hs
        clear hc hlen hg hN hs
        go_wp2_with fail
        go_roundw
        case rel => exact ⟨k + 1, by omega, by go_num, trivial, hn2⟩
        case measure => simp [intOf]; omega
    · have h1 : ¬ (k : Int) < (L.length : Int) := by omega
      have hr := findT_none (L := L) (s := s) (fun j hj => hn.out j hj (by omega))
      have HF := Lib.hid hr
      clear hr
      go_wp2_with fail
      go_ret
      exact ⟨by rw [HF.out]; rfl, HB.out⟩

set_option maxHeartbeats 1000000 in
theorem index_any (l : List Int) (A : Option Addr) (c : Nat) (n : Int) (w : World) (ha : NsR w w.heap.size A l) (hcnt : l.length ≤ 1000000000) :
    Calls Try.prog 90 #[.slice A l.length c, .int .i64 n] w fun e w' => (∃ r : Int, e = .returned (.int .i64 r) ∧ decide (0 ≤ r) = l.contains n) ∧ w' = w := by
  have HA := Lib.hid ha
  clear ha
  obtain ⟨b, hb0⟩ : ∃ b : Bool, b = l.contains n := ⟨_, rfl⟩
  rw [← hb0]
  have HR := Lib.hid hb0
  clear hb0
  go_enter Try.func90, Try.ntmps90
  go_wp2_with fail
  go_loopw [8] (fun i wr => ∃ k : Nat, k ≤ l.length ∧ i = .int .i64 k ∧ wr = w ∧ Hid (∀ j (hj : j < l.length), j < k → l[j] ≠ n)) (fun i _ => l.length - (intOf i).toNat)
  case atStart => exact ⟨0, Nat.zero_le _, rfl, rfl, fun _ _ h => absurd h (Nat.not_lt_zero _)⟩
  case round =>
    obtain ⟨k, hk, rfl, rfl, hn⟩ := hrel
    have h2 : (0 : Int) ≤ (k : Int) := by omega
    by_cases hlt : k < l.length
    · have h1 : (k : Int) < (l.length : Int) := by omega
      obtain ⟨g, o, cs, rfl, hg, hlen, hc, he⟩ := HA.out k hlt
      obtain ⟨m, hN⟩ : ∃ m : Int, m = l[k] := ⟨_, rfl⟩
      rw [← hN] at he
      obtain ⟨rfl, _⟩ := he
      have y1 := hc 0 _ rfl
      simp only [Nat.mul_one, Nat.add_zero] at y1
      by_cases hs : n = m
      · have hr : l.contains n = true := by
          rw [List.contains_iff_mem, hs, hN]
          exact List.getElem_mem _
        have HF := Lib.hid (HR.out.trans hr)
        clear hc hlen hg hr hN
        subst hs
        go_wp2_with fail
        go_ret
        exact ⟨⟨k, rfl, by rw [HF.out]; simp⟩, rfl⟩
      · have hn2 : Hid (∀ j (hj : j < l.length), j < k + 1 → l[j] ≠ n) := fun j hj h => by
          rcases Nat.lt_or_ge j k with h3 | h3
          · exact hn.out j hj h3
          · obtain rfl : j = k := by omega
            exact hN ▸ fun e => hs e.symm
        have q : (n == m) = false := by simp [hs]
        clear hc hlen hg hN
        go_wp2_with fail
        go_roundw
        case rel => exact ⟨k + 1, by omega, by go_num, trivial, hn2⟩
        case measure => simp [intOf]; omega
    · have h1 : ¬ (k : Int) < (l.length : Int) := by omega
      have hr : l.contains n = false := by
        cases hh : l.contains n
        · rfl
        · rw [List.contains_iff_mem] at hh
          obtain ⟨j, hj, e⟩ := List.getElem_of_mem hh
          exact absurd e (hn.out j hj (by omega))
      have HF := Lib.hid (HR.out.trans hr)
      clear hr
      go_wp2_with fail
      go_ret
      exact ⟨⟨-1, rfl, by rw [HF.out]; rfl⟩, rfl⟩
set_option maxHeartbeats 1000000 in
theorem contains_any (l : List Int) (A : Option Addr) (c : Nat) (n : Int) (w : World) (ha : NsR w w.heap.size A l) (hcnt : l.length ≤ 1000000000) :
    Calls Try.prog 72 #[.slice A l.length c, .int .i64 n] w fun e w' => e = .returned (.bool (l.contains n)) ∧ w' = w := by
  have K := Lib.hid (index_any l A c n w ha hcnt)
  obtain ⟨b, hb0⟩ : ∃ b : Bool, b = l.contains n := ⟨_, rfl⟩
  rw [← hb0] at K ⊢
  clear ha hcnt hb0
  go_enter Try.func72, Try.ntmps72
  go_wp2_with fail
  refine K.out.mono ?_
  rintro e1 w1 ⟨⟨r, rfl, hr⟩, rfl⟩
  go_wp2_with fail
  go_ret
  exact ⟨by rw [← hr]; rfl, rfl⟩
end Go.Proofs.Ytkpieolmepngjaa
