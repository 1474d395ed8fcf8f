/-
  governorref6: Find, Kind, has, own BY CONTRACTS.
-/
import Derived.Test.YtkpieolmepngjaaTbPure
namespace Go.Proofs.Ytkpieolmepngjaa
open Go Go.RowKit
set_option linter.unusedVariables false
set_option linter.unusedSimpArgs false

theorem str_eq {a b : ByteArray} (h : a = b) : (a.toList == b.toList) = true := by rw [h]; simp
theorem str_ne {a b : ByteArray} (h : a ≠ b) : (a.toList == b.toList) = false := by
  simp only [beq_eq_false_iff_ne, ne_eq]
  intro hh
  rw [ByteArray.toList_eq, ByteArray.toList_eq] at hh
  exact h (ByteArray.ext (Array.ext' hh))
set_option maxHeartbeats 1000000 in
theorem refFind_any (L : List DT) (A : Option Addr) (c : Nat) (s : ByteArray) (w : World) (ha : DsR w w.heap.size A L) (hcnt : L.length ≤ 1000000000) :
    Calls Try.prog 21 #[.agg #[.slice A L.length c], .string s] w fun e w' => e = .returned (.int .i64 (findT L s)) ∧ Below w.heap.size w w' := by
  obtain ⟨R0, hR0⟩ : ∃ R0 : World, R0 = w.alloc (.cells #[.slice A L.length c] 24) := ⟨_, rfl⟩
  have hb0 : Below w.heap.size w R0 := by rw [hR0]; exact (Below.refl _ _).alloc (Nat.le_refl _) _
  have hg : R0.heap[w.heap.size]? = some (.cells #[.slice A L.length c] 24 (0, 0)) := by rw [hR0]; exact heap_alloc_new w _
  have y0 : R0.cell? ⟨w.heap.size, 0, none⟩ = some (.slice A L.length c) := by rw [cell_of_row _ _ 0 _ _ _ hg]; rfl
  have HA := Lib.hid (DsR.mono (Nat.le_refl _) hb0.block ha)
  have HB := Lib.hid hb0
  have HR0 := Lib.hid hR0
  clear ha hb0 hg hR0
  go_enter Try.func21, Try.ntmps21
  go_wp2_with fail
  rw [← HR0.out]
  go_loopw [5] (fun i wr => ∃ k : Nat, k ≤ L.length ∧ i = .int .i64 k ∧ wr = R0 ∧ Hid (∀ j (hj : j < L.length), j < k → L[j].name ≠ s)) (fun i _ => L.length - (intOf i).toNat)
  case atStart => exact ⟨0, Nat.zero_le _, rfl, rfl, fun _ _ h => absurd h (Nat.not_lt_zero _)⟩
  case round =>
    obtain ⟨k, hk, rfl, rfl, hn⟩ := hrel
    have h2 : (0 : Int) ≤ (k : Int) := by omega
    by_cases hlt : k < L.length
    · have h1 : (k : Int) < (L.length : Int) := by omega
      obtain ⟨g, o, cs, rfl, hg, hlen, hc, he⟩ := HA.out k hlt
      obtain ⟨d, hN⟩ : ∃ d : DT, d = L[k] := ⟨_, rfl⟩
      rw [← hN] at he
      obtain ⟨A1, c1, A2, c2, A3, c3, A4, c4, rfl, _⟩ := he
      have y1 := hc 1 _ rfl
      by_cases hs : d.name = s
      · have hr := findT_at hlt hn.out (hN ▸ hs)
        have q : (d.name.toList == s.toList) = true := str_eq hs
        have HF := Lib.hid hr
        clear hc hlen hg hN hr hs
        go_wp2_with fail
        go_ret
        exact ⟨by rw [HF.out]; rfl, HB.out⟩
      · have hn2 : Hid (∀ j (hj : j < L.length), j < k + 1 → L[j].name ≠ s) := fun j hj h => by
          rcases Nat.lt_or_ge j k with h3 | h3
          · exact hn.out j hj h3
          · obtain rfl : j = k := by omega
            exact hN ▸ hs
        have q : (d.name.toList == s.toList) = false := str_ne hs
        clear hc hlen hg hN hs
        go_wp2_with fail
        go_roundw
        case rel => exact ⟨k + 1, by omega, by go_num, trivial, hn2⟩
        case measure => simp [intOf]; omega
    · have h1 : ¬ (k : Int) < (L.length : Int) := by omega
      have hr := findT_none (L := L) (s := s) (fun j hj => hn.out j hj (by omega))
      have HF := Lib.hid hr
      clear hr
      go_wp2_with fail
      go_ret
      exact ⟨by rw [HF.out]; rfl, HB.out⟩
set_option maxHeartbeats 1000000 in
theorem refKind_any (L : List DT) (A : Option Addr) (c : Nat) (d : Int) (w : World) (ha : DsR w w.heap.size A L) :
    Calls Try.prog 49 #[.agg #[.slice A L.length c], .int .i64 d] w fun e w' => e = .returned (.int .i64 (kindT L d)) ∧ Below w.heap.size w w' := by
  obtain ⟨R0, hR0⟩ : ∃ R0 : World, R0 = w.alloc (.cells #[.slice A L.length c] 24) := ⟨_, rfl⟩
  have hb0 : Below w.heap.size w R0 := by rw [hR0]; exact (Below.refl _ _).alloc (Nat.le_refl _) _
  have hg : R0.heap[w.heap.size]? = some (.cells #[.slice A L.length c] 24 (0, 0)) := by rw [hR0]; exact heap_alloc_new w _
  have y0 : R0.cell? ⟨w.heap.size, 0, none⟩ = some (.slice A L.length c) := by rw [cell_of_row _ _ 0 _ _ _ hg]; rfl
  have HA := DsR.mono (Nat.le_refl _) hb0.block ha
  have HB := Lib.hid hb0
  have HR0 := Lib.hid hR0
  clear ha hb0 hg hR0
  by_cases h1 : d < 0
  · have e : kindT L d = 0 := by unfold kindT; rw [if_neg (by omega)]
    rw [e]
    clear HA
    rw [HR0.out] at y0
    go_enter Try.func49, Try.ntmps49
    go_wp2_with fail
    go_ret
    exact ⟨rfl, HR0.out ▸ HB.out⟩
  obtain ⟨k, rfl⟩ : ∃ k : Nat, d = k := ⟨d.toNat, by omega⟩
  by_cases h2 : k < L.length
  · have e : kindT L k = L[k].kind := by
      unfold kindT
      rw [if_pos ⟨by omega, by omega⟩, Int.toNat_natCast, List.getElem?_eq_getElem h2]
      rfl
    have q1 : ¬ L.length ≤ k := by omega
    have q2 : (0 : Int) ≤ (k : Int) := by omega
    obtain ⟨g, o, cs, rfl, hg, hlen, hc, he⟩ := HA k h2
    obtain ⟨D, hN⟩ : ∃ D : DT, D = L[k] := ⟨_, rfl⟩
    rw [← hN] at he e
    obtain ⟨A1, c1, A2, c2, A3, c3, A4, c4, rfl, _⟩ := he
    have y1 := hc 0 _ rfl
    rw [Nat.add_zero] at y1
    rw [e]
    clear hc hlen hg hN e HA
    rw [HR0.out] at y0 y1
    go_enter Try.func49, Try.ntmps49
    go_wp2_with fail
    go_ret
    exact ⟨rfl, HR0.out ▸ HB.out⟩
  · have q1 : ¬ (k : Int) < (L.length : Int) := by omega
    have q2 : (0 : Int) ≤ (k : Int) := by omega
    have e : kindT L k = 0 := by unfold kindT; rw [if_neg (by omega)]
    rw [e]
    clear HA
    rw [HR0.out] at y0
    go_enter Try.func49, Try.ntmps49
    go_wp2_with fail
    go_ret
    exact ⟨rfl, HR0.out ▸ HB.out⟩
set_option maxHeartbeats 1000000 in
theorem refHas_any (l : List Int) (A : Option Addr) (c : Nat) (n : Int) (w : World) (ha : NsR w w.heap.size A l) (hcnt : l.length ≤ 1000000000) :
    Calls Try.prog 55 #[.slice A l.length c, .int .i64 n] w fun e w' => e = .returned (.bool (l.contains n)) ∧ w' = w := by
  have HA := Lib.hid ha
  clear ha
  obtain ⟨r, hr0⟩ : ∃ r : Bool, r = l.contains n := ⟨_, rfl⟩
  rw [← hr0]
  have HR := Lib.hid hr0
  clear hr0
  go_enter Try.func55, Try.ntmps55
  go_wp2_with fail
  go_loopw [5] (fun i wr => ∃ k : Nat, k ≤ l.length ∧ i = .int .i64 k ∧ wr = w ∧ Hid (∀ j (hj : j < l.length), j < k → l[j] ≠ n)) (fun i _ => l.length - (intOf i).toNat)
  case atStart => exact ⟨0, Nat.zero_le _, rfl, rfl, fun _ _ h => absurd h (Nat.not_lt_zero _)⟩
  case round =>
    obtain ⟨k, hk, rfl, rfl, hn⟩ := hrel
    have h2 : (0 : Int) ≤ (k : Int) := by omega
    by_cases hlt : k < l.length
    · have h1 : (k : Int) < (l.length : Int) := by omega
      obtain ⟨g, o, cs, rfl, hg, hlen, hc, he⟩ := HA.out k hlt
      obtain ⟨m, hN⟩ : ∃ m : Int, m = l[k] := ⟨_, rfl⟩
      rw [← hN] at he
      obtain ⟨rfl, _⟩ := he
      have y1 := hc 0 _ rfl
      simp only [Nat.mul_one, Nat.add_zero] at y1
      by_cases hs : m = n
      · have hr : l.contains n = true := by
          rw [List.contains_iff_mem, ← hs, hN]
          exact List.getElem_mem _
        have HF := Lib.hid (HR.out.trans hr)
        clear hc hlen hg hr hN
        subst hs
        go_wp2_with fail
        go_ret
        exact ⟨by rw [HF.out]; rfl, rfl⟩
      · have hn2 : Hid (∀ j (hj : j < l.length), j < k + 1 → l[j] ≠ n) := fun j hj h => by
          rcases Nat.lt_or_ge j k with h3 | h3
          · exact hn.out j hj h3
          · obtain rfl : j = k := by omega
            exact hN ▸ hs
        have q : (m == n) = false := by simp [hs]
        clear hc hlen hg hN
        go_wp2_with fail
        go_roundw
        case rel => exact ⟨k + 1, by omega, by go_num, trivial, hn2⟩
        case measure => simp [intOf]; omega
    · have h1 : ¬ (k : Int) < (l.length : Int) := by omega
      have hr : l.contains n = false := by
        cases hh : l.contains n
        · rfl
        · rw [List.contains_iff_mem] at hh
          obtain ⟨j, hj, e⟩ := List.getElem_of_mem hh
          exact absurd e (hn.out j hj (by omega))
      have HF := Lib.hid (HR.out.trans hr)
      clear hr
      go_wp2_with fail
      go_ret
      exact ⟨by rw [HF.out]; rfl, rfl⟩
end Go.Proofs.Ytkpieolmepngjaa
