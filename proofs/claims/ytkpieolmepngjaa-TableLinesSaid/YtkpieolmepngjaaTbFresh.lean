/-
  governorlaw6.fresh BY A CONTRACT: a name longer than all that a unit holds.
-/
import Derived.Test.YtkpieolmepngjaaTbTab
import Derived.Laws.IdiomStrings
import Derived.Laws.Cover1
namespace Go.Proofs.Ytkpieolmepngjaa
open Go Go.RowKit
set_option linter.unusedVariables false
set_option linter.unusedSimpArgs false

theorem Try.infoByte : (Try.prog.info? 5).map (fun i => (i.zero, i.size, i.bytes)) = some (some (.int .u8 0), 1, 1) := by kernel_rfl
theorem max3 {P : Program} (ts : Array TypeId) (t : TypeId) (n a b : Nat) (W : World) : (Builtin.max_ ts t #[.int .i64 (n : Int), .int .i64 (a : Int), .int .i64 (b : Int)]).run P W = .ok (.int .i64 ((max (max n a) b : Nat) : Int)) W := by
  rw [run_max_int3]
  congr 2
  split <;> split <;> omega
theorem max2 {P : Program} (ts : Array TypeId) (t : TypeId) (n a : Nat) (W : World) : (Builtin.max_ ts t #[.int .i64 (n : Int), .int .i64 (a : Int)]).run P W = .ok (.int .i64 ((max n a : Nat) : Int)) W := by
  rw [run_max_int2]
  congr 2
  split <;> omega
/-- no name of the declaration is longer than n. -/
def Under (d : DT) (n : Nat) : Prop := d.name.size ≤ n ∧ d.base.size ≤ n ∧ ∀ f ∈ d.faces, f.size ≤ n
def zeros (n : Nat) : ByteArray := ⟨(List.replicate n (0 : UInt8)).toArray⟩
set_option maxHeartbeats 4000000 in
set_option maxRecDepth 100000 in
theorem fresh_any (L : List DT) (A : Option Addr) (c : Nat) (w : World) (ha : DsR w w.heap.size A L) (hfit : Fit L) (hsm : ∀ d ∈ L, Under d 100000000) :
    Calls Try.prog 33 #[.agg #[.slice A L.length c]] w fun e w' => ∃ n : Nat, e = .returned (.string (zeros (n + 1))) ∧ n ≤ 100000000 ∧ (∀ d ∈ L, Under d n) ∧ Below w.heap.size w w' := by
  obtain ⟨R0, hR0⟩ : ∃ R0 : World, R0 = w.alloc (.cells #[.slice A L.length c] 24) := ⟨_, rfl⟩
  have hu : UAt w R0 A c L := hR0 ▸ UAt.of ha
  have HU := Lib.hid hu
  have HFIT := Lib.hid hfit
  have HSM := Lib.hid hsm
  have HR0 := Lib.hid hR0
  have HB0 : Hid (Below R0.heap.size R0 R0) := Below.refl _ _
  have hcnt := hfit.cnt
  clear ha hu hfit hR0 hsm
  go_enter Try.func33, Try.ntmps33
  go_wp2_with fail
  rw [← HR0.out]
  go_loopw [3, 4] (fun n i wr => ∃ N k : Nat, k ≤ L.length ∧ N ≤ 100000000 ∧ n = .int .i64 N ∧ i = .int .i64 k ∧ Hid (∀ (j : Nat) (hj : j < L.length), j < k → Under L[j] N) ∧ Hid (Below R0.heap.size R0 wr)) (fun _ i _ => L.length - (intOf i).toNat)
  case atStart => exact ⟨0, 0, Nat.zero_le _, by omega, rfl, rfl, fun j hj h => by omega, HB0⟩
  case round =>
    obtain ⟨N, k, hk, hN, rfl, rfl, hlow, hb⟩ := hrel
    have z0 : (0 : Int) ≤ (k : Int) := by omega
    have y0 := HU.out.cell _ hb.out
    by_cases hlt : k < L.length
    · have z1 : (k : Int) < (L.length : Int) := by omega
      obtain ⟨q, o, E1, e1, E2, e2, E3, e3, E4, e4, rfl, hq, hY⟩ := HU.out.decl hlt
      obtain ⟨⟨hF, -⟩, -, x1, x2, x3, -⟩ := hY _ hb.out
      have hn1 := (HSM.out _ (List.getElem_mem hlt)).1
      have hn2 := (HSM.out _ (List.getElem_mem hlt)).2.1
      have hn3 := HFIT.out.faces _ (List.getElem_mem hlt)
      have hn4 := (HSM.out _ (List.getElem_mem hlt)).2.2
      obtain ⟨D, hD⟩ : ∃ D, D = L[k] := ⟨_, rfl⟩
      rw [← hD] at x1 x2 x3 hn1 hn2 hn3 hn4 hF
      have HD := Lib.hid hD
      have HY : Hid (∀ W, Hid (Below R0.heap.size R0 W) → XsR W w.heap.size E1 D.faces ∧ W.cell? ⟨q, o + k * 11 + 3, none⟩ = some (.slice E1 D.faces.length e1)) := fun W h => by
        obtain ⟨⟨h1, -⟩, -, -, -, h2, -⟩ := hY W h.out
        rw [← hD] at h1 h2
        exact ⟨h1, h2⟩
      have HN4 := Lib.hid hn4
      have hmx := fun W => max3 (P := Try.prog) #[3, 3, 3] 3 N D.name.size D.base.size W
      obtain ⟨M, hM⟩ : ∃ M, M = max (max N D.name.size) D.base.size := ⟨_, rfl⟩
      rw [← hM] at hmx
      have hM1 : M ≤ 100000000 := by omega
      have HM : Hid (N ≤ M ∧ D.name.size ≤ M ∧ D.base.size ≤ M) := by
        show _ ∧ _ ∧ _
        omega
      clear hD hn4 hY hM
      go_wp2_with fail
      go_region
      go_wp2_with fail
      go_loopw [3, 5] (fun n i ws => ∃ N2 j : Nat, j ≤ D.faces.length ∧ N2 ≤ 100000000 ∧ n = .int .i64 N2 ∧ i = .int .i64 j ∧ Hid (M ≤ N2) ∧ Hid (∀ (t : Nat) (ht : t < D.faces.length), t < j → D.faces[t].size ≤ N2) ∧ Hid (Below R0.heap.size R0 ws)) (fun _ i _ => D.faces.length - (intOf i).toNat)
      case atStart => exact ⟨M, 0, Nat.zero_le _, hM1, rfl, rfl, Nat.le_refl _, fun t ht h => by omega, hb.out.drew⟩
      case round =>
        obtain ⟨N2, j, hj, hN2, rfl, rfl, hmn, hfl, hb2⟩ := hrel
        have v0 : (0 : Int) ≤ (j : Int) := by omega
        have y2 := HU.out.cell _ hb2.out
        obtain ⟨hX, x4⟩ := HY.out _ hb2
        by_cases hjl : j < D.faces.length
        · have v1 : (j : Int) < (D.faces.length : Int) := by omega
          obtain ⟨g, o2, cs, rfl, -, -, hc, he⟩ := hX j hjl
          have hsz := HN4.out _ (List.getElem_mem hjl)
          have HFN : Hid (∀ (t : Nat) (ht : t < D.faces.length), t < j + 1 → D.faces[t].size ≤ max N2 D.faces[j].size) := fun t ht h => by
            by_cases h2 : t = j
            · subst h2; omega
            · have := hfl.out t ht (by omega); omega
          obtain ⟨s, hs⟩ : ∃ s, s = D.faces[j] := ⟨_, rfl⟩
          rw [← hs] at he hsz HFN
          subst he
          have xf := hc 0 _ rfl
          simp only [Nat.mul_one, Nat.add_zero] at xf
          have hmx2 := fun W => max2 (P := Try.prog) #[3, 3] 3 N2 s.size W
          obtain ⟨M2, hM2⟩ : ∃ M2, M2 = max N2 s.size := ⟨_, rfl⟩
          rw [← hM2] at hmx2 HFN
          have hM3 : M2 ≤ 100000000 := by omega
          have hM4 : Hid (M ≤ M2) := by
            have := hmn.out
            show M ≤ M2
            omega
          clear hc hs hM2 hsz hmx
          go_wp2_with fail
          go_roundw
          case rel => exact ⟨M2, j + 1, by omega, hM3, by go_num, by go_num, hM4, HFN, hb2⟩
          case measure => simp [intOf]; omega
        · have v1 : ¬ (j : Int) < (D.faces.length : Int) := by omega
          have hnew : Hid (∀ (j : Nat) (hj : j < L.length), j < k + 1 → Under L[j] N2) := fun i hi h => by
            by_cases h2 : i = k
            · subst h2
              rw [← HD.out]
              have h3 := HM.out
              have h4 := hmn.out
              refine ⟨by omega, by omega, fun f hf => ?_⟩
              obtain ⟨t, ht, rfl⟩ := List.getElem_of_mem hf
              exact hfl.out t ht (by omega)
            · have h5 := hlow.out i hi (by omega)
              have h3 := HM.out
              have h4 := hmn.out
              exact ⟨by have := h5.1; omega, by have := h5.2.1; omega, fun f hf => by have := h5.2.2 f hf; omega⟩
          clear hmx hX
          go_wp2_with fail
          go_roundw
          case rel => exact ⟨N2, k + 1, by omega, hN2, by go_num, by go_num, hnew, hb2⟩
          case measure => simp [intOf]; omega
    · have z1 : ¬ (k : Int) < (L.length : Int) := by omega
      obtain ⟨i0, hi0, hz0, hz1, hz2⟩ := info_parts Try.infoByte
      obtain ⟨ms, hms⟩ : ∃ ms, ms = madeCells (Value.int .u8 0).cells ((N + 1) * 1) := ⟨_, rfl⟩
      have hmk : ∀ W : World, (Instr.makeSlice 93 (.int .i64 ((N : Int) + 1)) (.int .i64 ((N : Int) + 1))).run Try.prog W = .ok (.slice (some ⟨W.heap.size, 0, none⟩) (N + 1) (N + 1)) (W.alloc (.cells ms 5)) := fun W => by
        have := run_make (P := Try.prog) W 93 5 i0 (.int .u8 0) Try.underlying93 hi0 hz0 .i64 .i64 ((N + 1 : Nat) : Int) ((N + 1 : Nat) : Int) (by omega) (Int.le_refl _) (by rw [hz2]; omega) (by omega)
        rw [hz1] at this
        rw [hms]
        simpa using this
      have hcv : (convert 93 9 (.slice (some ⟨wr.heap.size, 0, none⟩) (N + 1) (N + 1))).run Try.prog (wr.alloc (.cells ms 5)) = .ok (.string (zeros (N + 1))) (wr.alloc (.cells ms 5)) := by
        have := run_convert_bytes_back (P := Try.prog) (wr.alloc (.cells ms 5)) 93 9 5 ⟨wr.heap.size, 0, none⟩ (N + 1) (List.replicate (N + 1) (0 : UInt8)) Try.underlying93 Try.underlying5 Try.underlying9 (fun j hj => by
          have hj2 : j < N + 1 := by simpa using hj
          have hs : (wr.alloc (.cells ms 5)).heap[wr.heap.size]? = some (.cells ms 5 (0, 0)) := heap_alloc_new wr _
          have ea : (⟨wr.heap.size, 0, none⟩ : Addr).add j = ⟨wr.heap.size, j, none⟩ := by simp [Addr.add]; omega
          rw [ea, cell_of_row _ _ j _ _ _ hs, hms, Array.getElem?_eq_getElem (by rw [size_madeCells]; omega)]
          simp [madeCells, Value.cells, Nat.mod_one])
        simpa [zeros] using this
      have HN : Hid (N ≤ 100000000) := hN
      have HLOW : Hid (∀ d ∈ L, Under d N) := fun d hd => by
        obtain ⟨j, hj, rfl⟩ := List.getElem_of_mem hd
        exact hlow.out j hj (by omega)
      clear hms hz0 hz1 hz2 hi0 hlow
      go_wp2_with fail
      go_ret
      exact ⟨N, rfl, HN.out, HLOW.out, HU.out.out (hb.out.alloc hb.out.size _)⟩
end Go.Proofs.Ytkpieolmepngjaa
