/-
  table.Alike BY A CONTRACT.
-/
import Derived.Test.YtkpieolmepngjaaTbTab
namespace Go.Proofs.Ytkpieolmepngjaa
open Go Go.RowKit
set_option linter.unusedVariables false
set_option linter.unusedSimpArgs false

/-- a variable as a value. -/
abbrev vv (v : VT) : Value := .agg #[.string v.name, .int .i64 v.type.kind, .int .i64 v.type.lo, .int .i64 v.type.hi, .string v.type.name, .int .i64 v.init, .int .i64 v.dir, .int .i64 v.slot]
set_option maxHeartbeats 4000000 in
set_option maxRecDepth 100000 in
theorem sameType_any (a b : VT) (w : World) : Calls Try.prog 57 #[vv a, vv b] w fun e w' => e = .returned (.bool (decide (a.type.tup = b.type.tup))) ∧ Below w.heap.size w w' := by
  obtain ⟨R0, hR0⟩ : ∃ R0 : World, R0 = (w.alloc (.cells a.cells.toArray 54)).alloc (.cells b.cells.toArray 54) := ⟨_, rfl⟩
  have hbw : Below w.heap.size w R0 := by rw [hR0]; exact ((Below.refl _ _).alloc (Nat.le_refl _) _).alloc (by simp) _
  have g1 : R0.heap[w.heap.size]? = some (.cells a.cells.toArray 54 (0, 0)) := by
    rw [hR0, Below.heap_alloc _ _ _ (by simp)]; exact heap_alloc_new w _
  have g2 : R0.heap[w.heap.size + 1]? = some (.cells b.cells.toArray 54 (0, 0)) := by
    have := heap_alloc_new (w.alloc (.cells a.cells.toArray 54)) (.cells b.cells.toArray 54)
    rw [hR0]; simpa using this
  have ca : ∀ j v, a.cells[j]? = some v → R0.cell? ⟨w.heap.size, j, none⟩ = some v := fun j v hj => by rw [cell_of_row _ _ j _ _ _ g1]; simpa using hj
  have cb : ∀ j v, b.cells[j]? = some v → R0.cell? ⟨w.heap.size + 1, j, none⟩ = some v := fun j v hj => by rw [cell_of_row _ _ j _ _ _ g2]; simpa using hj
  have HR0 := Lib.hid hR0
  have HBW := Lib.hid hbw
  have HT := tup_cases a.type b.type
  obtain ⟨r, hr0⟩ : ∃ r, r = decide (a.type.tup = b.type.tup) := ⟨_, rfl⟩
  rw [← hr0]
  have HR := Lib.hid hr0
  obtain ⟨an, ⟨k1, l1, h1, n1⟩, ai, ad, az⟩ := a
  obtain ⟨bn, ⟨k2, l2, h2, n2⟩, bi, bd, bz⟩ := b
  simp only at HT
  have x1 := ca 1 (.int .i64 k1) rfl
  have x2 := ca 2 (.int .i64 l1) rfl
  have x3 := ca 3 (.int .i64 h1) rfl
  have x4 := ca 4 (.string n1) rfl
  have y1 := cb 1 (.int .i64 k2) rfl
  have y2 := cb 2 (.int .i64 l2) rfl
  have y3 := cb 3 (.int .i64 h2) rfl
  have y4 := cb 4 (.string n2) rfl
  rw [HR0.out] at x1 x2 x3 x4 y1 y2 y3 y4
  unfold vv
  unfold VT.cells at x1 x2 x3 x4 y1 y2 y3 y4
  clear g1 g2 ca cb hbw hR0 hr0
  rcases HT with ⟨q, t⟩ | ⟨q, q1, t⟩ | ⟨q, q1, q2, t⟩ | ⟨q, q1, q2, q3, t⟩ | ⟨q, q1, q2, q3, t⟩
  · have p1 := eq_no q
    have HF := Lib.hid (HR.out.trans (decide_eq_false t))
    clear t q
    go_enter Try.func57, Try.ntmps57
    go_wp2_with fail
    go_ret
    exact ⟨by rw [HF.out]; rfl, HR0.out ▸ HBW.out⟩
  · have p1 := eq_no q1
    have HF := Lib.hid (HR.out.trans (decide_eq_false t))
    subst q
    clear t q1
    go_enter Try.func57, Try.ntmps57
    go_wp2_with fail
    go_ret
    exact ⟨by rw [HF.out]; rfl, HR0.out ▸ HBW.out⟩
  · have p1 := eq_no q2
    have HF := Lib.hid (HR.out.trans (decide_eq_false t))
    subst q q1
    clear t q2
    go_enter Try.func57, Try.ntmps57
    go_wp2_with fail
    go_ret
    exact ⟨by rw [HF.out]; rfl, HR0.out ▸ HBW.out⟩
  · have p1 := str_ne q3
    have HF := Lib.hid (HR.out.trans (decide_eq_false t))
    subst q q1 q2
    clear t q3
    go_enter Try.func57, Try.ntmps57
    go_wp2_with fail
    go_ret
    exact ⟨by rw [HF.out]; rfl, HR0.out ▸ HBW.out⟩
  · have HF := Lib.hid (HR.out.trans (decide_eq_true t))
    subst q q1 q2 q3
    clear t
    go_enter Try.func57, Try.ntmps57
    go_wp2_with fail
    go_ret
    exact ⟨by rw [HF.out]; rfl, HR0.out ▸ HBW.out⟩

set_option maxHeartbeats 4000000 in
set_option maxRecDepth 100000 in
theorem equalFunc_any (PA PB : List VT) (A1 B1 : Option Addr) (c1 d1 : Nat) (w : World) (ha : VsR w w.heap.size A1 PA) (hb : VsR w w.heap.size B1 PB) (hcnt : PA.length ≤ 1000000000) :
    Calls Try.prog 58 #[.slice A1 PA.length c1, .slice B1 PB.length d1, .func (.func 57) #[] #[]] w fun e w' => e = .returned (.bool (decide (PA.map (fun v => v.type.tup) = PB.map (fun v => v.type.tup)))) ∧ Below w.heap.size w w' := by
  obtain ⟨r, hr0⟩ : ∃ r, r = decide (PA.map (fun v => v.type.tup) = PB.map (fun v => v.type.tup)) := ⟨_, rfl⟩
  rw [← hr0]
  have HR := Lib.hid hr0
  have HA := Lib.hid ha
  have HB := Lib.hid hb
  have HBW : Hid (Below w.heap.size w w) := Below.refl _ _
  have KS : Hid (∀ W a b, Calls Try.prog 57 #[vv a, vv b] W fun e w' => e = .returned (.bool (decide (a.type.tup = b.type.tup))) ∧ Hid (Below W.heap.size W w')) := fun W a b => sameType_any a b W
  clear hr0 ha hb
  by_cases hl : PA.length = PB.length
  · have hl1 : ((PA.length : Int) != (PB.length : Int)) = false := ne_no2 hl
    have HL := Lib.hid hl
    clear hl
    go_enter Try.func58, Try.ntmps58
    go_wp2_with fail
    go_loopw [17] (fun i wr => ∃ k : Nat, k ≤ PA.length ∧ i = .int .i64 k ∧ Hid (∀ j, j < k → ∀ (h1 : j < PA.length) (h2 : j < PB.length), PA[j].type.tup = PB[j].type.tup) ∧ Hid (Below w.heap.size w wr)) (fun i _ => PA.length - (intOf i).toNat)
    case atStart => exact ⟨0, Nat.zero_le _, rfl, fun j h => absurd h (Nat.not_lt_zero _), HBW⟩
    case round =>
      obtain ⟨k, hk, rfl, hall, hb⟩ := hrel
      have z0 : (0 : Int) ≤ (k : Int) := by omega
      have hl := HL.out
      by_cases hlt : k < PA.length
      · have hlt2 : k < PB.length := by omega
        have z1 : (k : Int) < (PA.length : Int) := by omega
        have z2 : (k : Int) < (PB.length : Int) := by omega
        obtain ⟨ga, oa, ca, rfl, hga, -, hca, hea⟩ := (VsR.mono (Nat.le_refl _) hb.out.block HA.out) k hlt
        obtain ⟨gb, ob, cb, rfl, hgb, -, hcb, heb⟩ := (VsR.mono (Nat.le_refl _) hb.out.block HB.out) k hlt2
        have hnx : PA[k].type.tup = PB[k].type.tup → ∀ j, j < k + 1 → ∀ (h1 : j < PA.length) (h2 : j < PB.length), PA[j].type.tup = PB[j].type.tup := fun e j hj h1 h2 => by
          rcases Nat.lt_or_ge j k with h3 | h3
          · exact hall.out j h3 h1 h2
          · obtain rfl : j = k := by omega
            exact e
        have hno : ¬ PA[k].type.tup = PB[k].type.tup → r = false := fun e => by
          rw [HR.out]
          refine decide_eq_false fun e2 => e ?_
          have e3 : (PA.map (fun v => v.type.tup))[k]? = (PB.map (fun v => v.type.tup))[k]? := by rw [e2]
          simpa [List.getElem?_map, List.getElem?_eq_getElem hlt, List.getElem?_eq_getElem hlt2] using e3
        obtain ⟨va, hva⟩ : ∃ v : VT, v = PA[k] := ⟨_, rfl⟩
        obtain ⟨vb, hvb⟩ : ∃ v : VT, v = PB[k] := ⟨_, rfl⟩
        rw [← hva] at hea hnx hno
        rw [← hvb] at heb hnx hno
        obtain ⟨rfl, -⟩ := hea
        obtain ⟨rfl, -⟩ := heb
        have a0 := hca 0 (.string va.name) rfl
        have a1 := hca 1 (.int .i64 va.type.kind) rfl
        have a2 := hca 2 (.int .i64 va.type.lo) rfl
        have a3 := hca 3 (.int .i64 va.type.hi) rfl
        have a4 := hca 4 (.string va.type.name) rfl
        have a5 := hca 5 (.int .i64 va.init) rfl
        have a6 := hca 6 (.int .i64 va.dir) rfl
        have a7 := hca 7 (.int .i64 va.slot) rfl
        have b0 := hcb 0 (.string vb.name) rfl
        have b1 := hcb 1 (.int .i64 vb.type.kind) rfl
        have b2 := hcb 2 (.int .i64 vb.type.lo) rfl
        have b3 := hcb 3 (.int .i64 vb.type.hi) rfl
        have b4 := hcb 4 (.string vb.type.name) rfl
        have b5 := hcb 5 (.int .i64 vb.init) rfl
        have b6 := hcb 6 (.int .i64 vb.dir) rfl
        have b7 := hcb 7 (.int .i64 vb.slot) rfl
        rw [Nat.add_zero] at a0 b0
        have HNX := Lib.hid hnx
        have HNO := Lib.hid hno
        clear hca hcb hva hvb hl hnx hno
        have hgb2 : gb < wr.heap.size := Nat.lt_of_lt_of_le hgb hb.out.size
        have hfar : ∀ j u, wr.cell? ⟨gb, j, none⟩ = some u → (wr.alloc (.cells #[.string va.name, .int .i64 va.type.kind, .int .i64 va.type.lo, .int .i64 va.type.hi, .string va.type.name, .int .i64 va.init, .int .i64 va.dir, .int .i64 va.slot] 54)).cell? ⟨gb, j, none⟩ = some u := fun j u h => (World.cell?_of_block (Below.heap_alloc _ _ _ hgb2)).trans h
        replace b0 := hfar _ _ b0
        replace b1 := hfar _ _ b1
        replace b2 := hfar _ _ b2
        replace b3 := hfar _ _ b3
        replace b4 := hfar _ _ b4
        replace b5 := hfar _ _ b5
        replace b6 := hfar _ _ b6
        replace b7 := hfar _ _ b7
        have hn1 : ∀ j u, (#[.string va.name, .int .i64 va.type.kind, .int .i64 va.type.lo, .int .i64 va.type.hi, .string va.type.name, .int .i64 va.init, .int .i64 va.dir, .int .i64 va.slot] : Array Value).toList[j]? = some u → ((wr.alloc (.cells #[.string va.name, .int .i64 va.type.kind, .int .i64 va.type.lo, .int .i64 va.type.hi, .string va.type.name, .int .i64 va.init, .int .i64 va.dir, .int .i64 va.slot] 54)).alloc (.cells #[.string vb.name, .int .i64 vb.type.kind, .int .i64 vb.type.lo, .int .i64 vb.type.hi, .string vb.type.name, .int .i64 vb.init, .int .i64 vb.dir, .int .i64 vb.slot] 54)).cell? ⟨wr.heap.size, j, none⟩ = some u := fun j u h => by
          rw [World.cell?_of_block (w := wr.alloc (.cells #[.string va.name, .int .i64 va.type.kind, .int .i64 va.type.lo, .int .i64 va.type.hi, .string va.type.name, .int .i64 va.init, .int .i64 va.dir, .int .i64 va.slot] 54)) (Below.heap_alloc _ _ _ (by simp)), cell_of_row _ _ j _ _ _ (heap_alloc_new wr _)]
          simpa using h
        have hn2 : ∀ j u, (#[.string vb.name, .int .i64 vb.type.kind, .int .i64 vb.type.lo, .int .i64 vb.type.hi, .string vb.type.name, .int .i64 vb.init, .int .i64 vb.dir, .int .i64 vb.slot] : Array Value).toList[j]? = some u → ((wr.alloc (.cells #[.string va.name, .int .i64 va.type.kind, .int .i64 va.type.lo, .int .i64 va.type.hi, .string va.type.name, .int .i64 va.init, .int .i64 va.dir, .int .i64 va.slot] 54)).alloc (.cells #[.string vb.name, .int .i64 vb.type.kind, .int .i64 vb.type.lo, .int .i64 vb.type.hi, .string vb.type.name, .int .i64 vb.init, .int .i64 vb.dir, .int .i64 vb.slot] 54)).cell? ⟨wr.heap.size + 1, j, none⟩ = some u := fun j u h => by
          have e := heap_alloc_new (wr.alloc (.cells #[.string va.name, .int .i64 va.type.kind, .int .i64 va.type.lo, .int .i64 va.type.hi, .string va.type.name, .int .i64 va.init, .int .i64 va.dir, .int .i64 va.slot] 54)) (.cells #[.string vb.name, .int .i64 vb.type.kind, .int .i64 vb.type.lo, .int .i64 vb.type.hi, .string vb.type.name, .int .i64 vb.init, .int .i64 vb.dir, .int .i64 vb.slot] 54)
          rw [show (wr.alloc (.cells #[.string va.name, .int .i64 va.type.kind, .int .i64 va.type.lo, .int .i64 va.type.hi, .string va.type.name, .int .i64 va.init, .int .i64 va.dir, .int .i64 va.slot] 54)).heap.size = wr.heap.size + 1 from by simp] at e
          rw [cell_of_row _ _ j _ _ _ e]
          simpa using h
        have m0 := hn1 0 (.string va.name) rfl
        have n0 := hn2 0 (.string vb.name) rfl
        have m1 := hn1 1 (.int .i64 va.type.kind) rfl
        have n1 := hn2 1 (.int .i64 vb.type.kind) rfl
        have m2 := hn1 2 (.int .i64 va.type.lo) rfl
        have n2 := hn2 2 (.int .i64 vb.type.lo) rfl
        have m3 := hn1 3 (.int .i64 va.type.hi) rfl
        have n3 := hn2 3 (.int .i64 vb.type.hi) rfl
        have m4 := hn1 4 (.string va.type.name) rfl
        have n4 := hn2 4 (.string vb.type.name) rfl
        have m5 := hn1 5 (.int .i64 va.init) rfl
        have n5 := hn2 5 (.int .i64 vb.init) rfl
        have m6 := hn1 6 (.int .i64 va.dir) rfl
        have n6 := hn2 6 (.int .i64 vb.dir) rfl
        have m7 := hn1 7 (.int .i64 va.slot) rfl
        have n7 := hn2 7 (.int .i64 vb.slot) rfl
        have HB2 : Hid (Below w.heap.size w ((wr.alloc (.cells #[.string va.name, .int .i64 va.type.kind, .int .i64 va.type.lo, .int .i64 va.type.hi, .string va.type.name, .int .i64 va.init, .int .i64 va.dir, .int .i64 va.slot] 54)).alloc (.cells #[.string vb.name, .int .i64 vb.type.kind, .int .i64 vb.type.lo, .int .i64 vb.type.hi, .string vb.type.name, .int .i64 vb.init, .int .i64 vb.dir, .int .i64 vb.slot] 54))) := (hb.out.alloc hb.out.size _).alloc (by have := hb.out.size; simp; omega) _
        have KS1 : Hid (∀ W, Calls Try.prog 57 #[vv va, vv vb] W fun e w' => e = .returned (.bool (decide (va.type.tup = vb.type.tup))) ∧ Hid (Below W.heap.size W w')) := fun W => KS.out W va vb
        obtain ⟨bb, hbb⟩ : ∃ b, b = decide (va.type.tup = vb.type.tup) := ⟨_, rfl⟩
        rw [← hbb] at KS1
        have HBB := Lib.hid hbb
        unfold vv at KS1
        clear hfar hn1 hn2 hgb2 hbb
        go_wp2_with fail
        refine (KS1.out _).mono ?_
        rintro e5 w5 ⟨rfl, hb5⟩
        have HB5 : Hid (Below w.heap.size w w5) := HB2.out.trans (hb5.out.mono HB2.out.size)
        clear hb5 HB2 a0 a1 a2 a3 a4 a5 a6 a7 b0 b1 b2 b3 b4 b5 b6 b7 m0 m1 m2 m3 m4 m5 m6 m7 n0 n1 n2 n3 n4 n5 n6 n7
        cases bb
        · have HF := Lib.hid (HNO.out (of_decide_eq_false HBB.out.symm))
          go_wp2_with fail
          go_ret
          exact ⟨by rw [HF.out]; rfl, HB5.out⟩
        · have HN2 := Lib.hid (HNX.out (of_decide_eq_true HBB.out.symm))
          go_wp2_with fail
          go_roundw
          case rel => exact ⟨k + 1, by omega, by go_num, HN2, HB5⟩
          case measure => simp [intOf]; omega
      · have z1 : ¬ (k : Int) < (PA.length : Int) := by omega
        have hy : r = true := by
          rw [HR.out]
          refine decide_eq_true (List.ext_getElem (by simpa using hl) fun i h1 h2 => ?_)
          simp only [List.getElem_map]
          exact hall.out i (by simp at h1; omega) (by simpa using h1) (by simpa using h2)
        have HF := Lib.hid hy
        clear hy
        go_wp2_with fail
        go_ret
        exact ⟨by rw [HF.out]; rfl, hb.out⟩
  · have hl1 : ((PA.length : Int) != (PB.length : Int)) = true := ne_yes2 hl
    have hy : r = false := by
      rw [HR.out]
      exact decide_eq_false fun e => hl (by simpa using congrArg List.length e)
    have HF := Lib.hid hy
    clear hl hy
    go_enter Try.func58, Try.ntmps58
    go_wp2_with fail
    go_ret
    exact ⟨by rw [HF.out]; rfl, HBW.out⟩
set_option maxHeartbeats 4000000 in
set_option maxRecDepth 100000 in
theorem Alike_any (a b : MT) (A1 A2 A3 B1 B2 B3 : Option Addr) (c1 c2 c3 d1 d2 d3 : Nat) (w : World) (ha : VsR w w.heap.size A1 a.params) (hb : VsR w w.heap.size B1 b.params) (hcnt : a.params.length ≤ 1000000000) :
    Calls Try.prog 31 #[.agg (mcells a A1 A2 A3 c1 c2 c3), .agg (mcells b B1 B2 B3 d1 d2 d3)] w fun e w' => e = .returned (.bool (alikeT a b)) ∧ Below w.heap.size w w' := by
  obtain ⟨R0, hR0⟩ : ∃ R0 : World, R0 = (w.alloc (.cells (mcells a A1 A2 A3 c1 c2 c3) 52)).alloc (.cells (mcells b B1 B2 B3 d1 d2 d3) 52) := ⟨_, rfl⟩
  have hbw : Below w.heap.size w R0 := by rw [hR0]; exact ((Below.refl _ _).alloc (Nat.le_refl _) _).alloc (by simp) _
  have g1 : R0.heap[w.heap.size]? = some (.cells (mcells a A1 A2 A3 c1 c2 c3) 52 (0, 0)) := by
    rw [hR0, Below.heap_alloc _ _ _ (by simp)]; exact heap_alloc_new w _
  have g2 : R0.heap[w.heap.size + 1]? = some (.cells (mcells b B1 B2 B3 d1 d2 d3) 52 (0, 0)) := by
    have := heap_alloc_new (w.alloc (.cells (mcells a A1 A2 A3 c1 c2 c3) 52)) (.cells (mcells b B1 B2 B3 d1 d2 d3) 52)
    rw [hR0]; simpa using this
  have ca : ∀ j v, (mcells a A1 A2 A3 c1 c2 c3).toList[j]? = some v → R0.cell? ⟨w.heap.size, j, none⟩ = some v := fun j v hj => by rw [cell_of_row _ _ j _ _ _ g1]; simpa using hj
  have cb : ∀ j v, (mcells b B1 B2 B3 d1 d2 d3).toList[j]? = some v → R0.cell? ⟨w.heap.size + 1, j, none⟩ = some v := fun j v hj => by rw [cell_of_row _ _ j _ _ _ g2]; simpa using hj
  have KE : Hid (Calls Try.prog 58 #[.slice A1 a.params.length c1, .slice B1 b.params.length d1, .func (.func 57) #[] #[]] R0 fun e w' => e = .returned (.bool (decide (a.params.map (fun v => v.type.tup) = b.params.map (fun v => v.type.tup)))) ∧ Hid (Below w.heap.size w w')) := (equalFunc_any a.params b.params A1 B1 c1 d1 R0 (VsR.mono hbw.size hbw.block ha) (VsR.mono hbw.size hbw.block hb) hcnt).mono fun e w' hh => ⟨hh.1, hbw.trans (hh.2.mono hbw.size)⟩
  have HR0 := Lib.hid hR0
  have HBW := Lib.hid hbw
  have HT := tup_cases a.result b.result
  obtain ⟨pr, hpr⟩ : ∃ x, x = decide (a.params.map (fun v => v.type.tup) = b.params.map (fun v => v.type.tup)) := ⟨_, rfl⟩
  obtain ⟨r, hr0⟩ : ∃ r, r = alikeT a b := ⟨_, rfl⟩
  have hr1 : r = (decide (a.result.tup = b.result.tup) && pr) := by rw [hr0, alikeT, hpr]
  rw [← hr0]
  rw [← hpr] at KE
  clear hr0 hpr
  obtain ⟨an, ao, aa, af, PA, ⟨k1, l1, h1, n1⟩, av, ab⟩ := a
  obtain ⟨bn, bo, ba, bf, PB, ⟨k2, l2, h2, n2⟩, bv, bb⟩ := b
  simp only at HT hr1 KE
  have HR := Lib.hid hr1
  have x4 := ca 4 (.slice A1 PA.length c1) rfl
  have x5 := ca 5 (.int .i64 k1) rfl
  have x6 := ca 6 (.int .i64 l1) rfl
  have x7 := ca 7 (.int .i64 h1) rfl
  have x8 := ca 8 (.string n1) rfl
  have y4 := cb 4 (.slice B1 PB.length d1) rfl
  have y5 := cb 5 (.int .i64 k2) rfl
  have y6 := cb 6 (.int .i64 l2) rfl
  have y7 := cb 7 (.int .i64 h2) rfl
  have y8 := cb 8 (.string n2) rfl
  clear g1 g2 ca cb hbw hR0 ha hb hr1
  rw [HR0.out] at x4 y4 x5 x6 x7 x8 y5 y6 y7 y8
  rcases HT with ⟨q, t⟩ | ⟨q, q1, t⟩ | ⟨q, q1, q2, t⟩ | ⟨q, q1, q2, q3, t⟩ | ⟨q, q1, q2, q3, t⟩
  · have hf := HR.out
    rw [decide_eq_false t, Bool.false_and] at hf
    have HF := Lib.hid hf
    have p1 := eq_no q
    clear q
    clear t hf
    go_enter Try.func31, Try.ntmps31
    go_wp2_with fail
    go_ret
    exact ⟨by rw [HF.out]; rfl, HR0.out ▸ HBW.out⟩
  · have hf := HR.out
    rw [decide_eq_false t, Bool.false_and] at hf
    have HF := Lib.hid hf
    have p1 := eq_no q1
    have q : k1 = k2 := q
    subst q
    clear t hf
    go_enter Try.func31, Try.ntmps31
    go_wp2_with fail
    go_ret
    exact ⟨by rw [HF.out]; rfl, HR0.out ▸ HBW.out⟩
  · have hf := HR.out
    rw [decide_eq_false t, Bool.false_and] at hf
    have HF := Lib.hid hf
    have p1 := eq_no q2
    have q : k1 = k2 := q
    have q1 : l1 = l2 := q1
    subst q q1
    clear t hf
    go_enter Try.func31, Try.ntmps31
    go_wp2_with fail
    go_ret
    exact ⟨by rw [HF.out]; rfl, HR0.out ▸ HBW.out⟩
  · have hf := HR.out
    rw [decide_eq_false t, Bool.false_and] at hf
    have HF := Lib.hid hf
    have p1 := str_ne q3
    have q : k1 = k2 := q
    have q1 : l1 = l2 := q1
    have q2 : h1 = h2 := q2
    subst q q1 q2
    clear t hf
    go_enter Try.func31, Try.ntmps31
    go_wp2_with fail
    go_ret
    exact ⟨by rw [HF.out]; rfl, HR0.out ▸ HBW.out⟩
  · have hf := HR.out
    rw [decide_eq_true t, Bool.true_and] at hf
    have HF := Lib.hid hf
    have q : k1 = k2 := q
    have q1 : l1 = l2 := q1
    have q2 : h1 = h2 := q2
    have q3 : n1 = n2 := q3
    subst q q1 q2 q3
    clear t hf
    go_enter Try.func31, Try.ntmps31
    go_wp2_with fail
    rw [← HR0.out]
    refine KE.out.mono ?_
    rintro e1 w1 ⟨rfl, hb1⟩
    clear x4 y4 x5 x6 x7 x8 y5 y6 y7 y8
    go_wp2_with fail
    go_ret
    exact ⟨by rw [HF.out]; rfl, hb1.out⟩
end Go.Proofs.Ytkpieolmepngjaa
