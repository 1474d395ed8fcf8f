/-
  table: Find, Chain, Faces, Is, Method, Fields BY CONTRACTS.
-/
import Derived.Test.YtbgilpmoijdcfaaGreatK4
import Derived.Test.YtbgilpmoijdcfaaGreatK1
import Derived.Test.YtbgilpmoijdcfaaGreatK2
import Derived.Shelf.Abstract
import Derived.BigQuiet
import Derived.WalkSmall
import Derived.Maps.OwnSet
import Derived.MapKept
import Derived.RangeFuncRecord
namespace Go.Proofs.YtbgilpmoijdcfaaGreat
open Go Go.RowKit
set_option linter.unusedVariables false
set_option linter.unusedSimpArgs false

set_option maxHeartbeats 1000000 in
theorem Fields_any (L : List DT) (A : Option Addr) (c : Nat) (d0 : Int) (w : World) (ha : DsR w w.heap.size A L) (hfit : FitA L) (hd0 : I64 d0) :
    Calls Tryz.prog 83 #[.agg #[.slice A L.length c], .int .i64 d0] w (VSays w (fieldsT L d0)) := by
  obtain ⟨R0, hR0⟩ : ∃ R0 : World, R0 = w.alloc (.cells #[.slice A L.length c] 31) := ⟨_, rfl⟩
  have hu : UAt w R0 A c L := hR0 ▸ UAt.of ha
  have y0 := hu.cell _ (Below.refl _ _)
  have HU := Lib.hid hu
  have KO : Hid (Calls Tryz.prog 9 #[.agg #[.slice A L.length c]] R0 fun e w' => ∃ p, e = .returned (.pointer (some ⟨p, 0, none⟩)) ∧ Hid (XAt L A c p R0.heap.size w' ⟨none, none⟩) ∧ Hid (Below R0.heap.size R0 w')) := of_any L A c R0 (hu.rowAt (Below.refl _ _))
  have HX := Lib.hid (fun (p : Nat) (W : World) (hx : XAt L A c p R0.heap.size W ⟨none, none⟩) => lkFields_any L A c p R0.heap.size ⟨none, none⟩ d0 W hx hfit hd0)
  have HR0 := Lib.hid hR0
  rw [hR0] at y0
  clear ha hu hR0 hfit
  go_enter Tryz.func83, Tryz.ntmps83
  go_wp2_with fail
  rw [← HR0.out]
  refine KO.out.mono ?_
  rintro e1 w1 ⟨p, rfl, hx1, hb1⟩
  have hle : w.heap.size ≤ w1.heap.size := (HU.out.out hb1.out).size
  go_wp2_with fail
  refine (HX.out p w1 hx1.out).mono ?_
  rintro e2 w2 ⟨A2, c2, I2, rfl, hr2, -, -, ht2⟩
  go_wp2_with fail
  go_ret
  have hb2 : Below R0.heap.size R0 w2 := hb1.out.trans (ht2.out.toBelow hx1.out hb1.out.size)
  exact ⟨A2, c2, rfl, hr2.out.lower hle, HU.out.out hb2⟩
end Go.Proofs.YtbgilpmoijdcfaaGreat

/-
  table.Alike BY A CONTRACT.
-/
namespace Go.Proofs.YtbgilpmoijdcfaaGreat
open Go Go.RowKit
set_option linter.unusedVariables false
set_option linter.unusedSimpArgs false

/-- a variable as a value. -/
abbrev vv (v : VT) : Value := .agg #[.string v.name, .int .i64 v.type.kind, .int .i64 v.type.lo, .int .i64 v.type.hi, .string v.type.name, .int .i64 v.init, .int .i64 v.dir, .int .i64 v.slot]
set_option maxHeartbeats 4000000 in
set_option maxRecDepth 100000 in
theorem sameType_any (a b : VT) (w : World) : Calls Tryz.prog 87 #[vv a, vv b] w fun e w' => e = .returned (.bool (decide (a.type.tup = b.type.tup))) ∧ Below w.heap.size w w' := by
  obtain ⟨R0, hR0⟩ : ∃ R0 : World, R0 = (w.alloc (.cells a.cells.toArray 41)).alloc (.cells b.cells.toArray 41) := ⟨_, rfl⟩
  have hbw : Below w.heap.size w R0 := by rw [hR0]; exact ((Below.refl _ _).alloc (Nat.le_refl _) _).alloc (by simp) _
  have g1 : R0.heap[w.heap.size]? = some (.cells a.cells.toArray 41 (0, 0)) := by
    rw [hR0, Below.heap_alloc _ _ _ (by simp)]; exact heap_alloc_new w _
  have g2 : R0.heap[w.heap.size + 1]? = some (.cells b.cells.toArray 41 (0, 0)) := by
    have := heap_alloc_new (w.alloc (.cells a.cells.toArray 41)) (.cells b.cells.toArray 41)
    rw [hR0]; simpa using this
  have ca : ∀ j v, a.cells[j]? = some v → R0.cell? ⟨w.heap.size, j, none⟩ = some v := fun j v hj => by rw [cell_of_row _ _ j _ _ _ g1]; simpa using hj
  have cb : ∀ j v, b.cells[j]? = some v → R0.cell? ⟨w.heap.size + 1, j, none⟩ = some v := fun j v hj => by rw [cell_of_row _ _ j _ _ _ g2]; simpa using hj
  have HR0 := Lib.hid hR0
  have HBW := Lib.hid hbw
  have HT := tup_cases a.type b.type
  obtain ⟨r, hr0⟩ : ∃ r, r = decide (a.type.tup = b.type.tup) := ⟨_, rfl⟩
  rw [← hr0]
  have HR := Lib.hid hr0
  obtain ⟨an, ⟨k1, l1, h1, n1⟩, ai, ad, az⟩ := a
  obtain ⟨bn, ⟨k2, l2, h2, n2⟩, bi, bd, bz⟩ := b
  simp only at HT
  have x1 := ca 1 (.int .i64 k1) rfl
  have x2 := ca 2 (.int .i64 l1) rfl
  have x3 := ca 3 (.int .i64 h1) rfl
  have x4 := ca 4 (.string n1) rfl
  have y1 := cb 1 (.int .i64 k2) rfl
  have y2 := cb 2 (.int .i64 l2) rfl
  have y3 := cb 3 (.int .i64 h2) rfl
  have y4 := cb 4 (.string n2) rfl
  rw [HR0.out] at x1 x2 x3 x4 y1 y2 y3 y4
  unfold vv
  unfold VT.cells at x1 x2 x3 x4 y1 y2 y3 y4
  clear g1 g2 ca cb hbw hR0 hr0
  rcases HT with ⟨q, t⟩ | ⟨q, q1, t⟩ | ⟨q, q1, q2, t⟩ | ⟨q, q1, q2, q3, t⟩ | ⟨q, q1, q2, q3, t⟩
  · have p1 := eq_no q
    have HF := Lib.hid (HR.out.trans (decide_eq_false t))
    clear t q
    go_enter Tryz.func87, Tryz.ntmps87
    go_wp2_with fail
    go_ret
    exact ⟨by rw [HF.out]; rfl, HR0.out ▸ HBW.out⟩
  · have p1 := eq_no q1
    have HF := Lib.hid (HR.out.trans (decide_eq_false t))
    subst q
    clear t q1
    go_enter Tryz.func87, Tryz.ntmps87
    go_wp2_with fail
    go_ret
    exact ⟨by rw [HF.out]; rfl, HR0.out ▸ HBW.out⟩
  · have p1 := eq_no q2
    have HF := Lib.hid (HR.out.trans (decide_eq_false t))
    subst q q1
    clear t q2
    go_enter Tryz.func87, Tryz.ntmps87
    go_wp2_with fail
    go_ret
    exact ⟨by rw [HF.out]; rfl, HR0.out ▸ HBW.out⟩
  · have p1 := str_ne q3
    have HF := Lib.hid (HR.out.trans (decide_eq_false t))
    subst q q1 q2
    clear t q3
    go_enter Tryz.func87, Tryz.ntmps87
    go_wp2_with fail
    go_ret
    exact ⟨by rw [HF.out]; rfl, HR0.out ▸ HBW.out⟩
  · have HF := Lib.hid (HR.out.trans (decide_eq_true t))
    subst q q1 q2 q3
    clear t
    go_enter Tryz.func87, Tryz.ntmps87
    go_wp2_with fail
    go_ret
    exact ⟨by rw [HF.out]; rfl, HR0.out ▸ HBW.out⟩

set_option maxHeartbeats 4000000 in
set_option maxRecDepth 100000 in
theorem equalFunc_any (PA PB : List VT) (A1 B1 : Option Addr) (c1 d1 : Nat) (w : World) (ha : VsR w w.heap.size A1 PA) (hb : VsR w w.heap.size B1 PB) (hcnt : PA.length ≤ 1000000000) :
    Calls Tryz.prog 88 #[.slice A1 PA.length c1, .slice B1 PB.length d1, .func (.func 87) #[] #[]] w fun e w' => e = .returned (.bool (decide (PA.map (fun v => v.type.tup) = PB.map (fun v => v.type.tup)))) ∧ Below w.heap.size w w' := by
  obtain ⟨r, hr0⟩ : ∃ r, r = decide (PA.map (fun v => v.type.tup) = PB.map (fun v => v.type.tup)) := ⟨_, rfl⟩
  rw [← hr0]
  have HR := Lib.hid hr0
  have HA := Lib.hid ha
  have HB := Lib.hid hb
  have HBW : Hid (Below w.heap.size w w) := Below.refl _ _
  have KS : Hid (∀ W a b, Calls Tryz.prog 87 #[vv a, vv b] W fun e w' => e = .returned (.bool (decide (a.type.tup = b.type.tup))) ∧ Hid (Below W.heap.size W w')) := fun W a b => sameType_any a b W
  clear hr0 ha hb
  by_cases hl : PA.length = PB.length
  · have hl1 : ((PA.length : Int) != (PB.length : Int)) = false := ne_no2 hl
    have HL := Lib.hid hl
    clear hl
    go_enter Tryz.func88, Tryz.ntmps88
    go_wp2_with fail
    go_loopw [17] (fun i wr => ∃ k : Nat, k ≤ PA.length ∧ i = .int .i64 k ∧ Hid (∀ j, j < k → ∀ (h1 : j < PA.length) (h2 : j < PB.length), PA[j].type.tup = PB[j].type.tup) ∧ Hid (Below w.heap.size w wr)) (fun i _ => PA.length - (intOf i).toNat)
    case atStart => exact ⟨0, Nat.zero_le _, rfl, fun j h => absurd h (Nat.not_lt_zero _), HBW⟩
    case round =>
      obtain ⟨k, hk, rfl, hall, hb⟩ := hrel
      have z0 : (0 : Int) ≤ (k : Int) := by omega
      have hl := HL.out
      by_cases hlt : k < PA.length
      · have hlt2 : k < PB.length := by omega
        have z1 : (k : Int) < (PA.length : Int) := by omega
        have z2 : (k : Int) < (PB.length : Int) := by omega
        obtain ⟨ga, oa, ca, rfl, hga, -, hca, hea⟩ := (VsR.mono (Nat.le_refl _) hb.out.block HA.out) k hlt
        obtain ⟨gb, ob, cb, rfl, hgb, -, hcb, heb⟩ := (VsR.mono (Nat.le_refl _) hb.out.block HB.out) k hlt2
        have hnx : PA[k].type.tup = PB[k].type.tup → ∀ j, j < k + 1 → ∀ (h1 : j < PA.length) (h2 : j < PB.length), PA[j].type.tup = PB[j].type.tup := fun e j hj h1 h2 => by
          rcases Nat.lt_or_ge j k with h3 | h3
          · exact hall.out j h3 h1 h2
          · obtain rfl : j = k := by omega
            exact e
        have hno : ¬ PA[k].type.tup = PB[k].type.tup → r = false := fun e => by
          rw [HR.out]
          refine decide_eq_false fun e2 => e ?_
          have e3 : (PA.map (fun v => v.type.tup))[k]? = (PB.map (fun v => v.type.tup))[k]? := by rw [e2]
          simpa [List.getElem?_map, List.getElem?_eq_getElem hlt, List.getElem?_eq_getElem hlt2] using e3
        obtain ⟨va, hva⟩ : ∃ v : VT, v = PA[k] := ⟨_, rfl⟩
        obtain ⟨vb, hvb⟩ : ∃ v : VT, v = PB[k] := ⟨_, rfl⟩
        rw [← hva] at hea hnx hno
        rw [← hvb] at heb hnx hno
        obtain ⟨rfl, -⟩ := hea
        obtain ⟨rfl, -⟩ := heb
        have a0 := hca 0 (.string va.name) rfl
        have a1 := hca 1 (.int .i64 va.type.kind) rfl
        have a2 := hca 2 (.int .i64 va.type.lo) rfl
        have a3 := hca 3 (.int .i64 va.type.hi) rfl
        have a4 := hca 4 (.string va.type.name) rfl
        have a5 := hca 5 (.int .i64 va.init) rfl
        have a6 := hca 6 (.int .i64 va.dir) rfl
        have a7 := hca 7 (.int .i64 va.slot) rfl
        have b0 := hcb 0 (.string vb.name) rfl
        have b1 := hcb 1 (.int .i64 vb.type.kind) rfl
        have b2 := hcb 2 (.int .i64 vb.type.lo) rfl
        have b3 := hcb 3 (.int .i64 vb.type.hi) rfl
        have b4 := hcb 4 (.string vb.type.name) rfl
        have b5 := hcb 5 (.int .i64 vb.init) rfl
        have b6 := hcb 6 (.int .i64 vb.dir) rfl
        have b7 := hcb 7 (.int .i64 vb.slot) rfl
        rw [Nat.add_zero] at a0 b0
        have HNX := Lib.hid hnx
        have HNO := Lib.hid hno
        clear hca hcb hva hvb hl hnx hno
        have hgb2 : gb < wr.heap.size := Nat.lt_of_lt_of_le hgb hb.out.size
        have hfar : ∀ j u, wr.cell? ⟨gb, j, none⟩ = some u → (wr.alloc (.cells #[.string va.name, .int .i64 va.type.kind, .int .i64 va.type.lo, .int .i64 va.type.hi, .string va.type.name, .int .i64 va.init, .int .i64 va.dir, .int .i64 va.slot] 41)).cell? ⟨gb, j, none⟩ = some u := fun j u h => (World.cell?_of_block (Below.heap_alloc _ _ _ hgb2)).trans h
        replace b0 := hfar _ _ b0
        replace b1 := hfar _ _ b1
        replace b2 := hfar _ _ b2
        replace b3 := hfar _ _ b3
        replace b4 := hfar _ _ b4
        replace b5 := hfar _ _ b5
        replace b6 := hfar _ _ b6
        replace b7 := hfar _ _ b7
        have hn1 : ∀ j u, (#[.string va.name, .int .i64 va.type.kind, .int .i64 va.type.lo, .int .i64 va.type.hi, .string va.type.name, .int .i64 va.init, .int .i64 va.dir, .int .i64 va.slot] : Array Value).toList[j]? = some u → ((wr.alloc (.cells #[.string va.name, .int .i64 va.type.kind, .int .i64 va.type.lo, .int .i64 va.type.hi, .string va.type.name, .int .i64 va.init, .int .i64 va.dir, .int .i64 va.slot] 41)).alloc (.cells #[.string vb.name, .int .i64 vb.type.kind, .int .i64 vb.type.lo, .int .i64 vb.type.hi, .string vb.type.name, .int .i64 vb.init, .int .i64 vb.dir, .int .i64 vb.slot] 41)).cell? ⟨wr.heap.size, j, none⟩ = some u := fun j u h => by
          rw [World.cell?_of_block (w := wr.alloc (.cells #[.string va.name, .int .i64 va.type.kind, .int .i64 va.type.lo, .int .i64 va.type.hi, .string va.type.name, .int .i64 va.init, .int .i64 va.dir, .int .i64 va.slot] 41)) (Below.heap_alloc _ _ _ (by simp)), cell_of_row _ _ j _ _ _ (heap_alloc_new wr _)]
          simpa using h
        have hn2 : ∀ j u, (#[.string vb.name, .int .i64 vb.type.kind, .int .i64 vb.type.lo, .int .i64 vb.type.hi, .string vb.type.name, .int .i64 vb.init, .int .i64 vb.dir, .int .i64 vb.slot] : Array Value).toList[j]? = some u → ((wr.alloc (.cells #[.string va.name, .int .i64 va.type.kind, .int .i64 va.type.lo, .int .i64 va.type.hi, .string va.type.name, .int .i64 va.init, .int .i64 va.dir, .int .i64 va.slot] 41)).alloc (.cells #[.string vb.name, .int .i64 vb.type.kind, .int .i64 vb.type.lo, .int .i64 vb.type.hi, .string vb.type.name, .int .i64 vb.init, .int .i64 vb.dir, .int .i64 vb.slot] 41)).cell? ⟨wr.heap.size + 1, j, none⟩ = some u := fun j u h => by
          have e := heap_alloc_new (wr.alloc (.cells #[.string va.name, .int .i64 va.type.kind, .int .i64 va.type.lo, .int .i64 va.type.hi, .string va.type.name, .int .i64 va.init, .int .i64 va.dir, .int .i64 va.slot] 41)) (.cells #[.string vb.name, .int .i64 vb.type.kind, .int .i64 vb.type.lo, .int .i64 vb.type.hi, .string vb.type.name, .int .i64 vb.init, .int .i64 vb.dir, .int .i64 vb.slot] 41)
          rw [show (wr.alloc (.cells #[.string va.name, .int .i64 va.type.kind, .int .i64 va.type.lo, .int .i64 va.type.hi, .string va.type.name, .int .i64 va.init, .int .i64 va.dir, .int .i64 va.slot] 41)).heap.size = wr.heap.size + 1 from by simp] at e
          rw [cell_of_row _ _ j _ _ _ e]
          simpa using h
        have m0 := hn1 0 (.string va.name) rfl
        have n0 := hn2 0 (.string vb.name) rfl
        have m1 := hn1 1 (.int .i64 va.type.kind) rfl
        have n1 := hn2 1 (.int .i64 vb.type.kind) rfl
        have m2 := hn1 2 (.int .i64 va.type.lo) rfl
        have n2 := hn2 2 (.int .i64 vb.type.lo) rfl
        have m3 := hn1 3 (.int .i64 va.type.hi) rfl
        have n3 := hn2 3 (.int .i64 vb.type.hi) rfl
        have m4 := hn1 4 (.string va.type.name) rfl
        have n4 := hn2 4 (.string vb.type.name) rfl
        have m5 := hn1 5 (.int .i64 va.init) rfl
        have n5 := hn2 5 (.int .i64 vb.init) rfl
        have m6 := hn1 6 (.int .i64 va.dir) rfl
        have n6 := hn2 6 (.int .i64 vb.dir) rfl
        have m7 := hn1 7 (.int .i64 va.slot) rfl
        have n7 := hn2 7 (.int .i64 vb.slot) rfl
        have HB2 : Hid (Below w.heap.size w ((wr.alloc (.cells #[.string va.name, .int .i64 va.type.kind, .int .i64 va.type.lo, .int .i64 va.type.hi, .string va.type.name, .int .i64 va.init, .int .i64 va.dir, .int .i64 va.slot] 41)).alloc (.cells #[.string vb.name, .int .i64 vb.type.kind, .int .i64 vb.type.lo, .int .i64 vb.type.hi, .string vb.type.name, .int .i64 vb.init, .int .i64 vb.dir, .int .i64 vb.slot] 41))) := (hb.out.alloc hb.out.size _).alloc (by have := hb.out.size; simp; omega) _
        have KS1 : Hid (∀ W, Calls Tryz.prog 87 #[vv va, vv vb] W fun e w' => e = .returned (.bool (decide (va.type.tup = vb.type.tup))) ∧ Hid (Below W.heap.size W w')) := fun W => KS.out W va vb
        obtain ⟨bb, hbb⟩ : ∃ b, b = decide (va.type.tup = vb.type.tup) := ⟨_, rfl⟩
        rw [← hbb] at KS1
        have HBB := Lib.hid hbb
        unfold vv at KS1
        clear hfar hn1 hn2 hgb2 hbb
        go_wp2_with fail
        refine (KS1.out _).mono ?_
        rintro e5 w5 ⟨rfl, hb5⟩
        have HB5 : Hid (Below w.heap.size w w5) := HB2.out.trans (hb5.out.mono HB2.out.size)
        clear hb5 HB2 a0 a1 a2 a3 a4 a5 a6 a7 b0 b1 b2 b3 b4 b5 b6 b7 m0 m1 m2 m3 m4 m5 m6 m7 n0 n1 n2 n3 n4 n5 n6 n7
        cases bb
        · have HF := Lib.hid (HNO.out (of_decide_eq_false HBB.out.symm))
          go_wp2_with fail
          go_ret
          exact ⟨by rw [HF.out]; rfl, HB5.out⟩
        · have HN2 := Lib.hid (HNX.out (of_decide_eq_true HBB.out.symm))
          go_wp2_with fail
          go_roundw
          case rel => exact ⟨k + 1, by omega, by go_num, HN2, HB5⟩
          case measure => simp [intOf]; omega
      · have z1 : ¬ (k : Int) < (PA.length : Int) := by omega
        have hy : r = true := by
          rw [HR.out]
          refine decide_eq_true (List.ext_getElem (by simpa using hl) fun i h1 h2 => ?_)
          simp only [List.getElem_map]
          exact hall.out i (by simp at h1; omega) (by simpa using h1) (by simpa using h2)
        have HF := Lib.hid hy
        clear hy
        go_wp2_with fail
        go_ret
        exact ⟨by rw [HF.out]; rfl, hb.out⟩
  · have hl1 : ((PA.length : Int) != (PB.length : Int)) = true := ne_yes2 hl
    have hy : r = false := by
      rw [HR.out]
      exact decide_eq_false fun e => hl (by simpa using congrArg List.length e)
    have HF := Lib.hid hy
    clear hl hy
    go_enter Tryz.func88, Tryz.ntmps88
    go_wp2_with fail
    go_ret
    exact ⟨by rw [HF.out]; rfl, HBW.out⟩
set_option maxHeartbeats 4000000 in
set_option maxRecDepth 100000 in
theorem Alike_any (a b : MT) (A1 A2 A3 B1 B2 B3 : Option Addr) (c1 c2 c3 d1 d2 d3 : Nat) (w : World) (ha : VsR w w.heap.size A1 a.params) (hb : VsR w w.heap.size B1 b.params) (hcnt : a.params.length ≤ 1000000000) :
    Calls Tryz.prog 58 #[.agg (mcells a A1 A2 A3 c1 c2 c3), .agg (mcells b B1 B2 B3 d1 d2 d3)] w fun e w' => e = .returned (.bool (alikeT a b)) ∧ Below w.heap.size w w' := by
  obtain ⟨R0, hR0⟩ : ∃ R0 : World, R0 = (w.alloc (.cells (mcells a A1 A2 A3 c1 c2 c3) 70)).alloc (.cells (mcells b B1 B2 B3 d1 d2 d3) 70) := ⟨_, rfl⟩
  have hbw : Below w.heap.size w R0 := by rw [hR0]; exact ((Below.refl _ _).alloc (Nat.le_refl _) _).alloc (by simp) _
  have g1 : R0.heap[w.heap.size]? = some (.cells (mcells a A1 A2 A3 c1 c2 c3) 70 (0, 0)) := by
    rw [hR0, Below.heap_alloc _ _ _ (by simp)]; exact heap_alloc_new w _
  have g2 : R0.heap[w.heap.size + 1]? = some (.cells (mcells b B1 B2 B3 d1 d2 d3) 70 (0, 0)) := by
    have := heap_alloc_new (w.alloc (.cells (mcells a A1 A2 A3 c1 c2 c3) 70)) (.cells (mcells b B1 B2 B3 d1 d2 d3) 70)
    rw [hR0]; simpa using this
  have ca : ∀ j v, (mcells a A1 A2 A3 c1 c2 c3).toList[j]? = some v → R0.cell? ⟨w.heap.size, j, none⟩ = some v := fun j v hj => by rw [cell_of_row _ _ j _ _ _ g1]; simpa using hj
  have cb : ∀ j v, (mcells b B1 B2 B3 d1 d2 d3).toList[j]? = some v → R0.cell? ⟨w.heap.size + 1, j, none⟩ = some v := fun j v hj => by rw [cell_of_row _ _ j _ _ _ g2]; simpa using hj
  have KE : Hid (Calls Tryz.prog 88 #[.slice A1 a.params.length c1, .slice B1 b.params.length d1, .func (.func 87) #[] #[]] R0 fun e w' => e = .returned (.bool (decide (a.params.map (fun v => v.type.tup) = b.params.map (fun v => v.type.tup)))) ∧ Hid (Below w.heap.size w w')) := (equalFunc_any a.params b.params A1 B1 c1 d1 R0 (VsR.mono hbw.size hbw.block ha) (VsR.mono hbw.size hbw.block hb) hcnt).mono fun e w' hh => ⟨hh.1, hbw.trans (hh.2.mono hbw.size)⟩
  have HR0 := Lib.hid hR0
  have HBW := Lib.hid hbw
  have HT := tup_cases a.result b.result
  obtain ⟨pr, hpr⟩ : ∃ x, x = decide (a.params.map (fun v => v.type.tup) = b.params.map (fun v => v.type.tup)) := ⟨_, rfl⟩
  obtain ⟨r, hr0⟩ : ∃ r, r = alikeT a b := ⟨_, rfl⟩
  have hr1 : r = (decide (a.result.tup = b.result.tup) && pr) := by rw [hr0, alikeT, hpr]
  rw [← hr0]
  rw [← hpr] at KE
  clear hr0 hpr
  obtain ⟨an, ao, aa, af, PA, ⟨k1, l1, h1, n1⟩, av, ab⟩ := a
  obtain ⟨bn, bo, ba, bf, PB, ⟨k2, l2, h2, n2⟩, bv, bb⟩ := b
  simp only at HT hr1 KE
  have HR := Lib.hid hr1
  have x4 := ca 4 (.slice A1 PA.length c1) rfl
  have x5 := ca 5 (.int .i64 k1) rfl
  have x6 := ca 6 (.int .i64 l1) rfl
  have x7 := ca 7 (.int .i64 h1) rfl
  have x8 := ca 8 (.string n1) rfl
  have y4 := cb 4 (.slice B1 PB.length d1) rfl
  have y5 := cb 5 (.int .i64 k2) rfl
  have y6 := cb 6 (.int .i64 l2) rfl
  have y7 := cb 7 (.int .i64 h2) rfl
  have y8 := cb 8 (.string n2) rfl
  clear g1 g2 ca cb hbw hR0 ha hb hr1
  rw [HR0.out] at x4 y4 x5 x6 x7 x8 y5 y6 y7 y8
  rcases HT with ⟨q, t⟩ | ⟨q, q1, t⟩ | ⟨q, q1, q2, t⟩ | ⟨q, q1, q2, q3, t⟩ | ⟨q, q1, q2, q3, t⟩
  · have hf := HR.out
    rw [decide_eq_false t, Bool.false_and] at hf
    have HF := Lib.hid hf
    have p1 := eq_no q
    clear q
    clear t hf
    go_enter Tryz.func58, Tryz.ntmps58
    go_wp2_with fail
    go_ret
    exact ⟨by rw [HF.out]; rfl, HR0.out ▸ HBW.out⟩
  · have hf := HR.out
    rw [decide_eq_false t, Bool.false_and] at hf
    have HF := Lib.hid hf
    have p1 := eq_no q1
    have q : k1 = k2 := q
    subst q
    clear t hf
    go_enter Tryz.func58, Tryz.ntmps58
    go_wp2_with fail
    go_ret
    exact ⟨by rw [HF.out]; rfl, HR0.out ▸ HBW.out⟩
  · have hf := HR.out
    rw [decide_eq_false t, Bool.false_and] at hf
    have HF := Lib.hid hf
    have p1 := eq_no q2
    have q : k1 = k2 := q
    have q1 : l1 = l2 := q1
    subst q q1
    clear t hf
    go_enter Tryz.func58, Tryz.ntmps58
    go_wp2_with fail
    go_ret
    exact ⟨by rw [HF.out]; rfl, HR0.out ▸ HBW.out⟩
  · have hf := HR.out
    rw [decide_eq_false t, Bool.false_and] at hf
    have HF := Lib.hid hf
    have p1 := str_ne q3
    have q : k1 = k2 := q
    have q1 : l1 = l2 := q1
    have q2 : h1 = h2 := q2
    subst q q1 q2
    clear t hf
    go_enter Tryz.func58, Tryz.ntmps58
    go_wp2_with fail
    go_ret
    exact ⟨by rw [HF.out]; rfl, HR0.out ▸ HBW.out⟩
  · have hf := HR.out
    rw [decide_eq_true t, Bool.true_and] at hf
    have HF := Lib.hid hf
    have q : k1 = k2 := q
    have q1 : l1 = l2 := q1
    have q2 : h1 = h2 := q2
    have q3 : n1 = n2 := q3
    subst q q1 q2 q3
    clear t hf
    go_enter Tryz.func58, Tryz.ntmps58
    go_wp2_with fail
    rw [← HR0.out]
    refine KE.out.mono ?_
    rintro e1 w1 ⟨rfl, hb1⟩
    clear x4 y4 x5 x6 x7 x8 y5 y6 y7 y8
    go_wp2_with fail
    go_ret
    exact ⟨by rw [HF.out]; rfl, hb1.out⟩
end Go.Proofs.YtbgilpmoijdcfaaGreat

/-
  rules: numbers, starts, links BY CONTRACTS; a list asked by a function.
-/
namespace Go.Proofs.YtbgilpmoijdcfaaGreat
open Go Go.RowKit
set_option linter.unusedVariables false
set_option linter.unusedSimpArgs false

theorem between_any (n lo hi : Int) (w : World) : Calls Tryz.prog 64 #[.int .i64 n, .int .i64 lo, .int .i64 hi] w fun e w' => e = .returned (.bool (btwT n lo hi)) ∧ Hid (Below w.heap.size w w') := by
  have HB : Hid (Below w.heap.size w w) := Below.refl _ _
  unfold btwT
  by_cases h1 : lo ≤ n
  · by_cases h2 : n ≤ hi
    · rw [decide_eq_true h1, decide_eq_true h2]
      go_enter Tryz.func64, Tryz.ntmps64
      go_wp2_with fail
      go_ret
      exact ⟨rfl, HB⟩
    · rw [decide_eq_true h1, decide_eq_false h2]
      go_enter Tryz.func64, Tryz.ntmps64
      go_wp2_with fail
      go_ret
      exact ⟨rfl, HB⟩
  · rw [decide_eq_false h1]
    go_enter Tryz.func64, Tryz.ntmps64
    go_wp2_with fail
    go_ret
    exact ⟨rfl, HB⟩
/-- a variable's block, as a call lays it. -/
structure VCells (v : VT) (W : World) (b : Nat) : Prop where
  name : W.cell? ⟨b, 0, none⟩ = some (.string v.name)
  kind : W.cell? ⟨b, 1, none⟩ = some (.int .i64 v.type.kind)
  lo : W.cell? ⟨b, 2, none⟩ = some (.int .i64 v.type.lo)
  hi : W.cell? ⟨b, 3, none⟩ = some (.int .i64 v.type.hi)
  tn : W.cell? ⟨b, 4, none⟩ = some (.string v.type.name)
  init : W.cell? ⟨b, 5, none⟩ = some (.int .i64 v.init)
  dir : W.cell? ⟨b, 6, none⟩ = some (.int .i64 v.dir)
  slot : W.cell? ⟨b, 7, none⟩ = some (.int .i64 v.slot)
theorem VCells.of {v : VT} {W : World} {b : Nat} (h : W.heap[b]? = some (.cells v.cells.toArray 41 (0, 0))) : VCells v W b := by
  refine ⟨?_, ?_, ?_, ?_, ?_, ?_, ?_, ?_⟩ <;> (rw [cell_of_row _ _ _ _ _ _ h]; rfl)
structure VBox (v : VT) (w R0 : World) : Prop where
  below : Below w.heap.size w R0
  box : R0.heap[w.heap.size]? = some (.cells v.cells.toArray 41 (0, 0))
theorem VBox.of (v : VT) (w : World) : VBox v w (w.alloc (.cells v.cells.toArray 41)) := ⟨(Below.refl _ _).alloc (Nat.le_refl _) _, heap_alloc_new w _⟩
theorem VBox.cells {v : VT} {w R0 W : World} (h : VBox v w R0) (hb : Below R0.heap.size R0 W) : VCells v W w.heap.size := .of ((hb.block _ (Array.getElem?_eq_some_iff.1 h.box).1).trans h.box)
set_option maxHeartbeats 1000000 in
theorem mayStart_any (v : VT) (w : World) : Calls Tryz.prog 77 #[vv v] w fun e w' => e = .returned (.bool (startT v)) ∧ Hid (Below w.heap.size w w') := by
  obtain ⟨R0, hR0⟩ : ∃ R0 : World, R0 = w.alloc (.cells v.cells.toArray 41) := ⟨_, rfl⟩
  have B0 : VBox v w R0 := hR0 ▸ VBox.of v w
  have HB0 : Hid (Below R0.heap.size R0 R0) := Below.refl _ _
  have HB := Lib.hid B0
  have KB : Hid (∀ W n lo hi, Hid (Below R0.heap.size R0 W) → Calls Tryz.prog 64 #[.int .i64 n, .int .i64 lo, .int .i64 hi] W fun e w' => e = .returned (.bool (btwT n lo hi)) ∧ Hid (Below w.heap.size w w')) := fun W n lo hi h => (between_any n lo hi W).mono fun e w' hh => ⟨hh.1, B0.below.trans ((h.out.trans (hh.2.out.mono h.out.size)).mono B0.below.size)⟩
  obtain ⟨-, x1, x2, x3, -, x5, -, -⟩ := B0.cells HB0.out
  obtain ⟨r, hr⟩ : ∃ r, r = startT v := ⟨_, rfl⟩
  rw [← hr]
  have HR0 := Lib.hid hR0
  rw [hR0] at x1 x2 x3 x5
  clear B0 hR0
  obtain ⟨nm, ⟨tk, lo, hi, tn⟩, ini, dir, slot⟩ := v
  simp only [VT.cells] at x1 x2 x3 x5 HR0
  unfold vv
  by_cases h1 : tk = 1
  · subst h1
    have HR : Hid (r = btwT ini (-32768) 32767) := Lib.hid (by rw [hr, startT, if_pos rfl])
    clear hr
    go_enter Tryz.func77, Tryz.ntmps77
    go_wp2_with fail
    rw [← HR0.out]
    refine (KB.out _ _ _ _ HB0).mono ?_
    rintro e1 w1 ⟨rfl, hb1⟩
    clear x1 x2 x3 x5
    rw [← HR.out]
    go_wp2_with fail
    go_ret
    exact ⟨rfl, hb1⟩
  by_cases h2 : tk = 2
  · subst h2
    have HR : Hid (r = btwT ini 0 1) := Lib.hid (by rw [hr, startT, if_neg (by simp), if_pos rfl])
    clear hr h1
    go_enter Tryz.func77, Tryz.ntmps77
    go_wp2_with fail
    rw [← HR0.out]
    refine (KB.out _ _ _ _ HB0).mono ?_
    rintro e1 w1 ⟨rfl, hb1⟩
    clear x1 x2 x3 x5
    rw [← HR.out]
    go_wp2_with fail
    go_ret
    exact ⟨rfl, hb1⟩
  by_cases h3 : tk = 3
  · subst h3
    have HR : Hid (r = btwT ini lo hi) := Lib.hid (by rw [hr, startT, if_neg (by simp), if_neg (by simp), if_pos rfl])
    clear hr h1 h2
    go_enter Tryz.func77, Tryz.ntmps77
    go_wp2_with fail
    rw [← HR0.out]
    refine (KB.out _ _ _ _ HB0).mono ?_
    rintro e1 w1 ⟨rfl, hb1⟩
    clear x1 x2 x3 x5
    rw [← HR.out]
    go_wp2_with fail
    go_ret
    exact ⟨rfl, hb1⟩
  have HR : Hid (r = decide (ini = 0)) := Lib.hid (by rw [hr, startT, if_neg h1, if_neg h2, if_neg h3])
  have q1 := eq_no h1
  have q2 := eq_no h2
  have q3 := eq_no h3
  clear hr h1 h2 h3
  have HW : Hid (Below w.heap.size w R0) := HB.out.below
  by_cases h0 : ini = 0
  · subst h0
    have HQ : Hid (r = true) := HR.out
    clear HR
    go_enter Tryz.func77, Tryz.ntmps77
    go_wp2_with fail
    go_ret
    exact ⟨by rw [HQ.out]; rfl, HR0.out ▸ HW⟩
  · have q0 := eq_no h0
    have HQ : Hid (r = false) := HR.out.trans (decide_eq_false h0)
    clear HR h0
    go_enter Tryz.func77, Tryz.ntmps77
    go_wp2_with fail
    go_ret
    exact ⟨by rw [HQ.out]; rfl, HR0.out ▸ HW⟩
theorem mayNotStart_any (v : VT) (w : World) : Calls Tryz.prog 51 #[vv v] w fun e w' => e = .returned (.bool (!startT v)) ∧ Hid (Below w.heap.size w w') := by
  obtain ⟨R0, hR0⟩ : ∃ R0 : World, R0 = w.alloc (.cells v.cells.toArray 41) := ⟨_, rfl⟩
  have B0 : VBox v w R0 := hR0 ▸ VBox.of v w
  have HB0 : Hid (Below R0.heap.size R0 R0) := Below.refl _ _
  have KS : Hid (Calls Tryz.prog 77 #[vv v] R0 fun e w' => e = .returned (.bool (startT v)) ∧ Hid (Below w.heap.size w w')) := (mayStart_any v R0).mono fun e w' hh => ⟨hh.1, B0.below.trans (hh.2.out.mono B0.below.size)⟩
  obtain ⟨x0, x1, x2, x3, x4, x5, x6, x7⟩ := B0.cells HB0.out
  obtain ⟨r, hr⟩ : ∃ r, r = startT v := ⟨_, rfl⟩
  rw [← hr] at KS ⊢
  have HR0 := Lib.hid hR0
  rw [hR0] at x0 x1 x2 x3 x4 x5 x6 x7
  clear B0 hR0 HB0
  clear hr
  obtain ⟨nm, ⟨tk, lo, hi, tn⟩, ini, dir, slot⟩ := v
  simp only [VT.cells] at x0 x1 x2 x3 x4 x5 x6 x7 HR0
  unfold vv at KS ⊢
  go_enter Tryz.func51, Tryz.ntmps51
  go_wp2_with fail
  rw [← HR0.out]
  refine KS.out.mono ?_
  rintro e1 w1 ⟨rfl, hb1⟩
  clear x0 x1 x2 x3 x4 x5 x6 x7
  cases r
  · go_wp2_with fail
    go_ret
    exact ⟨rfl, hb1⟩
  · go_wp2_with fail
    go_ret
    exact ⟨rfl, hb1⟩
set_option maxHeartbeats 1000000 in
theorem mayLink_any (v : VT) (w : World) : Calls Tryz.prog 62 #[vv v] w fun e w' => e = .returned (.bool (linkT v)) ∧ Hid (Below w.heap.size w w') := by
  obtain ⟨R0, hR0⟩ : ∃ R0 : World, R0 = w.alloc (.cells v.cells.toArray 41) := ⟨_, rfl⟩
  have B0 : VBox v w R0 := hR0 ▸ VBox.of v w
  have HB0 : Hid (Below R0.heap.size R0 R0) := Below.refl _ _
  have HW : Hid (Below w.heap.size w R0) := B0.below
  have KB : Hid (Calls Tryz.prog 64 #[.int .i64 v.dir, .int .i64 1, .int .i64 2] R0 fun e w' => e = .returned (.bool (btwT v.dir 1 2)) ∧ Hid (Below R0.heap.size R0 w')) := between_any v.dir 1 2 R0
  have CE : Hid (∀ W, Hid (Below R0.heap.size R0 W) → VCells v W w.heap.size) := fun W h => B0.cells h.out
  have HT : Hid (∀ W, Hid (Below R0.heap.size R0 W) → Hid (Below w.heap.size w W)) := fun W h => B0.below.trans (h.out.mono B0.below.size)
  obtain ⟨-, x1, -, -, -, -, x6, -⟩ := B0.cells HB0.out
  obtain ⟨b, hb⟩ : ∃ b, b = btwT v.dir 1 2 := ⟨_, rfl⟩
  obtain ⟨r, hr⟩ : ∃ r, r = linkT v := ⟨_, rfl⟩
  rw [← hb] at KB
  rw [← hr]
  have HR : Hid (r = (decide (v.dir = 0) || (b && (decide (v.type.kind = 1) || decide (v.type.kind = 2))))) := Lib.hid (by rw [hr, hb, linkT])
  have HR0 := Lib.hid hR0
  rw [hR0] at x1 x6
  clear B0 hR0 hr hb
  obtain ⟨nm, ⟨tk, lo, hi, tn⟩, ini, dir, slot⟩ := v
  simp only [VT.cells] at x1 x6 HR0
  unfold vv
  by_cases h0 : dir = 0
  · subst h0
    have HQ : Hid (r = true) := HR.out
    clear HR
    go_enter Tryz.func62, Tryz.ntmps62
    go_wp2_with fail
    go_ret
    exact ⟨by rw [HQ.out]; rfl, HR0.out ▸ HW⟩
  have q0 := eq_no h0
  have HR2 : Hid (r = (b && (decide (tk = 1) || decide (tk = 2)))) := Lib.hid (by rw [HR.out, decide_eq_false h0, Bool.false_or])
  clear h0 HR
  go_enter Tryz.func62, Tryz.ntmps62
  go_wp2_with fail
  rw [← HR0.out]
  refine KB.out.mono ?_
  rintro e1 w1 ⟨rfl, hb1⟩
  clear x1 x6
  obtain ⟨-, x1, -, -, -, -, -, -⟩ := CE.out _ hb1
  cases b
  · have HQ : Hid (r = false) := HR2.out
    clear x1
    go_wp2_with fail
    go_ret
    exact ⟨by rw [HQ.out]; rfl, HT.out _ hb1⟩
  by_cases h1 : tk = 1
  · subst h1
    have HQ : Hid (r = true) := HR2.out
    go_wp2_with fail
    go_ret
    exact ⟨by rw [HQ.out]; rfl, HT.out _ hb1⟩
  have q1 := eq_no h1
  by_cases h2 : tk = 2
  · subst h2
    have HQ : Hid (r = true) := HR2.out
    clear h1 
    go_wp2_with fail
    go_ret
    exact ⟨by rw [HQ.out]; rfl, HT.out _ hb1⟩
  · have q2 := eq_no h2
    have HQ : Hid (r = false) := Lib.hid (by rw [HR2.out, decide_eq_false h1, decide_eq_false h2]; rfl)
    clear h1 h2
    go_wp2_with fail
    go_ret
    exact ⟨by rw [HQ.out]; rfl, HT.out _ hb1⟩
theorem nameOfVar_any (v : VT) (w : World) : Calls Tryz.prog 40 #[vv v] w fun e w' => e = .returned (.string v.name) ∧ Hid (Below w.heap.size w w') := by
  obtain ⟨R0, hR0⟩ : ∃ R0 : World, R0 = w.alloc (.cells v.cells.toArray 41) := ⟨_, rfl⟩
  have B0 : VBox v w R0 := hR0 ▸ VBox.of v w
  have HW : Hid (Below w.heap.size w R0) := B0.below
  obtain ⟨x0, -, -, -, -, -, -, -⟩ := B0.cells (Below.refl _ _)
  have HR0 := Lib.hid hR0
  rw [hR0] at x0
  clear B0 hR0
  obtain ⟨nm, ⟨tk, lo, hi, tn⟩, ini, dir, slot⟩ := v
  simp only [VT.cells] at x0 HR0
  unfold vv
  go_enter Tryz.func40, Tryz.ntmps40
  go_wp2_with fail
  go_ret
  exact ⟨rfl, HR0.out ▸ HW⟩
end Go.Proofs.YtbgilpmoijdcfaaGreat

/-
  slices.IndexFunc, ContainsFunc of variables, methods, declarations BY CONTRACTS, whatever function is handed in.
-/
namespace Go.Proofs.YtbgilpmoijdcfaaGreat
open Go Go.RowKit Go.Shelf
set_option linter.unusedVariables false
set_option linter.unusedSimpArgs false

theorem any_not {α : Type} {l : List α} {P : α → Bool} (h : ∀ j (hj : j < l.length), j < l.length → P l[j] = false) : l.any P = false := by
  cases hh : l.any P
  · rfl
  · obtain ⟨x, hx, hp⟩ := List.any_eq_true.1 hh
    obtain ⟨j, hj, rfl⟩ := List.getElem_of_mem hx
    rw [h j hj hj] at hp
    cases hp
theorem any_yes {α : Type} {l : List α} {P : α → Bool} {k : Nat} (hk : k < l.length) (h : P l[k] = true) : l.any P = true := List.any_eq_true.2 ⟨l[k], List.getElem_mem _, h⟩
set_option maxHeartbeats 2000000 in
set_option maxRecDepth 100000 in
theorem indexFuncVar_any (fk : Nat) (hent : Enters Tryz.prog fk) (cap : Array Value) (l : List VT) (A1 : Option Addr) (c1 B : Nat) (Inv : World → Prop) (P : VT → Bool) (w : World) (h0 : Inv w) (hrow : ∀ W, Inv W → VsR W B A1 l) (hcnt : l.length ≤ 1000000000)
    (hf : ∀ W (v : VT), v ∈ l → Inv W → Calls Tryz.prog fk (#[vv v] ++ cap) W fun e w' => e = .returned (.bool (P v)) ∧ Inv w') :
    Calls Tryz.prog 75 #[.slice A1 l.length c1, .func (.func fk) #[] cap] w fun e w' => (∃ r : Int, e = .returned (.int .i64 r) ∧ decide (0 ≤ r) = l.any P) ∧ Inv w' := by
  obtain ⟨b, hb0⟩ : ∃ b : Bool, b = l.any P := ⟨_, rfl⟩
  rw [← hb0]
  have HR := Lib.hid hb0
  replace hf := Lib.hid hf
  replace hrow := Lib.hid hrow
  have HI := Lib.hid h0
  clear hb0 h0
  go_enter Tryz.func75, Tryz.ntmps75
  go_wp2_with fail
  go_loopw [8] (fun i wr => ∃ k : Nat, k ≤ l.length ∧ i = .int .i64 k ∧ Hid (Inv wr) ∧ Hid (∀ j (hj : j < l.length), j < k → P l[j] = false)) (fun i _ => l.length - (intOf i).toNat)
  case atStart => exact ⟨0, Nat.zero_le _, rfl, HI, fun _ _ h => absurd h (Nat.not_lt_zero _)⟩
  case round =>
    obtain ⟨k, hk, rfl, hi, hn⟩ := hrel
    have h2 : (0 : Int) ≤ (k : Int) := by omega
    by_cases hlt : k < l.length
    · have h1 : (k : Int) < (l.length : Int) := by omega
      obtain ⟨g, o, cs, rfl, hg, hlen, hc, he⟩ := (hrow.out wr hi.out) k hlt
      obtain ⟨v, hN⟩ : ∃ v : VT, v = l[k] := ⟨_, rfl⟩
      have hv : v ∈ l := hN ▸ List.getElem_mem _
      rw [← hN] at he
      obtain ⟨rfl, -⟩ := he
      have y0 := hc 0 (.string v.name) rfl
      have y1 := hc 1 (.int .i64 v.type.kind) rfl
      have y2 := hc 2 (.int .i64 v.type.lo) rfl
      have y3 := hc 3 (.int .i64 v.type.hi) rfl
      have y4 := hc 4 (.string v.type.name) rfl
      have y5 := hc 5 (.int .i64 v.init) rfl
      have y6 := hc 6 (.int .i64 v.dir) rfl
      have y7 := hc 7 (.int .i64 v.slot) rfl
      rw [Nat.add_zero] at y0
      have HN := Lib.hid hN
      clear hc hlen hg hN
      go_wp2_with fail
      rw [hent, Oper.upon_enter]
      refine ((hf.out wr v hv hi.out)).mono ?_
      rintro e1 w1 ⟨rfl, hi1⟩
      obtain ⟨pv, hpv⟩ : ∃ x, x = P v := ⟨_, rfl⟩
      rw [← hpv]
      clear y0 y1 y2 y3 y4 y5 y6 y7
      cases pv
      · have hn2 : Hid (∀ j (hj : j < l.length), j < k + 1 → P l[j] = false) := fun j hj h => by
          rcases Nat.lt_or_ge j k with h3 | h3
          · exact hn.out j hj h3
          · obtain rfl : j = k := by omega
            exact HN.out ▸ hpv.symm
        have HI1 : Hid (Inv w1) := hi1
        clear hpv hi1
        go_wp2_with fail
        go_roundw
        case rel => exact ⟨k + 1, by omega, by go_num, HI1, hn2⟩
        case measure => simp [intOf]; omega
      · have HF := Lib.hid (HR.out.trans (any_yes hlt (HN.out ▸ hpv.symm)))
        have HI1 : Hid (Inv w1) := hi1
        clear hpv hi1
        go_wp2_with fail
        go_ret
        exact ⟨⟨k, rfl, by rw [HF.out]; simp⟩, HI1⟩
    · have h1 : ¬ (k : Int) < (l.length : Int) := by omega
      have HF := Lib.hid (HR.out.trans (any_not fun j hj _ => hn.out j hj (by omega)))
      go_wp2_with fail
      go_ret
      exact ⟨⟨-1, rfl, by rw [HF.out]; rfl⟩, hi⟩
theorem containsFuncVar_any (fk : Nat) (hent : Enters Tryz.prog fk) (cap : Array Value) (l : List VT) (A1 : Option Addr) (c1 B : Nat) (Inv : World → Prop) (P : VT → Bool) (w : World) (h0 : Inv w) (hrow : ∀ W, Inv W → VsR W B A1 l) (hcnt : l.length ≤ 1000000000)
    (hf : ∀ W (v : VT), v ∈ l → Inv W → Calls Tryz.prog fk (#[vv v] ++ cap) W fun e w' => e = .returned (.bool (P v)) ∧ Inv w') :
    Calls Tryz.prog 47 #[.slice A1 l.length c1, .func (.func fk) #[] cap] w fun e w' => e = .returned (.bool (l.any P)) ∧ Inv w' := by
  have K := Lib.hid (indexFuncVar_any fk hent cap l A1 c1 B Inv P w h0 hrow hcnt hf)
  obtain ⟨b, hb0⟩ : ∃ b : Bool, b = l.any P := ⟨_, rfl⟩
  rw [← hb0] at K ⊢
  clear hcnt hb0 h0 hrow hf
  go_enter Tryz.func47, Tryz.ntmps47
  go_wp2_with fail
  refine K.out.mono ?_
  rintro e1 w1 ⟨⟨r, rfl, hr⟩, hi1⟩
  have HI1 := Lib.hid hi1
  clear hi1
  go_wp2_with fail
  go_ret
  exact ⟨by rw [← hr]; rfl, HI1.out⟩
set_option maxHeartbeats 2000000 in
set_option maxRecDepth 100000 in
theorem indexFuncMethod_any (fk : Nat) (hent : Enters Tryz.prog fk) (cap : Array Value) (l : List MT) (A1 : Option Addr) (c1 B : Nat) (Inv : World → Prop) (P : MT → Bool) (w : World) (h0 : Inv w) (hrow : ∀ W, Inv W → MsR W B A1 l) (hcnt : l.length ≤ 1000000000)
    (hf : ∀ W (v : MT), v ∈ l → Inv W → ∀ cs, MIn W B v cs → Calls Tryz.prog fk (#[.agg cs.toArray] ++ cap) W fun e w' => e = .returned (.bool (P v)) ∧ Inv w') :
    Calls Tryz.prog 71 #[.slice A1 l.length c1, .func (.func fk) #[] cap] w fun e w' => (∃ r : Int, e = .returned (.int .i64 r) ∧ decide (0 ≤ r) = l.any P) ∧ Inv w' := by
  obtain ⟨b, hb0⟩ : ∃ b : Bool, b = l.any P := ⟨_, rfl⟩
  rw [← hb0]
  have HR := Lib.hid hb0
  replace hf := Lib.hid hf
  replace hrow := Lib.hid hrow
  have HI := Lib.hid h0
  clear hb0 h0
  go_enter Tryz.func71, Tryz.ntmps71
  go_wp2_with fail
  go_loopw [8] (fun i wr => ∃ k : Nat, k ≤ l.length ∧ i = .int .i64 k ∧ Hid (Inv wr) ∧ Hid (∀ j (hj : j < l.length), j < k → P l[j] = false)) (fun i _ => l.length - (intOf i).toNat)
  case atStart => exact ⟨0, Nat.zero_le _, rfl, HI, fun _ _ h => absurd h (Nat.not_lt_zero _)⟩
  case round =>
    obtain ⟨k, hk, rfl, hi, hn⟩ := hrel
    have h2 : (0 : Int) ≤ (k : Int) := by omega
    by_cases hlt : k < l.length
    · have h1 : (k : Int) < (l.length : Int) := by omega
      obtain ⟨g, o, cs, rfl, hg, hlen, hc, he⟩ := (hrow.out wr hi.out) k hlt
      obtain ⟨v, hN⟩ : ∃ v : MT, v = l[k] := ⟨_, rfl⟩
      have hv : v ∈ l := hN ▸ List.getElem_mem _
      rw [← hN] at he
      have KF := Lib.hid (hf.out wr v hv hi.out cs he)
      obtain ⟨P1, q1, P2, q2, P3, q3, rfl, -⟩ := he
      have y0 := hc 0 (.string v.name) rfl
      have y1 := hc 1 (.bool v.over) rfl
      have y2 := hc 2 (.bool v.abstract) rfl
      have y3 := hc 3 (.bool v.final) rfl
      have y4 := hc 4 (.slice P1 v.params.length q1) rfl
      have y5 := hc 5 (.int .i64 v.result.kind) rfl
      have y6 := hc 6 (.int .i64 v.result.lo) rfl
      have y7 := hc 7 (.int .i64 v.result.hi) rfl
      have y8 := hc 8 (.string v.result.name) rfl
      have y9 := hc 9 (.slice P2 v.vars.length q2) rfl
      have y10 := hc 10 (.slice P3 v.body.length q3) rfl
      rw [Nat.add_zero] at y0
      have HN := Lib.hid hN
      clear hc hlen hg hN
      go_wp2_with fail
      rw [hent, Oper.upon_enter]
      refine (KF.out).mono ?_
      rintro e1 w1 ⟨rfl, hi1⟩
      obtain ⟨pv, hpv⟩ : ∃ x, x = P v := ⟨_, rfl⟩
      rw [← hpv]
      clear y0 y1 y2 y3 y4 y5 y6 y7 y8 y9 y10
      cases pv
      · have hn2 : Hid (∀ j (hj : j < l.length), j < k + 1 → P l[j] = false) := fun j hj h => by
          rcases Nat.lt_or_ge j k with h3 | h3
          · exact hn.out j hj h3
          · obtain rfl : j = k := by omega
            exact HN.out ▸ hpv.symm
        have HI1 : Hid (Inv w1) := hi1
        clear hpv hi1
        go_wp2_with fail
        go_roundw
        case rel => exact ⟨k + 1, by omega, by go_num, HI1, hn2⟩
        case measure => simp [intOf]; omega
      · have HF := Lib.hid (HR.out.trans (any_yes hlt (HN.out ▸ hpv.symm)))
        have HI1 : Hid (Inv w1) := hi1
        clear hpv hi1
        go_wp2_with fail
        go_ret
        exact ⟨⟨k, rfl, by rw [HF.out]; simp⟩, HI1⟩
    · have h1 : ¬ (k : Int) < (l.length : Int) := by omega
      have HF := Lib.hid (HR.out.trans (any_not fun j hj _ => hn.out j hj (by omega)))
      go_wp2_with fail
      go_ret
      exact ⟨⟨-1, rfl, by rw [HF.out]; rfl⟩, hi⟩
theorem containsFuncMethod_any (fk : Nat) (hent : Enters Tryz.prog fk) (cap : Array Value) (l : List MT) (A1 : Option Addr) (c1 B : Nat) (Inv : World → Prop) (P : MT → Bool) (w : World) (h0 : Inv w) (hrow : ∀ W, Inv W → MsR W B A1 l) (hcnt : l.length ≤ 1000000000)
    (hf : ∀ W (v : MT), v ∈ l → Inv W → ∀ cs, MIn W B v cs → Calls Tryz.prog fk (#[.agg cs.toArray] ++ cap) W fun e w' => e = .returned (.bool (P v)) ∧ Inv w') :
    Calls Tryz.prog 36 #[.slice A1 l.length c1, .func (.func fk) #[] cap] w fun e w' => e = .returned (.bool (l.any P)) ∧ Inv w' := by
  have K := Lib.hid (indexFuncMethod_any fk hent cap l A1 c1 B Inv P w h0 hrow hcnt hf)
  obtain ⟨b, hb0⟩ : ∃ b : Bool, b = l.any P := ⟨_, rfl⟩
  rw [← hb0] at K ⊢
  clear hcnt hb0 h0 hrow hf
  go_enter Tryz.func36, Tryz.ntmps36
  go_wp2_with fail
  refine K.out.mono ?_
  rintro e1 w1 ⟨⟨r, rfl, hr⟩, hi1⟩
  have HI1 := Lib.hid hi1
  clear hi1
  go_wp2_with fail
  go_ret
  exact ⟨by rw [← hr]; rfl, HI1.out⟩
set_option maxHeartbeats 2000000 in
set_option maxRecDepth 100000 in
theorem indexFuncDecl_any (fk : Nat) (hent : Enters Tryz.prog fk) (cap : Array Value) (l : List DT) (A1 : Option Addr) (c1 B : Nat) (Inv : World → Prop) (P : DT → Bool) (w : World) (h0 : Inv w) (hrow : ∀ W, Inv W → DsR W B A1 l) (hcnt : l.length ≤ 1000000000)
    (hf : ∀ W (v : DT), v ∈ l → Inv W → ∀ cs, DIn W B v cs → Calls Tryz.prog fk (#[.agg cs.toArray] ++ cap) W fun e w' => e = .returned (.bool (P v)) ∧ Inv w') :
    Calls Tryz.prog 91 #[.slice A1 l.length c1, .func (.func fk) #[] cap] w fun e w' => (∃ r : Int, e = .returned (.int .i64 r) ∧ decide (0 ≤ r) = l.any P) ∧ Inv w' := by
  obtain ⟨b, hb0⟩ : ∃ b : Bool, b = l.any P := ⟨_, rfl⟩
  rw [← hb0]
  have HR := Lib.hid hb0
  replace hf := Lib.hid hf
  replace hrow := Lib.hid hrow
  have HI := Lib.hid h0
  clear hb0 h0
  go_enter Tryz.func91, Tryz.ntmps91
  go_wp2_with fail
  go_loopw [8] (fun i wr => ∃ k : Nat, k ≤ l.length ∧ i = .int .i64 k ∧ Hid (Inv wr) ∧ Hid (∀ j (hj : j < l.length), j < k → P l[j] = false)) (fun i _ => l.length - (intOf i).toNat)
  case atStart => exact ⟨0, Nat.zero_le _, rfl, HI, fun _ _ h => absurd h (Nat.not_lt_zero _)⟩
  case round =>
    obtain ⟨k, hk, rfl, hi, hn⟩ := hrel
    have h2 : (0 : Int) ≤ (k : Int) := by omega
    by_cases hlt : k < l.length
    · have h1 : (k : Int) < (l.length : Int) := by omega
      obtain ⟨g, o, cs, rfl, hg, hlen, hc, he⟩ := (hrow.out wr hi.out) k hlt
      obtain ⟨v, hN⟩ : ∃ v : DT, v = l[k] := ⟨_, rfl⟩
      have hv : v ∈ l := hN ▸ List.getElem_mem _
      rw [← hN] at he
      have KF := Lib.hid (hf.out wr v hv hi.out cs he)
      obtain ⟨P1, q1, P2, q2, P3, q3, P4, q4, rfl, -⟩ := he
      have y0 := hc 0 (.int .i64 v.kind) rfl
      have y1 := hc 1 (.string v.name) rfl
      have y2 := hc 2 (.string v.base) rfl
      have y3 := hc 3 (.slice P1 v.faces.length q1) rfl
      have y4 := hc 4 (.bool v.abstract) rfl
      have y5 := hc 5 (.bool v.final) rfl
      have y6 := hc 6 (.slice P2 v.vars.length q2) rfl
      have y7 := hc 7 (.slice P3 v.methods.length q3) rfl
      have y8 := hc 8 (.slice P4 v.body.length q4) rfl
      have y9 := hc 9 (.int .i64 v.every) rfl
      have y10 := hc 10 (.int .i64 v.first) rfl
      rw [Nat.add_zero] at y0
      have HN := Lib.hid hN
      clear hc hlen hg hN
      go_wp2_with fail
      rw [hent, Oper.upon_enter]
      refine (KF.out).mono ?_
      rintro e1 w1 ⟨rfl, hi1⟩
      obtain ⟨pv, hpv⟩ : ∃ x, x = P v := ⟨_, rfl⟩
      rw [← hpv]
      clear y0 y1 y2 y3 y4 y5 y6 y7 y8 y9 y10
      cases pv
      · have hn2 : Hid (∀ j (hj : j < l.length), j < k + 1 → P l[j] = false) := fun j hj h => by
          rcases Nat.lt_or_ge j k with h3 | h3
          · exact hn.out j hj h3
          · obtain rfl : j = k := by omega
            exact HN.out ▸ hpv.symm
        have HI1 : Hid (Inv w1) := hi1
        clear hpv hi1
        go_wp2_with fail
        go_roundw
        case rel => exact ⟨k + 1, by omega, by go_num, HI1, hn2⟩
        case measure => simp [intOf]; omega
      · have HF := Lib.hid (HR.out.trans (any_yes hlt (HN.out ▸ hpv.symm)))
        have HI1 : Hid (Inv w1) := hi1
        clear hpv hi1
        go_wp2_with fail
        go_ret
        exact ⟨⟨k, rfl, by rw [HF.out]; simp⟩, HI1⟩
    · have h1 : ¬ (k : Int) < (l.length : Int) := by omega
      have HF := Lib.hid (HR.out.trans (any_not fun j hj _ => hn.out j hj (by omega)))
      go_wp2_with fail
      go_ret
      exact ⟨⟨-1, rfl, by rw [HF.out]; rfl⟩, hi⟩
theorem containsFuncDecl_any (fk : Nat) (hent : Enters Tryz.prog fk) (cap : Array Value) (l : List DT) (A1 : Option Addr) (c1 B : Nat) (Inv : World → Prop) (P : DT → Bool) (w : World) (h0 : Inv w) (hrow : ∀ W, Inv W → DsR W B A1 l) (hcnt : l.length ≤ 1000000000)
    (hf : ∀ W (v : DT), v ∈ l → Inv W → ∀ cs, DIn W B v cs → Calls Tryz.prog fk (#[.agg cs.toArray] ++ cap) W fun e w' => e = .returned (.bool (P v)) ∧ Inv w') :
    Calls Tryz.prog 66 #[.slice A1 l.length c1, .func (.func fk) #[] cap] w fun e w' => e = .returned (.bool (l.any P)) ∧ Inv w' := by
  have K := Lib.hid (indexFuncDecl_any fk hent cap l A1 c1 B Inv P w h0 hrow hcnt hf)
  obtain ⟨b, hb0⟩ : ∃ b : Bool, b = l.any P := ⟨_, rfl⟩
  rw [← hb0] at K ⊢
  clear hcnt hb0 h0 hrow hf
  go_enter Tryz.func66, Tryz.ntmps66
  go_wp2_with fail
  refine K.out.mono ?_
  rintro e1 w1 ⟨⟨r, rfl, hr⟩, hi1⟩
  have HI1 := Lib.hid hi1
  clear hi1
  go_wp2_with fail
  go_ret
  exact ⟨by rw [← hr]; rfl, HI1.out⟩
end Go.Proofs.YtbgilpmoijdcfaaGreat

/-
  lookup.Find, Type of few declarations: nothing at all is changed; rules' own look-ups BY CONTRACTS.
-/
namespace Go.Proofs.YtbgilpmoijdcfaaGreat
open Go Go.RowKit Go.Shelf
set_option linter.unusedVariables false
set_option linter.unusedSimpArgs false

set_option maxHeartbeats 1000000 in
set_option maxRecDepth 100000 in
theorem lkFind_quiet (L : List DT) (A : Option Addr) (c p N : Nat) (I : IX) (s : ByteArray) (w : World) (h : XAt L A c p N w I) (hfit : Fit L) :
    Calls Tryz.prog 68 #[.pointer (some ⟨p, 0, none⟩), .string s] w fun e w' => e = .returned (.int .i64 (findT L s)) ∧ Hid (Below w.heap.size w w') := by
  have hcnt := hfit.cnt
  have hfew := hfit.len
  obtain ⟨R0, hR0⟩ : ∃ R0 : World, R0 = w.alloc (.cells #[.pointer (some ⟨p, 0, none⟩)] 44) := ⟨_, rfl⟩
  have hb0 : Below w.heap.size w R0 := by rw [hR0]; exact (Below.refl _ _).alloc (Nat.le_refl _) _
  have hg : R0.heap[w.heap.size]? = some (.cells #[.pointer (some ⟨p, 0, none⟩)] 44 (0, 0)) := by rw [hR0]; exact heap_alloc_new w _
  have yx : R0.cell? ⟨w.heap.size, 0, none⟩ = some (.pointer (some ⟨p, 0, none⟩)) := by rw [cell_of_row _ _ 0 _ _ _ hg]; rfl
  have hx := h.below hb0
  have y0 := hx.c0
  have q : (L.length : Int) ≤ 32 := by omega
  have KF : Hid (∀ W, Below R0.heap.size R0 W → Calls Tryz.prog 92 #[.agg #[.slice A L.length c], .string s] W fun e w' => e = .returned (.int .i64 (findT L s)) ∧ Hid (Below R0.heap.size R0 w')) := fun W hW => (lkFind0_any L A c s W ((hx.below hW).rowAt) hcnt).mono fun e w' hh => ⟨hh.1, hW.trans (hh.2.mono hW.size)⟩
  have HB := Lib.hid hb0
  have HR0 := Lib.hid hR0
  clear h hx hg hb0
  rw [hR0] at y0 yx
  clear hR0 hfit
  go_enter Tryz.func68, Tryz.ntmps68
  go_wp2_with fail
  rw [← HR0.out]
  refine (KF.out _ (Below.refl _ _)).mono ?_
  rintro e1 w1 ⟨rfl, hb1⟩
  go_wp2_with fail
  go_ret
  exact ⟨rfl, HB.out.trans (hb1.out.mono HB.out.size)⟩
set_option maxHeartbeats 1000000 in
set_option maxRecDepth 100000 in
theorem lkType_quiet (L : List DT) (A : Option Addr) (c p N : Nat) (I : IX) (s : ByteArray) (w : World) (h : XAt L A c p N w I) (hfit : Fit L) :
    Calls Tryz.prog 96 #[.pointer (some ⟨p, 0, none⟩), .string s] w fun e w' => e = .returned (typeV L s) ∧ Hid (Below w.heap.size w w') := by
  obtain ⟨d, hd⟩ : ∃ d, d = findT L s := ⟨_, rfl⟩
  have KF : Hid (Calls Tryz.prog 68 #[.pointer (some ⟨p, 0, none⟩), .string s] w fun e w' => e = .returned (.int .i64 d) ∧ Hid (Below w.heap.size w w')) := hd ▸ lkFind_quiet L A c p N I s w h hfit
  obtain ⟨b2, hb2⟩ : ∃ b, b = isOfT L d 2 := ⟨_, rfl⟩
  obtain ⟨b1, hb1⟩ : ∃ b, b = isOfT L d 1 := ⟨_, rfl⟩
  have K2 : Hid (∀ W, Hid (Below w.heap.size w W) → Calls Tryz.prog 79 #[.pointer (some ⟨p, 0, none⟩), .int .i64 d, .int .i64 2] W fun e w' => e = .returned (.bool b2) ∧ Hid (Below w.heap.size w w')) := fun W hx => hb2 ▸ (lkIsOf_any L A c p N I d 2 W (h.below hx.out)).mono fun e w' hh => ⟨hh.1, hx.out.trans (hh.2.out.mono hx.out.size)⟩
  have K1 : Hid (∀ W, Hid (Below w.heap.size w W) → Calls Tryz.prog 79 #[.pointer (some ⟨p, 0, none⟩), .int .i64 d, .int .i64 1] W fun e w' => e = .returned (.bool b1) ∧ Hid (Below w.heap.size w w')) := fun W hx => hb1 ▸ (lkIsOf_any L A c p N I d 1 W (h.below hx.out)).mono fun e w' hh => ⟨hh.1, hx.out.trans (hh.2.out.mono hx.out.size)⟩
  have hv : typeV L s = .tuple #[.int .i64 (if (b2 || b1) then d else 0), .bool (b2 || b1)] := by unfold typeV thingT; rw [← hd, ← hb2, ← hb1]
  rw [hv]
  clear hv hb1 hb2 hd h hfit
  go_enter Tryz.func96, Tryz.ntmps96
  go_wp2_with fail
  refine KF.out.mono ?_
  rintro e1 w1 ⟨rfl, hx1⟩
  go_wp2_with fail
  refine (K2.out _ hx1).mono ?_
  rintro e2 w2 ⟨rfl, hx2⟩
  cases b2
  case' false =>
    go_wp2_with fail
    refine (K1.out _ hx2).mono ?_
    rintro e3 w3 ⟨rfl, hx3⟩
    cases b1
    case false =>
      go_wp2_with fail
      go_ret2
      exact ⟨rfl, hx3⟩
    have hx2 := hx3
  all_goals
    go_wp2_with fail
    go_ret2
    exact ⟨rfl, hx2⟩
theorem namedT_out {L : List DT} {s : ByteArray} {q : Int} (h : ¬ 0 ≤ findT L s) : namedT L s q = false := by
  unfold namedT
  rw [decide_eq_false h]
  rfl
theorem findT_lt {L : List DT} {s : ByteArray} (h : 0 ≤ findT L s) : ∃ k : Nat, findT L s = k ∧ k < L.length := by
  have := findT_le L s
  exact ⟨(findT L s).toNat, by omega, by omega⟩
theorem kindT_at {L : List DT} {k : Nat} (h : k < L.length) : kindT L (k : Int) = L[k].kind := by
  have h1 : (k : Int) < (L.length : Int) := by omega
  simp [kindT, h1, List.getElem?_eq_getElem h]
set_option maxHeartbeats 1000000 in
set_option maxRecDepth 100000 in
theorem named_any (X : AX) (I : IX) (s : ByteArray) (q : Int) (w : World) (h : XOk X w I) :
    Calls Tryz.prog 43 #[X.val, .string s, .int .i64 q] w fun e w' => e = .returned (.tuple #[.int .i64 (findT X.L s), .bool (namedT X.L s q)]) ∧ Hid (Below w.heap.size w w') := by
  obtain ⟨R0, hR0⟩ : ∃ R0 : World, R0 = w.alloc (.cells X.cells 55) := ⟨_, rfl⟩
  have B0 : ABox X w R0 I := hR0 ▸ ABox.of h
  have HB := Lib.hid B0
  have HB0 : Hid (Below R0.heap.size R0 R0) := Below.refl _ _
  have KF : Hid (∀ W, Hid (Below R0.heap.size R0 W) → Calls Tryz.prog 68 #[.pointer (some ⟨X.p, 0, none⟩), .string s] W fun e w' => e = .returned (.int .i64 (findT X.L s)) ∧ Hid (Below R0.heap.size R0 w')) := fun W hW => (lkFind_quiet X.L X.A X.c X.p X.N I s W (B0.ok.below hW.out).ix h.fit).mono fun e w' hh => ⟨hh.1, hW.out.trans (hh.2.out.mono hW.out.size)⟩
  have HO : Hid (∀ W, Hid (Below R0.heap.size R0 W) → Hid (Below w.heap.size w W)) := fun W hW => B0.below.trans (hW.out.mono B0.below.size)
  have CE : Hid (∀ W, Hid (Below R0.heap.size R0 W) → W.cell? ⟨w.heap.size, 0, none⟩ = some (.slice X.A X.L.length X.c) ∧ DsR W W.heap.size X.A X.L) := fun W hW => ⟨(B0.cells (XTo.of_below (I := I) hW.out)).unit, (B0.ok.below hW.out).ix.rowAt⟩
  have y0 := (B0.cells (XTo.of_below (I := I) HB0.out)).unit
  have y1 := (B0.cells (XTo.of_below (I := I) HB0.out)).ix
  have hR0' := hR0
  have HR0 := Lib.hid hR0
  rw [hR0] at y0 y1
  clear hR0 hR0' B0 h
  have hF : (¬ 0 ≤ findT X.L s) ∨ ∃ k : Nat, findT X.L s = k ∧ k < X.L.length := by
    by_cases h0 : 0 ≤ findT X.L s
    · exact .inr (findT_lt h0)
    · exact .inl h0
  obtain ⟨r, hr⟩ : ∃ r, r = namedT X.L s q := ⟨_, rfl⟩
  have HRN : Hid (r = (decide (0 ≤ findT X.L s) && decide (kindT X.L (findT X.L s) = q))) := hr
  rw [← hr]
  obtain ⟨d, hd⟩ : ∃ d, d = findT X.L s := ⟨_, rfl⟩
  rw [← hd] at KF HRN hF ⊢
  clear hr hd
  go_enter Tryz.func43, Tryz.ntmps43
  go_wp2_with fail
  rw [← HR0.out]
  refine (KF.out _ HB0).mono ?_
  rintro e1 w1 ⟨rfl, hb1⟩
  clear y0 y1
  obtain ⟨y0, ha⟩ := CE.out _ hb1
  rcases hF with h0 | ⟨k, rfl, hk⟩
  · have HQ : Hid (r = false) := Lib.hid (by rw [HRN.out, decide_eq_false (by omega)]; rfl)
    have hz : decide (0 ≤ d) = false := decide_eq_false (by omega)
    clear ha h0
    go_wp2_with fail
    go_quiet (fail)
    go_wp2
    go_ret2
    exact ⟨by rw [HQ.out]; rfl, HO.out _ (below_drewN hb1.out _)⟩
  · have h0 : (0 : Int) ≤ (k : Int) := by omega
    have h1 : (k : Int) < (X.L.length : Int) := by omega
    have hkk := kindT_at hk
    obtain ⟨g, o, cs, hA, hg, hlen, hc, he⟩ := ha k hk
    obtain ⟨D, hN⟩ : ∃ D : DT, D = X.L[k] := ⟨_, rfl⟩
    rw [← hN] at he hkk
    obtain ⟨A1, c1, A2, c2, A3, c3, A4, c4, rfl, _⟩ := he
    have y2 := hc 0 _ rfl
    rw [Nat.add_zero] at y2
    rw [hA] at y0
    have HK : Hid (r = decide (D.kind = q)) := Lib.hid (by rw [HRN.out, hkk, decide_eq_true h0]; rfl)
    clear hc hlen hg hN hkk hA ha
    by_cases hq : D.kind = q
    · subst hq
      have HQ : Hid (r = true) := Lib.hid (by rw [HK.out]; exact decide_eq_true rfl)
      have hz : decide (0 ≤ (k : Int)) = true := decide_eq_true h0
      go_wp2_with fail
      go_quiet (fail)
      go_wp2
      go_ret2
      exact ⟨by rw [HQ.out]; rfl, HO.out _ (below_drewN hb1.out _)⟩
    · have q1 := eq_no hq
      have HQ : Hid (r = false) := Lib.hid (by rw [HK.out]; exact decide_eq_false (by first | exact hq | omega))
      clear hq
      have hz : decide (0 ≤ (k : Int)) = true := decide_eq_true h0
      go_wp2_with fail
      go_quiet (fail)
      go_wp2
      go_ret2
      exact ⟨by rw [HQ.out]; rfl, HO.out _ (below_drewN hb1.out _)⟩
end Go.Proofs.YtbgilpmoijdcfaaGreat

/-
  rules: which types may be of a parameter, a field, a program's variable, BY CONTRACTS.
-/
namespace Go.Proofs.YtbgilpmoijdcfaaGreat
open Go Go.RowKit Go.Shelf
set_option linter.unusedVariables false
set_option linter.unusedSimpArgs false

abbrev tcells (t : YT) : Array Value := #[.int .i64 t.kind, .int .i64 t.lo, .int .i64 t.hi, .string t.name]
/-- what is asked, and a type: two blocks, as a call lays them. -/
structure ATBox (X : AX) (t : YT) (w R0 : World) (I : IX) : Prop where
  box : ABox X w R0 I
  ty : R0.heap[w.heap.size + 1]? = some (.cells (tcells t) 38 (0, 0))
theorem ATBox.of {X : AX} {w : World} {I : IX} (t : YT) (h : XOk X w I) : ATBox X t w ((w.alloc (.cells X.cells 55)).alloc (.cells (tcells t) 38)) I :=
  ⟨(ABox.of h).alloc _, by have := heap_alloc_new (w.alloc (.cells X.cells 55)) (.cells (tcells t) 38); simpa using this⟩
structure ATCells (X : AX) (t : YT) (w W : World) : Prop where
  ix : W.cell? ⟨w.heap.size, 1, none⟩ = some (.pointer (some ⟨X.p, 0, none⟩))
  unit : W.cell? ⟨w.heap.size, 0, none⟩ = some (.slice X.A X.L.length X.c)
  kind : W.cell? ⟨w.heap.size + 1, 0, none⟩ = some (.int .i64 t.kind)
  lo : W.cell? ⟨w.heap.size + 1, 1, none⟩ = some (.int .i64 t.lo)
  hi : W.cell? ⟨w.heap.size + 1, 2, none⟩ = some (.int .i64 t.hi)
  name : W.cell? ⟨w.heap.size + 1, 3, none⟩ = some (.string t.name)
theorem ATBox.cells {X : AX} {t : YT} {w R0 W : World} {I : IX} (h : ATBox X t w R0 I) (hb : Below R0.heap.size R0 W) : ATCells X t w W :=
  have c := h.box.cells (XTo.of_below (I := I) hb)
  have q := (hb.block _ (Array.getElem?_eq_some_iff.1 h.ty).1).trans h.ty
  ⟨c.ix, c.unit, (cell_of_row _ _ 0 _ _ _ q).trans rfl, (cell_of_row _ _ 1 _ _ _ q).trans rfl, (cell_of_row _ _ 2 _ _ _ q).trans rfl, (cell_of_row _ _ 3 _ _ _ q).trans rfl⟩
/-- all of what is asked, for a copy of it. -/
theorem ATBox.all {X : AX} {t : YT} {w R0 W : World} {I : IX} (h : ATBox X t w R0 I) (hb : Below R0.heap.size R0 W) : ACells X W w.heap.size := h.box.cells (XTo.of_below (I := I) hb)
set_option maxHeartbeats 1000000 in
set_option maxRecDepth 100000 in
theorem mayHand_any (X : AX) (I : IX) (t : YT) (w : World) (h : XOk X w I) :
    Calls Tryz.prog 73 #[X.val, .agg (tcells t)] w fun e w' => e = .returned (.bool (handT X.L t)) ∧ Hid (Below w.heap.size w w') := by
  obtain ⟨R0, hR0⟩ : ∃ R0 : World, R0 = (w.alloc (.cells X.cells 55)).alloc (.cells (tcells t) 38) := ⟨_, rfl⟩
  have B0 : ATBox X t w R0 I := hR0 ▸ ATBox.of t h
  have HB0 : Hid (Below R0.heap.size R0 R0) := Below.refl _ _
  have HO : Hid (∀ W, Hid (Below R0.heap.size R0 W) → Hid (Below w.heap.size w W)) := fun W hW => B0.box.below.trans (hW.out.mono B0.box.below.size)
  have OK : Hid (∀ W, Hid (Below R0.heap.size R0 W) → XOk X W I) := fun W hW => B0.box.ok.below hW.out
  have CE : Hid (∀ W, Hid (Below R0.heap.size R0 W) → ATCells X t w W) := fun W hW => B0.cells hW.out
  have HR0 := Lib.hid hR0
  have KT : Hid (∀ W, Hid (Below R0.heap.size R0 W) → Calls Tryz.prog 96 #[.pointer (some ⟨X.p, 0, none⟩), .string t.name] W fun e w' => e = .returned (typeV X.L t.name) ∧ Hid (Below R0.heap.size R0 w')) := fun W hW => (lkType_quiet X.L X.A X.c X.p X.N I t.name W (B0.box.ok.below hW.out).ix h.fit).mono fun e w' hh => ⟨hh.1, hW.out.trans (hh.2.out.mono hW.out.size)⟩
  obtain ⟨r, hr⟩ : ∃ r, r = handT X.L t := ⟨_, rfl⟩
  rw [← hr]
  obtain ⟨y1, -, z0, -, -, z3⟩ := CE.out _ HB0
  rw [hR0] at y1 z0 z3
  clear hR0 B0 h
  obtain ⟨tk, lo, hi, tn⟩ := t
  simp only at y1 z0 z3 KT
  simp only [tcells] at y1 z0 z3 HR0 ⊢
  by_cases h1 : tk = 1
  · subst h1
    have HQ : Hid (r = true) := Lib.hid (by rw [hr, handT, if_pos (.inl rfl)])
    clear hr KT
    go_enter Tryz.func73, Tryz.ntmps73
    go_wp2_with fail
    go_ret
    exact ⟨by rw [HQ.out]; rfl, HR0.out ▸ HO.out _ HB0⟩
  by_cases h2 : tk = 2
  · subst h2
    have HQ : Hid (r = true) := Lib.hid (by rw [hr, handT, if_pos (.inr rfl)])
    clear hr KT h1
    go_enter Tryz.func73, Tryz.ntmps73
    go_wp2_with fail
    go_ret
    exact ⟨by rw [HQ.out]; rfl, HR0.out ▸ HO.out _ HB0⟩
  by_cases h5 : tk = 5
  · subst h5
    have HQ : Hid (r = thingT X.L tn) := Lib.hid (by rw [hr, handT, if_neg (by simp), if_pos rfl])
    unfold typeV at KT
    rw [← HQ.out] at KT
    obtain ⟨d, hd⟩ : ∃ d, d = (if r = true then findT X.L tn else 0) := ⟨_, rfl⟩
    rw [← hd] at KT
    clear hr h1 h2 hd
    go_enter Tryz.func73, Tryz.ntmps73
    go_wp2_with fail
    rw [← HR0.out]
    refine (KT.out _ HB0).mono ?_
    rintro e1 w1 ⟨rfl, hb1⟩
    clear y1 z0 z3
    go_wp2_with fail
    go_ret
    exact ⟨rfl, HO.out _ hb1⟩
  · have q1 := eq_no h1
    have q2 := eq_no h2
    have q5 := eq_no h5
    have HQ : Hid (r = false) := Lib.hid (by rw [hr, handT, if_neg (by simp [h1, h2]), if_neg (by simp [h5])])
    clear hr h1 h2 h5 KT
    go_enter Tryz.func73, Tryz.ntmps73
    go_wp2_with fail
    go_ret
    exact ⟨by rw [HQ.out]; rfl, HR0.out ▸ HO.out _ HB0⟩
set_option maxHeartbeats 1000000 in
set_option maxRecDepth 100000 in
theorem mayKeep_any (X : AX) (I : IX) (t : YT) (w : World) (h : XOk X w I) :
    Calls Tryz.prog 76 #[X.val, .agg (tcells t)] w fun e w' => e = .returned (.bool (keepT X.L t)) ∧ Hid (Below w.heap.size w w') := by
  obtain ⟨R0, hR0⟩ : ∃ R0 : World, R0 = (w.alloc (.cells X.cells 55)).alloc (.cells (tcells t) 38) := ⟨_, rfl⟩
  have B0 : ATBox X t w R0 I := hR0 ▸ ATBox.of t h
  have HB0 : Hid (Below R0.heap.size R0 R0) := Below.refl _ _
  have HO : Hid (∀ W, Hid (Below R0.heap.size R0 W) → Hid (Below w.heap.size w W)) := fun W hW => B0.box.below.trans (hW.out.mono B0.box.below.size)
  have OK : Hid (∀ W, Hid (Below R0.heap.size R0 W) → XOk X W I) := fun W hW => B0.box.ok.below hW.out
  have CE : Hid (∀ W, Hid (Below R0.heap.size R0 W) → ATCells X t w W) := fun W hW => B0.cells hW.out
  have HR0 := Lib.hid hR0
  have KB : Hid (∀ W n lo hi, Hid (Below R0.heap.size R0 W) → Calls Tryz.prog 64 #[.int .i64 n, .int .i64 lo, .int .i64 hi] W fun e w' => e = .returned (.bool (btwT n lo hi)) ∧ Hid (Below R0.heap.size R0 w')) := fun W n lo hi hW => (between_any n lo hi W).mono fun e w' hh => ⟨hh.1, hW.out.trans (hh.2.out.mono hW.out.size)⟩
  have KH : Hid (∀ W, Hid (Below R0.heap.size R0 W) → Calls Tryz.prog 73 #[X.val, .agg (tcells t)] W fun e w' => e = .returned (.bool (handT X.L t)) ∧ Hid (Below R0.heap.size R0 w')) := fun W hW => (mayHand_any X I t W (B0.box.ok.below hW.out)).mono fun e w' hh => ⟨hh.1, hW.out.trans (hh.2.out.mono hW.out.size)⟩
  obtain ⟨r, hr⟩ : ∃ r, r = keepT X.L t := ⟨_, rfl⟩
  rw [← hr]
  obtain ⟨y1, y0, z0, z1, z2, z3⟩ := CE.out _ HB0
  obtain ⟨-, -, a2, a3, a4, a5, a6, a7, a8, a9, a10, a11, a12, a13⟩ := B0.all HB0.out
  rw [hR0] at y0 y1 z0 z1 z2 z3 a2 a3 a4 a5 a6 a7 a8 a9 a10 a11 a12 a13
  clear hR0 B0 h
  obtain ⟨tk, lo, hi, tn⟩ := t
  simp only at y0 y1 z0 z1 z2 z3 KH
  simp only [tcells] at y0 y1 z0 z1 z2 z3 a2 a3 a4 a5 a6 a7 a8 a9 a10 a11 a12 a13 HR0 KH ⊢
  by_cases h1 : tk = 3
  · subst h1
    have HQ0 : Hid (r = (decide (-32768 ≤ lo) && decide (hi ≤ 32767) && decide (lo ≤ hi))) := Lib.hid (by rw [hr, keepT, if_pos rfl])
    clear hr KH KB a2 a3 a4 a5 a6 a7 a8 a9 a10 a11 a12 a13
    by_cases p1 : -32768 ≤ lo
    · by_cases p2 : hi ≤ 32767
      · by_cases p3 : lo ≤ hi
        · have HQ : Hid (r = true) := Lib.hid (by rw [HQ0.out, decide_eq_true p1, decide_eq_true p2, decide_eq_true p3]; rfl)
          have s1 : decide (lo ≥ -32768) = true := decide_eq_true p1
          go_enter Tryz.func76, Tryz.ntmps76
          go_wp2_with fail
          go_ret
          exact ⟨by rw [HQ.out]; rfl, HR0.out ▸ HO.out _ HB0⟩
        · have HQ : Hid (r = false) := Lib.hid (by rw [HQ0.out, decide_eq_false p3, Bool.and_false])
          go_enter Tryz.func76, Tryz.ntmps76
          go_wp2_with fail
          go_ret
          exact ⟨by rw [HQ.out]; rfl, HR0.out ▸ HO.out _ HB0⟩
      · have HQ : Hid (r = false) := Lib.hid (by rw [HQ0.out, decide_eq_false p2, Bool.and_false, Bool.false_and])
        go_enter Tryz.func76, Tryz.ntmps76
        go_wp2_with fail
        go_ret
        exact ⟨by rw [HQ.out]; rfl, HR0.out ▸ HO.out _ HB0⟩
    · have HQ : Hid (r = false) := Lib.hid (by rw [HQ0.out, decide_eq_false p1, Bool.false_and, Bool.false_and])
      go_enter Tryz.func76, Tryz.ntmps76
      go_wp2_with fail
      go_ret
      exact ⟨by rw [HQ.out]; rfl, HR0.out ▸ HO.out _ HB0⟩
  by_cases h2 : tk = 4
  · subst h2
    have HQ : Hid (r = btwT hi 0 7) := Lib.hid (by rw [hr, keepT, if_neg (by simp), if_pos rfl])
    clear hr KH h1 a2 a3 a4 a5 a6 a7 a8 a9 a10 a11 a12 a13
    go_enter Tryz.func76, Tryz.ntmps76
    go_wp2_with fail
    rw [← HR0.out]
    refine (KB.out _ _ _ _ HB0).mono ?_
    rintro e1 w1 ⟨rfl, hb1⟩
    clear y0 y1 z0 z1 z2 z3
    rw [← HQ.out]
    go_wp2_with fail
    go_ret
    exact ⟨rfl, HO.out _ hb1⟩
  · have q1 := eq_no h1
    have q2 := eq_no h2
    have HQ : Hid (r = handT X.L ⟨tk, lo, hi, tn⟩) := Lib.hid (by rw [hr, keepT, if_neg (by simp [h1]), if_neg (by simp [h2])])
    rw [← HQ.out] at KH
    clear hr h1 h2 KB
    go_enter Tryz.func76, Tryz.ntmps76
    go_wp2_with fail
    rw [← HR0.out]
    refine (KH.out _ HB0).mono ?_
    rintro e1 w1 ⟨rfl, hb1⟩
    clear y0 y1 z0 z1 z2 z3 a2 a3 a4 a5 a6 a7 a8 a9 a10 a11 a12 a13
    go_wp2_with fail
    go_ret
    exact ⟨rfl, HO.out _ hb1⟩
set_option maxHeartbeats 1000000 in
set_option maxRecDepth 100000 in
theorem mayHold_any (X : AX) (I : IX) (t : YT) (w : World) (h : XOk X w I) :
    Calls Tryz.prog 61 #[X.val, .agg (tcells t)] w fun e w' => e = .returned (.bool (holdT X.L t)) ∧ Hid (Below w.heap.size w w') := by
  obtain ⟨R0, hR0⟩ : ∃ R0 : World, R0 = (w.alloc (.cells X.cells 55)).alloc (.cells (tcells t) 38) := ⟨_, rfl⟩
  have B0 : ATBox X t w R0 I := hR0 ▸ ATBox.of t h
  have HB0 : Hid (Below R0.heap.size R0 R0) := Below.refl _ _
  have HO : Hid (∀ W, Hid (Below R0.heap.size R0 W) → Hid (Below w.heap.size w W)) := fun W hW => B0.box.below.trans (hW.out.mono B0.box.below.size)
  have OK : Hid (∀ W, Hid (Below R0.heap.size R0 W) → XOk X W I) := fun W hW => B0.box.ok.below hW.out
  have CE : Hid (∀ W, Hid (Below R0.heap.size R0 W) → ATCells X t w W) := fun W hW => B0.cells hW.out
  have HR0 := Lib.hid hR0
  have KB : Hid (∀ W n lo hi, Hid (Below R0.heap.size R0 W) → Calls Tryz.prog 64 #[.int .i64 n, .int .i64 lo, .int .i64 hi] W fun e w' => e = .returned (.bool (btwT n lo hi)) ∧ Hid (Below R0.heap.size R0 w')) := fun W n lo hi hW => (between_any n lo hi W).mono fun e w' hh => ⟨hh.1, hW.out.trans (hh.2.out.mono hW.out.size)⟩
  have KH : Hid (∀ W, Hid (Below R0.heap.size R0 W) → Calls Tryz.prog 76 #[X.val, .agg (tcells t)] W fun e w' => e = .returned (.bool (keepT X.L t)) ∧ Hid (Below R0.heap.size R0 w')) := fun W hW => (mayKeep_any X I t W (B0.box.ok.below hW.out)).mono fun e w' hh => ⟨hh.1, hW.out.trans (hh.2.out.mono hW.out.size)⟩
  have KN : Hid (∀ W, Hid (Below R0.heap.size R0 W) → Calls Tryz.prog 43 #[X.val, .string t.name, .int .i64 2] W fun e w' => e = .returned (.tuple #[.int .i64 (findT X.L t.name), .bool (namedT X.L t.name 2)]) ∧ Hid (Below R0.heap.size R0 w')) := fun W hW => (named_any X I t.name 2 W (B0.box.ok.below hW.out)).mono fun e w' hh => ⟨hh.1, hW.out.trans (hh.2.out.mono hW.out.size)⟩
  obtain ⟨r, hr⟩ : ∃ r, r = holdT X.L t := ⟨_, rfl⟩
  rw [← hr]
  obtain ⟨y1, y0, z0, z1, z2, z3⟩ := CE.out _ HB0
  obtain ⟨-, -, a2, a3, a4, a5, a6, a7, a8, a9, a10, a11, a12, a13⟩ := B0.all HB0.out
  rw [hR0] at y0 y1 z0 z1 z2 z3 a2 a3 a4 a5 a6 a7 a8 a9 a10 a11 a12 a13
  clear hR0 B0 h
  obtain ⟨tk, lo, hi, tn⟩ := t
  simp only at y0 y1 z0 z1 z2 z3 KH KN
  simp only [tcells] at y0 y1 z0 z1 z2 z3 a2 a3 a4 a5 a6 a7 a8 a9 a10 a11 a12 a13 HR0 KH KN ⊢
  by_cases h1 : tk = 6
  · subst h1
    have HQ0 : Hid (r = (namedT X.L tn 2 && !absT X.L (findT X.L tn))) := Lib.hid (by rw [hr, holdT, if_pos rfl])
    have hF : namedT X.L tn 2 = false ∨ (namedT X.L tn 2 = true ∧ ∃ k : Nat, findT X.L tn = k ∧ k < X.L.length) := by
      cases hh : namedT X.L tn 2
      · exact .inl rfl
      · have h0 : 0 ≤ findT X.L tn := by
          unfold namedT at hh
          simp at hh
          exact hh.1
        exact .inr ⟨rfl, findT_lt h0⟩
    obtain ⟨nb, hnb⟩ : ∃ b, b = namedT X.L tn 2 := ⟨_, rfl⟩
    obtain ⟨d, hd⟩ : ∃ d, d = findT X.L tn := ⟨_, rfl⟩
    rw [← hnb, ← hd] at KN HQ0 hF
    clear hr KH KB hnb hd
    go_enter Tryz.func61, Tryz.ntmps61
    go_wp2_with fail
    rw [← HR0.out]
    refine (KN.out _ HB0).mono ?_
    rintro e1 w1 ⟨rfl, hb1⟩
    clear y0 y1 z0 z1 z2 z3 a2 a3 a4 a5 a6 a7 a8 a9 a10 a11 a12 a13
    rcases hF with rfl | ⟨rfl, k, rfl, hk⟩
    · have HQ : Hid (r = false) := HQ0.out
      go_wp2_with fail
      go_ret
      exact ⟨by rw [HQ.out]; rfl, HO.out _ hb1⟩
    · have y0 := (CE.out _ hb1).unit
      have h0 : (0 : Int) ≤ (k : Int) := by omega
      have h1 : (k : Int) < (X.L.length : Int) := by omega
      obtain ⟨g, o, cs, hA, hg, hlen, hc, he⟩ := (OK.out _ hb1).ix.rowAt k hk
      have hab : absT X.L (k : Int) = X.L[k].abstract := by simp [absT, List.getElem?_eq_getElem hk]
      obtain ⟨D, hN⟩ : ∃ D : DT, D = X.L[k] := ⟨_, rfl⟩
      rw [← hN] at he hab
      obtain ⟨A1, c1, A2, c2, A3, c3, A4, c4, rfl, _⟩ := he
      have y2 := hc 4 _ rfl
      rw [hA] at y0
      obtain ⟨da, hda⟩ : ∃ b, b = D.abstract := ⟨_, rfl⟩
      rw [← hda] at y2 hab
      have HK : Hid (r = !da) := Lib.hid (by rw [HQ0.out, hab]; rfl)
      clear hc hlen hg hN hA hab hda
      cases da
      · have HQ : Hid (r = true) := HK.out
        go_wp2_with fail
        go_ret
        exact ⟨by rw [HQ.out]; rfl, HO.out _ hb1⟩
      · have HQ : Hid (r = false) := HK.out
        go_wp2_with fail
        go_ret
        exact ⟨by rw [HQ.out]; rfl, HO.out _ hb1⟩
  by_cases h2 : tk = 7
  · subst h2
    have HQ : Hid (r = btwT lo 1 7) := Lib.hid (by rw [hr, holdT, if_neg (by simp), if_pos rfl])
    clear hr KH KN h1 a2 a3 a4 a5 a6 a7 a8 a9 a10 a11 a12 a13
    go_enter Tryz.func61, Tryz.ntmps61
    go_wp2_with fail
    rw [← HR0.out]
    refine (KB.out _ _ _ _ HB0).mono ?_
    rintro e1 w1 ⟨rfl, hb1⟩
    clear y0 y1 z0 z1 z2 z3
    rw [← HQ.out]
    go_wp2_with fail
    go_ret
    exact ⟨rfl, HO.out _ hb1⟩
  · have q1 := eq_no h1
    have q2 := eq_no h2
    have HQ : Hid (r = keepT X.L ⟨tk, lo, hi, tn⟩) := Lib.hid (by rw [hr, holdT, if_neg (by simp [h1]), if_neg (by simp [h2])])
    rw [← HQ.out] at KH
    clear hr h1 h2 KB KN
    go_enter Tryz.func61, Tryz.ntmps61
    go_wp2_with fail
    rw [← HR0.out]
    refine (KH.out _ HB0).mono ?_
    rintro e1 w1 ⟨rfl, hb1⟩
    clear y0 y1 z0 z1 z2 z3 a2 a3 a4 a5 a6 a7 a8 a9 a10 a11 a12 a13
    go_wp2_with fail
    go_ret
    exact ⟨rfl, HO.out _ hb1⟩
end Go.Proofs.YtbgilpmoijdcfaaGreat

/-
  A map of names to values of any kind: what is found in it, what is put into it.
-/
namespace Go.Proofs.YtbgilpmoijdcfaaGreat
open Go Go.RowKit
set_option linter.unusedVariables false
set_option linter.unusedSimpArgs false

/-- what a list of names and values says of a name. -/
def sayF (l : List (ByteArray × Value)) (s : ByteArray) : Option Value := (l.find? (fun x => decide (x.1 = s))).map (·.2)
/-- a map's block says this of each name. -/
def MapAt (W : World) (mb : Nat) (f : ByteArray → Option Value) : Prop := ∃ es ck, W.heap[mb]? = some (.map es ck) ∧ ∃ l : List (ByteArray × Value), es.toList.map (fun e => (e.key, e.val)) = l.map (fun x => (Value.string x.1, x.2)) ∧ ∀ s, f s = sayF l s
theorem MapAt.stay {W W' : World} {mb : Nat} {f : ByteArray → Option Value} (h : MapAt W mb f) (hb : W'.heap[mb]? = W.heap[mb]?) : MapAt W' mb f := by
  obtain ⟨es, ck, h1, h2⟩ := h
  exact ⟨es, ck, hb.trans h1, h2⟩
theorem MapAt.lt {W : World} {mb : Nat} {f : ByteArray → Option Value} (h : MapAt W mb f) : mb < W.heap.size := by
  obtain ⟨es, ck, h1, h2⟩ := h
  exact (Array.getElem?_eq_some_iff.1 h1).1
theorem MapAt.new (W : World) : MapAt (W.alloc (.map #[] 0)) W.heap.size (fun _ => none) := ⟨#[], 0, heap_alloc_new W _, [], rfl, fun s => rfl⟩
theorem beq_bytes {a b : ByteArray} : (a == b) = decide (a = b) := by
  by_cases h : a = b
  · rw [decide_eq_true h]
    exact (MapKept.bytes_beq a b).2 h
  · rw [decide_eq_false h]
    cases hh : a == b
    · rfl
    · exact absurd ((MapKept.bytes_beq a b).1 hh) h
theorem findNow_say (s : ByteArray) : ∀ (es : List MapEntry) (l : List (ByteArray × Value)) (i : Nat), es.map (fun e => (e.key, e.val)) = l.map (fun x => (Value.string x.1, x.2)) → ∃ r, Instr.findNow .string (.string s) es i = some r ∧ r.map (·.2) = sayF l s ∧ (∀ j v, r = some (j, v) → i ≤ j ∧ ∃ e, es[j - i]? = some e ∧ e.key = .string s ∧ ∀ k, k < j - i → ∀ e', es[k]? = some e' → e'.key ≠ .string s)
  | [], l, i, h => by
    have : l = [] := by cases l with | nil => rfl | cons a b => simp at h
    subst this
    exact ⟨none, rfl, rfl, fun j v e => by cases e⟩
  | e :: es, [], i, h => by simp at h
  | e :: es, x :: l, i, h => by
    simp only [List.map_cons, List.cons.injEq, Prod.mk.injEq] at h
    obtain ⟨⟨hk, hv⟩, hr⟩ := h
    by_cases hx : x.1 = s
    · refine ⟨some (i, e.val), ?_, ?_, ?_⟩
      · simp [Instr.findNow, Instr.sameNow, hk, hx, beq_bytes]
      · simp [sayF, hx, hv]
      · intro j v ej
        simp only [Option.some.injEq, Prod.mk.injEq] at ej
        obtain ⟨rfl, rfl⟩ := ej
        refine ⟨Nat.le_refl _, e, by simp, by rw [hk, hx], fun k hk2 => by omega⟩
    · obtain ⟨r, h1, h2, h3⟩ := findNow_say s es l (i + 1) hr
      have hne : (s == x.1) = false := by rw [beq_bytes]; exact decide_eq_false fun e => hx e.symm
      refine ⟨r, ?_, ?_, ?_⟩
      · simp [Instr.findNow, Instr.sameNow, hk, hne, h1]
      · rw [h2]
        simp [sayF, hx]
      · intro j v ej
        obtain ⟨h4, e', h5, h6, h7⟩ := h3 j v ej
        refine ⟨by omega, e', ?_, h6, ?_⟩
        · rw [show j - i = (j - (i + 1)) + 1 by omega]
          simpa using h5
        · intro k hk2 e'' he
          match k, he with
          | 0, he =>
            simp only [List.getElem?_cons_zero, Option.some.injEq] at he
            subst he
            rw [hk]
            intro e3
            injection e3 with e3
            exact hx e3
          | k + 1, he =>
            exact h7 k (by omega) e'' (by simpa using he)
theorem run_lookup {P : Program} {t k E : TypeId} {W : World} {mb : Nat} {f : ByteArray → Option Value} {z : Value} (ht : P.underlying t = some (.map k E)) (hk : P.underlying k = some .string) (hz : ∀ W, (zeroValue E).run P W = .ok z W) (h : MapAt W mb f) (s : ByteArray) :
    (Instr.lookup t (.map (some mb)) (.string s) true).run P W = .ok (.tuple #[(f s).getD z, .bool (f s).isSome]) W := by
  obtain ⟨es, ck, h1, l, h2, h3⟩ := h
  obtain ⟨r, h4, h5, -⟩ := findNow_say s es.toList l 0 h2
  have hf : f s = r.map (·.2) := by rw [h5, h3]
  have hg : (getObj mb).run P W = .ok (.map es ck) W := by simp [getObj, Sem.run, h1]
  rw [hf]
  have hfk : (Instr.findKey k (.string s) es.toList).run P W = .ok r W := by
    unfold Instr.findKey
    simp [run_underlying hk, h4]
  have hck : (Instr.checkKey es.isEmpty 10000 k (.string s)).run P W = .ok () W := by
    rw [show (10000 : Nat) = 9999 + 1 from rfl, Instr.checkKey]
    simp [run_underlying hk]
  unfold Instr.lookup
  cases r with
  | none => simp [run_underlying ht, run_underlying hk, hg, hck, hfk, hz]
  | some jv => simp [run_underlying ht, run_underlying hk, hg, hck, hfk]
theorem sayF_set (s x : ByteArray) (v : Value) : ∀ (l : List (ByteArray × Value)) (j : Nat) (hj : j < l.length), l[j].1 = s → (∀ k (hk : k < j), l[k].1 ≠ s) → sayF (l.set j (s, v)) x = if x = s then some v else sayF l x
  | a :: l, 0, _, h1, _ => by
    simp only [List.getElem_cons_zero] at h1
    by_cases hx : x = s
    · simp [sayF, hx]
    · have h2 : ¬ a.1 = x := fun e => hx (e ▸ h1)
      have h3 : ¬ s = x := fun e => hx e.symm
      simp [sayF, hx, h2, h3]
  | a :: l, j + 1, hj, h1, h2 => by
    have ih := sayF_set s x v l j (by simpa using hj) (by simpa using h1) (fun k hk => by have := h2 (k + 1) (by omega); simpa using this)
    have h0 : ¬ a.1 = s := by have := h2 0 (by omega); simpa using this
    by_cases ha : a.1 = x
    · have hx : ¬ x = s := fun e => h0 (ha.trans e)
      simp [sayF, ha, hx]
    · have e1 : sayF ((a :: l).set (j + 1) (s, v)) x = sayF (l.set j (s, v)) x := by simp [sayF, ha]
      have e2 : sayF (a :: l) x = sayF l x := by simp [sayF, ha]
      rw [e1, e2, ih]
/-- put into a map. -/
theorem run_update {P : Program} {t k E : TypeId} {W : World} {mb : Nat} {f g : ByteArray → Option Value} (ht : P.underlying t = some (.map k E)) (hk : P.underlying k = some .string) (h : MapAt W mb f) (s : ByteArray) (v : Value) (hg : ∀ x, g x = if x = s then some v else f x) :
    ∃ W', (Instr.mapUpdate t (.map (some mb)) (.string s) v).run P W = .ok () W' ∧ MapAt W' mb g ∧ W'.os = W.os ∧ W'.tape = W.tape ∧ W'.output = W.output ∧ W'.heap.size = W.heap.size ∧ ∀ j, j ≠ mb → W'.heap[j]? = W.heap[j]? := by
  obtain ⟨es, ck, h1, l, h2, h3⟩ := h
  obtain ⟨r, h4, h5, h6⟩ := findNow_say s es.toList l 0 h2
  have hgo : (getObj mb).run P W = .ok (.map es ck) W := by simp [getObj, Sem.run, h1]
  have hso : ∀ o, (setObj mb o).run P W = .ok () (W.putObj mb o) := fun o => by simp [setObj, Sem.run, h1, World.putObj]
  have hfk : (Instr.findKey k (.string s) es.toList).run P W = .ok r W := by
    unfold Instr.findKey
    simp [run_underlying hk, h4]
  have hck : (Instr.checkKey false 10000 k (.string s)).run P W = .ok () W := by
    rw [show (10000 : Nat) = 9999 + 1 from rfl, Instr.checkKey]
    simp [run_underlying hk]
  have hml : mb < W.heap.size := (Array.getElem?_eq_some_iff.1 h1).1
  cases r with
  | none =>
    refine ⟨W.putObj mb (.map (es.push { key := .string s, val := v, born := ck }) (ck + 1)), ?_, ⟨_, _, World.putObj_heap_same hml, l ++ [(s, v)], ?_, fun x => ?_⟩, rfl, rfl, rfl, ?_, fun j hj => ?_⟩
    · unfold Instr.mapUpdate
      simp [run_underlying ht, hgo, hck, hfk, hso]
    · simp [h2]
    · rw [hg x, h3 x]
      have hn : sayF l s = none := h5.symm
      by_cases hx : x = s
      · subst hx
        unfold sayF at hn ⊢
        rw [Option.map_eq_none_iff] at hn
        simp [List.find?_append, hn]
      · have h9 : ¬ s = x := fun e => hx e.symm
        simp [sayF, List.find?_append, hx, h9]
    · simp
    · exact World.putObj_heap_other hj
  | some jv =>
    obtain ⟨j, vo⟩ := jv
    obtain ⟨-, e, he, hek, hfirst⟩ := h6 j vo rfl
    simp only [Nat.sub_zero] at he hfirst
    have hjl : j < es.size := by
      have := (List.getElem?_eq_some_iff.1 he).1
      simpa using this
    have hej : es[j]? = some e := by rw [← Array.getElem?_toList]; exact he
    have hks : (Instr.keyThatStays (((es[j]?).map (·.key)).getD (.string s)) (.string s)).run P W = .ok (.string s) W := by
      rw [hej]
      simp only [Option.map_some, Option.getD_some, hek]
      unfold Instr.keyThatStays
      have : Instr.sameBits 10000 (.string s) (.string s) = true := by
        rw [show (10000 : Nat) = 9999 + 1 from rfl, Instr.sameBits]
        exact (MapKept.bytes_beq s s).2 rfl
      simp [this]
    have hl : l.length = es.size := by
      have := congrArg List.length h2
      simpa using this.symm
    have hjl2 : j < l.length := by omega
    have hlk : ∀ (i : Nat) (hi : i < l.length), (es[i]'(by omega)).key = .string l[i].1 ∧ (es[i]'(by omega)).val = l[i].2 := fun i hi => by
      have h8 : (es.toList.map (fun e => (e.key, e.val)))[i]? = (l.map (fun x => (Value.string x.1, x.2)))[i]? := by rw [h2]
      have hi2 : i < es.size := by omega
      simp [hi, hi2] at h8
      exact h8
    refine ⟨W.putObj mb (.map (es.modify j fun e => { e with key := .string s, val := v }) ck), ?_, ⟨_, _, World.putObj_heap_same hml, l.set j (s, v), ?_, fun x => ?_⟩, rfl, rfl, rfl, by simp, fun i hi => World.putObj_heap_other hi⟩
    · unfold Instr.mapUpdate
      simp [run_underlying ht, hgo, hck, hfk, hks, hso]
    · apply List.ext_getElem
      · simp [hl]
      · intro i h7 h8
        simp only [List.length_map, Array.length_toList, Array.size_modify] at h7
        have hil : i < l.length := by omega
        by_cases hij : i = j
        · subst hij
          simp [Array.getElem_modify]
        · have := hlk i hil
          have h9 : ¬ j = i := fun e => hij e.symm
          simp [Array.getElem_modify, h9, this.1, this.2, List.getElem_set]
    · rw [hg x, h3 x]
      refine (sayF_set s x v l j hjl2 ?_ ?_).symm
      · have h8 := (hlk j hjl2).1
        have h9 : es[j] = e := by
          have := Array.getElem?_eq_getElem hjl
          rw [this] at hej
          injection hej
        rw [h9, hek] at h8
        injection h8 with h8
        exact h8.symm
      · intro k hk e2
        have h8 := (hlk k (by omega)).1
        refine hfirst k hk (es[k]'(by omega)) ?_ ?_
        · rw [List.getElem?_eq_getElem (by simp; omega)]
          simp
        · rw [h8, e2]
end Go.Proofs.YtbgilpmoijdcfaaGreat

/-
  rules: what a declaration is asked, BY CONTRACTS: its name, its size, a program's variables.
-/
namespace Go.Proofs.YtbgilpmoijdcfaaGreat
open Go Go.RowKit Go.Shelf
set_option linter.unusedVariables false
set_option linter.unusedSimpArgs false

theorem Tryz.enters_hasOddVar1 : Enters Tryz.prog 60 := enters_of Tryz.func60 (by kernel_rfl) rfl
theorem Tryz.enters_mayNotStart : Enters Tryz.prog 51 := enters_of Tryz.func51 (by kernel_rfl) rfl
theorem Tryz.enters_isGreatMethod : Enters Tryz.prog 67 := enters_of Tryz.func67 (by kernel_rfl) rfl
def againNameT (L : List DT) (s : ByteArray) (k : Nat) : Bool := decide (findT L s < (k : Int))
def greatMT (m : MT) : Bool := decide (3 < m.params.length) || decide (8 < m.vars.length)
def greatT (D : DT) (k : Nat) : Bool := decide (12 ≤ k) || decide (6 < D.methods.length) || decide (4 < D.faces.length) || decide (8 < D.vars.length) || D.methods.any greatMT
def oddVarT (L : List DT) (v : VT) : Bool := !holdT L v.type || !linkT v
set_option maxHeartbeats 1000000 in
set_option maxRecDepth 100000 in
theorem isNamedAgain_any (X : AX) (I : IX) (w : World) (h : XOk X w I) :
    Calls Tryz.prog 34 #[X.val] w fun e w' => e = .returned (.bool (againNameT X.L X.D.name X.k)) ∧ Hid (Below w.heap.size w w') := by
  obtain ⟨R0, hR0⟩ : ∃ R0 : World, R0 = w.alloc (.cells X.cells 55) := ⟨_, rfl⟩
  have B0 : ABox X w R0 I := hR0 ▸ ABox.of h
  have HB0 : Hid (Below R0.heap.size R0 R0) := Below.refl _ _
  have HO : Hid (∀ W, Hid (Below R0.heap.size R0 W) → Hid (Below w.heap.size w W)) := fun W hW => B0.below.trans (hW.out.mono B0.below.size)
  have OK : Hid (∀ W, Hid (Below R0.heap.size R0 W) → XOk X W I) := fun W hW => B0.ok.below hW.out
  have CE : Hid (∀ W, Hid (Below R0.heap.size R0 W) → ACells X W w.heap.size) := fun W hW => B0.cells (XTo.of_below (I := I) hW.out)
  have BX : Hid (∀ W, Hid (Below R0.heap.size R0 W) → W.heap[w.heap.size]? = some (.cells X.cells 55 (0, 0))) := fun W hW => B0.stays (XTo.of_below (I := I) hW.out)
  obtain ⟨a0, a1, a2, a3, a4, a5, a6, a7, a8, a9, a10, a11, a12, a13⟩ := CE.out _ HB0
  have HR0 := Lib.hid hR0
  rw [hR0] at a0 a1 a2 a3 a4 a5 a6 a7 a8 a9 a10 a11 a12 a13
  clear hR0 a0 a3 a5 a6 a7 a8 a9 a10 a11 a12 a13
  have KF : Hid (∀ W, Hid (Below R0.heap.size R0 W) → Calls Tryz.prog 68 #[.pointer (some ⟨X.p, 0, none⟩), .string X.D.name] W fun e w' => e = .returned (.int .i64 (findT X.L X.D.name)) ∧ Hid (Below R0.heap.size R0 w')) := fun W hW => (lkFind_quiet X.L X.A X.c X.p X.N I X.D.name W (OK.out _ hW).ix h.fit).mono fun e w' hh => ⟨hh.1, hW.out.trans (hh.2.out.mono hW.out.size)⟩
  obtain ⟨r, hr⟩ : ∃ r, r = againNameT X.L X.D.name X.k := ⟨_, rfl⟩
  have HR : Hid (r = decide (findT X.L X.D.name < (X.k : Int))) := hr
  rw [← hr]
  obtain ⟨d, hd⟩ : ∃ d, d = findT X.L X.D.name := ⟨_, rfl⟩
  rw [← hd] at HR KF
  clear hr hd B0 h
  go_enter Tryz.func34, Tryz.ntmps34
  go_wp2_with fail
  rw [← HR0.out] at a1 a2 a4 ⊢
  go_region_held3 (fun w' => w'.cell? ⟨w.heap.size, 1, none⟩ = some (.pointer (some ⟨X.p, 0, none⟩)) ∧ w'.cell? ⟨w.heap.size, 2, none⟩ = some (.int .i64 (X.k : Int)) ∧ w'.cell? ⟨w.heap.size, 4, none⟩ = some (.string X.D.name)) (first | exact ⟨(CE.out _ HB0).ix, (CE.out _ HB0).num, (CE.out _ HB0).name⟩ | exact ⟨(CE.out _ HB0.out.drew).ix, (CE.out _ HB0.out.drew).num, (CE.out _ HB0.out.drew).name⟩ | exact ⟨(CE.out _ hb1).ix, (CE.out _ hb1).num, (CE.out _ hb1).name⟩)
    (first | (go_at_call 68; refine (KF.out _ (by first | exact HB0 | exact HB0.out.drew)).mono ?_; rintro e1 w1 ⟨rfl, hb1⟩))
  go_wp2_with fail
  go_ret
  exact ⟨by rw [HR.out]; rfl, HO.out _ hb1⟩
set_option maxHeartbeats 1000000 in
theorem isGreatMethod_any (m : MT) (cs : List Value) (B : Nat) (w : World) (h : MIn w B m cs) : Calls Tryz.prog 67 #[.agg cs.toArray] w fun e w' => e = .returned (.bool (greatMT m)) ∧ Hid (Below w.heap.size w w') := by
  obtain ⟨P1, q1, P2, q2, P3, q3, rfl, -⟩ := h
  obtain ⟨R0, hR0⟩ : ∃ R0 : World, R0 = w.alloc (.cells #[.string m.name, .bool m.over, .bool m.abstract, .bool m.final, .slice P1 m.params.length q1, .int .i64 m.result.kind, .int .i64 m.result.lo, .int .i64 m.result.hi, .string m.result.name, .slice P2 m.vars.length q2, .slice P3 m.body.length q3] 70) := ⟨_, rfl⟩
  have HB : Hid (Below w.heap.size w R0) := by rw [hR0]; exact (Below.refl _ _).alloc (Nat.le_refl _) _
  have hg : R0.heap[w.heap.size]? = some (.cells #[.string m.name, .bool m.over, .bool m.abstract, .bool m.final, .slice P1 m.params.length q1, .int .i64 m.result.kind, .int .i64 m.result.lo, .int .i64 m.result.hi, .string m.result.name, .slice P2 m.vars.length q2, .slice P3 m.body.length q3] 70 (0, 0)) := by rw [hR0]; exact heap_alloc_new w _
  have y4 : R0.cell? ⟨w.heap.size, 4, none⟩ = some (.slice P1 m.params.length q1) := (cell_of_row _ _ 4 _ _ _ hg).trans rfl
  have y9 : R0.cell? ⟨w.heap.size, 9, none⟩ = some (.slice P2 m.vars.length q2) := (cell_of_row _ _ 9 _ _ _ hg).trans rfl
  have HR0 := Lib.hid hR0
  rw [hR0] at y4 y9
  clear hR0 hg
  unfold greatMT
  by_cases h1 : 3 < m.params.length
  · have z1 : (3 : Int) < (m.params.length : Int) := by omega
    rw [decide_eq_true h1]
    go_enter Tryz.func67, Tryz.ntmps67
    go_wp2_with fail
    go_ret
    exact ⟨rfl, HR0.out ▸ HB⟩
  · have z1 : ¬ (3 : Int) < (m.params.length : Int) := by omega
    rw [decide_eq_false h1]
    by_cases h2 : 8 < m.vars.length
    · have z2 : (8 : Int) < (m.vars.length : Int) := by omega
      rw [decide_eq_true h2]
      go_enter Tryz.func67, Tryz.ntmps67
      go_wp2_with fail
      go_ret
      exact ⟨rfl, HR0.out ▸ HB⟩
    · have z2 : ¬ (8 : Int) < (m.vars.length : Int) := by omega
      rw [decide_eq_false h2]
      go_enter Tryz.func67, Tryz.ntmps67
      go_wp2_with fail
      go_ret
      exact ⟨rfl, HR0.out ▸ HB⟩
set_option maxHeartbeats 1000000 in
set_option maxRecDepth 100000 in
theorem isGreat_any (X : AX) (I : IX) (w : World) (h : XOk X w I) (hm : X.D.methods.length ≤ 1000000000) :
    Calls Tryz.prog 33 #[X.val] w fun e w' => e = .returned (.bool (greatT X.D X.k)) ∧ Hid (Below w.heap.size w w') := by
  obtain ⟨R0, hR0⟩ : ∃ R0 : World, R0 = w.alloc (.cells X.cells 55) := ⟨_, rfl⟩
  have B0 : ABox X w R0 I := hR0 ▸ ABox.of h
  have HB0 : Hid (Below R0.heap.size R0 R0) := Below.refl _ _
  have HO : Hid (∀ W, Hid (Below R0.heap.size R0 W) → Hid (Below w.heap.size w W)) := fun W hW => B0.below.trans (hW.out.mono B0.below.size)
  have OK : Hid (∀ W, Hid (Below R0.heap.size R0 W) → XOk X W I) := fun W hW => B0.ok.below hW.out
  have CE : Hid (∀ W, Hid (Below R0.heap.size R0 W) → ACells X W w.heap.size) := fun W hW => B0.cells (XTo.of_below (I := I) hW.out)
  have BX : Hid (∀ W, Hid (Below R0.heap.size R0 W) → W.heap[w.heap.size]? = some (.cells X.cells 55 (0, 0))) := fun W hW => B0.stays (XTo.of_below (I := I) hW.out)
  obtain ⟨a0, a1, a2, a3, a4, a5, a6, a7, a8, a9, a10, a11, a12, a13⟩ := CE.out _ HB0
  have HR0 := Lib.hid hR0
  rw [hR0] at a0 a1 a2 a3 a4 a5 a6 a7 a8 a9 a10 a11 a12 a13
  clear hR0 a0 a1 a3 a4 a5 a7 a8 a11 a12 a13
  have KM : Hid (∀ W, Hid (Below R0.heap.size R0 W) → Calls Tryz.prog 36 #[.slice X.A3 X.D.methods.length X.c3, .func (.func 67) #[] #[]] W fun e w' => e = .returned (.bool (X.D.methods.any greatMT)) ∧ Hid (Below R0.heap.size R0 w')) := fun W hW => containsFuncMethod_any _ Tryz.enters_isGreatMethod #[] X.D.methods X.A3 X.c3 X.N (fun W => Hid (Below R0.heap.size R0 W)) greatMT W hW (fun W hW => (OK.out _ hW).methods) hm (fun W m _ hW cs hc => (isGreatMethod_any m cs X.N W hc).mono fun e w' hh => ⟨hh.1, hW.out.trans (hh.2.out.mono hW.out.size)⟩)
  obtain ⟨r, hr⟩ : ∃ r, r = greatT X.D X.k := ⟨_, rfl⟩
  have HR : Hid (r = (decide (12 ≤ X.k) || decide (6 < X.D.methods.length) || decide (4 < X.D.faces.length) || decide (8 < X.D.vars.length) || X.D.methods.any greatMT)) := hr
  rw [← hr]
  clear hr B0 h
  by_cases g0 : 12 ≤ X.k
  · have HQ : Hid (r = true) := Lib.hid (by rw [HR.out]; simp [g0])
    have z0 : (12 : Int) ≤ (X.k : Int) := by omega
    clear g0 HR KM
    go_enter Tryz.func33, Tryz.ntmps33
    go_wp2_with fail
    go_ret
    exact ⟨by rw [HQ.out]; rfl, HR0.out ▸ HO.out _ HB0⟩
  have z0 : ¬ ((12 : Int) ≤ (X.k : Int)) := by omega
  by_cases g1 : 6 < X.D.methods.length
  · have HQ : Hid (r = true) := Lib.hid (by rw [HR.out]; simp [g0, g1])
    have z1 : (6 : Int) < (X.D.methods.length : Int) := by omega
    clear g0 g1 HR KM
    go_enter Tryz.func33, Tryz.ntmps33
    go_wp2_with fail
    go_ret
    exact ⟨by rw [HQ.out]; rfl, HR0.out ▸ HO.out _ HB0⟩
  have z1 : ¬ ((6 : Int) < (X.D.methods.length : Int)) := by omega
  by_cases g2 : 4 < X.D.faces.length
  · have HQ : Hid (r = true) := Lib.hid (by rw [HR.out]; simp [g0, g1, g2])
    have z2 : (4 : Int) < (X.D.faces.length : Int) := by omega
    clear g0 g1 g2 HR KM
    go_enter Tryz.func33, Tryz.ntmps33
    go_wp2_with fail
    go_ret
    exact ⟨by rw [HQ.out]; rfl, HR0.out ▸ HO.out _ HB0⟩
  have z2 : ¬ ((4 : Int) < (X.D.faces.length : Int)) := by omega
  by_cases g3 : 8 < X.D.vars.length
  · have HQ : Hid (r = true) := Lib.hid (by rw [HR.out]; simp [g0, g1, g2, g3])
    have z3 : (8 : Int) < (X.D.vars.length : Int) := by omega
    clear g0 g1 g2 g3 HR KM
    go_enter Tryz.func33, Tryz.ntmps33
    go_wp2_with fail
    go_ret
    exact ⟨by rw [HQ.out]; rfl, HR0.out ▸ HO.out _ HB0⟩
  have z3 : ¬ ((8 : Int) < (X.D.vars.length : Int)) := by omega
  have HQ : Hid (r = X.D.methods.any greatMT) := Lib.hid (by rw [HR.out]; simp [g0, g1, g2, g3])
  clear g0 g1 g2 g3 HR
  go_enter Tryz.func33, Tryz.ntmps33
  go_wp2_with fail
  rw [← HR0.out]
  refine (KM.out _ HB0).mono ?_
  rintro e1 w1 ⟨rfl, hb1⟩
  clear a2 a6 a9 a10
  rw [← HQ.out]
  go_wp2_with fail
  go_ret
  exact ⟨rfl, HO.out _ hb1⟩
set_option maxHeartbeats 1000000 in
set_option maxRecDepth 100000 in
/-- the closure of hasOddVar: a variable, and what it captured. -/
theorem hasOddVar1_any (X : AX) (I : IX) (v : VT) (b : Nat) (w : World) (h : XOk X w I) (hb : w.heap[b]? = some (.cells X.cells 55 (0, 0))) :
    Calls Tryz.prog 60 #[vv v, .pointer (some ⟨b, 0, none⟩)] w fun e w' => e = .returned (.bool (oddVarT X.L v)) ∧ Hid (Below w.heap.size w w') := by
  obtain ⟨R0, hR0⟩ : ∃ R0 : World, R0 = w.alloc (.cells v.cells.toArray 41) := ⟨_, rfl⟩
  have B0 : VBox v w R0 := hR0 ▸ VBox.of v w
  have HB0 : Hid (Below R0.heap.size R0 R0) := Below.refl _ _
  have hbl : b < w.heap.size := (Array.getElem?_eq_some_iff.1 hb).1
  have HO : Hid (∀ W, Hid (Below R0.heap.size R0 W) → Hid (Below w.heap.size w W)) := fun W hW => B0.below.trans (hW.out.mono B0.below.size)
  have OK : Hid (∀ W, Hid (Below R0.heap.size R0 W) → XOk X W I) := fun W hW => h.below (HO.out _ hW).out
  have CV : Hid (∀ W, Hid (Below R0.heap.size R0 W) → VCells v W w.heap.size) := fun W hW => B0.cells hW.out
  have KH : Hid (∀ W, Hid (Below R0.heap.size R0 W) → Calls Tryz.prog 61 #[X.val, .agg (tcells v.type)] W fun e w' => e = .returned (.bool (holdT X.L v.type)) ∧ Hid (Below R0.heap.size R0 w')) := fun W hW => (mayHold_any X I v.type W (OK.out _ hW)).mono fun e w' hh => ⟨hh.1, hW.out.trans (hh.2.out.mono hW.out.size)⟩
  have KL : Hid (∀ W, Hid (Below R0.heap.size R0 W) → Calls Tryz.prog 62 #[vv v] W fun e w' => e = .returned (.bool (linkT v)) ∧ Hid (Below R0.heap.size R0 w')) := fun W hW => (mayLink_any v W).mono fun e w' hh => ⟨hh.1, hW.out.trans (hh.2.out.mono hW.out.size)⟩
  obtain ⟨a0, a1, a2, a3, a4, a5, a6, a7, a8, a9, a10, a11, a12, a13⟩ := ACells.of (((HO.out _ HB0).out.block _ hbl).trans hb)
  obtain ⟨-, x1, x2, x3, x4, -, -, -⟩ := CV.out _ HB0
  obtain ⟨hd, hhd⟩ : ∃ b, b = holdT X.L v.type := ⟨_, rfl⟩
  obtain ⟨lk, hlk⟩ : ∃ b, b = linkT v := ⟨_, rfl⟩
  obtain ⟨r, hr⟩ : ∃ r, r = oddVarT X.L v := ⟨_, rfl⟩
  have HR : Hid (r = (!hd || !lk)) := Lib.hid (by rw [hr, hhd, hlk]; rfl)
  rw [← hhd] at KH
  rw [← hlk] at KL
  rw [← hr]
  have HR0 := Lib.hid hR0
  rw [hR0] at a0 a1 a2 a3 a4 a5 a6 a7 a8 a9 a10 a11 a12 a13 x1 x2 x3 x4
  clear hR0 B0 h hb hbl hhd hlk hr
  obtain ⟨nm, ⟨tk, lo, hi, tn⟩, ini, dir, slot⟩ := v
  simp only [VT.cells] at a0 a1 a2 a3 a4 a5 a6 a7 a8 a9 a10 a11 a12 a13 x1 x2 x3 x4 HR0
  unfold vv at KL ⊢
  simp only [tcells] at KH
  go_enter Tryz.func60, Tryz.ntmps60
  go_wp2_with fail
  rw [← HR0.out]
  refine (KH.out _ HB0).mono ?_
  rintro e1 w1 ⟨rfl, hb1⟩
  clear a0 a1 a2 a3 a4 a5 a6 a7 a8 a9 a10 a11 a12 a13 x1 x2 x3 x4
  cases hd
  · have HQ : Hid (r = true) := HR.out
    go_wp2_with fail
    go_ret
    exact ⟨by rw [HQ.out]; rfl, HO.out _ hb1⟩
  · obtain ⟨x0, x1, x2, x3, x4, x5, x6, x7⟩ := CV.out _ hb1
    simp only at x0 x1 x2 x3 x4 x5 x6 x7
    go_wp2_with fail
    refine (KL.out _ hb1).mono ?_
    rintro e2 w2 ⟨rfl, hb2⟩
    clear x0 x1 x2 x3 x4 x5 x6 x7
    cases lk
    · have HQ : Hid (r = true) := HR.out
      go_wp2_with fail
      go_ret
      exact ⟨by rw [HQ.out]; rfl, HO.out _ hb2⟩
    · have HQ : Hid (r = false) := HR.out
      go_wp2_with fail
      go_ret
      exact ⟨by rw [HQ.out]; rfl, HO.out _ hb2⟩
set_option maxHeartbeats 1000000 in
set_option maxRecDepth 100000 in
theorem hasOddVar_any (X : AX) (I : IX) (w : World) (h : XOk X w I) (hv : X.D.vars.length ≤ 1000000000) :
    Calls Tryz.prog 26 #[X.val] w fun e w' => e = .returned (.bool (X.D.vars.any (oddVarT X.L))) ∧ Hid (Below w.heap.size w w') := by
  obtain ⟨R0, hR0⟩ : ∃ R0 : World, R0 = w.alloc (.cells X.cells 55) := ⟨_, rfl⟩
  have B0 : ABox X w R0 I := hR0 ▸ ABox.of h
  have HB0 : Hid (Below R0.heap.size R0 R0) := Below.refl _ _
  have HO : Hid (∀ W, Hid (Below R0.heap.size R0 W) → Hid (Below w.heap.size w W)) := fun W hW => B0.below.trans (hW.out.mono B0.below.size)
  have OK : Hid (∀ W, Hid (Below R0.heap.size R0 W) → XOk X W I) := fun W hW => B0.ok.below hW.out
  have CE : Hid (∀ W, Hid (Below R0.heap.size R0 W) → ACells X W w.heap.size) := fun W hW => B0.cells (XTo.of_below (I := I) hW.out)
  have BX : Hid (∀ W, Hid (Below R0.heap.size R0 W) → W.heap[w.heap.size]? = some (.cells X.cells 55 (0, 0))) := fun W hW => B0.stays (XTo.of_below (I := I) hW.out)
  obtain ⟨a0, a1, a2, a3, a4, a5, a6, a7, a8, a9, a10, a11, a12, a13⟩ := CE.out _ HB0
  have HR0 := Lib.hid hR0
  rw [hR0] at a0 a1 a2 a3 a4 a5 a6 a7 a8 a9 a10 a11 a12 a13
  clear hR0 a0 a1 a2 a3 a4 a5 a6 a7 a8 a10 a11 a12 a13
  have KC : Hid (Calls Tryz.prog 47 #[.slice X.A2 X.D.vars.length X.c2, .func (.func 60) #[] #[.pointer (some ⟨w.heap.size, 0, none⟩)]] R0 fun e w' => e = .returned (.bool (X.D.vars.any (oddVarT X.L))) ∧ Hid (Below R0.heap.size R0 w')) := containsFuncVar_any _ Tryz.enters_hasOddVar1 #[.pointer (some ⟨w.heap.size, 0, none⟩)] X.D.vars X.A2 X.c2 X.N (fun W => Hid (Below R0.heap.size R0 W)) (oddVarT X.L) R0 HB0 (fun W hW => (OK.out _ hW).vars) hv (fun W v _ hW => (hasOddVar1_any X I v w.heap.size W (OK.out _ hW) (BX.out _ hW)).mono fun e w' hh => ⟨hh.1, hW.out.trans (hh.2.out.mono hW.out.size)⟩)
  obtain ⟨r, hr⟩ : ∃ r, r = X.D.vars.any (oddVarT X.L) := ⟨_, rfl⟩
  rw [← hr] at KC ⊢
  clear hr B0 h
  go_enter Tryz.func26, Tryz.ntmps26
  go_wp2_with fail
  rw [← HR0.out]
  refine KC.out.mono ?_
  rintro e1 w1 ⟨rfl, hb1⟩
  clear a9
  go_wp2_with fail
  go_ret
  exact ⟨rfl, HO.out _ hb1⟩
set_option maxHeartbeats 1000000 in
set_option maxRecDepth 100000 in
theorem hasOddVarStart_any (X : AX) (I : IX) (w : World) (h : XOk X w I) (hv : X.D.vars.length ≤ 1000000000) :
    Calls Tryz.prog 27 #[X.val] w fun e w' => e = .returned (.bool (X.D.vars.any (fun v => !startT v))) ∧ Hid (Below w.heap.size w w') := by
  obtain ⟨R0, hR0⟩ : ∃ R0 : World, R0 = w.alloc (.cells X.cells 55) := ⟨_, rfl⟩
  have B0 : ABox X w R0 I := hR0 ▸ ABox.of h
  have HB0 : Hid (Below R0.heap.size R0 R0) := Below.refl _ _
  have HO : Hid (∀ W, Hid (Below R0.heap.size R0 W) → Hid (Below w.heap.size w W)) := fun W hW => B0.below.trans (hW.out.mono B0.below.size)
  have OK : Hid (∀ W, Hid (Below R0.heap.size R0 W) → XOk X W I) := fun W hW => B0.ok.below hW.out
  have CE : Hid (∀ W, Hid (Below R0.heap.size R0 W) → ACells X W w.heap.size) := fun W hW => B0.cells (XTo.of_below (I := I) hW.out)
  have BX : Hid (∀ W, Hid (Below R0.heap.size R0 W) → W.heap[w.heap.size]? = some (.cells X.cells 55 (0, 0))) := fun W hW => B0.stays (XTo.of_below (I := I) hW.out)
  obtain ⟨a0, a1, a2, a3, a4, a5, a6, a7, a8, a9, a10, a11, a12, a13⟩ := CE.out _ HB0
  have HR0 := Lib.hid hR0
  rw [hR0] at a0 a1 a2 a3 a4 a5 a6 a7 a8 a9 a10 a11 a12 a13
  clear hR0 a0 a1 a2 a3 a4 a5 a6 a7 a8 a10 a11 a12 a13
  have KC : Hid (Calls Tryz.prog 47 #[.slice X.A2 X.D.vars.length X.c2, .func (.func 51) #[] #[]] R0 fun e w' => e = .returned (.bool (X.D.vars.any (fun v => !startT v))) ∧ Hid (Below R0.heap.size R0 w')) := containsFuncVar_any _ Tryz.enters_mayNotStart #[] X.D.vars X.A2 X.c2 X.N (fun W => Hid (Below R0.heap.size R0 W)) (fun v => !startT v) R0 HB0 (fun W hW => (OK.out _ hW).vars) hv (fun W v _ hW => (mayNotStart_any v W).mono fun e w' hh => ⟨hh.1, hW.out.trans (hh.2.out.mono hW.out.size)⟩)
  obtain ⟨r, hr⟩ : ∃ r, r = X.D.vars.any (fun v => !startT v) := ⟨_, rfl⟩
  rw [← hr] at KC ⊢
  clear hr B0 h
  go_enter Tryz.func27, Tryz.ntmps27
  go_wp2_with fail
  rw [← HR0.out]
  refine KC.out.mono ?_
  rintro e1 w1 ⟨rfl, hb1⟩
  clear a9
  go_wp2_with fail
  go_ret
  exact ⟨rfl, HO.out _ hb1⟩
end Go.Proofs.YtbgilpmoijdcfaaGreat

/-
  rules: whether two of a list of variables have one name, BY A CONTRACT.
-/
namespace Go.Proofs.YtbgilpmoijdcfaaGreat
open Go Go.RowKit Go.Shelf
set_option linter.unusedVariables false
set_option linter.unusedSimpArgs false

theorem Tryz.underNames : Tryz.prog.underlying 103 = some (.map 9 93) := by kernel_rfl
theorem Tryz.infoUnit : (Tryz.prog.info? 93).map (fun i => (i.zero, i.size, i.bytes)) = some (some (.agg #[]), 0, 0) := by kernel_rfl
theorem run_zeroUnit (W : World) : (zeroValue 93).run Tryz.prog W = .ok (.agg #[]) W := by
  have h := Tryz.infoUnit
  cases hi : Tryz.prog.info? 93 with
  | none => rw [hi] at h; simp at h
  | some i =>
    rw [hi] at h
    simp only [Option.map_some, Option.some.injEq, Prod.mk.injEq] at h
    simp [zeroValue, typeInfo, hi, h.1]
instance lawfulBytes : LawfulBEq ByteArray where
  eq_of_beq h := (MapKept.bytes_beq _ _).1 h
  rfl := (MapKept.bytes_beq _ _).2 rfl
/-- a map of names that were met. -/
def metF (l : List ByteArray) (s : ByteArray) : Option Value := if s ∈ l then some (.agg #[]) else none
theorem metF_val (l : List ByteArray) (s : ByteArray) : (metF l s).getD (.agg #[]) = .agg #[] := by unfold metF; split <;> rfl
theorem metF_is (l : List ByteArray) (s : ByteArray) : (metF l s).isSome = decide (s ∈ l) := by
  unfold metF
  by_cases h : s ∈ l <;> simp [h]
theorem metF_snoc (l : List ByteArray) (s x : ByteArray) : metF (l ++ [s]) x = if x = s then some (.agg #[]) else metF l x := by
  unfold metF
  by_cases h : x = s
  · simp [h]
  · simp [h]
def dupT (l : List ByteArray) : Bool := !decide l.Nodup
theorem dup_yes {l : List ByteArray} {k : Nat} (hk : k < l.length) (h : decide (l[k] ∈ l.take k) = true) : dupT l = true := by
  have h1 : ¬ l.Nodup := fun hn => by
    obtain ⟨j, hj, e⟩ := List.getElem_of_mem (of_decide_eq_true h)
    have hjk : j < k := by simp at hj; omega
    rw [List.getElem_take] at e
    have := (List.getElem_inj hn (h₀ := by omega) (h₁ := hk)).1 e
    omega
  unfold dupT
  rw [decide_eq_false h1]
  rfl
theorem dup_step {l : List ByteArray} {k : Nat} (hk : k < l.length) (hn : (l.take k).Nodup) (h : decide (l[k] ∈ l.take k) = false) : (l.take (k + 1)).Nodup := by
  rw [List.take_succ_eq_append_getElem hk, List.nodup_append]
  refine ⟨hn, by simp, fun a ha b hb e => ?_⟩
  simp only [List.mem_singleton] at hb
  subst hb
  subst e
  exact of_decide_eq_false h ha
theorem lookup_names {W : World} {mb : Nat} {l : List ByteArray} (h : MapAt W mb (metF l)) (s : ByteArray) :
    (Instr.lookup 103 (.map (some mb)) (.string s) true).run Tryz.prog W = .ok (.tuple #[.agg #[], .bool (decide (s ∈ l))]) W := by
  have := run_lookup (P := Tryz.prog) (t := 103) (k := 9) (E := 93) (by kernel_rfl) (by kernel_rfl) run_zeroUnit h s
  rw [metF_val, metF_is] at this
  exact this
set_option maxHeartbeats 4000000 in
set_option maxRecDepth 100000 in
theorem againVar_any (l : List VT) (A1 : Option Addr) (c1 B : Nat) (w : World) (hrow : VsR w B A1 l) (hB : B ≤ w.heap.size) (hcnt : l.length ≤ 1000000000) :
    Calls Tryz.prog 39 #[.slice A1 l.length c1, .func (.func 40) #[] #[]] w fun e w' => e = .returned (.bool (dupT (l.map VT.name))) ∧ Hid (Below w.heap.size w w') := by
  obtain ⟨N, hN⟩ : ∃ N, N = l.map VT.name := ⟨_, rfl⟩
  have hNl : N.length = l.length := by rw [hN]; simp
  have hNk : ∀ (k : Nat) (hk : k < l.length), N[k]'(by omega) = l[k].name := fun k hk => by subst hN; simp
  obtain ⟨r, hr⟩ : ∃ r, r = dupT (l.map VT.name) := ⟨_, rfl⟩
  rw [← hr]
  have HR : Hid (r = dupT N) := by rw [hN]; exact hr
  have HN : Hid (N.length = l.length ∧ ∀ (k : Nat) (hk : k < l.length) (hk2 : k < N.length), N[k] = l[k].name) := ⟨hNl, fun k hk _ => hNk k hk⟩
  have HROW : Hid (∀ W, Below w.heap.size w W → VsR W B A1 l) := fun W hW => VsR.mono (Nat.le_refl _) (fun g hg => hW.block g (by omega)) hrow
  have KN : Hid (∀ W (v : VT), Calls Tryz.prog 40 #[vv v] W fun e w' => e = .returned (.string v.name) ∧ Hid (Below W.heap.size W w')) := fun W v => nameOfVar_any v W
  have hmm : ∀ W : World, (Instr.makeMap 103 (some (.int .i64 (l.length : Int)))).run Tryz.prog W = .ok (.map (some W.heap.size)) (W.alloc (.map #[] 0)) := fun W => by simp [Instr.makeMap, run_underlying Tryz.underNames, asInt, asIntOf]
  have HM0 : Hid (MapAt (w.alloc (.map #[] 0)) w.heap.size (metF []) ∧ Below w.heap.size w (w.alloc (.map #[] 0))) := ⟨by have := MapAt.new w; exact this, (Below.refl _ _).alloc (Nat.le_refl _) _⟩
  clear hN hNl hNk hr hrow hB
  go_enter Tryz.func39, Tryz.ntmps39
  go_wp2_with fail
  clear hmm
  go_loopw [15] (fun i wr => ∃ k : Nat, k ≤ l.length ∧ i = .int .i64 k ∧ Hid ((N.take k).Nodup) ∧ Hid (MapAt wr w.heap.size (metF (N.take k))) ∧ Hid (Below w.heap.size w wr)) (fun i _ => l.length - (intOf i).toNat)
  case atStart => exact ⟨0, Nat.zero_le _, rfl, List.nodup_nil, HM0.out.1, HM0.out.2⟩
  case round =>
    obtain ⟨k, hk, rfl, hnd, hmap, hbel⟩ := hrel
    have h2 : (0 : Int) ≤ (k : Int) := by omega
    by_cases hlt : k < l.length
    · have h1 : (k : Int) < (l.length : Int) := by omega
      obtain ⟨g, o, cs, rfl, hg, hlen, hc, he⟩ := (HROW.out wr hbel.out) k hlt
      obtain ⟨v, hv⟩ : ∃ v : VT, v = l[k] := ⟨_, rfl⟩
      have hkn : k < N.length := by rw [HN.out.1]; exact hlt
      have hvn : N[k] = v.name := by rw [hv]; exact HN.out.2 k hlt hkn
      rw [← hv] at he
      obtain ⟨rfl, -⟩ := he
      have y0 := hc 0 (.string v.name) rfl
      have y1 := hc 1 (.int .i64 v.type.kind) rfl
      have y2 := hc 2 (.int .i64 v.type.lo) rfl
      have y3 := hc 3 (.int .i64 v.type.hi) rfl
      have y4 := hc 4 (.string v.type.name) rfl
      have y5 := hc 5 (.int .i64 v.init) rfl
      have y6 := hc 6 (.int .i64 v.dir) rfl
      have y7 := hc 7 (.int .i64 v.slot) rfl
      rw [Nat.add_zero] at y0
      obtain ⟨R1, hR1⟩ : ∃ R1 : World, R1 = wr.alloc (.cells v.cells.toArray 41) := ⟨_, rfl⟩
      have hVB : VBox v wr R1 := hR1 ▸ VBox.of v wr
      have CV : Hid (∀ W, Hid (Below R1.heap.size R1 W) → VCells v W wr.heap.size) := fun W hW => hVB.cells hW.out
      have KM : Hid (∀ W, Hid (Below R1.heap.size R1 W) → Hid (MapAt W w.heap.size (metF (N.take k))) ∧ Hid (Below w.heap.size w W)) := fun W hW => by
        have hb1 : Below wr.heap.size wr W := hVB.below.trans (hW.out.mono hVB.below.size)
        exact ⟨hmap.out.stay (hb1.block _ hmap.out.lt), hbel.out.trans (hb1.mono hbel.out.size)⟩
      have HB1 : Hid (Below R1.heap.size R1 R1) := Below.refl _ _
      obtain ⟨x0, x1, x2, x3, x4, x5, x6, x7⟩ := CV.out _ HB1
      have HR1 : Hid (R1 = wr.alloc (.cells #[.string v.name, .int .i64 v.type.kind, .int .i64 v.type.lo, .int .i64 v.type.hi, .string v.type.name, .int .i64 v.init, .int .i64 v.dir, .int .i64 v.slot] 41)) := hR1
      rw [show R1 = wr.alloc (.cells #[.string v.name, .int .i64 v.type.kind, .int .i64 v.type.lo, .int .i64 v.type.hi, .string v.type.name, .int .i64 v.init, .int .i64 v.dir, .int .i64 v.slot] 41) from hR1] at x0 x1 x2 x3 x4 x5 x6 x7
      have HV := Lib.hid hv
      have HVN := Lib.hid hvn
      have KN1 : Hid (∀ W, Calls Tryz.prog 40 #[vv v] W fun e w' => e = .returned (.string v.name) ∧ Hid (Below W.heap.size W w')) := fun W => KN.out W v
      clear hc hlen hg hv hvn hR1 hVB
      go_wp2_with fail
      rw [← HR1.out]
      refine (KN1.out _).mono ?_
      rintro e1 w1 ⟨rfl, hb1⟩
      clear x0 x1 x2 x3 x4 x5 x6 x7 y0 y1 y2 y3 y4 y5 y6 y7
      have hlk := lookup_names (KM.out _ hb1).1.out v.name
      obtain ⟨b, hbb⟩ : ∃ b, b = decide (v.name ∈ N.take k) := ⟨_, rfl⟩
      rw [← hbb] at hlk
      cases b
      · have hnext : Hid ((N.take (k + 1)).Nodup) := dup_step hkn hnd.out (by rw [HVN.out]; exact hbb.symm)
        clear hbb
        obtain ⟨x0, x1, x2, x3, x4, x5, x6, x7⟩ := CV.out _ hb1
        have hbu : Below R1.heap.size R1 (w1.alloc (.cells #[] 93)) := hb1.out.trans ((Below.refl _ _).alloc hb1.out.size _)
        have HBU := Lib.hid hbu
        obtain ⟨u0, u1, u2, u3, u4, u5, u6, u7⟩ := CV.out _ HBU
        clear hbu
        go_wp2_with fail
        refine (KN1.out _).mono ?_
        rintro e2 w2 ⟨rfl, hb2⟩
        clear x0 x1 x2 x3 x4 x5 x6 x7 u0 u1 u2 u3 u4 u5 u6 u7 hlk
        have HB2 : Hid (Below R1.heap.size R1 w2) := HBU.out.trans (hb2.out.mono HBU.out.size)
        have hm2 := KM.out _ HB2
        obtain ⟨w3, hup, hmap3, hos3, htp3, hou3, hsz3, hbl3⟩ := run_update (P := Tryz.prog) (t := 103) (k := 9) (E := 93) (by kernel_rfl) (by kernel_rfl) (W := w2) hm2.1.out v.name (.agg #[]) (g := metF (N.take (k + 1))) (fun s => by rw [List.take_succ_eq_append_getElem hkn, HVN.out, metF_snoc])
        have hb3 : Hid (Below w.heap.size w w3) := ⟨hos3.trans hm2.2.out.os, htp3.trans hm2.2.out.tape, hou3.trans hm2.2.out.output, by rw [hsz3]; exact hm2.2.out.size, fun j hj => (hbl3 j (by omega)).trans (hm2.2.out.block j hj)⟩
        have HM3 := Lib.hid hmap3
        clear hmap3 hos3 htp3 hou3 hsz3 hbl3 hm2
        go_wp2_with fail
        go_roundw
        case rel => exact ⟨k + 1, by omega, by go_num, hnext, HM3, hb3⟩
        case measure => simp [intOf]; omega
      · have hyes : Hid (r = true) := HR.out.trans (dup_yes hkn (by rw [HVN.out]; exact hbb.symm))
        have hret : Hid (Below w.heap.size w (w1.alloc (.cells #[] 93))) := (KM.out _ (hb1.out.trans ((Below.refl _ _).alloc hb1.out.size _))).2
        clear hbb
        go_wp2_with fail
        go_ret
        exact ⟨by rw [hyes.out]; rfl, hret⟩
    · have h1 : ¬ (k : Int) < (l.length : Int) := by omega
      have hno : Hid (r = false) := by
        have e : N.take k = N := List.take_of_length_le (by rw [HN.out.1]; omega)
        have h3 := hnd.out
        rw [e] at h3
        exact Lib.hid (HR.out.trans (by unfold dupT; rw [decide_eq_true h3]; rfl))
      go_wp2_with fail
      go_ret
      exact ⟨by rw [hno.out]; rfl, hbel⟩
set_option maxHeartbeats 1000000 in
set_option maxRecDepth 100000 in
theorem hasVarAgain_any (X : AX) (I : IX) (w : World) (h : XOk X w I) (hv : X.D.vars.length ≤ 1000000000) :
    Calls Tryz.prog 29 #[X.val] w fun e w' => e = .returned (.bool (dupT (X.D.vars.map VT.name))) ∧ Hid (Below w.heap.size w w') := by
  obtain ⟨R0, hR0⟩ : ∃ R0 : World, R0 = w.alloc (.cells X.cells 55) := ⟨_, rfl⟩
  have B0 : ABox X w R0 I := hR0 ▸ ABox.of h
  have HB0 : Hid (Below R0.heap.size R0 R0) := Below.refl _ _
  have HO : Hid (∀ W, Hid (Below R0.heap.size R0 W) → Hid (Below w.heap.size w W)) := fun W hW => B0.below.trans (hW.out.mono B0.below.size)
  have OK : Hid (∀ W, Hid (Below R0.heap.size R0 W) → XOk X W I) := fun W hW => B0.ok.below hW.out
  have CE : Hid (∀ W, Hid (Below R0.heap.size R0 W) → ACells X W w.heap.size) := fun W hW => B0.cells (XTo.of_below (I := I) hW.out)
  have BX : Hid (∀ W, Hid (Below R0.heap.size R0 W) → W.heap[w.heap.size]? = some (.cells X.cells 55 (0, 0))) := fun W hW => B0.stays (XTo.of_below (I := I) hW.out)
  obtain ⟨a0, a1, a2, a3, a4, a5, a6, a7, a8, a9, a10, a11, a12, a13⟩ := CE.out _ HB0
  have HR0 := Lib.hid hR0
  rw [hR0] at a0 a1 a2 a3 a4 a5 a6 a7 a8 a9 a10 a11 a12 a13
  clear hR0 a0 a1 a2 a3 a4 a5 a6 a7 a8 a10 a11 a12 a13
  have KC : Hid (Calls Tryz.prog 39 #[.slice X.A2 X.D.vars.length X.c2, .func (.func 40) #[] #[]] R0 fun e w' => e = .returned (.bool (dupT (X.D.vars.map VT.name))) ∧ Hid (Below R0.heap.size R0 w')) := againVar_any X.D.vars X.A2 X.c2 X.N R0 (OK.out _ HB0).vars (Nat.le_of_lt (OK.out _ HB0).ix.lt) hv
  obtain ⟨r, hr⟩ : ∃ r, r = dupT (X.D.vars.map VT.name) := ⟨_, rfl⟩
  rw [← hr] at KC ⊢
  clear hr B0 h
  go_enter Tryz.func29, Tryz.ntmps29
  go_wp2_with fail
  rw [← HR0.out]
  refine KC.out.mono ?_
  rintro e1 w1 ⟨rfl, hb1⟩
  clear a9
  go_wp2_with fail
  go_ret
  exact ⟨rfl, HO.out _ hb1⟩
end Go.Proofs.YtbgilpmoijdcfaaGreat
