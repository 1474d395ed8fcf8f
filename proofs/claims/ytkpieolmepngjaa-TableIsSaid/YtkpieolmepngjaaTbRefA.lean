/-
  governorref6.Alike BY A CONTRACT.
-/
import Derived.Test.YtkpieolmepngjaaTbVar
namespace Go.Proofs.Ytkpieolmepngjaa
open Go Go.RowKit
set_option linter.unusedVariables false
set_option linter.unusedSimpArgs false

/-- a method's cells. -/
abbrev mcells (m : MT) (A1 A2 A3 : Option Addr) (c1 c2 c3 : Nat) : Array Value := #[.string m.name, .bool m.over, .bool m.abstract, .bool m.final, .slice A1 m.params.length c1, .int .i64 m.result.kind, .int .i64 m.result.lo, .int .i64 m.result.hi, .string m.result.name, .slice A2 m.vars.length c2, .slice A3 m.body.length c3]
theorem alike_len {a b : MT} (h : ¬ a.params.length = b.params.length) : alikeT a b = false := by
  unfold alikeT
  have : ¬ (a.params.map (fun v => v.type.tup) = b.params.map (fun v => v.type.tup)) := fun e => h (by simpa using congrArg List.length e)
  rw [decide_eq_false this, Bool.and_false]
theorem alike_res {a b : MT} (h : ¬ a.result.tup = b.result.tup) : alikeT a b = false := by
  unfold alikeT
  rw [decide_eq_false h, Bool.false_and]
theorem alike_par {a b : MT} (h : a.result.tup = b.result.tup) (k : Nat) (h1 : k < a.params.length) (h2 : k < b.params.length) (hk : ¬ a.params[k].type.tup = b.params[k].type.tup) : alikeT a b = false := by
  unfold alikeT
  have : ¬ (a.params.map (fun v => v.type.tup) = b.params.map (fun v => v.type.tup)) := fun e => hk (by
    have e2 : (a.params.map (fun v => v.type.tup))[k]? = (b.params.map (fun v => v.type.tup))[k]? := by rw [e]
    simpa [List.getElem?_map, List.getElem?_eq_getElem h1, List.getElem?_eq_getElem h2] using e2)
  rw [decide_eq_false this, Bool.and_false]
theorem alike_yes {a b : MT} (h : a.result.tup = b.result.tup) (hl : a.params.length = b.params.length) (hk : ∀ k (h1 : k < a.params.length) (h2 : k < b.params.length), a.params[k].type.tup = b.params[k].type.tup) : alikeT a b = true := by
  unfold alikeT
  have : a.params.map (fun v => v.type.tup) = b.params.map (fun v => v.type.tup) := by
    apply List.ext_getElem
    · simpa using hl
    · intro i h1 h2
      simp only [List.getElem_map]
      exact hk i (by simpa using h1) (by simpa using h2)
  rw [decide_eq_true this, decide_eq_true h, Bool.and_self]
theorem ne_yes2 {a b : Nat} (h : ¬ a = b) : ((a : Int) != (b : Int)) = true := by simp; omega
theorem ne_no2 {a b : Nat} (h : a = b) : ((a : Int) != (b : Int)) = false := by simp [h]
theorem eq_no {a b : Int} (h : a ≠ b) : (a == b) = false := by simp [h]
/-- two types: one, or where they part first. -/
theorem tup_cases (s t : YT) : (s.kind ≠ t.kind ∧ s.tup ≠ t.tup) ∨ (s.kind = t.kind ∧ s.lo ≠ t.lo ∧ s.tup ≠ t.tup) ∨ (s.kind = t.kind ∧ s.lo = t.lo ∧ s.hi ≠ t.hi ∧ s.tup ≠ t.tup) ∨ (s.kind = t.kind ∧ s.lo = t.lo ∧ s.hi = t.hi ∧ s.name ≠ t.name ∧ s.tup ≠ t.tup) ∨ (s.kind = t.kind ∧ s.lo = t.lo ∧ s.hi = t.hi ∧ s.name = t.name ∧ s.tup = t.tup) := by
  unfold YT.tup
  by_cases h1 : s.kind = t.kind <;> by_cases h2 : s.lo = t.lo <;> by_cases h3 : s.hi = t.hi <;> by_cases h4 : s.name = t.name <;> simp [h1, h2, h3, h4]

set_option maxHeartbeats 4000000 in
set_option maxRecDepth 100000 in
theorem refAlike_any (a b : MT) (A1 A2 A3 B1 B2 B3 : Option Addr) (c1 c2 c3 d1 d2 d3 : Nat) (w : World) (ha : VsR w w.heap.size A1 a.params) (hb : VsR w w.heap.size B1 b.params) (hcnt : a.params.length ≤ 1000000000) :
    Calls Try.prog 32 #[.agg (mcells a A1 A2 A3 c1 c2 c3), .agg (mcells b B1 B2 B3 d1 d2 d3)] w fun e w' => e = .returned (.bool (alikeT a b)) ∧ Below w.heap.size w w' := by
  obtain ⟨R0, hR0⟩ : ∃ R0 : World, R0 = (w.alloc (.cells (mcells a A1 A2 A3 c1 c2 c3) 52)).alloc (.cells (mcells b B1 B2 B3 d1 d2 d3) 52) := ⟨_, rfl⟩
  have hbw : Below w.heap.size w R0 := by rw [hR0]; exact ((Below.refl _ _).alloc (Nat.le_refl _) _).alloc (by simp) _
  have g1 : R0.heap[w.heap.size]? = some (.cells (mcells a A1 A2 A3 c1 c2 c3) 52 (0, 0)) := by
    rw [hR0, Below.heap_alloc _ _ _ (by simp)]; exact heap_alloc_new w _
  have g2 : R0.heap[w.heap.size + 1]? = some (.cells (mcells b B1 B2 B3 d1 d2 d3) 52 (0, 0)) := by
    have := heap_alloc_new (w.alloc (.cells (mcells a A1 A2 A3 c1 c2 c3) 52)) (.cells (mcells b B1 B2 B3 d1 d2 d3) 52)
    rw [hR0]; simpa using this
  have ca : ∀ j v, (mcells a A1 A2 A3 c1 c2 c3).toList[j]? = some v → R0.cell? ⟨w.heap.size, j, none⟩ = some v := fun j v hj => by rw [cell_of_row _ _ j _ _ _ g1]; simpa using hj
  have cb : ∀ j v, (mcells b B1 B2 B3 d1 d2 d3).toList[j]? = some v → R0.cell? ⟨w.heap.size + 1, j, none⟩ = some v := fun j v hj => by rw [cell_of_row _ _ j _ _ _ g2]; simpa using hj
  have HA := Lib.hid (VsR.mono (Nat.le_refl _) hbw.block ha)
  have HB := Lib.hid (VsR.mono (Nat.le_refl _) hbw.block hb)
  have HR0 := Lib.hid hR0
  have HBW := Lib.hid hbw
  obtain ⟨r, hr0⟩ : ∃ r, r = alikeT a b := ⟨_, rfl⟩
  rw [← hr0]
  have HR := Lib.hid hr0
  have Hlen := Lib.hid (@alike_len a b)
  have Hres := Lib.hid (@alike_res a b)
  have Hpar := Lib.hid (@alike_par a b)
  have Hyes := Lib.hid (@alike_yes a b)
  have Htc := Lib.hid (tup_cases a.result b.result)
  obtain ⟨an, ao, aa, af, PA, ⟨k1, l1, h1, n1⟩, av, ab⟩ := a
  obtain ⟨bn, bo, ba, bf, PB, ⟨k2, l2, h2, n2⟩, bv, bb⟩ := b
  simp only at HA HB Hlen Hres Hpar Hyes Htc hcnt
  have x4 := ca 4 (.slice A1 PA.length c1) rfl
  have x5 := ca 5 (.int .i64 k1) rfl
  have x6 := ca 6 (.int .i64 l1) rfl
  have x7 := ca 7 (.int .i64 h1) rfl
  have x8 := ca 8 (.string n1) rfl
  have y4 := cb 4 (.slice B1 PB.length d1) rfl
  have y5 := cb 5 (.int .i64 k2) rfl
  have y6 := cb 6 (.int .i64 l2) rfl
  have y7 := cb 7 (.int .i64 h2) rfl
  have y8 := cb 8 (.string n2) rfl
  clear g1 g2 ca cb hbw hR0 ha hb hr0
  by_cases hl : PA.length = PB.length
  · rcases Htc.out with ⟨q, t⟩ | ⟨q, q1, t⟩ | ⟨q, q1, q2, t⟩ | ⟨q, q1, q2, q3, t⟩ | ⟨q, q1, q2, q3, t⟩
    · have HF := Lib.hid (HR.out.trans (Hres.out t))
      have hl1 : ((PA.length : Int) != (PB.length : Int)) = false := ne_no2 hl
      have p1 : (k1 == k2) = false := eq_no q
      clear t Htc
      rw [HR0.out] at x4 y4 x5 x6 x7 x8 y5 y6 y7 y8
      go_enter Try.func32, Try.ntmps32
      go_wp2_with fail
      go_ret
      exact ⟨by rw [HF.out]; rfl, HR0.out ▸ HBW.out⟩
    · have HF := Lib.hid (HR.out.trans (Hres.out t))
      have hl1 : ((PA.length : Int) != (PB.length : Int)) = false := ne_no2 hl
      have p1 : (l1 == l2) = false := eq_no q1
      have q : k1 = k2 := q
      subst q
      clear t Htc
      rw [HR0.out] at x4 y4 x5 x6 x7 x8 y5 y6 y7 y8
      go_enter Try.func32, Try.ntmps32
      go_wp2_with fail
      go_ret
      exact ⟨by rw [HF.out]; rfl, HR0.out ▸ HBW.out⟩
    · have HF := Lib.hid (HR.out.trans (Hres.out t))
      have hl1 : ((PA.length : Int) != (PB.length : Int)) = false := ne_no2 hl
      have p1 : (h1 == h2) = false := eq_no q2
      have q : k1 = k2 := q
      have q1 : l1 = l2 := q1
      subst q q1
      clear t Htc
      rw [HR0.out] at x4 y4 x5 x6 x7 x8 y5 y6 y7 y8
      go_enter Try.func32, Try.ntmps32
      go_wp2_with fail
      go_ret
      exact ⟨by rw [HF.out]; rfl, HR0.out ▸ HBW.out⟩
    · have HF := Lib.hid (HR.out.trans (Hres.out t))
      have hl1 : ((PA.length : Int) != (PB.length : Int)) = false := ne_no2 hl
      have p1 := str_ne q3
      have q : k1 = k2 := q
      have q1 : l1 = l2 := q1
      have q2 : h1 = h2 := q2
      subst q q1 q2
      clear t Htc
      rw [HR0.out] at x4 y4 x5 x6 x7 x8 y5 y6 y7 y8
      go_enter Try.func32, Try.ntmps32
      go_wp2_with fail
      go_ret
      exact ⟨by rw [HF.out]; rfl, HR0.out ▸ HBW.out⟩
    · have hl1 : ((PA.length : Int) != (PB.length : Int)) = false := ne_no2 hl
      have HP := Lib.hid (Hpar.out t)
      have HY := Lib.hid (Hyes.out t hl)
      have HL := Lib.hid hl
      have q : k1 = k2 := q
      have q1 : l1 = l2 := q1
      have q2 : h1 = h2 := q2
      have q3 : n1 = n2 := q3
      subst q q1 q2 q3
      clear t Htc Hlen Hres Hpar Hyes
      rw [HR0.out] at x4 y4 x5 x6 x7 x8 y5 y6 y7 y8
      go_enter Try.func32, Try.ntmps32
      go_wp2_with fail
      rw [← HR0.out] at x4 y4 x5 x6 x7 x8 y5 y6 y7 y8 ⊢
      have HX4 : Hid (∀ W, Hid (Below R0.heap.size R0 W) → W.cell? ⟨w.heap.size, 4, none⟩ = some (.slice A1 PA.length c1) ∧ W.cell? ⟨w.heap.size + 1, 4, none⟩ = some (.slice B1 PB.length d1)) := fun W h => ⟨(World.cell?_of_block (h.out.block _ (World.block_lt_of_cell? _ _ x4))).trans x4, (World.cell?_of_block (h.out.block _ (World.block_lt_of_cell? _ _ y4))).trans y4⟩
      clear x5 x6 x7 x8 y5 y6 y7 y8 x4 y4
      go_loopw [5] (fun i wr => ∃ k : Nat, k ≤ PA.length ∧ i = .int .i64 k ∧ Hid (∀ j, j < k → ∀ (h1 : j < PA.length) (h2 : j < PB.length), PA[j].type.tup = PB[j].type.tup) ∧ Hid (Below R0.heap.size R0 wr)) (fun i _ => PA.length - (intOf i).toNat)
      case atStart => exact ⟨0, Nat.zero_le _, rfl, fun j h => absurd h (Nat.not_lt_zero _), Below.refl _ _⟩
      case round =>
        obtain ⟨k, hk, rfl, hall, hb⟩ := hrel
        obtain ⟨x4, y4⟩ := HX4.out _ hb
        have z0 : (0 : Int) ≤ (k : Int) := by omega
        have hl := HL.out
        by_cases hlt : k < PA.length
        · have hlt2 : k < PB.length := by omega
          have z1 : (k : Int) < (PA.length : Int) := by omega
          have z2 : (k : Int) < (PB.length : Int) := by omega
          have hkeep : ∀ g, g < w.heap.size → wr.heap[g]? = R0.heap[g]? := fun g hg => hb.out.block g (Nat.lt_of_lt_of_le hg HBW.out.size)
          obtain ⟨ga, oa, ca, rfl, hga, -, hca, hea⟩ := (VsR.mono (Nat.le_refl _) hkeep HA.out) k hlt
          obtain ⟨gb, ob, cb, rfl, hgb, -, hcb, heb⟩ := (VsR.mono (Nat.le_refl _) hkeep HB.out) k hlt2
          have hpk := HP.out k hlt hlt2
          have hnx : PA[k].type.tup = PB[k].type.tup → ∀ j, j < k + 1 → ∀ (h1 : j < PA.length) (h2 : j < PB.length), PA[j].type.tup = PB[j].type.tup := fun e j hj h1 h2 => by
            rcases Nat.lt_or_ge j k with h3 | h3
            · exact hall.out j h3 h1 h2
            · obtain rfl : j = k := by omega
              exact e
          obtain ⟨⟨vn1, ⟨yk1, yl1, yh1, yn1⟩, i1, dr1, s1⟩, hva⟩ : ∃ v : VT, v = PA[k] := ⟨_, rfl⟩
          obtain ⟨⟨vn2, ⟨yk2, yl2, yh2, yn2⟩, i2, dr2, s2⟩, hvb⟩ : ∃ v : VT, v = PB[k] := ⟨_, rfl⟩
          have HTC := tup_cases PA[k].type PB[k].type
          rw [← hva] at hea hpk hnx HTC
          rw [← hvb] at heb hpk hnx HTC
          obtain ⟨rfl, -⟩ := hea
          obtain ⟨rfl, -⟩ := heb
          have a1 := hca 1 _ rfl
          have a2 := hca 2 _ rfl
          have a3 := hca 3 _ rfl
          have a4 := hca 4 _ rfl
          have b1 := hcb 1 _ rfl
          have b2 := hcb 2 _ rfl
          have b3 := hcb 3 _ rfl
          have b4 := hcb 4 _ rfl
          simp only at hpk hnx HTC
          have HPK := Lib.hid hpk
          have HNX := Lib.hid hnx
          clear hca hcb hva hvb hkeep hl hpk hnx
          rcases HTC with ⟨q, t⟩ | ⟨q, q1, t⟩ | ⟨q, q1, q2, t⟩ | ⟨q, q1, q2, q3, t⟩ | ⟨q, q1, q2, q3, t⟩
          · have p1 := eq_no q
            have HF := Lib.hid (HR.out.trans (HPK.out t))
            clear t q
            go_wp2_with fail
            go_region
            go_wp2_with fail
            go_ret
            exact ⟨by rw [HF.out]; rfl, (HBW.out.trans (hb.out.mono HBW.out.size)).drew⟩
          · have p1 := eq_no q1
            have HF := Lib.hid (HR.out.trans (HPK.out t))
            subst q
            clear t q1
            go_wp2_with fail
            go_region
            go_wp2_with fail
            go_ret
            exact ⟨by rw [HF.out]; rfl, (HBW.out.trans (hb.out.mono HBW.out.size)).drew⟩
          · have p1 := eq_no q2
            have HF := Lib.hid (HR.out.trans (HPK.out t))
            subst q q1
            clear t q2
            go_wp2_with fail
            go_region
            go_wp2_with fail
            go_ret
            exact ⟨by rw [HF.out]; rfl, (HBW.out.trans (hb.out.mono HBW.out.size)).drew⟩
          · have p1 := str_ne q3
            have HF := Lib.hid (HR.out.trans (HPK.out t))
            subst q q1 q2
            clear t q3
            go_wp2_with fail
            go_region
            go_wp2_with fail
            go_ret
            exact ⟨by rw [HF.out]; rfl, (HBW.out.trans (hb.out.mono HBW.out.size)).drew⟩
          · have HN2 := Lib.hid (HNX.out t)
            subst q q1 q2 q3
            clear t
            have hb2 : Hid (Below R0.heap.size R0 wr.drew) := hb.out.drew
            go_wp2_with fail
            go_region
            go_wp2_with fail
            go_roundw
            case rel => exact ⟨k + 1, by omega, by go_num, HN2, hb2⟩
            case measure => simp [intOf]; omega
        · have z1 : ¬ (k : Int) < (PA.length : Int) := by omega
          have HF := Lib.hid (HR.out.trans (HY.out fun j h1 h2 => hall.out j (by omega) h1 h2))
          go_wp2_with fail
          go_ret
          exact ⟨by rw [HF.out]; rfl, HBW.out.trans (hb.out.mono HBW.out.size)⟩
  · have HF := Lib.hid (HR.out.trans (Hlen.out hl))
    have hl1 : ((PA.length : Int) != (PB.length : Int)) = true := ne_yes2 hl
    clear hl
    rw [HR0.out] at x4 y4
    clear x5 x6 x7 x8 y5 y6 y7 y8
    go_enter Try.func32, Try.ntmps32
    go_wp2_with fail
    go_ret
    exact ⟨by rw [HF.out]; rfl, HR0.out ▸ HBW.out⟩
end Go.Proofs.Ytkpieolmepngjaa
