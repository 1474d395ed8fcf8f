/-
  table: isOf, newWalk, meet BY CONTRACTS.
-/
import Derived.Test.YtoammjghgdgdiaaTbRefA
namespace Go.Proofs.Ytoammjghgdgdiaa
open Go Go.RowKit
set_option linter.unusedVariables false
set_option linter.unusedSimpArgs false

set_option maxHeartbeats 1000000 in
theorem isOf_any (L : List DT) (A : Option Addr) (c : Nat) (d q : Int) (w : World) (ha : DsR w w.heap.size A L) :
    Calls Try.prog 34 #[.agg #[.slice A L.length c], .int .i64 d, .int .i64 q] w fun e w' => e = .returned (.bool (isOfT L d q)) ∧ Below w.heap.size w w' := by
  obtain ⟨R0, hR0⟩ : ∃ R0 : World, R0 = w.alloc (.cells #[.slice A L.length c] 24) := ⟨_, rfl⟩
  have hb0 : Below w.heap.size w R0 := by rw [hR0]; exact (Below.refl _ _).alloc (Nat.le_refl _) _
  have hg : R0.heap[w.heap.size]? = some (.cells #[.slice A L.length c] 24 (0, 0)) := by rw [hR0]; exact heap_alloc_new w _
  have y0 : R0.cell? ⟨w.heap.size, 0, none⟩ = some (.slice A L.length c) := by rw [cell_of_row _ _ 0 _ _ _ hg]; rfl
  have HA := DsR.mono (Nat.le_refl _) hb0.block ha
  have HB := Lib.hid hb0
  have HR0 := Lib.hid hR0
  clear ha hb0 hg hR0
  rw [HR0.out] at y0
  by_cases h1 : d < 0
  · rw [isOfT_out (.inl h1)]
    have h2 : ¬ 0 ≤ d := by omega
    clear HA
    go_enter Try.func34, Try.ntmps34
    go_wp2_with fail
    go_ret
    exact ⟨rfl, HR0.out ▸ HB.out⟩
  obtain ⟨k, rfl⟩ : ∃ k : Nat, d = k := ⟨d.toNat, by omega⟩
  by_cases h2 : k < L.length
  · have q2 : (0 : Int) ≤ (k : Int) := by omega
    obtain ⟨g, o, cs, rfl, hg, hlen, hc, he⟩ := HA k h2
    rw [isOfT_of h2]
    obtain ⟨D, hN⟩ : ∃ D : DT, D = L[k] := ⟨_, rfl⟩
    rw [← hN] at he ⊢
    obtain ⟨A1, c1, A2, c2, A3, c3, A4, c4, rfl, _⟩ := he
    have y1 := hc 0 _ rfl
    rw [Nat.add_zero] at y1
    rw [HR0.out] at y1
    clear hc hlen hg hN HA
    have q1 : (k : Int) < (L.length : Int) := by omega
    by_cases hk : D.kind = q
    · have e1 : decide (D.kind = q) = true := decide_eq_true hk
      rw [e1]
      subst hk
      go_enter Try.func34, Try.ntmps34
      go_wp2_with fail
      go_ret
      exact ⟨rfl, HR0.out ▸ HB.out⟩
    · have e1 : decide (D.kind = q) = false := decide_eq_false hk
      rw [e1]
      have e2 : (D.kind == q) = false := eq_no hk
      clear e1
      go_enter Try.func34, Try.ntmps34
      go_wp2_with fail
      go_ret
      exact ⟨rfl, HR0.out ▸ HB.out⟩
  · have q1 : ¬ (k : Int) < (L.length : Int) := by omega
    have q2 : (0 : Int) ≤ (k : Int) := by omega
    rw [isOfT_out (.inr (by omega))]
    clear HA
    go_enter Try.func34, Try.ntmps34
    go_wp2_with fail
    go_ret
    exact ⟨rfl, HR0.out ▸ HB.out⟩

/-- a walk's blocks: itself in p, what it met in g, both ahead of S; its order from S on. -/
structure WAt (S : Nat) (w : World) (p g n : Nat) (out : List Int) : Prop where
  lp : p < S
  lg : g < S
  ne : p ≠ g
  le : S ≤ w.heap.size
  at_ : ∃ A c, w.heap[p]? = some (.cells #[.slice (some ⟨g, 0, none⟩) n n, .slice A out.length c] 76 (0, 0)) ∧ IRow S w A c out
  met : ∃ cs : Array Value, w.heap[g]? = some (.cells cs 4 (0, 0)) ∧ cs.size = n ∧ ∀ i, i < n → cs[i]? = some (.bool (out.contains (i : Int)))
/-- all that was there ahead of S stays, but for a walk's two blocks. -/
structure Keep (S p g : Nat) (w w' : World) : Prop where
  os : w'.os = w.os
  tape : w'.tape = w.tape
  output : w'.output = w.output
  size : w.heap.size ≤ w'.heap.size
  block : ∀ h, h < S → h ≠ p → h ≠ g → w'.heap[h]? = w.heap[h]?
theorem Keep.refl (S p g : Nat) (w : World) : Keep S p g w w := ⟨rfl, rfl, rfl, Nat.le_refl _, fun _ _ _ _ => rfl⟩
theorem Keep.trans {S p g : Nat} {u v w : World} (h : Keep S p g u v) (k : Keep S p g v w) : Keep S p g u w := ⟨k.os.trans h.os, k.tape.trans h.tape, k.output.trans h.output, Nat.le_trans h.size k.size, fun i h1 h2 h3 => (k.block i h1 h2 h3).trans (h.block i h1 h2 h3)⟩
theorem Keep.of_below {S p g : Nat} {w w' : World} (h : Below S w w') : Keep S p g w w' := ⟨h.os, h.tape, h.output, h.size, fun i h1 _ _ => h.block i h1⟩
theorem Keep.below {S p g B : Nat} {w w' : World} (h : Keep S p g w w') (hB : B ≤ S) (hp : B ≤ p) (hg : B ≤ g) : Below B w w' := ⟨h.os, h.tape, h.output, h.size, fun i hi => h.block i (by omega) (by omega) (by omega)⟩
theorem WAt.below {S p g n : Nat} {w w' : World} {out : List Int} (h : WAt S w p g n out) (hb : Below w.heap.size w w') : WAt S w' p g n out := by
  have h1 := h.lp
  have h2 := h.lg
  have h3 := h.le
  obtain ⟨A, c, h4, h5⟩ := h.at_
  obtain ⟨cs, h6, h7⟩ := h.met
  exact ⟨h1, h2, h.ne, Nat.le_trans h3 hb.size, ⟨A, c, (hb.block p (by omega)).trans h4, h5.below hb⟩, cs, (hb.block g (by omega)).trans h6, h7⟩
/-- a walk that has met none. -/
structure WNew (w : World) (p g n : Nat) : Prop where
  ne : p ≠ g
  lp : p < w.heap.size
  lg : g < w.heap.size
  at_ : w.heap[p]? = some (.cells #[.slice (some ⟨g, 0, none⟩) n n, .slice none 0 0] 76 (0, 0))
  met : ∃ cs : Array Value, w.heap[g]? = some (.cells cs 4 (0, 0)) ∧ cs.size = n ∧ ∀ i, i < n → cs[i]? = some (.bool false)
theorem WNew.below {w w' : World} {p g n : Nat} (h : WNew w p g n) (hb : Below w.heap.size w w') : WNew w' p g n := by
  have h1 := h.lp
  have h2 := h.lg
  obtain ⟨cs, h6, h7⟩ := h.met
  exact ⟨h.ne, Nat.lt_of_lt_of_le h1 hb.size, Nat.lt_of_lt_of_le h2 hb.size, (hb.block p h1).trans h.at_, cs, (hb.block g h2).trans h6, h7⟩
theorem WNew.start {w : World} {p g n : Nat} (h : WNew w p g n) : WAt w.heap.size w p g n [] := by
  obtain ⟨cs, h6, h7, h8⟩ := h.met
  exact ⟨h.lp, h.lg, h.ne, Nat.le_refl _, ⟨none, 0, h.at_, IRow.nil _ _⟩, cs, h6, h7, fun i hi => by rw [h8 i hi]; rfl⟩
theorem Try.infoBool : (Try.prog.info? 4).map (fun i => (i.zero, i.size, i.bytes)) = some (some (.bool false), 1, 1) := by kernel_rfl

set_option maxHeartbeats 1000000 in
set_option maxRecDepth 100000 in
theorem newWalk_any (A : Option Addr) (n c : Nat) (w : World) (hn : n ≤ 1000000000) :
    Calls Try.prog 39 #[.agg #[.slice A n c]] w fun e w' => ∃ p g, e = .returned (.pointer (some ⟨p, 0, none⟩)) ∧ WNew w' p g n ∧ w.heap.size ≤ p ∧ w.heap.size ≤ g ∧ Below w.heap.size w w' := by
  obtain ⟨i0, hi0, hz0, hz1, hz2⟩ := info_parts Try.infoBool
  obtain ⟨ms, hms⟩ : ∃ ms, ms = madeCells (Value.bool false).cells (n * 1) := ⟨_, rfl⟩
  have hmk : ∀ W : World, (Instr.makeSlice 74 (.int .i64 (n : Int)) (.int .i64 (n : Int))).run Try.prog W = .ok (.slice (some ⟨W.heap.size, 0, none⟩) n n) (W.alloc (.cells ms 4)) := fun W => by
    have := run_make (P := Try.prog) W 74 4 i0 (.bool false) Try.underlying74 hi0 hz0 .i64 .i64 n n (by omega) (Int.le_refl _) (by rw [hz2]; omega) (by omega)
    rw [hz1] at this
    rw [hms]
    simpa using this
  obtain ⟨R0, hR0⟩ : ∃ R0 : World, R0 = w.alloc (.cells #[.slice A n c] 24) := ⟨_, rfl⟩
  have hg : R0.heap[w.heap.size]? = some (.cells #[.slice A n c] 24 (0, 0)) := by rw [hR0]; exact heap_alloc_new w _
  have y0 : R0.cell? ⟨w.heap.size, 0, none⟩ = some (.slice A n c) := by rw [cell_of_row _ _ 0 _ _ _ hg]; rfl
  have hs : R0.heap.size = w.heap.size + 1 := by rw [hR0]; simp
  have HS := Lib.hid hs
  have HR0 := Lib.hid hR0
  have HM := Lib.hid hms
  clear hms hz0 hz1 hz2 hi0 hg hs hR0
  rw [HR0.out] at y0
  go_enter Try.func39, Try.ntmps39
  go_wp2_with fail
  go_ret
  have hms : ms.size = n ∧ ∀ i, i < n → ms[i]? = some (.bool false) := by
    rw [HM.out, size_madeCells, Nat.mul_one]
    refine ⟨rfl, fun i hi => ?_⟩
    rw [Array.getElem?_eq_getElem (by rw [size_madeCells]; exact hi)]
    simp [madeCells, Value.cells, Nat.mod_one]
  have h1 : (((w.alloc (.cells #[.slice A n c] 24)).alloc (.cells ms 4)).alloc (.cells #[.slice (some ⟨w.heap.size + 1, 0, none⟩) n n, .slice none 0 0] 76)).heap[w.heap.size + 1 + 1]? = some (.cells #[.slice (some ⟨w.heap.size + 1, 0, none⟩) n n, .slice none 0 0] 76 (0, 0)) := by
    have := heap_alloc_new ((w.alloc (.cells #[.slice A n c] 24)).alloc (.cells ms 4)) (.cells #[.slice (some ⟨w.heap.size + 1, 0, none⟩) n n, .slice none 0 0] 76)
    simpa using this
  have h2 : (((w.alloc (.cells #[.slice A n c] 24)).alloc (.cells ms 4)).alloc (.cells #[.slice (some ⟨w.heap.size + 1, 0, none⟩) n n, .slice none 0 0] 76)).heap[w.heap.size + 1]? = some (.cells ms 4 (0, 0)) := by
    rw [Below.heap_alloc _ _ _ (by simp)]
    have := heap_alloc_new (w.alloc (.cells #[.slice A n c] 24)) (.cells ms 4)
    simpa using this
  exact ⟨_, w.heap.size + 1, rfl, ⟨by omega, by simp, by simp, h1, ms, h2, hms⟩, by omega, by omega, (((Below.refl _ _).alloc (Nat.le_refl _) _).alloc (by simp) _).alloc (by simp; omega) _⟩

theorem heap_set_cell {w : World} {g : Nat} {cs : Array Value} {T : TypeId} {fr : Nat × Nat} (h : w.heap[g]? = some (.cells cs T fr)) (j : Nat) (u : Value) : (w.setCell ⟨g, j, none⟩ u).heap[g]? = some (.cells (cs.set! j u) T fr) := by
  simp [World.setCell, Array.getElem?_modify, h]
/-- the marks behind one more. -/
theorem marks_set {cs : Array Value} {n k : Nat} {out : List Int} (hs : cs.size = n) (hk : k < n) (h : ∀ i, i < n → cs[i]? = some (.bool (out.contains (i : Int)))) :
    (cs.set! k (.bool true)).size = n ∧ ∀ i, i < n → (cs.set! k (.bool true))[i]? = some (.bool ((out ++ [(k : Int)]).contains (i : Int))) := by
  refine ⟨by simp [hs], fun i hi => ?_⟩
  have e : (out ++ [(k : Int)]).contains (i : Int) = (out.contains (i : Int) || decide (i = k)) := by
    rw [show decide (i = k) = decide ((i : Int) = (k : Int)) from by simp only [Int.natCast_inj]]
    simp
  rw [e]
  by_cases hik : i = k
  · subst hik
    have : i < cs.size := by omega
    simp [Array.set!, Array.setIfInBounds, this]
  · rw [decide_eq_false hik, Bool.or_false, ← h i hi]
    simp [Array.set!, Array.getElem?_setIfInBounds_ne (Ne.symm hik)]
set_option maxHeartbeats 2000000 in
set_option maxRecDepth 100000 in
theorem meet_any (S p g n k : Nat) (out : List Int) (w : World) (h : WAt S w p g n out) (hk : k < n) (hn : n ≤ 1000000000) (hol : out.length ≤ 1000000000) (hi : ∀ x ∈ out, I64 x) :
    Calls Try.prog 40 #[.pointer (some ⟨p, 0, none⟩), .int .i64 (k : Int)] w fun e w' => e = .returned (.bool (!out.contains (k : Int))) ∧ WAt S w' p g n (if out.contains (k : Int) then out else out ++ [(k : Int)]) ∧ Keep S p g w w' := by
  obtain ⟨i0, hi0, hz0, hz1, hz2⟩ := info_parts Try.infoInt
  obtain ⟨A, c, h4, h5⟩ := h.at_
  obtain ⟨cs, h6, h7, h8⟩ := h.met
  obtain ⟨b, hb⟩ : ∃ b, b = out.contains (k : Int) := ⟨_, rfl⟩
  have y0 : w.cell? ⟨p, 0, none⟩ = some (.slice (some ⟨g, 0, none⟩) n n) := by rw [cell_of_row _ _ 0 _ _ _ h4]; rfl
  have y1 : w.cell? ⟨p, 1, none⟩ = some (.slice A out.length c) := by rw [cell_of_row _ _ 1 _ _ _ h4]; rfl
  have m : w.cell? ⟨g, k, none⟩ = some (.bool b) := by rw [cell_of_row _ _ k _ _ _ h6, h8 k hk, hb]
  have q1 : (k : Int) < (n : Int) := by omega
  have q2 : (0 : Int) ≤ (k : Int) := by omega
  rw [← hb]
  have HH := Lib.hid h
  cases b
  · have f0 : w.frozen? ⟨g, k, none⟩ = false := frozen_of_row _ _ k _ _ h6
    have f1 : w.frozen? ⟨p, 1, none⟩ = false := frozen_of_row _ _ 1 _ _ h4
    have n1 : p ≠ g := h.ne
    have n2 : g ≠ p := fun e => h.ne e.symm
    have lp := h.lp
    have lg := h.lg
    have le := h.le
    have hlen : out.length ≤ 1000000000 := hol
    have hrow1 : IRow S (w.setCell ⟨g, k, none⟩ (.bool true)) A c out := ⟨ownsRow_setCell_below h5.1 (by show g < S; exact lg) _, h5.2⟩
    have HH4 := Lib.hid h4
    have HH6 := Lib.hid h6
    have H5 := Lib.hid h5
    have HMK := Lib.hid (marks_set h7 hk h8)
    have HB := Lib.hid hb
    clear h h4 h5 h6 h7 h8 hb
    go_enter Try.func40, Try.ntmps40
    go_wp2_with (at_builtin; refine wpList_append_own _ rfl _ _ 32 rfl S 3 i0 (.int .i64 0) 1 8 Try.underlying32 hi0 hz0 hz1 hz2 rfl (by decide) _ _ _ rfl (hrow1.1.alloc _) ⟨w.heap.size, 0, none⟩ 1 1 [.int .i64 (k : Int)] rfl rfl (by have := cell_one_new (w.setCell ⟨g, k, none⟩ (.bool true)) (.int .i64 (k : Int)) 3; simpa using this) (by simp [Value.oneCell']) (by unfold maxLen; omega) (by omega) (by simp; omega) ?_)
    intro v2 w3 hown3 hgrow3 _
    obtain ⟨A2, c2, rfl, hrow3, hb3⟩ := hrow1.snoc (x := (k : Int)) (by unfold I64; omega) (by simp; omega) hown3 hgrow3
    have e1 : (w.setCell ⟨g, k, none⟩ (.bool true)).heap[p]? = w.heap[p]? := Below.heap_setCell _ _ _ _ n1
    have g1 : w3.heap[p]? = some (.cells #[.slice (some ⟨g, 0, none⟩) n n, .slice A out.length c] 76 (0, 0)) := ((hb3.block p lp).trans e1).trans HH4.out
    have g2 : w3.heap[g]? = some (.cells (cs.set! k (.bool true)) 4 (0, 0)) := (hb3.block g lg).trans (heap_set_cell HH6.out k _)
    have x1 : w3.cell? ⟨p, 1, none⟩ = some (.slice A out.length c) := by rw [cell_of_row _ _ 1 _ _ _ g1]; rfl
    have x2 : w3.frozen? ⟨p, 1, none⟩ = false := frozen_of_row _ _ 1 _ _ g1
    have hs3 := hb3.size
    have hs4 : w.heap.size ≤ w3.heap.size := by have : (w.setCell ⟨g, k, none⟩ (.bool true)).heap.size = w.heap.size := by simp [World.setCell]
                                                omega
    have HW : Hid (WAt S (w3.setCell ⟨p, 1, none⟩ (.slice A2 (out ++ [(k : Int)]).length c2)) p g n (out ++ [(k : Int)])) := by
      refine ⟨lp, lg, n1, by simp [World.setCell]; omega, ⟨A2, c2, ?_, ⟨ownsRow_setCell_below hrow3.1 lp _, hrow3.2⟩⟩, cs.set! k (.bool true), ?_, HMK.out⟩
      · rw [heap_set_cell g1]
        rfl
      · rw [Below.heap_setCell _ _ _ _ n2]
        exact g2
    have HK : Hid (Keep S p g w (w3.setCell ⟨p, 1, none⟩ (.slice A2 (out ++ [(k : Int)]).length c2))) := by
      refine ⟨hb3.os, hb3.tape, hb3.output, by simp [World.setCell]; omega, fun h h1 h2 h3 => ?_⟩
      rw [Below.heap_setCell _ _ _ _ h2, hb3.block h h1, Below.heap_setCell _ _ _ _ h3]
    have hll : (out ++ [(k : Int)]).length = out.length + 1 := by simp
    rw [hll] at HW HK
    clear hown3 hgrow3 hrow3 hb3 e1 g1 g2 hs3 hs4 HMK
    go_wp2_with fail
    go_ret
    exact ⟨rfl, HW.out, HK.out⟩
  · have HY0 := Lib.hid y0
    clear h h4 h5 h6 h7 h8 hb y1
    go_enter Try.func40, Try.ntmps40
    go_wp2_with fail
    go_ret
    exact ⟨rfl, HH.out, Keep.refl _ _ _ _⟩
end Go.Proofs.Ytoammjghgdgdiaa
