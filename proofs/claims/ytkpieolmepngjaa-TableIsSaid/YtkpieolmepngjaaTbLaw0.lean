/-
  governorlaw0: SameInts, SameVars, OverInts, OverVars, Low BY CONTRACTS.
-/
import Derived.Test.YtkpieolmepngjaaTbAlike
namespace Go.Proofs.Ytkpieolmepngjaa
open Go Go.RowKit
set_option linter.unusedVariables false
set_option linter.unusedSimpArgs false

set_option maxHeartbeats 1000000 in
set_option maxRecDepth 100000 in
/-- two rows of the same numbers are the same. -/
theorem sameInts_any (l : List Int) (A1 A2 : Option Addr) (c1 c2 : Nat) (w : World) (h1 : NsR w w.heap.size A1 l) (h2 : NsR w w.heap.size A2 l) (hcnt : l.length ≤ 1000000000) :
    Calls Try.prog 22 #[.slice A1 l.length c1, .slice A2 l.length c2] w fun e w' => e = .returned (.bool true) ∧ Below w.heap.size w w' := by
  have H1 := Lib.hid h1
  have H2 := Lib.hid h2
  have HB0 : Hid (Below w.heap.size w w) := Below.refl _ _
  clear h1 h2
  go_enter Try.func22, Try.ntmps22
  go_wp2_with fail
  go_loopw [5] (fun i wr => ∃ k : Nat, k ≤ l.length ∧ i = .int .i64 k ∧ Hid (Below w.heap.size w wr)) (fun i _ => l.length - (intOf i).toNat)
  case atStart => exact ⟨0, Nat.zero_le _, rfl, HB0⟩
  case round =>
    obtain ⟨k, hk, rfl, hb⟩ := hrel
    have z0 : (0 : Int) ≤ (k : Int) := by omega
    by_cases hlt : k < l.length
    · have z1 : (k : Int) < (l.length : Int) := by omega
      obtain ⟨g1, o1, cs1, rfl, _, _, hc1, he1⟩ := (NsR.mono (Nat.le_refl _) hb.out.block H1.out) k hlt
      obtain ⟨g2, o2, cs2, rfl, _, _, hc2, he2⟩ := (NsR.mono (Nat.le_refl _) hb.out.block H2.out) k hlt
      obtain ⟨rfl, -⟩ := he1
      obtain ⟨rfl, -⟩ := he2
      have x1 := hc1 0 _ rfl
      have x2 := hc2 0 _ rfl
      simp only [Nat.mul_one, Nat.add_zero] at x1 x2
      have hb2 : Hid (Below w.heap.size w wr.drew) := hb.out.drew
      obtain ⟨m, hm⟩ : ∃ m, m = l[k] := ⟨_, rfl⟩
      rw [← hm] at x1 x2
      clear hc1 hc2 hm
      go_wp2_with fail
      go_region
      go_wp2_with fail
      go_roundw
      case rel => exact ⟨k + 1, by omega, by go_num, hb2⟩
      case measure => simp [intOf]; omega
    · have z1 : ¬ (k : Int) < (l.length : Int) := by omega
      go_wp2_with fail
      go_ret
      exact ⟨rfl, hb.out⟩
set_option maxHeartbeats 2000000 in
set_option maxRecDepth 100000 in
/-- two rows of the same variables are the same. -/
theorem sameVars_any (l : List VT) (A1 A2 : Option Addr) (c1 c2 : Nat) (w : World) (h1 : VsR w w.heap.size A1 l) (h2 : VsR w w.heap.size A2 l) (hcnt : l.length ≤ 1700000000000) :
    Calls Try.prog 27 #[.slice A1 l.length c1, .slice A2 l.length c2] w fun e w' => e = .returned (.bool true) ∧ Below w.heap.size w w' := by
  have H1 := Lib.hid h1
  have H2 := Lib.hid h2
  have HB0 : Hid (Below w.heap.size w w) := Below.refl _ _
  clear h1 h2
  go_enter Try.func27, Try.ntmps27
  go_wp2_with fail
  go_loopw [5] (fun i wr => ∃ k : Nat, k ≤ l.length ∧ i = .int .i64 k ∧ Hid (Below w.heap.size w wr)) (fun i _ => l.length - (intOf i).toNat)
  case atStart => exact ⟨0, Nat.zero_le _, rfl, HB0⟩
  case round =>
    obtain ⟨k, hk, rfl, hb⟩ := hrel
    have z0 : (0 : Int) ≤ (k : Int) := by omega
    by_cases hlt : k < l.length
    · have z1 : (k : Int) < (l.length : Int) := by omega
      obtain ⟨g1, o1, cs1, rfl, _, _, hc1, he1⟩ := (VsR.mono (Nat.le_refl _) hb.out.block H1.out) k hlt
      obtain ⟨g2, o2, cs2, rfl, _, _, hc2, he2⟩ := (VsR.mono (Nat.le_refl _) hb.out.block H2.out) k hlt
      obtain ⟨va, hva⟩ : ∃ v : VT, v = l[k] := ⟨_, rfl⟩
      rw [← hva] at he1 he2
      obtain ⟨rfl, -⟩ := he1
      obtain ⟨rfl, -⟩ := he2
      have a0 := hc1 0 (.string va.name) rfl
      have a1 := hc1 1 (.int .i64 va.type.kind) rfl
      have a2 := hc1 2 (.int .i64 va.type.lo) rfl
      have a3 := hc1 3 (.int .i64 va.type.hi) rfl
      have a4 := hc1 4 (.string va.type.name) rfl
      have a5 := hc1 5 (.int .i64 va.init) rfl
      have a6 := hc1 6 (.int .i64 va.dir) rfl
      have a7 := hc1 7 (.int .i64 va.slot) rfl
      have b0 := hc2 0 (.string va.name) rfl
      have b1 := hc2 1 (.int .i64 va.type.kind) rfl
      have b2 := hc2 2 (.int .i64 va.type.lo) rfl
      have b3 := hc2 3 (.int .i64 va.type.hi) rfl
      have b4 := hc2 4 (.string va.type.name) rfl
      have b5 := hc2 5 (.int .i64 va.init) rfl
      have b6 := hc2 6 (.int .i64 va.dir) rfl
      have b7 := hc2 7 (.int .i64 va.slot) rfl
      rw [Nat.add_zero] at a0 b0
      have hb2 : Hid (Below w.heap.size w wr.drew) := hb.out.drew
      clear hc1 hc2 hva
      go_wp2_with fail
      go_region
      go_wp2_with fail
      go_roundw
      case rel => exact ⟨k + 1, by omega, by go_num, hb2⟩
      case measure => simp [intOf]; omega
    · have z1 : ¬ (k : Int) < (l.length : Int) := by omega
      go_wp2_with fail
      go_ret
      exact ⟨rfl, hb.out⟩

/-- a row of the call's own, whatever it holds. -/
def Owned (B : Nat) (w : World) (e : TypeId) (sz : Nat) (A : Option Addr) (n c : Nat) : Prop := ∃ xs, w.ownsRow B e sz (.slice A n c) n xs
theorem Owned.set {B : Nat} {w : World} {e : TypeId} {sz n c g : Nat} (h : Owned B w e sz (some ⟨g, 0, none⟩) n c) (j : Nat) (u : Value) : Owned B (w.setCell ⟨g, j, none⟩ u) e sz (some ⟨g, 0, none⟩) n c := by
  obtain ⟨xs, hx, h1⟩ := h
  rcases h1 with ⟨h1, _⟩ | ⟨g', cap, cur, hv, hb, hg, h2, h3, h4, h5⟩
  · cases h1
  · simp only [Value.slice.injEq, Option.some.injEq, Addr.mk.injEq, and_true, true_and] at hv
    obtain ⟨rfl, rfl⟩ := hv
    refine ⟨(cur.set! j u).toList.take (n * sz), ?_, .inr ⟨g, c, cur.set! j u, rfl, hb, heap_set_cell hg j u, h2, h3, by simp [h4], rfl⟩⟩
    have hle : n * sz ≤ c * sz := Nat.mul_le_mul_right _ h2
    simp only [List.length_take, Array.length_toList]
    have : (cur.set! j u).size = cur.size := by simp
    omega
theorem Owned.cell {B : Nat} {w : World} {e : TypeId} {sz n c : Nat} {A : Option Addr} (h : Owned B w e sz A n c) (hn : 0 < n) : ∃ g, A = some ⟨g, 0, none⟩ ∧ B ≤ g ∧ (∀ j, j < n * sz → ∃ v, w.cell? ⟨g, j, none⟩ = some v) ∧ ∀ j, w.frozen? ⟨g, j, none⟩ = false := by
  obtain ⟨xs, hx, h1⟩ := h
  rcases h1 with ⟨_, h1⟩ | ⟨g, cap, cur, hv, hb, hg, h2, h3, h4, h5⟩
  · omega
  · simp only [Value.slice.injEq, true_and] at hv
    obtain ⟨rfl, rfl⟩ := hv
    refine ⟨g, rfl, hb, fun j hj => ⟨cur[j]'?_, ?_⟩, fun j => frozen_of_row _ _ j _ _ hg⟩
    · have hle : n * sz ≤ c * sz := Nat.mul_le_mul_right _ h2
      omega
    · rw [cell_of_row _ _ j _ _ _ hg]
      exact Array.getElem?_eq_getElem _
theorem grown_refl (w : World) (o : Option Nat) : w.grownBy w o := ⟨rfl, rfl, rfl, Nat.le_refl _, fun _ _ _ => rfl⟩
theorem grown_trans {u v w : World} {o : Option Nat} (h : u.grownBy v o) (k : v.grownBy w o) : u.grownBy w o := ⟨k.os.trans h.os, k.tape.trans h.tape, k.output.trans h.output, Nat.le_trans h.size k.size, fun i hi hn => (k.block i (Nat.lt_of_lt_of_le hi h.size) hn).trans (h.block i hi hn)⟩
theorem grown_set {u w : World} {g j : Nat} {v : Value} (h : u.grownBy w (some g)) : u.grownBy (w.setCell ⟨g, j, none⟩ v) (some g) := ⟨h.os, h.tape, h.output, Nat.le_trans h.size (by simp [World.setCell]), fun i hi hn => by
  rw [Below.heap_setCell _ _ _ _ (by show i ≠ g; exact fun e => hn (by rw [e]))]
  exact h.block i hi hn⟩
theorem grown_alloc (w : World) (o : Obj) (r : Option Nat) : w.grownBy (w.alloc o) r := ⟨rfl, rfl, rfl, by simp, fun i hi _ => Below.heap_alloc _ _ _ hi⟩
theorem grown_below {w w' : World} {A : Option Addr} {n c B : Nat} (h : w.grownBy w' (Value.slice A n c).ownBlock) (hg : ∀ g, A = some ⟨g, 0, none⟩ → B ≤ g) (hA : A = none ∨ ∃ g, A = some ⟨g, 0, none⟩) (hB : B ≤ w.heap.size) : Below B w w' := ⟨h.os, h.tape, h.output, h.size, fun i hi => h.block i (Nat.lt_of_lt_of_le hi hB) (fun e => by
  rcases hA with rfl | ⟨g, rfl⟩
  · cases e
  · have := hg g rfl
    have : i = g := by simpa [Value.ownBlock] using e
    omega)⟩
theorem setCell_below {B : Nat} {a w : World} {g j : Nat} {u : Value} (h : Below B a w) (hg : B ≤ g) : Below B a (w.setCell ⟨g, j, none⟩ u) := h.setCell (p := ⟨g, j, none⟩) hg u
set_option maxHeartbeats 2000000 in
set_option maxRecDepth 100000 in
/-- OverInts writes over a row of the caller's own; nothing else is changed. -/
theorem overInts_any (n c B : Nat) (A : Option Addr) (w : World) (h : Owned B w 3 1 A n c) (hcnt : n ≤ 1000000000) (hB : B ≤ w.heap.size) :
    Calls Try.prog 29 #[.slice A n c] w fun e w' => e = .returned (.tuple #[]) ∧ w.grownBy w' (Value.slice A n c).ownBlock := by
  obtain ⟨i0, hi0, hz0, hz1, hz2⟩ := info_parts Try.infoInt
  have HO := Lib.hid h
  have HBB := Lib.hid hB
  have HB0 : Hid (w.grownBy w (Value.slice A n c).ownBlock) := grown_refl _ _
  clear h hB
  go_enter Try.func29, Try.ntmps29
  go_wp2_with fail
  go_loopw [2] (fun i wr => ∃ k : Nat, k ≤ n ∧ i = .int .i64 k ∧ Hid (Owned B wr 3 1 A n c) ∧ Hid (w.grownBy wr (Value.slice A n c).ownBlock)) (fun i _ => n - (intOf i).toNat)
  case atStart => exact ⟨0, Nat.zero_le _, rfl, HO, HB0⟩
  case round =>
    obtain ⟨k, hk, rfl, ho, hb⟩ := hrel
    have z0 : (0 : Int) ≤ (k : Int) := by omega
    by_cases hlt : k < n
    · have z1 : (k : Int) < (n : Int) := by omega
      obtain ⟨g, rfl, hg, hc, hf⟩ := ho.out.cell (by omega)
      obtain ⟨v, x⟩ := hc k (by omega)
      have f := hf k
      have ho2 : Hid (Owned B (wr.setCell ⟨g, k, none⟩ (.int .i64 (-999))) 3 1 (some ⟨g, 0, none⟩) n c) := ho.out.set k _
      have hb2 : Hid (w.grownBy (wr.setCell ⟨g, k, none⟩ (.int .i64 (-999))) (some g)) := grown_set hb.out
      clear hc hf
      go_wp2_with fail
      go_roundw
      case rel => exact ⟨k + 1, by omega, by go_num, ho2, hb2⟩
      case measure => simp [intOf]; omega
    · have z1 : ¬ (k : Int) < (n : Int) := by omega
      obtain ⟨xs, hx⟩ := ho.out
      have hbs := Nat.le_trans HBB.out hb.out.size
      go_wp2_with (at_builtin; refine wpList_append_own _ rfl _ _ 32 rfl B 3 i0 (.int .i64 0) 1 8 Try.underlying32 hi0 hz0 hz1 hz2 rfl (by decide) _ _ _ rfl (hx.alloc _) ⟨wr.heap.size, 0, none⟩ 1 1 [.int .i64 (-999)] rfl rfl (cell_one_new _ _ _) (by simp [Value.oneCell']) (by unfold maxLen; omega) (by omega) (by simp; omega) ?_)
      intro v2 w3 hown3 hgrow3 _
      have HB3 : Hid (w.grownBy w3 (Value.slice A n c).ownBlock) := grown_trans (grown_trans hb.out (grown_alloc _ _ _)) hgrow3
      clear hown3 hgrow3
      go_wp2_with fail
      go_end0
      exact ⟨rfl, HB3.out⟩
theorem ret_int {a b : Int} (h : a = b) : Ending.returned (.int .i64 a) = .returned (.int .i64 b) := by rw [h]
/-- Low: from 0 to below n. -/
theorem low_any (x : Int) (m : Nat) (hm : 0 < m) (hm2 : m ≤ 2000000) (w : World) : Calls Try.prog 14 #[.int .i64 x, .int .i64 (m : Int)] w fun e w' => (∃ r : Nat, r < m ∧ e = .returned (.int .i64 (r : Int))) ∧ w' = w := by
  have hu : IntKind.u64.wrap (m : Int) = (m : Int) := by rw [IntKind.wrap_u64]; omega
  have hz : ((m : Int) == 0) = false := by simp only [beq_eq_false_iff_ne, ne_eq]; omega
  go_enter Try.func14, Try.ntmps14
  go_wp2
  go_ret
  have h0 : 0 ≤ IntKind.u64.wrap x := by rw [IntKind.wrap_u64]; omega
  clear hu hz
  generalize IntKind.u64.wrap x = q at *
  have h1 : 0 ≤ q % (m : Int) := Int.emod_nonneg _ (by omega)
  have h2 : q % (m : Int) < (m : Int) := Int.emod_lt_of_pos _ (by omega)
  refine ⟨⟨(q % (m : Int)).toNat, by omega, ret_int ?_⟩, rfl⟩
  rw [Int.tmod_eq_emod_of_nonneg h0]
  generalize q % (m : Int) = y at *
  unfold wrap64
  omega
/-- the zero row of a variable. -/
theorem var_parts : ∃ i0 z, Try.prog.info? 54 = some i0 ∧ i0.zero = some z ∧ i0.size = 8 ∧ i0.bytes = 80 ∧ z.cells.size = 8 := by
  have hi0 : (Try.prog.info? 54).map (fun i => (i.zero.map (·.cells.size), i.size, i.bytes)) = some (some 8, 8, 80) := Try.infoVar
  cases hq : Try.prog.info? 54 with
  | none => rw [hq] at hi0; simp at hi0
  | some i0 =>
    rw [hq] at hi0
    simp at hi0
    obtain ⟨⟨z, h1, h2⟩, h3, h4⟩ := hi0
    exact ⟨i0, z, rfl, h1, h3, h4, h2⟩
theorem over_cells (w : World) (T : TypeId) : ∀ (j : Nat) (u : Value), ([.string ⟨#[111, 118, 101, 114]⟩, .int .i64 0, .int .i64 0, .int .i64 0, .string ⟨#[]⟩, .int .i64 0, .int .i64 0, .int .i64 0] : List Value)[j]? = some u → (w.alloc (.cells #[.string ⟨#[111, 118, 101, 114]⟩, .int .i64 0, .int .i64 0, .int .i64 0, .string ⟨#[]⟩, .int .i64 0, .int .i64 0, .int .i64 0] T)).cell? ((⟨w.heap.size, 0, none⟩ : Addr).add j) = some u := by
  intro j u hj
  match j, hj with
  | 0, hj => simp at hj; subst hj; simp [Addr.add]
  | 1, hj => simp at hj; subst hj; simp [Addr.add]
  | 2, hj => simp at hj; subst hj; simp [Addr.add]
  | 3, hj => simp at hj; subst hj; simp [Addr.add]
  | 4, hj => simp at hj; subst hj; simp [Addr.add]
  | 5, hj => simp at hj; subst hj; simp [Addr.add]
  | 6, hj => simp at hj; subst hj; simp [Addr.add]
  | 7, hj => simp at hj; subst hj; simp [Addr.add]
theorem over_one : ∀ u ∈ ([.string ⟨#[111, 118, 101, 114]⟩, .int .i64 0, .int .i64 0, .int .i64 0, .string ⟨#[]⟩, .int .i64 0, .int .i64 0, .int .i64 0] : List Value), u.oneCell' = true := by
  intro u hu
  simp at hu
  rcases hu with rfl | rfl | rfl | rfl <;> rfl
set_option maxHeartbeats 2000000 in
set_option maxRecDepth 100000 in
/-- OverVars writes over a row of the caller's own; nothing else is changed. -/
theorem overVars_any (n c B : Nat) (A : Option Addr) (w : World) (h : Owned B w 54 8 A n c) (hcnt : n ≤ 1700000000000) (hB : B ≤ w.heap.size) :
    Calls Try.prog 30 #[.slice A n c] w fun e w' => e = .returned (.tuple #[]) ∧ w.grownBy w' (Value.slice A n c).ownBlock := by
  obtain ⟨i0, z, hi0, hz, hz1, hz2, hz3⟩ := var_parts
  have HO := Lib.hid h
  have HBB := Lib.hid hB
  have HB0 : Hid (w.grownBy w (Value.slice A n c).ownBlock) := grown_refl _ _
  clear h hB
  go_enter Try.func30, Try.ntmps30
  go_wp2_with fail
  go_loopw [2] (fun i wr => ∃ k : Nat, k ≤ n ∧ i = .int .i64 k ∧ Hid (Owned B wr 54 8 A n c) ∧ Hid (w.grownBy wr (Value.slice A n c).ownBlock)) (fun i _ => n - (intOf i).toNat)
  case atStart => exact ⟨0, Nat.zero_le _, rfl, HO, HB0⟩
  case round =>
    obtain ⟨k, hk, rfl, ho, hb⟩ := hrel
    have z0 : (0 : Int) ≤ (k : Int) := by omega
    by_cases hlt : k < n
    · have z1 : (k : Int) < (n : Int) := by omega
      obtain ⟨g, rfl, hg, hc, hf⟩ := ho.out.cell (by omega)
      have hsz := Nat.le_trans HBB.out hb.out.size
      obtain ⟨u0, x0⟩ := hc (k * 8) (by omega)
      have f0 := hf (k * 8)
      obtain ⟨u1, x1⟩ := hc (k * 8 + 1) (by omega)
      have f1 := hf (k * 8 + 1)
      obtain ⟨u2, x2⟩ := hc (k * 8 + 2) (by omega)
      have f2 := hf (k * 8 + 2)
      obtain ⟨u3, x3⟩ := hc (k * 8 + 3) (by omega)
      have f3 := hf (k * 8 + 3)
      obtain ⟨u4, x4⟩ := hc (k * 8 + 4) (by omega)
      have f4 := hf (k * 8 + 4)
      obtain ⟨u5, x5⟩ := hc (k * 8 + 5) (by omega)
      have f5 := hf (k * 8 + 5)
      obtain ⟨u6, x6⟩ := hc (k * 8 + 6) (by omega)
      have f6 := hf (k * 8 + 6)
      obtain ⟨u7, x7⟩ := hc (k * 8 + 7) (by omega)
      have f7 := hf (k * 8 + 7)
      have ho2 : Hid (Owned B ((((((((wr.setCell ⟨g, k * 8, none⟩ (.string ⟨#[111, 118, 101, 114]⟩)).setCell ⟨g, k * 8 + 1, none⟩ (.int .i64 0)).setCell ⟨g, k * 8 + 2, none⟩ (.int .i64 0)).setCell ⟨g, k * 8 + 3, none⟩ (.int .i64 0)).setCell ⟨g, k * 8 + 4, none⟩ (.string ⟨#[]⟩)).setCell ⟨g, k * 8 + 5, none⟩ (.int .i64 0)).setCell ⟨g, k * 8 + 6, none⟩ (.int .i64 0)).setCell ⟨g, k * 8 + 7, none⟩ (.int .i64 0)) 54 8 (some ⟨g, 0, none⟩) n c) := ((((((((ho.out.set (k * 8) (.string ⟨#[111, 118, 101, 114]⟩)).set (k * 8 + 1) (.int .i64 0)).set (k * 8 + 2) (.int .i64 0)).set (k * 8 + 3) (.int .i64 0)).set (k * 8 + 4) (.string ⟨#[]⟩)).set (k * 8 + 5) (.int .i64 0)).set (k * 8 + 6) (.int .i64 0)).set (k * 8 + 7) (.int .i64 0))
      have hb2 : Hid (w.grownBy ((((((((wr.setCell ⟨g, k * 8, none⟩ (.string ⟨#[111, 118, 101, 114]⟩)).setCell ⟨g, k * 8 + 1, none⟩ (.int .i64 0)).setCell ⟨g, k * 8 + 2, none⟩ (.int .i64 0)).setCell ⟨g, k * 8 + 3, none⟩ (.int .i64 0)).setCell ⟨g, k * 8 + 4, none⟩ (.string ⟨#[]⟩)).setCell ⟨g, k * 8 + 5, none⟩ (.int .i64 0)).setCell ⟨g, k * 8 + 6, none⟩ (.int .i64 0)).setCell ⟨g, k * 8 + 7, none⟩ (.int .i64 0)) (some g)) := (grown_set (grown_set (grown_set (grown_set (grown_set (grown_set (grown_set (grown_set hb.out))))))))
      clear hc hf hsz
      go_wp2_with fail
      go_roundw
      case rel => exact ⟨k + 1, by omega, by go_num, ho2, hb2⟩
      case measure => simp [intOf]; omega
    · have z1 : ¬ (k : Int) < (n : Int) := by omega
      obtain ⟨xs, hx⟩ := ho.out
      have hbs := Nat.le_trans HBB.out hb.out.size
      go_wp2_with (at_builtin; refine wpList_append_own _ rfl _ _ 34 rfl B 54 i0 z 8 80 Try.underlying34 hi0 hz hz1 hz2 hz3 (by decide) _ _ _ rfl (hx.alloc _) ⟨wr.heap.size, 0, none⟩ 1 1 [.string ⟨#[111, 118, 101, 114]⟩, .int .i64 0, .int .i64 0, .int .i64 0, .string ⟨#[]⟩, .int .i64 0, .int .i64 0, .int .i64 0] rfl rfl (over_cells wr _) ?c2 ?c3 ?c4 ?c5 ?_)
      case c2 => exact ⟨rfl, rfl, rfl, rfl⟩
      case c3 => unfold maxLen; omega
      case c4 => omega
      case c5 => first | omega | (simp; omega)
      intro v2 w3 hown3 hgrow3 _
      have HB3 : Hid (w.grownBy w3 (Value.slice A n c).ownBlock) := grown_trans (grown_trans hb.out (grown_alloc _ _ _)) hgrow3
      clear hown3 hgrow3
      go_wp2_with fail
      go_end0
      exact ⟨rfl, HB3.out⟩
end Go.Proofs.Ytkpieolmepngjaa
