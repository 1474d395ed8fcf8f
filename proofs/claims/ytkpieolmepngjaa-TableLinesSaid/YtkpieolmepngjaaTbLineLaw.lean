/-
  TableLines, the walk: whatever the three numbers, the law returns true.
-/
import Derived.Test.YtkpieolmepngjaaTbGrow0
import Derived.Test.YtkpieolmepngjaaTbIsLaw
import Derived.Test.YtkpieolmepngjaaTbLinePure
import Derived.Deep.RegionHeld3
import Derived.Deep.DeepCutAuto
namespace Go.Proofs.Ytkpieolmepngjaa
open Go Go.RowKit
set_option linter.unusedVariables false
set_option linter.unusedSimpArgs false

theorem digit_at : ∀ k, k < 10 → (⟨#[48, 49, 50, 51, 52, 53, 54, 55, 56, 57]⟩ : ByteArray).extract k (k + 1) = ⟨#[(48 + k).toUInt8]⟩ := by
  intro k hk
  match k, hk with
  | 0, _ => rfl
  | 1, _ => rfl
  | 2, _ => rfl
  | 3, _ => rfl
  | 4, _ => rfl
  | 5, _ => rfl
  | 6, _ => rfl
  | 7, _ => rfl
  | 8, _ => rfl
  | 9, _ => rfl
theorem two_bytes (a b : UInt8) : (⟨#[a]⟩ : ByteArray) ++ ⟨#[b]⟩ = ⟨#[a, b]⟩ := rfl
/-- the cells of a class of the line, its rows from block lo on. -/
def mmCells : Array Value := #[.string ⟨#[109]⟩, .bool false, .bool false, .bool false, .slice none 0 0, .int .i64 0, .int .i64 0, .int .i64 0, .string ⟨#[]⟩, .slice none 0 0, .slice none 0 0]
def vvCells (i : Nat) : Array Value := #[.string (tag 102 i), .int .i64 0, .int .i64 0, .int .i64 0, .string ⟨#[]⟩, .int .i64 i, .int .i64 0, .int .i64 0]
def LQ (lo : Nat) (W : World) (d : DT) (cs : List Value) : Prop := ∃ (own i gv : Nat) (A : Option Addr) (n : Nat), i < 10 ∧ d = lineD own i ∧ lo ≤ gv ∧ W.heap[gv]? = some (.cells (vvCells i) 54 (0, 0)) ∧
  cs = [.int .i64 2, .string (tag 67 i), .string (if 0 < i then tag 67 (i - 1) else ⟨#[]⟩), .slice none 0 0, .bool false, .bool false, .slice (some ⟨gv, 0, none⟩) 1 1, .slice A n n, .slice none 0 0, .int .i64 0, .int .i64 0] ∧
  ((¬ (i = own ∨ i = 0) ∧ A = none ∧ n = 0) ∨ ((i = own ∨ i = 0) ∧ n = 1 ∧ ∃ gm, lo ≤ gm ∧ A = some ⟨gm, 0, none⟩ ∧ W.heap[gm]? = some (.cells mmCells 52 (0, 0))))
theorem LQ.mono {lo : Nat} {W W' : World} (hk : ∀ g cs T, lo ≤ g → T ≠ 47 → W.heap[g]? = some (.cells cs T (0, 0)) → W'.heap[g]? = W.heap[g]?) {d : DT} {cs : List Value} (h : LQ lo W d cs) : LQ lo W' d cs := by
  obtain ⟨own, i, gv, A, n, hi, hd, hg, hv, hcs, hm⟩ := h
  refine ⟨own, i, gv, A, n, hi, hd, hg, (hk gv _ _ hg (by decide) hv).trans hv, hcs, ?_⟩
  rcases hm with h | ⟨h1, h2, gm, h3, h4, h5⟩
  · exact .inl h
  · exact .inr ⟨h1, h2, gm, h3, h4, (hk gm _ _ h3 (by decide) h5).trans h5⟩
theorem LQ.one {lo : Nat} {W : World} {d : DT} {cs : List Value} (h : LQ lo W d cs) : ∀ u ∈ cs, u.oneCell' = true := by
  obtain ⟨own, i, gv, A, n, hi, hd, hg, hv, rfl, hm⟩ := h
  intro u hu
  simp only [List.mem_cons, List.not_mem_nil, or_false] at hu
  rcases hu with rfl | rfl | rfl | rfl | rfl | rfl | rfl | rfl | rfl | rfl | rfl <;> rfl
theorem LQ.din {lo : Nat} {W : World} {d : DT} {cs : List Value} (h : LQ lo W d cs) : DIn W W.heap.size d cs := by
  obtain ⟨own, i, gv, A, n, hi, rfl, hg, hv, rfl, hm⟩ := h
  have i0 : I64 0 := ⟨by decide, by decide⟩
  have ii : I64 (i : Int) := ⟨by omega, by omega⟩
  have hvs : VsR W W.heap.size (some ⟨gv, 0, none⟩) [lineV i] := row_of_block (Array.getElem?_eq_some_iff.1 hv).1 hv _ 8 rfl (fun k hk => by
    match k, hk with
    | 0, _ => exact ⟨rfl, ⟨i0, i0⟩, ii, i0⟩)
  rcases hm with ⟨h1, rfl, rfl⟩ | ⟨h1, rfl, gm, h3, rfl, h5⟩
  · have e : (lineD own i).methods = [] := by simp [lineD, h1]
    refine ⟨none, 0, some ⟨gv, 0, none⟩, 1, none, 0, none, 0, ?_, i0, i0, nil_row, hvs, ?_, nil_row⟩
    · rw [e]; rfl
    · rw [e]; exact nil_row
  · have e : (lineD own i).methods = [lineM] := by simp [lineD, h1]
    have hms : MsR W W.heap.size (some ⟨gm, 0, none⟩) [lineM] := row_of_block (Array.getElem?_eq_some_iff.1 h5).1 h5 _ 11 rfl (fun k hk => by
      match k, hk with
      | 0, _ => exact ⟨none, 0, none, 0, none, 0, rfl, ⟨i0, i0⟩, nil_row, nil_row, nil_row⟩)
    refine ⟨none, 0, some ⟨gv, 0, none⟩, 1, some ⟨gm, 0, none⟩, 1, none, 0, ?_, i0, i0, nil_row, hvs, ?_, nil_row⟩
    · rw [e]; rfl
    · rw [e]; exact hms
theorem DRw.monoQ {Q Q' : DT → List Value → Prop} {B : Nat} {w : World} {A : Option Addr} {c : Nat} {l : List DT} (h : DRw Q B w A c l) (hQ : ∀ d cs, Q d cs → Q' d cs) : DRw Q' B w A c l := by
  obtain ⟨xs, hx, hv⟩ := h
  exact ⟨xs, hx, fun k hk => hQ _ _ (hv k hk)⟩
theorem DRw.far {Q : DT → List Value → Prop} {B : Nat} {w w' : World} {A : Option Addr} {c : Nat} {l : List DT} (h : DRw Q B w A c l) (hb : Below w.heap.size w w') : DRw Q B w' A c l := by
  obtain ⟨xs, hx, hv⟩ := h
  exact ⟨xs, ownsRow_far hx hb, hv⟩
theorem two_allocs (W : World) (a b : Array Value) (S T : TypeId) : Below W.heap.size W ((W.alloc (.cells a S)).alloc (.cells b T)).drew ∧ ((W.alloc (.cells a S)).alloc (.cells b T)).drew.heap[W.heap.size + 1]? = some (.cells b T (0, 0)) ∧ ((W.alloc (.cells a S)).alloc (.cells b T)).drew.heap[W.heap.size]? = some (.cells a S (0, 0)) := by
  refine ⟨(((Below.refl _ _).alloc (Nat.le_refl _) _).alloc (by simp) _).drew, ?_, ?_⟩
  · have := heap_alloc_new (W.alloc (.cells a S)) (.cells b T)
    show ((W.alloc (.cells a S)).alloc (.cells b T)).heap[W.heap.size + 1]? = _
    simpa using this
  · show ((W.alloc (.cells a S)).alloc (.cells b T)).heap[W.heap.size]? = _
    rw [Below.heap_alloc _ _ _ (by simp)]
    exact heap_alloc_new W _
/-- a number more on a row of the call's own. -/
theorem app_int {B : Nat} {W : World} {A : Option Addr} {c : Nat} {l : List Int} {d : Int} (h : IRow B W A c l) (hd : I64 d) (hB : B ≤ W.heap.size) (hl : l.length ≤ 1000000) :
    ∃ v' w', (Builtin.append_ #[32, 32] 32 #[.slice A l.length c, .slice (some ⟨W.heap.size, 0, none⟩) 1 1]).run Try.prog (W.alloc (.cells #[.int .i64 d] 3)) = .ok v' w' ∧ ∃ A' c', v' = .slice A' (l.length + 1) c' ∧ Hid (IRow B w' A' c' (l ++ [d])) ∧ Hid (Below B W w') := by
  obtain ⟨i0, hi0, hz0, hz1, hz2⟩ := info_parts Try.infoInt
  have hs : (W.alloc (.cells #[.int .i64 d] 3)).heap[W.heap.size]? = some (.cells #[.int .i64 d] 3 (0, 0)) := heap_alloc_new W _
  obtain ⟨v', w', k1, k2, k3, _⟩ := app_run (P := Try.prog) (w := W.alloc (.cells #[.int .i64 d] 3)) (base := B) (t := 32) (ty := 32) (bytes := 8) Try.underlying32 hi0 hz0 hz1 hz2 (by rfl) (by decide) (h.1.alloc _) (A := some ⟨W.heap.size, 0, none⟩) (m := 1) (c := 1) (news := [.int .i64 d]) rfl (fun g o e j u hj => by
    simp only [Option.some.injEq, Addr.mk.injEq, and_true] at e
    obtain ⟨rfl, rfl⟩ := e
    match j, hj with
    | 0, hj =>
      simp only [List.getElem?_cons_zero, Option.some.injEq] at hj
      subst hj
      rw [cell_of_row _ _ 0 _ _ _ hs]
      rfl) (.inr (.inr ⟨_, _, rfl⟩)) (by simp [Value.oneCell']) (by unfold maxLen; omega) (by omega) (by simp; omega)
  have hlt := fun j hj => (h.1.lt j hj).1
  have hb : Below B W w' := ((Below.refl _ _).alloc hB _).grown k3 (by simp; omega) hlt
  have hshape : ∃ A' c', v' = .slice A' (l.length + 1) c' := by
    rcases k2.2 with ⟨h1, h2⟩ | ⟨g, cap, cur, h1, _⟩
    · exact ⟨none, 0, by rw [h1]; omega⟩
    · exact ⟨_, cap, h1⟩
  obtain ⟨A', c', rfl⟩ := hshape
  refine ⟨_, w', k1, A', c', rfl, ⟨?_, fun x hx => ?_⟩, hb⟩
  · rw [List.length_append]
    have e : iv (l ++ [d]) = iv l ++ [.int .i64 d] := by simp [iv]
    rw [e]
    exact k2
  · rcases List.mem_append.1 hx with hx | hx
    · exact h.2 x hx
    · rw [List.mem_singleton.1 hx]; exact hd
def desc (t j : Nat) : List Int := (List.range j).map (fun x : Nat => (t : Int) - (x : Int))
theorem desc_len (t j : Nat) : (desc t j).length = j := by simp [desc]
theorem desc_snoc (t j : Nat) : desc t (j + 1) = desc t j ++ [(t : Int) - (j : Int)] := by simp [desc, List.range_succ]
theorem desc_all (t : Nat) : desc t (t + 1) = (List.range (t + 1)).reverse.map (fun i : Nat => (i : Int)) := by
  unfold desc
  refine List.ext_getElem (by simp) fun i h1 h2 => ?_
  simp only [List.length_map, List.length_range] at h1
  simp only [List.getElem_map, List.getElem_range, List.getElem_reverse, List.length_range]
  omega
def vline (j : Nat) : List VT := (List.range j).map lineV
theorem vline_len (j : Nat) : (vline j).length = j := by simp [vline]
theorem vline_snoc (j : Nat) : vline (j + 1) = vline j ++ [lineV j] := by simp [vline, List.range_succ]
theorem line_fit {many own : Nat} (hm : many ≤ 10) : Fit (lineL many own) := by
  have hd : ∀ d ∈ lineL many own, ∃ i, d = lineD own i := fun d hd => by
    obtain ⟨i, _, e⟩ := List.mem_map.1 hd
    exact ⟨i, e.symm⟩
  refine ⟨by rw [lineL_len]; omega, fun d h => ?_, fun d h => ?_, fun d h => ?_, fun d h f hf => ?_, fun d h => ?_, fun d h => ?_⟩ <;> obtain ⟨i, rfl⟩ := hd d h
  · exact Nat.le_trans (show (2 : Nat) ≤ 2 from Nat.le_refl _) (by decide)
  · simp [lineD]
  · by_cases h0 : 0 < i
    · have e : (lineD own i).base = tag 67 (i - 1) := by simp [lineD, h0]
      rw [e]; exact Nat.le_trans (show (2 : Nat) ≤ 2 from Nat.le_refl _) (by decide)
    · have e : (lineD own i).base = ⟨#[]⟩ := by simp [lineD, h0]
      rw [e]; exact Nat.zero_le _
  · simp [lineD] at hf
  · by_cases h0 : i = own ∨ i = 0 <;> simp [lineD, h0]
  · simp [lineD]
/-- while the line is built: u's box holds the first k classes. -/
def ILine (w : World) (own k : Nat) (W : World) : Prop := Below w.heap.size w W ∧ ∃ A c, W.heap[w.heap.size]? = some (.cells #[.slice A k c] 24 (0, 0)) ∧ DRw (LQ (w.heap.size + 1) W) (w.heap.size + 1) W A c (lineL k own)
/-- a class more: behind the append and the store into u's box. -/
theorem ILine.more {w W9 : World} {own k : Nat} {cs : Array Value} {A : Option Addr} {c : Nat} (hk : k < 10) (hbw : Below w.heap.size w W9) (hu : W9.heap[w.heap.size]? = some (.cells #[.slice A k c] 24 (0, 0))) (hr : DRw (LQ (w.heap.size + 1) W9) (w.heap.size + 1) W9 A c (lineL k own)) (hq : LQ (w.heap.size + 1) W9 (lineD own k) cs.toList) (hcs : cs.size = 11) :
    ∃ v' w', (Builtin.append_ #[22, 22] 22 #[.slice A k c, .slice (some ⟨W9.heap.size, 0, none⟩) 1 1]).run Try.prog (W9.alloc (.cells cs 47)) = .ok v' w' ∧ ∃ A' c', v' = .slice A' (k + 1) c' ∧ w'.cell? ⟨w.heap.size, 0, none⟩ = some (.slice A k c) ∧ w'.frozen? ⟨w.heap.size, 0, none⟩ = false ∧ Hid (ILine w own (k + 1) (w'.setCell ⟨w.heap.size, 0, none⟩ (.slice A' (k + 1) c'))) := by
  have hs : (W9.alloc (.cells cs 47)).heap[W9.heap.size]? = some (.cells cs 47 (0, 0)) := heap_alloc_new W9 _
  have hb1 : Below W9.heap.size W9 (W9.alloc (.cells cs 47)) := (Below.refl _ _).alloc (Nat.le_refl _) _
  have h1 := DRw.far hr hb1
  have h2 : RowIn (LQ (w.heap.size + 1) W9) (W9.alloc (.cells cs 47)) (W9.alloc (.cells cs 47)).heap.size (some ⟨W9.heap.size, 0, none⟩) 11 [lineD own k] := row_of_block (by simp) hs _ 11 (by simp [hcs]) (fun j hj => by
    match j, hj with
    | 0, _ =>
      have e : ((cs.toList.drop (0 * 11)).take 11) = cs.toList := by rw [Nat.zero_mul, List.drop_zero]; exact List.take_of_length_le (by simp [hcs])
      rw [e]
      exact hq)
  have gl : w.heap.size < W9.heap.size := (Array.getElem?_eq_some_iff.1 hu).1
  obtain ⟨A', c', w', k1, k2, k3, k4, _⟩ := app_decls (c1 := 1) h1 h2 (fun d cs h => LQ.one h) (by rw [lineL_len]; simp; omega) (by simp; omega)
  rw [lineL_len] at k1 k4
  rw [← lineL_snoc] at k1 k2
  rw [lineL_len] at k1
  have hbs : w.heap.size + 1 ≤ W9.heap.size := gl
  have hu1 : (W9.alloc (.cells cs 47)).heap[w.heap.size]? = some (.cells #[.slice A k c] 24 (0, 0)) := (hb1.block _ gl).trans hu
  have hu2 : w'.heap[w.heap.size]? = some (.cells #[.slice A k c] 24 (0, 0)) := (k3.block _ (by omega)).trans hu1
  have hq2 : ∀ d cs, LQ (w.heap.size + 1) W9 d cs → LQ (w.heap.size + 1) (w'.setCell ⟨w.heap.size, 0, none⟩ (.slice A' (k + 1) c')) d cs := fun d cs h => LQ.mono (fun g cs' T hg hT hs => by
    have hgl : g < W9.heap.size := (Array.getElem?_eq_some_iff.1 hs).1
    rw [Below.heap_setCell _ _ _ _ (by show g ≠ w.heap.size; omega)]
    refine (k4.block g (by simp; omega) fun e => ?_).trans (hb1.block _ hgl)
    obtain ⟨xs, hx, _⟩ := h1
    rcases hx.2 with ⟨e', _⟩ | ⟨h0, cap, cur, e', _, hgb, _⟩
    · simp only [Value.slice.injEq] at e'
      rw [e'.1] at e
      simp [Value.ownBlock] at e
    · simp only [Value.slice.injEq] at e'
      rw [e'.1] at e
      have e2 : g = h0 := by simpa [Value.ownBlock] using e
      subst e2
      rw [(hb1.block _ hgl).trans hs] at hgb
      injection hgb with hgb
      injection hgb with _ h5
      exact hT h5) h
  refine ⟨_, w', k1, A', c', rfl, by rw [cell_of_row _ _ 0 _ _ _ hu2]; rfl, frozen_of_row _ _ 0 _ _ hu2, ?_, A', c', heap_set_cell hu2 0 _, ?_⟩
  · exact ((hbw.trans (hb1.mono (by omega))).trans (k3.mono (by omega))).setCell (p := ⟨w.heap.size, 0, none⟩) (Nat.le_refl _) _
  · obtain ⟨xs, hx, hv⟩ := k2
    exact ⟨xs, ownsRow_setCell_below hx (by show w.heap.size < _; omega) _, fun i hi => hq2 _ _ (hv i hi)⟩
set_option maxHeartbeats 40000000 in
set_option maxRecDepth 100000 in
theorem lines_walk (m0 a0 o0 : Int) (w : World) :
    Calls Try.prog 6 #[.int .i64 m0, .int .i64 a0, .int .i64 o0] w fun e w' => e = .returned (.bool true) ∧ Below w.heap.size w w' := by
  have l0 := lowT_lt m0 (m := 10) (by decide)
  have K0 := Lib.hid (low_at m0 10 (by decide) (by decide))
  obtain ⟨r0, hr0⟩ : ∃ r, r = lowT m0 10 := ⟨_, rfl⟩
  rw [← hr0] at l0 K0
  obtain ⟨M, hM⟩ : ∃ M : Nat, M = 1 + r0 := ⟨_, rfl⟩
  have hM1 : 0 < M := by omega
  have hM2 : M ≤ 10 := by omega
  have hM3 : (1 : Int) + (r0 : Int) = (M : Int) := by omega
  have l1 := lowT_lt a0 hM1
  have l2 := lowT_lt o0 hM1
  have K1 := Lib.hid (low_at a0 M hM1 (by omega))
  have K2 := Lib.hid (low_at o0 M hM1 (by omega))
  obtain ⟨t, ht⟩ : ∃ r, r = lowT a0 M := ⟨_, rfl⟩
  obtain ⟨s, hs⟩ : ∃ r, r = lowT o0 M := ⟨_, rfl⟩
  rw [← ht] at l1 K1
  rw [← hs] at l2 K2
  clear hr0 ht hs hM
  go_enter Try.func6, Try.ntmps6
  go_wp2_with fail
  refine (K0.out _).mono ?_
  rintro e1 w1 ⟨rfl, rfl⟩
  go_wp2_with fail
  clear hM3 K0
  refine (K1.out _).mono ?_
  rintro e2 w2 ⟨rfl, rfl⟩
  go_wp2_with fail
  refine (K2.out _).mono ?_
  rintro e3 w3 ⟨rfl, rfl⟩
  clear K1 K2
  go_wp2_with fail
  have i0 : Hid (ILine w3 s 0 (w3.alloc (.cells #[.slice none 0 0] 24))) := ⟨(Below.refl _ _).alloc (Nat.le_refl _) _, none, 0, heap_alloc_new w3 _, DRw.nil _ _ _⟩
  go_loopw [8] (fun i wr => ∃ k : Nat, k ≤ M ∧ i = .int .i64 k ∧ Hid (ILine w3 s k wr)) (fun i _ => M - (intOf i).toNat)
  case atStart => exact ⟨0, Nat.zero_le _, rfl, i0⟩
  case round =>
    obtain ⟨k, hk, rfl, hi⟩ := hrel
    have z0 : (0 : Int) ≤ (k : Int) := by omega
    by_cases hlt : k < M
    · have z1 : (k : Int) < (M : Int) := by omega
      have z2 : (k : Int) + 1 ≤ 10 := by omega
      have z3 : (0 : Int) ≤ (k : Int) + 1 := by omega
      have z4 : (k : Int) ≤ (k : Int) + 1 := by omega
      have z5 : ((k : Int) + 1).toNat = k + 1 := by omega
      have z6 : IntKind.i64.wrap ((k : Int) + 1) = (k : Int) + 1 := by rw [IntKind.wrap_i64]; omega
      obtain ⟨x, hxx⟩ : ∃ x, x = (48 + k).toUInt8 := ⟨_, rfl⟩
      have hx := digit_at k (by omega)
      rw [← hxx] at hx
      have hc1 := two_bytes 67 x
      have hc2 := two_bytes 102 x
      have HX := Lib.hid hxx
      clear hxx
      go_upto_region 7 with fail
      go_cut [9] (fun s9 wx => ∃ (W7 : World) (gd gv : Nat), W7 = wx ∧ s9 = .pointer (some ⟨gd, 0, none⟩) ∧ Hid (gd ≠ gv ∧ wr.heap.size ≤ gd ∧ wr.heap.size ≤ gv ∧ Below wr.heap.size wr wx ∧ wx.heap[gd]? = some (.cells #[.int .i64 2, .string ⟨#[67, x]⟩, .string ⟨#[]⟩, .slice none 0 0, .bool false, .bool false, .slice (some ⟨gv, 0, none⟩) 1 1, .slice none 0 0, .slice none 0 0, .int .i64 0, .int .i64 0] 47 (0, 0)) ∧ wx.heap[gv]? = some (.cells #[.string ⟨#[102, x]⟩, .int .i64 0, .int .i64 0, .int .i64 0, .string ⟨#[]⟩, .int .i64 k, .int .i64 0, .int .i64 0] 54 (0, 0))))
      case first =>
        go_region_held3 (fun w' => True) (trivial) (first | fail)
        all_goals go_wp2_with fail
        all_goals go_meet
        · have T := two_allocs wr #[.string ⟨#[102, x]⟩, .int .i64 0, .int .i64 0, .int .i64 0, .string ⟨#[]⟩, .int .i64 k, .int .i64 0, .int .i64 0] #[.int .i64 2, .string ⟨#[67, x]⟩, .string ⟨#[]⟩, .slice none 0 0, .bool false, .bool false, .slice (some ⟨wr.heap.size, 0, none⟩) 1 1, .slice none 0 0, .slice none 0 0, .int .i64 0, .int .i64 0] 54 47
          exact ⟨_, _, _, rfl, rfl, by omega, by omega, by omega, T.1, T.2.1, T.2.2⟩
        · have T := two_allocs wr #[.int .i64 2, .string ⟨#[67, x]⟩, .string ⟨#[]⟩, .slice none 0 0, .bool false, .bool false, .slice (some ⟨wr.heap.size + 1, 0, none⟩) 1 1, .slice none 0 0, .slice none 0 0, .int .i64 0, .int .i64 0] #[.string ⟨#[102, x]⟩, .int .i64 0, .int .i64 0, .int .i64 0, .string ⟨#[]⟩, .int .i64 k, .int .i64 0, .int .i64 0] 47 54
          exact ⟨_, _, _, rfl, rfl, by omega, by omega, by omega, T.1, T.2.2, T.2.1⟩
      case rest =>
        obtain ⟨W7, gd, gv, rfl, rfl, hh⟩ := hcut
        obtain ⟨hne, hgd, hgv, hbw, hd, hv⟩ := hh.out
        obtain ⟨hb0, A, c, hu, hr⟩ := hi.out
        have gul : w3.heap.size < wr.heap.size := (Array.getElem?_eq_some_iff.1 hu).1
        have gdl : gd < W7.heap.size := (Array.getElem?_eq_some_iff.1 hd).1
        have gvl : gv < W7.heap.size := (Array.getElem?_eq_some_iff.1 hv).1
        clear hx hc1 hc2
        by_cases hkp : 0 < k
        · by_cases hks : k = s
          · obtain ⟨y, hyy⟩ : ∃ y, y = (48 + (k - 1)).toUInt8 := ⟨_, rfl⟩
            have hy := digit_at (k - 1) (by omega)
            rw [← hyy, show k - 1 + 1 = k by omega] at hy
            have hc1 := two_bytes 67 y
            have HY := Lib.hid hyy
            have z7 : (0 : Int) < (k : Int) := by omega
            have z8 : (0 : Int) ≤ (k : Int) - 1 := by omega
            have z9 : ((k : Int) - 1).toNat = k - 1 := by omega
            have z10 : IntKind.i64.wrap ((k : Int) - 1) = (k : Int) - 1 := by rw [IntKind.wrap_i64]; omega
            have z11 : (k : Int) - 1 ≤ (k : Int) := by omega
            have z12 : (k : Int) ≤ 10 := by omega
            clear hyy
            have e1 : ((k : Int) == (s : Int)) = true := by simp only [beq_iff_eq]; omega
            have HKS := Lib.hid hks
            clear hks
            have hb9 : Below wr.heap.size wr (((W7.setCell ⟨gd, 2, none⟩ (.string ⟨#[67, y]⟩)).setCell ⟨gd, 7, none⟩ (.slice (some ⟨W7.heap.size, 0, none⟩) 1 1)).alloc (.cells #[.string ⟨#[109]⟩, .bool false, .bool false, .bool false, .slice none 0 0, .int .i64 0, .int .i64 0, .int .i64 0, .string ⟨#[]⟩, .slice none 0 0, .slice none 0 0] 52)) := (Below.alloc (Below.setCell (p := ⟨gd, 7, none⟩) (Below.setCell (p := ⟨gd, 2, none⟩) hbw hgd _) hgd _) (by simp [World.setCell]; omega) _)
            have hd9 : (((W7.setCell ⟨gd, 2, none⟩ (.string ⟨#[67, y]⟩)).setCell ⟨gd, 7, none⟩ (.slice (some ⟨W7.heap.size, 0, none⟩) 1 1)).alloc (.cells #[.string ⟨#[109]⟩, .bool false, .bool false, .bool false, .slice none 0 0, .int .i64 0, .int .i64 0, .int .i64 0, .string ⟨#[]⟩, .slice none 0 0, .slice none 0 0] 52)).heap[gd]? = some (.cells #[.int .i64 2, .string ⟨#[67, x]⟩, .string ⟨#[67, y]⟩, .slice none 0 0, .bool false, .bool false, .slice (some ⟨gv, 0, none⟩) 1 1, .slice (some ⟨W7.heap.size, 0, none⟩) 1 1, .slice none 0 0, .int .i64 0, .int .i64 0] 47 (0, 0)) := ((Below.heap_alloc _ _ _ (by simp [World.setCell]; omega)).trans (heap_set_cell (heap_set_cell hd 2 (.string ⟨#[67, y]⟩)) 7 (.slice (some ⟨W7.heap.size, 0, none⟩) 1 1)))
            have hv9 : (((W7.setCell ⟨gd, 2, none⟩ (.string ⟨#[67, y]⟩)).setCell ⟨gd, 7, none⟩ (.slice (some ⟨W7.heap.size, 0, none⟩) 1 1)).alloc (.cells #[.string ⟨#[109]⟩, .bool false, .bool false, .bool false, .slice none 0 0, .int .i64 0, .int .i64 0, .int .i64 0, .string ⟨#[]⟩, .slice none 0 0, .slice none 0 0] 52)).heap[gv]? = some (.cells #[.string ⟨#[102, x]⟩, .int .i64 0, .int .i64 0, .int .i64 0, .string ⟨#[]⟩, .int .i64 k, .int .i64 0, .int .i64 0] 54 (0, 0)) := by
              rw [Below.heap_alloc _ _ _ (by simp [World.setCell]; omega), Below.heap_setCell _ _ _ _ (by show gv ≠ gd; omega)]
              rw [Below.heap_setCell _ _ _ _ (by show gv ≠ gd; omega)]
              exact hv
            have hm9 : (((W7.setCell ⟨gd, 2, none⟩ (.string ⟨#[67, y]⟩)).setCell ⟨gd, 7, none⟩ (.slice (some ⟨W7.heap.size, 0, none⟩) 1 1)).alloc (.cells #[.string ⟨#[109]⟩, .bool false, .bool false, .bool false, .slice none 0 0, .int .i64 0, .int .i64 0, .int .i64 0, .string ⟨#[]⟩, .slice none 0 0, .slice none 0 0] 52)).heap[W7.heap.size]? = some (.cells #[.string ⟨#[109]⟩, .bool false, .bool false, .bool false, .slice none 0 0, .int .i64 0, .int .i64 0, .int .i64 0, .string ⟨#[]⟩, .slice none 0 0, .slice none 0 0] 52 (0, 0)) := by
              have h := heap_alloc_new ((W7.setCell ⟨gd, 2, none⟩ (.string ⟨#[67, y]⟩)).setCell ⟨gd, 7, none⟩ (.slice (some ⟨W7.heap.size, 0, none⟩) 1 1)) (.cells #[.string ⟨#[109]⟩, .bool false, .bool false, .bool false, .slice none 0 0, .int .i64 0, .int .i64 0, .int .i64 0, .string ⟨#[]⟩, .slice none 0 0, .slice none 0 0] 52)
              simpa [World.setCell] using h
            have y2 : W7.cell? ⟨gd, 2, none⟩ = some (.string ⟨#[]⟩) := by rw [cell_of_row _ _ 2 _ _ _ hd]; rfl
            have f2 : W7.frozen? ⟨gd, 2, none⟩ = false := frozen_of_row _ _ 2 _ _ hd
            have y7 : W7.cell? ⟨gd, 7, none⟩ = some (.slice none 0 0) := by rw [cell_of_row _ _ 7 _ _ _ hd]; rfl
            have f7 : W7.frozen? ⟨gd, 7, none⟩ = false := frozen_of_row _ _ 7 _ _ hd
            have HD9 := Lib.hid hd9
            have HV9 := Lib.hid hv9
            have HB9 := Lib.hid hb9
            have HM9 := Lib.hid hm9
            clear hm9
            clear hd9 hv9 hb9
            go_upto_region 12 with fail
            obtain ⟨W9, hW9⟩ : ∃ W9, W9 = (((W7.setCell ⟨gd, 2, none⟩ (.string ⟨#[67, y]⟩)).setCell ⟨gd, 7, none⟩ (.slice (some ⟨W7.heap.size, 0, none⟩) 1 1)).alloc (.cells #[.string ⟨#[109]⟩, .bool false, .bool false, .bool false, .slice none 0 0, .int .i64 0, .int .i64 0, .int .i64 0, .string ⟨#[]⟩, .slice none 0 0, .slice none 0 0] 52)) := ⟨_, rfl⟩
            rw [← hW9] at HD9 HV9 HB9 HM9 ⊢
            clear hW9 y2 y7 f2 f7
            have hlq : LQ (w3.heap.size + 1) W9 (lineD s k) (#[.int .i64 2, .string ⟨#[67, x]⟩, .string ⟨#[67, y]⟩, .slice none 0 0, .bool false, .bool false, .slice (some ⟨gv, 0, none⟩) 1 1, .slice (some ⟨W7.heap.size, 0, none⟩) 1 1, .slice none 0 0, .int .i64 0, .int .i64 0] : Array Value).toList := ⟨s, k, gv, some ⟨W7.heap.size, 0, none⟩, 1, by omega, rfl, by omega, by rw [vvCells, tag, ← HX.out]; exact HV9.out, by rw [tag, ← HX.out, if_pos hkp, tag, ← HY.out], .inr ⟨.inl HKS.out, rfl, W7.heap.size, by omega, rfl, HM9.out⟩⟩
            have hu9 : W9.heap[w3.heap.size]? = some (.cells #[.slice A k c] 24 (0, 0)) := (HB9.out.block _ (by omega)).trans hu
            have hr9 : DRw (LQ (w3.heap.size + 1) W9) (w3.heap.size + 1) W9 A c (lineL k s) := DRw.monoQ (DRw.far hr HB9.out) fun d cs h => LQ.mono (fun g cs' T _ _ hs => HB9.out.block _ (Array.getElem?_eq_some_iff.1 hs).1) h
            have AP := Lib.hid (ILine.more (by omega) (hb0.trans (HB9.out.mono hb0.size)) hu9 hr9 hlq rfl)
            have x0 : W9.cell? ⟨gd, 0, none⟩ = some (.int .i64 2) := by rw [cell_of_row _ _ 0 _ _ _ HD9.out]; rfl
            have x1 : W9.cell? ⟨gd, 1, none⟩ = some (.string ⟨#[67, x]⟩) := by rw [cell_of_row _ _ 1 _ _ _ HD9.out]; rfl
            have x2 : W9.cell? ⟨gd, 2, none⟩ = some (.string ⟨#[67, y]⟩) := by rw [cell_of_row _ _ 2 _ _ _ HD9.out]; rfl
            have x3 : W9.cell? ⟨gd, 3, none⟩ = some (.slice none 0 0) := by rw [cell_of_row _ _ 3 _ _ _ HD9.out]; rfl
            have x4 : W9.cell? ⟨gd, 4, none⟩ = some (.bool false) := by rw [cell_of_row _ _ 4 _ _ _ HD9.out]; rfl
            have x5 : W9.cell? ⟨gd, 5, none⟩ = some (.bool false) := by rw [cell_of_row _ _ 5 _ _ _ HD9.out]; rfl
            have x6 : W9.cell? ⟨gd, 6, none⟩ = some (.slice (some ⟨gv, 0, none⟩) 1 1) := by rw [cell_of_row _ _ 6 _ _ _ HD9.out]; rfl
            have x7 : W9.cell? ⟨gd, 7, none⟩ = some (.slice (some ⟨W7.heap.size, 0, none⟩) 1 1) := by rw [cell_of_row _ _ 7 _ _ _ HD9.out]; rfl
            have x8 : W9.cell? ⟨gd, 8, none⟩ = some (.slice none 0 0) := by rw [cell_of_row _ _ 8 _ _ _ HD9.out]; rfl
            have x9 : W9.cell? ⟨gd, 9, none⟩ = some (.int .i64 0) := by rw [cell_of_row _ _ 9 _ _ _ HD9.out]; rfl
            have x10 : W9.cell? ⟨gd, 10, none⟩ = some (.int .i64 0) := by rw [cell_of_row _ _ 10 _ _ _ HD9.out]; rfl
            have yu : W9.cell? ⟨w3.heap.size, 0, none⟩ = some (.slice A k c) := by rw [cell_of_row _ _ 0 _ _ _ hu9]; rfl
            clear hlq hu9 hr9
            go_wp2_with (at_builtin; refine wpList_app rfl _ _ _ rfl _ _ rfl rfl (use2 AP.out ?_))
            rintro v5 w5 A5 c5 rfl cu fu hi5
            clear AP
            go_wp2_with fail
            go_roundw
            case rel => exact ⟨k + 1, by omega, by go_num, hi5⟩
            case measure => simp [intOf]; omega
          · obtain ⟨y, hyy⟩ : ∃ y, y = (48 + (k - 1)).toUInt8 := ⟨_, rfl⟩
            have hy := digit_at (k - 1) (by omega)
            rw [← hyy, show k - 1 + 1 = k by omega] at hy
            have hc1 := two_bytes 67 y
            have HY := Lib.hid hyy
            have z7 : (0 : Int) < (k : Int) := by omega
            have z8 : (0 : Int) ≤ (k : Int) - 1 := by omega
            have z9 : ((k : Int) - 1).toNat = k - 1 := by omega
            have z10 : IntKind.i64.wrap ((k : Int) - 1) = (k : Int) - 1 := by rw [IntKind.wrap_i64]; omega
            have z11 : (k : Int) - 1 ≤ (k : Int) := by omega
            have z12 : (k : Int) ≤ 10 := by omega
            clear hyy
            have e1 : ((k : Int) == (s : Int)) = false := by simp only [beq_eq_false_iff_ne, ne_eq]; omega
            have e2 : ((k : Int) == 0) = false := by simp only [beq_eq_false_iff_ne, ne_eq]; omega
            have HKS := Lib.hid hks
            clear hks
            have hb9 : Below wr.heap.size wr (W7.setCell ⟨gd, 2, none⟩ (.string ⟨#[67, y]⟩)) := (Below.setCell (p := ⟨gd, 2, none⟩) hbw hgd _)
            have hd9 : (W7.setCell ⟨gd, 2, none⟩ (.string ⟨#[67, y]⟩)).heap[gd]? = some (.cells #[.int .i64 2, .string ⟨#[67, x]⟩, .string ⟨#[67, y]⟩, .slice none 0 0, .bool false, .bool false, .slice (some ⟨gv, 0, none⟩) 1 1, .slice none 0 0, .slice none 0 0, .int .i64 0, .int .i64 0] 47 (0, 0)) := (heap_set_cell hd 2 (.string ⟨#[67, y]⟩))
            have hv9 : (W7.setCell ⟨gd, 2, none⟩ (.string ⟨#[67, y]⟩)).heap[gv]? = some (.cells #[.string ⟨#[102, x]⟩, .int .i64 0, .int .i64 0, .int .i64 0, .string ⟨#[]⟩, .int .i64 k, .int .i64 0, .int .i64 0] 54 (0, 0)) := by
              rw [Below.heap_setCell _ _ _ _ (by show gv ≠ gd; omega)]
              exact hv
            have y2 : W7.cell? ⟨gd, 2, none⟩ = some (.string ⟨#[]⟩) := by rw [cell_of_row _ _ 2 _ _ _ hd]; rfl
            have f2 : W7.frozen? ⟨gd, 2, none⟩ = false := frozen_of_row _ _ 2 _ _ hd
            have y7 : W7.cell? ⟨gd, 7, none⟩ = some (.slice none 0 0) := by rw [cell_of_row _ _ 7 _ _ _ hd]; rfl
            have f7 : W7.frozen? ⟨gd, 7, none⟩ = false := frozen_of_row _ _ 7 _ _ hd
            have HD9 := Lib.hid hd9
            have HV9 := Lib.hid hv9
            have HB9 := Lib.hid hb9
            clear hd9 hv9 hb9
            go_upto_region 12 with fail
            obtain ⟨W9, hW9⟩ : ∃ W9, W9 = (W7.setCell ⟨gd, 2, none⟩ (.string ⟨#[67, y]⟩)) := ⟨_, rfl⟩
            rw [← hW9] at HD9 HV9 HB9 ⊢
            clear hW9 y2 y7 f2 f7
            have hlq : LQ (w3.heap.size + 1) W9 (lineD s k) (#[.int .i64 2, .string ⟨#[67, x]⟩, .string ⟨#[67, y]⟩, .slice none 0 0, .bool false, .bool false, .slice (some ⟨gv, 0, none⟩) 1 1, .slice none 0 0, .slice none 0 0, .int .i64 0, .int .i64 0] : Array Value).toList := ⟨s, k, gv, none, 0, by omega, rfl, by omega, by rw [vvCells, tag, ← HX.out]; exact HV9.out, by rw [tag, ← HX.out, if_pos hkp, tag, ← HY.out], .inl ⟨fun h => by rcases h with h | h; exact HKS.out h; omega, rfl, rfl⟩⟩
            have hu9 : W9.heap[w3.heap.size]? = some (.cells #[.slice A k c] 24 (0, 0)) := (HB9.out.block _ (by omega)).trans hu
            have hr9 : DRw (LQ (w3.heap.size + 1) W9) (w3.heap.size + 1) W9 A c (lineL k s) := DRw.monoQ (DRw.far hr HB9.out) fun d cs h => LQ.mono (fun g cs' T _ _ hs => HB9.out.block _ (Array.getElem?_eq_some_iff.1 hs).1) h
            have AP := Lib.hid (ILine.more (by omega) (hb0.trans (HB9.out.mono hb0.size)) hu9 hr9 hlq rfl)
            have x0 : W9.cell? ⟨gd, 0, none⟩ = some (.int .i64 2) := by rw [cell_of_row _ _ 0 _ _ _ HD9.out]; rfl
            have x1 : W9.cell? ⟨gd, 1, none⟩ = some (.string ⟨#[67, x]⟩) := by rw [cell_of_row _ _ 1 _ _ _ HD9.out]; rfl
            have x2 : W9.cell? ⟨gd, 2, none⟩ = some (.string ⟨#[67, y]⟩) := by rw [cell_of_row _ _ 2 _ _ _ HD9.out]; rfl
            have x3 : W9.cell? ⟨gd, 3, none⟩ = some (.slice none 0 0) := by rw [cell_of_row _ _ 3 _ _ _ HD9.out]; rfl
            have x4 : W9.cell? ⟨gd, 4, none⟩ = some (.bool false) := by rw [cell_of_row _ _ 4 _ _ _ HD9.out]; rfl
            have x5 : W9.cell? ⟨gd, 5, none⟩ = some (.bool false) := by rw [cell_of_row _ _ 5 _ _ _ HD9.out]; rfl
            have x6 : W9.cell? ⟨gd, 6, none⟩ = some (.slice (some ⟨gv, 0, none⟩) 1 1) := by rw [cell_of_row _ _ 6 _ _ _ HD9.out]; rfl
            have x7 : W9.cell? ⟨gd, 7, none⟩ = some (.slice none 0 0) := by rw [cell_of_row _ _ 7 _ _ _ HD9.out]; rfl
            have x8 : W9.cell? ⟨gd, 8, none⟩ = some (.slice none 0 0) := by rw [cell_of_row _ _ 8 _ _ _ HD9.out]; rfl
            have x9 : W9.cell? ⟨gd, 9, none⟩ = some (.int .i64 0) := by rw [cell_of_row _ _ 9 _ _ _ HD9.out]; rfl
            have x10 : W9.cell? ⟨gd, 10, none⟩ = some (.int .i64 0) := by rw [cell_of_row _ _ 10 _ _ _ HD9.out]; rfl
            have yu : W9.cell? ⟨w3.heap.size, 0, none⟩ = some (.slice A k c) := by rw [cell_of_row _ _ 0 _ _ _ hu9]; rfl
            clear hlq hu9 hr9
            go_wp2_with (at_builtin; refine wpList_app rfl _ _ _ rfl _ _ rfl rfl (use2 AP.out ?_))
            rintro v5 w5 A5 c5 rfl cu fu hi5
            clear AP
            go_wp2_with fail
            go_roundw
            case rel => exact ⟨k + 1, by omega, by go_num, hi5⟩
            case measure => simp [intOf]; omega
        · by_cases hks : k = s
          · have z7 : ¬ (0 : Int) < (k : Int) := by omega
            have e1 : ((k : Int) == (s : Int)) = true := by simp only [beq_iff_eq]; omega
            have HKS := Lib.hid hks
            clear hks
            have hb9 : Below wr.heap.size wr ((W7.setCell ⟨gd, 7, none⟩ (.slice (some ⟨W7.heap.size, 0, none⟩) 1 1)).alloc (.cells #[.string ⟨#[109]⟩, .bool false, .bool false, .bool false, .slice none 0 0, .int .i64 0, .int .i64 0, .int .i64 0, .string ⟨#[]⟩, .slice none 0 0, .slice none 0 0] 52)) := (Below.alloc (Below.setCell (p := ⟨gd, 7, none⟩) hbw hgd _) (by simp [World.setCell]; omega) _)
            have hd9 : ((W7.setCell ⟨gd, 7, none⟩ (.slice (some ⟨W7.heap.size, 0, none⟩) 1 1)).alloc (.cells #[.string ⟨#[109]⟩, .bool false, .bool false, .bool false, .slice none 0 0, .int .i64 0, .int .i64 0, .int .i64 0, .string ⟨#[]⟩, .slice none 0 0, .slice none 0 0] 52)).heap[gd]? = some (.cells #[.int .i64 2, .string ⟨#[67, x]⟩, .string ⟨#[]⟩, .slice none 0 0, .bool false, .bool false, .slice (some ⟨gv, 0, none⟩) 1 1, .slice (some ⟨W7.heap.size, 0, none⟩) 1 1, .slice none 0 0, .int .i64 0, .int .i64 0] 47 (0, 0)) := ((Below.heap_alloc _ _ _ (by simp [World.setCell]; omega)).trans (heap_set_cell hd 7 (.slice (some ⟨W7.heap.size, 0, none⟩) 1 1)))
            have hv9 : ((W7.setCell ⟨gd, 7, none⟩ (.slice (some ⟨W7.heap.size, 0, none⟩) 1 1)).alloc (.cells #[.string ⟨#[109]⟩, .bool false, .bool false, .bool false, .slice none 0 0, .int .i64 0, .int .i64 0, .int .i64 0, .string ⟨#[]⟩, .slice none 0 0, .slice none 0 0] 52)).heap[gv]? = some (.cells #[.string ⟨#[102, x]⟩, .int .i64 0, .int .i64 0, .int .i64 0, .string ⟨#[]⟩, .int .i64 k, .int .i64 0, .int .i64 0] 54 (0, 0)) := by
              rw [Below.heap_alloc _ _ _ (by simp [World.setCell]; omega), Below.heap_setCell _ _ _ _ (by show gv ≠ gd; omega)]
              exact hv
            have hm9 : ((W7.setCell ⟨gd, 7, none⟩ (.slice (some ⟨W7.heap.size, 0, none⟩) 1 1)).alloc (.cells #[.string ⟨#[109]⟩, .bool false, .bool false, .bool false, .slice none 0 0, .int .i64 0, .int .i64 0, .int .i64 0, .string ⟨#[]⟩, .slice none 0 0, .slice none 0 0] 52)).heap[W7.heap.size]? = some (.cells #[.string ⟨#[109]⟩, .bool false, .bool false, .bool false, .slice none 0 0, .int .i64 0, .int .i64 0, .int .i64 0, .string ⟨#[]⟩, .slice none 0 0, .slice none 0 0] 52 (0, 0)) := by
              have h := heap_alloc_new (W7.setCell ⟨gd, 7, none⟩ (.slice (some ⟨W7.heap.size, 0, none⟩) 1 1)) (.cells #[.string ⟨#[109]⟩, .bool false, .bool false, .bool false, .slice none 0 0, .int .i64 0, .int .i64 0, .int .i64 0, .string ⟨#[]⟩, .slice none 0 0, .slice none 0 0] 52)
              simpa [World.setCell] using h
            have y2 : W7.cell? ⟨gd, 2, none⟩ = some (.string ⟨#[]⟩) := by rw [cell_of_row _ _ 2 _ _ _ hd]; rfl
            have f2 : W7.frozen? ⟨gd, 2, none⟩ = false := frozen_of_row _ _ 2 _ _ hd
            have y7 : W7.cell? ⟨gd, 7, none⟩ = some (.slice none 0 0) := by rw [cell_of_row _ _ 7 _ _ _ hd]; rfl
            have f7 : W7.frozen? ⟨gd, 7, none⟩ = false := frozen_of_row _ _ 7 _ _ hd
            have HD9 := Lib.hid hd9
            have HV9 := Lib.hid hv9
            have HB9 := Lib.hid hb9
            have HM9 := Lib.hid hm9
            clear hm9
            clear hd9 hv9 hb9
            go_upto_region 12 with fail
            obtain ⟨W9, hW9⟩ : ∃ W9, W9 = ((W7.setCell ⟨gd, 7, none⟩ (.slice (some ⟨W7.heap.size, 0, none⟩) 1 1)).alloc (.cells #[.string ⟨#[109]⟩, .bool false, .bool false, .bool false, .slice none 0 0, .int .i64 0, .int .i64 0, .int .i64 0, .string ⟨#[]⟩, .slice none 0 0, .slice none 0 0] 52)) := ⟨_, rfl⟩
            rw [← hW9] at HD9 HV9 HB9 HM9 ⊢
            clear hW9 y2 y7 f2 f7
            have hlq : LQ (w3.heap.size + 1) W9 (lineD s k) (#[.int .i64 2, .string ⟨#[67, x]⟩, .string ⟨#[]⟩, .slice none 0 0, .bool false, .bool false, .slice (some ⟨gv, 0, none⟩) 1 1, .slice (some ⟨W7.heap.size, 0, none⟩) 1 1, .slice none 0 0, .int .i64 0, .int .i64 0] : Array Value).toList := ⟨s, k, gv, some ⟨W7.heap.size, 0, none⟩, 1, by omega, rfl, by omega, by rw [vvCells, tag, ← HX.out]; exact HV9.out, by rw [tag, ← HX.out, if_neg hkp], .inr ⟨.inl HKS.out, rfl, W7.heap.size, by omega, rfl, HM9.out⟩⟩
            have hu9 : W9.heap[w3.heap.size]? = some (.cells #[.slice A k c] 24 (0, 0)) := (HB9.out.block _ (by omega)).trans hu
            have hr9 : DRw (LQ (w3.heap.size + 1) W9) (w3.heap.size + 1) W9 A c (lineL k s) := DRw.monoQ (DRw.far hr HB9.out) fun d cs h => LQ.mono (fun g cs' T _ _ hs => HB9.out.block _ (Array.getElem?_eq_some_iff.1 hs).1) h
            have AP := Lib.hid (ILine.more (by omega) (hb0.trans (HB9.out.mono hb0.size)) hu9 hr9 hlq rfl)
            have x0 : W9.cell? ⟨gd, 0, none⟩ = some (.int .i64 2) := by rw [cell_of_row _ _ 0 _ _ _ HD9.out]; rfl
            have x1 : W9.cell? ⟨gd, 1, none⟩ = some (.string ⟨#[67, x]⟩) := by rw [cell_of_row _ _ 1 _ _ _ HD9.out]; rfl
            have x2 : W9.cell? ⟨gd, 2, none⟩ = some (.string ⟨#[]⟩) := by rw [cell_of_row _ _ 2 _ _ _ HD9.out]; rfl
            have x3 : W9.cell? ⟨gd, 3, none⟩ = some (.slice none 0 0) := by rw [cell_of_row _ _ 3 _ _ _ HD9.out]; rfl
            have x4 : W9.cell? ⟨gd, 4, none⟩ = some (.bool false) := by rw [cell_of_row _ _ 4 _ _ _ HD9.out]; rfl
            have x5 : W9.cell? ⟨gd, 5, none⟩ = some (.bool false) := by rw [cell_of_row _ _ 5 _ _ _ HD9.out]; rfl
            have x6 : W9.cell? ⟨gd, 6, none⟩ = some (.slice (some ⟨gv, 0, none⟩) 1 1) := by rw [cell_of_row _ _ 6 _ _ _ HD9.out]; rfl
            have x7 : W9.cell? ⟨gd, 7, none⟩ = some (.slice (some ⟨W7.heap.size, 0, none⟩) 1 1) := by rw [cell_of_row _ _ 7 _ _ _ HD9.out]; rfl
            have x8 : W9.cell? ⟨gd, 8, none⟩ = some (.slice none 0 0) := by rw [cell_of_row _ _ 8 _ _ _ HD9.out]; rfl
            have x9 : W9.cell? ⟨gd, 9, none⟩ = some (.int .i64 0) := by rw [cell_of_row _ _ 9 _ _ _ HD9.out]; rfl
            have x10 : W9.cell? ⟨gd, 10, none⟩ = some (.int .i64 0) := by rw [cell_of_row _ _ 10 _ _ _ HD9.out]; rfl
            have yu : W9.cell? ⟨w3.heap.size, 0, none⟩ = some (.slice A k c) := by rw [cell_of_row _ _ 0 _ _ _ hu9]; rfl
            clear hlq hu9 hr9
            go_wp2_with (at_builtin; refine wpList_app rfl _ _ _ rfl _ _ rfl rfl (use2 AP.out ?_))
            rintro v5 w5 A5 c5 rfl cu fu hi5
            clear AP
            go_wp2_with fail
            go_roundw
            case rel => exact ⟨k + 1, by omega, by go_num, hi5⟩
            case measure => simp [intOf]; omega
          · have z7 : ¬ (0 : Int) < (k : Int) := by omega
            have e1 : ((k : Int) == (s : Int)) = false := by simp only [beq_eq_false_iff_ne, ne_eq]; omega
            have e2 : ((k : Int) == 0) = true := by simp only [beq_iff_eq]; omega
            have HKS := Lib.hid hks
            clear hks
            have hb9 : Below wr.heap.size wr ((W7.setCell ⟨gd, 7, none⟩ (.slice (some ⟨W7.heap.size, 0, none⟩) 1 1)).alloc (.cells #[.string ⟨#[109]⟩, .bool false, .bool false, .bool false, .slice none 0 0, .int .i64 0, .int .i64 0, .int .i64 0, .string ⟨#[]⟩, .slice none 0 0, .slice none 0 0] 52)) := (Below.alloc (Below.setCell (p := ⟨gd, 7, none⟩) hbw hgd _) (by simp [World.setCell]; omega) _)
            have hd9 : ((W7.setCell ⟨gd, 7, none⟩ (.slice (some ⟨W7.heap.size, 0, none⟩) 1 1)).alloc (.cells #[.string ⟨#[109]⟩, .bool false, .bool false, .bool false, .slice none 0 0, .int .i64 0, .int .i64 0, .int .i64 0, .string ⟨#[]⟩, .slice none 0 0, .slice none 0 0] 52)).heap[gd]? = some (.cells #[.int .i64 2, .string ⟨#[67, x]⟩, .string ⟨#[]⟩, .slice none 0 0, .bool false, .bool false, .slice (some ⟨gv, 0, none⟩) 1 1, .slice (some ⟨W7.heap.size, 0, none⟩) 1 1, .slice none 0 0, .int .i64 0, .int .i64 0] 47 (0, 0)) := ((Below.heap_alloc _ _ _ (by simp [World.setCell]; omega)).trans (heap_set_cell hd 7 (.slice (some ⟨W7.heap.size, 0, none⟩) 1 1)))
            have hv9 : ((W7.setCell ⟨gd, 7, none⟩ (.slice (some ⟨W7.heap.size, 0, none⟩) 1 1)).alloc (.cells #[.string ⟨#[109]⟩, .bool false, .bool false, .bool false, .slice none 0 0, .int .i64 0, .int .i64 0, .int .i64 0, .string ⟨#[]⟩, .slice none 0 0, .slice none 0 0] 52)).heap[gv]? = some (.cells #[.string ⟨#[102, x]⟩, .int .i64 0, .int .i64 0, .int .i64 0, .string ⟨#[]⟩, .int .i64 k, .int .i64 0, .int .i64 0] 54 (0, 0)) := by
              rw [Below.heap_alloc _ _ _ (by simp [World.setCell]; omega), Below.heap_setCell _ _ _ _ (by show gv ≠ gd; omega)]
              exact hv
            have hm9 : ((W7.setCell ⟨gd, 7, none⟩ (.slice (some ⟨W7.heap.size, 0, none⟩) 1 1)).alloc (.cells #[.string ⟨#[109]⟩, .bool false, .bool false, .bool false, .slice none 0 0, .int .i64 0, .int .i64 0, .int .i64 0, .string ⟨#[]⟩, .slice none 0 0, .slice none 0 0] 52)).heap[W7.heap.size]? = some (.cells #[.string ⟨#[109]⟩, .bool false, .bool false, .bool false, .slice none 0 0, .int .i64 0, .int .i64 0, .int .i64 0, .string ⟨#[]⟩, .slice none 0 0, .slice none 0 0] 52 (0, 0)) := by
              have h := heap_alloc_new (W7.setCell ⟨gd, 7, none⟩ (.slice (some ⟨W7.heap.size, 0, none⟩) 1 1)) (.cells #[.string ⟨#[109]⟩, .bool false, .bool false, .bool false, .slice none 0 0, .int .i64 0, .int .i64 0, .int .i64 0, .string ⟨#[]⟩, .slice none 0 0, .slice none 0 0] 52)
              simpa [World.setCell] using h
            have y2 : W7.cell? ⟨gd, 2, none⟩ = some (.string ⟨#[]⟩) := by rw [cell_of_row _ _ 2 _ _ _ hd]; rfl
            have f2 : W7.frozen? ⟨gd, 2, none⟩ = false := frozen_of_row _ _ 2 _ _ hd
            have y7 : W7.cell? ⟨gd, 7, none⟩ = some (.slice none 0 0) := by rw [cell_of_row _ _ 7 _ _ _ hd]; rfl
            have f7 : W7.frozen? ⟨gd, 7, none⟩ = false := frozen_of_row _ _ 7 _ _ hd
            have HD9 := Lib.hid hd9
            have HV9 := Lib.hid hv9
            have HB9 := Lib.hid hb9
            have HM9 := Lib.hid hm9
            clear hm9
            clear hd9 hv9 hb9
            go_upto_region 12 with fail
            obtain ⟨W9, hW9⟩ : ∃ W9, W9 = ((W7.setCell ⟨gd, 7, none⟩ (.slice (some ⟨W7.heap.size, 0, none⟩) 1 1)).alloc (.cells #[.string ⟨#[109]⟩, .bool false, .bool false, .bool false, .slice none 0 0, .int .i64 0, .int .i64 0, .int .i64 0, .string ⟨#[]⟩, .slice none 0 0, .slice none 0 0] 52)) := ⟨_, rfl⟩
            rw [← hW9] at HD9 HV9 HB9 HM9 ⊢
            clear hW9 y2 y7 f2 f7
            have hlq : LQ (w3.heap.size + 1) W9 (lineD s k) (#[.int .i64 2, .string ⟨#[67, x]⟩, .string ⟨#[]⟩, .slice none 0 0, .bool false, .bool false, .slice (some ⟨gv, 0, none⟩) 1 1, .slice (some ⟨W7.heap.size, 0, none⟩) 1 1, .slice none 0 0, .int .i64 0, .int .i64 0] : Array Value).toList := ⟨s, k, gv, some ⟨W7.heap.size, 0, none⟩, 1, by omega, rfl, by omega, by rw [vvCells, tag, ← HX.out]; exact HV9.out, by rw [tag, ← HX.out, if_neg hkp], .inr ⟨.inr (by omega), rfl, W7.heap.size, by omega, rfl, HM9.out⟩⟩
            have hu9 : W9.heap[w3.heap.size]? = some (.cells #[.slice A k c] 24 (0, 0)) := (HB9.out.block _ (by omega)).trans hu
            have hr9 : DRw (LQ (w3.heap.size + 1) W9) (w3.heap.size + 1) W9 A c (lineL k s) := DRw.monoQ (DRw.far hr HB9.out) fun d cs h => LQ.mono (fun g cs' T _ _ hs => HB9.out.block _ (Array.getElem?_eq_some_iff.1 hs).1) h
            have AP := Lib.hid (ILine.more (by omega) (hb0.trans (HB9.out.mono hb0.size)) hu9 hr9 hlq rfl)
            have x0 : W9.cell? ⟨gd, 0, none⟩ = some (.int .i64 2) := by rw [cell_of_row _ _ 0 _ _ _ HD9.out]; rfl
            have x1 : W9.cell? ⟨gd, 1, none⟩ = some (.string ⟨#[67, x]⟩) := by rw [cell_of_row _ _ 1 _ _ _ HD9.out]; rfl
            have x2 : W9.cell? ⟨gd, 2, none⟩ = some (.string ⟨#[]⟩) := by rw [cell_of_row _ _ 2 _ _ _ HD9.out]; rfl
            have x3 : W9.cell? ⟨gd, 3, none⟩ = some (.slice none 0 0) := by rw [cell_of_row _ _ 3 _ _ _ HD9.out]; rfl
            have x4 : W9.cell? ⟨gd, 4, none⟩ = some (.bool false) := by rw [cell_of_row _ _ 4 _ _ _ HD9.out]; rfl
            have x5 : W9.cell? ⟨gd, 5, none⟩ = some (.bool false) := by rw [cell_of_row _ _ 5 _ _ _ HD9.out]; rfl
            have x6 : W9.cell? ⟨gd, 6, none⟩ = some (.slice (some ⟨gv, 0, none⟩) 1 1) := by rw [cell_of_row _ _ 6 _ _ _ HD9.out]; rfl
            have x7 : W9.cell? ⟨gd, 7, none⟩ = some (.slice (some ⟨W7.heap.size, 0, none⟩) 1 1) := by rw [cell_of_row _ _ 7 _ _ _ HD9.out]; rfl
            have x8 : W9.cell? ⟨gd, 8, none⟩ = some (.slice none 0 0) := by rw [cell_of_row _ _ 8 _ _ _ HD9.out]; rfl
            have x9 : W9.cell? ⟨gd, 9, none⟩ = some (.int .i64 0) := by rw [cell_of_row _ _ 9 _ _ _ HD9.out]; rfl
            have x10 : W9.cell? ⟨gd, 10, none⟩ = some (.int .i64 0) := by rw [cell_of_row _ _ 10 _ _ _ HD9.out]; rfl
            have yu : W9.cell? ⟨w3.heap.size, 0, none⟩ = some (.slice A k c) := by rw [cell_of_row _ _ 0 _ _ _ hu9]; rfl
            clear hlq hu9 hr9
            go_wp2_with (at_builtin; refine wpList_app rfl _ _ _ rfl _ _ rfl rfl (use2 AP.out ?_))
            rintro v5 w5 A5 c5 rfl cu fu hi5
            clear AP
            go_wp2_with fail
            go_roundw
            case rel => exact ⟨k + 1, by omega, by go_num, hi5⟩
            case measure => simp [intOf]; omega
    · have z1 : ¬ (k : Int) < (M : Int) := by omega
      obtain rfl : k = M := by omega
      obtain ⟨hb0, A, c, hu, hr⟩ := hi.out
      have hdr : DsR wr wr.heap.size A (lineL k s) := DRw.row hr fun d cs h => LQ.din h
      obtain ⟨U, hU⟩ : ∃ U, U = lineL k s := ⟨_, rfl⟩
      have hul : U.length = k := by rw [hU, lineL_len]
      have gul : w3.heap.size < wr.heap.size := (Array.getElem?_eq_some_iff.1 hu).1
      obtain ⟨gu, hgu⟩ : ∃ g, g = w3.heap.size := ⟨_, rfl⟩
      rw [← hU] at hdr
      have HB := Lib.hid hb0
      have HUL := Lib.hid hul
      have CU : Hid (∀ W, Hid (QU wr W) → W.cell? ⟨gu, 0, none⟩ = some (.slice A k c)) := fun W h => by
        rw [hgu, (h.out.cell (p := ⟨w3.heap.size, 0, none⟩) gul), cell_of_row _ _ 0 _ _ _ hu]; rfl
      have SB : Hid (Stay (QU wr) A U) := ⟨fun _ _ h k => Below.trans h (k.mono (Below.size h)), fun W h => DsR.mono (Below.size h) (Below.block h) hdr⟩
      have FIT : Hid (Fit U) := by rw [hU]; exact line_fit hM2
      have q0 : Hid (QU wr wr) := Below.refl _ _
      have HU := Lib.hid hU
      rw [← hgu]
      clear hdr hr hu hb0 hi hgu hU hul gul
      have z2 : (t : Int) < 10 := by omega
      obtain ⟨R, hR⟩ : ∃ R : World, R = wr := ⟨_, rfl⟩
      rw [← hR] at CU SB q0 HB ⊢
      clear hR
      go_wp2_with fail
      go_loopw [10, 12] (fun ch i wr => ∃ j : Nat, j ≤ t + 1 ∧ i = .int .i64 ((t : Int) - (j : Int)) ∧ Hid (QU R wr) ∧ ∃ A2 c2, ch = .slice A2 j c2 ∧ Hid (IRow R.heap.size wr A2 c2 (desc t j))) (fun _ i _ => (intOf i + 1).toNat)
      case atStart => exact ⟨0, Nat.zero_le _, by simp, q0, none, 0, rfl, IRow.nil _ _⟩
      case round =>
        obtain ⟨j, hj, rfl, hq, A2, c2, rfl, hrow⟩ := hrel
        by_cases hjt : j ≤ t
        · have v1 : (0 : Int) ≤ (t : Int) - (j : Int) := by omega
          have hd : I64 ((t : Int) - (j : Int)) := ⟨by omega, by omega⟩
          have AP := Lib.hid (app_int hrow.out hd (Below.size hq.out) (by rw [desc_len]; omega))
          rw [desc_len, ← desc_snoc] at AP
          obtain ⟨dd, hdd⟩ : ∃ x, x = (t : Int) - (j : Int) := ⟨_, rfl⟩
          rw [← hdd] at AP v1 ⊢
          have v2 : dd < 10 := by omega
          have HDD := Lib.hid hdd
          clear hd hdd
          go_wp2_with (at_builtin; refine wpList_app rfl _ _ _ rfl _ _ rfl rfl (use2 AP.out ?_))
          rintro v5 w5 A5 c5 rfl hrow5 hb5
          have hq5 : Hid (QU R w5) := Below.trans hq.out (hb5.out.mono (Nat.le_refl _))
          clear AP
          go_wp2_with fail
          go_roundw
          case rel => exact ⟨j + 1, by omega, by rw [HDD.out]; push_cast; congr 1; omega, hq5, A5, c5, rfl, hrow5⟩
          case measure => simp [intOf]; omega
        · have v1 : ¬ (0 : Int) ≤ (t : Int) - (j : Int) := by omega
          obtain rfl : j = t + 1 := by omega
          have rowC1 := hrow
          obtain ⟨R4, hR4⟩ : ∃ R4 : World, R4 = wr := ⟨_, rfl⟩
          subst hR4
          have HTI : Hid (I64 (t : Int)) := ⟨by omega, by omega⟩
          obtain ⟨C, hC⟩ : ∃ x, x = desc t (t + 1) := ⟨_, rfl⟩
          obtain ⟨V, hV⟩ : ∃ x, x = vline (t + 1) := ⟨_, rfl⟩
          have HC : Hid (C = chainT U (t : Int)) := by rw [hC, HU.out, line_chain hM2 l1 l2]; exact desc_all t
          have HV : Hid (V = fieldsT U (t : Int)) := by rw [hV, HU.out, line_fields hM2 l1 l2]; rfl
          have LC : Hid (C.length ≤ 1000000000) := by rw [hC, desc_len]; show t + 1 ≤ 1000000000; omega
          have LV : Hid (V.length ≤ 1700000000000) := by rw [hV, vline_len]; show t + 1 ≤ 1700000000000; omega
          have HCL : Hid (C.length = t + 1) := by rw [hC]; exact desc_len t _
          have HVL : Hid (V = vline (t + 1)) := hV
          have HVN : Hid (V.length = t + 1) := by rw [hV]; exact vline_len _
          rw [← hC] at rowC1
          have rowC0 := rowC1
          clear hC hV hrow
          have hkU : 0 < U.length := by have := HUL.out; omega
          obtain ⟨q, o, hA⟩ : ∃ q o, A = some ⟨q, o, none⟩ := by
            obtain ⟨q, o, cs0, e, _⟩ := SB.out.row _ hq 0 hkU
            exact ⟨q, o, e⟩
          subst hA
          have DX : Hid (∀ W, Hid (QU R W) → ∀ j, j < k → ∃ E2 e2, W.cell? ⟨q, o + j * 11 + 6, none⟩ = some (.slice E2 1 e2) ∧ VsR W W.heap.size E2 [lineV j] ∧ W.cell? ⟨q, o + j * 11 + 1, none⟩ = some (.string (tag 67 j))) := fun W h j hj => by
            have hjU : j < U.length := by have := HUL.out; omega
            obtain ⟨q', o', cs, e, _, _, hc, he⟩ := SB.out.row _ h j hjU
            simp only [Option.some.injEq, Addr.mk.injEq, and_true] at e
            obtain ⟨rfl, rfl⟩ := e
            have eU : U[j] = lineD s j := by
              have := HU.out
              subst this
              exact lineL_get _
            rw [eU] at he
            obtain ⟨E1, e1, E2, e2, E3, e3, E4, e4, rfl, _, _, _, hvs, _⟩ := he
            exact ⟨E2, e2, hc 6 _ rfl, hvs, hc 1 _ rfl⟩
          have NM : Hid (∀ W, Hid (QU R W) → ∀ j, j < k → W.cell? ⟨q, o + j * 11 + 1, none⟩ = some (.string (tag 67 j))) := fun W h j hj => by
            obtain ⟨_, _, _, _, h3⟩ := DX.out W h j hj
            exact h3
          clear hkU
          go_wp2_with fail
          go_loopw [11, 13] (fun fs i wr => ∃ j : Nat, j ≤ t + 1 ∧ i = .int .i64 j ∧ Hid (Below R4.heap.size R4 wr) ∧ ∃ A3 c3, fs = .slice A3 j c3 ∧ Hid (VRow R4.heap.size wr A3 c3 (vline j))) (fun _ i _ => t + 1 - (intOf i).toNat)
          case atStart => exact ⟨0, Nat.zero_le _, rfl, Below.refl _ _, none, 0, rfl, VRow.nil _ _⟩
          case round =>
            obtain ⟨j, hj, rfl, hb4, A3, c3, rfl, hrv⟩ := hrel
            have hq4 : Hid (QU R wr) := Below.trans hq.out (hb4.out.mono (Below.size hq.out))
            have v0 : (0 : Int) ≤ (j : Int) := by omega
            have y4 := CU.out _ hq4
            by_cases hjt : j ≤ t
            · have v1 : (j : Int) ≤ (t : Int) := by omega
              have v2 : (j : Int) < (k : Int) := by omega
              obtain ⟨E2, e2, x6, hvs, -⟩ := DX.out _ hq4 j (by omega)
              have AP : Hid (∃ v' w', (Builtin.append_ #[34, 34] 34 #[.slice A3 j c3, .slice E2 1 e2]).run Try.prog wr = .ok v' w' ∧ ∃ A' c', v' = .slice A' (j + 1) c' ∧ Hid (VRow R4.heap.size w' A' c' (vline (j + 1))) ∧ Hid (Below R4.heap.size R4 w')) := by
                obtain ⟨A', c', w', k1, k2, k3, _⟩ := app_vars (c1 := e2) hrv.out hvs (by rw [vline_len]; simp; omega) hb4.out.size
                rw [← vline_snoc] at k1 k2
                rw [vline_len, vline_len] at k1
                exact ⟨_, w', k1, A', c', rfl, k2, hb4.out.trans k3⟩
              clear hvs
              go_wp2_with (at_builtin; refine wpList_app rfl _ _ _ rfl _ _ rfl rfl (use2 AP.out ?_))
              rintro v5 w5 A5 c5 rfl hrow5 hb5
              clear AP
              go_wp2_with fail
              go_roundw
              case rel => exact ⟨j + 1, by omega, by go_num, hb5, A5, c5, rfl, hrow5⟩
              case measure => simp [intOf]; omega
            · have v1 : ¬ (j : Int) ≤ (t : Int) := by omega
              obtain rfl : j = t + 1 := by omega
              rw [← HVL.out] at hrv
              obtain ⟨R5, hR5⟩ : ∃ R5 : World, R5 = wr := ⟨_, rfl⟩
              subst hR5
              have rowC : Hid (IRow R.heap.size R5 A2 c2 C) := IRow.far rowC0 hb4
              have rowV : Hid (VRow R4.heap.size R5 A3 c3 V) := hrv
              have q5 : Hid (QU R R5) := hq4
              have y5 := CU.out _ q5
              clear y4
              by_cases hst : s ≤ t
              · have v3 : (s : Int) ≤ (t : Int) := by omega
                have hmeth := line_method hM2 l1 l2
                rw [← HU.out, if_pos hst] at hmeth
                have hKM := q_Method c SB.out FIT.out (t : Int) HTI.out ⟨#[109]⟩ (.tuple #[.agg #[.int .i64 (s : Int), .int .i64 0], .bool true]) (by rw [hmeth.1]; rfl)
                rw [HUL.out] at hKM
                have KM := Lib.hid hKM
                clear hKM
                have hKN := q_Method c SB.out FIT.out (t : Int) HTI.out ⟨#[110]⟩ (.tuple #[.agg #[.int .i64 0, .int .i64 0], .bool false]) (by rw [hmeth.2]; rfl)
                rw [HUL.out] at hKN
                have KN := Lib.hid hKN
                clear hKN
                clear hmeth
                go_wp2_with fail
                refine (KM.out _ q5).mono ?_
                rintro e7 w7 ⟨rfl, q7, k7⟩
                have p7 : Hid (Below R5.heap.size R5 w7) := k7
                have qa : Hid (QU R (w7.alloc (.cells #[.int .i64 (s : Int), .int .i64 0] 29))) := Below.alloc q7.out q7.out.size _
                have pa : Hid (Below R5.heap.size R5 (w7.alloc (.cells #[.int .i64 (s : Int), .int .i64 0] 29))) := Below.alloc p7.out p7.out.size _
                have ya := CU.out _ qa
                clear y5 KM k7 q7 p7
                go_wp2_with fail
                refine (KN.out _ qa).mono ?_
                rintro e8 w8 ⟨rfl, q8, k8⟩
                have t8 := Two.below (Two.new w7 29 (s : Int) 0) k8
                obtain ⟨g1, hg1⟩ : ∃ g, g = w7.heap.size := ⟨_, rfl⟩
                rw [← hg1] at t8 ⊢
                clear hg1
                have p8 : Hid (Below R5.heap.size R5 w8) := Below.trans pa.out (k8.out.mono pa.out.size)
                obtain ⟨R6, hR6⟩ : ∃ R6, R6 = w8.alloc (.cells #[.int .i64 0, .int .i64 0] 29) := ⟨_, rfl⟩
                have q6 : Hid (QU R R6) := by rw [hR6]; exact Below.alloc q8.out q8.out.size _
                have p6 : Hid (Below R5.heap.size R5 R6) := by rw [hR6]; exact Below.alloc p8.out p8.out.size _
                have t6 : Hid (Two R6 g1 29 (s : Int) 0) := by rw [hR6]; exact Two.alloc t8 _
                clear ya qa pa KN k8 q8 p8 t8
                go_wp2_with fail
                rw [← hR6]
                clear hR6
                go_loopw [19] (fun i wr => ∃ j : Nat, j ≤ k ∧ i = .int .i64 j ∧ Hid (Below R6.heap.size R6 wr)) (fun i _ => k - (intOf i).toNat)
                case atStart => exact ⟨0, Nat.zero_le _, rfl, Below.refl _ _⟩
                case round =>
                  obtain ⟨j, hj, rfl, hb⟩ := hrel
                  have hq : Hid (QU R wr) := Below.trans q6.out (hb.out.mono (Below.size q6.out))
                  have v0 : (0 : Int) ≤ (j : Int) := by omega
                  have v9 : (0 : Int) ≤ (t : Int) := by omega
                  have yw := CU.out _ hq
                  by_cases hjk : j < k
                  · have v1 : (j : Int) < (k : Int) := by omega
                    have v2 : (t : Int) < (k : Int) := by omega
                    obtain ⟨rb, hrb⟩ : ∃ b : Bool, b = decide (j ≤ t) := ⟨_, rfl⟩
                    have hKI := q_Is c SB.out FIT.out (tag 67 t) (tag 67 j) rb (by rw [hrb, HU.out]; exact (line_is hM2 l1 l2 hjk).symm)
                    rw [HUL.out] at hKI
                    have KI := Lib.hid hKI
                    clear hKI
                    have xt := NM.out _ hq t l1
                    have xj := NM.out _ hq j hjk
                    have hqd : Hid (QU R wr.drew) := Below.drew hq.out
                    have hbd : Hid (Below R6.heap.size R6 wr.drew) := hb.out.drew
                    obtain ⟨nt, hnt⟩ : ∃ x, x = tag 67 t := ⟨_, rfl⟩
                    obtain ⟨nj, hnj⟩ : ∃ x, x = tag 67 j := ⟨_, rfl⟩
                    have HNT := Lib.hid hnt
                    have HNJ := Lib.hid hnj
                    rw [← hnt] at xt KI
                    rw [← hnj] at xj KI
                    have NT : Hid (∀ W, Hid (QU R W) → W.cell? ⟨gu, 0, none⟩ = some (.slice (some ⟨q, o, none⟩) k c) ∧ W.cell? ⟨q, o + t * 11 + 1, none⟩ = some (.string nt) ∧ W.cell? ⟨q, o + j * 11 + 1, none⟩ = some (.string nj)) := fun W h => ⟨CU.out _ h, by rw [HNT.out]; exact NM.out _ h t l1, by rw [HNJ.out]; exact NM.out _ h j hjk⟩
                    clear hnt hnj
                    have hcase : rb = true ∧ (j : Int) ≤ (t : Int) ∨ rb = false ∧ ¬ (j : Int) ≤ (t : Int) := by
                      by_cases h : j ≤ t
                      · exact .inl ⟨by rw [hrb]; exact decide_eq_true h, by omega⟩
                      · exact .inr ⟨by rw [hrb]; exact decide_eq_false h, by omega⟩
                    clear hrb
                    go_upto_region 31 with fail
                    rcases hcase with ⟨rfl, v3⟩ | ⟨rfl, v3⟩
                    · go_region_held3 (fun w' => w'.cell? ⟨gu, 0, none⟩ = some (.slice (some ⟨q, o, none⟩) k c) ∧ w'.cell? ⟨q, o + t * 11 + 1, none⟩ = some (.string nt) ∧ w'.cell? ⟨q, o + j * 11 + 1, none⟩ = some (.string nj)) (first | exact NT.out _ hqd | exact NT.out _ qn | exact NT.out _ hq)
                        (first
                          | (go_at_call 25; refine (KI.out _ (by first | exact hqd | exact hq)).mono ?_; rintro en wn' ⟨rfl, qn, kn⟩; have bn : Hid (Below R6.heap.size R6 wn') := (by first | exact Below.trans hb.out (kn.out.mono hb.out.size) | exact Below.trans hbd.out (kn.out.mono hbd.out.size))))
                      clear yw xt xj
                      go_wp2_with fail
                      go_roundw
                      case rel => exact ⟨j + 1, by omega, by go_num, bn⟩
                      case measure => simp [intOf]; omega
                    · go_region_held3 (fun w' => w'.cell? ⟨gu, 0, none⟩ = some (.slice (some ⟨q, o, none⟩) k c) ∧ w'.cell? ⟨q, o + t * 11 + 1, none⟩ = some (.string nt) ∧ w'.cell? ⟨q, o + j * 11 + 1, none⟩ = some (.string nj)) (first | exact NT.out _ hqd | exact NT.out _ qn | exact NT.out _ hq)
                        (first
                          | (go_at_call 25; refine (KI.out _ (by first | exact hqd | exact hq)).mono ?_; rintro en wn' ⟨rfl, qn, kn⟩; have bn : Hid (Below R6.heap.size R6 wn') := (by first | exact Below.trans hb.out (kn.out.mono hb.out.size) | exact Below.trans hbd.out (kn.out.mono hbd.out.size))))
                      clear yw xt xj
                      go_wp2_with fail
                      go_roundw
                      case rel => exact ⟨j + 1, by omega, by go_num, bn⟩
                      case measure => simp [intOf]; omega
                  · have v1 : ¬ (j : Int) < (k : Int) := by omega
                    have tw : Hid (Two wr g1 29 (s : Int) 0) := Two.below t6 hb
                    have p9 : Hid (Below R5.heap.size R5 wr) := Below.trans p6.out (hb.out.mono p6.out.size)
                    have rc : Hid (IRow R.heap.size wr A2 c2 C) := IRow.far rowC p9
                    have rv : Hid (VRow R4.heap.size wr A3 c3 V) := VRow.far rowV p9
                    have hKC := q_Chain c SB.out FIT.out (t : Int) C HC.out
                    rw [HUL.out, HCL.out] at hKC
                    have KC := Lib.hid hKC
                    clear hKC
                    have hKV := q_Fields c SB.out FIT.out (t : Int) HTI.out V HV.out
                    rw [HUL.out, HVN.out] at hKV
                    have KV := Lib.hid hKV
                    clear hKV
                    go_wp2_with fail
                    refine (KC.out _ hq).mono ?_
                    rintro e11 w11 ⟨A11, c11, rfl, x11, q11, k11⟩
                    have rc1 := IRow.far rc k11
                    have rv1 := VRow.far rv k11
                    have tw1 := Two.below tw k11
                    clear yw rc rv tw k11
                    go_wp2_with fail
                    have hsi := q_SameInts SB.out.step C LC.out _ _ A11 A2 c11 c2 _ q11 x11 rc1
                    rw [HCL.out] at hsi
                    refine hsi.mono ?_
                    clear hsi
                    rintro e12 w12 ⟨rfl, q12, k12⟩
                    have rv2 := VRow.far rv1 k12
                    have tw2 := Two.below tw1 k12
                    have y12 := CU.out _ q12
                    clear rc1 rv1 tw1 k12 x11
                    go_wp2_with fail
                    refine (KV.out _ q12).mono ?_
                    rintro e13 w13 ⟨A13, c13, rfl, x13, q13, k13⟩
                    have rv3 := VRow.far rv2 k13
                    have tw3 := Two.below tw2 k13
                    clear rv2 tw2 k13 y12
                    go_wp2_with fail
                    have hsv := q_SameVars SB.out.step V LV.out _ _ A13 A3 c13 c3 _ q13 x13 rv3
                    rw [HVN.out] at hsv
                    refine hsv.mono ?_
                    clear hsv
                    rintro e14 w14 ⟨rfl, q14, k14⟩
                    have tw4 := Two.below tw3 k14
                    have xa := Two.c0 tw4
                    have xb := Two.c1 tw4
                    clear rv3 tw3 k14 x13
                    go_wp2_with fail
                    refine (q_awake SB.out.step _ q14).mono ?_
                    rintro e15 w15 ⟨rfl, q15, -⟩
                    clear xa xb
                    go_wp2_with fail
                    go_ret
                    exact ⟨rfl, HB.out.trans (Below.mono q15.out HB.out.size)⟩
              · have v3 : ¬ (s : Int) ≤ (t : Int) := by omega
                have hmeth := line_method hM2 l1 l2
                rw [← HU.out, if_neg hst] at hmeth
                have hKM := q_Method c SB.out FIT.out (t : Int) HTI.out ⟨#[109]⟩ (.tuple #[.agg #[.int .i64 (0 : Int), .int .i64 0], .bool true]) (by rw [hmeth.1]; rfl)
                rw [HUL.out] at hKM
                have KM := Lib.hid hKM
                clear hKM
                have hKN := q_Method c SB.out FIT.out (t : Int) HTI.out ⟨#[110]⟩ (.tuple #[.agg #[.int .i64 0, .int .i64 0], .bool false]) (by rw [hmeth.2]; rfl)
                rw [HUL.out] at hKN
                have KN := Lib.hid hKN
                clear hKN
                clear hmeth
                go_wp2_with fail
                refine (KM.out _ q5).mono ?_
                rintro e7 w7 ⟨rfl, q7, k7⟩
                have p7 : Hid (Below R5.heap.size R5 w7) := k7
                have qa : Hid (QU R (w7.alloc (.cells #[.int .i64 (0 : Int), .int .i64 0] 29))) := Below.alloc q7.out q7.out.size _
                have pa : Hid (Below R5.heap.size R5 (w7.alloc (.cells #[.int .i64 (0 : Int), .int .i64 0] 29))) := Below.alloc p7.out p7.out.size _
                have ya := CU.out _ qa
                clear y5 KM k7 q7 p7
                go_wp2_with fail
                refine (KN.out _ qa).mono ?_
                rintro e8 w8 ⟨rfl, q8, k8⟩
                have t8 := Two.below (Two.new w7 29 (0 : Int) 0) k8
                obtain ⟨g1, hg1⟩ : ∃ g, g = w7.heap.size := ⟨_, rfl⟩
                rw [← hg1] at t8 ⊢
                clear hg1
                have p8 : Hid (Below R5.heap.size R5 w8) := Below.trans pa.out (k8.out.mono pa.out.size)
                obtain ⟨R6, hR6⟩ : ∃ R6, R6 = w8.alloc (.cells #[.int .i64 0, .int .i64 0] 29) := ⟨_, rfl⟩
                have q6 : Hid (QU R R6) := by rw [hR6]; exact Below.alloc q8.out q8.out.size _
                have p6 : Hid (Below R5.heap.size R5 R6) := by rw [hR6]; exact Below.alloc p8.out p8.out.size _
                have t6 : Hid (Two R6 g1 29 (0 : Int) 0) := by rw [hR6]; exact Two.alloc t8 _
                clear ya qa pa KN k8 q8 p8 t8
                go_wp2_with fail
                rw [← hR6]
                clear hR6
                go_loopw [19] (fun i wr => ∃ j : Nat, j ≤ k ∧ i = .int .i64 j ∧ Hid (Below R6.heap.size R6 wr)) (fun i _ => k - (intOf i).toNat)
                case atStart => exact ⟨0, Nat.zero_le _, rfl, Below.refl _ _⟩
                case round =>
                  obtain ⟨j, hj, rfl, hb⟩ := hrel
                  have hq : Hid (QU R wr) := Below.trans q6.out (hb.out.mono (Below.size q6.out))
                  have v0 : (0 : Int) ≤ (j : Int) := by omega
                  have v9 : (0 : Int) ≤ (t : Int) := by omega
                  have yw := CU.out _ hq
                  by_cases hjk : j < k
                  · have v1 : (j : Int) < (k : Int) := by omega
                    have v2 : (t : Int) < (k : Int) := by omega
                    obtain ⟨rb, hrb⟩ : ∃ b : Bool, b = decide (j ≤ t) := ⟨_, rfl⟩
                    have hKI := q_Is c SB.out FIT.out (tag 67 t) (tag 67 j) rb (by rw [hrb, HU.out]; exact (line_is hM2 l1 l2 hjk).symm)
                    rw [HUL.out] at hKI
                    have KI := Lib.hid hKI
                    clear hKI
                    have xt := NM.out _ hq t l1
                    have xj := NM.out _ hq j hjk
                    have hqd : Hid (QU R wr.drew) := Below.drew hq.out
                    have hbd : Hid (Below R6.heap.size R6 wr.drew) := hb.out.drew
                    obtain ⟨nt, hnt⟩ : ∃ x, x = tag 67 t := ⟨_, rfl⟩
                    obtain ⟨nj, hnj⟩ : ∃ x, x = tag 67 j := ⟨_, rfl⟩
                    have HNT := Lib.hid hnt
                    have HNJ := Lib.hid hnj
                    rw [← hnt] at xt KI
                    rw [← hnj] at xj KI
                    have NT : Hid (∀ W, Hid (QU R W) → W.cell? ⟨gu, 0, none⟩ = some (.slice (some ⟨q, o, none⟩) k c) ∧ W.cell? ⟨q, o + t * 11 + 1, none⟩ = some (.string nt) ∧ W.cell? ⟨q, o + j * 11 + 1, none⟩ = some (.string nj)) := fun W h => ⟨CU.out _ h, by rw [HNT.out]; exact NM.out _ h t l1, by rw [HNJ.out]; exact NM.out _ h j hjk⟩
                    clear hnt hnj
                    have hcase : rb = true ∧ (j : Int) ≤ (t : Int) ∨ rb = false ∧ ¬ (j : Int) ≤ (t : Int) := by
                      by_cases h : j ≤ t
                      · exact .inl ⟨by rw [hrb]; exact decide_eq_true h, by omega⟩
                      · exact .inr ⟨by rw [hrb]; exact decide_eq_false h, by omega⟩
                    clear hrb
                    go_upto_region 31 with fail
                    rcases hcase with ⟨rfl, v3⟩ | ⟨rfl, v3⟩
                    · go_region_held3 (fun w' => w'.cell? ⟨gu, 0, none⟩ = some (.slice (some ⟨q, o, none⟩) k c) ∧ w'.cell? ⟨q, o + t * 11 + 1, none⟩ = some (.string nt) ∧ w'.cell? ⟨q, o + j * 11 + 1, none⟩ = some (.string nj)) (first | exact NT.out _ hqd | exact NT.out _ qn | exact NT.out _ hq)
                        (first
                          | (go_at_call 25; refine (KI.out _ (by first | exact hqd | exact hq)).mono ?_; rintro en wn' ⟨rfl, qn, kn⟩; have bn : Hid (Below R6.heap.size R6 wn') := (by first | exact Below.trans hb.out (kn.out.mono hb.out.size) | exact Below.trans hbd.out (kn.out.mono hbd.out.size))))
                      clear yw xt xj
                      go_wp2_with fail
                      go_roundw
                      case rel => exact ⟨j + 1, by omega, by go_num, bn⟩
                      case measure => simp [intOf]; omega
                    · go_region_held3 (fun w' => w'.cell? ⟨gu, 0, none⟩ = some (.slice (some ⟨q, o, none⟩) k c) ∧ w'.cell? ⟨q, o + t * 11 + 1, none⟩ = some (.string nt) ∧ w'.cell? ⟨q, o + j * 11 + 1, none⟩ = some (.string nj)) (first | exact NT.out _ hqd | exact NT.out _ qn | exact NT.out _ hq)
                        (first
                          | (go_at_call 25; refine (KI.out _ (by first | exact hqd | exact hq)).mono ?_; rintro en wn' ⟨rfl, qn, kn⟩; have bn : Hid (Below R6.heap.size R6 wn') := (by first | exact Below.trans hb.out (kn.out.mono hb.out.size) | exact Below.trans hbd.out (kn.out.mono hbd.out.size))))
                      clear yw xt xj
                      go_wp2_with fail
                      go_roundw
                      case rel => exact ⟨j + 1, by omega, by go_num, bn⟩
                      case measure => simp [intOf]; omega
                  · have v1 : ¬ (j : Int) < (k : Int) := by omega
                    have tw : Hid (Two wr g1 29 (0 : Int) 0) := Two.below t6 hb
                    have p9 : Hid (Below R5.heap.size R5 wr) := Below.trans p6.out (hb.out.mono p6.out.size)
                    have rc : Hid (IRow R.heap.size wr A2 c2 C) := IRow.far rowC p9
                    have rv : Hid (VRow R4.heap.size wr A3 c3 V) := VRow.far rowV p9
                    have hKC := q_Chain c SB.out FIT.out (t : Int) C HC.out
                    rw [HUL.out, HCL.out] at hKC
                    have KC := Lib.hid hKC
                    clear hKC
                    have hKV := q_Fields c SB.out FIT.out (t : Int) HTI.out V HV.out
                    rw [HUL.out, HVN.out] at hKV
                    have KV := Lib.hid hKV
                    clear hKV
                    go_wp2_with fail
                    refine (KC.out _ hq).mono ?_
                    rintro e11 w11 ⟨A11, c11, rfl, x11, q11, k11⟩
                    have rc1 := IRow.far rc k11
                    have rv1 := VRow.far rv k11
                    have tw1 := Two.below tw k11
                    clear yw rc rv tw k11
                    go_wp2_with fail
                    have hsi := q_SameInts SB.out.step C LC.out _ _ A11 A2 c11 c2 _ q11 x11 rc1
                    rw [HCL.out] at hsi
                    refine hsi.mono ?_
                    clear hsi
                    rintro e12 w12 ⟨rfl, q12, k12⟩
                    have rv2 := VRow.far rv1 k12
                    have tw2 := Two.below tw1 k12
                    have y12 := CU.out _ q12
                    clear rc1 rv1 tw1 k12 x11
                    go_wp2_with fail
                    refine (KV.out _ q12).mono ?_
                    rintro e13 w13 ⟨A13, c13, rfl, x13, q13, k13⟩
                    have rv3 := VRow.far rv2 k13
                    have tw3 := Two.below tw2 k13
                    clear rv2 tw2 k13 y12
                    go_wp2_with fail
                    have hsv := q_SameVars SB.out.step V LV.out _ _ A13 A3 c13 c3 _ q13 x13 rv3
                    rw [HVN.out] at hsv
                    refine hsv.mono ?_
                    clear hsv
                    rintro e14 w14 ⟨rfl, q14, k14⟩
                    have tw4 := Two.below tw3 k14
                    have xa := Two.c0 tw4
                    have xb := Two.c1 tw4
                    clear rv3 tw3 k14 x13
                    go_wp2_with fail
                    refine (q_awake SB.out.step _ q14).mono ?_
                    rintro e15 w15 ⟨rfl, q15, -⟩
                    clear xa xb
                    go_wp2_with fail
                    go_ret
                    exact ⟨rfl, HB.out.trans (Below.mono q15.out HB.out.size)⟩
end Go.Proofs.Ytkpieolmepngjaa
