/-
  Lists of api.Wrong BY CONTRACTS: SameWrongs of two that are the same; OverWrongs of one of the call's own.
-/
import Derived.Test.YtljgjcnfcmbemaaDoorAwake
import Derived.Laws.OwnMore
import Derived.LoopTactic
import Derived.Outline
import Derived.StillTailTactics
namespace Go.Proofs.YtljgjcnfcmbemaaDoor
open Go.RowKit Go.Extern.Stop Go.Stop Go.Extern

/-- the cells of a list of codes and places. -/
def wcells (l : List (Int × Int)) : List Value := l.flatMap fun x => [.int .i64 x.1, .int .i64 x.2]
/-- v is a slice of the call's own, from block B on, of these. -/
def WRow (w : World) (B : Nat) (l : List (Int × Int)) (v : Value) : Prop := w.ownsRow B 33 2 v l.length (wcells l)

theorem wcells_length (l : List (Int × Int)) : (wcells l).length = l.length * 2 := by
  unfold wcells
  induction l with
  | nil => rfl
  | cons x r ih => simp only [List.flatMap_cons, List.length_append, ih, List.length_cons, List.length_nil]; omega
theorem wcells_at (l : List (Int × Int)) (k : Nat) (h : k < l.length) : (wcells l)[k * 2]? = some (.int .i64 l[k].1) ∧ (wcells l)[k * 2 + 1]? = some (.int .i64 l[k].2) := by
  induction l generalizing k with
  | nil => simp at h
  | cons x r ih =>
    cases k with
    | zero => simp [wcells]
    | succ k =>
      have := ih k (by simpa using h)
      have e1 : (k + 1) * 2 = k * 2 + 1 + 1 := by omega
      rw [e1]
      simpa [wcells] using this
theorem wcells_append (a b : List (Int × Int)) : wcells (a ++ b) = wcells a ++ wcells b := by simp [wcells]

theorem WRow.below {w w' : World} {B : Nat} {l : List (Int × Int)} {v : Value} (h : WRow w B l v) (hb : Below w.heap.size w w') : WRow w' B l v := ownsRow_below h hb
theorem WRow.cells {w : World} {B : Nat} {l : List (Int × Int)} {v : Value} (h : WRow w B l v) (hn : l ≠ []) :
    ∃ g cap, v = .slice (some ⟨g, 0, none⟩) l.length cap ∧ B ≤ g ∧ g < w.heap.size ∧ ∀ k (hk : k < l.length), w.cell? ⟨g, k * 2, none⟩ = some (.int .i64 l[k].1) ∧ w.cell? ⟨g, k * 2 + 1, none⟩ = some (.int .i64 l[k].2) := by
  have hp : 0 < l.length := List.length_pos_iff.2 hn
  obtain ⟨g, cap, hv, hb, hlt⟩ : ∃ g cap, v = .slice (some ⟨g, 0, none⟩) l.length cap ∧ B ≤ g ∧ g < w.heap.size := by
    rcases h.2 with ⟨_, h0⟩ | ⟨g, cap, cur, h1, hb, hg, _⟩
    · omega
    · exact ⟨g, cap, h1, hb, (Array.getElem?_eq_some_iff.1 hg).1⟩
  subst hv
  refine ⟨g, cap, rfl, hb, hlt, fun k hk => ?_⟩
  have h1 := World.ownsRow.cellAt h (k * 2) (by omega)
  have h2 := World.ownsRow.cellAt h (k * 2 + 1) (by omega)
  rw [h1, h2]
  exact wcells_at l k hk
theorem WRow.len {w : World} {B : Nat} {l : List (Int × Int)} {v : Value} (h : WRow w B l v) : ∃ A c, v = .slice A l.length c := by
  rcases h.2 with ⟨h1, h0⟩ | ⟨g, cap, cur, h1, _⟩
  · rw [h0, h1]; exact ⟨_, _, rfl⟩
  · exact ⟨_, _, h1⟩

set_option maxHeartbeats 1000000 in
theorem same_yes (l : List (Int × Int)) (B C : Nat) (v u : Value) (w : World) (h1 : WRow w B l v) (h2 : WRow w C l u) (hm : l.length ≤ 1000000) :
    Calls Tryd.prog 13 #[v, u] w fun e w' => e = .returned (.bool true) ∧ Below w.heap.size w w' := by
  obtain ⟨A1, c1, rfl⟩ := h1.len
  obtain ⟨A2, c2, rfl⟩ := h2.len
  have H1 := Lib.hid h1
  have H2 := Lib.hid h2
  clear h1 h2
  go_enter Tryd.func13, Tryd.ntmps13
  go_wp2
  go_loopw [5] (fun i wr => ∃ k : Nat, k ≤ l.length ∧ i = .int .i64 k ∧ Hid (Below w.heap.size w wr)) (fun i _ => l.length - (intOf i).toNat)
  case atStart => exact ⟨0, Nat.zero_le _, rfl, Below.refl _ _⟩
  case round =>
    obtain ⟨k, hk, rfl, hb⟩ := hrel
    by_cases hlt : k < l.length
    · have hne : l ≠ [] := fun e => by rw [e] at hlt; simp at hlt
      obtain ⟨g1, d1, e1, -, -, hc1⟩ := (H1.out.below hb.out).cells hne
      obtain ⟨g2, d2, e2, -, -, hc2⟩ := (H2.out.below hb.out).cells hne
      obtain ⟨x10, x11⟩ := hc1 k hlt
      obtain ⟨x20, x21⟩ := hc2 k hlt
      simp only [Value.slice.injEq, true_and] at e1 e2
      obtain ⟨e1, -⟩ := e1
      obtain ⟨e2, -⟩ := e2
      subst e1 e2
      clear hc1 hc2 hne
      have hz : (k : Int) < (l.length : Int) := by omega
      go_wp2_with fail
      go_quiet (fail)
      go_wp2
      go_roundw
      case rel => exact ⟨k + 1, by omega, by go_num, below_drewN hb.out _⟩
      case measure => simp [intOf]; omega
    · go_wp2
      go_ret
      exact ⟨rfl, hb.out⟩

theorem Tryd.infoWrong : (Tryd.prog.info? 33).map (fun i => (i.zero, i.size, i.bytes)) = some (some (.agg #[.int .i64 0, .int .i64 0]), 2, 16) := by kernel_rfl

theorem lit_cells (w : World) (x y : Value) (T : TypeId) : ∀ (j : Nat) (u : Value), ([x, y] : List Value)[j]? = some u → (w.alloc (.cells #[x, y] T)).cell? ((⟨w.heap.size, 0, none⟩ : Addr).add j) = some u := by
  intro j u hj
  match j, hj with
  | 0, hj => simp at hj; subst hj; simp [Addr.add]
  | 1, hj => simp at hj; subst hj; simp [Addr.add]
theorem one_cells (a b : Int) : ∀ u ∈ ([.int .i64 a, .int .i64 b] : List Value), u.oneCell' = true := by
  intro u hu
  simp at hu
  rcases hu with rfl | rfl <;> rfl

set_option maxHeartbeats 2000000 in
theorem over_any (l : List (Int × Int)) (B : Nat) (v : Value) (w : World) (h1 : WRow w B l v) (hm : l.length ≤ 1000000) (hB : B ≤ w.heap.size) :
    Calls Tryd.prog 14 #[v] w fun e w' => e = .returned (.tuple #[]) ∧ Below B w w' := by
  obtain ⟨A1, c1, rfl⟩ := h1.len
  have H1 : Hid (∃ xs, w.ownsRow B 33 2 (.slice A1 l.length c1) l.length xs) := ⟨_, h1⟩
  clear h1
  go_enter Tryd.func14, Tryd.ntmps14
  go_wp2
  go_loopw [2] (fun i wr => ∃ k : Nat, k ≤ l.length ∧ i = .int .i64 k ∧ Hid (∃ xs, wr.ownsRow B 33 2 (.slice A1 l.length c1) l.length xs) ∧ Hid (Below B w wr)) (fun i _ => l.length - (intOf i).toNat)
  case atStart => exact ⟨0, Nat.zero_le _, rfl, H1, Below.refl _ _⟩
  case round =>
    obtain ⟨k, hk, rfl, hx, hb⟩ := hrel
    by_cases hlt : k < l.length
    · obtain ⟨xs, ho⟩ := hx.out
      clear hx
      obtain ⟨g, e1, hg⟩ : ∃ g, A1 = some ⟨g, 0, none⟩ ∧ B ≤ g := by
        rcases ho.2 with ⟨_, h0⟩ | ⟨g, cap, cur, h1, hb, hg, _⟩
        · omega
        · simp only [Value.slice.injEq] at h1; exact ⟨g, h1.1, hb⟩
      subst e1
      have f0 := ho.frozenAt (k * 2)
      have f1 := ho.frozenAt (k * 2 + 1)
      have hl := ho.1
      obtain ⟨u0, x0⟩ : ∃ u, wr.cell? ⟨g, k * 2, none⟩ = some u := ⟨_, (ho.cellAt (k * 2) (by omega)).trans (List.getElem?_eq_getElem (by omega))⟩
      obtain ⟨u1, x1⟩ : ∃ u, wr.cell? ⟨g, k * 2 + 1, none⟩ = some u := ⟨_, (ho.cellAt (k * 2 + 1) (by omega)).trans (List.getElem?_eq_getElem (by omega))⟩
      have HO := Lib.hid ho
      have hz : (k : Int) < (l.length : Int) := by omega
      clear ho hl
      go_wp2_with fail
      go_roundw
      case rel => exact ⟨k + 1, by omega, by go_num, ⟨_, ((HO.out.stored (k * 2) _).1.stored (k * 2 + 1) _).1⟩, (hb.out.setCell (p := ⟨g, k * 2, none⟩) hg _).setCell (p := ⟨g, k * 2 + 1, none⟩) hg _⟩
      case measure => simp [intOf]; omega
    · obtain ⟨xs, ho⟩ := hx.out
      obtain ⟨i0, hi, hz0, hz1, hz2⟩ := info_parts Tryd.infoWrong
      have hBr : B ≤ wr.heap.size := by have := hb.out.size; omega
      clear hx
      go_wp2_with (at_builtin; refine wpList_append_own _ rfl _ _ 23 rfl B 33 i0 (.agg #[.int .i64 0, .int .i64 0]) 2 16 Tryd.underlying23 hi hz0 hz1 hz2 rfl (by decide) _ _ _ rfl (ho.alloc _) ⟨wr.heap.size, 0, none⟩ 1 1 [.int .i64 (-9), .int .i64 0] rfl rfl ?c1 ?c2 ?c3 ?c4 ?c5 ?_)
      case c1 => exact lit_cells wr _ _ _
      case c2 => exact one_cells _ _
      case c3 => unfold maxLen; omega
      case c4 => omega
      case c5 => simp; omega
      intro v' w1 hown1 hgrow1 _
      have hx1 : Below B w w1 := (hb.out.alloc hBr _).grown hgrow1 (by simp; omega) (fun k hk => (ho.lt k hk).1)
      go_wp2
      first | exact ⟨rfl, hx1⟩ | (go_end0; exact ⟨rfl, hx1⟩)
end Go.Proofs.YtljgjcnfcmbemaaDoor
