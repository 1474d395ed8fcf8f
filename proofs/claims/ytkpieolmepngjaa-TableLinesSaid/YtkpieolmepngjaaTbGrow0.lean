/-
  TableGrows, the walk: whatever the unit, the number, the kind and the names, the law returns true.
-/
import Derived.Test.YtkpieolmepngjaaTbTells
import Derived.Test.YtkpieolmepngjaaTbGrowPure
import Derived.Test.YtkpieolmepngjaaTbFresh
namespace Go.Proofs.Ytkpieolmepngjaa
open Go Go.RowKit
set_option linter.unusedVariables false
set_option linter.unusedSimpArgs false

theorem Try.infoDecl : (Try.prog.info? 47).map (fun i => (i.zero.map (·.cells.size), i.size, i.bytes)) = some (some 11, 11, 160) := by kernel_rfl
/-- a row of declarations of the call's own. -/
def DRw (Q : DT → List Value → Prop) (B : Nat) (w : World) (A : Option Addr) (c : Nat) (l : List DT) : Prop := ∃ xs, w.ownsRow B 47 11 (.slice A l.length c) l.length xs ∧ ∀ (k : Nat) (hk : k < l.length), Q l[k] ((xs.drop (k * 11)).take 11)
theorem DRw.nil (Q : DT → List Value → Prop) (B : Nat) (w : World) : DRw Q B w none 0 [] := ⟨[], World.ownsRow_nil _ _ _ _, fun k hk => by simp at hk⟩
theorem DRw.row {Q Q' : DT → List Value → Prop} {B : Nat} {w : World} {A : Option Addr} {c : Nat} {l : List DT} (h : DRw Q B w A c l) (hQ : ∀ d cs, Q d cs → Q' d cs) : RowIn Q' w w.heap.size A 11 l := by
  obtain ⟨xs, hx, hv⟩ := h
  obtain ⟨A', c', e, h3⟩ := row_owned (R := Q) rfl hx hv
  simp only [Value.slice.injEq, true_and] at e
  obtain ⟨rfl, rfl⟩ := e
  exact RowIn.mono (Nat.le_refl _) (fun _ _ => rfl) (fun k hk cs h => hQ _ _ h) h3
theorem din_one {w : World} {B : Nat} {d : DT} {cs : List Value} (h : DIn w B d cs) : ∀ u ∈ cs, u.oneCell' = true := by
  obtain ⟨A1, c1, A2, c2, A3, c3, A4, c4, rfl, _⟩ := h
  intro u hu
  simp only [List.mem_cons, List.not_mem_nil, or_false] at hu
  rcases hu with rfl | rfl | rfl | rfl | rfl | rfl | rfl | rfl | rfl | rfl | rfl <;> rfl
theorem app_decls {B B' : Nat} {W : World} {A A1 : Option Addr} {c c1 : Nat} {l m : List DT} {Q : DT → List Value → Prop} (h : DRw Q B W A c l) (hm : RowIn Q W B' A1 11 m) (hQ : ∀ a cs, Q a cs → ∀ u ∈ cs, u.oneCell' = true) (hlen : l.length + m.length ≤ 800000000000) (hB : B ≤ W.heap.size) :
    ∃ A' c' w', (Builtin.append_ #[22, 22] 22 #[.slice A l.length c, .slice A1 m.length c1]).run Try.prog W = .ok (.slice A' (l ++ m).length c') w' ∧ DRw Q B w' A' c' (l ++ m) ∧ Below B W w' ∧ W.grownBy w' (Value.slice A l.length c).ownBlock ∧
      ((Value.slice A' (l ++ m).length c').ownBlock = (Value.slice A l.length c).ownBlock ∨ (Value.slice A' (l ++ m).length c').ownBlock = some W.heap.size) := by
  have hi0 : (Try.prog.info? 47).map (fun i => (i.zero.map (·.cells.size), i.size, i.bytes)) = some (some 11, 11, 160) := Try.infoDecl
  obtain ⟨i0, hi, hz0, hz1, hz2⟩ : ∃ i0, Try.prog.info? 47 = some i0 ∧ i0.zero.map (·.cells.size) = some 11 ∧ i0.size = 11 ∧ i0.bytes = 160 := by
    cases hq : Try.prog.info? 47 with
    | none => rw [hq] at hi0; simp at hi0
    | some i0 => rw [hq] at hi0; simp at hi0; exact ⟨i0, rfl, by simpa using hi0.1, hi0.2.1, hi0.2.2⟩
  obtain ⟨z, hz, hzs⟩ := Option.map_eq_some_iff.1 hz0
  obtain ⟨xs, hown, hx⟩ := h
  obtain ⟨ys, y1, y2, y3, y4⟩ := row_cells (by decide) (fun a cs h => hQ a cs h) hm
  have hA : (A1 = none ∧ m.length = 0) ∨ ∃ g o, A1 = some ⟨g, o, none⟩ ∨ (m.length = 0 ∧ A1 = some ⟨g, o, none⟩) ∨ (m.length = 0 ∧ ∃ a, A1 = some a) := by
    cases A1 with
    | none =>
      left
      refine ⟨rfl, ?_⟩
      rcases Nat.eq_zero_or_pos m.length with h0 | h0
      · exact h0
      · obtain ⟨g, o, cs, e, _⟩ := hm 0 h0
        cases e
    | some a =>
      right
      rcases Nat.eq_zero_or_pos m.length with h0 | h0
      · exact ⟨0, 0, .inr (.inr ⟨h0, a, rfl⟩)⟩
      · obtain ⟨g, o, cs, e, _⟩ := hm 0 h0
        exact ⟨g, o, .inl e⟩
  have run : ∃ v' w', (Builtin.append_ #[22, 22] 22 #[.slice A l.length c, .slice A1 m.length c1]).run Try.prog W = .ok v' w' ∧ w'.ownsRow B 47 11 v' (l.length + m.length) (xs ++ ys) ∧ W.grownBy w' (Value.slice A l.length c).ownBlock ∧ (v'.ownBlock = (Value.slice A l.length c).ownBlock ∨ v'.ownBlock = some W.heap.size) := by
    have go : ∀ c1 : Nat, ((A1 = none ∧ m.length = 0 ∧ c1 = 0) ∨ (m.length = 0 ∧ ∃ a, A1 = some a) ∨ ∃ g o, A1 = some ⟨g, o, none⟩) → ∃ v' w', (Builtin.append_ #[22, 22] 22 #[.slice A l.length c, .slice A1 m.length c1]).run Try.prog W = .ok v' w' ∧ w'.ownsRow B 47 11 v' (l.length + m.length) (xs ++ ys) ∧ W.grownBy w' (Value.slice A l.length c).ownBlock ∧ (v'.ownBlock = (Value.slice A l.length c).ownBlock ∨ v'.ownBlock = some W.heap.size) := fun c1 hA => app_run (P := Try.prog) (w := W) (base := B) (t := 22) (ty := 22) (bytes := 160) Try.underlying22 hi hz hz1 hz2 hzs (by decide) hown (A := A1) (m := m.length) (c := c1) (news := ys) y1 (fun g o e j u hj => y2 g o e j u hj) hA y3 (by unfold maxLen; omega) (by omega) hB
    rcases hA with ⟨h1, h2⟩ | ⟨g, o, h1 | ⟨h2, h1⟩ | ⟨h2, h1⟩⟩
    · have := go 0 (.inl ⟨h1, h2, rfl⟩)
      rw [h1, h2, append_capless]
      rw [h1, h2] at this
      exact this
    · exact go c1 (.inr (.inr ⟨g, o, h1⟩))
    · exact go c1 (.inr (.inr ⟨g, o, h1⟩))
    · exact go c1 (.inr (.inl ⟨h2, h1⟩))
  obtain ⟨v', w', k1, k2, k3, k4⟩ := run
  have hlm : (l ++ m).length = l.length + m.length := List.length_append
  have hshape : ∃ A' c', v' = .slice A' (l ++ m).length c' := by
    rcases k2.2 with ⟨h1, h2⟩ | ⟨g, cap, cur, h1, _⟩
    · exact ⟨none, 0, by rw [h1, hlm, h2]⟩
    · exact ⟨_, cap, by rw [h1, hlm]⟩
  obtain ⟨A', c', rfl⟩ := hshape
  refine ⟨A', c', w', k1, ⟨xs ++ ys, by rw [← hlm] at k2; exact k2, fun k hk => ?_⟩, (Below.refl B W).grown k3 hB (fun j hj => (hown.lt j hj).1), k3, k4⟩
  have hxl : xs.length = l.length * 11 := hown.1
  by_cases hkn : k < l.length
  · rw [List.getElem_append_left hkn]
    have e : (((xs ++ ys).drop (k * 11)).take 11) = ((xs.drop (k * 11)).take 11) := by
      have : (k + 1) * 11 ≤ l.length * 11 := Nat.mul_le_mul_right _ (by omega)
      rw [List.drop_append_of_le_length (by omega), List.take_append_of_le_length (by simp only [List.length_drop]; omega)]
    rw [e]
    exact hx k hkn
  · have hk2 : k - l.length < m.length := by simp at hk; omega
    rw [List.getElem_append_right (by omega)]
    have e : (((xs ++ ys).drop (k * 11)).take 11) = ((ys.drop ((k - l.length) * 11)).take 11) := by
      have e1 : k * 11 = xs.length + (k - l.length) * 11 := by
        have e2 : l.length + (k - l.length) = k := by omega
        rw [hxl, ← Nat.add_mul, e2]
      rw [e1, ← List.drop_drop, List.drop_left]
    rw [e]
    exact y4 (k - l.length) hk2
end Go.Proofs.Ytkpieolmepngjaa
