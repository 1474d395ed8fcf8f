/-
  Rows that are appended: append(.., row...) in a region that draws, the row empty or not.
-/
import Derived.Test.YtkpieolmepngjaaPrWeight
import Derived.WalkSpells
import Derived.Deep.AppendLies
import Derived.RegionTactic
namespace Go.Proofs.Ytkpieolmepngjaa
open Go Go.RowKit

theorem flat_at {α : Type} (sz : Nat) : ∀ (css : List (List α)), (∀ cs ∈ css, cs.length = sz) → ∀ (k : Nat) (hk : k < css.length), (css.flatten.drop (k * sz)).take sz = css[k]
  | cs :: r, h, 0, _ => by
    have h0 := h cs (by simp)
    simp only [Nat.zero_mul, List.drop_zero, List.flatten_cons, List.getElem_cons_zero]
    rw [List.take_append_of_le_length (by omega), List.take_of_length_le (by omega)]
  | cs :: r, h, k + 1, hk => by
    have h0 := h cs (by simp)
    have ih := flat_at sz r (fun c hc => h c (by simp [hc])) k (by simpa using hk)
    simp only [List.flatten_cons, List.getElem_cons_succ]
    rw [Nat.add_mul, Nat.one_mul, Nat.add_comm, ← List.drop_drop, ← h0, List.drop_left, h0]
    exact ih
theorem flat_len2 {α : Type} (sz : Nat) : ∀ (css : List (List α)), (∀ cs ∈ css, cs.length = sz) → css.flatten.length = css.length * sz
  | [], _ => by simp
  | cs :: r, h => by
    have h0 := h cs (by simp)
    have ih := flat_len2 sz r (fun c hc => h c (by simp [hc]))
    simp only [List.flatten_cons, List.length_append, List.length_cons, ih, h0, Nat.add_mul]
    omega
/-- the cells of a row, one behind the other. -/
theorem row_cells {α : Type} {R : α → List Value → Prop} {w : World} {B : Nat} {A : Option Addr} {sz : Nat} {l : List α} (h0 : 0 < sz) (h1 : ∀ a cs, R a cs → ∀ u ∈ cs, u.oneCell' = true) (h : RowIn R w B A sz l) :
    ∃ xs : List Value, xs.length = l.length * sz ∧ (∀ g o, A = some ⟨g, o, none⟩ → ∀ (j : Nat) u, xs[j]? = some u → w.cell? ⟨g, o + j, none⟩ = some u) ∧ (∀ u ∈ xs, u.oneCell' = true) ∧ ∀ (k : Nat) (hk : k < l.length), R l[k] ((xs.drop (k * sz)).take sz) := by
  obtain ⟨css, hl, hq⟩ := pick (α := List Value) (Q := fun k cs => ∀ hk : k < l.length, ∃ g o, A = some ⟨g, o, none⟩ ∧ g < B ∧ cs.length = sz ∧ (∀ (j : Nat) u, cs[j]? = some u → w.cell? ⟨g, o + k * sz + j, none⟩ = some u) ∧ R l[k] cs) l.length (fun k hk => by
    obtain ⟨g, o, cs, e1, e2, e3, e4, e5⟩ := h k hk
    exact ⟨cs, fun _ => ⟨g, o, e1, e2, e3, e4, e5⟩⟩)
  have hsz : ∀ cs ∈ css, cs.length = sz := by
    intro cs hc
    obtain ⟨k, hk, rfl⟩ := List.getElem_of_mem hc
    obtain ⟨_, _, _, _, e, _⟩ := hq k hk (by omega)
    exact e
  refine ⟨css.flatten, by rw [flat_len2 sz css hsz, hl], fun g o hA j u hj => ?_, fun u hu => ?_, fun k hk => ?_⟩
  · have hjl : j < css.length * sz := by
      rw [← flat_len2 sz css hsz]
      rcases Nat.lt_or_ge j css.flatten.length with h2 | h2
      · exact h2
      · rw [List.getElem?_eq_none h2] at hj; cases hj
    have hk : j / sz < css.length := by
      rw [Nat.div_lt_iff_lt_mul h0]; exact hjl
    have hm : j % sz < sz := Nat.mod_lt _ h0
    have hd := Nat.div_add_mod j sz
    obtain ⟨g', o', e1, _, _, e4, _⟩ := hq (j / sz) hk (by omega)
    have e6 : (some ⟨g, o, none⟩ : Option Addr) = some ⟨g', o', none⟩ := hA.symm.trans e1
    simp only [Option.some.injEq, Addr.mk.injEq, and_true] at e6
    obtain ⟨rfl, rfl⟩ := e6
    have e7 := flat_at sz css hsz (j / sz) hk
    have e8 : css[j / sz][j % sz]? = some u := by
      rw [← e7, List.getElem?_take, if_pos hm, List.getElem?_drop]
      rw [show j / sz * sz + j % sz = j by rw [Nat.mul_comm]; exact hd]
      exact hj
    have := e4 _ _ e8
    rw [show o + j / sz * sz + j % sz = o + j by rw [Nat.mul_comm]; omega] at this
    exact this
  · obtain ⟨cs, hc, hu2⟩ := List.mem_flatten.1 hu
    obtain ⟨k, hk, rfl⟩ := List.getElem_of_mem hc
    obtain ⟨_, _, _, _, _, _, e⟩ := hq k hk (by omega)
    exact h1 _ _ e u hu2
  · rw [flat_at sz css hsz k (by omega)]
    obtain ⟨_, _, _, _, _, _, e⟩ := hq k (by omega) hk
    exact e
/-- a row that is owned is a row. -/
theorem row_owned {α : Type} {R : α → List Value → Prop} {w : World} {base n sz : Nat} {e : TypeId} {v : Value} {xs : List Value} {l : List α} (hn : l.length = n) (h : w.ownsRow base e sz v n xs) (hx : ∀ (k : Nat) (hk : k < l.length), R l[k] ((xs.drop (k * sz)).take sz)) :
    ∃ A c, v = .slice A l.length c ∧ RowIn R w w.heap.size A sz l := by
  subst hn
  rcases h.2 with ⟨rfl, h0⟩ | ⟨g, cap, cur, rfl, _, hg, _, _, hs, ht⟩
  · have : l = [] := List.length_eq_zero_iff.1 h0
    subst this
    exact ⟨none, 0, rfl, fun k hk => by simp at hk⟩
  · refine ⟨some ⟨g, 0, none⟩, cap, rfl, fun k hk => ?_⟩
    have hgl : g < w.heap.size := by
      rcases Nat.lt_or_ge g w.heap.size with h2 | h2
      · exact h2
      · rw [Array.getElem?_eq_none h2] at hg; cases hg
    have h1 : (k + 1) * sz ≤ l.length * sz := Nat.mul_le_mul_right _ hk
    have h2 : (k + 1) * sz = k * sz + sz := by rw [Nat.add_mul, Nat.one_mul]
    have hxl : xs.length = l.length * sz := h.1
    have hl : ((xs.drop (k * sz)).take sz).length = sz := by
      simp only [List.length_take, List.length_drop]
      omega
    refine ⟨g, 0, (xs.drop (k * sz)).take sz, rfl, hgl, hl, fun j u hj => ?_, hx k hk⟩
    have hjl : j < sz := by
      rcases Nat.lt_or_ge j ((xs.drop (k * sz)).take sz).length with h3 | h3
      · omega
      · rw [List.getElem?_eq_none h3] at hj; cases hj
    rw [List.getElem?_take, if_pos hjl, List.getElem?_drop, ← ht, List.getElem?_take, if_pos (by omega)] at hj
    rw [cell_of_row w g (0 + k * sz + j) cur e (0, 0) hg, Nat.zero_add]
    simpa using hj

section
variable {P : Program} {w : World}
/-- append of a row, empty or not, onto an owned one. -/
theorem app_run {base : Nat} {t ty e : TypeId} {i : TypeInfo} {z : Value} {size bytes : Nat} (ht : P.underlying t = some (.slice e)) (hi : P.info? e = some i) (hz : i.zero = some z) (hsize : i.size = size) (hby : i.bytes = bytes) (hzs : z.cells.size = size) (hsz : 0 < size)
    {v : Value} {n : Nat} {xs : List Value} (hown : w.ownsRow base e size v n xs) {A : Option Addr} {m c : Nat} {news : List Value} (hl : news.length = m * size) (hc : ∀ g o, A = some ⟨g, o, none⟩ → ∀ (j : Nat) u, news[j]? = some u → w.cell? ⟨g, o + j, none⟩ = some u)
    (hA : (A = none ∧ m = 0 ∧ c = 0) ∨ (m = 0 ∧ ∃ a, A = some a) ∨ ∃ g o, A = some ⟨g, o, none⟩) (h1 : ∀ u ∈ news, u.oneCell' = true) (h63 : n + m ≤ maxLen) (hbytes : (n + m) * bytes ≤ 140737488355328) (hbase : base ≤ w.heap.size) :
    ∃ v' w', (Builtin.append_ #[t, t] ty #[v, .slice A m c]).run P w = .ok v' w' ∧ w'.ownsRow base e size v' (n + m) (xs ++ news) ∧ w.grownBy w' v.ownBlock ∧ (v'.ownBlock = v.ownBlock ∨ v'.ownBlock = some w.heap.size) := by
  rcases hA with ⟨rfl, rfl, rfl⟩ | ⟨rfl, a, rfl⟩ | ⟨g, o, rfl⟩
  · have : news = [] := List.length_eq_zero_iff.1 (by simpa using hl)
    subst this
    exact ⟨v, w, run_append_owned_none w base t ty e i size ht hi v n xs hown, by simpa using hown, ⟨rfl, rfl, rfl, Nat.le_refl _, fun _ _ _ => rfl⟩, .inl rfl⟩
  · have : news = [] := List.length_eq_zero_iff.1 (by simpa using hl)
    subst this
    obtain ⟨v', w', k1, k2, k3, _, k5⟩ := run_append_own_at (P := P) w base t ty e i z size bytes ht hi hz hsize hby hzs hsz v n xs hown a 0 c [] hl (fun j u hj => by simp at hj) h1 h63 hbytes hbase
    exact ⟨v', w', k1, k2, k3, k5⟩
  · obtain ⟨v', w', k1, k2, k3, _, k5⟩ := run_append_own_at (P := P) w base t ty e i z size bytes ht hi hz hsize hby hzs hsz v n xs hown ⟨g, o, none⟩ m c news hl (fun j u hj => by
      have := hc g o rfl j u hj
      unfold Addr.add
      by_cases h0 : j = 0
      · subst h0; simpa using this
      · simpa [h0] using this) h1 h63 hbytes hbase
    exact ⟨v', w', k1, k2, k3, k5⟩
/-- append at a step of a region that draws, by what it comes to. -/
theorem step_app {ops : Array Oper} {o : Oper} {a : Act} {K : Act → World → Prop} {Q : Exit → Act → World → Prop} {E : Prop} (hgd : o.guard = none) (s x : Operand) (t : TypeId)
    (ho : o.op = .call { callee := .builtin .append, args := #[s, x], argTypes := #[t, t] }) (v u : Value) (hs : a.eval s = v) (hx : a.eval x = u)
    (h : ∃ v' w', (Builtin.append_ #[t, t] o.type #[v, u]).run P w = .ok v' w' ∧ K (a.put o.dst v') w') : if Region.wanted o (yielded ops a.tmps) = true then Oper.wp P o a w K Q else E := by
  obtain ⟨v', w', hr, hk⟩ := h
  have hw : Region.wanted o (yielded ops a.tmps) = true := by simp [Region.wanted, hgd]
  rw [if_pos hw]
  unfold Oper.wp execOp
  simp only [ho, resolve, invoke, builtin, Sem.run_bind, Sem.run_pure, Result.andThen_ok, List.map_toArray, List.map_cons, List.map_nil, hs, hx, hr]
  exact hk
end
end Go.Proofs.Ytkpieolmepngjaa
