/-
  A declaration more behind all others, of a name that none asks for: nothing told of the others changes.
-/
import Derived.Test.YtkpieolmepngjaaTbIsPure
namespace Go.Proofs.Ytkpieolmepngjaa
open Go Go.RowKit
set_option linter.unusedVariables false
set_option linter.unusedSimpArgs false

/-- none asks for the name. -/
def Apart (L : List DT) (nm : ByteArray) : Prop := ∀ d ∈ L, d.name ≠ nm ∧ d.base ≠ nm ∧ ∀ f ∈ d.faces, f ≠ nm
theorem findF_app {s : ByteArray} {D : DT} (h : D.name ≠ s) : ∀ (L : List DT) (j : Nat), findF s (L ++ [D]) j = findF s L j
  | [], j => by simp [findF, h]
  | d :: r, j => by
    rw [List.cons_append]
    unfold findF
    rw [findF_app h r (j + 1)]
theorem findT_app {L : List DT} {s : ByteArray} {D : DT} (h : D.name ≠ s) : findT (L ++ [D]) s = findT L s := findF_app h L 0
theorem findT_new {L : List DT} {D : DT} (h : Apart L D.name) : findT (L ++ [D]) D.name = (L.length : Int) := by
  refine findT_at (k := L.length) (by simp) (fun i hi hk => ?_) (by simp)
  rw [List.getElem_append_left hk]
  exact (h _ (List.getElem_mem hk)).1
theorem at_app {L : List DT} {D : DT} {d : Int} (h0 : 0 ≤ d) (h1 : d < (L.length : Int)) : (L ++ [D])[d.toNat]? = L[d.toNat]? := List.getElem?_append_left (by omega)
theorem isOfT_app {L : List DT} {D : DT} {d q : Int} (h : d < (L.length : Int)) : isOfT (L ++ [D]) d q = isOfT L d q := by
  by_cases h0 : 0 ≤ d
  · unfold isOfT
    rw [at_app h0 h]
    have e1 : decide (d < ((L ++ [D]).length : Int)) = true := decide_eq_true (by simp; omega)
    have e2 : decide (d < (L.length : Int)) = true := decide_eq_true h
    rw [e1, e2]
  · rw [isOfT_out (.inl (by omega)), isOfT_out (.inl (by omega))]
theorem in_of {L : List DT} {d q : Int} (h : isOfT L d q = true) : 0 ≤ d ∧ d < (L.length : Int) := by
  obtain ⟨k, rfl, hk⟩ := isOfT_lt h
  omega
theorem mem_at {L : List DT} {d : Int} (h0 : 0 ≤ d) (h1 : d < (L.length : Int)) : ∃ x ∈ L, L[d.toNat]? = some x :=
  ⟨L[d.toNat]'(by omega), List.getElem_mem _, List.getElem?_eq_getElem (by omega)⟩
theorem baseT_ne {L : List DT} {nm : ByteArray} (h : Apart L nm) {d : Int} (h0 : 0 ≤ d) (h1 : d < (L.length : Int)) : nm ≠ baseT L d := by
  obtain ⟨x, hx, e⟩ := mem_at h0 h1
  unfold baseT
  rw [e]
  exact fun e => (h x hx).2.1 e.symm
theorem facesOf_ne {L : List DT} {nm : ByteArray} (h : Apart L nm) {d : Int} (h0 : 0 ≤ d) (h1 : d < (L.length : Int)) : ∀ f ∈ facesOf L d, nm ≠ f := by
  obtain ⟨x, hx, e⟩ := mem_at h0 h1
  unfold facesOf
  rw [e]
  exact fun f hf e => (h x hx).2.2 f hf e.symm
theorem baseT_app {L : List DT} {D : DT} {d : Int} (h0 : 0 ≤ d) (h1 : d < (L.length : Int)) : baseT (L ++ [D]) d = baseT L d := by unfold baseT; rw [at_app h0 h1]
theorem facesOf_app {L : List DT} {D : DT} {d : Int} (h0 : 0 ≤ d) (h1 : d < (L.length : Int)) : facesOf (L ++ [D]) d = facesOf L d := by unfold facesOf; rw [at_app h0 h1]
theorem methodsOf_app {L : List DT} {D : DT} {d : Int} (h0 : 0 ≤ d) (h1 : d < (L.length : Int)) : methodsOf (L ++ [D]) d = methodsOf L d := by unfold methodsOf; rw [at_app h0 h1]
theorem varsOf_app {L : List DT} {D : DT} {d : Int} (h0 : 0 ≤ d) (h1 : d < (L.length : Int)) : varsOf (L ++ [D]) d = varsOf L d := by unfold varsOf; rw [at_app h0 h1]
theorem findT_small (L : List DT) (s : ByteArray) : findT L s < (L.length : Int) := by
  rcases findT_le L s with h | h
  · rw [h]; omega
  · exact h.2
theorem chainF_app {L : List DT} {D : DT} (ha : Apart L D.name) : ∀ (f : Nat) (out : List Int) (d : Int), d < (L.length : Int) → chainF (L ++ [D]) f out d = chainF L f out d
  | 0, _, _, _ => rfl
  | f + 1, out, d, h => by
    unfold chainF
    rw [isOfT_app h]
    cases hq : isOfT L d 2
    · simp
    · have hr := in_of hq
      rw [baseT_app hr.1 hr.2, findT_app (baseT_ne ha hr.1 hr.2), chainF_app ha f _ _ (findT_small L _)]
theorem chainF_fuel {L : List DT} : ∀ (f : Nat) (out : List Int) (d : Int), Met L out → L.length + 1 ≤ out.length + f → chainF L (f + 1) out d = chainF L f out d
  | 0, out, d, hm, hl => by have := hm.len; omega
  | f + 1, out, d, hm, hl => by
    by_cases hs : isOfT L d 2 = true ∧ out.contains d = false
    · rw [chainF_go hs.1 hs.2, chainF_go hs.1 hs.2]
      exact chainF_fuel f _ _ (hm.snoc hs.1 hs.2) (by simp; omega)
    · have he : isOfT L d 2 = false ∨ out.contains d = true := by
        cases h1 : isOfT L d 2
        · exact .inl rfl
        · cases h2 : out.contains d
          · exact absurd ⟨h1, h2⟩ hs
          · exact .inr rfl
      rw [chainF_end he, chainF_end he]
theorem chainT_app {L : List DT} {D : DT} (ha : Apart L D.name) {d : Int} (h : d < (L.length : Int)) : chainT (L ++ [D]) d = chainT L d := by
  unfold chainT
  rw [chainF_app ha _ _ _ h, show (L ++ [D]).length + 1 = (L.length + 1) + 1 by simp]
  exact chainF_fuel (L.length + 1) [] d (Met.nil L) (by simp)
theorem faceStep_app {L : List DT} {D : DT} {out : List Int} {s : ByteArray} (h : D.name ≠ s) : faceStep (L ++ [D]) out s = faceStep L out s := by
  unfold faceStep
  rw [findT_app h, isOfT_app (findT_small L s)]
theorem faceFold_app {L : List DT} {D : DT} : ∀ (l : List ByteArray) (out : List Int), (∀ s ∈ l, D.name ≠ s) → l.foldl (faceStep (L ++ [D])) out = l.foldl (faceStep L) out
  | [], _, _ => rfl
  | s :: r, out, h => by
    rw [List.foldl_cons, List.foldl_cons, faceStep_app (h s (by simp)), faceFold_app r _ fun t ht => h t (by simp [ht])]
theorem facesFold_app {L : List DT} {D : DT} (ha : Apart L D.name) : ∀ (cs out : List Int), (∀ x ∈ cs, 0 ≤ x ∧ x < (L.length : Int)) → cs.foldl (fun out c => (facesOf (L ++ [D]) c).foldl (faceStep (L ++ [D])) out) out = cs.foldl (fun out c => (facesOf L c).foldl (faceStep L) out) out
  | [], _, _ => rfl
  | c :: r, out, h => by
    have hc := h c (by simp)
    rw [List.foldl_cons, List.foldl_cons, facesOf_app hc.1 hc.2, faceFold_app _ _ (facesOf_ne ha hc.1 hc.2), facesFold_app ha r _ fun x hx => h x (by simp [hx])]
theorem facesT_app {L : List DT} {D : DT} (ha : Apart L D.name) {d : Int} (h : d < (L.length : Int)) : facesT (L ++ [D]) d = facesT L d := by
  unfold facesT
  rw [chainT_app ha h]
  exact facesFold_app ha _ _ (chainT_met L d).2
theorem isT_app {L : List DT} {D : DT} (ha : Apart L D.name) {a b : ByteArray} (h1 : D.name ≠ a) (h2 : D.name ≠ b) : isT (L ++ [D]) a b = isT L a b := by
  unfold isT
  rw [findT_app h1, findT_app h2, isOfT_app (findT_small L a), isOfT_app (findT_small L a), chainT_app ha (findT_small L a), facesT_app ha (findT_small L a)]
theorem homesT_app {L : List DT} {D : DT} (ha : Apart L D.name) {d : Int} (h : d < (L.length : Int)) : homesT (L ++ [D]) d = homesT L d := by
  unfold homesT
  rw [isOfT_app h, chainT_app ha h]
theorem methodF_app {L : List DT} {D : DT} (s : ByteArray) : ∀ cs : List Int, (∀ x ∈ cs, 0 ≤ x ∧ x < (L.length : Int)) → methodF (L ++ [D]) s cs = methodF L s cs
  | [], _ => rfl
  | c :: r, h => by
    have hc := h c (by simp)
    unfold methodF
    rw [methodsOf_app hc.1 hc.2, methodF_app s r fun x hx => h x (by simp [hx])]
theorem homesT_rng {L : List DT} {d : Int} : ∀ x ∈ homesT L d, 0 ≤ x ∧ x < (L.length : Int) := fun x hx => by
  unfold homesT at hx
  split at hx
  · rename_i h
    simp only [List.mem_singleton] at hx
    rw [hx]
    exact in_of h
  · exact (chainT_met L d).2 x hx
theorem methodT_app {L : List DT} {D : DT} (ha : Apart L D.name) {d : Int} (h : d < (L.length : Int)) (s : ByteArray) : methodT (L ++ [D]) d s = methodT L d s := by
  unfold methodT
  rw [homesT_app ha h]
  exact methodF_app s _ homesT_rng
theorem flat_app {L : List DT} {D : DT} : ∀ cs : List Int, (∀ x ∈ cs, 0 ≤ x ∧ x < (L.length : Int)) → cs.flatMap (varsOf (L ++ [D])) = cs.flatMap (varsOf L)
  | [], _ => rfl
  | c :: r, h => by
    have hc := h c (by simp)
    rw [List.flatMap_cons, List.flatMap_cons, varsOf_app hc.1 hc.2, flat_app r fun x hx => h x (by simp [hx])]
theorem fieldsT_app {L : List DT} {D : DT} (ha : Apart L D.name) {d : Int} (h : d < (L.length : Int)) : fieldsT (L ++ [D]) d = fieldsT L d := by
  unfold fieldsT
  rw [isOfT_app h, chainT_app ha h]
  cases hq : isOfT L d 3
  · exact flat_app _ fun x hx => (chainT_met L d).2 x (List.mem_reverse.1 hx)
  · have hr := in_of hq
    rw [if_pos rfl, if_pos rfl, varsOf_app hr.1 hr.2]
end Go.Proofs.Ytkpieolmepngjaa
