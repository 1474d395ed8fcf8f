/-
  What chains and interfaces are, in plain words: closed under bases, members found by name; who is one.
-/
import Derived.Test.YtkpieolmepngjaaTbRow
namespace Go.Proofs.Ytkpieolmepngjaa
open Go Go.RowKit
set_option linter.unusedVariables false
set_option linter.unusedSimpArgs false

theorem findF_name (s : ByteArray) : ∀ (L : List DT) (j k : Nat) (hk : k < L.length), findF s L j = (j + k : Nat) → L[k].name = s
  | d :: r, j, 0, hk, h => by
    unfold findF at h
    split at h
    · assumption
    · have := findF_le s r (j + 1)
      omega
  | d :: r, j, k + 1, hk, h => by
    unfold findF at h
    split at h
    · omega
    · exact findF_name s r (j + 1) k (by simpa using hk) (by rw [h]; congr 1; omega)
theorem findT_name {L : List DT} {s : ByteArray} {k : Nat} (hk : k < L.length) (h : findT L s = k) : L[k].name = s := findF_name s L 0 k hk (by rw [Nat.zero_add]; exact h)
theorem chainF_sub {L : List DT} {x : Int} : ∀ (f : Nat) (out : List Int) (d : Int), x ∈ out → x ∈ chainF L f out d
  | 0, _, _, h => h
  | f + 1, out, d, h => by
    unfold chainF
    split
    · exact chainF_sub f _ _ (by simp [h])
    · exact h
theorem chainF_closed {L : List DT} : ∀ (f : Nat) (out : List Int) (d : Int), Met L out → L.length + 1 ≤ out.length + f → (∀ x ∈ out, isOfT L (findT L (baseT L x)) 2 = true → findT L (baseT L x) ∈ out ∨ findT L (baseT L x) = d) → ∀ x ∈ chainF L f out d, isOfT L (findT L (baseT L x)) 2 = true → findT L (baseT L x) ∈ chainF L f out d
  | 0, out, d, hm, hl, _, x, _, _ => by have := hm.len; omega
  | f + 1, out, d, hm, hl, hc, x, hx, hq => by
    by_cases hs : isOfT L d 2 = true ∧ out.contains d = false
    · rw [chainF_go hs.1 hs.2] at hx ⊢
      refine chainF_closed f _ _ (hm.snoc hs.1 hs.2) (by simp; omega) (fun y hy hz => ?_) x hx hq
      rcases List.mem_append.1 hy with h | h
      · rcases hc y h hz with h' | h'
        · exact .inl (List.mem_append_left _ h')
        · exact .inl (List.mem_append_right _ (by rw [h']; simp))
      · rw [List.mem_singleton.1 h]; exact .inr rfl
    · have he : isOfT L d 2 = false ∨ out.contains d = true := by
        cases h1 : isOfT L d 2
        · exact .inl rfl
        · cases h2 : out.contains d
          · exact absurd ⟨h1, h2⟩ hs
          · exact .inr rfl
      rw [chainF_end he] at hx ⊢
      rcases hc x hx hq with h | h
      · exact h
      · rw [h] at hq ⊢
        rcases he with h1 | h1
        · rw [h1] at hq; cases hq
        · exact List.contains_iff_mem.1 h1
theorem chainT_closed {L : List DT} {d x : Int} (hx : x ∈ chainT L d) (hq : isOfT L (findT L (baseT L x)) 2 = true) : findT L (baseT L x) ∈ chainT L d :=
  chainF_closed (L.length + 1) [] d (Met.nil L) (by simp) (by simp) x hx hq
theorem chainT_first {L : List DT} {d : Int} (h : isOfT L d 2 = true) : d ∈ chainT L d := by
  unfold chainT
  rw [chainF_go h (by simp)]
  exact chainF_sub _ _ _ (by simp)
theorem chainT_none {L : List DT} {d : Int} (h : isOfT L d 2 = false) : chainT L d = [] := by
  unfold chainT
  exact chainF_end (.inl h)
theorem chainT_is {L : List DT} {d x : Int} (h : x ∈ chainT L d) : isOfT L d 2 = true := by
  cases hq : isOfT L d 2
  · rw [chainT_none hq] at h; cases h
  · rfl
theorem chainF_in {L : List DT} (S : Int → Prop) (hS : ∀ x, S x → isOfT L (findT L (baseT L x)) 2 = true → S (findT L (baseT L x))) : ∀ (f : Nat) (out : List Int) (d : Int), (∀ x ∈ out, S x) → (isOfT L d 2 = true → S d) → ∀ x ∈ chainF L f out d, S x
  | 0, _, _, ho, _ => ho
  | f + 1, out, d, ho, hd => by
    by_cases hs : isOfT L d 2 = true ∧ out.contains d = false
    · rw [chainF_go hs.1 hs.2]
      refine chainF_in S hS f _ _ (fun x hx => ?_) (hS d (hd hs.1))
      rcases List.mem_append.1 hx with h | h
      · exact ho x h
      · rw [List.mem_singleton.1 h]; exact hd hs.1
    · have he : isOfT L d 2 = false ∨ out.contains d = true := by
        cases h1 : isOfT L d 2
        · exact .inl rfl
        · cases h2 : out.contains d
          · exact absurd ⟨h1, h2⟩ hs
          · exact .inr rfl
      rw [chainF_end he]
      exact ho
theorem chainT_sub {L : List DT} {d t : Int} (ht : t ∈ chainT L d) : ∀ x ∈ chainT L t, x ∈ chainT L d :=
  chainF_in (fun x => x ∈ chainT L d) (fun x hx hq => chainT_closed hx hq) _ [] t (by simp) (fun _ => ht)
theorem chainT_found {L : List DT} {s : ByteArray} : ∀ x ∈ chainT L (findT L s), ∃ s', x = findT L s' :=
  chainF_in (fun x => ∃ s', x = findT L s') (fun x _ _ => ⟨_, rfl⟩) _ [] _ (by simp) (fun _ => ⟨s, rfl⟩)
theorem mem_faceStep {L : List DT} {out : List Int} {s : ByteArray} {x : Int} : x ∈ faceStep L out s ↔ x ∈ out ∨ (x = findT L s ∧ isOfT L (findT L s) 1 = true) := by
  unfold faceStep
  cases h1 : isOfT L (findT L s) 1
  · simp
  · cases h2 : out.contains (findT L s)
    · simp
    · have := List.contains_iff_mem.1 h2
      simp only [Bool.not_true, Bool.and_false, Bool.false_eq_true, if_false, and_true]
      constructor
      · exact .inl
      · rintro (h | h)
        · exact h
        · rw [h]; exact this
theorem mem_faceFold {L : List DT} {x : Int} : ∀ (l : List ByteArray) (out : List Int), x ∈ l.foldl (faceStep L) out ↔ x ∈ out ∨ ∃ s ∈ l, x = findT L s ∧ isOfT L (findT L s) 1 = true
  | [], out => by simp
  | s :: r, out => by
    rw [List.foldl_cons, mem_faceFold r, mem_faceStep]
    constructor
    · rintro ((h | h) | ⟨t, ht, h⟩)
      · exact .inl h
      · exact .inr ⟨s, by simp, h⟩
      · exact .inr ⟨t, by simp [ht], h⟩
    · rintro (h | ⟨t, ht, h⟩)
      · exact .inl (.inl h)
      · rcases List.mem_cons.1 ht with rfl | ht
        · exact .inl (.inr h)
        · exact .inr ⟨t, ht, h⟩
theorem mem_facesFold {L : List DT} {x : Int} : ∀ (cs : List Int) (out : List Int), x ∈ cs.foldl (fun out c => (facesOf L c).foldl (faceStep L) out) out ↔ x ∈ out ∨ ∃ c ∈ cs, ∃ s ∈ facesOf L c, x = findT L s ∧ isOfT L (findT L s) 1 = true
  | [], out => by simp
  | c :: r, out => by
    rw [List.foldl_cons, mem_facesFold r, mem_faceFold]
    constructor
    · rintro ((h | h) | ⟨t, ht, h⟩)
      · exact .inl h
      · exact .inr ⟨c, by simp, h⟩
      · exact .inr ⟨t, by simp [ht], h⟩
    · rintro (h | ⟨t, ht, h⟩)
      · exact .inl (.inl h)
      · rcases List.mem_cons.1 ht with rfl | ht
        · exact .inl (.inr h)
        · exact .inr ⟨t, ht, h⟩
theorem mem_facesT {L : List DT} {d x : Int} : x ∈ facesT L d ↔ ∃ c ∈ chainT L d, ∃ s ∈ facesOf L c, x = findT L s ∧ isOfT L (findT L s) 1 = true := by
  unfold facesT
  rw [mem_facesFold]
  simp
theorem facesT_sub {L : List DT} {d t : Int} (ht : t ∈ chainT L d) : ∀ x ∈ facesT L t, x ∈ facesT L d := fun x hx => by
  obtain ⟨c, hc, h⟩ := mem_facesT.1 hx
  exact mem_facesT.2 ⟨c, chainT_sub ht c hc, h⟩
theorem one_kind {L : List DT} {d : Int} (h : isOfT L d 1 = true) : isOfT L d 2 = false := by
  rw [kindT_isOf L d 1 (by decide)] at h
  rw [kindT_isOf L d 2 (by decide)]
  have := of_decide_eq_true h
  rw [this]
  decide
/-- who is one. -/
theorem isT_iff {L : List DT} {a b : ByteArray} : isT L a b = true ↔ (isOfT L (findT L a) 2 = true ∨ isOfT L (findT L a) 1 = true) ∧ (a = b ∨ findT L b ∈ chainT L (findT L a) ∨ findT L b ∈ facesT L (findT L a)) := by
  unfold isT
  simp [Bool.and_eq_true, or_assoc]
theorem isT_self (L : List DT) (a : ByteArray) : isT L a a = (isOfT L (findT L a) 2 || isOfT L (findT L a) 1) := by
  unfold isT
  simp
theorem isT_thing {L : List DT} {a b : ByteArray} (h : isT L a b = true) : (isOfT L (findT L a) 2 || isOfT L (findT L a) 1) = true := by
  have := (isT_iff.1 h).1
  simpa using this
theorem isT_trans {L : List DT} {a b c : ByteArray} (h1 : isT L a b = true) (h2 : isT L b c = true) : isT L a c = true := by
  obtain ⟨k1, k2⟩ := isT_iff.1 h1
  obtain ⟨j1, j2⟩ := isT_iff.1 h2
  refine isT_iff.2 ⟨k1, ?_⟩
  rcases k2 with rfl | k | k
  · exact j2
  · rcases j2 with rfl | j | j
    · exact .inr (.inl k)
    · exact .inr (.inl (chainT_sub k _ j))
    · exact .inr (.inr (facesT_sub k _ j))
  · obtain ⟨c', _, s, _, e, hi⟩ := mem_facesT.1 k
    rw [← e] at hi
    have hn := chainT_none (one_kind hi)
    rcases j2 with rfl | j | j
    · exact .inr (.inr k)
    · rw [hn] at j; cases j
    · obtain ⟨c2, hc2, _⟩ := mem_facesT.1 j
      rw [hn] at hc2; cases hc2
theorem found_name {L : List DT} {k : Nat} (hk : k < L.length) {s : ByteArray} (h : (k : Int) = findT L s) : findT L L[k].name = k := by
  rw [findT_name hk h.symm, h]
theorem isT_chain {L : List DT} {a : ByteArray} {k : Nat} (hk : k < L.length) (h : (k : Int) ∈ chainT L (findT L a)) : isT L a L[k].name = true := by
  obtain ⟨s, hs⟩ := chainT_found _ h
  refine isT_iff.2 ⟨.inl (chainT_is h), .inr (.inl ?_)⟩
  rw [found_name hk hs]
  exact h
theorem isT_face {L : List DT} {a : ByteArray} {k : Nat} (hk : k < L.length) (h : (k : Int) ∈ facesT L (findT L a)) : isT L a L[k].name = true := by
  obtain ⟨c, hc, s, _, hs, _⟩ := mem_facesT.1 h
  refine isT_iff.2 ⟨.inl (chainT_is hc), .inr (.inr ?_)⟩
  rw [found_name hk hs]
  exact h
theorem facesT_kind {L : List DT} {d x : Int} (h : x ∈ facesT L d) : isOfT L x 1 = true := by
  obtain ⟨c, hc, s, _, hs, hi⟩ := mem_facesT.1 h
  rw [hs]; exact hi
end Go.Proofs.Ytkpieolmepngjaa
