/-
  What chains and interfaces are, in plain words: closed under bases, members found by name; who is one.
-/
import Derived.Test.YtbgilpmoijdcfaaGreatK1
import Derived.Test.YtbgilpmoijdcfaaGreatK6
import Derived.Deep.RegionHeld3
import Derived.Deep.DeepCutAuto
import Derived.Test.YtbgilpmoijdcfaaGreatK10
namespace Go.Proofs.YtbgilpmoijdcfaaGreat
open Go Go.RowKit
set_option linter.unusedVariables false
set_option linter.unusedSimpArgs false

theorem findF_name (s : ByteArray) : ∀ (L : List DT) (j k : Nat) (hk : k < L.length), findF s L j = (j + k : Nat) → L[k].name = s
  | d :: r, j, 0, hk, h => by
    unfold findF at h
    split at h
    · assumption
    · have := findF_le s r (j + 1)
      omega
  | d :: r, j, k + 1, hk, h => by
    unfold findF at h
    split at h
    · omega
    · exact findF_name s r (j + 1) k (by simpa using hk) (by rw [h]; congr 1; omega)
theorem findT_name {L : List DT} {s : ByteArray} {k : Nat} (hk : k < L.length) (h : findT L s = k) : L[k].name = s := findF_name s L 0 k hk (by rw [Nat.zero_add]; exact h)
theorem chainF_sub {L : List DT} {x : Int} : ∀ (f : Nat) (out : List Int) (d : Int), x ∈ out → x ∈ chainF L f out d
  | 0, _, _, h => h
  | f + 1, out, d, h => by
    unfold chainF
    split
    · exact chainF_sub f _ _ (by simp [h])
    · exact h
theorem chainF_closed {L : List DT} : ∀ (f : Nat) (out : List Int) (d : Int), Met L out → L.length + 1 ≤ out.length + f → (∀ x ∈ out, isOfT L (findT L (baseT L x)) 2 = true → findT L (baseT L x) ∈ out ∨ findT L (baseT L x) = d) → ∀ x ∈ chainF L f out d, isOfT L (findT L (baseT L x)) 2 = true → findT L (baseT L x) ∈ chainF L f out d
  | 0, out, d, hm, hl, _, x, _, _ => by have := hm.len; omega
  | f + 1, out, d, hm, hl, hc, x, hx, hq => by
    by_cases hs : isOfT L d 2 = true ∧ out.contains d = false
    · rw [chainF_go hs.1 hs.2] at hx ⊢
      refine chainF_closed f _ _ (hm.snoc hs.1 hs.2) (by simp; omega) (fun y hy hz => ?_) x hx hq
      rcases List.mem_append.1 hy with h | h
      · rcases hc y h hz with h' | h'
        · exact .inl (List.mem_append_left _ h')
        · exact .inl (List.mem_append_right _ (by rw [h']; simp))
      · rw [List.mem_singleton.1 h]; exact .inr rfl
    · have he : isOfT L d 2 = false ∨ out.contains d = true := by
        cases h1 : isOfT L d 2
        · exact .inl rfl
        · cases h2 : out.contains d
          · exact absurd ⟨h1, h2⟩ hs
          · exact .inr rfl
      rw [chainF_end he] at hx ⊢
      rcases hc x hx hq with h | h
      · exact h
      · rw [h] at hq ⊢
        rcases he with h1 | h1
        · rw [h1] at hq; cases hq
        · exact List.contains_iff_mem.1 h1
theorem chainT_closed {L : List DT} {d x : Int} (hx : x ∈ chainT L d) (hq : isOfT L (findT L (baseT L x)) 2 = true) : findT L (baseT L x) ∈ chainT L d :=
  chainF_closed (L.length + 1) [] d (Met.nil L) (by simp) (by simp) x hx hq
theorem chainT_first {L : List DT} {d : Int} (h : isOfT L d 2 = true) : d ∈ chainT L d := by
  unfold chainT
  rw [chainF_go h (by simp)]
  exact chainF_sub _ _ _ (by simp)
theorem chainT_none {L : List DT} {d : Int} (h : isOfT L d 2 = false) : chainT L d = [] := by
  unfold chainT
  exact chainF_end (.inl h)
theorem chainT_is {L : List DT} {d x : Int} (h : x ∈ chainT L d) : isOfT L d 2 = true := by
  cases hq : isOfT L d 2
  · rw [chainT_none hq] at h; cases h
  · rfl
theorem chainF_in {L : List DT} (S : Int → Prop) (hS : ∀ x, S x → isOfT L (findT L (baseT L x)) 2 = true → S (findT L (baseT L x))) : ∀ (f : Nat) (out : List Int) (d : Int), (∀ x ∈ out, S x) → (isOfT L d 2 = true → S d) → ∀ x ∈ chainF L f out d, S x
  | 0, _, _, ho, _ => ho
  | f + 1, out, d, ho, hd => by
    by_cases hs : isOfT L d 2 = true ∧ out.contains d = false
    · rw [chainF_go hs.1 hs.2]
      refine chainF_in S hS f _ _ (fun x hx => ?_) (hS d (hd hs.1))
      rcases List.mem_append.1 hx with h | h
      · exact ho x h
      · rw [List.mem_singleton.1 h]; exact hd hs.1
    · have he : isOfT L d 2 = false ∨ out.contains d = true := by
        cases h1 : isOfT L d 2
        · exact .inl rfl
        · cases h2 : out.contains d
          · exact absurd ⟨h1, h2⟩ hs
          · exact .inr rfl
      rw [chainF_end he]
      exact ho
theorem chainT_sub {L : List DT} {d t : Int} (ht : t ∈ chainT L d) : ∀ x ∈ chainT L t, x ∈ chainT L d :=
  chainF_in (fun x => x ∈ chainT L d) (fun x hx hq => chainT_closed hx hq) _ [] t (by simp) (fun _ => ht)
theorem chainT_found {L : List DT} {s : ByteArray} : ∀ x ∈ chainT L (findT L s), ∃ s', x = findT L s' :=
  chainF_in (fun x => ∃ s', x = findT L s') (fun x _ _ => ⟨_, rfl⟩) _ [] _ (by simp) (fun _ => ⟨s, rfl⟩)
theorem mem_faceStep {L : List DT} {out : List Int} {s : ByteArray} {x : Int} : x ∈ faceStep L out s ↔ x ∈ out ∨ (x = findT L s ∧ isOfT L (findT L s) 1 = true) := by
  unfold faceStep
  cases h1 : isOfT L (findT L s) 1
  · simp
  · cases h2 : out.contains (findT L s)
    · simp
    · have := List.contains_iff_mem.1 h2
      simp only [Bool.not_true, Bool.and_false, Bool.false_eq_true, if_false, and_true]
      constructor
      · exact .inl
      · rintro (h | h)
        · exact h
        · rw [h]; exact this
theorem mem_faceFold {L : List DT} {x : Int} : ∀ (l : List ByteArray) (out : List Int), x ∈ l.foldl (faceStep L) out ↔ x ∈ out ∨ ∃ s ∈ l, x = findT L s ∧ isOfT L (findT L s) 1 = true
  | [], out => by simp
  | s :: r, out => by
    rw [List.foldl_cons, mem_faceFold r, mem_faceStep]
    constructor
    · rintro ((h | h) | ⟨t, ht, h⟩)
      · exact .inl h
      · exact .inr ⟨s, by simp, h⟩
      · exact .inr ⟨t, by simp [ht], h⟩
    · rintro (h | ⟨t, ht, h⟩)
      · exact .inl (.inl h)
      · rcases List.mem_cons.1 ht with rfl | ht
        · exact .inl (.inr h)
        · exact .inr ⟨t, ht, h⟩
theorem mem_facesFold {L : List DT} {x : Int} : ∀ (cs : List Int) (out : List Int), x ∈ cs.foldl (fun out c => (facesOf L c).foldl (faceStep L) out) out ↔ x ∈ out ∨ ∃ c ∈ cs, ∃ s ∈ facesOf L c, x = findT L s ∧ isOfT L (findT L s) 1 = true
  | [], out => by simp
  | c :: r, out => by
    rw [List.foldl_cons, mem_facesFold r, mem_faceFold]
    constructor
    · rintro ((h | h) | ⟨t, ht, h⟩)
      · exact .inl h
      · exact .inr ⟨c, by simp, h⟩
      · exact .inr ⟨t, by simp [ht], h⟩
    · rintro (h | ⟨t, ht, h⟩)
      · exact .inl (.inl h)
      · rcases List.mem_cons.1 ht with rfl | ht
        · exact .inl (.inr h)
        · exact .inr ⟨t, ht, h⟩
theorem mem_facesT {L : List DT} {d x : Int} : x ∈ facesT L d ↔ ∃ c ∈ chainT L d, ∃ s ∈ facesOf L c, x = findT L s ∧ isOfT L (findT L s) 1 = true := by
  unfold facesT
  rw [mem_facesFold]
  simp
theorem facesT_sub {L : List DT} {d t : Int} (ht : t ∈ chainT L d) : ∀ x ∈ facesT L t, x ∈ facesT L d := fun x hx => by
  obtain ⟨c, hc, h⟩ := mem_facesT.1 hx
  exact mem_facesT.2 ⟨c, chainT_sub ht c hc, h⟩
theorem one_kind {L : List DT} {d : Int} (h : isOfT L d 1 = true) : isOfT L d 2 = false := by
  rw [kindT_isOf L d 1 (by decide)] at h
  rw [kindT_isOf L d 2 (by decide)]
  have := of_decide_eq_true h
  rw [this]
  decide
/-- who is one. -/
theorem isT_iff {L : List DT} {a b : ByteArray} : isT L a b = true ↔ (isOfT L (findT L a) 2 = true ∨ isOfT L (findT L a) 1 = true) ∧ (a = b ∨ findT L b ∈ chainT L (findT L a) ∨ findT L b ∈ facesT L (findT L a)) := by
  unfold isT
  simp [Bool.and_eq_true, or_assoc]
theorem isT_self (L : List DT) (a : ByteArray) : isT L a a = (isOfT L (findT L a) 2 || isOfT L (findT L a) 1) := by
  unfold isT
  simp
theorem isT_thing {L : List DT} {a b : ByteArray} (h : isT L a b = true) : (isOfT L (findT L a) 2 || isOfT L (findT L a) 1) = true := by
  have := (isT_iff.1 h).1
  simpa using this
theorem isT_trans {L : List DT} {a b c : ByteArray} (h1 : isT L a b = true) (h2 : isT L b c = true) : isT L a c = true := by
  obtain ⟨k1, k2⟩ := isT_iff.1 h1
  obtain ⟨j1, j2⟩ := isT_iff.1 h2
  refine isT_iff.2 ⟨k1, ?_⟩
  rcases k2 with rfl | k | k
  · exact j2
  · rcases j2 with rfl | j | j
    · exact .inr (.inl k)
    · exact .inr (.inl (chainT_sub k _ j))
    · exact .inr (.inr (facesT_sub k _ j))
  · obtain ⟨c', _, s, _, e, hi⟩ := mem_facesT.1 k
    rw [← e] at hi
    have hn := chainT_none (one_kind hi)
    rcases j2 with rfl | j | j
    · exact .inr (.inr k)
    · rw [hn] at j; cases j
    · obtain ⟨c2, hc2, _⟩ := mem_facesT.1 j
      rw [hn] at hc2; cases hc2
theorem found_name {L : List DT} {k : Nat} (hk : k < L.length) {s : ByteArray} (h : (k : Int) = findT L s) : findT L L[k].name = k := by
  rw [findT_name hk h.symm, h]
theorem isT_chain {L : List DT} {a : ByteArray} {k : Nat} (hk : k < L.length) (h : (k : Int) ∈ chainT L (findT L a)) : isT L a L[k].name = true := by
  obtain ⟨s, hs⟩ := chainT_found _ h
  refine isT_iff.2 ⟨.inl (chainT_is h), .inr (.inl ?_)⟩
  rw [found_name hk hs]
  exact h
theorem isT_face {L : List DT} {a : ByteArray} {k : Nat} (hk : k < L.length) (h : (k : Int) ∈ facesT L (findT L a)) : isT L a L[k].name = true := by
  obtain ⟨c, hc, s, _, hs, _⟩ := mem_facesT.1 h
  refine isT_iff.2 ⟨.inl (chainT_is hc), .inr (.inr ?_)⟩
  rw [found_name hk hs]
  exact h
theorem facesT_kind {L : List DT} {d x : Int} (h : x ∈ facesT L d) : isOfT L x 1 = true := by
  obtain ⟨c, hc, s, _, hs, hi⟩ := mem_facesT.1 h
  rw [hs]; exact hi
end Go.Proofs.YtbgilpmoijdcfaaGreat

/-
  what fits, on plain data: of references.
-/
namespace Go.Proofs.YtbgilpmoijdcfaaGreat
open Go Go.RowKit
set_option linter.unusedVariables false
set_option linter.unusedSimpArgs false

/-- a reference to what is of this name. -/
abbrev refY (s : ByteArray) : YT := ⟨5, 0, 0, s⟩
theorem fits_ref (L : List DT) (a b : ByteArray) : fitsT L (refY a) (refY b) = (decide (b = ⟨#[]⟩) || decide (b = a) || isT L b a) := by
  unfold fitsT
  simp
theorem fits_self (L : List DT) (a : ByteArray) : fitsT L (refY a) (refY a) = true := by
  rw [fits_ref]
  simp
theorem fits_null (L : List DT) (a : ByteArray) : fitsT L (refY a) (refY ⟨#[]⟩) = true := by
  rw [fits_ref]
  simp
theorem fits_trans (L : List DT) {a b c : ByteArray} (hb : ¬ b = ⟨#[]⟩) (hc : ¬ c = ⟨#[]⟩) (h1 : fitsT L (refY a) (refY b) = true) (h2 : fitsT L (refY b) (refY c) = true) : fitsT L (refY a) (refY c) = true := by
  rw [fits_ref] at h1 h2 ⊢
  simp only [decide_eq_false hb, Bool.false_or, Bool.or_eq_true, decide_eq_true_eq] at h1
  simp only [decide_eq_false hc, Bool.false_or, Bool.or_eq_true, decide_eq_true_eq] at h2
  simp only [Bool.or_eq_true, decide_eq_true_eq]
  rcases h1 with rfl | h1
  · rcases h2 with h2 | h2
    · exact .inl (.inr h2)
    · exact .inr h2
  · rcases h2 with rfl | h2
    · exact .inr h1
    · exact .inr (isT_trans h2 h1)
end Go.Proofs.YtbgilpmoijdcfaaGreat

/-
  governorlaw0.Low: any int brought below a length (as in TbIsLaw, by itself).
-/
namespace Go.Proofs.YtbgilpmoijdcfaaGreat
open Go Go.RowKit
set_option linter.unusedVariables false
set_option linter.unusedSimpArgs false

/-- Low's number. -/
def lowT (x : Int) (m : Nat) : Nat := (IntKind.u64.wrap x % (m : Int)).toNat
theorem lowT_lt (x : Int) {m : Nat} (hm : 0 < m) : lowT x m < m := by
  unfold lowT
  have h2 : IntKind.u64.wrap x % (m : Int) < (m : Int) := Int.emod_lt_of_pos _ (by omega)
  have h1 : 0 ≤ IntKind.u64.wrap x % (m : Int) := Int.emod_nonneg _ (by omega)
  omega
theorem low_at (x : Int) (m : Nat) (hm : 0 < m) (hm2 : m ≤ 2000000) (w : World) : Calls Tryz.prog 5 #[.int .i64 x, .int .i64 (m : Int)] w fun e w' => e = .returned (.int .i64 (lowT x m : Int)) ∧ w' = w := by
  have hu : IntKind.u64.wrap (m : Int) = (m : Int) := by rw [IntKind.wrap_u64]; omega
  have hz : ((m : Int) == 0) = false := by simp only [beq_eq_false_iff_ne, ne_eq]; omega
  have HL := Lib.hid (lowT_lt x hm)
  go_enter Tryz.func5, Tryz.ntmps5
  go_wp2
  go_ret
  have h0 : 0 ≤ IntKind.u64.wrap x := by rw [IntKind.wrap_u64]; omega
  have hl := HL.out
  unfold lowT at hl ⊢
  clear hu hz
  generalize IntKind.u64.wrap x = q at *
  have h1 : 0 ≤ q % (m : Int) := Int.emod_nonneg _ (by omega)
  have h2 : q % (m : Int) < (m : Int) := Int.emod_lt_of_pos _ (by omega)
  refine ⟨ret_int ?_, rfl⟩
  rw [Int.tmod_eq_emod_of_nonneg h0]
  generalize q % (m : Int) = y at *
  unfold wrap64
  omega

end Go.Proofs.YtbgilpmoijdcfaaGreat

/-
  governorlaw8.awake BY A CONTRACT; units that a text makes.
-/
namespace Go.Proofs.YtbgilpmoijdcfaaGreat
open Go Go.RowKit Go.Shelf
set_option linter.unusedVariables false
set_option linter.unusedSimpArgs false

theorem flatC_at {α : Type} {sz : Nat} : ∀ (l : List (α × List Value)) (k j : Nat) (hk : k < l.length), (∀ x ∈ l, x.2.length = sz) → j < sz → (l.flatMap (·.2))[k * sz + j]? = (l[k].2)[j]?
  | x :: l, 0, j, _, h, hj => by
    have h2 := h x (by simp)
    simp only [List.flatMap_cons, Nat.zero_mul, Nat.zero_add, List.getElem_cons_zero]
    rw [List.getElem?_append_left (by rw [h2]; exact hj)]
  | x :: l, k + 1, j, hk, h, hj => by
    have h2 := h x (by simp)
    have := flatC_at l k j (by simpa using hk) (fun y hy => h y (by simp [hy])) hj
    simp only [List.flatMap_cons, List.getElem_cons_succ]
    rw [List.getElem?_append_right (by rw [h2, Nat.add_mul]; omega), h2, ← this]
    congr 1
    rw [Nat.add_mul]
    omega
/-- a row that a literal makes. -/
theorem rowC_block {α : Type} {R : α → List Value → Prop} {W : World} {g B sz : Nat} {t : TypeId} {l : List (α × List Value)} (h : W.heap[g]? = some (.cells (l.flatMap (·.2)).toArray t (0, 0))) (hg : g < B) (hl : ∀ x ∈ l, x.2.length = sz) (hR : ∀ x ∈ l, R x.1 x.2) : RowIn R W B (some ⟨g, 0, none⟩) sz (l.map (·.1)) := fun k hk => by
  have hk2 : k < l.length := by simpa using hk
  refine ⟨g, 0, l[k].2, rfl, hg, hl _ (List.getElem_mem hk2), fun j u hj => ?_, by simpa using hR _ (List.getElem_mem hk2)⟩
  have hj2 : j < sz := by rw [← hl _ (List.getElem_mem hk2)]; exact (List.getElem?_eq_some_iff.1 hj).1
  rw [Nat.zero_add, cell_of_row _ _ _ _ _ _ h]
  simpa using (flatC_at l k j hk2 hl hj2).trans hj
/-- a declaration of no parts. -/
def bareDc (k : Int) (n b : ByteArray) (e f : Int) : DT := ⟨k, n, b, [], false, false, [], [], [], e, f⟩
abbrev bareCs (k : Int) (n b : ByteArray) (e f : Int) : List Value := [.int .i64 k, .string n, .string b, .slice none 0 0, .bool false, .bool false, .slice none 0 0, .slice none 0 0, .slice none 0 0, .int .i64 e, .int .i64 f]
theorem bareDc_in (w : World) (B : Nat) (k : Int) (n b : ByteArray) {e f : Int} (he : I64 e) (hf : I64 f) : DIn w B (bareDc k n b e f) (bareCs k n b e f) :=
  ⟨none, 0, none, 0, none, 0, none, 0, rfl, he, hf, fun k hk => by simp [bareDc] at hk, fun k hk => by simp [bareDc] at hk, fun k hk => by simp [bareDc] at hk, fun k hk => by simp [bareDc] at hk⟩
theorem bare_small {L : List DT} (hl : L.length ≤ 32) (h : ∀ d ∈ L, d.name.size ≤ 10 ∧ d.base.size ≤ 10 ∧ d.faces = [] ∧ d.methods = [] ∧ d.vars.length ≤ 8 ∧ (d.kind = 4 ∨ (d.kind = 3 ∧ d.body = []))) : SmallU L where
  len := hl
  names := fun d hd => by have := (h d hd).1; omega
  faces := fun d hd => by rw [(h d hd).2.2.1]; simp
  bases := fun d hd => by have := (h d hd).2.1; omega
  fnames := fun d hd f hf => by rw [(h d hd).2.2.1] at hf; simp at hf
  methods := fun d hd => by rw [(h d hd).2.2.2.1]; simp
  vars := fun d hd => by have := (h d hd).2.2.2.2.1; omega
  kinds := fun d hd => (h d hd).2.2.2.2.2
def awRL : List DT := [bareDc 3 ⟨#[80]⟩ ⟨#[]⟩ 0 0, bareDc 4 ⟨#[84]⟩ ⟨#[81]⟩ 1 0]
theorem awR_small : SmallU awRL := bare_small (by decide) (by simp [awRL, bareDc]; decide)
theorem awR_wrongs : wrongsT awRL awRL.length = [(17, 1)] := by kernel_rfl
theorem awR_0 : codeT awRL 0 = 0 := by kernel_rfl
theorem awR_2 : codeT awRL 2 = 22 := by kernel_rfl
set_option maxHeartbeats 2000000 in
set_option maxRecDepth 100000 in
theorem ruAwake_any (w : World) : Calls Tryz.prog 8 #[] w fun e w' => e = .returned (.bool true) ∧ Hid (Below w.heap.size w w') := by
  obtain ⟨R0, hR0⟩ : ∃ R0 : World, R0 = (w.alloc (.cells (bareCs 3 ⟨#[80]⟩ ⟨#[]⟩ 0 0 ++ bareCs 4 ⟨#[84]⟩ ⟨#[81]⟩ 1 0).toArray 28)).alloc (.cells #[.slice (some ⟨w.heap.size, 0, none⟩) 2 2] 31) := ⟨_, rfl⟩
  have hb1 : Below w.heap.size w (w.alloc (.cells (bareCs 3 ⟨#[80]⟩ ⟨#[]⟩ 0 0 ++ bareCs 4 ⟨#[84]⟩ ⟨#[81]⟩ 1 0).toArray 28)) := (Below.refl _ _).alloc (Nat.le_refl _) _
  have hb0 : Below w.heap.size w R0 := by rw [hR0]; exact hb1.alloc hb1.size _
  have g1 : R0.heap[w.heap.size]? = some (.cells (bareCs 3 ⟨#[80]⟩ ⟨#[]⟩ 0 0 ++ bareCs 4 ⟨#[84]⟩ ⟨#[81]⟩ 1 0).toArray 28 (0, 0)) := by rw [hR0]; exact (Below.heap_alloc _ _ _ (by simp)).trans (heap_alloc_new w _)
  have g2 : R0.heap[w.heap.size + 1]? = some (.cells #[.slice (some ⟨w.heap.size, 0, none⟩) 2 2] 31 (0, 0)) := by
    have := heap_alloc_new (w.alloc (.cells (bareCs 3 ⟨#[80]⟩ ⟨#[]⟩ 0 0 ++ bareCs 4 ⟨#[84]⟩ ⟨#[81]⟩ 1 0).toArray 28)) (.cells #[.slice (some ⟨w.heap.size, 0, none⟩) 2 2] 31)
    rw [hR0]
    simpa using this
  have hs0 : R0.heap.size = w.heap.size + 2 := by rw [hR0]; simp
  have i0 : I64 0 := ⟨by decide, by decide⟩
  have i1 : I64 1 := ⟨by decide, by decide⟩
  have hrow : DsR R0 R0.heap.size (some ⟨w.heap.size, 0, none⟩) awRL := rowC_block (l := [(bareDc 3 ⟨#[80]⟩ ⟨#[]⟩ 0 0, bareCs 3 ⟨#[80]⟩ ⟨#[]⟩ 0 0), (bareDc 4 ⟨#[84]⟩ ⟨#[81]⟩ 1 0, bareCs 4 ⟨#[84]⟩ ⟨#[81]⟩ 1 0)]) g1 (by omega) (by simp) (fun x hx => by
    simp only [List.mem_cons, List.not_mem_nil, or_false] at hx
    rcases hx with rfl | rfl
    · exact bareDc_in _ _ _ _ _ i0 i0
    · exact bareDc_in _ _ _ _ _ i1 i0)
  have HB0 : Hid (Below R0.heap.size R0 R0) := Below.refl _ _
  have DS : Hid (∀ W, Hid (Below R0.heap.size R0 W) → DsR W W.heap.size (some ⟨w.heap.size, 0, none⟩) awRL) := fun W hW => DsR.mono hW.out.size hW.out.block hrow
  have CE : Hid (∀ W, Hid (Below R0.heap.size R0 W) → W.cell? ⟨w.heap.size + 1, 0, none⟩ = some (.slice (some ⟨w.heap.size, 0, none⟩) 2 2)) := fun W hW => (cell_of_row _ _ 0 _ _ _ ((hW.out.block _ (by omega)).trans g2)).trans rfl
  have KU : Hid (Calls Tryz.prog 6 #[.agg #[.slice (some ⟨w.heap.size, 0, none⟩) 2 2]] R0 fun e w' => ∃ A' c', e = .returned (.slice A' 1 c') ∧ Hid (GRow R0.heap.size w' A' c' [(17, 1)]) ∧ Hid (Below R0.heap.size R0 w')) := by
    have h := Unit_rules awRL (some ⟨w.heap.size, 0, none⟩) 2 R0 (DS.out _ HB0) awR_small (by decide)
    rw [awR_wrongs] at h
    exact h
  have KD : Hid (∀ W (d v : Int), codeT awRL d = v → Hid (Below R0.heap.size R0 W) → Calls Tryz.prog 7 #[.agg #[.slice (some ⟨w.heap.size, 0, none⟩) 2 2], .int .i64 d] W fun e w' => e = .returned (.int .i64 v) ∧ Hid (Below R0.heap.size R0 w')) := fun W d v hv hW => hv ▸ (Decl_any awRL (some ⟨w.heap.size, 0, none⟩) 2 d W (DS.out _ hW) awR_small (by decide)).mono fun e w' hh => ⟨hh.1, hW.out.trans (hh.2.out.mono hW.out.size)⟩
  have KS : Hid (∀ W A' c', Hid (GRow R0.heap.size W A' c' [(17, 1)]) → Hid (Below R0.heap.size R0 W) → Calls Tryz.prog 11 #[.slice A' 1 c', .slice (some ⟨W.heap.size, 0, none⟩) 1 1] (W.alloc (.cells #[.int .i64 17, .int .i64 1] 48)) fun e w' => e = .returned (.bool true) ∧ Hid (Below R0.heap.size R0 w')) := fun W A' c' hr hW => by
    have hbW : Below W.heap.size W (W.alloc (.cells #[.int .i64 17, .int .i64 1] 48)) := (Below.refl _ _).alloc (Nat.le_refl _) _
    refine (sameWrongs_any [(17, 1)] A' (some ⟨W.heap.size, 0, none⟩) c' 1 _ (hr.out.below hbW).gsr ?_ (by simp)).mono fun e w' hh => ⟨hh.1, hW.out.trans ((hbW.trans (hh.2.out.mono hbW.size)).mono hW.out.size)⟩
    exact rowC_block (R := GIn) (l := [((17, 1), [.int .i64 17, .int .i64 1])]) (heap_alloc_new W _) (by simp) (by simp) (by simp [GIn])
  have HO : Hid (∀ W, Hid (Below R0.heap.size R0 W) → Hid (Below w.heap.size w W)) := fun W hW => hb0.trans (hW.out.mono hb0.size)
  have y0 := CE.out _ HB0
  have HR0 : Hid (R0 = (w.alloc (.cells #[.int .i64 3, .string ⟨#[80]⟩, .string ⟨#[]⟩, .slice none 0 0, .bool false, .bool false, .slice none 0 0, .slice none 0 0, .slice none 0 0, .int .i64 0, .int .i64 0, .int .i64 4, .string ⟨#[84]⟩, .string ⟨#[81]⟩, .slice none 0 0, .bool false, .bool false, .slice none 0 0, .slice none 0 0, .slice none 0 0, .int .i64 1, .int .i64 0] 28)).alloc (.cells #[.slice (some ⟨w.heap.size, 0, none⟩) 2 2] 31)) := hR0
  rw [HR0.out] at y0
  clear hR0 hb1 hb0 g1 g2 hs0 i0 i1 hrow
  go_enter Tryz.func8, Tryz.ntmps8
  go_wp2_with fail
  rw [← HR0.out]
  refine KU.out.mono ?_
  rintro e1 w1 ⟨A1, c1, rfl, hg1, hb1⟩
  clear y0
  go_wp2_with fail
  refine (KS.out _ _ _ hg1 hb1).mono ?_
  rintro e2 w2 ⟨rfl, hb2⟩
  have y0 := CE.out _ hb2
  go_wp2_with fail
  refine (KD.out _ 0 0 awR_0 hb2).mono ?_
  rintro e3 w3 ⟨rfl, hb3⟩
  clear y0
  have y0 := CE.out _ hb3
  go_wp2_with fail
  refine (KD.out _ 2 22 awR_2 hb3).mono ?_
  rintro e4 w4 ⟨rfl, hb4⟩
  clear y0
  go_wp2_with fail
  go_ret
  exact ⟨rfl, HO.out _ hb4⟩
end Go.Proofs.YtbgilpmoijdcfaaGreat

/-
  governorlaw8.RulesTasks: the walk.
-/
namespace Go.Proofs.YtbgilpmoijdcfaaGreat
open Go Go.RowKit Go.Shelf
set_option linter.unusedVariables false
set_option linter.unusedSimpArgs false

abbrev tkP : DT := bareDc 3 ⟨#[80]⟩ ⟨#[]⟩ 0 0
abbrev tkT (e f : Int) : DT := bareDc 4 ⟨#[84]⟩ ⟨#[80]⟩ e f
abbrev tkO : DT := bareDc 4 ⟨#[79]⟩ ⟨#[80]⟩ 1 0
theorem tk_small (l : List DT) (hl : l.length ≤ 3) (h : ∀ d ∈ l, d = tkP ∨ d = tkO ∨ ∃ e f, d = tkT e f) : SmallU l := bare_small (by omega) fun d hd => by
  rcases h d hd with rfl | rfl | ⟨e, f, rfl⟩ <;> simp [bareDc] <;> decide
theorem dc_block {W : World} {g N0 : Nat} {l : List (DT × List Value)} (h : W.heap[g]? = some (.cells (l.flatMap (·.2)).toArray 28 (0, 0))) (hl : ∀ x ∈ l, x.2.length = 11) (hR : ∀ x ∈ l, DIn W N0 x.1 x.2) (hn : l.length ≤ 1000) : DcRow g N0 W (some ⟨g, 0, none⟩) l.length (l.map (·.1)) := by
  have hlen : (l.flatMap (·.2)).length = l.length * 11 := by
    clear h hR hn
    induction l with
    | nil => rfl
    | cons x r ih =>
      have h1 := hl x (by simp)
      have h2 := ih (fun y hy => hl y (by simp [hy]))
      simp only [List.flatMap_cons, List.length_append, List.length_cons, h1, h2]
      omega
  refine ⟨l.flatMap (·.2), ⟨by simpa using hlen, .inr ⟨g, l.length, _, by simp, Nat.le_refl _, h, by simp, by unfold maxLen; omega, by simpa using hlen, ?_⟩⟩, fun k hk => ?_⟩
  · exact List.take_of_length_le (by simp [hlen])
  · have hk2 : k < l.length := by simpa using hk
    have e : ((l.flatMap (·.2)).drop (k * 11)).take 11 = l[k].2 := by
      apply List.ext_getElem?
      intro j
      by_cases hj : j < 11
      · rw [List.getElem?_take_of_lt hj, List.getElem?_drop]
        exact flatC_at l k j hk2 hl hj
      · have h11 := hl _ (List.getElem_mem hk2)
        rw [List.getElem?_eq_none (by simp; omega), List.getElem?_eq_none (by omega)]
    rw [e, List.getElem_map]
    exact hR _ (List.getElem_mem hk2)
theorem DcRow.cap {B N0 : Nat} {w : World} {A : Option Addr} {c : Nat} {l : List DT} (h : DcRow B N0 w A c l) : l.length ≤ c := by
  obtain ⟨xs, h1, -⟩ := h
  rcases h1.2 with ⟨h0, h2⟩ | ⟨g, cap, cur, hv, -, -, hc, -⟩
  · omega
  · injection hv with _ _ h3
    omega
/-- the row that append made: a block that is not the unit's. -/
structure TkS (w : World) (ub : Nat) (A0 : Option Addr) (l : List DT) (w' : World) (A : Option Addr) (c : Nat) : Prop where
  row : DcRow 0 0 w' A c l
  box : w'.heap[ub]? = some (.cells #[.slice A0 2 2] 31 (0, 0))
  below : Below w.heap.size w w'
  ne : (Value.slice A 3 c).ownBlock ≠ some ub
theorem TkS.cell {w : World} {ub : Nat} {A0 : Option Addr} {l : List DT} {w' : World} {A : Option Addr} {c : Nat} (h : TkS w ub A0 l w' A c) : w'.cell? ⟨ub, 0, none⟩ = some (.slice A0 2 2) := (cell_of_row _ _ 0 _ _ _ h.box).trans rfl
theorem TkS.fz {w : World} {ub : Nat} {A0 : Option Addr} {l : List DT} {w' : World} {A : Option Addr} {c : Nat} (h : TkS w ub A0 l w' A c) : w'.frozen? ⟨ub, 0, none⟩ = false := frozen_of_row _ _ 0 _ _ h.box
theorem DcRow.zero {B N0 : Nat} {w : World} {A : Option Addr} {c : Nat} {l : List DT} (h : DcRow B N0 w A c l) : DcRow 0 N0 w A c l := by
  obtain ⟨xs, h1, h2⟩ := h
  exact ⟨xs, ownsRow_lower (Nat.zero_le _) h1, h2⟩
theorem TkS.set {w : World} {ub : Nat} {A0 : Option Addr} {l : List DT} {w' : World} {A : Option Addr} {c : Nat} (h : TkS w ub A0 l w' A c) (hub : w.heap.size ≤ ub) : DsR (w'.setCell ⟨ub, 0, none⟩ (.slice A 3 c)) (w'.setCell ⟨ub, 0, none⟩ (.slice A 3 c)).heap.size A l ∧ ub < (w'.setCell ⟨ub, 0, none⟩ (.slice A 3 c)).heap.size ∧ Below w.heap.size w (w'.setCell ⟨ub, 0, none⟩ (.slice A 3 c)) := by
  have hsz : (w'.setCell ⟨ub, 0, none⟩ (.slice A 3 c)).heap.size = w'.heap.size := by simp
  have hr : DcRow 0 0 (w'.setCell ⟨ub, 0, none⟩ (.slice A 3 c)) A c l := by
    obtain ⟨xs, h1, h2⟩ := h.row
    refine ⟨xs, ⟨h1.1, ?_⟩, fun k hk => DIn.mono (Nat.le_refl _) (fun g hg => absurd hg (Nat.not_lt_zero _)) (h2 k hk)⟩
    rcases h1.2 with h0 | ⟨g, cap, cur, hv, hbg, hg, rest⟩
    · exact .inl h0
    · refine .inr ⟨g, cap, cur, hv, hbg, ?_, rest⟩
      have hne : g ≠ ub := fun e => by
        injection hv with e1 _ _
        subst e1
        exact h.ne (by rw [← e]; rfl)
      exact (Below.heap_setCell _ _ _ _ hne).trans hg
  exact ⟨hr.dsr (Nat.zero_le _), by rw [hsz]; exact (Array.getElem?_eq_some_iff.1 h.box).1, h.below.setCell hub _⟩
def tkOdd (e f : Int) : Bool := oddTimesT (tkT e f)
theorem tk_a0 (e f : Int) : codeT [tkT e f, tkP] 0 = 17 ∧ (wrongsT [tkT e f, tkP] 2).length = 1 := ⟨by kernel_rfl, by kernel_rfl⟩
theorem tk_a1 (e f : Int) : codeT [tkT e f, tkP, tkO] 0 = 17 ∧ (wrongsT [tkT e f, tkP, tkO] 3).length = 2 ∧ codeT [tkT e f, tkP, tkO] 2 = 17 := ⟨by kernel_rfl, by kernel_rfl, by kernel_rfl⟩
theorem tk_b0 (e f : Int) : codeT [tkP, tkT e f] 0 = 0 ∧ codeT [tkP, tkT e f] 1 = if tkOdd e f = true then 17 else 0 := ⟨by kernel_rfl, by kernel_rfl⟩
theorem tk_b1 (e f : Int) : codeT [tkP, tkT e f, tkO] 0 = 0 ∧ (codeT [tkP, tkT e f, tkO] 1 = if tkOdd e f = true then 17 else 0) ∧ codeT [tkP, tkT e f, tkO] 2 = 17 := ⟨by kernel_rfl, by kernel_rfl, by kernel_rfl⟩
theorem tk_b0w (e f : Int) : (wrongsT [tkP, tkT e f] 2).length = if tkOdd e f = true then 1 else 0 := by
  obtain ⟨h0, h1⟩ := tk_b0 e f
  have e0 : codeT [tkP, tkT e f] ((0 : Nat) : Int) = 0 := h0
  have e1 : codeT [tkP, tkT e f] ((1 : Nat) : Int) = if tkOdd e f = true then 17 else 0 := h1
  simp only [wrongsT, e0, e1]
  cases tkOdd e f <;> simp
theorem tk_b1w (e f : Int) : (wrongsT [tkP, tkT e f, tkO] 3).length = if tkOdd e f = true then 2 else 1 := by
  obtain ⟨h0, h1, h2⟩ := tk_b1 e f
  have e0 : codeT [tkP, tkT e f, tkO] ((0 : Nat) : Int) = 0 := h0
  have e1 : codeT [tkP, tkT e f, tkO] ((1 : Nat) : Int) = if tkOdd e f = true then 17 else 0 := h1
  have e2 : codeT [tkP, tkT e f, tkO] ((2 : Nat) : Int) = 17 := h2
  simp only [wrongsT, e0, e1, e2]
  cases tkOdd e f <;> simp
end Go.Proofs.YtbgilpmoijdcfaaGreat
