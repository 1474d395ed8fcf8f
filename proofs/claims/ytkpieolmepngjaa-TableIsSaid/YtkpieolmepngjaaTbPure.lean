/-
  table on plain data: what is found in a list of declarations.
-/
import Derived.Test.YtkpieolmepngjaaPrTree
import Derived.WalkSpells
namespace Go.Proofs.Ytkpieolmepngjaa
open Go Go.RowKit
set_option linter.unusedVariables false
set_option linter.unusedSimpArgs false

/-- the first declaration of a name, from the k-th on. -/
def findF (s : ByteArray) : List DT → Nat → Int
  | [], _ => -1
  | d :: r, k => if d.name = s then (k : Int) else findF s r (k + 1)
def findT (L : List DT) (s : ByteArray) : Int := findF s L 0
/-- is d a declaration of this kind? -/
def isOfT (L : List DT) (d k : Int) : Bool := decide (0 ≤ d) && decide (d < (L.length : Int)) && decide ((L[d.toNat]?.map DT.kind) = some k)
/-- a declaration's kind; 0: there is none. -/
def kindT (L : List DT) (d : Int) : Int := if 0 ≤ d ∧ d < (L.length : Int) then (L[d.toNat]?.map DT.kind).getD 0 else 0
/-- a declaration's base, faces, methods, variables; of none none. -/
def baseT (L : List DT) (d : Int) : ByteArray := (L[d.toNat]?.map DT.base).getD ⟨#[]⟩
def facesOf (L : List DT) (d : Int) : List ByteArray := (L[d.toNat]?.map DT.faces).getD []
def methodsOf (L : List DT) (d : Int) : List MT := (L[d.toNat]?.map DT.methods).getD []
def varsOf (L : List DT) (d : Int) : List VT := (L[d.toNat]?.map DT.vars).getD []
def chainF (L : List DT) : Nat → List Int → Int → List Int
  | 0, out, _ => out
  | f + 1, out, d => if isOfT L d 2 && !out.contains d then chainF L f (out ++ [d]) (findT L (baseT L d)) else out
def chainT (L : List DT) (d : Int) : List Int := chainF L (L.length + 1) [] d
/-- one more interface, if it is one that was not met. -/
def faceStep (L : List DT) (out : List Int) (s : ByteArray) : List Int := if isOfT L (findT L s) 1 && !out.contains (findT L s) then out ++ [findT L s] else out
def facesT (L : List DT) (d : Int) : List Int := (chainT L d).foldl (fun out c => (facesOf L c).foldl (faceStep L) out) []
def isT (L : List DT) (name what : ByteArray) : Bool :=
  (isOfT L (findT L name) 2 || isOfT L (findT L name) 1) && (decide (name = what) || (chainT L (findT L name)).contains (findT L what) || (facesT L (findT L name)).contains (findT L what))
/-- a method's number, from the k-th on. -/
def ownF (s : ByteArray) : List MT → Nat → Int
  | [], _ => -1
  | m :: r, k => if m.name = s then (k : Int) else ownF s r (k + 1)
def ownT (l : List MT) (s : ByteArray) : Int := ownF s l 0
def homesT (L : List DT) (d : Int) : List Int := if isOfT L d 1 then [d] else chainT L d
def methodF (L : List DT) (s : ByteArray) : List Int → Option (Int × Int)
  | [] => none
  | d :: r => if 0 ≤ ownT (methodsOf L d) s then some (d, ownT (methodsOf L d) s) else methodF L s r
def methodT (L : List DT) (d : Int) (s : ByteArray) : Option (Int × Int) := methodF L s (homesT L d)
def fieldsT (L : List DT) (d : Int) : List VT := if isOfT L d 3 then varsOf L d else (chainT L d).reverse.flatMap (varsOf L)
def YT.tup (t : YT) : Int × Int × Int × ByteArray := (t.kind, t.lo, t.hi, t.name)
def alikeT (a b : MT) : Bool := decide (a.result.tup = b.result.tup) && decide (a.params.map (fun v => v.type.tup) = b.params.map (fun v => v.type.tup))

theorem findF_le (s : ByteArray) : ∀ (l : List DT) (k : Nat), findF s l k = -1 ∨ ((k : Int) ≤ findF s l k ∧ findF s l k < k + l.length)
  | [], k => .inl rfl
  | d :: r, k => by
    unfold findF
    split
    · right; simp only [List.length_cons]; omega
    · rcases findF_le s r (k + 1) with h | h
      · exact .inl h
      · right; simp only [List.length_cons]; omega
theorem findT_le (L : List DT) (s : ByteArray) : findT L s = -1 ∨ (0 ≤ findT L s ∧ findT L s < L.length) := by
  have := findF_le s L 0
  unfold findT
  simpa using this
theorem findF_at (s : ByteArray) : ∀ (L : List DT) (j k : Nat) (hk : k < L.length), (∀ i (hi : i < L.length), i < k → L[i].name ≠ s) → L[k].name = s → findF s L j = (j + k : Nat)
  | d :: r, j, 0, _, _, h => by unfold findF; rw [if_pos (show d.name = s from h)]; rfl
  | d :: r, j, k + 1, hk, hn, h => by
    have h0 : d.name ≠ s := hn 0 (by simp) (by omega)
    unfold findF
    rw [if_neg h0, findF_at s r (j + 1) k (by simpa using hk) (fun i hi h1 => hn (i + 1) (by simpa using hi) (by omega)) (by simpa using h)]
    congr 1; omega
theorem findF_none (s : ByteArray) : ∀ (L : List DT) (j : Nat), (∀ i (hi : i < L.length), L[i].name ≠ s) → findF s L j = -1
  | [], _, _ => rfl
  | d :: r, j, hn => by
    have h0 : d.name ≠ s := hn 0 (by simp)
    unfold findF
    rw [if_neg h0, findF_none s r (j + 1) (fun i hi => hn (i + 1) (by simpa using hi))]
theorem findT_at {L : List DT} {s : ByteArray} {k : Nat} (hk : k < L.length) (hn : ∀ i (hi : i < L.length), i < k → L[i].name ≠ s) (h : L[k].name = s) : findT L s = k := by
  unfold findT
  rw [findF_at s L 0 k hk hn h]
  simp
theorem findT_none {L : List DT} {s : ByteArray} (hn : ∀ i (hi : i < L.length), L[i].name ≠ s) : findT L s = -1 := findF_none s L 0 hn
theorem ownF_at (s : ByteArray) : ∀ (L : List MT) (j k : Nat) (hk : k < L.length), (∀ i (hi : i < L.length), i < k → L[i].name ≠ s) → L[k].name = s → ownF s L j = (j + k : Nat)
  | d :: r, j, 0, _, _, h => by unfold ownF; rw [if_pos (show d.name = s from h)]; rfl
  | d :: r, j, k + 1, hk, hn, h => by
    have h0 : d.name ≠ s := hn 0 (by simp) (by omega)
    unfold ownF
    rw [if_neg h0, ownF_at s r (j + 1) k (by simpa using hk) (fun i hi h1 => hn (i + 1) (by simpa using hi) (by omega)) (by simpa using h)]
    congr 1; omega
theorem ownF_none (s : ByteArray) : ∀ (L : List MT) (j : Nat), (∀ i (hi : i < L.length), L[i].name ≠ s) → ownF s L j = -1
  | [], _, _ => rfl
  | d :: r, j, hn => by
    have h0 : d.name ≠ s := hn 0 (by simp)
    unfold ownF
    rw [if_neg h0, ownF_none s r (j + 1) (fun i hi => hn (i + 1) (by simpa using hi))]
theorem ownT_at {L : List MT} {s : ByteArray} {k : Nat} (hk : k < L.length) (hn : ∀ i (hi : i < L.length), i < k → L[i].name ≠ s) (h : L[k].name = s) : ownT L s = k := by
  unfold ownT
  rw [ownF_at s L 0 k hk hn h]
  simp
theorem ownT_none {L : List MT} {s : ByteArray} (hn : ∀ i (hi : i < L.length), L[i].name ≠ s) : ownT L s = -1 := ownF_none s L 0 hn
theorem isOfT_of {L : List DT} {k : Nat} {q : Int} (hk : k < L.length) : isOfT L k q = decide (L[k].kind = q) := by
  unfold isOfT
  have h1 : decide ((0 : Int) ≤ (k : Int)) = true := by simp
  have h2 : decide ((k : Int) < (L.length : Int)) = true := by simp [hk]
  rw [h1, h2, Int.toNat_natCast, List.getElem?_eq_getElem hk]
  simp
theorem kindT_isOf (L : List DT) (d q : Int) (hq : q ≠ 0) : isOfT L d q = decide (kindT L d = q) := by
  unfold isOfT kindT
  by_cases h : 0 ≤ d ∧ d < (L.length : Int)
  · rw [if_pos h, decide_eq_true h.1, decide_eq_true h.2]
    have : d.toNat < L.length := by omega
    rw [List.getElem?_eq_getElem this]
    simp
  · rw [if_neg h]
    by_cases h1 : 0 ≤ d
    · have h2 : ¬ d < (L.length : Int) := fun x => h ⟨h1, x⟩
      simp [h2, Ne.symm hq]
    · simp [h1, Ne.symm hq]
theorem isOfT_lt {L : List DT} {d q : Int} (h : isOfT L d q = true) : ∃ k : Nat, d = k ∧ k < L.length := by
  unfold isOfT at h
  simp only [Bool.and_eq_true, decide_eq_true_eq] at h
  exact ⟨d.toNat, by omega, by omega⟩
theorem isOfT_out {L : List DT} {d q : Int} (h : d < 0 ∨ (L.length : Int) ≤ d) : isOfT L d q = false := by
  cases hh : isOfT L d q
  · rfl
  · obtain ⟨k, rfl, hk⟩ := isOfT_lt hh
    omega
end Go.Proofs.Ytkpieolmepngjaa
