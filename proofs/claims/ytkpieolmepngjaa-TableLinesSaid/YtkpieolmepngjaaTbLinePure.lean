/-
  A line of classes, each of which extends the one ahead: what is told of them.
-/
import Derived.Test.YtkpieolmepngjaaTbIsPure
namespace Go.Proofs.Ytkpieolmepngjaa
open Go Go.RowKit
set_option linter.unusedVariables false
set_option linter.unusedSimpArgs false

/-- a letter and a digit. -/
def tag (b : UInt8) (i : Nat) : ByteArray := ⟨#[b, (48 + i).toUInt8]⟩
def lineV (i : Nat) : VT := ⟨tag 102 i, ⟨0, 0, 0, ⟨#[]⟩⟩, (i : Int), 0, 0⟩
def lineM : MT := ⟨⟨#[109]⟩, false, false, false, [], ⟨0, 0, 0, ⟨#[]⟩⟩, [], []⟩
/-- the i-th class. -/
def lineD (own i : Nat) : DT := ⟨2, tag 67 i, if 0 < i then tag 67 (i - 1) else ⟨#[]⟩, [], false, false, [lineV i], if i = own ∨ i = 0 then [lineM] else [], [], 0, 0⟩
def lineL (many own : Nat) : List DT := (List.range many).map (lineD own)
theorem lineL_len (many own : Nat) : (lineL many own).length = many := by simp [lineL]
theorem lineL_at {many own k : Nat} (h : k < many) : (lineL many own)[k]? = some (lineD own k) := by simp [lineL, h]
theorem lineL_get {many own k : Nat} (h : k < (lineL many own).length) : (lineL many own)[k] = lineD own k := by simp [lineL]
theorem lineL_snoc (many own : Nat) : lineL (many + 1) own = lineL many own ++ [lineD own many] := by simp [lineL, List.range_succ]
set_option maxRecDepth 100000 in
theorem line_chain0 : ∀ many ∈ List.range 11, ∀ at_ ∈ List.range many, ∀ own ∈ List.range many, chainT (lineL many own) (at_ : Int) = (List.range (at_ + 1)).reverse.map (fun i : Nat => (i : Int)) := of_decide_eq_true (by kernel_rfl)
set_option maxRecDepth 100000 in
theorem line_method0 : ∀ many ∈ List.range 11, ∀ at_ ∈ List.range many, ∀ own ∈ List.range many, methodT (lineL many own) (at_ : Int) ⟨#[109]⟩ = some (((if own ≤ at_ then own else 0 : Nat) : Int), 0) ∧ methodT (lineL many own) (at_ : Int) ⟨#[110]⟩ = none := of_decide_eq_true (by kernel_rfl)
set_option maxRecDepth 100000 in
theorem line_is0 : ∀ many ∈ List.range 11, ∀ at_ ∈ List.range many, ∀ own ∈ List.range many, ∀ i ∈ List.range many, isT (lineL many own) (tag 67 at_) (tag 67 i) = decide (i ≤ at_) := of_decide_eq_true (by kernel_rfl)
theorem line_chain {many at_ own : Nat} (hm : many ≤ 10) (ha : at_ < many) (ho : own < many) : chainT (lineL many own) (at_ : Int) = (List.range (at_ + 1)).reverse.map (fun i : Nat => (i : Int)) :=
  line_chain0 many (List.mem_range.2 (by omega)) at_ (List.mem_range.2 ha) own (List.mem_range.2 ho)
theorem line_method {many at_ own : Nat} (hm : many ≤ 10) (ha : at_ < many) (ho : own < many) : methodT (lineL many own) (at_ : Int) ⟨#[109]⟩ = some (((if own ≤ at_ then own else 0 : Nat) : Int), 0) ∧ methodT (lineL many own) (at_ : Int) ⟨#[110]⟩ = none :=
  line_method0 many (List.mem_range.2 (by omega)) at_ (List.mem_range.2 ha) own (List.mem_range.2 ho)
theorem line_is {many at_ own i : Nat} (hm : many ≤ 10) (ha : at_ < many) (ho : own < many) (hi : i < many) : isT (lineL many own) (tag 67 at_) (tag 67 i) = decide (i ≤ at_) :=
  line_is0 many (List.mem_range.2 (by omega)) at_ (List.mem_range.2 ha) own (List.mem_range.2 ho) i (List.mem_range.2 hi)
theorem line_vars {many own k : Nat} (h : k < many) : varsOf (lineL many own) (k : Int) = [lineV k] := by
  unfold varsOf
  rw [Int.toNat_natCast, lineL_at h]
  rfl
theorem line_fields {many at_ own : Nat} (hm : many ≤ 10) (ha : at_ < many) (ho : own < many) : fieldsT (lineL many own) (at_ : Int) = (List.range (at_ + 1)).map lineV := by
  have hq : isOfT (lineL many own) (at_ : Int) 3 = false := by
    rw [isOfT_of (by rw [lineL_len]; exact ha), lineL_get]
    rfl
  unfold fieldsT
  rw [hq, line_chain hm ha ho, if_neg (by decide), ← List.map_reverse, List.reverse_reverse]
  have : ∀ l : List Nat, (∀ x ∈ l, x < many) → (l.map (fun i : Nat => (i : Int))).flatMap (varsOf (lineL many own)) = l.map lineV := by
    intro l
    induction l with
    | nil => intro _; rfl
    | cons x r ih =>
      intro h
      rw [List.map_cons, List.flatMap_cons, line_vars (h x (by simp)), ih fun y hy => h y (by simp [hy])]
      rfl
  exact this _ fun x hx => by have := List.mem_range.1 hx; omega
end Go.Proofs.Ytkpieolmepngjaa
