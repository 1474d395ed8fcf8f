/-
  What is written of a tree is no longer than the tree is heavy.
-/
import Derived.Test.YteijehmdabigeaaDoorPrWeight
namespace Go.Proofs.YteijehmdabigeaaDoor
open Go

/-- how long tokens are, a blank behind each. -/
def mass (l : List ByteArray) : Nat := (l.map fun t => t.size + 1).sum
theorem mass_nil : mass [] = 0 := rfl
theorem mass_cons (t : ByteArray) (l : List ByteArray) : mass (t :: l) = t.size + 1 + mass l := by simp [mass]
theorem mass_append (l m : List ByteArray) : mass (l ++ m) = mass l + mass m := by simp [mass]
theorem mass_len (l : List ByteArray) : l.length ≤ mass l := by
  induction l with
  | nil => simp [mass]
  | cons t r ih => rw [mass_cons, List.length_cons]; omega
theorem mass_joined (l : List ByteArray) : (joined l).length ≤ mass l := by
  cases l with
  | nil => simp [joined, Lib.join, mass]
  | cons t r =>
    unfold joined
    rw [List.map_cons, Lib.join_cons, mass_cons]
    have : ∀ r : List ByteArray, (Lib.joinTail [32] (r.map (·.data.toList))).length ≤ mass r := by
      intro r
      induction r with
      | nil => simp [Lib.joinTail, mass]
      | cons t r ih =>
        rw [mass_cons]
        simp only [Lib.joinTail, List.map_cons, List.flatten_cons, List.length_append, List.length_cons, List.length_nil, Array.length_toList] at ih ⊢
        have : t.size = t.data.size := rfl
        omega
    have h := this r
    simp only [List.length_append, Array.length_toList]
    have : t.size = t.data.size := rfl
    omega
theorem mass_flat {α : Type} (f : α → List ByteArray) (g : α → Nat) (l : List α) (h : ∀ x ∈ l, mass (f x) ≤ g x) : mass (l.flatMap f) ≤ (l.map g).sum := by
  induction l with
  | nil => simp [mass]
  | cons x r ih =>
    have h0 := h x (by simp)
    have h1 := ih (fun y hy => h y (by simp [hy]))
    rw [List.flatMap_cons, mass_append, List.map_cons, List.sum_cons]
    omega
theorem mass_sep (l : List (List ByteArray)) : mass (sep l) ≤ (l.map fun x => mass x + 2).sum := by
  cases l with
  | nil => simp [sep, mass]
  | cons x r =>
    have := mass_flat (fun y : List ByteArray => (⟨#[44]⟩ : ByteArray) :: y) (fun y => mass y + 2) r (fun y _ => by rw [mass_cons]; have : (⟨#[44]⟩ : ByteArray).size = 1 := rfl; omega)
    simp only [sep, mass_append, List.map_cons, List.sum_cons]
    omega
theorem mass_int (n : Int) : mass (tInt n) ≤ 3 + dn n := by
  unfold tInt dn
  have h1 : (⟨(Lib.decDigits n.natAbs).toArray⟩ : ByteArray).size = (Lib.decDigits n.natAbs).length := by simp [ByteArray.size]
  have h2 : (⟨#[45]⟩ : ByteArray).size = 1 := rfl
  split
  · rw [mass_cons, mass_cons, mass_nil]; omega
  · rw [mass_cons, mass_nil]; omega
theorem ite_cond {c p q : Prop} [Decidable c] (h1 : p) (h2 : q) : if c then p else q := by split <;> assumption
theorem opText_size (n : Int) : (opText n).size ≤ 3 := by
  unfold opText
  iterate 14
    refine (apply_ite (fun s : ByteArray => s.size ≤ 3) _ _ _).mpr ?_
    refine ite_cond ?_ ?_
    · decide
  decide
theorem blockText_size (n : Int) : (blockText n).size ≤ 6 := by
  unfold blockText
  repeat' split
  all_goals decide
theorem ownText_size (n : Int) (nm : ByteArray) : (ownText n nm).size ≤ 5 + nm.size := by
  unfold ownText
  split
  · omega
  · repeat' split
    all_goals
      refine Nat.le_trans (m := 5) ?_ (by omega)
      decide
theorem mass_inBr (k : Int) (t : List ByteArray) : mass (inBr k t) ≤ mass t + 4 := by
  unfold inBr
  have h1 : (⟨#[40]⟩ : ByteArray).size = 1 := rfl
  have h2 : (⟨#[41]⟩ : ByteArray).size = 1 := rfl
  split
  · rw [List.cons_append, mass_cons, mass_append, mass_cons, mass_nil]; omega
  · omega
theorem sum_getD {α : Type} (f : α → Nat) (l : List α) (i : Nat) (d : α) : f (l.getD i d) ≤ (l.map f).sum + f d := by
  by_cases h : i < l.length
  · have e : l.getD i d = l[i] := by simp [h]
    rw [e]
    have e2 : l = l.take i ++ l[i] :: l.drop (i + 1) := by simp
    conv => rhs; rw [e2]
    simp only [List.map_append, List.map_cons, List.sum_append, List.sum_cons]
    omega
  · have e : l.getD i d = d := by simp [h]
    rw [e]; omega
theorem sum_getD2 {α : Type} (f : α → Nat) (l : List α) (d : α) : f (l.getD 0 d) + f (l.getD 1 d) ≤ (l.map f).sum + 2 * f d := by
  cases l with
  | nil => simp; omega
  | cons x r =>
    have := sum_getD f r 0 d
    simp only [List.map_cons, List.sum_cons]
    have e0 : (x :: r).getD 0 d = x := rfl
    have e1 : (x :: r).getD 1 d = r.getD 0 d := rfl
    rw [e0, e1]
    omega
end Go.Proofs.YteijehmdabigeaaDoor
