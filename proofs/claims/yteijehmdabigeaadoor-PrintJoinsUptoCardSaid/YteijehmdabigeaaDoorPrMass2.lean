/-
  What is written of a tree is no longer than the tree is heavy: expressions, types, statements, declarations.
-/
import Derived.Test.YteijehmdabigeaaDoorPrMass
namespace Go.Proofs.YteijehmdabigeaaDoor
open Go

theorem tEk_mass (k n : Int) (nm wh : ByteArray) (ps os : List (List ByteArray)) (S : Nat) (h1 : (ps.map mass).sum ≤ S) (h2 : (ps.map fun x => mass x + 2).sum ≤ S) (h3 : (os.map mass).sum ≤ S) : mass (tEk k n nm wh ps os) ≤ 18 + dn n + nm.size + wh.size + S := by
  have g1 := sum_getD mass ps 0 [⟨#[63]⟩]
  have g2 := sum_getD mass os 0 [⟨#[63]⟩]
  have g3 := sum_getD2 mass os [⟨#[63]⟩]
  have g4 := mass_sep ps
  have g5 := mass_int n
  have g6 := opText_size n
  have g7 := ownText_size n nm
  have q : mass [⟨#[63]⟩] = 2 := rfl
  unfold tEk
  generalize hb : 18 + dn n + nm.size + wh.size + S = b
  refine (apply_ite (fun l : List ByteArray => mass l ≤ b) _ _ _).mpr (ite_cond ?_ ?_)
  · first | omega | (simp only [mass_append, mass_cons, mass_nil, List.cons_append, List.nil_append, ByteArray.size] at *; simp only [List.size_toArray, List.length_cons, List.length_nil] at *; omega) | (simp only [mass_append, mass_cons, mass_nil, List.cons_append, List.nil_append, ByteArray.size] at *; omega)
  refine (apply_ite (fun l : List ByteArray => mass l ≤ b) _ _ _).mpr (ite_cond ?_ ?_)
  · first | omega | (simp only [mass_cons, mass_nil, ByteArray.size] at *; simp only [List.size_toArray, List.length_cons, List.length_nil] at *; omega) | (simp only [mass_append, mass_cons, mass_nil, List.cons_append, List.nil_append, ByteArray.size] at *; omega)
  refine (apply_ite (fun l : List ByteArray => mass l ≤ b) _ _ _).mpr (ite_cond ?_ ?_)
  · first | omega | (simp only [mass_cons, mass_nil, ByteArray.size] at *; simp only [List.size_toArray, List.length_cons, List.length_nil] at *; omega) | (simp only [mass_append, mass_cons, mass_nil, List.cons_append, List.nil_append, ByteArray.size] at *; omega)
  refine (apply_ite (fun l : List ByteArray => mass l ≤ b) _ _ _).mpr (ite_cond ?_ ?_)
  · first | omega | (simp only [mass_cons, mass_nil, ByteArray.size] at *; simp only [List.size_toArray, List.length_cons, List.length_nil] at *; omega) | (simp only [mass_append, mass_cons, mass_nil, List.cons_append, List.nil_append, ByteArray.size] at *; omega)
  refine (apply_ite (fun l : List ByteArray => mass l ≤ b) _ _ _).mpr (ite_cond ?_ ?_)
  · first | omega | (simp only [mass_cons, mass_nil, ByteArray.size] at *; simp only [List.size_toArray, List.length_cons, List.length_nil] at *; omega) | (simp only [mass_append, mass_cons, mass_nil, List.cons_append, List.nil_append, ByteArray.size] at *; omega)
  refine (apply_ite (fun l : List ByteArray => mass l ≤ b) _ _ _).mpr (ite_cond ?_ ?_)
  · first | omega | (simp only [mass_append, mass_cons, mass_nil, List.cons_append, List.nil_append, ByteArray.size] at *; simp only [List.size_toArray, List.length_cons, List.length_nil] at *; omega) | (simp only [mass_append, mass_cons, mass_nil, List.cons_append, List.nil_append, ByteArray.size] at *; omega)
  refine (apply_ite (fun l : List ByteArray => mass l ≤ b) _ _ _).mpr (ite_cond ?_ ?_)
  · first | omega | (simp only [mass_cons, mass_nil, List.cons_append, List.nil_append, ByteArray.size] at *; simp only [List.size_toArray, List.length_cons, List.length_nil] at *; omega) | (simp only [mass_append, mass_cons, mass_nil, List.cons_append, List.nil_append, ByteArray.size] at *; omega)
  refine (apply_ite (fun l : List ByteArray => mass l ≤ b) _ _ _).mpr (ite_cond ?_ ?_)
  · first | omega | (simp only [mass_cons, mass_nil, List.cons_append, List.nil_append, ByteArray.size] at *; simp only [List.size_toArray, List.length_cons, List.length_nil] at *; omega) | (simp only [mass_append, mass_cons, mass_nil, List.cons_append, List.nil_append, ByteArray.size] at *; omega)
  refine (apply_ite (fun l : List ByteArray => mass l ≤ b) _ _ _).mpr (ite_cond ?_ ?_)
  · first | omega | (simp only [mass_append, mass_cons, mass_nil, ByteArray.size] at *; simp only [List.size_toArray, List.length_cons, List.length_nil] at *; omega) | (simp only [mass_append, mass_cons, mass_nil, List.cons_append, List.nil_append, ByteArray.size] at *; omega)
  refine (apply_ite (fun l : List ByteArray => mass l ≤ b) _ _ _).mpr (ite_cond ?_ ?_)
  · first | omega | (simp only [mass_cons, mass_nil, ByteArray.size] at *; simp only [List.size_toArray, List.length_cons, List.length_nil] at *; omega) | (simp only [mass_append, mass_cons, mass_nil, List.cons_append, List.nil_append, ByteArray.size] at *; omega)
  refine (apply_ite (fun l : List ByteArray => mass l ≤ b) _ _ _).mpr (ite_cond ?_ ?_)
  · first | omega | (simp only [mass_cons, mass_nil, ByteArray.size] at *; simp only [List.size_toArray, List.length_cons, List.length_nil] at *; omega) | (simp only [mass_append, mass_cons, mass_nil, List.cons_append, List.nil_append, ByteArray.size] at *; omega)
  refine (apply_ite (fun l : List ByteArray => mass l ≤ b) _ _ _).mpr (ite_cond ?_ ?_)
  · first | omega | (simp only [mass_cons, mass_nil, ByteArray.size] at *; simp only [List.size_toArray, List.length_cons, List.length_nil] at *; omega) | (simp only [mass_append, mass_cons, mass_nil, List.cons_append, List.nil_append, ByteArray.size] at *; omega)
  refine (apply_ite (fun l : List ByteArray => mass l ≤ b) _ _ _).mpr (ite_cond ?_ ?_)
  · first | omega | (simp only [mass_append, mass_cons, mass_nil, List.cons_append, List.nil_append, ByteArray.size] at *; simp only [List.size_toArray, List.length_cons, List.length_nil] at *; omega) | (simp only [mass_append, mass_cons, mass_nil, List.cons_append, List.nil_append, ByteArray.size] at *; omega)
  refine (apply_ite (fun l : List ByteArray => mass l ≤ b) _ _ _).mpr (ite_cond ?_ ?_)
  · first | omega | (simp only [mass_append, mass_cons, mass_nil, List.cons_append, List.nil_append, ByteArray.size] at *; simp only [List.size_toArray, List.length_cons, List.length_nil] at *; omega) | (simp only [mass_append, mass_cons, mass_nil, List.cons_append, List.nil_append, ByteArray.size] at *; omega)
  first | omega | (simp only [mass_append, mass_cons, mass_nil, List.cons_append, List.nil_append, ByteArray.size] at *; simp only [List.size_toArray, List.length_cons, List.length_nil] at *; omega) | (simp only [mass_append, mass_cons, mass_nil, List.cons_append, List.nil_append, ByteArray.size] at *; omega)
mutual
theorem mass_tE : ∀ e : ET, mass (tE e) + 18 ≤ wE e
  | .mk k n nm wh args => by
    rw [tE, wE]
    have h := mass_tEs args
    have h0 := tEk_mass k n nm wh (tEs args) (tOs args) (wEs args) h.1 h.2.1 h.2.2
    omega
theorem mass_tEs : ∀ l : List ET, ((tEs l).map mass).sum ≤ wEs l ∧ ((tEs l).map fun x => mass x + 2).sum ≤ wEs l ∧ ((tOs l).map mass).sum ≤ wEs l
  | [] => by simp [tEs, tOs]
  | e :: r => by
    have h1 := mass_tE e
    have h2 := mass_tEs r
    have h3 := mass_inBr e.kind (tE e)
    simp only [tEs, tOs, wEs, List.map_cons, List.sum_cons]
    omega
end
theorem mass_nth (ex : List ET) (i : Nat) : mass (tE (nthE ex i)) ≤ wEs ex + 2 := by
  have h1 := (mass_tEs ex).1
  have h2 := sum_getD mass (tEs ex) i [⟨#[63]⟩]
  have q : mass [⟨#[63]⟩] = 2 := rfl
  rw [tEs_nth] at h2
  omega
theorem mass_nth2 (ex : List ET) : mass (tE (nthE ex 0)) + mass (tE (nthE ex 1)) ≤ wEs ex + 4 := by
  have h1 := (mass_tEs ex).1
  have h2 := sum_getD2 mass (tEs ex) [⟨#[63]⟩]
  have q : mass [⟨#[63]⟩] = 2 := rfl
  rw [tEs_nth, tEs_nth] at h2
  omega
theorem mass_tY (t : YT) : mass (tY t) ≤ wY t := by
  have g1 := mass_int t.lo
  have g2 := mass_int t.hi
  have g3 := blockText_size t.lo
  unfold tY
  generalize hb : wY t = b
  unfold wY at hb
  refine (apply_ite (fun l : List ByteArray => mass l ≤ b) _ _ _).mpr (ite_cond ?_ ?_)
  · first | omega | (simp only [mass_cons, mass_nil, ByteArray.size] at *; simp only [List.size_toArray, List.length_cons, List.length_nil] at *; omega) | (simp only [mass_append, mass_cons, mass_nil, List.cons_append, List.nil_append, ByteArray.size] at *; omega)
  refine (apply_ite (fun l : List ByteArray => mass l ≤ b) _ _ _).mpr (ite_cond ?_ ?_)
  · first | omega | (simp only [mass_cons, mass_nil, ByteArray.size] at *; simp only [List.size_toArray, List.length_cons, List.length_nil] at *; omega) | (simp only [mass_append, mass_cons, mass_nil, List.cons_append, List.nil_append, ByteArray.size] at *; omega)
  refine (apply_ite (fun l : List ByteArray => mass l ≤ b) _ _ _).mpr (ite_cond ?_ ?_)
  · first | omega | (simp only [mass_append, mass_cons, mass_nil, List.cons_append, List.nil_append, ByteArray.size] at *; simp only [List.size_toArray, List.length_cons, List.length_nil] at *; omega) | (simp only [mass_append, mass_cons, mass_nil, List.cons_append, List.nil_append, ByteArray.size] at *; omega)
  refine (apply_ite (fun l : List ByteArray => mass l ≤ b) _ _ _).mpr (ite_cond ?_ ?_)
  · first | omega | (simp only [mass_append, mass_cons, mass_nil, List.cons_append, List.nil_append, ByteArray.size] at *; simp only [List.size_toArray, List.length_cons, List.length_nil] at *; omega) | (simp only [mass_append, mass_cons, mass_nil, List.cons_append, List.nil_append, ByteArray.size] at *; omega)
  refine (apply_ite (fun l : List ByteArray => mass l ≤ b) _ _ _).mpr (ite_cond ?_ ?_)
  · first | omega | (simp only [mass_cons, mass_nil, ByteArray.size] at *; simp only [List.size_toArray, List.length_cons, List.length_nil] at *; omega) | (simp only [mass_append, mass_cons, mass_nil, List.cons_append, List.nil_append, ByteArray.size] at *; omega)
  refine (apply_ite (fun l : List ByteArray => mass l ≤ b) _ _ _).mpr (ite_cond ?_ ?_)
  · first | omega | (simp only [mass_cons, mass_nil, ByteArray.size] at *; simp only [List.size_toArray, List.length_cons, List.length_nil] at *; omega) | (simp only [mass_cons, mass_nil, ByteArray.size] at *; omega)
  refine (apply_ite (fun l : List ByteArray => mass l ≤ b) _ _ _).mpr (ite_cond ?_ ?_)
  · first | omega | (simp only [mass_cons, mass_nil, ByteArray.size] at *; simp only [List.size_toArray, List.length_cons, List.length_nil] at *; omega) | (simp only [mass_cons, mass_nil, ByteArray.size] at *; omega)
  first | omega | (simp only [mass_cons, mass_nil, ByteArray.size] at *; simp only [List.size_toArray, List.length_cons, List.length_nil] at *; omega) | (simp only [mass_append, mass_cons, mass_nil, List.cons_append, List.nil_append, ByteArray.size] at *; omega)
theorem mass_tP (v : VT) : mass (tP v) ≤ v.name.size + 3 + wY v.type := by
  have := mass_tY v.type
  unfold tP
  first | omega | (simp only [mass_cons, List.cons_append, List.nil_append, ByteArray.size] at *; simp only [List.size_toArray, List.length_cons, List.length_nil] at *; omega) | (simp only [mass_append, mass_cons, mass_nil, List.cons_append, List.nil_append, ByteArray.size] at *; omega)
theorem mass_tV (v : VT) : mass (tV v) ≤ wV v := by
  have h1 := mass_tP v
  have h2 := mass_int v.init
  have h3 := mass_int v.slot
  unfold tV wV
  have h4 : mass (if v.init = 0 then [] else ⟨#[58, 61]⟩ :: tInt v.init) ≤ 3 + (3 + dn v.init) := by
    split
    · simp [mass]
    · rw [mass_cons]; have : (⟨#[58, 61]⟩ : ByteArray).size = 2 := rfl; omega
  have h5 : mass (if v.dir = 1 then [⟨#[65, 84]⟩, ⟨#[73, 78]⟩] ++ tInt v.slot else if v.dir = 2 then [⟨#[65, 84]⟩, ⟨#[79, 85, 84]⟩] ++ tInt v.slot else []) ≤ 7 + (3 + dn v.slot) := by
    have e1 : (⟨#[65, 84]⟩ : ByteArray).size = 2 := rfl
    have e2 : (⟨#[73, 78]⟩ : ByteArray).size = 2 := rfl
    have e3 : (⟨#[79, 85, 84]⟩ : ByteArray).size = 3 := rfl
    split
    · rw [mass_append, mass_cons, mass_cons, mass_nil]; omega
    · split
      · rw [mass_append, mass_cons, mass_cons, mass_nil]; omega
      · simp [mass]
  have e1 : (⟨#[86, 65, 82]⟩ : ByteArray).size = 3 := rfl
  have e2 : (⟨#[59]⟩ : ByteArray).size = 1 := rfl
  rw [mass_append, mass_append, mass_append, mass_cons, mass_cons, mass_nil]
  omega
theorem mass_tVs (l : List VT) : mass (tVs l) ≤ (l.map wV).sum := mass_flat tV wV l (fun v _ => mass_tV v)
theorem mass_sep_map {α : Type} (f : α → List ByteArray) (g : α → Nat) (l : List α) (h : ∀ x, mass (f x) + 2 ≤ g x) : mass (sep (l.map f)) ≤ (l.map g).sum := by
  have h1 := mass_sep (l.map f)
  rw [List.map_map] at h1
  refine Nat.le_trans h1 (sum_le _ _ l l rfl (fun i h2 _ => h l[i]))
theorem mass_tF (b : Bool) (s : ByteArray) : mass (tF b s) ≤ s.size + 1 := by
  cases b
  · simp [tF, mass]
  · simp [tF, mass]
/-- the blocks of a statement. -/
theorem mass_getB {bs : List (List ByteArray)} {S : Nat} (h : (bs.map mass).sum ≤ S) (i : Nat) : mass (bs.getD i []) ≤ S := by
  have := sum_getD mass bs i []
  have q : mass ([] : List ByteArray) = 0 := rfl
  omega
theorem sum_range_getD {α : Type} (f : α → Nat) (l : List α) (d : α) (hd : f d = 0) : ∀ P : Nat, ((List.range P).map fun i => f (l.getD i d)).sum ≤ (l.map f).sum := by
  have key : ∀ (l : List α) (P : Nat), ((List.range P).map fun i => f (l.getD i d)).sum ≤ (l.map f).sum := by
    intro l
    induction l with
    | nil =>
      intro P
      have : ∀ P : Nat, ((List.range P).map fun i => f (([] : List α).getD i d)).sum = 0 := by
        intro P
        induction P with
        | zero => rfl
        | succ P ih => rw [List.range_succ, List.map_append, List.sum_append, ih]; simp [hd]
      rw [this]
      exact Nat.zero_le _
    | cons x r ih =>
      intro P
      cases P with
      | zero => simp
      | succ P =>
        rw [List.range_succ_eq_map, List.map_cons, List.sum_cons, List.map_map]
        have := ih P
        have e : ((List.range P).map ((fun i => f ((x :: r).getD i d)) ∘ Nat.succ)).sum = ((List.range P).map fun i => f (r.getD i d)).sum := rfl
        rw [e, List.map_cons, List.sum_cons]
        have e0 : (x :: r).getD 0 d = x := rfl
        rw [e0]
        omega
  exact key l
end Go.Proofs.YteijehmdabigeaaDoor
