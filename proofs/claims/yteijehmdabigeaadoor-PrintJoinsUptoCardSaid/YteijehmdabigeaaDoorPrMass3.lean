/-
  What is written of a tree is no longer than the tree is heavy: statements, declarations.
-/
import Derived.Test.YteijehmdabigeaaDoorPrMass2
namespace Go.Proofs.YteijehmdabigeaaDoor
open Go

theorem sum_add {α : Type} (f g : α → Nat) : ∀ l : List α, (l.map fun x => f x + g x).sum = (l.map f).sum + (l.map g).sum
  | [] => by simp
  | x :: r => by simp only [List.map_cons, List.sum_cons, sum_add f g r]; omega
theorem range_map_getD {α β : Type} (f : α → β) (d : α) (l : List α) : (List.range l.length).map (fun i => f (l.getD i d)) = l.map f := by
  apply List.ext_getElem
  · simp
  · intro i h1 h2
    have : i < l.length := by simpa using h2
    simp [this]
theorem mass_ifs (ex : List ET) (bs : List (List ByteArray)) (S : Nat) (h : (bs.map mass).sum ≤ S) :
    mass ((List.range (max 1 ex.length)).flatMap (fun i => (if i = 0 then ⟨#[73, 70]⟩ else ⟨#[69, 76, 83, 73, 70]⟩) :: tE (nthE ex i) ++ [⟨#[84, 72, 69, 78]⟩] ++ bs.getD i [])) + mass (bs.getD (max 1 ex.length) []) ≤ 13 + wEs ex + S := by
  have h1 := mass_flat (fun i => (if i = 0 then ⟨#[73, 70]⟩ else ⟨#[69, 76, 83, 73, 70]⟩) :: tE (nthE ex i) ++ [⟨#[84, 72, 69, 78]⟩] ++ bs.getD i []) (fun i => (11 + mass (tE (nthE ex i))) + mass (bs.getD i [])) (List.range (max 1 ex.length)) (fun i _ => by
    have e1 : ((if i = 0 then ⟨#[73, 70]⟩ else ⟨#[69, 76, 83, 73, 70]⟩) : ByteArray).size ≤ 5 := by split <;> decide
    have e2 : (⟨#[84, 72, 69, 78]⟩ : ByteArray).size = 4 := rfl
    rw [List.cons_append, List.cons_append, mass_cons, mass_append, mass_append, mass_cons, mass_nil]
    omega)
  rw [sum_add (fun i => 11 + mass (tE (nthE ex i))) (fun i => mass (bs.getD i []))] at h1
  have h2 := sum_range_getD mass bs [] rfl (max 1 ex.length + 1)
  rw [List.range_succ, List.map_append, List.sum_append] at h2
  simp only [List.map_cons, List.map_nil, List.sum_cons, List.sum_nil] at h2
  have h3 : ((List.range (max 1 ex.length)).map fun i => 11 + mass (tE (nthE ex i))).sum ≤ 13 + wEs ex := by
    by_cases h0 : ex.length = 0
    · have e : max 1 ex.length = 1 := by omega
      have e2 : ex = [] := List.length_eq_zero_iff.1 h0
      subst e2
      rw [e]
      have e3 : nthE [] 0 = ET.zero := rfl
      simp only [List.range_succ, List.range_zero, List.nil_append, List.map_cons, List.map_nil, List.sum_cons, List.sum_nil, e3, tE_zero]
      have q : mass [⟨#[63]⟩] = 2 := rfl
      omega
    · have e : max 1 ex.length = ex.length := by omega
      rw [e]
      have e2 := range_map_getD (fun x => 11 + mass (tE x)) ET.zero ex
      have e3 : (List.range ex.length).map (fun i => 11 + mass (tE (nthE ex i))) = (List.range ex.length).map (fun i => (fun x => 11 + mass (tE x)) (ex.getD i ET.zero)) := rfl
      rw [e3, e2, wEs_sum]
      have := sum_le (fun x => 11 + mass (tE x)) wE ex ex rfl (fun i h1 _ => by have := mass_tE ex[i]; show 11 + mass (tE ex[i]) ≤ wE ex[i]; omega)
      omega
  omega
theorem mass_caseS (lb : List (List Int)) (bs : List (List ByteArray)) (S : Nat) (h : (bs.map mass).sum ≤ S) :
    mass ((List.range lb.length).flatMap (fun i => sep ((lb.getD i []).map tInt) ++ [⟨#[58]⟩] ++ bs.getD i [])) + mass (bs.getD lb.length []) ≤ (lb.map wL).sum + S := by
  have h1 := mass_flat (fun i => sep ((lb.getD i []).map tInt) ++ [⟨#[58]⟩] ++ bs.getD i []) (fun i => wL (lb.getD i []) + mass (bs.getD i [])) (List.range lb.length) (fun i _ => by
    have e2 : (⟨#[58]⟩ : ByteArray).size = 1 := rfl
    have e3 := mass_sep_map tInt wN (lb.getD i []) (fun n => by have := mass_int n; unfold wN; omega)
    unfold wL
    rw [mass_append, mass_append, mass_cons, mass_nil]
    omega)
  rw [sum_add (fun i => wL (lb.getD i [])) (fun i => mass (bs.getD i []))] at h1
  have h2 := sum_range_getD mass bs [] rfl (lb.length + 1)
  rw [List.range_succ, List.map_append, List.sum_append] at h2
  simp only [List.map_cons, List.map_nil, List.sum_cons, List.sum_nil] at h2
  have h3 := range_map_getD wL [] lb
  rw [h3] at h1
  omega
theorem mass_else (t : List ByteArray) : mass (tElse t) ≤ 5 + mass t := by
  unfold tElse
  split
  · simp [mass]
  · rw [mass_cons]; have : (⟨#[69, 76, 83, 69]⟩ : ByteArray).size = 4 := rfl; omega
theorem tSk_mass (k n : Int) (nm : ByteArray) (ex : List ET) (lb : List (List Int)) (bs : List (List ByteArray)) (S : Nat) (h : (bs.map mass).sum ≤ S) : mass (tSk k n nm ex lb bs) + 2 ≤ 64 + dn n + nm.size + wEs ex + (lb.map wL).sum + S := by
  have g1 := mass_nth ex 0
  have g2 := mass_nth2 ex
  have g3 := mass_getB h 0
  have g4 := mass_int n
  have g5 := mass_ifs ex bs S h
  have g6 := mass_caseS lb bs S h
  have g7 := mass_else (bs.getD (max 1 ex.length) [])
  have g8 := mass_else (bs.getD lb.length [])
  unfold tSk
  generalize hb : 64 + dn n + nm.size + wEs ex + (lb.map wL).sum + S = b
  refine (apply_ite (fun l : List ByteArray => mass l + 2 ≤ b) _ _ _).mpr (ite_cond ?_ ?_)
  · first | omega | (simp only [mass_cons, List.cons_append, List.nil_append, ByteArray.size] at *; simp only [List.size_toArray, List.length_cons, List.length_nil] at *; omega) | (simp only [mass_append, mass_cons, mass_nil, List.cons_append, List.nil_append, ByteArray.size] at *; omega)
  refine (apply_ite (fun l : List ByteArray => mass l + 2 ≤ b) _ _ _).mpr (ite_cond ?_ ?_)
  · first | omega | (simp only [mass_append, mass_cons, mass_nil, List.cons_append, List.nil_append, ByteArray.size] at *; simp only [List.size_toArray, List.length_cons, List.length_nil] at *; omega) | (simp only [mass_append, mass_cons, mass_nil, List.cons_append, List.nil_append, ByteArray.size] at *; omega)
  refine (apply_ite (fun l : List ByteArray => mass l + 2 ≤ b) _ _ _).mpr (ite_cond ?_ ?_)
  · first | omega | (simp only [mass_cons, List.cons_append, List.nil_append, ByteArray.size] at *; simp only [List.size_toArray, List.length_cons, List.length_nil] at *; omega) | (simp only [mass_append, mass_cons, mass_nil, List.cons_append, List.nil_append, ByteArray.size] at *; omega)
  refine (apply_ite (fun l : List ByteArray => mass l + 2 ≤ b) _ _ _).mpr (ite_cond ?_ ?_)
  · first | omega | (simp only [mass_append, mass_cons, mass_nil, List.cons_append, List.nil_append, ByteArray.size] at *; simp only [List.size_toArray, List.length_cons, List.length_nil] at *; omega) | (simp only [mass_append, mass_cons, mass_nil, List.cons_append, List.nil_append, ByteArray.size] at *; omega)
  refine (apply_ite (fun l : List ByteArray => mass l + 2 ≤ b) _ _ _).mpr (ite_cond ?_ ?_)
  · first | omega | (simp only [mass_append, mass_cons, mass_nil, List.cons_append, ByteArray.size] at *; simp only [List.size_toArray, List.length_cons, List.length_nil] at *; omega) | (simp only [mass_append, mass_cons, mass_nil, List.cons_append, List.nil_append, ByteArray.size] at *; omega)
  refine (apply_ite (fun l : List ByteArray => mass l + 2 ≤ b) _ _ _).mpr (ite_cond ?_ ?_)
  · first | omega | (simp only [mass_append, mass_cons, mass_nil, List.cons_append, ByteArray.size] at *; simp only [List.size_toArray, List.length_cons, List.length_nil] at *; omega) | (simp only [mass_append, mass_cons, mass_nil, List.cons_append, List.nil_append, ByteArray.size] at *; omega)
  refine (apply_ite (fun l : List ByteArray => mass l + 2 ≤ b) _ _ _).mpr (ite_cond ?_ ?_)
  · first | omega | (simp only [mass_append, mass_cons, mass_nil, List.cons_append, ByteArray.size] at *; simp only [List.size_toArray, List.length_cons, List.length_nil] at *; omega) | (simp only [mass_append, mass_cons, mass_nil, List.cons_append, List.nil_append, ByteArray.size] at *; omega)
  refine (apply_ite (fun l : List ByteArray => mass l + 2 ≤ b) _ _ _).mpr (ite_cond ?_ ?_)
  · first | omega | (simp only [mass_append, mass_cons, mass_nil, List.cons_append, List.nil_append, ByteArray.size] at *; simp only [List.size_toArray, List.length_cons, List.length_nil] at *; omega) | (simp only [mass_append, mass_cons, mass_nil, List.cons_append, List.nil_append, ByteArray.size] at *; omega)
  refine (apply_ite (fun l : List ByteArray => mass l + 2 ≤ b) _ _ _).mpr (ite_cond ?_ ?_)
  · rw [mass_cons]
    have e : (⟨#[82, 69, 84, 85, 82, 78]⟩ : ByteArray).size = 6 := rfl
    have e2 : mass (if 0 < ex.length then tE (nthE ex 0) else []) ≤ mass (tE (nthE ex 0)) := by split <;> simp [mass]
    omega
  refine (apply_ite (fun l : List ByteArray => mass l + 2 ≤ b) _ _ _).mpr (ite_cond ?_ ?_)
  · first | omega | (simp only [mass_cons, mass_nil, List.cons_append, ByteArray.size] at *; simp only [List.size_toArray, List.length_cons, List.length_nil] at *; omega) | (simp only [mass_append, mass_cons, mass_nil, List.cons_append, List.nil_append, ByteArray.size] at *; omega)
  refine (apply_ite (fun l : List ByteArray => mass l + 2 ≤ b) _ _ _).mpr (ite_cond ?_ ?_)
  · first | omega | (simp only [mass_append, mass_cons, mass_nil, List.cons_append, List.nil_append, ByteArray.size] at *; simp only [List.size_toArray, List.length_cons, List.length_nil] at *; omega) | (simp only [mass_append, mass_cons, mass_nil, List.cons_append, List.nil_append, ByteArray.size] at *; omega)
  first | omega | (simp only [mass_cons, mass_nil, List.cons_append, ByteArray.size] at *; simp only [List.size_toArray, List.length_cons, List.length_nil] at *; omega) | (simp only [mass_append, mass_cons, mass_nil, List.cons_append, List.nil_append, ByteArray.size] at *; omega)
mutual
theorem mass_tS : ∀ s : ST, mass (tS s) + 2 ≤ wS s
  | .mk k n nm ex lb bs => by
    rw [tS, wS]
    exact tSk_mass k n nm ex lb (tBs bs) (wBs bs) (mass_tBs bs)
theorem mass_tL : ∀ l : List ST, mass (tL l) ≤ wSs l
  | [] => by simp [tL, wSs, mass]
  | s :: r => by
    have h1 := mass_tS s
    have h2 := mass_tL r
    have e : (⟨#[59]⟩ : ByteArray).size = 1 := rfl
    rw [tL, wSs, mass_append, mass_append, mass_cons, mass_nil]
    omega
theorem mass_tBs : ∀ l : List (List ST), ((tBs l).map mass).sum ≤ wBs l
  | [] => by simp [tBs, wBs]
  | s :: r => by
    have h1 := mass_tL s
    have h2 := mass_tBs r
    rw [tBs, wBs, List.map_cons, List.sum_cons]
    omega
end
theorem mass_tH (m : MT) : mass (tH m) + 42 ≤ 64 + m.name.size + wY m.result + (m.params.map wV).sum := by
  have h1 := mass_sep_map tP wV m.params (fun v => by have := mass_tP v; unfold wV; omega)
  have h2 := mass_tY m.result
  have h3 : mass (if m.result.kind = 0 then [] else ⟨#[58]⟩ :: tY m.result) ≤ 2 + wY m.result := by
    split
    · simp [mass]
    · rw [mass_cons]; have : (⟨#[58]⟩ : ByteArray).size = 1 := rfl; omega
  unfold tH
  first | omega | (simp only [mass_append, mass_cons, mass_nil, List.cons_append, List.nil_append, ByteArray.size] at *; simp only [List.size_toArray, List.length_cons, List.length_nil] at *; omega) | (simp only [mass_append, mass_cons, mass_nil, List.cons_append, List.nil_append, ByteArray.size] at *; omega)
theorem mass_tM (m : MT) : mass (tM m) ≤ wM m := by
  have h1 := mass_tH m
  have h2 := mass_tVs m.vars
  have h3 := mass_tL m.body
  have h4 := mass_tF m.over ⟨#[79, 86, 69, 82, 82, 73, 68, 69]⟩
  have h5 := mass_tF m.abstract ⟨#[65, 66, 83, 84, 82, 65, 67, 84]⟩
  have h6 := mass_tF m.final ⟨#[70, 73, 78, 65, 76]⟩
  unfold tM wM
  first | omega | (simp only [mass_append, mass_cons, mass_nil, List.cons_append, ByteArray.size] at *; simp only [List.size_toArray, List.length_cons, List.length_nil] at *; omega) | (simp only [mass_append, mass_cons, mass_nil, List.cons_append, List.nil_append, ByteArray.size] at *; omega)
theorem mass_tD (d : DT) : mass (tD d) + 1 ≤ wD d := by
  have h1 := mass_tVs d.vars
  have h2 := mass_tL d.body
  have h3 := mass_flat tM wM d.methods (fun m _ => mass_tM m)
  have h4 := mass_flat (fun m => ⟨#[77, 69, 84, 72, 79, 68]⟩ :: tH m) wM d.methods (fun m _ => by have := mass_tH m; have e : (⟨#[77, 69, 84, 72, 79, 68]⟩ : ByteArray).size = 6 := rfl; rw [mass_cons]; unfold wM; omega)
  have h5 := mass_sep_map (fun f => [f]) wX d.faces (fun s => by rw [mass_cons, mass_nil]; unfold wX; omega)
  have h6 := mass_int d.every
  have h7 := mass_int d.first
  have h8 := mass_tF d.abstract ⟨#[65, 66, 83, 84, 82, 65, 67, 84]⟩
  have h9 := mass_tF d.final ⟨#[70, 73, 78, 65, 76]⟩
  have h10 := mass_tF (decide (0 < d.faces.length)) ⟨#[73, 77, 80, 76, 69, 77, 69, 78, 84, 83]⟩
  have h11 : mass (if d.base = ⟨#[]⟩ then [] else [⟨#[69, 88, 84, 69, 78, 68, 83]⟩, d.base]) ≤ 9 + d.base.size := by
    split
    · simp [mass]
    · rw [mass_cons, mass_cons, mass_nil]; have : (⟨#[69, 88, 84, 69, 78, 68, 83]⟩ : ByteArray).size = 7 := rfl; omega
  unfold tD
  generalize hb : wD d = b
  unfold wD at hb
  refine (apply_ite (fun l : List ByteArray => mass l + 1 ≤ b) _ _ _).mpr (ite_cond ?_ ?_)
  · first | omega | (simp only [mass_append, mass_cons, mass_nil, List.cons_append, List.nil_append, ByteArray.size] at *; simp only [List.size_toArray, List.length_cons, List.length_nil] at *; omega) | (simp only [mass_append, mass_cons, mass_nil, List.cons_append, List.nil_append, ByteArray.size] at *; omega)
  refine (apply_ite (fun l : List ByteArray => mass l + 1 ≤ b) _ _ _).mpr (ite_cond ?_ ?_)
  · first | omega | (simp only [mass_append, mass_cons, mass_nil, List.cons_append, ByteArray.size] at *; simp only [List.size_toArray, List.length_cons, List.length_nil] at *; omega) | (simp only [mass_append, mass_cons, mass_nil, List.cons_append, List.nil_append, ByteArray.size] at *; omega)
  refine (apply_ite (fun l : List ByteArray => mass l + 1 ≤ b) _ _ _).mpr (ite_cond ?_ ?_)
  · first | omega | (simp only [mass_append, mass_cons, mass_nil, List.cons_append, List.nil_append, ByteArray.size] at *; simp only [List.size_toArray, List.length_cons, List.length_nil] at *; omega) | (simp only [mass_append, mass_cons, mass_nil, List.cons_append, List.nil_append, ByteArray.size] at *; omega)
  refine (apply_ite (fun l : List ByteArray => mass l + 1 ≤ b) _ _ _).mpr (ite_cond ?_ ?_)
  · first | omega | (simp only [mass_append, mass_cons, mass_nil, List.cons_append, List.nil_append, ByteArray.size] at *; simp only [List.size_toArray, List.length_cons, List.length_nil] at *; omega) | (simp only [mass_append, mass_cons, mass_nil, List.cons_append, List.nil_append, ByteArray.size] at *; omega)
  first | omega | (simp only [mass_cons, mass_nil, ByteArray.size] at *; simp only [List.size_toArray, List.length_cons, List.length_nil] at *; omega) | (simp only [mass_append, mass_cons, mass_nil, List.cons_append, List.nil_append, ByteArray.size] at *; omega)
theorem mass_tU (L : List DT) : (tU L).length ≤ wU L := by
  induction L with
  | nil => simp [tU, wU]
  | cons d r ih =>
    have h1 := mass_tD d
    have h2 := mass_joined (tD d)
    simp only [tU, wU, List.flatMap_cons, List.length_append, List.length_cons, List.length_nil, List.map_cons, List.sum_cons] at ih ⊢
    omega
end Go.Proofs.YteijehmdabigeaaDoor
