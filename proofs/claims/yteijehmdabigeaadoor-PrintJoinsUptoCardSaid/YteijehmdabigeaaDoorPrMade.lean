/-
  What is written of a unit that is made of a name, a type and an expression; the five blocks that hold it.
-/
import Derived.Test.YteijehmdabigeaaDoorPrAwake
import Derived.Test.YteijehmdabigeaaDoorPrMass3
namespace Go.Proofs.YteijehmdabigeaaDoor
open Go Go.RowKit

/-- each token with a blank behind. -/
def bl (l : List ByteArray) : List UInt8 := l.flatMap fun t => t.data.toList ++ [32]
theorem bl_nil : bl [] = [] := rfl
theorem bl_cons (t : ByteArray) (l : List ByteArray) : bl (t :: l) = t.data.toList ++ [32] ++ bl l := by simp [bl]
theorem bl_append (l m : List ByteArray) : bl (l ++ m) = bl l ++ bl m := by simp [bl]
theorem bl_tail : ∀ r : List ByteArray, Lib.joinTail [32] (r.map (·.data.toList)) ++ [32] = [32] ++ bl r
  | [] => by simp [Lib.joinTail, bl]
  | t :: r => by
    have h := bl_tail r
    rw [bl_cons]
    simp only [Lib.joinTail, List.map_cons, List.flatten_cons, List.append_assoc] at h ⊢
    rw [h]
theorem bl_joined (l : List ByteArray) (h : l ≠ []) : joined l ++ [32] = bl l := by
  cases l with
  | nil => exact absurd rfl h
  | cons t r =>
    unfold joined
    rw [List.map_cons, Lib.join_cons, bl_cons, List.append_assoc, bl_tail]
    simp
theorem tInt_ne (n : Int) : tInt n ≠ [] := by unfold tInt; split <;> simp
theorem tY_ne (t : YT) : tY t ≠ [] := by
  unfold tY
  repeat' split
  all_goals simp
theorem tE_ne (e : ET) : tE e ≠ [] := by
  obtain ⟨k, n, nm, wh, args⟩ := e
  have ite_ne : ∀ (c : Prop) [Decidable c] (a b : List ByteArray), a ≠ [] → b ≠ [] → (if c then a else b) ≠ [] := fun c _ a b h1 h2 => by
    by_cases h : c
    · rw [if_pos h]; exact h1
    · rw [if_neg h]; exact h2
  rw [tE]
  unfold tEk
  refine ite_ne _ _ _ (tInt_ne n) ?_
  repeat' refine ite_ne _ _ _ (by simp) ?_
  simp

def pD (name : ByteArray) (t : YT) (e : ET) : DT := ⟨3, name, ⟨#[]⟩, [], false, false, [⟨name, t, 0, 0, 0⟩], [], [.mk 1 0 name [e] [] []], 0, 0⟩
theorem pD_bl (name : ByteArray) (t : YT) (e : ET) : joined (tD (pD name t e)) ++ [32] =
    [80, 82, 79, 71, 82, 65, 77, 32] ++ name.data.toList ++ [32, 59, 32, 86, 65, 82, 32] ++ name.data.toList ++ [32, 58, 32] ++ joined (tY t) ++ [32, 59, 32] ++ name.data.toList ++ [32, 58, 61, 32] ++ joined (tE e) ++ [32, 59, 32, 69, 78, 68, 95, 80, 82, 79, 71, 82, 65, 77] ++ [32] := by
  have h1 : tD (pD name t e) = [⟨#[80, 82, 79, 71, 82, 65, 77]⟩, name, ⟨#[59]⟩, ⟨#[86, 65, 82]⟩, name, ⟨#[58]⟩] ++ tY t ++ [⟨#[59]⟩, name, ⟨#[58, 61]⟩] ++ tE e ++ [⟨#[59]⟩, ⟨#[69, 78, 68, 95, 80, 82, 79, 71, 82, 65, 77]⟩] := by
    have h2 : tSk 1 0 name [e] [] (tBs []) = [name, ⟨#[58, 61]⟩] ++ tE e := by
      unfold tSk
      rw [if_pos rfl]
      rfl
    unfold tD pD
    simp [tVs, tV, tP, tL, tS, h2]
  rw [bl_joined _ (by rw [h1]; simp), h1, bl_append, bl_append, bl_append, bl_append, ← bl_joined _ (tY_ne t), ← bl_joined _ (tE_ne e)]
  simp [bl]
theorem pD_text (name : ByteArray) (t : YT) (e : ET) : (⟨(tU [pD name t e]).toArray⟩ : ByteArray) =
    ⟨#[80, 82, 79, 71, 82, 65, 77, 32]⟩ ++ name ++ ⟨#[32, 59, 32, 86, 65, 82, 32]⟩ ++ name ++ ⟨#[32, 58, 32]⟩ ++ ⟨(joined (tY t)).toArray⟩ ++ ⟨#[32, 59, 32]⟩ ++ name ++ ⟨#[32, 58, 61, 32]⟩ ++ ⟨(joined (tE e)).toArray⟩ ++ ⟨#[32, 59, 32, 69, 78, 68, 95, 80, 82, 79, 71, 82, 65, 77, 10]⟩ := by
  have h := List.append_cancel_right (pD_bl name t e)
  apply ByteArray.ext
  apply Array.ext'
  unfold tU
  rw [List.flatMap_cons, List.flatMap_nil, h]
  simp [ByteArray.data_append]
theorem sums (name st se sp : ByteArray) (h : sp = ⟨#[80, 82, 79, 71, 82, 65, 77, 32]⟩ ++ name ++ ⟨#[32, 59, 32, 86, 65, 82, 32]⟩ ++ name ++ ⟨#[32, 58, 32]⟩ ++ st ++ ⟨#[32, 59, 32]⟩ ++ name ++ ⟨#[32, 58, 61, 32]⟩ ++ se ++ ⟨#[32, 59, 32, 69, 78, 68, 95, 80, 82, 79, 71, 82, 65, 77, 10]⟩) (hn : name.size ≤ 100000000) (ht : st.size ≤ 100000000) (he : se.size ≤ 100000000) :
    ∃ u1 u2 u3 u4 u5 u6 u7 u8 u9 : ByteArray, (∀ w, (Op.stringOp .add ⟨#[80, 82, 79, 71, 82, 65, 77, 32]⟩ name).run Tryd.prog w = .ok (.string u1) w) ∧ (∀ w, (Op.stringOp .add u1 ⟨#[32, 59, 32, 86, 65, 82, 32]⟩).run Tryd.prog w = .ok (.string u2) w) ∧ (∀ w, (Op.stringOp .add u2 name).run Tryd.prog w = .ok (.string u3) w) ∧ (∀ w, (Op.stringOp .add u3 ⟨#[32, 58, 32]⟩).run Tryd.prog w = .ok (.string u4) w) ∧
      (∀ w, (Op.stringOp .add u4 st).run Tryd.prog w = .ok (.string u5) w) ∧ (∀ w, (Op.stringOp .add u5 ⟨#[32, 59, 32]⟩).run Tryd.prog w = .ok (.string u6) w) ∧ (∀ w, (Op.stringOp .add u6 name).run Tryd.prog w = .ok (.string u7) w) ∧ (∀ w, (Op.stringOp .add u7 ⟨#[32, 58, 61, 32]⟩).run Tryd.prog w = .ok (.string u8) w) ∧
      (∀ w, (Op.stringOp .add u8 se).run Tryd.prog w = .ok (.string u9) w) ∧ (∀ w, (Op.stringOp .add u9 ⟨#[32, 59, 32, 69, 78, 68, 95, 80, 82, 79, 71, 82, 65, 77, 10]⟩).run Tryd.prog w = .ok (.string sp) w) := by
  subst h
  have z1 : (⟨#[80, 82, 79, 71, 82, 65, 77, 32]⟩ : ByteArray).size = 8 := rfl
  have z2 : (⟨#[32, 59, 32, 86, 65, 82, 32]⟩ : ByteArray).size = 7 := rfl
  have z3 : (⟨#[32, 58, 32]⟩ : ByteArray).size = 3 := rfl
  have z4 : (⟨#[32, 59, 32]⟩ : ByteArray).size = 3 := rfl
  have z5 : (⟨#[32, 58, 61, 32]⟩ : ByteArray).size = 4 := rfl
  have z6 : (⟨#[32, 59, 32, 69, 78, 68, 95, 80, 82, 79, 71, 82, 65, 77, 10]⟩ : ByteArray).size = 15 := rfl
  refine ⟨_, _, _, _, _, _, _, _, _, fun w => run_string_add_sum w _ _ ?_, fun w => run_string_add_sum w _ _ ?_, fun w => run_string_add_sum w _ _ ?_, fun w => run_string_add_sum w _ _ ?_, fun w => run_string_add_sum w _ _ ?_, fun w => run_string_add_sum w _ _ ?_, fun w => run_string_add_sum w _ _ ?_, fun w => run_string_add_sum w _ _ ?_, fun w => run_string_add_sum w _ _ ?_, fun w => run_string_add_sum w _ _ ?_⟩
  all_goals
    simp only [ByteArray.size_append, z1, z2, z3, z4, z5, z6]
    omega

theorem five (V : World) (o1 o2 o3 o4 o5 : Obj) : Below V.heap.size V (((((V.alloc o1).alloc o2).alloc o3).alloc o4).alloc o5) ∧ (((((V.alloc o1).alloc o2).alloc o3).alloc o4).alloc o5).heap.size = V.heap.size + 1 + 1 + 1 + 1 + 1 ∧
    (((((V.alloc o1).alloc o2).alloc o3).alloc o4).alloc o5).heap[V.heap.size]? = some o1 ∧ (((((V.alloc o1).alloc o2).alloc o3).alloc o4).alloc o5).heap[V.heap.size + 1]? = some o2 ∧ (((((V.alloc o1).alloc o2).alloc o3).alloc o4).alloc o5).heap[V.heap.size + 1 + 1]? = some o3 ∧
    (((((V.alloc o1).alloc o2).alloc o3).alloc o4).alloc o5).heap[V.heap.size + 1 + 1 + 1]? = some o4 ∧ (((((V.alloc o1).alloc o2).alloc o3).alloc o4).alloc o5).heap[V.heap.size + 1 + 1 + 1 + 1]? = some o5 := by
  have e1 := heap_alloc_new V o1
  have e2 := heap_alloc_new (V.alloc o1) o2
  have e3 := heap_alloc_new ((V.alloc o1).alloc o2) o3
  have e4 := heap_alloc_new (((V.alloc o1).alloc o2).alloc o3) o4
  have e5 := heap_alloc_new ((((V.alloc o1).alloc o2).alloc o3).alloc o4) o5
  simp only [heap_alloc_size] at e2 e3 e4 e5
  refine ⟨((((((Below.refl _ _).alloc (Nat.le_refl _) _).alloc (by simp only [heap_alloc_size]; omega) _).alloc (by simp only [heap_alloc_size]; omega) _).alloc (by simp only [heap_alloc_size]; omega) _).alloc (by simp only [heap_alloc_size]; omega) _), by simp only [heap_alloc_size], ?_, ?_, ?_, ?_, e5⟩
  · rw [Below.heap_alloc _ _ _ (by simp only [heap_alloc_size]; omega), Below.heap_alloc _ _ _ (by simp only [heap_alloc_size]; omega), Below.heap_alloc _ _ _ (by simp only [heap_alloc_size]; omega), Below.heap_alloc _ _ _ (by simp only [heap_alloc_size]; omega)]
    exact e1
  · rw [Below.heap_alloc _ _ _ (by simp only [heap_alloc_size]; omega), Below.heap_alloc _ _ _ (by simp only [heap_alloc_size]; omega), Below.heap_alloc _ _ _ (by simp only [heap_alloc_size]; omega)]
    exact e2
  · rw [Below.heap_alloc _ _ _ (by simp only [heap_alloc_size]; omega), Below.heap_alloc _ _ _ (by simp only [heap_alloc_size]; omega)]
    exact e3
  · rw [Below.heap_alloc _ _ _ (by simp only [heap_alloc_size]; omega)]
    exact e4

/-- the five blocks of the unit that PrintJoins makes. -/
abbrev made (V : World) (name : ByteArray) (t : YT) (k n : Int) (nm wh : ByteArray) (A3 : Option Addr) (m c3 : Nat) : World :=
  (((((V.alloc (.cells #[.string name, .int .i64 t.kind, .int .i64 t.lo, .int .i64 t.hi, .string t.name, .int .i64 0, .int .i64 0, .int .i64 0] 38)).alloc
    (.cells #[.int .i64 k, .int .i64 n, .string nm, .string wh, .slice A3 m c3] 27)).alloc
    (.cells #[.int .i64 1, .int .i64 0, .string name, .slice (some ⟨V.heap.size + 1, 0, none⟩) 1 1, .slice none 0 0, .slice none 0 0] 43)).alloc
    (.cells #[.int .i64 3, .string name, .string ⟨#[]⟩, .slice none 0 0, .bool false, .bool false, .slice (some ⟨V.heap.size, 0, none⟩) 1 1, .slice none 0 0, .slice (some ⟨V.heap.size + 1 + 1, 0, none⟩) 1 1, .int .i64 0, .int .i64 0] 48)).alloc
    (.cells #[.slice (some ⟨V.heap.size + 1 + 1 + 1, 0, none⟩) 1 1] 24))
theorem made_holds {w V : World} (name : ByteArray) {t : YT} (ht : t.wf) {k n : Int} {nm wh : ByteArray} {args : List ET} {A3 : Option Addr} {c3 : Nat} (hb : Below w.heap.size w V)
    (he : EIn w w.heap.size (.mk k n nm wh args) [.int .i64 k, .int .i64 n, .string nm, .string wh, .slice A3 args.length c3]) :
    Below V.heap.size V (made V name t k n nm wh A3 args.length c3) ∧ DsR (made V name t k n nm wh A3 args.length c3) (made V name t k n nm wh A3 args.length c3).heap.size (some ⟨V.heap.size + 1 + 1 + 1, 0, none⟩) [pD name t (.mk k n nm wh args)] ∧
      (made V name t k n nm wh A3 args.length c3).heap[V.heap.size + 1 + 1 + 1 + 1]? = some (.cells #[.slice (some ⟨V.heap.size + 1 + 1 + 1, 0, none⟩) 1 1] 24 (0, 0)) := by
  obtain ⟨hX, hs, s1, s2, s3, s4, s5⟩ := five V (.cells #[.string name, .int .i64 t.kind, .int .i64 t.lo, .int .i64 t.hi, .string t.name, .int .i64 0, .int .i64 0, .int .i64 0] 38) (.cells #[.int .i64 k, .int .i64 n, .string nm, .string wh, .slice A3 args.length c3] 27) (.cells #[.int .i64 1, .int .i64 0, .string name, .slice (some ⟨V.heap.size + 1, 0, none⟩) 1 1, .slice none 0 0, .slice none 0 0] 43)
    (.cells #[.int .i64 3, .string name, .string ⟨#[]⟩, .slice none 0 0, .bool false, .bool false, .slice (some ⟨V.heap.size, 0, none⟩) 1 1, .slice none 0 0, .slice (some ⟨V.heap.size + 1 + 1, 0, none⟩) 1 1, .int .i64 0, .int .i64 0] 48) (.cells #[.slice (some ⟨V.heap.size + 1 + 1 + 1, 0, none⟩) 1 1] 24)
  refine ⟨hX, ?_, s5⟩
  unfold made at *
  generalize (((((V.alloc _).alloc _).alloc _).alloc _).alloc _) = X at hX hs s1 s2 s3 s4 s5 ⊢
  have i0 : I64 0 := ⟨by decide, by decide⟩
  have hbX : Below w.heap.size w X := hb.trans (hX.mono hb.size)
  have he' : EIn X X.heap.size (.mk k n nm wh args) [.int .i64 k, .int .i64 n, .string nm, .string wh, .slice A3 args.length c3] := he.mono hbX.size hbX.block
  have r1 : VsR X X.heap.size (some ⟨V.heap.size, 0, none⟩) [⟨name, t, 0, 0, 0⟩] := row_of_block (by omega) s1 _ 8 rfl (fun q hq => by
    match q, hq with
    | 0, _ => exact ⟨rfl, ht, i0, i0⟩)
  have r2 : EsR X X.heap.size (some ⟨V.heap.size + 1, 0, none⟩) [.mk k n nm wh args] := row_of_block (by omega) s2 _ 5 rfl (fun q hq => by
    match q, hq with
    | 0, _ => exact he')
  have r3 : SsR X X.heap.size (some ⟨V.heap.size + 1 + 1, 0, none⟩) [.mk 1 0 name [.mk k n nm wh args] [] []] := row_of_block (by omega) s3 _ 6 rfl (fun q hq => by
    match q, hq with
    | 0, _ =>
      show SIn X X.heap.size (.mk 1 0 name [.mk k n nm wh args] [] []) [.int .i64 1, .int .i64 0, .string name, .slice (some ⟨V.heap.size + 1, 0, none⟩) 1 1, .slice none 0 0, .slice none 0 0]
      rw [SIn]
      refine ⟨some ⟨V.heap.size + 1, 0, none⟩, 1, none, 0, none, 0, rfl, i0, r2, fun q hq => by simp at hq, ?_⟩
      rw [BsIn]
      trivial)
  exact row_of_block (by omega) s4 _ 11 rfl (fun q hq => by
    match q, hq with
    | 0, _ => exact ⟨none, 0, some ⟨V.heap.size, 0, none⟩, 1, none, 0, some ⟨V.heap.size + 1 + 1, 0, none⟩, 1, rfl, i0, i0, fun q hq => by simp [pD] at hq, r1, fun q hq => by simp [pD] at hq, r3⟩)
end Go.Proofs.YteijehmdabigeaaDoor
