/-
  The callees of governorlaw6's statements, each under a condition that stays where blocks are added.
-/
import Derived.Test.YtkpieolmepngjaaTbAwake
namespace Go.Proofs.Ytkpieolmepngjaa
open Go Go.RowKit
set_option linter.unusedVariables false
set_option linter.unusedSimpArgs false

/-- a condition that stays where nothing that was there is changed, and that tells the unit's row. -/
structure Stay (Q : World → Prop) (A : Option Addr) (L : List DT) : Prop where
  step : ∀ W W', Q W → Below W.heap.size W W' → Q W'
  row : ∀ W, Q W → DsR W W.heap.size A L
theorem where_shape (r : Option (Int × Int)) : ∃ m0 m1 ok, whereV r = .tuple #[.agg #[.int .i64 m0, .int .i64 m1], .bool ok] := by
  rcases r with _ | ⟨a, b⟩
  · exact ⟨0, 0, false, rfl⟩
  · exact ⟨a, b, true, rfl⟩
theorem fieldsT_len {L : List DT} (hf : FitA L) (d : Int) : (fieldsT L d).length ≤ 1700000000000 := by
  have hv : ∀ x, (varsOf L x).length ≤ 1048576 := fun x => by
    unfold varsOf
    cases hx : L[x.toNat]? with
    | none => simp
    | some v => exact hf.vars v (List.mem_of_getElem? hx)
  unfold fieldsT
  split
  · exact Nat.le_trans (hv d) (by decide)
  · refine Nat.le_trans (flat_le _ 1048576 _ fun x _ => hv x) ?_
    rw [List.length_reverse]
    have h1 := (chainT_met L d).len
    have h2 := hf.len
    have : (chainT L d).length * 1048576 ≤ 1048576 * 1048576 := Nat.mul_le_mul_right _ (by omega)
    omega
theorem IRow.far {B : Nat} {w w' : World} {A : Option Addr} {c : Nat} {l : List Int} (h : Hid (IRow B w A c l)) (k : Hid (Below w.heap.size w w')) : Hid (IRow B w' A c l) := h.out.below k.out
theorem VRow.far {B : Nat} {w w' : World} {A : Option Addr} {c : Nat} {l : List VT} (h : Hid (VRow B w A c l)) (k : Hid (Below w.heap.size w w')) : Hid (VRow B w' A c l) := h.out.below k.out
theorem q_Find {Q : World → Prop} {A : Option Addr} {L : List DT} (c : Nat) (h : Stay Q A L) (hfit : Fit L) (s : ByteArray) (x : Int) (hx : x = findT L s) (W : World) (hq : Hid (Q W)) :
    Calls Try.prog 20 #[.agg #[.slice A L.length c], .string s] W fun e w' => e = .returned (.int .i64 x) ∧ Hid (Q w') ∧ Hid (Below W.heap.size W w') := by
  subst hx
  exact (find_any L A c s W (h.row W hq.out) hfit.cnt).mono fun e w' hh => ⟨hh.1, h.step _ _ hq.out hh.2, hh.2⟩
theorem q_refFind {Q : World → Prop} {A : Option Addr} {L : List DT} (c : Nat) (h : Stay Q A L) (hfit : Fit L) (s : ByteArray) (x : Int) (hx : x = findT L s) (W : World) (hq : Hid (Q W)) :
    Calls Try.prog 21 #[.agg #[.slice A L.length c], .string s] W fun e w' => e = .returned (.int .i64 x) ∧ Hid (Q w') ∧ Hid (Below W.heap.size W w') := by
  subst hx
  exact (refFind_any L A c s W (h.row W hq.out) hfit.cnt).mono fun e w' hh => ⟨hh.1, h.step _ _ hq.out hh.2, hh.2⟩
theorem q_Is {Q : World → Prop} {A : Option Addr} {L : List DT} (c : Nat) (h : Stay Q A L) (hfit : Fit L) (s t : ByteArray) (x : Bool) (hx : x = isT L s t) (W : World) (hq : Hid (Q W)) :
    Calls Try.prog 25 #[.agg #[.slice A L.length c], .string s, .string t] W fun e w' => e = .returned (.bool x) ∧ Hid (Q w') ∧ Hid (Below W.heap.size W w') := by
  subst hx
  exact (Is_any L A c s t W (h.row W hq.out) hfit).mono fun e w' hh => ⟨hh.1, h.step _ _ hq.out hh.2, hh.2⟩
theorem q_refIs {Q : World → Prop} {A : Option Addr} {L : List DT} (c : Nat) (h : Stay Q A L) (hfit : Fit L) (s t : ByteArray) (x : Bool) (hx : x = isT L s t) (W : World) (hq : Hid (Q W)) :
    Calls Try.prog 26 #[.agg #[.slice A L.length c], .string s, .string t] W fun e w' => e = .returned (.bool x) ∧ Hid (Q w') ∧ Hid (Below W.heap.size W w') := by
  subst hx
  exact (refIs_any L A c s t W (h.row W hq.out) hfit.cnt hfit.faces).mono fun e w' hh => ⟨hh.1, h.step _ _ hq.out hh.2, hh.2⟩
theorem q_Method {Q : World → Prop} {A : Option Addr} {L : List DT} (c : Nat) (h : Stay Q A L) (hfit : FitA L) (d : Int) (hd : I64 d) (s : ByteArray) (x : Value) (hx : x = whereV (methodT L d s)) (W : World) (hq : Hid (Q W)) :
    Calls Try.prog 15 #[.agg #[.slice A L.length c], .int .i64 d, .string s] W fun e w' => e = .returned x ∧ Hid (Q w') ∧ Hid (Below W.heap.size W w') := by
  subst hx
  exact (Method_any L A c d s W (h.row W hq.out) hfit hd).mono fun e w' hh => ⟨hh.1, h.step _ _ hq.out hh.2, hh.2⟩
theorem q_refMethod {Q : World → Prop} {A : Option Addr} {L : List DT} (c : Nat) (h : Stay Q A L) (hfit : FitA L) (d : Int) (hd : I64 d) (s : ByteArray) (x : Value) (hx : x = whereV (methodT L d s)) (W : World) (hq : Hid (Q W)) :
    Calls Try.prog 16 #[.agg #[.slice A L.length c], .int .i64 d, .string s] W fun e w' => e = .returned x ∧ Hid (Q w') ∧ Hid (Below W.heap.size W w') := by
  subst hx
  exact (refMethod_any L A c d s W (h.row W hq.out) hfit.cnt hfit.methods hd).mono fun e w' hh => ⟨hh.1, h.step _ _ hq.out hh.2, hh.2⟩
theorem q_Chain {Q : World → Prop} {A : Option Addr} {L : List DT} (c : Nat) (h : Stay Q A L) (hfit : Fit L) (d : Int) (x : List Int) (hx : x = chainT L d) (W : World) (hq : Hid (Q W)) :
    Calls Try.prog 17 #[.agg #[.slice A L.length c], .int .i64 d] W fun e w' => ∃ A' c', e = .returned (.slice A' x.length c') ∧ Hid (IRow W.heap.size w' A' c' x) ∧ Hid (Q w') ∧ Hid (Below W.heap.size W w') := by
  subst hx
  refine (Chain_any L A c d W (h.row W hq.out) hfit).mono fun e w' hh => ?_
  obtain ⟨A', c', k1, k2, k3⟩ := hh
  exact ⟨A', c', k1, k2, h.step _ _ hq.out k3, k3⟩
theorem q_refChain {Q : World → Prop} {A : Option Addr} {L : List DT} (c : Nat) (h : Stay Q A L) (hfit : Fit L) (d : Int) (x : List Int) (hx : x = chainT L d) (W : World) (hq : Hid (Q W)) :
    Calls Try.prog 23 #[.agg #[.slice A L.length c], .int .i64 d] W fun e w' => ∃ A' c', e = .returned (.slice A' x.length c') ∧ Hid (IRow W.heap.size w' A' c' x) ∧ Hid (Q w') ∧ Hid (Below W.heap.size W w') := by
  subst hx
  refine (refChain_any L A c d W (h.row W hq.out) hfit.cnt).mono fun e w' hh => ?_
  obtain ⟨A', c', k1, k2, k3⟩ := hh
  exact ⟨A', c', k1, k2, h.step _ _ hq.out k3, k3⟩
theorem q_Faces {Q : World → Prop} {A : Option Addr} {L : List DT} (c : Nat) (h : Stay Q A L) (hfit : Fit L) (d : Int) (x : List Int) (hx : x = facesT L d) (W : World) (hq : Hid (Q W)) :
    Calls Try.prog 18 #[.agg #[.slice A L.length c], .int .i64 d] W fun e w' => ∃ A' c', e = .returned (.slice A' x.length c') ∧ Hid (IRow W.heap.size w' A' c' x) ∧ Hid (Q w') ∧ Hid (Below W.heap.size W w') := by
  subst hx
  refine (Faces_any L A c d W (h.row W hq.out) hfit).mono fun e w' hh => ?_
  obtain ⟨A', c', k1, k2, k3⟩ := hh
  exact ⟨A', c', k1, k2, h.step _ _ hq.out k3, k3⟩
theorem q_refFaces {Q : World → Prop} {A : Option Addr} {L : List DT} (c : Nat) (h : Stay Q A L) (hfit : Fit L) (d : Int) (x : List Int) (hx : x = facesT L d) (W : World) (hq : Hid (Q W)) :
    Calls Try.prog 24 #[.agg #[.slice A L.length c], .int .i64 d] W fun e w' => ∃ A' c', e = .returned (.slice A' x.length c') ∧ Hid (IRow W.heap.size w' A' c' x) ∧ Hid (Q w') ∧ Hid (Below W.heap.size W w') := by
  subst hx
  refine (refFaces_any L A c d W (h.row W hq.out) hfit.cnt hfit.faces).mono fun e w' hh => ?_
  obtain ⟨A', c', k1, k2, k3⟩ := hh
  exact ⟨A', c', k1, k2, h.step _ _ hq.out k3, k3⟩
theorem q_Fields {Q : World → Prop} {A : Option Addr} {L : List DT} (c : Nat) (h : Stay Q A L) (hfit : FitA L) (d : Int) (hd : I64 d) (x : List VT) (hx : x = fieldsT L d) (W : World) (hq : Hid (Q W)) :
    Calls Try.prog 19 #[.agg #[.slice A L.length c], .int .i64 d] W fun e w' => ∃ A' c', e = .returned (.slice A' x.length c') ∧ Hid (VRow W.heap.size w' A' c' x) ∧ Hid (Q w') ∧ Hid (Below W.heap.size W w') := by
  subst hx
  refine (Fields_any L A c d W (h.row W hq.out) hfit hd).mono fun e w' hh => ?_
  obtain ⟨A', c', k1, k2, k3⟩ := hh
  exact ⟨A', c', k1, k2, h.step _ _ hq.out k3, k3⟩
theorem q_refFields {Q : World → Prop} {A : Option Addr} {L : List DT} (c : Nat) (h : Stay Q A L) (hfit : FitA L) (d : Int) (x : List VT) (hx : x = fieldsT L d) (W : World) (hq : Hid (Q W)) :
    Calls Try.prog 28 #[.agg #[.slice A L.length c], .int .i64 d] W fun e w' => ∃ A' c', e = .returned (.slice A' x.length c') ∧ Hid (VRow W.heap.size w' A' c' x) ∧ Hid (Q w') ∧ Hid (Below W.heap.size W w') := by
  subst hx
  refine (refFields_any L A c d W (h.row W hq.out) hfit.cnt (Nat.le_trans hfit.len (by decide)) hfit.vars).mono fun e w' hh => ?_
  obtain ⟨A', c', k1, k2, k3⟩ := hh
  exact ⟨A', c', k1, k2, h.step _ _ hq.out k3, k3⟩
theorem q_SameInts {Q : World → Prop} (hst : ∀ W W', Q W → Below W.heap.size W W' → Q W') (l : List Int) (hl : l.length ≤ 1000000000) (B1 B2 : Nat) (A1 A2 : Option Addr) (c1 c2 : Nat) (W : World) (hq : Hid (Q W)) (h1 : Hid (IRow B1 W A1 c1 l)) (h2 : Hid (IRow B2 W A2 c2 l)) :
    Calls Try.prog 22 #[.slice A1 l.length c1, .slice A2 l.length c2] W fun e w' => e = .returned (.bool true) ∧ Hid (Q w') ∧ Hid (Below W.heap.size W w') :=
  (sameInts_any l A1 A2 c1 c2 W (h1.out.nsr) (h2.out.nsr) hl).mono fun _ _ hh => ⟨hh.1, hst _ _ hq.out hh.2, hh.2⟩
theorem q_SameVars {Q : World → Prop} (hst : ∀ W W', Q W → Below W.heap.size W W' → Q W') (l : List VT) (hl : l.length ≤ 1700000000000) (B1 B2 : Nat) (A1 A2 : Option Addr) (c1 c2 : Nat) (W : World) (hq : Hid (Q W)) (h1 : Hid (VRow B1 W A1 c1 l)) (h2 : Hid (VRow B2 W A2 c2 l)) :
    Calls Try.prog 27 #[.slice A1 l.length c1, .slice A2 l.length c2] W fun e w' => e = .returned (.bool true) ∧ Hid (Q w') ∧ Hid (Below W.heap.size W w') :=
  (sameVars_any l A1 A2 c1 c2 W (h1.out.vsr) (h2.out.vsr) hl).mono fun _ _ hh => ⟨hh.1, hst _ _ hq.out hh.2, hh.2⟩
theorem q_awake {Q : World → Prop} (hst : ∀ W W', Q W → Below W.heap.size W W' → Q W') (W : World) (hq : Hid (Q W)) : Calls Try.prog 13 #[] W fun e w' => e = .returned (.bool true) ∧ Hid (Q w') ∧ Hid (Below W.heap.size W w') :=
  (awake_any W).mono fun _ _ hh => ⟨hh.1, hst _ _ hq.out hh.2, hh.2⟩
end Go.Proofs.Ytkpieolmepngjaa
