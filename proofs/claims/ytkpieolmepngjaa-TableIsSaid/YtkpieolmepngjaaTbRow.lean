/-
  Rows of numbers that a call makes; what chains are.
-/
import Derived.Test.YtkpieolmepngjaaTbRef
import Derived.Test.YtkpieolmepngjaaPrRows
import Derived.Maps.AppendAt
namespace Go.Proofs.Ytkpieolmepngjaa
open Go Go.RowKit
set_option linter.unusedVariables false
set_option linter.unusedSimpArgs false

theorem info_parts {P : Program} {t : TypeId} {z : Value} {n k : Nat} (h : (P.info? t).map (fun i => (i.zero, i.size, i.bytes)) = some (some z, n, k)) : ∃ i0, P.info? t = some i0 ∧ i0.zero = some z ∧ i0.size = n ∧ i0.bytes = k := by
  cases hi : P.info? t with
  | none => rw [hi] at h; simp at h
  | some i0 => rw [hi] at h; simp at h; exact ⟨i0, rfl, h.1, h.2.1, h.2.2⟩
theorem Try.infoInt : (Try.prog.info? 3).map (fun i => (i.zero, i.size, i.bytes)) = some (some (.int .i64 0), 1, 8) := by kernel_rfl

/-- numbers as cells. -/
abbrev iv (l : List Int) : List Value := l.map (.int .i64)
/-- v is a row of the call's own (from block B on) that holds these numbers. -/
def IRow (B : Nat) (w : World) (A : Option Addr) (c : Nat) (l : List Int) : Prop := w.ownsRow B 3 1 (.slice A l.length c) l.length (iv l) ∧ ∀ x ∈ l, I64 x
theorem IRow.nsr {B : Nat} {w : World} {A : Option Addr} {c : Nat} {l : List Int} (h : IRow B w A c l) : NsR w w.heap.size A l := by
  obtain ⟨A', c', h1, h2⟩ := row_owned (R := NIn) rfl h.1 (fun k hk => by
    rw [Nat.mul_one]
    have h1 : ((iv l).drop k).take 1 = [.int .i64 l[k]] := by
      rw [List.take_one, List.head?_drop]
      simp [List.getElem?_eq_getElem hk]
    rw [h1]
    exact ⟨rfl, h.2 _ (List.getElem_mem _)⟩)
  simp only [Value.slice.injEq, true_and] at h1
  obtain ⟨rfl, rfl⟩ := h1
  exact h2
theorem IRow.below {B : Nat} {w w' : World} {A : Option Addr} {c : Nat} {l : List Int} (h : IRow B w A c l) (hb : Below w.heap.size w w') : IRow B w' A c l := by
  refine ⟨⟨h.1.1, ?_⟩, h.2⟩
  rcases h.1.2 with h0 | ⟨g, cap, cur, hv, hbg, hg, rest⟩
  · exact .inl h0
  · refine .inr ⟨g, cap, cur, hv, hbg, ?_, rest⟩
    have : g < w.heap.size := by
      rcases Nat.lt_or_ge g w.heap.size with h2 | h2
      · exact h2
      · rw [Array.getElem?_eq_none h2] at hg; cases hg
    rw [hb.block g this]
    exact hg
theorem IRow.nil (B : Nat) (w : World) : IRow B w none 0 [] := ⟨World.ownsRow_nil _ _ _ _, by simp⟩
/-- one more number, appended. -/
theorem IRow.snoc {B : Nat} {w w' : World} {A : Option Addr} {c : Nat} {l : List Int} {x : Int} {v : Value} {o : Obj} (h : IRow B w A c l) (hx : I64 x) (hB : B ≤ w.heap.size) (hown : w'.ownsRow B 3 1 v (l.length + 1) (iv l ++ [.int .i64 x]))
    (hg : (w.alloc o).grownBy w' (Value.slice A l.length c).ownBlock) : ∃ A' c', v = .slice A' (l ++ [x]).length c' ∧ IRow B w' A' c' (l ++ [x]) ∧ Below B w w' := by
  have hb : Below B w w' := ((Below.refl B w).alloc hB o).grown hg (by simp; omega) (fun j hj => (h.1.lt j hj).1)
  have e : iv (l ++ [x]) = iv l ++ [.int .i64 x] := by simp [iv]
  have hl : (l ++ [x]).length = l.length + 1 := by simp
  have hall : ∀ y ∈ l ++ [x], I64 y := fun y hy => by
    rcases List.mem_append.1 hy with h1 | h1
    · exact h.2 y h1
    · simp only [List.mem_singleton] at h1
      rw [h1]; exact hx
  rcases hown.2 with ⟨_, h0⟩ | ⟨g, cap, cur, hv, _⟩
  · omega
  · refine ⟨some ⟨g, 0, none⟩, cap, by rw [hl]; exact hv, ⟨?_, hall⟩, hb⟩
    rw [e, hl, ← hv]
    exact hown
/-- a call answers a new row of these numbers; nothing that was there is changed. -/
def ISays (w : World) (l : List Int) (e : Ending) (w' : World) : Prop := ∃ A c, e = .returned (.slice A l.length c) ∧ IRow w.heap.size w' A c l ∧ Below w.heap.size w w'

/-- a place in a list of declarations, each once. -/
def Met (L : List DT) (out : List Int) : Prop := out.Nodup ∧ ∀ x ∈ out, 0 ≤ x ∧ x < (L.length : Int)
theorem nodup_bound : ∀ (n : Nat) (l : List Int), l.Nodup → (∀ x ∈ l, 0 ≤ x ∧ x < (n : Int)) → l.length ≤ n
  | 0, l, _, h => by
    cases l with
    | nil => simp
    | cons x r => have := h x (by simp); omega
  | n + 1, l, hn, h => by
    by_cases hm : (n : Int) ∈ l
    · have h1 := nodup_bound n (l.erase n) (hn.erase _) (fun x hx => by
        rw [hn.mem_erase_iff] at hx
        have := h x hx.2
        omega)
      rw [List.length_erase_of_mem hm] at h1
      omega
    · have h1 := nodup_bound n l hn (fun x hx => by
        have := h x hx
        have : x ≠ n := fun e => hm (e ▸ hx)
        omega)
      omega
theorem Met.len {L : List DT} {out : List Int} (h : Met L out) : out.length ≤ L.length := nodup_bound _ _ h.1 h.2
theorem Met.i64 {L : List DT} {out : List Int} (h : Met L out) (hL : L.length ≤ 1000000000) : ∀ x ∈ out, I64 x := fun x hx => by
  have := h.2 x hx
  unfold I64
  omega
theorem Met.nil (L : List DT) : Met L [] := ⟨List.nodup_nil, by simp⟩
theorem Met.snoc {L : List DT} {out : List Int} {d q : Int} (h : Met L out) (h1 : isOfT L d q = true) (h2 : out.contains d = false) : Met L (out ++ [d]) := by
  obtain ⟨k, rfl, hk⟩ := isOfT_lt h1
  refine ⟨?_, fun x hx => ?_⟩
  · rw [List.nodup_append]
    refine ⟨h.1, by simp, fun a ha b hb => ?_⟩
    simp only [List.mem_singleton] at hb
    subst hb
    rintro rfl
    have : out.contains (k : Int) = true := by rw [List.contains_iff_mem]; exact ha
    rw [this] at h2
    cases h2
  · rcases List.mem_append.1 hx with h3 | h3
    · exact h.2 x h3
    · simp only [List.mem_singleton] at h3
      omega
theorem chainF_go {L : List DT} {f : Nat} {out : List Int} {d : Int} (h1 : isOfT L d 2 = true) (h2 : out.contains d = false) : chainF L (f + 1) out d = chainF L f (out ++ [d]) (findT L (baseT L d)) := by
  rw [chainF, h1, h2]
  rfl
theorem chainF_end {L : List DT} {f : Nat} {out : List Int} {d : Int} (h : isOfT L d 2 = false ∨ out.contains d = true) : chainF L (f + 1) out d = out := by
  rw [chainF]
  rcases h with h | h <;> rw [h] <;> simp
/-- all of a chain are classes, each once. -/
theorem chainF_met {L : List DT} : ∀ (f : Nat) (out : List Int) (d : Int), Met L out → (∀ x ∈ out, isOfT L x 2 = true) → Met L (chainF L f out d) ∧ ∀ x ∈ chainF L f out d, isOfT L x 2 = true
  | 0, out, d, h, h2 => ⟨h, h2⟩
  | f + 1, out, d, h, h2 => by
    rw [chainF]
    split
    · rename_i hh
      simp only [Bool.and_eq_true, Bool.not_eq_eq_eq_not, Bool.not_true] at hh
      refine chainF_met f _ _ (h.snoc hh.1 hh.2) fun x hx => ?_
      rcases List.mem_append.1 hx with h3 | h3
      · exact h2 x h3
      · simp only [List.mem_singleton] at h3
        rw [h3]; exact hh.1
    · exact ⟨h, h2⟩
theorem chainT_met (L : List DT) (d : Int) : Met L (chainT L d) := (chainF_met _ _ _ (Met.nil L) (by simp)).1
theorem chainT_class (L : List DT) (d : Int) : ∀ x ∈ chainT L d, isOfT L x 2 = true := (chainF_met _ _ _ (Met.nil L) (by simp)).2
def lenOfV : Value → Nat | .slice _ n _ => n | _ => 0
end Go.Proofs.Ytkpieolmepngjaa
