/-
  print's line: what lies in its block, and put BY A CONTRACT.
-/
import Derived.Test.YteijehmdabigeaaDoorRows
import Derived.WalkKit
import Derived.WalkSpells
import Derived.Lib.Hide
import Derived.Deep.AppendLies
import Derived.Deep.RegionHeld3
namespace Go.Proofs.YteijehmdabigeaaDoor
open Go Go.RowKit

theorem heap_alloc_size (w : World) (o : Obj) : (w.alloc o).heap.size = w.heap.size + 1 := by simp
theorem info_parts {P : Program} {t : TypeId} {z : Value} {n k : Nat} (h : (P.info? t).map (fun i => (i.zero, i.size, i.bytes)) = some (some z, n, k)) : ∃ i0, P.info? t = some i0 ∧ i0.zero = some z ∧ i0.size = n ∧ i0.bytes = k := by
  cases hi : P.info? t with
  | none => rw [hi] at h; simp at h
  | some i0 => rw [hi] at h; simp at h; exact ⟨i0, rfl, h.1, h.2.1, h.2.2⟩
theorem Tryd.infoStr : (Tryd.prog.info? 9).map (fun i => (i.zero, i.size, i.bytes)) = some (some (.string ByteArray.empty), 1, 16) := by kernel_rfl

/-- tokens as cells. -/
abbrev tv (l : List ByteArray) : List Value := l.map .string
/-- the line in block b holds these tokens, its row lies in block q; all of it from B on. -/
structure LAt (B : Nat) (w : World) (b : Nat) (q : Option Nat) (l : List ByteArray) : Prop where
  base : B ≤ b
  ne : q ≠ some b
  at_ : ∃ A c, w.heap[b]? = some (.cells #[.slice A l.length c] 61 (0, 0)) ∧ (Value.slice A l.length c).ownBlock = q ∧ w.ownsRow B 9 1 (.slice A l.length c) l.length (tv l)
theorem LAt.lt {B : Nat} {w : World} {b : Nat} {q : Option Nat} {l : List ByteArray} (h : LAt B w b q l) : b < w.heap.size := by
  obtain ⟨A, c, h1, _⟩ := h.at_
  rcases Nat.lt_or_ge b w.heap.size with h2 | h2
  · exact h2
  · rw [Array.getElem?_eq_none h2] at h1; cases h1
theorem LAt.row {B : Nat} {w : World} {b k : Nat} {q : Option Nat} {l : List ByteArray} (h : LAt B w b q l) (hk : q = some k) : B ≤ k ∧ k < w.heap.size := by
  obtain ⟨A, c, _, h2, h3⟩ := h.at_
  have := h3.lt k (h2.trans hk)
  exact ⟨this.1, this.2⟩

/-- from w to w' all blocks stay but the line's own, whose row lies in q' now. -/
structure Fr (b : Nat) (q q' : Option Nat) (w w' : World) : Prop where
  os : w'.os = w.os
  tape : w'.tape = w.tape
  output : w'.output = w.output
  size : w.heap.size ≤ w'.heap.size
  row : q' = q ∨ ∃ k, q' = some k ∧ w.heap.size ≤ k
  block : ∀ g, g < w.heap.size → g ≠ b → q ≠ some g → w'.heap[g]? = w.heap[g]?
theorem Fr.refl (b : Nat) (q : Option Nat) (w : World) : Fr b q q w w := ⟨rfl, rfl, rfl, Nat.le_refl _, .inl rfl, fun _ _ _ _ => rfl⟩
theorem Fr.trans {b : Nat} {q q' q'' : Option Nat} {u v w : World} (h : Fr b q q' u v) (k : Fr b q' q'' v w) : Fr b q q'' u w := by
  refine ⟨k.os.trans h.os, k.tape.trans h.tape, k.output.trans h.output, Nat.le_trans h.size k.size, ?_, fun g h1 h2 h3 => ?_⟩
  · rcases k.row with e | ⟨n, e, hn⟩
    · rw [e]; exact h.row
    · exact .inr ⟨n, e, Nat.le_trans h.size hn⟩
  · refine (k.block g (Nat.lt_of_lt_of_le h1 h.size) h2 ?_).trans (h.block g h1 h2 h3)
    rcases h.row with e | ⟨n, e, hn⟩
    · rw [e]; exact h3
    · rw [e]; intro e2; injection e2 with e2; omega
/-- where all that was there stays. -/
theorem Fr.of_below {b : Nat} {q : Option Nat} {w w' : World} (h : Below w.heap.size w w') : Fr b q q w w' := ⟨h.os, h.tape, h.output, h.size, .inl rfl, fun g h1 _ _ => h.block g h1⟩
theorem Fr.below {B b : Nat} {q q' : Option Nat} {w w' : World} {l : List ByteArray} (h : Fr b q q' w w') (hl : LAt B w b q l) : Below B w w' := by
  have hb := hl.base
  have hlt := hl.lt
  refine ⟨h.os, h.tape, h.output, h.size, fun k hk => h.block k (by omega) (by omega) fun e => ?_⟩
  have := (hl.row e).1
  omega
theorem LAt.below {B : Nat} {w w' : World} {b : Nat} {q : Option Nat} {l : List ByteArray} (h : LAt B w b q l) (hb : Below w.heap.size w w') : LAt B w' b q l := by
  obtain ⟨A, c, h1, h2, h3⟩ := h.at_
  refine ⟨h.base, h.ne, A, c, (hb.block b h.lt).trans h1, h2, ?_⟩
  refine ⟨h3.1, ?_⟩
  rcases h3.2 with ⟨h4, h5⟩ | ⟨g, cap, cur, hv, hbg, hg, rest⟩
  · exact .inl ⟨h4, h5⟩
  · refine .inr ⟨g, cap, cur, hv, hbg, ?_, rest⟩
    have : g < w.heap.size := by
      rcases Nat.lt_or_ge g w.heap.size with h2 | h2
      · exact h2
      · rw [Array.getElem?_eq_none h2] at hg; cases hg
    rw [hb.block g this]
    exact hg

/-- what a method of the line comes to: it has written these tokens. -/
def Wrote (B b : Nat) (q : Option Nat) (l : List ByteArray) (w : World) (e : Ending) (w' : World) : Prop := e = .returned (.tuple #[]) ∧ ∃ q', LAt B w' b q' l ∧ Fr b q q' w w'

theorem ownsRow_set {w : World} {base n : Nat} {e : TypeId} {size : Nat} {g cap : Nat} {xs : List Value} (h : w.ownsRow base e size (.slice (some ⟨g, 0, none⟩) n cap) n xs) (p : Addr) (u : Value) (hne : g ≠ p.block) : (w.setCell p u).ownsRow base e size (.slice (some ⟨g, 0, none⟩) n cap) n xs := by
  refine ⟨h.1, ?_⟩
  rcases h.2 with ⟨h1, _⟩ | ⟨g', cap', cur, hv, hbg, hgg, rest⟩
  · cases h1
  · simp only [Value.slice.injEq, Option.some.injEq, Addr.mk.injEq, and_true, true_and] at hv
    obtain ⟨rfl, rfl⟩ := hv
    refine .inr ⟨g, cap, cur, rfl, hbg, ?_, rest⟩
    rw [Below.heap_setCell _ _ _ _ hne]
    exact hgg

theorem put_done {w w2 : World} {B b gg cap cc : Nat} {l news : List ByteArray} {q : Option Nat} {A : Option Addr}
    (h : LAt B w b q l) (hc : w.heap[b]? = some (.cells #[.slice A l.length cc] 61 (0, 0))) (hq : (Value.slice A l.length cc).ownBlock = q)
    (hown1 : w2.ownsRow B 9 1 (.slice (some ⟨gg, 0, none⟩) (l.length + news.length) cap) (l.length + news.length) (tv l ++ tv news))
    (hgrow : w.grownBy w2 (Value.slice A l.length cc).ownBlock) (hat : (Value.slice A l.length cc).ownBlock = some gg ∨ gg = w.heap.size) :
    Wrote B b q (l ++ news) w (.returned (.tuple #[])) (w2.setCell ⟨b, 0, none⟩ (.slice (some ⟨gg, 0, none⟩) (l.length + news.length) cap)) := by
  have hlt := h.lt
  rw [hq] at hgrow hat
  have hne : gg ≠ b := by
    rcases hat with h1 | h1
    · rintro rfl; exact h.ne h1
    · omega
  have hsz := hgrow.size
  have hfr : w2.heap[b]? = w.heap[b]? := hgrow.block b hlt (fun e => h.ne e.symm)
  refine ⟨rfl, some gg, ⟨h.base, fun e => hne (by injection e), some ⟨gg, 0, none⟩, cap, ?_, rfl, ?_⟩, ?_⟩
  · have e1 : (w2.setCell ⟨b, 0, none⟩ (.slice (some ⟨gg, 0, none⟩) (l.length + news.length) cap)).heap[b]? = some (.cells #[.slice (some ⟨gg, 0, none⟩) (l.length + news.length) cap] 61 (0, 0)) := by
      have h2 : w2.heap[b]? = some (.cells #[.slice A l.length cc] 61 (0, 0)) := hfr.trans hc
      simp [World.setCell, Array.getElem?_modify, h2]
    rw [e1, List.length_append]
  · have e2 : tv (l ++ news) = tv l ++ tv news := by simp [tv]
    rw [e2, List.length_append]
    exact ownsRow_set hown1 _ _ hne
  · refine ⟨hgrow.os, hgrow.tape, hgrow.output, by simpa using hsz, ?_, fun g h1 h2 h3 => ?_⟩
    · rcases hat with h1 | h1
      · exact .inl h1.symm
      · exact .inr ⟨gg, rfl, by omega⟩
    · rw [Below.heap_setCell _ _ _ _ h2]
      exact hgrow.block g h1 (fun e => h3 e.symm)

set_option maxHeartbeats 1000000 in
set_option maxRecDepth 100000 in
theorem put_any (b : Nat) (q : Option Nat) (l news : List ByteArray) (a : Addr) (c : Nat) (w : World) (B : Nat) (h : LAt B w b q l) (hB : B ≤ w.heap.size)
    (hn : ∀ (j : Nat) u, (tv news)[j]? = some u → w.cell? (a.add j) = some u) (h0 : 0 < news.length) (hl : l.length + news.length ≤ 100000000) :
    Calls Tryd.prog 36 #[.pointer (some ⟨b, 0, none⟩), .slice (some a) news.length c] w (Wrote B b q (l ++ news) w) := by
  obtain ⟨i0, hi, hz0, hz1, hz2⟩ := info_parts Tryd.infoStr
  obtain ⟨A, cc, hc, hq, hown⟩ := h.at_
  have HD := Lib.hid (fun (gg cap : Nat) w2 => put_done (w := w) (w2 := w2) (B := B) (b := b) (gg := gg) (cap := cap) (cc := cc) (l := l) (news := news) (q := q) (A := A) h hc hq)
  have hlt := h.lt
  have hne : (Value.slice A l.length cc).ownBlock ≠ some b := by rw [hq]; exact h.ne
  have c0 : w.cell? ⟨b, 0, none⟩ = some (.slice A l.length cc) := by simp [World.cell?, hc]
  have f0 : w.frozen? ⟨b, 0, none⟩ = false := by simp [World.frozen?, hc]
  clear h hc hq
  go_enter Tryd.func36, Tryd.ntmps36
  go_wp2_with (at_builtin; refine wpList_append_lies _ (by rfl) _ _ _ (by rfl) B 9 i0 _ 1 16 Tryd.underlying45 hi hz0 hz1 hz2 rfl (by omega) (.slice A l.length cc) l.length (tv l) (by rfl) hown a news.length c (tv news) (by rfl) (by simp) hn (by intro u hu; simp at hu; obtain ⟨x, _, rfl⟩ := hu; rfl) h0 (by unfold maxLen; omega) (by omega) hB w.heap.size rfl ?_; intro gg cap w2 hown1 hgrow hat hlt2; have f1 := (hgrow.frozen_far ⟨b, 0, none⟩ hlt (Ne.symm hne)).trans f0; have c1 := (hgrow.cell_far ⟨b, 0, none⟩ hlt (Ne.symm hne)).trans c0)
  go_end0
  exact HD.out gg cap w2 hown1 hgrow hat
end Go.Proofs.YteijehmdabigeaaDoor
