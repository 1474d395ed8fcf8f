/-
  lookup: what an index is, what its calls change; Of, isOf BY CONTRACTS.
-/
import Derived.Test.YtkpieolmepngjaaTbRefA
import Derived.Maps.OwnIn
import Derived.Maps.StringElems
namespace Go.Proofs.Ytkpieolmepngjaa
open Go Go.RowKit
set_option linter.unusedVariables false
set_option linter.unusedSimpArgs false

/-- what is asked of a unit: no list of it is longer than memory bears. -/
structure Fit (L : List DT) : Prop where
  len : L.length ≤ 32
  names : ∀ d ∈ L, d.name.size ≤ 1000000000
  faces : ∀ d ∈ L, d.faces.length ≤ 1000000000
  bases : ∀ d ∈ L, d.base.size ≤ 1000000000
  fnames : ∀ d ∈ L, ∀ f ∈ d.faces, f.size ≤ 1000000000
theorem Fit.cnt {L : List DT} (h : Fit L) : L.length ≤ 1000000000 := Nat.le_trans h.len (by decide)
/-- and no list of methods, none of variables is longer than memory bears. -/
structure FitA (L : List DT) : Prop extends Fit L where
  methods : ∀ d ∈ L, d.methods.length ≤ 1000000000
  vars : ∀ d ∈ L, d.vars.length ≤ 1048576
instance fitOf {L : List DT} : Coe (FitA L) (Fit L) := ⟨fun h => h.toFit⟩
/-- what GreatUnit says: what is not great bears this. -/
def GreatF (L : List DT) (w : World) (e : Ending) (w' : World) : Prop := (∃ r : Bool, e = .returned (.bool r) ∧ Hid (r = false → Fit L)) ∧ Below w.heap.size w w'

/-- a map's datum tells these numbers, -1 where a name is no key. -/
def MapOf (D : DataW Unit) (f : ByteArray → Int) : Prop := Maps.IsMap D ∧ ∀ s : ByteArray, (f s = -1 → Maps.has D (.string s.data.toList) = false) ∧ (f s ≠ -1 → Maps.has D (.string s.data.toList) = true ∧ ∀ z, D.atKey (.string s.data.toList) z = .lit (.int .i64 (f s)))

/-- what an index has made by now: the block of its map, the block of its bases' row. -/
structure IX where
  mb : Option Nat
  g : Option Nat
/-- a block that is an index's own. -/
def IX.has (p : Nat) (I : IX) (h : Nat) : Prop := h = p ∨ I.mb = some h ∨ I.g = some h
def basesV (n : Nat) : Option Nat → Value
  | none => .slice none 0 0
  | some g => .slice (some ⟨g, 0, none⟩) n n
/-- an index's cells. -/
abbrev ixCells (A : Option Addr) (n c : Nat) (I : IX) : Array Value := #[.slice A n c, .map I.mb, basesV n I.g]
structure XAt (L : List DT) (A : Option Addr) (c p N : Nat) (W : World) (I : IX) : Prop where
  box : W.heap[p]? = some (.cells (ixCells A L.length c I) 103 (0, 0))
  row : DsR W N A L
  far : ∀ h, I.has p h → N ≤ h ∧ h < W.heap.size
  nm : ∀ m, I.mb = some m → m ≠ p ∧ I.g ≠ some m
  ng : ∀ g, I.g = some g → g ≠ p
  map : ∀ m, I.mb = some m → ∃ n D, W.ownsMap Try.prog 9 (plainElem (H := Unit) Try.prog 3) m n D ∧ MapOf D (findT L)
  bases : ∀ g, I.g = some g → ∃ cs : Array Value, W.heap[g]? = some (.cells cs 3 (0, 0)) ∧ cs.size = L.length ∧ ∀ i, i < L.length → cs[i]? = some (.int .i64 0) ∨ cs[i]? = some (.int .i64 (findT L (baseT L i) + 2))
/-- all that was there ahead of S stays, but an index's own blocks. -/
structure XFr (p S : Nat) (W : World) (I : IX) (W' : World) (I' : IX) : Prop where
  os : W'.os = W.os
  tape : W'.tape = W.tape
  output : W'.output = W.output
  size : W.heap.size ≤ W'.heap.size
  block : ∀ h, h < S → ¬ I.has p h → W'.heap[h]? = W.heap[h]?
  later : ∀ h, I'.has p h → I.has p h ∨ S ≤ h
/-- nothing is changed but an index's own blocks. -/
abbrev XTo (p : Nat) (W : World) (I : IX) (W' : World) (I' : IX) : Prop := XFr p W.heap.size W I W' I'
theorem XFr.refl (p S : Nat) (W : World) (I : IX) : XFr p S W I W I := ⟨rfl, rfl, rfl, Nat.le_refl _, fun _ _ _ => rfl, fun _ h => .inl h⟩
theorem XFr.trans {p S : Nat} {U V W : World} {I J K : IX} (h : XFr p S U I V J) (k : XTo p V J W K) (hS : S ≤ V.heap.size) : XFr p S U I W K := ⟨k.os.trans h.os, k.tape.trans h.tape, k.output.trans h.output, Nat.le_trans h.size k.size, fun i h1 h2 => (k.block i (by omega) (fun h3 => by rcases h.later i h3 with h4 | h4; exact h2 h4; omega)).trans (h.block i h1 h2), fun i h1 => by
  rcases k.later i h1 with h2 | h2
  · exact h.later i h2
  · exact .inr (by omega)⟩
theorem XTo.trans {p : Nat} {U V W : World} {I J K : IX} (h : XTo p U I V J) (k : XTo p V J W K) : XTo p U I W K := XFr.trans h k h.size
theorem XFr.quiet {p S : Nat} {U V W : World} {I J : IX} (h : XFr p S U I V J) (k : Below S V W) : XFr p S U I W J := ⟨k.os.trans h.os, k.tape.trans h.tape, k.output.trans h.output, Nat.le_trans h.size k.size, fun i h1 h2 => (k.block i h1).trans (h.block i h1 h2), h.later⟩
theorem XFr.low {p S S' : Nat} {W W' : World} {I I' : IX} (h : XFr p S W I W' I') (hs : S' ≤ S) : XFr p S' W I W' I' := ⟨h.os, h.tape, h.output, h.size, fun i h1 h2 => h.block i (by omega) h2, fun i h1 => (h.later i h1).imp id (fun h2 => by omega)⟩
theorem XTo.of_below {p : Nat} {W W' : World} {I : IX} (k : Below W.heap.size W W') : XTo p W I W' I := (XFr.refl p _ W I).quiet k
/-- a block that is none of an index's stays none. -/
theorem XFr.none {p S h : Nat} {W W' : World} {I I' : IX} (k : XFr p S W I W' I') (hl : h < S) (hn : ¬ I.has p h) : ¬ I'.has p h := fun h1 => by
  rcases k.later h h1 with h2 | h2
  · exact hn h2
  · omega
theorem XAt.stay {L : List DT} {A : Option Addr} {c p N : Nat} {W W' : World} {I : IX} (h : XAt L A c p N W I) (hs : W.heap.size ≤ W'.heap.size) (hb : ∀ k, k < N ∨ I.has p k → W'.heap[k]? = W.heap[k]?) : XAt L A c p N W' I := by
  refine ⟨(hb p (.inr (.inl rfl))).trans h.box, DsR.mono (Nat.le_refl _) (fun g hg => hb g (.inl hg)) h.row, fun k hk => ⟨(h.far k hk).1, Nat.lt_of_lt_of_le (h.far k hk).2 hs⟩, h.nm, h.ng, fun m hm => ?_, fun g hg => ?_⟩
  · obtain ⟨n, D, ⟨es, ck, hh, hr⟩, hf⟩ := h.map m hm
    exact ⟨n, D, ⟨es, ck, (hb m (.inr (.inr (.inl hm)))).trans hh, hr⟩, hf⟩
  · obtain ⟨cs, h1, h2⟩ := h.bases g hg
    exact ⟨cs, (hb g (.inr (.inr (.inr hg)))).trans h1, h2⟩
theorem XAt.pN {L : List DT} {A : Option Addr} {c p N : Nat} {W : World} {I : IX} (h : XAt L A c p N W I) : N ≤ p := (h.far p (.inl rfl)).1
theorem XAt.below {L : List DT} {A : Option Addr} {c p N : Nat} {W W' : World} {I : IX} (h : XAt L A c p N W I) (hb : Below W.heap.size W W') : XAt L A c p N W' I := h.stay hb.size fun k hk => by
  rcases hk with hk | hk
  · exact hb.block k (by have := (h.far p (.inl rfl)); omega)
  · exact hb.block k (h.far k hk).2
theorem XAt.drew {L : List DT} {A : Option Addr} {c p N : Nat} {W : World} {I : IX} (h : XAt L A c p N W I) : XAt L A c p N W.drew I := h.stay (Nat.le_refl _) (fun _ _ => rfl)
theorem XTo.drew {p : Nat} {W W' : World} {I I' : IX} (h : XTo p W.drew I W' I') : XTo p W I W' I' := ⟨h.os, h.tape, h.output, h.size, h.block, h.later⟩
theorem XAt.lt {L : List DT} {A : Option Addr} {c p N : Nat} {W : World} {I : IX} (h : XAt L A c p N W I) : N < W.heap.size := by have := h.far p (.inl rfl); omega
theorem XAt.rowAt {L : List DT} {A : Option Addr} {c p N : Nat} {W : World} {I : IX} (h : XAt L A c p N W I) : DsR W W.heap.size A L := DsR.mono (Nat.le_of_lt h.lt) (fun _ _ => rfl) h.row
/-- the index's own blocks lie from N on: what lies ahead of N is not touched. -/
theorem XFr.toBelow {L : List DT} {A : Option Addr} {c p N S : Nat} {W W' : World} {I I' : IX} (h : XAt L A c p N W I) (k : XFr p S W I W' I') (hS : N ≤ S) : Below N W W' := ⟨k.os, k.tape, k.output, k.size, fun i hi => k.block i (by omega) (fun h1 => by have := (h.far i h1).1; omega)⟩
theorem XAt.c0 {L : List DT} {A : Option Addr} {c p N : Nat} {W : World} {I : IX} (h : XAt L A c p N W I) : W.cell? ⟨p, 0, none⟩ = some (.slice A L.length c) := by rw [cell_of_row _ _ 0 _ _ _ h.box]; rfl
theorem XAt.c1 {L : List DT} {A : Option Addr} {c p N : Nat} {W : World} {I : IX} (h : XAt L A c p N W I) : W.cell? ⟨p, 1, none⟩ = some (.map I.mb) := by rw [cell_of_row _ _ 1 _ _ _ h.box]; rfl
theorem XAt.c2 {L : List DT} {A : Option Addr} {c p N : Nat} {W : World} {I : IX} (h : XAt L A c p N W I) : W.cell? ⟨p, 2, none⟩ = some (basesV L.length I.g) := by rw [cell_of_row _ _ 2 _ _ _ h.box]; rfl
theorem XAt.fz {L : List DT} {A : Option Addr} {c p N : Nat} {W : World} {I : IX} (h : XAt L A c p N W I) (j : Nat) : W.frozen? ⟨p, j, none⟩ = false := frozen_of_row _ _ j _ _ h.box

set_option maxHeartbeats 1000000 in
theorem of_any (L : List DT) (A : Option Addr) (c : Nat) (w : World) (ha : DsR w w.heap.size A L) :
    Calls Try.prog 47 #[.agg #[.slice A L.length c]] w fun e w' => ∃ p, e = .returned (.pointer (some ⟨p, 0, none⟩)) ∧ Hid (XAt L A c p w.heap.size w' ⟨none, none⟩) ∧ Hid (Below w.heap.size w w') := by
  obtain ⟨R0, hR0⟩ : ∃ R0 : World, R0 = w.alloc (.cells #[.slice A L.length c] 24) := ⟨_, rfl⟩
  have hg : R0.heap[w.heap.size]? = some (.cells #[.slice A L.length c] 24 (0, 0)) := by rw [hR0]; exact heap_alloc_new w _
  have y0 : R0.cell? ⟨w.heap.size, 0, none⟩ = some (.slice A L.length c) := by rw [cell_of_row _ _ 0 _ _ _ hg]; rfl
  have hs : R0.heap.size = w.heap.size + 1 := by rw [hR0]; simp
  have hb0 : Below w.heap.size w R0 := by rw [hR0]; exact (Below.refl _ _).alloc (Nat.le_refl _) _
  have HB := Lib.hid hb0
  have HS := Lib.hid hs
  have HA := Lib.hid ha
  have HR0 := Lib.hid hR0
  rw [hR0] at y0
  clear hg hs ha hb0 hR0
  go_enter Try.func47, Try.ntmps47
  go_wp2_with fail
  go_ret
  rw [← HR0.out]
  have hbx : Below w.heap.size w (R0.alloc (.cells #[.slice A L.length c, .map none, .slice none 0 0] 103)) := HB.out.alloc HB.out.size _
  refine ⟨R0.heap.size, by simp [HS.out], ⟨heap_alloc_new _ _, DsR.mono (Nat.le_refl _) hbx.block HA.out, fun k hk => ?_, fun m hm => (by cases hm), fun g hm => (by cases hm), fun m hm => (by cases hm), fun g hm => (by cases hm)⟩, hbx⟩
  rcases hk with rfl | hk | hk
  · have := HS.out
    simp
    omega
  · cases hk
  · cases hk
set_option maxHeartbeats 1000000 in
theorem lkIsOf_any (L : List DT) (A : Option Addr) (c p N : Nat) (I : IX) (d q : Int) (w : World) (h : XAt L A c p N w I) :
    Calls Try.prog 65 #[.pointer (some ⟨p, 0, none⟩), .int .i64 d, .int .i64 q] w fun e w' => e = .returned (.bool (isOfT L d q)) ∧ Hid (Below w.heap.size w w') := by
  have y0 := h.c0
  have HA := h.row
  have HB : Hid (Below w.heap.size w w) := Below.refl _ _
  clear h
  by_cases h1 : d < 0
  · rw [isOfT_out (.inl h1)]
    have h2 : ¬ 0 ≤ d := by omega
    clear HA
    go_enter Try.func65, Try.ntmps65
    go_wp2_with fail
    go_ret
    exact ⟨rfl, HB⟩
  obtain ⟨k, rfl⟩ : ∃ k : Nat, d = k := ⟨d.toNat, by omega⟩
  by_cases h2 : k < L.length
  · have q2 : (0 : Int) ≤ (k : Int) := by omega
    obtain ⟨g, o, cs, rfl, hg, hlen, hc, he⟩ := HA k h2
    rw [isOfT_of h2]
    obtain ⟨D, hN⟩ : ∃ D : DT, D = L[k] := ⟨_, rfl⟩
    rw [← hN] at he ⊢
    obtain ⟨A1, c1, A2, c2, A3, c3, A4, c4, rfl, _⟩ := he
    have y1 := hc 0 _ rfl
    rw [Nat.add_zero] at y1
    clear hc hlen hg hN HA
    have q1 : (k : Int) < (L.length : Int) := by omega
    by_cases hk : D.kind = q
    · have e1 : decide (D.kind = q) = true := decide_eq_true hk
      rw [e1]
      subst hk
      go_enter Try.func65, Try.ntmps65
      go_wp2_with fail
      go_ret
      exact ⟨rfl, HB⟩
    · have e1 : decide (D.kind = q) = false := decide_eq_false hk
      rw [e1]
      have e2 : (D.kind == q) = false := eq_no hk
      clear e1
      go_enter Try.func65, Try.ntmps65
      go_wp2_with fail
      go_ret
      exact ⟨rfl, HB⟩
  · have q1 : ¬ (k : Int) < (L.length : Int) := by omega
    have q2 : (0 : Int) ≤ (k : Int) := by omega
    rw [isOfT_out (.inr (by omega))]
    clear HA
    go_enter Try.func65, Try.ntmps65
    go_wp2_with fail
    go_ret
    exact ⟨rfl, HB⟩
end Go.Proofs.Ytkpieolmepngjaa
