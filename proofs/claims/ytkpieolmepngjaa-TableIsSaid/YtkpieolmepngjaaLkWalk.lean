/-
  lookup: a walk beside an index; walk, meet BY CONTRACTS.
-/
import Derived.Test.YtkpieolmepngjaaLkIx
namespace Go.Proofs.Ytkpieolmepngjaa
open Go Go.RowKit
set_option linter.unusedVariables false
set_option linter.unusedSimpArgs false

/-- a walk's own blocks: itself, its marks, its order's row. -/
def KS (pw gw : Nat) (A : Option Addr) (out : List Int) (c h : Nat) : Prop := h = pw ∨ h = gw ∨ (Value.slice A out.length c).ownBlock = some h
structure KAt (S : Nat) (W : World) (pw gw n : Nat) (A : Option Addr) (c : Nat) (out : List Int) : Prop where
  box : W.heap[pw]? = some (.cells #[.slice (some ⟨gw, 0, none⟩) n n, .slice A out.length c] 111 (0, 0))
  met : ∃ cs : Array Value, W.heap[gw]? = some (.cells cs 4 (0, 0)) ∧ cs.size = n ∧ ∀ i, i < n → cs[i]? = some (.bool (out.contains (i : Int)))
  row : IRow S W A c out
  far : ∀ h, KS pw gw A out c h → S ≤ h ∧ h < W.heap.size
  ne : pw ≠ gw
  nr : ∀ j, (Value.slice A out.length c).ownBlock = some j → j ≠ pw ∧ j ≠ gw
theorem IRow.stay {B : Nat} {W W' : World} {A : Option Addr} {c : Nat} {l : List Int} (h : IRow B W A c l) (hb : ∀ k, (Value.slice A l.length c).ownBlock = some k → W'.heap[k]? = W.heap[k]?) : IRow B W' A c l := by
  refine ⟨⟨h.1.1, ?_⟩, h.2⟩
  rcases h.1.2 with h0 | ⟨g, cap, cur, hv, hbg, hg, rest⟩
  · exact .inl h0
  · refine .inr ⟨g, cap, cur, hv, hbg, ?_, rest⟩
    rw [hb g (by rw [hv]; rfl)]
    exact hg
theorem KAt.stay {S : Nat} {W W' : World} {pw gw n : Nat} {A : Option Addr} {c : Nat} {out : List Int} (h : KAt S W pw gw n A c out) (hs : W.heap.size ≤ W'.heap.size) (hb : ∀ k, KS pw gw A out c k → W'.heap[k]? = W.heap[k]?) : KAt S W' pw gw n A c out := by
  obtain ⟨cs, h1, h2⟩ := h.met
  exact ⟨(hb pw (.inl rfl)).trans h.box, ⟨cs, (hb gw (.inr (.inl rfl))).trans h1, h2⟩, h.row.stay fun k hk => hb k (.inr (.inr hk)), fun k hk => ⟨(h.far k hk).1, Nat.lt_of_lt_of_le (h.far k hk).2 hs⟩, h.ne, h.nr⟩
/-- an index and a walk, side by side. -/
structure WX (L : List DT) (A : Option Addr) (c p N S : Nat) (W0 : World) (I0 : IX) (pw gw : Nat) (W : World) (I : IX) (A' : Option Addr) (c' : Nat) (out : List Int) : Prop where
  ix : XAt L A c p N W I
  wk : KAt S W pw gw L.length A' c' out
  dis : ∀ h, I.has p h → ¬ KS pw gw A' out c' h
  fr : XFr p S W0 I0 W I
  sz : S ≤ W.heap.size
  le : N ≤ S
theorem WX.quiet {L : List DT} {A : Option Addr} {c p N S : Nat} {W0 : World} {I0 : IX} {pw gw : Nat} {W W' : World} {I : IX} {A' : Option Addr} {c' : Nat} {out : List Int} (h : WX L A c p N S W0 I0 pw gw W I A' c' out) (k : Below W.heap.size W W') : WX L A c p N S W0 I0 pw gw W' I A' c' out :=
  ⟨h.ix.below k, h.wk.stay k.size fun j hj => k.block j (h.wk.far j hj).2, h.dis, h.fr.quiet (k.mono h.sz), Nat.le_trans h.sz k.size, h.le⟩
theorem WX.step {L : List DT} {A : Option Addr} {c p N S : Nat} {W0 : World} {I0 : IX} {pw gw : Nat} {W W' : World} {I I' : IX} {A' : Option Addr} {c' : Nat} {out : List Int} (h : WX L A c p N S W0 I0 pw gw W I A' c' out) (hx : XAt L A c p N W' I') (k : XTo p W I W' I') : WX L A c p N S W0 I0 pw gw W' I' A' c' out := by
  refine ⟨hx, h.wk.stay k.size fun j hj => k.block j (h.wk.far j hj).2 fun h1 => h.dis j h1 hj, fun j h1 h2 => ?_, h.fr.trans k h.sz, Nat.le_trans h.sz k.size, h.le⟩
  rcases k.later j h1 with h3 | h3
  · exact h.dis j h3 h2
  · have := (h.wk.far j h2).2
    omega
/-- the order's row, read. -/
theorem WX.order {L : List DT} {A : Option Addr} {c p N S : Nat} {W0 : World} {I0 : IX} {pw gw : Nat} {W : World} {I : IX} {A' : Option Addr} {c' : Nat} {out : List Int} (h : WX L A c p N S W0 I0 pw gw W I A' c' out) : W.cell? ⟨pw, 1, none⟩ = some (.slice A' out.length c') := by rw [cell_of_row _ _ 1 _ _ _ h.wk.box]; rfl
/-- what a call answers that makes a row: it is none of the index's own blocks. -/
def XSays (L : List DT) (A : Option Addr) (c p N : Nat) (W : World) (I : IX) (l : List Int) (e : Ending) (w' : World) : Prop := ∃ A' c' I', e = .returned (.slice A' l.length c') ∧ Hid (IRow W.heap.size w' A' c' l) ∧ Hid (∀ h, I'.has p h → (Value.slice A' l.length c').ownBlock ≠ some h) ∧ Hid (XAt L A c p N w' I') ∧ Hid (XTo p W I w' I')
theorem IRow.own_lt {B : Nat} {W : World} {A : Option Addr} {c : Nat} {l : List Int} (h : IRow B W A c l) {k : Nat} (hk : (Value.slice A l.length c).ownBlock = some k) : B ≤ k ∧ k < W.heap.size := by
  rcases h.1.2 with ⟨h1, h0⟩ | ⟨g, cap, cur, hv, hbg, hg, rest⟩
  · rw [h1] at hk; cases hk
  · rw [hv] at hk
    obtain rfl : g = k := by simpa [Value.ownBlock] using hk
    exact ⟨hbg, (Array.getElem?_eq_some_iff.1 hg).1⟩
/-- a row beside an index stays. -/
theorem IRow.ix {B p : Nat} {W W' : World} {I I' : IX} {A : Option Addr} {c : Nat} {l : List Int} (h : IRow B W A c l) (hn : ∀ k, I.has p k → (Value.slice A l.length c).ownBlock ≠ some k) (k : XTo p W I W' I') : IRow B W' A c l ∧ ∀ k, I'.has p k → (Value.slice A l.length c).ownBlock ≠ some k := by
  refine ⟨h.stay fun j hj => k.block j (h.own_lt hj).2 fun h1 => hn j h1 hj, fun j h1 h2 => ?_⟩
  rcases k.later j h1 with h3 | h3
  · exact hn j h3 h2
  · have := (h.own_lt h2).2
    omega
theorem Try.infoBool : (Try.prog.info? 4).map (fun i => (i.zero, i.size, i.bytes)) = some (some (.bool false), 1, 1) := by kernel_rfl

set_option maxHeartbeats 1000000 in
set_option maxRecDepth 100000 in
/-- a new walk beside an index. -/
theorem lkWalk_any (L : List DT) (A : Option Addr) (c p N : Nat) (I : IX) (w : World) (h : XAt L A c p N w I) (hn : L.length ≤ 1000000000) :
    Calls Try.prog 66 #[.pointer (some ⟨p, 0, none⟩)] w fun e w' => ∃ pw gw, e = .returned (.pointer (some ⟨pw, 0, none⟩)) ∧ Hid (WX L A c p N w.heap.size w I pw gw w' I none 0 []) := by
  obtain ⟨n, hn0⟩ : ∃ n, n = L.length := ⟨_, rfl⟩
  obtain ⟨i0, hi0, hz0, hz1, hz2⟩ := info_parts Try.infoBool
  obtain ⟨ms, hms⟩ : ∃ ms, ms = madeCells (Value.bool false).cells (n * 1) := ⟨_, rfl⟩
  have hmk : ∀ W : World, (Instr.makeSlice 109 (.int .i64 (n : Int)) (.int .i64 (n : Int))).run Try.prog W = .ok (.slice (some ⟨W.heap.size, 0, none⟩) n n) (W.alloc (.cells ms 4)) := fun W => by
    have := run_make (P := Try.prog) W 109 4 i0 (.bool false) Try.underlying109 hi0 hz0 .i64 .i64 n n (by omega) (Int.le_refl _) (by rw [hz2]; omega) (by omega)
    rw [hz1] at this
    rw [hms]
    simpa using this
  have y0 := h.c0
  have HX := Lib.hid h
  have HM := Lib.hid hms
  have HN := Lib.hid hn0
  rw [← hn0] at y0 hn
  clear hms hz0 hz1 hz2 hi0 h hn0
  go_enter Try.func66, Try.ntmps66
  go_wp2_with fail
  go_ret
  have hms : ms.size = n ∧ ∀ i, i < n → ms[i]? = some (.bool false) := by
    rw [HM.out, size_madeCells, Nat.mul_one]
    refine ⟨rfl, fun i hi => ?_⟩
    rw [Array.getElem?_eq_getElem (by rw [size_madeCells]; exact hi)]
    simp [madeCells, Value.cells, Nat.mod_one]
  obtain ⟨w1, hw1⟩ : ∃ w1, w1 = w.alloc (.cells ms 4) := ⟨_, rfl⟩
  have hs1 : w1.heap.size = w.heap.size + 1 := by rw [hw1]; simp
  have g1 : w1.heap[w.heap.size]? = some (.cells ms 4 (0, 0)) := by rw [hw1]; exact heap_alloc_new w _
  rw [← hw1]
  have hb : Below w.heap.size w (w1.alloc (.cells #[.slice (some ⟨w.heap.size, 0, none⟩) n n, .slice none 0 0] 111)) := by rw [hw1]; exact ((Below.refl _ _).alloc (Nat.le_refl _) _).alloc (by simp) _
  have g2 : (w1.alloc (.cells #[.slice (some ⟨w.heap.size, 0, none⟩) n n, .slice none 0 0] 111)).heap[w.heap.size]? = some (.cells ms 4 (0, 0)) := by rw [Below.heap_alloc _ _ _ (by omega)]; exact g1
  have hs2 : (w1.alloc (.cells #[.slice (some ⟨w.heap.size, 0, none⟩) n n, .slice none 0 0] 111)).heap.size = w.heap.size + 2 := by simp [hs1]
  have hxl := HX.out.lt
  have g3 := heap_alloc_new w1 (.cells #[.slice (some ⟨w.heap.size, 0, none⟩) n n, .slice none 0 0] 111)
  generalize w1.alloc (.cells #[.slice (some ⟨w.heap.size, 0, none⟩) n n, .slice none 0 0] 111) = w2 at hb g2 g3 hs2 ⊢
  rw [HN.out] at g3 hms
  have hk : ∀ h, KS w1.heap.size w.heap.size none [] 0 h → w.heap.size ≤ h ∧ h < w2.heap.size := fun k hk => by
    rcases hk with rfl | rfl | hk
    · omega
    · omega
    · cases hk
  have hd : ∀ h, I.has p h → ¬ KS w1.heap.size w.heap.size none [] 0 h := fun k h1 h2 => by
    have h3 := (HX.out.far k h1).2
    have h4 := (hk k h2).1
    omega
  exact ⟨w1.heap.size, w.heap.size, by rw [hs1]; rfl, ⟨HX.out.below hb, ⟨g3, ⟨ms, g2, hms.1, fun i hi => by rw [hms.2 i hi]; rfl⟩, IRow.nil _ _, hk, by omega, fun j hj => by cases hj⟩, hd, XTo.of_below hb, by omega, by omega⟩⟩

theorem heap_set_cell {w : World} {g : Nat} {cs : Array Value} {T : TypeId} {fr : Nat × Nat} (h : w.heap[g]? = some (.cells cs T fr)) (j : Nat) (u : Value) : (w.setCell ⟨g, j, none⟩ u).heap[g]? = some (.cells (cs.set! j u) T fr) := by
  simp [World.setCell, Array.getElem?_modify, h]
/-- the marks behind one more. -/
theorem marks_set {cs : Array Value} {n k : Nat} {out : List Int} (hs : cs.size = n) (hk : k < n) (h : ∀ i, i < n → cs[i]? = some (.bool (out.contains (i : Int)))) :
    (cs.set! k (.bool true)).size = n ∧ ∀ i, i < n → (cs.set! k (.bool true))[i]? = some (.bool ((out ++ [(k : Int)]).contains (i : Int))) := by
  refine ⟨by simp [hs], fun i hi => ?_⟩
  have e : (out ++ [(k : Int)]).contains (i : Int) = (out.contains (i : Int) || decide (i = k)) := by
    rw [show decide (i = k) = decide ((i : Int) = (k : Int)) from by simp only [Int.natCast_inj]]
    simp
  rw [e]
  by_cases hik : i = k
  · subst hik
    have : i < cs.size := by omega
    simp [Array.set!, Array.setIfInBounds, this]
  · rw [decide_eq_false hik, Bool.or_false, ← h i hi]
    simp [Array.set!, Array.getElem?_setIfInBounds_ne (Ne.symm hik)]
/-- a number more on a row of the call's own: what is changed, where it lies. -/
theorem app_num {B : Nat} {W : World} {A : Option Addr} {c : Nat} {l : List Int} {d : Int} (h : IRow B W A c l) (hd : I64 d) (hB : B ≤ W.heap.size) (hl : l.length ≤ 1000000000) :
    ∃ v' w', (Builtin.append_ #[32, 32] 32 #[.slice A l.length c, .slice (some ⟨W.heap.size, 0, none⟩) 1 1]).run Try.prog (W.alloc (.cells #[.int .i64 d] 3)) = .ok v' w' ∧ ∃ A' c', v' = .slice A' (l ++ [d]).length c' ∧ IRow B w' A' c' (l ++ [d]) ∧ W.grownBy w' (Value.slice A l.length c).ownBlock ∧ ∀ k, (Value.slice A' (l ++ [d]).length c').ownBlock = some k → (Value.slice A l.length c).ownBlock = some k ∨ W.heap.size ≤ k := by
  obtain ⟨i0, hi0, hz0, hz1, hz2⟩ := info_parts Try.infoInt
  have hs : (W.alloc (.cells #[.int .i64 d] 3)).heap[W.heap.size]? = some (.cells #[.int .i64 d] 3 (0, 0)) := heap_alloc_new W _
  obtain ⟨v', w', k1, k2, k3, k4⟩ := app_run (P := Try.prog) (w := W.alloc (.cells #[.int .i64 d] 3)) (base := B) (t := 32) (ty := 32) (bytes := 8) Try.underlying32 hi0 hz0 hz1 hz2 (by rfl) (by decide) (h.1.alloc _) (A := some ⟨W.heap.size, 0, none⟩) (m := 1) (c := 1) (news := [.int .i64 d]) rfl (fun g o e j u hj => by
    simp only [Option.some.injEq, Addr.mk.injEq, and_true] at e
    obtain ⟨rfl, rfl⟩ := e
    match j, hj with
    | 0, hj =>
      simp only [List.getElem?_cons_zero, Option.some.injEq] at hj
      subst hj
      rw [cell_of_row _ _ 0 _ _ _ hs]
      rfl) (.inr (.inr ⟨_, _, rfl⟩)) (by simp [Value.oneCell']) (by unfold maxLen; omega) (by omega) (by simp; omega)
  have hlen : (l ++ [d]).length = l.length + 1 := by simp
  have hshape : ∃ A' c', v' = .slice A' (l ++ [d]).length c' := by
    rw [hlen]
    rcases k2.2 with ⟨h1, h2⟩ | ⟨g, cap, cur, h1, _⟩
    · exact ⟨none, 0, by rw [h1]; omega⟩
    · exact ⟨_, cap, h1⟩
  obtain ⟨A', c', rfl⟩ := hshape
  have e : iv (l ++ [d]) = iv l ++ [.int .i64 d] := by simp [iv]
  refine ⟨_, w', k1, A', c', rfl, ⟨by rw [e]; rw [← hlen] at k2; exact k2, fun x hx => ?_⟩, ⟨k3.os, k3.tape, k3.output, Nat.le_trans (by simp) k3.size, fun k hk hn => (k3.block k (by simp; omega) hn).trans (Below.heap_alloc _ _ _ hk)⟩, fun k hk => ?_⟩
  · rcases List.mem_append.1 hx with hx | hx
    · exact h.2 x hx
    · rw [List.mem_singleton.1 hx]; exact hd
  · rcases k4 with h4 | h4
    · exact .inl (h4.symm.trans hk)
    · rw [hk] at h4
      simp at h4
      exact .inr (by omega)
/-- what a walk's step may change: its own blocks. -/
structure KFr (pw gw : Nat) (A : Option Addr) (c : Nat) (out : List Int) (W : World) (A2 : Option Addr) (c2 : Nat) (out2 : List Int) (W' : World) : Prop where
  size : W.heap.size ≤ W'.heap.size
  block : ∀ j, j < W.heap.size → ¬ KS pw gw A out c j → W'.heap[j]? = W.heap[j]?
  later : ∀ j, KS pw gw A2 out2 c2 j → KS pw gw A out c j ∨ W.heap.size ≤ j
set_option maxHeartbeats 2000000 in
set_option maxRecDepth 100000 in
theorem lkMeet_any (L : List DT) (A : Option Addr) (c p N S : Nat) (W0 : World) (I0 I : IX) (pw gw k : Nat) (A' : Option Addr) (c' : Nat) (out : List Int) (w : World) (h : WX L A c p N S W0 I0 pw gw w I A' c' out) (hk : k < L.length) (hn : L.length ≤ 1000000000) (hol : out.length ≤ 1000000000) (hi : ∀ x ∈ out, I64 x) :
    Calls Try.prog 67 #[.pointer (some ⟨pw, 0, none⟩), .int .i64 (k : Int)] w fun e w' => e = .returned (.bool (!out.contains (k : Int))) ∧ ∃ A2 c2, Hid (WX L A c p N S W0 I0 pw gw w' I A2 c2 (if out.contains (k : Int) then out else out ++ [(k : Int)])) ∧ Hid (KFr pw gw A' c' out w A2 c2 (if out.contains (k : Int) then out else out ++ [(k : Int)]) w') := by
  obtain ⟨n, hn0⟩ : ∃ n, n = L.length := ⟨_, rfl⟩
  have h4 := h.wk.box
  have h5 := h.wk.row
  obtain ⟨cs, h6, h7, h8⟩ := h.wk.met
  obtain ⟨b, hb⟩ : ∃ b, b = out.contains (k : Int) := ⟨_, rfl⟩
  rw [← hn0] at h4 h7 h8 hk hn
  have y0 : w.cell? ⟨pw, 0, none⟩ = some (.slice (some ⟨gw, 0, none⟩) n n) := by rw [cell_of_row _ _ 0 _ _ _ h4]; rfl
  have y1 : w.cell? ⟨pw, 1, none⟩ = some (.slice A' out.length c') := by rw [cell_of_row _ _ 1 _ _ _ h4]; rfl
  have m : w.cell? ⟨gw, k, none⟩ = some (.bool b) := by rw [cell_of_row _ _ k _ _ _ h6, h8 k hk, hb]
  have q1 : (k : Int) < (n : Int) := by omega
  have q2 : (0 : Int) ≤ (k : Int) := by omega
  rw [← hb]
  have HH := Lib.hid h
  have HN := Lib.hid hn0
  cases b
  · have f0 : w.frozen? ⟨gw, k, none⟩ = false := frozen_of_row _ _ k _ _ h6
    have f1 : w.frozen? ⟨pw, 1, none⟩ = false := frozen_of_row _ _ 1 _ _ h4
    have n1 : pw ≠ gw := h.wk.ne
    have n2 : gw ≠ pw := fun e => h.wk.ne e.symm
    have lp := (h.wk.far pw (.inl rfl))
    have lg := (h.wk.far gw (.inr (.inl rfl)))
    have hrow1 : IRow S (w.setCell ⟨gw, k, none⟩ (.bool true)) A' c' out := h5.stay fun j hj => Below.heap_setCell _ _ _ _ (by show j ≠ gw; exact (h.wk.nr j hj).2)
    have hsz := h.sz
    obtain ⟨W1, hW1⟩ : ∃ W1, W1 = w.setCell ⟨gw, k, none⟩ (.bool true) := ⟨_, rfl⟩
    have hs1 : W1.heap.size = w.heap.size := by rw [hW1]; simp [World.setCell]
    have g1 : W1.heap[pw]? = some (.cells #[.slice (some ⟨gw, 0, none⟩) n n, .slice A' out.length c'] 111 (0, 0)) := by rw [hW1]; exact (Below.heap_setCell _ _ _ _ n1).trans h4
    have g2 : W1.heap[gw]? = some (.cells (cs.set! k (.bool true)) 4 (0, 0)) := by rw [hW1]; exact heap_set_cell h6 k _
    have g3 : ∀ j, j ≠ gw → W1.heap[j]? = w.heap[j]? := fun j hj => by rw [hW1]; exact Below.heap_setCell _ _ _ _ hj
    have e3 : W1.os = w.os ∧ W1.tape = w.tape ∧ W1.output = w.output := by rw [hW1]; exact ⟨rfl, rfl, rfl⟩
    rw [← hW1] at hrow1
    obtain ⟨vv, w3, hrun, A2, c2, rfl, hrow3, hgr, hloc⟩ := app_num hrow1 (d := (k : Int)) (by unfold I64; omega) (by omega) hol
    have p1 := (h.wk.nr)
    have hpw : (Value.slice A' out.length c').ownBlock ≠ some pw := fun e => (p1 _ e).1 rfl
    have hgw : (Value.slice A' out.length c').ownBlock ≠ some gw := fun e => (p1 _ e).2 rfl
    have x3 : w3.heap[pw]? = some (.cells #[.slice (some ⟨gw, 0, none⟩) n n, .slice A' out.length c'] 111 (0, 0)) := (hgr.block pw (by omega) (fun e => hpw e.symm)).trans g1
    have x4 : w3.heap[gw]? = some (.cells (cs.set! k (.bool true)) 4 (0, 0)) := (hgr.block gw (by omega) (fun e => hgw e.symm)).trans g2
    have x1 : w3.cell? ⟨pw, 1, none⟩ = some (.slice A' out.length c') := by rw [cell_of_row _ _ 1 _ _ _ x3]; rfl
    have x2 : w3.frozen? ⟨pw, 1, none⟩ = false := frozen_of_row _ _ 1 _ _ x3
    have hs3 := hgr.size
    -- the state behind the last store
    have key : ∀ W4, W4 = w3.setCell ⟨pw, 1, none⟩ (.slice A2 (out ++ [(k : Int)]).length c2) → WX L A c p N S W0 I0 pw gw W4 I A2 c2 (out ++ [(k : Int)]) ∧ KFr pw gw A' c' out w A2 c2 (out ++ [(k : Int)]) W4 := by
      intro W4 hW4
      have hs4 : W4.heap.size = w3.heap.size := by rw [hW4]; simp [World.setCell]
      have b4 : ∀ j, j ≠ pw → W4.heap[j]? = w3.heap[j]? := fun j hj => by rw [hW4]; exact Below.heap_setCell _ _ _ _ hj
      have c4 : W4.heap[pw]? = some (.cells #[.slice (some ⟨gw, 0, none⟩) n n, .slice A2 (out ++ [(k : Int)]).length c2] 111 (0, 0)) := by rw [hW4]; exact heap_set_cell x3 1 _
      have same : ∀ j, j < w.heap.size → ¬ KS pw gw A' out c' j → W4.heap[j]? = w.heap[j]? := fun j h1 h2 => by
        have m1 : j ≠ pw := fun e => h2 (.inl e)
        have m2 : j ≠ gw := fun e => h2 (.inr (.inl e))
        have m3 : (Value.slice A' out.length c').ownBlock ≠ some j := fun e => h2 (.inr (.inr e))
        exact (b4 j m1).trans ((hgr.block j (by omega) (fun e => m3 e.symm)).trans (g3 j m2))
      have ks : ∀ j, KS pw gw A2 (out ++ [(k : Int)]) c2 j → KS pw gw A' out c' j ∨ w.heap.size ≤ j := fun j hj => by
        rcases hj with rfl | rfl | hj
        · exact .inl (.inl rfl)
        · exact .inl (.inr (.inl rfl))
        · rcases hloc j hj with h1 | h1
          · exact .inl (.inr (.inr h1))
          · exact .inr (by omega)
      have own : ∀ j, (Value.slice A2 (out ++ [(k : Int)]).length c2).ownBlock = some j → j ≠ pw ∧ j ≠ gw := fun j hj => by
        rcases hloc j hj with h1 | h1
        · exact p1 j h1
        · exact ⟨by omega, by omega⟩
      have os4 : W4.os = w.os ∧ W4.tape = w.tape ∧ W4.output = w.output := by
        rw [hW4]
        exact ⟨hgr.os.trans e3.1, hgr.tape.trans e3.2.1, hgr.output.trans e3.2.2⟩
      refine ⟨?_, ⟨by omega, same, ks⟩⟩
      refine ⟨h.ix.stay (by omega) (fun j hj => same j ?_ ?_), ⟨by rw [← hn0]; exact c4, ⟨cs.set! k (.bool true), (b4 gw n2).trans x4, by rw [← hn0]; exact marks_set h7 hk h8⟩, hrow3.stay (fun j hj => b4 j (own j hj).1), fun j hj => ?_, n1, own⟩, fun j h1 h2 => ?_, ?_, by omega, h.le⟩
      · rcases hj with hj | hj
        · have := h.le; omega
        · exact (h.ix.far j hj).2
      · rcases hj with hj | hj
        · intro h2
          have := (h.wk.far j h2).1
          have := h.le
          omega
        · exact h.dis j hj
      · rcases hj with rfl | rfl | hj
        · exact ⟨lp.1, by omega⟩
        · exact ⟨lg.1, by omega⟩
        · have h1 := hrow3.own_lt hj
          exact ⟨h1.1, by omega⟩
      · rcases ks j h2 with h3 | h3
        · exact h.dis j h1 h3
        · have := (h.ix.far j h1).2
          omega
      · refine h.fr.quiet ⟨os4.1, os4.2.1, os4.2.2, by omega, fun j hj => same j (by omega) (fun h2 => ?_)⟩
        have := (h.wk.far j h2).1
        omega
    have HK := Lib.hid (key _ rfl)
    have hll : (out ++ [(k : Int)]).length = out.length + 1 := by simp
    rw [hll] at HK
    have HRUN : Hid (∃ v' w', (Builtin.append_ #[32, 32] 32 #[.slice A' out.length c', .slice (some ⟨w.heap.size, 0, none⟩) 1 1]).run Try.prog ((w.setCell ⟨gw, k, none⟩ (.bool true)).alloc (.cells #[.int .i64 (k : Int)] 3)) = .ok v' w' ∧ v' = .slice A2 (out ++ [(k : Int)]).length c2 ∧ w' = w3) := by
      rw [← hs1, ← hW1]
      exact ⟨_, _, hrun, rfl, rfl⟩
    clear h h4 h5 h6 h7 h8 hb key hgr hrow3 hrow1 hloc x3 x4 hrun g1 g2 g3 hW1 hs1 hs3 e3 hpw hgw p1 hi
    go_enter Try.func67, Try.ntmps67
    go_wp2_with (at_builtin; refine wpList_app rfl _ _ _ rfl _ _ rfl rfl (use2 HRUN.out ?_))
    go_ret
    exact ⟨rfl, A2, c2, HK.out.1, HK.out.2⟩
  · have HY0 := Lib.hid y0
    clear h h4 h5 h6 h7 h8 hb y1
    go_enter Try.func67, Try.ntmps67
    go_wp2_with fail
    go_ret
    exact ⟨rfl, A', c', HH.out, ⟨Nat.le_refl _, fun _ _ _ => rfl, fun _ hj => .inl hj⟩⟩
end Go.Proofs.Ytkpieolmepngjaa
