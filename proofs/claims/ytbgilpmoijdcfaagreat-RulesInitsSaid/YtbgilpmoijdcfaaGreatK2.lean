/-
  lookup: a walk beside an index; walk, meet BY CONTRACTS.
-/
import Derived.Test.YtbgilpmoijdcfaaGreatK1
import Derived.RangeFuncNested
import Derived.RangeFuncBox
import Derived.RangeFuncBound
import Derived.RangeFuncCalls
import Derived.RangeFuncLeaves
import Derived.Shelf.Abstract
import Derived.Shelf.RegionOpen
import Derived.OwnWalkIn
import Derived.TacticsInMore
import Derived.LoopNIn
import Derived.LoopIn
namespace Go.Proofs.YtbgilpmoijdcfaaGreat
open Go Go.RowKit
set_option linter.unusedVariables false
set_option linter.unusedSimpArgs false

/-- a walk's own blocks: itself, its marks, its order's row. -/
def KS (pw gw : Nat) (A : Option Addr) (out : List Int) (c h : Nat) : Prop := h = pw ∨ h = gw ∨ (Value.slice A out.length c).ownBlock = some h
structure KAt (S : Nat) (W : World) (pw gw n : Nat) (A : Option Addr) (c : Nat) (out : List Int) : Prop where
  box : W.heap[pw]? = some (.cells #[.slice (some ⟨gw, 0, none⟩) n n, .slice A out.length c] 123 (0, 0))
  met : ∃ cs : Array Value, W.heap[gw]? = some (.cells cs 4 (0, 0)) ∧ cs.size = n ∧ ∀ i, i < n → cs[i]? = some (.bool (out.contains (i : Int)))
  row : IRow S W A c out
  far : ∀ h, KS pw gw A out c h → S ≤ h ∧ h < W.heap.size
  ne : pw ≠ gw
  nr : ∀ j, (Value.slice A out.length c).ownBlock = some j → j ≠ pw ∧ j ≠ gw
theorem IRow.stay {B : Nat} {W W' : World} {A : Option Addr} {c : Nat} {l : List Int} (h : IRow B W A c l) (hb : ∀ k, (Value.slice A l.length c).ownBlock = some k → W'.heap[k]? = W.heap[k]?) : IRow B W' A c l := by
  refine ⟨⟨h.1.1, ?_⟩, h.2⟩
  rcases h.1.2 with h0 | ⟨g, cap, cur, hv, hbg, hg, rest⟩
  · exact .inl h0
  · refine .inr ⟨g, cap, cur, hv, hbg, ?_, rest⟩
    rw [hb g (by rw [hv]; rfl)]
    exact hg
theorem KAt.stay {S : Nat} {W W' : World} {pw gw n : Nat} {A : Option Addr} {c : Nat} {out : List Int} (h : KAt S W pw gw n A c out) (hs : W.heap.size ≤ W'.heap.size) (hb : ∀ k, KS pw gw A out c k → W'.heap[k]? = W.heap[k]?) : KAt S W' pw gw n A c out := by
  obtain ⟨cs, h1, h2⟩ := h.met
  exact ⟨(hb pw (.inl rfl)).trans h.box, ⟨cs, (hb gw (.inr (.inl rfl))).trans h1, h2⟩, h.row.stay fun k hk => hb k (.inr (.inr hk)), fun k hk => ⟨(h.far k hk).1, Nat.lt_of_lt_of_le (h.far k hk).2 hs⟩, h.ne, h.nr⟩
/-- an index and a walk, side by side. -/
structure WX (L : List DT) (A : Option Addr) (c p N S : Nat) (W0 : World) (I0 : IX) (pw gw : Nat) (W : World) (I : IX) (A' : Option Addr) (c' : Nat) (out : List Int) : Prop where
  ix : XAt L A c p N W I
  wk : KAt S W pw gw L.length A' c' out
  dis : ∀ h, I.has p h → ¬ KS pw gw A' out c' h
  fr : XFr p S W0 I0 W I
  sz : S ≤ W.heap.size
  le : N ≤ S
theorem WX.quiet {L : List DT} {A : Option Addr} {c p N S : Nat} {W0 : World} {I0 : IX} {pw gw : Nat} {W W' : World} {I : IX} {A' : Option Addr} {c' : Nat} {out : List Int} (h : WX L A c p N S W0 I0 pw gw W I A' c' out) (k : Below W.heap.size W W') : WX L A c p N S W0 I0 pw gw W' I A' c' out :=
  ⟨h.ix.below k, h.wk.stay k.size fun j hj => k.block j (h.wk.far j hj).2, h.dis, h.fr.quiet (k.mono h.sz), Nat.le_trans h.sz k.size, h.le⟩
theorem WX.step {L : List DT} {A : Option Addr} {c p N S : Nat} {W0 : World} {I0 : IX} {pw gw : Nat} {W W' : World} {I I' : IX} {A' : Option Addr} {c' : Nat} {out : List Int} (h : WX L A c p N S W0 I0 pw gw W I A' c' out) (hx : XAt L A c p N W' I') (k : XTo p W I W' I') : WX L A c p N S W0 I0 pw gw W' I' A' c' out := by
  refine ⟨hx, h.wk.stay k.size fun j hj => k.block j (h.wk.far j hj).2 fun h1 => h.dis j h1 hj, fun j h1 h2 => ?_, h.fr.trans k h.sz, Nat.le_trans h.sz k.size, h.le⟩
  rcases k.later j h1 with h3 | h3
  · exact h.dis j h3 h2
  · have := (h.wk.far j h2).2
    omega
/-- the order's row, read. -/
theorem WX.order {L : List DT} {A : Option Addr} {c p N S : Nat} {W0 : World} {I0 : IX} {pw gw : Nat} {W : World} {I : IX} {A' : Option Addr} {c' : Nat} {out : List Int} (h : WX L A c p N S W0 I0 pw gw W I A' c' out) : W.cell? ⟨pw, 1, none⟩ = some (.slice A' out.length c') := by rw [cell_of_row _ _ 1 _ _ _ h.wk.box]; rfl
/-- what a call answers that makes a row: it is none of the index's own blocks. -/
def XSays (L : List DT) (A : Option Addr) (c p N : Nat) (W : World) (I : IX) (l : List Int) (e : Ending) (w' : World) : Prop := ∃ A' c' I', e = .returned (.slice A' l.length c') ∧ Hid (IRow W.heap.size w' A' c' l) ∧ Hid (∀ h, I'.has p h → (Value.slice A' l.length c').ownBlock ≠ some h) ∧ Hid (XAt L A c p N w' I') ∧ Hid (XTo p W I w' I')
theorem IRow.own_lt {B : Nat} {W : World} {A : Option Addr} {c : Nat} {l : List Int} (h : IRow B W A c l) {k : Nat} (hk : (Value.slice A l.length c).ownBlock = some k) : B ≤ k ∧ k < W.heap.size := by
  rcases h.1.2 with ⟨h1, h0⟩ | ⟨g, cap, cur, hv, hbg, hg, rest⟩
  · rw [h1] at hk; cases hk
  · rw [hv] at hk
    obtain rfl : g = k := by simpa [Value.ownBlock] using hk
    exact ⟨hbg, (Array.getElem?_eq_some_iff.1 hg).1⟩
/-- a row beside an index stays. -/
theorem IRow.ix {B p : Nat} {W W' : World} {I I' : IX} {A : Option Addr} {c : Nat} {l : List Int} (h : IRow B W A c l) (hn : ∀ k, I.has p k → (Value.slice A l.length c).ownBlock ≠ some k) (k : XTo p W I W' I') : IRow B W' A c l ∧ ∀ k, I'.has p k → (Value.slice A l.length c).ownBlock ≠ some k := by
  refine ⟨h.stay fun j hj => k.block j (h.own_lt hj).2 fun h1 => hn j h1 hj, fun j h1 h2 => ?_⟩
  rcases k.later j h1 with h3 | h3
  · exact hn j h3 h2
  · have := (h.own_lt h2).2
    omega
theorem Tryz.infoBool : (Tryz.prog.info? 4).map (fun i => (i.zero, i.size, i.bytes)) = some (some (.bool false), 1, 1) := by kernel_rfl

set_option maxHeartbeats 1000000 in
set_option maxRecDepth 100000 in
/-- a new walk beside an index. -/
theorem lkWalk_any (L : List DT) (A : Option Addr) (c p N : Nat) (I : IX) (w : World) (h : XAt L A c p N w I) (hn : L.length ≤ 1000000000) :
    Calls Tryz.prog 89 #[.pointer (some ⟨p, 0, none⟩)] w fun e w' => ∃ pw gw, e = .returned (.pointer (some ⟨pw, 0, none⟩)) ∧ Hid (WX L A c p N w.heap.size w I pw gw w' I none 0 []) := by
  obtain ⟨n, hn0⟩ : ∃ n, n = L.length := ⟨_, rfl⟩
  obtain ⟨i0, hi0, hz0, hz1, hz2⟩ := info_parts Tryz.infoBool
  obtain ⟨ms, hms⟩ : ∃ ms, ms = madeCells (Value.bool false).cells (n * 1) := ⟨_, rfl⟩
  have hmk : ∀ W : World, (Instr.makeSlice 121 (.int .i64 (n : Int)) (.int .i64 (n : Int))).run Tryz.prog W = .ok (.slice (some ⟨W.heap.size, 0, none⟩) n n) (W.alloc (.cells ms 4)) := fun W => by
    have := run_make (P := Tryz.prog) W 121 4 i0 (.bool false) Tryz.underlying121 hi0 hz0 .i64 .i64 n n (by omega) (Int.le_refl _) (by rw [hz2]; omega) (by omega)
    rw [hz1] at this
    rw [hms]
    simpa using this
  have y0 := h.c0
  have HX := Lib.hid h
  have HM := Lib.hid hms
  have HN := Lib.hid hn0
  rw [← hn0] at y0 hn
  clear hms hz0 hz1 hz2 hi0 h hn0
  go_enter Tryz.func89, Tryz.ntmps89
  go_wp2_with fail
  go_ret
  have hms : ms.size = n ∧ ∀ i, i < n → ms[i]? = some (.bool false) := by
    rw [HM.out, size_madeCells, Nat.mul_one]
    refine ⟨rfl, fun i hi => ?_⟩
    rw [Array.getElem?_eq_getElem (by rw [size_madeCells]; exact hi)]
    simp [madeCells, Value.cells, Nat.mod_one]
  obtain ⟨w1, hw1⟩ : ∃ w1, w1 = w.alloc (.cells ms 4) := ⟨_, rfl⟩
  have hs1 : w1.heap.size = w.heap.size + 1 := by rw [hw1]; simp
  have g1 : w1.heap[w.heap.size]? = some (.cells ms 4 (0, 0)) := by rw [hw1]; exact heap_alloc_new w _
  rw [← hw1]
  have hb : Below w.heap.size w (w1.alloc (.cells #[.slice (some ⟨w.heap.size, 0, none⟩) n n, .slice none 0 0] 123)) := by rw [hw1]; exact ((Below.refl _ _).alloc (Nat.le_refl _) _).alloc (by simp) _
  have g2 : (w1.alloc (.cells #[.slice (some ⟨w.heap.size, 0, none⟩) n n, .slice none 0 0] 123)).heap[w.heap.size]? = some (.cells ms 4 (0, 0)) := by rw [Below.heap_alloc _ _ _ (by omega)]; exact g1
  have hs2 : (w1.alloc (.cells #[.slice (some ⟨w.heap.size, 0, none⟩) n n, .slice none 0 0] 123)).heap.size = w.heap.size + 2 := by simp [hs1]
  have hxl := HX.out.lt
  have g3 := heap_alloc_new w1 (.cells #[.slice (some ⟨w.heap.size, 0, none⟩) n n, .slice none 0 0] 123)
  generalize w1.alloc (.cells #[.slice (some ⟨w.heap.size, 0, none⟩) n n, .slice none 0 0] 123) = w2 at hb g2 g3 hs2 ⊢
  rw [HN.out] at g3 hms
  have hk : ∀ h, KS w1.heap.size w.heap.size none [] 0 h → w.heap.size ≤ h ∧ h < w2.heap.size := fun k hk => by
    rcases hk with rfl | rfl | hk
    · omega
    · omega
    · cases hk
  have hd : ∀ h, I.has p h → ¬ KS w1.heap.size w.heap.size none [] 0 h := fun k h1 h2 => by
    have h3 := (HX.out.far k h1).2
    have h4 := (hk k h2).1
    omega
  exact ⟨w1.heap.size, w.heap.size, by rw [hs1]; rfl, ⟨HX.out.below hb, ⟨g3, ⟨ms, g2, hms.1, fun i hi => by rw [hms.2 i hi]; rfl⟩, IRow.nil _ _, hk, by omega, fun j hj => by cases hj⟩, hd, XTo.of_below hb, by omega, by omega⟩⟩

theorem heap_set_cell {w : World} {g : Nat} {cs : Array Value} {T : TypeId} {fr : Nat × Nat} (h : w.heap[g]? = some (.cells cs T fr)) (j : Nat) (u : Value) : (w.setCell ⟨g, j, none⟩ u).heap[g]? = some (.cells (cs.set! j u) T fr) := by
  simp [World.setCell, Array.getElem?_modify, h]
/-- the marks behind one more. -/
theorem marks_set {cs : Array Value} {n k : Nat} {out : List Int} (hs : cs.size = n) (hk : k < n) (h : ∀ i, i < n → cs[i]? = some (.bool (out.contains (i : Int)))) :
    (cs.set! k (.bool true)).size = n ∧ ∀ i, i < n → (cs.set! k (.bool true))[i]? = some (.bool ((out ++ [(k : Int)]).contains (i : Int))) := by
  refine ⟨by simp [hs], fun i hi => ?_⟩
  have e : (out ++ [(k : Int)]).contains (i : Int) = (out.contains (i : Int) || decide (i = k)) := by
    rw [show decide (i = k) = decide ((i : Int) = (k : Int)) from by simp only [Int.natCast_inj]]
    simp
  rw [e]
  by_cases hik : i = k
  · subst hik
    have : i < cs.size := by omega
    simp [Array.set!, Array.setIfInBounds, this]
  · rw [decide_eq_false hik, Bool.or_false, ← h i hi]
    simp [Array.set!, Array.getElem?_setIfInBounds_ne (Ne.symm hik)]
/-- a number more on a row of the call's own: what is changed, where it lies. -/
theorem app_num {B : Nat} {W : World} {A : Option Addr} {c : Nat} {l : List Int} {d : Int} (h : IRow B W A c l) (hd : I64 d) (hB : B ≤ W.heap.size) (hl : l.length ≤ 1000000000) :
    ∃ v' w', (Builtin.append_ #[51, 51] 51 #[.slice A l.length c, .slice (some ⟨W.heap.size, 0, none⟩) 1 1]).run Tryz.prog (W.alloc (.cells #[.int .i64 d] 3)) = .ok v' w' ∧ ∃ A' c', v' = .slice A' (l ++ [d]).length c' ∧ IRow B w' A' c' (l ++ [d]) ∧ W.grownBy w' (Value.slice A l.length c).ownBlock ∧ ∀ k, (Value.slice A' (l ++ [d]).length c').ownBlock = some k → (Value.slice A l.length c).ownBlock = some k ∨ W.heap.size ≤ k := by
  obtain ⟨i0, hi0, hz0, hz1, hz2⟩ := info_parts Tryz.infoInt
  have hs : (W.alloc (.cells #[.int .i64 d] 3)).heap[W.heap.size]? = some (.cells #[.int .i64 d] 3 (0, 0)) := heap_alloc_new W _
  obtain ⟨v', w', k1, k2, k3, k4⟩ := app_run (P := Tryz.prog) (w := W.alloc (.cells #[.int .i64 d] 3)) (base := B) (t := 51) (ty := 51) (bytes := 8) Tryz.underlying51 hi0 hz0 hz1 hz2 (by rfl) (by decide) (h.1.alloc _) (A := some ⟨W.heap.size, 0, none⟩) (m := 1) (c := 1) (news := [.int .i64 d]) rfl (fun g o e j u hj => by
    simp only [Option.some.injEq, Addr.mk.injEq, and_true] at e
    obtain ⟨rfl, rfl⟩ := e
    match j, hj with
    | 0, hj =>
      simp only [List.getElem?_cons_zero, Option.some.injEq] at hj
      subst hj
      rw [cell_of_row _ _ 0 _ _ _ hs]
      rfl) (.inr (.inr ⟨_, _, rfl⟩)) (by simp [Value.oneCell']) (by unfold maxLen; omega) (by omega) (by simp; omega)
  have hlen : (l ++ [d]).length = l.length + 1 := by simp
  have hshape : ∃ A' c', v' = .slice A' (l ++ [d]).length c' := by
    rw [hlen]
    rcases k2.2 with ⟨h1, h2⟩ | ⟨g, cap, cur, h1, _⟩
    · exact ⟨none, 0, by rw [h1]; omega⟩
    · exact ⟨_, cap, h1⟩
  obtain ⟨A', c', rfl⟩ := hshape
  have e : iv (l ++ [d]) = iv l ++ [.int .i64 d] := by simp [iv]
  refine ⟨_, w', k1, A', c', rfl, ⟨by rw [e]; rw [← hlen] at k2; exact k2, fun x hx => ?_⟩, ⟨k3.os, k3.tape, k3.output, Nat.le_trans (by simp) k3.size, fun k hk hn => (k3.block k (by simp; omega) hn).trans (Below.heap_alloc _ _ _ hk)⟩, fun k hk => ?_⟩
  · rcases List.mem_append.1 hx with hx | hx
    · exact h.2 x hx
    · rw [List.mem_singleton.1 hx]; exact hd
  · rcases k4 with h4 | h4
    · exact .inl (h4.symm.trans hk)
    · rw [hk] at h4
      simp at h4
      exact .inr (by omega)
/-- what a walk's step may change: its own blocks. -/
structure KFr (pw gw : Nat) (A : Option Addr) (c : Nat) (out : List Int) (W : World) (A2 : Option Addr) (c2 : Nat) (out2 : List Int) (W' : World) : Prop where
  size : W.heap.size ≤ W'.heap.size
  block : ∀ j, j < W.heap.size → ¬ KS pw gw A out c j → W'.heap[j]? = W.heap[j]?
  later : ∀ j, KS pw gw A2 out2 c2 j → KS pw gw A out c j ∨ W.heap.size ≤ j
set_option maxHeartbeats 2000000 in
set_option maxRecDepth 100000 in
theorem lkMeet_any (L : List DT) (A : Option Addr) (c p N S : Nat) (W0 : World) (I0 I : IX) (pw gw k : Nat) (A' : Option Addr) (c' : Nat) (out : List Int) (w : World) (h : WX L A c p N S W0 I0 pw gw w I A' c' out) (hk : k < L.length) (hn : L.length ≤ 1000000000) (hol : out.length ≤ 1000000000) (hi : ∀ x ∈ out, I64 x) :
    Calls Tryz.prog 90 #[.pointer (some ⟨pw, 0, none⟩), .int .i64 (k : Int)] w fun e w' => e = .returned (.bool (!out.contains (k : Int))) ∧ ∃ A2 c2, Hid (WX L A c p N S W0 I0 pw gw w' I A2 c2 (if out.contains (k : Int) then out else out ++ [(k : Int)])) ∧ Hid (KFr pw gw A' c' out w A2 c2 (if out.contains (k : Int) then out else out ++ [(k : Int)]) w') := by
  obtain ⟨n, hn0⟩ : ∃ n, n = L.length := ⟨_, rfl⟩
  have h4 := h.wk.box
  have h5 := h.wk.row
  obtain ⟨cs, h6, h7, h8⟩ := h.wk.met
  obtain ⟨b, hb⟩ : ∃ b, b = out.contains (k : Int) := ⟨_, rfl⟩
  rw [← hn0] at h4 h7 h8 hk hn
  have y0 : w.cell? ⟨pw, 0, none⟩ = some (.slice (some ⟨gw, 0, none⟩) n n) := by rw [cell_of_row _ _ 0 _ _ _ h4]; rfl
  have y1 : w.cell? ⟨pw, 1, none⟩ = some (.slice A' out.length c') := by rw [cell_of_row _ _ 1 _ _ _ h4]; rfl
  have m : w.cell? ⟨gw, k, none⟩ = some (.bool b) := by rw [cell_of_row _ _ k _ _ _ h6, h8 k hk, hb]
  have q1 : (k : Int) < (n : Int) := by omega
  have q2 : (0 : Int) ≤ (k : Int) := by omega
  rw [← hb]
  have HH := Lib.hid h
  have HN := Lib.hid hn0
  cases b
  · have f0 : w.frozen? ⟨gw, k, none⟩ = false := frozen_of_row _ _ k _ _ h6
    have f1 : w.frozen? ⟨pw, 1, none⟩ = false := frozen_of_row _ _ 1 _ _ h4
    have n1 : pw ≠ gw := h.wk.ne
    have n2 : gw ≠ pw := fun e => h.wk.ne e.symm
    have lp := (h.wk.far pw (.inl rfl))
    have lg := (h.wk.far gw (.inr (.inl rfl)))
    have hrow1 : IRow S (w.setCell ⟨gw, k, none⟩ (.bool true)) A' c' out := h5.stay fun j hj => Below.heap_setCell _ _ _ _ (by show j ≠ gw; exact (h.wk.nr j hj).2)
    have hsz := h.sz
    obtain ⟨W1, hW1⟩ : ∃ W1, W1 = w.setCell ⟨gw, k, none⟩ (.bool true) := ⟨_, rfl⟩
    have hs1 : W1.heap.size = w.heap.size := by rw [hW1]; simp [World.setCell]
    have g1 : W1.heap[pw]? = some (.cells #[.slice (some ⟨gw, 0, none⟩) n n, .slice A' out.length c'] 123 (0, 0)) := by rw [hW1]; exact (Below.heap_setCell _ _ _ _ n1).trans h4
    have g2 : W1.heap[gw]? = some (.cells (cs.set! k (.bool true)) 4 (0, 0)) := by rw [hW1]; exact heap_set_cell h6 k _
    have g3 : ∀ j, j ≠ gw → W1.heap[j]? = w.heap[j]? := fun j hj => by rw [hW1]; exact Below.heap_setCell _ _ _ _ hj
    have e3 : W1.os = w.os ∧ W1.tape = w.tape ∧ W1.output = w.output := by rw [hW1]; exact ⟨rfl, rfl, rfl⟩
    rw [← hW1] at hrow1
    obtain ⟨vv, w3, hrun, A2, c2, rfl, hrow3, hgr, hloc⟩ := app_num hrow1 (d := (k : Int)) (by unfold I64; omega) (by omega) hol
    have p1 := (h.wk.nr)
    have hpw : (Value.slice A' out.length c').ownBlock ≠ some pw := fun e => (p1 _ e).1 rfl
    have hgw : (Value.slice A' out.length c').ownBlock ≠ some gw := fun e => (p1 _ e).2 rfl
    have x3 : w3.heap[pw]? = some (.cells #[.slice (some ⟨gw, 0, none⟩) n n, .slice A' out.length c'] 123 (0, 0)) := (hgr.block pw (by omega) (fun e => hpw e.symm)).trans g1
    have x4 : w3.heap[gw]? = some (.cells (cs.set! k (.bool true)) 4 (0, 0)) := (hgr.block gw (by omega) (fun e => hgw e.symm)).trans g2
    have x1 : w3.cell? ⟨pw, 1, none⟩ = some (.slice A' out.length c') := by rw [cell_of_row _ _ 1 _ _ _ x3]; rfl
    have x2 : w3.frozen? ⟨pw, 1, none⟩ = false := frozen_of_row _ _ 1 _ _ x3
    have hs3 := hgr.size
    -- the state behind the last store
    have key : ∀ W4, W4 = w3.setCell ⟨pw, 1, none⟩ (.slice A2 (out ++ [(k : Int)]).length c2) → WX L A c p N S W0 I0 pw gw W4 I A2 c2 (out ++ [(k : Int)]) ∧ KFr pw gw A' c' out w A2 c2 (out ++ [(k : Int)]) W4 := by
      intro W4 hW4
      have hs4 : W4.heap.size = w3.heap.size := by rw [hW4]; simp [World.setCell]
      have b4 : ∀ j, j ≠ pw → W4.heap[j]? = w3.heap[j]? := fun j hj => by rw [hW4]; exact Below.heap_setCell _ _ _ _ hj
      have c4 : W4.heap[pw]? = some (.cells #[.slice (some ⟨gw, 0, none⟩) n n, .slice A2 (out ++ [(k : Int)]).length c2] 123 (0, 0)) := by rw [hW4]; exact heap_set_cell x3 1 _
      have same : ∀ j, j < w.heap.size → ¬ KS pw gw A' out c' j → W4.heap[j]? = w.heap[j]? := fun j h1 h2 => by
        have m1 : j ≠ pw := fun e => h2 (.inl e)
        have m2 : j ≠ gw := fun e => h2 (.inr (.inl e))
        have m3 : (Value.slice A' out.length c').ownBlock ≠ some j := fun e => h2 (.inr (.inr e))
        exact (b4 j m1).trans ((hgr.block j (by omega) (fun e => m3 e.symm)).trans (g3 j m2))
      have ks : ∀ j, KS pw gw A2 (out ++ [(k : Int)]) c2 j → KS pw gw A' out c' j ∨ w.heap.size ≤ j := fun j hj => by
        rcases hj with rfl | rfl | hj
        · exact .inl (.inl rfl)
        · exact .inl (.inr (.inl rfl))
        · rcases hloc j hj with h1 | h1
          · exact .inl (.inr (.inr h1))
          · exact .inr (by omega)
      have own : ∀ j, (Value.slice A2 (out ++ [(k : Int)]).length c2).ownBlock = some j → j ≠ pw ∧ j ≠ gw := fun j hj => by
        rcases hloc j hj with h1 | h1
        · exact p1 j h1
        · exact ⟨by omega, by omega⟩
      have os4 : W4.os = w.os ∧ W4.tape = w.tape ∧ W4.output = w.output := by
        rw [hW4]
        exact ⟨hgr.os.trans e3.1, hgr.tape.trans e3.2.1, hgr.output.trans e3.2.2⟩
      refine ⟨?_, ⟨by omega, same, ks⟩⟩
      refine ⟨h.ix.stay (by omega) (fun j hj => same j ?_ ?_), ⟨by rw [← hn0]; exact c4, ⟨cs.set! k (.bool true), (b4 gw n2).trans x4, by rw [← hn0]; exact marks_set h7 hk h8⟩, hrow3.stay (fun j hj => b4 j (own j hj).1), fun j hj => ?_, n1, own⟩, fun j h1 h2 => ?_, ?_, by omega, h.le⟩
      · rcases hj with hj | hj
        · have := h.le; omega
        · exact (h.ix.far j hj).2
      · rcases hj with hj | hj
        · intro h2
          have := (h.wk.far j h2).1
          have := h.le
          omega
        · exact h.dis j hj
      · rcases hj with rfl | rfl | hj
        · exact ⟨lp.1, by omega⟩
        · exact ⟨lg.1, by omega⟩
        · have h1 := hrow3.own_lt hj
          exact ⟨h1.1, by omega⟩
      · rcases ks j h2 with h3 | h3
        · exact h.dis j h1 h3
        · have := (h.ix.far j h1).2
          omega
      · refine h.fr.quiet ⟨os4.1, os4.2.1, os4.2.2, by omega, fun j hj => same j (by omega) (fun h2 => ?_)⟩
        have := (h.wk.far j h2).1
        omega
    have HK := Lib.hid (key _ rfl)
    have hll : (out ++ [(k : Int)]).length = out.length + 1 := by simp
    rw [hll] at HK
    have HRUN : Hid (∃ v' w', (Builtin.append_ #[51, 51] 51 #[.slice A' out.length c', .slice (some ⟨w.heap.size, 0, none⟩) 1 1]).run Tryz.prog ((w.setCell ⟨gw, k, none⟩ (.bool true)).alloc (.cells #[.int .i64 (k : Int)] 3)) = .ok v' w' ∧ v' = .slice A2 (out ++ [(k : Int)]).length c2 ∧ w' = w3) := by
      rw [← hs1, ← hW1]
      exact ⟨_, _, hrun, rfl, rfl⟩
    clear h h4 h5 h6 h7 h8 hb key hgr hrow3 hrow1 hloc x3 x4 hrun g1 g2 g3 hW1 hs1 hs3 e3 hpw hgw p1 hi
    go_enter Tryz.func90, Tryz.ntmps90
    go_wp2_with (at_builtin; refine wpList_app rfl _ _ _ rfl _ _ rfl rfl (use2 HRUN.out ?_))
    go_ret
    exact ⟨rfl, A2, c2, HK.out.1, HK.out.2⟩
  · have HY0 := Lib.hid y0
    clear h h4 h5 h6 h7 h8 hb y1
    go_enter Tryz.func90, Tryz.ntmps90
    go_wp2_with fail
    go_ret
    exact ⟨rfl, A', c', HH.out, ⟨Nat.le_refl _, fun _ _ _ => rfl, fun _ hj => .inl hj⟩⟩
end Go.Proofs.YtbgilpmoijdcfaaGreat

/-
  lookup: Find, slices.Contains BY CONTRACTS.
-/
namespace Go.Proofs.YtbgilpmoijdcfaaGreat
open Go Go.RowKit
set_option linter.unusedVariables false
set_option linter.unusedSimpArgs false

set_option maxHeartbeats 1000000 in
theorem lkFind0_any (L : List DT) (A : Option Addr) (c : Nat) (s : ByteArray) (w : World) (ha : DsR w w.heap.size A L) (hcnt : L.length ≤ 1000000000) :
    Calls Tryz.prog 92 #[.agg #[.slice A L.length c], .string s] w fun e w' => e = .returned (.int .i64 (findT L s)) ∧ Below w.heap.size w w' := by
  obtain ⟨R0, hR0⟩ : ∃ R0 : World, R0 = w.alloc (.cells #[.slice A L.length c] 31) := ⟨_, rfl⟩
  have hb0 : Below w.heap.size w R0 := by rw [hR0]; exact (Below.refl _ _).alloc (Nat.le_refl _) _
  have hg : R0.heap[w.heap.size]? = some (.cells #[.slice A L.length c] 31 (0, 0)) := by rw [hR0]; exact heap_alloc_new w _
  have y0 : R0.cell? ⟨w.heap.size, 0, none⟩ = some (.slice A L.length c) := by rw [cell_of_row _ _ 0 _ _ _ hg]; rfl
  have HA := Lib.hid (DsR.mono (Nat.le_refl _) hb0.block ha)
  have HB := Lib.hid hb0
  have HR0 := Lib.hid hR0
  clear ha hb0 hg hR0
  go_enter Tryz.func92, Tryz.ntmps92
  go_wp2_with fail
  rw [← HR0.out]
  go_loopw [9] (fun i wr => ∃ k : Nat, k ≤ L.length ∧ i = .int .i64 k ∧ wr = R0 ∧ Hid (∀ j (hj : j < L.length), j < k → L[j].name ≠ s)) (fun i _ => L.length - (intOf i).toNat)
  case atStart => exact ⟨0, Nat.zero_le _, rfl, rfl, fun _ _ h => absurd h (Nat.not_lt_zero _)⟩
  case round =>
    obtain ⟨k, hk, rfl, rfl, hn⟩ := hrel
    have h2 : (0 : Int) ≤ (k : Int) := by omega
    by_cases hlt : k < L.length
    · have h1 : (k : Int) < (L.length : Int) := by omega
      obtain ⟨g, o, cs, rfl, hg, hlen, hc, he⟩ := HA.out k hlt
      obtain ⟨d, hN⟩ : ∃ d : DT, d = L[k] := ⟨_, rfl⟩
      rw [← hN] at he
      obtain ⟨A1, c1, A2, c2, A3, c3, A4, c4, rfl, _⟩ := he
      have y1 := hc 1 _ rfl
      by_cases hs : d.name = s
      · have hr := findT_at hlt hn.out (hN ▸ hs)
        have q : (d.name.toList == s.toList) = true := str_eq hs
        have HF := Lib.hid hr
        clear hc hlen hg hN hr hs
        go_wp2_with fail
        go_ret
        exact ⟨by rw [HF.out]; rfl, HB.out⟩
      · have hn2 : Hid (∀ j (hj : j < L.length), j < k + 1 → L[j].name ≠ s) := fun j hj h => by
          rcases Nat.lt_or_ge j k with h3 | h3
          · exact hn.out j hj h3
          · obtain rfl : j = k := by omega
            exact hN ▸ hs
        have q : (d.name.toList == s.toList) = false := str_ne hs
        clear hc hlen hg hN hs
        go_wp2_with fail
        go_roundw
        case rel => exact ⟨k + 1, by omega, by go_num, trivial, hn2⟩
        case measure => simp [intOf]; omega
    · have h1 : ¬ (k : Int) < (L.length : Int) := by omega
      have hr := findT_none (L := L) (s := s) (fun j hj => hn.out j hj (by omega))
      have HF := Lib.hid hr
      clear hr
      go_wp2_with fail
      go_ret
      exact ⟨by rw [HF.out]; rfl, HB.out⟩

set_option maxHeartbeats 1000000 in
theorem index_any (l : List Int) (A : Option Addr) (c : Nat) (n : Int) (w : World) (ha : NsR w w.heap.size A l) (hcnt : l.length ≤ 1000000000) :
    Calls Tryz.prog 139 #[.slice A l.length c, .int .i64 n] w fun e w' => (∃ r : Int, e = .returned (.int .i64 r) ∧ decide (0 ≤ r) = l.contains n) ∧ w' = w := by
  have HA := Lib.hid ha
  clear ha
  obtain ⟨b, hb0⟩ : ∃ b : Bool, b = l.contains n := ⟨_, rfl⟩
  rw [← hb0]
  have HR := Lib.hid hb0
  clear hb0
  go_enter Tryz.func139, Tryz.ntmps139
  go_wp2_with fail
  go_loopw [8] (fun i wr => ∃ k : Nat, k ≤ l.length ∧ i = .int .i64 k ∧ wr = w ∧ Hid (∀ j (hj : j < l.length), j < k → l[j] ≠ n)) (fun i _ => l.length - (intOf i).toNat)
  case atStart => exact ⟨0, Nat.zero_le _, rfl, rfl, fun _ _ h => absurd h (Nat.not_lt_zero _)⟩
  case round =>
    obtain ⟨k, hk, rfl, rfl, hn⟩ := hrel
    have h2 : (0 : Int) ≤ (k : Int) := by omega
    by_cases hlt : k < l.length
    · have h1 : (k : Int) < (l.length : Int) := by omega
      obtain ⟨g, o, cs, rfl, hg, hlen, hc, he⟩ := HA.out k hlt
      obtain ⟨m, hN⟩ : ∃ m : Int, m = l[k] := ⟨_, rfl⟩
      rw [← hN] at he
      obtain ⟨rfl, _⟩ := he
      have y1 := hc 0 _ rfl
      simp only [Nat.mul_one, Nat.add_zero] at y1
      by_cases hs : n = m
      · have hr : l.contains n = true := by
          rw [List.contains_iff_mem, hs, hN]
          exact List.getElem_mem _
        have HF := Lib.hid (HR.out.trans hr)
        clear hc hlen hg hr hN
        subst hs
        go_wp2_with fail
        go_ret
        exact ⟨⟨k, rfl, by rw [HF.out]; simp⟩, rfl⟩
      · have hn2 : Hid (∀ j (hj : j < l.length), j < k + 1 → l[j] ≠ n) := fun j hj h => by
          rcases Nat.lt_or_ge j k with h3 | h3
          · exact hn.out j hj h3
          · obtain rfl : j = k := by omega
            exact hN ▸ fun e => hs e.symm
        have q : (n == m) = false := by simp [hs]
        clear hc hlen hg hN
        go_wp2_with fail
        go_roundw
        case rel => exact ⟨k + 1, by omega, by go_num, trivial, hn2⟩
        case measure => simp [intOf]; omega
    · have h1 : ¬ (k : Int) < (l.length : Int) := by omega
      have hr : l.contains n = false := by
        cases hh : l.contains n
        · rfl
        · rw [List.contains_iff_mem] at hh
          obtain ⟨j, hj, e⟩ := List.getElem_of_mem hh
          exact absurd e (hn.out j hj (by omega))
      have HF := Lib.hid (HR.out.trans hr)
      clear hr
      go_wp2_with fail
      go_ret
      exact ⟨⟨-1, rfl, by rw [HF.out]; rfl⟩, rfl⟩
set_option maxHeartbeats 1000000 in
theorem contains_any (l : List Int) (A : Option Addr) (c : Nat) (n : Int) (w : World) (ha : NsR w w.heap.size A l) (hcnt : l.length ≤ 1000000000) :
    Calls Tryz.prog 136 #[.slice A l.length c, .int .i64 n] w fun e w' => e = .returned (.bool (l.contains n)) ∧ w' = w := by
  have K := Lib.hid (index_any l A c n w ha hcnt)
  obtain ⟨b, hb0⟩ : ∃ b : Bool, b = l.contains n := ⟨_, rfl⟩
  rw [← hb0] at K ⊢
  clear ha hcnt hb0
  go_enter Tryz.func136, Tryz.ntmps136
  go_wp2_with fail
  refine K.out.mono ?_
  rintro e1 w1 ⟨⟨r, rfl, hr⟩, rfl⟩
  go_wp2_with fail
  go_ret
  exact ⟨by rw [← hr]; rfl, rfl⟩
end Go.Proofs.YtbgilpmoijdcfaaGreat

/-
  lookup: an index finds BY A CONTRACT: a small unit.
-/
namespace Go.Proofs.YtbgilpmoijdcfaaGreat
open Go Go.RowKit
set_option linter.unusedVariables false
set_option linter.unusedSimpArgs false

theorem map_nil (m : Option Nat) (w : World) : (binOp .eql 50 (.map m) (.map none)).run Tryz.prog w = .ok (.bool (m == none)) w := by
  cases m <;> kernel_rfl
/-- what is answered of a name: its declaration's number. -/
def XFinds (L : List DT) (A : Option Addr) (c p N : Nat) (W : World) (I : IX) (s : ByteArray) (e : Ending) (w' : World) : Prop := ∃ I', e = .returned (.int .i64 (findT L s)) ∧ Hid (XAt L A c p N w' I') ∧ Hid (XTo p W I w' I')
set_option maxHeartbeats 1000000 in
set_option maxRecDepth 100000 in
theorem lkFind_few (L : List DT) (A : Option Addr) (c p N : Nat) (I : IX) (s : ByteArray) (w : World) (h : XAt L A c p N w I) (hcnt : L.length ≤ 1000000000) (hfew : L.length ≤ 32) :
    Calls Tryz.prog 68 #[.pointer (some ⟨p, 0, none⟩), .string s] w fun e w' => e = .returned (.int .i64 (findT L s)) ∧ Hid (XAt L A c p N w' I) ∧ Hid (XTo p w I w' I) := by
  obtain ⟨R0, hR0⟩ : ∃ R0 : World, R0 = w.alloc (.cells #[.pointer (some ⟨p, 0, none⟩)] 44) := ⟨_, rfl⟩
  have hb0 : Below w.heap.size w R0 := by rw [hR0]; exact (Below.refl _ _).alloc (Nat.le_refl _) _
  have hg : R0.heap[w.heap.size]? = some (.cells #[.pointer (some ⟨p, 0, none⟩)] 44 (0, 0)) := by rw [hR0]; exact heap_alloc_new w _
  have yx : R0.cell? ⟨w.heap.size, 0, none⟩ = some (.pointer (some ⟨p, 0, none⟩)) := by rw [cell_of_row _ _ 0 _ _ _ hg]; rfl
  have hx := h.below hb0
  have y0 := hx.c0
  have q : (L.length : Int) ≤ 32 := by omega
  have KF : Hid (∀ W, Below R0.heap.size R0 W → Calls Tryz.prog 92 #[.agg #[.slice A L.length c], .string s] W fun e w' => e = .returned (.int .i64 (findT L s)) ∧ Hid (XAt L A c p N w' I) ∧ Hid (Below R0.heap.size R0 w')) := fun W hW => (lkFind0_any L A c s W ((hx.below hW).rowAt) hcnt).mono fun e w' hh => ⟨hh.1, (hx.below hW).below hh.2, hW.trans (hh.2.mono hW.size)⟩
  have HB := Lib.hid hb0
  have HR0 := Lib.hid hR0
  clear h hx hg hb0
  rw [hR0] at y0 yx
  clear hR0
  go_enter Tryz.func68, Tryz.ntmps68
  go_wp2_with fail
  rw [← HR0.out]
  refine (KF.out _ (Below.refl _ _)).mono ?_
  rintro e1 w1 ⟨rfl, hx1, hb1⟩
  go_wp2_with fail
  go_ret
  exact ⟨rfl, hx1, XTo.of_below (HB.out.trans (hb1.out.mono HB.out.size))⟩
end Go.Proofs.YtbgilpmoijdcfaaGreat

/-
  lookup: what is found of a declaration's base BY A CONTRACT.
-/
namespace Go.Proofs.YtbgilpmoijdcfaaGreat
open Go Go.RowKit
set_option linter.unusedVariables false
set_option linter.unusedSimpArgs false

/-- cells of a declaration that is read from an index's row. -/
theorem XAt.decl {L : List DT} {A : Option Addr} {c p N : Nat} {W : World} {I : IX} (h : XAt L A c p N W I) {k : Nat} (hk : k < L.length) : ∃ q o, A = some ⟨q, o, none⟩ ∧ q < N ∧ W.cell? ⟨q, o + k * 11 + 2, none⟩ = some (.string L[k].base) := by
  obtain ⟨g, o, cs, rfl, hg, hlen, hc, he⟩ := h.row k hk
  obtain ⟨A1, c1, A2, c2, A3, c3, A4, c4, rfl, _⟩ := he
  exact ⟨g, o, rfl, hg, hc 2 _ rfl⟩
theorem baseT_at {L : List DT} {k : Nat} (hk : k < L.length) : baseT L k = L[k].base := by unfold baseT; rw [Int.toNat_natCast, List.getElem?_eq_getElem hk]; rfl
/-- the row of the bases behind one more. -/
theorem XAt.setBase {L : List DT} {A : Option Addr} {c p N g k : Nat} {W : World} {I : IX} (h : XAt L A c p N W I) (hg : I.g = some g) (hk : k < L.length) : XAt L A c p N (W.setCell ⟨g, k, none⟩ (.int .i64 (findT L (baseT L k) + 2))) I := by
  have hgh : I.has p g := .inr (.inr hg)
  have hgp := h.ng g hg
  have hgN := (h.far g hgh).1
  have e : ∀ j, j ≠ g → (W.setCell ⟨g, k, none⟩ (.int .i64 (findT L (baseT L k) + 2))).heap[j]? = W.heap[j]? := fun j hj => Below.heap_setCell _ _ _ _ hj
  refine ⟨(e p (fun e => hgp e.symm)).trans h.box, DsR.mono (Nat.le_refl _) (fun j hj => e j (by omega)) h.row, fun j hj => ⟨(h.far j hj).1, by have := (h.far j hj).2; simp [World.setCell]; omega⟩, h.nm, h.ng, fun m hm => ?_, fun g2 hg2 => ?_⟩
  · obtain ⟨n, D, ⟨es, ck, hh, hr⟩, hf⟩ := h.map m hm
    exact ⟨n, D, ⟨es, ck, (e m (fun e => (h.nm m hm).2 (e ▸ hg))).trans hh, hr⟩, hf⟩
  · obtain rfl : g2 = g := by rw [hg] at hg2; cases hg2; rfl
    obtain ⟨cs, h1, h2, h3⟩ := h.bases g2 hg
    refine ⟨_, heap_set_cell h1 k _, by simp [h2], fun i hi => ?_⟩
    by_cases hik : i = k
    · subst hik
      have : i < cs.size := by omega
      right
      simp [Array.set!, Array.setIfInBounds, this]
    · have e2 : (cs.set! k (.int .i64 (findT L (baseT L k) + 2)))[i]? = cs[i]? := by simp [Array.set!, Array.getElem?_setIfInBounds_ne (Ne.symm hik)]
      rw [e2]
      exact h3 i hi
theorem XTo.setBase {L : List DT} {A : Option Addr} {c p N g k : Nat} {W : World} {I : IX} {v : Value} (hg : I.g = some g) : XTo p W I (W.setCell ⟨g, k, none⟩ v) I :=
  ⟨rfl, rfl, rfl, by simp [World.setCell], fun j _ hj => Below.heap_setCell _ _ _ _ (fun e => hj (.inr (.inr (by rw [hg]; exact congrArg some e.symm)))), fun j hj => .inl hj⟩
/-- an index whose bases' row was made. -/
theorem XAt.made {L : List DT} {A : Option Addr} {c p N : Nat} {W W' : World} {I : IX} {ms : Array Value} (h : XAt L A c p N W I) (hg : I.g = none) (hW : W' = (W.setCell ⟨p, 2, none⟩ (.slice (some ⟨W.heap.size, 0, none⟩) L.length L.length)).alloc (.cells ms 3)) (hm : ms.size = L.length ∧ ∀ i, i < L.length → ms[i]? = some (.int .i64 0)) :
    XAt L A c p N W' ⟨I.mb, some W.heap.size⟩ ∧ XTo p W I W' ⟨I.mb, some W.heap.size⟩ := by
  have hp := h.far p (.inl rfl)
  have hs : W'.heap.size = W.heap.size + 1 := by rw [hW]; simp [World.setCell]
  have e : ∀ j, j < W.heap.size → j ≠ p → W'.heap[j]? = W.heap[j]? := fun j h1 h2 => by
    rw [hW, Below.heap_alloc _ _ _ (by simp [World.setCell]; omega)]
    exact Below.heap_setCell _ _ _ _ h2
  have ep : W'.heap[p]? = some (.cells (ixCells A L.length c ⟨I.mb, some W.heap.size⟩) 53 (0, 0)) := by
    rw [hW, Below.heap_alloc _ _ _ (by simp [World.setCell]; omega), heap_set_cell h.box]
    rfl
  have eg : W'.heap[W.heap.size]? = some (.cells ms 3 (0, 0)) := by
    have := heap_alloc_new (W.setCell ⟨p, 2, none⟩ (.slice (some ⟨W.heap.size, 0, none⟩) L.length L.length)) (.cells ms 3)
    rw [hW]
    simpa [World.setCell] using this
  refine ⟨⟨ep, DsR.mono (Nat.le_refl _) (fun j hj => e j (by omega) (by omega)) h.row, fun j hj => ?_, fun m hm => ?_, fun g hg2 => ?_, fun m hm => ?_, fun g hg2 => ?_⟩, ⟨by rw [hW]; rfl, by rw [hW]; rfl, by rw [hW]; rfl, by omega, fun j h1 h2 => e j h1 (fun e => h2 (.inl e)), fun j hj => ?_⟩⟩
  · rcases hj with rfl | hj | hj
    · omega
    · have := h.far j (.inr (.inl hj)); omega
    · injection hj with hj
      omega
  · have := h.far m (.inr (.inl hm))
    refine ⟨(h.nm m hm).1, fun e => ?_⟩
    injection e with e
    omega
  · injection hg2 with hg2
    omega
  · obtain ⟨n, D, ⟨es, ck, hh, hr⟩, hf⟩ := h.map m hm
    have := h.far m (.inr (.inl hm))
    exact ⟨n, D, ⟨es, ck, (e m this.2 (h.nm m hm).1).trans hh, hr⟩, hf⟩
  · injection hg2 with hg2
    subst hg2
    exact ⟨ms, eg, hm.1, fun i hi => .inl (hm.2 i hi)⟩
  · rcases hj with rfl | hj | hj
    · exact .inl (.inl rfl)
    · exact .inl (.inr (.inl hj))
    · injection hj with hj
      exact .inr (by omega)
theorem XAt.cellB {L : List DT} {A : Option Addr} {c p N g k : Nat} {W : World} {I : IX} (h : XAt L A c p N W I) (hg : I.g = some g) (hk : k < L.length) : ∃ v, W.cell? ⟨g, k, none⟩ = some v ∧ W.frozen? ⟨g, k, none⟩ = false ∧ (v = .int .i64 0 ∨ v = .int .i64 (findT L (baseT L k) + 2)) := by
  obtain ⟨cs, h1, h2, h3⟩ := h.bases g hg
  rcases h3 k hk with h4 | h4
  · exact ⟨_, by rw [cell_of_row _ _ k _ _ _ h1, h4], frozen_of_row _ _ k _ _ h1, .inl rfl⟩
  · exact ⟨_, by rw [cell_of_row _ _ k _ _ _ h1, h4], frozen_of_row _ _ k _ _ h1, .inr rfl⟩
theorem XAt.cellSet {L : List DT} {A : Option Addr} {c p N g k : Nat} {W : World} {I : IX} (h : XAt L A c p N W I) (hg : I.g = some g) (hk : k < L.length) (v : Value) : (W.setCell ⟨g, k, none⟩ v).cell? ⟨g, k, none⟩ = some v := by
  obtain ⟨cs, h1, h2, h3⟩ := h.bases g hg
  have : k < cs.size := by omega
  rw [cell_of_row _ _ k _ _ _ (heap_set_cell h1 k v)]
  simp [Array.set!, Array.setIfInBounds, this]
theorem ints_nil (w : World) : (binOp .eql 51 (.slice none 0 0) (.slice none 0 0)).run Tryz.prog w = .ok (.bool true) w := by kernel_rfl
theorem ints_some (a : Addr) (n m : Nat) (w : World) : (binOp .eql 51 (.slice (some a) n m) (.slice none 0 0)).run Tryz.prog w = .ok (.bool false) w := by kernel_rfl
set_option maxHeartbeats 2000000 in
set_option maxRecDepth 100000 in
theorem lkBase_any (L : List DT) (A : Option Addr) (c p N k : Nat) (I : IX) (w : World) (h : XAt L A c p N w I) (hfit : Fit L) (hk : k < L.length) :
    Calls Tryz.prog 97 #[.pointer (some ⟨p, 0, none⟩), .int .i64 (k : Int)] w (XFinds L A c p N w I L[k].base) := by
  have hn := hfit.len
  obtain ⟨s, hs⟩ : ∃ s, s = L[k].base := ⟨_, rfl⟩
  obtain ⟨f, hf⟩ : ∃ f, f = findT L s := ⟨_, rfl⟩
  have hfl := findT_le L s
  rw [← hf] at hfl
  have hbT : findT L (baseT L k) = f := by rw [baseT_at hk, ← hs, ← hf]
  have KF : Hid (∀ W J, Hid (XAt L A c p N W J) → Calls Tryz.prog 68 #[.pointer (some ⟨p, 0, none⟩), .string s] W fun e w' => e = .returned (.int .i64 f) ∧ Hid (XAt L A c p N w' J) ∧ Hid (XTo p W J w' J)) := fun W J hx => hf ▸ lkFind_few L A c p N J s W hx.out (by omega) hn
  have q1 : (k : Int) < (L.length : Int) := by omega
  have q2 : (0 : Int) ≤ (k : Int) := by omega
  have e1 : wrap64 (f + 2) = f + 2 := by unfold wrap64; omega
  have e0 : IntKind.i64.wrap (f + 2) = f + 2 := by simp [IntKind.wrap, IntKind.bits, IntKind.signed]; omega
  have e2 : wrap64 f = f := by unfold wrap64; omega
  have e3 : (f + 2 == 0) = false := by simp; omega
  obtain ⟨q, o, rfl, hq, hcb⟩ := h.decl hk
  rw [← hs] at hcb
  unfold XFinds
  rw [← hs, ← hf]
  have HX := Lib.hid h
  have HBT := Lib.hid hbT
  have HK := Lib.hid hk
  obtain ⟨i0, hi0, hz0, hz1, hz2⟩ := info_parts Tryz.infoInt
  obtain ⟨n, hn0⟩ : ∃ n, n = L.length := ⟨_, rfl⟩
  obtain ⟨ms, hms⟩ : ∃ ms, ms = madeCells (Value.int .i64 0).cells (n * 1) := ⟨_, rfl⟩
  have hmk : ∀ W : World, (Instr.makeSlice 51 (.int .i64 (n : Int)) (.int .i64 (n : Int))).run Tryz.prog W = .ok (.slice (some ⟨W.heap.size, 0, none⟩) n n) (W.alloc (.cells ms 3)) := fun W => by
    have := run_make (P := Tryz.prog) W 51 3 i0 (.int .i64 0) Tryz.underlying51 hi0 hz0 .i64 .i64 n n (by omega) (Int.le_refl _) (by rw [hz2]; omega) (by omega)
    rw [hz1] at this
    rw [hms]
    simpa using this
  have hms2 : ms.size = n ∧ ∀ i, i < n → ms[i]? = some (.int .i64 0) := by
    rw [hms, size_madeCells, Nat.mul_one]
    refine ⟨rfl, fun i hi => ?_⟩
    rw [Array.getElem?_eq_getElem (by rw [size_madeCells]; exact hi)]
    simp [madeCells, Value.cells, Nat.mod_one]
  have HMS := Lib.hid hms2
  have HN := Lib.hid hn0
  cases hg : I.g with
  | none =>
    have hpl := (h.far p (.inl rfl)).2
    have y0 := h.c0
    have y2 : w.cell? ⟨p, 2, none⟩ = some (basesV L.length I.g) := h.c2
    have f2 := h.fz 2
    obtain ⟨hx1, ht1⟩ := h.made (W' := (w.setCell ⟨p, 2, none⟩ (.slice (some ⟨w.heap.size, 0, none⟩) n n)).alloc (.cells ms 3)) hg (by rw [hn0]) (by rw [← hn0]; exact hms2)
    obtain ⟨W1, hW1⟩ : ∃ W1, W1 = (w.setCell ⟨p, 2, none⟩ (.slice (some ⟨w.heap.size, 0, none⟩) n n)).alloc (.cells ms 3) := ⟨_, rfl⟩
    rw [← hW1] at hx1 ht1
    have g1 : W1.heap[w.heap.size]? = some (.cells ms 3 (0, 0)) := by
      have := heap_alloc_new (w.setCell ⟨p, 2, none⟩ (.slice (some ⟨w.heap.size, 0, none⟩) n n)) (.cells ms 3)
      rw [hW1]
      simpa [World.setCell] using this
    have z0 := hx1.c0
    have z2 : W1.cell? ⟨p, 2, none⟩ = some (.slice (some ⟨w.heap.size, 0, none⟩) L.length L.length) := hx1.c2
    have zk : W1.cell? ⟨w.heap.size, k, none⟩ = some (.int .i64 0) := by rw [cell_of_row _ _ k _ _ _ g1]; exact hms2.2 k (by omega)
    obtain ⟨q', o', hqo, hq', zc⟩ := hx1.decl hk
    obtain ⟨rfl, rfl⟩ : q' = q ∧ o' = o := by simpa using hqo.symm
    rw [← hs] at zc
    have HX1 := Lib.hid hx1
    have HT1 := Lib.hid ht1
    have HW1 := Lib.hid hW1
    rw [hg] at y2
    change _ = some (Value.slice none 0 0) at y2
    rw [← hn0] at y0 z0 z2 q1
    have hpn : p ≠ w.heap.size := by omega
    have hpn2 : w.heap.size ≠ p := by omega
    have hnil := ints_nil
    have SC : Hid (∀ W, Hid (XAt L (some ⟨q', o', none⟩) c p N W ⟨I.mb, some w.heap.size⟩) → W.cell? ⟨p, 0, none⟩ = some (.slice (some ⟨q', o', none⟩) n c) ∧ W.cell? ⟨p, 2, none⟩ = some (.slice (some ⟨w.heap.size, 0, none⟩) n n) ∧ W.cell? ⟨q', o' + k * 11 + 2, none⟩ = some (.string s)) := fun W hW => by
      obtain ⟨q2, o2, hqo, _, hc⟩ := hW.out.decl hk
      obtain ⟨rfl, rfl⟩ : q2 = q' ∧ o2 = o' := by simpa using hqo.symm
      exact ⟨hn0 ▸ hW.out.c0, hn0 ▸ hW.out.c2, hs ▸ hc⟩
    have SB : Hid (∀ W, Hid (XAt L (some ⟨q', o', none⟩) c p N W ⟨I.mb, some w.heap.size⟩) → ∃ v, W.cell? ⟨w.heap.size, k, none⟩ = some v ∧ W.frozen? ⟨w.heap.size, k, none⟩ = false) := fun W hW => by
      obtain ⟨v, h1, h2, _⟩ := hW.out.cellB rfl hk
      exact ⟨v, h1, h2⟩
    have SS : Hid (∀ W, Hid (XAt L (some ⟨q', o', none⟩) c p N W ⟨I.mb, some w.heap.size⟩) → Hid (XAt L (some ⟨q', o', none⟩) c p N (W.setCell ⟨w.heap.size, k, none⟩ (.int .i64 (f + 2))) ⟨I.mb, some w.heap.size⟩)) := fun W hW => by
      have := hW.out.setBase rfl hk
      rw [hbT] at this
      exact this
    have KK : Hid (∀ W, Hid (XAt L (some ⟨q', o', none⟩) c p N W ⟨I.mb, some w.heap.size⟩) → (W.setCell ⟨w.heap.size, k, none⟩ (.int .i64 (f + 2))).cell? ⟨w.heap.size, k, none⟩ = some (.int .i64 (f + 2))) := fun W hW => hW.out.cellSet rfl hk _
    rw [hW1] at z0 z2 zk zc
    clear hf hs hfl hbT h hfit hk hg hms hms2 hi0 hz0 hz1 hz2 hn0 hx1 ht1 hW1 g1
    go_enter Tryz.func97, Tryz.ntmps97
    go_wp2_with fail
    rw [← HW1.out] at z0 z2 zk zc ⊢
    go_region_held3 (fun w' => w'.cell? ⟨p, 0, none⟩ = some (.slice (some ⟨q', o', none⟩) n c) ∧ w'.cell? ⟨p, 2, none⟩ = some (.slice (some ⟨w.heap.size, 0, none⟩) n n) ∧ w'.cell? ⟨q', o' + k * 11 + 2, none⟩ = some (.string s))
      (first | exact SC.out _ HX1 | exact ⟨by assumption, by assumption, by assumption⟩ | exact SC.out _ (SS.out _ hx2))
      (first | (go_at_call 68; refine (KF.out _ _ HX1.out.drew).mono ?_; rintro e2 w2 ⟨rfl, hx2, ht2⟩; obtain ⟨v0, v2, v3⟩ := SC.out _ hx2; obtain ⟨vk, uk, fk⟩ := SB.out _ hx2))
    have HX3 := SS.out _ hx2
    have HT3 : Hid (XTo p w I (w2.setCell ⟨w.heap.size, k, none⟩ (.int .i64 (f + 2))) ⟨I.mb, some w.heap.size⟩) := (HT1.out.trans ht2.out.drew).trans (XTo.setBase rfl (L := L) (A := some ⟨q', o', none⟩) (c := c) (N := N))
    have x2 := (SC.out _ HX3).2.1
    have xk : (w2.setCell ⟨w.heap.size, k, none⟩ (.int .i64 (f + 2))).cell? ⟨w.heap.size, k, none⟩ = some (.int .i64 (f + 2)) := KK.out _ hx2
    clear uk fk v0 v2 v3 hx2 ht2 z0 z2 zk zc y0 y2 f2
    generalize w2.setCell ⟨w.heap.size, k, none⟩ (.int .i64 (f + 2)) = w3 at HX3 HT3 x2 xk ⊢
    go_wp2_with fail
    go_ret
    exact ⟨_, (by rw [e2]; rfl), HX3, HT3⟩
  | some g =>
    have y0 := h.c0
    have y2 : w.cell? ⟨p, 2, none⟩ = some (basesV L.length I.g) := h.c2
    rw [hg] at y2
    change _ = some (Value.slice (some ⟨g, 0, none⟩) L.length L.length) at y2
    rw [← hn0] at y0 y2 q1
    have hnil := ints_some ⟨g, 0, none⟩ n n
    obtain ⟨v, zk, fk, hv⟩ := h.cellB hg hk
    rw [hbT] at hv
    rcases hv with rfl | rfl
    · have SC : Hid (∀ W, Hid (XAt L (some ⟨q, o, none⟩) c p N W I) → W.cell? ⟨p, 0, none⟩ = some (.slice (some ⟨q, o, none⟩) n c) ∧ W.cell? ⟨p, 2, none⟩ = some (.slice (some ⟨g, 0, none⟩) n n) ∧ W.cell? ⟨q, o + k * 11 + 2, none⟩ = some (.string s)) := fun W hW => by
        obtain ⟨q2, o2, hqo, _, hc⟩ := hW.out.decl hk
        obtain ⟨rfl, rfl⟩ : q2 = q ∧ o2 = o := by simpa using hqo.symm
        have h2 : W.cell? ⟨p, 2, none⟩ = some (basesV L.length I.g) := hW.out.c2
        rw [hg] at h2
        exact ⟨hn0 ▸ hW.out.c0, hn0 ▸ h2, hs ▸ hc⟩
      have SB : Hid (∀ W, Hid (XAt L (some ⟨q, o, none⟩) c p N W I) → ∃ v, W.cell? ⟨g, k, none⟩ = some v ∧ W.frozen? ⟨g, k, none⟩ = false) := fun W hW => by
        obtain ⟨v, h1, h2, _⟩ := hW.out.cellB hg hk
        exact ⟨v, h1, h2⟩
      have SS : Hid (∀ W, Hid (XAt L (some ⟨q, o, none⟩) c p N W I) → Hid (XAt L (some ⟨q, o, none⟩) c p N (W.setCell ⟨g, k, none⟩ (.int .i64 (f + 2))) I)) := fun W hW => by
        have := hW.out.setBase hg hk
        rw [hbT] at this
        exact this
      have KK : Hid (∀ W, Hid (XAt L (some ⟨q, o, none⟩) c p N W I) → (W.setCell ⟨g, k, none⟩ (.int .i64 (f + 2))).cell? ⟨g, k, none⟩ = some (.int .i64 (f + 2))) := fun W hW => hW.out.cellSet hg hk _
      have HG := Lib.hid hg
      clear hf hs hfl hbT h hfit hk hms hms2 hi0 hz0 hz1 hz2 hn0 hg
      go_enter Tryz.func97, Tryz.ntmps97
      go_wp2_with fail
      go_region_held3 (fun w' => w'.cell? ⟨p, 0, none⟩ = some (.slice (some ⟨q, o, none⟩) n c) ∧ w'.cell? ⟨p, 2, none⟩ = some (.slice (some ⟨g, 0, none⟩) n n) ∧ w'.cell? ⟨q, o + k * 11 + 2, none⟩ = some (.string s))
        (first | exact SC.out _ HX | exact ⟨by assumption, by assumption, by assumption⟩ | exact SC.out _ (SS.out _ hx2))
        (first | (go_at_call 68; refine (KF.out _ _ HX.out.drew).mono ?_; rintro e2 w2 ⟨rfl, hx2, ht2⟩; obtain ⟨v0, v2, v3⟩ := SC.out _ hx2; obtain ⟨vk, uk, fk⟩ := SB.out _ hx2))
      have HX3 := SS.out _ hx2
      have HT3 : Hid (XTo p w I (w2.setCell ⟨g, k, none⟩ (.int .i64 (f + 2))) I) := ht2.out.drew.trans (XTo.setBase HG.out (L := L) (A := some ⟨q, o, none⟩) (c := c) (N := N))
      have x2 := (SC.out _ HX3).2.1
      have xk : (w2.setCell ⟨g, k, none⟩ (.int .i64 (f + 2))).cell? ⟨g, k, none⟩ = some (.int .i64 (f + 2)) := KK.out _ hx2
      clear uk fk v0 v2 v3 hx2 ht2 zk y0 y2
      generalize w2.setCell ⟨g, k, none⟩ (.int .i64 (f + 2)) = w3 at HX3 HT3 x2 xk ⊢
      go_wp2_with fail
      go_ret
      exact ⟨_, (by rw [e2]; rfl), HX3, HT3⟩
    · have HT : Hid (XTo p w I w I) := XFr.refl _ _ _ _
      clear hf hs hfl hbT h hfit hk hms hms2 hi0 hz0 hz1 hz2 hn0 hg fk
      go_enter Tryz.func97, Tryz.ntmps97
      go_wp2_with fail
      go_ret
      exact ⟨_, (by rw [e2]; rfl), HX, HT⟩
end Go.Proofs.YtbgilpmoijdcfaaGreat

/-
  lookup: a chain BY A CONTRACT.
-/
namespace Go.Proofs.YtbgilpmoijdcfaaGreat
open Go Go.RowKit
set_option linter.unusedVariables false
set_option linter.unusedSimpArgs false

def lenOfV2 : Value → Nat | .slice _ n _ => n | _ => 0
/-- what is answered behind a walk: its order's row. -/
theorem WX.says {L : List DT} {A : Option Addr} {c p N : Nat} {W0 : World} {I0 : IX} {pw gw : Nat} {W : World} {I : IX} {A' : Option Addr} {c' : Nat} {out : List Int} (h : WX L A c p N W0.heap.size W0 I0 pw gw W I A' c' out) : XSays L A c p N W0 I0 out (.returned (.slice A' out.length c')) W :=
  ⟨A', c', I, rfl, h.wk.row, fun j h1 h2 => h.dis j h1 (.inr (.inr h2)), h.ix, h.fr⟩
set_option maxHeartbeats 2000000 in
set_option maxRecDepth 100000 in
theorem lkChain_any (L : List DT) (A : Option Addr) (c p N : Nat) (I : IX) (d0 : Int) (w : World) (h : XAt L A c p N w I) (hfit : Fit L) :
    Calls Tryz.prog 78 #[.pointer (some ⟨p, 0, none⟩), .int .i64 d0] w (XSays L A c p N w I (chainT L d0)) := by
  have hcl := hfit.cnt
  have KW : Hid (Calls Tryz.prog 89 #[.pointer (some ⟨p, 0, none⟩)] w fun e w' => ∃ pw gw, e = .returned (.pointer (some ⟨pw, 0, none⟩)) ∧ Hid (WX L A c p N w.heap.size w I pw gw w' I none 0 [])) := lkWalk_any L A c p N I w h hcl
  have KI : Hid (∀ W J d, Hid (XAt L A c p N W J) → Calls Tryz.prog 79 #[.pointer (some ⟨p, 0, none⟩), .int .i64 d, .int .i64 2] W fun e w' => e = .returned (.bool (isOfT L d 2)) ∧ Hid (Below W.heap.size W w')) := fun W J d hx => lkIsOf_any L A c p N J d 2 W hx.out
  have KB : Hid (∀ W J k, (hk : k < L.length) → Hid (XAt L A c p N W J) → Calls Tryz.prog 97 #[.pointer (some ⟨p, 0, none⟩), .int .i64 ((k : Nat) : Int)] W fun e w' => ∃ J', e = .returned (.int .i64 (findT L (baseT L k))) ∧ Hid (XAt L A c p N w' J') ∧ Hid (XTo p W J w' J')) := fun W J k hk hx => by
    rw [baseT_at hk]
    exact lkBase_any L A c p N k J W hx.out hfit hk
  have HC := Lib.hid hcl
  obtain ⟨r, hr0⟩ : ∃ r, r = chainT L d0 := ⟨_, rfl⟩
  rw [← hr0]
  have HR := Lib.hid hr0
  clear hr0 h hfit hcl
  go_enter Tryz.func78, Tryz.ntmps78
  go_wp2_with fail
  refine KW.out.mono ?_
  rintro e1 w2 ⟨pw, gw, rfl, hw0⟩
  clear KW
  go_wp2_with fail
  go_loopw [1] (fun dv wr => ∃ (f : Nat) (d : Int) (out : List Int) (J : IX) (A' : Option Addr) (c' : Nat), dv = .int .i64 d ∧ Hid (Met L out) ∧ Hid (out.length + f = L.length + 1) ∧ Hid (chainF L f out d = r) ∧ Hid (WX L A c p N w.heap.size w I pw gw wr J A' c' out)) (fun _ wr => L.length + 1 - lenOfV2 ((wr.cell? ⟨pw, 1, none⟩).getD undef))
  case atStart => exact ⟨L.length + 1, d0, [], I, none, 0, rfl, Met.nil L, by simp [Hid], HR.out.symm, hw0⟩
  case round =>
    obtain ⟨f, d, out, J, A', c', rfl, hm, hf, hc, hw⟩ := hrel
    obtain ⟨f1, hf1⟩ : ∃ g, f = g + 1 := ⟨f - 1, by have := hm.out.len; have := hf.out; omega⟩
    subst hf1
    have KI1 : Hid (Calls Tryz.prog 79 #[.pointer (some ⟨p, 0, none⟩), .int .i64 d, .int .i64 2] wr fun e w' => e = .returned (.bool (isOfT L d 2)) ∧ Hid (Below wr.heap.size wr w')) := KI.out wr J d hw.out.ix
    cases hk : isOfT L d 2
    · have he := chainF_end (L := L) (f := f1) (out := out) (d := d) (.inl hk)
      have hre := Lib.hid (he.symm.trans hc.out)
      rw [hk] at KI1
      clear he hk
      go_wp2_with fail
      refine KI1.out.mono ?_
      rintro e3 w3 ⟨rfl, hb3⟩
      have HW3 := Lib.hid (hw.out.quiet hb3.out)
      have o1 := HW3.out.order
      clear hb3
      go_wp2_with fail
      go_ret
      exact hre.out ▸ HW3.out.says
    · obtain ⟨k, hdk, hkl⟩ := isOfT_lt hk
      subst hdk
      have hol := hm.out.len
      have hcl := HC.out
      have KM : Hid (∀ W, Hid (WX L A c p N w.heap.size w I pw gw W J A' c' out) → Calls Tryz.prog 90 #[.pointer (some ⟨pw, 0, none⟩), .int .i64 (k : Int)] W fun e w' => e = .returned (.bool (!out.contains (k : Int))) ∧ ∃ A2 c2, Hid (WX L A c p N w.heap.size w I pw gw w' J A2 c2 (if out.contains (k : Int) then out else out ++ [(k : Int)]))) := fun W h => (lkMeet_any L A c p N _ w I J pw gw k A' c' out W h.out hkl hcl (by omega) (hm.out.i64 hcl)).mono fun e w' hh => by
        obtain ⟨h1, A2, c2, h2, -⟩ := hh
        exact ⟨h1, A2, c2, h2⟩
      rw [hk] at KI1
      have HK2 := Lib.hid hk
      clear hk
      obtain ⟨bb, hb0⟩ : ∃ x, x = out.contains (k : Int) := ⟨_, rfl⟩
      rw [← hb0] at KM
      have HB0 := Lib.hid hb0
      clear hb0
      go_wp2_with fail
      refine KI1.out.mono ?_
      rintro e3 w3 ⟨rfl, hb3⟩
      have HW3 := Lib.hid (hw.out.quiet hb3.out)
      have hw0 := Lib.hid hw.out.order
      clear hb3
      cases bb
      · go_wp2_with fail
        refine (KM.out _ HW3).mono ?_
        rintro e4 w4 ⟨rfl, A4, c4, hw4⟩
        have hw4 : Hid (WX L A c p N w.heap.size w I pw gw w4 J A4 c4 (out ++ [(k : Int)])) := hw4
        have hm4 : Hid (Met L (out ++ [(k : Int)])) := hm.out.snoc HK2.out HB0.out.symm
        have hc4 : Hid (chainF L f1 (out ++ [(k : Int)]) (findT L (baseT L k)) = r) := by rw [← chainF_go HK2.out HB0.out.symm]; exact hc
        have hf4 : Hid ((out ++ [(k : Int)]).length + f1 = L.length + 1) := by have := hf.out; unfold Hid; rw [List.length_append]; simp only [List.length_cons, List.length_nil]; omega
        have hl4 : Hid ((out ++ [(k : Int)]).length = out.length + 1) := by simp [Hid]
        obtain ⟨out4, ho4⟩ : ∃ o, o = out ++ [(k : Int)] := ⟨_, rfl⟩
        rw [← ho4] at hw4 hm4 hc4 hf4 hl4
        have KB2 := Lib.hid (KB.out w4 J k hkl hw4.out.ix)
        clear ho4
        go_wp2_with fail
        refine KB2.out.mono ?_
        rintro e5 w5 ⟨J5, rfl, hx5, ht5⟩
        have HW5 := Lib.hid (hw4.out.step hx5.out ht5.out)
        have HO5 := Lib.hid HW5.out.order
        clear hx5 ht5
        go_wp2_with fail
        go_roundw
        case rel => exact ⟨f1, _, out4, J5, A4, c4, rfl, hm4, hf4, hc4, HW5⟩
        case measure =>
          rw [hw0.out, HO5.out]
          have h1 := hf4.out
          have h2 := hl4.out
          simp only [Option.getD_some, lenOfV2]
          omega
      · have he := chainF_end (L := L) (f := f1) (out := out) (d := k) (.inr HB0.out.symm)
        have hre := Lib.hid (he.symm.trans hc.out)
        clear he
        go_wp2_with fail
        refine (KM.out _ HW3).mono ?_
        rintro e4 w4 ⟨rfl, A4, c4, hw4⟩
        have hw4 : Hid (WX L A c p N w.heap.size w I pw gw w4 J A4 c4 out) := hw4
        have o1 := hw4.out.order
        go_wp2_with fail
        go_ret
        exact hre.out ▸ hw4.out.says
end Go.Proofs.YtbgilpmoijdcfaaGreat

/-
  lookup: a class's interfaces BY A CONTRACT.
-/
namespace Go.Proofs.YtbgilpmoijdcfaaGreat
open Go Go.RowKit
set_option linter.unusedVariables false
set_option linter.unusedSimpArgs false

theorem faceStep_meet {L : List DT} {out : List Int} {s : ByteArray} (h : isOfT L (findT L s) 1 = true) : faceStep L out s = if out.contains (findT L s) then out else out ++ [findT L s] := by
  unfold faceStep
  rw [h, Bool.true_and]
  cases out.contains (findT L s) <;> rfl
theorem faceStep_no {L : List DT} {out : List Int} {s : ByteArray} (h : isOfT L (findT L s) 1 = false) : faceStep L out s = out := by
  unfold faceStep
  rw [h]
  rfl
/-- a declaration's cells, wherever the call goes on. -/
theorem declAll {w : World} {N : Nat} {A : Option Addr} {L : List DT} (h : DsR w N A L) {k : Nat} (hk : k < L.length) : ∃ (q o : Nat) (E1 : Option Addr) (e1 : Nat) (E2 : Option Addr) (e2 : Nat) (E3 : Option Addr) (e3 : Nat) (E4 : Option Addr) (e4 : Nat), A = some ⟨q, o, none⟩ ∧ q < N ∧ ∀ W, Below N w W →
    (XsR W N E1 L[k].faces ∧ VsR W N E2 L[k].vars ∧ MsR W N E3 L[k].methods ∧ SsR W N E4 L[k].body ∧ I64 L[k].every ∧ I64 L[k].first) ∧
    W.cell? ⟨q, o + k * 11, none⟩ = some (.int .i64 L[k].kind) ∧ W.cell? ⟨q, o + k * 11 + 1, none⟩ = some (.string L[k].name) ∧ W.cell? ⟨q, o + k * 11 + 2, none⟩ = some (.string L[k].base) ∧ W.cell? ⟨q, o + k * 11 + 3, none⟩ = some (.slice E1 L[k].faces.length e1) ∧
    W.cell? ⟨q, o + k * 11 + 4, none⟩ = some (.bool L[k].abstract) ∧ W.cell? ⟨q, o + k * 11 + 5, none⟩ = some (.bool L[k].final) ∧ W.cell? ⟨q, o + k * 11 + 6, none⟩ = some (.slice E2 L[k].vars.length e2) ∧ W.cell? ⟨q, o + k * 11 + 7, none⟩ = some (.slice E3 L[k].methods.length e3) ∧
    W.cell? ⟨q, o + k * 11 + 8, none⟩ = some (.slice E4 L[k].body.length e4) ∧ W.cell? ⟨q, o + k * 11 + 9, none⟩ = some (.int .i64 L[k].every) ∧ W.cell? ⟨q, o + k * 11 + 10, none⟩ = some (.int .i64 L[k].first) := by
  obtain ⟨q, o, cs, hA, hq, _, hcs, he⟩ := h k hk
  obtain ⟨E1, e1, E2, e2, E3, e3, E4, e4, rfl, hv1, hv2, r1, r2, r3, r4⟩ := he
  refine ⟨q, o, E1, e1, E2, e2, E3, e3, E4, e4, hA, hq, fun W hW => ?_⟩
  have hk2 : ∀ g, g < N → W.heap[g]? = w.heap[g]? := fun g hg => hW.block g hg
  have hc : ∀ (j : Nat) u, [Value.int .i64 L[k].kind, .string L[k].name, .string L[k].base, .slice E1 L[k].faces.length e1, .bool L[k].abstract, .bool L[k].final, .slice E2 L[k].vars.length e2, .slice E3 L[k].methods.length e3, .slice E4 L[k].body.length e4, .int .i64 L[k].every, .int .i64 L[k].first][j]? = some u → W.cell? ⟨q, o + k * 11 + j, none⟩ = some u := fun j u hj => (World.cell?_of_block (hk2 q hq)).trans (hcs j u hj)
  refine ⟨⟨r1.mono (Nat.le_refl _) hk2, r2.mono (Nat.le_refl _) hk2, r3.mono (Nat.le_refl _) hk2, r4.mono (Nat.le_refl _) hk2, hv1, hv2⟩, ?_⟩
  exact ⟨hc 0 _ rfl, hc 1 _ rfl, hc 2 _ rfl, hc 3 _ rfl, hc 4 _ rfl, hc 5 _ rfl, hc 6 _ rfl, hc 7 _ rfl, hc 8 _ rfl, hc 9 _ rfl, hc 10 _ rfl⟩
/-- an index, a walk, a row of the call's own, side by side. -/
structure FX (L : List DT) (A : Option Addr) (c p N S : Nat) (W0 : World) (I0 : IX) (pw gw B : Nat) (A1 : Option Addr) (c1 : Nat) (C : List Int) (W : World) (I : IX) (A' : Option Addr) (c' : Nat) (out : List Int) : Prop where
  wx : WX L A c p N S W0 I0 pw gw W I A' c' out
  row : IRow B W A1 c1 C
  ni : ∀ j, I.has p j → (Value.slice A1 C.length c1).ownBlock ≠ some j
  nk : ∀ j, KS pw gw A' out c' j → (Value.slice A1 C.length c1).ownBlock ≠ some j
theorem FX.quiet {L : List DT} {A : Option Addr} {c p N S : Nat} {W0 : World} {I0 : IX} {pw gw B : Nat} {A1 : Option Addr} {c1 : Nat} {C : List Int} {W W' : World} {I : IX} {A' : Option Addr} {c' : Nat} {out : List Int} (h : FX L A c p N S W0 I0 pw gw B A1 c1 C W I A' c' out) (k : Below W.heap.size W W') : FX L A c p N S W0 I0 pw gw B A1 c1 C W' I A' c' out := ⟨h.wx.quiet k, h.row.below k, h.ni, h.nk⟩
theorem FX.step {L : List DT} {A : Option Addr} {c p N S : Nat} {W0 : World} {I0 : IX} {pw gw B : Nat} {A1 : Option Addr} {c1 : Nat} {C : List Int} {W W' : World} {I I' : IX} {A' : Option Addr} {c' : Nat} {out : List Int} (h : FX L A c p N S W0 I0 pw gw B A1 c1 C W I A' c' out) (hx : XAt L A c p N W' I') (k : XTo p W I W' I') : FX L A c p N S W0 I0 pw gw B A1 c1 C W' I' A' c' out :=
  ⟨h.wx.step hx k, (h.row.ix h.ni k).1, (h.row.ix h.ni k).2, h.nk⟩
theorem FX.meet {L : List DT} {A : Option Addr} {c p N S : Nat} {W0 : World} {I0 : IX} {pw gw B : Nat} {A1 : Option Addr} {c1 : Nat} {C : List Int} {W W' : World} {I : IX} {A' A2 : Option Addr} {c' c2 : Nat} {out out2 : List Int} (h : FX L A c p N S W0 I0 pw gw B A1 c1 C W I A' c' out) (hw : WX L A c p N S W0 I0 pw gw W' I A2 c2 out2) (k : KFr pw gw A' c' out W A2 c2 out2 W') : FX L A c p N S W0 I0 pw gw B A1 c1 C W' I A2 c2 out2 := by
  refine ⟨hw, h.row.stay fun j hj => k.block j (h.row.own_lt hj).2 fun h1 => h.nk j h1 hj, h.ni, fun j h1 h2 => ?_⟩
  rcases k.later j h1 with h3 | h3
  · exact h.nk j h3 h2
  · have := (h.row.own_lt h2).2
    omega
theorem FX.below {L : List DT} {A : Option Addr} {c p N S : Nat} {W0 : World} {I0 : IX} {pw gw B : Nat} {A1 : Option Addr} {c1 : Nat} {C : List Int} {W : World} {I : IX} {A' : Option Addr} {c' : Nat} {out : List Int} (h : FX L A c p N S W0 I0 pw gw B A1 c1 C W I A' c' out) (h0 : XAt L A c p N W0 I0) : Below N W0 W := h.wx.fr.toBelow h0 h.wx.le
theorem FX.at_ {L : List DT} {A : Option Addr} {c p N S : Nat} {W0 : World} {I0 : IX} {pw gw B : Nat} {A1 : Option Addr} {c1 : Nat} {C : List Int} {W : World} {I : IX} {A' : Option Addr} {c' : Nat} {out : List Int} (h : FX L A c p N S W0 I0 pw gw B A1 c1 C W I A' c' out) {i gl : Nat} (hi : i < C.length) (e : A1 = some ⟨gl, 0, none⟩) : W.cell? ⟨gl, i, none⟩ = some (.int .i64 C[i]) := by
  subst e
  have h9 := h.row.at_ hi
  rw [Nat.zero_add] at h9
  exact h9
set_option maxHeartbeats 4000000 in
set_option maxRecDepth 100000 in
theorem lkFaces_any (L : List DT) (A : Option Addr) (c p N : Nat) (I : IX) (d0 : Int) (w : World) (h : XAt L A c p N w I) (hfit : Fit L) :
    Calls Tryz.prog 59 #[.pointer (some ⟨p, 0, none⟩), .int .i64 d0] w (XSays L A c p N w I (facesT L d0)) := by
  have hcl0 := hfit.cnt
  have hfew := hfit.len
  have HFIT := Lib.hid hfit
  have HX := Lib.hid h
  have KW : Hid (Calls Tryz.prog 89 #[.pointer (some ⟨p, 0, none⟩)] w fun e w' => ∃ pw gw, e = .returned (.pointer (some ⟨pw, 0, none⟩)) ∧ Hid (WX L A c p N w.heap.size w I pw gw w' I none 0 [])) := lkWalk_any L A c p N I w h hcl0
  have KC : Hid (∀ W J d, Hid (XAt L A c p N W J) → Calls Tryz.prog 78 #[.pointer (some ⟨p, 0, none⟩), .int .i64 d] W (XSays L A c p N W J (chainT L d))) := fun W J d hx => lkChain_any L A c p N J d W hx.out hfit
  have KI : Hid (∀ W J d, Hid (XAt L A c p N W J) → Calls Tryz.prog 79 #[.pointer (some ⟨p, 0, none⟩), .int .i64 d, .int .i64 1] W fun e w' => e = .returned (.bool (isOfT L d 1)) ∧ Hid (Below W.heap.size W w')) := fun W J d hx => lkIsOf_any L A c p N J d 1 W hx.out
  have KF : Hid (∀ W J s, Hid (XAt L A c p N W J) → Calls Tryz.prog 68 #[.pointer (some ⟨p, 0, none⟩), .string s] W fun e w' => e = .returned (.int .i64 (findT L s)) ∧ Hid (XAt L A c p N w' J) ∧ Hid (XTo p W J w' J)) := fun W J s hx => lkFind_few L A c p N J s W hx.out hcl0 hfew
  obtain ⟨r, hr0⟩ : ∃ r, r = facesT L d0 := ⟨_, rfl⟩
  rw [← hr0]
  have HR := Lib.hid hr0
  have HDA := Lib.hid (fun k (hk : k < L.length) => declAll h.row hk)
  clear hr0 h hfit hfew
  go_enter Tryz.func59, Tryz.ntmps59
  go_wp2_with fail
  refine KW.out.mono ?_
  rintro e1 w2 ⟨pw, gw, rfl, hw0⟩
  clear KW
  go_wp2_with fail
  refine (KC.out w2 I d0 hw0.out.ix).mono ?_
  rintro e3 w3 ⟨A1, c1, I3, rfl, hrow1, hno1, hx3, ht3⟩
  have hmet := chainT_met L d0
  have hin : ∀ x ∈ chainT L d0, ∃ k : Nat, x = k ∧ k < L.length := fun x hx => by
    have := hmet.2 x hx
    exact ⟨x.toNat, by omega, by omega⟩
  have hr2 : facesF L [] (chainT L d0) = r := HR.out.symm
  have hml := hmet.len
  obtain ⟨C, hC⟩ : ∃ C, C = chainT L d0 := ⟨_, rfl⟩
  rw [← hC] at hr2 hin hml hrow1 hno1
  have hfx : Hid (FX L A c p N w.heap.size w I pw gw w2.heap.size A1 c1 C w3 I3 none 0 []) := ⟨hw0.out.step hx3.out ht3.out, hrow1.out, hno1.out, fun j h1 h2 => by
    have := (hrow1.out.own_lt h2).1
    have := (hw0.out.wk.far j h1).2
    omega⟩
  have HA1 := Lib.hid (fun (h : 0 < C.length) => hrow1.out.isBlock h)
  have HR1 := Lib.hid hr2
  have HIN := Lib.hid hin
  rw [← hC]
  clear hr2 hin hC hrow1 hno1 hmet hw0 hx3 ht3 KC
  go_wp2_with fail
  go_loopw [17] (fun iv wr => ∃ (i : Nat) (out : List Int) (J : IX) (A' : Option Addr) (c' : Nat), i ≤ C.length ∧ iv = .int .i64 i ∧ Hid (Met L out) ∧ Hid (facesF L out (C.drop i) = r) ∧ Hid (FX L A c p N w.heap.size w I pw gw w2.heap.size A1 c1 C wr J A' c' out)) (fun i _ => C.length - (intOf i).toNat)
  case atStart => exact ⟨0, [], I3, none, 0, Nat.zero_le _, rfl, Met.nil L, HR1, hfx⟩
  case round =>
    obtain ⟨i, out, J, A', c', hi, rfl, hm, hdr, hw2⟩ := hrel
    have h2 : (0 : Int) ≤ (i : Int) := by omega
    by_cases hlt : i < C.length
    · have h1 : (i : Int) < (C.length : Int) := by omega
      have hdrop := hdr.out
      rw [facesF_drop hlt] at hdrop
      obtain ⟨kk, hkk, hkl⟩ := HIN.out _ (List.getElem_mem hlt)
      obtain ⟨q, o, E1, e1, E2, e2, E3, e3, E4, e4, hA, hg, hY⟩ := HDA.out kk hkl
      obtain ⟨gl, hAl⟩ := HA1.out (by omega)
      have z := hw2.out.at_ hlt hAl
      rw [hkk] at z
      have hbel := hw2.out.below HX.out
      obtain ⟨-, -, -, -, x3, -⟩ := hY _ hbel
      have y0 := hw2.out.wx.ix.c0
      subst hA hAl
      have q1 : (kk : Int) < (L.length : Int) := by omega
      have q2 : (0 : Int) ≤ (kk : Int) := by omega
      obtain ⟨F, hF⟩ : ∃ F, F = L[kk].faces := ⟨_, rfl⟩
      have hfo : facesOf L C[i] = F := by rw [hkk]; unfold facesOf; rw [Int.toNat_natCast, List.getElem?_eq_getElem hkl, hF]; rfl
      have hfl : F.length ≤ 1000000000 := hF ▸ HFIT.out.faces _ (List.getElem_mem _)
      rw [hfo] at hdrop
      have hXS : ∀ W, Below N w W → XsR W N E1 F := fun W h => hF ▸ (hY W h).1.1
      rw [← hF] at x3
      have HXS := Lib.hid hXS
      have HDR := Lib.hid hdrop
      clear hdrop hY hF hfo hXS hkk hbel
      go_wp2_with fail
      clear z x3 y0
      go_loopw [30] (fun jv w4 => ∃ (j : Nat) (out4 : List Int) (J4 : IX) (A4 : Option Addr) (c4 : Nat), j ≤ F.length ∧ jv = .int .i64 j ∧ Hid (Met L out4) ∧ Hid (facesF L ((F.drop j).foldl (faceStep L) out4) (C.drop (i + 1)) = r) ∧ Hid (FX L (some ⟨q, o, none⟩) c p N w.heap.size w I pw gw w2.heap.size (some ⟨gl, 0, none⟩) c1 C w4 J4 A4 c4 out4)) (fun j _ => F.length - (intOf j).toNat)
      case atStart => exact ⟨0, out, J, A', c', Nat.zero_le _, rfl, hm, HDR, hw2⟩
      case round =>
        obtain ⟨j, out4, J4, A4, c4, hj, rfl, hm4, hdr4, hw4⟩ := hrel
        obtain ⟨W4, hW4⟩ : ∃ W4 : World, W4 = wr := ⟨_, rfl⟩
        subst hW4
        have h3 : (0 : Int) ≤ (j : Int) := by omega
        by_cases hjl : j < F.length
        · have h4 : (j : Int) < (F.length : Int) := by omega
          have hdrop := hdr4.out
          rw [fold_drop hjl] at hdrop
          obtain ⟨gf, off, csf, hE, hgf, -, hcf, hef⟩ := HXS.out _ (hw4.out.below HX.out) j hjl
          subst hE
          obtain ⟨s, hs⟩ : ∃ s, s = F[j] := ⟨_, rfl⟩
          rw [← hs] at hef hdrop
          have hef' : csf = [.string s] := hef
          subst hef'
          have x := hcf 0 _ rfl
          simp only [Nat.mul_one, Nat.add_zero] at x
          have hyes := @faceStep_meet L out4 s
          have hno := @faceStep_no L out4 s
          have hni := findT_le L s
          have KF2 := KF.out W4 J4 s hw4.out.wx.ix
          obtain ⟨n, hn⟩ : ∃ n, n = findT L s := ⟨_, rfl⟩
          rw [← hn] at KF2 hyes hno hni
          have KF3 := Lib.hid KF2
          have HDR4 := Lib.hid hdrop
          have HYES := Lib.hid hyes
          have HNO := Lib.hid hno
          have HNI := Lib.hid hni
          clear hcf hef hs hdrop hn hyes hno hni KF2
          go_wp2_with fail
          refine KF3.out.mono ?_
          rintro e5 w5 ⟨rfl, hx5, ht5⟩
          have HW5 := Lib.hid (hw4.out.step hx5.out ht5.out)
          have KI5 := KI.out w5 J4 n hx5
          clear x KF3
          cases hk : isOfT L n 1
          · rw [hk] at KI5
            have KI6 := Lib.hid KI5
            have hd5 := HDR4.out
            rw [HNO.out hk] at hd5
            have HD5 := Lib.hid hd5
            clear KI5 hk hd5
            go_wp2_with fail
            refine KI6.out.mono ?_
            rintro e6 w6 ⟨rfl, hb6⟩
            have HW6 := Lib.hid (HW5.out.quiet hb6.out)
            clear hb6
            go_wp2_with fail
            go_roundw
            case rel => exact ⟨j + 1, out4, J4, A4, c4, by omega, by go_num, hm4, HD5, HW6⟩
            case measure => simp [intOf]; omega
          · rw [hk] at KI5
            have KI6 := Lib.hid KI5
            have hd5 := HDR4.out
            rw [HYES.out hk] at hd5
            obtain ⟨nn, hnn, hnl⟩ := isOfT_lt hk
            have hol := hm4.out.len
            have KM : Hid (∀ W, Hid (WX L (some ⟨q, o, none⟩) c p N w.heap.size w I pw gw W J4 A4 c4 out4) → Calls Tryz.prog 90 #[.pointer (some ⟨pw, 0, none⟩), .int .i64 n] W fun e w' => e = .returned (.bool (!out4.contains n)) ∧ ∃ A2 c2, Hid (WX L (some ⟨q, o, none⟩) c p N w.heap.size w I pw gw w' J4 A2 c2 (if out4.contains n then out4 else out4 ++ [n])) ∧ Hid (KFr pw gw A4 c4 out4 W A2 c2 (if out4.contains n then out4 else out4 ++ [n]) w')) := fun W h => hnn ▸ lkMeet_any L _ c p N _ w I J4 pw gw nn A4 c4 out4 W h.out hnl hcl0 (by omega) (hm4.out.i64 hcl0)
            have hm5 : Hid (Met L (if out4.contains n then out4 else out4 ++ [n])) := by
              cases hcn : out4.contains n
              · exact hm4.out.snoc hk hcn
              · exact hm4
            obtain ⟨out5, ho5⟩ : ∃ o, o = (if out4.contains n then out4 else out4 ++ [n]) := ⟨_, rfl⟩
            obtain ⟨bb, hbb⟩ : ∃ x, x = (!out4.contains n) := ⟨_, rfl⟩
            rw [← ho5] at KM hm5 hd5
            rw [← hbb] at KM
            have HD5 := Lib.hid hd5
            clear KI5 hk hd5 hnn ho5 hbb hol
            go_wp2_with fail
            refine KI6.out.mono ?_
            rintro e6 w6 ⟨rfl, hb6⟩
            have HW6 := Lib.hid (HW5.out.quiet hb6.out)
            clear hb6
            go_wp2_with fail
            refine (KM.out _ HW6.out.wx).mono ?_
            rintro e7 w7 ⟨rfl, A7, c7, hw7, hk7⟩
            have HW7 := Lib.hid (HW6.out.meet hw7.out hk7.out)
            go_wp2_with fail
            go_roundw
            case rel => exact ⟨j + 1, out5, J4, A7, c7, by omega, by go_num, hm5, HD5, HW7⟩
            case measure => simp [intOf]; omega
        · have h4 : ¬ (j : Int) < (F.length : Int) := by omega
          have hdr5 := hdr4.out
          rw [List.drop_of_length_le (i := j) (l := F) (by omega)] at hdr5
          have HD5 := Lib.hid hdr5
          clear hdr5
          go_wp2_with fail
          go_roundw
          case rel => exact ⟨i + 1, out4, J4, A4, c4, by omega, by go_num, hm4, HD5, hw4⟩
          case measure => simp [intOf]; omega
    · have h1 : ¬ (i : Int) < (C.length : Int) := by omega
      have hres := hdr.out
      rw [List.drop_of_length_le (by omega)] at hres
      have HRES := Lib.hid hres
      have o1 := hw2.out.wx.order
      clear hres
      go_wp2_with fail
      go_ret
      have e : out = r := HRES.out
      exact e ▸ hw2.out.wx.says
end Go.Proofs.YtbgilpmoijdcfaaGreat

/-
  lookup: what is of one name, and stands for another, BY CONTRACTS.
-/
namespace Go.Proofs.YtbgilpmoijdcfaaGreat
open Go Go.RowKit
set_option linter.unusedVariables false
set_option linter.unusedSimpArgs false

/-- what a call of an index answers. -/
def XRet (L : List DT) (A : Option Addr) (c p N : Nat) (W : World) (I : IX) (v : Value) (e : Ending) (w' : World) : Prop := ∃ I', e = .returned v ∧ Hid (XAt L A c p N w' I') ∧ Hid (XTo p W I w' I')
def thingT (L : List DT) (s : ByteArray) : Bool := isOfT L (findT L s) 2 || isOfT L (findT L s) 1
def typeV (L : List DT) (s : ByteArray) : Value := .tuple #[.int .i64 (if thingT L s then findT L s else 0), .bool (thingT L s)]
set_option maxHeartbeats 1000000 in
set_option maxRecDepth 100000 in
theorem lkType_any (L : List DT) (A : Option Addr) (c p N : Nat) (I : IX) (s : ByteArray) (w : World) (h : XAt L A c p N w I) (hfit : Fit L) :
    Calls Tryz.prog 96 #[.pointer (some ⟨p, 0, none⟩), .string s] w (XRet L A c p N w I (typeV L s)) := by
  have hcl0 := hfit.cnt
  have hfew := hfit.len
  obtain ⟨d, hd⟩ : ∃ d, d = findT L s := ⟨_, rfl⟩
  have KF : Hid (Calls Tryz.prog 68 #[.pointer (some ⟨p, 0, none⟩), .string s] w fun e w' => e = .returned (.int .i64 d) ∧ Hid (XAt L A c p N w' I) ∧ Hid (XTo p w I w' I)) := hd ▸ lkFind_few L A c p N I s w h hcl0 hfew
  obtain ⟨b2, hb2⟩ : ∃ b, b = isOfT L d 2 := ⟨_, rfl⟩
  obtain ⟨b1, hb1⟩ : ∃ b, b = isOfT L d 1 := ⟨_, rfl⟩
  have K2 : Hid (∀ W, Hid (XAt L A c p N W I) → Calls Tryz.prog 79 #[.pointer (some ⟨p, 0, none⟩), .int .i64 d, .int .i64 2] W fun e w' => e = .returned (.bool b2) ∧ Hid (Below W.heap.size W w')) := fun W hx => hb2 ▸ lkIsOf_any L A c p N I d 2 W hx.out
  have K1 : Hid (∀ W, Hid (XAt L A c p N W I) → Calls Tryz.prog 79 #[.pointer (some ⟨p, 0, none⟩), .int .i64 d, .int .i64 1] W fun e w' => e = .returned (.bool b1) ∧ Hid (Below W.heap.size W w')) := fun W hx => hb1 ▸ lkIsOf_any L A c p N I d 1 W hx.out
  have hv : typeV L s = .tuple #[.int .i64 (if (b2 || b1) then d else 0), .bool (b2 || b1)] := by unfold typeV thingT; rw [← hd, ← hb2, ← hb1]
  unfold XRet
  rw [hv]
  clear hv hb1 hb2 hd h hfit
  go_enter Tryz.func96, Tryz.ntmps96
  go_wp2_with fail
  refine KF.out.mono ?_
  rintro e1 w1 ⟨rfl, hx1, ht1⟩
  go_wp2_with fail
  refine (K2.out _ hx1).mono ?_
  rintro e2 w2 ⟨rfl, hb2⟩
  have hx2 := Lib.hid (hx1.out.below hb2.out)
  have ht2 := Lib.hid (ht1.out.trans (XTo.of_below hb2.out))
  clear hx1 ht1 hb2
  cases b2
  case' false =>
    go_wp2_with fail
    refine (K1.out _ hx2).mono ?_
    rintro e3 w3 ⟨rfl, hb3⟩
    have hx3 := Lib.hid (hx2.out.below hb3.out)
    have ht3 := Lib.hid (ht2.out.trans (XTo.of_below hb3.out))
    clear hx2 ht2 hb3
    cases b1
    case false =>
      go_wp2_with fail
      go_ret2
      exact ⟨rfl, I, hx3, ht3⟩
    have hx2 := hx3
    have ht2 := ht3
    clear hx3 ht3
  all_goals
    go_wp2_with fail
    go_ret2
    exact ⟨rfl, I, hx2, ht2⟩
set_option maxHeartbeats 4000000 in
set_option maxRecDepth 100000 in
theorem lkIs_any (L : List DT) (A : Option Addr) (c p N : Nat) (I : IX) (name what : ByteArray) (w : World) (h : XAt L A c p N w I) (hfit : Fit L) :
    Calls Tryz.prog 134 #[.pointer (some ⟨p, 0, none⟩), .string name, .string what] w (XRet L A c p N w I (.bool (isT L name what))) := by
  have hcnt := hfit.cnt
  have hfew := hfit.len
  obtain ⟨d, hd⟩ : ∃ d, d = findT L name := ⟨_, rfl⟩
  obtain ⟨m, hm⟩ : ∃ m, m = findT L what := ⟨_, rfl⟩
  obtain ⟨th, hth⟩ : ∃ b, b = thingT L name := ⟨_, rfl⟩
  obtain ⟨d2, hd2⟩ : ∃ d2, d2 = (if th then d else 0) := ⟨_, rfl⟩
  have KT : Hid (Calls Tryz.prog 96 #[.pointer (some ⟨p, 0, none⟩), .string name] w fun e w' => ∃ I', e = .returned (.tuple #[.int .i64 d2, .bool th]) ∧ Hid (XAt L A c p N w' I') ∧ Hid (XTo p w I w' I')) := by
    have := lkType_any L A c p N I name w h hfit
    unfold XRet typeV at this
    rw [← hth, ← hd, ← hd2] at this
    exact this
  have KF : Hid (∀ W J, Hid (XAt L A c p N W J) → Calls Tryz.prog 68 #[.pointer (some ⟨p, 0, none⟩), .string what] W fun e w' => e = .returned (.int .i64 m) ∧ Hid (XAt L A c p N w' J) ∧ Hid (XTo p W J w' J)) := fun W J hx => hm ▸ lkFind_few L A c p N J what W hx.out hcnt hfew
  have KC : Hid (∀ W J, Hid (XAt L A c p N W J) → Calls Tryz.prog 78 #[.pointer (some ⟨p, 0, none⟩), .int .i64 d] W (XSays L A c p N W J (chainT L d))) := fun W J hx => lkChain_any L A c p N J d W hx.out hfit
  have KFA : Hid (∀ W J, Hid (XAt L A c p N W J) → Calls Tryz.prog 59 #[.pointer (some ⟨p, 0, none⟩), .int .i64 d] W (XSays L A c p N W J (facesT L d))) := fun W J hx => lkFaces_any L A c p N J d W hx.out hfit
  have KH : Hid (∀ W B l A' c' n, l.length ≤ 1000000000 → Hid (IRow B W A' c' l) → Calls Tryz.prog 136 #[.slice A' l.length c', .int .i64 n] W fun e w' => e = .returned (.bool (l.contains n)) ∧ w' = W) := fun W B l A' c' n hl hr => contains_any l A' c' n W hr.out.nsr hl
  have hcl : (chainT L d).length ≤ 1000000000 := Nat.le_trans (chainT_met L d).len hcnt
  have hfl : (facesT L d).length ≤ 1000000000 := Nat.le_trans (facesT_met L d).len hcnt
  obtain ⟨r, hr⟩ : ∃ r, r = isT L name what := ⟨_, rfl⟩
  rw [← hr]
  have hr1 : r = (th && (decide (name = what) || (chainT L d).contains m || (facesT L d).contains m)) := by rw [hr, isT, hth, thingT, ← hd, ← hm]
  obtain ⟨CH, hCH⟩ : ∃ x, x = chainT L d := ⟨_, rfl⟩
  obtain ⟨FA, hFA⟩ : ∃ x, x = facesT L d := ⟨_, rfl⟩
  rw [← hCH] at KC hcl hr1
  rw [← hFA] at KFA hfl hr1
  have KH1 : Hid (∀ W B A' c', Hid (IRow B W A' c' CH) → Calls Tryz.prog 136 #[.slice A' CH.length c', .int .i64 m] W fun e w' => e = .returned (.bool (CH.contains m)) ∧ w' = W) := fun W B A' c' h => KH.out W B CH A' c' m hcl h
  have KH2 : Hid (∀ W B A' c', Hid (IRow B W A' c' FA) → Calls Tryz.prog 136 #[.slice A' FA.length c', .int .i64 m] W fun e w' => e = .returned (.bool (FA.contains m)) ∧ w' = W) := fun W B A' c' h => KH.out W B FA A' c' m hfl h
  obtain ⟨b3, hb3⟩ : ∃ b, b = CH.contains m := ⟨_, rfl⟩
  obtain ⟨b4, hb4⟩ : ∃ b, b = FA.contains m := ⟨_, rfl⟩
  rw [← hb3] at KH1 hr1
  rw [← hb4] at KH2 hr1
  have HRr := Lib.hid hr1
  have HD2 := Lib.hid hd2
  unfold XRet
  clear hr hr1 hb3 hb4 hCH hFA hcl hfl hd hm hcnt hfit KH h hth hd2 hfew
  go_enter Tryz.func134, Tryz.ntmps134
  go_wp2_with fail
  refine KT.out.mono ?_
  rintro e1 w1 ⟨J1, rfl, hx1, ht1⟩
  cases th
  · have HF : Hid (r = false) := HRr.out
    go_wp2_with fail
    go_ret
    exact ⟨J1, by rw [HF.out]; rfl, hx1, ht1⟩
  · have HRR : Hid (r = (decide (name = what) || b3 || b4)) := HRr.out
    have hdd : d2 = d := HD2.out
    subst hdd
    by_cases q : name = what
    · have qq := str_eq q
      have HF : Hid (r = true) := by unfold Hid; rw [HRR.out]; simp [q]
      clear q
      go_wp2_with fail
      go_ret
      exact ⟨J1, by rw [HF.out]; rfl, hx1, ht1⟩
    · have qq := str_ne q
      have HF1 : Hid (r = (b3 || b4)) := by unfold Hid; rw [HRR.out]; simp [q]
      clear q
      go_wp2_with fail
      refine (KF.out _ _ hx1).mono ?_
      rintro e3 w3 ⟨rfl, hx3, ht3⟩
      have ht3 := Lib.hid (ht1.out.trans ht3.out)
      go_wp2_with fail
      refine (KC.out _ _ hx3).mono ?_
      rintro e4 w4 ⟨A4, c4, J4, rfl, r4, n4, hx4, ht4⟩
      have ht4 := Lib.hid (ht3.out.trans ht4.out)
      clear hx3
      go_wp2_with fail
      refine (KH1.out _ _ _ _ r4).mono ?_
      rintro e5 w5 ⟨rfl, rfl⟩
      cases b3
      · have HF2 : Hid (r = b4) := by unfold Hid; rw [HF1.out]; simp
        go_wp2_with fail
        refine (KFA.out _ _ hx4).mono ?_
        rintro e6 w6 ⟨A6, c6, J6, rfl, r6, n6, hx6, ht6⟩
        have ht6 := Lib.hid (ht4.out.trans ht6.out)
        clear hx4
        go_wp2_with fail
        refine (KH2.out _ _ _ _ r6).mono ?_
        rintro e7 w7 ⟨rfl, rfl⟩
        go_wp2_with fail
        go_ret
        exact ⟨J6, by rw [HF2.out]; rfl, hx6, ht6⟩
      · have HF2 : Hid (r = true) := by unfold Hid; rw [HF1.out]; simp
        go_wp2_with fail
        go_ret
        exact ⟨J4, by rw [HF2.out]; rfl, hx4, ht4⟩
end Go.Proofs.YtbgilpmoijdcfaaGreat

/-
  rules: what a declaration may be, on plain data; a value that is asked.
-/
namespace Go.Proofs.YtbgilpmoijdcfaaGreat
open Go Go.RowKit
set_option linter.unusedVariables false
set_option linter.unusedSimpArgs false

def btwT (n lo hi : Int) : Bool := decide (lo ≤ n) && decide (n ≤ hi)
def startT (v : VT) : Bool := if v.type.kind = 1 then btwT v.init (-32768) 32767 else if v.type.kind = 2 then btwT v.init 0 1 else if v.type.kind = 3 then btwT v.init v.type.lo v.type.hi else decide (v.init = 0)
def linkT (v : VT) : Bool := decide (v.dir = 0) || (btwT v.dir 1 2 && (decide (v.type.kind = 1) || decide (v.type.kind = 2)))
def namedT (L : List DT) (s : ByteArray) (q : Int) : Bool := decide (0 ≤ findT L s) && decide (kindT L (findT L s) = q)
def handT (L : List DT) (t : YT) : Bool := if t.kind = 1 ∨ t.kind = 2 then true else if t.kind = 5 then thingT L t.name else false
def keepT (L : List DT) (t : YT) : Bool := if t.kind = 3 then decide (-32768 ≤ t.lo) && decide (t.hi ≤ 32767) && decide (t.lo ≤ t.hi) else if t.kind = 4 then btwT t.hi 0 7 else handT L t
def absT (L : List DT) (d : Int) : Bool := (L[d.toNat]?.map DT.abstract).getD false
def holdT (L : List DT) (t : YT) : Bool := if t.kind = 6 then namedT L t.name 2 && !absT L (findT L t.name) else if t.kind = 7 then btwT t.lo 1 7 else keepT L t

/-- what is asked: a unit, an index of it, a declaration's number, and what it is. -/
structure AX where
  L : List DT
  A : Option Addr
  c : Nat
  p : Nat
  N : Nat
  k : Nat
  D : DT
  A1 : Option Addr
  A2 : Option Addr
  A3 : Option Addr
  A4 : Option Addr
  c1 : Nat
  c2 : Nat
  c3 : Nat
  c4 : Nat
abbrev declV (D : DT) (A1 A2 A3 A4 : Option Addr) (c1 c2 c3 c4 : Nat) : Array Value := #[.int .i64 D.kind, .string D.name, .string D.base, .slice A1 D.faces.length c1, .bool D.abstract, .bool D.final, .slice A2 D.vars.length c2, .slice A3 D.methods.length c3, .slice A4 D.body.length c4, .int .i64 D.every, .int .i64 D.first]
abbrev AX.cells (X : AX) : Array Value := #[.slice X.A X.L.length X.c, .pointer (some ⟨X.p, 0, none⟩), .int .i64 (X.k : Int), .int .i64 X.D.kind, .string X.D.name, .string X.D.base, .slice X.A1 X.D.faces.length X.c1, .bool X.D.abstract, .bool X.D.final, .slice X.A2 X.D.vars.length X.c2, .slice X.A3 X.D.methods.length X.c3, .slice X.A4 X.D.body.length X.c4, .int .i64 X.D.every, .int .i64 X.D.first]
abbrev AX.val (X : AX) : Value := .agg X.cells
structure XOk (X : AX) (W : World) (I : IX) : Prop where
  ix : XAt X.L X.A X.c X.p X.N W I
  fit : FitA X.L
  lt : X.k < X.L.length
  decl : X.D = X.L[X.k]
  faces : XsR W X.N X.A1 X.D.faces
  vars : VsR W X.N X.A2 X.D.vars
  methods : MsR W X.N X.A3 X.D.methods
  body : SsR W X.N X.A4 X.D.body
  every : I64 X.D.every
  first : I64 X.D.first
  cap : X.L.length ≤ X.c
theorem XOk.go {X : AX} {W W' : World} {I I' : IX} (h : XOk X W I) (hx : XAt X.L X.A X.c X.p X.N W' I') (hb : Below X.N W W') : XOk X W' I' :=
  ⟨hx, h.fit, h.lt, h.decl, XsR.mono (Nat.le_refl _) hb.block h.faces, VsR.mono (Nat.le_refl _) hb.block h.vars, MsR.mono (Nat.le_refl _) hb.block h.methods, SsR.mono (Nat.le_refl _) hb.block h.body, h.every, h.first, h.cap⟩
theorem XOk.below {X : AX} {W W' : World} {I : IX} (h : XOk X W I) (hb : Below W.heap.size W W') : XOk X W' I := h.go (h.ix.below hb) (hb.mono (Nat.le_of_lt h.ix.lt))
theorem XOk.drew {X : AX} {W : World} {I : IX} (h : XOk X W I) : XOk X W.drew I := h.below (Below.refl _ _).drew
/-- an answer of a rule: a truth; nothing is changed but the index's own. -/
def RSaysX (X : AX) (w : World) (I : IX) (r : Bool) (e : Ending) (w' : World) : Prop := ∃ I', e = .returned (.bool r) ∧ Hid (XOk X w' I') ∧ Hid (XTo X.p w I w' I')
theorem RSaysX.of_below {X : AX} {w w' : World} {I : IX} {r : Bool} {e : Ending} (h : XOk X w I) (he : e = .returned (.bool r)) (hb : Below w.heap.size w w') : RSaysX X w I r e w' := ⟨I, he, h.below hb, XTo.of_below hb⟩
/-- the block of what is asked, as a call lays it. -/
theorem asked_new (w : World) (X : AX) : (w.alloc (.cells X.cells 55)).heap[w.heap.size]? = some (.cells X.cells 55 (0, 0)) := heap_alloc_new w _
structure ACells (X : AX) (W : World) (b : Nat) : Prop where
  unit : W.cell? ⟨b, 0, none⟩ = some (.slice X.A X.L.length X.c)
  ix : W.cell? ⟨b, 1, none⟩ = some (.pointer (some ⟨X.p, 0, none⟩))
  num : W.cell? ⟨b, 2, none⟩ = some (.int .i64 (X.k : Int))
  kind : W.cell? ⟨b, 3, none⟩ = some (.int .i64 X.D.kind)
  name : W.cell? ⟨b, 4, none⟩ = some (.string X.D.name)
  base : W.cell? ⟨b, 5, none⟩ = some (.string X.D.base)
  faces : W.cell? ⟨b, 6, none⟩ = some (.slice X.A1 X.D.faces.length X.c1)
  abs : W.cell? ⟨b, 7, none⟩ = some (.bool X.D.abstract)
  fin : W.cell? ⟨b, 8, none⟩ = some (.bool X.D.final)
  vars : W.cell? ⟨b, 9, none⟩ = some (.slice X.A2 X.D.vars.length X.c2)
  methods : W.cell? ⟨b, 10, none⟩ = some (.slice X.A3 X.D.methods.length X.c3)
  body : W.cell? ⟨b, 11, none⟩ = some (.slice X.A4 X.D.body.length X.c4)
  every : W.cell? ⟨b, 12, none⟩ = some (.int .i64 X.D.every)
  first : W.cell? ⟨b, 13, none⟩ = some (.int .i64 X.D.first)
theorem ACells.of {X : AX} {W : World} {b : Nat} (h : W.heap[b]? = some (.cells X.cells 55 (0, 0))) : ACells X W b := by
  refine ⟨?_, ?_, ?_, ?_, ?_, ?_, ?_, ?_, ?_, ?_, ?_, ?_, ?_, ?_⟩ <;> (rw [cell_of_row _ _ _ _ _ _ h]; rfl)
/-- the asked value's block stands, wherever the call goes on. -/
structure ABox (X : AX) (w R0 : World) (I : IX) : Prop where
  below : Below w.heap.size w R0
  lt : w.heap.size < R0.heap.size
  ok : XOk X R0 I
  box : R0.heap[w.heap.size]? = some (.cells X.cells 55 (0, 0))
  own : X.N < w.heap.size ∧ ∀ h, I.has X.p h → h < w.heap.size
theorem ABox.of {X : AX} {w : World} {I : IX} (h : XOk X w I) : ABox X w (w.alloc (.cells X.cells 55)) I :=
  have hb : Below w.heap.size w (w.alloc (.cells X.cells 55)) := (Below.refl _ _).alloc (Nat.le_refl _) _
  ⟨hb, by simp, h.below hb, asked_new w X, h.ix.lt, fun k hk => (h.ix.far k hk).2⟩
theorem ABox.alloc {X : AX} {w R0 : World} {I : IX} (h : ABox X w R0 I) (o : Obj) : ABox X w (R0.alloc o) I :=
  have hb : Below R0.heap.size R0 (R0.alloc o) := (Below.refl _ _).alloc (Nat.le_refl _) _
  ⟨h.below.trans (hb.mono (Nat.le_of_lt h.lt)), Nat.lt_of_lt_of_le h.lt hb.size, h.ok.below hb, (hb.block _ h.lt).trans h.box, h.own⟩
/-- the block is none of the index's. -/
theorem ABox.stays {X : AX} {w R0 W : World} {I I' : IX} (h : ABox X w R0 I) (ht : XTo X.p R0 I W I') : W.heap[w.heap.size]? = some (.cells X.cells 55 (0, 0)) :=
  (ht.block _ h.lt (fun hh => Nat.lt_irrefl _ (h.own.2 _ hh))).trans h.box
theorem ABox.cells {X : AX} {w R0 W : World} {I I' : IX} (h : ABox X w R0 I) (ht : XTo X.p R0 I W I') : ACells X W w.heap.size := .of (h.stays ht)
theorem ABox.back {X : AX} {w R0 W : World} {I I' : IX} (h : ABox X w R0 I) (ht : XTo X.p R0 I W I') : XTo X.p w I W I' :=
  ⟨ht.os.trans h.below.os, ht.tape.trans h.below.tape, ht.output.trans h.below.output, Nat.le_trans h.below.size ht.size, fun i h1 h2 => (ht.block i (Nat.lt_of_lt_of_le h1 h.below.size) h2).trans (h.below.block i h1), fun i hi => (ht.later i hi).imp id (fun h3 => Nat.le_trans h.below.size h3)⟩
end Go.Proofs.YtbgilpmoijdcfaaGreat

/-
  lookup: where a method is BY A CONTRACT.
-/
namespace Go.Proofs.YtbgilpmoijdcfaaGreat
open Go Go.RowKit
set_option linter.unusedVariables false
set_option linter.unusedSimpArgs false

set_option maxHeartbeats 4000000 in
set_option maxRecDepth 100000 in
theorem lkMethod_any (L : List DT) (A : Option Addr) (c p N : Nat) (I : IX) (d0 : Int) (s : ByteArray) (w : World) (h : XAt L A c p N w I) (hfit : FitA L) (hd0 : I64 d0) :
    Calls Tryz.prog 102 #[.pointer (some ⟨p, 0, none⟩), .int .i64 d0, .string s] w (XRet L A c p N w I (whereV (methodT L d0 s))) := by
  obtain ⟨R0, hR0⟩ : ∃ R0 : World, R0 = w.alloc (.cells #[.int .i64 0, .int .i64 0] 68) := ⟨_, rfl⟩
  have hb0 : Below w.heap.size w R0 := by rw [hR0]; exact (Below.refl _ _).alloc (Nat.le_refl _) _
  have hg0 : R0.heap[w.heap.size]? = some (.cells #[.int .i64 0, .int .i64 0] 68 (0, 0)) := by rw [hR0]; exact heap_alloc_new w _
  have hs0 : R0.heap.size = w.heap.size + 1 := by rw [hR0]; simp
  have hx0 := Lib.hid (h.below hb0)
  have hni : ¬ I.has p w.heap.size := fun e => by have := (h.far _ e).2; omega
  have HFIT := Lib.hid hfit
  have HD0 := Lib.hid hd0
  have KC : Hid (Calls Tryz.prog 78 #[.pointer (some ⟨p, 0, none⟩), .int .i64 d0] R0 fun e w1 => ∃ A1 c1 J, e = .returned (.slice A1 (chainT L d0).length c1) ∧ Hid (IRow R0.heap.size w1 A1 c1 (chainT L d0)) ∧ Hid (XAt L A c p N w1 J) ∧ Hid (w1.heap[w.heap.size]? = some (.cells #[.int .i64 0, .int .i64 0] 68 (0, 0))) ∧ Hid (XTo p w I w1 J) ∧ Hid (w.heap.size + 1 ≤ w1.heap.size) ∧ Hid (N ≤ w1.heap.size) ∧ Hid (¬ J.has p w.heap.size)) := (lkChain_any L A c p N I d0 R0 hx0.out hfit).mono fun e w1 hh => by
    obtain ⟨A1, c1, J, h1, h2, h3, h4, h5⟩ := hh
    exact ⟨A1, c1, J, h1, h2, h4, (h5.out.block _ (by omega) hni).trans hg0, (XTo.of_below hb0).trans h5.out, by have := h5.out.size; unfold Hid; omega, Nat.le_of_lt h4.out.lt, h5.out.none (by omega) hni⟩
  have KI : Hid (∀ W J, Hid (XAt L A c p N W J) → Calls Tryz.prog 79 #[.pointer (some ⟨p, 0, none⟩), .int .i64 d0, .int .i64 1] W fun e w' => e = .returned (.bool (isOfT L d0 1)) ∧ Hid (Below W.heap.size W w')) := fun W J hx => lkIsOf_any L A c p N J d0 1 W hx.out
  obtain ⟨r, hr0⟩ : ∃ r, r = methodT L d0 s := ⟨_, rfl⟩
  rw [← hr0]
  have HR := Lib.hid hr0
  have HR0 := Lib.hid hR0
  have HNW : Hid (N ≤ w.heap.size) := Nat.le_of_lt h.lt
  unfold XRet
  clear hr0 h hfit hd0 hg0 hb0 hs0 hni hR0
  go_enter Tryz.func102, Tryz.ntmps102
  go_wp2_with fail
  rw [← HR0.out]
  refine KC.out.mono ?_
  rintro e1 w1 ⟨A1, c1, J, rfl, hrow1, hx1, HG, ht1, hs1, hn1, hnj⟩
  have hNw : N ≤ w.heap.size := HNW.out
  have HFIN : Hid (∀ W a b, Hid (Below w1.heap.size w1 W) → Hid (XAt L A c p N ((W.setCell ⟨w.heap.size, 0, none⟩ (.int .i64 a)).setCell ⟨w.heap.size, 1, none⟩ (.int .i64 b)) J) ∧ Hid (XTo p w I ((W.setCell ⟨w.heap.size, 0, none⟩ (.int .i64 a)).setCell ⟨w.heap.size, 1, none⟩ (.int .i64 b)) J)) := fun W a b hb => by
    have e : ∀ k, k ≠ w.heap.size → ((W.setCell ⟨w.heap.size, 0, none⟩ (.int .i64 a)).setCell ⟨w.heap.size, 1, none⟩ (.int .i64 b)).heap[k]? = W.heap[k]? := fun k hk => (Below.heap_setCell _ _ _ _ hk).trans (Below.heap_setCell _ _ _ _ hk)
    have hsz : ((W.setCell ⟨w.heap.size, 0, none⟩ (.int .i64 a)).setCell ⟨w.heap.size, 1, none⟩ (.int .i64 b)).heap.size = W.heap.size := by simp [World.setCell]
    refine ⟨(hx1.out.below hb.out).stay (by omega) (fun k hk => e k ?_), ht1.out.quiet ⟨hb.out.os, hb.out.tape, hb.out.output, by have := hb.out.size; omega, fun k hk => (e k (by omega)).trans (hb.out.block k (by have := hs1.out; omega))⟩⟩
    rcases hk with hk | hk
    · omega
    · exact fun e => hnj.out (e ▸ hk)
  have HB1 : Hid (Below w1.heap.size w1 w1) := Below.refl _ _
  have HDA := Lib.hid (fun k (hk : k < L.length) => declAll hx1.out.row hk)
  have HO2 : Hid (∀ W, Hid (Below w1.heap.size w1 W) → Hid (XAt L A c p N W J)) := fun W h => hx1.out.below h.out
  have KI1 := KI.out w1 J hx1
  cases hk1 : isOfT L d0 1
  · rw [hk1] at KI1
    have KI2 := Lib.hid KI1
    have hh : homesT L d0 = chainT L d0 := by unfold homesT; rw [hk1]; rfl
    have hr1 : methodF L s (homesT L d0) = r := HR.out.symm
    have hin := homesT_in L d0
    have hmet := (chainT_met L d0).len
    have hcl0 := HFIT.out.cnt
    rw [hh] at hr1 hin
    obtain ⟨H, hH⟩ : ∃ H, H = chainT L d0 := ⟨_, rfl⟩
    rw [← hH] at hr1 hin hmet hrow1
    have HR1 := Lib.hid hr1
    have HIN := Lib.hid hin
    rw [← hH]
    clear hh hr1 hin hH hk1 KI1
    go_wp2_with fail
    refine KI2.out.mono ?_
    rintro e2 w2 ⟨rfl, hb2⟩
    have hrow2 : Hid (IRow R0.heap.size w2 A1 c1 H) := hrow1.out.below hb2.out
    clear hrow1
    go_wp2_with fail
    go_loopw [22] (fun iv wr => ∃ k : Nat, k ≤ H.length ∧ iv = .int .i64 k ∧ Hid (methodF L s (H.drop k) = r) ∧ Hid (IRow R0.heap.size wr A1 c1 H) ∧ Hid (Below w1.heap.size w1 wr)) (fun i _ => H.length - (intOf i).toNat)
    case atStart => exact ⟨0, Nat.zero_le _, rfl, HR1, hrow2, hb2⟩
    case round =>
      obtain ⟨k, hk, rfl, hdr, hrow3, hb3⟩ := hrel
      have h2 : (0 : Int) ≤ (k : Int) := by omega
      by_cases hlt : k < H.length
      · have h1 : (k : Int) < (H.length : Int) := by omega
        have hdrop := hdr.out
        rw [methodF_drop hlt] at hdrop
        have hhome := HIN.out _ (List.getElem_mem hlt)
        obtain ⟨x, hx⟩ : ∃ x, x = H[k] := ⟨_, rfl⟩
        rw [← hx] at hhome hdrop
        obtain ⟨kk, hkk, hkl⟩ := hhome
        obtain ⟨q, o, E1, e1, E2, e2, E3, e3, E4, e4, hA, hg, hY⟩ := HDA.out kk hkl
        obtain ⟨gl, hAl⟩ := hrow3.out.isBlock (by omega)
        subst hAl
        subst hA
        have z : wr.cell? ⟨gl, k, none⟩ = some (.int .i64 (kk : Int)) := by
          have h9 := hrow3.out.at_ hlt
          rw [Nat.zero_add, ← hx, hkk] at h9
          exact h9
        obtain ⟨M, hM⟩ : ∃ M, M = L[kk].methods := ⟨_, rfl⟩
        have hmo : methodsOf L x = M := by rw [hkk]; unfold methodsOf; rw [Int.toNat_natCast, List.getElem?_eq_getElem hkl, hM]; rfl
        have hml : M.length ≤ 1000000000 := hM ▸ HFIT.out.methods _ (List.getElem_mem _)
        rw [hmo, hkk] at hdrop
        have HDR := Lib.hid hdrop
        have HCE : Hid (∀ W, Hid (Below w1.heap.size w1 W) → W.cell? ⟨p, 0, none⟩ = some (.slice (some ⟨q, o, none⟩) L.length c) ∧ W.cell? ⟨q, o + kk * 11 + 7, none⟩ = some (.slice E3 M.length e3) ∧ MsR W N E3 M) := fun W h => ⟨(HO2.out W h).out.c0, hM ▸ (hY W (h.out.mono hn1.out)).2.2.2.2.2.2.2.2.1, hM ▸ (hY W (h.out.mono hn1.out)).1.2.2.1⟩
        obtain ⟨y0, x7, -⟩ := HCE.out _ hb3
        have q1 : (kk : Int) < (L.length : Int) := by omega
        have q2 : (0 : Int) ≤ (kk : Int) := by omega
        clear hmo hM hY hdrop hkk hx
        go_wp2_with fail
        clear y0 x7 z
        go_loopw [35] (fun jv w4 => ∃ j : Nat, j ≤ M.length ∧ jv = .int .i64 j ∧ Hid (∀ i (hi : i < M.length), i < j → M[i].name ≠ s) ∧ Hid (IRow R0.heap.size w4 (some ⟨gl, 0, none⟩) c1 H) ∧ Hid (Below w1.heap.size w1 w4)) (fun j _ => M.length - (intOf j).toNat)
        case atStart => exact ⟨0, Nat.zero_le _, rfl, fun _ _ h => absurd h (Nat.not_lt_zero _), hrow3, hb3⟩
        case round =>
          obtain ⟨j, hj, rfl, hn, hrow4, hb4⟩ := hrel
          obtain ⟨W4, hW4⟩ : ∃ W4 : World, W4 = wr := ⟨_, rfl⟩
          subst hW4
          obtain ⟨y0, x7, hms⟩ := HCE.out _ hb4
          have j0 : (0 : Int) ≤ (j : Int) := by omega
          by_cases hjl : j < M.length
          · have j1 : (j : Int) < (M.length : Int) := by omega
            obtain ⟨g, om, cs, hE, hgm, -, hc, he⟩ := hms j hjl
            subst hE
            obtain ⟨m, hN⟩ : ∃ d : MT, d = M[j] := ⟨_, rfl⟩
            rw [← hN] at he
            obtain ⟨B1, d1, B2, d2, B3, d3, rfl, _⟩ := he
            have y1 := hc 0 _ rfl
            rw [Nat.add_zero] at y1
            by_cases hs : m.name = s
            · have hr := ownT_at hjl hn.out (hN ▸ hs)
              have qs : (m.name.toList == s.toList) = true := str_eq hs
              have hres := HDR.out
              rw [hr, if_pos (by omega)] at hres
              have HRES := Lib.hid hres
              have hw6 := blk_cells HG.out hb4.out
              have g0 : W4.cell? ⟨w.heap.size, 0, none⟩ = some (.int .i64 0) := by rw [cell_of_row _ _ 0 _ _ _ hw6]; rfl
              have g1 : W4.cell? ⟨w.heap.size, 1, none⟩ = some (.int .i64 0) := by rw [cell_of_row _ _ 1 _ _ _ hw6]; rfl
              have f0 : W4.frozen? ⟨w.heap.size, 0, none⟩ = false := frozen_of_row _ _ 0 _ _ hw6
              have f1 : W4.frozen? ⟨w.heap.size, 1, none⟩ = false := frozen_of_row _ _ 1 _ _ hw6
              have HW6 := Lib.hid hw6
              clear hc hN hs hms hr hres hw6
              go_wp2_with fail
              refine ret_where (w3 := W4) (g := w.heap.size) (a := kk) (b := j) (ev := true) rfl HW6.out rfl rfl rfl ?_
              first
                | exact ⟨J, (by rw [← HRES.out]; rfl), (HFIN.out _ _ _ hb4).1, (HFIN.out _ _ _ hb4).2⟩
                | exact ⟨(by rw [← HRES.out]; rfl), J, (HFIN.out _ _ _ hb4).1, (HFIN.out _ _ _ hb4).2⟩
            · have hn2 : Hid (∀ i (hi : i < M.length), i < j + 1 → M[i].name ≠ s) := fun i hi h => by
                rcases Nat.lt_or_ge i j with h3 | h3
                · exact hn.out i hi h3
                · obtain rfl : i = j := by omega
                  exact hN ▸ hs
              have qs : (m.name.toList == s.toList) = false := str_ne hs
              clear hc hN hs hms
              go_wp2_with fail
              go_roundw
              case rel => exact ⟨j + 1, by omega, by go_num, hn2, hrow4, hb4⟩
              case measure => simp [intOf]; omega
          · have j1 : ¬ (j : Int) < (M.length : Int) := by omega
            have hr := ownT_none (L := M) (s := s) (fun i hi => hn.out i hi (by omega))
            have hres := HDR.out
            rw [hr, if_neg (by omega)] at hres
            have HRES := Lib.hid hres
            clear hr hres hms
            go_wp2_with fail
            go_roundw
            case rel => exact ⟨k + 1, by omega, by go_num, HRES, hrow4, hb4⟩
            case measure => simp [intOf]; omega
      · have h1 : ¬ (k : Int) < (H.length : Int) := by omega
        have hres := hdr.out
        rw [List.drop_of_length_le (by omega)] at hres
        have HRES := Lib.hid hres
        have hw6 := blk_cells HG.out hb3.out
        have g0 : wr.cell? ⟨w.heap.size, 0, none⟩ = some (.int .i64 0) := by rw [cell_of_row _ _ 0 _ _ _ hw6]; rfl
        have g1 : wr.cell? ⟨w.heap.size, 1, none⟩ = some (.int .i64 0) := by rw [cell_of_row _ _ 1 _ _ _ hw6]; rfl
        have f0 : wr.frozen? ⟨w.heap.size, 0, none⟩ = false := frozen_of_row _ _ 0 _ _ hw6
        have f1 : wr.frozen? ⟨w.heap.size, 1, none⟩ = false := frozen_of_row _ _ 1 _ _ hw6
        have HW6 := Lib.hid hw6
        clear hw6 hres
        go_wp2_with fail
        refine ret_where (w3 := wr) (g := w.heap.size) (a := 0) (b := 0) (ev := false) rfl HW6.out rfl rfl rfl ?_
        first
          | exact ⟨J, (by rw [← HRES.out]; rfl), (HFIN.out _ _ _ hb3).1, (HFIN.out _ _ _ hb3).2⟩
          | exact ⟨(by rw [← HRES.out]; rfl), J, (HFIN.out _ _ _ hb3).1, (HFIN.out _ _ _ hb3).2⟩
  · rw [hk1] at KI1
    have KI2 := Lib.hid KI1
    have hh : homesT L d0 = [d0] := by unfold homesT; rw [hk1]; rfl
    have hr1 : methodF L s (homesT L d0) = r := HR.out.symm
    have hin := homesT_in L d0
    have hcl0 := HFIT.out.cnt
    rw [hh] at hr1 hin
    obtain ⟨H, hH⟩ : ∃ H, H = [d0] := ⟨_, rfl⟩
    have hHl : H.length = 1 := by rw [hH]; rfl
    rw [← hH] at hr1 hin
    have HR1 := Lib.hid hr1
    have HIN := Lib.hid hin
    have HH := Lib.hid hH
    clear hh hr1 hin hH hk1 KI1 hrow1
    go_wp2_with fail
    refine KI2.out.mono ?_
    rintro e2 w2 ⟨rfl, hb2⟩
    have hs2 := hb2.out.size
    have hrow4 : Hid (IRow w1.heap.size (w2.alloc (.cells #[.int .i64 d0] 3)) (some ⟨w2.heap.size, 0, none⟩) 1 H) := HH.out ▸ IRow.one w2 d0 HD0.out hs2
    have hb4 : Hid (Below w1.heap.size w1 (w2.alloc (.cells #[.int .i64 d0] 3))) := hb2.out.alloc hs2 _
    go_wp2_with fail
    generalize (w2.alloc (.cells #[.int .i64 d0] 3)) = w4 at hrow4 hb4 ⊢
    generalize w2.heap.size = gl at hrow4 ⊢
    go_loopw [22] (fun iv wr => ∃ k : Nat, k ≤ H.length ∧ iv = .int .i64 k ∧ Hid (methodF L s (H.drop k) = r) ∧ Hid (IRow w1.heap.size wr (some ⟨gl, 0, none⟩) 1 H) ∧ Hid (Below w1.heap.size w1 wr)) (fun i _ => H.length - (intOf i).toNat)
    case atStart => exact ⟨0, Nat.zero_le _, rfl, HR1, hrow4, hb4⟩
    case round =>
      obtain ⟨k, hk, rfl, hdr, hrow3, hb3⟩ := hrel
      rcases (show k = 0 ∨ k = 1 by omega) with rfl | rfl
      · have hlt : 0 < H.length := by omega
        have hdrop := hdr.out
        rw [methodF_drop hlt] at hdrop
        have hhome := HIN.out _ (List.getElem_mem hlt)
        obtain ⟨x, hx⟩ : ∃ x, x = H[0] := ⟨_, rfl⟩
        rw [← hx] at hhome hdrop
        obtain ⟨kk, hkk, hkl⟩ := hhome
        obtain ⟨q, o, E1, e1, E2, e2, E3, e3, E4, e4, hA, hg, hY⟩ := HDA.out kk hkl
        subst hA
        have z : wr.cell? ⟨gl, 0, none⟩ = some (.int .i64 (kk : Int)) := by
          have h9 := hrow3.out.at_ hlt
          rw [Nat.zero_add, ← hx, hkk] at h9
          exact h9
        obtain ⟨M, hM⟩ : ∃ M, M = L[kk].methods := ⟨_, rfl⟩
        have hmo : methodsOf L x = M := by rw [hkk]; unfold methodsOf; rw [Int.toNat_natCast, List.getElem?_eq_getElem hkl, hM]; rfl
        have hml : M.length ≤ 1000000000 := hM ▸ HFIT.out.methods _ (List.getElem_mem _)
        rw [hmo, hkk] at hdrop
        have HDR := Lib.hid hdrop
        have HCE : Hid (∀ W, Hid (Below w1.heap.size w1 W) → W.cell? ⟨p, 0, none⟩ = some (.slice (some ⟨q, o, none⟩) L.length c) ∧ W.cell? ⟨q, o + kk * 11 + 7, none⟩ = some (.slice E3 M.length e3) ∧ MsR W N E3 M) := fun W h => ⟨(HO2.out W h).out.c0, hM ▸ (hY W (h.out.mono hn1.out)).2.2.2.2.2.2.2.2.1, hM ▸ (hY W (h.out.mono hn1.out)).1.2.2.1⟩
        obtain ⟨y0, x7, -⟩ := HCE.out _ hb3
        have q1 : (kk : Int) < (L.length : Int) := by omega
        have q2 : (0 : Int) ≤ (kk : Int) := by omega
        clear hmo hM hY hdrop hkk hx
        go_wp2_with fail
        clear y0 x7 z
        go_loopw [35] (fun jv w4 => ∃ j : Nat, j ≤ M.length ∧ jv = .int .i64 j ∧ Hid (∀ i (hi : i < M.length), i < j → M[i].name ≠ s) ∧ Hid (IRow w1.heap.size w4 (some ⟨gl, 0, none⟩) 1 H) ∧ Hid (Below w1.heap.size w1 w4)) (fun j _ => M.length - (intOf j).toNat)
        case atStart => exact ⟨0, Nat.zero_le _, rfl, fun _ _ h => absurd h (Nat.not_lt_zero _), hrow3, hb3⟩
        case round =>
          obtain ⟨j, hj, rfl, hn, hrow4, hb4⟩ := hrel
          obtain ⟨W4, hW4⟩ : ∃ W4 : World, W4 = wr := ⟨_, rfl⟩
          subst hW4
          obtain ⟨y0, x7, hms⟩ := HCE.out _ hb4
          have j0 : (0 : Int) ≤ (j : Int) := by omega
          by_cases hjl : j < M.length
          · have j1 : (j : Int) < (M.length : Int) := by omega
            obtain ⟨g, om, cs, hE, hgm, -, hc, he⟩ := hms j hjl
            subst hE
            obtain ⟨m, hN⟩ : ∃ d : MT, d = M[j] := ⟨_, rfl⟩
            rw [← hN] at he
            obtain ⟨B1, d1, B2, d2, B3, d3, rfl, _⟩ := he
            have y1 := hc 0 _ rfl
            rw [Nat.add_zero] at y1
            by_cases hs : m.name = s
            · have hr := ownT_at hjl hn.out (hN ▸ hs)
              have qs : (m.name.toList == s.toList) = true := str_eq hs
              have hres := HDR.out
              rw [hr, if_pos (by omega)] at hres
              have HRES := Lib.hid hres
              have hw6 := blk_cells HG.out hb4.out
              have g0 : W4.cell? ⟨w.heap.size, 0, none⟩ = some (.int .i64 0) := by rw [cell_of_row _ _ 0 _ _ _ hw6]; rfl
              have g1 : W4.cell? ⟨w.heap.size, 1, none⟩ = some (.int .i64 0) := by rw [cell_of_row _ _ 1 _ _ _ hw6]; rfl
              have f0 : W4.frozen? ⟨w.heap.size, 0, none⟩ = false := frozen_of_row _ _ 0 _ _ hw6
              have f1 : W4.frozen? ⟨w.heap.size, 1, none⟩ = false := frozen_of_row _ _ 1 _ _ hw6
              have HW6 := Lib.hid hw6
              clear hc hN hs hms hr hres hw6
              go_wp2_with fail
              refine ret_where (w3 := W4) (g := w.heap.size) (a := kk) (b := j) (ev := true) rfl HW6.out rfl rfl rfl ?_
              first
                | exact ⟨J, (by rw [← HRES.out]; rfl), (HFIN.out _ _ _ hb4).1, (HFIN.out _ _ _ hb4).2⟩
                | exact ⟨(by rw [← HRES.out]; rfl), J, (HFIN.out _ _ _ hb4).1, (HFIN.out _ _ _ hb4).2⟩
            · have hn2 : Hid (∀ i (hi : i < M.length), i < j + 1 → M[i].name ≠ s) := fun i hi h => by
                rcases Nat.lt_or_ge i j with h3 | h3
                · exact hn.out i hi h3
                · obtain rfl : i = j := by omega
                  exact hN ▸ hs
              have qs : (m.name.toList == s.toList) = false := str_ne hs
              clear hc hN hs hms
              go_wp2_with fail
              go_roundw
              case rel => exact ⟨j + 1, by omega, by go_num, hn2, hrow4, hb4⟩
              case measure => simp [intOf]; omega
          · have j1 : ¬ (j : Int) < (M.length : Int) := by omega
            have hr := ownT_none (L := M) (s := s) (fun i hi => hn.out i hi (by omega))
            have hres := HDR.out
            rw [hr, if_neg (by omega)] at hres
            have HRES := Lib.hid hres
            clear hr hres hms
            go_wp2_with fail
            go_roundw
            case rel => exact ⟨1, by omega, rfl, HRES, hrow4, hb4⟩
            case measure => simp [intOf]; omega
      · skip
        have hres := hdr.out
        rw [List.drop_of_length_le (by omega)] at hres
        have HRES := Lib.hid hres
        have hw6 := blk_cells HG.out hb3.out
        have g0 : wr.cell? ⟨w.heap.size, 0, none⟩ = some (.int .i64 0) := by rw [cell_of_row _ _ 0 _ _ _ hw6]; rfl
        have g1 : wr.cell? ⟨w.heap.size, 1, none⟩ = some (.int .i64 0) := by rw [cell_of_row _ _ 1 _ _ _ hw6]; rfl
        have f0 : wr.frozen? ⟨w.heap.size, 0, none⟩ = false := frozen_of_row _ _ 0 _ _ hw6
        have f1 : wr.frozen? ⟨w.heap.size, 1, none⟩ = false := frozen_of_row _ _ 1 _ _ hw6
        have HW6 := Lib.hid hw6
        clear hw6 hres
        go_wp2_with fail
        refine ret_where (w3 := wr) (g := w.heap.size) (a := 0) (b := 0) (ev := false) rfl HW6.out rfl rfl rfl ?_
        first
          | exact ⟨J, (by rw [← HRES.out]; rfl), (HFIN.out _ _ _ hb3).1, (HFIN.out _ _ _ hb3).2⟩
          | exact ⟨(by rw [← HRES.out]; rfl), J, (HFIN.out _ _ _ hb3).1, (HFIN.out _ _ _ hb3).2⟩
end Go.Proofs.YtbgilpmoijdcfaaGreat

/-
  slices.Backward over numbers BY A CONTRACT: its iterator stops.
-/
namespace Go.Proofs.YtbgilpmoijdcfaaGreat
open Go Go.RowKit Go.Shelf
set_option linter.unusedVariables false
set_option linter.unusedSimpArgs false

attribute [local go_sem] Oper.semAt_some

/-- the places that have come when k rounds are over, the last one first. -/
def backU (n k : Nat) : List (Fin n) := (List.finRange n).reverse.take k
theorem backU_succ (n k : Nat) (hk : k < n) : backU n (k + 1) = backU n k ++ [⟨n - 1 - k, by omega⟩] := by
  have h1 : k < (List.finRange n).reverse.length := by simp [hk]
  unfold backU
  rw [List.take_succ_eq_append_getElem h1]
  congr 2
  simp [List.getElem_reverse]
theorem backU_length (n k : Nat) (hk : k ≤ n) : (backU n k).length = k := by simp [backU]; omega
theorem backU_all {α : Type} (l : List α) : (backU l.length l.length).map (fun i => l[i.1]'i.2) = l.reverse := by
  unfold backU
  rw [List.take_of_length_le (by simp), List.map_reverse]
  congr 1
  apply List.ext_getElem
  · simp
  · intro i h1 h2
    simp

set_option maxRecDepth 100000 in
set_option maxHeartbeats 2000000 in
theorem backInts1_in (F : Fence) (n : Nat) (h7 : F.fn 98) (hro : F.round = none) (hn : 1 ≤ n) (l Bs B cap : Nat) (A : Option Addr) (C : List Int) (hreach : C.length ≤ 1000000000) (Kp : World → World → Prop) (hKp : ∀ W W', Kp W W' → (W.cell? ⟨Bs, 0, none⟩ = some (.slice A C.length cap) ∧ NsR W B A C) → W'.cell? ⟨Bs, 0, none⟩ = some (.slice A C.length cap) ∧ NsR W' B A C) (J Jx : List (Fin C.length) → World → Prop)
    (hY : ∀ pre x W, J pre W → pre.length < C.length → YieldAt F (n - 1) Tryz.prog l #[.int .i64 ((x.1 : Nat) : Int), .int .i64 (C[x.1]'x.2)] W fun e W' =>
      (e = .returned (.bool true) ∧ J (pre ++ [x]) W' ∧ Kp W W') ∨ (e = .returned (.bool false) ∧ Jx (pre ++ [x]) W'))
    (W : World) (hR0 : W.cell? ⟨Bs, 0, none⟩ = some (.slice A C.length cap) ∧ NsR W B A C) (h0 : J [] W) :
    CallsIn F n Tryz.prog 98 #[.func (.yield l) #[] #[], .pointer (some ⟨Bs, 0, none⟩)] W fun e W' => (∃ v, e = .returned v) ∧
      ((∃ ys, ys = backU C.length C.length ∧ J ys W') ∨ (∃ pre, (∃ k, k ≤ C.length ∧ pre = backU C.length k) ∧ Jx pre W')) := by
  obtain ⟨hc0, hI0⟩ := hR0
  have HI := Lib.hid hI0
  clear hI0
  have hw0 : wrap64 ((C.length : Int) - 1) = (C.length : Int) - 1 := by unfold wrap64; omega
  refine callsIn_of_wp Tryz.func98 rfl h7 ?_ hro
  simp only [Tryz.ntmps98, List.size_toArray, List.length_cons, List.length_nil, Nat.reduceAdd, Nat.reduceSub, Array.replicate_succ, Array.replicate_zero, List.push_toArray, List.append_toArray, List.nil_append, List.cons_append]
  gi_wp2
  gi_loopw [3] (fun i wr => ∃ (k : Nat) (m : Int), k ≤ C.length ∧ i = .int .i64 m ∧ Hid (m = (C.length : Int) - 1 - k) ∧ J (backU C.length k) wr ∧ Hid (wr.cell? ⟨Bs, 0, none⟩ = some (.slice A C.length cap) ∧ NsR wr B A C))
    (fun i _ => (intOf i + 1).toNat)
  case atStart => exact ⟨0, _, Nat.zero_le _, rfl, by unfold Hid; omega, h0, hc0, HI.out⟩
  case round =>
    obtain ⟨k, m, hk, rfl, hm, hJs, hnx⟩ := hrel
    by_cases hlt : k < C.length
    · obtain ⟨x, rfl⟩ : ∃ x : Nat, m = x := ⟨m.toNat, by have := hm.out; omega⟩
      have hx : x = C.length - 1 - k := by have := hm.out; omega
      have hxl : x < C.length := by omega
      obtain ⟨g, o, cs, rfl, hg, -, hcs, he⟩ := hnx.out.2 x hxl
      obtain ⟨rfl, -⟩ := he
      have hcx := hcs 0 _ rfl
      simp only [Nat.mul_one, Nat.add_zero] at hcx
      have hbx := hnx.out.1
      have q1 : (x : Int) < (C.length : Int) := by omega
      have q2 : (0 : Int) ≤ (x : Int) := by omega
      obtain ⟨fn, tmps, assign, body, hy, hR⟩ := hY _ ⟨x, hxl⟩ wr hJs (by rw [backU_length _ _ (by omega)]; exact hlt)
      dsimp only at hy
      have hup : backU C.length (k + 1) = backU C.length k ++ [⟨x, hxl⟩] := by
        rw [backU_succ _ _ hlt]
        simp only [hx]
      have HX := Lib.hid hx
      have HUP := Lib.hid hup
      clear hcs hx hup
      gi_wp2
      refine hR.mono ?_
      rintro e W3 (⟨rfl, hJ3, hk3⟩ | ⟨rfl, hJx3⟩)
      · gi_wp2
        go_roundw
        case rel => exact ⟨k + 1, _, by omega, rfl, by have := HX.out; unfold Hid; omega, by rw [HUP.out]; exact hJ3, hKp _ _ hk3 hnx.out⟩
        case measure => simp [intOf]
      · gi_wp2
        refine bodyPost_ret (results_none rfl _ _ _) rfl ?_
        exact ⟨⟨_, rfl⟩, .inr ⟨_, ⟨k + 1, by omega, by rw [HUP.out]⟩, hJx3⟩⟩
    · obtain rfl : k = C.length := by omega
      obtain rfl : m = -1 := by have := hm.out; omega
      gi_wp2
      go_end0
      exact ⟨⟨_, rfl⟩, .inl ⟨_, rfl, hJs⟩⟩

set_option maxHeartbeats 1000000 in
/-- slices.Backward: the slice is boxed; the function value captures the box. -/
theorem backInts_in (F : Fence) (n : Nat) (h5 : F.fn 80) (hro : F.round = none) (a : Option Addr) (len cap : Nat) (w : World) :
    CallsIn F n Tryz.prog 80 #[.slice a len cap] w fun e w' => e = .returned (.func (.func 98) #[] #[.pointer (some ⟨w.heap.size, 0, none⟩)]) ∧ w' = w.alloc (.cells #[.slice a len cap] 51) := by
  refine callsIn_of_wp Tryz.func80 rfl h5 ?_ hro
  simp only [Tryz.ntmps80, List.size_toArray, List.length_cons, List.length_nil, Nat.reduceAdd, Nat.reduceSub, Array.replicate_succ, Array.replicate_zero, List.push_toArray, List.append_toArray, List.nil_append, List.cons_append]
  gi_wp2
  go_ret
  exact ⟨rfl, rfl⟩
/-- its iterator stops: all places, the last one first; or a beginning of them. -/
theorem backInts_stops (F : Fence) (n : Nat) (h7 : F.fn 98) (hro : F.round = none) (hn : 1 ≤ n) (Bs B cap : Nat) (A : Option Addr) (C : List Int) (hreach : C.length ≤ 1000000000) (Kp : World → World → Prop) (hKp : ∀ W W', Kp W W' → (W.cell? ⟨Bs, 0, none⟩ = some (.slice A C.length cap) ∧ NsR W B A C) → W'.cell? ⟨Bs, 0, none⟩ = some (.slice A C.length cap) ∧ NsR W' B A C) (w : World) (hBs : Bs < w.heap.size) (hB : B ≤ w.heap.size)
    (hc : w.cell? ⟨Bs, 0, none⟩ = some (.slice A C.length cap)) (hI : NsR w B A C) :
    SeqStopsK F n Tryz.prog 98 #[.pointer (some ⟨Bs, 0, none⟩)] (fun x : Fin C.length => #[Value.int .i64 (x.1 : Int), Value.int .i64 (C[x.1]'x.2)]) Kp (fun ys => ys = backU C.length C.length) (fun pre => ∃ k, k ≤ C.length ∧ pre = backU C.length k) C.length w := fun l J Jx W hW _ _ hY h0 =>
  backInts1_in F n h7 hro hn l Bs B cap A C hreach Kp hKp J Jx hY W ⟨(hW.cell (p := ⟨Bs, 0, none⟩) hBs).trans hc, NsR.mono (Nat.le_refl _) (fun g hg => hW.block g (by omega)) hI⟩ h0
end Go.Proofs.YtbgilpmoijdcfaaGreat
