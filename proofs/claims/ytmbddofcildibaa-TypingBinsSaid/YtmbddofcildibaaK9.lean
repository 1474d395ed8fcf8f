/-
  typing: types of expressions, one behind the other, BY CONTRACTS.
-/
import Derived.Test.YtmbddofcildibaaK7
import Derived.Laws.MakeOwn
import Derived.Deep.OwnRows
import Derived.Test.YtmbddofcildibaaK8
import Derived.Test.YtmbddofcildibaaK5
import Derived.Deep.RegionHeld3
namespace Go.Proofs.Ytmbddofcildibaa
open Go Go.RowKit
set_option linter.unusedVariables false
set_option linter.unusedSimpArgs false

/-- the types of expressions, or the code of the first that has one. -/
def exprsR (R : ET → YT × Int) : List ET → List YT × Int
  | [] => ([], 0)
  | e :: r => if (R e).2 = 0 then (if (exprsR R r).2 = 0 then ((R e).1 :: (exprsR R r).1, 0) else ([], (exprsR R r).2)) else ([], (R e).2)
theorem exprsR_bad {R : ET → YT × Int} : ∀ {l : List ET}, (exprsR R l).2 ≠ 0 → (exprsR R l).1 = []
  | [], h => rfl
  | e :: r, h => by
    unfold exprsR at h ⊢
    by_cases h1 : (R e).2 = 0
    · rw [if_pos h1] at h ⊢
      by_cases h2 : (exprsR R r).2 = 0
      · rw [if_pos h2] at h; exact absurd rfl h
      · rw [if_neg h2]
    · rw [if_neg h1]
/-- the first k are fine, the rest decides. -/
theorem exprsR_drop {R : ET → YT × Int} {l : List ET} : ∀ {k : Nat}, k ≤ l.length → (∀ j (hj : j < l.length), j < k → (R l[j]).2 = 0) →
    exprsR R l = if (exprsR R (l.drop k)).2 = 0 then ((l.take k).map (fun e => (R e).1) ++ (exprsR R (l.drop k)).1, 0) else ([], (exprsR R (l.drop k)).2) := by
  induction l with
  | nil => intro k hk hf; simp [exprsR]
  | cons e r ih =>
    intro k hk hf
    cases k with
    | zero =>
      simp only [List.drop_zero, List.take_zero, List.map_nil, List.nil_append]
      by_cases h : (exprsR R (e :: r)).2 = 0
      · rw [if_pos h]
        exact Prod.ext rfl h
      · rw [if_neg h]
        exact Prod.ext (exprsR_bad h) rfl
    | succ k =>
      have h0 := hf 0 (by simp) (by omega)
      simp only [List.getElem_cons_zero] at h0
      have ih2 := ih (k := k) (by simpa using hk) (fun j hj hjk => hf (j + 1) (by simp; exact hj) (by omega))
      simp only [List.drop_succ_cons, List.take_succ_cons, List.map_cons, List.cons_append]
      rw [exprsR, if_pos h0, ih2]
      by_cases h : (exprsR R (r.drop k)).2 = 0
      · simp [h]
      · simp [h]
/-- an expression's type by a contract. -/
def EXC (K : CX) (e : ET) (r : YT × Int) : Prop := ∀ (I : IX) (w : World) (cs : List Value), SAt K w I → EIn w K.N e cs → Calls Try.prog 63 #[.pointer (some ⟨K.sb, 0, none⟩), .agg cs.toArray] w (SRet K w I (tc r))
/-- types' cells. -/
def tcell (ts : List YT) (j : Nat) : Value := (ycells (ts.getD (j / 4) Y0)).toList.getD (j % 4) default
/-- a row of types of one's own. -/
structure TsAt (p : Nat) (W : World) (I : IX) (lo : Nat) (A : Option Addr) (ts : List YT) : Prop where
  at_ : ts ≠ [] → ∃ tb, A = some ⟨tb, 0, none⟩ ∧ lo ≤ tb ∧ ¬ I.has p tb ∧ W.rowIs tb 50 (4 * ts.length) (tcell ts)
def TRet (K : CX) (W : World) (I : IX) (r : List YT × Int) (e : Ending) (w' : World) : Prop := ∃ I' A' c', e = .returned (.tuple #[.slice A' r.1.length c', .int .i64 r.2]) ∧ Hid (SAt K w' I') ∧ Hid (XTo K.p W I w' I') ∧ Hid (TsAt K.p w' I' W.heap.size A' r.1)
theorem Try.infoType : (Try.prog.info? 50).map (fun i => (i.zero, i.size, i.bytes)) = some (some (.agg y0cells), 4, 40) := by kernel_rfl
theorem Try.underTypes : Try.prog.underlying 151 = some (.slice 50) := by kernel_rfl
/-- what is made for types: a row of none. -/
theorem made_types (W : World) (n : Nat) (hn : n ≤ 1000000000) :
    ∃ ms : Array Value, (Instr.makeSlice 151 (.int .i64 (n : Int)) (.int .i64 (n : Int))).run Try.prog W = .ok (.slice (some ⟨W.heap.size, 0, none⟩) n n) (W.alloc (.cells ms 50)) ∧
      (W.alloc (.cells ms 50)).rowIs W.heap.size 50 (4 * n) (tcell (List.replicate n Y0)) := by
  have h := Try.infoType
  cases hi : Try.prog.info? 50 with
  | none => rw [hi] at h; simp at h
  | some i =>
    rw [hi] at h
    simp only [Option.map_some, Option.some.injEq, Prod.mk.injEq] at h
    obtain ⟨hz, h4, hby⟩ := h
    have hm := run_make (P := Try.prog) W 151 50 i (.agg y0cells) Try.underTypes hi hz .i64 .i64 n n (by omega) (Int.le_refl _) (by rw [hby]; omega) (by omega)
    rw [h4] at hm
    simp only [Int.toNat_natCast] at hm
    refine ⟨madeCells (Value.agg y0cells).cells (n * 4), hm, ?_⟩
    have hsz : (madeCells (Value.agg y0cells).cells (n * 4)).size = 4 * n := by rw [size_madeCells]; omega
    rw [← hsz]
    refine World.rowIs_alloc W _ _ _ (fun j hj => ?_)
    rw [hsz] at hj
    rw [Array.getElem?_eq_getElem (by rw [hsz]; exact hj)]
    have hlt : j / 4 < n := by omega
    have hm4 : j % 4 < 4 := Nat.mod_lt _ (by decide)
    have hg : (List.replicate n Y0).getD (j / 4) Y0 = Y0 := by simp [List.getD_eq_getElem?_getD, hlt]
    have h3 : j % 4 = 0 ∨ j % 4 = 1 ∨ j % 4 = 2 ∨ j % 4 = 3 := by omega
    simp only [madeCells, tcell, Value.cells, hg]
    rcases h3 with h3 | h3 | h3 | h3 <;> simp [h3, Y0]

theorem SAt.low {K : CX} {w W : World} {I J : IX} (h : SAt K w I) (ht : XTo K.p w I W J) : Below K.N w W := XFr.toBelow h.ix ht (Nat.le_of_lt h.ix.lt)
theorem tcell_set (ts : List YT) (k : Nat) (hk : k < ts.length) (t : YT) (j : Nat) : tcell (ts.set k t) j = if k * 4 ≤ j ∧ j < k * 4 + 4 then (ycells t).toList.getD (j - k * 4) default else tcell ts j := by
  unfold tcell
  by_cases h : k * 4 ≤ j ∧ j < k * 4 + 4
  · rw [if_pos h, show j / 4 = k by omega, show j % 4 = j - k * 4 by omega]
    simp [List.getD_eq_getElem?_getD, hk]
  · rw [if_neg h]
    have : ¬ k = j / 4 := by omega
    simp [List.getD_eq_getElem?_getD, List.getElem?_set, this]
/-- a type is stored at a place of a row of types. -/
theorem row_put {W : World} {tb : Nat} {ts : List YT} {n k : Nat} (hn : ts.length = n) (h : W.rowIs tb 50 (4 * n) (tcell ts)) (hk : k < n) (t : YT) :
    ((((W.setCell ⟨tb, k * 4, none⟩ (.int .i64 t.kind)).setCell ⟨tb, k * 4 + 1, none⟩ (.int .i64 t.lo)).setCell ⟨tb, k * 4 + 2, none⟩ (.int .i64 t.hi)).setCell ⟨tb, k * 4 + 3, none⟩ (.string t.name)).rowIs tb 50 (4 * n) (tcell (ts.set k t)) := by
  refine ((((h.set _ _).set _ _).set _ _).set _ _).congr (fun j hj => ?_)
  rw [tcell_set ts k (by omega)]
  by_cases h3 : j = k * 4 + 3
  · subst h3; simp
  · by_cases h2 : j = k * 4 + 2
    · subst h2; simp
    · by_cases h1 : j = k * 4 + 1
      · subst h1; simp
      · by_cases h0 : j = k * 4
        · subst h0; simp
        · rw [if_neg h3, if_neg h2, if_neg h1, if_neg h0, if_neg (by omega)]
theorem below_put {B : Nat} {w W : World} (h : Below B w W) {tb o0 o1 o2 o3 : Nat} (hg : B ≤ tb) (a0 a1 a2 a3 : Value) : Below B w ((((W.setCell ⟨tb, o0, none⟩ a0).setCell ⟨tb, o1, none⟩ a1).setCell ⟨tb, o2, none⟩ a2).setCell ⟨tb, o3, none⟩ a3) := (((h.setCell (p := ⟨tb, o0, none⟩) hg _).setCell (p := ⟨tb, o1, none⟩) hg _).setCell (p := ⟨tb, o2, none⟩) hg _).setCell (p := ⟨tb, o3, none⟩) hg _
/-- a block of one's own is written: the scope stands. -/
theorem SAt.own {K : CX} {w W W' : World} {I J : IX} (h : SAt K W J) (ht : XTo K.p w I W J) (hb : Below w.heap.size W W') (hq : ∀ g, J.has K.p g ∨ g = K.sb ∨ g = K.vb ∨ g < K.N → W'.heap[g]? = W.heap[g]?) : SAt K W' J ∧ XTo K.p w I W' J := by
  refine ⟨⟨h.ix.stay hb.size (fun g hg => hq g (by rcases hg with hg | hg; exact .inr (.inr (.inr hg)); exact .inl hg)), (hq _ (.inr (.inl rfl))).trans h.box, h.map.stay (hq _ (.inr (.inr (.inl rfl)))), h.ns, h.nv⟩, XFr.quiet ht hb⟩
theorem heap_put {W : World} {tb o0 o1 o2 o3 g : Nat} (hg : g ≠ tb) (a0 a1 a2 a3 : Value) : ((((W.setCell ⟨tb, o0, none⟩ a0).setCell ⟨tb, o1, none⟩ a1).setCell ⟨tb, o2, none⟩ a2).setCell ⟨tb, o3, none⟩ a3).heap[g]? = W.heap[g]? := by
  rw [Below.heap_setCell _ _ _ _ hg, Below.heap_setCell _ _ _ _ hg, Below.heap_setCell _ _ _ _ hg, Below.heap_setCell _ _ _ _ hg]
set_option maxHeartbeats 4000000 in
set_option maxRecDepth 100000 in
theorem exprs_any (K : CX) (R : ET → YT × Int) (l : List ET) (A : Option Addr) (c : Nat) (I : IX) (w : World) (h : SAt K w I) (hl : EsR w K.N A l) (hlen : l.length ≤ 1000000000) (hE : ∀ (k : Nat) (hk : k < l.length), EXC K l[k] (R l[k])) :
    Calls Try.prog 105 #[.pointer (some ⟨K.sb, 0, none⟩), .slice A l.length c] w (TRet K w I (exprsR R l)) := by
  obtain ⟨r, hr⟩ : ∃ r, r = exprsR R l := ⟨_, rfl⟩
  rw [← hr]
  have HRS := Lib.hid hr
  clear hr
  obtain ⟨ms, hmk, hrow⟩ := made_types w l.length hlen
  obtain ⟨R0, hR0⟩ : ∃ R0, R0 = w.alloc (.cells ms 50) := ⟨_, rfl⟩
  rw [← hR0] at hrow
  have hb0 : Below w.heap.size w R0 := by rw [hR0]; exact far1 _ _
  have H0 := Lib.hid (h.below hb0)
  have T0 : Hid (XTo K.p w I R0 I) := XTo.of_below hb0
  have NH : Hid (¬ I.has K.p w.heap.size) := fun hh => by have := (h.ix.far _ hh).2; omega
  have HW := Lib.hid hrow
  have HL : Hid (∀ W J, XTo K.p w I W J → EsR W K.N A l) := fun W J ht => RowIn.mono (Nat.le_refl _) (fun g hg => (h.low ht).block g hg) (fun k hk cs hc => EIn.mono (Nat.le_refl _) (fun g hg => (h.low ht).block g hg) hc) hl
  have hNw : K.N ≤ w.heap.size := Nat.le_of_lt h.ix.lt
  have hsw : K.sb < w.heap.size := h.sb
  have hvw : K.vb < w.heap.size := h.map.lt
  have HE := Lib.hid hE
  have HR0 := Lib.hid hR0
  clear h hrow hb0 hl hE hR0
  unfold TRet
  go_enter Try.func105, Try.ntmps105
  go_wp2_with fail
  rw [← HR0.out]
  go_loopw [16] (fun i wr => ∃ (k : Nat) (J : IX), k ≤ l.length ∧ i = .int .i64 k ∧ Hid (∀ j (hj : j < l.length), j < k → (R l[j]).2 = 0) ∧ Hid (SAt K wr J) ∧ Hid (XTo K.p w I wr J) ∧ Hid (¬ J.has K.p w.heap.size) ∧ Hid (wr.rowIs w.heap.size 50 (4 * l.length) (tcell ((l.take k).map (fun e => (R e).1) ++ List.replicate (l.length - k) Y0)))) (fun i _ => l.length - (intOf i).toNat)
  case atStart => exact ⟨0, I, Nat.zero_le _, rfl, fun j hj h => by omega, H0, T0, NH, by simpa using HW⟩
  case round =>
    obtain ⟨k, J, hk, rfl, hf, hs, ht, hn, hrow⟩ := hrel
    have z0 : (0 : Int) ≤ (k : Int) := by omega
    by_cases hlt : k < l.length
    · have z1 : (k : Int) < (l.length : Int) := by omega
      obtain ⟨g, o, cs, hA, hgN, hcl, hcs, hEI⟩ := HL.out _ _ ht.out k hlt
      subst hA
      obtain ⟨e, he⟩ : ∃ e, e = l[k] := ⟨_, rfl⟩
      have hEk := HE.out k hlt
      rw [← he] at hEI hEk
      have HEe := Lib.hid he
      obtain ⟨ek, en, em, ew, ea⟩ := e
      obtain ⟨EA, ec, hcs2, hen, hea⟩ := hEI.form
      subst hcs2
      have u0 := hcs 0 _ rfl
      have u1 := hcs 1 _ rfl
      have u2 := hcs 2 _ rfl
      have u3 := hcs 3 _ rfl
      have u4' := hcs 4 _ rfl
      rw [Nat.add_zero] at u0
      obtain ⟨R2, hR2⟩ : ∃ R2, R2 = wr.alloc (.cells #[.int .i64 ek, .int .i64 en, .string em, .string ew, .slice EA ea.length ec] 66) := ⟨_, rfl⟩
      have hb2 : Below wr.heap.size wr R2 := by rw [hR2]; exact far1 _ _
      have hx0 : R2.heap[wr.heap.size]? = some (.cells #[.int .i64 ek, .int .i64 en, .string em, .string ew, .slice EA ea.length ec] 66 (0, 0)) := by rw [hR2]; exact new1 _ _ _
      have y0 : R2.cell? ⟨wr.heap.size, 0, none⟩ = some (.int .i64 ek) := (cell_of_row _ _ 0 _ _ _ hx0).trans rfl
      have y1 : R2.cell? ⟨wr.heap.size, 1, none⟩ = some (.int .i64 en) := (cell_of_row _ _ 1 _ _ _ hx0).trans rfl
      have y2 : R2.cell? ⟨wr.heap.size, 2, none⟩ = some (.string em) := (cell_of_row _ _ 2 _ _ _ hx0).trans rfl
      have y3 : R2.cell? ⟨wr.heap.size, 3, none⟩ = some (.string ew) := (cell_of_row _ _ 3 _ _ _ hx0).trans rfl
      have y4 : R2.cell? ⟨wr.heap.size, 4, none⟩ = some (.slice EA ea.length ec) := (cell_of_row _ _ 4 _ _ _ hx0).trans rfl
      obtain ⟨rk, hrk⟩ : ∃ r, r = R (ET.mk ek en em ew ea) := ⟨_, rfl⟩
      have hs2 := hs.out.below hb2
      have ht2 : XTo K.p w I R2 J := ht.out.trans (XTo.of_below hb2)
      have KE : Hid (Calls Try.prog 63 #[.pointer (some ⟨K.sb, 0, none⟩), .agg #[.int .i64 ek, .int .i64 en, .string em, .string ew, .slice EA ea.length ec]] R2 (SRet K R2 J (tc rk))) := hrk ▸ hEk J R2 _ hs2 (EIn.mono (Nat.le_refl _) (fun q hq => hb2.block q (by have := hs.out.ix.lt; omega)) hEI)
      have HR2 := Lib.hid hR2
      have HT2 := Lib.hid ht2
      have HRK := Lib.hid hrk
      have hn2 : R2.heap.size = wr.heap.size + 1 := by rw [hR2]; simp
      have hrow2 : Hid (R2.rowIs w.heap.size 50 (4 * l.length) (tcell ((l.take k).map (fun e => (R e).1) ++ List.replicate (l.length - k) Y0))) := by rw [hR2]; exact hrow.out.alloc _
      unfold SRet at KE
      unfold tc at KE
      clear hs ht hs2 ht2 hcs hEI hea hx0 hEk hrk hb2 he hcl hrow
      rw [hR2] at y0 y1 y2 y3 y4
      clear hR2
      go_wp2_with fail
      rw [← HR2.out] at y0 y1 y2 y3 y4 ⊢
      refine KE.out.mono ?_
      rintro e1 w1 ⟨J1, rfl, hs1, ht1⟩
      have hrow3 : Hid (w1.rowIs w.heap.size 50 (4 * l.length) (tcell ((l.take k).map (fun e => (R e).1) ++ List.replicate (l.length - k) Y0))) := hrow2.out.of_block (ht1.out.block _ hrow2.out.lt hn.out)
      have hn3 : Hid (¬ J1.has K.p w.heap.size) := ht1.out.none hrow2.out.lt hn.out
      have HT3 : Hid (XTo K.p w I w1 J1) := HT2.out.trans ht1.out
      clear y0 y1 y2 y3 y4 u0 u1 u2 u3 u4' hrow2 KE
      obtain ⟨⟨tk, tl, th, tn⟩, cd⟩ := rk
      by_cases hcd : cd = 0
      · subst hcd
        obtain ⟨R4, hR4⟩ : ∃ R4, R4 = w1.alloc (.cells #[.int .i64 tk, .int .i64 tl, .int .i64 th, .string tn] 50) := ⟨_, rfl⟩
        have hrow4 : R4.rowIs w.heap.size 50 (4 * l.length) (tcell ((l.take k).map (fun e => (R e).1) ++ List.replicate (l.length - k) Y0)) := by rw [hR4]; exact hrow3.out.alloc _
        have p0 := hrow4.cell (i := k * 4) (by omega)
        have p1 := hrow4.cell (i := k * 4 + 1) (by omega)
        have p2 := hrow4.cell (i := k * 4 + 2) (by omega)
        have p3 := hrow4.cell (i := k * 4 + 3) (by omega)
        have f0 := hrow4.frozen (k * 4)
        have f1 := hrow4.frozen (k * 4 + 1)
        have f2 := hrow4.frozen (k * 4 + 2)
        have f3 := hrow4.frozen (k * 4 + 3)
        have HR4 : Hid (w1.heap.size + 1 = R4.heap.size ∧ Below w1.heap.size w1 R4) := by rw [hR4]; exact ⟨by simp, far1 _ _⟩
        have HROW4 := Lib.hid hrow4
        have HE4 := Lib.hid hR4
        rw [hR4] at p0 p1 p2 p3 f0 f1 f2 f3
        clear hrow4 hR4
        go_wp2_with fail
        rw [← HE4.out]
        clear p0 p1 p2 p3 f0 f1 f2 f3
        have hlm : ((l.take k).map (fun e => (R e).1) ++ List.replicate (l.length - k) Y0).length = l.length := by simp; omega
        have hrow5 := row_put hlm HROW4.out hlt ⟨tk, tl, th, tn⟩
        have hset : ((l.take k).map (fun e => (R e).1) ++ List.replicate (l.length - k) Y0).set k ⟨tk, tl, th, tn⟩ = (l.take (k + 1)).map (fun e => (R e).1) ++ List.replicate (l.length - (k + 1)) Y0 := by
          have hlk : ((l.take k).map (fun e => (R e).1)).length = k := by simp; omega
          rw [List.set_append, if_neg (by omega), hlk, Nat.sub_self, show l.length - k = (l.length - (k + 1)) + 1 by omega, List.replicate_succ, List.set_cons_zero, List.take_add_one, List.getElem?_eq_getElem hlt, ← HEe.out]
          have := congrArg Prod.fst HRK.out
          simp at this
          simp [← this]
        rw [hset] at hrow5
        have hbw : Below w1.heap.size w1 R4 := HR4.out.2
        obtain ⟨W5, hW5⟩ : ∃ W5, W5 = ((((R4.setCell ⟨w.heap.size, k * 4, none⟩ (.int .i64 tk)).setCell ⟨w.heap.size, k * 4 + 1, none⟩ (.int .i64 tl)).setCell ⟨w.heap.size, k * 4 + 2, none⟩ (.int .i64 th)).setCell ⟨w.heap.size, k * 4 + 3, none⟩ (.string tn)) := ⟨_, rfl⟩
        have hown := hs1.out.own HT3.out (W' := W5) (by rw [hW5]; exact below_put (hbw.mono (by have := HT3.out.size; omega)) (Nat.le_refl _) _ _ _ _) (fun q hq => by
          have hqn : q ≠ w.heap.size := by
            rcases hq with hq | hq | hq | hq
            · exact fun e => hn3.out (e ▸ hq)
            · omega
            · omega
            · omega
          rw [hW5, heap_put hqn]
          refine hbw.block q ?_
          have := HT3.out.size
          rcases hq with hq | hq | hq | hq
          · exact (hs1.out.ix.far q hq).2
          · omega
          · omega
          · omega)
        rw [← hW5] at hrow5 ⊢
        have HS5 := Lib.hid hown.1
        have HT5 := Lib.hid hown.2
        have HROW5 := Lib.hid hrow5
        have hf2 : Hid (∀ j (hj : j < l.length), j < k + 1 → (R l[j]).2 = 0) := fun j hj h => by
          rcases Nat.lt_or_ge j k with h3 | h3
          · exact hf.out j hj h3
          · obtain rfl : j = k := by omega
            rw [← HEe.out, ← HRK.out]
        clear hset hown hrow5 hW5 hbw
        go_roundw
        case rel => exact ⟨k + 1, J1, by omega, by go_num, hf2, HS5, HT5, hn3, HROW5⟩
        case measure => simp [intOf]; omega
      · have hcb := eq_no hcd
        have hz : Hid (r = ([], cd)) := by
          unfold Hid
          rw [HRS.out, exprsR_drop (k := k) (by omega) hf.out, List.drop_eq_getElem_cons hlt, exprsR, ← HEe.out, ← HRK.out]
          simp [hcd]
        have HS6 := Lib.hid (hs1.out.below (far1 w1 (.cells #[.int .i64 tk, .int .i64 tl, .int .i64 th, .string tn] 50)))
        have HT6 : Hid (XTo K.p w I (w1.alloc (.cells #[.int .i64 tk, .int .i64 tl, .int .i64 th, .string tn] 50)) J1) := HT3.out.trans (XTo.of_below (far1 _ _))
        have hT : Hid (TsAt K.p (w1.alloc (.cells #[.int .i64 tk, .int .i64 tl, .int .i64 th, .string tn] 50)) J1 w.heap.size none r.1) := by rw [hz.out]; exact ⟨fun h => absurd rfl h⟩
        go_wp2_with fail
        go_ret2
        exact ⟨J1, none, 0, by rw [hz.out]; rfl, HS6, HT6, hT⟩
    · obtain rfl : k = l.length := by omega
      have hz : Hid (r = (l.map (fun e => (R e).1), 0)) := by
        unfold Hid
        rw [HRS.out, exprsR_drop (k := l.length) (Nat.le_refl _) hf.out]
        simp [exprsR]
      have hrow2 := hrow.out
      rw [List.take_length, Nat.sub_self, List.replicate_zero, List.append_nil] at hrow2
      have hT : Hid (TsAt K.p wr J w.heap.size (some ⟨w.heap.size, 0, none⟩) r.1) := by
        rw [hz.out]
        exact ⟨fun _ => ⟨w.heap.size, rfl, Nat.le_refl _, hn.out, by simpa using hrow2⟩⟩
      have hml : Hid (r.1.length = l.length ∧ r.2 = 0) := by unfold Hid; rw [hz.out]; simp
      clear hrow2
      go_wp2_with fail
      go_ret2
      exact ⟨J, _, _, by rw [hml.out.1, hml.out.2]; rfl, hs, ht, hT⟩
end Go.Proofs.Ytmbddofcildibaa

/-
  typing: expressions of kinds that are wanted; what an operator makes of two, BY CONTRACTS.
-/
namespace Go.Proofs.Ytmbddofcildibaa
open Go Go.RowKit
set_option linter.unusedVariables false
set_option linter.unusedSimpArgs false

/-- the code of expressions, each of which must be of its kind. -/
def wantT (r : List YT × Int) (ks : List Int) : Int := if r.2 = 0 then (if ∀ i (hi : i < ks.length), (r.1.getD i Y0).kind = ks[i] then 0 else 14) else r.2
theorem TsAt.kind {p : Nat} {W : World} {I : IX} {lo : Nat} {A : Option Addr} {ts : List YT} (h : TsAt p W I lo A ts) {k : Nat} (hk : k < ts.length) : ∃ tb, A = some ⟨tb, 0, none⟩ ∧ W.cell? ⟨tb, k * 4, none⟩ = some (.int .i64 ts[k].kind) := by
  obtain ⟨tb, h1, -, -, h2⟩ := h.at_ (fun e => by rw [e] at hk; simp at hk)
  refine ⟨tb, h1, ?_⟩
  rw [h2.cell (i := k * 4) (by omega)]
  unfold tcell
  rw [show k * 4 / 4 = k by omega, show k * 4 % 4 = 0 by omega, show ts.getD k Y0 = ts[k] by simp [List.getD_eq_getElem?_getD, hk]]
  rfl
theorem exprsR_len {R : ET → YT × Int} : ∀ {q : List ET}, (exprsR R q).2 = 0 → (exprsR R q).1.length = q.length
  | [], _ => rfl
  | e :: q, hq => by
    unfold exprsR at hq ⊢
    by_cases h1 : (R e).2 = 0
    · rw [if_pos h1] at hq ⊢
      by_cases h2 : (exprsR R q).2 = 0
      · rw [if_pos h2]
        simp [exprsR_len h2]
      · rw [if_neg h2] at hq
        exact absurd hq h2
    · rw [if_neg h1] at hq
      exact absurd hq h1
set_option maxHeartbeats 4000000 in
set_option maxRecDepth 100000 in
theorem want_any (K : CX) (R : ET → YT × Int) (l : List ET) (ks : List Int) (A A2 : Option Addr) (c c2 : Nat) (I : IX) (w : World) (h : SAt K w I) (hl : EsR w K.N A l) (hlen : l.length ≤ 1000000000) (hE : ∀ (k : Nat) (hk : k < l.length), EXC K l[k] (R l[k]))
    (hkl : ks.length ≤ l.length) (hks : ∀ W J, XTo K.p w I W J → NsR W W.heap.size A2 ks) :
    Calls Try.prog 84 #[.pointer (some ⟨K.sb, 0, none⟩), .slice A l.length c, .slice A2 ks.length c2] w (SRet K w I (.int .i64 (wantT (exprsR R l) ks))) := by
  have KX := Lib.hid (exprs_any K R l A c I w h hl hlen hE)
  obtain ⟨r, hr⟩ : ∃ r, r = exprsR R l := ⟨_, rfl⟩
  have hrl : r.2 = 0 → r.1.length = l.length := fun e => by rw [hr]; exact exprsR_len (hr ▸ e)
  rw [← hr] at KX ⊢
  obtain ⟨q, hq⟩ : ∃ q, q = wantT r ks := ⟨_, rfl⟩
  rw [← hq]
  unfold wantT at hq
  have HQ := Lib.hid hq
  have HKS := Lib.hid hks
  unfold TRet at KX
  unfold SRet
  clear hr h hl hE hq hks
  go_enter Try.func84, Try.ntmps84
  go_wp2_with fail
  refine KX.out.mono ?_
  rintro e1 w1 ⟨I1, A1, c1, rfl, hs1, ht1, hT1⟩
  obtain ⟨ts, cd⟩ := r
  simp only at hrl HQ hT1
  by_cases hcd : cd = 0
  · subst hcd
    have hz : Hid (q = if ∀ i (hi : i < ks.length), (ts.getD i Y0).kind = ks[i] then 0 else 14) := by have := HQ.out; rw [if_pos rfl] at this; exact this
    have htl := hrl rfl
    clear HQ
    go_wp2_with fail
    go_loopw [22] (fun i wr => ∃ k : Nat, k ≤ ks.length ∧ i = .int .i64 k ∧ wr = w1 ∧ Hid (∀ j (hj : j < ks.length), j < k → (ts.getD j Y0).kind = ks[j])) (fun i _ => ks.length - (intOf i).toNat)
    case atStart => exact ⟨0, Nat.zero_le _, rfl, rfl, fun j hj h => by omega⟩
    case round =>
      obtain ⟨k, hk, rfl, rfl, hf⟩ := hrel
      have z0 : (0 : Int) ≤ (k : Int) := by omega
      by_cases hlt : k < ks.length
      · have z1 : (k : Int) < (ks.length : Int) := by omega
        have z2 : (k : Int) < (ts.length : Int) := by omega
        obtain ⟨g, o, cs, hA, hgN, hcl, hcs, hEI, hI⟩ := HKS.out _ _ ht1.out k hlt
        subst hA
        subst hEI
        have u0 := hcs 0 _ rfl
        rw [Nat.mul_one, Nat.add_zero] at u0
        obtain ⟨tb, hA1, ukd⟩ := hT1.out.kind (show k < ts.length by omega)
        subst hA1
        have hgd : ts.getD k Y0 = ts[k] := by simp [List.getD_eq_getElem?_getD, show k < ts.length by omega]
        obtain ⟨tk, htk⟩ : ∃ x, x = ts[k].kind := ⟨_, rfl⟩
        obtain ⟨kk, hkk⟩ : ∃ x, x = ks[k] := ⟨_, rfl⟩
        rw [← htk] at ukd
        rw [← hkk] at u0
        have HGD := Lib.hid hgd
        have HTK := Lib.hid htk
        have HKK := Lib.hid hkk
        clear hcs hI hgd htk hkk
        by_cases heq : tk = kk
        · have hf2 : Hid (∀ j (hj : j < ks.length), j < k + 1 → (ts.getD j Y0).kind = ks[j]) := fun j hj h => by
            rcases Nat.lt_or_ge j k with h3 | h3
            · exact hf.out j hj h3
            · obtain rfl : j = k := by omega
              rw [HGD.out, ← HTK.out, ← HKK.out, heq]
          subst heq
          go_wp2_with fail
          go_roundw
          case rel => exact ⟨k + 1, by omega, by go_num, (by first | rfl | trivial), hf2⟩
          case measure => simp [intOf]; omega
        · have heb := eq_no heq
          have hz2 : Hid (q = 14) := by
            unfold Hid
            rw [hz.out, if_neg]
            intro hh
            have := hh k hlt
            rw [HGD.out, ← HTK.out, ← HKK.out] at this
            exact heq this
          go_wp2_with fail
          go_ret
          first
            | exact ⟨by rw [hz2.out]; rfl, I1, hs1, ht1⟩
            | exact ⟨I1, by rw [hz2.out]; rfl, hs1, ht1⟩
      · have hz2 : Hid (q = 0) := by
          unfold Hid
          rw [hz.out, if_pos (fun i hi => hf.out i hi (by omega))]
        have z1 : ¬ (k : Int) < (ks.length : Int) := by omega
        go_wp2_with fail
        go_ret
        first
          | exact ⟨by rw [hz2.out]; rfl, I1, hs1, ht1⟩
          | exact ⟨I1, by rw [hz2.out]; rfl, hs1, ht1⟩
  · have hcb := eq_no hcd
    have hz : Hid (q = cd) := by have := HQ.out; rw [if_neg hcd] at this; exact this
    go_wp2_with fail
    go_ret
    first
      | exact ⟨by rw [hz.out]; rfl, I1, hs1, ht1⟩
      | exact ⟨I1, by rw [hz.out]; rfl, hs1, ht1⟩
/-- a result's variable is written: the scope stands. -/
theorem SAt.put {K : CX} {w W : World} {I J : IX} (h : SAt K w I) (hs : SAt K W J) (ht : XTo K.p w I W J) {g : Nat} (hg : w.heap.size ≤ g) (hnh : ¬ J.has K.p g) (a0 a1 a2 a3 : Value) : Hid (SAt K (put4 W g a0 a1 a2 a3) J) ∧ Hid (XTo K.p w I (put4 W g a0 a1 a2 a3) J) := by
  have h1 := h.ix.lt
  have h2 := h.sb
  have h3 := h.map.lt
  refine hs.own ht (below_put (Below.refl _ _) hg _ _ _ _) (fun q hq => heap_put ?_ _ _ _ _)
  rcases hq with hq | hq | hq | hq
  · exact fun e => hnh (e ▸ hq)
  · omega
  · omega
  · omega
/-- what an operator makes of two. -/
def operT (n : Int) (r : List YT × Int) : YT × Int :=
  if r.2 = 0 then
    (if 1 ≤ n ∧ n ≤ 5 ∧ (r.1.getD 0 Y0).kind = 1 ∧ (r.1.getD 1 Y0).kind = 1 then (plainT 1, 0) else
     if (8 ≤ n ∧ n ≤ 11 ∧ (r.1.getD 0 Y0).kind = 1 ∧ (r.1.getD 1 Y0).kind = 1) ∨ (12 ≤ n ∧ n ≤ 14 ∧ (r.1.getD 0 Y0).kind = 2 ∧ (r.1.getD 1 Y0).kind = 2) ∨ (6 ≤ n ∧ n ≤ 7 ∧ (r.1.getD 0 Y0).kind = (r.1.getD 1 Y0).kind ∧ ((r.1.getD 0 Y0).kind = 1 ∨ (r.1.getD 0 Y0).kind = 2 ∨ (r.1.getD 0 Y0).kind = 5)) then (plainT 2, 0) else (Y0, 14))
  else (Y0, r.2)
set_option maxHeartbeats 4000000 in
set_option maxRecDepth 100000 in
theorem operated_any (K : CX) (R : ET → YT × Int) (l : List ET) (k n : Int) (nm wh : ByteArray) (A : Option Addr) (c : Nat) (I : IX) (w : World) (h : SAt K w I) (hl : EsR w K.N A l) (hlen : l.length = 2) (hE : ∀ (k : Nat) (hk : k < l.length), EXC K l[k] (R l[k])) :
    Calls Try.prog 86 #[.pointer (some ⟨K.sb, 0, none⟩), .agg #[.int .i64 k, .int .i64 n, .string nm, .string wh, .slice A l.length c]] w (SRet K w I (tc (operT n (exprsR R l)))) := by
  obtain ⟨R0, hR0⟩ : ∃ R0 : World, R0 = (w.alloc (.cells #[.int .i64 k, .int .i64 n, .string nm, .string wh, .slice A l.length c] 66)).alloc (.cells y0cells 50) := ⟨_, rfl⟩
  have hb0 : Below w.heap.size w R0 := by rw [hR0]; exact far2 _ _ _
  have h0 : SAt K R0 I := h.below hb0
  have hs0 : R0.heap.size = w.heap.size + 1 + 1 := by rw [hR0]; simp
  have hg := new2 w #[.int .i64 k, .int .i64 n, .string nm, .string wh, .slice A l.length c] y0cells 66 50
  have hg2 := new22 w #[.int .i64 k, .int .i64 n, .string nm, .string wh, .slice A l.length c] y0cells 66 50
  rw [← hR0] at hg hg2
  have hNw : K.N ≤ w.heap.size := Nat.le_of_lt h.ix.lt
  have ni : ∀ g, w.heap.size ≤ g → ¬ I.has K.p g := fun g hg hh => by have := (h.ix.far _ hh).2; omega
  have KX : Hid (Calls Try.prog 105 #[.pointer (some ⟨K.sb, 0, none⟩), .slice A l.length c] R0 (TRet K R0 I (exprsR R l))) := exprs_any K R l A c I R0 h0 (RowIn.mono (Nat.le_refl _) (fun g hg => hb0.block g (by omega)) (fun k hk cs hc => EIn.mono (Nat.le_refl _) (fun g hg => hb0.block g (by omega)) hc) hl) (by omega) hE
  obtain ⟨r, hr⟩ : ∃ r, r = exprsR R l := ⟨_, rfl⟩
  have hrl : Hid (r.2 = 0 → r.1.length = 2) := fun e => by rw [hr, exprsR_len (hr ▸ e), hlen]
  rw [← hr] at KX ⊢
  have T0 : Hid (XTo K.p w I R0 I) := XTo.of_below hb0
  have HG : Hid (∀ W J, Hid (XTo K.p R0 I W J) → W.cell? ⟨w.heap.size, 1, none⟩ = some (.int .i64 n) ∧ W.heap[w.heap.size + 1]? = some (.cells y0cells 50 (0, 0)) ∧ ¬ J.has K.p (w.heap.size + 1)) := fun W J ht => by
    have q1 := (ht.out.block _ (Array.getElem?_eq_some_iff.1 hg).1 (ni _ (Nat.le_refl _))).trans hg
    have q2 := (ht.out.block _ (Array.getElem?_eq_some_iff.1 hg2).1 (ni _ (by omega))).trans hg2
    exact ⟨(cell_of_row _ _ 1 _ _ _ q1).trans rfl, q2, ht.out.none (Array.getElem?_eq_some_iff.1 hg2).1 (ni _ (by omega))⟩
  have y4 : R0.cell? ⟨w.heap.size, 4, none⟩ = some (.slice A l.length c) := (cell_of_row _ _ 4 _ _ _ hg).trans rfl
  obtain ⟨q, hq⟩ : ∃ q, q = operT n r := ⟨_, rfl⟩
  rw [← hq]
  unfold operT at hq
  have HQ := Lib.hid hq
  have HR0 := Lib.hid hR0
  have HPUT : Hid (∀ W J, Hid (SAt K W J) → Hid (XTo K.p w I W J) → ¬ J.has K.p (w.heap.size + 1) → ∀ a0 a1 a2 a3, Hid (SAt K (put4 W (w.heap.size + 1) a0 a1 a2 a3) J) ∧ Hid (XTo K.p w I (put4 W (w.heap.size + 1) a0 a1 a2 a3) J)) := fun W J hs ht hn a0 a1 a2 a3 => h.put hs.out ht.out (by omega) hn a0 a1 a2 a3
  rw [hR0] at y4
  unfold TRet at KX
  unfold SRet
  unfold y0cells at HR0 HG y4
  clear hr h hl hE hlen hq hR0 hb0 h0 hg hg2 ni
  go_enter Try.func86, Try.ntmps86
  go_wp2_with fail
  rw [← HR0.out]
  refine KX.out.mono ?_
  rintro e1 w1 ⟨I1, A1, c1, rfl, hs1, ht1, hT1⟩
  obtain ⟨y1, hy, hn1⟩ := HG.out _ _ ht1
  have HT : Hid (XTo K.p w I w1 I1) := T0.out.trans ht1.out
  have HY := Lib.hid hy
  have HN := Lib.hid hn1
  clear y4 KX hn1
  obtain ⟨ts, cd⟩ := r
  by_cases hcd : cd = 0
  · subst hcd
    have htl : ts.length = 2 := hrl.out rfl
    obtain ⟨tb, hA1, u0⟩ := hT1.out.kind (k := 0) (by rw [htl]; decide)
    obtain ⟨tb', hA1', u1⟩ := hT1.out.kind (k := 1) (by rw [htl]; decide)
    subst hA1
    obtain rfl : tb' = tb := by simpa using hA1'.symm
    have ga : ts.getD 0 Y0 = ts[0] := by simp [List.getD_eq_getElem?_getD, htl]
    have gb : ts.getD 1 Y0 = ts[1] := by simp [List.getD_eq_getElem?_getD, htl]
    obtain ⟨a, ha⟩ : ∃ a, a = ts[0].kind := ⟨_, rfl⟩
    obtain ⟨b, hb⟩ : ∃ b, b = ts[1].kind := ⟨_, rfl⟩
    rw [← ha] at u0
    rw [← hb] at u1
    rw [Nat.zero_mul] at u0
    rw [Nat.one_mul] at u1
    have hz : Hid (q = if 1 ≤ n ∧ n ≤ 5 ∧ a = 1 ∧ b = 1 then (plainT 1, 0) else if (8 ≤ n ∧ n ≤ 11 ∧ a = 1 ∧ b = 1) ∨ (12 ≤ n ∧ n ≤ 14 ∧ a = 2 ∧ b = 2) ∨ (6 ≤ n ∧ n ≤ 7 ∧ a = b ∧ (a = 1 ∨ a = 2 ∨ a = 5)) then (plainT 2, 0) else (Y0, 14)) := by
      have := HQ.out
      rw [if_pos rfl] at this
      simp only [ga, gb, ← ha, ← hb] at this
      exact this
    clear HQ ha hb ga gb hy
    go_wp2_with fail
    go_region_held3 (fun w' => w'.cell? ⟨tb', 0, none⟩ = some (.int .i64 a) ∧ w'.cell? ⟨tb', 4, none⟩ = some (.int .i64 b))
      (exact ⟨u0, u1⟩)
      (fail)
    have y1' : w1.drew.cell? ⟨w.heap.size, 1, none⟩ = some (.int .i64 n) := y1
    obtain ⟨w2, hw2⟩ : ∃ w2, w2 = w1.drew := ⟨_, rfl⟩
    have HS2 : Hid (SAt K w2 I1) := by rw [hw2]; exact hs1.out.below (Below.refl _ _).drew
    have HT2 : Hid (XTo K.p w I w2 I1) := by rw [hw2]; exact HT.out.quiet (Below.refl _ _).drew
    have hy2 : w2.heap[w.heap.size + 1]? = some (.cells #[.int .i64 0, .int .i64 0, .int .i64 0, .string ⟨#[]⟩] 50 (0, 0)) := by rw [hw2]; exact HY.out
    rw [← hw2] at y1' ⊢
    have HY2 := Lib.hid hy2
    have KP : Hid (∀ k, Calls Try.prog 79 #[.int .i64 k] w2 fun e w' => e = .returned (.agg (ycells (plainT k))) ∧ Hid (w'.heap[w.heap.size + 1]? = some (.cells #[.int .i64 0, .int .i64 0, .int .i64 0, .string ⟨#[]⟩] 50 (0, 0))) ∧ Hid (SAt K w' I1) ∧ Hid (XTo K.p w I w' I1)) := fun k => (plain_any k w2).mono fun e w' qq => ⟨qq.1, (qq.2.out.block _ (Array.getElem?_eq_some_iff.1 hy2).1).trans hy2, HS2.out.below qq.2.out, HT2.out.trans (XTo.of_below qq.2.out)⟩
    obtain ⟨⟨z0, z1, z2, z3⟩, f0, f1, f2, f3⟩ := four hy2
    clear u0 u1 y1 hy2 hw2 HG HY
    by_cases g1 : n = 1 ∨ n = 2 ∨ n = 3 ∨ n = 4 ∨ n = 5
    · by_cases ka : a = 1
      · by_cases kb : b = 1
        · subst ka
          subst kb
          rcases g1 with rfl | rfl | rfl | rfl | rfl
          all_goals
            have hzz : Hid (q = (plainT 1, 0)) := by unfold Hid; rw [hz.out, if_pos (by omega)]
            go_wp2_with fail
            refine (KP.out _).mono ?_
            rintro e3 w3 ⟨rfl, hy3, hs3, ht3⟩
            clear z0 z1 z2 z3 f0 f1 f2 f3
            obtain ⟨⟨z0, z1, z2, z3⟩, f0, f1, f2, f3⟩ := four hy3.out
            go_wp2_with fail
            exact ret_y2s rfl (w.heap.size + 1) _ _ _ _ _ hy3.out rfl rfl rfl (by first | exact ⟨I1, by rw [hzz.out]; rfl, HPUT.out _ _ hs3 ht3 HN.out _ _ _ _⟩ | exact ⟨by rw [hzz.out]; rfl, I1, HPUT.out _ _ hs3 ht3 HN.out _ _ _ _⟩)
        · have kbb := eq_no kb
          subst ka
          rcases g1 with rfl | rfl | rfl | rfl | rfl
          all_goals
            have hzz : Hid (q = (Y0, 14)) := by unfold Hid; rw [hz.out, if_neg (by omega), if_neg (by omega)]
            go_wp2_with fail
            exact ret_y2s rfl (w.heap.size + 1) _ _ _ _ _ HY2.out rfl rfl rfl (by first | exact ⟨I1, by rw [hzz.out]; rfl, HPUT.out _ _ HS2 HT2 HN.out _ _ _ _⟩ | exact ⟨by rw [hzz.out]; rfl, I1, HPUT.out _ _ HS2 HT2 HN.out _ _ _ _⟩)
      · have kab := eq_no ka
        rcases g1 with rfl | rfl | rfl | rfl | rfl
        all_goals
          have hzz : Hid (q = (Y0, 14)) := by unfold Hid; rw [hz.out, if_neg (by omega), if_neg (by omega)]
          go_wp2_with fail
          exact ret_y2s rfl (w.heap.size + 1) _ _ _ _ _ HY2.out rfl rfl rfl (by first | exact ⟨I1, by rw [hzz.out]; rfl, HPUT.out _ _ HS2 HT2 HN.out _ _ _ _⟩ | exact ⟨by rw [hzz.out]; rfl, I1, HPUT.out _ _ HS2 HT2 HN.out _ _ _ _⟩)
    by_cases g8 : n = 8 ∨ n = 9 ∨ n = 10 ∨ n = 11
    · by_cases ka : a = 1
      · by_cases kb : b = 1
        · subst ka
          subst kb
          rcases g8 with rfl | rfl | rfl | rfl
          all_goals
            have hzz : Hid (q = (plainT 2, 0)) := by unfold Hid; rw [hz.out, if_neg (by omega), if_pos (by omega)]
            go_wp2_with fail
            refine (KP.out _).mono ?_
            rintro e3 w3 ⟨rfl, hy3, hs3, ht3⟩
            clear z0 z1 z2 z3 f0 f1 f2 f3
            obtain ⟨⟨z0, z1, z2, z3⟩, f0, f1, f2, f3⟩ := four hy3.out
            go_wp2_with fail
            exact ret_y2s rfl (w.heap.size + 1) _ _ _ _ _ hy3.out rfl rfl rfl (by first | exact ⟨I1, by rw [hzz.out]; rfl, HPUT.out _ _ hs3 ht3 HN.out _ _ _ _⟩ | exact ⟨by rw [hzz.out]; rfl, I1, HPUT.out _ _ hs3 ht3 HN.out _ _ _ _⟩)
        · have kbb := eq_no kb
          subst ka
          rcases g8 with rfl | rfl | rfl | rfl
          all_goals
            have hzz : Hid (q = (Y0, 14)) := by unfold Hid; rw [hz.out, if_neg (by omega), if_neg (by omega)]
            go_wp2_with fail
            exact ret_y2s rfl (w.heap.size + 1) _ _ _ _ _ HY2.out rfl rfl rfl (by first | exact ⟨I1, by rw [hzz.out]; rfl, HPUT.out _ _ HS2 HT2 HN.out _ _ _ _⟩ | exact ⟨by rw [hzz.out]; rfl, I1, HPUT.out _ _ HS2 HT2 HN.out _ _ _ _⟩)
      · have kab := eq_no ka
        rcases g8 with rfl | rfl | rfl | rfl
        all_goals
          have hzz : Hid (q = (Y0, 14)) := by unfold Hid; rw [hz.out, if_neg (by omega), if_neg (by omega)]
          go_wp2_with fail
          exact ret_y2s rfl (w.heap.size + 1) _ _ _ _ _ HY2.out rfl rfl rfl (by first | exact ⟨I1, by rw [hzz.out]; rfl, HPUT.out _ _ HS2 HT2 HN.out _ _ _ _⟩ | exact ⟨by rw [hzz.out]; rfl, I1, HPUT.out _ _ HS2 HT2 HN.out _ _ _ _⟩)
    by_cases g12 : n = 12 ∨ n = 13 ∨ n = 14
    · by_cases ka : a = 2
      · by_cases kb : b = 2
        · subst ka
          subst kb
          rcases g12 with rfl | rfl | rfl
          all_goals
            have hzz : Hid (q = (plainT 2, 0)) := by unfold Hid; rw [hz.out, if_neg (by omega), if_pos (by omega)]
            go_wp2_with fail
            refine (KP.out _).mono ?_
            rintro e3 w3 ⟨rfl, hy3, hs3, ht3⟩
            clear z0 z1 z2 z3 f0 f1 f2 f3
            obtain ⟨⟨z0, z1, z2, z3⟩, f0, f1, f2, f3⟩ := four hy3.out
            go_wp2_with fail
            exact ret_y2s rfl (w.heap.size + 1) _ _ _ _ _ hy3.out rfl rfl rfl (by first | exact ⟨I1, by rw [hzz.out]; rfl, HPUT.out _ _ hs3 ht3 HN.out _ _ _ _⟩ | exact ⟨by rw [hzz.out]; rfl, I1, HPUT.out _ _ hs3 ht3 HN.out _ _ _ _⟩)
        · have kbb := eq_no kb
          subst ka
          rcases g12 with rfl | rfl | rfl
          all_goals
            have hzz : Hid (q = (Y0, 14)) := by unfold Hid; rw [hz.out, if_neg (by omega), if_neg (by omega)]
            go_wp2_with fail
            exact ret_y2s rfl (w.heap.size + 1) _ _ _ _ _ HY2.out rfl rfl rfl (by first | exact ⟨I1, by rw [hzz.out]; rfl, HPUT.out _ _ HS2 HT2 HN.out _ _ _ _⟩ | exact ⟨by rw [hzz.out]; rfl, I1, HPUT.out _ _ HS2 HT2 HN.out _ _ _ _⟩)
      · have kab := eq_no ka
        rcases g12 with rfl | rfl | rfl
        all_goals
          have hzz : Hid (q = (Y0, 14)) := by unfold Hid; rw [hz.out, if_neg (by omega), if_neg (by omega)]
          go_wp2_with fail
          exact ret_y2s rfl (w.heap.size + 1) _ _ _ _ _ HY2.out rfl rfl rfl (by first | exact ⟨I1, by rw [hzz.out]; rfl, HPUT.out _ _ HS2 HT2 HN.out _ _ _ _⟩ | exact ⟨by rw [hzz.out]; rfl, I1, HPUT.out _ _ HS2 HT2 HN.out _ _ _ _⟩)
    by_cases g6 : n = 6 ∨ n = 7
    · by_cases kab : a = b
      · subst kab
        by_cases k1 : a = 1
        · subst k1
          rcases g6 with rfl | rfl
          all_goals
            have hzz : Hid (q = (plainT 2, 0)) := by unfold Hid; rw [hz.out, if_neg (by omega), if_pos (by omega)]
            go_wp2_with fail
            refine (KP.out _).mono ?_
            rintro e3 w3 ⟨rfl, hy3, hs3, ht3⟩
            clear z0 z1 z2 z3 f0 f1 f2 f3
            obtain ⟨⟨z0, z1, z2, z3⟩, f0, f1, f2, f3⟩ := four hy3.out
            go_wp2_with fail
            exact ret_y2s rfl (w.heap.size + 1) _ _ _ _ _ hy3.out rfl rfl rfl (by first | exact ⟨I1, by rw [hzz.out]; rfl, HPUT.out _ _ hs3 ht3 HN.out _ _ _ _⟩ | exact ⟨by rw [hzz.out]; rfl, I1, HPUT.out _ _ hs3 ht3 HN.out _ _ _ _⟩)
        by_cases k2 : a = 2
        · subst k2
          rcases g6 with rfl | rfl
          all_goals
            have hzz : Hid (q = (plainT 2, 0)) := by unfold Hid; rw [hz.out, if_neg (by omega), if_pos (by omega)]
            go_wp2_with fail
            refine (KP.out _).mono ?_
            rintro e3 w3 ⟨rfl, hy3, hs3, ht3⟩
            clear z0 z1 z2 z3 f0 f1 f2 f3
            obtain ⟨⟨z0, z1, z2, z3⟩, f0, f1, f2, f3⟩ := four hy3.out
            go_wp2_with fail
            exact ret_y2s rfl (w.heap.size + 1) _ _ _ _ _ hy3.out rfl rfl rfl (by first | exact ⟨I1, by rw [hzz.out]; rfl, HPUT.out _ _ hs3 ht3 HN.out _ _ _ _⟩ | exact ⟨by rw [hzz.out]; rfl, I1, HPUT.out _ _ hs3 ht3 HN.out _ _ _ _⟩)
        by_cases k5 : a = 5
        · subst k5
          rcases g6 with rfl | rfl
          all_goals
            have hzz : Hid (q = (plainT 2, 0)) := by unfold Hid; rw [hz.out, if_neg (by omega), if_pos (by omega)]
            go_wp2_with fail
            refine (KP.out _).mono ?_
            rintro e3 w3 ⟨rfl, hy3, hs3, ht3⟩
            clear z0 z1 z2 z3 f0 f1 f2 f3
            obtain ⟨⟨z0, z1, z2, z3⟩, f0, f1, f2, f3⟩ := four hy3.out
            go_wp2_with fail
            exact ret_y2s rfl (w.heap.size + 1) _ _ _ _ _ hy3.out rfl rfl rfl (by first | exact ⟨I1, by rw [hzz.out]; rfl, HPUT.out _ _ hs3 ht3 HN.out _ _ _ _⟩ | exact ⟨by rw [hzz.out]; rfl, I1, HPUT.out _ _ hs3 ht3 HN.out _ _ _ _⟩)
        have b1 := eq_no k1
        have b2 := eq_no k2
        have b5 := eq_no k5
        rcases g6 with rfl | rfl
        all_goals
          have hzz : Hid (q = (Y0, 14)) := by unfold Hid; rw [hz.out, if_neg (by omega), if_neg (by omega)]
          go_wp2_with fail
          exact ret_y2s rfl (w.heap.size + 1) _ _ _ _ _ HY2.out rfl rfl rfl (by first | exact ⟨I1, by rw [hzz.out]; rfl, HPUT.out _ _ HS2 HT2 HN.out _ _ _ _⟩ | exact ⟨by rw [hzz.out]; rfl, I1, HPUT.out _ _ HS2 HT2 HN.out _ _ _ _⟩)
      · have kbb := eq_no kab
        rcases g6 with rfl | rfl
        all_goals
          have hzz : Hid (q = (Y0, 14)) := by unfold Hid; rw [hz.out, if_neg (by omega), if_neg (by omega)]
          go_wp2_with fail
          exact ret_y2s rfl (w.heap.size + 1) _ _ _ _ _ HY2.out rfl rfl rfl (by first | exact ⟨I1, by rw [hzz.out]; rfl, HPUT.out _ _ HS2 HT2 HN.out _ _ _ _⟩ | exact ⟨by rw [hzz.out]; rfl, I1, HPUT.out _ _ HS2 HT2 HN.out _ _ _ _⟩)
    have m1 : (n == 1) = false := eq_no (by omega)
    have m2 : (n == 2) = false := eq_no (by omega)
    have m3 : (n == 3) = false := eq_no (by omega)
    have m4 : (n == 4) = false := eq_no (by omega)
    have m5 : (n == 5) = false := eq_no (by omega)
    have m6 : (n == 6) = false := eq_no (by omega)
    have m7 : (n == 7) = false := eq_no (by omega)
    have m8 : (n == 8) = false := eq_no (by omega)
    have m9 : (n == 9) = false := eq_no (by omega)
    have m10 : (n == 10) = false := eq_no (by omega)
    have m11 : (n == 11) = false := eq_no (by omega)
    have m12 : (n == 12) = false := eq_no (by omega)
    have m13 : (n == 13) = false := eq_no (by omega)
    have m14 : (n == 14) = false := eq_no (by omega)
    have hzz : Hid (q = (Y0, 14)) := by unfold Hid; rw [hz.out, if_neg (by omega), if_neg (by omega)]
    go_wp2_with fail
    exact ret_y2s rfl (w.heap.size + 1) _ _ _ _ _ HY2.out rfl rfl rfl (by first | exact ⟨I1, by rw [hzz.out]; rfl, HPUT.out _ _ HS2 HT2 HN.out _ _ _ _⟩ | exact ⟨by rw [hzz.out]; rfl, I1, HPUT.out _ _ HS2 HT2 HN.out _ _ _ _⟩)
  · have hcb := eq_no hcd
    obtain ⟨⟨z0, z1, z2, z3⟩, f0, f1, f2, f3⟩ := four hy
    have hzz : Hid (q = (Y0, cd)) := by have := HQ.out; rw [if_neg hcd] at this; exact this
    clear hy
    go_wp2_with fail
    exact ret_y2s rfl (w.heap.size + 1) _ _ _ _ _ HY.out rfl rfl rfl (by first | exact ⟨I1, by rw [hzz.out]; rfl, HPUT.out _ _ hs1 HT HN.out _ _ _ _⟩ | exact ⟨by rw [hzz.out]; rfl, I1, HPUT.out _ _ hs1 HT HN.out _ _ _ _⟩)
end Go.Proofs.Ytmbddofcildibaa

/-
  typing: statements one behind the other BY A CONTRACT; an EXIT.
-/
namespace Go.Proofs.Ytmbddofcildibaa
open Go Go.RowKit
set_option linter.unusedVariables false
set_option linter.unusedSimpArgs false

/-- the code of the first statement that has one. -/
def listR (R : ST → Int) : List ST → Int
  | [] => 0
  | s :: r => if R s = 0 then listR R r else R s
theorem listR_drop {R : ST → Int} : ∀ {l : List ST} {k : Nat}, k ≤ l.length → (∀ j (hj : j < l.length), j < k → R l[j] = 0) → listR R l = listR R (l.drop k)
  | [], k, hk, hf => by simp
  | s :: r, 0, hk, hf => rfl
  | s :: r, k + 1, hk, hf => by
    have h0 := hf 0 (by simp) (by omega)
    simp only [List.getElem_cons_zero] at h0
    rw [listR, if_pos h0, List.drop_succ_cons]
    exact listR_drop (by simpa using hk) (fun j hj hjk => hf (j + 1) (by simp; exact hj) (by omega))
/-- a statement's code by a contract. -/
def STC (K : CX) (lp : Bool) (s : ST) (r : Int) : Prop := ∀ (I : IX) (w : World) (cs : List Value), SAt K w I → SIn w K.N s cs → Calls Try.prog 77 #[.pointer (some ⟨K.sb, 0, none⟩), .agg cs.toArray, .bool lp] w (SRet K w I (.int .i64 r))
set_option maxHeartbeats 4000000 in
set_option maxRecDepth 100000 in
theorem list_any (K : CX) (lp : Bool) (R : ST → Int) (l : List ST) (A : Option Addr) (c : Nat) (I : IX) (w : World) (h : SAt K w I) (hl : SsR w K.N A l) (hlen : l.length ≤ 1000000000) (hE : ∀ (k : Nat) (hk : k < l.length), STC K lp l[k] (R l[k])) :
    Calls Try.prog 62 #[.pointer (some ⟨K.sb, 0, none⟩), .slice A l.length c, .bool lp] w (SRet K w I (.int .i64 (listR R l))) := by
  obtain ⟨r, hr⟩ : ∃ r, r = listR R l := ⟨_, rfl⟩
  rw [← hr]
  have HRS := Lib.hid hr
  have H0 := Lib.hid h
  have T0 : Hid (XTo K.p w I w I) := XFr.refl _ _ _ _
  have HL : Hid (∀ W J, XTo K.p w I W J → SsR W K.N A l) := fun W J ht => SsR.mono (Nat.le_refl _) (fun g hg => (h.low ht).block g hg) hl
  have HE := Lib.hid hE
  clear hr h hl hE
  unfold SRet
  go_enter Try.func62, Try.ntmps62
  go_wp2_with fail
  go_loopw [12] (fun i wr => ∃ (k : Nat) (J : IX), k ≤ l.length ∧ i = .int .i64 k ∧ Hid (∀ j (hj : j < l.length), j < k → R l[j] = 0) ∧ Hid (SAt K wr J) ∧ Hid (XTo K.p w I wr J)) (fun i _ => l.length - (intOf i).toNat)
  case atStart => exact ⟨0, I, Nat.zero_le _, rfl, fun j hj h => by omega, H0, T0⟩
  case round =>
    obtain ⟨k, J, hk, rfl, hf, hs, ht⟩ := hrel
    have z0 : (0 : Int) ≤ (k : Int) := by omega
    by_cases hlt : k < l.length
    · have z1 : (k : Int) < (l.length : Int) := by omega
      obtain ⟨g, o, cs, hA, hgN, hcl, hcs, hSI⟩ := HL.out _ _ ht.out k hlt
      subst hA
      obtain ⟨s, he⟩ : ∃ s, s = l[k] := ⟨_, rfl⟩
      have hEk := HE.out k hlt
      rw [← he] at hSI hEk
      have HEe := Lib.hid he
      obtain ⟨ek, en, em, ex, el, eb⟩ := s
      have hSI2 := hSI
      rw [SIn] at hSI2
      obtain ⟨A1, c1, A2, c2, A3, c3, hcs2, -⟩ := hSI2
      subst hcs2
      have u0 := hcs 0 _ rfl
      have u1 := hcs 1 _ rfl
      have u2 := hcs 2 _ rfl
      have u3 := hcs 3 _ rfl
      have u4' := hcs 4 _ rfl
      have u5' := hcs 5 _ rfl
      rw [Nat.add_zero] at u0
      obtain ⟨R2, hR2⟩ : ∃ R2, R2 = wr.alloc (.cells #[.int .i64 ek, .int .i64 en, .string em, .slice A1 ex.length c1, .slice A2 el.length c2, .slice A3 eb.length c3] 70) := ⟨_, rfl⟩
      have hb2 : Below wr.heap.size wr R2 := by rw [hR2]; exact far1 _ _
      have hx0 : R2.heap[wr.heap.size]? = some (.cells #[.int .i64 ek, .int .i64 en, .string em, .slice A1 ex.length c1, .slice A2 el.length c2, .slice A3 eb.length c3] 70 (0, 0)) := by rw [hR2]; exact new1 _ _ _
      have y0 : R2.cell? ⟨wr.heap.size, 0, none⟩ = some (.int .i64 ek) := (cell_of_row _ _ 0 _ _ _ hx0).trans rfl
      have y1 : R2.cell? ⟨wr.heap.size, 1, none⟩ = some (.int .i64 en) := (cell_of_row _ _ 1 _ _ _ hx0).trans rfl
      have y2 : R2.cell? ⟨wr.heap.size, 2, none⟩ = some (.string em) := (cell_of_row _ _ 2 _ _ _ hx0).trans rfl
      have y3 : R2.cell? ⟨wr.heap.size, 3, none⟩ = some (.slice A1 ex.length c1) := (cell_of_row _ _ 3 _ _ _ hx0).trans rfl
      have y4 : R2.cell? ⟨wr.heap.size, 4, none⟩ = some (.slice A2 el.length c2) := (cell_of_row _ _ 4 _ _ _ hx0).trans rfl
      have y5 : R2.cell? ⟨wr.heap.size, 5, none⟩ = some (.slice A3 eb.length c3) := (cell_of_row _ _ 5 _ _ _ hx0).trans rfl
      obtain ⟨rk, hrk⟩ : ∃ r, r = R (ST.mk ek en em ex el eb) := ⟨_, rfl⟩
      have hs2 := hs.out.below hb2
      have ht2 : XTo K.p w I R2 J := ht.out.trans (XTo.of_below hb2)
      have KE : Hid (Calls Try.prog 77 #[.pointer (some ⟨K.sb, 0, none⟩), .agg #[.int .i64 ek, .int .i64 en, .string em, .slice A1 ex.length c1, .slice A2 el.length c2, .slice A3 eb.length c3], .bool lp] R2 (SRet K R2 J (.int .i64 rk))) := hrk ▸ hEk J R2 _ hs2 (SIn.mono (Nat.le_refl _) (fun q hq => hb2.block q (by have := hs.out.ix.lt; omega)) hSI)
      have HR2 := Lib.hid hR2
      have HT2 := Lib.hid ht2
      have HRK := Lib.hid hrk
      unfold SRet at KE
      clear hs ht hs2 ht2 hcs hSI hx0 hEk hrk hb2 he hcl
      rw [hR2] at y0 y1 y2 y3 y4 y5
      clear hR2
      go_wp2_with fail
      rw [← HR2.out] at y0 y1 y2 y3 y4 y5 ⊢
      refine KE.out.mono ?_
      rintro e1 w1 ⟨J1, rfl, hs1, ht1⟩
      have HT3 : Hid (XTo K.p w I w1 J1) := HT2.out.trans ht1.out
      clear y0 y1 y2 y3 y4 y5 u0 u1 u2 u3 u4' u5' KE
      by_cases hcd : rk = 0
      · subst hcd
        have hf2 : Hid (∀ j (hj : j < l.length), j < k + 1 → R l[j] = 0) := fun j hj h => by
          rcases Nat.lt_or_ge j k with h3 | h3
          · exact hf.out j hj h3
          · obtain rfl : j = k := by omega
            rw [← HEe.out, ← HRK.out]
        go_wp2_with fail
        go_roundw
        case rel => exact ⟨k + 1, J1, by omega, by go_num, hf2, hs1, HT3⟩
        case measure => simp [intOf]; omega
      · have hcb := eq_no hcd
        have hz : Hid (r = rk) := by
          unfold Hid
          rw [HRS.out, listR_drop (k := k) (by omega) hf.out, List.drop_eq_getElem_cons hlt, listR, ← HEe.out, ← HRK.out, if_neg hcd]
        go_wp2_with fail
        go_ret
        first
          | exact ⟨by rw [hz.out]; rfl, J1, hs1, HT3⟩
          | exact ⟨J1, by rw [hz.out]; rfl, hs1, HT3⟩
    · obtain rfl : k = l.length := by omega
      have hz : Hid (r = 0) := by
        unfold Hid
        rw [HRS.out, listR_drop (k := l.length) (Nat.le_refl _) hf.out]
        simp [listR]
      go_wp2_with fail
      go_ret
      first
        | exact ⟨by rw [hz.out]; rfl, J, hs, ht⟩
        | exact ⟨J, by rw [hz.out]; rfl, hs, ht⟩
set_option maxHeartbeats 2000000 in
set_option maxRecDepth 100000 in
theorem exit_any (K : CX) (lp : Bool) (w : World) : Calls Try.prog 104 #[.pointer (some ⟨K.sb, 0, none⟩), .bool lp] w (QRet w (.int .i64 (if lp then 0 else 14))) := by
  have HB : Hid (Below w.heap.size w w) := Below.refl _ _
  cases lp
  all_goals
    go_enter Try.func104, Try.ntmps104
    go_wp2_with fail
    go_ret
    exact ⟨rfl, HB⟩
set_option maxHeartbeats 2000000 in
set_option maxRecDepth 100000 in
theorem shaped_exit (n : Int) (nm : ByteArray) (A1 A2 A3 : Option Addr) (c1 c2 c3 : Nat) (w : World) : Calls Try.prog 96 #[.agg #[.int .i64 10, .int .i64 n, .string nm, .slice A1 0 c1, .slice A2 0 c2, .slice A3 0 c3]] w (QRet w (.bool true)) := by
  have HB : Hid (Below w.heap.size w (w.alloc (.cells #[.int .i64 10, .int .i64 n, .string nm, .slice A1 0 c1, .slice A2 0 c2, .slice A3 0 c3] 70))) := far1 _ _
  have hx0 := new1 w #[.int .i64 10, .int .i64 n, .string nm, .slice A1 0 c1, .slice A2 0 c2, .slice A3 0 c3] 70
  obtain ⟨R0, hR0⟩ : ∃ R0, R0 = w.alloc (.cells #[.int .i64 10, .int .i64 n, .string nm, .slice A1 0 c1, .slice A2 0 c2, .slice A3 0 c3] 70) := ⟨_, rfl⟩
  rw [← hR0] at HB hx0
  have y0 : R0.cell? ⟨w.heap.size, 0, none⟩ = some (.int .i64 10) := (cell_of_row _ _ 0 _ _ _ hx0).trans rfl
  have y3 : R0.cell? ⟨w.heap.size, 3, none⟩ = some (.slice A1 0 c1) := (cell_of_row _ _ 3 _ _ _ hx0).trans rfl
  have y4 : R0.cell? ⟨w.heap.size, 4, none⟩ = some (.slice A2 0 c2) := (cell_of_row _ _ 4 _ _ _ hx0).trans rfl
  have y5 : R0.cell? ⟨w.heap.size, 5, none⟩ = some (.slice A3 0 c3) := (cell_of_row _ _ 5 _ _ _ hx0).trans rfl
  have HR0 := Lib.hid hR0
  clear hR0 hx0
  go_enter Try.func96, Try.ntmps96
  go_wp2_with fail
  rw [← HR0.out]
  go_region_held3 (fun w' => w'.cell? ⟨w.heap.size, 3, none⟩ = some (.slice A1 0 c1) ∧ w'.cell? ⟨w.heap.size, 4, none⟩ = some (.slice A2 0 c2) ∧ w'.cell? ⟨w.heap.size, 5, none⟩ = some (.slice A3 0 c3))
    (exact ⟨y3, y4, y5⟩)
    (fail)
  have HB2 : Hid (Below w.heap.size w R0.drew) := HB.out.drew
  have x0 : R0.drew.cell? ⟨w.heap.size, 0, none⟩ = some (.int .i64 10) := y0
  generalize R0.drew = W1 at HB2 x0 ⊢
  clear y0 y3 y4 y5
  go_wp2_with fail
  go_ret
  exact ⟨rfl, HB2⟩
set_option maxHeartbeats 2000000 in
set_option maxRecDepth 100000 in
theorem stmt_exit (K : CX) (lp : Bool) (n : Int) (nm : ByteArray) : STC K lp (.mk 10 n nm [] [] []) (if lp then 0 else 14) := by
  intro I w cs h hs
  rw [SIn] at hs
  obtain ⟨A1, c1, A2, c2, A3, c3, hcs, -⟩ := hs
  subst hcs
  simp only [List.length_nil]
  obtain ⟨R0, hR0⟩ : ∃ R0, R0 = w.alloc (.cells #[.int .i64 10, .int .i64 n, .string nm, .slice A1 0 c1, .slice A2 0 c2, .slice A3 0 c3] 70) := ⟨_, rfl⟩
  have hb0 : Below w.heap.size w R0 := by rw [hR0]; exact far1 _ _
  have hx0 : R0.heap[w.heap.size]? = some (.cells #[.int .i64 10, .int .i64 n, .string nm, .slice A1 0 c1, .slice A2 0 c2, .slice A3 0 c3] 70 (0, 0)) := by rw [hR0]; exact new1 _ _ _
  have y0 : R0.cell? ⟨w.heap.size, 0, none⟩ = some (.int .i64 10) := (cell_of_row _ _ 0 _ _ _ hx0).trans rfl
  have KS : Hid (Calls Try.prog 96 #[.agg #[.int .i64 10, .int .i64 n, .string nm, .slice A1 0 c1, .slice A2 0 c2, .slice A3 0 c3]] R0 fun e w' => e = .returned (.bool true) ∧ w'.cell? ⟨w.heap.size, 0, none⟩ = some (.int .i64 10) ∧ Hid (Below w.heap.size w w')) := (shaped_exit n nm A1 A2 A3 c1 c2 c3 R0).mono fun e w' q => ⟨q.1, (q.2.out.cell (p := ⟨w.heap.size, 0, none⟩) (Array.getElem?_eq_some_iff.1 hx0).1).trans y0, hb0.trans (q.2.out.mono hb0.size)⟩
  have KE : Hid (∀ W, Hid (Below w.heap.size w W) → Calls Try.prog 104 #[.pointer (some ⟨K.sb, 0, none⟩), .bool lp] W fun e w' => e = .returned (.int .i64 (if lp then 0 else 14)) ∧ Hid (Below w.heap.size w w')) := fun W hb => (exit_any K lp W).mono fun e w' q => ⟨q.1, hb.out.trans (q.2.out.mono hb.out.size)⟩
  have HQ : Hid (∀ w' v, QRet w v (.returned v) w' → SRet K w I v (.returned v) w') := fun w' v q => h.quiet q
  obtain ⟨r, hr⟩ : ∃ r : Int, r = if lp then 0 else 14 := ⟨_, rfl⟩
  rw [← hr] at KE ⊢
  have HR0 := Lib.hid hR0
  have z1 := (cell_of_row R0 w.heap.size 1 _ _ _ hx0).trans rfl
  obtain ⟨y1, y2, y3, y4, y5⟩ : R0.cell? ⟨w.heap.size, 1, none⟩ = some (.int .i64 n) ∧ R0.cell? ⟨w.heap.size, 2, none⟩ = some (.string nm) ∧ R0.cell? ⟨w.heap.size, 3, none⟩ = some (.slice A1 0 c1) ∧ R0.cell? ⟨w.heap.size, 4, none⟩ = some (.slice A2 0 c2) ∧ R0.cell? ⟨w.heap.size, 5, none⟩ = some (.slice A3 0 c3) := ⟨(cell_of_row _ _ 1 _ _ _ hx0).trans rfl, (cell_of_row _ _ 2 _ _ _ hx0).trans rfl, (cell_of_row _ _ 3 _ _ _ hx0).trans rfl, (cell_of_row _ _ 4 _ _ _ hx0).trans rfl, (cell_of_row _ _ 5 _ _ _ hx0).trans rfl⟩
  rw [hR0] at y0 y1 y2 y3 y4 y5
  clear hR0 hb0 hx0 hr h z1
  go_enter Try.func77, Try.ntmps77
  go_wp2_with fail
  rw [← HR0.out]
  refine KS.out.mono ?_
  rintro e1 w1 ⟨rfl, x0, hb1⟩
  clear y0 y1 y2 y3 y4 y5
  go_wp2_with fail
  refine (KE.out _ hb1).mono ?_
  rintro e2 w2 ⟨rfl, hb2⟩
  go_wp2_with fail
  go_ret
  exact HQ.out _ _ ⟨rfl, hb2⟩
end Go.Proofs.Ytmbddofcildibaa

/-
  typing.Expr, typing.Stmts BY CONTRACTS: at a program's body.
-/
namespace Go.Proofs.Ytmbddofcildibaa
open Go Go.RowKit
set_option linter.unusedVariables false
set_option linter.unusedSimpArgs false

/-- a scope of a program's body. -/
abbrev bodyCX (L : List DT) (A : Option Addr) (c : Nat) (d m : Int) (p N sb vb : Nat) : CX := ⟨L, A, c, p, N, sb, vb, ⟨d, m, fieldsT L d, Y0⟩⟩
theorem SAt.out {K : CX} {W W' : World} {I I' : IX} (h : SAt K W I) (ht : XTo K.p W I W' I') : Below K.N W W' := XFr.toBelow h.ix ht (Nat.le_of_lt h.ix.lt)
set_option maxHeartbeats 4000000 in
set_option maxRecDepth 100000 in
theorem Stmts_body (L : List DT) (A : Option Addr) (c : Nat) (d m : Int) (R : ST → Int) (l : List ST) (B : Option Addr) (b : Nat) (w : World) (ha : DsR w w.heap.size A L) (hfit : FitA L) (hd0 : I64 d) (hm : isMethodT L d m = false) (hb : isBodyT L d m = true) (hfl : (fieldsT L d).length ≤ 1000000000)
    (hl : SsR w w.heap.size B l) (hlen : l.length ≤ 1000000000) (hE : ∀ p N sb vb, ∀ (k : Nat) (hk : k < l.length), STC (bodyCX L A c d m p N sb vb) false l[k] (R l[k])) :
    Calls Try.prog 38 #[.agg #[.slice A L.length c], .agg #[.int .i64 d, .int .i64 m], .slice B l.length b] w fun e w' => e = .returned (.int .i64 (listR R l)) ∧ Hid (Below w.heap.size w w') := by
  obtain ⟨R0, hR0⟩ : ∃ R0 : World, R0 = (w.alloc (.cells #[.slice A L.length c] 24)).alloc (.cells #[.int .i64 d, .int .i64 m] 29) := ⟨_, rfl⟩
  have hb0 : Below w.heap.size w R0 := by rw [hR0]; exact far2 _ _ _
  have g1 := new2 w #[.slice A L.length c] #[.int .i64 d, .int .i64 m] 24 29
  have g2 := new22 w #[.slice A L.length c] #[.int .i64 d, .int .i64 m] 24 29
  rw [← hR0] at g1 g2
  have y0 : R0.cell? ⟨w.heap.size, 0, none⟩ = some (.slice A L.length c) := (cell_of_row _ _ 0 _ _ _ g1).trans rfl
  have yd : R0.cell? ⟨w.heap.size + 1, 0, none⟩ = some (.int .i64 d) := (cell_of_row _ _ 0 _ _ _ g2).trans rfl
  have ym : R0.cell? ⟨w.heap.size + 1, 1, none⟩ = some (.int .i64 m) := (cell_of_row _ _ 1 _ _ _ g2).trans rfl
  have ha0 : DsR R0 R0.heap.size A L := DsR.mono hb0.size hb0.block ha
  have KS : Hid (Calls Try.prog 61 #[.agg #[.slice A L.length c], .agg #[.int .i64 d, .int .i64 m]] R0 fun e w' => ∃ (p sb vb : Nat) (I : IX), e = .returned (.pointer (some ⟨sb, 0, none⟩)) ∧ Hid (SAt (bodyCX L A c d m p R0.heap.size sb vb) w' I) ∧ Hid (Below R0.heap.size R0 w')) := scopeAt_body L A c d m R0 ha0 hfit hd0 hm hb hfl
  have KL : Hid (∀ p sb vb I W, Hid (SAt (bodyCX L A c d m p R0.heap.size sb vb) W I) → Hid (Below R0.heap.size R0 W) → Calls Try.prog 62 #[.pointer (some ⟨sb, 0, none⟩), .slice B l.length b, .bool false] W fun e w' => e = .returned (.int .i64 (listR R l)) ∧ Hid (Below w.heap.size w w')) := fun p sb vb I W hs hbW =>
    (list_any (bodyCX L A c d m p R0.heap.size sb vb) false R l B b I W hs.out (SsR.mono hb0.size (fun g hg => (hbW.out.block g (Nat.lt_of_lt_of_le hg hb0.size)).trans (hb0.block g hg)) hl) hlen (hE p _ sb vb)).mono fun e w' ⟨I', h1, h2, h3⟩ => ⟨h1, hb0.trans ((hbW.out.trans (hs.out.out h3.out)).mono hb0.size)⟩
  obtain ⟨r, hr⟩ : ∃ r, r = listR R l := ⟨_, rfl⟩
  rw [← hr] at KL ⊢
  have HR0 := Lib.hid hR0
  rw [hR0] at y0 yd ym
  clear hR0 hb0 g1 g2 ha0 ha hfit hd0 hm hb hfl hl hlen hE hr
  go_enter Try.func38, Try.ntmps38
  go_wp2_with fail
  rw [← HR0.out]
  refine KS.out.mono ?_
  rintro e1 w1 ⟨p, sb, vb, I, rfl, hs1, hb1⟩
  clear y0 yd ym
  go_wp2_with fail
  refine (KL.out p sb vb I w1 hs1 hb1).mono ?_
  rintro e2 w2 ⟨rfl, hb2⟩
  go_wp2_with fail
  go_ret
  exact ⟨rfl, hb2⟩
set_option maxHeartbeats 4000000 in
set_option maxRecDepth 100000 in
theorem Expr_body (L : List DT) (A : Option Addr) (c : Nat) (d m : Int) (k n : Int) (nm wh : ByteArray) (args : List ET) (EA : Option Addr) (ec : Nat) (r : YT × Int) (w : World) (ha : DsR w w.heap.size A L) (hfit : FitA L) (hd0 : I64 d) (hm : isMethodT L d m = false) (hb : isBodyT L d m = true) (hfl : (fieldsT L d).length ≤ 1000000000)
    (he : EIn w w.heap.size (.mk k n nm wh args) [.int .i64 k, .int .i64 n, .string nm, .string wh, .slice EA args.length ec]) (hE : ∀ p N sb vb, EXC (bodyCX L A c d m p N sb vb) (.mk k n nm wh args) r) :
    Calls Try.prog 39 #[.agg #[.slice A L.length c], .agg #[.int .i64 d, .int .i64 m], .agg #[.int .i64 k, .int .i64 n, .string nm, .string wh, .slice EA args.length ec]] w fun e w' => e = .returned (tc r) ∧ Hid (Below w.heap.size w w') := by
  obtain ⟨R0, hR0⟩ : ∃ R0 : World, R0 = (((w.alloc (.cells #[.slice A L.length c] 24)).alloc (.cells #[.int .i64 d, .int .i64 m] 29)).alloc (.cells #[.int .i64 k, .int .i64 n, .string nm, .string wh, .slice EA args.length ec] 66)).alloc (.cells #[.int .i64 0, .int .i64 0, .int .i64 0, .string ⟨#[]⟩] 50) := ⟨_, rfl⟩
  have hb0 : Below w.heap.size w R0 := by rw [hR0]; exact (far3 _ _ _ _).alloc (by simp; omega) _
  have g1 : R0.heap[w.heap.size]? = some (.cells #[.slice A L.length c] 24 (0, 0)) := by rw [hR0]; exact (Below.heap_alloc _ _ _ (by simp; omega)).trans (new3 _ _ _ _ _ _ _)
  have g2 : R0.heap[w.heap.size + 1]? = some (.cells #[.int .i64 d, .int .i64 m] 29 (0, 0)) := by rw [hR0]; exact (Below.heap_alloc _ _ _ (by simp)).trans (new32 _ _ _ _ _ _ _)
  have g3 : R0.heap[w.heap.size + 1 + 1]? = some (.cells #[.int .i64 k, .int .i64 n, .string nm, .string wh, .slice EA args.length ec] 66 (0, 0)) := by
    rw [hR0]
    refine (Below.heap_alloc _ _ _ (by simp)).trans ?_
    have := heap_alloc_new ((w.alloc (.cells #[.slice A L.length c] 24)).alloc (.cells #[.int .i64 d, .int .i64 m] 29)) (.cells #[.int .i64 k, .int .i64 n, .string nm, .string wh, .slice EA args.length ec] 66)
    simpa using this
  have g4 : R0.heap[w.heap.size + 1 + 1 + 1]? = some (.cells #[.int .i64 0, .int .i64 0, .int .i64 0, .string ⟨#[]⟩] 50 (0, 0)) := by
    rw [hR0]
    have := heap_alloc_new (((w.alloc (.cells #[.slice A L.length c] 24)).alloc (.cells #[.int .i64 d, .int .i64 m] 29)).alloc (.cells #[.int .i64 k, .int .i64 n, .string nm, .string wh, .slice EA args.length ec] 66)) (.cells #[.int .i64 0, .int .i64 0, .int .i64 0, .string ⟨#[]⟩] 50)
    simpa using this
  have hs0 : R0.heap.size = w.heap.size + 1 + 1 + 1 + 1 := by rw [hR0]; simp
  have y0 : R0.cell? ⟨w.heap.size, 0, none⟩ = some (.slice A L.length c) := (cell_of_row _ _ 0 _ _ _ g1).trans rfl
  have yd : R0.cell? ⟨w.heap.size + 1, 0, none⟩ = some (.int .i64 d) := (cell_of_row _ _ 0 _ _ _ g2).trans rfl
  have ym : R0.cell? ⟨w.heap.size + 1, 1, none⟩ = some (.int .i64 m) := (cell_of_row _ _ 1 _ _ _ g2).trans rfl
  have ha0 : DsR R0 R0.heap.size A L := DsR.mono hb0.size hb0.block ha
  have CE : Hid (∀ W, Hid (Below R0.heap.size R0 W) → (W.cell? ⟨w.heap.size + 1 + 1, 0, none⟩ = some (.int .i64 k) ∧ W.cell? ⟨w.heap.size + 1 + 1, 1, none⟩ = some (.int .i64 n) ∧ W.cell? ⟨w.heap.size + 1 + 1, 2, none⟩ = some (.string nm) ∧ W.cell? ⟨w.heap.size + 1 + 1, 3, none⟩ = some (.string wh) ∧ W.cell? ⟨w.heap.size + 1 + 1, 4, none⟩ = some (.slice EA args.length ec)) ∧ Hid (W.heap[w.heap.size + 1 + 1 + 1]? = some (.cells #[.int .i64 0, .int .i64 0, .int .i64 0, .string ⟨#[]⟩] 50 (0, 0)))) := fun W hW => by
    have q := (hW.out.block _ (by omega)).trans g3
    exact ⟨⟨(cell_of_row _ _ 0 _ _ _ q).trans rfl, (cell_of_row _ _ 1 _ _ _ q).trans rfl, (cell_of_row _ _ 2 _ _ _ q).trans rfl, (cell_of_row _ _ 3 _ _ _ q).trans rfl, (cell_of_row _ _ 4 _ _ _ q).trans rfl⟩, (hW.out.block _ (by omega)).trans g4⟩
  have KS : Hid (Calls Try.prog 61 #[.agg #[.slice A L.length c], .agg #[.int .i64 d, .int .i64 m]] R0 fun e w' => ∃ (p sb vb : Nat) (I : IX), e = .returned (.pointer (some ⟨sb, 0, none⟩)) ∧ Hid (SAt (bodyCX L A c d m p R0.heap.size sb vb) w' I) ∧ Hid (Below R0.heap.size R0 w')) := scopeAt_body L A c d m R0 ha0 hfit hd0 hm hb hfl
  have KL : Hid (∀ p sb vb I W, Hid (SAt (bodyCX L A c d m p R0.heap.size sb vb) W I) → Hid (Below R0.heap.size R0 W) → Calls Try.prog 63 #[.pointer (some ⟨sb, 0, none⟩), .agg #[.int .i64 k, .int .i64 n, .string nm, .string wh, .slice EA args.length ec]] W fun e w' => e = .returned (tc r) ∧ Hid (Below R0.heap.size R0 w')) := fun p sb vb I W hs hbW =>
    (hE p R0.heap.size sb vb I W _ hs.out (EIn.mono hb0.size (fun g hg => (hbW.out.block g (Nat.lt_of_lt_of_le hg hb0.size)).trans (hb0.block g hg)) he)).mono fun e w' ⟨I', h1, h2, h3⟩ => ⟨h1, hbW.out.trans (hs.out.out h3.out)⟩
  have HO : Hid (∀ W, Hid (Below R0.heap.size R0 W) → ∀ a0 a1 a2 a3, Hid (Below w.heap.size w (put4 W (w.heap.size + 1 + 1 + 1) a0 a1 a2 a3))) := fun W hW a0 a1 a2 a3 => put4_below (hb0.trans (hW.out.mono hb0.size)) (by omega) _ _ _ _
  have HR0 := Lib.hid hR0
  rw [hR0] at y0 yd ym
  clear hR0 hb0 g1 g2 g3 g4 hs0 ha0 ha hfit hd0 hm hb hfl he hE
  obtain ⟨⟨qk, ql, qh, qn⟩, qc⟩ := r
  unfold tc at KL ⊢
  go_enter Try.func39, Try.ntmps39
  go_wp2_with fail
  rw [← HR0.out]
  refine KS.out.mono ?_
  rintro e1 w1 ⟨p, sb, vb, I, rfl, hs1, hb1⟩
  clear y0 yd ym
  obtain ⟨⟨e0, e1, e2, e3, e4⟩, -⟩ := CE.out _ hb1
  go_wp2_with fail
  refine (KL.out p sb vb I w1 hs1 hb1).mono ?_
  rintro e2' w2 ⟨rfl, hb2⟩
  clear e0 e1 e2 e3 e4
  obtain ⟨-, hT⟩ := CE.out _ hb2
  obtain ⟨⟨z0, z1, z2, z3⟩, f0, f1, f2, f3⟩ := four hT.out
  go_wp2_with fail
  exact ret_y2s rfl (w.heap.size + 1 + 1 + 1) _ _ _ _ _ hT.out rfl rfl rfl (by exact ⟨rfl, HO.out _ hb2 _ _ _ _⟩)
end Go.Proofs.Ytmbddofcildibaa

/-
  governorlaw7: one, body BY CONTRACTS.
-/
namespace Go.Proofs.Ytmbddofcildibaa
open Go Go.RowKit
set_option linter.unusedVariables false
set_option linter.unusedSimpArgs false

def oneV : VT := ⟨⟨#[120]⟩, ⟨1, 0, 0, ⟨#[]⟩⟩, 0, 0, 0⟩
def oneL : List DT := [⟨3, ⟨#[80]⟩, ⟨#[]⟩, [], false, false, [oneV], [], [], 0, 0⟩]
abbrev ovCells : Array Value := #[.string ⟨#[120]⟩, .int .i64 1, .int .i64 0, .int .i64 0, .string ⟨#[]⟩, .int .i64 0, .int .i64 0, .int .i64 0]
abbrev odCells (g : Nat) : Array Value := #[.int .i64 3, .string ⟨#[80]⟩, .string ⟨#[]⟩, .slice none 0 0, .bool false, .bool false, .slice (some ⟨g, 0, none⟩) 1 1, .slice none 0 0, .slice none 0 0, .int .i64 0, .int .i64 0]
theorem one_row {W : World} {g q B : Nat} {T S : TypeId} {fr fs : Nat × Nat} (hg : g < B) (hq : q < B) (h1 : W.heap[g]? = some (.cells ovCells T fr)) (h2 : W.heap[q]? = some (.cells (odCells g) S fs)) : DsR W B (some ⟨q, 0, none⟩) oneL := by
  have i0 : I64 0 := ⟨by decide, by decide⟩
  have hv : VsR W B (some ⟨g, 0, none⟩) [oneV] := row_of_block hg h1 _ 8 rfl (fun k hk => by
    match k, hk with
    | 0, _ => exact ⟨rfl, ⟨i0, i0⟩, i0, i0⟩)
  exact row_of_block hq h2 _ 11 rfl (fun k hk => by
    match k, hk with
    | 0, _ => exact ⟨none, 0, some ⟨g, 0, none⟩, 1, none, 0, none, 0, rfl, i0, i0, nil_row, hv, nil_row, nil_row⟩)
set_option maxHeartbeats 1000000 in
set_option maxRecDepth 100000 in
theorem one_any (w : World) : Calls Try.prog 40 #[] w fun e w' => ∃ q : Nat, e = .returned (.agg #[.slice (some ⟨q, 0, none⟩) 1 1]) ∧ Hid (DsR w' w'.heap.size (some ⟨q, 0, none⟩) oneL) ∧ Hid (Below w.heap.size w w') := by
  go_enter Try.func40, Try.ntmps40
  go_wp2_with fail
  obtain ⟨w0, e0⟩ : ∃ w0, w0 = w.alloc (.cells #[.slice (some ⟨w.heap.size + 1 + 1, 0, none⟩) 1 1] 24) := ⟨_, rfl⟩
  obtain ⟨w1, e1⟩ : ∃ w1, w1 = w0.alloc (.cells ovCells 54) := ⟨_, rfl⟩
  obtain ⟨w2, e2⟩ : ∃ w2, w2 = w1.alloc (.cells (odCells (w.heap.size + 1)) 47) := ⟨_, rfl⟩
  have s0 : w0.heap.size = w.heap.size + 1 := by rw [e0]; simp
  have s1 : w1.heap.size = w.heap.size + 2 := by rw [e1]; simp [s0]
  have s2 : w2.heap.size = w.heap.size + 3 := by rw [e2]; simp [s1]
  have hb : Below w.heap.size w w2 := by
    rw [e2, e1, e0]
    exact (((Below.refl _ _).alloc (Nat.le_refl _) _).alloc (by simp) _).alloc (by simp; omega) _
  have h1 : w2.heap[w.heap.size + 1]? = some (.cells ovCells 54 (0, 0)) := by
    rw [e2, Below.heap_alloc _ _ _ (by omega), e1, ← s0]
    exact heap_alloc_new w0 _
  have h2 : w2.heap[w.heap.size + 1 + 1]? = some (.cells (odCells (w.heap.size + 1)) 47 (0, 0)) := by
    rw [e2, show w.heap.size + 1 + 1 = w1.heap.size by omega]
    exact heap_alloc_new w1 _
  have h0 : w2.heap[w.heap.size]? = some (.cells #[.slice (some ⟨w.heap.size + 1 + 1, 0, none⟩) 1 1] 24 (0, 0)) := by
    rw [e2, Below.heap_alloc _ _ _ (by omega), e1, Below.heap_alloc _ _ _ (by omega), e0]
    exact heap_alloc_new w _
  have c0 : w2.cell? ⟨w.heap.size, 0, none⟩ = some (.slice (some ⟨w.heap.size + 1 + 1, 0, none⟩) 1 1) := by rw [cell_of_row _ _ 0 _ _ _ h0]; rfl
  rw [← e0, ← e1, ← e2]
  have hr : DsR w2 w2.heap.size (some ⟨w.heap.size + 1 + 1, 0, none⟩) oneL := one_row (by omega) (by omega) h1 h2
  clear e0 e1 e2 h0 h1 h2
  refine bodyPost_ret (v := .agg #[.slice (some ⟨w.heap.size + 1 + 1, 0, none⟩) 1 1]) ?_ rfl ⟨_, rfl, hr, hb⟩
  simp [results, Try.f40, go_sem, c0]
set_option maxHeartbeats 1000000 in
set_option maxRecDepth 100000 in
theorem body_any (w : World) : Calls Try.prog 41 #[] w fun e w' => e = .returned (.agg #[.int .i64 0, .int .i64 (-1)]) ∧ Hid (Below w.heap.size w w') := by
  have hg := heap_alloc_new w (.cells #[.int .i64 0, .int .i64 (-1)] 29)
  have z0 := (cell_of_row _ _ 0 _ _ _ hg).trans rfl
  have z1 := (cell_of_row _ _ 1 _ _ _ hg).trans rfl
  have HB : Hid (Below w.heap.size w (w.alloc (.cells #[.int .i64 0, .int .i64 (-1)] 29))) := far1 _ _
  clear hg
  go_enter Try.func41, Try.ntmps41
  go_wp2_with fail
  refine bodyPost_ret (v := .agg #[.int .i64 0, .int .i64 (-1)]) ?_ rfl ⟨rfl, HB⟩
  simp [results, Try.f41, go_sem]
theorem one_fit : FitA oneL := ⟨⟨by decide, by decide, by decide, by decide, by decide⟩, by decide, by decide⟩
theorem one_fields : fieldsT oneL 0 = [oneV] := by kernel_rfl
theorem one_body : isBodyT oneL 0 (-1) = true := by kernel_rfl
theorem one_nomethod : isMethodT oneL 0 (-1) = false := by kernel_rfl
theorem one_say : sayV (fieldsT oneL 0) ⟨#[120]⟩ = some oneV := by kernel_rfl
end Go.Proofs.Ytmbddofcildibaa

/-
  typing: the type of an expression BY A CONTRACT, kind by kind.
-/
namespace Go.Proofs.Ytmbddofcildibaa
open Go Go.RowKit
set_option linter.unusedVariables false
set_option linter.unusedSimpArgs false

/-- an expression's box and the result's variable, behind w. -/
structure EAt (K : CX) (w W : World) (I J : IX) (k n : Int) (nm wh : ByteArray) (A : Option Addr) (m c : Nat) : Prop where
  sat : SAt K W J
  way : XTo K.p w I W J
  e : W.heap[w.heap.size]? = some (.cells #[.int .i64 k, .int .i64 n, .string nm, .string wh, .slice A m c] 66 (0, 0))
  r : W.heap[w.heap.size + 1]? = some (.cells #[.int .i64 0, .int .i64 0, .int .i64 0, .string ⟨#[]⟩] 50 (0, 0))
  ne : ¬ J.has K.p w.heap.size
  nr : ¬ J.has K.p (w.heap.size + 1)
theorem EAt.start {K : CX} {w : World} {I : IX} (h : SAt K w I) (k n : Int) (nm wh : ByteArray) (A : Option Addr) (m c : Nat) : EAt K w ((w.alloc (.cells #[.int .i64 k, .int .i64 n, .string nm, .string wh, .slice A m c] 66)).alloc (.cells #[.int .i64 0, .int .i64 0, .int .i64 0, .string ⟨#[]⟩] 50)) I I k n nm wh A m c :=
  ⟨h.below (far2 _ _ _), XTo.of_below (far2 _ _ _), new2 _ _ _ _ _, new22 _ _ _ _ _, fun e => by have := (h.ix.far _ e).2; omega, fun e => by have := (h.ix.far _ e).2; omega⟩
theorem EAt.step {K : CX} {w W W' : World} {I J J' : IX} {k n : Int} {nm wh : ByteArray} {A : Option Addr} {m c : Nat} (h : EAt K w W I J k n nm wh A m c) (hs : SAt K W' J') (ht : XTo K.p W J W' J') : EAt K w W' I J' k n nm wh A m c :=
  ⟨hs, h.way.trans ht, (ht.block _ (Array.getElem?_eq_some_iff.1 h.e).1 h.ne).trans h.e, (ht.block _ (Array.getElem?_eq_some_iff.1 h.r).1 h.nr).trans h.r, ht.none (Array.getElem?_eq_some_iff.1 h.e).1 h.ne, ht.none (Array.getElem?_eq_some_iff.1 h.r).1 h.nr⟩
theorem EAt.below {K : CX} {w W W' : World} {I J : IX} {k n : Int} {nm wh : ByteArray} {A : Option Addr} {m c : Nat} (h : EAt K w W I J k n nm wh A m c) (hb : Below W.heap.size W W') : EAt K w W' I J k n nm wh A m c := h.step (h.sat.below hb) (XTo.of_below hb)
theorem EAt.cells {K : CX} {w W : World} {I J : IX} {k n : Int} {nm wh : ByteArray} {A : Option Addr} {m c : Nat} (h : EAt K w W I J k n nm wh A m c) :
    W.cell? ⟨w.heap.size, 0, none⟩ = some (.int .i64 k) ∧ W.cell? ⟨w.heap.size, 1, none⟩ = some (.int .i64 n) ∧ W.cell? ⟨w.heap.size, 2, none⟩ = some (.string nm) ∧ W.cell? ⟨w.heap.size, 3, none⟩ = some (.string wh) ∧ W.cell? ⟨w.heap.size, 4, none⟩ = some (.slice A m c) :=
  ⟨(cell_of_row _ _ 0 _ _ _ h.e).trans rfl, (cell_of_row _ _ 1 _ _ _ h.e).trans rfl, (cell_of_row _ _ 2 _ _ _ h.e).trans rfl, (cell_of_row _ _ 3 _ _ _ h.e).trans rfl, (cell_of_row _ _ 4 _ _ _ h.e).trans rfl⟩
/-- behind the store of the result. -/
theorem EAt.ret {K : CX} {w W : World} {I J : IX} {k n : Int} {nm wh : ByteArray} {A : Option Addr} {m c : Nat} (h : EAt K w W I J k n nm wh A m c) (h0 : SAt K w I) {r : YT × Int} {e : Ending} (he : e = .returned (tc r)) (a0 a1 a2 a3 : Value) :
    SRet K w I (tc r) e (put4 W (w.heap.size + 1) a0 a1 a2 a3) := by
  obtain ⟨h1, h2⟩ := h0.put h.sat h.way (by omega) h.nr a0 a1 a2 a3
  exact ⟨J, he, h1, h2⟩
set_option maxHeartbeats 2000000 in
set_option maxRecDepth 100000 in
theorem ex_num (K : CX) (I : IX) (n : Int) (nm wh : ByteArray) (A : Option Addr) (c : Nat) (w : World) (h : SAt K w I) :
    Calls Try.prog 63 #[.pointer (some ⟨K.sb, 0, none⟩), .agg #[.int .i64 1, .int .i64 n, .string nm, .string wh, .slice A 0 c]] w (SRet K w I (tc (plainT 1, (0 : Int)))) := by
  have h1 := EAt.start h 1 n nm wh A 0 c
  have KF : Hid (∀ W J, Hid (EAt K w W I J 1 n nm wh A 0 c) → Calls Try.prog 78 #[.agg #[.int .i64 1, .int .i64 n, .string nm, .string wh, .slice A 0 c]] W fun e w' => e = .returned (.bool true) ∧ Hid (EAt K w w' I J 1 n nm wh A 0 c)) := fun W J he => by
    have hk := formed_any 1 n nm wh A 0 c W
    rw [show formedT 1 0 = true from rfl] at hk
    exact hk.mono fun e w' q => ⟨q.1, he.out.below q.2⟩
  have KP : Hid (∀ W J, Hid (EAt K w W I J 1 n nm wh A 0 c) → Calls Try.prog 79 #[.int .i64 1] W fun e w' => e = .returned (.agg (ycells (plainT 1))) ∧ Hid (EAt K w w' I J 1 n nm wh A 0 c)) := fun W J he => (plain_any 1 W).mono fun e w' q => ⟨q.1, he.out.below q.2⟩
  have H0 := Lib.hid h
  have H1 := Lib.hid h1
  obtain ⟨r, hr⟩ : ∃ r, r = (plainT 1, (0 : Int)) := ⟨_, rfl⟩
  rw [← hr]
  have HR := Lib.hid hr
  obtain ⟨e0, e1, e2, e3, e4⟩ := h1.cells
  clear h h1 hr
  go_enter Try.func63, Try.ntmps63
  go_wp2_with fail
  refine (KF.out _ _ H1).mono ?_
  rintro e5 w5 ⟨rfl, H5⟩
  clear e0 e1 e2 e3 e4
  obtain ⟨e0, e1, e2, e3, e4⟩ := H5.out.cells
  go_wp2_with fail
  refine (KP.out _ _ H5).mono ?_
  rintro e6 w6 ⟨rfl, H6⟩
  clear e0 e1 e2 e3 e4
  obtain ⟨e0, e1, e2, e3, e4⟩ := H6.out.cells
  obtain ⟨⟨z0, z1, z2, z3⟩, f0, f1, f2, f3⟩ := four H6.out.r
  go_wp2_with fail
  exact ret_y2s rfl (w.heap.size + 1) _ _ _ _ _ H6.out.r rfl rfl rfl (by exact H6.out.ret H0.out (by rw [HR.out]; rfl) _ _ _ _)
set_option maxHeartbeats 2000000 in
set_option maxRecDepth 100000 in
theorem ex_true (K : CX) (I : IX) (n : Int) (nm wh : ByteArray) (A : Option Addr) (c : Nat) (w : World) (h : SAt K w I) :
    Calls Try.prog 63 #[.pointer (some ⟨K.sb, 0, none⟩), .agg #[.int .i64 2, .int .i64 n, .string nm, .string wh, .slice A 0 c]] w (SRet K w I (tc (plainT 2, (0 : Int)))) := by
  have h1 := EAt.start h 2 n nm wh A 0 c
  have KF : Hid (∀ W J, Hid (EAt K w W I J 2 n nm wh A 0 c) → Calls Try.prog 78 #[.agg #[.int .i64 2, .int .i64 n, .string nm, .string wh, .slice A 0 c]] W fun e w' => e = .returned (.bool true) ∧ Hid (EAt K w w' I J 2 n nm wh A 0 c)) := fun W J he => by
    have hk := formed_any 2 n nm wh A 0 c W
    rw [show formedT 2 0 = true from rfl] at hk
    exact hk.mono fun e w' q => ⟨q.1, he.out.below q.2⟩
  have KP : Hid (∀ W J, Hid (EAt K w W I J 2 n nm wh A 0 c) → Calls Try.prog 79 #[.int .i64 2] W fun e w' => e = .returned (.agg (ycells (plainT 2))) ∧ Hid (EAt K w w' I J 2 n nm wh A 0 c)) := fun W J he => (plain_any 2 W).mono fun e w' q => ⟨q.1, he.out.below q.2⟩
  have H0 := Lib.hid h
  have H1 := Lib.hid h1
  obtain ⟨r, hr⟩ : ∃ r, r = (plainT 2, (0 : Int)) := ⟨_, rfl⟩
  rw [← hr]
  have HR := Lib.hid hr
  obtain ⟨e0, e1, e2, e3, e4⟩ := h1.cells
  clear h h1 hr
  go_enter Try.func63, Try.ntmps63
  go_wp2_with fail
  refine (KF.out _ _ H1).mono ?_
  rintro e5 w5 ⟨rfl, H5⟩
  clear e0 e1 e2 e3 e4
  obtain ⟨e0, e1, e2, e3, e4⟩ := H5.out.cells
  go_wp2_with fail
  refine (KP.out _ _ H5).mono ?_
  rintro e6 w6 ⟨rfl, H6⟩
  clear e0 e1 e2 e3 e4
  obtain ⟨e0, e1, e2, e3, e4⟩ := H6.out.cells
  obtain ⟨⟨z0, z1, z2, z3⟩, f0, f1, f2, f3⟩ := four H6.out.r
  go_wp2_with fail
  exact ret_y2s rfl (w.heap.size + 1) _ _ _ _ _ H6.out.r rfl rfl rfl (by exact H6.out.ret H0.out (by rw [HR.out]; rfl) _ _ _ _)
set_option maxHeartbeats 2000000 in
set_option maxRecDepth 100000 in
theorem ex_false (K : CX) (I : IX) (n : Int) (nm wh : ByteArray) (A : Option Addr) (c : Nat) (w : World) (h : SAt K w I) :
    Calls Try.prog 63 #[.pointer (some ⟨K.sb, 0, none⟩), .agg #[.int .i64 3, .int .i64 n, .string nm, .string wh, .slice A 0 c]] w (SRet K w I (tc (plainT 2, (0 : Int)))) := by
  have h1 := EAt.start h 3 n nm wh A 0 c
  have KF : Hid (∀ W J, Hid (EAt K w W I J 3 n nm wh A 0 c) → Calls Try.prog 78 #[.agg #[.int .i64 3, .int .i64 n, .string nm, .string wh, .slice A 0 c]] W fun e w' => e = .returned (.bool true) ∧ Hid (EAt K w w' I J 3 n nm wh A 0 c)) := fun W J he => by
    have hk := formed_any 3 n nm wh A 0 c W
    rw [show formedT 3 0 = true from rfl] at hk
    exact hk.mono fun e w' q => ⟨q.1, he.out.below q.2⟩
  have KP : Hid (∀ W J, Hid (EAt K w W I J 3 n nm wh A 0 c) → Calls Try.prog 79 #[.int .i64 2] W fun e w' => e = .returned (.agg (ycells (plainT 2))) ∧ Hid (EAt K w w' I J 3 n nm wh A 0 c)) := fun W J he => (plain_any 2 W).mono fun e w' q => ⟨q.1, he.out.below q.2⟩
  have H0 := Lib.hid h
  have H1 := Lib.hid h1
  obtain ⟨r, hr⟩ : ∃ r, r = (plainT 2, (0 : Int)) := ⟨_, rfl⟩
  rw [← hr]
  have HR := Lib.hid hr
  obtain ⟨e0, e1, e2, e3, e4⟩ := h1.cells
  clear h h1 hr
  go_enter Try.func63, Try.ntmps63
  go_wp2_with fail
  refine (KF.out _ _ H1).mono ?_
  rintro e5 w5 ⟨rfl, H5⟩
  clear e0 e1 e2 e3 e4
  obtain ⟨e0, e1, e2, e3, e4⟩ := H5.out.cells
  go_wp2_with fail
  refine (KP.out _ _ H5).mono ?_
  rintro e6 w6 ⟨rfl, H6⟩
  clear e0 e1 e2 e3 e4
  obtain ⟨e0, e1, e2, e3, e4⟩ := H6.out.cells
  obtain ⟨⟨z0, z1, z2, z3⟩, f0, f1, f2, f3⟩ := four H6.out.r
  go_wp2_with fail
  exact ret_y2s rfl (w.heap.size + 1) _ _ _ _ _ H6.out.r rfl rfl rfl (by exact H6.out.ret H0.out (by rw [HR.out]; rfl) _ _ _ _)
set_option maxHeartbeats 2000000 in
set_option maxRecDepth 100000 in
theorem ex_null (K : CX) (I : IX) (n : Int) (nm wh : ByteArray) (A : Option Addr) (c : Nat) (w : World) (h : SAt K w I) :
    Calls Try.prog 63 #[.pointer (some ⟨K.sb, 0, none⟩), .agg #[.int .i64 4, .int .i64 n, .string nm, .string wh, .slice A 0 c]] w (SRet K w I (tc (plainT 5, (0 : Int)))) := by
  have h1 := EAt.start h 4 n nm wh A 0 c
  have KF : Hid (∀ W J, Hid (EAt K w W I J 4 n nm wh A 0 c) → Calls Try.prog 78 #[.agg #[.int .i64 4, .int .i64 n, .string nm, .string wh, .slice A 0 c]] W fun e w' => e = .returned (.bool true) ∧ Hid (EAt K w w' I J 4 n nm wh A 0 c)) := fun W J he => by
    have hk := formed_any 4 n nm wh A 0 c W
    rw [show formedT 4 0 = true from rfl] at hk
    exact hk.mono fun e w' q => ⟨q.1, he.out.below q.2⟩
  have KP : Hid (∀ W J, Hid (EAt K w W I J 4 n nm wh A 0 c) → Calls Try.prog 79 #[.int .i64 5] W fun e w' => e = .returned (.agg (ycells (plainT 5))) ∧ Hid (EAt K w w' I J 4 n nm wh A 0 c)) := fun W J he => (plain_any 5 W).mono fun e w' q => ⟨q.1, he.out.below q.2⟩
  have H0 := Lib.hid h
  have H1 := Lib.hid h1
  obtain ⟨r, hr⟩ : ∃ r, r = (plainT 5, (0 : Int)) := ⟨_, rfl⟩
  rw [← hr]
  have HR := Lib.hid hr
  obtain ⟨e0, e1, e2, e3, e4⟩ := h1.cells
  clear h h1 hr
  go_enter Try.func63, Try.ntmps63
  go_wp2_with fail
  refine (KF.out _ _ H1).mono ?_
  rintro e5 w5 ⟨rfl, H5⟩
  clear e0 e1 e2 e3 e4
  obtain ⟨e0, e1, e2, e3, e4⟩ := H5.out.cells
  go_wp2_with fail
  refine (KP.out _ _ H5).mono ?_
  rintro e6 w6 ⟨rfl, H6⟩
  clear e0 e1 e2 e3 e4
  obtain ⟨e0, e1, e2, e3, e4⟩ := H6.out.cells
  obtain ⟨⟨z0, z1, z2, z3⟩, f0, f1, f2, f3⟩ := four H6.out.r
  go_wp2_with fail
  exact ret_y2s rfl (w.heap.size + 1) _ _ _ _ _ H6.out.r rfl rfl rfl (by exact H6.out.ret H0.out (by rw [HR.out]; rfl) _ _ _ _)
set_option maxHeartbeats 2000000 in
set_option maxRecDepth 100000 in
theorem ex_name (K : CX) (I : IX) (n : Int) (nm wh : ByteArray) (A : Option Addr) (c : Nat) (w : World) (h : SAt K w I) :
    Calls Try.prog 63 #[.pointer (some ⟨K.sb, 0, none⟩), .agg #[.int .i64 5, .int .i64 n, .string nm, .string wh, .slice A 0 c]] w (SRet K w I (tc (nameT K.S.V nm))) := by
  have KN : Hid (∀ W J, Hid (EAt K w W I J 5 n nm wh A 0 c) → Calls Try.prog 80 #[.pointer (some ⟨K.sb, 0, none⟩), .agg #[.int .i64 5, .int .i64 n, .string nm, .string wh, .slice A 0 c]] W fun e w' => e = .returned (tc (nameT K.S.V nm)) ∧ Hid (EAt K w w' I J 5 n nm wh A 0 c)) := fun W J he => (name_any K J 5 n nm wh A 0 c W he.out.sat).mono fun e w' q => ⟨q.1, he.out.below q.2⟩
  obtain ⟨q, hq⟩ : ∃ q, q = nameT K.S.V nm := ⟨_, rfl⟩
  rw [← hq] at KN ⊢
  clear hq
  have h1 := EAt.start h 5 n nm wh A 0 c
  have KF : Hid (∀ W J, Hid (EAt K w W I J 5 n nm wh A 0 c) → Calls Try.prog 78 #[.agg #[.int .i64 5, .int .i64 n, .string nm, .string wh, .slice A 0 c]] W fun e w' => e = .returned (.bool true) ∧ Hid (EAt K w w' I J 5 n nm wh A 0 c)) := fun W J he => by
    have hk := formed_any 5 n nm wh A 0 c W
    rw [show formedT 5 0 = true from rfl] at hk
    exact hk.mono fun e w' q => ⟨q.1, he.out.below q.2⟩
  have H0 := Lib.hid h
  have H1 := Lib.hid h1
  obtain ⟨r, hr⟩ : ∃ r, r = q := ⟨_, rfl⟩
  rw [← hr]
  have HR := Lib.hid hr
  obtain ⟨e0, e1, e2, e3, e4⟩ := h1.cells
  clear h h1 hr
  go_enter Try.func63, Try.ntmps63
  go_wp2_with fail
  refine (KF.out _ _ H1).mono ?_
  rintro e5 w5 ⟨rfl, H5⟩
  clear e0 e1 e2 e3 e4
  obtain ⟨e0, e1, e2, e3, e4⟩ := H5.out.cells
  obtain ⟨⟨qk, ql, qh, qn⟩, qc⟩ := q
  unfold tc at KN
  go_wp2_with fail
  refine (KN.out _ _ H5).mono ?_
  rintro e6 w6 ⟨rfl, H6⟩
  clear e0 e1 e2 e3 e4
  obtain ⟨e0, e1, e2, e3, e4⟩ := H6.out.cells
  obtain ⟨⟨z0, z1, z2, z3⟩, f0, f1, f2, f3⟩ := four H6.out.r
  go_wp2_with fail
  exact ret_y2s rfl (w.heap.size + 1) _ _ _ _ _ H6.out.r rfl rfl rfl (by exact H6.out.ret H0.out (by rw [HR.out]; rfl) _ _ _ _)
set_option maxHeartbeats 2000000 in
set_option maxRecDepth 100000 in
theorem ex_bad (K : CX) (I : IX) (k n : Int) (nm wh : ByteArray) (A : Option Addr) (m c : Nat) (w : World) (h : SAt K w I) (hf : formedT k m = false) :
    Calls Try.prog 63 #[.pointer (some ⟨K.sb, 0, none⟩), .agg #[.int .i64 k, .int .i64 n, .string nm, .string wh, .slice A m c]] w (SRet K w I (tc (Y0, (14 : Int)))) := by
  have h1 := EAt.start h k n nm wh A m c
  have KF : Hid (∀ W J, Hid (EAt K w W I J k n nm wh A m c) → Calls Try.prog 78 #[.agg #[.int .i64 k, .int .i64 n, .string nm, .string wh, .slice A m c]] W fun e w' => e = .returned (.bool false) ∧ Hid (EAt K w w' I J k n nm wh A m c)) := fun W J he => by
    have hk := formed_any k n nm wh A m c W
    rw [show formedT k m = false from hf] at hk
    exact hk.mono fun e w' q => ⟨q.1, he.out.below q.2⟩
  have H0 := Lib.hid h
  have H1 := Lib.hid h1
  obtain ⟨r, hr⟩ : ∃ r, r = (Y0, (14 : Int)) := ⟨_, rfl⟩
  rw [← hr]
  have HR := Lib.hid hr
  obtain ⟨e0, e1, e2, e3, e4⟩ := h1.cells
  clear h h1 hr
  go_enter Try.func63, Try.ntmps63
  go_wp2_with fail
  refine (KF.out _ _ H1).mono ?_
  rintro e5 w5 ⟨rfl, H5⟩
  clear e0 e1 e2 e3 e4
  obtain ⟨e0, e1, e2, e3, e4⟩ := H5.out.cells
  obtain ⟨⟨z0, z1, z2, z3⟩, f0, f1, f2, f3⟩ := four H5.out.r
  go_wp2_with fail
  exact ret_y2s rfl (w.heap.size + 1) _ _ _ _ _ H5.out.r rfl rfl rfl (by exact H5.out.ret H0.out (by rw [HR.out]; rfl) _ _ _ _)
set_option maxHeartbeats 2000000 in
set_option maxRecDepth 100000 in
theorem ex_bin (K : CX) (I : IX) (R : ET → YT × Int) (l : List ET) (n : Int) (nm wh : ByteArray) (A : Option Addr) (c : Nat) (w : World) (h : SAt K w I) (hl : EsR w K.N A l) (hlen : l.length = 2) (hE : ∀ (k : Nat) (hk : k < l.length), EXC K l[k] (R l[k])) :
    Calls Try.prog 63 #[.pointer (some ⟨K.sb, 0, none⟩), .agg #[.int .i64 9, .int .i64 n, .string nm, .string wh, .slice A l.length c]] w (SRet K w I (tc (operT n (exprsR R l)))) := by
  have KO : Hid (∀ W J, Hid (EAt K w W I J 9 n nm wh A l.length c) → Calls Try.prog 86 #[.pointer (some ⟨K.sb, 0, none⟩), .agg #[.int .i64 9, .int .i64 n, .string nm, .string wh, .slice A l.length c]] W fun e w' => ∃ J', e = .returned (tc (operT n (exprsR R l))) ∧ Hid (EAt K w w' I J' 9 n nm wh A l.length c)) := fun W J he => (operated_any K R l 9 n nm wh A c J W he.out.sat (RowIn.mono (Nat.le_refl _) (fun g hg => (h.low he.out.way).block g hg) (fun k hk cs hc => EIn.mono (Nat.le_refl _) (fun g hg => (h.low he.out.way).block g hg) hc) hl) hlen hE).mono fun e w' ⟨J', q1, q2, q3⟩ => ⟨J', q1, he.out.step q2 q3⟩
  obtain ⟨q, hq⟩ : ∃ q, q = operT n (exprsR R l) := ⟨_, rfl⟩
  rw [← hq] at KO ⊢
  have hf9 : formedT 9 l.length = true := by rw [hlen]; rfl
  have HLN := Lib.hid hlen
  clear hq hl hE hlen
  have h1 := EAt.start h 9 n nm wh A l.length c
  have KF : Hid (∀ W J, Hid (EAt K w W I J 9 n nm wh A l.length c) → Calls Try.prog 78 #[.agg #[.int .i64 9, .int .i64 n, .string nm, .string wh, .slice A l.length c]] W fun e w' => e = .returned (.bool true) ∧ Hid (EAt K w w' I J 9 n nm wh A l.length c)) := fun W J he => by
    have hk := formed_any 9 n nm wh A l.length c W
    rw [show formedT 9 l.length = true from hf9] at hk
    exact hk.mono fun e w' q => ⟨q.1, he.out.below q.2⟩
  have H0 := Lib.hid h
  have H1 := Lib.hid h1
  obtain ⟨r, hr⟩ : ∃ r, r = q := ⟨_, rfl⟩
  rw [← hr]
  have HR := Lib.hid hr
  obtain ⟨e0, e1, e2, e3, e4⟩ := h1.cells
  clear h h1 hr
  go_enter Try.func63, Try.ntmps63
  go_wp2_with fail
  refine (KF.out _ _ H1).mono ?_
  rintro e5 w5 ⟨rfl, H5⟩
  clear e0 e1 e2 e3 e4
  obtain ⟨e0, e1, e2, e3, e4⟩ := H5.out.cells
  clear hf9
  obtain ⟨⟨qk, ql, qh, qn⟩, qc⟩ := q
  unfold tc at KO
  go_wp2_with fail
  refine (KO.out _ _ H5).mono ?_
  rintro e6 w6 ⟨J6, rfl, H6⟩
  clear e0 e1 e2 e3 e4
  obtain ⟨e0, e1, e2, e3, e4⟩ := H6.out.cells
  obtain ⟨⟨z0, z1, z2, z3⟩, f0, f1, f2, f3⟩ := four H6.out.r
  go_wp2_with fail
  exact ret_y2s rfl (w.heap.size + 1) _ _ _ _ _ H6.out.r rfl rfl rfl (by exact H6.out.ret H0.out (by rw [HR.out]; rfl) _ _ _ _)
end Go.Proofs.Ytmbddofcildibaa

/-
  typing: what is negated keeps its type, BY A CONTRACT; minus and NOT around one expression.
-/
namespace Go.Proofs.Ytmbddofcildibaa
open Go Go.RowKit
set_option linter.unusedVariables false
set_option linter.unusedSimpArgs false

/-- the type of what is negated. -/
def negT (k : Int) (r : YT × Int) : YT × Int := if r.2 = 0 then (if r.1.kind = k then r else (Y0, 14)) else r
theorem EAt.put {K : CX} {w W : World} {I J : IX} {k n : Int} {nm wh : ByteArray} {A : Option Addr} {m c : Nat} (h : EAt K w W I J k n nm wh A m c) (h0 : SAt K w I) {g : Nat} (hg : w.heap.size + 1 < g) (hn : ¬ J.has K.p g) (a0 a1 a2 a3 : Value) : EAt K w (put4 W g a0 a1 a2 a3) I J k n nm wh A m c := by
  obtain ⟨h1, h2⟩ := h0.put h.sat h.way (g := g) (by omega) hn a0 a1 a2 a3
  exact ⟨h1, h2, (heap_put (by omega) a0 a1 a2 a3).trans h.e, (heap_put (by omega) a0 a1 a2 a3).trans h.r, h.ne, h.nr⟩
theorem put4_row {W : World} {g : Nat} {u0 u1 u2 u3 : Value} {T : TypeId} (h : W.heap[g]? = some (.cells #[u0, u1, u2, u3] T (0, 0))) (a0 a1 a2 a3 : Value) : (put4 W g a0 a1 a2 a3).heap[g]? = some (.cells #[a0, a1, a2, a3] T (0, 0)) := by
  simp [put4, World.setCell, Array.getElem?_modify, h]
set_option maxHeartbeats 2000000 in
set_option maxRecDepth 100000 in
theorem negated_any (K : CX) (I : IX) (k n : Int) (nm wh : ByteArray) (args : List ET) (A : Option Addr) (c : Nat) (r : YT × Int) (kd : Int) (w : World) (h : SAt K w I)
    (he : EIn w K.N (.mk k n nm wh args) [.int .i64 k, .int .i64 n, .string nm, .string wh, .slice A args.length c]) (hE : EXC K (.mk k n nm wh args) r) :
    Calls Try.prog 85 #[.pointer (some ⟨K.sb, 0, none⟩), .agg #[.int .i64 k, .int .i64 n, .string nm, .string wh, .slice A args.length c], .int .i64 kd] w (SRet K w I (tc (negT kd r))) := by
  obtain ⟨q, hq⟩ : ∃ q, q = negT kd r := ⟨_, rfl⟩
  rw [← hq]
  unfold negT at hq
  obtain ⟨R0, hR0⟩ : ∃ R0 : World, R0 = (w.alloc (.cells #[.int .i64 k, .int .i64 n, .string nm, .string wh, .slice A args.length c] 66)).alloc (.cells #[.int .i64 0, .int .i64 0, .int .i64 0, .string ⟨#[]⟩] 50) := ⟨_, rfl⟩
  have h1 : EAt K w R0 I I k n nm wh A args.length c := hR0 ▸ EAt.start h k n nm wh A args.length c
  have hs0 : R0.heap.size = w.heap.size + 1 + 1 := by rw [hR0]; simp
  have KE : Hid (∀ W J, Hid (EAt K w W I J k n nm wh A args.length c) → Calls Try.prog 63 #[.pointer (some ⟨K.sb, 0, none⟩), .agg #[.int .i64 k, .int .i64 n, .string nm, .string wh, .slice A args.length c]] W fun e w' => ∃ J', e = .returned (tc r) ∧ Hid (EAt K w w' I J' k n nm wh A args.length c) ∧ Hid (XTo K.p W J w' J')) := fun W J ht => (hE J W _ ht.out.sat (EIn.mono (Nat.le_refl _) (fun g hg => (h.low ht.out.way).block g hg) he)).mono fun e w' ⟨J', q1, q2, q3⟩ => ⟨J', q1, ht.out.step q2 q3, q3⟩
  obtain ⟨⟨rk, rl, rh, rn⟩, rc⟩ := r
  simp only at hq
  unfold tc ycells at KE
  simp only at KE
  have H1 := Lib.hid h1
  have H0 := Lib.hid h
  have HA : Hid (∀ W J, Hid (EAt K w W I J k n nm wh A args.length c) → ∀ o, Hid (EAt K w (W.alloc o) I J k n nm wh A args.length c)) := fun W J hh o => hh.out.below (far1 _ _)
  have HD : Hid (∀ W J, Hid (EAt K w W I J k n nm wh A args.length c) → Hid (EAt K w W.drew I J k n nm wh A args.length c)) := fun W J hh => hh.out.below (Below.refl _ _).drew
  have CJ : Hid (∀ W J, Hid (EAt K w W I J k n nm wh A args.length c) → W.cell? ⟨w.heap.size, 0, none⟩ = some (.int .i64 k) ∧ W.cell? ⟨w.heap.size, 1, none⟩ = some (.int .i64 n) ∧ W.cell? ⟨w.heap.size, 2, none⟩ = some (.string nm) ∧ W.cell? ⟨w.heap.size, 3, none⟩ = some (.string wh) ∧ W.cell? ⟨w.heap.size, 4, none⟩ = some (.slice A args.length c)) := fun W J hh => hh.out.cells
  have NH : Hid (¬ I.has K.p R0.heap.size) := fun hh => by have := (h.ix.far _ hh).2; omega
  have HT : Hid (∀ w1 J1, Hid (XTo K.p (R0.drew.alloc (.cells #[.int .i64 0, .int .i64 0, .int .i64 0, .string ⟨#[]⟩] 50)) I w1 J1) → Hid (w1.heap[R0.heap.size]? = some (.cells #[.int .i64 0, .int .i64 0, .int .i64 0, .string ⟨#[]⟩] 50 (0, 0)) ∧ ¬ J1.has K.p R0.heap.size)) := fun w1 J1 ht => ⟨(ht.out.block _ (Nat.lt_of_lt_of_eq (Nat.lt_succ_self R0.drew.heap.size) (by simp)) NH.out).trans (new1 R0.drew _ _), ht.out.none (Nat.lt_of_lt_of_eq (Nat.lt_succ_self R0.drew.heap.size) (by simp)) NH.out⟩
  have HS0 := Lib.hid hs0
  have HR0 := Lib.hid hR0
  have HQ := Lib.hid hq
  clear hR0 h1 h he hE hs0 hq
  obtain ⟨e0, e1, e2, e3, e4⟩ := CJ.out _ _ H1
  have hRR := HR0.out
  rw [hRR] at e0 e1 e2 e3 e4
  clear hRR
  go_enter Try.func85, Try.ntmps85
  go_wp2_with fail
  rw [← HR0.out]
  refine (KE.out _ _ H1).mono ?_
  rintro e5 w5 ⟨J1, rfl, HX, TX⟩
  clear KE
  have H6 := HA.out _ _ HX (.cells #[.int .i64 rk, .int .i64 rl, .int .i64 rh, .string rn] 50)
  obtain ⟨⟨z0, z1, z2, z3⟩, f0, f1, f2, f3⟩ := four H6.out.r
  obtain ⟨⟨t0, t1, t2, t3⟩, -⟩ := four (new1 w5 #[.int .i64 rk, .int .i64 rl, .int .i64 rh, .string rn] 50)
  clear e0 e1 e2 e3 e4
  have ret : ∀ (r' : YT × Int) (e : Ending), q = r' → e = .returned (tc r') → ∀ a0 a1 a2 a3, SRet K w I (tc q) e (put4 (w5.alloc (.cells #[.int .i64 rk, .int .i64 rl, .int .i64 rh, .string rn] 50)) (w.heap.size + 1) a0 a1 a2 a3) := fun r' e hq he a0 a1 a2 a3 => H6.out.ret H0.out (by rw [hq]; exact he) a0 a1 a2 a3
  have HRET := Lib.hid ret
  clear ret
  by_cases hc : rc = 0
  · subst hc
    by_cases hk : rk = kd
    · have hkb : (rk != kd) = false := by simp [hk]
      have hz : q = (⟨rk, rl, rh, rn⟩, 0) := by rw [HQ.out, if_pos rfl, if_pos hk]
      have HZ := Lib.hid hz
      clear hz hk HQ
      go_wp2_with fail
      exact ret_y2s rfl (w.heap.size + 1) _ _ _ _ _ H6.out.r rfl rfl rfl (by exact HRET.out _ _ HZ.out rfl _ _ _ _)
    · have hkb : (rk != kd) = true := by simp [hk]
      have hz : q = (Y0, 14) := by rw [HQ.out, if_pos rfl, if_neg hk]
      have HZ := Lib.hid hz
      clear hz hk HQ
      go_wp2_with fail
      exact ret_y2s rfl (w.heap.size + 1) _ _ _ _ _ H6.out.r rfl rfl rfl (by exact HRET.out _ _ HZ.out rfl _ _ _ _)
  · have hcb : (rc == 0) = false := eq_no hc
    have hz : q = (⟨rk, rl, rh, rn⟩, rc) := by rw [HQ.out, if_neg hc]
    have HZ := Lib.hid hz
    clear hz hc HQ
    go_wp2_with fail
    exact ret_y2s rfl (w.heap.size + 1) _ _ _ _ _ H6.out.r rfl rfl rfl (by exact HRET.out _ _ HZ.out rfl _ _ _ _)
set_option maxHeartbeats 2000000 in
set_option maxRecDepth 100000 in
theorem ex_neg (K : CX) (I : IX) (r : YT × Int) (ek en : Int) (enm ewh : ByteArray) (eargs : List ET) (n : Int) (nm wh : ByteArray) (A : Option Addr) (c : Nat) (w : World) (h : SAt K w I) (hl : EsR w K.N A [.mk ek en enm ewh eargs]) (hE : EXC K (.mk ek en enm ewh eargs) r) :
    Calls Try.prog 63 #[.pointer (some ⟨K.sb, 0, none⟩), .agg #[.int .i64 7, .int .i64 n, .string nm, .string wh, .slice A 1 c]] w (SRet K w I (tc (negT 1 r))) := by
  obtain ⟨g, o, cs, rfl, hg, -, hcs, hin⟩ := hl 0 (by simp)
  rw [List.getElem_cons_zero] at hin
  obtain ⟨A1, c1, rfl, -, -⟩ := hin.form
  have h1 := EAt.start h 7 n nm wh (some ⟨g, o, none⟩) 1 c
  have KN : Hid (∀ W J, Hid (EAt K w W I J 7 n nm wh (some ⟨g, o, none⟩) 1 c) → Calls Try.prog 85 #[.pointer (some ⟨K.sb, 0, none⟩), .agg #[.int .i64 ek, .int .i64 en, .string enm, .string ewh, .slice A1 eargs.length c1], .int .i64 1] W fun e w' => ∃ J', e = .returned (tc (negT 1 r)) ∧ Hid (EAt K w w' I J' 7 n nm wh (some ⟨g, o, none⟩) 1 c)) := fun W J ht => (negated_any K J ek en enm ewh eargs A1 c1 r 1 W ht.out.sat (EIn.mono (Nat.le_refl _) (fun g hg => (h.low ht.out.way).block g hg) hin) hE).mono fun e w' ⟨J', q1, q2, q3⟩ => ⟨J', q1, ht.out.step q2 q3⟩
  have HC : Hid (∀ W J, Hid (EAt K w W I J 7 n nm wh (some ⟨g, o, none⟩) 1 c) → W.cell? ⟨g, o, none⟩ = some (.int .i64 ek) ∧ W.cell? ⟨g, o + 1, none⟩ = some (.int .i64 en) ∧ W.cell? ⟨g, o + 2, none⟩ = some (.string enm) ∧ W.cell? ⟨g, o + 3, none⟩ = some (.string ewh) ∧ W.cell? ⟨g, o + 4, none⟩ = some (.slice A1 eargs.length c1)) := fun W J ht => by
    have hk : ∀ j v, [Value.int .i64 ek, .int .i64 en, .string enm, .string ewh, .slice A1 eargs.length c1][j]? = some v → W.cell? ⟨g, o + j, none⟩ = some v := fun j v hj => by
      rw [World.cell?_of_block ((h.low ht.out.way).block g hg)]
      have := hcs j v hj
      simpa using this
    exact ⟨hk 0 _ rfl, hk 1 _ rfl, hk 2 _ rfl, hk 3 _ rfl, hk 4 _ rfl⟩
  obtain ⟨q, hq⟩ : ∃ q, q = negT 1 r := ⟨_, rfl⟩
  rw [← hq] at KN ⊢
  have KF : Hid (∀ W J, Hid (EAt K w W I J 7 n nm wh (some ⟨g, o, none⟩) 1 c) → Calls Try.prog 78 #[.agg #[.int .i64 7, .int .i64 n, .string nm, .string wh, .slice (some ⟨g, o, none⟩) 1 c]] W fun e w' => e = .returned (.bool true) ∧ Hid (EAt K w w' I J 7 n nm wh (some ⟨g, o, none⟩) 1 c)) := fun W J he => by
    have hk := formed_any 7 n nm wh (some ⟨g, o, none⟩) 1 c W
    rw [show formedT 7 1 = true from rfl] at hk
    exact hk.mono fun e w' q => ⟨q.1, he.out.below q.2⟩
  have H0 := Lib.hid h
  have H1 := Lib.hid h1
  obtain ⟨e0, e1, e2, e3, e4⟩ := h1.cells
  clear h h1 hq hl hcs hin hE
  obtain ⟨⟨qk, ql, qh, qn⟩, qc⟩ := q
  unfold tc at KN
  go_enter Try.func63, Try.ntmps63
  go_wp2_with fail
  refine (KF.out _ _ H1).mono ?_
  rintro e5 w5 ⟨rfl, H5⟩
  clear e0 e1 e2 e3 e4
  obtain ⟨e0, e1, e2, e3, e4⟩ := H5.out.cells
  obtain ⟨a0, a1, a2, a3, a4⟩ := HC.out _ _ H5
  go_wp2_with fail
  refine (KN.out _ _ H5).mono ?_
  rintro e6 w6 ⟨J6, rfl, H6⟩
  clear e0 e1 e2 e3 e4 a0 a1 a2 a3 a4
  obtain ⟨⟨z0, z1, z2, z3⟩, f0, f1, f2, f3⟩ := four H6.out.r
  go_wp2_with fail
  exact ret_y2s rfl (w.heap.size + 1) _ _ _ _ _ H6.out.r rfl rfl rfl (by exact H6.out.ret H0.out rfl _ _ _ _)
set_option maxHeartbeats 2000000 in
set_option maxRecDepth 100000 in
theorem ex_not (K : CX) (I : IX) (r : YT × Int) (ek en : Int) (enm ewh : ByteArray) (eargs : List ET) (n : Int) (nm wh : ByteArray) (A : Option Addr) (c : Nat) (w : World) (h : SAt K w I) (hl : EsR w K.N A [.mk ek en enm ewh eargs]) (hE : EXC K (.mk ek en enm ewh eargs) r) :
    Calls Try.prog 63 #[.pointer (some ⟨K.sb, 0, none⟩), .agg #[.int .i64 8, .int .i64 n, .string nm, .string wh, .slice A 1 c]] w (SRet K w I (tc (negT 2 r))) := by
  obtain ⟨g, o, cs, rfl, hg, -, hcs, hin⟩ := hl 0 (by simp)
  rw [List.getElem_cons_zero] at hin
  obtain ⟨A1, c1, rfl, -, -⟩ := hin.form
  have h1 := EAt.start h 8 n nm wh (some ⟨g, o, none⟩) 1 c
  have KN : Hid (∀ W J, Hid (EAt K w W I J 8 n nm wh (some ⟨g, o, none⟩) 1 c) → Calls Try.prog 85 #[.pointer (some ⟨K.sb, 0, none⟩), .agg #[.int .i64 ek, .int .i64 en, .string enm, .string ewh, .slice A1 eargs.length c1], .int .i64 2] W fun e w' => ∃ J', e = .returned (tc (negT 2 r)) ∧ Hid (EAt K w w' I J' 8 n nm wh (some ⟨g, o, none⟩) 1 c)) := fun W J ht => (negated_any K J ek en enm ewh eargs A1 c1 r 2 W ht.out.sat (EIn.mono (Nat.le_refl _) (fun g hg => (h.low ht.out.way).block g hg) hin) hE).mono fun e w' ⟨J', q1, q2, q3⟩ => ⟨J', q1, ht.out.step q2 q3⟩
  have HC : Hid (∀ W J, Hid (EAt K w W I J 8 n nm wh (some ⟨g, o, none⟩) 1 c) → W.cell? ⟨g, o, none⟩ = some (.int .i64 ek) ∧ W.cell? ⟨g, o + 1, none⟩ = some (.int .i64 en) ∧ W.cell? ⟨g, o + 2, none⟩ = some (.string enm) ∧ W.cell? ⟨g, o + 3, none⟩ = some (.string ewh) ∧ W.cell? ⟨g, o + 4, none⟩ = some (.slice A1 eargs.length c1)) := fun W J ht => by
    have hk : ∀ j v, [Value.int .i64 ek, .int .i64 en, .string enm, .string ewh, .slice A1 eargs.length c1][j]? = some v → W.cell? ⟨g, o + j, none⟩ = some v := fun j v hj => by
      rw [World.cell?_of_block ((h.low ht.out.way).block g hg)]
      have := hcs j v hj
      simpa using this
    exact ⟨hk 0 _ rfl, hk 1 _ rfl, hk 2 _ rfl, hk 3 _ rfl, hk 4 _ rfl⟩
  obtain ⟨q, hq⟩ : ∃ q, q = negT 2 r := ⟨_, rfl⟩
  rw [← hq] at KN ⊢
  have KF : Hid (∀ W J, Hid (EAt K w W I J 8 n nm wh (some ⟨g, o, none⟩) 1 c) → Calls Try.prog 78 #[.agg #[.int .i64 8, .int .i64 n, .string nm, .string wh, .slice (some ⟨g, o, none⟩) 1 c]] W fun e w' => e = .returned (.bool true) ∧ Hid (EAt K w w' I J 8 n nm wh (some ⟨g, o, none⟩) 1 c)) := fun W J he => by
    have hk := formed_any 8 n nm wh (some ⟨g, o, none⟩) 1 c W
    rw [show formedT 8 1 = true from rfl] at hk
    exact hk.mono fun e w' q => ⟨q.1, he.out.below q.2⟩
  have H0 := Lib.hid h
  have H1 := Lib.hid h1
  obtain ⟨e0, e1, e2, e3, e4⟩ := h1.cells
  clear h h1 hq hl hcs hin hE
  obtain ⟨⟨qk, ql, qh, qn⟩, qc⟩ := q
  unfold tc at KN
  go_enter Try.func63, Try.ntmps63
  go_wp2_with fail
  refine (KF.out _ _ H1).mono ?_
  rintro e5 w5 ⟨rfl, H5⟩
  clear e0 e1 e2 e3 e4
  obtain ⟨e0, e1, e2, e3, e4⟩ := H5.out.cells
  obtain ⟨a0, a1, a2, a3, a4⟩ := HC.out _ _ H5
  go_wp2_with fail
  refine (KN.out _ _ H5).mono ?_
  rintro e6 w6 ⟨J6, rfl, H6⟩
  clear e0 e1 e2 e3 e4 a0 a1 a2 a3 a4
  obtain ⟨⟨z0, z1, z2, z3⟩, f0, f1, f2, f3⟩ := four H6.out.r
  go_wp2_with fail
  exact ret_y2s rfl (w.heap.size + 1) _ _ _ _ _ H6.out.r rfl rfl rfl (by exact H6.out.ret H0.out rfl _ _ _ _)
end Go.Proofs.Ytmbddofcildibaa

/-
  governorlaw7.awake BY A CONTRACT.
-/
namespace Go.Proofs.Ytmbddofcildibaa
open Go Go.RowKit
set_option linter.unusedVariables false
set_option linter.unusedSimpArgs false

/-- the types of the expressions that have no parts. -/
def tyE (V : List VT) : ET → YT × Int
  | .mk k _ nm _ _ => if k = 1 then (plainT 1, 0) else if k = 2 then (plainT 2, 0) else if k = 4 then (plainT 5, 0) else nameT V nm
theorem exc_leaf (K : CX) (k n : Int) (nm wh : ByteArray) (hk : k = 1 ∨ k = 2 ∨ k = 4 ∨ k = 5) : EXC K (.mk k n nm wh []) (tyE K.S.V (.mk k n nm wh [])) := by
  intro I w cs h he
  obtain ⟨A, c, rfl, -, -⟩ := he.form
  rcases hk with rfl | rfl | rfl | rfl
  · exact ex_num K I n nm wh A c w h
  · exact ex_true K I n nm wh A c w h
  · exact ex_null K I n nm wh A c w h
  · exact ex_name K I n nm wh A c w h
theorem exc_bin (K : CX) (R : ET → YT × Int) (n : Int) (nm wh : ByteArray) (l : List ET) (hlen : l.length = 2) (hE : ∀ (k : Nat) (hk : k < l.length), EXC K l[k] (R l[k])) : EXC K (.mk 9 n nm wh l) (operT n (exprsR R l)) := by
  intro I w cs h he
  obtain ⟨A, c, rfl, -, hl⟩ := he.form
  exact ex_bin K I R l n nm wh A c w h hl hlen hE
theorem exc_neg (K : CX) (r : YT × Int) (n : Int) (nm wh : ByteArray) (e1 : ET) (hE : EXC K e1 r) : EXC K (.mk 7 n nm wh [e1]) (negT 1 r) := by
  intro I w cs h he
  obtain ⟨A, c, rfl, -, hl⟩ := he.form
  obtain ⟨ek, en, enm, ewh, eargs⟩ := e1
  exact ex_neg K I r ek en enm ewh eargs n nm wh A c w h hl hE
theorem exc_not (K : CX) (r : YT × Int) (n : Int) (nm wh : ByteArray) (e1 : ET) (hE : EXC K e1 r) : EXC K (.mk 8 n nm wh [e1]) (negT 2 r) := by
  intro I w cs h he
  obtain ⟨A, c, rfl, -, hl⟩ := he.form
  obtain ⟨ek, en, enm, ewh, eargs⟩ := e1
  exact ex_not K I r ek en enm ewh eargs n nm wh A c w h hl hE
def nmX : ET := .mk 5 0 ⟨#[120]⟩ ⟨#[]⟩ []
def nmZ : ET := .mk 1 0 ⟨#[]⟩ ⟨#[]⟩ []
theorem val_lt : operT 8 (exprsR (tyE (fieldsT oneL 0)) [nmX, nmZ]) = (plainT 2, 0) := by rw [one_fields]; rfl
theorem val_not : negT 2 (tyE (fieldsT oneL 0) nmX) = (Y0, 14) := by rw [one_fields]; rfl
/-- the parts of x < 0, of NOT x. -/
abbrev xCells : Array Value := #[.int .i64 5, .int .i64 0, .string ⟨#[120]⟩, .string ⟨#[]⟩, .slice none 0 0]
abbrev xzCells : Array Value := #[.int .i64 5, .int .i64 0, .string ⟨#[120]⟩, .string ⟨#[]⟩, .slice none 0 0, .int .i64 1, .int .i64 0, .string ⟨#[]⟩, .string ⟨#[]⟩, .slice none 0 0]
theorem in_x (W : World) (B : Nat) : EIn W B nmX [.int .i64 5, .int .i64 0, .string ⟨#[120]⟩, .string ⟨#[]⟩, .slice none 0 0] := EIn.of_form none 0 ⟨by decide, by decide⟩ (fun k hk => by simp at hk)
theorem in_z (W : World) (B : Nat) : EIn W B nmZ [.int .i64 1, .int .i64 0, .string ⟨#[]⟩, .string ⟨#[]⟩, .slice none 0 0] := EIn.of_form none 0 ⟨by decide, by decide⟩ (fun k hk => by simp at hk)
theorem in_lt {W : World} {B g : Nat} {T : TypeId} (hg : g < B) (h : W.heap[g]? = some (.cells xzCells T (0, 0))) : EIn W B (.mk 9 8 ⟨#[]⟩ ⟨#[]⟩ [nmX, nmZ]) [.int .i64 9, .int .i64 8, .string ⟨#[]⟩, .string ⟨#[]⟩, .slice (some ⟨g, 0, none⟩) 2 2] :=
  EIn.of_form (some ⟨g, 0, none⟩) 2 ⟨by decide, by decide⟩ (row_of_block hg h _ 5 rfl (fun k hk => by
    match k, hk with
    | 0, _ => exact in_x W B
    | 1, _ => exact in_z W B))
theorem in_not {W : World} {B g : Nat} {T : TypeId} (hg : g < B) (h : W.heap[g]? = some (.cells xCells T (0, 0))) : EIn W B (.mk 8 0 ⟨#[]⟩ ⟨#[]⟩ [nmX]) [.int .i64 8, .int .i64 0, .string ⟨#[]⟩, .string ⟨#[]⟩, .slice (some ⟨g, 0, none⟩) 1 1] :=
  EIn.of_form (some ⟨g, 0, none⟩) 1 ⟨by decide, by decide⟩ (row_of_block hg h _ 5 rfl (fun k hk => by
    match k, hk with
    | 0, _ => exact in_x W B))
theorem one_I64 : I64 0 := ⟨by decide, by decide⟩
theorem one_len : (fieldsT oneL 0).length ≤ 1000000000 := by rw [one_fields]; decide
/-- x < 0 at one's body. -/
theorem lt_any (W : World) (q g : Nat) {T : TypeId} (hr : DsR W W.heap.size (some ⟨q, 0, none⟩) oneL) (hg : W.heap[g]? = some (.cells xzCells T (0, 0))) :
    Calls Try.prog 39 #[.agg #[.slice (some ⟨q, 0, none⟩) 1 1], .agg #[.int .i64 0, .int .i64 (-1)], .agg #[.int .i64 9, .int .i64 8, .string ⟨#[]⟩, .string ⟨#[]⟩, .slice (some ⟨g, 0, none⟩) 2 2]] W fun e w' => e = .returned (tc (plainT 2, 0)) ∧ Hid (Below W.heap.size W w') := by
  have := Expr_body oneL (some ⟨q, 0, none⟩) 1 0 (-1) 9 8 ⟨#[]⟩ ⟨#[]⟩ [nmX, nmZ] (some ⟨g, 0, none⟩) 2 (plainT 2, 0) W hr one_fit one_I64 one_nomethod one_body one_len (in_lt (Array.getElem?_eq_some_iff.1 hg).1 hg) (fun p N sb vb => by
    have h := exc_bin (bodyCX oneL (some ⟨q, 0, none⟩) 1 0 (-1) p N sb vb) (tyE (fieldsT oneL 0)) 8 ⟨#[]⟩ ⟨#[]⟩ [nmX, nmZ] rfl (fun k hk => by
      match k, hk with
      | 0, _ => exact exc_leaf _ 5 0 _ _ (by decide)
      | 1, _ => exact exc_leaf _ 1 0 _ _ (by decide))
    rw [val_lt] at h
    exact h)
  exact this
/-- NOT x at one's body. -/
theorem not_any7 (W : World) (q g : Nat) {T : TypeId} (hr : DsR W W.heap.size (some ⟨q, 0, none⟩) oneL) (hg : W.heap[g]? = some (.cells xCells T (0, 0))) :
    Calls Try.prog 39 #[.agg #[.slice (some ⟨q, 0, none⟩) 1 1], .agg #[.int .i64 0, .int .i64 (-1)], .agg #[.int .i64 8, .int .i64 0, .string ⟨#[]⟩, .string ⟨#[]⟩, .slice (some ⟨g, 0, none⟩) 1 1]] W fun e w' => e = .returned (tc (Y0, 14)) ∧ Hid (Below W.heap.size W w') := by
  have := Expr_body oneL (some ⟨q, 0, none⟩) 1 0 (-1) 8 0 ⟨#[]⟩ ⟨#[]⟩ [nmX] (some ⟨g, 0, none⟩) 1 (Y0, 14) W hr one_fit one_I64 one_nomethod one_body one_len (in_not (Array.getElem?_eq_some_iff.1 hg).1 hg) (fun p N sb vb => by
    have h := exc_not (bodyCX oneL (some ⟨q, 0, none⟩) 1 0 (-1) p N sb vb) (tyE (fieldsT oneL 0) nmX) 0 ⟨#[]⟩ ⟨#[]⟩ nmX (exc_leaf _ 5 0 _ _ (by decide))
    rw [val_not] at h
    exact h)
  exact this
abbrev exCells : Array Value := #[.int .i64 10, .int .i64 0, .string ⟨#[]⟩, .slice none 0 0, .slice none 0 0, .slice none 0 0]
/-- an EXIT at one's body. -/
theorem ex_any7 (W : World) (q g : Nat) {T : TypeId} (hr : DsR W W.heap.size (some ⟨q, 0, none⟩) oneL) (hg : W.heap[g]? = some (.cells exCells T (0, 0))) :
    Calls Try.prog 38 #[.agg #[.slice (some ⟨q, 0, none⟩) 1 1], .agg #[.int .i64 0, .int .i64 (-1)], .slice (some ⟨g, 0, none⟩) 1 1] W fun e w' => e = .returned (.int .i64 14) ∧ Hid (Below W.heap.size W w') := by
  have hs : SsR W W.heap.size (some ⟨g, 0, none⟩) [.mk 10 0 ⟨#[]⟩ [] [] []] := row_of_block (Array.getElem?_eq_some_iff.1 hg).1 hg _ 6 rfl (fun k hk => by
    match k, hk with
    | 0, _ =>
      show SIn W W.heap.size (.mk 10 0 ⟨#[]⟩ [] [] []) _
      rw [SIn]
      exact ⟨none, 0, none, 0, none, 0, rfl, one_I64, fun k hk => by simp at hk, fun k hk => by simp at hk, by rw [BsIn]; trivial⟩)
  have := Stmts_body oneL (some ⟨q, 0, none⟩) 1 0 (-1) (fun _ => 14) [.mk 10 0 ⟨#[]⟩ [] [] []] (some ⟨g, 0, none⟩) 1 W hr one_fit one_I64 one_nomethod one_body one_len hs (by simp) (fun p N sb vb k hk => by
    match k, hk with
    | 0, _ => exact stmt_exit _ false 0 ⟨#[]⟩)
  exact this
/-- the variables that are seen at one's body. -/
theorem vis_any7 (W : World) (q : Nat) (hr : DsR W W.heap.size (some ⟨q, 0, none⟩) oneL) :
    Calls Try.prog 59 #[.agg #[.slice (some ⟨q, 0, none⟩) 1 1], .agg #[.int .i64 0, .int .i64 (-1)]] W fun e w' => ∃ A c, e = .returned (.slice A 1 c) ∧ Hid (Below W.heap.size W w') :=
  (Visible_body oneL (some ⟨q, 0, none⟩) 1 0 (-1) W hr one_fit one_I64 one_nomethod).mono fun e w' ⟨A, c, h1, _, h3⟩ => by
    have hv : visT oneL 0 (-1) = [oneV] := by unfold visT; rw [one_nomethod, one_body, one_fields]; rfl
    rw [hv] at h1
    exact ⟨A, c, h1, h3⟩
end Go.Proofs.Ytmbddofcildibaa
