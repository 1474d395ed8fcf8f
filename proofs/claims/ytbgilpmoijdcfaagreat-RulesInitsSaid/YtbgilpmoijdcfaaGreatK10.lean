/-
  typing: types of expressions, one behind the other, BY CONTRACTS.
-/
import Derived.Test.YtbgilpmoijdcfaaGreatK8
import Derived.Laws.MakeOwn
import Derived.Deep.OwnRows
import Derived.Test.YtbgilpmoijdcfaaGreatK9
import Derived.Test.YtbgilpmoijdcfaaGreatK6
import Derived.Laws.EntriesVeiled
import Derived.StillTailTactics
namespace Go.Proofs.YtbgilpmoijdcfaaGreat
open Go Go.RowKit
set_option linter.unusedVariables false
set_option linter.unusedSimpArgs false

/-- the types of expressions, or the code of the first that has one. -/
def exprsR (R : ET → YT × Int) : List ET → List YT × Int
  | [] => ([], 0)
  | e :: r => if (R e).2 = 0 then (if (exprsR R r).2 = 0 then ((R e).1 :: (exprsR R r).1, 0) else ([], (exprsR R r).2)) else ([], (R e).2)
theorem exprsR_bad {R : ET → YT × Int} : ∀ {l : List ET}, (exprsR R l).2 ≠ 0 → (exprsR R l).1 = []
  | [], h => rfl
  | e :: r, h => by
    unfold exprsR at h ⊢
    by_cases h1 : (R e).2 = 0
    · rw [if_pos h1] at h ⊢
      by_cases h2 : (exprsR R r).2 = 0
      · rw [if_pos h2] at h; exact absurd rfl h
      · rw [if_neg h2]
    · rw [if_neg h1]
/-- the first k are fine, the rest decides. -/
theorem exprsR_drop {R : ET → YT × Int} {l : List ET} : ∀ {k : Nat}, k ≤ l.length → (∀ j (hj : j < l.length), j < k → (R l[j]).2 = 0) →
    exprsR R l = if (exprsR R (l.drop k)).2 = 0 then ((l.take k).map (fun e => (R e).1) ++ (exprsR R (l.drop k)).1, 0) else ([], (exprsR R (l.drop k)).2) := by
  induction l with
  | nil => intro k hk hf; simp [exprsR]
  | cons e r ih =>
    intro k hk hf
    cases k with
    | zero =>
      simp only [List.drop_zero, List.take_zero, List.map_nil, List.nil_append]
      by_cases h : (exprsR R (e :: r)).2 = 0
      · rw [if_pos h]
        exact Prod.ext rfl h
      · rw [if_neg h]
        exact Prod.ext (exprsR_bad h) rfl
    | succ k =>
      have h0 := hf 0 (by simp) (by omega)
      simp only [List.getElem_cons_zero] at h0
      have ih2 := ih (k := k) (by simpa using hk) (fun j hj hjk => hf (j + 1) (by simp; exact hj) (by omega))
      simp only [List.drop_succ_cons, List.take_succ_cons, List.map_cons, List.cons_append]
      rw [exprsR, if_pos h0, ih2]
      by_cases h : (exprsR R (r.drop k)).2 = 0
      · simp [h]
      · simp [h]
/-- an expression's type by a contract. -/
def EXC (K : CX) (e : ET) (r : YT × Int) : Prop := ∀ (I : IX) (w : World) (cs : List Value), SAt K w I → EIn w K.N e cs → Calls Tryz.prog 122 #[.pointer (some ⟨K.sb, 0, none⟩), .agg cs.toArray] w (SRet K w I (tc r))
/-- types' cells. -/
def tcell (ts : List YT) (j : Nat) : Value := (ycells (ts.getD (j / 4) Y0)).toList.getD (j % 4) default
/-- a row of types of one's own. -/
structure TsAt (p : Nat) (W : World) (I : IX) (lo : Nat) (A : Option Addr) (ts : List YT) : Prop where
  at_ : ts ≠ [] → ∃ tb, A = some ⟨tb, 0, none⟩ ∧ lo ≤ tb ∧ ¬ I.has p tb ∧ W.rowIs tb 38 (4 * ts.length) (tcell ts)
def TRet (K : CX) (W : World) (I : IX) (r : List YT × Int) (e : Ending) (w' : World) : Prop := ∃ I' A' c', e = .returned (.tuple #[.slice A' r.1.length c', .int .i64 r.2]) ∧ Hid (SAt K w' I') ∧ Hid (XTo K.p W I w' I') ∧ Hid (TsAt K.p w' I' W.heap.size A' r.1)
theorem Tryz.infoType : (Tryz.prog.info? 38).map (fun i => (i.zero, i.size, i.bytes)) = some (some (.agg y0cells), 4, 40) := by kernel_rfl
theorem Tryz.underTypes : Tryz.prog.underlying 39 = some (.slice 38) := by kernel_rfl
/-- what is made for types: a row of none. -/
theorem made_types (W : World) (n : Nat) (hn : n ≤ 1000000000) :
    ∃ ms : Array Value, (Instr.makeSlice 39 (.int .i64 (n : Int)) (.int .i64 (n : Int))).run Tryz.prog W = .ok (.slice (some ⟨W.heap.size, 0, none⟩) n n) (W.alloc (.cells ms 38)) ∧
      (W.alloc (.cells ms 38)).rowIs W.heap.size 38 (4 * n) (tcell (List.replicate n Y0)) := by
  have h := Tryz.infoType
  cases hi : Tryz.prog.info? 38 with
  | none => rw [hi] at h; simp at h
  | some i =>
    rw [hi] at h
    simp only [Option.map_some, Option.some.injEq, Prod.mk.injEq] at h
    obtain ⟨hz, h4, hby⟩ := h
    have hm := run_make (P := Tryz.prog) W 39 38 i (.agg y0cells) Tryz.underTypes hi hz .i64 .i64 n n (by omega) (Int.le_refl _) (by rw [hby]; omega) (by omega)
    rw [h4] at hm
    simp only [Int.toNat_natCast] at hm
    refine ⟨madeCells (Value.agg y0cells).cells (n * 4), hm, ?_⟩
    have hsz : (madeCells (Value.agg y0cells).cells (n * 4)).size = 4 * n := by rw [size_madeCells]; omega
    rw [← hsz]
    refine World.rowIs_alloc W _ _ _ (fun j hj => ?_)
    rw [hsz] at hj
    rw [Array.getElem?_eq_getElem (by rw [hsz]; exact hj)]
    have hlt : j / 4 < n := by omega
    have hm4 : j % 4 < 4 := Nat.mod_lt _ (by decide)
    have hg : (List.replicate n Y0).getD (j / 4) Y0 = Y0 := by simp [List.getD_eq_getElem?_getD, hlt]
    have h3 : j % 4 = 0 ∨ j % 4 = 1 ∨ j % 4 = 2 ∨ j % 4 = 3 := by omega
    simp only [madeCells, tcell, Value.cells, hg]
    rcases h3 with h3 | h3 | h3 | h3 <;> simp [h3, Y0]

theorem SAt.low {K : CX} {w W : World} {I J : IX} (h : SAt K w I) (ht : XTo K.p w I W J) : Below K.N w W := XFr.toBelow h.ix ht (Nat.le_of_lt h.ix.lt)
theorem tcell_set (ts : List YT) (k : Nat) (hk : k < ts.length) (t : YT) (j : Nat) : tcell (ts.set k t) j = if k * 4 ≤ j ∧ j < k * 4 + 4 then (ycells t).toList.getD (j - k * 4) default else tcell ts j := by
  unfold tcell
  by_cases h : k * 4 ≤ j ∧ j < k * 4 + 4
  · rw [if_pos h, show j / 4 = k by omega, show j % 4 = j - k * 4 by omega]
    simp [List.getD_eq_getElem?_getD, hk]
  · rw [if_neg h]
    have : ¬ k = j / 4 := by omega
    simp [List.getD_eq_getElem?_getD, List.getElem?_set, this]
/-- a type is stored at a place of a row of types. -/
theorem row_put {W : World} {tb : Nat} {ts : List YT} {n k : Nat} (hn : ts.length = n) (h : W.rowIs tb 38 (4 * n) (tcell ts)) (hk : k < n) (t : YT) :
    ((((W.setCell ⟨tb, k * 4, none⟩ (.int .i64 t.kind)).setCell ⟨tb, k * 4 + 1, none⟩ (.int .i64 t.lo)).setCell ⟨tb, k * 4 + 2, none⟩ (.int .i64 t.hi)).setCell ⟨tb, k * 4 + 3, none⟩ (.string t.name)).rowIs tb 38 (4 * n) (tcell (ts.set k t)) := by
  refine ((((h.set _ _).set _ _).set _ _).set _ _).congr (fun j hj => ?_)
  rw [tcell_set ts k (by omega)]
  by_cases h3 : j = k * 4 + 3
  · subst h3; simp
  · by_cases h2 : j = k * 4 + 2
    · subst h2; simp
    · by_cases h1 : j = k * 4 + 1
      · subst h1; simp
      · by_cases h0 : j = k * 4
        · subst h0; simp
        · rw [if_neg h3, if_neg h2, if_neg h1, if_neg h0, if_neg (by omega)]
theorem below_put {B : Nat} {w W : World} (h : Below B w W) {tb o0 o1 o2 o3 : Nat} (hg : B ≤ tb) (a0 a1 a2 a3 : Value) : Below B w ((((W.setCell ⟨tb, o0, none⟩ a0).setCell ⟨tb, o1, none⟩ a1).setCell ⟨tb, o2, none⟩ a2).setCell ⟨tb, o3, none⟩ a3) := (((h.setCell (p := ⟨tb, o0, none⟩) hg _).setCell (p := ⟨tb, o1, none⟩) hg _).setCell (p := ⟨tb, o2, none⟩) hg _).setCell (p := ⟨tb, o3, none⟩) hg _
/-- a block of one's own is written: the scope stands. -/
theorem SAt.own {K : CX} {w W W' : World} {I J : IX} (h : SAt K W J) (ht : XTo K.p w I W J) (hb : Below w.heap.size W W') (hq : ∀ g, J.has K.p g ∨ g = K.sb ∨ g = K.vb ∨ g < K.N → W'.heap[g]? = W.heap[g]?) : SAt K W' J ∧ XTo K.p w I W' J := by
  refine ⟨⟨h.ix.stay hb.size (fun g hg => hq g (by rcases hg with hg | hg; exact .inr (.inr (.inr hg)); exact .inl hg)), (hq _ (.inr (.inl rfl))).trans h.box, h.map.stay (hq _ (.inr (.inr (.inl rfl)))), h.ns, h.nv⟩, XFr.quiet ht hb⟩
theorem heap_put {W : World} {tb o0 o1 o2 o3 g : Nat} (hg : g ≠ tb) (a0 a1 a2 a3 : Value) : ((((W.setCell ⟨tb, o0, none⟩ a0).setCell ⟨tb, o1, none⟩ a1).setCell ⟨tb, o2, none⟩ a2).setCell ⟨tb, o3, none⟩ a3).heap[g]? = W.heap[g]? := by
  rw [Below.heap_setCell _ _ _ _ hg, Below.heap_setCell _ _ _ _ hg, Below.heap_setCell _ _ _ _ hg, Below.heap_setCell _ _ _ _ hg]
set_option maxHeartbeats 4000000 in
set_option maxRecDepth 100000 in
theorem exprs_any (K : CX) (R : ET → YT × Int) (l : List ET) (A : Option Addr) (c : Nat) (I : IX) (w : World) (h : SAt K w I) (hl : EsR w K.N A l) (hlen : l.length ≤ 1000000000) (hE : ∀ (k : Nat) (hk : k < l.length), EXC K l[k] (R l[k])) :
    Calls Tryz.prog 120 #[.pointer (some ⟨K.sb, 0, none⟩), .slice A l.length c] w (TRet K w I (exprsR R l)) := by
  obtain ⟨r, hr⟩ : ∃ r, r = exprsR R l := ⟨_, rfl⟩
  rw [← hr]
  have HRS := Lib.hid hr
  clear hr
  obtain ⟨ms, hmk, hrow⟩ := made_types w l.length hlen
  obtain ⟨R0, hR0⟩ : ∃ R0, R0 = w.alloc (.cells ms 38) := ⟨_, rfl⟩
  rw [← hR0] at hrow
  have hb0 : Below w.heap.size w R0 := by rw [hR0]; exact far1 _ _
  have H0 := Lib.hid (h.below hb0)
  have T0 : Hid (XTo K.p w I R0 I) := XTo.of_below hb0
  have NH : Hid (¬ I.has K.p w.heap.size) := fun hh => by have := (h.ix.far _ hh).2; omega
  have HW := Lib.hid hrow
  have HL : Hid (∀ W J, XTo K.p w I W J → EsR W K.N A l) := fun W J ht => RowIn.mono (Nat.le_refl _) (fun g hg => (h.low ht).block g hg) (fun k hk cs hc => EIn.mono (Nat.le_refl _) (fun g hg => (h.low ht).block g hg) hc) hl
  have hNw : K.N ≤ w.heap.size := Nat.le_of_lt h.ix.lt
  have hsw : K.sb < w.heap.size := h.sb
  have hvw : K.vb < w.heap.size := h.map.lt
  have HE := Lib.hid hE
  have HR0 := Lib.hid hR0
  clear h hrow hb0 hl hE hR0
  unfold TRet
  go_enter Tryz.func120, Tryz.ntmps120
  go_wp2_with fail
  rw [← HR0.out]
  go_loopw [16] (fun i wr => ∃ (k : Nat) (J : IX), k ≤ l.length ∧ i = .int .i64 k ∧ Hid (∀ j (hj : j < l.length), j < k → (R l[j]).2 = 0) ∧ Hid (SAt K wr J) ∧ Hid (XTo K.p w I wr J) ∧ Hid (¬ J.has K.p w.heap.size) ∧ Hid (wr.rowIs w.heap.size 38 (4 * l.length) (tcell ((l.take k).map (fun e => (R e).1) ++ List.replicate (l.length - k) Y0)))) (fun i _ => l.length - (intOf i).toNat)
  case atStart => exact ⟨0, I, Nat.zero_le _, rfl, fun j hj h => by omega, H0, T0, NH, by simpa using HW⟩
  case round =>
    obtain ⟨k, J, hk, rfl, hf, hs, ht, hn, hrow⟩ := hrel
    have z0 : (0 : Int) ≤ (k : Int) := by omega
    by_cases hlt : k < l.length
    · have z1 : (k : Int) < (l.length : Int) := by omega
      obtain ⟨g, o, cs, hA, hgN, hcl, hcs, hEI⟩ := HL.out _ _ ht.out k hlt
      subst hA
      obtain ⟨e, he⟩ : ∃ e, e = l[k] := ⟨_, rfl⟩
      have hEk := HE.out k hlt
      rw [← he] at hEI hEk
      have HEe := Lib.hid he
      obtain ⟨ek, en, em, ew, ea⟩ := e
      obtain ⟨EA, ec, hcs2, hen, hea⟩ := hEI.form
      subst hcs2
      have u0 := hcs 0 _ rfl
      have u1 := hcs 1 _ rfl
      have u2 := hcs 2 _ rfl
      have u3 := hcs 3 _ rfl
      have u4' := hcs 4 _ rfl
      rw [Nat.add_zero] at u0
      obtain ⟨R2, hR2⟩ : ∃ R2, R2 = wr.alloc (.cells #[.int .i64 ek, .int .i64 en, .string em, .string ew, .slice EA ea.length ec] 158) := ⟨_, rfl⟩
      have hb2 : Below wr.heap.size wr R2 := by rw [hR2]; exact far1 _ _
      have hx0 : R2.heap[wr.heap.size]? = some (.cells #[.int .i64 ek, .int .i64 en, .string em, .string ew, .slice EA ea.length ec] 158 (0, 0)) := by rw [hR2]; exact new1 _ _ _
      have y0 : R2.cell? ⟨wr.heap.size, 0, none⟩ = some (.int .i64 ek) := (cell_of_row _ _ 0 _ _ _ hx0).trans rfl
      have y1 : R2.cell? ⟨wr.heap.size, 1, none⟩ = some (.int .i64 en) := (cell_of_row _ _ 1 _ _ _ hx0).trans rfl
      have y2 : R2.cell? ⟨wr.heap.size, 2, none⟩ = some (.string em) := (cell_of_row _ _ 2 _ _ _ hx0).trans rfl
      have y3 : R2.cell? ⟨wr.heap.size, 3, none⟩ = some (.string ew) := (cell_of_row _ _ 3 _ _ _ hx0).trans rfl
      have y4 : R2.cell? ⟨wr.heap.size, 4, none⟩ = some (.slice EA ea.length ec) := (cell_of_row _ _ 4 _ _ _ hx0).trans rfl
      obtain ⟨rk, hrk⟩ : ∃ r, r = R (ET.mk ek en em ew ea) := ⟨_, rfl⟩
      have hs2 := hs.out.below hb2
      have ht2 : XTo K.p w I R2 J := ht.out.trans (XTo.of_below hb2)
      have KE : Hid (Calls Tryz.prog 122 #[.pointer (some ⟨K.sb, 0, none⟩), .agg #[.int .i64 ek, .int .i64 en, .string em, .string ew, .slice EA ea.length ec]] R2 (SRet K R2 J (tc rk))) := hrk ▸ hEk J R2 _ hs2 (EIn.mono (Nat.le_refl _) (fun q hq => hb2.block q (by have := hs.out.ix.lt; omega)) hEI)
      have HR2 := Lib.hid hR2
      have HT2 := Lib.hid ht2
      have HRK := Lib.hid hrk
      have hn2 : R2.heap.size = wr.heap.size + 1 := by rw [hR2]; simp
      have hrow2 : Hid (R2.rowIs w.heap.size 38 (4 * l.length) (tcell ((l.take k).map (fun e => (R e).1) ++ List.replicate (l.length - k) Y0))) := by rw [hR2]; exact hrow.out.alloc _
      unfold SRet at KE
      unfold tc at KE
      clear hs ht hs2 ht2 hcs hEI hea hx0 hEk hrk hb2 he hcl hrow
      rw [hR2] at y0 y1 y2 y3 y4
      clear hR2
      go_wp2_with fail
      rw [← HR2.out] at y0 y1 y2 y3 y4 ⊢
      refine KE.out.mono ?_
      rintro e1 w1 ⟨J1, rfl, hs1, ht1⟩
      have hrow3 : Hid (w1.rowIs w.heap.size 38 (4 * l.length) (tcell ((l.take k).map (fun e => (R e).1) ++ List.replicate (l.length - k) Y0))) := hrow2.out.of_block (ht1.out.block _ hrow2.out.lt hn.out)
      have hn3 : Hid (¬ J1.has K.p w.heap.size) := ht1.out.none hrow2.out.lt hn.out
      have HT3 : Hid (XTo K.p w I w1 J1) := HT2.out.trans ht1.out
      clear y0 y1 y2 y3 y4 u0 u1 u2 u3 u4' hrow2 KE
      obtain ⟨⟨tk, tl, th, tn⟩, cd⟩ := rk
      by_cases hcd : cd = 0
      · subst hcd
        obtain ⟨R4, hR4⟩ : ∃ R4, R4 = w1.alloc (.cells #[.int .i64 tk, .int .i64 tl, .int .i64 th, .string tn] 38) := ⟨_, rfl⟩
        have hrow4 : R4.rowIs w.heap.size 38 (4 * l.length) (tcell ((l.take k).map (fun e => (R e).1) ++ List.replicate (l.length - k) Y0)) := by rw [hR4]; exact hrow3.out.alloc _
        have p0 := hrow4.cell (i := k * 4) (by omega)
        have p1 := hrow4.cell (i := k * 4 + 1) (by omega)
        have p2 := hrow4.cell (i := k * 4 + 2) (by omega)
        have p3 := hrow4.cell (i := k * 4 + 3) (by omega)
        have f0 := hrow4.frozen (k * 4)
        have f1 := hrow4.frozen (k * 4 + 1)
        have f2 := hrow4.frozen (k * 4 + 2)
        have f3 := hrow4.frozen (k * 4 + 3)
        have HR4 : Hid (w1.heap.size + 1 = R4.heap.size ∧ Below w1.heap.size w1 R4) := by rw [hR4]; exact ⟨by simp, far1 _ _⟩
        have HROW4 := Lib.hid hrow4
        have HE4 := Lib.hid hR4
        rw [hR4] at p0 p1 p2 p3 f0 f1 f2 f3
        clear hrow4 hR4
        go_wp2_with fail
        rw [← HE4.out]
        clear p0 p1 p2 p3 f0 f1 f2 f3
        have hlm : ((l.take k).map (fun e => (R e).1) ++ List.replicate (l.length - k) Y0).length = l.length := by simp; omega
        have hrow5 := row_put hlm HROW4.out hlt ⟨tk, tl, th, tn⟩
        have hset : ((l.take k).map (fun e => (R e).1) ++ List.replicate (l.length - k) Y0).set k ⟨tk, tl, th, tn⟩ = (l.take (k + 1)).map (fun e => (R e).1) ++ List.replicate (l.length - (k + 1)) Y0 := by
          have hlk : ((l.take k).map (fun e => (R e).1)).length = k := by simp; omega
          rw [List.set_append, if_neg (by omega), hlk, Nat.sub_self, show l.length - k = (l.length - (k + 1)) + 1 by omega, List.replicate_succ, List.set_cons_zero, List.take_add_one, List.getElem?_eq_getElem hlt, ← HEe.out]
          have := congrArg Prod.fst HRK.out
          simp at this
          simp [← this]
        rw [hset] at hrow5
        have hbw : Below w1.heap.size w1 R4 := HR4.out.2
        obtain ⟨W5, hW5⟩ : ∃ W5, W5 = ((((R4.setCell ⟨w.heap.size, k * 4, none⟩ (.int .i64 tk)).setCell ⟨w.heap.size, k * 4 + 1, none⟩ (.int .i64 tl)).setCell ⟨w.heap.size, k * 4 + 2, none⟩ (.int .i64 th)).setCell ⟨w.heap.size, k * 4 + 3, none⟩ (.string tn)) := ⟨_, rfl⟩
        have hown := hs1.out.own HT3.out (W' := W5) (by rw [hW5]; exact below_put (hbw.mono (by have := HT3.out.size; omega)) (Nat.le_refl _) _ _ _ _) (fun q hq => by
          have hqn : q ≠ w.heap.size := by
            rcases hq with hq | hq | hq | hq
            · exact fun e => hn3.out (e ▸ hq)
            · omega
            · omega
            · omega
          rw [hW5, heap_put hqn]
          refine hbw.block q ?_
          have := HT3.out.size
          rcases hq with hq | hq | hq | hq
          · exact (hs1.out.ix.far q hq).2
          · omega
          · omega
          · omega)
        rw [← hW5] at hrow5 ⊢
        have HS5 := Lib.hid hown.1
        have HT5 := Lib.hid hown.2
        have HROW5 := Lib.hid hrow5
        have hf2 : Hid (∀ j (hj : j < l.length), j < k + 1 → (R l[j]).2 = 0) := fun j hj h => by
          rcases Nat.lt_or_ge j k with h3 | h3
          · exact hf.out j hj h3
          · obtain rfl : j = k := by omega
            rw [← HEe.out, ← HRK.out]
        clear hset hown hrow5 hW5 hbw
        go_roundw
        case rel => exact ⟨k + 1, J1, by omega, by go_num, hf2, HS5, HT5, hn3, HROW5⟩
        case measure => simp [intOf]; omega
      · have hcb := eq_no hcd
        have hz : Hid (r = ([], cd)) := by
          unfold Hid
          rw [HRS.out, exprsR_drop (k := k) (by omega) hf.out, List.drop_eq_getElem_cons hlt, exprsR, ← HEe.out, ← HRK.out]
          simp [hcd]
        have HS6 := Lib.hid (hs1.out.below (far1 w1 (.cells #[.int .i64 tk, .int .i64 tl, .int .i64 th, .string tn] 38)))
        have HT6 : Hid (XTo K.p w I (w1.alloc (.cells #[.int .i64 tk, .int .i64 tl, .int .i64 th, .string tn] 38)) J1) := HT3.out.trans (XTo.of_below (far1 _ _))
        have hT : Hid (TsAt K.p (w1.alloc (.cells #[.int .i64 tk, .int .i64 tl, .int .i64 th, .string tn] 38)) J1 w.heap.size none r.1) := by rw [hz.out]; exact ⟨fun h => absurd rfl h⟩
        go_wp2_with fail
        go_ret2
        exact ⟨J1, none, 0, by rw [hz.out]; rfl, HS6, HT6, hT⟩
    · obtain rfl : k = l.length := by omega
      have hz : Hid (r = (l.map (fun e => (R e).1), 0)) := by
        unfold Hid
        rw [HRS.out, exprsR_drop (k := l.length) (Nat.le_refl _) hf.out]
        simp [exprsR]
      have hrow2 := hrow.out
      rw [List.take_length, Nat.sub_self, List.replicate_zero, List.append_nil] at hrow2
      have hT : Hid (TsAt K.p wr J w.heap.size (some ⟨w.heap.size, 0, none⟩) r.1) := by
        rw [hz.out]
        exact ⟨fun _ => ⟨w.heap.size, rfl, Nat.le_refl _, hn.out, by simpa using hrow2⟩⟩
      have hml : Hid (r.1.length = l.length ∧ r.2 = 0) := by unfold Hid; rw [hz.out]; simp
      clear hrow2
      go_wp2_with fail
      go_ret2
      exact ⟨J, _, _, by rw [hml.out.1, hml.out.2]; rfl, hs, ht, hT⟩
end Go.Proofs.YtbgilpmoijdcfaaGreat

/-
  typing: expressions of kinds that are wanted; what an operator makes of two, BY CONTRACTS.
-/
namespace Go.Proofs.YtbgilpmoijdcfaaGreat
open Go Go.RowKit
set_option linter.unusedVariables false
set_option linter.unusedSimpArgs false

/-- the code of expressions, each of which must be of its kind. -/
def wantT (r : List YT × Int) (ks : List Int) : Int := if r.2 = 0 then (if ∀ i (hi : i < ks.length), (r.1.getD i Y0).kind = ks[i] then 0 else 14) else r.2
theorem TsAt.kind {p : Nat} {W : World} {I : IX} {lo : Nat} {A : Option Addr} {ts : List YT} (h : TsAt p W I lo A ts) {k : Nat} (hk : k < ts.length) : ∃ tb, A = some ⟨tb, 0, none⟩ ∧ W.cell? ⟨tb, k * 4, none⟩ = some (.int .i64 ts[k].kind) := by
  obtain ⟨tb, h1, -, -, h2⟩ := h.at_ (fun e => by rw [e] at hk; simp at hk)
  refine ⟨tb, h1, ?_⟩
  rw [h2.cell (i := k * 4) (by omega)]
  unfold tcell
  rw [show k * 4 / 4 = k by omega, show k * 4 % 4 = 0 by omega, show ts.getD k Y0 = ts[k] by simp [List.getD_eq_getElem?_getD, hk]]
  rfl
theorem exprsR_len {R : ET → YT × Int} : ∀ {q : List ET}, (exprsR R q).2 = 0 → (exprsR R q).1.length = q.length
  | [], _ => rfl
  | e :: q, hq => by
    unfold exprsR at hq ⊢
    by_cases h1 : (R e).2 = 0
    · rw [if_pos h1] at hq ⊢
      by_cases h2 : (exprsR R q).2 = 0
      · rw [if_pos h2]
        simp [exprsR_len h2]
      · rw [if_neg h2] at hq
        exact absurd hq h2
    · rw [if_neg h1] at hq
      exact absurd hq h1
set_option maxHeartbeats 4000000 in
set_option maxRecDepth 100000 in
theorem want_any (K : CX) (R : ET → YT × Int) (l : List ET) (ks : List Int) (A A2 : Option Addr) (c c2 : Nat) (I : IX) (w : World) (h : SAt K w I) (hl : EsR w K.N A l) (hlen : l.length ≤ 1000000000) (hE : ∀ (k : Nat) (hk : k < l.length), EXC K l[k] (R l[k]))
    (hkl : ks.length ≤ l.length) (hks : ∀ W J, XTo K.p w I W J → NsR W W.heap.size A2 ks) :
    Calls Tryz.prog 109 #[.pointer (some ⟨K.sb, 0, none⟩), .slice A l.length c, .slice A2 ks.length c2] w (SRet K w I (.int .i64 (wantT (exprsR R l) ks))) := by
  have KX := Lib.hid (exprs_any K R l A c I w h hl hlen hE)
  obtain ⟨r, hr⟩ : ∃ r, r = exprsR R l := ⟨_, rfl⟩
  have hrl : r.2 = 0 → r.1.length = l.length := fun e => by rw [hr]; exact exprsR_len (hr ▸ e)
  rw [← hr] at KX ⊢
  obtain ⟨q, hq⟩ : ∃ q, q = wantT r ks := ⟨_, rfl⟩
  rw [← hq]
  unfold wantT at hq
  have HQ := Lib.hid hq
  have HKS := Lib.hid hks
  unfold TRet at KX
  unfold SRet
  clear hr h hl hE hq hks
  go_enter Tryz.func109, Tryz.ntmps109
  go_wp2_with fail
  refine KX.out.mono ?_
  rintro e1 w1 ⟨I1, A1, c1, rfl, hs1, ht1, hT1⟩
  obtain ⟨ts, cd⟩ := r
  simp only at hrl HQ hT1
  by_cases hcd : cd = 0
  · subst hcd
    have hz : Hid (q = if ∀ i (hi : i < ks.length), (ts.getD i Y0).kind = ks[i] then 0 else 14) := by have := HQ.out; rw [if_pos rfl] at this; exact this
    have htl := hrl rfl
    clear HQ
    go_wp2_with fail
    go_loopw [22] (fun i wr => ∃ k : Nat, k ≤ ks.length ∧ i = .int .i64 k ∧ wr = w1 ∧ Hid (∀ j (hj : j < ks.length), j < k → (ts.getD j Y0).kind = ks[j])) (fun i _ => ks.length - (intOf i).toNat)
    case atStart => exact ⟨0, Nat.zero_le _, rfl, rfl, fun j hj h => by omega⟩
    case round =>
      obtain ⟨k, hk, rfl, rfl, hf⟩ := hrel
      have z0 : (0 : Int) ≤ (k : Int) := by omega
      by_cases hlt : k < ks.length
      · have z1 : (k : Int) < (ks.length : Int) := by omega
        have z2 : (k : Int) < (ts.length : Int) := by omega
        obtain ⟨g, o, cs, hA, hgN, hcl, hcs, hEI, hI⟩ := HKS.out _ _ ht1.out k hlt
        subst hA
        subst hEI
        have u0 := hcs 0 _ rfl
        rw [Nat.mul_one, Nat.add_zero] at u0
        obtain ⟨tb, hA1, ukd⟩ := hT1.out.kind (show k < ts.length by omega)
        subst hA1
        have hgd : ts.getD k Y0 = ts[k] := by simp [List.getD_eq_getElem?_getD, show k < ts.length by omega]
        obtain ⟨tk, htk⟩ : ∃ x, x = ts[k].kind := ⟨_, rfl⟩
        obtain ⟨kk, hkk⟩ : ∃ x, x = ks[k] := ⟨_, rfl⟩
        rw [← htk] at ukd
        rw [← hkk] at u0
        have HGD := Lib.hid hgd
        have HTK := Lib.hid htk
        have HKK := Lib.hid hkk
        clear hcs hI hgd htk hkk
        by_cases heq : tk = kk
        · have hf2 : Hid (∀ j (hj : j < ks.length), j < k + 1 → (ts.getD j Y0).kind = ks[j]) := fun j hj h => by
            rcases Nat.lt_or_ge j k with h3 | h3
            · exact hf.out j hj h3
            · obtain rfl : j = k := by omega
              rw [HGD.out, ← HTK.out, ← HKK.out, heq]
          subst heq
          go_wp2_with fail
          go_roundw
          case rel => exact ⟨k + 1, by omega, by go_num, (by first | rfl | trivial), hf2⟩
          case measure => simp [intOf]; omega
        · have heb := eq_no heq
          have hz2 : Hid (q = 14) := by
            unfold Hid
            rw [hz.out, if_neg]
            intro hh
            have := hh k hlt
            rw [HGD.out, ← HTK.out, ← HKK.out] at this
            exact heq this
          go_wp2_with fail
          go_ret
          first
            | exact ⟨by rw [hz2.out]; rfl, I1, hs1, ht1⟩
            | exact ⟨I1, by rw [hz2.out]; rfl, hs1, ht1⟩
      · have hz2 : Hid (q = 0) := by
          unfold Hid
          rw [hz.out, if_pos (fun i hi => hf.out i hi (by omega))]
        have z1 : ¬ (k : Int) < (ks.length : Int) := by omega
        go_wp2_with fail
        go_ret
        first
          | exact ⟨by rw [hz2.out]; rfl, I1, hs1, ht1⟩
          | exact ⟨I1, by rw [hz2.out]; rfl, hs1, ht1⟩
  · have hcb := eq_no hcd
    have hz : Hid (q = cd) := by have := HQ.out; rw [if_neg hcd] at this; exact this
    go_wp2_with fail
    go_ret
    first
      | exact ⟨by rw [hz.out]; rfl, I1, hs1, ht1⟩
      | exact ⟨I1, by rw [hz.out]; rfl, hs1, ht1⟩
/-- a result's variable is written: the scope stands. -/
theorem SAt.put {K : CX} {w W : World} {I J : IX} (h : SAt K w I) (hs : SAt K W J) (ht : XTo K.p w I W J) {g : Nat} (hg : w.heap.size ≤ g) (hnh : ¬ J.has K.p g) (a0 a1 a2 a3 : Value) : Hid (SAt K (put4 W g a0 a1 a2 a3) J) ∧ Hid (XTo K.p w I (put4 W g a0 a1 a2 a3) J) := by
  have h1 := h.ix.lt
  have h2 := h.sb
  have h3 := h.map.lt
  refine hs.own ht (below_put (Below.refl _ _) hg _ _ _ _) (fun q hq => heap_put ?_ _ _ _ _)
  rcases hq with hq | hq | hq | hq
  · exact fun e => hnh (e ▸ hq)
  · omega
  · omega
  · omega
/-- what an operator makes of two. -/
def operT (n : Int) (r : List YT × Int) : YT × Int :=
  if r.2 = 0 then
    (if 1 ≤ n ∧ n ≤ 5 ∧ (r.1.getD 0 Y0).kind = 1 ∧ (r.1.getD 1 Y0).kind = 1 then (plainT 1, 0) else
     if (8 ≤ n ∧ n ≤ 11 ∧ (r.1.getD 0 Y0).kind = 1 ∧ (r.1.getD 1 Y0).kind = 1) ∨ (12 ≤ n ∧ n ≤ 14 ∧ (r.1.getD 0 Y0).kind = 2 ∧ (r.1.getD 1 Y0).kind = 2) ∨ (6 ≤ n ∧ n ≤ 7 ∧ (r.1.getD 0 Y0).kind = (r.1.getD 1 Y0).kind ∧ ((r.1.getD 0 Y0).kind = 1 ∨ (r.1.getD 0 Y0).kind = 2 ∨ (r.1.getD 0 Y0).kind = 5)) then (plainT 2, 0) else (Y0, 14))
  else (Y0, r.2)
set_option maxHeartbeats 4000000 in
set_option maxRecDepth 100000 in
theorem operated_any (K : CX) (R : ET → YT × Int) (l : List ET) (k n : Int) (nm wh : ByteArray) (A : Option Addr) (c : Nat) (I : IX) (w : World) (h : SAt K w I) (hl : EsR w K.N A l) (hlen : l.length = 2) (hE : ∀ (k : Nat) (hk : k < l.length), EXC K l[k] (R l[k])) :
    Calls Tryz.prog 131 #[.pointer (some ⟨K.sb, 0, none⟩), .agg #[.int .i64 k, .int .i64 n, .string nm, .string wh, .slice A l.length c]] w (SRet K w I (tc (operT n (exprsR R l)))) := by
  obtain ⟨R0, hR0⟩ : ∃ R0 : World, R0 = (w.alloc (.cells #[.int .i64 k, .int .i64 n, .string nm, .string wh, .slice A l.length c] 158)).alloc (.cells y0cells 38) := ⟨_, rfl⟩
  have hb0 : Below w.heap.size w R0 := by rw [hR0]; exact far2 _ _ _
  have h0 : SAt K R0 I := h.below hb0
  have hs0 : R0.heap.size = w.heap.size + 1 + 1 := by rw [hR0]; simp
  have hg := new2 w #[.int .i64 k, .int .i64 n, .string nm, .string wh, .slice A l.length c] y0cells 158 38
  have hg2 := new22 w #[.int .i64 k, .int .i64 n, .string nm, .string wh, .slice A l.length c] y0cells 158 38
  rw [← hR0] at hg hg2
  have hNw : K.N ≤ w.heap.size := Nat.le_of_lt h.ix.lt
  have ni : ∀ g, w.heap.size ≤ g → ¬ I.has K.p g := fun g hg hh => by have := (h.ix.far _ hh).2; omega
  have KX : Hid (Calls Tryz.prog 120 #[.pointer (some ⟨K.sb, 0, none⟩), .slice A l.length c] R0 (TRet K R0 I (exprsR R l))) := exprs_any K R l A c I R0 h0 (RowIn.mono (Nat.le_refl _) (fun g hg => hb0.block g (by omega)) (fun k hk cs hc => EIn.mono (Nat.le_refl _) (fun g hg => hb0.block g (by omega)) hc) hl) (by omega) hE
  obtain ⟨r, hr⟩ : ∃ r, r = exprsR R l := ⟨_, rfl⟩
  have hrl : Hid (r.2 = 0 → r.1.length = 2) := fun e => by rw [hr, exprsR_len (hr ▸ e), hlen]
  rw [← hr] at KX ⊢
  have T0 : Hid (XTo K.p w I R0 I) := XTo.of_below hb0
  have HG : Hid (∀ W J, Hid (XTo K.p R0 I W J) → W.cell? ⟨w.heap.size, 1, none⟩ = some (.int .i64 n) ∧ W.heap[w.heap.size + 1]? = some (.cells y0cells 38 (0, 0)) ∧ ¬ J.has K.p (w.heap.size + 1)) := fun W J ht => by
    have q1 := (ht.out.block _ (Array.getElem?_eq_some_iff.1 hg).1 (ni _ (Nat.le_refl _))).trans hg
    have q2 := (ht.out.block _ (Array.getElem?_eq_some_iff.1 hg2).1 (ni _ (by omega))).trans hg2
    exact ⟨(cell_of_row _ _ 1 _ _ _ q1).trans rfl, q2, ht.out.none (Array.getElem?_eq_some_iff.1 hg2).1 (ni _ (by omega))⟩
  have y4 : R0.cell? ⟨w.heap.size, 4, none⟩ = some (.slice A l.length c) := (cell_of_row _ _ 4 _ _ _ hg).trans rfl
  obtain ⟨q, hq⟩ : ∃ q, q = operT n r := ⟨_, rfl⟩
  rw [← hq]
  unfold operT at hq
  have HQ := Lib.hid hq
  have HR0 := Lib.hid hR0
  have HPUT : Hid (∀ W J, Hid (SAt K W J) → Hid (XTo K.p w I W J) → ¬ J.has K.p (w.heap.size + 1) → ∀ a0 a1 a2 a3, Hid (SAt K (put4 W (w.heap.size + 1) a0 a1 a2 a3) J) ∧ Hid (XTo K.p w I (put4 W (w.heap.size + 1) a0 a1 a2 a3) J)) := fun W J hs ht hn a0 a1 a2 a3 => h.put hs.out ht.out (by omega) hn a0 a1 a2 a3
  rw [hR0] at y4
  unfold TRet at KX
  unfold SRet
  unfold y0cells at HR0 HG y4
  clear hr h hl hE hlen hq hR0 hb0 h0 hg hg2 ni
  go_enter Tryz.func131, Tryz.ntmps131
  go_wp2_with fail
  rw [← HR0.out]
  refine KX.out.mono ?_
  rintro e1 w1 ⟨I1, A1, c1, rfl, hs1, ht1, hT1⟩
  obtain ⟨y1, hy, hn1⟩ := HG.out _ _ ht1
  have HT : Hid (XTo K.p w I w1 I1) := T0.out.trans ht1.out
  have HY := Lib.hid hy
  have HN := Lib.hid hn1
  clear y4 KX hn1
  obtain ⟨ts, cd⟩ := r
  by_cases hcd : cd = 0
  · subst hcd
    have htl : ts.length = 2 := hrl.out rfl
    obtain ⟨tb, hA1, u0⟩ := hT1.out.kind (k := 0) (by rw [htl]; decide)
    obtain ⟨tb', hA1', u1⟩ := hT1.out.kind (k := 1) (by rw [htl]; decide)
    subst hA1
    obtain rfl : tb' = tb := by simpa using hA1'.symm
    have ga : ts.getD 0 Y0 = ts[0] := by simp [List.getD_eq_getElem?_getD, htl]
    have gb : ts.getD 1 Y0 = ts[1] := by simp [List.getD_eq_getElem?_getD, htl]
    obtain ⟨a, ha⟩ : ∃ a, a = ts[0].kind := ⟨_, rfl⟩
    obtain ⟨b, hb⟩ : ∃ b, b = ts[1].kind := ⟨_, rfl⟩
    rw [← ha] at u0
    rw [← hb] at u1
    rw [Nat.zero_mul] at u0
    rw [Nat.one_mul] at u1
    have hz : Hid (q = if 1 ≤ n ∧ n ≤ 5 ∧ a = 1 ∧ b = 1 then (plainT 1, 0) else if (8 ≤ n ∧ n ≤ 11 ∧ a = 1 ∧ b = 1) ∨ (12 ≤ n ∧ n ≤ 14 ∧ a = 2 ∧ b = 2) ∨ (6 ≤ n ∧ n ≤ 7 ∧ a = b ∧ (a = 1 ∨ a = 2 ∨ a = 5)) then (plainT 2, 0) else (Y0, 14)) := by
      have := HQ.out
      rw [if_pos rfl] at this
      simp only [ga, gb, ← ha, ← hb] at this
      exact this
    clear HQ ha hb ga gb hy
    go_wp2_with fail
    go_region_held3 (fun w' => w'.cell? ⟨tb', 0, none⟩ = some (.int .i64 a) ∧ w'.cell? ⟨tb', 4, none⟩ = some (.int .i64 b))
      (exact ⟨u0, u1⟩)
      (fail)
    have y1' : w1.drew.cell? ⟨w.heap.size, 1, none⟩ = some (.int .i64 n) := y1
    obtain ⟨w2, hw2⟩ : ∃ w2, w2 = w1.drew := ⟨_, rfl⟩
    have HS2 : Hid (SAt K w2 I1) := by rw [hw2]; exact hs1.out.below (Below.refl _ _).drew
    have HT2 : Hid (XTo K.p w I w2 I1) := by rw [hw2]; exact HT.out.quiet (Below.refl _ _).drew
    have hy2 : w2.heap[w.heap.size + 1]? = some (.cells #[.int .i64 0, .int .i64 0, .int .i64 0, .string ⟨#[]⟩] 38 (0, 0)) := by rw [hw2]; exact HY.out
    rw [← hw2] at y1' ⊢
    have HY2 := Lib.hid hy2
    have KP : Hid (∀ k, Calls Tryz.prog 127 #[.int .i64 k] w2 fun e w' => e = .returned (.agg (ycells (plainT k))) ∧ Hid (w'.heap[w.heap.size + 1]? = some (.cells #[.int .i64 0, .int .i64 0, .int .i64 0, .string ⟨#[]⟩] 38 (0, 0))) ∧ Hid (SAt K w' I1) ∧ Hid (XTo K.p w I w' I1)) := fun k => (plain_any k w2).mono fun e w' qq => ⟨qq.1, (qq.2.out.block _ (Array.getElem?_eq_some_iff.1 hy2).1).trans hy2, HS2.out.below qq.2.out, HT2.out.trans (XTo.of_below qq.2.out)⟩
    obtain ⟨⟨z0, z1, z2, z3⟩, f0, f1, f2, f3⟩ := four hy2
    clear u0 u1 y1 hy2 hw2 HG HY
    by_cases g1 : n = 1 ∨ n = 2 ∨ n = 3 ∨ n = 4 ∨ n = 5
    · by_cases ka : a = 1
      · by_cases kb : b = 1
        · subst ka
          subst kb
          rcases g1 with rfl | rfl | rfl | rfl | rfl
          all_goals
            have hzz : Hid (q = (plainT 1, 0)) := by unfold Hid; rw [hz.out, if_pos (by omega)]
            go_wp2_with fail
            refine (KP.out _).mono ?_
            rintro e3 w3 ⟨rfl, hy3, hs3, ht3⟩
            clear z0 z1 z2 z3 f0 f1 f2 f3
            obtain ⟨⟨z0, z1, z2, z3⟩, f0, f1, f2, f3⟩ := four hy3.out
            go_wp2_with fail
            exact ret_y2s rfl (w.heap.size + 1) _ _ _ _ _ hy3.out rfl rfl rfl (by first | exact ⟨I1, by rw [hzz.out]; rfl, HPUT.out _ _ hs3 ht3 HN.out _ _ _ _⟩ | exact ⟨by rw [hzz.out]; rfl, I1, HPUT.out _ _ hs3 ht3 HN.out _ _ _ _⟩)
        · have kbb := eq_no kb
          subst ka
          rcases g1 with rfl | rfl | rfl | rfl | rfl
          all_goals
            have hzz : Hid (q = (Y0, 14)) := by unfold Hid; rw [hz.out, if_neg (by omega), if_neg (by omega)]
            go_wp2_with fail
            exact ret_y2s rfl (w.heap.size + 1) _ _ _ _ _ HY2.out rfl rfl rfl (by first | exact ⟨I1, by rw [hzz.out]; rfl, HPUT.out _ _ HS2 HT2 HN.out _ _ _ _⟩ | exact ⟨by rw [hzz.out]; rfl, I1, HPUT.out _ _ HS2 HT2 HN.out _ _ _ _⟩)
      · have kab := eq_no ka
        rcases g1 with rfl | rfl | rfl | rfl | rfl
        all_goals
          have hzz : Hid (q = (Y0, 14)) := by unfold Hid; rw [hz.out, if_neg (by omega), if_neg (by omega)]
          go_wp2_with fail
          exact ret_y2s rfl (w.heap.size + 1) _ _ _ _ _ HY2.out rfl rfl rfl (by first | exact ⟨I1, by rw [hzz.out]; rfl, HPUT.out _ _ HS2 HT2 HN.out _ _ _ _⟩ | exact ⟨by rw [hzz.out]; rfl, I1, HPUT.out _ _ HS2 HT2 HN.out _ _ _ _⟩)
    by_cases g8 : n = 8 ∨ n = 9 ∨ n = 10 ∨ n = 11
    · by_cases ka : a = 1
      · by_cases kb : b = 1
        · subst ka
          subst kb
          rcases g8 with rfl | rfl | rfl | rfl
          all_goals
            have hzz : Hid (q = (plainT 2, 0)) := by unfold Hid; rw [hz.out, if_neg (by omega), if_pos (by omega)]
            go_wp2_with fail
            refine (KP.out _).mono ?_
            rintro e3 w3 ⟨rfl, hy3, hs3, ht3⟩
            clear z0 z1 z2 z3 f0 f1 f2 f3
            obtain ⟨⟨z0, z1, z2, z3⟩, f0, f1, f2, f3⟩ := four hy3.out
            go_wp2_with fail
            exact ret_y2s rfl (w.heap.size + 1) _ _ _ _ _ hy3.out rfl rfl rfl (by first | exact ⟨I1, by rw [hzz.out]; rfl, HPUT.out _ _ hs3 ht3 HN.out _ _ _ _⟩ | exact ⟨by rw [hzz.out]; rfl, I1, HPUT.out _ _ hs3 ht3 HN.out _ _ _ _⟩)
        · have kbb := eq_no kb
          subst ka
          rcases g8 with rfl | rfl | rfl | rfl
          all_goals
            have hzz : Hid (q = (Y0, 14)) := by unfold Hid; rw [hz.out, if_neg (by omega), if_neg (by omega)]
            go_wp2_with fail
            exact ret_y2s rfl (w.heap.size + 1) _ _ _ _ _ HY2.out rfl rfl rfl (by first | exact ⟨I1, by rw [hzz.out]; rfl, HPUT.out _ _ HS2 HT2 HN.out _ _ _ _⟩ | exact ⟨by rw [hzz.out]; rfl, I1, HPUT.out _ _ HS2 HT2 HN.out _ _ _ _⟩)
      · have kab := eq_no ka
        rcases g8 with rfl | rfl | rfl | rfl
        all_goals
          have hzz : Hid (q = (Y0, 14)) := by unfold Hid; rw [hz.out, if_neg (by omega), if_neg (by omega)]
          go_wp2_with fail
          exact ret_y2s rfl (w.heap.size + 1) _ _ _ _ _ HY2.out rfl rfl rfl (by first | exact ⟨I1, by rw [hzz.out]; rfl, HPUT.out _ _ HS2 HT2 HN.out _ _ _ _⟩ | exact ⟨by rw [hzz.out]; rfl, I1, HPUT.out _ _ HS2 HT2 HN.out _ _ _ _⟩)
    by_cases g12 : n = 12 ∨ n = 13 ∨ n = 14
    · by_cases ka : a = 2
      · by_cases kb : b = 2
        · subst ka
          subst kb
          rcases g12 with rfl | rfl | rfl
          all_goals
            have hzz : Hid (q = (plainT 2, 0)) := by unfold Hid; rw [hz.out, if_neg (by omega), if_pos (by omega)]
            go_wp2_with fail
            refine (KP.out _).mono ?_
            rintro e3 w3 ⟨rfl, hy3, hs3, ht3⟩
            clear z0 z1 z2 z3 f0 f1 f2 f3
            obtain ⟨⟨z0, z1, z2, z3⟩, f0, f1, f2, f3⟩ := four hy3.out
            go_wp2_with fail
            exact ret_y2s rfl (w.heap.size + 1) _ _ _ _ _ hy3.out rfl rfl rfl (by first | exact ⟨I1, by rw [hzz.out]; rfl, HPUT.out _ _ hs3 ht3 HN.out _ _ _ _⟩ | exact ⟨by rw [hzz.out]; rfl, I1, HPUT.out _ _ hs3 ht3 HN.out _ _ _ _⟩)
        · have kbb := eq_no kb
          subst ka
          rcases g12 with rfl | rfl | rfl
          all_goals
            have hzz : Hid (q = (Y0, 14)) := by unfold Hid; rw [hz.out, if_neg (by omega), if_neg (by omega)]
            go_wp2_with fail
            exact ret_y2s rfl (w.heap.size + 1) _ _ _ _ _ HY2.out rfl rfl rfl (by first | exact ⟨I1, by rw [hzz.out]; rfl, HPUT.out _ _ HS2 HT2 HN.out _ _ _ _⟩ | exact ⟨by rw [hzz.out]; rfl, I1, HPUT.out _ _ HS2 HT2 HN.out _ _ _ _⟩)
      · have kab := eq_no ka
        rcases g12 with rfl | rfl | rfl
        all_goals
          have hzz : Hid (q = (Y0, 14)) := by unfold Hid; rw [hz.out, if_neg (by omega), if_neg (by omega)]
          go_wp2_with fail
          exact ret_y2s rfl (w.heap.size + 1) _ _ _ _ _ HY2.out rfl rfl rfl (by first | exact ⟨I1, by rw [hzz.out]; rfl, HPUT.out _ _ HS2 HT2 HN.out _ _ _ _⟩ | exact ⟨by rw [hzz.out]; rfl, I1, HPUT.out _ _ HS2 HT2 HN.out _ _ _ _⟩)
    by_cases g6 : n = 6 ∨ n = 7
    · by_cases kab : a = b
      · subst kab
        by_cases k1 : a = 1
        · subst k1
          rcases g6 with rfl | rfl
          all_goals
            have hzz : Hid (q = (plainT 2, 0)) := by unfold Hid; rw [hz.out, if_neg (by omega), if_pos (by omega)]
            go_wp2_with fail
            refine (KP.out _).mono ?_
            rintro e3 w3 ⟨rfl, hy3, hs3, ht3⟩
            clear z0 z1 z2 z3 f0 f1 f2 f3
            obtain ⟨⟨z0, z1, z2, z3⟩, f0, f1, f2, f3⟩ := four hy3.out
            go_wp2_with fail
            exact ret_y2s rfl (w.heap.size + 1) _ _ _ _ _ hy3.out rfl rfl rfl (by first | exact ⟨I1, by rw [hzz.out]; rfl, HPUT.out _ _ hs3 ht3 HN.out _ _ _ _⟩ | exact ⟨by rw [hzz.out]; rfl, I1, HPUT.out _ _ hs3 ht3 HN.out _ _ _ _⟩)
        by_cases k2 : a = 2
        · subst k2
          rcases g6 with rfl | rfl
          all_goals
            have hzz : Hid (q = (plainT 2, 0)) := by unfold Hid; rw [hz.out, if_neg (by omega), if_pos (by omega)]
            go_wp2_with fail
            refine (KP.out _).mono ?_
            rintro e3 w3 ⟨rfl, hy3, hs3, ht3⟩
            clear z0 z1 z2 z3 f0 f1 f2 f3
            obtain ⟨⟨z0, z1, z2, z3⟩, f0, f1, f2, f3⟩ := four hy3.out
            go_wp2_with fail
            exact ret_y2s rfl (w.heap.size + 1) _ _ _ _ _ hy3.out rfl rfl rfl (by first | exact ⟨I1, by rw [hzz.out]; rfl, HPUT.out _ _ hs3 ht3 HN.out _ _ _ _⟩ | exact ⟨by rw [hzz.out]; rfl, I1, HPUT.out _ _ hs3 ht3 HN.out _ _ _ _⟩)
        by_cases k5 : a = 5
        · subst k5
          rcases g6 with rfl | rfl
          all_goals
            have hzz : Hid (q = (plainT 2, 0)) := by unfold Hid; rw [hz.out, if_neg (by omega), if_pos (by omega)]
            go_wp2_with fail
            refine (KP.out _).mono ?_
            rintro e3 w3 ⟨rfl, hy3, hs3, ht3⟩
            clear z0 z1 z2 z3 f0 f1 f2 f3
            obtain ⟨⟨z0, z1, z2, z3⟩, f0, f1, f2, f3⟩ := four hy3.out
            go_wp2_with fail
            exact ret_y2s rfl (w.heap.size + 1) _ _ _ _ _ hy3.out rfl rfl rfl (by first | exact ⟨I1, by rw [hzz.out]; rfl, HPUT.out _ _ hs3 ht3 HN.out _ _ _ _⟩ | exact ⟨by rw [hzz.out]; rfl, I1, HPUT.out _ _ hs3 ht3 HN.out _ _ _ _⟩)
        have b1 := eq_no k1
        have b2 := eq_no k2
        have b5 := eq_no k5
        rcases g6 with rfl | rfl
        all_goals
          have hzz : Hid (q = (Y0, 14)) := by unfold Hid; rw [hz.out, if_neg (by omega), if_neg (by omega)]
          go_wp2_with fail
          exact ret_y2s rfl (w.heap.size + 1) _ _ _ _ _ HY2.out rfl rfl rfl (by first | exact ⟨I1, by rw [hzz.out]; rfl, HPUT.out _ _ HS2 HT2 HN.out _ _ _ _⟩ | exact ⟨by rw [hzz.out]; rfl, I1, HPUT.out _ _ HS2 HT2 HN.out _ _ _ _⟩)
      · have kbb := eq_no kab
        rcases g6 with rfl | rfl
        all_goals
          have hzz : Hid (q = (Y0, 14)) := by unfold Hid; rw [hz.out, if_neg (by omega), if_neg (by omega)]
          go_wp2_with fail
          exact ret_y2s rfl (w.heap.size + 1) _ _ _ _ _ HY2.out rfl rfl rfl (by first | exact ⟨I1, by rw [hzz.out]; rfl, HPUT.out _ _ HS2 HT2 HN.out _ _ _ _⟩ | exact ⟨by rw [hzz.out]; rfl, I1, HPUT.out _ _ HS2 HT2 HN.out _ _ _ _⟩)
    have m1 : (n == 1) = false := eq_no (by omega)
    have m2 : (n == 2) = false := eq_no (by omega)
    have m3 : (n == 3) = false := eq_no (by omega)
    have m4 : (n == 4) = false := eq_no (by omega)
    have m5 : (n == 5) = false := eq_no (by omega)
    have m6 : (n == 6) = false := eq_no (by omega)
    have m7 : (n == 7) = false := eq_no (by omega)
    have m8 : (n == 8) = false := eq_no (by omega)
    have m9 : (n == 9) = false := eq_no (by omega)
    have m10 : (n == 10) = false := eq_no (by omega)
    have m11 : (n == 11) = false := eq_no (by omega)
    have m12 : (n == 12) = false := eq_no (by omega)
    have m13 : (n == 13) = false := eq_no (by omega)
    have m14 : (n == 14) = false := eq_no (by omega)
    have hzz : Hid (q = (Y0, 14)) := by unfold Hid; rw [hz.out, if_neg (by omega), if_neg (by omega)]
    go_wp2_with fail
    exact ret_y2s rfl (w.heap.size + 1) _ _ _ _ _ HY2.out rfl rfl rfl (by first | exact ⟨I1, by rw [hzz.out]; rfl, HPUT.out _ _ HS2 HT2 HN.out _ _ _ _⟩ | exact ⟨by rw [hzz.out]; rfl, I1, HPUT.out _ _ HS2 HT2 HN.out _ _ _ _⟩)
  · have hcb := eq_no hcd
    obtain ⟨⟨z0, z1, z2, z3⟩, f0, f1, f2, f3⟩ := four hy
    have hzz : Hid (q = (Y0, cd)) := by have := HQ.out; rw [if_neg hcd] at this; exact this
    clear hy
    go_wp2_with fail
    exact ret_y2s rfl (w.heap.size + 1) _ _ _ _ _ HY.out rfl rfl rfl (by first | exact ⟨I1, by rw [hzz.out]; rfl, HPUT.out _ _ hs1 HT HN.out _ _ _ _⟩ | exact ⟨by rw [hzz.out]; rfl, I1, HPUT.out _ _ hs1 HT HN.out _ _ _ _⟩)
end Go.Proofs.YtbgilpmoijdcfaaGreat

/-
  typing: statements one behind the other BY A CONTRACT; an EXIT.
-/
namespace Go.Proofs.YtbgilpmoijdcfaaGreat
open Go Go.RowKit
set_option linter.unusedVariables false
set_option linter.unusedSimpArgs false

/-- the code of the first statement that has one. -/
def listR (R : ST → Int) : List ST → Int
  | [] => 0
  | s :: r => if R s = 0 then listR R r else R s
theorem listR_drop {R : ST → Int} : ∀ {l : List ST} {k : Nat}, k ≤ l.length → (∀ j (hj : j < l.length), j < k → R l[j] = 0) → listR R l = listR R (l.drop k)
  | [], k, hk, hf => by simp
  | s :: r, 0, hk, hf => rfl
  | s :: r, k + 1, hk, hf => by
    have h0 := hf 0 (by simp) (by omega)
    simp only [List.getElem_cons_zero] at h0
    rw [listR, if_pos h0, List.drop_succ_cons]
    exact listR_drop (by simpa using hk) (fun j hj hjk => hf (j + 1) (by simp; exact hj) (by omega))
/-- a statement's code by a contract. -/
def STC (K : CX) (lp : Bool) (s : ST) (r : Int) : Prop := ∀ (I : IX) (w : World) (cs : List Value), SAt K w I → SIn w K.N s cs → Calls Tryz.prog 95 #[.pointer (some ⟨K.sb, 0, none⟩), .agg cs.toArray, .bool lp] w (SRet K w I (.int .i64 r))
set_option maxHeartbeats 4000000 in
set_option maxRecDepth 100000 in
theorem list_any (K : CX) (lp : Bool) (R : ST → Int) (l : List ST) (A : Option Addr) (c : Nat) (I : IX) (w : World) (h : SAt K w I) (hl : SsR w K.N A l) (hlen : l.length ≤ 1000000000) (hE : ∀ (k : Nat) (hk : k < l.length), STC K lp l[k] (R l[k])) :
    Calls Tryz.prog 70 #[.pointer (some ⟨K.sb, 0, none⟩), .slice A l.length c, .bool lp] w (SRet K w I (.int .i64 (listR R l))) := by
  obtain ⟨r, hr⟩ : ∃ r, r = listR R l := ⟨_, rfl⟩
  rw [← hr]
  have HRS := Lib.hid hr
  have H0 := Lib.hid h
  have T0 : Hid (XTo K.p w I w I) := XFr.refl _ _ _ _
  have HL : Hid (∀ W J, XTo K.p w I W J → SsR W K.N A l) := fun W J ht => SsR.mono (Nat.le_refl _) (fun g hg => (h.low ht).block g hg) hl
  have HE := Lib.hid hE
  clear hr h hl hE
  unfold SRet
  go_enter Tryz.func70, Tryz.ntmps70
  go_wp2_with fail
  go_loopw [12] (fun i wr => ∃ (k : Nat) (J : IX), k ≤ l.length ∧ i = .int .i64 k ∧ Hid (∀ j (hj : j < l.length), j < k → R l[j] = 0) ∧ Hid (SAt K wr J) ∧ Hid (XTo K.p w I wr J)) (fun i _ => l.length - (intOf i).toNat)
  case atStart => exact ⟨0, I, Nat.zero_le _, rfl, fun j hj h => by omega, H0, T0⟩
  case round =>
    obtain ⟨k, J, hk, rfl, hf, hs, ht⟩ := hrel
    have z0 : (0 : Int) ≤ (k : Int) := by omega
    by_cases hlt : k < l.length
    · have z1 : (k : Int) < (l.length : Int) := by omega
      obtain ⟨g, o, cs, hA, hgN, hcl, hcs, hSI⟩ := HL.out _ _ ht.out k hlt
      subst hA
      obtain ⟨s, he⟩ : ∃ s, s = l[k] := ⟨_, rfl⟩
      have hEk := HE.out k hlt
      rw [← he] at hSI hEk
      have HEe := Lib.hid he
      obtain ⟨ek, en, em, ex, el, eb⟩ := s
      have hSI2 := hSI
      rw [SIn] at hSI2
      obtain ⟨A1, c1, A2, c2, A3, c3, hcs2, -⟩ := hSI2
      subst hcs2
      have u0 := hcs 0 _ rfl
      have u1 := hcs 1 _ rfl
      have u2 := hcs 2 _ rfl
      have u3 := hcs 3 _ rfl
      have u4' := hcs 4 _ rfl
      have u5' := hcs 5 _ rfl
      rw [Nat.add_zero] at u0
      obtain ⟨R2, hR2⟩ : ∃ R2, R2 = wr.alloc (.cells #[.int .i64 ek, .int .i64 en, .string em, .slice A1 ex.length c1, .slice A2 el.length c2, .slice A3 eb.length c3] 139) := ⟨_, rfl⟩
      have hb2 : Below wr.heap.size wr R2 := by rw [hR2]; exact far1 _ _
      have hx0 : R2.heap[wr.heap.size]? = some (.cells #[.int .i64 ek, .int .i64 en, .string em, .slice A1 ex.length c1, .slice A2 el.length c2, .slice A3 eb.length c3] 139 (0, 0)) := by rw [hR2]; exact new1 _ _ _
      have y0 : R2.cell? ⟨wr.heap.size, 0, none⟩ = some (.int .i64 ek) := (cell_of_row _ _ 0 _ _ _ hx0).trans rfl
      have y1 : R2.cell? ⟨wr.heap.size, 1, none⟩ = some (.int .i64 en) := (cell_of_row _ _ 1 _ _ _ hx0).trans rfl
      have y2 : R2.cell? ⟨wr.heap.size, 2, none⟩ = some (.string em) := (cell_of_row _ _ 2 _ _ _ hx0).trans rfl
      have y3 : R2.cell? ⟨wr.heap.size, 3, none⟩ = some (.slice A1 ex.length c1) := (cell_of_row _ _ 3 _ _ _ hx0).trans rfl
      have y4 : R2.cell? ⟨wr.heap.size, 4, none⟩ = some (.slice A2 el.length c2) := (cell_of_row _ _ 4 _ _ _ hx0).trans rfl
      have y5 : R2.cell? ⟨wr.heap.size, 5, none⟩ = some (.slice A3 eb.length c3) := (cell_of_row _ _ 5 _ _ _ hx0).trans rfl
      obtain ⟨rk, hrk⟩ : ∃ r, r = R (ST.mk ek en em ex el eb) := ⟨_, rfl⟩
      have hs2 := hs.out.below hb2
      have ht2 : XTo K.p w I R2 J := ht.out.trans (XTo.of_below hb2)
      have KE : Hid (Calls Tryz.prog 95 #[.pointer (some ⟨K.sb, 0, none⟩), .agg #[.int .i64 ek, .int .i64 en, .string em, .slice A1 ex.length c1, .slice A2 el.length c2, .slice A3 eb.length c3], .bool lp] R2 (SRet K R2 J (.int .i64 rk))) := hrk ▸ hEk J R2 _ hs2 (SIn.mono (Nat.le_refl _) (fun q hq => hb2.block q (by have := hs.out.ix.lt; omega)) hSI)
      have HR2 := Lib.hid hR2
      have HT2 := Lib.hid ht2
      have HRK := Lib.hid hrk
      unfold SRet at KE
      clear hs ht hs2 ht2 hcs hSI hx0 hEk hrk hb2 he hcl
      rw [hR2] at y0 y1 y2 y3 y4 y5
      clear hR2
      go_wp2_with fail
      rw [← HR2.out] at y0 y1 y2 y3 y4 y5 ⊢
      refine KE.out.mono ?_
      rintro e1 w1 ⟨J1, rfl, hs1, ht1⟩
      have HT3 : Hid (XTo K.p w I w1 J1) := HT2.out.trans ht1.out
      clear y0 y1 y2 y3 y4 y5 u0 u1 u2 u3 u4' u5' KE
      by_cases hcd : rk = 0
      · subst hcd
        have hf2 : Hid (∀ j (hj : j < l.length), j < k + 1 → R l[j] = 0) := fun j hj h => by
          rcases Nat.lt_or_ge j k with h3 | h3
          · exact hf.out j hj h3
          · obtain rfl : j = k := by omega
            rw [← HEe.out, ← HRK.out]
        go_wp2_with fail
        go_roundw
        case rel => exact ⟨k + 1, J1, by omega, by go_num, hf2, hs1, HT3⟩
        case measure => simp [intOf]; omega
      · have hcb := eq_no hcd
        have hz : Hid (r = rk) := by
          unfold Hid
          rw [HRS.out, listR_drop (k := k) (by omega) hf.out, List.drop_eq_getElem_cons hlt, listR, ← HEe.out, ← HRK.out, if_neg hcd]
        go_wp2_with fail
        go_ret
        first
          | exact ⟨by rw [hz.out]; rfl, J1, hs1, HT3⟩
          | exact ⟨J1, by rw [hz.out]; rfl, hs1, HT3⟩
    · obtain rfl : k = l.length := by omega
      have hz : Hid (r = 0) := by
        unfold Hid
        rw [HRS.out, listR_drop (k := l.length) (Nat.le_refl _) hf.out]
        simp [listR]
      go_wp2_with fail
      go_ret
      first
        | exact ⟨by rw [hz.out]; rfl, J, hs, ht⟩
        | exact ⟨J, by rw [hz.out]; rfl, hs, ht⟩
set_option maxHeartbeats 2000000 in
set_option maxRecDepth 100000 in
theorem exit_any (K : CX) (lp : Bool) (w : World) : Calls Tryz.prog 116 #[.pointer (some ⟨K.sb, 0, none⟩), .bool lp] w (QRet w (.int .i64 (if lp then 0 else 14))) := by
  have HB : Hid (Below w.heap.size w w) := Below.refl _ _
  cases lp
  all_goals
    go_enter Tryz.func116, Tryz.ntmps116
    go_wp2_with fail
    go_ret
    exact ⟨rfl, HB⟩
set_option maxHeartbeats 2000000 in
set_option maxRecDepth 100000 in
theorem shaped_exit (n : Int) (nm : ByteArray) (A1 A2 A3 : Option Addr) (c1 c2 c3 : Nat) (w : World) : Calls Tryz.prog 105 #[.agg #[.int .i64 10, .int .i64 n, .string nm, .slice A1 0 c1, .slice A2 0 c2, .slice A3 0 c3]] w (QRet w (.bool true)) := by
  have HB : Hid (Below w.heap.size w (w.alloc (.cells #[.int .i64 10, .int .i64 n, .string nm, .slice A1 0 c1, .slice A2 0 c2, .slice A3 0 c3] 139))) := far1 _ _
  have hx0 := new1 w #[.int .i64 10, .int .i64 n, .string nm, .slice A1 0 c1, .slice A2 0 c2, .slice A3 0 c3] 139
  obtain ⟨R0, hR0⟩ : ∃ R0, R0 = w.alloc (.cells #[.int .i64 10, .int .i64 n, .string nm, .slice A1 0 c1, .slice A2 0 c2, .slice A3 0 c3] 139) := ⟨_, rfl⟩
  rw [← hR0] at HB hx0
  have y0 : R0.cell? ⟨w.heap.size, 0, none⟩ = some (.int .i64 10) := (cell_of_row _ _ 0 _ _ _ hx0).trans rfl
  have y3 : R0.cell? ⟨w.heap.size, 3, none⟩ = some (.slice A1 0 c1) := (cell_of_row _ _ 3 _ _ _ hx0).trans rfl
  have y4 : R0.cell? ⟨w.heap.size, 4, none⟩ = some (.slice A2 0 c2) := (cell_of_row _ _ 4 _ _ _ hx0).trans rfl
  have y5 : R0.cell? ⟨w.heap.size, 5, none⟩ = some (.slice A3 0 c3) := (cell_of_row _ _ 5 _ _ _ hx0).trans rfl
  have HR0 := Lib.hid hR0
  clear hR0 hx0
  go_enter Tryz.func105, Tryz.ntmps105
  go_wp2_with fail
  rw [← HR0.out]
  go_region_held3 (fun w' => w'.cell? ⟨w.heap.size, 3, none⟩ = some (.slice A1 0 c1) ∧ w'.cell? ⟨w.heap.size, 4, none⟩ = some (.slice A2 0 c2) ∧ w'.cell? ⟨w.heap.size, 5, none⟩ = some (.slice A3 0 c3))
    (exact ⟨y3, y4, y5⟩)
    (fail)
  have HB2 : Hid (Below w.heap.size w R0.drew) := HB.out.drew
  have x0 : R0.drew.cell? ⟨w.heap.size, 0, none⟩ = some (.int .i64 10) := y0
  generalize R0.drew = W1 at HB2 x0 ⊢
  clear y0 y3 y4 y5
  go_wp2_with fail
  go_ret
  exact ⟨rfl, HB2⟩
set_option maxHeartbeats 2000000 in
set_option maxRecDepth 100000 in
theorem stmt_exit (K : CX) (lp : Bool) (n : Int) (nm : ByteArray) : STC K lp (.mk 10 n nm [] [] []) (if lp then 0 else 14) := by
  intro I w cs h hs
  rw [SIn] at hs
  obtain ⟨A1, c1, A2, c2, A3, c3, hcs, -⟩ := hs
  subst hcs
  simp only [List.length_nil]
  obtain ⟨R0, hR0⟩ : ∃ R0, R0 = w.alloc (.cells #[.int .i64 10, .int .i64 n, .string nm, .slice A1 0 c1, .slice A2 0 c2, .slice A3 0 c3] 139) := ⟨_, rfl⟩
  have hb0 : Below w.heap.size w R0 := by rw [hR0]; exact far1 _ _
  have hx0 : R0.heap[w.heap.size]? = some (.cells #[.int .i64 10, .int .i64 n, .string nm, .slice A1 0 c1, .slice A2 0 c2, .slice A3 0 c3] 139 (0, 0)) := by rw [hR0]; exact new1 _ _ _
  have y0 : R0.cell? ⟨w.heap.size, 0, none⟩ = some (.int .i64 10) := (cell_of_row _ _ 0 _ _ _ hx0).trans rfl
  have KS : Hid (Calls Tryz.prog 105 #[.agg #[.int .i64 10, .int .i64 n, .string nm, .slice A1 0 c1, .slice A2 0 c2, .slice A3 0 c3]] R0 fun e w' => e = .returned (.bool true) ∧ w'.cell? ⟨w.heap.size, 0, none⟩ = some (.int .i64 10) ∧ Hid (Below w.heap.size w w')) := (shaped_exit n nm A1 A2 A3 c1 c2 c3 R0).mono fun e w' q => ⟨q.1, (q.2.out.cell (p := ⟨w.heap.size, 0, none⟩) (Array.getElem?_eq_some_iff.1 hx0).1).trans y0, hb0.trans (q.2.out.mono hb0.size)⟩
  have KE : Hid (∀ W, Hid (Below w.heap.size w W) → Calls Tryz.prog 116 #[.pointer (some ⟨K.sb, 0, none⟩), .bool lp] W fun e w' => e = .returned (.int .i64 (if lp then 0 else 14)) ∧ Hid (Below w.heap.size w w')) := fun W hb => (exit_any K lp W).mono fun e w' q => ⟨q.1, hb.out.trans (q.2.out.mono hb.out.size)⟩
  have HQ : Hid (∀ w' v, QRet w v (.returned v) w' → SRet K w I v (.returned v) w') := fun w' v q => h.quiet q
  obtain ⟨r, hr⟩ : ∃ r : Int, r = if lp then 0 else 14 := ⟨_, rfl⟩
  rw [← hr] at KE ⊢
  have HR0 := Lib.hid hR0
  have z1 := (cell_of_row R0 w.heap.size 1 _ _ _ hx0).trans rfl
  obtain ⟨y1, y2, y3, y4, y5⟩ : R0.cell? ⟨w.heap.size, 1, none⟩ = some (.int .i64 n) ∧ R0.cell? ⟨w.heap.size, 2, none⟩ = some (.string nm) ∧ R0.cell? ⟨w.heap.size, 3, none⟩ = some (.slice A1 0 c1) ∧ R0.cell? ⟨w.heap.size, 4, none⟩ = some (.slice A2 0 c2) ∧ R0.cell? ⟨w.heap.size, 5, none⟩ = some (.slice A3 0 c3) := ⟨(cell_of_row _ _ 1 _ _ _ hx0).trans rfl, (cell_of_row _ _ 2 _ _ _ hx0).trans rfl, (cell_of_row _ _ 3 _ _ _ hx0).trans rfl, (cell_of_row _ _ 4 _ _ _ hx0).trans rfl, (cell_of_row _ _ 5 _ _ _ hx0).trans rfl⟩
  rw [hR0] at y0 y1 y2 y3 y4 y5
  clear hR0 hb0 hx0 hr h z1
  go_enter Tryz.func95, Tryz.ntmps95
  go_wp2_with fail
  rw [← HR0.out]
  refine KS.out.mono ?_
  rintro e1 w1 ⟨rfl, x0, hb1⟩
  clear y0 y1 y2 y3 y4 y5
  go_wp2_with fail
  refine (KE.out _ hb1).mono ?_
  rintro e2 w2 ⟨rfl, hb2⟩
  go_wp2_with fail
  go_ret
  exact HQ.out _ _ ⟨rfl, hb2⟩
end Go.Proofs.YtbgilpmoijdcfaaGreat

/-
  typing.Expr, typing.Stmts BY CONTRACTS: at a program's body.
-/
namespace Go.Proofs.YtbgilpmoijdcfaaGreat
open Go Go.RowKit
set_option linter.unusedVariables false
set_option linter.unusedSimpArgs false

/-- a scope of a program's body. -/
abbrev bodyCX (L : List DT) (A : Option Addr) (c : Nat) (d m : Int) (p N sb vb : Nat) : CX := ⟨L, A, c, p, N, sb, vb, ⟨d, m, fieldsT L d, Y0⟩⟩
theorem SAt.out {K : CX} {W W' : World} {I I' : IX} (h : SAt K W I) (ht : XTo K.p W I W' I') : Below K.N W W' := XFr.toBelow h.ix ht (Nat.le_of_lt h.ix.lt)
set_option maxHeartbeats 4000000 in
set_option maxRecDepth 100000 in
theorem Stmts_body (L : List DT) (A : Option Addr) (c : Nat) (d m : Int) (R : ST → Int) (l : List ST) (B : Option Addr) (b : Nat) (w : World) (ha : DsR w w.heap.size A L) (hfit : FitA L) (hd0 : I64 d) (hm : isMethodT L d m = false) (hb : isBodyT L d m = true) (hfl : (fieldsT L d).length ≤ 1000000000)
    (hl : SsR w w.heap.size B l) (hlen : l.length ≤ 1000000000) (hE : ∀ p N sb vb, ∀ (k : Nat) (hk : k < l.length), STC (bodyCX L A c d m p N sb vb) false l[k] (R l[k])) :
    Calls Tryz.prog 35 #[.agg #[.slice A L.length c], .agg #[.int .i64 d, .int .i64 m], .slice B l.length b] w fun e w' => e = .returned (.int .i64 (listR R l)) ∧ Hid (Below w.heap.size w w') := by
  obtain ⟨R0, hR0⟩ : ∃ R0 : World, R0 = (w.alloc (.cells #[.slice A L.length c] 31)).alloc (.cells #[.int .i64 d, .int .i64 m] 68) := ⟨_, rfl⟩
  have hb0 : Below w.heap.size w R0 := by rw [hR0]; exact far2 _ _ _
  have g1 := new2 w #[.slice A L.length c] #[.int .i64 d, .int .i64 m] 31 68
  have g2 := new22 w #[.slice A L.length c] #[.int .i64 d, .int .i64 m] 31 68
  rw [← hR0] at g1 g2
  have y0 : R0.cell? ⟨w.heap.size, 0, none⟩ = some (.slice A L.length c) := (cell_of_row _ _ 0 _ _ _ g1).trans rfl
  have yd : R0.cell? ⟨w.heap.size + 1, 0, none⟩ = some (.int .i64 d) := (cell_of_row _ _ 0 _ _ _ g2).trans rfl
  have ym : R0.cell? ⟨w.heap.size + 1, 1, none⟩ = some (.int .i64 m) := (cell_of_row _ _ 1 _ _ _ g2).trans rfl
  have ha0 : DsR R0 R0.heap.size A L := DsR.mono hb0.size hb0.block ha
  have KS : Hid (Calls Tryz.prog 69 #[.agg #[.slice A L.length c], .agg #[.int .i64 d, .int .i64 m]] R0 fun e w' => ∃ (p sb vb : Nat) (I : IX), e = .returned (.pointer (some ⟨sb, 0, none⟩)) ∧ Hid (SAt (bodyCX L A c d m p R0.heap.size sb vb) w' I) ∧ Hid (Below R0.heap.size R0 w')) := scopeAt_body L A c d m R0 ha0 hfit hd0 hm hb hfl
  have KL : Hid (∀ p sb vb I W, Hid (SAt (bodyCX L A c d m p R0.heap.size sb vb) W I) → Hid (Below R0.heap.size R0 W) → Calls Tryz.prog 70 #[.pointer (some ⟨sb, 0, none⟩), .slice B l.length b, .bool false] W fun e w' => e = .returned (.int .i64 (listR R l)) ∧ Hid (Below w.heap.size w w')) := fun p sb vb I W hs hbW =>
    (list_any (bodyCX L A c d m p R0.heap.size sb vb) false R l B b I W hs.out (SsR.mono hb0.size (fun g hg => (hbW.out.block g (Nat.lt_of_lt_of_le hg hb0.size)).trans (hb0.block g hg)) hl) hlen (hE p _ sb vb)).mono fun e w' ⟨I', h1, h2, h3⟩ => ⟨h1, hb0.trans ((hbW.out.trans (hs.out.out h3.out)).mono hb0.size)⟩
  obtain ⟨r, hr⟩ : ∃ r, r = listR R l := ⟨_, rfl⟩
  rw [← hr] at KL ⊢
  have HR0 := Lib.hid hR0
  rw [hR0] at y0 yd ym
  clear hR0 hb0 g1 g2 ha0 ha hfit hd0 hm hb hfl hl hlen hE hr
  go_enter Tryz.func35, Tryz.ntmps35
  go_wp2_with fail
  rw [← HR0.out]
  refine KS.out.mono ?_
  rintro e1 w1 ⟨p, sb, vb, I, rfl, hs1, hb1⟩
  clear y0 yd ym
  go_wp2_with fail
  refine (KL.out p sb vb I w1 hs1 hb1).mono ?_
  rintro e2 w2 ⟨rfl, hb2⟩
  go_wp2_with fail
  go_ret
  exact ⟨rfl, hb2⟩
end Go.Proofs.YtbgilpmoijdcfaaGreat

/-
  rules: the lists of rules; what a declaration executes, if it is nothing; BY CONTRACTS.
-/
namespace Go.Proofs.YtbgilpmoijdcfaaGreat
open Go Go.RowKit Go.Shelf
set_option linter.unusedVariables false
set_option linter.unusedSimpArgs false

theorem flat_cells : ∀ (l : List RT) (k j : Nat) (hk : k < l.length), j < 2 → (l.flatMap RT.cells)[k * 2 + j]? = (RT.cells l[k])[j]?
  | r :: l, 0, j, _, hj => by
    have h2 : ([Value.int .i64 r.code, .func (.func r.fn) #[] #[]] : List Value).length = 2 := rfl
    simp only [List.flatMap_cons, Nat.zero_mul, Nat.zero_add, List.getElem_cons_zero]
    rw [List.getElem?_append_left (by rw [h2]; exact hj)]
  | r :: l, k + 1, j, hk, hj => by
    have h2 : ([Value.int .i64 r.code, .func (.func r.fn) #[] #[]] : List Value).length = 2 := rfl
    have := flat_cells l k j (by simpa using hk) hj
    simp only [List.flatMap_cons, List.getElem_cons_succ]
    rw [List.getElem?_append_right (by rw [h2]; omega), h2, ← this]
    congr 1
    omega
/-- a row of rules that a literal makes. -/
theorem rs_block {W : World} {g B : Nat} {l : List RT} (h : W.heap[g]? = some (.cells (l.flatMap RT.cells).toArray 61 (0, 0))) (hg : g < B) : RsR W B (some ⟨g, 0, none⟩) l := fun k hk => by
  refine ⟨g, 0, RT.cells l[k], rfl, hg, rfl, fun j u hj => ?_, rfl⟩
  have hj2 : j < 2 := (List.getElem?_eq_some_iff.1 hj).1
  rw [Nat.zero_add, cell_of_row _ _ _ _ _ _ h]
  simpa using (flat_cells l k j hk hj2).trans hj
def eachR : List RT := [⟨5, 33⟩, ⟨6, 34⟩]
def progR : List RT := [⟨9, 26⟩, ⟨10, 27⟩, ⟨16, 28⟩, ⟨6, 29⟩]
def taskR : List RT := [⟨17, 30⟩, ⟨17, 31⟩]
theorem ofEach_any (w : World) : Calls Tryz.prog 14 #[] w fun e w' => e = .returned (.slice (some ⟨w.heap.size, 0, none⟩) 2 2) ∧ Hid (RsR w' w'.heap.size (some ⟨w.heap.size, 0, none⟩) eachR) ∧ Hid (Below w.heap.size w w') := by
  go_enter Tryz.func14, Tryz.ntmps14
  go_wp2_with fail
  go_ret
  exact ⟨rfl, rs_block (l := eachR) (heap_alloc_new w _) (by simp), (Below.refl _ _).alloc (Nat.le_refl _) _⟩
theorem ofKind_prog (w : World) : Calls Tryz.prog 12 #[.int .i64 3] w fun e w' => e = .returned (.slice (some ⟨w.heap.size, 0, none⟩) 4 4) ∧ Hid (RsR w' w'.heap.size (some ⟨w.heap.size, 0, none⟩) progR) ∧ Hid (Below w.heap.size w w') := by
  go_enter Tryz.func12, Tryz.ntmps12
  go_wp2_with fail
  go_ret
  exact ⟨rfl, rs_block (l := progR) (heap_alloc_new w _) (by simp), (Below.refl _ _).alloc (Nat.le_refl _) _⟩
theorem ofKind_task (w : World) : Calls Tryz.prog 12 #[.int .i64 4] w fun e w' => e = .returned (.slice (some ⟨w.heap.size, 0, none⟩) 2 2) ∧ Hid (RsR w' w'.heap.size (some ⟨w.heap.size, 0, none⟩) taskR) ∧ Hid (Below w.heap.size w w') := by
  go_enter Tryz.func12, Tryz.ntmps12
  go_wp2_with fail
  go_ret
  exact ⟨rfl, rs_block (l := taskR) (heap_alloc_new w _) (by simp), (Below.refl _ _).alloc (Nat.le_refl _) _⟩
set_option maxHeartbeats 4000000 in
set_option maxRecDepth 100000 in
theorem bodies_any (X : AX) (I : IX) (w : World) (h : XOk X w I) (hk : X.D.kind = 4 ∨ (X.D.kind = 3 ∧ X.D.body = [])) :
    Calls Tryz.prog 15 #[X.val] w fun e w' => e = .returned (.int .i64 (0)) ∧ Hid (Below w.heap.size w w') := by
  obtain ⟨R0, hR0⟩ : ∃ R0 : World, R0 = w.alloc (.cells X.cells 55) := ⟨_, rfl⟩
  have B0 : ABox X w R0 I := hR0 ▸ ABox.of h
  have HB0 : Hid (Below R0.heap.size R0 R0) := Below.refl _ _
  have HO : Hid (∀ W, Hid (Below R0.heap.size R0 W) → Hid (Below w.heap.size w W)) := fun W hW => B0.below.trans (hW.out.mono B0.below.size)
  have OK : Hid (∀ W, Hid (Below R0.heap.size R0 W) → XOk X W I) := fun W hW => B0.ok.below hW.out
  have CE : Hid (∀ W, Hid (Below R0.heap.size R0 W) → ACells X W w.heap.size) := fun W hW => B0.cells (XTo.of_below (I := I) hW.out)
  have BX : Hid (∀ W, Hid (Below R0.heap.size R0 W) → W.heap[w.heap.size]? = some (.cells X.cells 55 (0, 0))) := fun W hW => B0.stays (XTo.of_below (I := I) hW.out)
  obtain ⟨a0, a1, a2, a3, a4, a5, a6, a7, a8, a9, a10, a11, a12, a13⟩ := CE.out _ HB0
  have HR0 := Lib.hid hR0
  rw [hR0] at a0 a1 a2 a3 a4 a5 a6 a7 a8 a9 a10 a11 a12 a13
  clear hR0 a1 a4 a5 a6 a7 a8 a9 a10 a12 a13
  rcases hk with h4 | ⟨h3, hbo⟩
  · rw [h4] at a3
    have hi := HO.out _ HB0
    clear B0 h h4
    go_enter Tryz.func15, Tryz.ntmps15
    go_wp2_with fail
    go_ret
    exact ⟨rfl, HR0.out ▸ hi⟩
  · have KS : Hid (Calls Tryz.prog 35 #[.agg #[.slice X.A X.L.length X.c], .agg #[.int .i64 (X.k : Int), .int .i64 (-1)], .slice X.A4 X.D.body.length X.c4] R0 fun e w' => e = .returned (.int .i64 0) ∧ Hid (Below R0.heap.size R0 w')) := by
      have ok := OK.out _ HB0
      have hof : isOfT X.L (X.k : Int) 3 = true := by
        have hlt : (X.k : Int) < (X.L.length : Int) := by have := ok.lt; omega
        have hd : X.L[X.k].kind = 3 := by rw [← ok.decl]; exact h3
        simp [isOfT, hlt, List.getElem?_eq_getElem ok.lt, hd]
      have hb1 : isBodyT X.L (X.k : Int) (-1) = true := by unfold isBodyT; rw [hof]; rfl
      have hm1 : isMethodT X.L (X.k : Int) (-1) = false := by unfold isMethodT; simp
      have hfl : (fieldsT X.L (X.k : Int)).length ≤ 1000000000 := by
        unfold fieldsT
        rw [if_pos hof]
        have : varsOf X.L (X.k : Int) = X.D.vars := by simp [varsOf, List.getElem?_eq_getElem ok.lt, ok.decl]
        rw [this, ok.decl]
        have := ok.fit.vars _ (List.getElem_mem ok.lt)
        omega
      have hS : SsR R0 R0.heap.size X.A4 ([] : List ST) := fun k hk => by simp at hk
      rw [hbo]
      exact Stmts_body X.L X.A X.c (X.k : Int) (-1) (fun _ => 0) [] X.A4 X.c4 R0 ok.ix.rowAt ok.fit ⟨by omega, by have := ok.lt; have := ok.fit.toFit.len; omega⟩ hm1 hb1 hfl hS (by simp) (fun p N sb vb k hk => by simp at hk)
    rw [h3] at a3
    clear B0 h h3 hbo
    go_enter Tryz.func15, Tryz.ntmps15
    go_wp2_with fail
    rw [← HR0.out]
    refine KS.out.mono ?_
    rintro e1 w1 ⟨rfl, hb1⟩
    clear a0 a2 a3 a11
    go_wp2_with fail
    go_ret
    exact ⟨rfl, HO.out _ hb1⟩
end Go.Proofs.YtbgilpmoijdcfaaGreat

/-
  rules.code: the first rule that is broken, BY A CONTRACT.
-/
namespace Go.Proofs.YtbgilpmoijdcfaaGreat
open Go Go.RowKit Go.Shelf
set_option linter.unusedVariables false
set_option linter.unusedSimpArgs false

theorem rules_nil (a : Addr) (n c : Nat) (w : World) : (binOp .eql 56 (.slice (some a) n c) (.slice none 0 0)).run Tryz.prog w = .ok (.bool false) w := by kernel_rfl
def firstT : List (RT × Bool) → Int → Int
  | [], b => b
  | (r, t) :: l, b => if t = true then r.code else firstT l b
set_option maxHeartbeats 4000000 in
set_option maxRecDepth 100000 in
theorem code_any (X : AX) (I : IX) (w : World) (own : List RT) (Rs : List (RT × Bool)) (bc : Int) (g o : Nat) (cs : List Value) (h : XOk X w I) (hA : X.A = some ⟨g, o, none⟩) (hg : g < X.N)
    (hcs : cs = (declV X.D X.A1 X.A2 X.A3 X.A4 X.c1 X.c2 X.c3 X.c4).toList) (hc : ∀ (j : Nat) u, cs[j]? = some u → w.cell? ⟨g, o + X.k * 11 + j, none⟩ = some u)
    (hown : own.length ≤ 1000) (hRs : Rs.map (·.1) = eachR ++ own)
    (hof : ∀ W, Calls Tryz.prog 12 #[.int .i64 X.D.kind] W fun e w' => e = .returned (.slice (some ⟨W.heap.size, 0, none⟩) own.length own.length) ∧ Hid (RsR w' w'.heap.size (some ⟨W.heap.size, 0, none⟩) own) ∧ Hid (Below W.heap.size W w'))
    (hen : ∀ x ∈ Rs, Enters Tryz.prog x.1.fn) (hr : ∀ x ∈ Rs, ∀ W, XOk X W I → Calls Tryz.prog x.1.fn #[X.val] W fun e w' => e = .returned (.bool x.2) ∧ Hid (Below W.heap.size W w'))
    (hbo : ∀ W, XOk X W I → Calls Tryz.prog 15 #[X.val] W fun e w' => e = .returned (.int .i64 bc) ∧ Hid (Below W.heap.size W w')) :
    Calls Tryz.prog 10 #[.agg #[.slice X.A X.L.length X.c], .pointer (some ⟨X.p, 0, none⟩), .int .i64 (X.k : Int)] w fun e w' => e = .returned (.int .i64 (firstT Rs bc)) ∧ Hid (Below w.heap.size w w') := by
  obtain ⟨R0, hR0⟩ : ∃ R0 : World, R0 = w.alloc (.cells #[.slice X.A X.L.length X.c] 31) := ⟨_, rfl⟩
  have hb0 : Below w.heap.size w R0 := by rw [hR0]; exact (Below.refl _ _).alloc (Nat.le_refl _) _
  have hg0 : R0.heap[w.heap.size]? = some (.cells #[.slice X.A X.L.length X.c] 31 (0, 0)) := by rw [hR0]; exact heap_alloc_new w _
  have hs0 : R0.heap.size = w.heap.size + 1 := by rw [hR0]; simp
  have hNw : X.N < w.heap.size := h.ix.lt
  have hk0 : ¬ (X.k : Int) < 0 := by omega
  have hk0' : (0 : Int) ≤ (X.k : Int) := by omega
  have hk1 : ¬ (X.L.length : Int) ≤ (X.k : Int) := by have := h.lt; omega
  have hk2 : (X.k : Int) < (X.L.length : Int) := by omega
  have CE : Hid (∀ W, Hid (Below R0.heap.size R0 W) → W.cell? ⟨w.heap.size, 0, none⟩ = some (.slice X.A X.L.length X.c) ∧ ∀ (j : Nat) u, cs[j]? = some u → W.cell? ⟨g, o + X.k * 11 + j, none⟩ = some u) := fun W hW => by
    have q := (hW.out.block _ (Array.getElem?_eq_some_iff.1 hg0).1).trans hg0
    have hbW : Below w.heap.size w W := hb0.trans (hW.out.mono hb0.size)
    exact ⟨(cell_of_row _ _ 0 _ _ _ q).trans rfl, fun j u hj => (World.cell?_of_block (hbW.block g (by omega))).trans (hc j u hj)⟩
  have HB0 : Hid (Below R0.heap.size R0 R0) := Below.refl _ _
  obtain ⟨y, hcc⟩ := CE.out _ HB0
  rw [hcs] at hcc
  have z0 := hcc 0 _ rfl
  have z1 := hcc 1 _ rfl
  have z2 := hcc 2 _ rfl
  have z3 := hcc 3 _ rfl
  have z4 := hcc 4 _ rfl
  have z5 := hcc 5 _ rfl
  have z6 := hcc 6 _ rfl
  have z7 := hcc 7 _ rfl
  have z8 := hcc 8 _ rfl
  have z9 := hcc 9 _ rfl
  have z10 := hcc 10 _ rfl
  rw [Nat.add_zero] at z0
  have KS : Hid (∀ W, Hid (Below R0.heap.size R0 W) → W.cell? ⟨w.heap.size, 0, none⟩ = some (.slice (some ⟨g, o, none⟩) X.L.length X.c) ∧ W.cell? ⟨g, o + X.k * 11, none⟩ = some (.int .i64 X.D.kind) ∧ W.cell? ⟨g, o + X.k * 11 + 1, none⟩ = some (.string X.D.name) ∧ W.cell? ⟨g, o + X.k * 11 + 2, none⟩ = some (.string X.D.base) ∧ W.cell? ⟨g, o + X.k * 11 + 3, none⟩ = some (.slice X.A1 X.D.faces.length X.c1) ∧ W.cell? ⟨g, o + X.k * 11 + 4, none⟩ = some (.bool X.D.abstract) ∧ W.cell? ⟨g, o + X.k * 11 + 5, none⟩ = some (.bool X.D.final) ∧ W.cell? ⟨g, o + X.k * 11 + 6, none⟩ = some (.slice X.A2 X.D.vars.length X.c2) ∧ W.cell? ⟨g, o + X.k * 11 + 7, none⟩ = some (.slice X.A3 X.D.methods.length X.c3) ∧ W.cell? ⟨g, o + X.k * 11 + 8, none⟩ = some (.slice X.A4 X.D.body.length X.c4) ∧ W.cell? ⟨g, o + X.k * 11 + 9, none⟩ = some (.int .i64 X.D.every) ∧ W.cell? ⟨g, o + X.k * 11 + 10, none⟩ = some (.int .i64 X.D.first)) := fun W hW => by
    obtain ⟨q0, q⟩ := CE.out W hW
    rw [hcs] at q
    exact ⟨hA ▸ q0, q 0 _ rfl, q 1 _ rfl, q 2 _ rfl, q 3 _ rfl, q 4 _ rfl, q 5 _ rfl, q 6 _ rfl, q 7 _ rfl, q 8 _ rfl, q 9 _ rfl, q 10 _ rfl⟩
  rw [hA] at hR0 y ⊢
  have HR0 := Lib.hid hR0
  have HB := Lib.hid hb0
  rw [hR0] at y z0 z1 z2 z3 z4 z5 z6 z7 z8 z9 z10
  have HOF := Lib.hid hof
  have HOK := Lib.hid h
  clear hR0 hb0 hg0 hs0 hcc hof h hc hcs
  obtain ⟨r, hrr⟩ : ∃ r, r = firstT Rs bc := ⟨_, rfl⟩
  rw [← hrr]
  go_enter Tryz.func10, Tryz.ntmps10
  go_wp2_with fail
  rw [← HR0.out] at y z0 z1 z2 z3 z4 z5 z6 z7 z8 z9 z10 ⊢
  go_region_held3 (fun w' => w'.cell? ⟨w.heap.size, 0, none⟩ = some (.slice (some ⟨g, o, none⟩) X.L.length X.c) ∧ w'.cell? ⟨g, o + X.k * 11, none⟩ = some (.int .i64 X.D.kind) ∧ w'.cell? ⟨g, o + X.k * 11 + 1, none⟩ = some (.string X.D.name) ∧ w'.cell? ⟨g, o + X.k * 11 + 2, none⟩ = some (.string X.D.base) ∧ w'.cell? ⟨g, o + X.k * 11 + 3, none⟩ = some (.slice X.A1 X.D.faces.length X.c1) ∧ w'.cell? ⟨g, o + X.k * 11 + 4, none⟩ = some (.bool X.D.abstract) ∧ w'.cell? ⟨g, o + X.k * 11 + 5, none⟩ = some (.bool X.D.final) ∧ w'.cell? ⟨g, o + X.k * 11 + 6, none⟩ = some (.slice X.A2 X.D.vars.length X.c2) ∧ w'.cell? ⟨g, o + X.k * 11 + 7, none⟩ = some (.slice X.A3 X.D.methods.length X.c3) ∧ w'.cell? ⟨g, o + X.k * 11 + 8, none⟩ = some (.slice X.A4 X.D.body.length X.c4) ∧ w'.cell? ⟨g, o + X.k * 11 + 9, none⟩ = some (.int .i64 X.D.every) ∧ w'.cell? ⟨g, o + X.k * 11 + 10, none⟩ = some (.int .i64 X.D.first))
    (first | exact KS.out _ HB0 | exact KS.out _ HB0.out.drew | exact KS.out _ (HB0.out.drew.alloc (Nat.le_refl _) _) | exact KS.out _ (HB0.out.alloc (Nat.le_refl _) _) | (trace_state; fail))
    (fail)
  rw [← hA]
  obtain ⟨R1, hR1⟩ : ∃ R1 : World, R1 = (R0.alloc (.cells X.cells 55)).drew := ⟨_, rfl⟩
  have hb01 : Below R0.heap.size R0 R1 := by rw [hR1]; exact (HB0.out.alloc (Nat.le_refl _) _).drew
  have hbx : R1.heap[R0.heap.size]? = some (.cells X.cells 55 (0, 0)) := by rw [hR1]; exact heap_alloc_new R0 _
  have HBW : Hid (∀ W, Hid (Below R1.heap.size R1 W) → Hid (Below w.heap.size w W)) := fun W hW => HB.out.trans ((hb01.trans (hW.out.mono hb01.size)).mono HB.out.size)
  have OK1 : Hid (∀ W, Hid (Below R1.heap.size R1 W) → XOk X W I) := fun W hW => HOK.out.below (HBW.out W hW).out
  have AC : Hid (∀ W, Hid (Below R1.heap.size R1 W) → ACells X W R0.heap.size) := fun W hW => ACells.of ((hW.out.block _ (Array.getElem?_eq_some_iff.1 hbx).1).trans hbx)
  rw [← hR1]
  have HB1 : Hid (Below R1.heap.size R1 R1) := Below.refl _ _
  have a3 := (AC.out _ HB1).kind
  clear hR1 hbx z0 z1 z2 z3 z4 z5 z6 z7 z8 z9 z10 y KS CE
  have HA := Lib.hid hA
  clear hA
  go_wp2_with fail
  refine (HOF.out _).mono ?_
  rintro e1 w1 ⟨rfl, hrs1, hb1⟩
  clear a3
  have hnil := fun n c W => rules_nil ⟨R1.heap.size, 0, none⟩ n c W
  go_wp2_with fail
  clear hnil
  refine (ofEach_any _).mono ?_
  rintro e2 w2 ⟨rfl, hrs2, hb2⟩
  have KC : Hid (Calls Tryz.prog 13 #[.slice (some ⟨w2.heap.size, 0, none⟩) 2 2] (w2.alloc (.cells #[.slice (some ⟨w1.heap.size, 0, none⟩) 2 2, .slice (some ⟨R1.heap.size, 0, none⟩) own.length own.length] 56)) fun e w3 => ∃ A3 c3, e = .returned (.slice A3 Rs.length c3) ∧ Hid (∀ W, Hid (Below w3.heap.size w3 W) → RsR W W.heap.size A3 (Rs.map (·.1))) ∧ Hid (Below R1.heap.size R1 w3)) := by
    have hg2 : (w2.alloc (.cells #[.slice (some ⟨w1.heap.size, 0, none⟩) 2 2, .slice (some ⟨R1.heap.size, 0, none⟩) own.length own.length] 56)).heap[w2.heap.size]? = some (.cells #[.slice (some ⟨w1.heap.size, 0, none⟩) 2 2, .slice (some ⟨R1.heap.size, 0, none⟩) own.length own.length] 56 (0, 0)) := heap_alloc_new w2 _
    have hba : Below w2.heap.size w2 (w2.alloc (.cells #[.slice (some ⟨w1.heap.size, 0, none⟩) 2 2, .slice (some ⟨R1.heap.size, 0, none⟩) own.length own.length] 56)) := (Below.refl _ _).alloc (Nat.le_refl _) _
    have hbb : Below R1.heap.size R1 (w2.alloc (.cells #[.slice (some ⟨w1.heap.size, 0, none⟩) 2 2, .slice (some ⟨R1.heap.size, 0, none⟩) own.length own.length] 56)) := hb1.out.trans ((hb2.out.trans (hba.mono hb2.out.size)).mono hb1.out.size)
    have hRl : Rs.length = (eachR ++ own).length := by rw [← hRs]; simp
    refine (ruConcat_any [eachR, own] w2.heap.size (fun i => if i = 0 then some ⟨w1.heap.size, 0, none⟩ else some ⟨R1.heap.size, 0, none⟩) (fun i => if i = 0 then 2 else own.length) _ (by simp) (fun i hi => ?_) (by simp [eachR]; omega) (by simp) (eachR ++ own) (by simp)).mono fun e w3 hh => ?_
    · match i, hi with
      | 0, _ => exact ⟨(cell_of_row _ _ 0 _ _ _ hg2).trans rfl, RsR.mono hba.size hba.block hrs2.out⟩
      | 1, _ => exact ⟨(cell_of_row _ _ 1 _ _ _ hg2).trans rfl, RsR.mono (Nat.le_trans hb2.out.size hba.size) (fun q hq => (hba.block q (Nat.lt_of_lt_of_le hq hb2.out.size)).trans (hb2.out.block q hq)) hrs1.out⟩
    · obtain ⟨A3, c3, h1, h2, h3⟩ := hh
      refine ⟨A3, c3, by rw [hRl]; exact h1, fun W hW => ?_, hbb.trans (h3.mono hbb.size)⟩
      rw [hRs]
      exact (h2.below hW.out).rsr
  go_wp2_with fail
  refine KC.out.mono ?_
  rintro e3 w3 ⟨A3, c3, rfl, hrow, hb3⟩
  clear KC hrs1 hrs2 hb1 hb2
  have HR3 : Hid (r = firstT Rs bc) := hrr
  have HRL : Hid (Rs.length ≤ 2000) := by
    have := congrArg List.length hRs
    simp [eachR] at this
    show Rs.length ≤ 2000
    omega
  have HEN : Hid (∀ x ∈ Rs, Enters Tryz.prog x.1.fn) := hen
  have HRR : Hid (∀ x ∈ Rs, ∀ W, XOk X W I → Calls Tryz.prog x.1.fn #[X.val] W fun e w' => e = .returned (.bool x.2) ∧ Hid (Below W.heap.size W w')) := hr
  have HBO : Hid (∀ W, XOk X W I → Calls Tryz.prog 15 #[X.val] W fun e w' => e = .returned (.int .i64 bc) ∧ Hid (Below W.heap.size W w')) := hbo
  clear hrr hen hr hbo hRs hown
  go_wp2_with fail
  go_loopw [40] (fun i wr => ∃ j : Nat, j ≤ Rs.length ∧ i = .int .i64 j ∧ Hid (Below w3.heap.size w3 wr) ∧ Hid (r = firstT (Rs.drop j) bc)) (fun i _ => Rs.length - (intOf i).toNat)
  case atStart => exact ⟨0, Nat.zero_le _, rfl, Below.refl _ _, HR3⟩
  case round =>
    obtain ⟨j, hj, rfl, hbr, hrj⟩ := hrel
    have hrl : Rs.length ≤ 2000 := HRL.out
    have h2 : (0 : Int) ≤ (j : Int) := by omega
    have HBR : Hid (Below R1.heap.size R1 wr) := hb3.out.trans (hbr.out.mono hb3.out.size)
    by_cases hlt : j < Rs.length
    · have h1 : (j : Int) < (Rs.length : Int) := by omega
      have hml : j < (Rs.map (·.1)).length := by simpa using hlt
      obtain ⟨g3, o3, cs3, rfl, hg3, hlen3, hc3, he3⟩ := (hrow.out wr hbr) j hml
      rw [List.getElem_map] at he3
      have hrv := hrj.out
      rw [List.drop_eq_getElem_cons hlt] at hrv
      have KE := Lib.hid (HEN.out _ (List.getElem_mem hlt))
      have KR := Lib.hid (HRR.out _ (List.getElem_mem hlt))
      obtain ⟨x, hx⟩ : ∃ x, x = Rs[j] := ⟨_, rfl⟩
      rw [← hx] at he3 hrv KE KR
      obtain ⟨⟨rc, rf⟩, rb⟩ := x
      rw [firstT] at hrv
      obtain rfl : cs3 = [.int .i64 rc, .func (.func rf) #[] #[]] := he3
      have y0 := hc3 0 _ rfl
      have y1 := hc3 1 _ rfl
      rw [Nat.add_zero] at y0
      obtain ⟨R4, hR4⟩ : ∃ R4 : World, R4 = wr.alloc (.cells #[.int .i64 rc, .func (.func rf) #[] #[]] 61) := ⟨_, rfl⟩
      have hb4 : Below wr.heap.size wr R4 := by rw [hR4]; exact (Below.refl _ _).alloc (Nat.le_refl _) _
      have hg4 : R4.heap[wr.heap.size]? = some (.cells #[.int .i64 rc, .func (.func rf) #[] #[]] 61 (0, 0)) := by rw [hR4]; exact heap_alloc_new wr _
      have HBR4 : Hid (Below R1.heap.size R1 R4) := HBR.out.trans (hb4.mono HBR.out.size)
      have CR : Hid (∀ W, Hid (Below R4.heap.size R4 W) → W.cell? ⟨wr.heap.size, 0, none⟩ = some (.int .i64 rc) ∧ W.cell? ⟨wr.heap.size, 1, none⟩ = some (.func (.func rf) #[] #[])) := fun W hW => by
        have q := (hW.out.block _ (Array.getElem?_eq_some_iff.1 hg4).1).trans hg4
        exact ⟨(cell_of_row _ _ 0 _ _ _ q).trans rfl, (cell_of_row _ _ 1 _ _ _ q).trans rfl⟩
      obtain ⟨x0, x1⟩ := CR.out R4 (Below.refl _ _)
      obtain ⟨a0, a1, a2, a3, a4, a5, a6, a7, a8, a9, a10, a11, a12, a13⟩ := AC.out _ HBR4
      have KR4 : Hid (Calls Tryz.prog rf #[X.val] R4 fun e w' => e = .returned (.bool rb) ∧ Hid (Below R4.heap.size R4 w')) := KR.out R4 (OK1.out _ HBR4)
      have HB4 := Lib.hid hb4
      have HR4 := Lib.hid hR4
      rw [hR4] at x0 x1 a0 a1 a2 a3 a4 a5 a6 a7 a8 a9 a10 a11 a12 a13
      have HRV := Lib.hid hrv
      clear hc3 hlen3 hg3 hrv hx hb4 hg4 hR4 KR
      go_wp2_with fail
      rw [KE.out, Oper.upon_enter]
      rw [← HR4.out]
      refine KR4.out.mono ?_
      rintro e5 w5 ⟨rfl, hb5⟩
      clear a0 a1 a2 a3 a4 a5 a6 a7 a8 a9 a10 a11 a12 a13 x0 x1 y0 y1
      have HN5 : Hid (Below w3.heap.size w3 w5) := hbr.out.trans ((HB4.out.trans (hb5.out.mono HB4.out.size)).mono hbr.out.size)
      cases rb
      · have HQ : Hid (r = firstT (Rs.drop (j + 1)) bc) := HRV.out
        go_wp2_with fail
        go_roundw
        case rel => exact ⟨j + 1, by omega, by go_num, HN5, HQ⟩
        case measure => simp [intOf]; omega
      · have HQ : Hid (r = rc) := HRV.out
        obtain ⟨x0, x1⟩ := CR.out _ hb5
        go_wp2_with fail
        go_ret
        exact ⟨by rw [HQ.out]; rfl, HBW.out _ (hb3.out.trans (HN5.out.mono hb3.out.size))⟩
    · have h1 : ¬ (j : Int) < (Rs.length : Int) := by omega
      have HQ : Hid (r = bc) := Lib.hid (by rw [hrj.out, List.drop_eq_nil_of_le (by omega)]; rfl)
      obtain ⟨a0, a1, a2, a3, a4, a5, a6, a7, a8, a9, a10, a11, a12, a13⟩ := AC.out _ HBR
      have KB4 : Hid (Calls Tryz.prog 15 #[X.val] wr fun e w' => e = .returned (.int .i64 bc) ∧ Hid (Below wr.heap.size wr w')) := HBO.out wr (OK1.out _ HBR)
      go_wp2_with fail
      refine KB4.out.mono ?_
      rintro e5 w5 ⟨rfl, hb5⟩
      clear a0 a1 a2 a3 a4 a5 a6 a7 a8 a9 a10 a11 a12 a13
      go_wp2_with fail
      go_ret
      exact ⟨by rw [HQ.out]; rfl, HBW.out _ (HBR.out.trans (hb5.out.mono HBR.out.size))⟩
end Go.Proofs.YtbgilpmoijdcfaaGreat

/-
  rules.Decl, rules.Unit of units of programs that execute nothing, and of tasks, BY CONTRACTS.
-/
namespace Go.Proofs.YtbgilpmoijdcfaaGreat
open Go Go.RowKit Go.Shelf
set_option linter.unusedVariables false
set_option linter.unusedSimpArgs false

def GIn : Int × Int → List Value → Prop := fun x cs => cs = [.int .i64 x.1, .int .i64 x.2]
abbrev GsR (w : World) (B : Nat) (A : Option Addr) (l : List (Int × Int)) : Prop := RowIn GIn w B A 2 l
theorem GsR.mono {w w' : World} {B B' : Nat} (hb : B ≤ B') (hk : ∀ g, g < B → w'.heap[g]? = w.heap[g]?) {A : Option Addr} {l : List (Int × Int)} (h : GsR w B A l) : GsR w' B' A l := RowIn.mono hb hk (fun _ _ _ h => h) h
theorem Tryz.infoWrongs : (Tryz.prog.info? 48).map (fun i => (i.zero.map (·.cells.size), i.size, i.bytes)) = some (some 2, 2, 16) := by kernel_rfl
theorem gin_one {r : Int × Int} {cs : List Value} (h : GIn r cs) : ∀ u ∈ cs, u.oneCell' = true := by
  obtain rfl := h
  simp [Value.oneCell']
/-- v is a row of the call's own (from block B on) that holds these variables. -/
def GRow (B : Nat) (w : World) (A : Option Addr) (c : Nat) (l : List (Int × Int)) : Prop := ∃ xs, w.ownsRow B 48 2 (.slice A l.length c) l.length xs ∧ ∀ (k : Nat) (hk : k < l.length), GIn l[k] ((xs.drop (k * 2)).take 2)
theorem GRow.gsr {B : Nat} {w : World} {A : Option Addr} {c : Nat} {l : List (Int × Int)} (h : GRow B w A c l) : GsR w w.heap.size A l := by
  obtain ⟨xs, h1, h2⟩ := h
  obtain ⟨A', c', e, h3⟩ := row_owned (R := GIn) rfl h1 h2
  simp only [Value.slice.injEq, true_and] at e
  obtain ⟨rfl, rfl⟩ := e
  exact h3

theorem GRow.below {B : Nat} {w w' : World} {A : Option Addr} {c : Nat} {l : List (Int × Int)} (h : GRow B w A c l) (hb : Below w.heap.size w w') : GRow B w' A c l := by
  obtain ⟨xs, h1, h2⟩ := h
  exact ⟨xs, ownsRow_far h1 hb, h2⟩
theorem GRow.nil (B : Nat) (w : World) : GRow B w none 0 [] := ⟨[], World.ownsRow_nil _ _ _ _, fun k hk => by simp at hk⟩
theorem GRow.lower {B B' : Nat} {w : World} {A : Option Addr} {c : Nat} {l : List (Int × Int)} (h : GRow B w A c l) (hb : B' ≤ B) : GRow B' w A c l := by
  obtain ⟨xs, h1, h2⟩ := h
  exact ⟨xs, ownsRow_lower hb h1, h2⟩

/-- append of a row of variables, wherever it lies, onto one of the call's own. -/
theorem app_wrongs {B B' : Nat} {W : World} {A A1 : Option Addr} {c c1 : Nat} {l m : List (Int × Int)} (h : GRow B W A c l) (hm : GsR W B' A1 m) (hlen : l.length + m.length ≤ 1700000000000) (hB : B ≤ W.heap.size) :
    ∃ A' c' w', (Builtin.append_ #[32, 32] 32 #[.slice A l.length c, .slice A1 m.length c1]).run Tryz.prog W = .ok (.slice A' (l ++ m).length c') w' ∧ GRow B w' A' c' (l ++ m) ∧ Below B W w' ∧ W.grownBy w' (Value.slice A l.length c).ownBlock ∧
      ((Value.slice A' (l ++ m).length c').ownBlock = (Value.slice A l.length c).ownBlock ∨ (Value.slice A' (l ++ m).length c').ownBlock = some W.heap.size) := by
  have hi0 : (Tryz.prog.info? 48).map (fun i => (i.zero.map (·.cells.size), i.size, i.bytes)) = some (some 2, 2, 16) := Tryz.infoWrongs
  obtain ⟨i0, hi, hz0, hz1, hz2⟩ : ∃ i0, Tryz.prog.info? 48 = some i0 ∧ i0.zero.map (·.cells.size) = some 2 ∧ i0.size = 2 ∧ i0.bytes = 16 := by
    cases hq : Tryz.prog.info? 48 with
    | none => rw [hq] at hi0; simp at hi0
    | some i0 => rw [hq] at hi0; simp at hi0; exact ⟨i0, rfl, by simpa using hi0.1, hi0.2.1, hi0.2.2⟩
  obtain ⟨z, hz, hzs⟩ := Option.map_eq_some_iff.1 hz0
  obtain ⟨xs, hown, hx⟩ := h
  obtain ⟨ys, y1, y2, y3, y4⟩ := row_cells (by decide) (fun a cs h => gin_one h) hm
  have hA : (A1 = none ∧ m.length = 0) ∨ ∃ g o, A1 = some ⟨g, o, none⟩ ∨ (m.length = 0 ∧ A1 = some ⟨g, o, none⟩) ∨ (m.length = 0 ∧ ∃ a, A1 = some a) := by
    cases A1 with
    | none =>
      left
      refine ⟨rfl, ?_⟩
      rcases Nat.eq_zero_or_pos m.length with h0 | h0
      · exact h0
      · obtain ⟨g, o, cs, e, _⟩ := hm 0 h0
        cases e
    | some a =>
      right
      rcases Nat.eq_zero_or_pos m.length with h0 | h0
      · exact ⟨0, 0, .inr (.inr ⟨h0, a, rfl⟩)⟩
      · obtain ⟨g, o, cs, e, _⟩ := hm 0 h0
        exact ⟨g, o, .inl e⟩
  have run : ∃ v' w', (Builtin.append_ #[32, 32] 32 #[.slice A l.length c, .slice A1 m.length c1]).run Tryz.prog W = .ok v' w' ∧ w'.ownsRow B 48 2 v' (l.length + m.length) (xs ++ ys) ∧ W.grownBy w' (Value.slice A l.length c).ownBlock ∧ (v'.ownBlock = (Value.slice A l.length c).ownBlock ∨ v'.ownBlock = some W.heap.size) := by
    have go : ∀ c1 : Nat, ((A1 = none ∧ m.length = 0 ∧ c1 = 0) ∨ (m.length = 0 ∧ ∃ a, A1 = some a) ∨ ∃ g o, A1 = some ⟨g, o, none⟩) → ∃ v' w', (Builtin.append_ #[32, 32] 32 #[.slice A l.length c, .slice A1 m.length c1]).run Tryz.prog W = .ok v' w' ∧ w'.ownsRow B 48 2 v' (l.length + m.length) (xs ++ ys) ∧ W.grownBy w' (Value.slice A l.length c).ownBlock ∧ (v'.ownBlock = (Value.slice A l.length c).ownBlock ∨ v'.ownBlock = some W.heap.size) := fun c1 hA => app_run (P := Tryz.prog) (w := W) (base := B) (t := 32) (ty := 32) (bytes := 16) Tryz.underlying32 hi hz hz1 hz2 hzs (by decide) hown (A := A1) (m := m.length) (c := c1) (news := ys) y1 (fun g o e j u hj => y2 g o e j u hj) hA y3 (by unfold maxLen; omega) (by omega) hB
    rcases hA with ⟨h1, h2⟩ | ⟨g, o, h1 | ⟨h2, h1⟩ | ⟨h2, h1⟩⟩
    · have := go 0 (.inl ⟨h1, h2, rfl⟩)
      rw [h1, h2, append_capless]
      rw [h1, h2] at this
      exact this
    · exact go c1 (.inr (.inr ⟨g, o, h1⟩))
    · exact go c1 (.inr (.inr ⟨g, o, h1⟩))
    · exact go c1 (.inr (.inl ⟨h2, h1⟩))
  obtain ⟨v', w', k1, k2, k3, k4⟩ := run
  have hlm : (l ++ m).length = l.length + m.length := List.length_append
  have hshape : ∃ A' c', v' = .slice A' (l ++ m).length c' := by
    rcases k2.2 with ⟨h1, h2⟩ | ⟨g, cap, cur, h1, _⟩
    · exact ⟨none, 0, by rw [h1, hlm, h2]⟩
    · exact ⟨_, cap, by rw [h1, hlm]⟩
  obtain ⟨A', c', rfl⟩ := hshape
  refine ⟨A', c', w', k1, ⟨xs ++ ys, by rw [← hlm] at k2; exact k2, fun k hk => ?_⟩, (Below.refl B W).grown k3 hB (fun j hj => (hown.lt j hj).1), k3, k4⟩
  have hxl : xs.length = l.length * 2 := hown.1
  by_cases hkn : k < l.length
  · rw [List.getElem_append_left hkn]
    have e : (((xs ++ ys).drop (k * 2)).take 2) = ((xs.drop (k * 2)).take 2) := by
      have : (k + 1) * 2 ≤ l.length * 2 := Nat.mul_le_mul_right _ (by omega)
      rw [List.drop_append_of_le_length (by omega), List.take_append_of_le_length (by simp only [List.length_drop]; omega)]
    rw [e]
    exact hx k hkn
  · have hk2 : k - l.length < m.length := by simp at hk; omega
    rw [List.getElem_append_right (by omega)]
    have e : (((xs ++ ys).drop (k * 2)).take 2) = ((ys.drop ((k - l.length) * 2)).take 2) := by
      have e1 : k * 2 = xs.length + (k - l.length) * 2 := by
        have e2 : l.length + (k - l.length) = k := by omega
        rw [hxl, ← Nat.add_mul, e2]
      rw [e1, ← List.drop_drop, List.drop_left]
    rw [e]
    exact y4 (k - l.length) hk2
set_option maxHeartbeats 1000000 in
theorem sameWrongs_any (l : List (Int × Int)) (A1 A2 : Option Addr) (c1 c2 : Nat) (w : World) (h1 : GsR w w.heap.size A1 l) (h2 : GsR w w.heap.size A2 l) (hm : l.length ≤ 1000000) :
    Calls Tryz.prog 11 #[.slice A1 l.length c1, .slice A2 l.length c2] w fun e w' => e = .returned (.bool true) ∧ Hid (Below w.heap.size w w') := by
  have H1 := Lib.hid h1
  have H2 := Lib.hid h2
  clear h1 h2
  go_enter Tryz.func11, Tryz.ntmps11
  go_wp2_with fail
  go_loopw [5] (fun i wr => ∃ k : Nat, k ≤ l.length ∧ i = .int .i64 k ∧ Hid (Below w.heap.size w wr)) (fun i _ => l.length - (intOf i).toNat)
  case atStart => exact ⟨0, Nat.zero_le _, rfl, Below.refl _ _⟩
  case round =>
    obtain ⟨k, hk, rfl, hb⟩ := hrel
    by_cases hlt : k < l.length
    · obtain ⟨g1, o1, cs1, rfl, hg1, hl1, hc1, he1⟩ := (GsR.mono (Nat.le_refl _) hb.out.block H1.out) k hlt
      obtain ⟨g2, o2, cs2, rfl, hg2, hl2, hc2, he2⟩ := (GsR.mono (Nat.le_refl _) hb.out.block H2.out) k hlt
      obtain ⟨x, hx⟩ : ∃ x, x = l[k] := ⟨_, rfl⟩
      rw [← hx] at he1 he2
      obtain rfl := he1
      obtain rfl := he2
      have x10 := hc1 0 _ rfl
      have x11 := hc1 1 _ rfl
      have x20 := hc2 0 _ rfl
      have x21 := hc2 1 _ rfl
      rw [Nat.add_zero] at x10 x20
      clear hc1 hc2 hl1 hl2 hx
      have hz : (k : Int) < (l.length : Int) := by omega
      have hz0 : (0 : Int) ≤ (k : Int) := by omega
      go_wp2_with fail
      go_quiet (fail)
      go_wp2
      go_roundw
      case rel => exact ⟨k + 1, by omega, by go_num, below_drewN hb.out _⟩
      case measure => simp [intOf]; omega
    · have hz : ¬ (k : Int) < (l.length : Int) := by omega
      go_wp2
      go_ret
      exact ⟨rfl, hb⟩
/-- programs that execute nothing, and tasks. -/
structure SmallU (L : List DT) : Prop extends FitA L where
  kinds : ∀ d ∈ L, d.kind = 4 ∨ (d.kind = 3 ∧ d.body = [])
def rulesOf (L : List DT) (D : DT) (k : Nat) : List (RT × Bool) :=
  if D.kind = 3 then [(⟨5, 33⟩, greatT D k), (⟨6, 34⟩, againNameT L D.name k), (⟨9, 26⟩, D.vars.any (oddVarT L)), (⟨10, 27⟩, D.vars.any (fun v => !startT v)), (⟨16, 28⟩, oddSlotT (takenT (aheadT L k 3)) D.vars), (⟨6, 29⟩, dupT (D.vars.map VT.name))]
  else [(⟨5, 33⟩, greatT D k), (⟨6, 34⟩, againNameT L D.name k), (⟨17, 30⟩, oddProgT L D k), (⟨17, 31⟩, oddTimesT D)]
def codeT (L : List DT) (d : Int) : Int := if 0 ≤ d then (match L[d.toNat]? with | some D => firstT (rulesOf L D d.toNat) 0 | none => 22) else 22
theorem Tryz.enters_isGreat : Enters Tryz.prog 33 := enters_of Tryz.func33 (by kernel_rfl) rfl
theorem Tryz.enters_isNamedAgain : Enters Tryz.prog 34 := enters_of Tryz.func34 (by kernel_rfl) rfl
theorem Tryz.enters_hasOddVar : Enters Tryz.prog 26 := enters_of Tryz.func26 (by kernel_rfl) rfl
theorem Tryz.enters_hasOddVarStart : Enters Tryz.prog 27 := enters_of Tryz.func27 (by kernel_rfl) rfl
theorem Tryz.enters_hasOddSlot : Enters Tryz.prog 28 := enters_of Tryz.func28 (by kernel_rfl) rfl
theorem Tryz.enters_hasVarAgain : Enters Tryz.prog 29 := enters_of Tryz.func29 (by kernel_rfl) rfl
theorem Tryz.enters_hasOddProgram : Enters Tryz.prog 30 := enters_of Tryz.func30 (by kernel_rfl) rfl
theorem Tryz.enters_hasOddTimes : Enters Tryz.prog 31 := enters_of Tryz.func31 (by kernel_rfl) rfl
theorem code_in (L : List DT) (A : Option Addr) (c p N : Nat) (I : IX) (k : Nat) (w : World) (h : XAt L A c p N w I) (hs : SmallU L) (hc : L.length ≤ c) (hk : k < L.length) :
    Calls Tryz.prog 10 #[.agg #[.slice A L.length c], .pointer (some ⟨p, 0, none⟩), .int .i64 (k : Int)] w fun e w' => e = .returned (.int .i64 (codeT L k)) ∧ Hid (Below w.heap.size w w') := by
  obtain ⟨g, o, cs, hA, hg, hlen, hcs, he⟩ := h.row k hk
  have hin := he
  obtain ⟨P1, q1, P2, q2, P3, q3, P4, q4, rfl, he1, he2, hfa, hva, hme, hbo⟩ := he
  have hmem : L[k] ∈ L := List.getElem_mem hk
  have hm := hs.methods _ hmem
  have hv : L[k].vars.length ≤ 1000000000 := Nat.le_trans (hs.vars _ hmem) (by decide)
  have hvs : ∀ d ∈ L, d.vars.length ≤ 1000000000 := fun d hd => Nat.le_trans (hs.vars d hd) (by decide)
  have ok : XOk ⟨L, A, c, p, N, k, L[k], P1, P2, P3, P4, q1, q2, q3, q4⟩ w I := ⟨h, hs.toFitA, hk, rfl, hfa, hva, hme, hbo, he1, he2, hc⟩
  have hcode : codeT L (k : Int) = firstT (rulesOf L L[k] k) 0 := by simp [codeT, List.getElem?_eq_getElem hk]
  rw [hcode]
  rcases hs.kinds _ hmem with h4 | ⟨h3, hb⟩
  · have hne : ¬ L[k].kind = 3 := by rw [h4]; decide
    refine code_any ⟨L, A, c, p, N, k, L[k], P1, P2, P3, P4, q1, q2, q3, q4⟩ I w taskR (rulesOf L L[k] k) 0 g o _ ok hA hg rfl hcs (by simp [taskR]) (by simp only [rulesOf, if_neg hne]; rfl) (fun W => ?_) ?_ ?_ (fun W hW => bodies_any _ I W hW (.inl h4))
    · show Calls Tryz.prog _ #[.int .i64 L[k].kind] W _
      rw [h4]
      exact ofKind_task W
    · simp only [rulesOf, if_neg hne]
      intro x hx
      simp only [List.mem_cons, List.not_mem_nil, or_false] at hx
      rcases hx with rfl | rfl | rfl | rfl
      · exact Tryz.enters_isGreat
      · exact Tryz.enters_isNamedAgain
      · exact Tryz.enters_hasOddProgram
      · exact Tryz.enters_hasOddTimes
    · simp only [rulesOf, if_neg hne]
      intro x hx W hW
      simp only [List.mem_cons, List.not_mem_nil, or_false] at hx
      rcases hx with rfl | rfl | rfl | rfl
      · exact isGreat_any _ I W hW hm
      · exact isNamedAgain_any _ I W hW
      · exact hasOddProgram_any _ I W hW
      · exact hasOddTimes_any _ I W hW
  · refine code_any ⟨L, A, c, p, N, k, L[k], P1, P2, P3, P4, q1, q2, q3, q4⟩ I w progR (rulesOf L L[k] k) 0 g o _ ok hA hg rfl hcs (by simp [progR]) (by simp only [rulesOf, if_pos h3]; rfl) (fun W => ?_) ?_ ?_ (fun W hW => bodies_any _ I W hW (.inr ⟨h3, hb⟩))
    · show Calls Tryz.prog _ #[.int .i64 L[k].kind] W _
      rw [h3]
      exact ofKind_prog W
    · simp only [rulesOf, if_pos h3]
      intro x hx
      simp only [List.mem_cons, List.not_mem_nil, or_false] at hx
      rcases hx with rfl | rfl | rfl | rfl | rfl | rfl
      · exact Tryz.enters_isGreat
      · exact Tryz.enters_isNamedAgain
      · exact Tryz.enters_hasOddVar
      · exact Tryz.enters_hasOddVarStart
      · exact Tryz.enters_hasOddSlot
      · exact Tryz.enters_hasVarAgain
    · simp only [rulesOf, if_pos h3]
      intro x hx W hW
      simp only [List.mem_cons, List.not_mem_nil, or_false] at hx
      rcases hx with rfl | rfl | rfl | rfl | rfl | rfl
      · exact isGreat_any _ I W hW hm
      · exact isNamedAgain_any _ I W hW
      · exact hasOddVar_any _ I W hW hv
      · exact hasOddVarStart_any _ I W hW hv
      · exact hasOddSlot_any _ I W hW hvs
      · exact hasVarAgain_any _ I W hW hv
theorem code_out (L : List DT) (A : Option Addr) (c p : Nat) (d : Int) (w : World) (hd : d < 0 ∨ (L.length : Int) ≤ d) :
    Calls Tryz.prog 10 #[.agg #[.slice A L.length c], .pointer (some ⟨p, 0, none⟩), .int .i64 d] w fun e w' => e = .returned (.int .i64 (codeT L d)) ∧ Hid (Below w.heap.size w w') := by
  have hcode : codeT L d = 22 := by
    unfold codeT
    rcases hd with h | h
    · rw [if_neg (by omega)]
    · rw [if_pos (by omega), List.getElem?_eq_none (by omega)]
  rw [hcode]
  obtain ⟨R0, hR0⟩ : ∃ R0 : World, R0 = w.alloc (.cells #[.slice A L.length c] 31) := ⟨_, rfl⟩
  have hg0 : R0.heap[w.heap.size]? = some (.cells #[.slice A L.length c] 31 (0, 0)) := by rw [hR0]; exact heap_alloc_new w _
  have HB : Hid (Below w.heap.size w R0) := by rw [hR0]; exact (Below.refl _ _).alloc (Nat.le_refl _) _
  have y : R0.cell? ⟨w.heap.size, 0, none⟩ = some (.slice A L.length c) := (cell_of_row _ _ 0 _ _ _ hg0).trans rfl
  have HR0 := Lib.hid hR0
  rw [hR0] at y
  clear hR0 hg0 hcode
  by_cases h0 : d < 0
  · go_enter Tryz.func10, Tryz.ntmps10
    go_wp2_with fail
    go_ret
    exact ⟨rfl, HR0.out ▸ HB⟩
  · have h1 : (L.length : Int) ≤ d := by omega
    have h2 : ¬ d < 0 := h0
    go_enter Tryz.func10, Tryz.ntmps10
    go_wp2_with fail
    go_ret
    exact ⟨rfl, HR0.out ▸ HB⟩
theorem code_small (L : List DT) (A : Option Addr) (c p N : Nat) (I : IX) (d : Int) (w : World) (h : XAt L A c p N w I) (hs : SmallU L) (hc : L.length ≤ c) :
    Calls Tryz.prog 10 #[.agg #[.slice A L.length c], .pointer (some ⟨p, 0, none⟩), .int .i64 d] w fun e w' => e = .returned (.int .i64 (codeT L d)) ∧ Hid (Below w.heap.size w w') := by
  by_cases h0 : d < 0 ∨ (L.length : Int) ≤ d
  · exact code_out L A c p d w h0
  · obtain ⟨k, rfl⟩ : ∃ k : Nat, d = k := ⟨d.toNat, by omega⟩
    exact code_in L A c p N I k w h hs hc (by omega)
set_option maxHeartbeats 1000000 in
set_option maxRecDepth 100000 in
theorem Decl_any (L : List DT) (A : Option Addr) (c : Nat) (d : Int) (w : World) (ha : DsR w w.heap.size A L) (hs : SmallU L) (hc : L.length ≤ c) :
    Calls Tryz.prog 7 #[.agg #[.slice A L.length c], .int .i64 d] w fun e w' => e = .returned (.int .i64 (codeT L d)) ∧ Hid (Below w.heap.size w w') := by
  obtain ⟨R0, hR0⟩ : ∃ R0 : World, R0 = w.alloc (.cells #[.slice A L.length c] 31) := ⟨_, rfl⟩
  have hu : UAt w R0 A c L := hR0 ▸ UAt.of ha
  have HU := Lib.hid hu
  have HB0 : Hid (Below R0.heap.size R0 R0) := Below.refl _ _
  have KO : Hid (∀ W, Hid (Below R0.heap.size R0 W) → Calls Tryz.prog 9 #[.agg #[.slice A L.length c]] W fun e w' => ∃ p, e = .returned (.pointer (some ⟨p, 0, none⟩)) ∧ Hid (XAt L A c p W.heap.size w' ⟨none, none⟩) ∧ Hid (Below R0.heap.size R0 w')) := fun W hW => (of_any L A c W (hu.rowAt hW.out)).mono fun e w' ⟨p, h1, h2, h3⟩ => ⟨p, h1, h2, hW.out.trans (h3.out.mono hW.out.size)⟩
  have KC : Hid (∀ W p N, Hid (XAt L A c p N W ⟨none, none⟩) → Hid (Below R0.heap.size R0 W) → Calls Tryz.prog 10 #[.agg #[.slice A L.length c], .pointer (some ⟨p, 0, none⟩), .int .i64 d] W fun e w' => e = .returned (.int .i64 (codeT L d)) ∧ Hid (Below R0.heap.size R0 w')) := fun W p N hx hW => (code_small L A c p N _ d W hx.out hs hc).mono fun e w' hh => ⟨hh.1, hW.out.trans (hh.2.out.mono hW.out.size)⟩
  have CE : Hid (∀ W, Hid (Below R0.heap.size R0 W) → W.cell? ⟨w.heap.size, 0, none⟩ = some (.slice A L.length c)) := fun W hW => hu.cell W hW.out
  obtain ⟨r, hr⟩ : ∃ r, r = codeT L d := ⟨_, rfl⟩
  rw [← hr] at KC ⊢
  have y0 := CE.out _ HB0
  have HR0 := Lib.hid hR0
  rw [hR0] at y0
  clear hu hR0 hr hs ha hc
  go_enter Tryz.func7, Tryz.ntmps7
  go_wp2_with fail
  rw [← HR0.out] at y0 ⊢
  go_region_held3 (fun w' => w'.cell? ⟨w.heap.size, 0, none⟩ = some (.slice A L.length c)) (first | exact CE.out _ HB0 | exact CE.out _ HB0.out.drew | exact CE.out _ hb2 | exact CE.out _ hb1)
    (first | (go_at_call 9; refine (KO.out _ (by first | exact HB0 | exact HB0.out.drew)).mono ?_; rintro e1 w1 ⟨p, rfl, hx1, hb1⟩) | (go_at_call 10; refine (KC.out _ _ _ hx1 hb1).mono ?_; rintro e2 w2 ⟨rfl, hb2⟩))
  go_wp2_with fail
  go_ret
  exact ⟨rfl, HU.out.out hb2.out⟩
def wrongsT (L : List DT) : Nat → List (Int × Int)
  | 0 => []
  | k + 1 => wrongsT L k ++ (if codeT L k = 0 then [] else [(codeT L k, (k : Int))])
theorem wrongs_len (L : List DT) : ∀ k, (wrongsT L k).length ≤ k
  | 0 => Nat.le_refl _
  | k + 1 => by
    have := wrongs_len L k
    rw [wrongsT, List.length_append]
    split <;> simp <;> omega
set_option maxHeartbeats 2000000 in
set_option maxRecDepth 100000 in
theorem Unit_rules (L : List DT) (A : Option Addr) (c : Nat) (w : World) (ha : DsR w w.heap.size A L) (hs : SmallU L) (hc : L.length ≤ c) :
    Calls Tryz.prog 6 #[.agg #[.slice A L.length c]] w fun e w' => ∃ A' c', e = .returned (.slice A' (wrongsT L L.length).length c') ∧ Hid (GRow w.heap.size w' A' c' (wrongsT L L.length)) ∧ Hid (Below w.heap.size w w') := by
  obtain ⟨R0, hR0⟩ : ∃ R0 : World, R0 = w.alloc (.cells #[.slice A L.length c] 31) := ⟨_, rfl⟩
  have hu : UAt w R0 A c L := hR0 ▸ UAt.of ha
  have HU := Lib.hid hu
  have HB0 : Hid (Below R0.heap.size R0 R0) := Below.refl _ _
  have KO : Hid (∀ W, Hid (Below R0.heap.size R0 W) → Calls Tryz.prog 9 #[.agg #[.slice A L.length c]] W fun e w' => ∃ p, e = .returned (.pointer (some ⟨p, 0, none⟩)) ∧ Hid (XAt L A c p W.heap.size w' ⟨none, none⟩) ∧ Hid (Below R0.heap.size R0 w')) := fun W hW => (of_any L A c W (hu.rowAt hW.out)).mono fun e w' ⟨p, h1, h2, h3⟩ => ⟨p, h1, h2, hW.out.trans (h3.out.mono hW.out.size)⟩
  have KC : Hid (∀ W p N (d : Int), Hid (XAt L A c p N W ⟨none, none⟩) → Calls Tryz.prog 10 #[.agg #[.slice A L.length c], .pointer (some ⟨p, 0, none⟩), .int .i64 d] W fun e w' => e = .returned (.int .i64 (codeT L d)) ∧ Hid (Below W.heap.size W w')) := fun W p N d hx => code_small L A c p N _ d W hx.out hs hc
  have CE : Hid (∀ W, Hid (Below R0.heap.size R0 W) → W.cell? ⟨w.heap.size, 0, none⟩ = some (.slice A L.length c)) := fun W hW => hu.cell W hW.out
  have hcnt : L.length ≤ 1000000000 := hs.toFitA.toFit.cnt
  have HO : Hid (∀ W, Hid (Below R0.heap.size R0 W) → Hid (Below w.heap.size w W)) := fun W hW => hu.out hW.out
  obtain ⟨r, hr⟩ : ∃ r, r = wrongsT L L.length := ⟨_, rfl⟩
  have HR := Lib.hid hr
  rw [← hr]
  have y0 := CE.out _ HB0
  have HS0 : Hid (w.heap.size ≤ R0.heap.size) := hu.below.size
  have HR0 := Lib.hid hR0
  rw [hR0] at y0
  clear hu hR0 hr hs ha hc
  go_enter Tryz.func6, Tryz.ntmps6
  go_wp2_with fail
  rw [← HR0.out]
  refine (KO.out _ HB0).mono ?_
  rintro e1 w1 ⟨p, rfl, hx1, hb1⟩
  clear y0
  have y0 := CE.out _ hb1
  go_wp2_with fail
  go_loopw [4, 12] (fun m i wr => ∃ (k : Nat) (A' : Option Addr) (c' : Nat) (out : List (Int × Int)), k ≤ L.length ∧ i = .int .i64 k ∧ m = .slice A' out.length c' ∧ Hid (out = wrongsT L k) ∧ Hid (GRow w1.heap.size wr A' c' out) ∧ Hid (Below w1.heap.size w1 wr)) (fun _ i _ => L.length - (intOf i).toNat)
  case atStart => exact ⟨0, none, 0, [], Nat.zero_le _, rfl, rfl, rfl, GRow.nil _ _, Below.refl _ _⟩
  case round =>
    clear y0
    obtain ⟨k, A', c', out, hk, rfl, rfl, ho, hv, hb⟩ := hrel
    have h2 : (0 : Int) ≤ (k : Int) := by omega
    have HBR : Hid (Below R0.heap.size R0 wr) := hb1.out.trans (hb.out.mono hb1.out.size)
    by_cases hlt : k < L.length
    · have h1 : (k : Int) < (L.length : Int) := by omega
      have y0 := CE.out _ HBR
      have hxr : Hid (XAt L A c p R0.heap.size wr ⟨none, none⟩) := hx1.out.below hb.out
      obtain ⟨cd, hcd⟩ : ∃ cd, cd = codeT L (k : Int) := ⟨_, rfl⟩
      have KC1 : Hid (Calls Tryz.prog 10 #[.agg #[.slice A L.length c], .pointer (some ⟨p, 0, none⟩), .int .i64 (k : Int)] wr fun e w' => e = .returned (.int .i64 cd) ∧ Hid (Below wr.heap.size wr w')) := hcd ▸ KC.out _ _ _ _ hxr
      have hwl := wrongs_len L k
      rw [← ho.out] at hwl
      have hst : wrongsT L (k + 1) = out ++ (if cd = 0 then [] else [(cd, (k : Int))]) := by rw [wrongsT, ← hcd, ho.out]
      clear hcd
      go_wp2_with fail
      refine KC1.out.mono ?_
      rintro e2 w2 ⟨rfl, hb2⟩
      clear y0
      have hb12 : Below w1.heap.size w1 w2 := hb.out.trans (hb2.out.mono hb.out.size)
      have HB12 := Lib.hid hb12
      have hv2 : GRow w1.heap.size w2 A' c' out := hv.out.below hb2.out
      have hs12 := hb12.size
      have hs01 := hb1.out.size
      by_cases h0 : cd = 0
      · subst h0
        have HN : Hid (out = wrongsT L (k + 1)) := Lib.hid (by rw [hst, if_pos rfl, List.append_nil])
        have HV2 := Lib.hid hv2
        clear hst hb12 hv2
        go_wp2_with fail
        go_roundw
        case rel => exact ⟨k + 1, A', c', out, by omega, by go_num, rfl, HN, HV2, HB12⟩
        case measure => simp [intOf]; omega
      · have hst2 : wrongsT L (k + 1) = out ++ [(cd, (k : Int))] := by rw [hst, if_neg h0]
        obtain ⟨R2, hR2⟩ : ∃ R2 : World, R2 = w2.alloc (.cells #[.int .i64 cd, .int .i64 (k : Int)] 48) := ⟨_, rfl⟩
        have hb3 : Below w2.heap.size w2 R2 := by rw [hR2]; exact (Below.refl _ _).alloc (Nat.le_refl _) _
        have g2 : R2.heap[w2.heap.size]? = some (.cells #[.int .i64 cd, .int .i64 (k : Int)] 48 (0, 0)) := by rw [hR2]; exact heap_alloc_new w2 _
        have hs2 : R2.heap.size = w2.heap.size + 1 := by rw [hR2]; simp
        have hm : GsR R2 R2.heap.size (some ⟨w2.heap.size, 0, none⟩) [(cd, (k : Int))] := fun j hj => by
          obtain rfl : j = 0 := by simp at hj; omega
          refine ⟨w2.heap.size, 0, [.int .i64 cd, .int .i64 (k : Int)], rfl, by omega, rfl, fun i u hi => ?_, rfl⟩
          rw [show 0 + 0 * 2 + i = i by omega, cell_of_row _ _ i _ _ _ g2]
          simpa using hi
        obtain ⟨A3, c3, w', k1, k2, k3, _⟩ := app_wrongs (c1 := 1) (hv2.below hb3) hm (by simp; omega) (by omega)
        have hb13 : Below w1.heap.size w1 w' := (hb12.trans (hb3.mono hb12.size)).trans k3
        have AP : Hid (∃ v' w', (Builtin.append_ #[32, 32] 32 #[.slice A' out.length c', .slice (some ⟨w2.heap.size, 0, none⟩) 1 1]).run Tryz.prog R2 = .ok v' w' ∧ ∃ A' c' out', v' = .slice A' out'.length c' ∧ Hid (out' = wrongsT L (k + 1)) ∧ Hid (GRow w1.heap.size w' A' c' out') ∧ Hid (Below w1.heap.size w1 w')) :=
          ⟨_, w', k1, A3, c3, out ++ [(cd, (k : Int))], rfl, hst2.symm, k2, hb13⟩
        have q0 : (cd != 0) = true := by simp [h0]
        rw [hR2] at AP
        clear hst hst2 hb12 hv2 hR2 hb3 g2 hs2 hm k1 k2 k3 hb13
        go_wp2_with (at_builtin; refine wpList_app rfl _ _ _ rfl _ _ rfl rfl (use2 AP.out ?_))
        rintro v3 w3 A3 c3 out3 rfl ho3 hv3 hb3
        go_wp2_with fail
        go_roundw
        case rel => exact ⟨k + 1, A3, c3, out3, by omega, by go_num, rfl, ho3, hv3, hb3⟩
        case measure => simp [intOf]; omega
    · have h1 : ¬ (k : Int) < (L.length : Int) := by omega
      obtain rfl : k = L.length := by omega
      have HE : Hid (r = out) := HR.out.trans ho.out.symm
      go_wp2_with fail
      go_ret
      exact ⟨A', c', by rw [HE.out]; rfl, (HE.out ▸ hv.out.lower (Nat.le_trans HS0.out hb1.out.size)), HO.out _ HBR⟩
end Go.Proofs.YtbgilpmoijdcfaaGreat
