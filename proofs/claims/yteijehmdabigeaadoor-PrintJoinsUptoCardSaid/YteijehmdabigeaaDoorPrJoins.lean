/-
  governorlaw5: PrintJoins BY A CONTRACT.
-/
import Derived.Test.YteijehmdabigeaaDoorPrAwake
import Derived.Test.YteijehmdabigeaaDoorPrGreat3
import Derived.Test.YteijehmdabigeaaDoorPrMass3
import Derived.Test.YteijehmdabigeaaDoorPrRows
import Derived.Test.YteijehmdabigeaaDoorPrMade
namespace Go.Proofs.YteijehmdabigeaaDoor
open Go Go.RowKit

theorem Tryd.infoDecl : (Tryd.prog.info? 48).map (fun i => (i.zero.map (·.cells.size), i.size, i.bytes)) = some (some 11, 11, 160) := by kernel_rfl

theorem block_lt {w : World} {g : Nat} {o : Obj} (h : w.heap[g]? = some o) : g < w.heap.size := by
  rcases Nat.lt_or_ge g w.heap.size with h2 | h2
  · exact h2
  · rw [Array.getElem?_eq_none h2] at h; cases h
/-- behind the making of the joined unit. -/
theorem ready_set {w R w5 : World} {G n : Nat} {A5 : Option Addr} {c5 : Nat} {u : Value} {T : TypeId} {zs : List Value} {K : List DT} (hn : K.length = n) (hwR : Below w.heap.size w R) (hb : Below R.heap.size R w5) (hG : R.heap.size ≤ G) (hg : w5.heap[G]? = some (.cells #[u] T (0, 0))) (hne : (Value.slice A5 n c5).ownBlock ≠ some G)
    (hown : w5.ownsRow R.heap.size 48 11 (.slice A5 n c5) n zs) (hx : ∀ (k : Nat) (hk : k < K.length), DIn w w.heap.size K[k] ((zs.drop (k * 11)).take 11)) :
    Hid (Below R.heap.size R (w5.setCell ⟨G, 0, none⟩ (.slice A5 n c5))) ∧ Hid (DsR (w5.setCell ⟨G, 0, none⟩ (.slice A5 n c5)) (w5.setCell ⟨G, 0, none⟩ (.slice A5 n c5)).heap.size A5 K) ∧ (w5.setCell ⟨G, 0, none⟩ (.slice A5 n c5)).heap[G]? = some (.cells #[.slice A5 n c5] T (0, 0)) := by
  have h1 : Below R.heap.size R (w5.setCell ⟨G, 0, none⟩ (.slice A5 n c5)) := hb.setCell (p := ⟨G, 0, none⟩) hG _
  have h2 : Below w.heap.size w (w5.setCell ⟨G, 0, none⟩ (.slice A5 n c5)) := hwR.trans (h1.mono hwR.size)
  refine ⟨h1, ?_, ?_⟩
  · have h3 : (w5.setCell ⟨G, 0, none⟩ (.slice A5 n c5)).ownsRow R.heap.size 48 11 (.slice A5 n c5) n zs := by
      rcases hown.2 with ⟨e1, e2⟩ | ⟨g, cap, cur, e1, r1, r2, r3⟩
      · exact ⟨hown.1, .inl ⟨e1, e2⟩⟩
      · have hgG : g ≠ G := by
          rintro rfl
          rw [e1] at hne
          exact hne rfl
        exact ⟨hown.1, .inr ⟨g, cap, cur, e1, r1, by rw [Below.heap_setCell _ _ _ _ hgG]; exact r2, r3⟩⟩
    obtain ⟨A, c, e, r⟩ := row_owned (R := DIn (w5.setCell ⟨G, 0, none⟩ (.slice A5 n c5)) (w5.setCell ⟨G, 0, none⟩ (.slice A5 n c5)).heap.size) hn h3 (fun k hk => DIn.mono h2.size h2.block (hx k hk))
    injection e with e1 _ _
    subst e1
    exact r
  · simp [World.setCell, Array.getElem?_modify, hg]
theorem ready_new {w R w5 : World} {n : Nat} {A5 : Option Addr} {c5 : Nat} {T : TypeId} {zs : List Value} {K : List DT} (hn : K.length = n) (hwR : Below w.heap.size w R) (hb : Below R.heap.size R w5)
    (hown : w5.ownsRow R.heap.size 48 11 (.slice A5 n c5) n zs) (hx : ∀ (k : Nat) (hk : k < K.length), DIn w w.heap.size K[k] ((zs.drop (k * 11)).take 11)) :
    Hid (Below R.heap.size R (w5.alloc (.cells #[.slice A5 n c5] T))) ∧ Hid (DsR (w5.alloc (.cells #[.slice A5 n c5] T)) (w5.alloc (.cells #[.slice A5 n c5] T)).heap.size A5 K) ∧ (w5.alloc (.cells #[.slice A5 n c5] T)).heap[w5.heap.size]? = some (.cells #[.slice A5 n c5] T (0, 0)) := by
  have h1 : Below R.heap.size R (w5.alloc (.cells #[.slice A5 n c5] T)) := hb.alloc hb.size _
  have h2 : Below w.heap.size w (w5.alloc (.cells #[.slice A5 n c5] T)) := hwR.trans (h1.mono hwR.size)
  refine ⟨h1, ?_, heap_alloc_new w5 _⟩
  obtain ⟨A, c, e, r⟩ := row_owned (R := DIn (w5.alloc (.cells #[.slice A5 n c5] T)) (w5.alloc (.cells #[.slice A5 n c5] T)).heap.size) hn (hown.alloc _) (fun k hk => DIn.mono h2.size h2.block (hx k hk))
  injection e with e1 _ _
  subst e1
  exact r
theorem pass {p q : Prop} (h : p) (k : p → q) : q := k h
theorem use3 {γ : Type} {r : Value → World → Prop} {p : Value → World → γ → Prop} {K : Value → World → Prop} (h : ∃ v' w' ys, r v' w' ∧ p v' w' ys) (k : ∀ v' w' ys, p v' w' ys → K v' w') : ∃ v' w', r v' w' ∧ K v' w' := by
  obtain ⟨v', w', ys, h1, h2⟩ := h
  exact ⟨v', w', h1, k v' w' ys h2⟩
theorem use2 {r : Value → World → Prop} {p : Value → World → Prop} {K : Value → World → Prop} (h : ∃ v' w', r v' w' ∧ p v' w') (k : ∀ v' w', p v' w' → K v' w') : ∃ v' w', r v' w' ∧ K v' w' := by
  obtain ⟨v', w', h1, h2⟩ := h
  exact ⟨v', w', h1, k v' w' h2⟩
set_option maxRecDepth 100000 in
theorem din_one {w : World} {B : Nat} {d : DT} {cs : List Value} (h : DIn w B d cs) : ∀ u ∈ cs, u.oneCell' = true := by
  obtain ⟨A1, c1, A2, c2, A3, c3, A4, c4, rfl, _⟩ := h
  intro u hu
  simp only [List.mem_cons, List.not_mem_nil, or_false] at hu
  rcases hu with rfl | rfl | rfl | rfl | rfl | rfl | rfl | rfl | rfl | rfl | rfl <;> rfl
theorem row_A {w : World} {B : Nat} {A : Option Addr} {c : Nat} {L : List DT} (h : DsR w B A L) (hg : A = none → c = 0) : (A = none ∧ L.length = 0 ∧ c = 0) ∨ (L.length = 0 ∧ ∃ a, A = some a) ∨ ∃ g o, A = some ⟨g, o, none⟩ := by
  by_cases h0 : L.length = 0
  · cases A with
    | none => exact .inl ⟨rfl, h0, hg rfl⟩
    | some a => exact .inr (.inl ⟨h0, a, rfl⟩)
  · obtain ⟨g, o, _, e, _⟩ := h 0 (by omega)
    exact .inr (.inr ⟨g, o, e⟩)
set_option maxRecDepth 100000 in
/-- a row of declarations onto an owned one, from base on. -/
theorem app_decls {w R W : World} {A : Option Addr} {c n : Nat} {L K : List DT} {v : Value} {xs : List Value} (h : DsR w w.heap.size A L) (hg : A = none → c = 0) (hwR : Below w.heap.size w R) (hW : Below R.heap.size R W) (hn : K.length = n) (hown : W.ownsRow R.heap.size 48 11 v n xs)
    (hx : ∀ (k : Nat) (hk : k < K.length), DIn w w.heap.size K[k] ((xs.drop (k * 11)).take 11)) (hl : n + L.length ≤ 100000000) :
    ∃ v' w' ys, (Builtin.append_ #[22, 22] 22 #[v, .slice A L.length c]).run Tryd.prog W = .ok v' w' ∧ w'.ownsRow R.heap.size 48 11 v' (n + L.length) ys ∧ (∀ (k : Nat) (hk : k < (K ++ L).length), DIn w w.heap.size (K ++ L)[k] ((ys.drop (k * 11)).take 11)) ∧ Below R.heap.size R w' ∧ W.grownBy w' v.ownBlock ∧ (v'.ownBlock = v.ownBlock ∨ v'.ownBlock = some W.heap.size) := by
  have hi0 : (Tryd.prog.info? 48).map (fun i => (i.zero.map (·.cells.size), i.size, i.bytes)) = some (some 11, 11, 160) := Tryd.infoDecl
  obtain ⟨i0, hi, hz0, hz1, hz2⟩ : ∃ i0, Tryd.prog.info? 48 = some i0 ∧ i0.zero.map (·.cells.size) = some 11 ∧ i0.size = 11 ∧ i0.bytes = 160 := by
    cases hq : Tryd.prog.info? 48 with
    | none => rw [hq] at hi0; simp at hi0
    | some i0 => rw [hq] at hi0; simp at hi0; exact ⟨i0, rfl, by simpa using hi0.1, hi0.2.1, hi0.2.2⟩
  obtain ⟨z, hz, hzs⟩ := Option.map_eq_some_iff.1 hz0
  obtain ⟨ys, y1, y2, y3, y4⟩ := row_cells (by decide) (fun a cs h => din_one h) h
  have hwW : Below w.heap.size w W := hwR.trans (hW.mono hwR.size)
  obtain ⟨v', w', k1, k2, k3, k4⟩ := app_run (P := Tryd.prog) (w := W) (base := R.heap.size) (t := 22) (ty := 22) (bytes := 160) Tryd.underlying22 hi hz hz1 hz2 hzs (by decide) hown (A := A) (m := L.length) (c := c) (news := ys) y1 (fun g o e j u hj => by
      have h5 := y2 g o e j u hj
      exact (hwW.cell (p := ⟨g, o + j, none⟩) (World.block_lt_of_cell? w _ h5)).trans h5) (row_A h hg) y3 (by unfold maxLen; omega) (by omega) hW.size
  refine ⟨v', w', xs ++ ys, k1, k2, fun k hk => ?_, hW.grown k3 hW.size (fun j hj => (hown.lt j hj).1), k3, k4⟩
  have hxl : xs.length = n * 11 := hown.1
  by_cases hkn : k < K.length
  · rw [List.getElem_append_left hkn]
    have e : (((xs ++ ys).drop (k * 11)).take 11) = ((xs.drop (k * 11)).take 11) := by
      have : (k + 1) * 11 ≤ n * 11 := Nat.mul_le_mul_right _ (by omega)
      rw [List.drop_append_of_le_length (by omega), List.take_append_of_le_length (by simp only [List.length_drop]; omega)]
    rw [e]
    exact hx k hkn
  · have hk2 : k - K.length < L.length := by simp at hk; omega
    rw [List.getElem_append_right (by omega)]
    have e : (((xs ++ ys).drop (k * 11)).take 11) = ((ys.drop ((k - K.length) * 11)).take 11) := by
      have e1 : k * 11 = xs.length + (k - K.length) * 11 := by
        rw [hxl, ← hn, ← Nat.add_mul]
        congr 1
        omega
      rw [e1, ← List.drop_drop, List.drop_left]
    rw [e]
    exact y4 (k - K.length) hk2

set_option maxRecDepth 100000 in
theorem masses (L M : List DT) (k n : Int) (nm wh : ByteArray) (args : List ET) (t : YT) (name : ByteArray) (hw : wU L + wU M + wE (.mk k n nm wh args) + wY t + name.size ≤ 30000000) :
    (∀ (i : Nat) (hi : i < (L ++ M).length), (tD (L ++ M)[i]).length + 1 ≤ few) ∧ (tU (L ++ M)).length ≤ 30000000 ∧ (∀ (i : Nat) (hi : i < L.length), (tD L[i]).length + 1 ≤ few) ∧ ((tU L).length ≤ 30000000 ∧ (tU M).length ≤ 30000000) ∧ (∀ (i : Nat) (hi : i < M.length), (tD M[i]).length + 1 ≤ few) ∧
      (∀ (i : Nat) (hi : i < [pD name t (.mk k n nm wh args)].length), (tD [pD name t (.mk k n nm wh args)][i]).length + 1 ≤ few) ∧ (tU [pD name t (.mk k n nm wh args)]).length ≤ 140737488355328 ∧ (tY t).length ≤ few ∧ (joined (tY t)).length ≤ 140737488355328 ∧ (tE (.mk k n nm wh args)).length ≤ few ∧ (joined (tE (.mk k n nm wh args))).length ≤ 140737488355328 := by
  have fw : few = 100000000 := rfl
  have each : ∀ K : List DT, wU K ≤ 99000000 → ∀ (i : Nat) (hi : i < K.length), (tD K[i]).length + 1 ≤ few := fun K hK i hi => by
    have h1 := mass_len (tD K[i])
    have h2 := mass_tD K[i]
    have h3 := sum_at wD K i hi
    unfold wU at hK
    omega
  have app : wU (L ++ M) = wU L + wU M := by unfold wU; simp
  have a1 := mass_tU (L ++ M)
  have a2 := mass_tU L
  have a3 := mass_tU M
  have a4 := mass_tU [pD name t (.mk k n nm wh args)]
  have a5 := mass_tE (.mk k n nm wh args)
  have a6 := mass_tY t
  have a7 := mass_len (tE (.mk k n nm wh args))
  have a8 := mass_len (tY t)
  have a9 := mass_joined (tE (.mk k n nm wh args))
  have a10 := mass_joined (tY t)
  have a13 : dn 0 ≤ 30 := by
    unfold dn
    rw [Lib.decDigits_one (by decide)]
    simp
  have a11 : wU [pD name t (.mk k n nm wh args)] = 64 + name.size + (32 + name.size + wY t + dn 0 + dn 0) + wSs [.mk 1 0 name [.mk k n nm wh args] [] []] + dn 0 + dn 0 := by
    unfold wU wD pD
    simp only [List.map_cons, List.map_nil, List.sum_cons, List.sum_nil, wV, show (⟨#[]⟩ : ByteArray).size = 0 from rfl]
    omega
  have a12 : wSs [.mk 1 0 name [.mk k n nm wh args] [] []] ≤ 200 + name.size + wE (.mk k n nm wh args) := by
    rw [wSs, wSs, wS, wEs, wEs, wBs]
    simp only [List.map_nil, List.sum_nil]
    omega
  refine ⟨each _ (by omega), by omega, each _ (by omega), ⟨by omega, by omega⟩, each _ (by omega), each _ (by omega), by omega, by omega, by omega, by omega, by omega⟩
theorem texts (L M : List DT) (k n : Int) (nm wh : ByteArray) (args : List ET) (t : YT) (name : ByteArray) (hw : wU L + wU M + wE (.mk k n nm wh args) + wY t + name.size ≤ 30000000) :
    ∃ s1 s2 sb sp st se : ByteArray, s1 = ⟨(tU L).toArray⟩ ∧ s2 = ⟨(tU M).toArray⟩ ∧ sb = ⟨(tU (L ++ M)).toArray⟩ ∧ sp = ⟨(tU [pD name t (.mk k n nm wh args)]).toArray⟩ ∧ st = ⟨(joined (tY t)).toArray⟩ ∧ se = ⟨(joined (tE (.mk k n nm wh args))).toArray⟩ ∧ (∀ w, (Op.stringOp .add s1 s2).run Tryd.prog w = .ok (.string sb) w) ∧
      ∃ u1 u2 u3 u4 u5 u6 u7 u8 u9 : ByteArray, (∀ w, (Op.stringOp .add ⟨#[80, 82, 79, 71, 82, 65, 77, 32]⟩ name).run Tryd.prog w = .ok (.string u1) w) ∧ (∀ w, (Op.stringOp .add u1 ⟨#[32, 59, 32, 86, 65, 82, 32]⟩).run Tryd.prog w = .ok (.string u2) w) ∧ (∀ w, (Op.stringOp .add u2 name).run Tryd.prog w = .ok (.string u3) w) ∧ (∀ w, (Op.stringOp .add u3 ⟨#[32, 58, 32]⟩).run Tryd.prog w = .ok (.string u4) w) ∧
      (∀ w, (Op.stringOp .add u4 st).run Tryd.prog w = .ok (.string u5) w) ∧ (∀ w, (Op.stringOp .add u5 ⟨#[32, 59, 32]⟩).run Tryd.prog w = .ok (.string u6) w) ∧ (∀ w, (Op.stringOp .add u6 name).run Tryd.prog w = .ok (.string u7) w) ∧ (∀ w, (Op.stringOp .add u7 ⟨#[32, 58, 61, 32]⟩).run Tryd.prog w = .ok (.string u8) w) ∧
      (∀ w, (Op.stringOp .add u8 se).run Tryd.prog w = .ok (.string u9) w) ∧ (∀ w, (Op.stringOp .add u9 ⟨#[32, 59, 32, 69, 78, 68, 95, 80, 82, 79, 71, 82, 65, 77, 10]⟩).run Tryd.prog w = .ok (.string sp) w) := by
  obtain ⟨_, _, _, ⟨m1, m2⟩, _, _, _, _, _, _, _⟩ := masses L M k n nm wh args t name hw
  have a5 := mass_tE (.mk k n nm wh args)
  have a6 := mass_tY t
  have a9 := mass_joined (tE (.mk k n nm wh args))
  have a10 := mass_joined (tY t)
  have z : ∀ l : List UInt8, (⟨l.toArray⟩ : ByteArray).size = l.length := fun l => by simp [ByteArray.size]
  refine ⟨_, _, _, _, _, _, rfl, rfl, rfl, rfl, rfl, rfl, fun w => ?_, sums _ _ _ _ (pD_text name t (.mk k n nm wh args)) (by omega) (by rw [z]; omega) (by rw [z]; omega)⟩
  rw [run_string_add_sum w _ _ (by rw [z, z]; omega), ByteArray.mk_append_mk]
  unfold tU
  simp
set_option maxHeartbeats 4000000 in
set_option maxRecDepth 100000 in
theorem joins_walk (L M : List DT) (k n : Int) (nm wh : ByteArray) (args : List ET) (t : YT) (name : ByteArray) (A1 A2 A3 : Option Addr) (c1 c2 c3 : Nat) (w : World) (hE : Env w.heap.size w) (h1 : DsR w w.heap.size A1 L) (h2 : DsR w w.heap.size A2 M)
    (g1 : A1 = none → c1 = 0) (g2 : A2 = none → c2 = 0)
    (he : EIn w w.heap.size (.mk k n nm wh args) [.int .i64 k, .int .i64 n, .string nm, .string wh, .slice A3 args.length c3]) (ht : t.wf) (hw : wU L + wU M + wE (.mk k n nm wh args) + wY t + name.size ≤ 30000000) :
    Calls Tryd.prog 4 #[.agg #[.slice A1 L.length c1], .agg #[.slice A2 M.length c2], .agg #[.int .i64 k, .int .i64 n, .string nm, .string wh, .slice A3 args.length c3], yv t, .string name] w fun e w' => e = .returned (.bool true) ∧ Below w.heap.size w w' := by
  obtain ⟨R0, hR0⟩ : ∃ R0 : World, R0 = (((w.alloc (.cells #[.slice A1 L.length c1] 24)).alloc (.cells #[.slice A2 M.length c2] 24)).alloc (.cells #[.int .i64 k, .int .i64 n, .string nm, .string wh, .slice A3 args.length c3] 27)).alloc (.cells #[.int .i64 t.kind, .int .i64 t.lo, .int .i64 t.hi, .string t.name] 29) := ⟨_, rfl⟩
  have hb0 : Below w.heap.size w R0 := by
    rw [hR0]
    exact ((((Below.refl _ _).alloc (Nat.le_refl _) _).alloc (by simp) _).alloc (by simp <;> omega) _).alloc (by simp <;> omega) _
  have hs0 : R0.heap.size = w.heap.size + 4 := by rw [hR0]; simp
  have q0 : R0.heap[w.heap.size]? = some (.cells #[.slice A1 L.length c1] 24 (0, 0)) := by
    rw [hR0, Below.heap_alloc _ _ _ (by simp <;> omega), Below.heap_alloc _ _ _ (by simp <;> omega), Below.heap_alloc _ _ _ (by simp)]
    exact heap_alloc_new w _
  have q1 : R0.heap[w.heap.size + 1]? = some (.cells #[.slice A2 M.length c2] 24 (0, 0)) := by
    rw [hR0, Below.heap_alloc _ _ _ (by simp <;> omega), Below.heap_alloc _ _ _ (by simp)]
    have := heap_alloc_new (w.alloc (.cells #[.slice A1 L.length c1] 24)) (.cells #[.slice A2 M.length c2] 24)
    rw [heap_alloc_size] at this
    exact this
  have q2 : R0.heap[w.heap.size + 1 + 1]? = some (.cells #[.int .i64 k, .int .i64 n, .string nm, .string wh, .slice A3 args.length c3] 27 (0, 0)) := by
    rw [hR0, Below.heap_alloc _ _ _ (by simp)]
    have := heap_alloc_new ((w.alloc (.cells #[.slice A1 L.length c1] 24)).alloc (.cells #[.slice A2 M.length c2] 24)) (.cells #[.int .i64 k, .int .i64 n, .string nm, .string wh, .slice A3 args.length c3] 27)
    rw [heap_alloc_size, heap_alloc_size] at this
    exact this
  have q3 : R0.heap[w.heap.size + 1 + 1 + 1]? = some (.cells #[.int .i64 t.kind, .int .i64 t.lo, .int .i64 t.hi, .string t.name] 29 (0, 0)) := by
    have := heap_alloc_new (((w.alloc (.cells #[.slice A1 L.length c1] 24)).alloc (.cells #[.slice A2 M.length c2] 24)).alloc (.cells #[.int .i64 k, .int .i64 n, .string nm, .string wh, .slice A3 args.length c3] 27)) (.cells #[.int .i64 t.kind, .int .i64 t.lo, .int .i64 t.hi, .string t.name] 29)
    rw [heap_alloc_size, heap_alloc_size, heap_alloc_size] at this
    rw [hR0]
    exact this
  have HC : Hid (∀ W, Hid (Below R0.heap.size R0 W) → (W.cell? ⟨w.heap.size, 0, none⟩ = some (.slice A1 L.length c1) ∧ W.cell? ⟨w.heap.size + 1, 0, none⟩ = some (.slice A2 M.length c2)) ∧
      (W.cell? ⟨w.heap.size + 1 + 1, 0, none⟩ = some (.int .i64 k) ∧ W.cell? ⟨w.heap.size + 1 + 1, 1, none⟩ = some (.int .i64 n) ∧ W.cell? ⟨w.heap.size + 1 + 1, 2, none⟩ = some (.string nm) ∧ W.cell? ⟨w.heap.size + 1 + 1, 3, none⟩ = some (.string wh) ∧ W.cell? ⟨w.heap.size + 1 + 1, 4, none⟩ = some (.slice A3 args.length c3)) ∧
      (W.cell? ⟨w.heap.size + 1 + 1 + 1, 0, none⟩ = some (.int .i64 t.kind) ∧ W.cell? ⟨w.heap.size + 1 + 1 + 1, 1, none⟩ = some (.int .i64 t.lo) ∧ W.cell? ⟨w.heap.size + 1 + 1 + 1, 2, none⟩ = some (.int .i64 t.hi) ∧ W.cell? ⟨w.heap.size + 1 + 1 + 1, 3, none⟩ = some (.string t.name))) := by
    intro W h
    have hk : ∀ g j cs T v, g < R0.heap.size → R0.heap[g]? = some (.cells cs T (0, 0)) → cs[j]? = some v → W.cell? ⟨g, j, none⟩ = some v := fun g j cs T v h1 h2 h3 => by
      rw [cell_of_row W g j cs T (0, 0) ((h.out.block g h1).trans h2)]
      exact h3
    exact ⟨⟨hk _ 0 _ _ _ (by omega) q0 rfl, hk _ 0 _ _ _ (by omega) q1 rfl⟩, ⟨hk _ 0 _ _ _ (by omega) q2 rfl, hk _ 1 _ _ _ (by omega) q2 rfl, hk _ 2 _ _ _ (by omega) q2 rfl, hk _ 3 _ _ _ (by omega) q2 rfl, hk _ 4 _ _ _ (by omega) q2 rfl⟩, ⟨hk _ 0 _ _ _ (by omega) q3 rfl, hk _ 1 _ _ _ (by omega) q3 rfl, hk _ 2 _ _ _ (by omega) q3 rfl, hk _ 3 _ _ _ (by omega) q3 rfl⟩⟩
  have hB : ∀ W, Hid (Below R0.heap.size R0 W) → Below w.heap.size w W := fun W h => hb0.trans (h.out.mono hb0.size)
  have KG1 : Hid (∀ W, Hid (Below R0.heap.size R0 W) → Calls Tryd.prog 5 #[.agg #[.slice A1 L.length c1], .int .i64 200] W fun e w' => (∃ r : Bool, e = .returned (.bool r)) ∧ Hid (Below R0.heap.size R0 w')) := fun W h => (greatUnit_any L A1 c1 200 W (DsR.mono (hB W h).size (hB W h).block h1) (by omega)).mono fun e w' hh => ⟨hh.1, h.out.trans (hh.2.mono h.out.size)⟩
  have KG2 : Hid (∀ W, Hid (Below R0.heap.size R0 W) → Calls Tryd.prog 5 #[.agg #[.slice A2 M.length c2], .int .i64 200] W fun e w' => (∃ r : Bool, e = .returned (.bool r)) ∧ Hid (Below R0.heap.size R0 w')) := fun W h => (greatUnit_any M A2 c2 200 W (DsR.mono (hB W h).size (hB W h).block h2) (by omega)).mono fun e w' hh => ⟨hh.1, h.out.trans (hh.2.mono h.out.size)⟩
  have KG3 : Hid (∀ W, Hid (Below R0.heap.size R0 W) → Calls Tryd.prog 6 #[.agg #[.int .i64 k, .int .i64 n, .string nm, .string wh, .slice A3 args.length c3], .int .i64 100] W fun e w' => (∃ r : Bool, e = .returned (.bool r)) ∧ Hid (Below R0.heap.size R0 w')) := fun W h => (greatExpr_any _ _ 100 W (he.mono (hB W h).size (hB W h).block) (by omega)).mono fun e w' hh => ⟨hh.1, h.out.trans (hh.2.mono h.out.size)⟩
  have KA : Hid (∀ W, Hid (Below R0.heap.size R0 W) → Calls Tryd.prog 7 #[] W fun e w' => e = .returned (.bool true) ∧ Hid (Below R0.heap.size R0 w')) := fun W h => (awake_any W ((hE.below (hB W h)).mono (hB W h).size)).mono fun e w' hh => ⟨hh.1, h.out.trans (hh.2.mono h.out.size)⟩
  have HB := Lib.hid hB
  have HR0 := Lib.hid hR0
  have HX : Hid (Below R0.heap.size R0 R0) := Below.refl _ _
  clear hb0 hs0 q0 q1 q2 q3 hB hR0
  have P1 := Lib.hid (And.intro hE (And.intro h1 (And.intro h2 (And.intro g1 (And.intro g2 (And.intro he (And.intro ht hw)))))))
  clear hE h1 h2 g1 g2 he ht hw
  go_enter Tryd.func4, Tryd.ntmps4
  go_wp2_with fail
  rw [← HR0.out]
  refine (KG1.out _ HX).mono ?_
  rintro e1 w1 ⟨⟨r1, rfl⟩, HB1⟩
  obtain ⟨⟨x0, x1⟩, ⟨y0, y1, y2, y3, y4⟩, ⟨z0, z1, z2, z3⟩⟩ := HC.out _ HB1
  clear KG1 HX
  cases r1
  · go_wp2_with fail
    refine (KG2.out _ HB1).mono ?_
    rintro e2 w2 ⟨⟨r2, rfl⟩, HB2⟩
    clear x0 x1 y0 y1 y2 y3 y4 z0 z1 z2 z3 KG2 HB1
    obtain ⟨⟨x0, x1⟩, ⟨y0, y1, y2, y3, y4⟩, ⟨z0, z1, z2, z3⟩⟩ := HC.out _ HB2
    cases r2
    · go_wp2_with fail
      refine (KG3.out _ HB2).mono ?_
      rintro e3 w3 ⟨⟨r3, rfl⟩, HB3⟩
      clear x0 x1 y0 y1 y2 y3 y4 z0 z1 z2 z3 KG3 HB2
      obtain ⟨⟨x0, x1⟩, ⟨y0, y1, y2, y3, y4⟩, ⟨z0, z1, z2, z3⟩⟩ := HC.out _ HB3
      cases r3
      · by_cases p1 : (60 : Int) < (t.name.size : Int)
        · go_wp2_with fail
          refine (KA.out _ HB3).mono ?_
          rintro e4 w4 ⟨rfl, HB4⟩
          have HZ := Lib.hid (HB.out _ HB4)
          go_wp2_with fail
          go_ret
          exact ⟨rfl, HZ.out⟩
        · by_cases p2 : (60 : Int) < (name.size : Int)
          · go_wp2_with fail
            refine (KA.out _ HB3).mono ?_
            rintro e4 w4 ⟨rfl, HB4⟩
            have HZ := Lib.hid (HB.out _ HB4)
            go_wp2_with fail
            go_ret
            exact ⟨rfl, HZ.out⟩
          · have hwl : L.length ≤ 50000000 ∧ M.length ≤ 50000000 := by
              have q1 := len_sum wD (fun d => by unfold wD; omega) L
              have q2 := len_sum wD (fun d => by unfold wD; omega) M
              have q3 := P1.out.2.2.2.2.2.2.2
              unfold wU at q3
              omega
            have hwR : Below w.heap.size w R0 := HB.out _ (Below.refl _ _)
            have AP1 : Hid (∀ W, Hid (Below R0.heap.size R0 W) → ∃ v' w' ys, (Builtin.append_ #[22, 22] 22 #[.slice none 0 0, .slice A1 L.length c1]).run Tryd.prog W = .ok v' w' ∧ Hid (w'.ownsRow R0.heap.size 48 11 v' (0 + L.length) ys ∧ (∀ (k : Nat) (hk : k < ([] ++ L).length), DIn w w.heap.size ([] ++ L)[k] ((ys.drop (k * 11)).take 11))) ∧ Hid (Below R0.heap.size R0 w') ∧ Hid (∀ g u T, W.heap[g]? = some (.cells #[u] T (0, 0)) → w'.heap[g]? = some (.cells #[u] T (0, 0)) ∧ v'.ownBlock ≠ some g ∧ w'.cell? ⟨g, 0, none⟩ = some u ∧ w'.frozen? ⟨g, 0, none⟩ = false)) := fun W h => by
              obtain ⟨v', w', ys, k1, k2, k3, k4, k5, k6⟩ := app_decls (K := []) (n := 0) (v := .slice none 0 0) (xs := []) P1.out.2.1 P1.out.2.2.2.1 hwR h.out rfl ⟨rfl, .inl ⟨rfl, rfl⟩⟩ (fun k hk => by simp at hk) (by omega)
              refine ⟨v', w', ys, k1, ⟨k2, k3⟩, k4, fun g u T hg => ?_⟩
              have hgl := block_lt hg
              have e1 : w'.heap[g]? = some (.cells #[u] T (0, 0)) := (k5.block g hgl (by simp [Value.ownBlock])).trans hg
              refine ⟨e1, ?_, by rw [cell_of_row _ _ 0 _ _ _ e1]; rfl, by simp [World.frozen?, e1]⟩
              rcases k6 with k6 | k6
              · rw [k6]; simp [Value.ownBlock]
              · rw [k6]; intro e; injection e with e; omega
            have AP2 : Hid (∀ W v ys, Hid (Below R0.heap.size R0 W) → Hid (W.ownsRow R0.heap.size 48 11 v (0 + L.length) ys ∧ (∀ (k : Nat) (hk : k < ([] ++ L).length), DIn w w.heap.size ([] ++ L)[k] ((ys.drop (k * 11)).take 11))) → ∃ v' w', (Builtin.append_ #[22, 22] 22 #[v, .slice A2 M.length c2]).run Tryd.prog W = .ok v' w' ∧ (∃ A c zs, v' = .slice A (L.length + M.length) c ∧ Hid (w'.ownsRow R0.heap.size 48 11 (.slice A (L.length + M.length) c) (L.length + M.length) zs ∧ (∀ (k : Nat) (hk : k < (L ++ M).length), DIn w w.heap.size (L ++ M)[k] ((zs.drop (k * 11)).take 11)))) ∧ Hid (Below R0.heap.size R0 w') ∧ Hid (∀ g u T, W.heap[g]? = some (.cells #[u] T (0, 0)) → v.ownBlock ≠ some g → w'.heap[g]? = some (.cells #[u] T (0, 0)) ∧ v'.ownBlock ≠ some g ∧ w'.cell? ⟨g, 0, none⟩ = some u ∧ w'.frozen? ⟨g, 0, none⟩ = false)) := fun W v ys h hh => by
              obtain ⟨v', w', zs, k1, k2, k3, k4, k5, k6⟩ := app_decls (K := L) (n := 0 + L.length) (v := v) (xs := ys) P1.out.2.2.1 P1.out.2.2.2.2.1 hwR h.out (by omega) hh.out.1 hh.out.2 (by omega)
              have hb' : Below w.heap.size w w' := hwR.trans (k4.mono hwR.size)
              rw [Nat.zero_add] at k2
              obtain ⟨A, c, e1, e2⟩ := row_owned (R := DIn w' w'.heap.size) (l := L ++ M) (n := L.length + M.length) (by simp) k2 (fun k hk => DIn.mono hb'.size hb'.block (k3 k hk))
              rw [List.length_append] at e1
              subst e1
              refine ⟨_, w', k1, ⟨A, c, zs, rfl, ⟨k2, k3⟩⟩, k4, fun g u T hg hq => ?_⟩
              have hgl := block_lt hg
              have e3 : w'.heap[g]? = some (.cells #[u] T (0, 0)) := (k5.block g hgl (fun e => hq e.symm)).trans hg
              refine ⟨e3, ?_, by rw [cell_of_row _ _ 0 _ _ _ e3]; rfl, by simp [World.frozen?, e3]⟩
              rcases k6 with k6 | k6
              · rw [k6]; exact hq
              · rw [k6]; intro e; injection e with e; omega
            clear hwl hwR
            have t0 := (HC.out (w3.alloc (.cells #[.slice none 0 0] 24)) (HB3.out.alloc HB3.out.size _)).1.1
            have t1 := (HC.out (w3.alloc (.cells #[.slice none 0 0] 24)) (HB3.out.alloc HB3.out.size _)).1.2
            go_wp2_with fail
            go_region_held3 (fun w' => w'.cell? ⟨w.heap.size, 0, none⟩ = some (.slice A1 L.length c1) ∧ w'.cell? ⟨w.heap.size + 1, 0, none⟩ = some (.slice A2 M.length c2) ∧ Hid (Below R0.heap.size R0 w'))
              (first | exact ⟨by assumption, by assumption, by assumption⟩ | exact ⟨x0, x1, HB3⟩ | (refine ⟨(HC.out _ ?_).1.1, (HC.out _ ?_).1.2, ?_⟩ <;> (first | exact HB3 | exact HB3.out.drew | exact HB3.out.drew.drew | exact HB3.out.alloc HB3.out.size _ | exact (HB3.out.drew).alloc HB3.out.size _ | exact (HB3.out.alloc HB3.out.size _).drew | exact ((HB3.out.drew).alloc HB3.out.size _).drew | exact HB4 | exact HB4.out.drew | exact HB4.out.drew.drew | exact HB4.out.alloc HB4.out.size _ | exact (HB4.out.drew).alloc HB4.out.size _ | exact (HB4.out.alloc HB4.out.size _).drew | exact ((HB4.out.drew).alloc HB4.out.size _).drew | exact HB5 | exact HB5.out.drew | exact HB5.out.drew.drew | exact HB5.out.alloc HB5.out.size _ | exact (HB5.out.drew).alloc HB5.out.size _ | exact (HB5.out.alloc HB5.out.size _).drew | exact ((HB5.out.drew).alloc HB5.out.size _).drew | exact HB5.out.setCell HB4.out.size _ | exact HB5.out.setCell HB3.out.size _ | exact HB5.out.setCell HB5.out.size _)))
              (first
              | (refine step_app (by rfl) _ _ _ (by rfl) (.slice none 0 0) (.slice A1 L.length c1) (by rfl) (by rfl) (use3 (AP1.out _ ?_) ?_); (first | exact HB3 | exact HB3.out.drew | exact HB3.out.drew.drew | exact HB3.out.drew.drew.drew | exact HB3.out.alloc HB3.out.size _ | exact (HB3.out.drew).alloc HB3.out.size _ | exact (HB3.out.drew.drew).alloc HB3.out.size _ | exact (HB3.out.alloc HB3.out.size _).drew | exact ((HB3.out.drew).alloc HB3.out.size _).drew); rintro v4 w4 ys ⟨HO4, HB4, HF4⟩; obtain ⟨⟨u0, u1⟩, _, _⟩ := HC.out _ HB4; have u2 := (HC.out (w4.alloc (.cells #[.slice none 0 0] 24)) (HB4.out.alloc HB4.out.size _)).1.2; have hv4 : v4.ownBlock ≠ some w4.heap.size := (fun e => Nat.lt_irrefl _ (HO4.out.1.lt _ e).2); (first | (refine pass (HF4.out _ _ _ (heap_alloc_new w3 _)) ?_; rintro ⟨b4, b5, b6, b7⟩) | (refine pass (HF4.out _ _ _ (heap_alloc_new w3.drew _)) ?_; rintro ⟨b4, b5, b6, b7⟩) | (refine pass (HF4.out _ _ _ (heap_alloc_new w3.drew.drew _)) ?_; rintro ⟨b4, b5, b6, b7⟩) | (refine pass (And.intro trivial trivial) ?_; rintro ⟨b4, b5⟩)))
              | (refine step_app (by rfl) _ _ _ (by rfl) v4 (.slice A2 M.length c2) (by rfl) (by rfl) (use2 (AP2.out _ v4 ys ?_ ?_) ?_); (first | exact HB4 | exact HB4.out.drew | exact HB4.out.drew.drew | exact HB4.out.drew.drew.drew | exact HB4.out.alloc HB4.out.size _ | exact (HB4.out.drew).alloc HB4.out.size _ | exact (HB4.out.drew.drew).alloc HB4.out.size _ | exact (HB4.out.alloc HB4.out.size _).drew | exact ((HB4.out.drew).alloc HB4.out.size _).drew); (first | exact HO4 | exact ⟨HO4.out.1.alloc _, HO4.out.2⟩); rintro v5 w5 ⟨⟨A5, c5, zs, e5, HD5⟩, HB5, HF5⟩; subst e5; (first | (refine pass (HF5.out _ _ _ b4 b5) ?_; rintro ⟨d4, d5, d6, d7⟩) | (refine pass (HF5.out _ _ _ (heap_alloc_new w4 _) hv4) ?_; rintro ⟨d4, d5, d6, d7⟩) | (refine pass (HF5.out _ _ _ (heap_alloc_new w4.drew _) hv4) ?_; rintro ⟨d4, d5, d6, d7⟩) | skip); obtain ⟨⟨u5, u6⟩, _, _⟩ := HC.out _ HB5))
            all_goals
              have hlm : (L ++ M).length = L.length + M.length := List.length_append
              have hwR : Below w.heap.size w R0 := HB.out _ (Below.refl _ _)
              first
                | (obtain ⟨G, hG⟩ : ∃ G, G = w4.heap.size := ⟨_, rfl⟩; rw [← hG] at d4 d5; refine pass (ready_set hlm hwR HB5.out (by rw [hG]; exact HB4.out.size) d4 d5 HD5.out.1 HD5.out.2) ?_; rw [hG]; generalize w5.setCell ⟨w4.heap.size, 0, none⟩ (.slice A5 (L.length + M.length) c5) = V; have hG5 : R0.heap.size ≤ w4.heap.size := HB4.out.size; clear hG d4 d5 d6 d7; generalize w4.heap.size = G at hG5 ⊢)
                | (obtain ⟨G, hG⟩ : ∃ G, G = w3.heap.size := ⟨_, rfl⟩; rw [← hG] at d4 d5; refine pass (ready_set hlm hwR HB5.out (by rw [hG]; exact HB3.out.size) d4 d5 HD5.out.1 HD5.out.2) ?_; rw [hG]; generalize w5.setCell ⟨w3.heap.size, 0, none⟩ (.slice A5 (L.length + M.length) c5) = V; have hG5 : R0.heap.size ≤ w3.heap.size := HB3.out.size; clear hG d4 d5 d6 d7; generalize w3.heap.size = G at hG5 ⊢)
                | (refine pass (ready_new (T := 24) hlm hwR HB5.out HD5.out.1 HD5.out.2) ?_; generalize w5.alloc (.cells #[.slice A5 (L.length + M.length) c5] 24) = V; have hG5 : R0.heap.size ≤ w5.heap.size := HB5.out.size; generalize w5.heap.size = G at hG5 ⊢)
              rintro ⟨HBV, HDV, hbt⟩
              clear AP1 AP2 x0 x1 y0 y1 y2 y3 y4 z0 z1 z2 z3 t0 t1
              obtain ⟨⟨x0, x1⟩, ⟨y0, y1, y2, y3, y4⟩, ⟨z0, z1, z2, z3⟩⟩ := HC.out _ HBV
              have HBV1 : Hid (Below R0.heap.size R0 (V.alloc (.cells #[.string name, .int .i64 t.kind, .int .i64 t.lo, .int .i64 t.hi, .string t.name, .int .i64 0, .int .i64 0, .int .i64 0] 38))) := HBV.out.alloc HBV.out.size _
              obtain ⟨⟨x2, x3⟩, ⟨y5, y6, y7, y8, y9⟩, ⟨z4, z5, z6, z7⟩⟩ := HC.out _ HBV1
              go_wp2_with fail
              refine pass (made_holds name P1.out.2.2.2.2.2.2.1 (V := V) (HB.out _ HBV) P1.out.2.2.2.2.2.1) ?_
              rintro ⟨HVX, HPX, hpt⟩
              obtain ⟨X, hX⟩ : ∃ X, X = made V name t k n nm wh A3 args.length c3 := ⟨_, rfl⟩
              unfold made at HVX HPX hpt hX
              rw [← hX] at HVX HPX hpt ⊢
              have HWX : Hid (Below R0.heap.size R0 X) := HBV.out.trans (HVX.mono HBV.out.size)
              obtain ⟨s1, s2, sb, sp, st, se, hs1, hs2, hsb, hsp, hst, hse, hadd, u1, u2, u3, u4, u5, u6, u7, u8, u9, a1, a2, a3, a4, a5, a6, a7, a8, a9, a10⟩ := texts L M k n nm wh args t name P1.out.2.2.2.2.2.2.2
              obtain ⟨hm1, hm2, hm3, hm4, hm5, hm6⟩ := masses L M k n nm wh args t name P1.out.2.2.2.2.2.2.2
              have hgl := block_lt hbt
              have hpl := block_lt hpt
              obtain ⟨P, hP⟩ : ∃ P, P = V.heap.size + 1 + 1 + 1 + 1 := ⟨_, rfl⟩
              rw [← hP] at hpt hpl ⊢
              have KS : Hid (∀ W, Hid (Below X.heap.size X W) → (W.cell? ⟨w.heap.size, 0, none⟩ = some (.slice A1 L.length c1) ∧ W.cell? ⟨w.heap.size + 1, 0, none⟩ = some (.slice A2 M.length c2) ∧ W.cell? ⟨w.heap.size + 1 + 1, 0, none⟩ = some (.int .i64 k) ∧ W.cell? ⟨w.heap.size + 1 + 1, 1, none⟩ = some (.int .i64 n) ∧ W.cell? ⟨w.heap.size + 1 + 1, 2, none⟩ = some (.string nm) ∧ W.cell? ⟨w.heap.size + 1 + 1, 3, none⟩ = some (.string wh) ∧ W.cell? ⟨w.heap.size + 1 + 1, 4, none⟩ = some (.slice A3 args.length c3) ∧
                  W.cell? ⟨w.heap.size + 1 + 1 + 1, 0, none⟩ = some (.int .i64 t.kind) ∧ W.cell? ⟨w.heap.size + 1 + 1 + 1, 1, none⟩ = some (.int .i64 t.lo) ∧ W.cell? ⟨w.heap.size + 1 + 1 + 1, 2, none⟩ = some (.int .i64 t.hi) ∧ W.cell? ⟨w.heap.size + 1 + 1 + 1, 3, none⟩ = some (.string t.name) ∧ W.cell? ⟨G, 0, none⟩ = some (.slice A5 (L.length + M.length) c5) ∧ W.cell? ⟨P, 0, none⟩ = some (.slice (some ⟨V.heap.size + 1 + 1 + 1, 0, none⟩) 1 1)) ∧ Hid (Below X.heap.size X W)) := by
                intro W h
                have h2 : Below R0.heap.size R0 W := HWX.out.trans (h.out.mono HWX.out.size)
                obtain ⟨⟨p0, p1⟩, ⟨p2, p3, p4, p5, p6⟩, ⟨p7, p8, p9, p10⟩⟩ := HC.out _ h2
                refine ⟨⟨p0, p1, p2, p3, p4, p5, p6, p7, p8, p9, p10, ?_, ?_⟩, h⟩
                · rw [cell_of_row W G 0 _ _ (0, 0) (((HVX.trans (h.out.mono HVX.size)).block G hgl).trans hbt)]; rfl
                · rw [cell_of_row W P 0 _ _ (0, 0) ((h.out.block P hpl).trans hpt)]; rfl
              have HWX' : ∀ W, Hid (Below X.heap.size X W) → Below w.heap.size w W := fun W h => HB.out _ (HWX.out.trans (h.out.mono HWX.out.size))
              have KB : Hid (∀ W, Hid (Below X.heap.size X W) → Calls Tryd.prog 8 #[.agg #[.slice A5 (L.length + M.length) c5]] W fun e w' => e = .returned (.string sb) ∧ Hid (Below X.heap.size X w')) := fun W h => by
                have hh := HWX' W h
                have hv : Below V.heap.size V W := HVX.trans (h.out.mono HVX.size)
                have K := Unit_any (L ++ M) A5 c5 W ((P1.out.1.below hh).mono hh.size) (DsR.mono hv.size hv.block HDV.out) hm1 (by omega)
                rw [List.length_append] at K
                exact K.mono fun e w' q => ⟨by rw [q.1, hsb], h.out.trans (q.2.mono h.out.size)⟩
              have KU : Hid (∀ W, Hid (Below X.heap.size X W) → Calls Tryd.prog 8 #[.agg #[.slice A1 L.length c1]] W fun e w' => e = .returned (.string s1) ∧ Hid (Below X.heap.size X w')) := fun W h => by
                have hh := HWX' W h
                have K := Unit_any L A1 c1 W ((P1.out.1.below hh).mono hh.size) (DsR.mono hh.size hh.block P1.out.2.1) hm3 (by omega)
                exact K.mono fun e w' q => ⟨by rw [q.1, hs1], h.out.trans (q.2.mono h.out.size)⟩
              have KV : Hid (∀ W, Hid (Below X.heap.size X W) → Calls Tryd.prog 8 #[.agg #[.slice A2 M.length c2]] W fun e w' => e = .returned (.string s2) ∧ Hid (Below X.heap.size X w')) := fun W h => by
                have hh := HWX' W h
                have K := Unit_any M A2 c2 W ((P1.out.1.below hh).mono hh.size) (DsR.mono hh.size hh.block P1.out.2.2.1) hm5 (by omega)
                exact K.mono fun e w' q => ⟨by rw [q.1, hs2], h.out.trans (q.2.mono h.out.size)⟩
              have KP : Hid (∀ W, Hid (Below X.heap.size X W) → Calls Tryd.prog 8 #[.agg #[.slice (some ⟨V.heap.size + 1 + 1 + 1, 0, none⟩) 1 1]] W fun e w' => e = .returned (.string sp) ∧ Hid (Below X.heap.size X w')) := fun W h => by
                have hh := HWX' W h
                have K := Unit_any [pD name t (.mk k n nm wh args)] (some ⟨V.heap.size + 1 + 1 + 1, 0, none⟩) 1 W ((P1.out.1.below hh).mono hh.size) (DsR.mono h.out.size h.out.block HPX) hm6.1 hm6.2.1
                exact K.mono fun e w' q => ⟨by rw [q.1, hsp], h.out.trans (q.2.mono h.out.size)⟩
              have KY : Hid (∀ W, Hid (Below X.heap.size X W) → Calls Tryd.prog 12 #[.agg #[.int .i64 t.kind, .int .i64 t.lo, .int .i64 t.hi, .string t.name]] W fun e w' => e = .returned (.string st) ∧ Hid (Below X.heap.size X w')) := fun W h => by
                have hh := HWX' W h
                have K := Type_any t W ((P1.out.1.below hh).mono hh.size) P1.out.2.2.2.2.2.2.1 hm6.2.2.1 hm6.2.2.2.1
                exact K.mono fun e w' q => ⟨by rw [q.1, hst], h.out.trans (q.2.mono h.out.size)⟩
              have KE : Hid (∀ W, Hid (Below X.heap.size X W) → Calls Tryd.prog 10 #[.agg #[.int .i64 k, .int .i64 n, .string nm, .string wh, .slice A3 args.length c3]] W fun e w' => e = .returned (.string se) ∧ Hid (Below X.heap.size X w')) := fun W h => by
                have hh := HWX' W h
                have K := Expr_any (.mk k n nm wh args) W _ ((P1.out.1.below hh).mono hh.size) (P1.out.2.2.2.2.2.1.mono hh.size hh.block) hm6.2.2.2.2.1 hm6.2.2.2.2.2
                exact K.mono fun e w' q => ⟨by rw [q.1, hse], h.out.trans (q.2.mono h.out.size)⟩
              have KW : Hid (∀ W, Hid (Below X.heap.size X W) → Calls Tryd.prog 7 #[] W fun e w' => e = .returned (.bool true) ∧ Hid (Below X.heap.size X w')) := fun W h => by
                have hh := HWX' W h
                exact (awake_any W ((P1.out.1.below hh).mono hh.size)).mono fun e w' q => ⟨q.1, h.out.trans (q.2.mono h.out.size)⟩
              obtain ⟨D, hD⟩ : ∃ D : Option Addr → Nat → Nat → ByteArray → Prop, D = fun A n c s => Hid (∀ W, Hid (Below X.heap.size X W) → Calls Tryd.prog 8 #[.agg #[.slice A n c]] W fun e w' => e = .returned (.string s) ∧ Hid (Below X.heap.size X w')) := ⟨_, rfl⟩
              have dB : D A5 (L.length + M.length) c5 sb := by rw [hD]; exact KB
              have dU : D A1 L.length c1 s1 := by rw [hD]; exact KU
              have dV : D A2 M.length c2 s2 := by rw [hD]; exact KV
              have dP : D (some ⟨V.heap.size + 1 + 1 + 1, 0, none⟩) 1 1 sp := by rw [hD]; exact KP
              have KQ : Hid (∀ W A n c s, D A n c s → Hid (Below X.heap.size X W) → Calls Tryd.prog 8 #[.agg #[.slice A n c]] W fun e w' => e = .returned (.string s) ∧ Hid (Below X.heap.size X w')) := fun W A n c s h => by
                rw [hD] at h
                exact h.out W
              clear KB KU KV KP hD
              have HZ := Lib.hid HWX'
              have HX0 : Hid (Below X.heap.size X X) := Below.refl _ _
              clear hm1 hm2 hm3 hm4 hm5 hm6 hs1 hs2 hsb hsp hst hse hgl hpl hpt hbt hP hX HVX HPX HWX HWX' HDV HBV HBV1 x0 x1 x2 x3 y0 y1 y2 y3 y4 y5 y6 y7 y8 y9 z0 z1 z2 z3 z4 z5 z6 z7 HC HB KA P1
              go_region_held3 (fun w' => (w'.cell? ⟨w.heap.size, 0, none⟩ = some (.slice A1 L.length c1) ∧ w'.cell? ⟨w.heap.size + 1, 0, none⟩ = some (.slice A2 M.length c2) ∧ w'.cell? ⟨w.heap.size + 1 + 1, 0, none⟩ = some (.int .i64 k) ∧ w'.cell? ⟨w.heap.size + 1 + 1, 1, none⟩ = some (.int .i64 n) ∧ w'.cell? ⟨w.heap.size + 1 + 1, 2, none⟩ = some (.string nm) ∧ w'.cell? ⟨w.heap.size + 1 + 1, 3, none⟩ = some (.string wh) ∧ w'.cell? ⟨w.heap.size + 1 + 1, 4, none⟩ = some (.slice A3 args.length c3) ∧
                  w'.cell? ⟨w.heap.size + 1 + 1 + 1, 0, none⟩ = some (.int .i64 t.kind) ∧ w'.cell? ⟨w.heap.size + 1 + 1 + 1, 1, none⟩ = some (.int .i64 t.lo) ∧ w'.cell? ⟨w.heap.size + 1 + 1 + 1, 2, none⟩ = some (.int .i64 t.hi) ∧ w'.cell? ⟨w.heap.size + 1 + 1 + 1, 3, none⟩ = some (.string t.name) ∧ w'.cell? ⟨G, 0, none⟩ = some (.slice A5 (L.length + M.length) c5) ∧ w'.cell? ⟨P, 0, none⟩ = some (.slice (some ⟨V.heap.size + 1 + 1 + 1, 0, none⟩) 1 1)) ∧ Hid (Below X.heap.size X w'))
                (first | exact KS.out _ (by assumption) | exact KS.out _ (Below.drew (by assumption)))
                (first
                | (go_at_call 8; refine (KQ.out _ _ _ _ _ (by first | exact dB | exact dU | exact dV | exact dP) ?_).mono ?_; (first | assumption | exact Below.drew (by assumption)); rintro e6 w6 ⟨rfl, HB6⟩)
                | (go_at_call 12; refine (KY.out _ ?_).mono ?_; (first | assumption | exact Below.drew (by assumption)); rintro e6 w6 ⟨rfl, HB6⟩)
                | (go_at_call 10; refine (KE.out _ ?_).mono ?_; (first | assumption | exact Below.drew (by assumption)); rintro e6 w6 ⟨rfl, HB6⟩)
                | (go_at_call 7; refine (KW.out _ ?_).mono ?_; (first | assumption | exact Below.drew (by assumption)); rintro e6 w6 ⟨rfl, HB6⟩))
              have HF := Lib.hid (HZ.out _ HB6)
              go_wp2_with fail
              go_ret
              exact ⟨rfl, HF.out⟩
      · go_wp2_with fail
        refine (KA.out _ HB3).mono ?_
        rintro e4 w4 ⟨rfl, HB4⟩
        have HZ := Lib.hid (HB.out _ HB4)
        go_wp2_with fail
        go_ret
        exact ⟨rfl, HZ.out⟩
    · go_wp2_with fail
      refine (KA.out _ HB2).mono ?_
      rintro e4 w4 ⟨rfl, HB4⟩
      have HZ := Lib.hid (HB.out _ HB4)
      go_wp2_with fail
      go_ret
      exact ⟨rfl, HZ.out⟩
  · go_wp2_with fail
    refine (KA.out _ HB1).mono ?_
    rintro e4 w4 ⟨rfl, HB4⟩
    have HZ := Lib.hid (HB.out _ HB4)
    go_wp2_with fail
    go_ret
    exact ⟨rfl, HZ.out⟩
end Go.Proofs.YteijehmdabigeaaDoor
