/-
  table: Find, Chain, Faces, Is, Method, Fields BY CONTRACTS.
-/
import Derived.Test.YtmbddofcildibaaK4
import Derived.Test.YtmbddofcildibaaK2
import Derived.Deep.RegionHeld3
import Derived.Deep.DeepCutAuto
import Derived.Test.YtmbddofcildibaaK1
namespace Go.Proofs.Ytmbddofcildibaa
open Go Go.RowKit
set_option linter.unusedVariables false
set_option linter.unusedSimpArgs false

set_option maxHeartbeats 1000000 in
theorem find_any (L : List DT) (A : Option Addr) (c : Nat) (s : ByteArray) (w : World) (ha : DsR w w.heap.size A L) (hcnt : L.length ≤ 1000000000) :
    Calls Try.prog 20 #[.agg #[.slice A L.length c], .string s] w fun e w' => e = .returned (.int .i64 (findT L s)) ∧ Below w.heap.size w w' := by
  obtain ⟨R0, hR0⟩ : ∃ R0 : World, R0 = w.alloc (.cells #[.slice A L.length c] 24) := ⟨_, rfl⟩
  have hu : UAt w R0 A c L := hR0 ▸ UAt.of ha
  have y0 := hu.cell _ (Below.refl _ _)
  have KF : Hid (Calls Try.prog 54 #[.agg #[.slice A L.length c], .string s] R0 fun e w' => e = .returned (.int .i64 (findT L s)) ∧ Hid (Below w.heap.size w w')) := (lkFind0_any L A c s R0 (hu.rowAt (Below.refl _ _)) hcnt).mono fun e w' hh => ⟨hh.1, hu.out hh.2⟩
  have HR0 := Lib.hid hR0
  rw [hR0] at y0
  clear ha hu hR0 hcnt
  go_enter Try.func20, Try.ntmps20
  go_wp2_with fail
  rw [← HR0.out]
  refine KF.out.mono ?_
  rintro e1 w1 ⟨rfl, hb1⟩
  go_wp2_with fail
  go_ret
  exact ⟨rfl, hb1.out⟩
set_option maxHeartbeats 1000000 in
theorem Chain_any (L : List DT) (A : Option Addr) (c : Nat) (d0 : Int) (w : World) (ha : DsR w w.heap.size A L) (hfit : Fit L) :
    Calls Try.prog 17 #[.agg #[.slice A L.length c], .int .i64 d0] w (ISays w (chainT L d0)) := by
  obtain ⟨R0, hR0⟩ : ∃ R0 : World, R0 = w.alloc (.cells #[.slice A L.length c] 24) := ⟨_, rfl⟩
  have hu : UAt w R0 A c L := hR0 ▸ UAt.of ha
  have y0 := hu.cell _ (Below.refl _ _)
  have HU := Lib.hid hu
  have KO : Hid (Calls Try.prog 47 #[.agg #[.slice A L.length c]] R0 fun e w' => ∃ p, e = .returned (.pointer (some ⟨p, 0, none⟩)) ∧ Hid (XAt L A c p R0.heap.size w' ⟨none, none⟩) ∧ Hid (Below R0.heap.size R0 w')) := of_any L A c R0 (hu.rowAt (Below.refl _ _))
  have HX := Lib.hid (fun (p : Nat) (W : World) (hx : XAt L A c p R0.heap.size W ⟨none, none⟩) => lkChain_any L A c p R0.heap.size ⟨none, none⟩ d0 W hx hfit)
  have HR0 := Lib.hid hR0
  rw [hR0] at y0
  clear ha hu hR0 hfit
  go_enter Try.func17, Try.ntmps17
  go_wp2_with fail
  rw [← HR0.out]
  refine KO.out.mono ?_
  rintro e1 w1 ⟨p, rfl, hx1, hb1⟩
  have hle : w.heap.size ≤ w1.heap.size := (HU.out.out hb1.out).size
  go_wp2_with fail
  refine (HX.out p w1 hx1.out).mono ?_
  rintro e2 w2 ⟨A2, c2, I2, rfl, hr2, -, -, ht2⟩
  go_wp2_with fail
  go_ret
  have hb2 : Below R0.heap.size R0 w2 := hb1.out.trans (ht2.out.toBelow hx1.out hb1.out.size)
  exact ⟨A2, c2, rfl, ⟨ownsRow_lower hle hr2.out.1, hr2.out.2⟩, HU.out.out hb2⟩
set_option maxHeartbeats 1000000 in
theorem Faces_any (L : List DT) (A : Option Addr) (c : Nat) (d0 : Int) (w : World) (ha : DsR w w.heap.size A L) (hfit : Fit L) :
    Calls Try.prog 18 #[.agg #[.slice A L.length c], .int .i64 d0] w (ISays w (facesT L d0)) := by
  obtain ⟨R0, hR0⟩ : ∃ R0 : World, R0 = w.alloc (.cells #[.slice A L.length c] 24) := ⟨_, rfl⟩
  have hu : UAt w R0 A c L := hR0 ▸ UAt.of ha
  have y0 := hu.cell _ (Below.refl _ _)
  have HU := Lib.hid hu
  have KO : Hid (Calls Try.prog 47 #[.agg #[.slice A L.length c]] R0 fun e w' => ∃ p, e = .returned (.pointer (some ⟨p, 0, none⟩)) ∧ Hid (XAt L A c p R0.heap.size w' ⟨none, none⟩) ∧ Hid (Below R0.heap.size R0 w')) := of_any L A c R0 (hu.rowAt (Below.refl _ _))
  have HX := Lib.hid (fun (p : Nat) (W : World) (hx : XAt L A c p R0.heap.size W ⟨none, none⟩) => lkFaces_any L A c p R0.heap.size ⟨none, none⟩ d0 W hx hfit)
  have HR0 := Lib.hid hR0
  rw [hR0] at y0
  clear ha hu hR0 hfit
  go_enter Try.func18, Try.ntmps18
  go_wp2_with fail
  rw [← HR0.out]
  refine KO.out.mono ?_
  rintro e1 w1 ⟨p, rfl, hx1, hb1⟩
  have hle : w.heap.size ≤ w1.heap.size := (HU.out.out hb1.out).size
  go_wp2_with fail
  refine (HX.out p w1 hx1.out).mono ?_
  rintro e2 w2 ⟨A2, c2, I2, rfl, hr2, -, -, ht2⟩
  go_wp2_with fail
  go_ret
  have hb2 : Below R0.heap.size R0 w2 := hb1.out.trans (ht2.out.toBelow hx1.out hb1.out.size)
  exact ⟨A2, c2, rfl, ⟨ownsRow_lower hle hr2.out.1, hr2.out.2⟩, HU.out.out hb2⟩
set_option maxHeartbeats 1000000 in
theorem Is_any (L : List DT) (A : Option Addr) (c : Nat) (name what : ByteArray) (w : World) (ha : DsR w w.heap.size A L) (hfit : Fit L) :
    Calls Try.prog 25 #[.agg #[.slice A L.length c], .string name, .string what] w fun e w' => e = .returned (.bool (isT L name what)) ∧ Below w.heap.size w w' := by
  obtain ⟨R0, hR0⟩ : ∃ R0 : World, R0 = w.alloc (.cells #[.slice A L.length c] 24) := ⟨_, rfl⟩
  have hu : UAt w R0 A c L := hR0 ▸ UAt.of ha
  have y0 := hu.cell _ (Below.refl _ _)
  have HU := Lib.hid hu
  have KO : Hid (Calls Try.prog 47 #[.agg #[.slice A L.length c]] R0 fun e w' => ∃ p, e = .returned (.pointer (some ⟨p, 0, none⟩)) ∧ Hid (XAt L A c p R0.heap.size w' ⟨none, none⟩) ∧ Hid (Below R0.heap.size R0 w')) := of_any L A c R0 (hu.rowAt (Below.refl _ _))
  have HX := Lib.hid (fun (p : Nat) (W : World) (hx : XAt L A c p R0.heap.size W ⟨none, none⟩) => lkIs_any L A c p R0.heap.size ⟨none, none⟩ name what W hx hfit)
  have HR0 := Lib.hid hR0
  rw [hR0] at y0
  clear ha hu hR0 hfit
  go_enter Try.func25, Try.ntmps25
  go_wp2_with fail
  rw [← HR0.out]
  refine KO.out.mono ?_
  rintro e1 w1 ⟨p, rfl, hx1, hb1⟩
  have hle : w.heap.size ≤ w1.heap.size := (HU.out.out hb1.out).size
  go_wp2_with fail
  refine (HX.out p w1 hx1.out).mono ?_
  rintro e2 w2 ⟨I2, rfl, -, ht2⟩
  go_wp2_with fail
  go_ret
  have hb2 : Below R0.heap.size R0 w2 := hb1.out.trans (ht2.out.toBelow hx1.out hb1.out.size)
  exact ⟨rfl, HU.out.out hb2⟩
set_option maxHeartbeats 1000000 in
theorem Method_any (L : List DT) (A : Option Addr) (c : Nat) (d0 : Int) (s : ByteArray) (w : World) (ha : DsR w w.heap.size A L) (hfit : FitA L) (hd0 : I64 d0) :
    Calls Try.prog 15 #[.agg #[.slice A L.length c], .int .i64 d0, .string s] w (MSays w (methodT L d0 s)) := by
  obtain ⟨R0, hR0⟩ : ∃ R0 : World, R0 = (w.alloc (.cells #[.slice A L.length c] 24)).alloc (.cells #[.int .i64 0, .int .i64 0] 29) := ⟨_, rfl⟩
  have hu : UAt w R0 A c L := hR0 ▸ (UAt.of ha).alloc _
  have hg0 : R0.heap[w.heap.size + 1]? = some (.cells #[.int .i64 0, .int .i64 0] 29 (0, 0)) := by
    have := heap_alloc_new (w.alloc (.cells #[.slice A L.length c] 24)) (.cells #[.int .i64 0, .int .i64 0] 29)
    rw [hR0]
    simpa using this
  have HG := Lib.hid hg0
  have y0 := hu.cell _ (Below.refl _ _)
  have HU := Lib.hid hu
  have KO : Hid (Calls Try.prog 47 #[.agg #[.slice A L.length c]] R0 fun e w' => ∃ p, e = .returned (.pointer (some ⟨p, 0, none⟩)) ∧ Hid (XAt L A c p R0.heap.size w' ⟨none, none⟩) ∧ Hid (Below R0.heap.size R0 w')) := of_any L A c R0 (hu.rowAt (Below.refl _ _))
  have HX := Lib.hid (fun (p : Nat) (W : World) (hx : XAt L A c p R0.heap.size W ⟨none, none⟩) => lkMethod_any L A c p R0.heap.size ⟨none, none⟩ d0 s W hx hfit hd0)
  have HR0 := Lib.hid hR0
  rw [hR0] at y0
  clear ha hu hR0 hfit hg0
  unfold MSays
  go_enter Try.func15, Try.ntmps15
  go_wp2_with fail
  rw [← HR0.out]
  refine KO.out.mono ?_
  rintro e1 w1 ⟨p, rfl, hx1, hb1⟩
  have hle : w.heap.size ≤ w1.heap.size := (HU.out.out hb1.out).size
  go_wp2_with fail
  refine (HX.out p w1 hx1.out).mono ?_
  rintro e2 w2 ⟨I2, rfl, -, ht2⟩
  have hb2 : Below R0.heap.size R0 w2 := hb1.out.trans (ht2.out.toBelow hx1.out hb1.out.size)
  have hw6 := blk_cells HG.out hb2
  have g0 : w2.cell? ⟨w.heap.size + 1, 0, none⟩ = some (.int .i64 0) := by rw [cell_of_row _ _ 0 _ _ _ hw6]; rfl
  have g1 : w2.cell? ⟨w.heap.size + 1, 1, none⟩ = some (.int .i64 0) := by rw [cell_of_row _ _ 1 _ _ _ hw6]; rfl
  have f0 : w2.frozen? ⟨w.heap.size + 1, 0, none⟩ = false := frozen_of_row _ _ 0 _ _ hw6
  have f1 : w2.frozen? ⟨w.heap.size + 1, 1, none⟩ = false := frozen_of_row _ _ 1 _ _ hw6
  have HW6 := Lib.hid hw6
  have HO : ∀ a b : Int, Below w.heap.size w ((w2.setCell ⟨w.heap.size + 1, 0, none⟩ (.int .i64 a)).setCell ⟨w.heap.size + 1, 1, none⟩ (.int .i64 b)) := fun a b => ((HU.out.out hb2).setCell (p := ⟨w.heap.size + 1, 0, none⟩) (by show w.heap.size ≤ w.heap.size + 1; omega) (.int .i64 a)).setCell (p := ⟨w.heap.size + 1, 1, none⟩) (by show w.heap.size ≤ w.heap.size + 1; omega) (.int .i64 b)
  have HO2 := Lib.hid HO
  clear hw6 hb2 HO ht2 hx1 hb1 y0
  obtain ⟨mr, hm⟩ : ∃ r, r = methodT L d0 s := ⟨_, rfl⟩
  rw [← hm]
  have HM := Lib.hid hm
  clear hm HX
  cases mr with
  | none =>
    unfold whereV
    go_wp2_with fail
    exact ret_where (w3 := w2) (g := w.heap.size + 1) (a := 0) (b := 0) (ev := false) rfl HW6.out rfl rfl rfl ⟨by rw [← HM.out]; rfl, HO2.out _ _⟩
  | some ab =>
    obtain ⟨a, b⟩ := ab
    unfold whereV
    go_wp2_with fail
    exact ret_where (w3 := w2) (g := w.heap.size + 1) (a := a) (b := b) (ev := true) rfl HW6.out rfl rfl rfl ⟨by rw [← HM.out]; rfl, HO2.out _ _⟩
set_option maxHeartbeats 1000000 in
theorem Fields_any (L : List DT) (A : Option Addr) (c : Nat) (d0 : Int) (w : World) (ha : DsR w w.heap.size A L) (hfit : FitA L) (hd0 : I64 d0) :
    Calls Try.prog 19 #[.agg #[.slice A L.length c], .int .i64 d0] w (VSays w (fieldsT L d0)) := by
  obtain ⟨R0, hR0⟩ : ∃ R0 : World, R0 = w.alloc (.cells #[.slice A L.length c] 24) := ⟨_, rfl⟩
  have hu : UAt w R0 A c L := hR0 ▸ UAt.of ha
  have y0 := hu.cell _ (Below.refl _ _)
  have HU := Lib.hid hu
  have KO : Hid (Calls Try.prog 47 #[.agg #[.slice A L.length c]] R0 fun e w' => ∃ p, e = .returned (.pointer (some ⟨p, 0, none⟩)) ∧ Hid (XAt L A c p R0.heap.size w' ⟨none, none⟩) ∧ Hid (Below R0.heap.size R0 w')) := of_any L A c R0 (hu.rowAt (Below.refl _ _))
  have HX := Lib.hid (fun (p : Nat) (W : World) (hx : XAt L A c p R0.heap.size W ⟨none, none⟩) => lkFields_any L A c p R0.heap.size ⟨none, none⟩ d0 W hx hfit hd0)
  have HR0 := Lib.hid hR0
  rw [hR0] at y0
  clear ha hu hR0 hfit
  go_enter Try.func19, Try.ntmps19
  go_wp2_with fail
  rw [← HR0.out]
  refine KO.out.mono ?_
  rintro e1 w1 ⟨p, rfl, hx1, hb1⟩
  have hle : w.heap.size ≤ w1.heap.size := (HU.out.out hb1.out).size
  go_wp2_with fail
  refine (HX.out p w1 hx1.out).mono ?_
  rintro e2 w2 ⟨A2, c2, I2, rfl, hr2, -, -, ht2⟩
  go_wp2_with fail
  go_ret
  have hb2 : Below R0.heap.size R0 w2 := hb1.out.trans (ht2.out.toBelow hx1.out hb1.out.size)
  exact ⟨A2, c2, rfl, hr2.out.lower hle, HU.out.out hb2⟩
end Go.Proofs.Ytmbddofcildibaa

/-
  table.Alike BY A CONTRACT.
-/
namespace Go.Proofs.Ytmbddofcildibaa
open Go Go.RowKit
set_option linter.unusedVariables false
set_option linter.unusedSimpArgs false

/-- a variable as a value. -/
abbrev vv (v : VT) : Value := .agg #[.string v.name, .int .i64 v.type.kind, .int .i64 v.type.lo, .int .i64 v.type.hi, .string v.type.name, .int .i64 v.init, .int .i64 v.dir, .int .i64 v.slot]
set_option maxHeartbeats 4000000 in
set_option maxRecDepth 100000 in
theorem sameType_any (a b : VT) (w : World) : Calls Try.prog 57 #[vv a, vv b] w fun e w' => e = .returned (.bool (decide (a.type.tup = b.type.tup))) ∧ Below w.heap.size w w' := by
  obtain ⟨R0, hR0⟩ : ∃ R0 : World, R0 = (w.alloc (.cells a.cells.toArray 54)).alloc (.cells b.cells.toArray 54) := ⟨_, rfl⟩
  have hbw : Below w.heap.size w R0 := by rw [hR0]; exact ((Below.refl _ _).alloc (Nat.le_refl _) _).alloc (by simp) _
  have g1 : R0.heap[w.heap.size]? = some (.cells a.cells.toArray 54 (0, 0)) := by
    rw [hR0, Below.heap_alloc _ _ _ (by simp)]; exact heap_alloc_new w _
  have g2 : R0.heap[w.heap.size + 1]? = some (.cells b.cells.toArray 54 (0, 0)) := by
    have := heap_alloc_new (w.alloc (.cells a.cells.toArray 54)) (.cells b.cells.toArray 54)
    rw [hR0]; simpa using this
  have ca : ∀ j v, a.cells[j]? = some v → R0.cell? ⟨w.heap.size, j, none⟩ = some v := fun j v hj => by rw [cell_of_row _ _ j _ _ _ g1]; simpa using hj
  have cb : ∀ j v, b.cells[j]? = some v → R0.cell? ⟨w.heap.size + 1, j, none⟩ = some v := fun j v hj => by rw [cell_of_row _ _ j _ _ _ g2]; simpa using hj
  have HR0 := Lib.hid hR0
  have HBW := Lib.hid hbw
  have HT := tup_cases a.type b.type
  obtain ⟨r, hr0⟩ : ∃ r, r = decide (a.type.tup = b.type.tup) := ⟨_, rfl⟩
  rw [← hr0]
  have HR := Lib.hid hr0
  obtain ⟨an, ⟨k1, l1, h1, n1⟩, ai, ad, az⟩ := a
  obtain ⟨bn, ⟨k2, l2, h2, n2⟩, bi, bd, bz⟩ := b
  simp only at HT
  have x1 := ca 1 (.int .i64 k1) rfl
  have x2 := ca 2 (.int .i64 l1) rfl
  have x3 := ca 3 (.int .i64 h1) rfl
  have x4 := ca 4 (.string n1) rfl
  have y1 := cb 1 (.int .i64 k2) rfl
  have y2 := cb 2 (.int .i64 l2) rfl
  have y3 := cb 3 (.int .i64 h2) rfl
  have y4 := cb 4 (.string n2) rfl
  rw [HR0.out] at x1 x2 x3 x4 y1 y2 y3 y4
  unfold vv
  unfold VT.cells at x1 x2 x3 x4 y1 y2 y3 y4
  clear g1 g2 ca cb hbw hR0 hr0
  rcases HT with ⟨q, t⟩ | ⟨q, q1, t⟩ | ⟨q, q1, q2, t⟩ | ⟨q, q1, q2, q3, t⟩ | ⟨q, q1, q2, q3, t⟩
  · have p1 := eq_no q
    have HF := Lib.hid (HR.out.trans (decide_eq_false t))
    clear t q
    go_enter Try.func57, Try.ntmps57
    go_wp2_with fail
    go_ret
    exact ⟨by rw [HF.out]; rfl, HR0.out ▸ HBW.out⟩
  · have p1 := eq_no q1
    have HF := Lib.hid (HR.out.trans (decide_eq_false t))
    subst q
    clear t q1
    go_enter Try.func57, Try.ntmps57
    go_wp2_with fail
    go_ret
    exact ⟨by rw [HF.out]; rfl, HR0.out ▸ HBW.out⟩
  · have p1 := eq_no q2
    have HF := Lib.hid (HR.out.trans (decide_eq_false t))
    subst q q1
    clear t q2
    go_enter Try.func57, Try.ntmps57
    go_wp2_with fail
    go_ret
    exact ⟨by rw [HF.out]; rfl, HR0.out ▸ HBW.out⟩
  · have p1 := str_ne q3
    have HF := Lib.hid (HR.out.trans (decide_eq_false t))
    subst q q1 q2
    clear t q3
    go_enter Try.func57, Try.ntmps57
    go_wp2_with fail
    go_ret
    exact ⟨by rw [HF.out]; rfl, HR0.out ▸ HBW.out⟩
  · have HF := Lib.hid (HR.out.trans (decide_eq_true t))
    subst q q1 q2 q3
    clear t
    go_enter Try.func57, Try.ntmps57
    go_wp2_with fail
    go_ret
    exact ⟨by rw [HF.out]; rfl, HR0.out ▸ HBW.out⟩

set_option maxHeartbeats 4000000 in
set_option maxRecDepth 100000 in
theorem equalFunc_any (PA PB : List VT) (A1 B1 : Option Addr) (c1 d1 : Nat) (w : World) (ha : VsR w w.heap.size A1 PA) (hb : VsR w w.heap.size B1 PB) (hcnt : PA.length ≤ 1000000000) :
    Calls Try.prog 58 #[.slice A1 PA.length c1, .slice B1 PB.length d1, .func (.func 57) #[] #[]] w fun e w' => e = .returned (.bool (decide (PA.map (fun v => v.type.tup) = PB.map (fun v => v.type.tup)))) ∧ Below w.heap.size w w' := by
  obtain ⟨r, hr0⟩ : ∃ r, r = decide (PA.map (fun v => v.type.tup) = PB.map (fun v => v.type.tup)) := ⟨_, rfl⟩
  rw [← hr0]
  have HR := Lib.hid hr0
  have HA := Lib.hid ha
  have HB := Lib.hid hb
  have HBW : Hid (Below w.heap.size w w) := Below.refl _ _
  have KS : Hid (∀ W a b, Calls Try.prog 57 #[vv a, vv b] W fun e w' => e = .returned (.bool (decide (a.type.tup = b.type.tup))) ∧ Hid (Below W.heap.size W w')) := fun W a b => sameType_any a b W
  clear hr0 ha hb
  by_cases hl : PA.length = PB.length
  · have hl1 : ((PA.length : Int) != (PB.length : Int)) = false := ne_no2 hl
    have HL := Lib.hid hl
    clear hl
    go_enter Try.func58, Try.ntmps58
    go_wp2_with fail
    go_loopw [17] (fun i wr => ∃ k : Nat, k ≤ PA.length ∧ i = .int .i64 k ∧ Hid (∀ j, j < k → ∀ (h1 : j < PA.length) (h2 : j < PB.length), PA[j].type.tup = PB[j].type.tup) ∧ Hid (Below w.heap.size w wr)) (fun i _ => PA.length - (intOf i).toNat)
    case atStart => exact ⟨0, Nat.zero_le _, rfl, fun j h => absurd h (Nat.not_lt_zero _), HBW⟩
    case round =>
      obtain ⟨k, hk, rfl, hall, hb⟩ := hrel
      have z0 : (0 : Int) ≤ (k : Int) := by omega
      have hl := HL.out
      by_cases hlt : k < PA.length
      · have hlt2 : k < PB.length := by omega
        have z1 : (k : Int) < (PA.length : Int) := by omega
        have z2 : (k : Int) < (PB.length : Int) := by omega
        obtain ⟨ga, oa, ca, rfl, hga, -, hca, hea⟩ := (VsR.mono (Nat.le_refl _) hb.out.block HA.out) k hlt
        obtain ⟨gb, ob, cb, rfl, hgb, -, hcb, heb⟩ := (VsR.mono (Nat.le_refl _) hb.out.block HB.out) k hlt2
        have hnx : PA[k].type.tup = PB[k].type.tup → ∀ j, j < k + 1 → ∀ (h1 : j < PA.length) (h2 : j < PB.length), PA[j].type.tup = PB[j].type.tup := fun e j hj h1 h2 => by
          rcases Nat.lt_or_ge j k with h3 | h3
          · exact hall.out j h3 h1 h2
          · obtain rfl : j = k := by omega
            exact e
        have hno : ¬ PA[k].type.tup = PB[k].type.tup → r = false := fun e => by
          rw [HR.out]
          refine decide_eq_false fun e2 => e ?_
          have e3 : (PA.map (fun v => v.type.tup))[k]? = (PB.map (fun v => v.type.tup))[k]? := by rw [e2]
          simpa [List.getElem?_map, List.getElem?_eq_getElem hlt, List.getElem?_eq_getElem hlt2] using e3
        obtain ⟨va, hva⟩ : ∃ v : VT, v = PA[k] := ⟨_, rfl⟩
        obtain ⟨vb, hvb⟩ : ∃ v : VT, v = PB[k] := ⟨_, rfl⟩
        rw [← hva] at hea hnx hno
        rw [← hvb] at heb hnx hno
        obtain ⟨rfl, -⟩ := hea
        obtain ⟨rfl, -⟩ := heb
        have a0 := hca 0 (.string va.name) rfl
        have a1 := hca 1 (.int .i64 va.type.kind) rfl
        have a2 := hca 2 (.int .i64 va.type.lo) rfl
        have a3 := hca 3 (.int .i64 va.type.hi) rfl
        have a4 := hca 4 (.string va.type.name) rfl
        have a5 := hca 5 (.int .i64 va.init) rfl
        have a6 := hca 6 (.int .i64 va.dir) rfl
        have a7 := hca 7 (.int .i64 va.slot) rfl
        have b0 := hcb 0 (.string vb.name) rfl
        have b1 := hcb 1 (.int .i64 vb.type.kind) rfl
        have b2 := hcb 2 (.int .i64 vb.type.lo) rfl
        have b3 := hcb 3 (.int .i64 vb.type.hi) rfl
        have b4 := hcb 4 (.string vb.type.name) rfl
        have b5 := hcb 5 (.int .i64 vb.init) rfl
        have b6 := hcb 6 (.int .i64 vb.dir) rfl
        have b7 := hcb 7 (.int .i64 vb.slot) rfl
        rw [Nat.add_zero] at a0 b0
        have HNX := Lib.hid hnx
        have HNO := Lib.hid hno
        clear hca hcb hva hvb hl hnx hno
        have hgb2 : gb < wr.heap.size := Nat.lt_of_lt_of_le hgb hb.out.size
        have hfar : ∀ j u, wr.cell? ⟨gb, j, none⟩ = some u → (wr.alloc (.cells #[.string va.name, .int .i64 va.type.kind, .int .i64 va.type.lo, .int .i64 va.type.hi, .string va.type.name, .int .i64 va.init, .int .i64 va.dir, .int .i64 va.slot] 54)).cell? ⟨gb, j, none⟩ = some u := fun j u h => (World.cell?_of_block (Below.heap_alloc _ _ _ hgb2)).trans h
        replace b0 := hfar _ _ b0
        replace b1 := hfar _ _ b1
        replace b2 := hfar _ _ b2
        replace b3 := hfar _ _ b3
        replace b4 := hfar _ _ b4
        replace b5 := hfar _ _ b5
        replace b6 := hfar _ _ b6
        replace b7 := hfar _ _ b7
        have hn1 : ∀ j u, (#[.string va.name, .int .i64 va.type.kind, .int .i64 va.type.lo, .int .i64 va.type.hi, .string va.type.name, .int .i64 va.init, .int .i64 va.dir, .int .i64 va.slot] : Array Value).toList[j]? = some u → ((wr.alloc (.cells #[.string va.name, .int .i64 va.type.kind, .int .i64 va.type.lo, .int .i64 va.type.hi, .string va.type.name, .int .i64 va.init, .int .i64 va.dir, .int .i64 va.slot] 54)).alloc (.cells #[.string vb.name, .int .i64 vb.type.kind, .int .i64 vb.type.lo, .int .i64 vb.type.hi, .string vb.type.name, .int .i64 vb.init, .int .i64 vb.dir, .int .i64 vb.slot] 54)).cell? ⟨wr.heap.size, j, none⟩ = some u := fun j u h => by
          rw [World.cell?_of_block (w := wr.alloc (.cells #[.string va.name, .int .i64 va.type.kind, .int .i64 va.type.lo, .int .i64 va.type.hi, .string va.type.name, .int .i64 va.init, .int .i64 va.dir, .int .i64 va.slot] 54)) (Below.heap_alloc _ _ _ (by simp)), cell_of_row _ _ j _ _ _ (heap_alloc_new wr _)]
          simpa using h
        have hn2 : ∀ j u, (#[.string vb.name, .int .i64 vb.type.kind, .int .i64 vb.type.lo, .int .i64 vb.type.hi, .string vb.type.name, .int .i64 vb.init, .int .i64 vb.dir, .int .i64 vb.slot] : Array Value).toList[j]? = some u → ((wr.alloc (.cells #[.string va.name, .int .i64 va.type.kind, .int .i64 va.type.lo, .int .i64 va.type.hi, .string va.type.name, .int .i64 va.init, .int .i64 va.dir, .int .i64 va.slot] 54)).alloc (.cells #[.string vb.name, .int .i64 vb.type.kind, .int .i64 vb.type.lo, .int .i64 vb.type.hi, .string vb.type.name, .int .i64 vb.init, .int .i64 vb.dir, .int .i64 vb.slot] 54)).cell? ⟨wr.heap.size + 1, j, none⟩ = some u := fun j u h => by
          have e := heap_alloc_new (wr.alloc (.cells #[.string va.name, .int .i64 va.type.kind, .int .i64 va.type.lo, .int .i64 va.type.hi, .string va.type.name, .int .i64 va.init, .int .i64 va.dir, .int .i64 va.slot] 54)) (.cells #[.string vb.name, .int .i64 vb.type.kind, .int .i64 vb.type.lo, .int .i64 vb.type.hi, .string vb.type.name, .int .i64 vb.init, .int .i64 vb.dir, .int .i64 vb.slot] 54)
          rw [show (wr.alloc (.cells #[.string va.name, .int .i64 va.type.kind, .int .i64 va.type.lo, .int .i64 va.type.hi, .string va.type.name, .int .i64 va.init, .int .i64 va.dir, .int .i64 va.slot] 54)).heap.size = wr.heap.size + 1 from by simp] at e
          rw [cell_of_row _ _ j _ _ _ e]
          simpa using h
        have m0 := hn1 0 (.string va.name) rfl
        have n0 := hn2 0 (.string vb.name) rfl
        have m1 := hn1 1 (.int .i64 va.type.kind) rfl
        have n1 := hn2 1 (.int .i64 vb.type.kind) rfl
        have m2 := hn1 2 (.int .i64 va.type.lo) rfl
        have n2 := hn2 2 (.int .i64 vb.type.lo) rfl
        have m3 := hn1 3 (.int .i64 va.type.hi) rfl
        have n3 := hn2 3 (.int .i64 vb.type.hi) rfl
        have m4 := hn1 4 (.string va.type.name) rfl
        have n4 := hn2 4 (.string vb.type.name) rfl
        have m5 := hn1 5 (.int .i64 va.init) rfl
        have n5 := hn2 5 (.int .i64 vb.init) rfl
        have m6 := hn1 6 (.int .i64 va.dir) rfl
        have n6 := hn2 6 (.int .i64 vb.dir) rfl
        have m7 := hn1 7 (.int .i64 va.slot) rfl
        have n7 := hn2 7 (.int .i64 vb.slot) rfl
        have HB2 : Hid (Below w.heap.size w ((wr.alloc (.cells #[.string va.name, .int .i64 va.type.kind, .int .i64 va.type.lo, .int .i64 va.type.hi, .string va.type.name, .int .i64 va.init, .int .i64 va.dir, .int .i64 va.slot] 54)).alloc (.cells #[.string vb.name, .int .i64 vb.type.kind, .int .i64 vb.type.lo, .int .i64 vb.type.hi, .string vb.type.name, .int .i64 vb.init, .int .i64 vb.dir, .int .i64 vb.slot] 54))) := (hb.out.alloc hb.out.size _).alloc (by have := hb.out.size; simp; omega) _
        have KS1 : Hid (∀ W, Calls Try.prog 57 #[vv va, vv vb] W fun e w' => e = .returned (.bool (decide (va.type.tup = vb.type.tup))) ∧ Hid (Below W.heap.size W w')) := fun W => KS.out W va vb
        obtain ⟨bb, hbb⟩ : ∃ b, b = decide (va.type.tup = vb.type.tup) := ⟨_, rfl⟩
        rw [← hbb] at KS1
        have HBB := Lib.hid hbb
        unfold vv at KS1
        clear hfar hn1 hn2 hgb2 hbb
        go_wp2_with fail
        refine (KS1.out _).mono ?_
        rintro e5 w5 ⟨rfl, hb5⟩
        have HB5 : Hid (Below w.heap.size w w5) := HB2.out.trans (hb5.out.mono HB2.out.size)
        clear hb5 HB2 a0 a1 a2 a3 a4 a5 a6 a7 b0 b1 b2 b3 b4 b5 b6 b7 m0 m1 m2 m3 m4 m5 m6 m7 n0 n1 n2 n3 n4 n5 n6 n7
        cases bb
        · have HF := Lib.hid (HNO.out (of_decide_eq_false HBB.out.symm))
          go_wp2_with fail
          go_ret
          exact ⟨by rw [HF.out]; rfl, HB5.out⟩
        · have HN2 := Lib.hid (HNX.out (of_decide_eq_true HBB.out.symm))
          go_wp2_with fail
          go_roundw
          case rel => exact ⟨k + 1, by omega, by go_num, HN2, HB5⟩
          case measure => simp [intOf]; omega
      · have z1 : ¬ (k : Int) < (PA.length : Int) := by omega
        have hy : r = true := by
          rw [HR.out]
          refine decide_eq_true (List.ext_getElem (by simpa using hl) fun i h1 h2 => ?_)
          simp only [List.getElem_map]
          exact hall.out i (by simp at h1; omega) (by simpa using h1) (by simpa using h2)
        have HF := Lib.hid hy
        clear hy
        go_wp2_with fail
        go_ret
        exact ⟨by rw [HF.out]; rfl, hb.out⟩
  · have hl1 : ((PA.length : Int) != (PB.length : Int)) = true := ne_yes2 hl
    have hy : r = false := by
      rw [HR.out]
      exact decide_eq_false fun e => hl (by simpa using congrArg List.length e)
    have HF := Lib.hid hy
    clear hl hy
    go_enter Try.func58, Try.ntmps58
    go_wp2_with fail
    go_ret
    exact ⟨by rw [HF.out]; rfl, HBW.out⟩
set_option maxHeartbeats 4000000 in
set_option maxRecDepth 100000 in
theorem Alike_any (a b : MT) (A1 A2 A3 B1 B2 B3 : Option Addr) (c1 c2 c3 d1 d2 d3 : Nat) (w : World) (ha : VsR w w.heap.size A1 a.params) (hb : VsR w w.heap.size B1 b.params) (hcnt : a.params.length ≤ 1000000000) :
    Calls Try.prog 31 #[.agg (mcells a A1 A2 A3 c1 c2 c3), .agg (mcells b B1 B2 B3 d1 d2 d3)] w fun e w' => e = .returned (.bool (alikeT a b)) ∧ Below w.heap.size w w' := by
  obtain ⟨R0, hR0⟩ : ∃ R0 : World, R0 = (w.alloc (.cells (mcells a A1 A2 A3 c1 c2 c3) 52)).alloc (.cells (mcells b B1 B2 B3 d1 d2 d3) 52) := ⟨_, rfl⟩
  have hbw : Below w.heap.size w R0 := by rw [hR0]; exact ((Below.refl _ _).alloc (Nat.le_refl _) _).alloc (by simp) _
  have g1 : R0.heap[w.heap.size]? = some (.cells (mcells a A1 A2 A3 c1 c2 c3) 52 (0, 0)) := by
    rw [hR0, Below.heap_alloc _ _ _ (by simp)]; exact heap_alloc_new w _
  have g2 : R0.heap[w.heap.size + 1]? = some (.cells (mcells b B1 B2 B3 d1 d2 d3) 52 (0, 0)) := by
    have := heap_alloc_new (w.alloc (.cells (mcells a A1 A2 A3 c1 c2 c3) 52)) (.cells (mcells b B1 B2 B3 d1 d2 d3) 52)
    rw [hR0]; simpa using this
  have ca : ∀ j v, (mcells a A1 A2 A3 c1 c2 c3).toList[j]? = some v → R0.cell? ⟨w.heap.size, j, none⟩ = some v := fun j v hj => by rw [cell_of_row _ _ j _ _ _ g1]; simpa using hj
  have cb : ∀ j v, (mcells b B1 B2 B3 d1 d2 d3).toList[j]? = some v → R0.cell? ⟨w.heap.size + 1, j, none⟩ = some v := fun j v hj => by rw [cell_of_row _ _ j _ _ _ g2]; simpa using hj
  have KE : Hid (Calls Try.prog 58 #[.slice A1 a.params.length c1, .slice B1 b.params.length d1, .func (.func 57) #[] #[]] R0 fun e w' => e = .returned (.bool (decide (a.params.map (fun v => v.type.tup) = b.params.map (fun v => v.type.tup)))) ∧ Hid (Below w.heap.size w w')) := (equalFunc_any a.params b.params A1 B1 c1 d1 R0 (VsR.mono hbw.size hbw.block ha) (VsR.mono hbw.size hbw.block hb) hcnt).mono fun e w' hh => ⟨hh.1, hbw.trans (hh.2.mono hbw.size)⟩
  have HR0 := Lib.hid hR0
  have HBW := Lib.hid hbw
  have HT := tup_cases a.result b.result
  obtain ⟨pr, hpr⟩ : ∃ x, x = decide (a.params.map (fun v => v.type.tup) = b.params.map (fun v => v.type.tup)) := ⟨_, rfl⟩
  obtain ⟨r, hr0⟩ : ∃ r, r = alikeT a b := ⟨_, rfl⟩
  have hr1 : r = (decide (a.result.tup = b.result.tup) && pr) := by rw [hr0, alikeT, hpr]
  rw [← hr0]
  rw [← hpr] at KE
  clear hr0 hpr
  obtain ⟨an, ao, aa, af, PA, ⟨k1, l1, h1, n1⟩, av, ab⟩ := a
  obtain ⟨bn, bo, ba, bf, PB, ⟨k2, l2, h2, n2⟩, bv, bb⟩ := b
  simp only at HT hr1 KE
  have HR := Lib.hid hr1
  have x4 := ca 4 (.slice A1 PA.length c1) rfl
  have x5 := ca 5 (.int .i64 k1) rfl
  have x6 := ca 6 (.int .i64 l1) rfl
  have x7 := ca 7 (.int .i64 h1) rfl
  have x8 := ca 8 (.string n1) rfl
  have y4 := cb 4 (.slice B1 PB.length d1) rfl
  have y5 := cb 5 (.int .i64 k2) rfl
  have y6 := cb 6 (.int .i64 l2) rfl
  have y7 := cb 7 (.int .i64 h2) rfl
  have y8 := cb 8 (.string n2) rfl
  clear g1 g2 ca cb hbw hR0 ha hb hr1
  rw [HR0.out] at x4 y4 x5 x6 x7 x8 y5 y6 y7 y8
  rcases HT with ⟨q, t⟩ | ⟨q, q1, t⟩ | ⟨q, q1, q2, t⟩ | ⟨q, q1, q2, q3, t⟩ | ⟨q, q1, q2, q3, t⟩
  · have hf := HR.out
    rw [decide_eq_false t, Bool.false_and] at hf
    have HF := Lib.hid hf
    have p1 := eq_no q
    clear q
    clear t hf
    go_enter Try.func31, Try.ntmps31
    go_wp2_with fail
    go_ret
    exact ⟨by rw [HF.out]; rfl, HR0.out ▸ HBW.out⟩
  · have hf := HR.out
    rw [decide_eq_false t, Bool.false_and] at hf
    have HF := Lib.hid hf
    have p1 := eq_no q1
    have q : k1 = k2 := q
    subst q
    clear t hf
    go_enter Try.func31, Try.ntmps31
    go_wp2_with fail
    go_ret
    exact ⟨by rw [HF.out]; rfl, HR0.out ▸ HBW.out⟩
  · have hf := HR.out
    rw [decide_eq_false t, Bool.false_and] at hf
    have HF := Lib.hid hf
    have p1 := eq_no q2
    have q : k1 = k2 := q
    have q1 : l1 = l2 := q1
    subst q q1
    clear t hf
    go_enter Try.func31, Try.ntmps31
    go_wp2_with fail
    go_ret
    exact ⟨by rw [HF.out]; rfl, HR0.out ▸ HBW.out⟩
  · have hf := HR.out
    rw [decide_eq_false t, Bool.false_and] at hf
    have HF := Lib.hid hf
    have p1 := str_ne q3
    have q : k1 = k2 := q
    have q1 : l1 = l2 := q1
    have q2 : h1 = h2 := q2
    subst q q1 q2
    clear t hf
    go_enter Try.func31, Try.ntmps31
    go_wp2_with fail
    go_ret
    exact ⟨by rw [HF.out]; rfl, HR0.out ▸ HBW.out⟩
  · have hf := HR.out
    rw [decide_eq_true t, Bool.true_and] at hf
    have HF := Lib.hid hf
    have q : k1 = k2 := q
    have q1 : l1 = l2 := q1
    have q2 : h1 = h2 := q2
    have q3 : n1 = n2 := q3
    subst q q1 q2 q3
    clear t hf
    go_enter Try.func31, Try.ntmps31
    go_wp2_with fail
    rw [← HR0.out]
    refine KE.out.mono ?_
    rintro e1 w1 ⟨rfl, hb1⟩
    clear x4 y4 x5 x6 x7 x8 y5 y6 y7 y8
    go_wp2_with fail
    go_ret
    exact ⟨by rw [HF.out]; rfl, hb1.out⟩
end Go.Proofs.Ytmbddofcildibaa

/-
  governorlaw0: SameInts, SameVars, OverInts, OverVars, Low BY CONTRACTS.
-/
namespace Go.Proofs.Ytmbddofcildibaa
open Go Go.RowKit
set_option linter.unusedVariables false
set_option linter.unusedSimpArgs false

set_option maxHeartbeats 1000000 in
set_option maxRecDepth 100000 in
/-- two rows of the same numbers are the same. -/
theorem sameInts_any (l : List Int) (A1 A2 : Option Addr) (c1 c2 : Nat) (w : World) (h1 : NsR w w.heap.size A1 l) (h2 : NsR w w.heap.size A2 l) (hcnt : l.length ≤ 1000000000) :
    Calls Try.prog 22 #[.slice A1 l.length c1, .slice A2 l.length c2] w fun e w' => e = .returned (.bool true) ∧ Below w.heap.size w w' := by
  have H1 := Lib.hid h1
  have H2 := Lib.hid h2
  have HB0 : Hid (Below w.heap.size w w) := Below.refl _ _
  clear h1 h2
  go_enter Try.func22, Try.ntmps22
  go_wp2_with fail
  go_loopw [5] (fun i wr => ∃ k : Nat, k ≤ l.length ∧ i = .int .i64 k ∧ Hid (Below w.heap.size w wr)) (fun i _ => l.length - (intOf i).toNat)
  case atStart => exact ⟨0, Nat.zero_le _, rfl, HB0⟩
  case round =>
    obtain ⟨k, hk, rfl, hb⟩ := hrel
    have z0 : (0 : Int) ≤ (k : Int) := by omega
    by_cases hlt : k < l.length
    · have z1 : (k : Int) < (l.length : Int) := by omega
      obtain ⟨g1, o1, cs1, rfl, _, _, hc1, he1⟩ := (NsR.mono (Nat.le_refl _) hb.out.block H1.out) k hlt
      obtain ⟨g2, o2, cs2, rfl, _, _, hc2, he2⟩ := (NsR.mono (Nat.le_refl _) hb.out.block H2.out) k hlt
      obtain ⟨rfl, -⟩ := he1
      obtain ⟨rfl, -⟩ := he2
      have x1 := hc1 0 _ rfl
      have x2 := hc2 0 _ rfl
      simp only [Nat.mul_one, Nat.add_zero] at x1 x2
      have hb2 : Hid (Below w.heap.size w wr.drew) := hb.out.drew
      obtain ⟨m, hm⟩ : ∃ m, m = l[k] := ⟨_, rfl⟩
      rw [← hm] at x1 x2
      clear hc1 hc2 hm
      go_wp2_with fail
      go_region
      go_wp2_with fail
      go_roundw
      case rel => exact ⟨k + 1, by omega, by go_num, hb2⟩
      case measure => simp [intOf]; omega
    · have z1 : ¬ (k : Int) < (l.length : Int) := by omega
      go_wp2_with fail
      go_ret
      exact ⟨rfl, hb.out⟩
set_option maxHeartbeats 2000000 in
set_option maxRecDepth 100000 in
/-- two rows of the same variables are the same. -/
theorem sameVars_any (l : List VT) (A1 A2 : Option Addr) (c1 c2 : Nat) (w : World) (h1 : VsR w w.heap.size A1 l) (h2 : VsR w w.heap.size A2 l) (hcnt : l.length ≤ 1700000000000) :
    Calls Try.prog 27 #[.slice A1 l.length c1, .slice A2 l.length c2] w fun e w' => e = .returned (.bool true) ∧ Below w.heap.size w w' := by
  have H1 := Lib.hid h1
  have H2 := Lib.hid h2
  have HB0 : Hid (Below w.heap.size w w) := Below.refl _ _
  clear h1 h2
  go_enter Try.func27, Try.ntmps27
  go_wp2_with fail
  go_loopw [5] (fun i wr => ∃ k : Nat, k ≤ l.length ∧ i = .int .i64 k ∧ Hid (Below w.heap.size w wr)) (fun i _ => l.length - (intOf i).toNat)
  case atStart => exact ⟨0, Nat.zero_le _, rfl, HB0⟩
  case round =>
    obtain ⟨k, hk, rfl, hb⟩ := hrel
    have z0 : (0 : Int) ≤ (k : Int) := by omega
    by_cases hlt : k < l.length
    · have z1 : (k : Int) < (l.length : Int) := by omega
      obtain ⟨g1, o1, cs1, rfl, _, _, hc1, he1⟩ := (VsR.mono (Nat.le_refl _) hb.out.block H1.out) k hlt
      obtain ⟨g2, o2, cs2, rfl, _, _, hc2, he2⟩ := (VsR.mono (Nat.le_refl _) hb.out.block H2.out) k hlt
      obtain ⟨va, hva⟩ : ∃ v : VT, v = l[k] := ⟨_, rfl⟩
      rw [← hva] at he1 he2
      obtain ⟨rfl, -⟩ := he1
      obtain ⟨rfl, -⟩ := he2
      have a0 := hc1 0 (.string va.name) rfl
      have a1 := hc1 1 (.int .i64 va.type.kind) rfl
      have a2 := hc1 2 (.int .i64 va.type.lo) rfl
      have a3 := hc1 3 (.int .i64 va.type.hi) rfl
      have a4 := hc1 4 (.string va.type.name) rfl
      have a5 := hc1 5 (.int .i64 va.init) rfl
      have a6 := hc1 6 (.int .i64 va.dir) rfl
      have a7 := hc1 7 (.int .i64 va.slot) rfl
      have b0 := hc2 0 (.string va.name) rfl
      have b1 := hc2 1 (.int .i64 va.type.kind) rfl
      have b2 := hc2 2 (.int .i64 va.type.lo) rfl
      have b3 := hc2 3 (.int .i64 va.type.hi) rfl
      have b4 := hc2 4 (.string va.type.name) rfl
      have b5 := hc2 5 (.int .i64 va.init) rfl
      have b6 := hc2 6 (.int .i64 va.dir) rfl
      have b7 := hc2 7 (.int .i64 va.slot) rfl
      rw [Nat.add_zero] at a0 b0
      have hb2 : Hid (Below w.heap.size w wr.drew) := hb.out.drew
      clear hc1 hc2 hva
      go_wp2_with fail
      go_region
      go_wp2_with fail
      go_roundw
      case rel => exact ⟨k + 1, by omega, by go_num, hb2⟩
      case measure => simp [intOf]; omega
    · have z1 : ¬ (k : Int) < (l.length : Int) := by omega
      go_wp2_with fail
      go_ret
      exact ⟨rfl, hb.out⟩

/-- a row of the call's own, whatever it holds. -/
def Owned (B : Nat) (w : World) (e : TypeId) (sz : Nat) (A : Option Addr) (n c : Nat) : Prop := ∃ xs, w.ownsRow B e sz (.slice A n c) n xs
theorem Owned.set {B : Nat} {w : World} {e : TypeId} {sz n c g : Nat} (h : Owned B w e sz (some ⟨g, 0, none⟩) n c) (j : Nat) (u : Value) : Owned B (w.setCell ⟨g, j, none⟩ u) e sz (some ⟨g, 0, none⟩) n c := by
  obtain ⟨xs, hx, h1⟩ := h
  rcases h1 with ⟨h1, _⟩ | ⟨g', cap, cur, hv, hb, hg, h2, h3, h4, h5⟩
  · cases h1
  · simp only [Value.slice.injEq, Option.some.injEq, Addr.mk.injEq, and_true, true_and] at hv
    obtain ⟨rfl, rfl⟩ := hv
    refine ⟨(cur.set! j u).toList.take (n * sz), ?_, .inr ⟨g, c, cur.set! j u, rfl, hb, heap_set_cell hg j u, h2, h3, by simp [h4], rfl⟩⟩
    have hle : n * sz ≤ c * sz := Nat.mul_le_mul_right _ h2
    simp only [List.length_take, Array.length_toList]
    have : (cur.set! j u).size = cur.size := by simp
    omega
theorem Owned.cell {B : Nat} {w : World} {e : TypeId} {sz n c : Nat} {A : Option Addr} (h : Owned B w e sz A n c) (hn : 0 < n) : ∃ g, A = some ⟨g, 0, none⟩ ∧ B ≤ g ∧ (∀ j, j < n * sz → ∃ v, w.cell? ⟨g, j, none⟩ = some v) ∧ ∀ j, w.frozen? ⟨g, j, none⟩ = false := by
  obtain ⟨xs, hx, h1⟩ := h
  rcases h1 with ⟨_, h1⟩ | ⟨g, cap, cur, hv, hb, hg, h2, h3, h4, h5⟩
  · omega
  · simp only [Value.slice.injEq, true_and] at hv
    obtain ⟨rfl, rfl⟩ := hv
    refine ⟨g, rfl, hb, fun j hj => ⟨cur[j]'?_, ?_⟩, fun j => frozen_of_row _ _ j _ _ hg⟩
    · have hle : n * sz ≤ c * sz := Nat.mul_le_mul_right _ h2
      omega
    · rw [cell_of_row _ _ j _ _ _ hg]
      exact Array.getElem?_eq_getElem _
theorem grown_refl (w : World) (o : Option Nat) : w.grownBy w o := ⟨rfl, rfl, rfl, Nat.le_refl _, fun _ _ _ => rfl⟩
theorem grown_trans {u v w : World} {o : Option Nat} (h : u.grownBy v o) (k : v.grownBy w o) : u.grownBy w o := ⟨k.os.trans h.os, k.tape.trans h.tape, k.output.trans h.output, Nat.le_trans h.size k.size, fun i hi hn => (k.block i (Nat.lt_of_lt_of_le hi h.size) hn).trans (h.block i hi hn)⟩
theorem grown_set {u w : World} {g j : Nat} {v : Value} (h : u.grownBy w (some g)) : u.grownBy (w.setCell ⟨g, j, none⟩ v) (some g) := ⟨h.os, h.tape, h.output, Nat.le_trans h.size (by simp [World.setCell]), fun i hi hn => by
  rw [Below.heap_setCell _ _ _ _ (by show i ≠ g; exact fun e => hn (by rw [e]))]
  exact h.block i hi hn⟩
theorem grown_alloc (w : World) (o : Obj) (r : Option Nat) : w.grownBy (w.alloc o) r := ⟨rfl, rfl, rfl, by simp, fun i hi _ => Below.heap_alloc _ _ _ hi⟩
theorem grown_below {w w' : World} {A : Option Addr} {n c B : Nat} (h : w.grownBy w' (Value.slice A n c).ownBlock) (hg : ∀ g, A = some ⟨g, 0, none⟩ → B ≤ g) (hA : A = none ∨ ∃ g, A = some ⟨g, 0, none⟩) (hB : B ≤ w.heap.size) : Below B w w' := ⟨h.os, h.tape, h.output, h.size, fun i hi => h.block i (Nat.lt_of_lt_of_le hi hB) (fun e => by
  rcases hA with rfl | ⟨g, rfl⟩
  · cases e
  · have := hg g rfl
    have : i = g := by simpa [Value.ownBlock] using e
    omega)⟩
theorem setCell_below {B : Nat} {a w : World} {g j : Nat} {u : Value} (h : Below B a w) (hg : B ≤ g) : Below B a (w.setCell ⟨g, j, none⟩ u) := h.setCell (p := ⟨g, j, none⟩) hg u
set_option maxHeartbeats 2000000 in
set_option maxRecDepth 100000 in
/-- OverInts writes over a row of the caller's own; nothing else is changed. -/
theorem overInts_any (n c B : Nat) (A : Option Addr) (w : World) (h : Owned B w 3 1 A n c) (hcnt : n ≤ 1000000000) (hB : B ≤ w.heap.size) :
    Calls Try.prog 29 #[.slice A n c] w fun e w' => e = .returned (.tuple #[]) ∧ w.grownBy w' (Value.slice A n c).ownBlock := by
  obtain ⟨i0, hi0, hz0, hz1, hz2⟩ := info_parts Try.infoInt
  have HO := Lib.hid h
  have HBB := Lib.hid hB
  have HB0 : Hid (w.grownBy w (Value.slice A n c).ownBlock) := grown_refl _ _
  clear h hB
  go_enter Try.func29, Try.ntmps29
  go_wp2_with fail
  go_loopw [2] (fun i wr => ∃ k : Nat, k ≤ n ∧ i = .int .i64 k ∧ Hid (Owned B wr 3 1 A n c) ∧ Hid (w.grownBy wr (Value.slice A n c).ownBlock)) (fun i _ => n - (intOf i).toNat)
  case atStart => exact ⟨0, Nat.zero_le _, rfl, HO, HB0⟩
  case round =>
    obtain ⟨k, hk, rfl, ho, hb⟩ := hrel
    have z0 : (0 : Int) ≤ (k : Int) := by omega
    by_cases hlt : k < n
    · have z1 : (k : Int) < (n : Int) := by omega
      obtain ⟨g, rfl, hg, hc, hf⟩ := ho.out.cell (by omega)
      obtain ⟨v, x⟩ := hc k (by omega)
      have f := hf k
      have ho2 : Hid (Owned B (wr.setCell ⟨g, k, none⟩ (.int .i64 (-999))) 3 1 (some ⟨g, 0, none⟩) n c) := ho.out.set k _
      have hb2 : Hid (w.grownBy (wr.setCell ⟨g, k, none⟩ (.int .i64 (-999))) (some g)) := grown_set hb.out
      clear hc hf
      go_wp2_with fail
      go_roundw
      case rel => exact ⟨k + 1, by omega, by go_num, ho2, hb2⟩
      case measure => simp [intOf]; omega
    · have z1 : ¬ (k : Int) < (n : Int) := by omega
      obtain ⟨xs, hx⟩ := ho.out
      have hbs := Nat.le_trans HBB.out hb.out.size
      go_wp2_with (at_builtin; refine wpList_append_own _ rfl _ _ 32 rfl B 3 i0 (.int .i64 0) 1 8 Try.underlying32 hi0 hz0 hz1 hz2 rfl (by decide) _ _ _ rfl (hx.alloc _) ⟨wr.heap.size, 0, none⟩ 1 1 [.int .i64 (-999)] rfl rfl (cell_one_new _ _ _) (by simp [Value.oneCell']) (by unfold maxLen; omega) (by omega) (by simp; omega) ?_)
      intro v2 w3 hown3 hgrow3 _
      have HB3 : Hid (w.grownBy w3 (Value.slice A n c).ownBlock) := grown_trans (grown_trans hb.out (grown_alloc _ _ _)) hgrow3
      clear hown3 hgrow3
      go_wp2_with fail
      go_end0
      exact ⟨rfl, HB3.out⟩
theorem ret_int {a b : Int} (h : a = b) : Ending.returned (.int .i64 a) = .returned (.int .i64 b) := by rw [h]
/-- Low: from 0 to below n. -/
theorem low_any (x : Int) (m : Nat) (hm : 0 < m) (hm2 : m ≤ 2000000) (w : World) : Calls Try.prog 14 #[.int .i64 x, .int .i64 (m : Int)] w fun e w' => (∃ r : Nat, r < m ∧ e = .returned (.int .i64 (r : Int))) ∧ w' = w := by
  have hu : IntKind.u64.wrap (m : Int) = (m : Int) := by rw [IntKind.wrap_u64]; omega
  have hz : ((m : Int) == 0) = false := by simp only [beq_eq_false_iff_ne, ne_eq]; omega
  go_enter Try.func14, Try.ntmps14
  go_wp2
  go_ret
  have h0 : 0 ≤ IntKind.u64.wrap x := by rw [IntKind.wrap_u64]; omega
  clear hu hz
  generalize IntKind.u64.wrap x = q at *
  have h1 : 0 ≤ q % (m : Int) := Int.emod_nonneg _ (by omega)
  have h2 : q % (m : Int) < (m : Int) := Int.emod_lt_of_pos _ (by omega)
  refine ⟨⟨(q % (m : Int)).toNat, by omega, ret_int ?_⟩, rfl⟩
  rw [Int.tmod_eq_emod_of_nonneg h0]
  generalize q % (m : Int) = y at *
  unfold wrap64
  omega
/-- the zero row of a variable. -/
theorem var_parts : ∃ i0 z, Try.prog.info? 54 = some i0 ∧ i0.zero = some z ∧ i0.size = 8 ∧ i0.bytes = 80 ∧ z.cells.size = 8 := by
  have hi0 : (Try.prog.info? 54).map (fun i => (i.zero.map (·.cells.size), i.size, i.bytes)) = some (some 8, 8, 80) := Try.infoVar
  cases hq : Try.prog.info? 54 with
  | none => rw [hq] at hi0; simp at hi0
  | some i0 =>
    rw [hq] at hi0
    simp at hi0
    obtain ⟨⟨z, h1, h2⟩, h3, h4⟩ := hi0
    exact ⟨i0, z, rfl, h1, h3, h4, h2⟩
theorem over_cells (w : World) (T : TypeId) : ∀ (j : Nat) (u : Value), ([.string ⟨#[111, 118, 101, 114]⟩, .int .i64 0, .int .i64 0, .int .i64 0, .string ⟨#[]⟩, .int .i64 0, .int .i64 0, .int .i64 0] : List Value)[j]? = some u → (w.alloc (.cells #[.string ⟨#[111, 118, 101, 114]⟩, .int .i64 0, .int .i64 0, .int .i64 0, .string ⟨#[]⟩, .int .i64 0, .int .i64 0, .int .i64 0] T)).cell? ((⟨w.heap.size, 0, none⟩ : Addr).add j) = some u := by
  intro j u hj
  match j, hj with
  | 0, hj => simp at hj; subst hj; simp [Addr.add]
  | 1, hj => simp at hj; subst hj; simp [Addr.add]
  | 2, hj => simp at hj; subst hj; simp [Addr.add]
  | 3, hj => simp at hj; subst hj; simp [Addr.add]
  | 4, hj => simp at hj; subst hj; simp [Addr.add]
  | 5, hj => simp at hj; subst hj; simp [Addr.add]
  | 6, hj => simp at hj; subst hj; simp [Addr.add]
  | 7, hj => simp at hj; subst hj; simp [Addr.add]
theorem over_one : ∀ u ∈ ([.string ⟨#[111, 118, 101, 114]⟩, .int .i64 0, .int .i64 0, .int .i64 0, .string ⟨#[]⟩, .int .i64 0, .int .i64 0, .int .i64 0] : List Value), u.oneCell' = true := by
  intro u hu
  simp at hu
  rcases hu with rfl | rfl | rfl | rfl <;> rfl
set_option maxHeartbeats 2000000 in
set_option maxRecDepth 100000 in
/-- OverVars writes over a row of the caller's own; nothing else is changed. -/
theorem overVars_any (n c B : Nat) (A : Option Addr) (w : World) (h : Owned B w 54 8 A n c) (hcnt : n ≤ 1700000000000) (hB : B ≤ w.heap.size) :
    Calls Try.prog 30 #[.slice A n c] w fun e w' => e = .returned (.tuple #[]) ∧ w.grownBy w' (Value.slice A n c).ownBlock := by
  obtain ⟨i0, z, hi0, hz, hz1, hz2, hz3⟩ := var_parts
  have HO := Lib.hid h
  have HBB := Lib.hid hB
  have HB0 : Hid (w.grownBy w (Value.slice A n c).ownBlock) := grown_refl _ _
  clear h hB
  go_enter Try.func30, Try.ntmps30
  go_wp2_with fail
  go_loopw [2] (fun i wr => ∃ k : Nat, k ≤ n ∧ i = .int .i64 k ∧ Hid (Owned B wr 54 8 A n c) ∧ Hid (w.grownBy wr (Value.slice A n c).ownBlock)) (fun i _ => n - (intOf i).toNat)
  case atStart => exact ⟨0, Nat.zero_le _, rfl, HO, HB0⟩
  case round =>
    obtain ⟨k, hk, rfl, ho, hb⟩ := hrel
    have z0 : (0 : Int) ≤ (k : Int) := by omega
    by_cases hlt : k < n
    · have z1 : (k : Int) < (n : Int) := by omega
      obtain ⟨g, rfl, hg, hc, hf⟩ := ho.out.cell (by omega)
      have hsz := Nat.le_trans HBB.out hb.out.size
      obtain ⟨u0, x0⟩ := hc (k * 8) (by omega)
      have f0 := hf (k * 8)
      obtain ⟨u1, x1⟩ := hc (k * 8 + 1) (by omega)
      have f1 := hf (k * 8 + 1)
      obtain ⟨u2, x2⟩ := hc (k * 8 + 2) (by omega)
      have f2 := hf (k * 8 + 2)
      obtain ⟨u3, x3⟩ := hc (k * 8 + 3) (by omega)
      have f3 := hf (k * 8 + 3)
      obtain ⟨u4, x4⟩ := hc (k * 8 + 4) (by omega)
      have f4 := hf (k * 8 + 4)
      obtain ⟨u5, x5⟩ := hc (k * 8 + 5) (by omega)
      have f5 := hf (k * 8 + 5)
      obtain ⟨u6, x6⟩ := hc (k * 8 + 6) (by omega)
      have f6 := hf (k * 8 + 6)
      obtain ⟨u7, x7⟩ := hc (k * 8 + 7) (by omega)
      have f7 := hf (k * 8 + 7)
      have ho2 : Hid (Owned B ((((((((wr.setCell ⟨g, k * 8, none⟩ (.string ⟨#[111, 118, 101, 114]⟩)).setCell ⟨g, k * 8 + 1, none⟩ (.int .i64 0)).setCell ⟨g, k * 8 + 2, none⟩ (.int .i64 0)).setCell ⟨g, k * 8 + 3, none⟩ (.int .i64 0)).setCell ⟨g, k * 8 + 4, none⟩ (.string ⟨#[]⟩)).setCell ⟨g, k * 8 + 5, none⟩ (.int .i64 0)).setCell ⟨g, k * 8 + 6, none⟩ (.int .i64 0)).setCell ⟨g, k * 8 + 7, none⟩ (.int .i64 0)) 54 8 (some ⟨g, 0, none⟩) n c) := ((((((((ho.out.set (k * 8) (.string ⟨#[111, 118, 101, 114]⟩)).set (k * 8 + 1) (.int .i64 0)).set (k * 8 + 2) (.int .i64 0)).set (k * 8 + 3) (.int .i64 0)).set (k * 8 + 4) (.string ⟨#[]⟩)).set (k * 8 + 5) (.int .i64 0)).set (k * 8 + 6) (.int .i64 0)).set (k * 8 + 7) (.int .i64 0))
      have hb2 : Hid (w.grownBy ((((((((wr.setCell ⟨g, k * 8, none⟩ (.string ⟨#[111, 118, 101, 114]⟩)).setCell ⟨g, k * 8 + 1, none⟩ (.int .i64 0)).setCell ⟨g, k * 8 + 2, none⟩ (.int .i64 0)).setCell ⟨g, k * 8 + 3, none⟩ (.int .i64 0)).setCell ⟨g, k * 8 + 4, none⟩ (.string ⟨#[]⟩)).setCell ⟨g, k * 8 + 5, none⟩ (.int .i64 0)).setCell ⟨g, k * 8 + 6, none⟩ (.int .i64 0)).setCell ⟨g, k * 8 + 7, none⟩ (.int .i64 0)) (some g)) := (grown_set (grown_set (grown_set (grown_set (grown_set (grown_set (grown_set (grown_set hb.out))))))))
      clear hc hf hsz
      go_wp2_with fail
      go_roundw
      case rel => exact ⟨k + 1, by omega, by go_num, ho2, hb2⟩
      case measure => simp [intOf]; omega
    · have z1 : ¬ (k : Int) < (n : Int) := by omega
      obtain ⟨xs, hx⟩ := ho.out
      have hbs := Nat.le_trans HBB.out hb.out.size
      go_wp2_with (at_builtin; refine wpList_append_own _ rfl _ _ 34 rfl B 54 i0 z 8 80 Try.underlying34 hi0 hz hz1 hz2 hz3 (by decide) _ _ _ rfl (hx.alloc _) ⟨wr.heap.size, 0, none⟩ 1 1 [.string ⟨#[111, 118, 101, 114]⟩, .int .i64 0, .int .i64 0, .int .i64 0, .string ⟨#[]⟩, .int .i64 0, .int .i64 0, .int .i64 0] rfl rfl (over_cells wr _) ?c2 ?c3 ?c4 ?c5 ?_)
      case c2 => exact ⟨rfl, rfl, rfl, rfl⟩
      case c3 => unfold maxLen; omega
      case c4 => omega
      case c5 => first | omega | (simp; omega)
      intro v2 w3 hown3 hgrow3 _
      have HB3 : Hid (w.grownBy w3 (Value.slice A n c).ownBlock) := grown_trans (grown_trans hb.out (grown_alloc _ _ _)) hgrow3
      clear hown3 hgrow3
      go_wp2_with fail
      go_end0
      exact ⟨rfl, HB3.out⟩
end Go.Proofs.Ytmbddofcildibaa

/-
  governorlaw6: two, awake BY CONTRACTS.
-/
namespace Go.Proofs.Ytmbddofcildibaa
open Go Go.RowKit
set_option linter.unusedVariables false
set_option linter.unusedSimpArgs false

/-- a row that is a block of its own. -/
theorem row_of_block {α : Type} {R : α → List Value → Prop} {W : World} {g B : Nat} {cs : Array Value} {T : TypeId} {fr : Nat × Nat} (hg : g < B) (hs : W.heap[g]? = some (.cells cs T fr)) (l : List α) (sz : Nat) (hsz : cs.size = l.length * sz)
    (h : ∀ (k : Nat) (hk : k < l.length), R l[k] ((cs.toList.drop (k * sz)).take sz)) : RowIn R W B (some ⟨g, 0, none⟩) sz l := by
  intro k hk
  have h1 : (k + 1) * sz ≤ l.length * sz := Nat.mul_le_mul_right _ hk
  have h2 : (k + 1) * sz = k * sz + sz := by rw [Nat.add_mul, Nat.one_mul]
  have hl : ((cs.toList.drop (k * sz)).take sz).length = sz := by
    simp only [List.length_take, List.length_drop, Array.length_toList]
    omega
  refine ⟨g, 0, (cs.toList.drop (k * sz)).take sz, rfl, hg, hl, fun j u hj => ?_, h k hk⟩
  have hjl : j < sz := by
    rcases Nat.lt_or_ge j ((cs.toList.drop (k * sz)).take sz).length with h3 | h3
    · omega
    · rw [List.getElem?_eq_none h3] at hj; cases hj
  rw [List.getElem?_take, if_pos hjl, List.getElem?_drop] at hj
  rw [cell_of_row W g (0 + k * sz + j) cs T fr hs, Nat.zero_add]
  simpa using hj
def twoM : MT := ⟨⟨#[77]⟩, false, false, false, [], ⟨0, 0, 0, ⟨#[]⟩⟩, [], []⟩
def twoL : List DT := [⟨2, ⟨#[65]⟩, ⟨#[]⟩, [], false, false, [], [twoM], [], 0, 0⟩, ⟨2, ⟨#[66]⟩, ⟨#[65]⟩, [], false, false, [], [], [], 0, 0⟩]
theorem nil_row {α : Type} {R : α → List Value → Prop} {W : World} {B : Nat} {A : Option Addr} {sz : Nat} : RowIn R W B A sz [] := fun k hk => by simp at hk
abbrev mCells : Array Value := #[.string ⟨#[77]⟩, .bool false, .bool false, .bool false, .slice none 0 0, .int .i64 0, .int .i64 0, .int .i64 0, .string ⟨#[]⟩, .slice none 0 0, .slice none 0 0]
abbrev dCells (g : Nat) : Array Value := #[.int .i64 2, .string ⟨#[65]⟩, .string ⟨#[]⟩, .slice none 0 0, .bool false, .bool false, .slice none 0 0, .slice (some ⟨g, 0, none⟩) 1 1, .slice none 0 0, .int .i64 0, .int .i64 0,
  .int .i64 2, .string ⟨#[66]⟩, .string ⟨#[65]⟩, .slice none 0 0, .bool false, .bool false, .slice none 0 0, .slice none 0 0, .slice none 0 0, .int .i64 0, .int .i64 0]
theorem two_row {W : World} {g q B : Nat} {T S : TypeId} {fr fs : Nat × Nat} (hg : g < B) (hq : q < B) (h1 : W.heap[g]? = some (.cells mCells T fr)) (h2 : W.heap[q]? = some (.cells (dCells g) S fs)) : DsR W B (some ⟨q, 0, none⟩) twoL := by
  have i0 : I64 0 := ⟨by decide, by decide⟩
  have hm : MsR W B (some ⟨g, 0, none⟩) [twoM] := row_of_block hg h1 _ 11 rfl (fun k hk => by
    match k, hk with
    | 0, _ => exact ⟨none, 0, none, 0, none, 0, rfl, ⟨i0, i0⟩, nil_row, nil_row, nil_row⟩)
  exact row_of_block hq h2 _ 11 rfl (fun k hk => by
    match k, hk with
    | 0, _ => exact ⟨none, 0, none, 0, some ⟨g, 0, none⟩, 1, none, 0, rfl, i0, i0, nil_row, nil_row, hm, nil_row⟩
    | 1, _ => exact ⟨none, 0, none, 0, none, 0, none, 0, rfl, i0, i0, nil_row, nil_row, nil_row, nil_row⟩)
set_option maxHeartbeats 1000000 in
set_option maxRecDepth 100000 in
theorem two_any (w : World) : Calls Try.prog 46 #[] w fun e w' => ∃ q : Nat, e = .returned (.agg #[.slice (some ⟨q, 0, none⟩) 2 2]) ∧ Hid (DsR w' w'.heap.size (some ⟨q, 0, none⟩) twoL) ∧ Hid (Below w.heap.size w w') := by
  go_enter Try.func46, Try.ntmps46
  go_wp2_with fail
  obtain ⟨w0, e0⟩ : ∃ w0, w0 = w.alloc (.cells #[.slice (some ⟨w.heap.size + 1 + 1, 0, none⟩) 2 2] 24) := ⟨_, rfl⟩
  obtain ⟨w1, e1⟩ : ∃ w1, w1 = w0.alloc (.cells mCells 52) := ⟨_, rfl⟩
  obtain ⟨w2, e2⟩ : ∃ w2, w2 = w1.alloc (.cells (dCells (w.heap.size + 1)) 47) := ⟨_, rfl⟩
  have s0 : w0.heap.size = w.heap.size + 1 := by rw [e0]; simp
  have s1 : w1.heap.size = w.heap.size + 2 := by rw [e1]; simp [s0]
  have s2 : w2.heap.size = w.heap.size + 3 := by rw [e2]; simp [s1]
  have hb : Below w.heap.size w w2 := by
    rw [e2, e1, e0]
    exact (((Below.refl _ _).alloc (Nat.le_refl _) _).alloc (by simp) _).alloc (by simp; omega) _
  have h1 : w2.heap[w.heap.size + 1]? = some (.cells mCells 52 (0, 0)) := by
    rw [e2, Below.heap_alloc _ _ _ (by omega), e1, ← s0]
    exact heap_alloc_new w0 _
  have h2 : w2.heap[w.heap.size + 1 + 1]? = some (.cells (dCells (w.heap.size + 1)) 47 (0, 0)) := by
    rw [e2, show w.heap.size + 1 + 1 = w1.heap.size by omega]
    exact heap_alloc_new w1 _
  have h0 : w2.heap[w.heap.size]? = some (.cells #[.slice (some ⟨w.heap.size + 1 + 1, 0, none⟩) 2 2] 24 (0, 0)) := by
    rw [e2, Below.heap_alloc _ _ _ (by omega), e1, Below.heap_alloc _ _ _ (by omega), e0]
    exact heap_alloc_new w _
  have c0 : w2.cell? ⟨w.heap.size, 0, none⟩ = some (.slice (some ⟨w.heap.size + 1 + 1, 0, none⟩) 2 2) := by rw [cell_of_row _ _ 0 _ _ _ h0]; rfl
  rw [← e0, ← e1, ← e2]
  have hr : DsR w2 w2.heap.size (some ⟨w.heap.size + 1 + 1, 0, none⟩) twoL := two_row (by omega) (by omega) h1 h2
  clear e0 e1 e2 h0 h1 h2
  refine bodyPost_ret (v := .agg #[.slice (some ⟨w.heap.size + 1 + 1, 0, none⟩) 2 2]) ?_ rfl ⟨_, rfl, hr, hb⟩
  simp [results, Try.f46, go_sem, c0]
theorem two_fit : FitA twoL := ⟨⟨by decide, by decide, by decide, by decide, by decide⟩, by decide, by decide⟩
theorem two_chain : chainT twoL 1 = [1, 0] := by kernel_rfl
theorem two_method : whereV (methodT twoL 1 ⟨#[77]⟩) = .tuple #[.agg #[.int .i64 0, .int .i64 0], .bool true] := by kernel_rfl
theorem two_is : isT twoL ⟨#[66]⟩ ⟨#[65]⟩ = true := by kernel_rfl
theorem two_isnt : isT twoL ⟨#[65]⟩ ⟨#[66]⟩ = false := by kernel_rfl
theorem two_find : findT twoL ⟨#[66]⟩ = 1 := by kernel_rfl
theorem two_none : findT twoL ⟨#[67]⟩ = -1 := by kernel_rfl
/-- rows stay where blocks are added. -/
theorem dsr_alloc {W : World} {A : Option Addr} {L : List DT} (h : Hid (DsR W W.heap.size A L)) (o : Obj) : Hid (DsR (W.alloc o) (W.alloc o).heap.size A L) := DsR.mono (by simp) ((Below.refl _ _).alloc (Nat.le_refl _) _).block h.out
theorem hb_alloc {w W : World} (h : Hid (Below w.heap.size w W)) (o : Obj) : Hid (Below w.heap.size w (W.alloc o)) := h.out.alloc h.out.size o
theorem hb_drew {w W : World} (h : Hid (Below w.heap.size w W)) : Hid (Below w.heap.size w W.drew) := h.out.drew
theorem hb_step {w W w' : World} (h : Hid (Below w.heap.size w W)) (k : Hid (Below W.heap.size W w')) : Hid (Below w.heap.size w w') := h.out.trans (k.out.mono h.out.size)
/-- a block of two numbers. -/
def Two (W : World) (g : Nat) (T : TypeId) (a b : Int) : Prop := W.heap[g]? = some (.cells #[.int .i64 a, .int .i64 b] T (0, 0))
theorem Two.lt {W : World} {g : Nat} {T : TypeId} {a b : Int} (h : Two W g T a b) : g < W.heap.size := (Array.getElem?_eq_some_iff.1 h).1
theorem Two.new (W : World) (T : TypeId) (a b : Int) : Hid (Two (W.alloc (.cells #[.int .i64 a, .int .i64 b] T)) W.heap.size T a b) := heap_alloc_new W _
theorem Two.below {W w' : World} {g : Nat} {T : TypeId} {a b : Int} (h : Hid (Two W g T a b)) (k : Hid (Below W.heap.size W w')) : Hid (Two w' g T a b) := (k.out.block _ h.out.lt).trans h.out
theorem Two.alloc {W : World} {g : Nat} {T : TypeId} {a b : Int} (h : Hid (Two W g T a b)) (o : Obj) : Hid (Two (W.alloc o) g T a b) := Two.below h ((Below.refl _ _).alloc (Nat.le_refl _) _)
theorem Two.drew {W : World} {g : Nat} {T : TypeId} {a b : Int} (h : Hid (Two W g T a b)) : Hid (Two W.drew g T a b) := h
theorem Two.c0 {W : World} {g : Nat} {T : TypeId} {a b : Int} (h : Hid (Two W g T a b)) : W.cell? ⟨g, 0, none⟩ = some (.int .i64 a) := by rw [cell_of_row _ _ 0 _ _ _ h.out]; rfl
theorem Two.c1 {W : World} {g : Nat} {T : TypeId} {a b : Int} (h : Hid (Two W g T a b)) : W.cell? ⟨g, 1, none⟩ = some (.int .i64 b) := by rw [cell_of_row _ _ 1 _ _ _ h.out]; rfl
theorem Two.f0 {W : World} {g : Nat} {T : TypeId} {a b : Int} (h : Hid (Two W g T a b)) (j : Nat) : W.frozen? ⟨g, j, none⟩ = false := frozen_of_row _ _ j _ _ h.out
theorem Two.nsr {W : World} {g : Nat} {T : TypeId} {a b : Int} (h : Hid (Two W g T a b)) (ha : I64 a) (hb : I64 b) : NsR W W.heap.size (some ⟨g, 0, none⟩) [a, b] := row_of_block h.out.lt h.out _ 1 rfl (fun k hk => by
  match k, hk with
  | 0, _ => exact ⟨rfl, ha⟩
  | 1, _ => exact ⟨rfl, hb⟩)
theorem KT_any (w W : World) (hb : Hid (Below w.heap.size w W)) : Calls Try.prog 46 #[] W fun e w' => ∃ q : Nat, e = .returned (.agg #[.slice (some ⟨q, 0, none⟩) 2 2]) ∧ Hid (DsR w' w'.heap.size (some ⟨q, 0, none⟩) twoL) ∧ Hid (Below w.heap.size w w') ∧ Hid (Below W.heap.size W w') := (two_any W).mono fun e w' hh => by
  obtain ⟨q, h1, h2, h3⟩ := hh
  exact ⟨q, h1, h2, hb_step hb h3, h3⟩
theorem KM_any (w W : World) (q : Nat) (hb : Hid (Below w.heap.size w W)) (hr : Hid (DsR W W.heap.size (some ⟨q, 0, none⟩) twoL)) : Calls Try.prog 15 #[.agg #[.slice (some ⟨q, 0, none⟩) 2 2], .int .i64 1, .string ⟨#[77]⟩] W fun e w' => e = .returned (.tuple #[.agg #[.int .i64 0, .int .i64 0], .bool true]) ∧ Hid (Below w.heap.size w w') ∧ Hid (Below W.heap.size W w') := (Method_any twoL _ 2 1 ⟨#[77]⟩ W hr.out two_fit ⟨by decide, by decide⟩).mono fun e w' hh => by
  obtain ⟨h1, h2⟩ := hh
  rw [two_method] at h1
  exact ⟨h1, hb_step hb h2, h2⟩
theorem KI_any (w W : World) (q : Nat) (hb : Hid (Below w.heap.size w W)) (hr : Hid (DsR W W.heap.size (some ⟨q, 0, none⟩) twoL)) : Calls Try.prog 25 #[.agg #[.slice (some ⟨q, 0, none⟩) 2 2], .string ⟨#[66]⟩, .string ⟨#[65]⟩] W fun e w' => e = .returned (.bool true) ∧ Hid (Below w.heap.size w w') ∧ Hid (Below W.heap.size W w') := (Is_any twoL _ 2 ⟨#[66]⟩ ⟨#[65]⟩ W hr.out two_fit).mono fun e w' hh => by
  obtain ⟨h1, h2⟩ := hh
  rw [two_is] at h1
  exact ⟨h1, hb_step hb h2, h2⟩
theorem KJ_any (w W : World) (q : Nat) (hb : Hid (Below w.heap.size w W)) (hr : Hid (DsR W W.heap.size (some ⟨q, 0, none⟩) twoL)) : Calls Try.prog 25 #[.agg #[.slice (some ⟨q, 0, none⟩) 2 2], .string ⟨#[65]⟩, .string ⟨#[66]⟩] W fun e w' => e = .returned (.bool false) ∧ Hid (Below w.heap.size w w') ∧ Hid (Below W.heap.size W w') := (Is_any twoL _ 2 ⟨#[65]⟩ ⟨#[66]⟩ W hr.out two_fit).mono fun e w' hh => by
  obtain ⟨h1, h2⟩ := hh
  rw [two_isnt] at h1
  exact ⟨h1, hb_step hb h2, h2⟩
theorem KF_any (w W : World) (q : Nat) (hb : Hid (Below w.heap.size w W)) (hr : Hid (DsR W W.heap.size (some ⟨q, 0, none⟩) twoL)) : Calls Try.prog 20 #[.agg #[.slice (some ⟨q, 0, none⟩) 2 2], .string ⟨#[66]⟩] W fun e w' => e = .returned (.int .i64 1) ∧ Hid (Below w.heap.size w w') ∧ Hid (Below W.heap.size W w') := (find_any twoL _ 2 ⟨#[66]⟩ W hr.out (by decide)).mono fun e w' hh => by
  obtain ⟨h1, h2⟩ := hh
  rw [two_find] at h1
  exact ⟨h1, hb_step hb h2, h2⟩
theorem KG_any (w W : World) (q : Nat) (hb : Hid (Below w.heap.size w W)) (hr : Hid (DsR W W.heap.size (some ⟨q, 0, none⟩) twoL)) : Calls Try.prog 20 #[.agg #[.slice (some ⟨q, 0, none⟩) 2 2], .string ⟨#[67]⟩] W fun e w' => e = .returned (.int .i64 (-1)) ∧ Hid (Below w.heap.size w w') ∧ Hid (Below W.heap.size W w') := (find_any twoL _ 2 ⟨#[67]⟩ W hr.out (by decide)).mono fun e w' hh => by
  obtain ⟨h1, h2⟩ := hh
  rw [two_none] at h1
  exact ⟨h1, hb_step hb h2, h2⟩
theorem KC_any (w W : World) (q : Nat) (hb : Hid (Below w.heap.size w W)) (hr : Hid (DsR W W.heap.size (some ⟨q, 0, none⟩) twoL)) : Calls Try.prog 17 #[.agg #[.slice (some ⟨q, 0, none⟩) 2 2], .int .i64 1] W fun e w' => ∃ A c, e = .returned (.slice A 2 c) ∧ Hid (NsR w' w'.heap.size A [1, 0]) ∧ Hid (Below w.heap.size w w') ∧ Hid (Below W.heap.size W w') := (Chain_any twoL _ 2 1 W hr.out two_fit).mono fun e w' hh => by
  obtain ⟨A, c, h1, h2, h3⟩ := hh
  rw [two_chain] at h1 h2
  exact ⟨A, c, h1, h2.nsr, hb_step hb h3, h3⟩
theorem nsr_alloc {W : World} {A : Option Addr} {l : List Int} (h : Hid (NsR W W.heap.size A l)) (o : Obj) : Hid (NsR (W.alloc o) (W.alloc o).heap.size A l) := NsR.mono (by simp) ((Below.refl _ _).alloc (Nat.le_refl _) _).block h.out
theorem KS_any (w W : World) (A1 : Option Addr) (c1 g : Nat) (hb : Hid (Below w.heap.size w W)) (h1 : Hid (NsR W W.heap.size A1 [1, 0])) (h2 : Hid (Two W g 3 1 0)) : Calls Try.prog 22 #[.slice A1 2 c1, .slice (some ⟨g, 0, none⟩) 2 2] W fun e w' => e = .returned (.bool true) ∧ Hid (Below w.heap.size w w') ∧ Hid (Below W.heap.size W w') := (sameInts_any [1, 0] A1 _ c1 2 W h1.out (Two.nsr h2 ⟨by decide, by decide⟩ ⟨by decide, by decide⟩) (by decide)).mono fun e w' hh => by
  exact ⟨hh.1, hb_step hb hh.2, hh.2⟩
set_option maxHeartbeats 4000000 in
set_option maxRecDepth 100000 in
theorem awake_any (w : World) : Calls Try.prog 13 #[] w fun e w' => e = .returned (.bool true) ∧ Below w.heap.size w w' := by
  have HB0 : Hid (Below w.heap.size w w) := Below.refl _ _
  go_enter Try.func13, Try.ntmps13
  go_wp2_with fail
  refine (KT_any w _ HB0).mono ?_
  rintro e1 w1 ⟨q1, rfl, hr1, hb1, hk1⟩
  go_wp2_with fail
  refine (KM_any w _ q1 hb1 hr1).mono ?_
  rintro e2 w2 ⟨rfl, hb2, hk2⟩
  clear hr1 hb1 hk1
  go_wp2_with fail
  refine (KT_any w _ (hb_alloc hb2 _)).mono ?_
  rintro e3 w3 ⟨q3, rfl, hr3, hb3, hk3⟩
  have t3 := Two.below (Two.new w2 29 0 0) hk3
  clear hb2 hk2 hk3
  go_wp2_with fail
  refine (KC_any w _ q3 hb3 hr3).mono ?_
  rintro e4 w4 ⟨A4, c4, rfl, hn4, hb4, hk4⟩
  have t4 := Two.below t3 hk4
  clear hr3 hb3 hk4 t3
  go_wp2_with fail
  refine (KS_any w _ A4 c4 w4.heap.size (hb_alloc hb4 _) (nsr_alloc hn4 _) (Two.new w4 _ 1 0)).mono ?_
  rintro e5 w5 ⟨rfl, hb5, hk5⟩
  have t5 := Two.below (Two.alloc t4 _) hk5
  clear hn4 hb4 hk5 t4
  go_wp2_with fail
  refine (KT_any w _ hb5).mono ?_
  rintro e6 w6 ⟨q6, rfl, hr6, hb6, hk6⟩
  have t6 := Two.below t5 hk6
  clear hb5 hk6 t5
  go_wp2_with fail
  refine (KI_any w _ q6 hb6 hr6).mono ?_
  rintro e7 w7 ⟨rfl, hb7, hk7⟩
  have t7 := Two.below t6 hk7
  clear hr6 hb6 hk7 t6
  go_wp2_with fail
  refine (KT_any w _ hb7).mono ?_
  rintro e8 w8 ⟨q8, rfl, hr8, hb8, hk8⟩
  have t8 := Two.below t7 hk8
  clear hb7 hk8 t7
  go_wp2_with fail
  refine (KJ_any w _ q8 hb8 hr8).mono ?_
  rintro e9 w9 ⟨rfl, hb9, hk9⟩
  have t9 := Two.below t8 hk9
  clear hr8 hb8 hk9 t8
  have x0 := Two.c0 t9
  have x1 := Two.c1 t9
  go_wp2_with fail
  refine (KT_any w _ hb9).mono ?_
  rintro e10 w10 ⟨q10, rfl, hr10, hb10, hk10⟩
  clear hb9 hk10 t9 x0 x1
  go_wp2_with fail
  refine (KF_any w _ q10 hb10 hr10).mono ?_
  rintro e11 w11 ⟨rfl, hb11, hk11⟩
  clear hr10 hb10 hk11
  go_wp2_with fail
  refine (KT_any w _ hb11).mono ?_
  rintro e12 w12 ⟨q12, rfl, hr12, hb12, hk12⟩
  clear hb11 hk12
  go_wp2_with fail
  refine (KG_any w _ q12 hb12 hr12).mono ?_
  rintro e13 w13 ⟨rfl, hb13, hk13⟩
  clear hr12 hb12 hk13
  go_wp2_with fail
  go_ret
  exact ⟨rfl, hb13.out⟩
end Go.Proofs.Ytmbddofcildibaa

/-
  The callees of governorlaw6's statements, each under a condition that stays where blocks are added.
-/
namespace Go.Proofs.Ytmbddofcildibaa
open Go Go.RowKit
set_option linter.unusedVariables false
set_option linter.unusedSimpArgs false

/-- a condition that stays where nothing that was there is changed, and that tells the unit's row. -/
structure Stay (Q : World → Prop) (A : Option Addr) (L : List DT) : Prop where
  step : ∀ W W', Q W → Below W.heap.size W W' → Q W'
  row : ∀ W, Q W → DsR W W.heap.size A L
theorem where_shape (r : Option (Int × Int)) : ∃ m0 m1 ok, whereV r = .tuple #[.agg #[.int .i64 m0, .int .i64 m1], .bool ok] := by
  rcases r with _ | ⟨a, b⟩
  · exact ⟨0, 0, false, rfl⟩
  · exact ⟨a, b, true, rfl⟩
theorem fieldsT_len {L : List DT} (hf : FitA L) (d : Int) : (fieldsT L d).length ≤ 1700000000000 := by
  have hv : ∀ x, (varsOf L x).length ≤ 1048576 := fun x => by
    unfold varsOf
    cases hx : L[x.toNat]? with
    | none => simp
    | some v => exact hf.vars v (List.mem_of_getElem? hx)
  unfold fieldsT
  split
  · exact Nat.le_trans (hv d) (by decide)
  · refine Nat.le_trans (flat_le _ 1048576 _ fun x _ => hv x) ?_
    rw [List.length_reverse]
    have h1 := (chainT_met L d).len
    have h2 := hf.len
    have : (chainT L d).length * 1048576 ≤ 1048576 * 1048576 := Nat.mul_le_mul_right _ (by omega)
    omega
theorem IRow.far {B : Nat} {w w' : World} {A : Option Addr} {c : Nat} {l : List Int} (h : Hid (IRow B w A c l)) (k : Hid (Below w.heap.size w w')) : Hid (IRow B w' A c l) := h.out.below k.out
theorem VRow.far {B : Nat} {w w' : World} {A : Option Addr} {c : Nat} {l : List VT} (h : Hid (VRow B w A c l)) (k : Hid (Below w.heap.size w w')) : Hid (VRow B w' A c l) := h.out.below k.out
theorem q_Find {Q : World → Prop} {A : Option Addr} {L : List DT} (c : Nat) (h : Stay Q A L) (hfit : Fit L) (s : ByteArray) (x : Int) (hx : x = findT L s) (W : World) (hq : Hid (Q W)) :
    Calls Try.prog 20 #[.agg #[.slice A L.length c], .string s] W fun e w' => e = .returned (.int .i64 x) ∧ Hid (Q w') ∧ Hid (Below W.heap.size W w') := by
  subst hx
  exact (find_any L A c s W (h.row W hq.out) hfit.cnt).mono fun e w' hh => ⟨hh.1, h.step _ _ hq.out hh.2, hh.2⟩
theorem q_refFind {Q : World → Prop} {A : Option Addr} {L : List DT} (c : Nat) (h : Stay Q A L) (hfit : Fit L) (s : ByteArray) (x : Int) (hx : x = findT L s) (W : World) (hq : Hid (Q W)) :
    Calls Try.prog 21 #[.agg #[.slice A L.length c], .string s] W fun e w' => e = .returned (.int .i64 x) ∧ Hid (Q w') ∧ Hid (Below W.heap.size W w') := by
  subst hx
  exact (refFind_any L A c s W (h.row W hq.out) hfit.cnt).mono fun e w' hh => ⟨hh.1, h.step _ _ hq.out hh.2, hh.2⟩
theorem q_Is {Q : World → Prop} {A : Option Addr} {L : List DT} (c : Nat) (h : Stay Q A L) (hfit : Fit L) (s t : ByteArray) (x : Bool) (hx : x = isT L s t) (W : World) (hq : Hid (Q W)) :
    Calls Try.prog 25 #[.agg #[.slice A L.length c], .string s, .string t] W fun e w' => e = .returned (.bool x) ∧ Hid (Q w') ∧ Hid (Below W.heap.size W w') := by
  subst hx
  exact (Is_any L A c s t W (h.row W hq.out) hfit).mono fun e w' hh => ⟨hh.1, h.step _ _ hq.out hh.2, hh.2⟩
theorem q_refIs {Q : World → Prop} {A : Option Addr} {L : List DT} (c : Nat) (h : Stay Q A L) (hfit : Fit L) (s t : ByteArray) (x : Bool) (hx : x = isT L s t) (W : World) (hq : Hid (Q W)) :
    Calls Try.prog 26 #[.agg #[.slice A L.length c], .string s, .string t] W fun e w' => e = .returned (.bool x) ∧ Hid (Q w') ∧ Hid (Below W.heap.size W w') := by
  subst hx
  exact (refIs_any L A c s t W (h.row W hq.out) hfit.cnt hfit.faces).mono fun e w' hh => ⟨hh.1, h.step _ _ hq.out hh.2, hh.2⟩
theorem q_Method {Q : World → Prop} {A : Option Addr} {L : List DT} (c : Nat) (h : Stay Q A L) (hfit : FitA L) (d : Int) (hd : I64 d) (s : ByteArray) (x : Value) (hx : x = whereV (methodT L d s)) (W : World) (hq : Hid (Q W)) :
    Calls Try.prog 15 #[.agg #[.slice A L.length c], .int .i64 d, .string s] W fun e w' => e = .returned x ∧ Hid (Q w') ∧ Hid (Below W.heap.size W w') := by
  subst hx
  exact (Method_any L A c d s W (h.row W hq.out) hfit hd).mono fun e w' hh => ⟨hh.1, h.step _ _ hq.out hh.2, hh.2⟩
theorem q_refMethod {Q : World → Prop} {A : Option Addr} {L : List DT} (c : Nat) (h : Stay Q A L) (hfit : FitA L) (d : Int) (hd : I64 d) (s : ByteArray) (x : Value) (hx : x = whereV (methodT L d s)) (W : World) (hq : Hid (Q W)) :
    Calls Try.prog 16 #[.agg #[.slice A L.length c], .int .i64 d, .string s] W fun e w' => e = .returned x ∧ Hid (Q w') ∧ Hid (Below W.heap.size W w') := by
  subst hx
  exact (refMethod_any L A c d s W (h.row W hq.out) hfit.cnt hfit.methods hd).mono fun e w' hh => ⟨hh.1, h.step _ _ hq.out hh.2, hh.2⟩
theorem q_Chain {Q : World → Prop} {A : Option Addr} {L : List DT} (c : Nat) (h : Stay Q A L) (hfit : Fit L) (d : Int) (x : List Int) (hx : x = chainT L d) (W : World) (hq : Hid (Q W)) :
    Calls Try.prog 17 #[.agg #[.slice A L.length c], .int .i64 d] W fun e w' => ∃ A' c', e = .returned (.slice A' x.length c') ∧ Hid (IRow W.heap.size w' A' c' x) ∧ Hid (Q w') ∧ Hid (Below W.heap.size W w') := by
  subst hx
  refine (Chain_any L A c d W (h.row W hq.out) hfit).mono fun e w' hh => ?_
  obtain ⟨A', c', k1, k2, k3⟩ := hh
  exact ⟨A', c', k1, k2, h.step _ _ hq.out k3, k3⟩
theorem q_refChain {Q : World → Prop} {A : Option Addr} {L : List DT} (c : Nat) (h : Stay Q A L) (hfit : Fit L) (d : Int) (x : List Int) (hx : x = chainT L d) (W : World) (hq : Hid (Q W)) :
    Calls Try.prog 23 #[.agg #[.slice A L.length c], .int .i64 d] W fun e w' => ∃ A' c', e = .returned (.slice A' x.length c') ∧ Hid (IRow W.heap.size w' A' c' x) ∧ Hid (Q w') ∧ Hid (Below W.heap.size W w') := by
  subst hx
  refine (refChain_any L A c d W (h.row W hq.out) hfit.cnt).mono fun e w' hh => ?_
  obtain ⟨A', c', k1, k2, k3⟩ := hh
  exact ⟨A', c', k1, k2, h.step _ _ hq.out k3, k3⟩
theorem q_Faces {Q : World → Prop} {A : Option Addr} {L : List DT} (c : Nat) (h : Stay Q A L) (hfit : Fit L) (d : Int) (x : List Int) (hx : x = facesT L d) (W : World) (hq : Hid (Q W)) :
    Calls Try.prog 18 #[.agg #[.slice A L.length c], .int .i64 d] W fun e w' => ∃ A' c', e = .returned (.slice A' x.length c') ∧ Hid (IRow W.heap.size w' A' c' x) ∧ Hid (Q w') ∧ Hid (Below W.heap.size W w') := by
  subst hx
  refine (Faces_any L A c d W (h.row W hq.out) hfit).mono fun e w' hh => ?_
  obtain ⟨A', c', k1, k2, k3⟩ := hh
  exact ⟨A', c', k1, k2, h.step _ _ hq.out k3, k3⟩
theorem q_refFaces {Q : World → Prop} {A : Option Addr} {L : List DT} (c : Nat) (h : Stay Q A L) (hfit : Fit L) (d : Int) (x : List Int) (hx : x = facesT L d) (W : World) (hq : Hid (Q W)) :
    Calls Try.prog 24 #[.agg #[.slice A L.length c], .int .i64 d] W fun e w' => ∃ A' c', e = .returned (.slice A' x.length c') ∧ Hid (IRow W.heap.size w' A' c' x) ∧ Hid (Q w') ∧ Hid (Below W.heap.size W w') := by
  subst hx
  refine (refFaces_any L A c d W (h.row W hq.out) hfit.cnt hfit.faces).mono fun e w' hh => ?_
  obtain ⟨A', c', k1, k2, k3⟩ := hh
  exact ⟨A', c', k1, k2, h.step _ _ hq.out k3, k3⟩
theorem q_Fields {Q : World → Prop} {A : Option Addr} {L : List DT} (c : Nat) (h : Stay Q A L) (hfit : FitA L) (d : Int) (hd : I64 d) (x : List VT) (hx : x = fieldsT L d) (W : World) (hq : Hid (Q W)) :
    Calls Try.prog 19 #[.agg #[.slice A L.length c], .int .i64 d] W fun e w' => ∃ A' c', e = .returned (.slice A' x.length c') ∧ Hid (VRow W.heap.size w' A' c' x) ∧ Hid (Q w') ∧ Hid (Below W.heap.size W w') := by
  subst hx
  refine (Fields_any L A c d W (h.row W hq.out) hfit hd).mono fun e w' hh => ?_
  obtain ⟨A', c', k1, k2, k3⟩ := hh
  exact ⟨A', c', k1, k2, h.step _ _ hq.out k3, k3⟩
theorem q_refFields {Q : World → Prop} {A : Option Addr} {L : List DT} (c : Nat) (h : Stay Q A L) (hfit : FitA L) (d : Int) (x : List VT) (hx : x = fieldsT L d) (W : World) (hq : Hid (Q W)) :
    Calls Try.prog 28 #[.agg #[.slice A L.length c], .int .i64 d] W fun e w' => ∃ A' c', e = .returned (.slice A' x.length c') ∧ Hid (VRow W.heap.size w' A' c' x) ∧ Hid (Q w') ∧ Hid (Below W.heap.size W w') := by
  subst hx
  refine (refFields_any L A c d W (h.row W hq.out) hfit.cnt (Nat.le_trans hfit.len (by decide)) hfit.vars).mono fun e w' hh => ?_
  obtain ⟨A', c', k1, k2, k3⟩ := hh
  exact ⟨A', c', k1, k2, h.step _ _ hq.out k3, k3⟩
theorem q_SameInts {Q : World → Prop} (hst : ∀ W W', Q W → Below W.heap.size W W' → Q W') (l : List Int) (hl : l.length ≤ 1000000000) (B1 B2 : Nat) (A1 A2 : Option Addr) (c1 c2 : Nat) (W : World) (hq : Hid (Q W)) (h1 : Hid (IRow B1 W A1 c1 l)) (h2 : Hid (IRow B2 W A2 c2 l)) :
    Calls Try.prog 22 #[.slice A1 l.length c1, .slice A2 l.length c2] W fun e w' => e = .returned (.bool true) ∧ Hid (Q w') ∧ Hid (Below W.heap.size W w') :=
  (sameInts_any l A1 A2 c1 c2 W (h1.out.nsr) (h2.out.nsr) hl).mono fun _ _ hh => ⟨hh.1, hst _ _ hq.out hh.2, hh.2⟩
theorem q_SameVars {Q : World → Prop} (hst : ∀ W W', Q W → Below W.heap.size W W' → Q W') (l : List VT) (hl : l.length ≤ 1700000000000) (B1 B2 : Nat) (A1 A2 : Option Addr) (c1 c2 : Nat) (W : World) (hq : Hid (Q W)) (h1 : Hid (VRow B1 W A1 c1 l)) (h2 : Hid (VRow B2 W A2 c2 l)) :
    Calls Try.prog 27 #[.slice A1 l.length c1, .slice A2 l.length c2] W fun e w' => e = .returned (.bool true) ∧ Hid (Q w') ∧ Hid (Below W.heap.size W w') :=
  (sameVars_any l A1 A2 c1 c2 W (h1.out.vsr) (h2.out.vsr) hl).mono fun _ _ hh => ⟨hh.1, hst _ _ hq.out hh.2, hh.2⟩
theorem q_awake {Q : World → Prop} (hst : ∀ W W', Q W → Below W.heap.size W W' → Q W') (W : World) (hq : Hid (Q W)) : Calls Try.prog 13 #[] W fun e w' => e = .returned (.bool true) ∧ Hid (Q w') ∧ Hid (Below W.heap.size W w') :=
  (awake_any W).mono fun _ _ hh => ⟨hh.1, hst _ _ hq.out hh.2, hh.2⟩
end Go.Proofs.Ytmbddofcildibaa

/-
  typing: what fits, BY CONTRACTS: the program's, and governorref7's.
-/
namespace Go.Proofs.Ytmbddofcildibaa
open Go Go.RowKit
set_option linter.unusedVariables false
set_option linter.unusedSimpArgs false

/-- a type's cells. -/
abbrev ycells (t : YT) : Array Value := #[.int .i64 t.kind, .int .i64 t.lo, .int .i64 t.hi, .string t.name]
def fitsT (L : List DT) (ty fr : YT) : Bool :=
  if ty.kind = 3 ∨ ty.kind = 1 then decide (fr.kind = 1) else if ty.kind = 2 then decide (fr.kind = 2) else
  if ty.kind = 5 then decide (fr.kind = 5) && (decide (fr.name = ⟨#[]⟩) || decide (fr.name = ty.name) || isT L fr.name ty.name) else false
theorem XAt.far2 {L : List DT} {A : Option Addr} {c p N : Nat} {W : World} {I : IX} (h : XAt L A c p N W I) (o o' : Obj) : Below W.heap.size W ((W.alloc o).alloc o') := ((Below.refl _ _).alloc (Nat.le_refl _) _).alloc (by simp) _
theorem box_two (W : World) (a b : Array Value) (S T : TypeId) : ((W.alloc (.cells a S)).alloc (.cells b T)).heap[W.heap.size]? = some (.cells a S (0, 0)) ∧ ((W.alloc (.cells a S)).alloc (.cells b T)).heap[W.heap.size + 1]? = some (.cells b T (0, 0)) := by
  refine ⟨?_, ?_⟩
  · rw [Below.heap_alloc _ _ _ (by simp)]
    exact heap_alloc_new W _
  · have := heap_alloc_new (W.alloc (.cells a S)) (.cells b T)
    simpa using this
theorem empty_ne {s : ByteArray} (h : ¬ s = ⟨#[]⟩) : (s.toList == ([] : List UInt8)) = false := by
  have := str_ne h
  simpa using this
set_option maxHeartbeats 2000000 in
set_option maxRecDepth 100000 in
theorem tyfits_any (L : List DT) (A : Option Addr) (c p N : Nat) (I : IX) (ty fr : YT) (w : World) (h : XAt L A c p N w I) (hfit : Fit L) :
    Calls Try.prog 60 #[.pointer (some ⟨p, 0, none⟩), .agg (ycells ty), .agg (ycells fr)] w (XRet L A c p N w I (.bool (fitsT L ty fr))) := by
  obtain ⟨R0, hR0⟩ : ∃ R0 : World, R0 = (w.alloc (.cells (ycells ty) 50)).alloc (.cells (ycells fr) 50) := ⟨_, rfl⟩
  have hb0 : Below w.heap.size w R0 := by rw [hR0]; exact h.far2 _ _
  obtain ⟨g1, g2⟩ := box_two w (ycells ty) (ycells fr) 50 50
  rw [← hR0] at g1 g2
  have a0 : R0.cell? ⟨w.heap.size, 0, none⟩ = some (.int .i64 ty.kind) := by rw [cell_of_row _ _ 0 _ _ _ g1]; rfl
  have a3 : R0.cell? ⟨w.heap.size, 3, none⟩ = some (.string ty.name) := by rw [cell_of_row _ _ 3 _ _ _ g1]; rfl
  have b0 : R0.cell? ⟨w.heap.size + 1, 0, none⟩ = some (.int .i64 fr.kind) := by rw [cell_of_row _ _ 0 _ _ _ g2]; rfl
  have b3 : R0.cell? ⟨w.heap.size + 1, 3, none⟩ = some (.string fr.name) := by rw [cell_of_row _ _ 3 _ _ _ g2]; rfl
  have hx := Lib.hid (h.below hb0)
  have ht := Lib.hid (XTo.of_below (p := p) (I := I) hb0)
  have HB : Hid (∀ W I', Hid (XTo p R0 I W I') → Hid (XTo p w I W I')) := fun W I' k => (XTo.of_below hb0).trans k.out
  have KI : Hid (∀ s t, Calls Try.prog 56 #[.pointer (some ⟨p, 0, none⟩), .string s, .string t] R0 fun e w' => ∃ I', e = .returned (.bool (isT L s t)) ∧ Hid (XAt L A c p N w' I') ∧ Hid (XTo p w I w' I')) := fun s t => (lkIs_any L A c p N I s t R0 hx.out hfit).mono fun e w' hh => by
    obtain ⟨I', h1, h2, h3⟩ := hh
    exact ⟨I', h1, h2, HB.out _ _ h3⟩
  have HR0 := Lib.hid hR0
  obtain ⟨tk, tl, tH, tn⟩ := ty
  obtain ⟨fk, fl, fh, fn⟩ := fr
  simp only at a0 a3 b0 b3
  obtain ⟨r, hr⟩ : ∃ r, r = fitsT L ⟨tk, tl, tH, tn⟩ ⟨fk, fl, fh, fn⟩ := ⟨_, rfl⟩
  rw [← hr]
  unfold fitsT at hr
  simp only at hr
  obtain ⟨b, hb⟩ : ∃ b, b = isT L fn tn := ⟨_, rfl⟩
  rw [← hb] at hr
  have KI2 : Hid (Calls Try.prog 56 #[.pointer (some ⟨p, 0, none⟩), .string fn, .string tn] R0 fun e w' => ∃ I', e = .returned (.bool b) ∧ Hid (XAt L A c p N w' I') ∧ Hid (XTo p w I w' I')) := hb ▸ KI.out fn tn
  unfold XRet
  clear h hb0 g1 g2 HB KI hfit hb
  unfold ycells at HR0 ⊢
  simp only at HR0 ⊢
  have hRR := HR0.out
  rw [hRR] at a0 a3 b0 b3
  clear hR0 hRR
  have done : ∀ (x : Bool) (W : World), W = R0 → x = r → ∃ I', Ending.returned (.bool x) = .returned (.bool r) ∧ Hid (XAt L A c p N W I') ∧ Hid (XTo p w I W I') := fun x W hW hxr => ⟨I, by rw [hxr], by rw [hW]; exact hx, by rw [hW]; exact ht⟩
  have done2 : ∀ (x : Bool) (W : World), W = R0 → x = r → Ending.returned (.bool x) = .returned (.bool r) ∧ ∃ I', Hid (XAt L A c p N W I') ∧ Hid (XTo p w I W I') := fun x W hW hxr => ⟨by rw [hxr], I, by rw [hW]; exact hx, by rw [hW]; exact ht⟩
  have HD := Lib.hid done
  have HE := Lib.hid done2
  clear done done2
  by_cases k3 : tk = 3
  · subst k3
    rw [if_pos (.inl rfl)] at hr
    by_cases f1 : fk = 1
    · subst f1
      have hz : Hid (r = true) := by unfold Hid; rw [hr]; simp
      clear hr
      go_enter Try.func60, Try.ntmps60
      go_wp2_with fail
      go_ret
      first
        | exact HD.out _ _ HR0.out.symm hz.out.symm
        | exact HE.out _ _ HR0.out.symm hz.out.symm
    · have f1b := eq_no f1
      have hz : Hid (r = false) := by unfold Hid; rw [hr]; simp [f1]
      clear hr
      go_enter Try.func60, Try.ntmps60
      go_wp2_with fail
      go_ret
      first
        | exact HD.out _ _ HR0.out.symm hz.out.symm
        | exact HE.out _ _ HR0.out.symm hz.out.symm
  by_cases k1 : tk = 1
  · subst k1
    rw [if_pos (.inr rfl)] at hr
    by_cases f1 : fk = 1
    · subst f1
      have hz : Hid (r = true) := by unfold Hid; rw [hr]; simp
      clear hr
      go_enter Try.func60, Try.ntmps60
      go_wp2_with fail
      go_ret
      first
        | exact HD.out _ _ HR0.out.symm hz.out.symm
        | exact HE.out _ _ HR0.out.symm hz.out.symm
    · have f1b := eq_no f1
      have hz : Hid (r = false) := by unfold Hid; rw [hr]; simp [f1]
      clear hr
      go_enter Try.func60, Try.ntmps60
      go_wp2_with fail
      go_ret
      first
        | exact HD.out _ _ HR0.out.symm hz.out.symm
        | exact HE.out _ _ HR0.out.symm hz.out.symm
  by_cases k2 : tk = 2
  · subst k2
    rw [if_neg (by omega), if_pos rfl] at hr
    by_cases f1 : fk = 2
    · subst f1
      have hz : Hid (r = true) := by unfold Hid; rw [hr]; simp
      clear hr
      go_enter Try.func60, Try.ntmps60
      go_wp2_with fail
      go_ret
      first
        | exact HD.out _ _ HR0.out.symm hz.out.symm
        | exact HE.out _ _ HR0.out.symm hz.out.symm
    · have f1b := eq_no f1
      have hz : Hid (r = false) := by unfold Hid; rw [hr]; simp [f1]
      clear hr
      go_enter Try.func60, Try.ntmps60
      go_wp2_with fail
      go_ret
      first
        | exact HD.out _ _ HR0.out.symm hz.out.symm
        | exact HE.out _ _ HR0.out.symm hz.out.symm
  by_cases k5 : tk = 5
  · subst k5
    rw [if_neg (by omega), if_neg (by omega), if_pos rfl] at hr
    by_cases f1 : fk = 5
    · subst f1
      by_cases n0 : fn = ⟨#[]⟩
      · subst n0
        have hz : Hid (r = true) := by unfold Hid; rw [hr]; simp
        clear hr
        go_enter Try.func60, Try.ntmps60
        go_wp2_with fail
        go_ret
        first
          | exact HD.out _ _ HR0.out.symm hz.out.symm
          | exact HE.out _ _ HR0.out.symm hz.out.symm
      · have n0b := empty_ne n0
        by_cases n1 : fn = tn
        · have n1b := str_eq n1
          have hz : Hid (r = true) := by unfold Hid; rw [hr]; simp [n1]
          clear hr
          subst n1
          go_enter Try.func60, Try.ntmps60
          go_wp2_with fail
          go_ret
          first
            | exact HD.out _ _ HR0.out.symm hz.out.symm
            | exact HE.out _ _ HR0.out.symm hz.out.symm
        · have n1b := str_ne n1
          have hrb : Hid (b = r) := by unfold Hid; rw [hr]; simp [n0, n1]
          clear hr n0 n1
          go_enter Try.func60, Try.ntmps60
          go_wp2_with fail
          rw [← HR0.out]
          refine KI2.out.mono ?_
          rintro e1 w1 ⟨I', rfl, hx1, ht1⟩
          clear a0 a3 b0 b3
          go_wp2_with fail
          go_ret
          exact ⟨I', by rw [← hrb.out]; rfl, hx1, ht1⟩
    · have f1b := eq_no f1
      have hz : Hid (r = false) := by unfold Hid; rw [hr]; simp [f1]
      clear hr
      go_enter Try.func60, Try.ntmps60
      go_wp2_with fail
      go_ret
      first
        | exact HD.out _ _ HR0.out.symm hz.out.symm
        | exact HE.out _ _ HR0.out.symm hz.out.symm
  · have k1b := eq_no k1
    have k2b := eq_no k2
    have k3b := eq_no k3
    have k5b := eq_no k5
    rw [if_neg (by omega), if_neg k2, if_neg k5] at hr
    have hz : Hid (r = false) := by unfold Hid; rw [hr]
    clear hr
    go_enter Try.func60, Try.ntmps60
    go_wp2_with fail
    go_ret
    first
      | exact HD.out _ _ HR0.out.symm hz.out.symm
      | exact HE.out _ _ HR0.out.symm hz.out.symm
end Go.Proofs.Ytmbddofcildibaa

/-
  What chains and interfaces are, in plain words: closed under bases, members found by name; who is one.
-/
namespace Go.Proofs.Ytmbddofcildibaa
open Go Go.RowKit
set_option linter.unusedVariables false
set_option linter.unusedSimpArgs false

theorem findF_name (s : ByteArray) : ∀ (L : List DT) (j k : Nat) (hk : k < L.length), findF s L j = (j + k : Nat) → L[k].name = s
  | d :: r, j, 0, hk, h => by
    unfold findF at h
    split at h
    · assumption
    · have := findF_le s r (j + 1)
      omega
  | d :: r, j, k + 1, hk, h => by
    unfold findF at h
    split at h
    · omega
    · exact findF_name s r (j + 1) k (by simpa using hk) (by rw [h]; congr 1; omega)
theorem findT_name {L : List DT} {s : ByteArray} {k : Nat} (hk : k < L.length) (h : findT L s = k) : L[k].name = s := findF_name s L 0 k hk (by rw [Nat.zero_add]; exact h)
theorem chainF_sub {L : List DT} {x : Int} : ∀ (f : Nat) (out : List Int) (d : Int), x ∈ out → x ∈ chainF L f out d
  | 0, _, _, h => h
  | f + 1, out, d, h => by
    unfold chainF
    split
    · exact chainF_sub f _ _ (by simp [h])
    · exact h
theorem chainF_closed {L : List DT} : ∀ (f : Nat) (out : List Int) (d : Int), Met L out → L.length + 1 ≤ out.length + f → (∀ x ∈ out, isOfT L (findT L (baseT L x)) 2 = true → findT L (baseT L x) ∈ out ∨ findT L (baseT L x) = d) → ∀ x ∈ chainF L f out d, isOfT L (findT L (baseT L x)) 2 = true → findT L (baseT L x) ∈ chainF L f out d
  | 0, out, d, hm, hl, _, x, _, _ => by have := hm.len; omega
  | f + 1, out, d, hm, hl, hc, x, hx, hq => by
    by_cases hs : isOfT L d 2 = true ∧ out.contains d = false
    · rw [chainF_go hs.1 hs.2] at hx ⊢
      refine chainF_closed f _ _ (hm.snoc hs.1 hs.2) (by simp; omega) (fun y hy hz => ?_) x hx hq
      rcases List.mem_append.1 hy with h | h
      · rcases hc y h hz with h' | h'
        · exact .inl (List.mem_append_left _ h')
        · exact .inl (List.mem_append_right _ (by rw [h']; simp))
      · rw [List.mem_singleton.1 h]; exact .inr rfl
    · have he : isOfT L d 2 = false ∨ out.contains d = true := by
        cases h1 : isOfT L d 2
        · exact .inl rfl
        · cases h2 : out.contains d
          · exact absurd ⟨h1, h2⟩ hs
          · exact .inr rfl
      rw [chainF_end he] at hx ⊢
      rcases hc x hx hq with h | h
      · exact h
      · rw [h] at hq ⊢
        rcases he with h1 | h1
        · rw [h1] at hq; cases hq
        · exact List.contains_iff_mem.1 h1
theorem chainT_closed {L : List DT} {d x : Int} (hx : x ∈ chainT L d) (hq : isOfT L (findT L (baseT L x)) 2 = true) : findT L (baseT L x) ∈ chainT L d :=
  chainF_closed (L.length + 1) [] d (Met.nil L) (by simp) (by simp) x hx hq
theorem chainT_first {L : List DT} {d : Int} (h : isOfT L d 2 = true) : d ∈ chainT L d := by
  unfold chainT
  rw [chainF_go h (by simp)]
  exact chainF_sub _ _ _ (by simp)
theorem chainT_none {L : List DT} {d : Int} (h : isOfT L d 2 = false) : chainT L d = [] := by
  unfold chainT
  exact chainF_end (.inl h)
theorem chainT_is {L : List DT} {d x : Int} (h : x ∈ chainT L d) : isOfT L d 2 = true := by
  cases hq : isOfT L d 2
  · rw [chainT_none hq] at h; cases h
  · rfl
theorem chainF_in {L : List DT} (S : Int → Prop) (hS : ∀ x, S x → isOfT L (findT L (baseT L x)) 2 = true → S (findT L (baseT L x))) : ∀ (f : Nat) (out : List Int) (d : Int), (∀ x ∈ out, S x) → (isOfT L d 2 = true → S d) → ∀ x ∈ chainF L f out d, S x
  | 0, _, _, ho, _ => ho
  | f + 1, out, d, ho, hd => by
    by_cases hs : isOfT L d 2 = true ∧ out.contains d = false
    · rw [chainF_go hs.1 hs.2]
      refine chainF_in S hS f _ _ (fun x hx => ?_) (hS d (hd hs.1))
      rcases List.mem_append.1 hx with h | h
      · exact ho x h
      · rw [List.mem_singleton.1 h]; exact hd hs.1
    · have he : isOfT L d 2 = false ∨ out.contains d = true := by
        cases h1 : isOfT L d 2
        · exact .inl rfl
        · cases h2 : out.contains d
          · exact absurd ⟨h1, h2⟩ hs
          · exact .inr rfl
      rw [chainF_end he]
      exact ho
theorem chainT_sub {L : List DT} {d t : Int} (ht : t ∈ chainT L d) : ∀ x ∈ chainT L t, x ∈ chainT L d :=
  chainF_in (fun x => x ∈ chainT L d) (fun x hx hq => chainT_closed hx hq) _ [] t (by simp) (fun _ => ht)
theorem chainT_found {L : List DT} {s : ByteArray} : ∀ x ∈ chainT L (findT L s), ∃ s', x = findT L s' :=
  chainF_in (fun x => ∃ s', x = findT L s') (fun x _ _ => ⟨_, rfl⟩) _ [] _ (by simp) (fun _ => ⟨s, rfl⟩)
theorem mem_faceStep {L : List DT} {out : List Int} {s : ByteArray} {x : Int} : x ∈ faceStep L out s ↔ x ∈ out ∨ (x = findT L s ∧ isOfT L (findT L s) 1 = true) := by
  unfold faceStep
  cases h1 : isOfT L (findT L s) 1
  · simp
  · cases h2 : out.contains (findT L s)
    · simp
    · have := List.contains_iff_mem.1 h2
      simp only [Bool.not_true, Bool.and_false, Bool.false_eq_true, if_false, and_true]
      constructor
      · exact .inl
      · rintro (h | h)
        · exact h
        · rw [h]; exact this
theorem mem_faceFold {L : List DT} {x : Int} : ∀ (l : List ByteArray) (out : List Int), x ∈ l.foldl (faceStep L) out ↔ x ∈ out ∨ ∃ s ∈ l, x = findT L s ∧ isOfT L (findT L s) 1 = true
  | [], out => by simp
  | s :: r, out => by
    rw [List.foldl_cons, mem_faceFold r, mem_faceStep]
    constructor
    · rintro ((h | h) | ⟨t, ht, h⟩)
      · exact .inl h
      · exact .inr ⟨s, by simp, h⟩
      · exact .inr ⟨t, by simp [ht], h⟩
    · rintro (h | ⟨t, ht, h⟩)
      · exact .inl (.inl h)
      · rcases List.mem_cons.1 ht with rfl | ht
        · exact .inl (.inr h)
        · exact .inr ⟨t, ht, h⟩
theorem mem_facesFold {L : List DT} {x : Int} : ∀ (cs : List Int) (out : List Int), x ∈ cs.foldl (fun out c => (facesOf L c).foldl (faceStep L) out) out ↔ x ∈ out ∨ ∃ c ∈ cs, ∃ s ∈ facesOf L c, x = findT L s ∧ isOfT L (findT L s) 1 = true
  | [], out => by simp
  | c :: r, out => by
    rw [List.foldl_cons, mem_facesFold r, mem_faceFold]
    constructor
    · rintro ((h | h) | ⟨t, ht, h⟩)
      · exact .inl h
      · exact .inr ⟨c, by simp, h⟩
      · exact .inr ⟨t, by simp [ht], h⟩
    · rintro (h | ⟨t, ht, h⟩)
      · exact .inl (.inl h)
      · rcases List.mem_cons.1 ht with rfl | ht
        · exact .inl (.inr h)
        · exact .inr ⟨t, ht, h⟩
theorem mem_facesT {L : List DT} {d x : Int} : x ∈ facesT L d ↔ ∃ c ∈ chainT L d, ∃ s ∈ facesOf L c, x = findT L s ∧ isOfT L (findT L s) 1 = true := by
  unfold facesT
  rw [mem_facesFold]
  simp
theorem facesT_sub {L : List DT} {d t : Int} (ht : t ∈ chainT L d) : ∀ x ∈ facesT L t, x ∈ facesT L d := fun x hx => by
  obtain ⟨c, hc, h⟩ := mem_facesT.1 hx
  exact mem_facesT.2 ⟨c, chainT_sub ht c hc, h⟩
theorem one_kind {L : List DT} {d : Int} (h : isOfT L d 1 = true) : isOfT L d 2 = false := by
  rw [kindT_isOf L d 1 (by decide)] at h
  rw [kindT_isOf L d 2 (by decide)]
  have := of_decide_eq_true h
  rw [this]
  decide
/-- who is one. -/
theorem isT_iff {L : List DT} {a b : ByteArray} : isT L a b = true ↔ (isOfT L (findT L a) 2 = true ∨ isOfT L (findT L a) 1 = true) ∧ (a = b ∨ findT L b ∈ chainT L (findT L a) ∨ findT L b ∈ facesT L (findT L a)) := by
  unfold isT
  simp [Bool.and_eq_true, or_assoc]
theorem isT_self (L : List DT) (a : ByteArray) : isT L a a = (isOfT L (findT L a) 2 || isOfT L (findT L a) 1) := by
  unfold isT
  simp
theorem isT_thing {L : List DT} {a b : ByteArray} (h : isT L a b = true) : (isOfT L (findT L a) 2 || isOfT L (findT L a) 1) = true := by
  have := (isT_iff.1 h).1
  simpa using this
theorem isT_trans {L : List DT} {a b c : ByteArray} (h1 : isT L a b = true) (h2 : isT L b c = true) : isT L a c = true := by
  obtain ⟨k1, k2⟩ := isT_iff.1 h1
  obtain ⟨j1, j2⟩ := isT_iff.1 h2
  refine isT_iff.2 ⟨k1, ?_⟩
  rcases k2 with rfl | k | k
  · exact j2
  · rcases j2 with rfl | j | j
    · exact .inr (.inl k)
    · exact .inr (.inl (chainT_sub k _ j))
    · exact .inr (.inr (facesT_sub k _ j))
  · obtain ⟨c', _, s, _, e, hi⟩ := mem_facesT.1 k
    rw [← e] at hi
    have hn := chainT_none (one_kind hi)
    rcases j2 with rfl | j | j
    · exact .inr (.inr k)
    · rw [hn] at j; cases j
    · obtain ⟨c2, hc2, _⟩ := mem_facesT.1 j
      rw [hn] at hc2; cases hc2
theorem found_name {L : List DT} {k : Nat} (hk : k < L.length) {s : ByteArray} (h : (k : Int) = findT L s) : findT L L[k].name = k := by
  rw [findT_name hk h.symm, h]
theorem isT_chain {L : List DT} {a : ByteArray} {k : Nat} (hk : k < L.length) (h : (k : Int) ∈ chainT L (findT L a)) : isT L a L[k].name = true := by
  obtain ⟨s, hs⟩ := chainT_found _ h
  refine isT_iff.2 ⟨.inl (chainT_is h), .inr (.inl ?_)⟩
  rw [found_name hk hs]
  exact h
theorem isT_face {L : List DT} {a : ByteArray} {k : Nat} (hk : k < L.length) (h : (k : Int) ∈ facesT L (findT L a)) : isT L a L[k].name = true := by
  obtain ⟨c, hc, s, _, hs, _⟩ := mem_facesT.1 h
  refine isT_iff.2 ⟨.inl (chainT_is hc), .inr (.inr ?_)⟩
  rw [found_name hk hs]
  exact h
theorem facesT_kind {L : List DT} {d x : Int} (h : x ∈ facesT L d) : isOfT L x 1 = true := by
  obtain ⟨c, hc, s, _, hs, hi⟩ := mem_facesT.1 h
  rw [hs]; exact hi
end Go.Proofs.Ytmbddofcildibaa

/-
  what fits, on plain data: of references.
-/
namespace Go.Proofs.Ytmbddofcildibaa
open Go Go.RowKit
set_option linter.unusedVariables false
set_option linter.unusedSimpArgs false

/-- a reference to what is of this name. -/
abbrev refY (s : ByteArray) : YT := ⟨5, 0, 0, s⟩
theorem fits_ref (L : List DT) (a b : ByteArray) : fitsT L (refY a) (refY b) = (decide (b = ⟨#[]⟩) || decide (b = a) || isT L b a) := by
  unfold fitsT
  simp
theorem fits_self (L : List DT) (a : ByteArray) : fitsT L (refY a) (refY a) = true := by
  rw [fits_ref]
  simp
theorem fits_null (L : List DT) (a : ByteArray) : fitsT L (refY a) (refY ⟨#[]⟩) = true := by
  rw [fits_ref]
  simp
theorem fits_trans (L : List DT) {a b c : ByteArray} (hb : ¬ b = ⟨#[]⟩) (hc : ¬ c = ⟨#[]⟩) (h1 : fitsT L (refY a) (refY b) = true) (h2 : fitsT L (refY b) (refY c) = true) : fitsT L (refY a) (refY c) = true := by
  rw [fits_ref] at h1 h2 ⊢
  simp only [decide_eq_false hb, Bool.false_or, Bool.or_eq_true, decide_eq_true_eq] at h1
  simp only [decide_eq_false hc, Bool.false_or, Bool.or_eq_true, decide_eq_true_eq] at h2
  simp only [Bool.or_eq_true, decide_eq_true_eq]
  rcases h1 with rfl | h1
  · rcases h2 with h2 | h2
    · exact .inl (.inr h2)
    · exact .inr h2
  · rcases h2 with rfl | h2
    · exact .inr h1
    · exact .inr (isT_trans h2 h1)
end Go.Proofs.Ytmbddofcildibaa

/-
  governorref7.Fits, typing.Fits BY CONTRACTS.
-/
namespace Go.Proofs.Ytmbddofcildibaa
open Go Go.RowKit
set_option linter.unusedVariables false
set_option linter.unusedSimpArgs false

set_option maxHeartbeats 2000000 in
set_option maxRecDepth 100000 in
theorem refFits_any (L : List DT) (A : Option Addr) (c : Nat) (ty fr : YT) (w : World) (ha : DsR w w.heap.size A L) (hfit : Fit L) :
    Calls Try.prog 36 #[.agg #[.slice A L.length c], .agg (ycells ty), .agg (ycells fr)] w fun e w' => e = .returned (.bool (fitsT L ty fr)) ∧ Below w.heap.size w w' := by
  obtain ⟨R0, hR0⟩ : ∃ R0 : World, R0 = ((w.alloc (.cells #[.slice A L.length c] 24)).alloc (.cells (ycells ty) 50)).alloc (.cells (ycells fr) 50) := ⟨_, rfl⟩
  have hu : UAt w R0 A c L := hR0 ▸ ((UAt.of ha).alloc _).alloc _
  obtain ⟨g1, g2⟩ := box_two (w.alloc (.cells #[.slice A L.length c] 24)) (ycells ty) (ycells fr) 50 50
  have hsz : (w.alloc (.cells #[.slice A L.length c] 24)).heap.size = w.heap.size + 1 := by simp
  rw [← hR0, hsz] at g1 g2
  have yu := hu.cell _ (Below.refl _ _)
  have a0 : R0.cell? ⟨w.heap.size + 1, 0, none⟩ = some (.int .i64 ty.kind) := by rw [cell_of_row _ _ 0 _ _ _ g1]; rfl
  have a3 : R0.cell? ⟨w.heap.size + 1, 3, none⟩ = some (.string ty.name) := by rw [cell_of_row _ _ 3 _ _ _ g1]; rfl
  have b0 : R0.cell? ⟨w.heap.size + 1 + 1, 0, none⟩ = some (.int .i64 fr.kind) := by rw [cell_of_row _ _ 0 _ _ _ g2]; rfl
  have b3 : R0.cell? ⟨w.heap.size + 1 + 1, 3, none⟩ = some (.string fr.name) := by rw [cell_of_row _ _ 3 _ _ _ g2]; rfl
  have HB := Lib.hid hu.below
  obtain ⟨tk, tl, tH, tn⟩ := ty
  obtain ⟨fk, fl, fh, fn⟩ := fr
  simp only at a0 a3 b0 b3
  have KI : Hid (Calls Try.prog 26 #[.agg #[.slice A L.length c], .string fn, .string tn] R0 fun e w' => e = .returned (.bool (isT L fn tn)) ∧ Hid (Below w.heap.size w w')) := (refIs_any L A c fn tn R0 (hu.rowAt (Below.refl _ _)) hfit.cnt hfit.faces).mono fun e w' hh => ⟨hh.1, hu.out hh.2⟩
  have HR0 := Lib.hid hR0
  obtain ⟨r, hr⟩ : ∃ r, r = fitsT L ⟨tk, tl, tH, tn⟩ ⟨fk, fl, fh, fn⟩ := ⟨_, rfl⟩
  rw [← hr]
  unfold fitsT at hr
  simp only at hr
  obtain ⟨b, hb⟩ : ∃ b, b = isT L fn tn := ⟨_, rfl⟩
  rw [← hb] at hr KI
  clear ha hu g1 g2 hfit hb hsz
  unfold ycells at HR0 ⊢
  simp only at HR0 ⊢
  have hRR := HR0.out
  rw [hRR] at a0 a3 b0 b3 yu
  clear hR0 hRR
  have done : ∀ (x : Bool) (W : World), W = R0 → x = r → Ending.returned (.bool x) = .returned (.bool r) ∧ Below w.heap.size w W := fun x W hW hxr => ⟨by rw [hxr], by rw [hW]; exact HB.out⟩
  have HD := Lib.hid done
  clear done
  by_cases k3 : tk = 3
  · subst k3
    rw [if_pos (.inl rfl)] at hr
    by_cases f1 : fk = 1
    · subst f1
      have hz : Hid (r = true) := by unfold Hid; rw [hr]; simp
      clear hr
      go_enter Try.func36, Try.ntmps36
      go_wp2_with fail
      go_ret
      exact HD.out _ _ HR0.out.symm hz.out.symm
    · have f1b := eq_no f1
      have hz : Hid (r = false) := by unfold Hid; rw [hr]; simp [f1]
      clear hr
      go_enter Try.func36, Try.ntmps36
      go_wp2_with fail
      go_ret
      exact HD.out _ _ HR0.out.symm hz.out.symm
  by_cases k1 : tk = 1
  · subst k1
    rw [if_pos (.inr rfl)] at hr
    by_cases f1 : fk = 1
    · subst f1
      have hz : Hid (r = true) := by unfold Hid; rw [hr]; simp
      clear hr
      go_enter Try.func36, Try.ntmps36
      go_wp2_with fail
      go_ret
      exact HD.out _ _ HR0.out.symm hz.out.symm
    · have f1b := eq_no f1
      have hz : Hid (r = false) := by unfold Hid; rw [hr]; simp [f1]
      clear hr
      go_enter Try.func36, Try.ntmps36
      go_wp2_with fail
      go_ret
      exact HD.out _ _ HR0.out.symm hz.out.symm
  by_cases k2 : tk = 2
  · subst k2
    rw [if_neg (by omega), if_pos rfl] at hr
    by_cases f1 : fk = 2
    · subst f1
      have hz : Hid (r = true) := by unfold Hid; rw [hr]; simp
      clear hr
      go_enter Try.func36, Try.ntmps36
      go_wp2_with fail
      go_ret
      exact HD.out _ _ HR0.out.symm hz.out.symm
    · have f1b := eq_no f1
      have hz : Hid (r = false) := by unfold Hid; rw [hr]; simp [f1]
      clear hr
      go_enter Try.func36, Try.ntmps36
      go_wp2_with fail
      go_ret
      exact HD.out _ _ HR0.out.symm hz.out.symm
  by_cases k5 : tk = 5
  · subst k5
    rw [if_neg (by omega), if_neg (by omega), if_pos rfl] at hr
    by_cases f1 : fk = 5
    · subst f1
      by_cases n0 : fn = ⟨#[]⟩
      · subst n0
        have hz : Hid (r = true) := by unfold Hid; rw [hr]; simp
        clear hr
        go_enter Try.func36, Try.ntmps36
        go_wp2_with fail
        go_ret
        exact HD.out _ _ HR0.out.symm hz.out.symm
      · have n0b := empty_ne n0
        by_cases n1 : fn = tn
        · have n1b := str_eq n1
          have hz : Hid (r = true) := by unfold Hid; rw [hr]; simp [n1]
          clear hr
          subst n1
          go_enter Try.func36, Try.ntmps36
          go_wp2_with fail
          go_ret
          exact HD.out _ _ HR0.out.symm hz.out.symm
        · have n1b := str_ne n1
          have hrb : Hid (b = r) := by unfold Hid; rw [hr]; simp [n0, n1]
          clear hr n0 n1
          go_enter Try.func36, Try.ntmps36
          go_wp2_with fail
          rw [← HR0.out]
          refine KI.out.mono ?_
          rintro e1 w1 ⟨rfl, hb1⟩
          clear a0 a3 b0 b3 yu
          go_wp2_with fail
          go_ret
          exact ⟨by rw [← hrb.out]; rfl, hb1.out⟩
    · have f1b := eq_no f1
      have hz : Hid (r = false) := by unfold Hid; rw [hr]; simp [f1]
      clear hr
      go_enter Try.func36, Try.ntmps36
      go_wp2_with fail
      go_ret
      exact HD.out _ _ HR0.out.symm hz.out.symm
  · have k1b := eq_no k1
    have k2b := eq_no k2
    have k3b := eq_no k3
    have k5b := eq_no k5
    rw [if_neg (by omega), if_neg k2, if_neg k5] at hr
    have hz : Hid (r = false) := by unfold Hid; rw [hr]
    clear hr
    go_enter Try.func36, Try.ntmps36
    go_wp2_with fail
    go_ret
    exact HD.out _ _ HR0.out.symm hz.out.symm
set_option maxHeartbeats 1000000 in
theorem TyFits_any (L : List DT) (A : Option Addr) (c : Nat) (ty fr : YT) (w : World) (ha : DsR w w.heap.size A L) (hfit : Fit L) :
    Calls Try.prog 35 #[.agg #[.slice A L.length c], .agg (ycells ty), .agg (ycells fr)] w fun e w' => e = .returned (.bool (fitsT L ty fr)) ∧ Below w.heap.size w w' := by
  obtain ⟨R0, hR0⟩ : ∃ R0 : World, R0 = ((w.alloc (.cells #[.slice A L.length c] 24)).alloc (.cells (ycells ty) 50)).alloc (.cells (ycells fr) 50) := ⟨_, rfl⟩
  have hu : UAt w R0 A c L := hR0 ▸ ((UAt.of ha).alloc _).alloc _
  obtain ⟨g1, g2⟩ := box_two (w.alloc (.cells #[.slice A L.length c] 24)) (ycells ty) (ycells fr) 50 50
  have hsz : (w.alloc (.cells #[.slice A L.length c] 24)).heap.size = w.heap.size + 1 := by simp
  rw [← hR0, hsz] at g1 g2
  have yu := hu.cell _ (Below.refl _ _)
  have HC : Hid (∀ W, Hid (Below R0.heap.size R0 W) → ∀ j v, (ycells ty)[j]? = some v → W.cell? ⟨w.heap.size + 1, j, none⟩ = some v) := fun W h j v hj => by rw [cell_of_row _ _ j _ _ _ ((h.out.block _ (Array.getElem?_eq_some_iff.1 g1).1).trans g1)]; exact hj
  have HD : Hid (∀ W, Hid (Below R0.heap.size R0 W) → ∀ j v, (ycells fr)[j]? = some v → W.cell? ⟨w.heap.size + 1 + 1, j, none⟩ = some v) := fun W h j v hj => by rw [cell_of_row _ _ j _ _ _ ((h.out.block _ (Array.getElem?_eq_some_iff.1 g2).1).trans g2)]; exact hj
  have HU := Lib.hid hu
  have KO2 : Hid (∀ W, Hid (Below R0.heap.size R0 W) → Calls Try.prog 47 #[.agg #[.slice A L.length c]] W fun e w' => ∃ p, e = .returned (.pointer (some ⟨p, 0, none⟩)) ∧ Hid (XAt L A c p W.heap.size w' ⟨none, none⟩) ∧ Hid (Below R0.heap.size R0 w') ∧ Hid (R0.heap.size ≤ W.heap.size)) := fun W hb => (of_any L A c W (hu.rowAt hb.out)).mono fun e w' hh => by
    obtain ⟨p, h1, h2, h3⟩ := hh
    exact ⟨p, h1, h2, hb.out.trans (h3.out.mono hb.out.size), hb.out.size⟩
  have KF : Hid (∀ p N W, Hid (XAt L A c p N W ⟨none, none⟩) → Hid (Below R0.heap.size R0 W) → Hid (R0.heap.size ≤ N) → Calls Try.prog 60 #[.pointer (some ⟨p, 0, none⟩), .agg (ycells ty), .agg (ycells fr)] W fun e w' => e = .returned (.bool (fitsT L ty fr)) ∧ Hid (Below R0.heap.size R0 w')) := fun p N W hx hb hN => (tyfits_any L A c p N ⟨none, none⟩ ty fr W hx.out hfit).mono fun e w' hh => by
    obtain ⟨I', h1, h2, h3⟩ := hh
    exact ⟨h1, hb.out.trans ((h3.out.toBelow hx.out (Nat.le_of_lt hx.out.lt)).mono hN.out)⟩
  obtain ⟨r, hr⟩ : ∃ r, r = fitsT L ty fr := ⟨_, rfl⟩
  rw [← hr] at KF ⊢
  have HR0 := Lib.hid hR0
  have HB0 : Hid (Below R0.heap.size R0 R0) := Below.refl _ _
  obtain ⟨tk, tl, tH, tn⟩ := ty
  obtain ⟨fk, fl, fh, fn⟩ := fr
  unfold ycells at KF HR0 ⊢
  simp only at KF HR0 ⊢
  have a0 := HC.out _ HB0 0 _ rfl
  have hRR := HR0.out
  rw [hRR] at yu
  clear hR0 hRR ha hu g1 g2 hfit hr hsz a0
  go_enter Try.func35, Try.ntmps35
  go_wp2_with fail
  rw [← HR0.out] at yu ⊢
  have CE : Hid (∀ W, Hid (Below R0.heap.size R0 W) → W.cell? ⟨w.heap.size, 0, none⟩ = some (.slice A L.length c) ∧ W.cell? ⟨w.heap.size + 1, 0, none⟩ = some (.int .i64 tk) ∧ W.cell? ⟨w.heap.size + 1, 1, none⟩ = some (.int .i64 tl) ∧ W.cell? ⟨w.heap.size + 1, 2, none⟩ = some (.int .i64 tH) ∧ W.cell? ⟨w.heap.size + 1, 3, none⟩ = some (.string tn) ∧ W.cell? ⟨w.heap.size + 1 + 1, 0, none⟩ = some (.int .i64 fk) ∧ W.cell? ⟨w.heap.size + 1 + 1, 1, none⟩ = some (.int .i64 fl) ∧ W.cell? ⟨w.heap.size + 1 + 1, 2, none⟩ = some (.int .i64 fh) ∧ W.cell? ⟨w.heap.size + 1 + 1, 3, none⟩ = some (.string fn)) := fun W h => ⟨HU.out.cell W h.out, HC.out W h 0 _ rfl, HC.out W h 1 _ rfl, HC.out W h 2 _ rfl, HC.out W h 3 _ rfl, HD.out W h 0 _ rfl, HD.out W h 1 _ rfl, HD.out W h 2 _ rfl, HD.out W h 3 _ rfl⟩
  obtain ⟨-, t0, t1, t2, t3, s0, s1, s2, s3⟩ := CE.out _ HB0
  go_region_held3 (fun w' => w'.cell? ⟨w.heap.size, 0, none⟩ = some (.slice A L.length c) ∧ w'.cell? ⟨w.heap.size + 1, 0, none⟩ = some (.int .i64 tk) ∧ w'.cell? ⟨w.heap.size + 1, 1, none⟩ = some (.int .i64 tl) ∧ w'.cell? ⟨w.heap.size + 1, 2, none⟩ = some (.int .i64 tH) ∧ w'.cell? ⟨w.heap.size + 1, 3, none⟩ = some (.string tn) ∧ w'.cell? ⟨w.heap.size + 1 + 1, 0, none⟩ = some (.int .i64 fk) ∧ w'.cell? ⟨w.heap.size + 1 + 1, 1, none⟩ = some (.int .i64 fl) ∧ w'.cell? ⟨w.heap.size + 1 + 1, 2, none⟩ = some (.int .i64 fh) ∧ w'.cell? ⟨w.heap.size + 1 + 1, 3, none⟩ = some (.string fn))
    (first | exact CE.out _ HB0 | exact CE.out _ HB0.out.drew | exact CE.out _ hb1 | exact CE.out _ hb1.out.drew | exact CE.out _ hb2)
    (first
      | (go_at_call 47; refine (KO2.out _ (by first | exact HB0 | exact HB0.out.drew)).mono ?_; rintro e1 w1 ⟨p, rfl, hx1, hb1, hn1⟩)
      | (go_at_call 60; refine (KF.out _ _ _ hx1 hb1 hn1).mono ?_; rintro e2 w2 ⟨rfl, hb2⟩))
  all_goals
    have HF := Lib.hid (HU.out.out hb2.out)
    clear t0 t1 t2 t3 s0 s1 s2 s3 yu
    go_wp2_with fail
    go_ret
    exact ⟨rfl, HF.out⟩
end Go.Proofs.Ytmbddofcildibaa

/-
  governorlaw0.Low: any int brought below a length (as in TbIsLaw, by itself).
-/
namespace Go.Proofs.Ytmbddofcildibaa
open Go Go.RowKit
set_option linter.unusedVariables false
set_option linter.unusedSimpArgs false

/-- Low's number. -/
def lowT (x : Int) (m : Nat) : Nat := (IntKind.u64.wrap x % (m : Int)).toNat
theorem lowT_lt (x : Int) {m : Nat} (hm : 0 < m) : lowT x m < m := by
  unfold lowT
  have h2 : IntKind.u64.wrap x % (m : Int) < (m : Int) := Int.emod_lt_of_pos _ (by omega)
  have h1 : 0 ≤ IntKind.u64.wrap x % (m : Int) := Int.emod_nonneg _ (by omega)
  omega
theorem low_at (x : Int) (m : Nat) (hm : 0 < m) (hm2 : m ≤ 2000000) (w : World) : Calls Try.prog 14 #[.int .i64 x, .int .i64 (m : Int)] w fun e w' => e = .returned (.int .i64 (lowT x m : Int)) ∧ w' = w := by
  have hu : IntKind.u64.wrap (m : Int) = (m : Int) := by rw [IntKind.wrap_u64]; omega
  have hz : ((m : Int) == 0) = false := by simp only [beq_eq_false_iff_ne, ne_eq]; omega
  have HL := Lib.hid (lowT_lt x hm)
  go_enter Try.func14, Try.ntmps14
  go_wp2
  go_ret
  have h0 : 0 ≤ IntKind.u64.wrap x := by rw [IntKind.wrap_u64]; omega
  have hl := HL.out
  unfold lowT at hl ⊢
  clear hu hz
  generalize IntKind.u64.wrap x = q at *
  have h1 : 0 ≤ q % (m : Int) := Int.emod_nonneg _ (by omega)
  have h2 : q % (m : Int) < (m : Int) := Int.emod_lt_of_pos _ (by omega)
  refine ⟨ret_int ?_, rfl⟩
  rw [Int.tmod_eq_emod_of_nonneg h0]
  generalize q % (m : Int) = y at *
  unfold wrap64
  omega

end Go.Proofs.Ytmbddofcildibaa
