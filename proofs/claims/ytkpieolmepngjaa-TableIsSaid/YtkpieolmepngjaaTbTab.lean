/-
  table: Find, Chain, Faces, Is, Method, Fields BY CONTRACTS.
-/
import Derived.Test.YtkpieolmepngjaaLkFields
import Derived.Test.YtkpieolmepngjaaTbRefF
import Derived.Test.YtkpieolmepngjaaTbRefI
namespace Go.Proofs.Ytkpieolmepngjaa
open Go Go.RowKit
set_option linter.unusedVariables false
set_option linter.unusedSimpArgs false

set_option maxHeartbeats 1000000 in
theorem find_any (L : List DT) (A : Option Addr) (c : Nat) (s : ByteArray) (w : World) (ha : DsR w w.heap.size A L) (hcnt : L.length ≤ 1000000000) :
    Calls Try.prog 20 #[.agg #[.slice A L.length c], .string s] w fun e w' => e = .returned (.int .i64 (findT L s)) ∧ Below w.heap.size w w' := by
  obtain ⟨R0, hR0⟩ : ∃ R0 : World, R0 = w.alloc (.cells #[.slice A L.length c] 24) := ⟨_, rfl⟩
  have hu : UAt w R0 A c L := hR0 ▸ UAt.of ha
  have y0 := hu.cell _ (Below.refl _ _)
  have KF : Hid (Calls Try.prog 54 #[.agg #[.slice A L.length c], .string s] R0 fun e w' => e = .returned (.int .i64 (findT L s)) ∧ Hid (Below w.heap.size w w')) := (lkFind0_any L A c s R0 (hu.rowAt (Below.refl _ _)) hcnt).mono fun e w' hh => ⟨hh.1, hu.out hh.2⟩
  have HR0 := Lib.hid hR0
  rw [hR0] at y0
  clear ha hu hR0 hcnt
  go_enter Try.func20, Try.ntmps20
  go_wp2_with fail
  rw [← HR0.out]
  refine KF.out.mono ?_
  rintro e1 w1 ⟨rfl, hb1⟩
  go_wp2_with fail
  go_ret
  exact ⟨rfl, hb1.out⟩
set_option maxHeartbeats 1000000 in
theorem Chain_any (L : List DT) (A : Option Addr) (c : Nat) (d0 : Int) (w : World) (ha : DsR w w.heap.size A L) (hfit : Fit L) :
    Calls Try.prog 17 #[.agg #[.slice A L.length c], .int .i64 d0] w (ISays w (chainT L d0)) := by
  obtain ⟨R0, hR0⟩ : ∃ R0 : World, R0 = w.alloc (.cells #[.slice A L.length c] 24) := ⟨_, rfl⟩
  have hu : UAt w R0 A c L := hR0 ▸ UAt.of ha
  have y0 := hu.cell _ (Below.refl _ _)
  have HU := Lib.hid hu
  have KO : Hid (Calls Try.prog 47 #[.agg #[.slice A L.length c]] R0 fun e w' => ∃ p, e = .returned (.pointer (some ⟨p, 0, none⟩)) ∧ Hid (XAt L A c p R0.heap.size w' ⟨none, none⟩) ∧ Hid (Below R0.heap.size R0 w')) := of_any L A c R0 (hu.rowAt (Below.refl _ _))
  have HX := Lib.hid (fun (p : Nat) (W : World) (hx : XAt L A c p R0.heap.size W ⟨none, none⟩) => lkChain_any L A c p R0.heap.size ⟨none, none⟩ d0 W hx hfit)
  have HR0 := Lib.hid hR0
  rw [hR0] at y0
  clear ha hu hR0 hfit
  go_enter Try.func17, Try.ntmps17
  go_wp2_with fail
  rw [← HR0.out]
  refine KO.out.mono ?_
  rintro e1 w1 ⟨p, rfl, hx1, hb1⟩
  have hle : w.heap.size ≤ w1.heap.size := (HU.out.out hb1.out).size
  go_wp2_with fail
  refine (HX.out p w1 hx1.out).mono ?_
  rintro e2 w2 ⟨A2, c2, I2, rfl, hr2, -, -, ht2⟩
  go_wp2_with fail
  go_ret
  have hb2 : Below R0.heap.size R0 w2 := hb1.out.trans (ht2.out.toBelow hx1.out hb1.out.size)
  exact ⟨A2, c2, rfl, ⟨ownsRow_lower hle hr2.out.1, hr2.out.2⟩, HU.out.out hb2⟩
set_option maxHeartbeats 1000000 in
theorem Faces_any (L : List DT) (A : Option Addr) (c : Nat) (d0 : Int) (w : World) (ha : DsR w w.heap.size A L) (hfit : Fit L) :
    Calls Try.prog 18 #[.agg #[.slice A L.length c], .int .i64 d0] w (ISays w (facesT L d0)) := by
  obtain ⟨R0, hR0⟩ : ∃ R0 : World, R0 = w.alloc (.cells #[.slice A L.length c] 24) := ⟨_, rfl⟩
  have hu : UAt w R0 A c L := hR0 ▸ UAt.of ha
  have y0 := hu.cell _ (Below.refl _ _)
  have HU := Lib.hid hu
  have KO : Hid (Calls Try.prog 47 #[.agg #[.slice A L.length c]] R0 fun e w' => ∃ p, e = .returned (.pointer (some ⟨p, 0, none⟩)) ∧ Hid (XAt L A c p R0.heap.size w' ⟨none, none⟩) ∧ Hid (Below R0.heap.size R0 w')) := of_any L A c R0 (hu.rowAt (Below.refl _ _))
  have HX := Lib.hid (fun (p : Nat) (W : World) (hx : XAt L A c p R0.heap.size W ⟨none, none⟩) => lkFaces_any L A c p R0.heap.size ⟨none, none⟩ d0 W hx hfit)
  have HR0 := Lib.hid hR0
  rw [hR0] at y0
  clear ha hu hR0 hfit
  go_enter Try.func18, Try.ntmps18
  go_wp2_with fail
  rw [← HR0.out]
  refine KO.out.mono ?_
  rintro e1 w1 ⟨p, rfl, hx1, hb1⟩
  have hle : w.heap.size ≤ w1.heap.size := (HU.out.out hb1.out).size
  go_wp2_with fail
  refine (HX.out p w1 hx1.out).mono ?_
  rintro e2 w2 ⟨A2, c2, I2, rfl, hr2, -, -, ht2⟩
  go_wp2_with fail
  go_ret
  have hb2 : Below R0.heap.size R0 w2 := hb1.out.trans (ht2.out.toBelow hx1.out hb1.out.size)
  exact ⟨A2, c2, rfl, ⟨ownsRow_lower hle hr2.out.1, hr2.out.2⟩, HU.out.out hb2⟩
set_option maxHeartbeats 1000000 in
theorem Is_any (L : List DT) (A : Option Addr) (c : Nat) (name what : ByteArray) (w : World) (ha : DsR w w.heap.size A L) (hfit : Fit L) :
    Calls Try.prog 25 #[.agg #[.slice A L.length c], .string name, .string what] w fun e w' => e = .returned (.bool (isT L name what)) ∧ Below w.heap.size w w' := by
  obtain ⟨R0, hR0⟩ : ∃ R0 : World, R0 = w.alloc (.cells #[.slice A L.length c] 24) := ⟨_, rfl⟩
  have hu : UAt w R0 A c L := hR0 ▸ UAt.of ha
  have y0 := hu.cell _ (Below.refl _ _)
  have HU := Lib.hid hu
  have KO : Hid (Calls Try.prog 47 #[.agg #[.slice A L.length c]] R0 fun e w' => ∃ p, e = .returned (.pointer (some ⟨p, 0, none⟩)) ∧ Hid (XAt L A c p R0.heap.size w' ⟨none, none⟩) ∧ Hid (Below R0.heap.size R0 w')) := of_any L A c R0 (hu.rowAt (Below.refl _ _))
  have HX := Lib.hid (fun (p : Nat) (W : World) (hx : XAt L A c p R0.heap.size W ⟨none, none⟩) => lkIs_any L A c p R0.heap.size ⟨none, none⟩ name what W hx hfit)
  have HR0 := Lib.hid hR0
  rw [hR0] at y0
  clear ha hu hR0 hfit
  go_enter Try.func25, Try.ntmps25
  go_wp2_with fail
  rw [← HR0.out]
  refine KO.out.mono ?_
  rintro e1 w1 ⟨p, rfl, hx1, hb1⟩
  have hle : w.heap.size ≤ w1.heap.size := (HU.out.out hb1.out).size
  go_wp2_with fail
  refine (HX.out p w1 hx1.out).mono ?_
  rintro e2 w2 ⟨I2, rfl, -, ht2⟩
  go_wp2_with fail
  go_ret
  have hb2 : Below R0.heap.size R0 w2 := hb1.out.trans (ht2.out.toBelow hx1.out hb1.out.size)
  exact ⟨rfl, HU.out.out hb2⟩
set_option maxHeartbeats 1000000 in
theorem Method_any (L : List DT) (A : Option Addr) (c : Nat) (d0 : Int) (s : ByteArray) (w : World) (ha : DsR w w.heap.size A L) (hfit : FitA L) (hd0 : I64 d0) :
    Calls Try.prog 15 #[.agg #[.slice A L.length c], .int .i64 d0, .string s] w (MSays w (methodT L d0 s)) := by
  obtain ⟨R0, hR0⟩ : ∃ R0 : World, R0 = (w.alloc (.cells #[.slice A L.length c] 24)).alloc (.cells #[.int .i64 0, .int .i64 0] 29) := ⟨_, rfl⟩
  have hu : UAt w R0 A c L := hR0 ▸ (UAt.of ha).alloc _
  have hg0 : R0.heap[w.heap.size + 1]? = some (.cells #[.int .i64 0, .int .i64 0] 29 (0, 0)) := by
    have := heap_alloc_new (w.alloc (.cells #[.slice A L.length c] 24)) (.cells #[.int .i64 0, .int .i64 0] 29)
    rw [hR0]
    simpa using this
  have HG := Lib.hid hg0
  have y0 := hu.cell _ (Below.refl _ _)
  have HU := Lib.hid hu
  have KO : Hid (Calls Try.prog 47 #[.agg #[.slice A L.length c]] R0 fun e w' => ∃ p, e = .returned (.pointer (some ⟨p, 0, none⟩)) ∧ Hid (XAt L A c p R0.heap.size w' ⟨none, none⟩) ∧ Hid (Below R0.heap.size R0 w')) := of_any L A c R0 (hu.rowAt (Below.refl _ _))
  have HX := Lib.hid (fun (p : Nat) (W : World) (hx : XAt L A c p R0.heap.size W ⟨none, none⟩) => lkMethod_any L A c p R0.heap.size ⟨none, none⟩ d0 s W hx hfit hd0)
  have HR0 := Lib.hid hR0
  rw [hR0] at y0
  clear ha hu hR0 hfit hg0
  unfold MSays
  go_enter Try.func15, Try.ntmps15
  go_wp2_with fail
  rw [← HR0.out]
  refine KO.out.mono ?_
  rintro e1 w1 ⟨p, rfl, hx1, hb1⟩
  have hle : w.heap.size ≤ w1.heap.size := (HU.out.out hb1.out).size
  go_wp2_with fail
  refine (HX.out p w1 hx1.out).mono ?_
  rintro e2 w2 ⟨I2, rfl, -, ht2⟩
  have hb2 : Below R0.heap.size R0 w2 := hb1.out.trans (ht2.out.toBelow hx1.out hb1.out.size)
  have hw6 := blk_cells HG.out hb2
  have g0 : w2.cell? ⟨w.heap.size + 1, 0, none⟩ = some (.int .i64 0) := by rw [cell_of_row _ _ 0 _ _ _ hw6]; rfl
  have g1 : w2.cell? ⟨w.heap.size + 1, 1, none⟩ = some (.int .i64 0) := by rw [cell_of_row _ _ 1 _ _ _ hw6]; rfl
  have f0 : w2.frozen? ⟨w.heap.size + 1, 0, none⟩ = false := frozen_of_row _ _ 0 _ _ hw6
  have f1 : w2.frozen? ⟨w.heap.size + 1, 1, none⟩ = false := frozen_of_row _ _ 1 _ _ hw6
  have HW6 := Lib.hid hw6
  have HO : ∀ a b : Int, Below w.heap.size w ((w2.setCell ⟨w.heap.size + 1, 0, none⟩ (.int .i64 a)).setCell ⟨w.heap.size + 1, 1, none⟩ (.int .i64 b)) := fun a b => ((HU.out.out hb2).setCell (p := ⟨w.heap.size + 1, 0, none⟩) (by show w.heap.size ≤ w.heap.size + 1; omega) (.int .i64 a)).setCell (p := ⟨w.heap.size + 1, 1, none⟩) (by show w.heap.size ≤ w.heap.size + 1; omega) (.int .i64 b)
  have HO2 := Lib.hid HO
  clear hw6 hb2 HO ht2 hx1 hb1 y0
  obtain ⟨mr, hm⟩ : ∃ r, r = methodT L d0 s := ⟨_, rfl⟩
  rw [← hm]
  have HM := Lib.hid hm
  clear hm HX
  cases mr with
  | none =>
    unfold whereV
    go_wp2_with fail
    exact ret_where (w3 := w2) (g := w.heap.size + 1) (a := 0) (b := 0) (ev := false) rfl HW6.out rfl rfl rfl ⟨by rw [← HM.out]; rfl, HO2.out _ _⟩
  | some ab =>
    obtain ⟨a, b⟩ := ab
    unfold whereV
    go_wp2_with fail
    exact ret_where (w3 := w2) (g := w.heap.size + 1) (a := a) (b := b) (ev := true) rfl HW6.out rfl rfl rfl ⟨by rw [← HM.out]; rfl, HO2.out _ _⟩
set_option maxHeartbeats 1000000 in
theorem Fields_any (L : List DT) (A : Option Addr) (c : Nat) (d0 : Int) (w : World) (ha : DsR w w.heap.size A L) (hfit : FitA L) (hd0 : I64 d0) :
    Calls Try.prog 19 #[.agg #[.slice A L.length c], .int .i64 d0] w (VSays w (fieldsT L d0)) := by
  obtain ⟨R0, hR0⟩ : ∃ R0 : World, R0 = w.alloc (.cells #[.slice A L.length c] 24) := ⟨_, rfl⟩
  have hu : UAt w R0 A c L := hR0 ▸ UAt.of ha
  have y0 := hu.cell _ (Below.refl _ _)
  have HU := Lib.hid hu
  have KO : Hid (Calls Try.prog 47 #[.agg #[.slice A L.length c]] R0 fun e w' => ∃ p, e = .returned (.pointer (some ⟨p, 0, none⟩)) ∧ Hid (XAt L A c p R0.heap.size w' ⟨none, none⟩) ∧ Hid (Below R0.heap.size R0 w')) := of_any L A c R0 (hu.rowAt (Below.refl _ _))
  have HX := Lib.hid (fun (p : Nat) (W : World) (hx : XAt L A c p R0.heap.size W ⟨none, none⟩) => lkFields_any L A c p R0.heap.size ⟨none, none⟩ d0 W hx hfit hd0)
  have HR0 := Lib.hid hR0
  rw [hR0] at y0
  clear ha hu hR0 hfit
  go_enter Try.func19, Try.ntmps19
  go_wp2_with fail
  rw [← HR0.out]
  refine KO.out.mono ?_
  rintro e1 w1 ⟨p, rfl, hx1, hb1⟩
  have hle : w.heap.size ≤ w1.heap.size := (HU.out.out hb1.out).size
  go_wp2_with fail
  refine (HX.out p w1 hx1.out).mono ?_
  rintro e2 w2 ⟨A2, c2, I2, rfl, hr2, -, -, ht2⟩
  go_wp2_with fail
  go_ret
  have hb2 : Below R0.heap.size R0 w2 := hb1.out.trans (ht2.out.toBelow hx1.out hb1.out.size)
  exact ⟨A2, c2, rfl, hr2.out.lower hle, HU.out.out hb2⟩
end Go.Proofs.Ytkpieolmepngjaa
