/-
  TypingFits, the walk (begun).
-/
import Derived.Test.YtmbddofcildibaaK5
import Derived.Test.YtmbddofcildibaaK9
namespace Go.Proofs.Ytmbddofcildibaa
open Go Go.RowKit
set_option linter.unusedVariables false
set_option linter.unusedSimpArgs false

/-- the law's three boxes. -/
structure FAtt (w W : World) (A : Option Addr) (c : Nat) (L : List DT) (ty fr : YT) : Prop where
  row : DsR W w.heap.size A L
  u : W.heap[w.heap.size]? = some (.cells #[.slice A L.length c] 24 (0, 0))
  t : W.heap[w.heap.size + 1]? = some (.cells (ycells ty) 50 (0, 0))
  f : W.heap[w.heap.size + 1 + 1]? = some (.cells (ycells fr) 50 (0, 0))
  below : Below w.heap.size w W
theorem FAtt.size {w W : World} {A : Option Addr} {c : Nat} {L : List DT} {ty fr : YT} (h : FAtt w W A c L ty fr) : w.heap.size + 1 + 1 < W.heap.size := (Array.getElem?_eq_some_iff.1 h.f).1
theorem FAtt.step {w W W' : World} {A : Option Addr} {c : Nat} {L : List DT} {ty fr : YT} (h : FAtt w W A c L ty fr) (hb : Below W.heap.size W W') : FAtt w W' A c L ty fr := by
  have hs := h.size
  exact ⟨DsR.mono (Nat.le_refl _) (fun g hg => hb.block g (by omega)) h.row, (hb.block _ (by omega)).trans h.u, (hb.block _ (by omega)).trans h.t, (hb.block _ (by omega)).trans h.f, h.below.trans (hb.mono (by omega))⟩
theorem FAtt.rowAt {w W : World} {A : Option Addr} {c : Nat} {L : List DT} {ty fr : YT} (h : FAtt w W A c L ty fr) : DsR W W.heap.size A L := DsR.mono (by have := h.size; omega) (fun _ _ => rfl) h.row
set_option maxHeartbeats 8000000 in
set_option maxRecDepth 100000 in
theorem fits_walk (L : List DT) (A : Option Addr) (c : Nat) (ty fr : YT) (i0 j0 k0 : Int) (w : World) (ha : DsR w w.heap.size A L) (hG : ∀ W, DsR W W.heap.size A L → Calls Try.prog 12 #[.agg #[.slice A L.length c], .int .i64 200] W (GreatF L W))
    (hA : ∀ W, Calls Try.prog 34 #[] W fun e w' => e = .returned (.bool true) ∧ Below W.heap.size W w') :
    Calls Try.prog 8 #[.agg #[.slice A L.length c], .agg (ycells ty), .agg (ycells fr), .int .i64 i0, .int .i64 j0, .int .i64 k0] w fun e w' => e = .returned (.bool true) ∧ Below w.heap.size w w' := by
  obtain ⟨R, hR⟩ : ∃ R : World, R = ((w.alloc (.cells #[.slice A L.length c] 24)).alloc (.cells (ycells ty) 50)).alloc (.cells (ycells fr) 50) := ⟨_, rfl⟩
  have hf : FAtt w R A c L ty fr := by
    rw [hR]
    refine ⟨DsR.mono (Nat.le_refl _) (fun g hg => (far3 w _ _ _).block g hg) ha, new3 _ _ _ _ _ _ _, new32 _ _ _ _ _ _ _, ?_, far3 _ _ _ _⟩
    have := heap_alloc_new ((w.alloc (.cells #[.slice A L.length c] 24)).alloc (.cells (ycells ty) 50)) (.cells (ycells fr) 50)
    simpa using this
  have HF := Lib.hid hf
  have KG : Hid (∀ W, Hid (FAtt w W A c L ty fr) → Calls Try.prog 12 #[.agg #[.slice A L.length c], .int .i64 200] W fun e w' => (∃ r : Bool, e = .returned (.bool r) ∧ Hid (r = false → Fit L)) ∧ Hid (FAtt w w' A c L ty fr)) := fun W hq => (hG W hq.out.rowAt).mono fun e w' hh => ⟨hh.1, hq.out.step hh.2⟩
  have KA : Hid (∀ W, Hid (FAtt w W A c L ty fr) → Calls Try.prog 34 #[] W fun e w' => e = .returned (.bool true) ∧ Hid (FAtt w w' A c L ty fr)) := fun W hq => (hA W).mono fun e w' hh => ⟨hh.1, hq.out.step hh.2⟩
  have y0 := (cell_of_row _ _ 0 _ _ _ hf.u).trans rfl
  have HR := Lib.hid hR
  obtain ⟨tk, tl, th, tn⟩ := ty
  obtain ⟨fk, fl, fh, fn⟩ := fr
  unfold ycells at HR
  simp only at HR
  rw [hR] at y0
  have KF1 : Hid (Fit L → ∀ W, Hid (FAtt w W A c L ⟨tk, tl, th, tn⟩ ⟨fk, fl, fh, fn⟩) → ∀ a b : YT, Calls Try.prog 35 #[.agg #[.slice A L.length c], .agg (ycells a), .agg (ycells b)] W fun e w' => e = .returned (.bool (fitsT L a b)) ∧ Hid (FAtt w w' A c L ⟨tk, tl, th, tn⟩ ⟨fk, fl, fh, fn⟩) ∧ Hid (Below W.heap.size W w')) := fun hfit W hq a b => (TyFits_any L A c a b W hq.out.rowAt hfit).mono fun e w' hh => ⟨hh.1, hq.out.step hh.2, hh.2⟩
  have KF2 : Hid (Fit L → ∀ W, Hid (FAtt w W A c L ⟨tk, tl, th, tn⟩ ⟨fk, fl, fh, fn⟩) → Calls Try.prog 36 #[.agg #[.slice A L.length c], .agg #[.int .i64 tk, .int .i64 tl, .int .i64 th, .string tn], .agg #[.int .i64 fk, .int .i64 fl, .int .i64 fh, .string fn]] W fun e w' => e = .returned (.bool (fitsT L ⟨tk, tl, th, tn⟩ ⟨fk, fl, fh, fn⟩)) ∧ Hid (FAtt w w' A c L ⟨tk, tl, th, tn⟩ ⟨fk, fl, fh, fn⟩)) := fun hfit W hq => (refFits_any L A c ⟨tk, tl, th, tn⟩ ⟨fk, fl, fh, fn⟩ W hq.out.rowAt hfit).mono fun e w' hh => ⟨hh.1, hq.out.step hh.2⟩
  clear ha hG hA hf hR
  go_enter Try.func8, Try.ntmps8
  go_wp2_with fail
  rw [← HR.out]
  refine (KG.out _ HF).mono ?_
  rintro e1 w1 ⟨⟨great, rfl, hgr⟩, H1⟩
  clear y0 HF KG
  have tN := fun (W : World) (h : FAtt w W A c L ⟨tk, tl, th, tn⟩ ⟨fk, fl, fh, fn⟩) => (cell_of_row _ _ 3 _ _ _ h.t).trans rfl
  have CT : Hid (∀ W, Hid (FAtt w W A c L ⟨tk, tl, th, tn⟩ ⟨fk, fl, fh, fn⟩) → (W.cell? ⟨w.heap.size + 1, 0, none⟩ = some (.int .i64 tk) ∧ W.cell? ⟨w.heap.size + 1, 1, none⟩ = some (.int .i64 tl) ∧ W.cell? ⟨w.heap.size + 1, 2, none⟩ = some (.int .i64 th) ∧ W.cell? ⟨w.heap.size + 1, 3, none⟩ = some (.string tn)) ∧ (W.cell? ⟨w.heap.size + 1 + 1, 0, none⟩ = some (.int .i64 fk) ∧ W.cell? ⟨w.heap.size + 1 + 1, 1, none⟩ = some (.int .i64 fl) ∧ W.cell? ⟨w.heap.size + 1 + 1, 2, none⟩ = some (.int .i64 fh) ∧ W.cell? ⟨w.heap.size + 1 + 1, 3, none⟩ = some (.string fn)) ∧ W.cell? ⟨w.heap.size, 0, none⟩ = some (.slice A L.length c)) := fun W h => ⟨(four h.out.t).1, (four h.out.f).1, (cell_of_row _ _ 0 _ _ _ h.out.u).trans rfl⟩
  clear tN
  obtain ⟨⟨t0, t1, t2, t3⟩, ⟨f0, f1, f2, f3⟩, u0⟩ := CT.out _ H1
  cases great
  case true =>
    go_wp2_with fail
    refine (KA.out _ H1).mono ?_
    rintro e2 w2 ⟨rfl, H2⟩
    go_wp2_with fail
    go_ret
    exact ⟨rfl, H2.out.below⟩
  by_cases ht : (60 : Int) < (tn.size : Int)
  · go_wp2_with fail
    refine (KA.out _ H1).mono ?_
    rintro e2 w2 ⟨rfl, H2⟩
    go_wp2_with fail
    go_ret
    exact ⟨rfl, H2.out.below⟩
  by_cases hf : (60 : Int) < (fn.size : Int)
  · go_wp2_with fail
    refine (KA.out _ H1).mono ?_
    rintro e2 w2 ⟨rfl, H2⟩
    go_wp2_with fail
    go_ret
    exact ⟨rfl, H2.out.below⟩
  have HFIT : Hid (Fit L) := hgr.out rfl
  clear hgr
  obtain ⟨q, hq⟩ : ∃ q, q = fitsT L ⟨tk, tl, th, tn⟩ ⟨fk, fl, fh, fn⟩ := ⟨_, rfl⟩
  have KP : Hid (∀ W, Hid (FAtt w W A c L ⟨tk, tl, th, tn⟩ ⟨fk, fl, fh, fn⟩) → Calls Try.prog 35 #[.agg #[.slice A L.length c], .agg #[.int .i64 tk, .int .i64 tl, .int .i64 th, .string tn], .agg #[.int .i64 fk, .int .i64 fl, .int .i64 fh, .string fn]] W fun e w' => e = .returned (.bool q) ∧ Hid (FAtt w w' A c L ⟨tk, tl, th, tn⟩ ⟨fk, fl, fh, fn⟩)) := fun W h => hq ▸ (KF1.out HFIT.out W h ⟨tk, tl, th, tn⟩ ⟨fk, fl, fh, fn⟩).mono fun e w' hh => ⟨hh.1, hh.2.1⟩
  have KR : Hid (∀ W, Hid (FAtt w W A c L ⟨tk, tl, th, tn⟩ ⟨fk, fl, fh, fn⟩) → Calls Try.prog 36 #[.agg #[.slice A L.length c], .agg #[.int .i64 tk, .int .i64 tl, .int .i64 th, .string tn], .agg #[.int .i64 fk, .int .i64 fl, .int .i64 fh, .string fn]] W fun e w' => e = .returned (.bool q) ∧ Hid (FAtt w w' A c L ⟨tk, tl, th, tn⟩ ⟨fk, fl, fh, fn⟩)) := fun W h => hq ▸ KF2.out HFIT.out W h
  have HD : Hid (FAtt w w1.drew A c L ⟨tk, tl, th, tn⟩ ⟨fk, fl, fh, fn⟩) := H1.out.step (Below.refl _ _).drew
  have CT2 : Hid (∀ W, Hid (FAtt w W A c L ⟨tk, tl, th, tn⟩ ⟨fk, fl, fh, fn⟩) → W.cell? ⟨w.heap.size + 1, 0, none⟩ = some (.int .i64 tk) ∧ W.cell? ⟨w.heap.size + 1, 1, none⟩ = some (.int .i64 tl) ∧ W.cell? ⟨w.heap.size + 1, 2, none⟩ = some (.int .i64 th) ∧ W.cell? ⟨w.heap.size + 1, 3, none⟩ = some (.string tn) ∧ W.cell? ⟨w.heap.size + 1 + 1, 0, none⟩ = some (.int .i64 fk) ∧ W.cell? ⟨w.heap.size + 1 + 1, 1, none⟩ = some (.int .i64 fl) ∧ W.cell? ⟨w.heap.size + 1 + 1, 2, none⟩ = some (.int .i64 fh) ∧ W.cell? ⟨w.heap.size + 1 + 1, 3, none⟩ = some (.string fn) ∧ W.cell? ⟨w.heap.size, 0, none⟩ = some (.slice A L.length c)) := fun W h => by
    obtain ⟨⟨a0, a1, a2, a3⟩, ⟨b0, b1, b2, b3⟩, c0⟩ := CT.out W h
    exact ⟨a0, a1, a2, a3, b0, b1, b2, b3, c0⟩
  clear hq
  go_wp2_with fail
  go_region_held3 (fun W => W.cell? ⟨w.heap.size + 1, 0, none⟩ = some (.int .i64 tk) ∧ W.cell? ⟨w.heap.size + 1, 1, none⟩ = some (.int .i64 tl) ∧ W.cell? ⟨w.heap.size + 1, 2, none⟩ = some (.int .i64 th) ∧ W.cell? ⟨w.heap.size + 1, 3, none⟩ = some (.string tn) ∧ W.cell? ⟨w.heap.size + 1 + 1, 0, none⟩ = some (.int .i64 fk) ∧ W.cell? ⟨w.heap.size + 1 + 1, 1, none⟩ = some (.int .i64 fl) ∧ W.cell? ⟨w.heap.size + 1 + 1, 2, none⟩ = some (.int .i64 fh) ∧ W.cell? ⟨w.heap.size + 1 + 1, 3, none⟩ = some (.string fn) ∧ W.cell? ⟨w.heap.size, 0, none⟩ = some (.slice A L.length c))
    (first | with_reducible exact CT2.out w1.drew HD | with_reducible exact CT2.out w3 H3 | with_reducible exact CT2.out w2 H2)
    (first
      | (go_at_call 35; with_reducible refine (KP.out w1.drew HD).mono ?_; rintro e2 w2 ⟨rfl, H2⟩)
      | (go_at_call 36; with_reducible refine (KR.out w2 H2).mono ?_; rintro e3 w3 ⟨rfl, H3⟩))
  clear t0 t1 t2 t3 f0 f1 f2 f3 u0
  obtain ⟨⟨t0, t1, t2, t3⟩, ⟨f0, f1, f2, f3⟩, u0⟩ := CT.out _ H3
  have hqq : (q != q) = false := by cases q <;> rfl
  by_cases hn : L.length = 0
  · have hnb : ((L.length : Int) == 0) = true := by rw [hn]; rfl
    go_wp2_with fail
    refine (KA.out _ H3).mono ?_
    rintro e4 w4 ⟨rfl, H4⟩
    go_wp2_with fail
    go_ret
    exact ⟨rfl, H4.out.below⟩
  have hnb : ((L.length : Int) == 0) = false := eq_no (by omega)
  have hpos : 0 < L.length := by omega
  obtain ⟨q0, o, cs0, hA0, -⟩ := H3.out.row 0 hpos
  subst hA0
  have DF : Hid (∀ W, Hid (FAtt w W (some ⟨q0, o, none⟩) c L ⟨tk, tl, th, tn⟩ ⟨fk, fl, fh, fn⟩) → ∀ (k : Nat) (hk : k < L.length), W.cell? ⟨q0, o + k * 11 + 1, none⟩ = some (.string L[k].name)) := fun W h k hk => by
    obtain ⟨g, o', cs, hA, -, -, hcs, hd⟩ := h.out.row k hk
    simp only [Option.some.injEq, Addr.mk.injEq, and_true] at hA
    obtain ⟨rfl, rfl⟩ := hA
    obtain ⟨A1, c1, A2, c2, A3, c3, A4, c4, rfl, -⟩ := hd
    exact hcs 1 _ rfl
  have hL := HFIT.out.len
  have l1 := lowT_lt i0 hpos
  have l2 := lowT_lt j0 hpos
  have l3 := lowT_lt k0 hpos
  have K1 := Lib.hid (low_at i0 L.length hpos (by omega))
  have K2 := Lib.hid (low_at j0 L.length hpos (by omega))
  have K3 := Lib.hid (low_at k0 L.length hpos (by omega))
  obtain ⟨r1, h1⟩ : ∃ r, r = lowT i0 L.length := ⟨_, rfl⟩
  obtain ⟨r2, h2⟩ : ∃ r, r = lowT j0 L.length := ⟨_, rfl⟩
  obtain ⟨r3, h3⟩ : ∃ r, r = lowT k0 L.length := ⟨_, rfl⟩
  rw [← h1] at l1 K1
  rw [← h2] at l2 K2
  rw [← h3] at l3 K3
  clear h1 h2 h3
  obtain ⟨an, hna⟩ : ∃ x, x = L[r1].name := ⟨_, rfl⟩
  obtain ⟨bn, hnb2⟩ : ∃ x, x = L[r2].name := ⟨_, rfl⟩
  obtain ⟨cn, hnc⟩ : ∃ x, x = L[r3].name := ⟨_, rfl⟩
  have SC : Hid (∀ W, Hid (FAtt w W (some ⟨q0, o, none⟩) c L ⟨tk, tl, th, tn⟩ ⟨fk, fl, fh, fn⟩) → W.cell? ⟨w.heap.size, 0, none⟩ = some (.slice (some ⟨q0, o, none⟩) L.length c) ∧ W.cell? ⟨q0, o + r1 * 11 + 1, none⟩ = some (.string an) ∧ W.cell? ⟨q0, o + r2 * 11 + 1, none⟩ = some (.string bn) ∧ W.cell? ⟨q0, o + r3 * 11 + 1, none⟩ = some (.string cn)) := fun W h => ⟨(CT.out W h).2.2, by rw [hna]; exact DF.out W h r1 l1, by rw [hnb2]; exact DF.out W h r2 l2, by rw [hnc]; exact DF.out W h r3 l3⟩
  have j1 : (r1 : Int) < (L.length : Int) := by omega
  have j2 : (r2 : Int) < (L.length : Int) := by omega
  have j3 : (r3 : Int) < (L.length : Int) := by omega
  have i1 : (0 : Int) ≤ (r1 : Int) := by omega
  have i2 : (0 : Int) ≤ (r2 : Int) := by omega
  have i3 : (0 : Int) ≤ (r3 : Int) := by omega
  have HDR : Hid (∀ W, Hid (FAtt w W (some ⟨q0, o, none⟩) c L ⟨tk, tl, th, tn⟩ ⟨fk, fl, fh, fn⟩) → Hid (FAtt w W.drew (some ⟨q0, o, none⟩) c L ⟨tk, tl, th, tn⟩ ⟨fk, fl, fh, fn⟩)) := fun W h => h.out.step (Below.refl _ _).drew
  have HAL : Hid (∀ W, Hid (FAtt w W (some ⟨q0, o, none⟩) c L ⟨tk, tl, th, tn⟩ ⟨fk, fl, fh, fn⟩) → ∀ x, Hid (FAtt w (W.alloc x) (some ⟨q0, o, none⟩) c L ⟨tk, tl, th, tn⟩ ⟨fk, fl, fh, fn⟩)) := fun W h x => h.out.step (far1 _ _)
  have HPU : Hid (∀ W, Hid (FAtt w W (some ⟨q0, o, none⟩) c L ⟨tk, tl, th, tn⟩ ⟨fk, fl, fh, fn⟩) → ∀ x a0 a1 a2 a3, Hid (FAtt w (put4 (W.alloc x) W.heap.size a0 a1 a2 a3) (some ⟨q0, o, none⟩) c L ⟨tk, tl, th, tn⟩ ⟨fk, fl, fh, fn⟩)) := fun W h x a0 a1 a2 a3 => h.out.step (put4_below (far1 _ _) (Nat.le_refl _) _ _ _ _)
  clear hna hnb2 hnc hpos hL l1 l2 l3 t0 t1 t2 t3 f0 f1 f2 f3 u0
  go_wp2_with fail
  obtain ⟨u0, n1, n2, n3⟩ := SC.out _ H3
  refine (fun (HK : Hid ?PK1) => ?gK11) ?gK12
  case gK11 =>
    go_region_held3 (fun w' => w'.cell? ⟨w.heap.size, 0, none⟩ = some (.slice (some ⟨q0, o, none⟩) L.length c) ∧ w'.cell? ⟨q0, o + r1 * 11 + 1, none⟩ = some (.string an) ∧ w'.cell? ⟨q0, o + r2 * 11 + 1, none⟩ = some (.string bn) ∧ w'.cell? ⟨q0, o + r3 * 11 + 1, none⟩ = some (.string cn))
      (first
        | with_reducible exact SC.out _ H3
        | with_reducible exact SC.out _ (HDR.out _ H3)
        | with_reducible exact SC.out _ (HAL.out _ H3 _)
        | with_reducible exact SC.out _ (HDR.out _ (HAL.out _ H3 _)))
      (first
        | (go_at_call_of 14 (Value.int .i64 i0); refine (K1.out _).mono ?_; rintro e4 w4 ⟨rfl, rfl⟩))
    all_goals with_reducible exact HK.out
  case gK12 =>
    unfold Hid
    clear u0 n1 n2 n3
    have H5 := HDR.out _ (HAL.out _ H3 (.cells #[.int .i64 5, .int .i64 0, .int .i64 0, .string an] 50))
    obtain ⟨w5, hw5⟩ : ∃ X, X = (w3.alloc (.cells #[.int .i64 5, .int .i64 0, .int .i64 0, .string an] 50)).drew := ⟨_, rfl⟩
    have Cga : Hid (w5.heap[w3.heap.size]? = some (.cells #[.int .i64 5, .int .i64 0, .int .i64 0, .string an] 50 (0, 0))) := by
      unfold Hid
      rw [hw5]
      exact new1 w3 _ _
    have Bga : Hid (Below w3.heap.size w3 w5) := by
      unfold Hid
      rw [hw5]
      exact (far1 _ _).drew
    rw [← hw5] at H5 ⊢
    clear hw5
    obtain ⟨ga, hga⟩ : ∃ g, g = w3.heap.size := ⟨_, rfl⟩
    rw [← hga] at Cga ⊢; clear hga
    obtain ⟨u0, n1, n2, n3⟩ := SC.out _ H5
    go_wp2_with fail
    refine (fun (HK : Hid ?PK2) => ?gK21) ?gK22
    case gK21 =>
      go_region_held3 (fun w' => w'.cell? ⟨w.heap.size, 0, none⟩ = some (.slice (some ⟨q0, o, none⟩) L.length c) ∧ w'.cell? ⟨q0, o + r1 * 11 + 1, none⟩ = some (.string an) ∧ w'.cell? ⟨q0, o + r2 * 11 + 1, none⟩ = some (.string bn) ∧ w'.cell? ⟨q0, o + r3 * 11 + 1, none⟩ = some (.string cn))
        (first
          | with_reducible exact SC.out _ H5
          | with_reducible exact SC.out _ (HDR.out _ H5)
          | with_reducible exact SC.out _ (HAL.out _ H5 _)
          | with_reducible exact SC.out _ (HDR.out _ (HAL.out _ H5 _)))
        (first
          | (go_at_call_of 14 (Value.int .i64 j0); refine (K2.out _).mono ?_; rintro e4 w4 ⟨rfl, rfl⟩))
      all_goals with_reducible exact HK.out
    case gK22 =>
      unfold Hid
      clear u0 n1 n2 n3
      have H6 := HDR.out _ (HAL.out _ H5 (.cells #[.int .i64 5, .int .i64 0, .int .i64 0, .string bn] 50))
      obtain ⟨w6, hw6⟩ : ∃ X, X = (w5.alloc (.cells #[.int .i64 5, .int .i64 0, .int .i64 0, .string bn] 50)).drew := ⟨_, rfl⟩
      have Cgb : Hid (w6.heap[w5.heap.size]? = some (.cells #[.int .i64 5, .int .i64 0, .int .i64 0, .string bn] 50 (0, 0))) := by
        unfold Hid
        rw [hw6]
        exact new1 w5 _ _
      have Bgb : Hid (Below w5.heap.size w5 w6) := by
        unfold Hid
        rw [hw6]
        exact (far1 _ _).drew
      rw [← hw6] at H6 ⊢
      clear hw6
      obtain ⟨gb, hgb⟩ : ∃ g, g = w5.heap.size := ⟨_, rfl⟩
      rw [← hgb] at Cgb ⊢; clear hgb
      obtain ⟨u0, n1, n2, n3⟩ := SC.out _ H6
      go_wp2_with fail
      refine (fun (HK : Hid ?PK3) => ?gK31) ?gK32
      case gK31 =>
        go_region_held3 (fun w' => w'.cell? ⟨w.heap.size, 0, none⟩ = some (.slice (some ⟨q0, o, none⟩) L.length c) ∧ w'.cell? ⟨q0, o + r1 * 11 + 1, none⟩ = some (.string an) ∧ w'.cell? ⟨q0, o + r2 * 11 + 1, none⟩ = some (.string bn) ∧ w'.cell? ⟨q0, o + r3 * 11 + 1, none⟩ = some (.string cn))
          (first
            | with_reducible exact SC.out _ H6
            | with_reducible exact SC.out _ (HDR.out _ H6)
            | with_reducible exact SC.out _ (HAL.out _ H6 _)
            | with_reducible exact SC.out _ (HDR.out _ (HAL.out _ H6 _)))
          (first
            | (go_at_call_of 14 (Value.int .i64 k0); refine (K3.out _).mono ?_; rintro e4 w4 ⟨rfl, rfl⟩))
        all_goals with_reducible exact HK.out
      case gK32 =>
        unfold Hid
        clear u0 n1 n2 n3
        have H7 := HDR.out _ (HAL.out _ H6 (.cells #[.int .i64 5, .int .i64 0, .int .i64 0, .string cn] 50))
        obtain ⟨w7, hw7⟩ : ∃ X, X = (w6.alloc (.cells #[.int .i64 5, .int .i64 0, .int .i64 0, .string cn] 50)).drew := ⟨_, rfl⟩
        have Cgc : Hid (w7.heap[w6.heap.size]? = some (.cells #[.int .i64 5, .int .i64 0, .int .i64 0, .string cn] 50 (0, 0))) := by
          unfold Hid
          rw [hw7]
          exact new1 w6 _ _
        have Bgc : Hid (Below w6.heap.size w6 w7) := by
          unfold Hid
          rw [hw7]
          exact (far1 _ _).drew
        rw [← hw7] at H7 ⊢
        clear hw7
        obtain ⟨gc, hgc⟩ : ∃ g, g = w6.heap.size := ⟨_, rfl⟩
        rw [← hgc] at Cgc ⊢; clear hgc
        obtain ⟨w8, hw8⟩ : ∃ X, X = (w7.alloc (.cells #[.int .i64 5, .int .i64 0, .int .i64 0, .string ⟨#[]⟩] 50)) := ⟨_, rfl⟩
        have CB : Hid (∀ W, Hid (Below w8.heap.size w8 W) → (W.heap[ga]? = some (.cells #[.int .i64 5, .int .i64 0, .int .i64 0, .string an] 50 (0, 0))) ∧ (W.heap[gb]? = some (.cells #[.int .i64 5, .int .i64 0, .int .i64 0, .string bn] 50 (0, 0))) ∧ (W.heap[gc]? = some (.cells #[.int .i64 5, .int .i64 0, .int .i64 0, .string cn] 50 (0, 0))) ∧ (W.heap[w7.heap.size]? = some (.cells #[.int .i64 5, .int .i64 0, .int .i64 0, .string ⟨#[]⟩] 50 (0, 0)))) := fun W h => by
          have b8 : Below w7.heap.size w7 w8 := by rw [hw8]; exact far1 _ _
          have c8 : w8.heap[w7.heap.size]? = some (.cells #[.int .i64 5, .int .i64 0, .int .i64 0, .string ⟨#[]⟩] 50 (0, 0)) := by rw [hw8]; exact new1 _ _ _
          have h7' : Below w7.heap.size w7 W := b8.trans (h.out.mono b8.size)
          have h7 := (h7'.block _ (Array.getElem?_eq_some_iff.1 Cgc.out).1).trans Cgc.out
          have h6 : Below w6.heap.size w6 W := Bgc.out.trans (h7'.mono Bgc.out.size)
          have h5 : Below w5.heap.size w5 W := Bgb.out.trans (h6.mono Bgb.out.size)
          exact ⟨(h5.block _ (Array.getElem?_eq_some_iff.1 Cga.out).1).trans Cga.out, (h6.block _ (Array.getElem?_eq_some_iff.1 Cgb.out).1).trans Cgb.out, h7, (h.out.block _ (Array.getElem?_eq_some_iff.1 c8).1).trans c8⟩
        have CC : Hid (∀ W, Hid (Below w8.heap.size w8 W) → Hid (FAtt w W (some ⟨q0, o, none⟩) c L ⟨tk, tl, th, tn⟩ ⟨fk, fl, fh, fn⟩) → (W.cell? ⟨ga, 0, none⟩ = some (.int .i64 5) ∧ W.cell? ⟨ga, 1, none⟩ = some (.int .i64 0) ∧ W.cell? ⟨ga, 2, none⟩ = some (.int .i64 0) ∧ W.cell? ⟨ga, 3, none⟩ = some (.string an)) ∧ (W.cell? ⟨gb, 0, none⟩ = some (.int .i64 5) ∧ W.cell? ⟨gb, 1, none⟩ = some (.int .i64 0) ∧ W.cell? ⟨gb, 2, none⟩ = some (.int .i64 0) ∧ W.cell? ⟨gb, 3, none⟩ = some (.string bn)) ∧ (W.cell? ⟨gc, 0, none⟩ = some (.int .i64 5) ∧ W.cell? ⟨gc, 1, none⟩ = some (.int .i64 0) ∧ W.cell? ⟨gc, 2, none⟩ = some (.int .i64 0) ∧ W.cell? ⟨gc, 3, none⟩ = some (.string cn)) ∧ (W.cell? ⟨w7.heap.size, 0, none⟩ = some (.int .i64 5) ∧ W.cell? ⟨w7.heap.size, 1, none⟩ = some (.int .i64 0) ∧ W.cell? ⟨w7.heap.size, 2, none⟩ = some (.int .i64 0) ∧ W.cell? ⟨w7.heap.size, 3, none⟩ = some (.string ⟨#[]⟩)) ∧ W.cell? ⟨w.heap.size, 0, none⟩ = some (.slice (some ⟨q0, o, none⟩) L.length c)) := fun W h hf => ⟨(four (CB.out W h).1).1, (four (CB.out W h).2.1).1, (four (CB.out W h).2.2.1).1, (four (CB.out W h).2.2.2).1, (CT.out W hf).2.2⟩
        have H8 := HAL.out _ H7 (.cells #[.int .i64 5, .int .i64 0, .int .i64 0, .string ⟨#[]⟩] 50)
        rw [← hw8] at H8
        have E8 : Hid (Below w8.heap.size w8 w8) := Below.refl _ _
        have KFF : Hid (∀ W, Hid (FAtt w W (some ⟨q0, o, none⟩) c L ⟨tk, tl, th, tn⟩ ⟨fk, fl, fh, fn⟩) → Hid (Below w8.heap.size w8 W) → ∀ (s t : ByteArray) (r : Bool), fitsT L (refY s) (refY t) = r → Calls Try.prog 35 #[.agg #[.slice (some ⟨q0, o, none⟩) L.length c], .agg #[.int .i64 5, .int .i64 0, .int .i64 0, .string s], .agg #[.int .i64 5, .int .i64 0, .int .i64 0, .string t]] W fun e w' => e = .returned (.bool r) ∧ Hid (FAtt w w' (some ⟨q0, o, none⟩) c L ⟨tk, tl, th, tn⟩ ⟨fk, fl, fh, fn⟩) ∧ Hid (Below w8.heap.size w8 w')) := fun W h hb s t r hr => (KF1.out HFIT.out W h (refY s) (refY t)).mono fun e w' hh => ⟨hr ▸ hh.1, hh.2.1, hb.out.trans (hh.2.2.out.mono hb.out.size)⟩
        obtain ⟨⟨a0, a1, a2, a3⟩, ⟨b0, b1, b2, b3⟩, ⟨c0, c1, c2, c3⟩, ⟨m0, m1, m2, m3⟩, x0⟩ := CC.out _ E8 H8
        have HW8 := Lib.hid hw8
        rw [hw8] at a0 a1 a2 a3 b0 b1 b2 b3 c0 c1 c2 c3 m0 m1 m2 m3 x0
        clear K1 K2 K3 i1 i2 i3 j1 j2 j3 hn hnb Cga Cgb Cgc hw8 KF1 KF2 KP KR
        by_cases e1 : an = ⟨#[]⟩
        · subst e1
          go_wp2_with fail
          rw [← HW8.out]
          refine (KA.out _ H8).mono ?_
          rintro e9 w9 ⟨rfl, H9⟩
          go_wp2_with fail
          go_ret
          exact ⟨rfl, H9.out.below⟩
        have e1b := empty_ne e1
        by_cases e2 : bn = ⟨#[]⟩
        · subst e2
          go_wp2_with fail
          rw [← HW8.out]
          refine (KA.out _ H8).mono ?_
          rintro e9 w9 ⟨rfl, H9⟩
          go_wp2_with fail
          go_ret
          exact ⟨rfl, H9.out.below⟩
        have e2b := empty_ne e2
        by_cases e3 : cn = ⟨#[]⟩
        · subst e3
          go_wp2_with fail
          rw [← HW8.out]
          refine (KA.out _ H8).mono ?_
          rintro e9 w9 ⟨rfl, H9⟩
          go_wp2_with fail
          go_ret
          exact ⟨rfl, H9.out.below⟩
        have e3b := empty_ne e3
        have FT : Hid (fitsT L (refY an) (refY bn) = true → fitsT L (refY bn) (refY cn) = true → fitsT L (refY an) (refY cn) = true) := fun p1 p2 => fits_trans L e2 e3 p1 p2
        clear e1 e2 e3
        go_wp2_with fail
        rw [← HW8.out]
        refine (KFF.out _ H8 E8 an an true (fits_self L an)).mono ?_
        rintro e9 w9 ⟨rfl, H9, E9⟩
        clear a0 a1 a2 a3 b0 b1 b2 b3 c0 c1 c2 c3 m0 m1 m2 m3 x0
        obtain ⟨⟨a0, a1, a2, a3⟩, ⟨b0, b1, b2, b3⟩, ⟨c0, c1, c2, c3⟩, ⟨m0, m1, m2, m3⟩, x0⟩ := CC.out _ E9 H9
        go_wp2_with fail
        refine (KFF.out _ H9 E9 an ⟨#[]⟩ true (fits_null L an)).mono ?_
        rintro e10 w10 ⟨rfl, H10, E10⟩
        clear a0 a1 a2 a3 b0 b1 b2 b3 c0 c1 c2 c3 m0 m1 m2 m3 x0
        obtain ⟨⟨a0, a1, a2, a3⟩, ⟨b0, b1, b2, b3⟩, ⟨c0, c1, c2, c3⟩, ⟨m0, m1, m2, m3⟩, x0⟩ := CC.out _ E10 H10
        go_wp2_with fail
        by_cases x1 : fitsT L (refY an) (refY bn) = true
        · refine (KFF.out _ H10 E10 an bn true x1).mono ?_
          rintro e11 w11 ⟨rfl, H11, E11⟩
          clear a0 a1 a2 a3 b0 b1 b2 b3 c0 c1 c2 c3 m0 m1 m2 m3 x0
          obtain ⟨⟨a0, a1, a2, a3⟩, ⟨b0, b1, b2, b3⟩, ⟨c0, c1, c2, c3⟩, ⟨m0, m1, m2, m3⟩, x0⟩ := CC.out _ E11 H11
          have X1 := Lib.hid x1
          clear x1
          go_wp2_with fail
          by_cases x2 : fitsT L (refY bn) (refY cn) = true
          · refine (KFF.out _ H11 E11 bn cn true x2).mono ?_
            rintro e12 w12 ⟨rfl, H12, E12⟩
            clear a0 a1 a2 a3 b0 b1 b2 b3 c0 c1 c2 c3 m0 m1 m2 m3 x0
            obtain ⟨⟨a0, a1, a2, a3⟩, ⟨b0, b1, b2, b3⟩, ⟨c0, c1, c2, c3⟩, ⟨m0, m1, m2, m3⟩, x0⟩ := CC.out _ E12 H12
            have X2 := Lib.hid x2
            clear x2
            go_wp2_with fail
            refine (KFF.out _ H12 E12 an cn true (FT.out X1.out X2.out)).mono ?_
            rintro e13 w13 ⟨rfl, H13, E13⟩
            clear a0 a1 a2 a3 b0 b1 b2 b3 c0 c1 c2 c3 m0 m1 m2 m3 x0
            go_wp2_with fail
            refine (KA.out _ H13).mono ?_
            rintro e14 w14 ⟨rfl, H14⟩
            go_wp2_with fail
            go_ret
            exact ⟨rfl, H14.out.below⟩
          · refine (KFF.out _ H11 E11 bn cn false (by simpa using x2)).mono ?_
            rintro e12 w12 ⟨rfl, H12, E12⟩
            clear a0 a1 a2 a3 b0 b1 b2 b3 c0 c1 c2 c3 m0 m1 m2 m3 x0 x2
            go_wp2_with fail
            refine (KA.out _ H12).mono ?_
            rintro e14 w14 ⟨rfl, H14⟩
            go_wp2_with fail
            go_ret
            exact ⟨rfl, H14.out.below⟩
        · refine (KFF.out _ H10 E10 an bn false (by simpa using x1)).mono ?_
          rintro e12 w12 ⟨rfl, H12, E12⟩
          clear a0 a1 a2 a3 b0 b1 b2 b3 c0 c1 c2 c3 m0 m1 m2 m3 x0 x1
          go_wp2_with fail
          refine (KA.out _ H12).mono ?_
          rintro e14 w14 ⟨rfl, H14⟩
          go_wp2_with fail
          go_ret
          exact ⟨rfl, H14.out.below⟩
end Go.Proofs.Ytmbddofcildibaa
