/-
  TableTells, the walk: whatever the unit, the number and the names, the law returns true.
-/
import Derived.Test.YtkpieolmepngjaaTbLawKit
import Derived.Test.YtkpieolmepngjaaTbGreat3
import Derived.Test.YtkpieolmepngjaaPrOpen
namespace Go.Proofs.Ytkpieolmepngjaa
open Go Go.RowKit
set_option linter.unusedVariables false
set_option linter.unusedSimpArgs false

/-- the unit's box alone. -/
def QU (R : World) (W : World) : Prop := Below R.heap.size R W
theorem stayU {w R : World} {A : Option Addr} {c : Nat} {L : List DT} (hu : UAt w R A c L) : Stay (QU R) A L := ⟨fun _ _ h k => Below.trans h (k.mono h.size), fun _ h => hu.rowAt h⟩
/-- the unit's box, and two blocks of two numbers. -/
structure QT (R : World) (g1 g2 : Nat) (T : TypeId) (m0 m1 : Int) (W : World) : Prop where
  below : Below R.heap.size R W
  one : Hid (Two W g1 T m0 m1)
  two : Hid (Two W g2 T m0 m1)
theorem QT.step {R : World} {g1 g2 : Nat} {T : TypeId} {m0 m1 : Int} : ∀ W W', QT R g1 g2 T m0 m1 W → Below W.heap.size W W' → QT R g1 g2 T m0 m1 W' := fun _ _ h k => ⟨h.below.trans (k.mono h.below.size), Two.below h.one k, Two.below h.two k⟩
theorem stayT {w R : World} {A : Option Addr} {c : Nat} {L : List DT} (hu : UAt w R A c L) (g1 g2 : Nat) (T : TypeId) (m0 m1 : Int) : Stay (QT R g1 g2 T m0 m1) A L := ⟨QT.step, fun _ h => hu.rowAt h.below⟩
theorem QT.cells {w R : World} {A : Option Addr} {c : Nat} {L : List DT} (hu : UAt w R A c L) {g1 g2 : Nat} {T : TypeId} {m0 m1 : Int} {W : World} (h : Hid (QT R g1 g2 T m0 m1 W)) : W.cell? ⟨w.heap.size, 0, none⟩ = some (.slice A L.length c) ∧ W.cell? ⟨g1, 0, none⟩ = some (.int .i64 m0) ∧ W.cell? ⟨g1, 1, none⟩ = some (.int .i64 m1) ∧ W.cell? ⟨g2, 0, none⟩ = some (.int .i64 m0) ∧ W.cell? ⟨g2, 1, none⟩ = some (.int .i64 m1) :=
  ⟨hu.cell _ h.out.below, Two.c0 h.out.one, Two.c1 h.out.one, Two.c0 h.out.two, Two.c1 h.out.two⟩
theorem QT.drew {R : World} {g1 g2 : Nat} {T : TypeId} {m0 m1 : Int} {W : World} (h : Hid (QT R g1 g2 T m0 m1 W)) : Hid (QT R g1 g2 T m0 m1 W.drew) := ⟨h.out.below.drew, h.out.one, h.out.two⟩
/-- where the row of an answer lies. -/
theorem IRow.place {B : Nat} {w : World} {A : Option Addr} {c : Nat} {l : List Int} (h : Hid (IRow B w A c l)) : (A = none ∨ ∃ g, A = some ⟨g, 0, none⟩) ∧ ∀ g, A = some ⟨g, 0, none⟩ → B ≤ g ∧ g < w.heap.size := by
  obtain ⟨⟨_, h1⟩, _⟩ := h.out
  rcases h1 with ⟨e, _⟩ | ⟨g, cap, cur, e, hb, hg, _⟩
  · simp only [Value.slice.injEq] at e
    exact ⟨.inl e.1, fun g h2 => by rw [e.1] at h2; cases h2⟩
  · simp only [Value.slice.injEq] at e
    refine ⟨.inr ⟨g, e.1⟩, fun g' h2 => ?_⟩
    rw [e.1] at h2
    simp only [Option.some.injEq, Addr.mk.injEq, and_true] at h2
    subst h2
    exact ⟨hb, (Array.getElem?_eq_some_iff.1 hg).1⟩
theorem VRow.place {B : Nat} {w : World} {A : Option Addr} {c : Nat} {l : List VT} (h : Hid (VRow B w A c l)) : (A = none ∨ ∃ g, A = some ⟨g, 0, none⟩) ∧ ∀ g, A = some ⟨g, 0, none⟩ → B ≤ g ∧ g < w.heap.size := by
  obtain ⟨xs, ⟨_, h1⟩, _⟩ := h.out
  rcases h1 with ⟨e, _⟩ | ⟨g, cap, cur, e, hb, hg, _⟩
  · simp only [Value.slice.injEq] at e
    exact ⟨.inl e.1, fun g h2 => by rw [e.1] at h2; cases h2⟩
  · simp only [Value.slice.injEq] at e
    refine ⟨.inr ⟨g, e.1⟩, fun g' h2 => ?_⟩
    rw [e.1] at h2
    simp only [Option.some.injEq, Addr.mk.injEq, and_true] at h2
    subst h2
    exact ⟨hb, (Array.getElem?_eq_some_iff.1 hg).1⟩
theorem owned_grown {B : Nat} {w w' : World} {e : TypeId} {sz n c n2 c2 : Nat} {A A2 : Option Addr} (h : Owned B w e sz A n c) (hg : w.grownBy w' (Value.slice A2 n2 c2).ownBlock) (hne : ∀ g, A = some ⟨g, 0, none⟩ → A2 = some ⟨g, 0, none⟩ → False) (hA2 : A2 = none ∨ ∃ g, A2 = some ⟨g, 0, none⟩) : Owned B w' e sz A n c := by
  obtain ⟨xs, hx⟩ := h
  refine ⟨xs, hx.kept hg ?_⟩
  rcases hx.2 with ⟨e, _⟩ | ⟨g, cap, cur, e, _⟩
  · rw [e]; exact .inl rfl
  · refine .inr fun e' => ?_
    simp only [Value.slice.injEq] at e
    obtain ⟨rfl, rfl⟩ : A = some ⟨g, 0, none⟩ ∧ c = cap := ⟨e.1, e.2.2⟩
    rcases hA2 with rfl | ⟨g2, rfl⟩
    · simp [Value.ownBlock] at e'
    · have : g2 = g := by first | simpa [Value.ownBlock] using e' | simpa [Value.ownBlock] using e'.symm
      subst this
      exact hne _ rfl rfl
theorem IRow.owned {B : Nat} {w : World} {A : Option Addr} {c : Nat} {l : List Int} (h : Hid (IRow B w A c l)) : Owned B w 3 1 A l.length c := ⟨_, h.out.1⟩
theorem VRow.owned {B : Nat} {w : World} {A : Option Addr} {c : Nat} {l : List VT} (h : Hid (VRow B w A c l)) : Owned B w 54 8 A l.length c := by
  obtain ⟨xs, hx, _⟩ := h.out
  exact ⟨xs, hx⟩

structure QR (R w8 : World) (g1 g2 : Nat) (T : TypeId) (m0 m1 : Int) (B1 B2 B3 : Nat) (A1 : Option Addr) (c1 : Nat) (C : List Int) (A2 : Option Addr) (c2 : Nat) (F : List Int) (A3 : Option Addr) (c3 : Nat) (V : List VT) (W : World) : Prop where
  qt : QT R g1 g2 T m0 m1 W
  r1 : Hid (IRow B1 W A1 c1 C)
  r2 : Hid (IRow B2 W A2 c2 F)
  r3 : Hid (VRow B3 W A3 c3 V)
  sz : w8.heap.size ≤ W.heap.size
theorem QR.step {R w8 : World} {g1 g2 : Nat} {T : TypeId} {m0 m1 : Int} {B1 B2 B3 : Nat} {A1 : Option Addr} {c1 : Nat} {C : List Int} {A2 : Option Addr} {c2 : Nat} {F : List Int} {A3 : Option Addr} {c3 : Nat} {V : List VT} : ∀ W W', QR R w8 g1 g2 T m0 m1 B1 B2 B3 A1 c1 C A2 c2 F A3 c3 V W → Below W.heap.size W W' → QR R w8 g1 g2 T m0 m1 B1 B2 B3 A1 c1 C A2 c2 F A3 c3 V W' := fun _ _ h k => ⟨QT.step _ _ h.qt k, IRow.far h.r1 k, IRow.far h.r2 k, VRow.far h.r3 k, Nat.le_trans h.sz k.size⟩
theorem QR.drew {R w8 : World} {g1 g2 : Nat} {T : TypeId} {m0 m1 : Int} {B1 B2 B3 : Nat} {A1 : Option Addr} {c1 : Nat} {C : List Int} {A2 : Option Addr} {c2 : Nat} {F : List Int} {A3 : Option Addr} {c3 : Nat} {V : List VT} {W : World} (h : Hid (QR R w8 g1 g2 T m0 m1 B1 B2 B3 A1 c1 C A2 c2 F A3 c3 V W)) : Hid (QR R w8 g1 g2 T m0 m1 B1 B2 B3 A1 c1 C A2 c2 F A3 c3 V W.drew) := ⟨⟨h.out.qt.below.drew, h.out.qt.one, h.out.qt.two⟩, h.out.r1, h.out.r2, h.out.r3, h.out.sz⟩

set_option maxHeartbeats 8000000 in
set_option maxRecDepth 100000 in
theorem tells_walk (L : List DT) (A : Option Addr) (c : Nat) (d0 : Int) (a b : ByteArray) (w : World) (ha : DsR w w.heap.size A L) (hw : wU L ≤ 1000000000) (hfit0 : L.length ≤ 16 → FitA L) :
    Calls Try.prog 3 #[.agg #[.slice A L.length c], .int .i64 d0, .string a, .string b] w fun e w' => e = .returned (.bool true) ∧ Below w.heap.size w w' := by
  obtain ⟨R, hR⟩ : ∃ R : World, R = w.alloc (.cells #[.slice A L.length c] 24) := ⟨_, rfl⟩
  have hu : UAt w R A c L := hR ▸ UAt.of ha
  have HU := Lib.hid hu
  have HFIT0 := Lib.hid hfit0
  have HQ0 : Hid (QU R R) := Below.refl _ _
  have KG : Hid (∀ W, Hid (QU R W) → Calls Try.prog 12 #[.agg #[.slice A L.length c], .int .i64 200] W fun e w' => (∃ r : Bool, e = .returned (.bool r) ∧ Hid (r = false → L.length ≤ 16)) ∧ Hid (QU R w')) := fun W hq => (greatUnit_any L A c 200 W (hu.rowAt hq.out) hw).mono fun e w' hh => ⟨hh.1, (stayU hu).step _ _ hq.out hh.2⟩
  have KA : Hid (∀ W, Hid (QU R W) → Calls Try.prog 13 #[] W fun e w' => e = .returned (.bool true) ∧ Hid (QU R w') ∧ Hid (Below W.heap.size W w')) := fun W hq => q_awake (stayU hu).step W hq
  have y0 := hu.cell _ (Below.refl _ _)
  clear ha hw hfit0 hu
  rw [hR] at y0
  go_enter Try.func3, Try.ntmps3
  go_wp2_with fail
  rw [← hR] at y0 ⊢
  refine (KG.out _ HQ0).mono ?_
  rintro e1 w1 ⟨⟨great, rfl, hgr⟩, q1⟩
  have y1 := HU.out.cell _ q1.out
  clear y0 HQ0 KG
  have away : great = true ∨ (60 : Int) < (a.size : Int) ∨ (60 : Int) < (b.size : Int) ∨ (great = false ∧ ¬ (60 : Int) < (a.size : Int) ∧ ¬ (60 : Int) < (b.size : Int)) := by
    cases great
    · by_cases h1 : (60 : Int) < (a.size : Int)
      · exact .inr (.inl h1)
      · by_cases h2 : (60 : Int) < (b.size : Int)
        · exact .inr (.inr (.inl h2))
        · exact .inr (.inr (.inr ⟨rfl, h1, h2⟩))
    · exact .inl rfl
  cases great
  case true =>
    clear away
    go_wp2_with fail
    refine (KA.out _ q1).mono ?_
    rintro e2 w2 ⟨rfl, q2, -⟩
    go_wp2_with fail
    go_ret
    exact ⟨rfl, HU.out.out q2.out⟩
  have hfit : FitA L := HFIT0.out (hgr.out rfl)
  have HFIT := Lib.hid hfit
  have HL : Hid (L.length ≤ 1048576) := Nat.le_trans hfit.len (by decide)
  clear hfit hgr HFIT0
  by_cases p1 : (60 : Int) < (a.size : Int)
  · clear away
    go_wp2_with fail
    refine (KA.out _ q1).mono ?_
    rintro e2 w2 ⟨rfl, q2, -⟩
    go_wp2_with fail
    go_ret
    exact ⟨rfl, HU.out.out q2.out⟩
  by_cases p2 : (60 : Int) < (b.size : Int)
  · clear away
    go_wp2_with fail
    refine (KA.out _ q1).mono ?_
    rintro e2 w2 ⟨rfl, q2, -⟩
    go_wp2_with fail
    go_ret
    exact ⟨rfl, HU.out.out q2.out⟩
  clear away
  have hL := HL.out
  have K0 : Hid (Calls Try.prog 14 #[.int .i64 d0, .int .i64 ((L.length : Int) + 3)] w1 fun e w' => (∃ r : Nat, r < L.length + 3 ∧ e = .returned (.int .i64 (r : Int))) ∧ w' = w1) := by
    have := low_any d0 (L.length + 3) (by omega) (by omega) w1
    push_cast at this
    exact this
  go_wp2_with fail
  refine K0.out.mono ?_
  rintro e2 w2 ⟨⟨r, hr, rfl⟩, rfl⟩
  have hd : I64 ((r : Int) - 1) := ⟨by omega, by omega⟩
  obtain ⟨d, hdd⟩ : ∃ d : Int, d = (r : Int) - 1 := ⟨_, rfl⟩
  rw [← hdd] at hd
  have HD := Lib.hid hd
  clear K0
  go_wp2_with fail
  rw [← hdd]
  obtain ⟨m0, m1, ok, hm⟩ := where_shape (methodT L d a)
  have KM := Lib.hid (q_Method c (stayU HU.out) HFIT.out d hd a _ hm.symm)
  have KN := Lib.hid (q_refMethod c (stayU HU.out) HFIT.out d hd a _ hm.symm)
  clear hm hd hdd hr hL
  refine (KM.out _ q1).mono ?_
  rintro e3 w3 ⟨rfl, q3, -⟩
  have qa : Hid (QU R (w3.alloc (.cells #[.int .i64 m0, .int .i64 m1] 29))) := q3.out.alloc q3.out.size _
  have y3 := HU.out.cell _ qa.out
  clear y1 q1 KM
  go_wp2_with fail
  refine (KN.out _ qa).mono ?_
  rintro e4 w4 ⟨rfl, q4, k4⟩
  have t4 := Two.below (Two.new w3 29 m0 m1) k4
  obtain ⟨g1, hg1⟩ : ∃ g, g = w3.heap.size := ⟨_, rfl⟩
  rw [← hg1] at t4 ⊢
  clear hg1
  have qb : Hid (QU R (w4.alloc (.cells #[.int .i64 m0, .int .i64 m1] 29))) := q4.out.alloc q4.out.size _
  have q5 : Hid (QT R g1 w4.heap.size 29 m0 m1 (w4.alloc (.cells #[.int .i64 m0, .int .i64 m1] 29))) := ⟨qb.out, Two.alloc t4 _, Two.new w4 _ m0 m1⟩
  clear y3 q3 KN k4 qa t4
  go_wp2_with fail
  obtain ⟨W5, hW5⟩ : ∃ W, W = w4.alloc (.cells #[.int .i64 m0, .int .i64 m1] 29) := ⟨_, rfl⟩
  obtain ⟨g2, hg2⟩ : ∃ g, g = w4.heap.size := ⟨_, rfl⟩
  rw [← hW5, ← hg2] at q5
  rw [← hW5, ← hg2]
  clear hW5 hg2 qb q4
  obtain ⟨C, hC⟩ : ∃ x, x = chainT L d := ⟨_, rfl⟩
  obtain ⟨F, hF⟩ : ∃ x, x = facesT L d := ⟨_, rfl⟩
  obtain ⟨V, hV⟩ : ∃ x, x = fieldsT L d := ⟨_, rfl⟩
  obtain ⟨fa, hfa⟩ : ∃ x, x = findT L a := ⟨_, rfl⟩
  obtain ⟨ia, hia⟩ : ∃ x, x = isT L a b := ⟨_, rfl⟩
  have ST := Lib.hid (stayT HU.out g1 g2 29 m0 m1)
  have KC := Lib.hid (q_Chain c ST.out HFIT.out d C hC)
  have KF := Lib.hid (q_Faces c ST.out HFIT.out d F hF)
  have KV := Lib.hid (q_Fields c ST.out HFIT.out d HD.out V hV)
  have LC : Hid (C.length ≤ 1000000000) := by rw [hC]; exact Nat.le_trans (chainT_met L d).len HFIT.out.cnt
  have LF : Hid (F.length ≤ 1000000000) := by rw [hF]; exact Nat.le_trans (facesT_met L d).len HFIT.out.cnt
  have LV : Hid (V.length ≤ 1700000000000) := by rw [hV]; exact fieldsT_len HFIT.out d
  have HC := Lib.hid hC
  have HF := Lib.hid hF
  have HV := Lib.hid hV
  have HFA := Lib.hid hfa
  have HIA := Lib.hid hia
  have z5 := HU.out.cell _ q5.out.below
  clear hC hF hV hfa hia
  go_region_held3 (fun w' => w'.cell? ⟨w.heap.size, 0, none⟩ = some (.slice A L.length c)) (first | exact z8 | exact z7 | exact z6 | exact z5)
    (first
      | (go_at_call 17; refine (KC.out _ (by first | exact q5 | exact QT.drew q5)).mono ?_; rintro e6 w6 ⟨A1, c1, rfl, r6, q6, k6⟩; have z6 := HU.out.cell _ q6.out.below)
      | (go_at_call 18; refine (KF.out _ q6).mono ?_; rintro e7 w7 ⟨A2, c2, rfl, s7, q7, k7⟩; have z7 := HU.out.cell _ q7.out.below; have r7 := IRow.far r6 k7)
      | (go_at_call 19; refine (KV.out _ q7).mono ?_; rintro e8 w8 ⟨A3, c3, rfl, v8, q8, k8⟩; have z8 := HU.out.cell _ q8.out.below; have r8 := IRow.far r7 k8; have s8 := IRow.far s7 k8))
  have P1 := Lib.hid (IRow.place r6)
  have P2 := Lib.hid (IRow.place s7)
  have P3 := Lib.hid (VRow.place v8)
  have SZ : Hid (R.heap.size ≤ W5.heap.size ∧ W5.heap.size ≤ w6.heap.size ∧ w6.heap.size ≤ w7.heap.size) := ⟨q5.out.below.size, k6.out.size, k7.out.size⟩
  have SZ8 : Hid (w7.heap.size ≤ w8.heap.size ∧ W5.heap.size ≤ w8.heap.size ∧ w6.heap.size ≤ w8.heap.size) := by
    have h1 := SZ.out
    have h2 := k8.out.size
    show _ ∧ _ ∧ _
    omega
  have u8 : Hid (QR R w8 g1 g2 29 m0 m1 W5.heap.size w6.heap.size w7.heap.size A1 c1 C A2 c2 F A3 c3 V w8) := ⟨q8.out, r8, s8, v8, Nat.le_refl _⟩
  have SQ : Hid (Stay (QR R w8 g1 g2 29 m0 m1 W5.heap.size w6.heap.size w7.heap.size A1 c1 C A2 c2 F A3 c3 V) A L) := ⟨QR.step, fun _ h => HU.out.rowAt h.qt.below⟩
  have K9 := Lib.hid (q_Find c SQ.out HFIT.out a fa HFA.out)
  have K10 := Lib.hid (q_refFind c SQ.out HFIT.out a fa HFA.out)
  have K11 := Lib.hid (q_refChain c SQ.out HFIT.out d C HC.out)
  have K13 := Lib.hid (q_refFaces c SQ.out HFIT.out d F HF.out)
  have K15 := Lib.hid (q_Is c SQ.out HFIT.out a b ia HIA.out)
  have K16 := Lib.hid (q_refIs c SQ.out HFIT.out a b ia HIA.out)
  have K17 := Lib.hid (q_refFields c SQ.out HFIT.out d V HV.out)
  have CE : Hid (∀ W, Hid (QR R w8 g1 g2 29 m0 m1 W5.heap.size w6.heap.size w7.heap.size A1 c1 C A2 c2 F A3 c3 V W) → W.cell? ⟨w.heap.size, 0, none⟩ = some (.slice A L.length c) ∧ W.cell? ⟨g1, 0, none⟩ = some (.int .i64 m0) ∧ W.cell? ⟨g1, 1, none⟩ = some (.int .i64 m1) ∧ W.cell? ⟨g2, 0, none⟩ = some (.int .i64 m0) ∧ W.cell? ⟨g2, 1, none⟩ = some (.int .i64 m1)) := fun W h => QT.cells HU.out (Lib.hid h.out.qt)
  have z8 := CE.out _ u8
  clear ST KC KF KV z5 z6 z7 k6 k7 k8 q5 q6 q7 q8 r6 r7 r8 s7 s8 v8
  go_wp2_with fail
  go_region_held3 (fun w' => w'.cell? ⟨w.heap.size, 0, none⟩ = some (.slice A L.length c) ∧ w'.cell? ⟨g1, 0, none⟩ = some (.int .i64 m0) ∧ w'.cell? ⟨g1, 1, none⟩ = some (.int .i64 m1) ∧ w'.cell? ⟨g2, 0, none⟩ = some (.int .i64 m0) ∧ w'.cell? ⟨g2, 1, none⟩ = some (.int .i64 m1)) (first | exact z18 | exact z17 | exact z16 | exact z15 | exact z14 | exact z13 | exact z12 | exact z11 | exact z10 | exact z9 | exact z8)
    (first
      | (go_at_call 20; refine (K9.out _ (by first | exact u8 | exact QR.drew u8)).mono ?_; rintro e9 w9 ⟨rfl, u9, -⟩; have z9 := CE.out _ u9)
      | (go_at_call 21; refine (K10.out _ u9).mono ?_; rintro e10 w10 ⟨rfl, u10, -⟩; have z10 := CE.out _ u10)
      | (go_at_call 23; refine (K11.out _ u10).mono ?_; rintro e11 w11 ⟨A11, c11, rfl, x11, u11, -⟩; have z11 := CE.out _ u11)
      | (go_at_call_of 22 (Value.slice A1 C.length c1); refine (q_SameInts SQ.out.step C LC.out _ _ A1 A11 c1 c11 w11 u11 u11.out.r1 x11).mono ?_; rintro e12 w12 ⟨rfl, u12, -⟩; have z12 := CE.out _ u12)
      | (go_at_call 24; refine (K13.out _ u12).mono ?_; rintro e13 w13 ⟨A13, c13, rfl, x13, u13, -⟩; have z13 := CE.out _ u13)
      | (go_at_call_of 22 (Value.slice A2 F.length c2); refine (q_SameInts SQ.out.step F LF.out _ _ A2 A13 c2 c13 w13 u13 u13.out.r2 x13).mono ?_; rintro e14 w14 ⟨rfl, u14, -⟩; have z14 := CE.out _ u14)
      | (go_at_call 25; refine (K15.out _ u14).mono ?_; rintro e15 w15 ⟨rfl, u15, -⟩; have z15 := CE.out _ u15)
      | (go_at_call 26; refine (K16.out _ u15).mono ?_; rintro e16 w16 ⟨rfl, u16, -⟩; have z16 := CE.out _ u16)
      | (go_at_call 28; refine (K17.out _ u16).mono ?_; rintro e17 w17 ⟨A17, c17, rfl, x17, u17, -⟩; have z17 := CE.out _ u17)
      | (go_at_call 27; refine (q_SameVars SQ.out.step V LV.out _ _ A3 A17 c3 c17 w17 u17 u17.out.r3 x17).mono ?_; rintro e18 w18 ⟨rfl, u18, -⟩; have z18 := CE.out _ u18))
  clear K9 K10 K11 K13 K15 K16 K17 CE z8 z9 z10 z11 z12 z13 z14 z15 z16 z17 z18 x11 x13 x17 u8 u9 u10 u11 u12 u13 u14 u15 u16 u17
  go_wp2_with fail
  have hs18 : W5.heap.size ≤ w18.heap.size ∧ R.heap.size ≤ w18.heap.size ∧ w6.heap.size ≤ w18.heap.size ∧ w7.heap.size ≤ w18.heap.size := by
    have h1 := u18.out.qt.below.size
    have h2 := SZ8.out
    have h3 := u18.out.sz
    omega
  have KO1 := Lib.hid (overInts_any C.length c1 W5.heap.size A1 w18 (IRow.owned u18.out.r1) LC.out hs18.1)
  refine KO1.out.mono ?_
  rintro e19 w19 ⟨rfl, k19⟩
  have K19 := Lib.hid k19
  have o2 : Hid (Owned w6.heap.size w19 3 1 A2 F.length c2) := owned_grown (IRow.owned u18.out.r2) k19 (fun g h1 h2 => by have a1 := P1.out.2 g h2; have a2 := P2.out.2 g h1; omega) P1.out.1
  have o3 : Hid (Owned w7.heap.size w19 54 8 A3 V.length c3) := owned_grown (VRow.owned u18.out.r3) k19 (fun g h1 h2 => by have a1 := P1.out.2 g h2; have a2 := P3.out.2 g h1; have a3 := SZ.out; omega) P1.out.1
  have b19 : Hid (Below R.heap.size R w19) := u18.out.qt.below.trans (grown_below k19 (fun g h => by have a1 : W5.heap.size ≤ g ∧ g < w6.heap.size := P1.out.2 g h; have a2 := SZ.out; omega) P1.out.1 hs18.2.1)
  have s19 : Hid (w18.heap.size ≤ w19.heap.size) := k19.size
  have HS := Lib.hid hs18
  clear KO1 k19 hs18
  go_wp2_with fail
  have KO2 := Lib.hid (overInts_any F.length c2 w6.heap.size A2 w19 o2.out LF.out (by have := HS.out; have := s19.out; omega))
  refine KO2.out.mono ?_
  rintro e20 w20 ⟨rfl, k20⟩
  have o4 : Hid (Owned w7.heap.size w20 54 8 A3 V.length c3) := owned_grown o3.out k20 (fun g h1 h2 => by have a1 := P2.out.2 g h2; have a2 := P3.out.2 g h1; omega) P2.out.1
  have b20 : Hid (Below R.heap.size R w20) := b19.out.trans (grown_below k20 (fun g h => by have a1 := P2.out.2 g h; have a2 := SZ.out; omega) P2.out.1 b19.out.size)
  have s20 : Hid (w19.heap.size ≤ w20.heap.size) := k20.size
  clear KO2 k20 o2 o3
  go_wp2_with fail
  have KO3 := Lib.hid (overVars_any V.length c3 w7.heap.size A3 w20 o4.out LV.out (by have := HS.out; have := s19.out; have := s20.out; omega))
  refine KO3.out.mono ?_
  rintro e21 w21 ⟨rfl, k21⟩
  have q21 : Hid (QU R w21) := b20.out.trans (grown_below k21 (fun g h => by have a1 := P3.out.2 g h; have a2 := SZ.out; omega) P3.out.1 b20.out.size)
  have z21 := HU.out.cell _ q21.out
  have SU : Hid (Stay (QU R) A L) := stayU HU.out
  have K22 := Lib.hid (q_Fields c SU.out HFIT.out d HD.out V HV.out)
  have K23 := Lib.hid (q_refFields c SU.out HFIT.out d V HV.out)
  clear KO3 k21 o4
  go_wp2_with fail
  go_region_held3 (fun w' => w'.cell? ⟨w.heap.size, 0, none⟩ = some (.slice A L.length c)) (first | exact z25 | exact z24 | exact z23 | exact z22 | exact z21)
    (first
      | (go_at_call 19; refine (K22.out _ (by first | exact q21 | exact Below.drew q21)).mono ?_; rintro e22 w22 ⟨A22, c22, rfl, r22, q22, -⟩; have z22 := HU.out.cell _ q22.out)
      | (go_at_call 28; refine (K23.out _ q22).mono ?_; rintro e23 w23 ⟨A23, c23, rfl, r23, q23, k23⟩; have z23 := HU.out.cell _ q23.out; have r22b := VRow.far r22 k23)
      | (go_at_call 27; refine (q_SameVars SU.out.step V LV.out _ _ A22 A23 c22 c23 w23 q23 r22b r23).mono ?_; rintro e24 w24 ⟨rfl, q24, -⟩; have z24 := HU.out.cell _ q24.out)
      | (go_at_call 13; refine (KA.out _ q24).mono ?_; rintro e25 w25 ⟨rfl, q25, -⟩; have z25 := HU.out.cell _ q25.out))
  clear z21 z22 z23 z24 z25
  go_wp2_with fail
  go_ret
  exact ⟨rfl, HU.out.out q25.out⟩
end Go.Proofs.Ytkpieolmepngjaa
