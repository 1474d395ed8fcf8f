/-
  TableIs, the walk: whatever the unit and the three numbers, the law returns true.
-/
import Derived.Test.YtkpieolmepngjaaTbTells
import Derived.Test.YtkpieolmepngjaaTbIsPure
import Derived.Deep.RegionHeld3
import Derived.Deep.DeepCutAuto
namespace Go.Proofs.Ytkpieolmepngjaa
open Go Go.RowKit
set_option linter.unusedVariables false
set_option linter.unusedSimpArgs false

theorem findF_has (s : ByteArray) : ∀ (L : List DT) (j k : Nat) (hk : k < L.length), L[k].name = s → ∃ m : Nat, m < L.length ∧ findF s L j = (j + m : Nat)
  | d :: r, j, 0, hk, h => ⟨0, by simp, by
    have h' : d.name = s := h
    unfold findF
    rw [if_pos h']
    rfl⟩
  | d :: r, j, k + 1, hk, h => by
    by_cases h0 : d.name = s
    · exact ⟨0, by simp, by unfold findF; rw [if_pos h0]; rfl⟩
    · obtain ⟨m, hm, e⟩ := findF_has s r (j + 1) k (by simpa using hk) h
      exact ⟨m + 1, by simp; omega, by unfold findF; rw [if_neg h0, e]; congr 1; omega⟩
theorem findT_has {L : List DT} {k : Nat} (hk : k < L.length) : ∃ m : Nat, m < L.length ∧ findT L L[k].name = m := by
  obtain ⟨m, hm, e⟩ := findF_has _ L 0 k hk rfl
  exact ⟨m, hm, by rw [findT, e, Nat.zero_add]⟩
/-- Low's number. -/
def lowT (x : Int) (m : Nat) : Nat := (IntKind.u64.wrap x % (m : Int)).toNat
theorem lowT_lt (x : Int) {m : Nat} (hm : 0 < m) : lowT x m < m := by
  unfold lowT
  have h2 : IntKind.u64.wrap x % (m : Int) < (m : Int) := Int.emod_lt_of_pos _ (by omega)
  have h1 : 0 ≤ IntKind.u64.wrap x % (m : Int) := Int.emod_nonneg _ (by omega)
  omega
theorem low_at (x : Int) (m : Nat) (hm : 0 < m) (hm2 : m ≤ 2000000) (w : World) : Calls Try.prog 14 #[.int .i64 x, .int .i64 (m : Int)] w fun e w' => e = .returned (.int .i64 (lowT x m : Int)) ∧ w' = w := by
  have hu : IntKind.u64.wrap (m : Int) = (m : Int) := by rw [IntKind.wrap_u64]; omega
  have hz : ((m : Int) == 0) = false := by simp only [beq_eq_false_iff_ne, ne_eq]; omega
  have HL := Lib.hid (lowT_lt x hm)
  go_enter Try.func14, Try.ntmps14
  go_wp2
  go_ret
  have h0 : 0 ≤ IntKind.u64.wrap x := by rw [IntKind.wrap_u64]; omega
  have hl := HL.out
  unfold lowT at hl ⊢
  clear hu hz
  generalize IntKind.u64.wrap x = q at *
  have h1 : 0 ≤ q % (m : Int) := Int.emod_nonneg _ (by omega)
  have h2 : q % (m : Int) < (m : Int) := Int.emod_lt_of_pos _ (by omega)
  refine ⟨ret_int ?_, rfl⟩
  rw [Int.tmod_eq_emod_of_nonneg h0]
  generalize q % (m : Int) = y at *
  unfold wrap64
  omega

set_option maxHeartbeats 8000000 in
set_option maxRecDepth 100000 in
theorem is_walk (L : List DT) (A : Option Addr) (c : Nat) (i0 j0 k0 : Int) (w : World) (ha : DsR w w.heap.size A L) (hG : ∀ W, DsR W W.heap.size A L → Calls Try.prog 12 #[.agg #[.slice A L.length c], .int .i64 200] W (GreatF L W)) :
    Calls Try.prog 4 #[.agg #[.slice A L.length c], .int .i64 i0, .int .i64 j0, .int .i64 k0] w fun e w' => e = .returned (.bool true) ∧ Below w.heap.size w w' := by
  obtain ⟨R, hR⟩ : ∃ R : World, R = w.alloc (.cells #[.slice A L.length c] 24) := ⟨_, rfl⟩
  have hu : UAt w R A c L := hR ▸ UAt.of ha
  have HU := Lib.hid hu
  have HQ0 : Hid (QU R R) := Below.refl _ _
  have KG : Hid (∀ W, Hid (QU R W) → Calls Try.prog 12 #[.agg #[.slice A L.length c], .int .i64 200] W fun e w' => (∃ r : Bool, e = .returned (.bool r) ∧ Hid (r = false → Fit L)) ∧ Hid (QU R w')) := fun W hq => (hG W (hu.rowAt hq.out)).mono fun e w' hh => ⟨hh.1, (stayU hu).step _ _ hq.out hh.2⟩
  have KA : Hid (∀ W, Hid (QU R W) → Calls Try.prog 13 #[] W fun e w' => e = .returned (.bool true) ∧ Hid (QU R w') ∧ Hid (Below W.heap.size W w')) := fun W hq => q_awake (stayU hu).step W hq
  have y0 := hu.cell _ (Below.refl _ _)
  clear ha hG hu
  rw [hR] at y0
  go_enter Try.func4, Try.ntmps4
  go_wp2_with fail
  rw [← hR] at y0 ⊢
  refine (KG.out _ HQ0).mono ?_
  rintro e1 w1 ⟨⟨great, rfl, hgr⟩, q1⟩
  have y1 := HU.out.cell _ q1.out
  clear y0 HQ0 KG hR
  cases great
  case true =>
    go_wp2_with fail
    refine (KA.out _ q1).mono ?_
    rintro e2 w2 ⟨rfl, q2, -⟩
    go_wp2_with fail
    go_ret
    exact ⟨rfl, HU.out.out q2.out⟩
  have hfit : Fit L := hgr.out rfl
  have HFIT := Lib.hid hfit
  have HL : Hid (L.length ≤ 1048576) := Nat.le_trans hfit.len (by decide)
  clear hfit hgr
  by_cases hz : L.length = 0
  · have e0 : ((L.length : Int) == 0) = true := by simp [hz]
    have e0b : (L.length : Int) = 0 := by omega
    clear hz
    go_wp2_with fail
    refine (KA.out _ q1).mono ?_
    rintro e2 w2 ⟨rfl, q2, -⟩
    go_wp2_with fail
    go_ret
    exact ⟨rfl, HU.out.out q2.out⟩
  have e0 : ((L.length : Int) == 0) = false := by simp only [beq_eq_false_iff_ne, ne_eq]; omega
  have hpos : 0 < L.length := by omega
  have hL := HL.out
  obtain ⟨q, o, -, -, -, -, -, -, -, -, hA, -, -⟩ := HU.out.decl hpos
  subst hA
  have DF : Hid (∀ W, Hid (QU R W) → ∀ (k : Nat) (hk : k < L.length), W.cell? ⟨q, o + k * 11, none⟩ = some (.int .i64 L[k].kind) ∧ W.cell? ⟨q, o + k * 11 + 1, none⟩ = some (.string L[k].name)) := fun W h k hk => by
    obtain ⟨q', o', E1, e1, E2, e2, E3, e3, E4, e4, hA, _, hY⟩ := HU.out.decl hk
    simp only [Option.some.injEq, Addr.mk.injEq, and_true] at hA
    obtain ⟨rfl, rfl⟩ := hA
    exact ⟨(hY W h.out).2.1, (hY W h.out).2.2.1⟩
  have l1 := lowT_lt i0 hpos
  have l2 := lowT_lt j0 hpos
  have l3 := lowT_lt k0 hpos
  have K1 := Lib.hid (low_at i0 L.length hpos (by omega))
  have K2 := Lib.hid (low_at j0 L.length hpos (by omega))
  have K3 := Lib.hid (low_at k0 L.length hpos (by omega))
  obtain ⟨r1, h1⟩ : ∃ r, r = lowT i0 L.length := ⟨_, rfl⟩
  obtain ⟨r2, h2⟩ : ∃ r, r = lowT j0 L.length := ⟨_, rfl⟩
  obtain ⟨r3, h3⟩ : ∃ r, r = lowT k0 L.length := ⟨_, rfl⟩
  rw [← h1] at l1 K1
  rw [← h2] at l2 K2
  rw [← h3] at l3 K3
  clear h1 h2 h3
  obtain ⟨-, n1⟩ := DF.out _ q1 r1 l1
  obtain ⟨-, n2⟩ := DF.out _ q1 r2 l2
  obtain ⟨-, n3⟩ := DF.out _ q1 r3 l3
  obtain ⟨m, hm, hfm⟩ := findT_has l1
  obtain ⟨a, hna⟩ : ∃ x, x = L[r1].name := ⟨_, rfl⟩
  obtain ⟨b, hnb⟩ : ∃ x, x = L[r2].name := ⟨_, rfl⟩
  obtain ⟨cn, hnc⟩ : ∃ x, x = L[r3].name := ⟨_, rfl⟩
  rw [← hna] at n1 hfm
  rw [← hnb] at n2
  rw [← hnc] at n3
  have HFM := Lib.hid hfm
  have HM := Lib.hid hm
  have j1 : (r1 : Int) < (L.length : Int) := by omega
  have j2 : (r2 : Int) < (L.length : Int) := by omega
  have j3 : (r3 : Int) < (L.length : Int) := by omega
  have i1 : (0 : Int) ≤ (r1 : Int) := by omega
  have i2 : (0 : Int) ≤ (r2 : Int) := by omega
  have i3 : (0 : Int) ≤ (r3 : Int) := by omega
  have SU : Hid (Stay (QU R) (some ⟨q, o, none⟩) L) := stayU HU.out
  clear hna hnb hnc hfm hm l1 l2 l3 hL hpos hz
  go_wp2_with fail
  have q1d : Hid (QU R w1.drew) := Below.drew q1.out
  go_region_held3 (fun w' => w'.cell? ⟨w.heap.size, 0, none⟩ = some (.slice (some ⟨q, o, none⟩) L.length c) ∧ w'.cell? ⟨q, o + r1 * 11 + 1, none⟩ = some (.string a) ∧ w'.cell? ⟨q, o + r2 * 11 + 1, none⟩ = some (.string b) ∧ w'.cell? ⟨q, o + r3 * 11 + 1, none⟩ = some (.string cn)) (exact ⟨y1, n1, n2, n3⟩)
    (first
      | (go_at_call_of 14 (Value.int .i64 i0); refine (K1.out _).mono ?_; rintro e2 w2 ⟨rfl, rfl⟩)
      | (go_at_call_of 14 (Value.int .i64 j0); refine (K2.out _).mono ?_; rintro e2 w2 ⟨rfl, rfl⟩)
      | (go_at_call_of 14 (Value.int .i64 k0); refine (K3.out _).mono ?_; rintro e2 w2 ⟨rfl, rfl⟩))
  go_wp2_with fail
  refine (q_Find c SU.out HFIT.out a (m : Int) HFM.out.symm _ q1d).mono ?_
  rintro e5 w5 ⟨rfl, q5, -⟩
  have y5 := HU.out.cell _ q5.out
  obtain ⟨x5, -⟩ := DF.out _ q5 m HM.out
  obtain ⟨kd, hkd⟩ : ∃ x, x = (L[m]'(HM.out)).kind := ⟨_, rfl⟩
  obtain ⟨th, hth⟩ : ∃ x, x = isT L a a := ⟨_, rfl⟩
  have hths : th = (decide (kd = 2) || decide (kd = 1)) := by rw [hth, isT_self, HFM.out, isOfT_of HM.out, isOfT_of HM.out, hkd]
  rw [← hkd] at x5
  have HTH := Lib.hid hth
  have j4 : ¬ L.length ≤ m := by have := HM.out; omega
  have j5 : (m : Int) < (L.length : Int) := by omega
  have i4 : (0 : Int) ≤ (m : Int) := by omega
  have e2 : (kd == 2) = decide (kd = 2) := by by_cases h : kd = 2 <;> simp [h]
  have e1 : (kd == 1) = decide (kd = 1) := by by_cases h : kd = 1 <;> simp [h]
  clear hkd hth y1 n1 n2 n3 q1 q1d K1 K2 K3 i1 i2 i3 j1 j2 j3
  go_upto_region 8 with fail
  go_cut [14] (fun s14 wx => s14 = .bool th ∧ wx = w5)
  case first =>
    by_cases hk2 : kd = 2
    · have e3 : (kd == 2) = true := by rw [e2]; exact decide_eq_true hk2
      have e4 : th = true := by rw [hths, decide_eq_true hk2]; rfl
      clear e1 e2 hths hk2
      go_wp2_with fail
      go_meet
      exact ⟨by rw [e4], rfl⟩
    · have e3 : (kd == 2) = false := by rw [e2]; exact decide_eq_false hk2
      have e4 : (kd == 1) = th := by rw [hths, decide_eq_false hk2, e1]; rfl
      clear e1 e2 hths hk2
      go_wp2_with fail
      go_meet
      exact ⟨by first | rfl | rw [e4], rfl⟩
  case rest =>
    obtain ⟨rfl, rfl⟩ := hcut
    clear e1 e2 hths x5
    obtain ⟨iab, hab⟩ : ∃ x, x = isT L a b := ⟨_, rfl⟩
    have habt : iab = true → th = true := fun h => by
      rw [HTH.out, isT_self]
      exact isT_thing (b := b) (by rw [← hab]; exact h)
    have HAB := Lib.hid hab
    clear hab
    have K9 := Lib.hid (q_Is c SU.out HFIT.out a a th HTH.out)
    have K10 := Lib.hid (q_Is c SU.out HFIT.out a b iab HAB.out)
    go_upto_region 9 with fail
    go_cut [96] (fun s96 wx => s96 = .bool false ∧ Hid (QU R wx))
    case first =>
      have en : (th != th) = false := by simp
      go_wp2_with fail
      refine (K9.out _ q5).mono ?_
      rintro e6 w6 ⟨rfl, q6, -⟩
      have y6 := HU.out.cell _ q6.out
      go_wp2_with fail
      refine (K10.out _ q6).mono ?_
      rintro e7 w7 ⟨rfl, q7, -⟩
      cases iab
      · go_wp2_with fail
        go_meet
        exact ⟨rfl, q7⟩
      · obtain rfl := habt rfl
        go_wp2_with fail
        go_meet
        exact ⟨rfl, q7⟩
    case rest =>
      obtain ⟨rfl, q9⟩ := hcut
      have y9 := HU.out.cell _ q9.out
      clear K9 K10 habt y5 q5
      obtain ⟨C, hC⟩ : ∃ x, x = chainT L (m : Int) := ⟨_, rfl⟩
      obtain ⟨F, hF⟩ : ∃ x, x = facesT L (m : Int) := ⟨_, rfl⟩
      have HC := Lib.hid hC
      have HF := Lib.hid hF
      have KC := Lib.hid (q_Chain c SU.out HFIT.out (m : Int) C hC)
      have KF := Lib.hid (q_Faces c SU.out HFIT.out (m : Int) F hF)
      have LC : Hid (C.length ≤ 1000000000) := by rw [hC]; exact Nat.le_trans (chainT_met L (m : Int)).len HFIT.out.cnt
      have LF : Hid (F.length ≤ 1000000000) := by rw [hF]; exact Nat.le_trans (facesT_met L (m : Int)).len HFIT.out.cnt
      clear hC hF
      go_wp2_with fail
      refine (KC.out _ q9).mono ?_
      rintro e10 w10 ⟨A1, c1, rfl, r10, q10, k10⟩
      clear KC k10 y9 q9
      go_wp2_with fail
      go_loopw [16] (fun i wr => ∃ k : Nat, k ≤ C.length ∧ i = .int .i64 k ∧ Hid (QU R wr) ∧ Hid (∃ B, IRow B wr A1 c1 C)) (fun i _ => C.length - (intOf i).toNat)
      case atStart => exact ⟨0, Nat.zero_le _, rfl, q10, ⟨_, r10.out⟩⟩
      case round =>
        obtain ⟨k, hk, rfl, hq, hr⟩ := hrel
        have z0 : (0 : Int) ≤ (k : Int) := by omega
        by_cases hlt : k < C.length
        · obtain ⟨B1, hr1⟩ := hr.out
          have hmem : C[k] ∈ chainT L (m : Int) := by rw [← HC.out]; exact List.getElem_mem hlt
          have hrng := (chainT_met L (m : Int)).2 _ hmem
          obtain ⟨n, hn⟩ : ∃ n : Nat, C[k] = (n : Int) := ⟨C[k].toNat, by omega⟩
          rw [hn] at hrng hmem
          have hnl : n < L.length := by omega
          have hkn : L[n].kind = 2 := by
            have h := chainT_class L (m : Int) _ hmem
            rw [isOfT_of hnl] at h
            exact of_decide_eq_true h
          obtain ⟨g, rfl⟩ := hr1.isBlock (by omega)
          have xr : wr.cell? ⟨g, k, none⟩ = some (.int .i64 (n : Int)) := by
            have h := hr1.at_ hlt
            rw [Nat.zero_add, hn] at h
            exact h
          obtain ⟨x0, x1⟩ := DF.out _ hq n hnl
          rw [hkn] at x0
          have yr := HU.out.cell _ hq.out
          have HNL := Lib.hid hnl
          have HKN := Lib.hid hkn
          obtain ⟨nm, hnm⟩ : ∃ x, x = L[n].name := ⟨_, rfl⟩
          have hin : true = isT L a nm := by rw [hnm]; exact (isT_chain hnl (by rw [HFM.out]; exact hmem)).symm
          have HNM := Lib.hid hnm
          have KI := Lib.hid (q_Is c SU.out HFIT.out a nm true hin)
          have DN : Hid (∀ W, Hid (QU R W) → W.cell? ⟨q, o + n * 11, none⟩ = some (.int .i64 2) ∧ W.cell? ⟨q, o + n * 11 + 1, none⟩ = some (.string nm)) := fun W h => by
            obtain ⟨h1, h2⟩ := DF.out _ h n HNL.out
            rw [HKN.out] at h1
            exact ⟨h1, h2.trans (congrArg (fun x => some (Value.string x)) HNM.out.symm)⟩
          replace x1 := x1.trans (congrArg (fun x => some (Value.string x)) hnm.symm)
          have z1 : (k : Int) < (C.length : Int) := by omega
          have hbd := LC.out
          have z2 : (0 : Int) ≤ (n : Int) := by omega
          have z3 : ¬ L.length ≤ n := by omega
          have z4 : (n : Int) < (L.length : Int) := by omega
          have HR1 : Hid (IRow B1 wr (some ⟨g, 0, none⟩) c1 C) := hr1
          have HR1d : Hid (IRow B1 wr.drew (some ⟨g, 0, none⟩) c1 C) := hr1
          have HLT := Lib.hid hlt
          have HN := Lib.hid hn
          have hq2 : Hid (QU R wr.drew) := Below.drew hq.out
          clear hmem hrng hn hkn hnm hin hr hr1
          go_wp2_with fail
          go_region_held3 (fun w' => w'.cell? ⟨w.heap.size, 0, none⟩ = some (.slice (some ⟨q, o, none⟩) L.length c) ∧ w'.cell? ⟨g, k, none⟩ = some (.int .i64 (n : Int)) ∧ w'.cell? ⟨q, o + n * 11, none⟩ = some (.int .i64 2) ∧ w'.cell? ⟨q, o + n * 11 + 1, none⟩ = some (.string nm))
            (first | exact ⟨yr2, xr2, (DN.out _ qn).1, (DN.out _ qn).2⟩ | exact ⟨yr, xr, x0, x1⟩)
            (first
              | (go_at_call 25; refine (KI.out _ (by first | exact hq | exact hq2)).mono ?_; rintro en wn ⟨rfl, qn, kn⟩; have rn : Hid (IRow B1 wn (some ⟨g, 0, none⟩) c1 C) := (by first | exact IRow.far HR1 kn | exact IRow.far HR1d kn); have yr2 := HU.out.cell _ qn.out; have xr2 : wn.cell? ⟨g, k, none⟩ = some (.int .i64 (n : Int)) := (by have h := rn.out.at_ HLT.out; rw [Nat.zero_add, HN.out] at h; exact h)))
          have HQN := Lib.hid qn.out
          clear yr yr2 xr xr2 x0 x1
          go_wp2_with fail
          go_roundw
          case rel => exact ⟨k + 1, by omega, by go_num, qn, ⟨_, rn.out⟩⟩
          case measure => simp [intOf]; omega
        · have z1 : ¬ (k : Int) < (C.length : Int) := by omega
          have yr := HU.out.cell _ hq.out
          go_wp2_with fail
          refine (KF.out _ hq).mono ?_
          rintro e11 w11 ⟨A2, c2, rfl, r11, q11, k11⟩
          clear KF k11 yr hq hr q10 r10 z1 z0 hk
          go_wp2_with fail
          go_loopw [18] (fun i wr => ∃ k : Nat, k ≤ F.length ∧ i = .int .i64 k ∧ Hid (QU R wr) ∧ Hid (∃ B, IRow B wr A2 c2 F)) (fun i _ => F.length - (intOf i).toNat)
          case atStart => exact ⟨0, Nat.zero_le _, rfl, q11, ⟨_, r11.out⟩⟩
          case round =>
            obtain ⟨k, hk, rfl, hq, hr⟩ := hrel
            have z0 : (0 : Int) ≤ (k : Int) := by omega
            by_cases hlt : k < F.length
            · obtain ⟨B1, hr1⟩ := hr.out
              have hmem : F[k] ∈ facesT L (m : Int) := by rw [← HF.out]; exact List.getElem_mem hlt
              have hrng := (facesT_met L (m : Int)).2 _ hmem
              obtain ⟨n, hn⟩ : ∃ n : Nat, F[k] = (n : Int) := ⟨F[k].toNat, by omega⟩
              rw [hn] at hrng hmem
              have hnl : n < L.length := by omega
              have hkn : L[n].kind = 1 := by
                have h := facesT_kind hmem
                rw [isOfT_of hnl] at h
                exact of_decide_eq_true h
              obtain ⟨g, rfl⟩ := hr1.isBlock (by omega)
              have xr : wr.cell? ⟨g, k, none⟩ = some (.int .i64 (n : Int)) := by
                have h := hr1.at_ hlt
                rw [Nat.zero_add, hn] at h
                exact h
              obtain ⟨x0, x1⟩ := DF.out _ hq n hnl
              rw [hkn] at x0
              have yr := HU.out.cell _ hq.out
              have HNL := Lib.hid hnl
              have HKN := Lib.hid hkn
              obtain ⟨nm, hnm⟩ : ∃ x, x = L[n].name := ⟨_, rfl⟩
              have hin : true = isT L a nm := by rw [hnm]; exact (isT_face hnl (by rw [HFM.out]; exact hmem)).symm
              have HNM := Lib.hid hnm
              have KI := Lib.hid (q_Is c SU.out HFIT.out a nm true hin)
              have DN : Hid (∀ W, Hid (QU R W) → W.cell? ⟨q, o + n * 11, none⟩ = some (.int .i64 1) ∧ W.cell? ⟨q, o + n * 11 + 1, none⟩ = some (.string nm)) := fun W h => by
                obtain ⟨h1, h2⟩ := DF.out _ h n HNL.out
                rw [HKN.out] at h1
                exact ⟨h1, h2.trans (congrArg (fun x => some (Value.string x)) HNM.out.symm)⟩
              replace x1 := x1.trans (congrArg (fun x => some (Value.string x)) hnm.symm)
              have z1 : (k : Int) < (F.length : Int) := by omega
              have hbd := LF.out
              have z2 : (0 : Int) ≤ (n : Int) := by omega
              have z3 : ¬ L.length ≤ n := by omega
              have z4 : (n : Int) < (L.length : Int) := by omega
              have HR1 : Hid (IRow B1 wr (some ⟨g, 0, none⟩) c2 F) := hr1
              have HR1d : Hid (IRow B1 wr.drew (some ⟨g, 0, none⟩) c2 F) := hr1
              have HLT := Lib.hid hlt
              have HN := Lib.hid hn
              have hq2 : Hid (QU R wr.drew) := Below.drew hq.out
              clear hmem hrng hn hkn hnm hin hr hr1
              go_wp2_with fail
              go_region_held3 (fun w' => w'.cell? ⟨w.heap.size, 0, none⟩ = some (.slice (some ⟨q, o, none⟩) L.length c) ∧ w'.cell? ⟨g, k, none⟩ = some (.int .i64 (n : Int)) ∧ w'.cell? ⟨q, o + n * 11, none⟩ = some (.int .i64 1) ∧ w'.cell? ⟨q, o + n * 11 + 1, none⟩ = some (.string nm))
                (first | exact ⟨yr2, xr2, (DN.out _ qn).1, (DN.out _ qn).2⟩ | exact ⟨yr, xr, x0, x1⟩)
                (first
                  | (go_at_call 25; refine (KI.out _ (by first | exact hq | exact hq2)).mono ?_; rintro en wn ⟨rfl, qn, kn⟩; have rn : Hid (IRow B1 wn (some ⟨g, 0, none⟩) c2 F) := (by first | exact IRow.far HR1 kn | exact IRow.far HR1d kn); have yr2 := HU.out.cell _ qn.out; have xr2 : wn.cell? ⟨g, k, none⟩ = some (.int .i64 (n : Int)) := (by have h := rn.out.at_ HLT.out; rw [Nat.zero_add, HN.out] at h; exact h)))
              have HQN := Lib.hid qn.out
              clear yr yr2 xr xr2 x0 x1
              go_wp2_with fail
              go_roundw
              case rel => exact ⟨k + 1, by omega, by go_num, qn, ⟨_, rn.out⟩⟩
              case measure => simp [intOf]; omega
            · have z1 : ¬ (k : Int) < (F.length : Int) := by omega
              have yr := HU.out.cell _ hq.out
              go_wp2_with fail
              obtain ⟨ibc, hbc⟩ : ∃ x, x = isT L b cn := ⟨_, rfl⟩
              obtain ⟨iac, hac⟩ : ∃ x, x = isT L a cn := ⟨_, rfl⟩
              have htr : iab = true → ibc = true → iac = true := fun h1 h2 => by rw [hac]; exact isT_trans (by rw [← HAB.out]; exact h1) (by rw [← hbc]; exact h2)
              have KX := Lib.hid (q_Is c SU.out HFIT.out a b iab HAB.out)
              have KY := Lib.hid (q_Is c SU.out HFIT.out b cn ibc hbc)
              have KZ := Lib.hid (q_Is c SU.out HFIT.out a cn iac hac)
              clear hbc hac
              refine (KX.out _ hq).mono ?_
              rintro e12 w12 ⟨rfl, q12, -⟩
              have y12 := HU.out.cell _ q12.out
              clear yr
              cases iab
              · go_wp2_with fail
                refine (KA.out _ q12).mono ?_
                rintro e13 w13 ⟨rfl, q13, -⟩
                go_wp2_with fail
                go_ret
                exact ⟨rfl, HU.out.out q13.out⟩
              · go_wp2_with fail
                refine (KY.out _ q12).mono ?_
                rintro e13 w13 ⟨rfl, q13, -⟩
                have y13 := HU.out.cell _ q13.out
                clear y12
                cases ibc
                · go_wp2_with fail
                  refine (KA.out _ q13).mono ?_
                  rintro e14 w14 ⟨rfl, q14, -⟩
                  go_wp2_with fail
                  go_ret
                  exact ⟨rfl, HU.out.out q14.out⟩
                · obtain rfl := htr (by first | rfl | trivial) (by first | rfl | trivial)
                  go_wp2_with fail
                  refine (KZ.out _ q13).mono ?_
                  rintro e14 w14 ⟨rfl, q14, -⟩
                  clear y13
                  go_wp2_with fail
                  refine (KA.out _ q14).mono ?_
                  rintro e15 w15 ⟨rfl, q15, -⟩
                  go_wp2_with fail
                  go_ret
                  exact ⟨rfl, HU.out.out q15.out⟩
end Go.Proofs.Ytkpieolmepngjaa
