/-
  governorlaw0: GreatUnit BY A CONTRACT, over units of whatever size: some answer, nothing changed; what is not great is Fit.
-/
import Derived.Test.YtmbddofcildibaaK12
import Derived.Test.YtmbddofcildibaaK2
namespace Go.Proofs.Ytmbddofcildibaa
open Go Go.RowKit
set_option linter.unusedVariables false
set_option linter.unusedSimpArgs false

/-- what GreatUnit asks of a declaration's texts. -/
def SmallD (d : DT) : Prop := (d.name.size : Int) ≤ 60 ∧ (d.base.size : Int) ≤ 60 ∧ (d.faces.length : Int) ≤ 8 ∧ ∀ f ∈ d.faces, (f.size : Int) ≤ 60
theorem fit_small {L : List DT} (hl : L.length ≤ 16) (h : ∀ (j : Nat) (hj : j < L.length), SmallD L[j]) : Fit L := by
  have hd : ∀ d ∈ L, SmallD d := fun d hd => by
    obtain ⟨j, hj, rfl⟩ := List.getElem_of_mem hd
    exact h j hj
  refine ⟨by omega, fun d h => ?_, fun d h => ?_, fun d h => ?_, fun d h f hf => ?_⟩ <;> have h1 := hd d h
  · have := h1.1; omega
  · have := h1.2.2.1; omega
  · have := h1.2.1; omega
  · have := h1.2.2.2 f hf; omega

set_option maxHeartbeats 4000000 in
set_option maxRecDepth 100000 in
theorem greatUnit_full (L : List DT) (A : Option Addr) (c : Nat) (most : Int) (w : World) (ha : DsR w w.heap.size A L) (hl : L.length ≤ 9223372036854775807) (ho : ∀ (i : Nat) (hi : i < L.length), OD L[i]) :
    Calls Try.prog 12 #[.agg #[.slice A L.length c], .int .i64 most] w (GreatF L w) := by
  have hcnt := hl
  have HU : Hid (∀ w', Below (w.alloc (.cells #[.slice A L.length c] 24)).heap.size (w.alloc (.cells #[.slice A L.length c] 24)) w' → w'.cell? ⟨w.heap.size, 0, none⟩ = some (.slice A L.length c)) := fun w' h => news_cell h 0 _ rfl
  have HA : Hid (∀ w', Below (w.alloc (.cells #[.slice A L.length c] 24)).heap.size (w.alloc (.cells #[.slice A L.length c] 24)) w' → DsR w' w.heap.size A L) := fun w' h => DsR.mono (Nat.le_refl _) (((Below.refl w.heap.size w).alloc (Nat.le_refl _) _).trans (h.mono (by simp))).block ha
  have HW0 : Hid (∀ w', Below (w.alloc (.cells #[.slice A L.length c] 24)).heap.size (w.alloc (.cells #[.slice A L.length c] 24)) w' → Below w.heap.size w w') := fun w' h => ((Below.refl w.heap.size w).alloc (Nat.le_refl _) _).trans (h.mono (by simp))
  have HO := Lib.hid ho
  clear ha hl ho
  go_enter Try.func12, Try.ntmps12
  go_wp2_with fail
  go_loopw [5, 6] (fun m i wr => ∃ (k : Nat) (n : Int), k ≤ L.length ∧ m = .int .i64 n ∧ i = .int .i64 k ∧ Hid (Below (w.alloc (.cells #[.slice A L.length c] 24)).heap.size (w.alloc (.cells #[.slice A L.length c] 24)) wr) ∧ Hid (∀ (j : Nat) (hj : j < L.length), j < k → SmallD L[j])) (fun _ i _ => L.length - (intOf i).toNat)
  case atStart => exact ⟨0, 0, Nat.zero_le _, rfl, rfl, Below.refl _ _, fun j _ h => absurd h (Nat.not_lt_zero j)⟩
  case round =>
    obtain ⟨R, hR⟩ : ∃ R : World, R = wr := ⟨_, rfl⟩
    subst hR
    obtain ⟨k, n, hk, rfl, rfl, hb, hq⟩ := hrel
    have u0 := HU.out _ hb.out
    have h2 : (0 : Int) ≤ (k : Int) := by omega
    have HZ := Lib.hid (HW0.out _ hb.out)
    by_cases hlt : k < L.length <;> by_cases p2 : (L.length : Int) ≤ 16 <;> by_cases p3 : n ≤ most
    · have h1 : (k : Int) < (L.length : Int) := by omega
      obtain ⟨g, o, cs, rfl, hg, hlen, hc, he⟩ := HA.out _ hb.out k hlt
      have hwk := HO.out k hlt
      obtain ⟨⟨kind, name, base, faces, ab, fin, vars, methods, body, every, first⟩, hN⟩ : ∃ d : DT, d = L[k] := ⟨_, rfl⟩
      have HN := Lib.hid hN
      rw [← hN] at he hwk
      obtain ⟨A1, c1, A2, c2, A3, c3, A4, c4, rfl, hev, hfi, r1, r2, r3, r4⟩ := he
      have y0 := hc 0 _ rfl
      have y1 := hc 1 _ rfl
      have y2 := hc 2 _ rfl
      have y3 := hc 3 _ rfl
      have y4 := hc 4 _ rfl
      have y5 := hc 5 _ rfl
      have y6 := hc 6 _ rfl
      have y7 := hc 7 _ rfl
      have y8 := hc 8 _ rfl
      have y9 := hc 9 _ rfl
      have y10 := hc 10 _ rfl
      rw [Nat.add_zero] at y0
      by_cases q1 : (60 : Int) < (name.size : Int)
      · clear hc hlen hg hN hev hfi r1 r2 r3 r4 hwk
        go_wp2_with fail
        go_ret
        exact ⟨⟨_, rfl, fun hr => by first | cases hr | (exfalso; simp at hr; omega) | (exfalso; simp at hr)⟩, HZ.out.alloc HZ.out.size _⟩
      by_cases q2 : (60 : Int) < (base.size : Int)
      · clear hc hlen hg hN hev hfi r1 r2 r3 r4 hwk
        go_wp2_with fail
        go_ret
        exact ⟨⟨_, rfl, fun hr => by first | cases hr | (exfalso; simp at hr; omega) | (exfalso; simp at hr)⟩, HZ.out.alloc HZ.out.size _⟩
      have hzs := HZ.out.size
      obtain ⟨R1, hR1⟩ : ∃ R1 : World, R1 = (R.alloc (.cells #[.int .i64 kind, .string name, .string base, .slice A1 faces.length c1, .bool ab, .bool fin, .slice A2 vars.length c2, .slice A3 methods.length c3, .slice A4 body.length c4, .int .i64 every, .int .i64 first] 47)) := ⟨_, rfl⟩
      have hR2 : Below R.heap.size R R1 := by rw [hR1]; exact (Below.refl _ _).alloc (Nat.le_refl _) _
      have HT : Hid (∀ W, Below R1.heap.size R1 W → Below R.heap.size R W) := fun W h => hR2.trans (h.mono hR2.size)
      have hle : ∀ W, Below R.heap.size R W → w.heap.size ≤ W.heap.size := fun W h => Nat.le_trans hzs h.size
      have hbl : ∀ W, Below R.heap.size R W → ∀ g, g < w.heap.size → W.heap[g]? = R.heap[g]? := fun W h g hg => h.block g (by omega)
      have hmc : methods.length ≤ 9223372036854775807 := hwk.methods
      have HD : Hid (∀ W, Hid (Below R1.heap.size R1 W) → W.cell? ⟨R.heap.size, 6, none⟩ = some (.slice A2 vars.length c2) ∧ W.cell? ⟨R.heap.size, 7, none⟩ = some (.slice A3 methods.length c3) ∧ W.cell? ⟨R.heap.size, 8, none⟩ = some (.slice A4 body.length c4)) := fun W h => by
        rw [hR1] at h
        exact ⟨news_cell h.out 6 _ rfl, news_cell h.out 7 _ rfl, news_cell h.out 8 _ rfl⟩
      have HD1 : Hid (R1.cell? ⟨R.heap.size, 1, none⟩ = some (.string name) ∧ R1.cell? ⟨R.heap.size, 2, none⟩ = some (.string base) ∧ R1.cell? ⟨R.heap.size, 3, none⟩ = some (.slice A1 faces.length c1)) := by
        rw [hR1]
        exact ⟨news_cell (Below.refl _ _) 1 _ rfl, news_cell (Below.refl _ _) 2 _ rfl, news_cell (Below.refl _ _) 3 _ rfl⟩
      have KF : Hid (Calls Try.prog 43 #[.slice A1 faces.length c1, .int .i64 8, .int .i64 60] R1 (TextsB faces 8 60 R1)) := greatTexts_full faces A1 c1 8 60 R1 (XsR.mono (hle _ hR2) (hbl _ hR2) r1) hwk.faces
      have KV : Hid (∀ W (m : Int), Hid (Below R1.heap.size R1 W) → Calls Try.prog 44 #[.slice A2 vars.length c2, .int .i64 m] W fun e w' => (∃ n : Int, e = .returned (.int .i64 n)) ∧ (w'.cell? ⟨R.heap.size, 6, none⟩ = some (.slice A2 vars.length c2) ∧ w'.cell? ⟨R.heap.size, 8, none⟩ = some (.slice A4 body.length c4)) ∧ Hid (Below R1.heap.size R1 w')) := fun W m h =>
        (vars_full vars A2 c2 m W (VsR.mono (hle W (HT.out _ h.out)) (hbl W (HT.out _ h.out)) r2) hwk.vars).mono fun e w' hh => by
          have hz : Hid (Below R1.heap.size R1 w') := h.out.trans (hh.2.mono h.out.size)
          have hd := HD.out w' hz
          exact ⟨hh.1, ⟨hd.1, hd.2.2⟩, hz⟩
      have KB : Hid (∀ W (m : Int), Hid (Below R1.heap.size R1 W) → Calls Try.prog 45 #[.slice A4 body.length c4, .int .i64 m] W fun e w' => (∃ n : Int, e = .returned (.int .i64 n)) ∧ (w'.cell? ⟨R.heap.size, 6, none⟩ = some (.slice A2 vars.length c2) ∧ w'.cell? ⟨R.heap.size, 8, none⟩ = some (.slice A4 body.length c4)) ∧ Hid (Below R1.heap.size R1 w')) := fun W m h =>
        (gso_all body hwk.body hwk.stmts A4 c4 m W (SsR.mono (hle W (HT.out _ h.out)) (hbl W (HT.out _ h.out)) r4)).mono fun e w' hh => by
          have hz : Hid (Below R1.heap.size R1 w') := h.out.trans (hh.2.mono h.out.size)
          have hd := HD.out w' hz
          exact ⟨hh.1, ⟨hd.1, hd.2.2⟩, hz⟩
      have HM : Hid (∀ W, Below R.heap.size R W → MsR W w.heap.size A3 methods) := fun W h => MsR.mono (Nat.le_refl _) (hbl W h) r3
      have HWM : Hid (∀ (i : Nat) (hi : i < methods.length), OM methods[i]) := hwk.each
      have HR1 := Lib.hid hR1
      clear HA HO
      clear hc hlen hg hN hev hfi r1 r2 r3 r4 hwk hzs hle hbl hR2 hR1
      go_wp2_with fail
      rw [← HR1.out]
      refine KF.out.mono ?_
      rintro e1 w1 ⟨⟨r, rfl, hrt⟩, hb1⟩
      have HB1 : Hid (Below R1.heap.size R1 w1) := hb1
      obtain ⟨x6, x7, x8⟩ := HD.out _ HB1
      clear hb1 KF HD1 y0 y1 y2 y3 y4 y5 y6 y7 y8 y9 y10
      cases r
      · have HK : Hid (∀ (j : Nat) (hj : j < L.length), j < k + 1 → SmallD L[j]) := fun j hj h => by
          rcases Nat.lt_or_ge j k with h3 | h3
          · exact hq.out j hj h3
          · obtain rfl : j = k := by omega
            rw [← HN.out]
            exact ⟨by show (name.size : Int) ≤ 60; omega, by show (base.size : Int) ≤ 60; omega, (hrt.out rfl).1, (hrt.out rfl).2⟩
        clear hrt HN hq
        go_wp2_with fail
        go_region_held3 (fun w' => w'.cell? ⟨R.heap.size, 6, none⟩ = some (.slice A2 vars.length c2) ∧ w'.cell? ⟨R.heap.size, 8, none⟩ = some (.slice A4 body.length c4) ∧ Hid (Below R1.heap.size R1 w'))
          (first | exact ⟨x6, x8, Below.drew HB1⟩ | exact ⟨by assumption, by assumption, by assumption⟩ | exact ⟨by assumption, by assumption, Below.drew (by assumption)⟩)
          (first
            | (go_at_call 44; refine (KV.out _ _ ?_).mono ?_; (first | assumption | exact Below.drew HB1 | exact HB1); rintro e2 w2 ⟨⟨r2, rfl⟩, ⟨v6, v8⟩, HB2⟩)
            | (go_at_call 45; refine (KB.out _ _ ?_).mono ?_; (first | assumption | exact Below.drew HB1 | exact HB1); rintro e3 w3 ⟨⟨r3, rfl⟩, ⟨u6, u8⟩, HB3⟩))
        clear x6 x7 x8 v6 v8 u6 u8 HB2
        go_wp2_with fail
        go_loopw [5, 8] (fun m j w4 => ∃ (a : Nat) (n2 : Int), a ≤ methods.length ∧ m = .int .i64 n2 ∧ j = .int .i64 a ∧ Hid (Below R1.heap.size R1 w4)) (fun _ j _ => methods.length - (intOf j).toNat)
        case atStart => exact ⟨0, _, Nat.zero_le _, rfl, rfl, by first | exact HB3 | exact Below.drew HB3⟩
        case round =>
          obtain ⟨R2, hR2⟩ : ∃ R2 : World, R2 = wr := ⟨_, rfl⟩
          subst hR2
          obtain ⟨a, n2, ha, rfl, rfl, hb4⟩ := hrel
          obtain ⟨z6, z7, z8⟩ := HD.out _ hb4
          have h0 : (0 : Int) ≤ (a : Int) := by omega
          have HZ4 : Hid (Below w.heap.size w R2) := HZ.out.trans ((HT.out _ hb4.out).mono HZ.out.size)
          by_cases t1 : a < methods.length <;> by_cases t2 : n2 ≤ most
          · obtain ⟨g2, o2, cs2, rfl, hg2, hlen2, hc2, he2⟩ := HM.out _ (HT.out _ hb4.out) a t1
            have hwm := HWM.out a t1
            obtain ⟨⟨mn, mo, ma, mf, mp, mr, mv, mb⟩, hN⟩ : ∃ m : MT, m = methods[a] := ⟨_, rfl⟩
            rw [← hN] at he2 hwm
            obtain ⟨B1, d1, B2, d2, B3, d3, rfl, hwf, r1, r2, r3⟩ := he2
            have q0 : (a : Int) < (methods.length : Int) := by omega
            have y0 := hc2 0 _ rfl
            have y1 := hc2 1 _ rfl
            have y2 := hc2 2 _ rfl
            have y3 := hc2 3 _ rfl
            have y4 := hc2 4 _ rfl
            have y5 := hc2 5 _ rfl
            have y6 := hc2 6 _ rfl
            have y7 := hc2 7 _ rfl
            have y8 := hc2 8 _ rfl
            have y9 := hc2 9 _ rfl
            have y10 := hc2 10 _ rfl
            rw [Nat.add_zero] at y0
            by_cases q1 : (60 : Int) < (mn.size : Int)
            · clear hc2 hlen2 hg2 hN hwf r1 r2 r3 hwm
              go_wp2_with fail
              go_ret
              exact ⟨⟨_, rfl, fun hr => by first | cases hr | (exfalso; simp at hr; omega) | (exfalso; simp at hr)⟩, HZ4.out.alloc HZ4.out.size _⟩
            by_cases q2 : (60 : Int) < (mr.name.size : Int)
            · clear hc2 hlen2 hg2 hN hwf r1 r2 r3 hwm
              go_wp2_with fail
              go_ret
              exact ⟨⟨_, rfl, fun hr => by first | cases hr | (exfalso; simp at hr; omega) | (exfalso; simp at hr)⟩, HZ4.out.alloc HZ4.out.size _⟩
            obtain ⟨R4, hR4⟩ : ∃ R4 : World, R4 = (R2.alloc (.cells #[.string mn, .bool mo, .bool ma, .bool mf, .slice B1 mp.length d1, .int .i64 mr.kind, .int .i64 mr.lo, .int .i64 mr.hi, .string mr.name, .slice B2 mv.length d2, .slice B3 mb.length d3] 52)) := ⟨_, rfl⟩
            have hR5 : Below R2.heap.size R2 R4 := by rw [hR4]; exact (Below.refl _ _).alloc (Nat.le_refl _) _
            have hzs := HZ4.out.size
            have hT4 : ∀ W, Below R4.heap.size R4 W → Below R2.heap.size R2 W := fun W h => hR5.trans (h.mono hR5.size)
            have hle : ∀ W, Below R2.heap.size R2 W → w.heap.size ≤ W.heap.size := fun W h => Nat.le_trans hzs h.size
            have hbl : ∀ W, Below R2.heap.size R2 W → ∀ g, g < w.heap.size → W.heap[g]? = R2.heap[g]? := fun W h g hg => h.block g (by omega)
            have HD4 : Hid (∀ W, Hid (Below R4.heap.size R4 W) → W.cell? ⟨R2.heap.size, 4, none⟩ = some (.slice B1 mp.length d1) ∧ W.cell? ⟨R2.heap.size, 9, none⟩ = some (.slice B2 mv.length d2) ∧ W.cell? ⟨R2.heap.size, 10, none⟩ = some (.slice B3 mb.length d3)) := fun W h => by
              rw [hR4] at h
              exact ⟨news_cell h.out 4 _ rfl, news_cell h.out 9 _ rfl, news_cell h.out 10 _ rfl⟩
            have KP : Hid (∀ W (m : Int) (X : Option Addr) (n c : Nat), ((X = B1 ∧ n = mp.length ∧ c = d1) ∨ (X = B2 ∧ n = mv.length ∧ c = d2)) → Hid (Below R4.heap.size R4 W) → Calls Try.prog 44 #[.slice X n c, .int .i64 m] W fun e w' => (∃ n : Int, e = .returned (.int .i64 n)) ∧ (w'.cell? ⟨R2.heap.size, 4, none⟩ = some (.slice B1 mp.length d1) ∧ w'.cell? ⟨R2.heap.size, 9, none⟩ = some (.slice B2 mv.length d2) ∧ w'.cell? ⟨R2.heap.size, 10, none⟩ = some (.slice B3 mb.length d3)) ∧ Hid (Below R4.heap.size R4 w')) := fun W m X n c hx h =>
              (by
                rcases hx with ⟨rfl, rfl, rfl⟩ | ⟨rfl, rfl, rfl⟩
                · exact vars_full mp _ _ m W (VsR.mono (hle W (hT4 _ h.out)) (hbl W (hT4 _ h.out)) r1) hwm.params
                · exact vars_full mv _ _ m W (VsR.mono (hle W (hT4 _ h.out)) (hbl W (hT4 _ h.out)) r2) hwm.vars : Calls Try.prog 44 #[.slice X n c, .int .i64 m] W (SomeN W)).mono fun e w' hh => by
                have hz : Hid (Below R4.heap.size R4 w') := h.out.trans (hh.2.mono h.out.size)
                exact ⟨hh.1, HD4.out w' hz, hz⟩
            have KS : Hid (∀ W (m : Int), Hid (Below R4.heap.size R4 W) → Calls Try.prog 45 #[.slice B3 mb.length d3, .int .i64 m] W fun e w' => (∃ n : Int, e = .returned (.int .i64 n)) ∧ (w'.cell? ⟨R2.heap.size, 4, none⟩ = some (.slice B1 mp.length d1) ∧ w'.cell? ⟨R2.heap.size, 9, none⟩ = some (.slice B2 mv.length d2) ∧ w'.cell? ⟨R2.heap.size, 10, none⟩ = some (.slice B3 mb.length d3)) ∧ Hid (Below R4.heap.size R4 w')) := fun W m h =>
              (gso_all mb hwm.body hwm.stmts B3 d3 m W (SsR.mono (hle W (hT4 _ h.out)) (hbl W (hT4 _ h.out)) r3)).mono fun e w' hh => by
                have hz : Hid (Below R4.heap.size R4 w') := h.out.trans (hh.2.mono h.out.size)
                exact ⟨hh.1, HD4.out w' hz, hz⟩
            have HX4 : Hid (∀ W, Hid (Below R4.heap.size R4 W) → Hid (Below R1.heap.size R1 W)) := fun W h => hb4.out.trans ((hT4 _ h.out).mono hb4.out.size)
            have HB4 : Hid (Below R4.heap.size R4 R4) := Below.refl _ _
            obtain ⟨x4, x9, x10⟩ := HD4.out _ HB4
            have p0 : R4.cell? ⟨R2.heap.size, 0, none⟩ = some (.string mn) := by rw [hR4]; exact news_cell (Below.refl _ _) 0 _ rfl
            have p8 : R4.cell? ⟨R2.heap.size, 8, none⟩ = some (.string mr.name) := by rw [hR4]; exact news_cell (Below.refl _ _) 8 _ rfl
            have HR4 := Lib.hid hR4
            have hs4 : R4.heap.size = R2.heap.size + 1 := by rw [hR4]; simp
            clear hc2 hlen2 hg2 hN hwf r1 r2 r3 hwm hR5 hzs hT4 hle hbl hR4
            go_wp2_with (rw [← HR4.out])
            clear p0 p8 z6 z7 z8 y0 y1 y2 y3 y4 y5 y6 y7 y8 y9 y10
            go_region_held3 (fun w' => w'.cell? ⟨R2.heap.size, 4, none⟩ = some (.slice B1 mp.length d1) ∧ w'.cell? ⟨R2.heap.size, 9, none⟩ = some (.slice B2 mv.length d2) ∧ w'.cell? ⟨R2.heap.size, 10, none⟩ = some (.slice B3 mb.length d3) ∧ Hid (Below R4.heap.size R4 w'))
              (first | exact ⟨x4, x9, x10, Below.drew HB4⟩ | exact ⟨by assumption, by assumption, by assumption, by assumption⟩ | exact ⟨by assumption, by assumption, by assumption, Below.drew (by assumption)⟩)
              (first
                | (go_at_call 44; refine (KP.out _ _ _ _ _ ?_ ?_).mono ?_; (first | exact .inl ⟨rfl, rfl, rfl⟩ | exact .inr ⟨rfl, rfl, rfl⟩); (first | assumption | exact Below.drew HB4); rintro e5 w5 ⟨⟨s5, rfl⟩, ⟨a4, a9, a10⟩, HB5⟩)
                | (go_at_call 45; refine (KS.out _ _ ?_).mono ?_; (first | assumption | exact Below.drew HB4); rintro e7 w7 ⟨⟨s7, rfl⟩, ⟨c4, c9, c10⟩, HB7⟩))
            have HZ8 := HX4.out _ (by assumption)
            go_wp2_with fail
            go_roundw
            case rel => exact ⟨a + 1, _, by omega, rfl, by go_num, HZ8⟩
            case measure => simp [intOf]; omega
          all_goals
            try have q0 : (a : Int) < (methods.length : Int) := by omega
            try have q0 : ¬ (a : Int) < (methods.length : Int) := by omega
            clear t1
            have HZ5 : Hid (Below (w.alloc (.cells #[.slice (some ⟨g, o, none⟩) L.length c] 24)).heap.size (w.alloc (.cells #[.slice (some ⟨g, o, none⟩) L.length c] 24)) R2) := hb.out.trans ((HT.out _ hb4.out).mono hb.out.size)
            go_wp2_with fail
            go_roundw
            case rel => exact ⟨k + 1, _, by omega, rfl, by go_num, HZ5, HK⟩
            case measure => simp [intOf]; omega
      · have HZ1 : Hid (Below w.heap.size w w1) := HZ.out.trans ((HT.out _ HB1.out).mono HZ.out.size)
        go_wp2_with fail
        go_ret
        exact ⟨⟨_, rfl, fun hr => by first | cases hr | (exfalso; simp at hr; omega) | (exfalso; simp at hr)⟩, HZ1.out⟩
    all_goals
      try have HX : Hid (Fit L) := fit_small (by omega) fun j hj => hq.out j hj (by omega)
      try have q1 : (k : Int) < (L.length : Int) := by omega
      try have q1 : ¬ (k : Int) < (L.length : Int) := by omega
      clear hlt
      go_wp2_with fail
      go_ret
      exact ⟨⟨_, rfl, fun hr => by first | exact HX.out | cases hr | (exfalso; simp at hr; omega) | (exfalso; simp at hr)⟩, HZ.out⟩
end Go.Proofs.Ytmbddofcildibaa
