/-
  print's statements BY CONTRACTS: CASE, RETURN with an expression; every statement, every list.
-/
import Derived.Test.YteijehmdabigeaaDoorPrSt2
namespace Go.Proofs.YteijehmdabigeaaDoor
open Go Go.RowKit

set_option maxHeartbeats 1000000 in
theorem cases_of (n : Int) (nm : ByteArray) (ex : List ET) (lb : List (List Int)) (bs : List (List ST)) (ih : ∀ (i : Nat) (hi : i < bs.length), LX bs[i]) (B b : Nat) (w : World) (q : Option Nat) (l : List ByteArray) (cs : List Value) (hl : LAt B w b q l) (hB : B ≤ w.heap.size) (hE : Env B w)
    (he : SIn w B (.mk 6 n nm ex lb bs) cs) (hfew : l.length + (tS (.mk 6 n nm ex lb bs)).length + 1 ≤ few) :
    Calls Tryd.prog 76 #[.pointer (some ⟨b, 0, none⟩), .agg cs.toArray] w (Put B w b q (l ++ tS (.mk 6 n nm ex lb bs))) := by
  obtain ⟨A1, c1, A2, c2, A3, c3, rfl, hn, h1, h2, h3⟩ := he.form
  have hT : tS (.mk 6 n nm ex lb bs) = ⟨#[67, 65, 83, 69]⟩ :: tE (nthE ex 0) ++ [⟨#[79, 70]⟩] ++ (List.range lb.length).flatMap (tCase lb bs) ++ tElse (tL (bs.getD lb.length [])) ++ [⟨#[69, 78, 68, 95, 67, 65, 83, 69]⟩] := by rw [tCase_eq, ← tBs_nth, tS]; rfl
  rw [hT] at hfew ⊢
  have hW : Below w.heap.size w (sC w 6 n nm A1 ex.length c1 A2 lb.length c2 A3 bs.length c3) := (Below.refl _ _).alloc (Nat.le_refl _) _
  have hBW : Below B w (sC w 6 n nm A1 ex.length c1 A2 lb.length c2 A3 bs.length c3) := hW.mono hB
  have H0 := Lib.hid (At.start (hl.below hW) (Nat.le_trans hB hW.size))
  have HP := Lib.hid (fun l' e w' => Put.base (l' := l') (e := e) (w' := w') hl hB hW)
  have HC := Lib.hid (fun w' q' l' (H : At B (sC w 6 n nm A1 ex.length c1 A2 lb.length c2 A3 bs.length c3) b q w' q' l') => copy_cell hl H)
  have HE := Lib.hid (hE.below hBW)
  have HF := Lib.hid hfew
  have HA := Lib.hid (fun (w' : World) (hb : Below B (sC w 6 n nm A1 ex.length c1 A2 lb.length c2 A3 bs.length c3) w') => EsR.mono (Nat.le_refl B) (hBW.trans hb).block h1)
  have HL := Lib.hid (fun (w' : World) (hb : Below B (sC w 6 n nm A1 ex.length c1 A2 lb.length c2 A3 bs.length c3) w') => LsR.mono (Nat.le_refl B) (hBW.trans hb).block h2)
  have HB := Lib.hid (fun (w' : World) (hb : Below B (sC w 6 n nm A1 ex.length c1 A2 lb.length c2 A3 bs.length c3) w') => BsR.mono (Nat.le_refl B) (hBW.trans hb).block h3)
  have HV := Lib.hid (fun (w' : World) (hb : Below B (sC w 6 n nm A1 ex.length c1 A2 lb.length c2 A3 bs.length c3) w') => he.mono (Nat.le_refl B) (hBW.trans hb).block)
  have KL := Lib.hid (fun i => nthB_ih ih i)
  have hcnt := range_len (tCase lb bs) (fun i => by simp [tCase]; omega) lb.length
  have hcnt : lb.length ≤ 1000000000 := by have := HF.out; unfold few at this; simp only [List.length_append] at this; omega
  have hmf := hmf
  clear hl hB hE he h1 h2 h3 hfew hW hBW hT ih
  go_enter Tryd.func76, Tryd.ntmps76
  go_wp2_with fail
  refine (put1 H0.out ⟨#[67, 65, 83, 69]⟩ (by have hf := HF.out; first | omega | (simp only [List.length_append, List.length_cons, List.length_nil] at hf ⊢; omega)) _ (by first | rfl | simp)).mono ?_
  rintro e1 w1 ⟨rfl, q1, H1⟩
  have z0 := HC.out _ _ _ H1 0 _ rfl
  have z1 := HC.out _ _ _ H1 1 _ rfl
  have z2 := HC.out _ _ _ H1 2 _ rfl
  have z3 := HC.out _ _ _ H1 3 _ rfl
  have z4 := HC.out _ _ _ H1 4 _ rfl
  have z5 := HC.out _ _ _ H1 5 _ rfl
  have H1 := Lib.hid H1
  go_wp2_with fail
  refine (nthE_0 ex c1 A1 _ B (HA.out _ H1.out.low) H1.out.size).mono ?_
  rintro e2 w2 ⟨cs2, rfl, he2, hb2⟩
  have E2 := Lib.hid he2
  have H2 := H1.out.new hb2
  clear z0 z1 z2 z3 z4 z5
  have z0 := HC.out _ _ _ H2 0 _ rfl
  have z1 := HC.out _ _ _ H2 1 _ rfl
  have z2 := HC.out _ _ _ H2 2 _ rfl
  have z3 := HC.out _ _ _ H2 3 _ rfl
  have z4 := HC.out _ _ _ H2 4 _ rfl
  have z5 := HC.out _ _ _ H2 5 _ rfl
  have H2 := Lib.hid H2
  clear he2 hb2
  go_wp2_with fail
  refine (EX.at_ (ex_all (nthE ex 0)) H2.out HE.out E2.out (by have hf := HF.out; first | omega | (simp only [List.length_append, List.length_cons, List.length_nil] at hf ⊢; omega))).mono ?_
  rintro e3 w3 ⟨rfl, q3, H3⟩
  clear z0 z1 z2 z3 z4 z5
  have z0 := HC.out _ _ _ H3 0 _ rfl
  have z1 := HC.out _ _ _ H3 1 _ rfl
  have z2 := HC.out _ _ _ H3 2 _ rfl
  have z3 := HC.out _ _ _ H3 3 _ rfl
  have z4 := HC.out _ _ _ H3 4 _ rfl
  have z5 := HC.out _ _ _ H3 5 _ rfl
  have H3 := Lib.hid H3
  go_wp2_with fail
  refine (put1 H3.out ⟨#[79, 70]⟩ (by have hf := HF.out; first | omega | (simp only [List.length_append, List.length_cons, List.length_nil] at hf ⊢; omega)) _ (by first | rfl | simp)).mono ?_
  rintro e4 w4 ⟨rfl, q4, H4⟩
  clear z0 z1 z2 z3 z4 z5
  have z0 := HC.out _ _ _ H4 0 _ rfl
  have z1 := HC.out _ _ _ H4 1 _ rfl
  have z2 := HC.out _ _ _ H4 2 _ rfl
  have z3 := HC.out _ _ _ H4 3 _ rfl
  have z4 := HC.out _ _ _ H4 4 _ rfl
  have z5 := HC.out _ _ _ H4 5 _ rfl
  have H4 := Lib.hid H4
  go_wp2_with fail
  go_loopw [20] (fun i wr => ∃ k : Nat, k ≤ lb.length ∧ i = .int .i64 k ∧ Hid (∃ q', At B (sC w 6 n nm A1 ex.length c1 A2 lb.length c2 A3 bs.length c3) b q wr q' (l ++ [⟨#[67, 65, 83, 69]⟩] ++ tE (nthE ex 0) ++ [⟨#[79, 70]⟩] ++ (List.range k).flatMap (tCase lb bs)))) (fun i _ => lb.length - (intOf i).toNat)
  case atStart => exact ⟨0, Nat.zero_le _, rfl, _, by simpa using H4.out⟩
  case round =>
    clear z0 z1 z2 z3 z4 z5
    obtain ⟨k, hk, rfl, hx⟩ := hrel
    obtain ⟨q', Hr⟩ := hx.out
    clear hx H0
    have z0 := HC.out _ _ _ Hr 0 _ rfl
    have z1 := HC.out _ _ _ Hr 1 _ rfl
    have z2 := HC.out _ _ _ Hr 2 _ rfl
    have z3 := HC.out _ _ _ Hr 3 _ rfl
    have z4 := HC.out _ _ _ Hr 4 _ rfl
    have z5 := HC.out _ _ _ Hr 5 _ rfl
    have H0 := Lib.hid Hr
    by_cases hlt : k < lb.length
    · have e2 := Lib.hid (range_succ_flat (tCase lb bs) k)
      have e3 := range_flat_le (tCase lb bs) hlt
      have eL : lb.getD k [] = lb[k] := by simp [hlt]
      have hI : Hid (tCase lb bs k = sep (lb[k].map tInt) ++ [⟨#[58]⟩] ++ tL (bs.getD k [])) := by unfold tCase; rw [eL]; exact rfl
      have HF : Hid (l.length + 1 + (tE (nthE ex 0)).length + 1 + ((List.range k).flatMap (tCase lb bs)).length + (tCase lb bs k).length + 1 ≤ few) := by have := HF.out; simp only [List.length_append, List.length_cons, List.length_nil] at this; unfold Hid; omega
      rw [hI.out] at HF
      obtain ⟨g, o, cs, rfl, hg, hlen, hc, A4, c4, rfl, he4⟩ := HL.out wr Hr.low k hlt
      have y0 := hc 0 _ rfl
      simp only [Nat.mul_one, Nat.add_zero] at y0
      have HR := Lib.hid he4
      have h1 : (k : Int) < (lb.length : Int) := by omega
      have h2 : (0 : Int) ≤ (k : Int) := by omega
      clear e3 Hr eL hc he4 hlen
      go_wp2_with fail
      refine (partedN_at H0.out HE.out HR.out (by have hf := HF.out; first | omega | (simp only [List.length_append, List.length_cons, List.length_nil] at hf ⊢; omega))).mono ?_
      rintro e1 w1 ⟨rfl, q1, H1⟩
      clear z0 z1 z2 z3 z4 z5
      have z0 := HC.out _ _ _ H1 0 _ rfl
      have z1 := HC.out _ _ _ H1 1 _ rfl
      have z2 := HC.out _ _ _ H1 2 _ rfl
      have z3 := HC.out _ _ _ H1 3 _ rfl
      have z4 := HC.out _ _ _ H1 4 _ rfl
      have z5 := HC.out _ _ _ H1 5 _ rfl
      have H1 := Lib.hid H1
      go_wp2_with fail
      refine (put1 H1.out ⟨#[58]⟩ (by have hf := HF.out; first | omega | (simp only [List.length_append, List.length_cons, List.length_nil] at hf ⊢; omega)) _ (by first | rfl | simp)).mono ?_
      rintro e2 w2 ⟨rfl, q2, H2⟩
      clear z0 z1 z2 z3 z4 z5
      have z0 := HC.out _ _ _ H2 0 _ rfl
      have z1 := HC.out _ _ _ H2 1 _ rfl
      have z2 := HC.out _ _ _ H2 2 _ rfl
      have z3 := HC.out _ _ _ H2 3 _ rfl
      have z4 := HC.out _ _ _ H2 4 _ rfl
      have z5 := HC.out _ _ _ H2 5 _ rfl
      have H2 := Lib.hid H2
      go_wp2_with fail
      refine (nthB_any bs k c3 A3 _ B (HB.out _ H2.out.low)).mono ?_
      rintro e3 w3 ⟨A3, c3, rfl, he3, hb3⟩
      have E3 := Lib.hid he3
      have H3 := H2.out.new hb3
      clear z0 z1 z2 z3 z4 z5
      have z0 := HC.out _ _ _ H3 0 _ rfl
      have z1 := HC.out _ _ _ H3 1 _ rfl
      have z2 := HC.out _ _ _ H3 2 _ rfl
      have z3 := HC.out _ _ _ H3 3 _ rfl
      have z4 := HC.out _ _ _ H3 4 _ rfl
      have z5 := HC.out _ _ _ H3 5 _ rfl
      have H3 := Lib.hid H3
      clear he3 hb3
      go_wp2_with fail
      refine (LX.at_ (KL.out k) H3.out HE.out E3.out (by have hf := HF.out; first | omega | (simp only [List.length_append, List.length_cons, List.length_nil] at hf ⊢; omega))).mono ?_
      rintro e4 w4 ⟨rfl, q4, H4⟩
      clear z0 z1 z2 z3 z4 z5
      have z0 := HC.out _ _ _ H4 0 _ rfl
      have z1 := HC.out _ _ _ H4 1 _ rfl
      have z2 := HC.out _ _ _ H4 2 _ rfl
      have z3 := HC.out _ _ _ H4 3 _ rfl
      have z4 := HC.out _ _ _ H4 4 _ rfl
      have z5 := HC.out _ _ _ H4 5 _ rfl
      have H4 := Lib.hid H4
      have E2 := e2.out
      have hz := H4.out
      rw [hI.out] at E2
      simp only [List.append_assoc, List.cons_append, List.nil_append] at hz E2
      have HZ : Hid (∃ q', At B _ b q w4 q' (l ++ [⟨#[67, 65, 83, 69]⟩] ++ tE (nthE ex 0) ++ [⟨#[79, 70]⟩] ++ (List.range (k + 1)).flatMap (tCase lb bs))) := ⟨_, by
        rw [E2]
        simpa only [List.append_assoc, List.cons_append, List.nil_append, List.append_nil, List.singleton_append] using hz⟩
      clear hz E2 z0 z1 z2 z3 z4 z5
      go_wp2_with fail
      go_roundw
      case rel => exact ⟨k + 1, by omega, by go_num, HZ.out⟩
      case measure => simp [intOf]; omega
    · have h1 : ¬ (k : Int) < (lb.length : Int) := by omega
      have hk2 : k = lb.length := by omega
      have HF : Hid (l.length + 1 + (tE (nthE ex 0)).length + 1 + ((List.range k).flatMap (tCase lb bs)).length + (tElse (tL (bs.getD k []))).length + 1 + 1 ≤ few) := by have := HF.out; rw [← hk2] at this; simp only [List.length_append, List.length_cons, List.length_nil] at this; unfold Hid; omega
      have KN : Hid (∀ W, BsR W B A3 bs → Calls Tryd.prog 84 #[.slice A3 bs.length c3, .int .i64 lb.length] W (NthB W B bs k)) := fun W hh => by rw [← hk2]; exact nthB_any bs k c3 A3 W B hh
      have HP : Hid (∀ e w', Put B (sC w 6 n nm A1 ex.length c1 A2 lb.length c2 A3 bs.length c3) b q (l ++ [⟨#[67, 65, 83, 69]⟩] ++ tE (nthE ex 0) ++ [⟨#[79, 70]⟩] ++ (List.range k).flatMap (tCase lb bs) ++ tElse (tL (bs.getD k [])) ++ [⟨#[69, 78, 68, 95, 67, 65, 83, 69]⟩]) e w' → Put B w b q (l ++ (⟨#[67, 65, 83, 69]⟩ :: tE (nthE ex 0) ++ [⟨#[79, 70]⟩] ++ (List.range lb.length).flatMap (tCase lb bs) ++ tElse (tL (bs.getD lb.length [])) ++ [⟨#[69, 78, 68, 95, 67, 65, 83, 69]⟩])) e w') := fun e w' hh => by
        rw [← hk2]
        refine HP.out _ _ _ ?_
        simpa only [List.append_assoc, List.cons_append, List.nil_append, List.append_nil, List.singleton_append] using hh
      clear Hr hlt hk2
      go_wp2_with fail
      refine (KN.out _ (HB.out _ H0.out.low)).mono ?_
      rintro e1 w1 ⟨A1, c1, rfl, he1, hb1⟩
      have E1 := Lib.hid he1
      have H1 := H0.out.new hb1
      clear z0 z1 z2 z3 z4 z5
      have z0 := HC.out _ _ _ H1 0 _ rfl
      have z1 := HC.out _ _ _ H1 1 _ rfl
      have z2 := HC.out _ _ _ H1 2 _ rfl
      have z3 := HC.out _ _ _ H1 3 _ rfl
      have z4 := HC.out _ _ _ H1 4 _ rfl
      have z5 := HC.out _ _ _ H1 5 _ rfl
      have H1 := Lib.hid H1
      clear he1 hb1
      go_wp2_with fail
      refine (otherwise_any (KL.out k) H1.out HE.out E1.out (by have hf := HF.out; first | omega | (simp only [List.length_append, List.length_cons, List.length_nil] at hf ⊢; omega))).mono ?_
      rintro e2 w2 ⟨rfl, q2, H2⟩
      clear z0 z1 z2 z3 z4 z5
      have z0 := HC.out _ _ _ H2 0 _ rfl
      have z1 := HC.out _ _ _ H2 1 _ rfl
      have z2 := HC.out _ _ _ H2 2 _ rfl
      have z3 := HC.out _ _ _ H2 3 _ rfl
      have z4 := HC.out _ _ _ H2 4 _ rfl
      have z5 := HC.out _ _ _ H2 5 _ rfl
      have H2 := Lib.hid H2
      go_wp2_with fail
      refine (put1 H2.out ⟨#[69, 78, 68, 95, 67, 65, 83, 69]⟩ (by have hf := HF.out; first | omega | (simp only [List.length_append, List.length_cons, List.length_nil] at hf ⊢; omega)) _ (by first | rfl | simp)).mono ?_
      rintro e3 w3 ⟨rfl, q3, H3⟩
      clear z0 z1 z2 z3 z4 z5
      have z0 := HC.out _ _ _ H3 0 _ rfl
      have z1 := HC.out _ _ _ H3 1 _ rfl
      have z2 := HC.out _ _ _ H3 2 _ rfl
      have z3 := HC.out _ _ _ H3 3 _ rfl
      have z4 := HC.out _ _ _ H3 4 _ rfl
      have z5 := HC.out _ _ _ H3 5 _ rfl
      have H3 := Lib.hid H3
      go_wp2_with fail
      go_end0
      exact HP.out _ _ H3.out.done
end Go.Proofs.YteijehmdabigeaaDoor
