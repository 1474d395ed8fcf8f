/-
  print's statements BY CONTRACTS: every statement, every list.
-/
import Derived.Test.YteijehmdabigeaaDoorPrSt3
namespace Go.Proofs.YteijehmdabigeaaDoor
open Go Go.RowKit

set_option maxHeartbeats 1000000 in
theorem st_5 (n : Int) (nm : ByteArray) (ex : List ET) (lb : List (List Int)) (bs : List (List ST)) (ih : ∀ (i : Nat) (hi : i < bs.length), LX bs[i]) (B b : Nat) (w : World) (q : Option Nat) (l : List ByteArray) (cs : List Value) (hl : LAt B w b q l) (hB : B ≤ w.heap.size) (hE : Env B w)
    (he : SIn w B (.mk 5 n nm ex lb bs) cs) (hfew : l.length + (tS (.mk 5 n nm ex lb bs)).length + 1 ≤ few) :
    Calls Tryd.prog 68 #[.pointer (some ⟨b, 0, none⟩), .agg cs.toArray] w (Put B w b q (l ++ tS (.mk 5 n nm ex lb bs))) := by
  obtain ⟨A1, c1, A2, c2, A3, c3, rfl, hn, h1, h2, h3⟩ := he.form
  have hT : tS (.mk 5 n nm ex lb bs) = tS (.mk 5 n nm ex lb bs) := rfl
  have hW : Below w.heap.size w (sC w 5 n nm A1 ex.length c1 A2 lb.length c2 A3 bs.length c3) := (Below.refl _ _).alloc (Nat.le_refl _) _
  have hBW : Below B w (sC w 5 n nm A1 ex.length c1 A2 lb.length c2 A3 bs.length c3) := hW.mono hB
  have H0 := Lib.hid (At.start (hl.below hW) (Nat.le_trans hB hW.size))
  have HP := Lib.hid (fun l' e w' => Put.base (l' := l') (e := e) (w' := w') hl hB hW)
  have HC := Lib.hid (fun w' q' l' (H : At B (sC w 5 n nm A1 ex.length c1 A2 lb.length c2 A3 bs.length c3) b q w' q' l') => copy_cell hl H)
  have HE := Lib.hid (hE.below hBW)
  have HF := Lib.hid hfew
  have HA := Lib.hid (fun (w' : World) (hb : Below B (sC w 5 n nm A1 ex.length c1 A2 lb.length c2 A3 bs.length c3) w') => EsR.mono (Nat.le_refl B) (hBW.trans hb).block h1)
  have HL := Lib.hid (fun (w' : World) (hb : Below B (sC w 5 n nm A1 ex.length c1 A2 lb.length c2 A3 bs.length c3) w') => LsR.mono (Nat.le_refl B) (hBW.trans hb).block h2)
  have HB := Lib.hid (fun (w' : World) (hb : Below B (sC w 5 n nm A1 ex.length c1 A2 lb.length c2 A3 bs.length c3) w') => BsR.mono (Nat.le_refl B) (hBW.trans hb).block h3)
  have HV := Lib.hid (fun (w' : World) (hb : Below B (sC w 5 n nm A1 ex.length c1 A2 lb.length c2 A3 bs.length c3) w') => he.mono (Nat.le_refl B) (hBW.trans hb).block)
  have ih := Lib.hid ih
  clear hl hB hE he h1 h2 h3 hfew hW hBW hT 
  go_enter Tryd.func68, Tryd.ntmps68
  go_wp2_with fail
  refine (branches_of n nm ex lb bs ih.out B b _ _ _ _ H0.out.at_ H0.out.size HE.out (HV.out _ H0.out.low) HF.out).mono ?_
  rintro e1 w1 ⟨rfl, q1, H1⟩
  have H1 := Lib.hid H1
  go_wp2_with fail
  go_end0
  have hz := HP.out _ _ _ H1.out.done
  simpa only [List.append_assoc, List.cons_append, List.nil_append, List.append_nil, List.singleton_append] using hz

set_option maxHeartbeats 1000000 in
theorem st_6 (n : Int) (nm : ByteArray) (ex : List ET) (lb : List (List Int)) (bs : List (List ST)) (ih : ∀ (i : Nat) (hi : i < bs.length), LX bs[i]) (B b : Nat) (w : World) (q : Option Nat) (l : List ByteArray) (cs : List Value) (hl : LAt B w b q l) (hB : B ≤ w.heap.size) (hE : Env B w)
    (he : SIn w B (.mk 6 n nm ex lb bs) cs) (hfew : l.length + (tS (.mk 6 n nm ex lb bs)).length + 1 ≤ few) :
    Calls Tryd.prog 68 #[.pointer (some ⟨b, 0, none⟩), .agg cs.toArray] w (Put B w b q (l ++ tS (.mk 6 n nm ex lb bs))) := by
  obtain ⟨A1, c1, A2, c2, A3, c3, rfl, hn, h1, h2, h3⟩ := he.form
  have hT : tS (.mk 6 n nm ex lb bs) = tS (.mk 6 n nm ex lb bs) := rfl
  have hW : Below w.heap.size w (sC w 6 n nm A1 ex.length c1 A2 lb.length c2 A3 bs.length c3) := (Below.refl _ _).alloc (Nat.le_refl _) _
  have hBW : Below B w (sC w 6 n nm A1 ex.length c1 A2 lb.length c2 A3 bs.length c3) := hW.mono hB
  have H0 := Lib.hid (At.start (hl.below hW) (Nat.le_trans hB hW.size))
  have HP := Lib.hid (fun l' e w' => Put.base (l' := l') (e := e) (w' := w') hl hB hW)
  have HC := Lib.hid (fun w' q' l' (H : At B (sC w 6 n nm A1 ex.length c1 A2 lb.length c2 A3 bs.length c3) b q w' q' l') => copy_cell hl H)
  have HE := Lib.hid (hE.below hBW)
  have HF := Lib.hid hfew
  have HA := Lib.hid (fun (w' : World) (hb : Below B (sC w 6 n nm A1 ex.length c1 A2 lb.length c2 A3 bs.length c3) w') => EsR.mono (Nat.le_refl B) (hBW.trans hb).block h1)
  have HL := Lib.hid (fun (w' : World) (hb : Below B (sC w 6 n nm A1 ex.length c1 A2 lb.length c2 A3 bs.length c3) w') => LsR.mono (Nat.le_refl B) (hBW.trans hb).block h2)
  have HB := Lib.hid (fun (w' : World) (hb : Below B (sC w 6 n nm A1 ex.length c1 A2 lb.length c2 A3 bs.length c3) w') => BsR.mono (Nat.le_refl B) (hBW.trans hb).block h3)
  have HV := Lib.hid (fun (w' : World) (hb : Below B (sC w 6 n nm A1 ex.length c1 A2 lb.length c2 A3 bs.length c3) w') => he.mono (Nat.le_refl B) (hBW.trans hb).block)
  have ih := Lib.hid ih
  clear hl hB hE he h1 h2 h3 hfew hW hBW hT 
  go_enter Tryd.func68, Tryd.ntmps68
  go_wp2_with fail
  refine (cases_of n nm ex lb bs ih.out B b _ _ _ _ H0.out.at_ H0.out.size HE.out (HV.out _ H0.out.low) HF.out).mono ?_
  rintro e1 w1 ⟨rfl, q1, H1⟩
  have H1 := Lib.hid H1
  go_wp2_with fail
  go_end0
  have hz := HP.out _ _ _ H1.out.done
  simpa only [List.append_assoc, List.cons_append, List.nil_append, List.append_nil, List.singleton_append] using hz

set_option maxHeartbeats 1000000 in
theorem st_7 (n : Int) (nm : ByteArray) (ex : List ET) (lb : List (List Int)) (bs : List (List ST)) (ih : ∀ (i : Nat) (hi : i < bs.length), LX bs[i]) (B b : Nat) (w : World) (q : Option Nat) (l : List ByteArray) (cs : List Value) (hl : LAt B w b q l) (hB : B ≤ w.heap.size) (hE : Env B w)
    (he : SIn w B (.mk 7 n nm ex lb bs) cs) (hfew : l.length + (tS (.mk 7 n nm ex lb bs)).length + 1 ≤ few) :
    Calls Tryd.prog 68 #[.pointer (some ⟨b, 0, none⟩), .agg cs.toArray] w (Put B w b q (l ++ tS (.mk 7 n nm ex lb bs))) := by
  obtain ⟨A1, c1, A2, c2, A3, c3, rfl, hn, h1, h2, h3⟩ := he.form
  have hT : tS (.mk 7 n nm ex lb bs) = tS (.mk 7 n nm ex lb bs) := rfl
  have hW : Below w.heap.size w (sC w 7 n nm A1 ex.length c1 A2 lb.length c2 A3 bs.length c3) := (Below.refl _ _).alloc (Nat.le_refl _) _
  have hBW : Below B w (sC w 7 n nm A1 ex.length c1 A2 lb.length c2 A3 bs.length c3) := hW.mono hB
  have H0 := Lib.hid (At.start (hl.below hW) (Nat.le_trans hB hW.size))
  have HP := Lib.hid (fun l' e w' => Put.base (l' := l') (e := e) (w' := w') hl hB hW)
  have HC := Lib.hid (fun w' q' l' (H : At B (sC w 7 n nm A1 ex.length c1 A2 lb.length c2 A3 bs.length c3) b q w' q' l') => copy_cell hl H)
  have HE := Lib.hid (hE.below hBW)
  have HF := Lib.hid hfew
  have HA := Lib.hid (fun (w' : World) (hb : Below B (sC w 7 n nm A1 ex.length c1 A2 lb.length c2 A3 bs.length c3) w') => EsR.mono (Nat.le_refl B) (hBW.trans hb).block h1)
  have HL := Lib.hid (fun (w' : World) (hb : Below B (sC w 7 n nm A1 ex.length c1 A2 lb.length c2 A3 bs.length c3) w') => LsR.mono (Nat.le_refl B) (hBW.trans hb).block h2)
  have HB := Lib.hid (fun (w' : World) (hb : Below B (sC w 7 n nm A1 ex.length c1 A2 lb.length c2 A3 bs.length c3) w') => BsR.mono (Nat.le_refl B) (hBW.trans hb).block h3)
  have HV := Lib.hid (fun (w' : World) (hb : Below B (sC w 7 n nm A1 ex.length c1 A2 lb.length c2 A3 bs.length c3) w') => he.mono (Nat.le_refl B) (hBW.trans hb).block)
  have ih := Lib.hid ih
  clear hl hB hE he h1 h2 h3 hfew hW hBW hT 
  go_enter Tryd.func68, Tryd.ntmps68
  go_wp2_with fail
  refine (while_of n nm ex lb bs ih.out B b _ _ _ _ H0.out.at_ H0.out.size HE.out (HV.out _ H0.out.low) HF.out).mono ?_
  rintro e1 w1 ⟨rfl, q1, H1⟩
  have H1 := Lib.hid H1
  go_wp2_with fail
  go_end0
  have hz := HP.out _ _ _ H1.out.done
  simpa only [List.append_assoc, List.cons_append, List.nil_append, List.append_nil, List.singleton_append] using hz

set_option maxHeartbeats 1000000 in
theorem st_8 (n : Int) (nm : ByteArray) (ex : List ET) (lb : List (List Int)) (bs : List (List ST)) (ih : ∀ (i : Nat) (hi : i < bs.length), LX bs[i]) (B b : Nat) (w : World) (q : Option Nat) (l : List ByteArray) (cs : List Value) (hl : LAt B w b q l) (hB : B ≤ w.heap.size) (hE : Env B w)
    (he : SIn w B (.mk 8 n nm ex lb bs) cs) (hfew : l.length + (tS (.mk 8 n nm ex lb bs)).length + 1 ≤ few) :
    Calls Tryd.prog 68 #[.pointer (some ⟨b, 0, none⟩), .agg cs.toArray] w (Put B w b q (l ++ tS (.mk 8 n nm ex lb bs))) := by
  obtain ⟨A1, c1, A2, c2, A3, c3, rfl, hn, h1, h2, h3⟩ := he.form
  have hT : tS (.mk 8 n nm ex lb bs) = tS (.mk 8 n nm ex lb bs) := rfl
  have hW : Below w.heap.size w (sC w 8 n nm A1 ex.length c1 A2 lb.length c2 A3 bs.length c3) := (Below.refl _ _).alloc (Nat.le_refl _) _
  have hBW : Below B w (sC w 8 n nm A1 ex.length c1 A2 lb.length c2 A3 bs.length c3) := hW.mono hB
  have H0 := Lib.hid (At.start (hl.below hW) (Nat.le_trans hB hW.size))
  have HP := Lib.hid (fun l' e w' => Put.base (l' := l') (e := e) (w' := w') hl hB hW)
  have HC := Lib.hid (fun w' q' l' (H : At B (sC w 8 n nm A1 ex.length c1 A2 lb.length c2 A3 bs.length c3) b q w' q' l') => copy_cell hl H)
  have HE := Lib.hid (hE.below hBW)
  have HF := Lib.hid hfew
  have HA := Lib.hid (fun (w' : World) (hb : Below B (sC w 8 n nm A1 ex.length c1 A2 lb.length c2 A3 bs.length c3) w') => EsR.mono (Nat.le_refl B) (hBW.trans hb).block h1)
  have HL := Lib.hid (fun (w' : World) (hb : Below B (sC w 8 n nm A1 ex.length c1 A2 lb.length c2 A3 bs.length c3) w') => LsR.mono (Nat.le_refl B) (hBW.trans hb).block h2)
  have HB := Lib.hid (fun (w' : World) (hb : Below B (sC w 8 n nm A1 ex.length c1 A2 lb.length c2 A3 bs.length c3) w') => BsR.mono (Nat.le_refl B) (hBW.trans hb).block h3)
  have HV := Lib.hid (fun (w' : World) (hb : Below B (sC w 8 n nm A1 ex.length c1 A2 lb.length c2 A3 bs.length c3) w') => he.mono (Nat.le_refl B) (hBW.trans hb).block)
  have ih := Lib.hid ih
  clear hl hB hE he h1 h2 h3 hfew hW hBW hT 
  go_enter Tryd.func68, Tryd.ntmps68
  go_wp2_with fail
  refine (for_of n nm ex lb bs ih.out B b _ _ _ _ H0.out.at_ H0.out.size HE.out (HV.out _ H0.out.low) HF.out).mono ?_
  rintro e1 w1 ⟨rfl, q1, H1⟩
  have H1 := Lib.hid H1
  go_wp2_with fail
  go_end0
  have hz := HP.out _ _ _ H1.out.done
  simpa only [List.append_assoc, List.cons_append, List.nil_append, List.append_nil, List.singleton_append] using hz

set_option maxHeartbeats 1000000 in
theorem st_11 (n : Int) (nm : ByteArray) (ex : List ET) (lb : List (List Int)) (bs : List (List ST)) (B b : Nat) (w : World) (q : Option Nat) (l : List ByteArray) (cs : List Value) (hl : LAt B w b q l) (hB : B ≤ w.heap.size) (hE : Env B w)
    (he : SIn w B (.mk 11 n nm ex lb bs) cs) (hfew : l.length + (tS (.mk 11 n nm ex lb bs)).length + 1 ≤ few) :
    Calls Tryd.prog 68 #[.pointer (some ⟨b, 0, none⟩), .agg cs.toArray] w (Put B w b q (l ++ tS (.mk 11 n nm ex lb bs))) := by
  obtain ⟨A1, c1, A2, c2, A3, c3, rfl, hn, h1, h2, h3⟩ := he.form
  have hT : tS (.mk 11 n nm ex lb bs) = tS (.mk 11 n nm ex lb bs) := rfl
  have hW : Below w.heap.size w (sC w 11 n nm A1 ex.length c1 A2 lb.length c2 A3 bs.length c3) := (Below.refl _ _).alloc (Nat.le_refl _) _
  have hBW : Below B w (sC w 11 n nm A1 ex.length c1 A2 lb.length c2 A3 bs.length c3) := hW.mono hB
  have H0 := Lib.hid (At.start (hl.below hW) (Nat.le_trans hB hW.size))
  have HP := Lib.hid (fun l' e w' => Put.base (l' := l') (e := e) (w' := w') hl hB hW)
  have HC := Lib.hid (fun w' q' l' (H : At B (sC w 11 n nm A1 ex.length c1 A2 lb.length c2 A3 bs.length c3) b q w' q' l') => copy_cell hl H)
  have HE := Lib.hid (hE.below hBW)
  have HF := Lib.hid hfew
  have HA := Lib.hid (fun (w' : World) (hb : Below B (sC w 11 n nm A1 ex.length c1 A2 lb.length c2 A3 bs.length c3) w') => EsR.mono (Nat.le_refl B) (hBW.trans hb).block h1)
  have HL := Lib.hid (fun (w' : World) (hb : Below B (sC w 11 n nm A1 ex.length c1 A2 lb.length c2 A3 bs.length c3) w') => LsR.mono (Nat.le_refl B) (hBW.trans hb).block h2)
  have HB := Lib.hid (fun (w' : World) (hb : Below B (sC w 11 n nm A1 ex.length c1 A2 lb.length c2 A3 bs.length c3) w') => BsR.mono (Nat.le_refl B) (hBW.trans hb).block h3)
  have HV := Lib.hid (fun (w' : World) (hb : Below B (sC w 11 n nm A1 ex.length c1 A2 lb.length c2 A3 bs.length c3) w') => he.mono (Nat.le_refl B) (hBW.trans hb).block)
  clear hl hB hE he h1 h2 h3 hfew hW hBW hT 
  go_enter Tryd.func68, Tryd.ntmps68
  go_wp2_with fail
  refine (step_of n nm ex lb bs B b _ _ _ _ H0.out.at_ H0.out.size HE.out (HV.out _ H0.out.low) HF.out).mono ?_
  rintro e1 w1 ⟨rfl, q1, H1⟩
  have H1 := Lib.hid H1
  go_wp2_with fail
  go_end0
  have hz := HP.out _ _ _ H1.out.done
  simpa only [List.append_assoc, List.cons_append, List.nil_append, List.append_nil, List.singleton_append] using hz

set_option maxHeartbeats 1000000 in
theorem st_9y (n : Int) (nm : ByteArray) (ex : List ET) (lb : List (List Int)) (bs : List (List ST)) (h0 : 0 < ex.length) (B b : Nat) (w : World) (q : Option Nat) (l : List ByteArray) (cs : List Value) (hl : LAt B w b q l) (hB : B ≤ w.heap.size) (hE : Env B w)
    (he : SIn w B (.mk 9 n nm ex lb bs) cs) (hfew : l.length + (tS (.mk 9 n nm ex lb bs)).length + 1 ≤ few) :
    Calls Tryd.prog 68 #[.pointer (some ⟨b, 0, none⟩), .agg cs.toArray] w (Put B w b q (l ++ tS (.mk 9 n nm ex lb bs))) := by
  obtain ⟨A1, c1, A2, c2, A3, c3, rfl, hn, h1, h2, h3⟩ := he.form
  have hT : tS (.mk 9 n nm ex lb bs) = ⟨#[82, 69, 84, 85, 82, 78]⟩ :: tE (nthE ex 0) := by rw [tS]; simp [tSk, h0]
  rw [hT] at hfew ⊢
  have hW : Below w.heap.size w (sC w 9 n nm A1 ex.length c1 A2 lb.length c2 A3 bs.length c3) := (Below.refl _ _).alloc (Nat.le_refl _) _
  have hBW : Below B w (sC w 9 n nm A1 ex.length c1 A2 lb.length c2 A3 bs.length c3) := hW.mono hB
  have H0 := Lib.hid (At.start (hl.below hW) (Nat.le_trans hB hW.size))
  have HP := Lib.hid (fun l' e w' => Put.base (l' := l') (e := e) (w' := w') hl hB hW)
  have HC := Lib.hid (fun w' q' l' (H : At B (sC w 9 n nm A1 ex.length c1 A2 lb.length c2 A3 bs.length c3) b q w' q' l') => copy_cell hl H)
  have HE := Lib.hid (hE.below hBW)
  have HF := Lib.hid hfew
  have HA := Lib.hid (fun (w' : World) (hb : Below B (sC w 9 n nm A1 ex.length c1 A2 lb.length c2 A3 bs.length c3) w') => EsR.mono (Nat.le_refl B) (hBW.trans hb).block h1)
  have HL := Lib.hid (fun (w' : World) (hb : Below B (sC w 9 n nm A1 ex.length c1 A2 lb.length c2 A3 bs.length c3) w') => LsR.mono (Nat.le_refl B) (hBW.trans hb).block h2)
  have HB := Lib.hid (fun (w' : World) (hb : Below B (sC w 9 n nm A1 ex.length c1 A2 lb.length c2 A3 bs.length c3) w') => BsR.mono (Nat.le_refl B) (hBW.trans hb).block h3)
  have HV := Lib.hid (fun (w' : World) (hb : Below B (sC w 9 n nm A1 ex.length c1 A2 lb.length c2 A3 bs.length c3) w') => he.mono (Nat.le_refl B) (hBW.trans hb).block)
  have hz : 0 < (ex.length : Int) := by omega
  have hz2 : decide (0 < ex.length) = true := by simp [h0]
  clear hl hB hE he h1 h2 h3 hfew hW hBW hT 
  go_enter Tryd.func68, Tryd.ntmps68
  go_wp2_with fail
  refine (put1 H0.out ⟨#[82, 69, 84, 85, 82, 78]⟩ (by have hf := HF.out; first | omega | (simp only [List.length_append, List.length_cons, List.length_nil] at hf ⊢; omega)) _ (by first | rfl | simp)).mono ?_
  rintro e1 w1 ⟨rfl, q1, H1⟩
  have z0 := HC.out _ _ _ H1 0 _ rfl
  have z1 := HC.out _ _ _ H1 1 _ rfl
  have z2 := HC.out _ _ _ H1 2 _ rfl
  have z3 := HC.out _ _ _ H1 3 _ rfl
  have z4 := HC.out _ _ _ H1 4 _ rfl
  have z5 := HC.out _ _ _ H1 5 _ rfl
  have H1 := Lib.hid H1
  obtain ⟨g, o, cs, hA, hg, hlen, hc, he⟩ := HA.out _ H1.out.low 0 h0
  subst hA
  have ee : nthE ex 0 = ex[0] := by simp [nthE, h0]
  rw [← ee] at he
  obtain ⟨k, m, nm2, wh, args, hM⟩ : ∃ k m nm2 wh args, nthE ex 0 = .mk k m nm2 wh args := by cases nthE ex 0; exact ⟨_, _, _, _, _, rfl⟩
  rw [hM] at he
  have E1 := Lib.hid he
  have HM : Hid (tE (.mk k m nm2 wh args) = tE (nthE ex 0)) := by rw [hM]; exact rfl
  have HF : Hid (l.length + (⟨#[82, 69, 84, 85, 82, 78]⟩ :: tE (.mk k m nm2 wh args)).length + 1 ≤ few) := by have := HF.out; rw [← HM.out] at this; exact this
  clear ee hM
  have KX := Lib.hid (ex_all (.mk k m nm2 wh args))
  obtain ⟨A', c', rfl, _, _⟩ := he.form
  have y0 := hc 0 _ rfl
  have y1 := hc 1 _ rfl
  have y2 := hc 2 _ rfl
  have y3 := hc 3 _ rfl
  have y4 := hc 4 _ rfl
  simp only [Nat.zero_mul, Nat.add_zero] at y0 y1 y2 y3 y4
  clear hc he hlen h0
  go_wp2_with fail
  refine (EX.at_ KX.out H1.out HE.out E1.out (by have hf := HF.out; first | omega | (simp only [List.length_append, List.length_cons, List.length_nil] at hf ⊢; omega))).mono ?_
  rintro e2 w2 ⟨rfl, q2, H2⟩
  clear z0 z1 z2 z3 z4 z5
  have z0 := HC.out _ _ _ H2 0 _ rfl
  have z1 := HC.out _ _ _ H2 1 _ rfl
  have z2 := HC.out _ _ _ H2 2 _ rfl
  have z3 := HC.out _ _ _ H2 3 _ rfl
  have z4 := HC.out _ _ _ H2 4 _ rfl
  have z5 := HC.out _ _ _ H2 5 _ rfl
  have H2 := Lib.hid H2
  go_wp2_with fail
  go_end0
  have hz := H2.out.done
  rw [HM.out] at hz
  have hz := HP.out _ _ _ hz
  simpa only [List.append_assoc, List.cons_append, List.nil_append, List.append_nil, List.singleton_append] using hz

set_option maxHeartbeats 1000000 in
theorem st_other (k n : Int) (nm : ByteArray) (ex : List ET) (lb : List (List Int)) (bs : List (List ST)) (hk : k < 1 ∨ 11 < k) : SX (.mk k n nm ex lb bs) := by
  intro B b w q l cs hl hB hE he hfew
  have g1 : (k == 1) = false := by simp; omega
  have g2 : (k == 2) = false := by simp; omega
  have g3 : (k == 3) = false := by simp; omega
  have g4 : (k == 4) = false := by simp; omega
  have g5 : (k == 5) = false := by simp; omega
  have g6 : (k == 6) = false := by simp; omega
  have g7 : (k == 7) = false := by simp; omega
  have g8 : (k == 8) = false := by simp; omega
  have g9 : (k == 9) = false := by simp; omega
  have g10 : (k == 10) = false := by simp; omega
  have g11 : (k == 11) = false := by simp; omega
  obtain ⟨A1, c1, A2, c2, A3, c3, rfl, hn, h1, h2, h3⟩ := he.form
  have hT : tS (.mk k n nm ex lb bs) = [⟨#[63]⟩] := by rw [tS]; unfold tSk; repeat (rw [if_neg (by omega)])
  rw [hT] at hfew ⊢
  have hW : Below w.heap.size w (sC w k n nm A1 ex.length c1 A2 lb.length c2 A3 bs.length c3) := (Below.refl _ _).alloc (Nat.le_refl _) _
  have hBW : Below B w (sC w k n nm A1 ex.length c1 A2 lb.length c2 A3 bs.length c3) := hW.mono hB
  have H0 := Lib.hid (At.start (hl.below hW) (Nat.le_trans hB hW.size))
  have HP := Lib.hid (fun l' e w' => Put.base (l' := l') (e := e) (w' := w') hl hB hW)
  have HC := Lib.hid (fun w' q' l' (H : At B (sC w k n nm A1 ex.length c1 A2 lb.length c2 A3 bs.length c3) b q w' q' l') => copy_cell hl H)
  have HE := Lib.hid (hE.below hBW)
  have HF := Lib.hid hfew
  have HA := Lib.hid (fun (w' : World) (hb : Below B (sC w k n nm A1 ex.length c1 A2 lb.length c2 A3 bs.length c3) w') => EsR.mono (Nat.le_refl B) (hBW.trans hb).block h1)
  have HL := Lib.hid (fun (w' : World) (hb : Below B (sC w k n nm A1 ex.length c1 A2 lb.length c2 A3 bs.length c3) w') => LsR.mono (Nat.le_refl B) (hBW.trans hb).block h2)
  have HB := Lib.hid (fun (w' : World) (hb : Below B (sC w k n nm A1 ex.length c1 A2 lb.length c2 A3 bs.length c3) w') => BsR.mono (Nat.le_refl B) (hBW.trans hb).block h3)
  have HV := Lib.hid (fun (w' : World) (hb : Below B (sC w k n nm A1 ex.length c1 A2 lb.length c2 A3 bs.length c3) w') => he.mono (Nat.le_refl B) (hBW.trans hb).block)
  clear hl hB hE he h1 h2 h3 hfew hW hBW hT hk
  go_enter Tryd.func68, Tryd.ntmps68
  go_wp2_with fail
  refine (put1 H0.out ⟨#[63]⟩ (by have hf := HF.out; first | omega | (simp only [List.length_append, List.length_cons, List.length_nil] at hf ⊢; omega)) _ (by first | rfl | simp)).mono ?_
  rintro e1 w1 ⟨rfl, q1, H1⟩
  have H1 := Lib.hid H1
  go_wp2_with fail
  go_end0
  have hz := HP.out _ _ _ H1.out.done
  simpa only [List.append_assoc, List.cons_append, List.nil_append, List.append_nil, List.singleton_append] using hz

theorem st_mk (k n : Int) (nm : ByteArray) (ex : List ET) (lb : List (List Int)) (bs : List (List ST)) (ih : ∀ (i : Nat) (hi : i < bs.length), LX bs[i]) : SX (.mk k n nm ex lb bs) := by
  by_cases h : k < 1 ∨ 11 < k
  · exact st_other k n nm ex lb bs h
  · intro B b w q l cs hl hB hE he hfew
    have : k = 1 ∨ k = 2 ∨ k = 3 ∨ k = 4 ∨ k = 5 ∨ k = 6 ∨ k = 7 ∨ k = 8 ∨ k = 9 ∨ k = 10 ∨ k = 11 := by omega
    rcases this with rfl | rfl | rfl | rfl | rfl | rfl | rfl | rfl | rfl | rfl | rfl
    · exact st_1 n nm ex lb bs B b w q l cs hl hB hE he hfew
    · exact st_2 n nm ex lb bs B b w q l cs hl hB hE he hfew
    · exact st_3 n nm ex lb bs B b w q l cs hl hB hE he hfew
    · exact st_4 n nm ex lb bs B b w q l cs hl hB hE he hfew
    · exact st_5 n nm ex lb bs ih B b w q l cs hl hB hE he hfew
    · exact st_6 n nm ex lb bs ih B b w q l cs hl hB hE he hfew
    · exact st_7 n nm ex lb bs ih B b w q l cs hl hB hE he hfew
    · exact st_8 n nm ex lb bs ih B b w q l cs hl hB hE he hfew
    · by_cases h0 : ex.length = 0
      · exact st_9n n nm ex lb bs h0 B b w q l cs hl hB hE he hfew
      · exact st_9y n nm ex lb bs (by omega) B b w q l cs hl hB hE he hfew
    · exact st_10 n nm ex lb bs B b w q l cs hl hB hE he hfew
    · exact st_11 n nm ex lb bs B b w q l cs hl hB hE he hfew
mutual
theorem sx_all : ∀ s : ST, SX s
  | .mk k n nm ex lb bs => st_mk k n nm ex lb bs (bxs_all bs)
theorem sxs_all : ∀ (l : List ST) (k : Nat) (hk : k < l.length), SX l[k]
  | a :: r, 0, _ => sx_all a
  | a :: r, k + 1, hk => sxs_all r k (by simpa using hk)
theorem bxs_all : ∀ (l : List (List ST)) (k : Nat) (hk : k < l.length), LX l[k]
  | a :: r, 0, _ => lx_of a (sxs_all a)
  | a :: r, k + 1, hk => bxs_all r k (by simpa using hk)
end
theorem lx_all (L : List ST) : LX L := lx_of L (sxs_all L)
end Go.Proofs.YteijehmdabigeaaDoor
