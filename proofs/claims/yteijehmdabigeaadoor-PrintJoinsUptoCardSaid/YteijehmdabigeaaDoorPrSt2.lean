/-
  print's statements BY CONTRACTS: RETURN, IF, CASE, WHILE, FOR; every statement, every list.
-/
import Derived.Test.YteijehmdabigeaaDoorPrSt
namespace Go.Proofs.YteijehmdabigeaaDoor
open Go Go.RowKit

theorem partedN_at {L : List Int} {B b : Nat} {w0 w : World} {q0 q : Option Nat} {l : List ByteArray} {A : Option Addr} {c : Nat} (H : At B w0 b q0 w q l) (hE : Env B w0) (ha : NsR w B A L) (hl : l.length + (sep (L.map tInt)).length + 1 ≤ few) :
    Calls Tryd.prog 86 #[.pointer (some ⟨b, 0, none⟩), .slice A L.length c, .func (.func 44) #[.pointer (some ⟨b, 0, none⟩)] #[]] w (Put B w0 b q0 (l ++ sep (L.map tInt))) :=
  (partedN_of L B b w q l A c H.at_ H.size (hE.below H.low) ha hl).mono fun _ _ hh => H.lift hh
theorem range_succ_flat (f : Nat → List ByteArray) (k : Nat) : (List.range (k + 1)).flatMap f = (List.range k).flatMap f ++ f k := by
  rw [List.range_succ, List.flatMap_append, List.flatMap_cons, List.flatMap_nil, List.append_nil]
theorem range_flat_le (f : Nat → List ByteArray) {k P : Nat} (h : k < P) : ((List.range k).flatMap f).length + (f k).length ≤ ((List.range P).flatMap f).length := by
  have := flat_take_le f (List.range P) (k := k) (by simpa using h)
  rw [List.take_range, Nat.min_eq_left (by omega)] at this
  simpa using this
theorem range_len (f : Nat → List ByteArray) (hf : ∀ i, 1 ≤ (f i).length) (P : Nat) : P ≤ ((List.range P).flatMap f).length := by
  have := flat_len f hf (List.range P)
  simpa using this
/-- an alternative of an IF; of a CASE. -/
def tIf (ex : List ET) (bs : List (List ST)) (i : Nat) : List ByteArray := (if i = 0 then ⟨#[73, 70]⟩ else ⟨#[69, 76, 83, 73, 70]⟩) :: tE (nthE ex i) ++ [⟨#[84, 72, 69, 78]⟩] ++ tL (bs.getD i [])
def tCase (lb : List (List Int)) (bs : List (List ST)) (i : Nat) : List ByteArray := sep ((lb.getD i []).map tInt) ++ [⟨#[58]⟩] ++ tL (bs.getD i [])
theorem tIf_eq (ex : List ET) (bs : List (List ST)) : tIf ex bs = fun i => (if i = 0 then ⟨#[73, 70]⟩ else ⟨#[69, 76, 83, 73, 70]⟩) :: tE (nthE ex i) ++ [⟨#[84, 72, 69, 78]⟩] ++ (tBs bs).getD i [] := by
  funext i
  rw [tBs_nth]
  rfl
theorem tCase_eq (lb : List (List Int)) (bs : List (List ST)) : tCase lb bs = fun i => sep ((lb.getD i []).map tInt) ++ [⟨#[58]⟩] ++ (tBs bs).getD i [] := by
  funext i
  rw [tBs_nth]
  rfl

set_option maxHeartbeats 1000000 in
theorem while_of (n : Int) (nm : ByteArray) (ex : List ET) (lb : List (List Int)) (bs : List (List ST)) (ih : ∀ (i : Nat) (hi : i < bs.length), LX bs[i]) (B b : Nat) (w : World) (q : Option Nat) (l : List ByteArray) (cs : List Value) (hl : LAt B w b q l) (hB : B ≤ w.heap.size) (hE : Env B w)
    (he : SIn w B (.mk 7 n nm ex lb bs) cs) (hfew : l.length + (tS (.mk 7 n nm ex lb bs)).length + 1 ≤ few) :
    Calls Tryd.prog 77 #[.pointer (some ⟨b, 0, none⟩), .agg cs.toArray] w (Put B w b q (l ++ tS (.mk 7 n nm ex lb bs))) := by
  obtain ⟨A1, c1, A2, c2, A3, c3, rfl, hn, h1, h2, h3⟩ := he.form
  have hT : tS (.mk 7 n nm ex lb bs) = ⟨#[87, 72, 73, 76, 69]⟩ :: tE (nthE ex 0) ++ [⟨#[68, 79]⟩] ++ tL (bs.getD 0 []) ++ [⟨#[69, 78, 68, 95, 87, 72, 73, 76, 69]⟩] := by rw [← tBs_nth, tS]; rfl
  rw [hT] at hfew ⊢
  have hW : Below w.heap.size w (sC w 7 n nm A1 ex.length c1 A2 lb.length c2 A3 bs.length c3) := (Below.refl _ _).alloc (Nat.le_refl _) _
  have hBW : Below B w (sC w 7 n nm A1 ex.length c1 A2 lb.length c2 A3 bs.length c3) := hW.mono hB
  have H0 := Lib.hid (At.start (hl.below hW) (Nat.le_trans hB hW.size))
  have HP := Lib.hid (fun l' e w' => Put.base (l' := l') (e := e) (w' := w') hl hB hW)
  have HC := Lib.hid (fun w' q' l' (H : At B (sC w 7 n nm A1 ex.length c1 A2 lb.length c2 A3 bs.length c3) b q w' q' l') => copy_cell hl H)
  have HE := Lib.hid (hE.below hBW)
  have HF := Lib.hid hfew
  have HA := Lib.hid (fun (w' : World) (hb : Below B (sC w 7 n nm A1 ex.length c1 A2 lb.length c2 A3 bs.length c3) w') => EsR.mono (Nat.le_refl B) (hBW.trans hb).block h1)
  have HL := Lib.hid (fun (w' : World) (hb : Below B (sC w 7 n nm A1 ex.length c1 A2 lb.length c2 A3 bs.length c3) w') => LsR.mono (Nat.le_refl B) (hBW.trans hb).block h2)
  have HB := Lib.hid (fun (w' : World) (hb : Below B (sC w 7 n nm A1 ex.length c1 A2 lb.length c2 A3 bs.length c3) w') => BsR.mono (Nat.le_refl B) (hBW.trans hb).block h3)
  have HV := Lib.hid (fun (w' : World) (hb : Below B (sC w 7 n nm A1 ex.length c1 A2 lb.length c2 A3 bs.length c3) w') => he.mono (Nat.le_refl B) (hBW.trans hb).block)
  have KL := Lib.hid (fun i => nthB_ih ih i)
  clear hl hB hE he h1 h2 h3 hfew hW hBW hT ih
  go_enter Tryd.func77, Tryd.ntmps77
  go_wp2_with fail
  refine (put1 H0.out ⟨#[87, 72, 73, 76, 69]⟩ (by have hf := HF.out; first | omega | (simp only [List.length_append, List.length_cons, List.length_nil] at hf ⊢; omega)) _ (by first | rfl | simp)).mono ?_
  rintro e1 w1 ⟨rfl, q1, H1⟩
  have z0 := HC.out _ _ _ H1 0 _ rfl
  have z1 := HC.out _ _ _ H1 1 _ rfl
  have z2 := HC.out _ _ _ H1 2 _ rfl
  have z3 := HC.out _ _ _ H1 3 _ rfl
  have z4 := HC.out _ _ _ H1 4 _ rfl
  have z5 := HC.out _ _ _ H1 5 _ rfl
  have H1 := Lib.hid H1
  go_wp2_with fail
  refine (nthE_0 ex c1 A1 _ B (HA.out _ H1.out.low) H1.out.size).mono ?_
  rintro e2 w2 ⟨cs2, rfl, he2, hb2⟩
  have E2 := Lib.hid he2
  have H2 := H1.out.new hb2
  clear z0 z1 z2 z3 z4 z5
  have z0 := HC.out _ _ _ H2 0 _ rfl
  have z1 := HC.out _ _ _ H2 1 _ rfl
  have z2 := HC.out _ _ _ H2 2 _ rfl
  have z3 := HC.out _ _ _ H2 3 _ rfl
  have z4 := HC.out _ _ _ H2 4 _ rfl
  have z5 := HC.out _ _ _ H2 5 _ rfl
  have H2 := Lib.hid H2
  clear he2 hb2
  go_wp2_with fail
  refine (EX.at_ (ex_all (nthE ex 0)) H2.out HE.out E2.out (by have hf := HF.out; first | omega | (simp only [List.length_append, List.length_cons, List.length_nil] at hf ⊢; omega))).mono ?_
  rintro e3 w3 ⟨rfl, q3, H3⟩
  clear z0 z1 z2 z3 z4 z5
  have z0 := HC.out _ _ _ H3 0 _ rfl
  have z1 := HC.out _ _ _ H3 1 _ rfl
  have z2 := HC.out _ _ _ H3 2 _ rfl
  have z3 := HC.out _ _ _ H3 3 _ rfl
  have z4 := HC.out _ _ _ H3 4 _ rfl
  have z5 := HC.out _ _ _ H3 5 _ rfl
  have H3 := Lib.hid H3
  go_wp2_with fail
  refine (put1 H3.out ⟨#[68, 79]⟩ (by have hf := HF.out; first | omega | (simp only [List.length_append, List.length_cons, List.length_nil] at hf ⊢; omega)) _ (by first | rfl | simp)).mono ?_
  rintro e4 w4 ⟨rfl, q4, H4⟩
  clear z0 z1 z2 z3 z4 z5
  have z0 := HC.out _ _ _ H4 0 _ rfl
  have z1 := HC.out _ _ _ H4 1 _ rfl
  have z2 := HC.out _ _ _ H4 2 _ rfl
  have z3 := HC.out _ _ _ H4 3 _ rfl
  have z4 := HC.out _ _ _ H4 4 _ rfl
  have z5 := HC.out _ _ _ H4 5 _ rfl
  have H4 := Lib.hid H4
  go_wp2_with fail
  refine (nthB_0 bs c3 A3 _ B (HB.out _ H4.out.low)).mono ?_
  rintro e5 w5 ⟨A5, c5, rfl, he5, hb5⟩
  have E5 := Lib.hid he5
  have H5 := H4.out.new hb5
  clear z0 z1 z2 z3 z4 z5
  have z0 := HC.out _ _ _ H5 0 _ rfl
  have z1 := HC.out _ _ _ H5 1 _ rfl
  have z2 := HC.out _ _ _ H5 2 _ rfl
  have z3 := HC.out _ _ _ H5 3 _ rfl
  have z4 := HC.out _ _ _ H5 4 _ rfl
  have z5 := HC.out _ _ _ H5 5 _ rfl
  have H5 := Lib.hid H5
  clear he5 hb5
  go_wp2_with fail
  refine (LX.at_ (KL.out 0) H5.out HE.out E5.out (by have hf := HF.out; first | omega | (simp only [List.length_append, List.length_cons, List.length_nil] at hf ⊢; omega))).mono ?_
  rintro e6 w6 ⟨rfl, q6, H6⟩
  clear z0 z1 z2 z3 z4 z5
  have z0 := HC.out _ _ _ H6 0 _ rfl
  have z1 := HC.out _ _ _ H6 1 _ rfl
  have z2 := HC.out _ _ _ H6 2 _ rfl
  have z3 := HC.out _ _ _ H6 3 _ rfl
  have z4 := HC.out _ _ _ H6 4 _ rfl
  have z5 := HC.out _ _ _ H6 5 _ rfl
  have H6 := Lib.hid H6
  go_wp2_with fail
  refine (put1 H6.out ⟨#[69, 78, 68, 95, 87, 72, 73, 76, 69]⟩ (by have hf := HF.out; first | omega | (simp only [List.length_append, List.length_cons, List.length_nil] at hf ⊢; omega)) _ (by first | rfl | simp)).mono ?_
  rintro e7 w7 ⟨rfl, q7, H7⟩
  clear z0 z1 z2 z3 z4 z5
  have z0 := HC.out _ _ _ H7 0 _ rfl
  have z1 := HC.out _ _ _ H7 1 _ rfl
  have z2 := HC.out _ _ _ H7 2 _ rfl
  have z3 := HC.out _ _ _ H7 3 _ rfl
  have z4 := HC.out _ _ _ H7 4 _ rfl
  have z5 := HC.out _ _ _ H7 5 _ rfl
  have H7 := Lib.hid H7
  go_wp2_with fail
  go_end0
  have hz := HP.out _ _ _ H7.out.done
  simpa only [List.append_assoc, List.cons_append, List.nil_append, List.append_nil, List.singleton_append] using hz

set_option maxHeartbeats 1000000 in
theorem for_of (n : Int) (nm : ByteArray) (ex : List ET) (lb : List (List Int)) (bs : List (List ST)) (ih : ∀ (i : Nat) (hi : i < bs.length), LX bs[i]) (B b : Nat) (w : World) (q : Option Nat) (l : List ByteArray) (cs : List Value) (hl : LAt B w b q l) (hB : B ≤ w.heap.size) (hE : Env B w)
    (he : SIn w B (.mk 8 n nm ex lb bs) cs) (hfew : l.length + (tS (.mk 8 n nm ex lb bs)).length + 1 ≤ few) :
    Calls Tryd.prog 78 #[.pointer (some ⟨b, 0, none⟩), .agg cs.toArray] w (Put B w b q (l ++ tS (.mk 8 n nm ex lb bs))) := by
  obtain ⟨A1, c1, A2, c2, A3, c3, rfl, hn, h1, h2, h3⟩ := he.form
  have hT : tS (.mk 8 n nm ex lb bs) = [⟨#[70, 79, 82]⟩, nm, ⟨#[58, 61]⟩] ++ tE (nthE ex 0) ++ [⟨#[84, 79]⟩] ++ tE (nthE ex 1) ++ [⟨#[66, 89]⟩] ++ tInt n ++ [⟨#[68, 79]⟩] ++ tL (bs.getD 0 []) ++ [⟨#[69, 78, 68, 95, 70, 79, 82]⟩] := by rw [← tBs_nth, tS]; rfl
  rw [hT] at hfew ⊢
  have hW : Below w.heap.size w (sC w 8 n nm A1 ex.length c1 A2 lb.length c2 A3 bs.length c3) := (Below.refl _ _).alloc (Nat.le_refl _) _
  have hBW : Below B w (sC w 8 n nm A1 ex.length c1 A2 lb.length c2 A3 bs.length c3) := hW.mono hB
  have H0 := Lib.hid (At.start (hl.below hW) (Nat.le_trans hB hW.size))
  have HP := Lib.hid (fun l' e w' => Put.base (l' := l') (e := e) (w' := w') hl hB hW)
  have HC := Lib.hid (fun w' q' l' (H : At B (sC w 8 n nm A1 ex.length c1 A2 lb.length c2 A3 bs.length c3) b q w' q' l') => copy_cell hl H)
  have HE := Lib.hid (hE.below hBW)
  have HF := Lib.hid hfew
  have HA := Lib.hid (fun (w' : World) (hb : Below B (sC w 8 n nm A1 ex.length c1 A2 lb.length c2 A3 bs.length c3) w') => EsR.mono (Nat.le_refl B) (hBW.trans hb).block h1)
  have HL := Lib.hid (fun (w' : World) (hb : Below B (sC w 8 n nm A1 ex.length c1 A2 lb.length c2 A3 bs.length c3) w') => LsR.mono (Nat.le_refl B) (hBW.trans hb).block h2)
  have HB := Lib.hid (fun (w' : World) (hb : Below B (sC w 8 n nm A1 ex.length c1 A2 lb.length c2 A3 bs.length c3) w') => BsR.mono (Nat.le_refl B) (hBW.trans hb).block h3)
  have HV := Lib.hid (fun (w' : World) (hb : Below B (sC w 8 n nm A1 ex.length c1 A2 lb.length c2 A3 bs.length c3) w') => he.mono (Nat.le_refl B) (hBW.trans hb).block)
  have KL := Lib.hid (fun i => nthB_ih ih i)
  clear hl hB hE he h1 h2 h3 hfew hW hBW hT ih
  go_enter Tryd.func78, Tryd.ntmps78
  go_wp2_with fail
  refine (put3 H0.out ⟨#[70, 79, 82]⟩ nm ⟨#[58, 61]⟩ (by have hf := HF.out; first | omega | (simp only [List.length_append, List.length_cons, List.length_nil] at hf ⊢; omega)) _ (by first | rfl | simp)).mono ?_
  rintro e1 w1 ⟨rfl, q1, H1⟩
  have z0 := HC.out _ _ _ H1 0 _ rfl
  have z1 := HC.out _ _ _ H1 1 _ rfl
  have z2 := HC.out _ _ _ H1 2 _ rfl
  have z3 := HC.out _ _ _ H1 3 _ rfl
  have z4 := HC.out _ _ _ H1 4 _ rfl
  have z5 := HC.out _ _ _ H1 5 _ rfl
  have H1 := Lib.hid H1
  go_wp2_with fail
  refine (nthE_0 ex c1 A1 _ B (HA.out _ H1.out.low) H1.out.size).mono ?_
  rintro e2 w2 ⟨cs2, rfl, he2, hb2⟩
  have E2 := Lib.hid he2
  have H2 := H1.out.new hb2
  clear z0 z1 z2 z3 z4 z5
  have z0 := HC.out _ _ _ H2 0 _ rfl
  have z1 := HC.out _ _ _ H2 1 _ rfl
  have z2 := HC.out _ _ _ H2 2 _ rfl
  have z3 := HC.out _ _ _ H2 3 _ rfl
  have z4 := HC.out _ _ _ H2 4 _ rfl
  have z5 := HC.out _ _ _ H2 5 _ rfl
  have H2 := Lib.hid H2
  clear he2 hb2
  go_wp2_with fail
  refine (EX.at_ (ex_all (nthE ex 0)) H2.out HE.out E2.out (by have hf := HF.out; first | omega | (simp only [List.length_append, List.length_cons, List.length_nil] at hf ⊢; omega))).mono ?_
  rintro e3 w3 ⟨rfl, q3, H3⟩
  clear z0 z1 z2 z3 z4 z5
  have z0 := HC.out _ _ _ H3 0 _ rfl
  have z1 := HC.out _ _ _ H3 1 _ rfl
  have z2 := HC.out _ _ _ H3 2 _ rfl
  have z3 := HC.out _ _ _ H3 3 _ rfl
  have z4 := HC.out _ _ _ H3 4 _ rfl
  have z5 := HC.out _ _ _ H3 5 _ rfl
  have H3 := Lib.hid H3
  go_wp2_with fail
  refine (put1 H3.out ⟨#[84, 79]⟩ (by have hf := HF.out; first | omega | (simp only [List.length_append, List.length_cons, List.length_nil] at hf ⊢; omega)) _ (by first | rfl | simp)).mono ?_
  rintro e4 w4 ⟨rfl, q4, H4⟩
  clear z0 z1 z2 z3 z4 z5
  have z0 := HC.out _ _ _ H4 0 _ rfl
  have z1 := HC.out _ _ _ H4 1 _ rfl
  have z2 := HC.out _ _ _ H4 2 _ rfl
  have z3 := HC.out _ _ _ H4 3 _ rfl
  have z4 := HC.out _ _ _ H4 4 _ rfl
  have z5 := HC.out _ _ _ H4 5 _ rfl
  have H4 := Lib.hid H4
  go_wp2_with fail
  refine (nthE_1 ex c1 A1 _ B (HA.out _ H4.out.low) H4.out.size).mono ?_
  rintro e5 w5 ⟨cs5, rfl, he5, hb5⟩
  have E5 := Lib.hid he5
  have H5 := H4.out.new hb5
  clear z0 z1 z2 z3 z4 z5
  have z0 := HC.out _ _ _ H5 0 _ rfl
  have z1 := HC.out _ _ _ H5 1 _ rfl
  have z2 := HC.out _ _ _ H5 2 _ rfl
  have z3 := HC.out _ _ _ H5 3 _ rfl
  have z4 := HC.out _ _ _ H5 4 _ rfl
  have z5 := HC.out _ _ _ H5 5 _ rfl
  have H5 := Lib.hid H5
  clear he5 hb5
  go_wp2_with fail
  refine (EX.at_ (ex_all (nthE ex 1)) H5.out HE.out E5.out (by have hf := HF.out; first | omega | (simp only [List.length_append, List.length_cons, List.length_nil] at hf ⊢; omega))).mono ?_
  rintro e6 w6 ⟨rfl, q6, H6⟩
  clear z0 z1 z2 z3 z4 z5
  have z0 := HC.out _ _ _ H6 0 _ rfl
  have z1 := HC.out _ _ _ H6 1 _ rfl
  have z2 := HC.out _ _ _ H6 2 _ rfl
  have z3 := HC.out _ _ _ H6 3 _ rfl
  have z4 := HC.out _ _ _ H6 4 _ rfl
  have z5 := HC.out _ _ _ H6 5 _ rfl
  have H6 := Lib.hid H6
  go_wp2_with fail
  refine (put1 H6.out ⟨#[66, 89]⟩ (by have hf := HF.out; first | omega | (simp only [List.length_append, List.length_cons, List.length_nil] at hf ⊢; omega)) _ (by first | rfl | simp)).mono ?_
  rintro e7 w7 ⟨rfl, q7, H7⟩
  clear z0 z1 z2 z3 z4 z5
  have z0 := HC.out _ _ _ H7 0 _ rfl
  have z1 := HC.out _ _ _ H7 1 _ rfl
  have z2 := HC.out _ _ _ H7 2 _ rfl
  have z3 := HC.out _ _ _ H7 3 _ rfl
  have z4 := HC.out _ _ _ H7 4 _ rfl
  have z5 := HC.out _ _ _ H7 5 _ rfl
  have H7 := Lib.hid H7
  go_wp2_with fail
  refine (int_any H7.out HE.out n hn (by have hf := HF.out; first | omega | (simp only [List.length_append, List.length_cons, List.length_nil] at hf ⊢; omega))).mono ?_
  rintro e8 w8 ⟨rfl, q8, H8⟩
  clear z0 z1 z2 z3 z4 z5
  have z0 := HC.out _ _ _ H8 0 _ rfl
  have z1 := HC.out _ _ _ H8 1 _ rfl
  have z2 := HC.out _ _ _ H8 2 _ rfl
  have z3 := HC.out _ _ _ H8 3 _ rfl
  have z4 := HC.out _ _ _ H8 4 _ rfl
  have z5 := HC.out _ _ _ H8 5 _ rfl
  have H8 := Lib.hid H8
  go_wp2_with fail
  refine (put1 H8.out ⟨#[68, 79]⟩ (by have hf := HF.out; first | omega | (simp only [List.length_append, List.length_cons, List.length_nil] at hf ⊢; omega)) _ (by first | rfl | simp)).mono ?_
  rintro e9 w9 ⟨rfl, q9, H9⟩
  clear z0 z1 z2 z3 z4 z5
  have z0 := HC.out _ _ _ H9 0 _ rfl
  have z1 := HC.out _ _ _ H9 1 _ rfl
  have z2 := HC.out _ _ _ H9 2 _ rfl
  have z3 := HC.out _ _ _ H9 3 _ rfl
  have z4 := HC.out _ _ _ H9 4 _ rfl
  have z5 := HC.out _ _ _ H9 5 _ rfl
  have H9 := Lib.hid H9
  go_wp2_with fail
  refine (nthB_0 bs c3 A3 _ B (HB.out _ H9.out.low)).mono ?_
  rintro e10 w10 ⟨A10, c10, rfl, he10, hb10⟩
  have E10 := Lib.hid he10
  have H10 := H9.out.new hb10
  clear z0 z1 z2 z3 z4 z5
  have z0 := HC.out _ _ _ H10 0 _ rfl
  have z1 := HC.out _ _ _ H10 1 _ rfl
  have z2 := HC.out _ _ _ H10 2 _ rfl
  have z3 := HC.out _ _ _ H10 3 _ rfl
  have z4 := HC.out _ _ _ H10 4 _ rfl
  have z5 := HC.out _ _ _ H10 5 _ rfl
  have H10 := Lib.hid H10
  clear he10 hb10
  go_wp2_with fail
  refine (LX.at_ (KL.out 0) H10.out HE.out E10.out (by have hf := HF.out; first | omega | (simp only [List.length_append, List.length_cons, List.length_nil] at hf ⊢; omega))).mono ?_
  rintro e11 w11 ⟨rfl, q11, H11⟩
  clear z0 z1 z2 z3 z4 z5
  have z0 := HC.out _ _ _ H11 0 _ rfl
  have z1 := HC.out _ _ _ H11 1 _ rfl
  have z2 := HC.out _ _ _ H11 2 _ rfl
  have z3 := HC.out _ _ _ H11 3 _ rfl
  have z4 := HC.out _ _ _ H11 4 _ rfl
  have z5 := HC.out _ _ _ H11 5 _ rfl
  have H11 := Lib.hid H11
  go_wp2_with fail
  refine (put1 H11.out ⟨#[69, 78, 68, 95, 70, 79, 82]⟩ (by have hf := HF.out; first | omega | (simp only [List.length_append, List.length_cons, List.length_nil] at hf ⊢; omega)) _ (by first | rfl | simp)).mono ?_
  rintro e12 w12 ⟨rfl, q12, H12⟩
  clear z0 z1 z2 z3 z4 z5
  have z0 := HC.out _ _ _ H12 0 _ rfl
  have z1 := HC.out _ _ _ H12 1 _ rfl
  have z2 := HC.out _ _ _ H12 2 _ rfl
  have z3 := HC.out _ _ _ H12 3 _ rfl
  have z4 := HC.out _ _ _ H12 4 _ rfl
  have z5 := HC.out _ _ _ H12 5 _ rfl
  have H12 := Lib.hid H12
  go_wp2_with fail
  go_end0
  have hz := HP.out _ _ _ H12.out.done
  simpa only [List.append_assoc, List.cons_append, List.nil_append, List.append_nil, List.singleton_append] using hz

set_option maxHeartbeats 1000000 in
theorem branches_of (n : Int) (nm : ByteArray) (ex : List ET) (lb : List (List Int)) (bs : List (List ST)) (ih : ∀ (i : Nat) (hi : i < bs.length), LX bs[i]) (B b : Nat) (w : World) (q : Option Nat) (l : List ByteArray) (cs : List Value) (hl : LAt B w b q l) (hB : B ≤ w.heap.size) (hE : Env B w)
    (he : SIn w B (.mk 5 n nm ex lb bs) cs) (hfew : l.length + (tS (.mk 5 n nm ex lb bs)).length + 1 ≤ few) :
    Calls Tryd.prog 75 #[.pointer (some ⟨b, 0, none⟩), .agg cs.toArray] w (Put B w b q (l ++ tS (.mk 5 n nm ex lb bs))) := by
  obtain ⟨A1, c1, A2, c2, A3, c3, rfl, hn, h1, h2, h3⟩ := he.form
  have hT : tS (.mk 5 n nm ex lb bs) = (List.range (max 1 ex.length)).flatMap (tIf ex bs) ++ tElse (tL (bs.getD (max 1 ex.length) [])) ++ [⟨#[69, 78, 68, 95, 73, 70]⟩] := by rw [tIf_eq, ← tBs_nth, tS]; rfl
  rw [hT] at hfew ⊢
  have hW : Below w.heap.size w (sC w 5 n nm A1 ex.length c1 A2 lb.length c2 A3 bs.length c3) := (Below.refl _ _).alloc (Nat.le_refl _) _
  have hBW : Below B w (sC w 5 n nm A1 ex.length c1 A2 lb.length c2 A3 bs.length c3) := hW.mono hB
  have H0 := Lib.hid (At.start (hl.below hW) (Nat.le_trans hB hW.size))
  have HP := Lib.hid (fun l' e w' => Put.base (l' := l') (e := e) (w' := w') hl hB hW)
  have HC := Lib.hid (fun w' q' l' (H : At B (sC w 5 n nm A1 ex.length c1 A2 lb.length c2 A3 bs.length c3) b q w' q' l') => copy_cell hl H)
  have HE := Lib.hid (hE.below hBW)
  have HF := Lib.hid hfew
  have HA := Lib.hid (fun (w' : World) (hb : Below B (sC w 5 n nm A1 ex.length c1 A2 lb.length c2 A3 bs.length c3) w') => EsR.mono (Nat.le_refl B) (hBW.trans hb).block h1)
  have HL := Lib.hid (fun (w' : World) (hb : Below B (sC w 5 n nm A1 ex.length c1 A2 lb.length c2 A3 bs.length c3) w') => LsR.mono (Nat.le_refl B) (hBW.trans hb).block h2)
  have HB := Lib.hid (fun (w' : World) (hb : Below B (sC w 5 n nm A1 ex.length c1 A2 lb.length c2 A3 bs.length c3) w') => BsR.mono (Nat.le_refl B) (hBW.trans hb).block h3)
  have HV := Lib.hid (fun (w' : World) (hb : Below B (sC w 5 n nm A1 ex.length c1 A2 lb.length c2 A3 bs.length c3) w') => he.mono (Nat.le_refl B) (hBW.trans hb).block)
  have KL := Lib.hid (fun i => nthB_ih ih i)
  have hcnt := range_len (tIf ex bs) (fun i => by simp [tIf]) (max 1 ex.length)
  obtain ⟨P, hP⟩ : ∃ P : Nat, P = max 1 ex.length := ⟨_, rfl⟩
  rw [← hP] at hcnt HF ⊢
  have hP2 : max 1 (ex.length : Int) = (P : Int) := by omega
  have hcnt : P ≤ 1000000000 := by have := HF.out; unfold few at this; simp only [List.length_append] at this; omega
  clear hl hB hE he h1 h2 h3 hfew hW hBW hT ih hP
  go_enter Tryd.func75, Tryd.ntmps75
  go_wp2_with fail
  go_loopw [11] (fun i wr => ∃ k : Nat, k ≤ P ∧ i = .int .i64 k ∧ Hid (∃ q', At B (sC w 5 n nm A1 ex.length c1 A2 lb.length c2 A3 bs.length c3) b q wr q' (l ++ (List.range k).flatMap (tIf ex bs)))) (fun i _ => P - (intOf i).toNat)
  case atStart => exact ⟨0, Nat.zero_le _, rfl, q, by simpa using H0.out⟩
  case round =>
    obtain ⟨k, hk, rfl, hx⟩ := hrel
    obtain ⟨q', Hr⟩ := hx.out
    clear hx H0
    have z0 := HC.out _ _ _ Hr 0 _ rfl
    have z1 := HC.out _ _ _ Hr 1 _ rfl
    have z2 := HC.out _ _ _ Hr 2 _ rfl
    have z3 := HC.out _ _ _ Hr 3 _ rfl
    have z4 := HC.out _ _ _ Hr 4 _ rfl
    have z5 := HC.out _ _ _ Hr 5 _ rfl
    have H0 := Lib.hid Hr
    by_cases hlt : k < P
    · have e2 := Lib.hid (range_succ_flat (tIf ex bs) k)
      have e3 := range_flat_le (tIf ex bs) hlt
      have HF : Hid (l.length + ((List.range k).flatMap (tIf ex bs)).length + (tIf ex bs k).length + 1 ≤ few) := by have := HF.out; simp only [List.length_append, List.length_cons, List.length_nil] at this; unfold Hid; omega
      obtain ⟨bw, hbw⟩ : ∃ bw : ByteArray, bw = (if k = 0 then ⟨#[73, 70]⟩ else ⟨#[69, 76, 83, 73, 70]⟩) := ⟨_, rfl⟩
      have KB : Hid (∀ W, Calls Tryd.prog 83 #[.int .i64 k] W fun e w' => e = .returned (.string bw) ∧ Below W.heap.size W w') := fun W => by rw [hbw]; exact branchWord_any k W
      have hI : tIf ex bs k = bw :: tE (nthE ex k) ++ [⟨#[84, 72, 69, 78]⟩] ++ tL (bs.getD k []) := by rw [hbw]; rfl
      have hI := Lib.hid hI
      rw [hI.out] at HF
      clear hbw
      have h1 : (k : Int) < (P : Int) := by omega
      clear e3 Hr
      go_wp2_with fail
      refine (KB.out _).mono ?_
      rintro e1 w1 ⟨rfl, hb1⟩
      have H1 := H0.out.new hb1
      clear z0 z1 z2 z3 z4 z5
      have z0 := HC.out _ _ _ H1 0 _ rfl
      have z1 := HC.out _ _ _ H1 1 _ rfl
      have z2 := HC.out _ _ _ H1 2 _ rfl
      have z3 := HC.out _ _ _ H1 3 _ rfl
      have z4 := HC.out _ _ _ H1 4 _ rfl
      have z5 := HC.out _ _ _ H1 5 _ rfl
      have H1 := Lib.hid H1
      clear hb1
      go_wp2_with fail
      refine (put1 H1.out bw (by have hf := HF.out; first | omega | (simp only [List.length_append, List.length_cons, List.length_nil] at hf ⊢; omega)) _ (by first | rfl | simp)).mono ?_
      rintro e2 w2 ⟨rfl, q2, H2⟩
      clear z0 z1 z2 z3 z4 z5
      have z0 := HC.out _ _ _ H2 0 _ rfl
      have z1 := HC.out _ _ _ H2 1 _ rfl
      have z2 := HC.out _ _ _ H2 2 _ rfl
      have z3 := HC.out _ _ _ H2 3 _ rfl
      have z4 := HC.out _ _ _ H2 4 _ rfl
      have z5 := HC.out _ _ _ H2 5 _ rfl
      have H2 := Lib.hid H2
      go_wp2_with fail
      refine (nthE_any ex k c1 A1 _ B (HA.out _ H2.out.low) H2.out.size).mono ?_
      rintro e3 w3 ⟨cs3, rfl, he3, hb3⟩
      have E3 := Lib.hid he3
      have H3 := H2.out.new hb3
      clear z0 z1 z2 z3 z4 z5
      have z0 := HC.out _ _ _ H3 0 _ rfl
      have z1 := HC.out _ _ _ H3 1 _ rfl
      have z2 := HC.out _ _ _ H3 2 _ rfl
      have z3 := HC.out _ _ _ H3 3 _ rfl
      have z4 := HC.out _ _ _ H3 4 _ rfl
      have z5 := HC.out _ _ _ H3 5 _ rfl
      have H3 := Lib.hid H3
      clear he3 hb3
      go_wp2_with fail
      refine (EX.at_ (ex_all (nthE ex k)) H3.out HE.out E3.out (by have hf := HF.out; first | omega | (simp only [List.length_append, List.length_cons, List.length_nil] at hf ⊢; omega))).mono ?_
      rintro e4 w4 ⟨rfl, q4, H4⟩
      clear z0 z1 z2 z3 z4 z5
      have z0 := HC.out _ _ _ H4 0 _ rfl
      have z1 := HC.out _ _ _ H4 1 _ rfl
      have z2 := HC.out _ _ _ H4 2 _ rfl
      have z3 := HC.out _ _ _ H4 3 _ rfl
      have z4 := HC.out _ _ _ H4 4 _ rfl
      have z5 := HC.out _ _ _ H4 5 _ rfl
      have H4 := Lib.hid H4
      go_wp2_with fail
      refine (put1 H4.out ⟨#[84, 72, 69, 78]⟩ (by have hf := HF.out; first | omega | (simp only [List.length_append, List.length_cons, List.length_nil] at hf ⊢; omega)) _ (by first | rfl | simp)).mono ?_
      rintro e5 w5 ⟨rfl, q5, H5⟩
      clear z0 z1 z2 z3 z4 z5
      have z0 := HC.out _ _ _ H5 0 _ rfl
      have z1 := HC.out _ _ _ H5 1 _ rfl
      have z2 := HC.out _ _ _ H5 2 _ rfl
      have z3 := HC.out _ _ _ H5 3 _ rfl
      have z4 := HC.out _ _ _ H5 4 _ rfl
      have z5 := HC.out _ _ _ H5 5 _ rfl
      have H5 := Lib.hid H5
      go_wp2_with fail
      refine (nthB_any bs k c3 A3 _ B (HB.out _ H5.out.low)).mono ?_
      rintro e6 w6 ⟨A6, c6, rfl, he6, hb6⟩
      have E6 := Lib.hid he6
      have H6 := H5.out.new hb6
      clear z0 z1 z2 z3 z4 z5
      have z0 := HC.out _ _ _ H6 0 _ rfl
      have z1 := HC.out _ _ _ H6 1 _ rfl
      have z2 := HC.out _ _ _ H6 2 _ rfl
      have z3 := HC.out _ _ _ H6 3 _ rfl
      have z4 := HC.out _ _ _ H6 4 _ rfl
      have z5 := HC.out _ _ _ H6 5 _ rfl
      have H6 := Lib.hid H6
      clear he6 hb6
      go_wp2_with fail
      refine (LX.at_ (KL.out k) H6.out HE.out E6.out (by have hf := HF.out; first | omega | (simp only [List.length_append, List.length_cons, List.length_nil] at hf ⊢; omega))).mono ?_
      rintro e7 w7 ⟨rfl, q7, H7⟩
      clear z0 z1 z2 z3 z4 z5
      have z0 := HC.out _ _ _ H7 0 _ rfl
      have z1 := HC.out _ _ _ H7 1 _ rfl
      have z2 := HC.out _ _ _ H7 2 _ rfl
      have z3 := HC.out _ _ _ H7 3 _ rfl
      have z4 := HC.out _ _ _ H7 4 _ rfl
      have z5 := HC.out _ _ _ H7 5 _ rfl
      have H7 := Lib.hid H7
      have E2 := e2.out
      have hz := H7.out
      rw [hI.out] at E2
      simp only [List.append_assoc, List.cons_append, List.nil_append] at hz E2
      rw [← E2] at hz
      have HZ := Lib.hid hz
      clear hz E2 z0 z1 z2 z3 z4 z5
      go_wp2_with fail
      go_roundw
      case rel => exact ⟨k + 1, by omega, by go_num, _, HZ.out⟩
      case measure => simp [intOf]; omega
    · obtain rfl : k = P := by omega
      have h1 : ¬ (k : Int) < (k : Int) := by omega
      clear Hr hlt
      go_wp2_with fail
      refine (nthB_any bs k c3 A3 _ B (HB.out _ H0.out.low)).mono ?_
      rintro e1 w1 ⟨A1, c1, rfl, he1, hb1⟩
      have E1 := Lib.hid he1
      have H1 := H0.out.new hb1
      clear z0 z1 z2 z3 z4 z5
      have z0 := HC.out _ _ _ H1 0 _ rfl
      have z1 := HC.out _ _ _ H1 1 _ rfl
      have z2 := HC.out _ _ _ H1 2 _ rfl
      have z3 := HC.out _ _ _ H1 3 _ rfl
      have z4 := HC.out _ _ _ H1 4 _ rfl
      have z5 := HC.out _ _ _ H1 5 _ rfl
      have H1 := Lib.hid H1
      clear he1 hb1
      go_wp2_with fail
      refine (otherwise_any (KL.out k) H1.out HE.out E1.out (by have hf := HF.out; first | omega | (simp only [List.length_append, List.length_cons, List.length_nil] at hf ⊢; omega))).mono ?_
      rintro e2 w2 ⟨rfl, q2, H2⟩
      clear z0 z1 z2 z3 z4 z5
      have z0 := HC.out _ _ _ H2 0 _ rfl
      have z1 := HC.out _ _ _ H2 1 _ rfl
      have z2 := HC.out _ _ _ H2 2 _ rfl
      have z3 := HC.out _ _ _ H2 3 _ rfl
      have z4 := HC.out _ _ _ H2 4 _ rfl
      have z5 := HC.out _ _ _ H2 5 _ rfl
      have H2 := Lib.hid H2
      go_wp2_with fail
      refine (put1 H2.out ⟨#[69, 78, 68, 95, 73, 70]⟩ (by have hf := HF.out; first | omega | (simp only [List.length_append, List.length_cons, List.length_nil] at hf ⊢; omega)) _ (by first | rfl | simp)).mono ?_
      rintro e3 w3 ⟨rfl, q3, H3⟩
      clear z0 z1 z2 z3 z4 z5
      have z0 := HC.out _ _ _ H3 0 _ rfl
      have z1 := HC.out _ _ _ H3 1 _ rfl
      have z2 := HC.out _ _ _ H3 2 _ rfl
      have z3 := HC.out _ _ _ H3 3 _ rfl
      have z4 := HC.out _ _ _ H3 4 _ rfl
      have z5 := HC.out _ _ _ H3 5 _ rfl
      have H3 := Lib.hid H3
      go_wp2_with fail
      go_end0
      have hz := HP.out _ _ _ H3.out.done
      simpa only [List.append_assoc, List.cons_append, List.nil_append, List.append_nil, List.singleton_append] using hz
end Go.Proofs.YteijehmdabigeaaDoor
