/-
  print's declarations BY CONTRACTS: signature, method, program, task.
-/
import Derived.Test.YteijehmdabigeaaDoorPrSt4
namespace Go.Proofs.YteijehmdabigeaaDoor
open Go Go.RowKit

theorem vars_any {L : List VT} {B b : Nat} {w0 w : World} {q0 q : Option Nat} {l : List ByteArray} {A : Option Addr} {c : Nat} (H : At B w0 b q0 w q l) (hE : Env B w0) (ha : VsR w B A L) (hl : l.length + (tVs L).length + 1 ≤ few) :
    Calls Tryd.prog 55 #[.pointer (some ⟨b, 0, none⟩), .slice A L.length c] w (Put B w0 b q0 (l ++ tVs L)) :=
  (vars_of L B b w q l A c H.at_ H.size (hE.below H.low) ha hl).mono fun _ _ hh => H.lift hh
theorem partedV_at {L : List VT} {B b : Nat} {w0 w : World} {q0 q : Option Nat} {l : List ByteArray} {A : Option Addr} {c : Nat} (H : At B w0 b q0 w q l) (hE : Env B w0) (ha : VsR w B A L) (hl : l.length + (sep (L.map tP)).length + 1 ≤ few) :
    Calls Tryd.prog 65 #[.pointer (some ⟨b, 0, none⟩), .slice A L.length c, .func (.func 66) #[.pointer (some ⟨b, 0, none⟩)] #[]] w (Put B w0 b q0 (l ++ sep (L.map tP))) :=
  (partedV_of L B b w q l A c H.at_ H.size (hE.below H.low) ha hl).mono fun _ _ hh => H.lift hh
/-- a call's own copy of a method; of a declaration. -/
abbrev mV (m : MT) (A1 : Option Addr) (c1 : Nat) (A2 : Option Addr) (c2 : Nat) (A3 : Option Addr) (c3 : Nat) : Array Value := #[.string m.name, .bool m.over, .bool m.abstract, .bool m.final, .slice A1 m.params.length c1, .int .i64 m.result.kind, .int .i64 m.result.lo, .int .i64 m.result.hi, .string m.result.name, .slice A2 m.vars.length c2, .slice A3 m.body.length c3]
abbrev mC (w : World) (m : MT) (A1 : Option Addr) (c1 : Nat) (A2 : Option Addr) (c2 : Nat) (A3 : Option Addr) (c3 : Nat) : World := w.alloc (.cells (mV m A1 c1 A2 c2 A3 c3) 54)
abbrev dV (d : DT) (A1 : Option Addr) (c1 : Nat) (A2 : Option Addr) (c2 : Nat) (A3 : Option Addr) (c3 : Nat) (A4 : Option Addr) (c4 : Nat) : Array Value := #[.int .i64 d.kind, .string d.name, .string d.base, .slice A1 d.faces.length c1, .bool d.abstract, .bool d.final, .slice A2 d.vars.length c2, .slice A3 d.methods.length c3, .slice A4 d.body.length c4, .int .i64 d.every, .int .i64 d.first]
abbrev dC (w : World) (d : DT) (A1 : Option Addr) (c1 : Nat) (A2 : Option Addr) (c2 : Nat) (A3 : Option Addr) (c3 : Nat) (A4 : Option Addr) (c4 : Nat) : World := w.alloc (.cells (dV d A1 c1 A2 c2 A3 c3 A4 c4) 48)

set_option maxHeartbeats 1000000 in
theorem sig_n (m : MT) (hz : m.result.kind = 0) (B b : Nat) (w : World) (q : Option Nat) (l : List ByteArray) (cs : List Value) (hl : LAt B w b q l) (hB : B ≤ w.heap.size) (hE : Env B w) (he : MIn w B m cs) (hfew : l.length + (tH m).length + 1 ≤ few) :
    Calls Tryd.prog 51 #[.pointer (some ⟨b, 0, none⟩), .agg cs.toArray] w (Put B w b q (l ++ tH m)) := by
  have he0 := he
  obtain ⟨A1, c1, A2, c2, A3, c3, rfl, hwf, h1, h2, h3⟩ := he
  have hT : tH m = [m.name, ⟨#[40]⟩] ++ sep (m.params.map tP) ++ [⟨#[41]⟩] ++ [⟨#[59]⟩] := by unfold tH; simp [hz]
  rw [hT] at hfew ⊢
  have hW : Below w.heap.size w (mC w m A1 c1 A2 c2 A3 c3) := (Below.refl _ _).alloc (Nat.le_refl _) _
  have hBW : Below B w (mC w m A1 c1 A2 c2 A3 c3) := hW.mono hB
  have H0 := Lib.hid (At.start (hl.below hW) (Nat.le_trans hB hW.size))
  have HP := Lib.hid (fun l' e w' => Put.base (l' := l') (e := e) (w' := w') hl hB hW)
  have HC := Lib.hid (fun w' q' l' (H : At B (mC w m A1 c1 A2 c2 A3 c3) b q w' q' l') => copy_cell hl H)
  have HE := Lib.hid (hE.below hBW)
  have HF := Lib.hid hfew
  have HA := Lib.hid (fun (w' : World) (hb : Below B (mC w m A1 c1 A2 c2 A3 c3) w') => VsR.mono (Nat.le_refl B) (hBW.trans hb).block h1)
  have HL := Lib.hid (fun (w' : World) (hb : Below B (mC w m A1 c1 A2 c2 A3 c3) w') => VsR.mono (Nat.le_refl B) (hBW.trans hb).block h2)
  have HB := Lib.hid (fun (w' : World) (hb : Below B (mC w m A1 c1 A2 c2 A3 c3) w') => SsR.mono (Nat.le_refl B) (hBW.trans hb).block h3)
  have HV := Lib.hid (fun (w' : World) (hb : Below B (mC w m A1 c1 A2 c2 A3 c3) w') => MIn.mono (Nat.le_refl B) (hBW.trans hb).block he0)
  have hmf := hmf
  have gz : (m.result.kind != 0) = false := by simpa using hz
  clear hl hB hE h1 h2 h3 he0 hfew hW hBW hT hz
  go_enter Tryd.func51, Tryd.ntmps51
  go_wp2_with fail
  refine (put2 H0.out m.name ⟨#[40]⟩ (by have hf := HF.out; first | omega | (simp only [List.length_append, List.length_cons, List.length_nil] at hf ⊢; omega)) _ (by first | rfl | simp)).mono ?_
  rintro e1 w1 ⟨rfl, q1, H1⟩
  have z0 := HC.out _ _ _ H1 0 _ rfl
  have z1 := HC.out _ _ _ H1 1 _ rfl
  have z2 := HC.out _ _ _ H1 2 _ rfl
  have z3 := HC.out _ _ _ H1 3 _ rfl
  have z4 := HC.out _ _ _ H1 4 _ rfl
  have z5 := HC.out _ _ _ H1 5 _ rfl
  have z6 := HC.out _ _ _ H1 6 _ rfl
  have z7 := HC.out _ _ _ H1 7 _ rfl
  have z8 := HC.out _ _ _ H1 8 _ rfl
  have z9 := HC.out _ _ _ H1 9 _ rfl
  have z10 := HC.out _ _ _ H1 10 _ rfl
  have H1 := Lib.hid H1
  go_wp2_with fail
  refine (partedV_at H1.out HE.out (HA.out _ H1.out.low) (by have hf := HF.out; first | omega | (simp only [List.length_append, List.length_cons, List.length_nil] at hf ⊢; omega))).mono ?_
  rintro e2 w2 ⟨rfl, q2, H2⟩
  clear z0 z1 z2 z3 z4 z5 z6 z7 z8 z9 z10
  have z0 := HC.out _ _ _ H2 0 _ rfl
  have z1 := HC.out _ _ _ H2 1 _ rfl
  have z2 := HC.out _ _ _ H2 2 _ rfl
  have z3 := HC.out _ _ _ H2 3 _ rfl
  have z4 := HC.out _ _ _ H2 4 _ rfl
  have z5 := HC.out _ _ _ H2 5 _ rfl
  have z6 := HC.out _ _ _ H2 6 _ rfl
  have z7 := HC.out _ _ _ H2 7 _ rfl
  have z8 := HC.out _ _ _ H2 8 _ rfl
  have z9 := HC.out _ _ _ H2 9 _ rfl
  have z10 := HC.out _ _ _ H2 10 _ rfl
  have H2 := Lib.hid H2
  go_wp2_with fail
  refine (put1 H2.out ⟨#[41]⟩ (by have hf := HF.out; first | omega | (simp only [List.length_append, List.length_cons, List.length_nil] at hf ⊢; omega)) _ (by first | rfl | simp)).mono ?_
  rintro e3 w3 ⟨rfl, q3, H3⟩
  clear z0 z1 z2 z3 z4 z5 z6 z7 z8 z9 z10
  have z0 := HC.out _ _ _ H3 0 _ rfl
  have z1 := HC.out _ _ _ H3 1 _ rfl
  have z2 := HC.out _ _ _ H3 2 _ rfl
  have z3 := HC.out _ _ _ H3 3 _ rfl
  have z4 := HC.out _ _ _ H3 4 _ rfl
  have z5 := HC.out _ _ _ H3 5 _ rfl
  have z6 := HC.out _ _ _ H3 6 _ rfl
  have z7 := HC.out _ _ _ H3 7 _ rfl
  have z8 := HC.out _ _ _ H3 8 _ rfl
  have z9 := HC.out _ _ _ H3 9 _ rfl
  have z10 := HC.out _ _ _ H3 10 _ rfl
  have H3 := Lib.hid H3
  go_wp2_with fail
  refine (put1 H3.out ⟨#[59]⟩ (by have hf := HF.out; first | omega | (simp only [List.length_append, List.length_cons, List.length_nil] at hf ⊢; omega)) _ (by first | rfl | simp)).mono ?_
  rintro e4 w4 ⟨rfl, q4, H4⟩
  clear z0 z1 z2 z3 z4 z5 z6 z7 z8 z9 z10
  have z0 := HC.out _ _ _ H4 0 _ rfl
  have z1 := HC.out _ _ _ H4 1 _ rfl
  have z2 := HC.out _ _ _ H4 2 _ rfl
  have z3 := HC.out _ _ _ H4 3 _ rfl
  have z4 := HC.out _ _ _ H4 4 _ rfl
  have z5 := HC.out _ _ _ H4 5 _ rfl
  have z6 := HC.out _ _ _ H4 6 _ rfl
  have z7 := HC.out _ _ _ H4 7 _ rfl
  have z8 := HC.out _ _ _ H4 8 _ rfl
  have z9 := HC.out _ _ _ H4 9 _ rfl
  have z10 := HC.out _ _ _ H4 10 _ rfl
  have H4 := Lib.hid H4
  go_wp2_with fail
  go_end0
  have hz := HP.out _ _ _ H4.out.done
  simpa only [List.append_assoc, List.cons_append, List.nil_append, List.append_nil, List.singleton_append] using hz

set_option maxHeartbeats 1000000 in
theorem sig_y (m : MT) (hz : m.result.kind ≠ 0) (B b : Nat) (w : World) (q : Option Nat) (l : List ByteArray) (cs : List Value) (hl : LAt B w b q l) (hB : B ≤ w.heap.size) (hE : Env B w) (he : MIn w B m cs) (hfew : l.length + (tH m).length + 1 ≤ few) :
    Calls Tryd.prog 51 #[.pointer (some ⟨b, 0, none⟩), .agg cs.toArray] w (Put B w b q (l ++ tH m)) := by
  have he0 := he
  obtain ⟨A1, c1, A2, c2, A3, c3, rfl, hwf, h1, h2, h3⟩ := he
  have hT : tH m = [m.name, ⟨#[40]⟩] ++ sep (m.params.map tP) ++ [⟨#[41]⟩] ++ (⟨#[58]⟩ :: tY m.result) ++ [⟨#[59]⟩] := by unfold tH; simp [hz]
  rw [hT] at hfew ⊢
  have hW : Below w.heap.size w (mC w m A1 c1 A2 c2 A3 c3) := (Below.refl _ _).alloc (Nat.le_refl _) _
  have hBW : Below B w (mC w m A1 c1 A2 c2 A3 c3) := hW.mono hB
  have H0 := Lib.hid (At.start (hl.below hW) (Nat.le_trans hB hW.size))
  have HP := Lib.hid (fun l' e w' => Put.base (l' := l') (e := e) (w' := w') hl hB hW)
  have HC := Lib.hid (fun w' q' l' (H : At B (mC w m A1 c1 A2 c2 A3 c3) b q w' q' l') => copy_cell hl H)
  have HE := Lib.hid (hE.below hBW)
  have HF := Lib.hid hfew
  have HA := Lib.hid (fun (w' : World) (hb : Below B (mC w m A1 c1 A2 c2 A3 c3) w') => VsR.mono (Nat.le_refl B) (hBW.trans hb).block h1)
  have HL := Lib.hid (fun (w' : World) (hb : Below B (mC w m A1 c1 A2 c2 A3 c3) w') => VsR.mono (Nat.le_refl B) (hBW.trans hb).block h2)
  have HB := Lib.hid (fun (w' : World) (hb : Below B (mC w m A1 c1 A2 c2 A3 c3) w') => SsR.mono (Nat.le_refl B) (hBW.trans hb).block h3)
  have HV := Lib.hid (fun (w' : World) (hb : Below B (mC w m A1 c1 A2 c2 A3 c3) w') => MIn.mono (Nat.le_refl B) (hBW.trans hb).block he0)
  have hmf := hmf
  have gz : (m.result.kind != 0) = true := by simpa using hz
  clear hl hB hE h1 h2 h3 he0 hfew hW hBW hT hz
  go_enter Tryd.func51, Tryd.ntmps51
  go_wp2_with fail
  refine (put2 H0.out m.name ⟨#[40]⟩ (by have hf := HF.out; first | omega | (simp only [List.length_append, List.length_cons, List.length_nil] at hf ⊢; omega)) _ (by first | rfl | simp)).mono ?_
  rintro e1 w1 ⟨rfl, q1, H1⟩
  have z0 := HC.out _ _ _ H1 0 _ rfl
  have z1 := HC.out _ _ _ H1 1 _ rfl
  have z2 := HC.out _ _ _ H1 2 _ rfl
  have z3 := HC.out _ _ _ H1 3 _ rfl
  have z4 := HC.out _ _ _ H1 4 _ rfl
  have z5 := HC.out _ _ _ H1 5 _ rfl
  have z6 := HC.out _ _ _ H1 6 _ rfl
  have z7 := HC.out _ _ _ H1 7 _ rfl
  have z8 := HC.out _ _ _ H1 8 _ rfl
  have z9 := HC.out _ _ _ H1 9 _ rfl
  have z10 := HC.out _ _ _ H1 10 _ rfl
  have H1 := Lib.hid H1
  go_wp2_with fail
  refine (partedV_at H1.out HE.out (HA.out _ H1.out.low) (by have hf := HF.out; first | omega | (simp only [List.length_append, List.length_cons, List.length_nil] at hf ⊢; omega))).mono ?_
  rintro e2 w2 ⟨rfl, q2, H2⟩
  clear z0 z1 z2 z3 z4 z5 z6 z7 z8 z9 z10
  have z0 := HC.out _ _ _ H2 0 _ rfl
  have z1 := HC.out _ _ _ H2 1 _ rfl
  have z2 := HC.out _ _ _ H2 2 _ rfl
  have z3 := HC.out _ _ _ H2 3 _ rfl
  have z4 := HC.out _ _ _ H2 4 _ rfl
  have z5 := HC.out _ _ _ H2 5 _ rfl
  have z6 := HC.out _ _ _ H2 6 _ rfl
  have z7 := HC.out _ _ _ H2 7 _ rfl
  have z8 := HC.out _ _ _ H2 8 _ rfl
  have z9 := HC.out _ _ _ H2 9 _ rfl
  have z10 := HC.out _ _ _ H2 10 _ rfl
  have H2 := Lib.hid H2
  go_wp2_with fail
  refine (put1 H2.out ⟨#[41]⟩ (by have hf := HF.out; first | omega | (simp only [List.length_append, List.length_cons, List.length_nil] at hf ⊢; omega)) _ (by first | rfl | simp)).mono ?_
  rintro e3 w3 ⟨rfl, q3, H3⟩
  clear z0 z1 z2 z3 z4 z5 z6 z7 z8 z9 z10
  have z0 := HC.out _ _ _ H3 0 _ rfl
  have z1 := HC.out _ _ _ H3 1 _ rfl
  have z2 := HC.out _ _ _ H3 2 _ rfl
  have z3 := HC.out _ _ _ H3 3 _ rfl
  have z4 := HC.out _ _ _ H3 4 _ rfl
  have z5 := HC.out _ _ _ H3 5 _ rfl
  have z6 := HC.out _ _ _ H3 6 _ rfl
  have z7 := HC.out _ _ _ H3 7 _ rfl
  have z8 := HC.out _ _ _ H3 8 _ rfl
  have z9 := HC.out _ _ _ H3 9 _ rfl
  have z10 := HC.out _ _ _ H3 10 _ rfl
  have H3 := Lib.hid H3
  go_wp2_with fail
  refine (put1 H3.out ⟨#[58]⟩ (by have hf := HF.out; first | omega | (simp only [List.length_append, List.length_cons, List.length_nil] at hf ⊢; omega)) _ (by first | rfl | simp)).mono ?_
  rintro e4 w4 ⟨rfl, q4, H4⟩
  clear z0 z1 z2 z3 z4 z5 z6 z7 z8 z9 z10
  have z0 := HC.out _ _ _ H4 0 _ rfl
  have z1 := HC.out _ _ _ H4 1 _ rfl
  have z2 := HC.out _ _ _ H4 2 _ rfl
  have z3 := HC.out _ _ _ H4 3 _ rfl
  have z4 := HC.out _ _ _ H4 4 _ rfl
  have z5 := HC.out _ _ _ H4 5 _ rfl
  have z6 := HC.out _ _ _ H4 6 _ rfl
  have z7 := HC.out _ _ _ H4 7 _ rfl
  have z8 := HC.out _ _ _ H4 8 _ rfl
  have z9 := HC.out _ _ _ H4 9 _ rfl
  have z10 := HC.out _ _ _ H4 10 _ rfl
  have H4 := Lib.hid H4
  go_wp2_with fail
  refine (typeOf_any H4.out HE.out m.result hwf (by have hf := HF.out; first | omega | (simp only [List.length_append, List.length_cons, List.length_nil] at hf ⊢; omega))).mono ?_
  rintro e5 w5 ⟨rfl, q5, H5⟩
  clear z0 z1 z2 z3 z4 z5 z6 z7 z8 z9 z10
  have z0 := HC.out _ _ _ H5 0 _ rfl
  have z1 := HC.out _ _ _ H5 1 _ rfl
  have z2 := HC.out _ _ _ H5 2 _ rfl
  have z3 := HC.out _ _ _ H5 3 _ rfl
  have z4 := HC.out _ _ _ H5 4 _ rfl
  have z5 := HC.out _ _ _ H5 5 _ rfl
  have z6 := HC.out _ _ _ H5 6 _ rfl
  have z7 := HC.out _ _ _ H5 7 _ rfl
  have z8 := HC.out _ _ _ H5 8 _ rfl
  have z9 := HC.out _ _ _ H5 9 _ rfl
  have z10 := HC.out _ _ _ H5 10 _ rfl
  have H5 := Lib.hid H5
  go_wp2_with fail
  refine (put1 H5.out ⟨#[59]⟩ (by have hf := HF.out; first | omega | (simp only [List.length_append, List.length_cons, List.length_nil] at hf ⊢; omega)) _ (by first | rfl | simp)).mono ?_
  rintro e6 w6 ⟨rfl, q6, H6⟩
  clear z0 z1 z2 z3 z4 z5 z6 z7 z8 z9 z10
  have z0 := HC.out _ _ _ H6 0 _ rfl
  have z1 := HC.out _ _ _ H6 1 _ rfl
  have z2 := HC.out _ _ _ H6 2 _ rfl
  have z3 := HC.out _ _ _ H6 3 _ rfl
  have z4 := HC.out _ _ _ H6 4 _ rfl
  have z5 := HC.out _ _ _ H6 5 _ rfl
  have z6 := HC.out _ _ _ H6 6 _ rfl
  have z7 := HC.out _ _ _ H6 7 _ rfl
  have z8 := HC.out _ _ _ H6 8 _ rfl
  have z9 := HC.out _ _ _ H6 9 _ rfl
  have z10 := HC.out _ _ _ H6 10 _ rfl
  have H6 := Lib.hid H6
  go_wp2_with fail
  go_end0
  have hz := HP.out _ _ _ H6.out.done
  simpa only [List.append_assoc, List.cons_append, List.nil_append, List.append_nil, List.singleton_append] using hz

set_option maxHeartbeats 1000000 in
theorem sig_of (m : MT) (B b : Nat) (w : World) (q : Option Nat) (l : List ByteArray) (cs : List Value) (hl : LAt B w b q l) (hB : B ≤ w.heap.size) (hE : Env B w) (he : MIn w B m cs) (hfew : l.length + (tH m).length + 1 ≤ few) :
    Calls Tryd.prog 51 #[.pointer (some ⟨b, 0, none⟩), .agg cs.toArray] w (Put B w b q (l ++ tH m)) := by
  by_cases hz : m.result.kind = 0
  · exact sig_n m hz B b w q l cs hl hB hE he hfew
  · exact sig_y m hz B b w q l cs hl hB hE he hfew
theorem sig_at {m : MT} {B b : Nat} {w0 w : World} {q0 q : Option Nat} {l : List ByteArray} {cs : List Value} (H : At B w0 b q0 w q l) (hE : Env B w0) (he : MIn w B m cs) (hl : l.length + (tH m).length + 1 ≤ few) :
    Calls Tryd.prog 51 #[.pointer (some ⟨b, 0, none⟩), .agg cs.toArray] w (Put B w0 b q0 (l ++ tH m)) :=
  (sig_of m B b w q l cs H.at_ H.size (hE.below H.low) he hl).mono fun _ _ hh => H.lift hh

set_option maxHeartbeats 1000000 in
theorem method_of (m : MT) (B b : Nat) (w : World) (q : Option Nat) (l : List ByteArray) (cs : List Value) (hl : LAt B w b q l) (hB : B ≤ w.heap.size) (hE : Env B w) (he : MIn w B m cs) (hfew : l.length + (tM m).length + 1 ≤ few) :
    Calls Tryd.prog 56 #[.pointer (some ⟨b, 0, none⟩), .agg cs.toArray] w (Put B w b q (l ++ tM m)) := by
  have he0 := he
  obtain ⟨A1, c1, A2, c2, A3, c3, rfl, hwf, h1, h2, h3⟩ := he
  have hT : tM m = ⟨#[77, 69, 84, 72, 79, 68]⟩ :: tF m.over ⟨#[79, 86, 69, 82, 82, 73, 68, 69]⟩ ++ tF m.abstract ⟨#[65, 66, 83, 84, 82, 65, 67, 84]⟩ ++ tF m.final ⟨#[70, 73, 78, 65, 76]⟩ ++ tH m ++ tVs m.vars ++ tL m.body ++ [⟨#[69, 78, 68, 95, 77, 69, 84, 72, 79, 68]⟩] := rfl
  rw [hT] at hfew ⊢
  have hW : Below w.heap.size w (mC w m A1 c1 A2 c2 A3 c3) := (Below.refl _ _).alloc (Nat.le_refl _) _
  have hBW : Below B w (mC w m A1 c1 A2 c2 A3 c3) := hW.mono hB
  have H0 := Lib.hid (At.start (hl.below hW) (Nat.le_trans hB hW.size))
  have HP := Lib.hid (fun l' e w' => Put.base (l' := l') (e := e) (w' := w') hl hB hW)
  have HC := Lib.hid (fun w' q' l' (H : At B (mC w m A1 c1 A2 c2 A3 c3) b q w' q' l') => copy_cell hl H)
  have HE := Lib.hid (hE.below hBW)
  have HF := Lib.hid hfew
  have HA := Lib.hid (fun (w' : World) (hb : Below B (mC w m A1 c1 A2 c2 A3 c3) w') => VsR.mono (Nat.le_refl B) (hBW.trans hb).block h1)
  have HL := Lib.hid (fun (w' : World) (hb : Below B (mC w m A1 c1 A2 c2 A3 c3) w') => VsR.mono (Nat.le_refl B) (hBW.trans hb).block h2)
  have HB := Lib.hid (fun (w' : World) (hb : Below B (mC w m A1 c1 A2 c2 A3 c3) w') => SsR.mono (Nat.le_refl B) (hBW.trans hb).block h3)
  have HV := Lib.hid (fun (w' : World) (hb : Below B (mC w m A1 c1 A2 c2 A3 c3) w') => MIn.mono (Nat.le_refl B) (hBW.trans hb).block he0)
  clear hl hB hE h1 h2 h3 he0 hfew hW hBW hT 
  go_enter Tryd.func56, Tryd.ntmps56
  go_wp2_with fail
  refine (put1 H0.out ⟨#[77, 69, 84, 72, 79, 68]⟩ (by have hf := HF.out; first | omega | (simp only [List.length_append, List.length_cons, List.length_nil] at hf ⊢; omega)) _ (by first | rfl | simp)).mono ?_
  rintro e1 w1 ⟨rfl, q1, H1⟩
  have z0 := HC.out _ _ _ H1 0 _ rfl
  have z1 := HC.out _ _ _ H1 1 _ rfl
  have z2 := HC.out _ _ _ H1 2 _ rfl
  have z3 := HC.out _ _ _ H1 3 _ rfl
  have z4 := HC.out _ _ _ H1 4 _ rfl
  have z5 := HC.out _ _ _ H1 5 _ rfl
  have z6 := HC.out _ _ _ H1 6 _ rfl
  have z7 := HC.out _ _ _ H1 7 _ rfl
  have z8 := HC.out _ _ _ H1 8 _ rfl
  have z9 := HC.out _ _ _ H1 9 _ rfl
  have z10 := HC.out _ _ _ H1 10 _ rfl
  have H1 := Lib.hid H1
  go_wp2_with fail
  refine (flag_any H1.out m.over ⟨#[79, 86, 69, 82, 82, 73, 68, 69]⟩ (by have hf := HF.out; first | omega | (simp only [List.length_append, List.length_cons, List.length_nil] at hf ⊢; omega))).mono ?_
  rintro e2 w2 ⟨rfl, q2, H2⟩
  clear z0 z1 z2 z3 z4 z5 z6 z7 z8 z9 z10
  have z0 := HC.out _ _ _ H2 0 _ rfl
  have z1 := HC.out _ _ _ H2 1 _ rfl
  have z2 := HC.out _ _ _ H2 2 _ rfl
  have z3 := HC.out _ _ _ H2 3 _ rfl
  have z4 := HC.out _ _ _ H2 4 _ rfl
  have z5 := HC.out _ _ _ H2 5 _ rfl
  have z6 := HC.out _ _ _ H2 6 _ rfl
  have z7 := HC.out _ _ _ H2 7 _ rfl
  have z8 := HC.out _ _ _ H2 8 _ rfl
  have z9 := HC.out _ _ _ H2 9 _ rfl
  have z10 := HC.out _ _ _ H2 10 _ rfl
  have H2 := Lib.hid H2
  go_wp2_with fail
  refine (flag_any H2.out m.abstract ⟨#[65, 66, 83, 84, 82, 65, 67, 84]⟩ (by have hf := HF.out; first | omega | (simp only [List.length_append, List.length_cons, List.length_nil] at hf ⊢; omega))).mono ?_
  rintro e3 w3 ⟨rfl, q3, H3⟩
  clear z0 z1 z2 z3 z4 z5 z6 z7 z8 z9 z10
  have z0 := HC.out _ _ _ H3 0 _ rfl
  have z1 := HC.out _ _ _ H3 1 _ rfl
  have z2 := HC.out _ _ _ H3 2 _ rfl
  have z3 := HC.out _ _ _ H3 3 _ rfl
  have z4 := HC.out _ _ _ H3 4 _ rfl
  have z5 := HC.out _ _ _ H3 5 _ rfl
  have z6 := HC.out _ _ _ H3 6 _ rfl
  have z7 := HC.out _ _ _ H3 7 _ rfl
  have z8 := HC.out _ _ _ H3 8 _ rfl
  have z9 := HC.out _ _ _ H3 9 _ rfl
  have z10 := HC.out _ _ _ H3 10 _ rfl
  have H3 := Lib.hid H3
  go_wp2_with fail
  refine (flag_any H3.out m.final ⟨#[70, 73, 78, 65, 76]⟩ (by have hf := HF.out; first | omega | (simp only [List.length_append, List.length_cons, List.length_nil] at hf ⊢; omega))).mono ?_
  rintro e4 w4 ⟨rfl, q4, H4⟩
  clear z0 z1 z2 z3 z4 z5 z6 z7 z8 z9 z10
  have z0 := HC.out _ _ _ H4 0 _ rfl
  have z1 := HC.out _ _ _ H4 1 _ rfl
  have z2 := HC.out _ _ _ H4 2 _ rfl
  have z3 := HC.out _ _ _ H4 3 _ rfl
  have z4 := HC.out _ _ _ H4 4 _ rfl
  have z5 := HC.out _ _ _ H4 5 _ rfl
  have z6 := HC.out _ _ _ H4 6 _ rfl
  have z7 := HC.out _ _ _ H4 7 _ rfl
  have z8 := HC.out _ _ _ H4 8 _ rfl
  have z9 := HC.out _ _ _ H4 9 _ rfl
  have z10 := HC.out _ _ _ H4 10 _ rfl
  have H4 := Lib.hid H4
  go_wp2_with fail
  refine (sig_at H4.out HE.out (HV.out _ H4.out.low) (by have hf := HF.out; first | omega | (simp only [List.length_append, List.length_cons, List.length_nil] at hf ⊢; omega))).mono ?_
  rintro e5 w5 ⟨rfl, q5, H5⟩
  clear z0 z1 z2 z3 z4 z5 z6 z7 z8 z9 z10
  have z0 := HC.out _ _ _ H5 0 _ rfl
  have z1 := HC.out _ _ _ H5 1 _ rfl
  have z2 := HC.out _ _ _ H5 2 _ rfl
  have z3 := HC.out _ _ _ H5 3 _ rfl
  have z4 := HC.out _ _ _ H5 4 _ rfl
  have z5 := HC.out _ _ _ H5 5 _ rfl
  have z6 := HC.out _ _ _ H5 6 _ rfl
  have z7 := HC.out _ _ _ H5 7 _ rfl
  have z8 := HC.out _ _ _ H5 8 _ rfl
  have z9 := HC.out _ _ _ H5 9 _ rfl
  have z10 := HC.out _ _ _ H5 10 _ rfl
  have H5 := Lib.hid H5
  go_wp2_with fail
  refine (vars_any H5.out HE.out (HL.out _ H5.out.low) (by have hf := HF.out; first | omega | (simp only [List.length_append, List.length_cons, List.length_nil] at hf ⊢; omega))).mono ?_
  rintro e6 w6 ⟨rfl, q6, H6⟩
  clear z0 z1 z2 z3 z4 z5 z6 z7 z8 z9 z10
  have z0 := HC.out _ _ _ H6 0 _ rfl
  have z1 := HC.out _ _ _ H6 1 _ rfl
  have z2 := HC.out _ _ _ H6 2 _ rfl
  have z3 := HC.out _ _ _ H6 3 _ rfl
  have z4 := HC.out _ _ _ H6 4 _ rfl
  have z5 := HC.out _ _ _ H6 5 _ rfl
  have z6 := HC.out _ _ _ H6 6 _ rfl
  have z7 := HC.out _ _ _ H6 7 _ rfl
  have z8 := HC.out _ _ _ H6 8 _ rfl
  have z9 := HC.out _ _ _ H6 9 _ rfl
  have z10 := HC.out _ _ _ H6 10 _ rfl
  have H6 := Lib.hid H6
  go_wp2_with fail
  refine (LX.at_ (lx_all m.body) H6.out HE.out (HB.out _ H6.out.low) (by have hf := HF.out; first | omega | (simp only [List.length_append, List.length_cons, List.length_nil] at hf ⊢; omega))).mono ?_
  rintro e7 w7 ⟨rfl, q7, H7⟩
  clear z0 z1 z2 z3 z4 z5 z6 z7 z8 z9 z10
  have z0 := HC.out _ _ _ H7 0 _ rfl
  have z1 := HC.out _ _ _ H7 1 _ rfl
  have z2 := HC.out _ _ _ H7 2 _ rfl
  have z3 := HC.out _ _ _ H7 3 _ rfl
  have z4 := HC.out _ _ _ H7 4 _ rfl
  have z5 := HC.out _ _ _ H7 5 _ rfl
  have z6 := HC.out _ _ _ H7 6 _ rfl
  have z7 := HC.out _ _ _ H7 7 _ rfl
  have z8 := HC.out _ _ _ H7 8 _ rfl
  have z9 := HC.out _ _ _ H7 9 _ rfl
  have z10 := HC.out _ _ _ H7 10 _ rfl
  have H7 := Lib.hid H7
  go_wp2_with fail
  refine (put1 H7.out ⟨#[69, 78, 68, 95, 77, 69, 84, 72, 79, 68]⟩ (by have hf := HF.out; first | omega | (simp only [List.length_append, List.length_cons, List.length_nil] at hf ⊢; omega)) _ (by first | rfl | simp)).mono ?_
  rintro e8 w8 ⟨rfl, q8, H8⟩
  clear z0 z1 z2 z3 z4 z5 z6 z7 z8 z9 z10
  have z0 := HC.out _ _ _ H8 0 _ rfl
  have z1 := HC.out _ _ _ H8 1 _ rfl
  have z2 := HC.out _ _ _ H8 2 _ rfl
  have z3 := HC.out _ _ _ H8 3 _ rfl
  have z4 := HC.out _ _ _ H8 4 _ rfl
  have z5 := HC.out _ _ _ H8 5 _ rfl
  have z6 := HC.out _ _ _ H8 6 _ rfl
  have z7 := HC.out _ _ _ H8 7 _ rfl
  have z8 := HC.out _ _ _ H8 8 _ rfl
  have z9 := HC.out _ _ _ H8 9 _ rfl
  have z10 := HC.out _ _ _ H8 10 _ rfl
  have H8 := Lib.hid H8
  go_wp2_with fail
  go_end0
  have hz := HP.out _ _ _ H8.out.done
  simpa only [List.append_assoc, List.cons_append, List.nil_append, List.append_nil, List.singleton_append] using hz
theorem method_at {m : MT} {B b : Nat} {w0 w : World} {q0 q : Option Nat} {l : List ByteArray} {cs : List Value} (H : At B w0 b q0 w q l) (hE : Env B w0) (he : MIn w B m cs) (hl : l.length + (tM m).length + 1 ≤ few) :
    Calls Tryd.prog 56 #[.pointer (some ⟨b, 0, none⟩), .agg cs.toArray] w (Put B w0 b q0 (l ++ tM m)) :=
  (method_of m B b w q l cs H.at_ H.size (hE.below H.low) he hl).mono fun _ _ hh => H.lift hh

set_option maxHeartbeats 2000000 in
set_option maxRecDepth 100000 in
theorem program_of (name base : ByteArray) (faces : List ByteArray) (ab fin : Bool) (vars : List VT) (methods : List MT) (body : List ST) (every first : Int) (B b : Nat) (w : World) (q : Option Nat) (l : List ByteArray) (cs : List Value) (hl : LAt B w b q l) (hB : B ≤ w.heap.size) (hE : Env B w) (he : DIn w B ⟨3, name, base, faces, ab, fin, vars, methods, body, every, first⟩ cs) (hfew : l.length + (tD ⟨3, name, base, faces, ab, fin, vars, methods, body, every, first⟩).length + 1 ≤ few) :
    Calls Tryd.prog 34 #[.pointer (some ⟨b, 0, none⟩), .agg cs.toArray] w (Put B w b q (l ++ tD ⟨3, name, base, faces, ab, fin, vars, methods, body, every, first⟩)) := by
  have he0 := he
  obtain ⟨A1, c1, A2, c2, A3, c3, A4, c4, rfl, hev, hfi, h1, h2, h3, h4⟩ := he
  have hT : tD ⟨3, name, base, faces, ab, fin, vars, methods, body, every, first⟩ = [⟨#[80, 82, 79, 71, 82, 65, 77]⟩, name, ⟨#[59]⟩] ++ tVs vars ++ tL body ++ [⟨#[69, 78, 68, 95, 80, 82, 79, 71, 82, 65, 77]⟩] := rfl
  rw [hT] at hfew ⊢
  have hW : Below w.heap.size w (dC w ⟨3, name, base, faces, ab, fin, vars, methods, body, every, first⟩ A1 c1 A2 c2 A3 c3 A4 c4) := (Below.refl _ _).alloc (Nat.le_refl _) _
  have hBW : Below B w (dC w ⟨3, name, base, faces, ab, fin, vars, methods, body, every, first⟩ A1 c1 A2 c2 A3 c3 A4 c4) := hW.mono hB
  have H0 := Lib.hid (At.start (hl.below hW) (Nat.le_trans hB hW.size))
  have HP := Lib.hid (fun l' e w' => Put.base (l' := l') (e := e) (w' := w') hl hB hW)
  have HC := Lib.hid (fun w' q' l' (H : At B (dC w ⟨3, name, base, faces, ab, fin, vars, methods, body, every, first⟩ A1 c1 A2 c2 A3 c3 A4 c4) b q w' q' l') => copy_cell hl H)
  have HE := Lib.hid (hE.below hBW)
  have HF := Lib.hid hfew
  have HX := Lib.hid (fun (w' : World) (hb : Below B (dC w ⟨3, name, base, faces, ab, fin, vars, methods, body, every, first⟩ A1 c1 A2 c2 A3 c3 A4 c4) w') => XsR.mono (Nat.le_refl B) (hBW.trans hb).block h1)
  have HL := Lib.hid (fun (w' : World) (hb : Below B (dC w ⟨3, name, base, faces, ab, fin, vars, methods, body, every, first⟩ A1 c1 A2 c2 A3 c3 A4 c4) w') => VsR.mono (Nat.le_refl B) (hBW.trans hb).block h2)
  have HM := Lib.hid (fun (w' : World) (hb : Below B (dC w ⟨3, name, base, faces, ab, fin, vars, methods, body, every, first⟩ A1 c1 A2 c2 A3 c3 A4 c4) w') => MsR.mono (Nat.le_refl B) (hBW.trans hb).block h3)
  have HB := Lib.hid (fun (w' : World) (hb : Below B (dC w ⟨3, name, base, faces, ab, fin, vars, methods, body, every, first⟩ A1 c1 A2 c2 A3 c3 A4 c4) w') => SsR.mono (Nat.le_refl B) (hBW.trans hb).block h4)
  have HV := Lib.hid (fun (w' : World) (hb : Below B (dC w ⟨3, name, base, faces, ab, fin, vars, methods, body, every, first⟩ A1 c1 A2 c2 A3 c3 A4 c4) w') => DIn.mono (Nat.le_refl B) (hBW.trans hb).block he0)
  clear hl hB hE h1 h2 h3 h4 he0 hfew hW hBW hT 
  go_enter Tryd.func34, Tryd.ntmps34
  go_wp2_with fail
  refine (put3 H0.out ⟨#[80, 82, 79, 71, 82, 65, 77]⟩ name ⟨#[59]⟩ (by have hf := HF.out; first | omega | (simp only [List.length_append, List.length_cons, List.length_nil] at hf ⊢; omega)) _ (by first | rfl | simp)).mono ?_
  rintro e1 w1 ⟨rfl, q1, H1⟩
  have z0 := HC.out _ _ _ H1 0 _ rfl
  have z1 := HC.out _ _ _ H1 1 _ rfl
  have z2 := HC.out _ _ _ H1 2 _ rfl
  have z3 := HC.out _ _ _ H1 3 _ rfl
  have z4 := HC.out _ _ _ H1 4 _ rfl
  have z5 := HC.out _ _ _ H1 5 _ rfl
  have z6 := HC.out _ _ _ H1 6 _ rfl
  have z7 := HC.out _ _ _ H1 7 _ rfl
  have z8 := HC.out _ _ _ H1 8 _ rfl
  have z9 := HC.out _ _ _ H1 9 _ rfl
  have z10 := HC.out _ _ _ H1 10 _ rfl
  have H1 := Lib.hid H1
  go_wp2_with fail
  refine (vars_any H1.out HE.out (HL.out _ H1.out.low) (by have hf := HF.out; first | omega | (simp only [List.length_append, List.length_cons, List.length_nil] at hf ⊢; omega))).mono ?_
  rintro e2 w2 ⟨rfl, q2, H2⟩
  clear z0 z1 z2 z3 z4 z5 z6 z7 z8 z9 z10
  have z0 := HC.out _ _ _ H2 0 _ rfl
  have z1 := HC.out _ _ _ H2 1 _ rfl
  have z2 := HC.out _ _ _ H2 2 _ rfl
  have z3 := HC.out _ _ _ H2 3 _ rfl
  have z4 := HC.out _ _ _ H2 4 _ rfl
  have z5 := HC.out _ _ _ H2 5 _ rfl
  have z6 := HC.out _ _ _ H2 6 _ rfl
  have z7 := HC.out _ _ _ H2 7 _ rfl
  have z8 := HC.out _ _ _ H2 8 _ rfl
  have z9 := HC.out _ _ _ H2 9 _ rfl
  have z10 := HC.out _ _ _ H2 10 _ rfl
  have H2 := Lib.hid H2
  go_wp2_with fail
  refine (LX.at_ (lx_all body) H2.out HE.out (HB.out _ H2.out.low) (by have hf := HF.out; first | omega | (simp only [List.length_append, List.length_cons, List.length_nil] at hf ⊢; omega))).mono ?_
  rintro e3 w3 ⟨rfl, q3, H3⟩
  clear z0 z1 z2 z3 z4 z5 z6 z7 z8 z9 z10
  have z0 := HC.out _ _ _ H3 0 _ rfl
  have z1 := HC.out _ _ _ H3 1 _ rfl
  have z2 := HC.out _ _ _ H3 2 _ rfl
  have z3 := HC.out _ _ _ H3 3 _ rfl
  have z4 := HC.out _ _ _ H3 4 _ rfl
  have z5 := HC.out _ _ _ H3 5 _ rfl
  have z6 := HC.out _ _ _ H3 6 _ rfl
  have z7 := HC.out _ _ _ H3 7 _ rfl
  have z8 := HC.out _ _ _ H3 8 _ rfl
  have z9 := HC.out _ _ _ H3 9 _ rfl
  have z10 := HC.out _ _ _ H3 10 _ rfl
  have H3 := Lib.hid H3
  go_wp2_with fail
  refine (put1 H3.out ⟨#[69, 78, 68, 95, 80, 82, 79, 71, 82, 65, 77]⟩ (by have hf := HF.out; first | omega | (simp only [List.length_append, List.length_cons, List.length_nil] at hf ⊢; omega)) _ (by first | rfl | simp)).mono ?_
  rintro e4 w4 ⟨rfl, q4, H4⟩
  clear z0 z1 z2 z3 z4 z5 z6 z7 z8 z9 z10
  have z0 := HC.out _ _ _ H4 0 _ rfl
  have z1 := HC.out _ _ _ H4 1 _ rfl
  have z2 := HC.out _ _ _ H4 2 _ rfl
  have z3 := HC.out _ _ _ H4 3 _ rfl
  have z4 := HC.out _ _ _ H4 4 _ rfl
  have z5 := HC.out _ _ _ H4 5 _ rfl
  have z6 := HC.out _ _ _ H4 6 _ rfl
  have z7 := HC.out _ _ _ H4 7 _ rfl
  have z8 := HC.out _ _ _ H4 8 _ rfl
  have z9 := HC.out _ _ _ H4 9 _ rfl
  have z10 := HC.out _ _ _ H4 10 _ rfl
  have H4 := Lib.hid H4
  go_wp2_with fail
  go_end0
  have hz := HP.out _ _ _ H4.out.done
  simpa only [List.append_assoc, List.cons_append, List.nil_append, List.append_nil, List.singleton_append] using hz

set_option maxHeartbeats 2000000 in
set_option maxRecDepth 100000 in
theorem task_of (name base : ByteArray) (faces : List ByteArray) (ab fin : Bool) (vars : List VT) (methods : List MT) (body : List ST) (every first : Int) (B b : Nat) (w : World) (q : Option Nat) (l : List ByteArray) (cs : List Value) (hl : LAt B w b q l) (hB : B ≤ w.heap.size) (hE : Env B w) (he : DIn w B ⟨4, name, base, faces, ab, fin, vars, methods, body, every, first⟩ cs) (hfew : l.length + (tD ⟨4, name, base, faces, ab, fin, vars, methods, body, every, first⟩).length + 1 ≤ few) :
    Calls Tryd.prog 35 #[.pointer (some ⟨b, 0, none⟩), .agg cs.toArray] w (Put B w b q (l ++ tD ⟨4, name, base, faces, ab, fin, vars, methods, body, every, first⟩)) := by
  have he0 := he
  obtain ⟨A1, c1, A2, c2, A3, c3, A4, c4, rfl, hev, hfi, h1, h2, h3, h4⟩ := he
  have hT : tD ⟨4, name, base, faces, ab, fin, vars, methods, body, every, first⟩ = [⟨#[84, 65, 83, 75]⟩, name, ⟨#[40]⟩, ⟨#[73, 78, 84, 69, 82, 86, 65, 76]⟩] ++ tInt every ++ [⟨#[44]⟩, ⟨#[80, 82, 73, 79, 82, 73, 84, 89]⟩] ++ tInt first ++ [⟨#[41]⟩, ⟨#[58]⟩, base, ⟨#[59]⟩] := rfl
  rw [hT] at hfew ⊢
  have hW : Below w.heap.size w (dC w ⟨4, name, base, faces, ab, fin, vars, methods, body, every, first⟩ A1 c1 A2 c2 A3 c3 A4 c4) := (Below.refl _ _).alloc (Nat.le_refl _) _
  have hBW : Below B w (dC w ⟨4, name, base, faces, ab, fin, vars, methods, body, every, first⟩ A1 c1 A2 c2 A3 c3 A4 c4) := hW.mono hB
  have H0 := Lib.hid (At.start (hl.below hW) (Nat.le_trans hB hW.size))
  have HP := Lib.hid (fun l' e w' => Put.base (l' := l') (e := e) (w' := w') hl hB hW)
  have HC := Lib.hid (fun w' q' l' (H : At B (dC w ⟨4, name, base, faces, ab, fin, vars, methods, body, every, first⟩ A1 c1 A2 c2 A3 c3 A4 c4) b q w' q' l') => copy_cell hl H)
  have HE := Lib.hid (hE.below hBW)
  have HF := Lib.hid hfew
  have HX := Lib.hid (fun (w' : World) (hb : Below B (dC w ⟨4, name, base, faces, ab, fin, vars, methods, body, every, first⟩ A1 c1 A2 c2 A3 c3 A4 c4) w') => XsR.mono (Nat.le_refl B) (hBW.trans hb).block h1)
  have HL := Lib.hid (fun (w' : World) (hb : Below B (dC w ⟨4, name, base, faces, ab, fin, vars, methods, body, every, first⟩ A1 c1 A2 c2 A3 c3 A4 c4) w') => VsR.mono (Nat.le_refl B) (hBW.trans hb).block h2)
  have HM := Lib.hid (fun (w' : World) (hb : Below B (dC w ⟨4, name, base, faces, ab, fin, vars, methods, body, every, first⟩ A1 c1 A2 c2 A3 c3 A4 c4) w') => MsR.mono (Nat.le_refl B) (hBW.trans hb).block h3)
  have HB := Lib.hid (fun (w' : World) (hb : Below B (dC w ⟨4, name, base, faces, ab, fin, vars, methods, body, every, first⟩ A1 c1 A2 c2 A3 c3 A4 c4) w') => SsR.mono (Nat.le_refl B) (hBW.trans hb).block h4)
  have HV := Lib.hid (fun (w' : World) (hb : Below B (dC w ⟨4, name, base, faces, ab, fin, vars, methods, body, every, first⟩ A1 c1 A2 c2 A3 c3 A4 c4) w') => DIn.mono (Nat.le_refl B) (hBW.trans hb).block he0)
  clear hl hB hE h1 h2 h3 h4 he0 hfew hW hBW hT 
  go_enter Tryd.func35, Tryd.ntmps35
  go_wp2_with fail
  refine (put4 H0.out ⟨#[84, 65, 83, 75]⟩ name ⟨#[40]⟩ ⟨#[73, 78, 84, 69, 82, 86, 65, 76]⟩ (by have hf := HF.out; first | omega | (simp only [List.length_append, List.length_cons, List.length_nil] at hf ⊢; omega)) _ (by first | rfl | simp)).mono ?_
  rintro e1 w1 ⟨rfl, q1, H1⟩
  have z0 := HC.out _ _ _ H1 0 _ rfl
  have z1 := HC.out _ _ _ H1 1 _ rfl
  have z2 := HC.out _ _ _ H1 2 _ rfl
  have z3 := HC.out _ _ _ H1 3 _ rfl
  have z4 := HC.out _ _ _ H1 4 _ rfl
  have z5 := HC.out _ _ _ H1 5 _ rfl
  have z6 := HC.out _ _ _ H1 6 _ rfl
  have z7 := HC.out _ _ _ H1 7 _ rfl
  have z8 := HC.out _ _ _ H1 8 _ rfl
  have z9 := HC.out _ _ _ H1 9 _ rfl
  have z10 := HC.out _ _ _ H1 10 _ rfl
  have H1 := Lib.hid H1
  go_wp2_with fail
  refine (int_any H1.out HE.out every hev (by have hf := HF.out; first | omega | (simp only [List.length_append, List.length_cons, List.length_nil] at hf ⊢; omega))).mono ?_
  rintro e2 w2 ⟨rfl, q2, H2⟩
  clear z0 z1 z2 z3 z4 z5 z6 z7 z8 z9 z10
  have z0 := HC.out _ _ _ H2 0 _ rfl
  have z1 := HC.out _ _ _ H2 1 _ rfl
  have z2 := HC.out _ _ _ H2 2 _ rfl
  have z3 := HC.out _ _ _ H2 3 _ rfl
  have z4 := HC.out _ _ _ H2 4 _ rfl
  have z5 := HC.out _ _ _ H2 5 _ rfl
  have z6 := HC.out _ _ _ H2 6 _ rfl
  have z7 := HC.out _ _ _ H2 7 _ rfl
  have z8 := HC.out _ _ _ H2 8 _ rfl
  have z9 := HC.out _ _ _ H2 9 _ rfl
  have z10 := HC.out _ _ _ H2 10 _ rfl
  have H2 := Lib.hid H2
  go_wp2_with fail
  refine (put2 H2.out ⟨#[44]⟩ ⟨#[80, 82, 73, 79, 82, 73, 84, 89]⟩ (by have hf := HF.out; first | omega | (simp only [List.length_append, List.length_cons, List.length_nil] at hf ⊢; omega)) _ (by first | rfl | simp)).mono ?_
  rintro e3 w3 ⟨rfl, q3, H3⟩
  clear z0 z1 z2 z3 z4 z5 z6 z7 z8 z9 z10
  have z0 := HC.out _ _ _ H3 0 _ rfl
  have z1 := HC.out _ _ _ H3 1 _ rfl
  have z2 := HC.out _ _ _ H3 2 _ rfl
  have z3 := HC.out _ _ _ H3 3 _ rfl
  have z4 := HC.out _ _ _ H3 4 _ rfl
  have z5 := HC.out _ _ _ H3 5 _ rfl
  have z6 := HC.out _ _ _ H3 6 _ rfl
  have z7 := HC.out _ _ _ H3 7 _ rfl
  have z8 := HC.out _ _ _ H3 8 _ rfl
  have z9 := HC.out _ _ _ H3 9 _ rfl
  have z10 := HC.out _ _ _ H3 10 _ rfl
  have H3 := Lib.hid H3
  go_wp2_with fail
  refine (int_any H3.out HE.out first hfi (by have hf := HF.out; first | omega | (simp only [List.length_append, List.length_cons, List.length_nil] at hf ⊢; omega))).mono ?_
  rintro e4 w4 ⟨rfl, q4, H4⟩
  clear z0 z1 z2 z3 z4 z5 z6 z7 z8 z9 z10
  have z0 := HC.out _ _ _ H4 0 _ rfl
  have z1 := HC.out _ _ _ H4 1 _ rfl
  have z2 := HC.out _ _ _ H4 2 _ rfl
  have z3 := HC.out _ _ _ H4 3 _ rfl
  have z4 := HC.out _ _ _ H4 4 _ rfl
  have z5 := HC.out _ _ _ H4 5 _ rfl
  have z6 := HC.out _ _ _ H4 6 _ rfl
  have z7 := HC.out _ _ _ H4 7 _ rfl
  have z8 := HC.out _ _ _ H4 8 _ rfl
  have z9 := HC.out _ _ _ H4 9 _ rfl
  have z10 := HC.out _ _ _ H4 10 _ rfl
  have H4 := Lib.hid H4
  go_wp2_with fail
  refine (put4 H4.out ⟨#[41]⟩ ⟨#[58]⟩ base ⟨#[59]⟩ (by have hf := HF.out; first | omega | (simp only [List.length_append, List.length_cons, List.length_nil] at hf ⊢; omega)) _ (by first | rfl | simp)).mono ?_
  rintro e5 w5 ⟨rfl, q5, H5⟩
  clear z0 z1 z2 z3 z4 z5 z6 z7 z8 z9 z10
  have z0 := HC.out _ _ _ H5 0 _ rfl
  have z1 := HC.out _ _ _ H5 1 _ rfl
  have z2 := HC.out _ _ _ H5 2 _ rfl
  have z3 := HC.out _ _ _ H5 3 _ rfl
  have z4 := HC.out _ _ _ H5 4 _ rfl
  have z5 := HC.out _ _ _ H5 5 _ rfl
  have z6 := HC.out _ _ _ H5 6 _ rfl
  have z7 := HC.out _ _ _ H5 7 _ rfl
  have z8 := HC.out _ _ _ H5 8 _ rfl
  have z9 := HC.out _ _ _ H5 9 _ rfl
  have z10 := HC.out _ _ _ H5 10 _ rfl
  have H5 := Lib.hid H5
  go_wp2_with fail
  go_end0
  have hz := HP.out _ _ _ H5.out.done
  simpa only [List.append_assoc, List.cons_append, List.nil_append, List.append_nil, List.singleton_append] using hz
end Go.Proofs.YteijehmdabigeaaDoor
