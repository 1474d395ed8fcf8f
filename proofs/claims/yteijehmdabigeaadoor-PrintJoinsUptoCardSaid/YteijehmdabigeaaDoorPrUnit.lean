/-
  print BY CONTRACTS: every declaration; Unit, Expr, Type.
-/
import Derived.Test.YteijehmdabigeaaDoorPrClass
namespace Go.Proofs.YteijehmdabigeaaDoor
open Go Go.RowKit

set_option maxHeartbeats 2000000 in
set_option maxRecDepth 100000 in
theorem class_of (name base : ByteArray) (faces : List ByteArray) (ab fin : Bool) (vars : List VT) (methods : List MT) (body : List ST) (every first : Int) (B b : Nat) (w : World) (q : Option Nat) (l : List ByteArray) (cs : List Value) (hl : LAt B w b q l) (hB : B ≤ w.heap.size) (hE : Env B w) (he : DIn w B ⟨2, name, base, faces, ab, fin, vars, methods, body, every, first⟩ cs) (hfew : l.length + (tD ⟨2, name, base, faces, ab, fin, vars, methods, body, every, first⟩).length + 1 ≤ few) :
    Calls Tryd.prog 33 #[.pointer (some ⟨b, 0, none⟩), .agg cs.toArray] w (Put B w b q (l ++ tD ⟨2, name, base, faces, ab, fin, vars, methods, body, every, first⟩)) := by
  by_cases h : base = ⟨#[]⟩
  · subst h
    exact class_n name faces ab fin vars methods body every first B b w q l cs hl hB hE he hfew
  · exact class_y name base faces ab fin vars methods body every first h B b w q l cs hl hB hE he hfew

set_option maxHeartbeats 2000000 in
set_option maxRecDepth 100000 in
theorem decl_1 (name base : ByteArray) (faces : List ByteArray) (ab fin : Bool) (vars : List VT) (methods : List MT) (body : List ST) (every first : Int) (B b : Nat) (w : World) (q : Option Nat) (l : List ByteArray) (cs : List Value) (hl : LAt B w b q l) (hB : B ≤ w.heap.size) (hE : Env B w) (he : DIn w B ⟨1, name, base, faces, ab, fin, vars, methods, body, every, first⟩ cs) (hfew : l.length + (tD ⟨1, name, base, faces, ab, fin, vars, methods, body, every, first⟩).length + 1 ≤ few) :
    Calls Tryd.prog 18 #[.pointer (some ⟨b, 0, none⟩), .agg cs.toArray] w (Put B w b q (l ++ tD ⟨1, name, base, faces, ab, fin, vars, methods, body, every, first⟩)) := by
  have he0 := he
  obtain ⟨A1, c1, A2, c2, A3, c3, A4, c4, rfl, hev, hfi, h1, h2, h3, h4⟩ := he
  have hT : tD ⟨1, name, base, faces, ab, fin, vars, methods, body, every, first⟩ = tD ⟨1, name, base, faces, ab, fin, vars, methods, body, every, first⟩ := rfl
  have hW : Below w.heap.size w (dC w ⟨1, name, base, faces, ab, fin, vars, methods, body, every, first⟩ A1 c1 A2 c2 A3 c3 A4 c4) := (Below.refl _ _).alloc (Nat.le_refl _) _
  have hBW : Below B w (dC w ⟨1, name, base, faces, ab, fin, vars, methods, body, every, first⟩ A1 c1 A2 c2 A3 c3 A4 c4) := hW.mono hB
  have H0 := Lib.hid (At.start (hl.below hW) (Nat.le_trans hB hW.size))
  have HP := Lib.hid (fun l' e w' => Put.base (l' := l') (e := e) (w' := w') hl hB hW)
  have HC := Lib.hid (fun w' q' l' (H : At B (dC w ⟨1, name, base, faces, ab, fin, vars, methods, body, every, first⟩ A1 c1 A2 c2 A3 c3 A4 c4) b q w' q' l') => copy_cell hl H)
  have HE := Lib.hid (hE.below hBW)
  have HF := Lib.hid hfew
  have HX := Lib.hid (fun (w' : World) (hb : Below B (dC w ⟨1, name, base, faces, ab, fin, vars, methods, body, every, first⟩ A1 c1 A2 c2 A3 c3 A4 c4) w') => XsR.mono (Nat.le_refl B) (hBW.trans hb).block h1)
  have HL := Lib.hid (fun (w' : World) (hb : Below B (dC w ⟨1, name, base, faces, ab, fin, vars, methods, body, every, first⟩ A1 c1 A2 c2 A3 c3 A4 c4) w') => VsR.mono (Nat.le_refl B) (hBW.trans hb).block h2)
  have HM := Lib.hid (fun (w' : World) (hb : Below B (dC w ⟨1, name, base, faces, ab, fin, vars, methods, body, every, first⟩ A1 c1 A2 c2 A3 c3 A4 c4) w') => MsR.mono (Nat.le_refl B) (hBW.trans hb).block h3)
  have HB := Lib.hid (fun (w' : World) (hb : Below B (dC w ⟨1, name, base, faces, ab, fin, vars, methods, body, every, first⟩ A1 c1 A2 c2 A3 c3 A4 c4) w') => SsR.mono (Nat.le_refl B) (hBW.trans hb).block h4)
  have HV := Lib.hid (fun (w' : World) (hb : Below B (dC w ⟨1, name, base, faces, ab, fin, vars, methods, body, every, first⟩ A1 c1 A2 c2 A3 c3 A4 c4) w') => DIn.mono (Nat.le_refl B) (hBW.trans hb).block he0)
  clear hl hB hE h1 h2 h3 h4 he0 hfew hW hBW hT 
  go_enter Tryd.func18, Tryd.ntmps18
  go_wp2_with fail
  refine (face_of name base faces ab fin vars methods body every first B b _ _ _ _ H0.out.at_ H0.out.size HE.out (HV.out _ H0.out.low) HF.out).mono ?_
  rintro e1 w1 ⟨rfl, q1, H1⟩
  have H1 := Lib.hid H1
  go_wp2_with fail
  go_end0
  have hz := HP.out _ _ _ H1.out.done
  simpa only [List.append_assoc, List.cons_append, List.nil_append, List.append_nil, List.singleton_append] using hz

set_option maxHeartbeats 2000000 in
set_option maxRecDepth 100000 in
theorem decl_2 (name base : ByteArray) (faces : List ByteArray) (ab fin : Bool) (vars : List VT) (methods : List MT) (body : List ST) (every first : Int) (B b : Nat) (w : World) (q : Option Nat) (l : List ByteArray) (cs : List Value) (hl : LAt B w b q l) (hB : B ≤ w.heap.size) (hE : Env B w) (he : DIn w B ⟨2, name, base, faces, ab, fin, vars, methods, body, every, first⟩ cs) (hfew : l.length + (tD ⟨2, name, base, faces, ab, fin, vars, methods, body, every, first⟩).length + 1 ≤ few) :
    Calls Tryd.prog 18 #[.pointer (some ⟨b, 0, none⟩), .agg cs.toArray] w (Put B w b q (l ++ tD ⟨2, name, base, faces, ab, fin, vars, methods, body, every, first⟩)) := by
  have he0 := he
  obtain ⟨A1, c1, A2, c2, A3, c3, A4, c4, rfl, hev, hfi, h1, h2, h3, h4⟩ := he
  have hT : tD ⟨2, name, base, faces, ab, fin, vars, methods, body, every, first⟩ = tD ⟨2, name, base, faces, ab, fin, vars, methods, body, every, first⟩ := rfl
  have hW : Below w.heap.size w (dC w ⟨2, name, base, faces, ab, fin, vars, methods, body, every, first⟩ A1 c1 A2 c2 A3 c3 A4 c4) := (Below.refl _ _).alloc (Nat.le_refl _) _
  have hBW : Below B w (dC w ⟨2, name, base, faces, ab, fin, vars, methods, body, every, first⟩ A1 c1 A2 c2 A3 c3 A4 c4) := hW.mono hB
  have H0 := Lib.hid (At.start (hl.below hW) (Nat.le_trans hB hW.size))
  have HP := Lib.hid (fun l' e w' => Put.base (l' := l') (e := e) (w' := w') hl hB hW)
  have HC := Lib.hid (fun w' q' l' (H : At B (dC w ⟨2, name, base, faces, ab, fin, vars, methods, body, every, first⟩ A1 c1 A2 c2 A3 c3 A4 c4) b q w' q' l') => copy_cell hl H)
  have HE := Lib.hid (hE.below hBW)
  have HF := Lib.hid hfew
  have HX := Lib.hid (fun (w' : World) (hb : Below B (dC w ⟨2, name, base, faces, ab, fin, vars, methods, body, every, first⟩ A1 c1 A2 c2 A3 c3 A4 c4) w') => XsR.mono (Nat.le_refl B) (hBW.trans hb).block h1)
  have HL := Lib.hid (fun (w' : World) (hb : Below B (dC w ⟨2, name, base, faces, ab, fin, vars, methods, body, every, first⟩ A1 c1 A2 c2 A3 c3 A4 c4) w') => VsR.mono (Nat.le_refl B) (hBW.trans hb).block h2)
  have HM := Lib.hid (fun (w' : World) (hb : Below B (dC w ⟨2, name, base, faces, ab, fin, vars, methods, body, every, first⟩ A1 c1 A2 c2 A3 c3 A4 c4) w') => MsR.mono (Nat.le_refl B) (hBW.trans hb).block h3)
  have HB := Lib.hid (fun (w' : World) (hb : Below B (dC w ⟨2, name, base, faces, ab, fin, vars, methods, body, every, first⟩ A1 c1 A2 c2 A3 c3 A4 c4) w') => SsR.mono (Nat.le_refl B) (hBW.trans hb).block h4)
  have HV := Lib.hid (fun (w' : World) (hb : Below B (dC w ⟨2, name, base, faces, ab, fin, vars, methods, body, every, first⟩ A1 c1 A2 c2 A3 c3 A4 c4) w') => DIn.mono (Nat.le_refl B) (hBW.trans hb).block he0)
  clear hl hB hE h1 h2 h3 h4 he0 hfew hW hBW hT 
  go_enter Tryd.func18, Tryd.ntmps18
  go_wp2_with fail
  refine (class_of name base faces ab fin vars methods body every first B b _ _ _ _ H0.out.at_ H0.out.size HE.out (HV.out _ H0.out.low) HF.out).mono ?_
  rintro e1 w1 ⟨rfl, q1, H1⟩
  have H1 := Lib.hid H1
  go_wp2_with fail
  go_end0
  have hz := HP.out _ _ _ H1.out.done
  simpa only [List.append_assoc, List.cons_append, List.nil_append, List.append_nil, List.singleton_append] using hz

set_option maxHeartbeats 2000000 in
set_option maxRecDepth 100000 in
theorem decl_3 (name base : ByteArray) (faces : List ByteArray) (ab fin : Bool) (vars : List VT) (methods : List MT) (body : List ST) (every first : Int) (B b : Nat) (w : World) (q : Option Nat) (l : List ByteArray) (cs : List Value) (hl : LAt B w b q l) (hB : B ≤ w.heap.size) (hE : Env B w) (he : DIn w B ⟨3, name, base, faces, ab, fin, vars, methods, body, every, first⟩ cs) (hfew : l.length + (tD ⟨3, name, base, faces, ab, fin, vars, methods, body, every, first⟩).length + 1 ≤ few) :
    Calls Tryd.prog 18 #[.pointer (some ⟨b, 0, none⟩), .agg cs.toArray] w (Put B w b q (l ++ tD ⟨3, name, base, faces, ab, fin, vars, methods, body, every, first⟩)) := by
  have he0 := he
  obtain ⟨A1, c1, A2, c2, A3, c3, A4, c4, rfl, hev, hfi, h1, h2, h3, h4⟩ := he
  have hT : tD ⟨3, name, base, faces, ab, fin, vars, methods, body, every, first⟩ = tD ⟨3, name, base, faces, ab, fin, vars, methods, body, every, first⟩ := rfl
  have hW : Below w.heap.size w (dC w ⟨3, name, base, faces, ab, fin, vars, methods, body, every, first⟩ A1 c1 A2 c2 A3 c3 A4 c4) := (Below.refl _ _).alloc (Nat.le_refl _) _
  have hBW : Below B w (dC w ⟨3, name, base, faces, ab, fin, vars, methods, body, every, first⟩ A1 c1 A2 c2 A3 c3 A4 c4) := hW.mono hB
  have H0 := Lib.hid (At.start (hl.below hW) (Nat.le_trans hB hW.size))
  have HP := Lib.hid (fun l' e w' => Put.base (l' := l') (e := e) (w' := w') hl hB hW)
  have HC := Lib.hid (fun w' q' l' (H : At B (dC w ⟨3, name, base, faces, ab, fin, vars, methods, body, every, first⟩ A1 c1 A2 c2 A3 c3 A4 c4) b q w' q' l') => copy_cell hl H)
  have HE := Lib.hid (hE.below hBW)
  have HF := Lib.hid hfew
  have HX := Lib.hid (fun (w' : World) (hb : Below B (dC w ⟨3, name, base, faces, ab, fin, vars, methods, body, every, first⟩ A1 c1 A2 c2 A3 c3 A4 c4) w') => XsR.mono (Nat.le_refl B) (hBW.trans hb).block h1)
  have HL := Lib.hid (fun (w' : World) (hb : Below B (dC w ⟨3, name, base, faces, ab, fin, vars, methods, body, every, first⟩ A1 c1 A2 c2 A3 c3 A4 c4) w') => VsR.mono (Nat.le_refl B) (hBW.trans hb).block h2)
  have HM := Lib.hid (fun (w' : World) (hb : Below B (dC w ⟨3, name, base, faces, ab, fin, vars, methods, body, every, first⟩ A1 c1 A2 c2 A3 c3 A4 c4) w') => MsR.mono (Nat.le_refl B) (hBW.trans hb).block h3)
  have HB := Lib.hid (fun (w' : World) (hb : Below B (dC w ⟨3, name, base, faces, ab, fin, vars, methods, body, every, first⟩ A1 c1 A2 c2 A3 c3 A4 c4) w') => SsR.mono (Nat.le_refl B) (hBW.trans hb).block h4)
  have HV := Lib.hid (fun (w' : World) (hb : Below B (dC w ⟨3, name, base, faces, ab, fin, vars, methods, body, every, first⟩ A1 c1 A2 c2 A3 c3 A4 c4) w') => DIn.mono (Nat.le_refl B) (hBW.trans hb).block he0)
  clear hl hB hE h1 h2 h3 h4 he0 hfew hW hBW hT 
  go_enter Tryd.func18, Tryd.ntmps18
  go_wp2_with fail
  refine (program_of name base faces ab fin vars methods body every first B b _ _ _ _ H0.out.at_ H0.out.size HE.out (HV.out _ H0.out.low) HF.out).mono ?_
  rintro e1 w1 ⟨rfl, q1, H1⟩
  have H1 := Lib.hid H1
  go_wp2_with fail
  go_end0
  have hz := HP.out _ _ _ H1.out.done
  simpa only [List.append_assoc, List.cons_append, List.nil_append, List.append_nil, List.singleton_append] using hz

set_option maxHeartbeats 2000000 in
set_option maxRecDepth 100000 in
theorem decl_4 (name base : ByteArray) (faces : List ByteArray) (ab fin : Bool) (vars : List VT) (methods : List MT) (body : List ST) (every first : Int) (B b : Nat) (w : World) (q : Option Nat) (l : List ByteArray) (cs : List Value) (hl : LAt B w b q l) (hB : B ≤ w.heap.size) (hE : Env B w) (he : DIn w B ⟨4, name, base, faces, ab, fin, vars, methods, body, every, first⟩ cs) (hfew : l.length + (tD ⟨4, name, base, faces, ab, fin, vars, methods, body, every, first⟩).length + 1 ≤ few) :
    Calls Tryd.prog 18 #[.pointer (some ⟨b, 0, none⟩), .agg cs.toArray] w (Put B w b q (l ++ tD ⟨4, name, base, faces, ab, fin, vars, methods, body, every, first⟩)) := by
  have he0 := he
  obtain ⟨A1, c1, A2, c2, A3, c3, A4, c4, rfl, hev, hfi, h1, h2, h3, h4⟩ := he
  have hT : tD ⟨4, name, base, faces, ab, fin, vars, methods, body, every, first⟩ = tD ⟨4, name, base, faces, ab, fin, vars, methods, body, every, first⟩ := rfl
  have hW : Below w.heap.size w (dC w ⟨4, name, base, faces, ab, fin, vars, methods, body, every, first⟩ A1 c1 A2 c2 A3 c3 A4 c4) := (Below.refl _ _).alloc (Nat.le_refl _) _
  have hBW : Below B w (dC w ⟨4, name, base, faces, ab, fin, vars, methods, body, every, first⟩ A1 c1 A2 c2 A3 c3 A4 c4) := hW.mono hB
  have H0 := Lib.hid (At.start (hl.below hW) (Nat.le_trans hB hW.size))
  have HP := Lib.hid (fun l' e w' => Put.base (l' := l') (e := e) (w' := w') hl hB hW)
  have HC := Lib.hid (fun w' q' l' (H : At B (dC w ⟨4, name, base, faces, ab, fin, vars, methods, body, every, first⟩ A1 c1 A2 c2 A3 c3 A4 c4) b q w' q' l') => copy_cell hl H)
  have HE := Lib.hid (hE.below hBW)
  have HF := Lib.hid hfew
  have HX := Lib.hid (fun (w' : World) (hb : Below B (dC w ⟨4, name, base, faces, ab, fin, vars, methods, body, every, first⟩ A1 c1 A2 c2 A3 c3 A4 c4) w') => XsR.mono (Nat.le_refl B) (hBW.trans hb).block h1)
  have HL := Lib.hid (fun (w' : World) (hb : Below B (dC w ⟨4, name, base, faces, ab, fin, vars, methods, body, every, first⟩ A1 c1 A2 c2 A3 c3 A4 c4) w') => VsR.mono (Nat.le_refl B) (hBW.trans hb).block h2)
  have HM := Lib.hid (fun (w' : World) (hb : Below B (dC w ⟨4, name, base, faces, ab, fin, vars, methods, body, every, first⟩ A1 c1 A2 c2 A3 c3 A4 c4) w') => MsR.mono (Nat.le_refl B) (hBW.trans hb).block h3)
  have HB := Lib.hid (fun (w' : World) (hb : Below B (dC w ⟨4, name, base, faces, ab, fin, vars, methods, body, every, first⟩ A1 c1 A2 c2 A3 c3 A4 c4) w') => SsR.mono (Nat.le_refl B) (hBW.trans hb).block h4)
  have HV := Lib.hid (fun (w' : World) (hb : Below B (dC w ⟨4, name, base, faces, ab, fin, vars, methods, body, every, first⟩ A1 c1 A2 c2 A3 c3 A4 c4) w') => DIn.mono (Nat.le_refl B) (hBW.trans hb).block he0)
  clear hl hB hE h1 h2 h3 h4 he0 hfew hW hBW hT 
  go_enter Tryd.func18, Tryd.ntmps18
  go_wp2_with fail
  refine (task_of name base faces ab fin vars methods body every first B b _ _ _ _ H0.out.at_ H0.out.size HE.out (HV.out _ H0.out.low) HF.out).mono ?_
  rintro e1 w1 ⟨rfl, q1, H1⟩
  have H1 := Lib.hid H1
  go_wp2_with fail
  go_end0
  have hz := HP.out _ _ _ H1.out.done
  simpa only [List.append_assoc, List.cons_append, List.nil_append, List.append_nil, List.singleton_append] using hz

set_option maxHeartbeats 2000000 in
set_option maxRecDepth 100000 in
theorem decl_other (kind : Int) (name base : ByteArray) (faces : List ByteArray) (ab fin : Bool) (vars : List VT) (methods : List MT) (body : List ST) (every first : Int) (hk : kind < 1 ∨ 4 < kind) (B b : Nat) (w : World) (q : Option Nat) (l : List ByteArray) (cs : List Value) (hl : LAt B w b q l) (hB : B ≤ w.heap.size) (hE : Env B w) (he : DIn w B ⟨kind, name, base, faces, ab, fin, vars, methods, body, every, first⟩ cs) (hfew : l.length + (tD ⟨kind, name, base, faces, ab, fin, vars, methods, body, every, first⟩).length + 1 ≤ few) :
    Calls Tryd.prog 18 #[.pointer (some ⟨b, 0, none⟩), .agg cs.toArray] w (Put B w b q (l ++ tD ⟨kind, name, base, faces, ab, fin, vars, methods, body, every, first⟩)) := by
  have g1 : (kind == 1) = false := by simp; omega
  have g2 : (kind == 2) = false := by simp; omega
  have g3 : (kind == 3) = false := by simp; omega
  have g4 : (kind == 4) = false := by simp; omega
  have he0 := he
  obtain ⟨A1, c1, A2, c2, A3, c3, A4, c4, rfl, hev, hfi, h1, h2, h3, h4⟩ := he
  have hT : tD ⟨kind, name, base, faces, ab, fin, vars, methods, body, every, first⟩ = [⟨#[63]⟩] := by unfold tD; simp only; repeat (rw [if_neg (by omega)])
  rw [hT] at hfew ⊢
  have hW : Below w.heap.size w (dC w ⟨kind, name, base, faces, ab, fin, vars, methods, body, every, first⟩ A1 c1 A2 c2 A3 c3 A4 c4) := (Below.refl _ _).alloc (Nat.le_refl _) _
  have hBW : Below B w (dC w ⟨kind, name, base, faces, ab, fin, vars, methods, body, every, first⟩ A1 c1 A2 c2 A3 c3 A4 c4) := hW.mono hB
  have H0 := Lib.hid (At.start (hl.below hW) (Nat.le_trans hB hW.size))
  have HP := Lib.hid (fun l' e w' => Put.base (l' := l') (e := e) (w' := w') hl hB hW)
  have HC := Lib.hid (fun w' q' l' (H : At B (dC w ⟨kind, name, base, faces, ab, fin, vars, methods, body, every, first⟩ A1 c1 A2 c2 A3 c3 A4 c4) b q w' q' l') => copy_cell hl H)
  have HE := Lib.hid (hE.below hBW)
  have HF := Lib.hid hfew
  have HX := Lib.hid (fun (w' : World) (hb : Below B (dC w ⟨kind, name, base, faces, ab, fin, vars, methods, body, every, first⟩ A1 c1 A2 c2 A3 c3 A4 c4) w') => XsR.mono (Nat.le_refl B) (hBW.trans hb).block h1)
  have HL := Lib.hid (fun (w' : World) (hb : Below B (dC w ⟨kind, name, base, faces, ab, fin, vars, methods, body, every, first⟩ A1 c1 A2 c2 A3 c3 A4 c4) w') => VsR.mono (Nat.le_refl B) (hBW.trans hb).block h2)
  have HM := Lib.hid (fun (w' : World) (hb : Below B (dC w ⟨kind, name, base, faces, ab, fin, vars, methods, body, every, first⟩ A1 c1 A2 c2 A3 c3 A4 c4) w') => MsR.mono (Nat.le_refl B) (hBW.trans hb).block h3)
  have HB := Lib.hid (fun (w' : World) (hb : Below B (dC w ⟨kind, name, base, faces, ab, fin, vars, methods, body, every, first⟩ A1 c1 A2 c2 A3 c3 A4 c4) w') => SsR.mono (Nat.le_refl B) (hBW.trans hb).block h4)
  have HV := Lib.hid (fun (w' : World) (hb : Below B (dC w ⟨kind, name, base, faces, ab, fin, vars, methods, body, every, first⟩ A1 c1 A2 c2 A3 c3 A4 c4) w') => DIn.mono (Nat.le_refl B) (hBW.trans hb).block he0)
  clear hl hB hE h1 h2 h3 h4 he0 hfew hW hBW hT hk
  go_enter Tryd.func18, Tryd.ntmps18
  go_wp2_with fail
  refine (put1 H0.out ⟨#[63]⟩ (by have hf := HF.out; first | omega | (simp only [List.length_append, List.length_cons, List.length_nil] at hf ⊢; omega)) _ (by first | rfl | simp)).mono ?_
  rintro e1 w1 ⟨rfl, q1, H1⟩
  have H1 := Lib.hid H1
  go_wp2_with fail
  go_end0
  have hz := HP.out _ _ _ H1.out.done
  simpa only [List.append_assoc, List.cons_append, List.nil_append, List.append_nil, List.singleton_append] using hz

/-- what decl writes. -/
theorem decl_of (d : DT) (B b : Nat) (w : World) (q : Option Nat) (l : List ByteArray) (cs : List Value) (hl : LAt B w b q l) (hB : B ≤ w.heap.size) (hE : Env B w) (he : DIn w B d cs) (hfew : l.length + (tD d).length + 1 ≤ few) :
    Calls Tryd.prog 18 #[.pointer (some ⟨b, 0, none⟩), .agg cs.toArray] w (Put B w b q (l ++ tD d)) := by
  obtain ⟨kind, name, base, faces, ab, fin, vars, methods, body, every, first⟩ := d
  by_cases hk : kind < 1 ∨ 4 < kind
  · exact decl_other kind name base faces ab fin vars methods body every first hk B b w q l cs hl hB hE he hfew
  · have : kind = 1 ∨ kind = 2 ∨ kind = 3 ∨ kind = 4 := by omega
    rcases this with rfl | rfl | rfl | rfl
    · exact decl_1 name base faces ab fin vars methods body every first B b w q l cs hl hB hE he hfew
    · exact decl_2 name base faces ab fin vars methods body every first B b w q l cs hl hB hE he hfew
    · exact decl_3 name base faces ab fin vars methods body every first B b w q l cs hl hB hE he hfew
    · exact decl_4 name base faces ab fin vars methods body every first B b w q l cs hl hB hE he hfew

/-- a new line. -/
theorem LAt.fresh {B : Nat} {w : World} (hB : B ≤ w.heap.size) : LAt B (w.alloc (.cells #[.slice none 0 0] 61)) w.heap.size none [] :=
  ⟨hB, by simp, none, 0, heap_alloc_new w _, rfl, ⟨rfl, .inl ⟨rfl, rfl⟩⟩⟩
/-- what Expr and Type answer: the tokens with blanks between. -/
def Says (w : World) (l : List UInt8) (e : Ending) (w' : World) : Prop := e = .returned (.string ⟨l.toArray⟩) ∧ Below w.heap.size w w'
theorem EIn.below {w w' : World} {B : Nat} {e : ET} {cs : List Value} (h : EIn w B e cs) (hb : Below B w w') : EIn w' B e cs := h.mono (Nat.le_refl B) hb.block

set_option maxHeartbeats 1000000 in
theorem Expr_any (e : ET) (w : World) (cs : List Value) (hE : Env w.heap.size w) (he : EIn w w.heap.size e cs) (hl : (tE e).length ≤ few) (hs : (joined (tE e)).length ≤ 140737488355328) :
    Calls Tryd.prog 10 #[.agg cs.toArray] w (Says w (joined (tE e))) := by
  obtain ⟨k, n, nm, wh, args⟩ := e
  have he0 := he
  obtain ⟨A, c, rfl, _, _⟩ := he.form
  have hW : Below w.heap.size w (copyE w k n nm wh A args.length c) := (Below.refl _ _).alloc (Nat.le_refl _) _
  have hW2 : Below w.heap.size w ((copyE w k n nm wh A args.length c).alloc (.cells #[.slice none 0 0] 61)) := hW.alloc hW.size _
  have hL : LAt w.heap.size ((copyE w k n nm wh A args.length c).alloc (.cells #[.slice none 0 0] 61)) (w.heap.size + 1) none [] := by
    have := LAt.fresh (B := w.heap.size) (w := copyE w k n nm wh A args.length c) hW.size
    rw [heap_alloc_size] at this
    exact this
  have K := Lib.hid (ex_all _ w.heap.size (w.heap.size + 1) _ none [] _ hL hW2.size (hE.below hW2) (he0.below hW2) (by simpa using hl))
  have HW := Lib.hid hW2
  have HS := Lib.hid (And.intro hs hl)
  clear he he0 hE hW hW2 hL hs hl
  go_enter Tryd.func10, Tryd.ntmps10
  go_wp2_with fail
  refine K.out.mono ?_
  rintro e1 w1 ⟨rfl, q1, H1⟩
  rw [List.nil_append] at H1
  have KT := Lib.hid (text_any H1.at_ HS.out.1 HS.out.2)
  have HB1 := Lib.hid (HW.out.trans H1.low)
  clear K H1
  go_wp2_with fail
  refine KT.out.mono ?_
  rintro e2 w2 ⟨rfl, hb⟩
  have HB2 := Lib.hid (HB1.out.trans (hb.mono HB1.out.size))
  clear hb KT
  go_wp2_with fail
  go_ret
  exact ⟨rfl, HB2.out⟩

set_option maxHeartbeats 1000000 in
theorem Type_any (t : YT) (w : World) (hE : Env w.heap.size w) (hwf : t.wf) (hl : (tY t).length ≤ few) (hs : (joined (tY t)).length ≤ 140737488355328) :
    Calls Tryd.prog 12 #[yv t] w (Says w (joined (tY t))) := by
  have hW : Below w.heap.size w (yC t w) := (Below.refl _ _).alloc (Nat.le_refl _) _
  have hW2 : Below w.heap.size w ((yC t w).alloc (.cells #[.slice none 0 0] 61)) := hW.alloc hW.size _
  have hL : LAt w.heap.size ((yC t w).alloc (.cells #[.slice none 0 0] 61)) (w.heap.size + 1) none [] := by
    have := LAt.fresh (B := w.heap.size) (w := yC t w) hW.size
    rw [heap_alloc_size] at this
    exact this
  have K := Lib.hid (typeOf_any (At.start hL hW2.size) (hE.below hW2) t hwf (by simpa using hl))
  have HW := Lib.hid hW2
  have HS := Lib.hid (And.intro hs hl)
  clear hE hW hW2 hL hs hl
  go_enter Tryd.func12, Tryd.ntmps12
  go_wp2_with fail
  refine K.out.mono ?_
  rintro e1 w1 ⟨rfl, q1, H1⟩
  rw [List.nil_append] at H1
  have KT := Lib.hid (text_any H1.at_ HS.out.1 HS.out.2)
  have HB1 := Lib.hid (HW.out.trans H1.low)
  clear K H1
  go_wp2_with fail
  refine KT.out.mono ?_
  rintro e2 w2 ⟨rfl, hb⟩
  have HB2 := Lib.hid (HB1.out.trans (hb.mono HB1.out.size))
  clear hb KT
  go_wp2_with fail
  go_ret
  exact ⟨rfl, HB2.out⟩
end Go.Proofs.YteijehmdabigeaaDoor
