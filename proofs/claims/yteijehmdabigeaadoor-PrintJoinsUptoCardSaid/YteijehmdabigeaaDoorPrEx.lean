/-
  print's expressions BY CONTRACTS: operand, invoke, expr; every tree.
-/
import Derived.Test.YteijehmdabigeaaDoorPrParted
namespace Go.Proofs.YteijehmdabigeaaDoor
open Go Go.RowKit

theorem nthE_0 (l : List ET) (c : Nat) (A : Option Addr) (w : World) (B : Nat) (h : EsR w B A l) (hB : B ≤ w.heap.size) :
    Calls Tryd.prog 45 #[.slice A l.length c, .int .i64 0] w (NthE w B l 0) := nthE_any l 0 c A w B h hB
theorem nthE_1 (l : List ET) (c : Nat) (A : Option Addr) (w : World) (B : Nat) (h : EsR w B A l) (hB : B ≤ w.heap.size) :
    Calls Tryd.prog 45 #[.slice A l.length c, .int .i64 1] w (NthE w B l 1) := nthE_any l 1 c A w B h hB
/-- what operand writes. -/
def OP (e : ET) : Prop := ∀ (B b : Nat) (w : World) (q : Option Nat) (l : List ByteArray) (cs : List Value), LAt B w b q l → B ≤ w.heap.size → Env B w → EIn w B e cs → l.length + (tO e).length ≤ few →
  Calls Tryd.prog 46 #[.pointer (some ⟨b, 0, none⟩), .agg cs.toArray] w (Put B w b q (l ++ tO e))
theorem OP.at_ {e : ET} (h : OP e) {B b : Nat} {w0 w : World} {q0 q : Option Nat} {l : List ByteArray} {cs : List Value} (H : At B w0 b q0 w q l) (hE : Env B w0) (he : EIn w B e cs) (hl : l.length + (tO e).length ≤ few) :
    Calls Tryd.prog 46 #[.pointer (some ⟨b, 0, none⟩), .agg cs.toArray] w (Put B w0 b q0 (l ++ tO e)) :=
  (h B b w q l cs H.at_ H.size (hE.below H.low) he hl).mono fun _ _ hh => H.lift hh
set_option maxHeartbeats 1000000 in
theorem op_7 (n : Int) (nm wh : ByteArray) (args : List ET) (ih : EX (.mk 7 n nm wh args)) : OP (.mk 7 n nm wh args) := by
  intro B b w q l cs hl hB hE he hfew
  obtain ⟨A, c, rfl, hn, ha⟩ := he.form
  have hT : tO (.mk 7 n nm wh args) = ⟨#[40]⟩ :: tE (.mk 7 n nm wh args) ++ [⟨#[41]⟩] := by simp [tO, inBr, isOp, ET.kind]
  rw [hT] at hfew ⊢
  have hW : Below w.heap.size w (copyE w 7 n nm wh A args.length c) := (Below.refl _ _).alloc (Nat.le_refl _) _
  have hBW : Below B w (copyE w 7 n nm wh A args.length c) := hW.mono hB
  have H0 := Lib.hid (At.start (hl.below hW) (Nat.le_trans hB hW.size))
  have HP := Lib.hid (fun l' e w' => Put.base (l' := l') (e := e) (w' := w') hl hB hW)
  have HC := Lib.hid (fun w' q' l' => copyE_cells (B := B) (w := w) (w' := w') (q' := q') (l' := l') (k := 7) (n := n) (nm := nm) (wh := wh) (A := A) (la := args.length) (c := c) hl)
  have HE := Lib.hid (hE.below hBW)
  have HF := Lib.hid hfew
  have HA := Lib.hid (fun (w' : World) (hb : Below B (copyE w 7 n nm wh A args.length c) w') => EsR.mono (Nat.le_refl B) (hBW.trans hb).block ha)
  have HV := Lib.hid (fun (w' : World) (hb : Below B (copyE w 7 n nm wh A args.length c) w') => he.mono (Nat.le_refl B) (hBW.trans hb).block)
  have KX := Lib.hid ih
  clear hl hB hE he ha hfew hW hBW hT
  go_enter Tryd.func46, Tryd.ntmps46
  go_wp2_with fail
  refine (put1 H0.out ⟨#[40]⟩ (by have hf := HF.out; first | omega | (simp only [List.length_append, List.length_cons, List.length_nil] at hf ⊢; omega)) _ (by simp)).mono ?_
  rintro e1 w1 ⟨rfl, q1, H1⟩
  obtain ⟨z0, z1, z2, z3, z4⟩ := HC.out _ _ _ H1
  have H1 := Lib.hid H1
  go_wp2_with fail
  refine (EX.at_ KX.out H1.out HE.out (HV.out _ H1.out.low) (by have hf := HF.out; first | omega | (simp only [List.length_append, List.length_cons, List.length_nil] at hf ⊢; omega))).mono ?_
  rintro e2 w2 ⟨rfl, q2, H2⟩
  clear z0 z1 z2 z3 z4
  obtain ⟨z0, z1, z2, z3, z4⟩ := HC.out _ _ _ H2
  have H2 := Lib.hid H2
  go_wp2_with fail
  refine (put1 H2.out ⟨#[41]⟩ (by have hf := HF.out; first | omega | (simp only [List.length_append, List.length_cons, List.length_nil] at hf ⊢; omega)) _ (by simp)).mono ?_
  rintro e3 w3 ⟨rfl, q3, H3⟩
  clear z0 z1 z2 z3 z4
  obtain ⟨z0, z1, z2, z3, z4⟩ := HC.out _ _ _ H3
  have H3 := Lib.hid H3
  go_wp2_with fail
  go_end0
  have hz := HP.out _ _ _ H3.out.done
  simpa only [List.append_assoc, List.cons_append, List.nil_append, List.singleton_append] using hz

set_option maxHeartbeats 1000000 in
theorem op_8 (n : Int) (nm wh : ByteArray) (args : List ET) (ih : EX (.mk 8 n nm wh args)) : OP (.mk 8 n nm wh args) := by
  intro B b w q l cs hl hB hE he hfew
  obtain ⟨A, c, rfl, hn, ha⟩ := he.form
  have hT : tO (.mk 8 n nm wh args) = ⟨#[40]⟩ :: tE (.mk 8 n nm wh args) ++ [⟨#[41]⟩] := by simp [tO, inBr, isOp, ET.kind]
  rw [hT] at hfew ⊢
  have hW : Below w.heap.size w (copyE w 8 n nm wh A args.length c) := (Below.refl _ _).alloc (Nat.le_refl _) _
  have hBW : Below B w (copyE w 8 n nm wh A args.length c) := hW.mono hB
  have H0 := Lib.hid (At.start (hl.below hW) (Nat.le_trans hB hW.size))
  have HP := Lib.hid (fun l' e w' => Put.base (l' := l') (e := e) (w' := w') hl hB hW)
  have HC := Lib.hid (fun w' q' l' => copyE_cells (B := B) (w := w) (w' := w') (q' := q') (l' := l') (k := 8) (n := n) (nm := nm) (wh := wh) (A := A) (la := args.length) (c := c) hl)
  have HE := Lib.hid (hE.below hBW)
  have HF := Lib.hid hfew
  have HA := Lib.hid (fun (w' : World) (hb : Below B (copyE w 8 n nm wh A args.length c) w') => EsR.mono (Nat.le_refl B) (hBW.trans hb).block ha)
  have HV := Lib.hid (fun (w' : World) (hb : Below B (copyE w 8 n nm wh A args.length c) w') => he.mono (Nat.le_refl B) (hBW.trans hb).block)
  have KX := Lib.hid ih
  clear hl hB hE he ha hfew hW hBW hT
  go_enter Tryd.func46, Tryd.ntmps46
  go_wp2_with fail
  refine (put1 H0.out ⟨#[40]⟩ (by have hf := HF.out; first | omega | (simp only [List.length_append, List.length_cons, List.length_nil] at hf ⊢; omega)) _ (by simp)).mono ?_
  rintro e1 w1 ⟨rfl, q1, H1⟩
  obtain ⟨z0, z1, z2, z3, z4⟩ := HC.out _ _ _ H1
  have H1 := Lib.hid H1
  go_wp2_with fail
  refine (EX.at_ KX.out H1.out HE.out (HV.out _ H1.out.low) (by have hf := HF.out; first | omega | (simp only [List.length_append, List.length_cons, List.length_nil] at hf ⊢; omega))).mono ?_
  rintro e2 w2 ⟨rfl, q2, H2⟩
  clear z0 z1 z2 z3 z4
  obtain ⟨z0, z1, z2, z3, z4⟩ := HC.out _ _ _ H2
  have H2 := Lib.hid H2
  go_wp2_with fail
  refine (put1 H2.out ⟨#[41]⟩ (by have hf := HF.out; first | omega | (simp only [List.length_append, List.length_cons, List.length_nil] at hf ⊢; omega)) _ (by simp)).mono ?_
  rintro e3 w3 ⟨rfl, q3, H3⟩
  clear z0 z1 z2 z3 z4
  obtain ⟨z0, z1, z2, z3, z4⟩ := HC.out _ _ _ H3
  have H3 := Lib.hid H3
  go_wp2_with fail
  go_end0
  have hz := HP.out _ _ _ H3.out.done
  simpa only [List.append_assoc, List.cons_append, List.nil_append, List.singleton_append] using hz

set_option maxHeartbeats 1000000 in
theorem op_9 (n : Int) (nm wh : ByteArray) (args : List ET) (ih : EX (.mk 9 n nm wh args)) : OP (.mk 9 n nm wh args) := by
  intro B b w q l cs hl hB hE he hfew
  obtain ⟨A, c, rfl, hn, ha⟩ := he.form
  have hT : tO (.mk 9 n nm wh args) = ⟨#[40]⟩ :: tE (.mk 9 n nm wh args) ++ [⟨#[41]⟩] := by simp [tO, inBr, isOp, ET.kind]
  rw [hT] at hfew ⊢
  have hW : Below w.heap.size w (copyE w 9 n nm wh A args.length c) := (Below.refl _ _).alloc (Nat.le_refl _) _
  have hBW : Below B w (copyE w 9 n nm wh A args.length c) := hW.mono hB
  have H0 := Lib.hid (At.start (hl.below hW) (Nat.le_trans hB hW.size))
  have HP := Lib.hid (fun l' e w' => Put.base (l' := l') (e := e) (w' := w') hl hB hW)
  have HC := Lib.hid (fun w' q' l' => copyE_cells (B := B) (w := w) (w' := w') (q' := q') (l' := l') (k := 9) (n := n) (nm := nm) (wh := wh) (A := A) (la := args.length) (c := c) hl)
  have HE := Lib.hid (hE.below hBW)
  have HF := Lib.hid hfew
  have HA := Lib.hid (fun (w' : World) (hb : Below B (copyE w 9 n nm wh A args.length c) w') => EsR.mono (Nat.le_refl B) (hBW.trans hb).block ha)
  have HV := Lib.hid (fun (w' : World) (hb : Below B (copyE w 9 n nm wh A args.length c) w') => he.mono (Nat.le_refl B) (hBW.trans hb).block)
  have KX := Lib.hid ih
  clear hl hB hE he ha hfew hW hBW hT
  go_enter Tryd.func46, Tryd.ntmps46
  go_wp2_with fail
  refine (put1 H0.out ⟨#[40]⟩ (by have hf := HF.out; first | omega | (simp only [List.length_append, List.length_cons, List.length_nil] at hf ⊢; omega)) _ (by simp)).mono ?_
  rintro e1 w1 ⟨rfl, q1, H1⟩
  obtain ⟨z0, z1, z2, z3, z4⟩ := HC.out _ _ _ H1
  have H1 := Lib.hid H1
  go_wp2_with fail
  refine (EX.at_ KX.out H1.out HE.out (HV.out _ H1.out.low) (by have hf := HF.out; first | omega | (simp only [List.length_append, List.length_cons, List.length_nil] at hf ⊢; omega))).mono ?_
  rintro e2 w2 ⟨rfl, q2, H2⟩
  clear z0 z1 z2 z3 z4
  obtain ⟨z0, z1, z2, z3, z4⟩ := HC.out _ _ _ H2
  have H2 := Lib.hid H2
  go_wp2_with fail
  refine (put1 H2.out ⟨#[41]⟩ (by have hf := HF.out; first | omega | (simp only [List.length_append, List.length_cons, List.length_nil] at hf ⊢; omega)) _ (by simp)).mono ?_
  rintro e3 w3 ⟨rfl, q3, H3⟩
  clear z0 z1 z2 z3 z4
  obtain ⟨z0, z1, z2, z3, z4⟩ := HC.out _ _ _ H3
  have H3 := Lib.hid H3
  go_wp2_with fail
  go_end0
  have hz := HP.out _ _ _ H3.out.done
  simpa only [List.append_assoc, List.cons_append, List.nil_append, List.singleton_append] using hz

set_option maxHeartbeats 1000000 in
theorem op_other (k n : Int) (nm wh : ByteArray) (args : List ET) (hk : ¬ (k = 7 ∨ k = 8 ∨ k = 9)) (ih : EX (.mk k n nm wh args)) : OP (.mk k n nm wh args) := by
  intro B b w q l cs hl hB hE he hfew
  obtain ⟨A, c, rfl, hn, ha⟩ := he.form
  have h7 : (k == 7) = false := by simp; omega
  have h8 : (k == 8) = false := by simp; omega
  have h9 : (k == 9) = false := by simp; omega
  have hT : tO (.mk k n nm wh args) = tE (.mk k n nm wh args) := by simp [tO, inBr, isOp, ET.kind, hk]
  rw [hT] at hfew ⊢
  have hW : Below w.heap.size w (copyE w k n nm wh A args.length c) := (Below.refl _ _).alloc (Nat.le_refl _) _
  have hBW : Below B w (copyE w k n nm wh A args.length c) := hW.mono hB
  have H0 := Lib.hid (At.start (hl.below hW) (Nat.le_trans hB hW.size))
  have HP := Lib.hid (fun l' e w' => Put.base (l' := l') (e := e) (w' := w') hl hB hW)
  have HC := Lib.hid (fun w' q' l' => copyE_cells (B := B) (w := w) (w' := w') (q' := q') (l' := l') (k := k) (n := n) (nm := nm) (wh := wh) (A := A) (la := args.length) (c := c) hl)
  have HE := Lib.hid (hE.below hBW)
  have HF := Lib.hid hfew
  have HA := Lib.hid (fun (w' : World) (hb : Below B (copyE w k n nm wh A args.length c) w') => EsR.mono (Nat.le_refl B) (hBW.trans hb).block ha)
  have HV := Lib.hid (fun (w' : World) (hb : Below B (copyE w k n nm wh A args.length c) w') => he.mono (Nat.le_refl B) (hBW.trans hb).block)
  have KX := Lib.hid ih
  clear hk hl hB hE he ha hfew hW hBW hT
  go_enter Tryd.func46, Tryd.ntmps46
  go_wp2_with fail
  refine (EX.at_ KX.out H0.out HE.out (HV.out _ H0.out.low) (by have hf := HF.out; first | omega | (simp only [List.length_append, List.length_cons, List.length_nil] at hf ⊢; omega))).mono ?_
  rintro e1 w1 ⟨rfl, q1, H1⟩
  have H1 := Lib.hid H1
  go_wp2_with fail
  go_end0
  have hz := HP.out _ _ _ H1.out.done
  simpa only [List.append_assoc, List.cons_append, List.nil_append, List.singleton_append] using hz
theorem op_of {e : ET} (h : EX e) : OP e := by
  obtain ⟨k, n, nm, wh, args⟩ := e
  by_cases hk : k = 7 ∨ k = 8 ∨ k = 9
  · rcases hk with rfl | rfl | rfl
    · exact op_7 n nm wh args h
    · exact op_8 n nm wh args h
    · exact op_9 n nm wh args h
  · exact op_other k n nm wh args hk h

theorem partedE_at {args : List ET} (ih : ∀ (k : Nat) (hk : k < args.length), EX args[k]) {B b : Nat} {w0 w : World} {q0 q : Option Nat} {l : List ByteArray} {A : Option Addr} {c : Nat} (H : At B w0 b q0 w q l) (hE : Env B w0) (ha : EsR w B A args) (hl : l.length + (sep (tEs args)).length + 1 ≤ few) :
    Calls Tryd.prog 64 #[.pointer (some ⟨b, 0, none⟩), .slice A args.length c, .func (.func 24) #[.pointer (some ⟨b, 0, none⟩)] #[]] w (Put B w0 b q0 (l ++ sep (tEs args))) :=
  (partedE_of args ih B b w q l A c H.at_ H.size (hE.below H.low) ha hl).mono fun _ _ hh => H.lift hh
set_option maxHeartbeats 2000000 in
theorem inv_any (n : Int) (nm wh : ByteArray) (args : List ET) (ih : ∀ (k : Nat) (hk : k < args.length), EX args[k]) (B b : Nat) (w : World) (q : Option Nat) (l : List ByteArray) (cs : List Value) (hl : LAt B w b q l) (hB : B ≤ w.heap.size) (hE : Env B w)
    (he : EIn w B (.mk 13 n nm wh args) cs) (hfew : l.length + (tE (.mk 13 n nm wh args)).length ≤ few) :
    Calls Tryd.prog 48 #[.pointer (some ⟨b, 0, none⟩), .agg cs.toArray] w (Put B w b q (l ++ tE (.mk 13 n nm wh args))) := by
  obtain ⟨A, c, rfl, hn, ha⟩ := he.form
  have hmf := hmf
  have hT : tE (.mk 13 n nm wh args) = [ownText n nm, ⟨#[46]⟩, wh, ⟨#[40]⟩] ++ sep (tEs args) ++ [⟨#[41]⟩] := by rw [tE]; rfl
  rw [hT] at hfew ⊢
  have hW : Below w.heap.size w (copyE w 13 n nm wh A args.length c) := (Below.refl _ _).alloc (Nat.le_refl _) _
  have hBW : Below B w (copyE w 13 n nm wh A args.length c) := hW.mono hB
  have H0 := Lib.hid (At.start (hl.below hW) (Nat.le_trans hB hW.size))
  have HP := Lib.hid (fun l' e w' => Put.base (l' := l') (e := e) (w' := w') hl hB hW)
  have HC := Lib.hid (fun w' q' l' => copyE_cells (B := B) (w := w) (w' := w') (q' := q') (l' := l') (k := 13) (n := n) (nm := nm) (wh := wh) (A := A) (la := args.length) (c := c) hl)
  have HE := Lib.hid (hE.below hBW)
  have HF := Lib.hid hfew
  have HA := Lib.hid (fun (w' : World) (hb : Below B (copyE w 13 n nm wh A args.length c) w') => EsR.mono (Nat.le_refl B) (hBW.trans hb).block ha)
  have HV := Lib.hid (fun (w' : World) (hb : Below B (copyE w 13 n nm wh A args.length c) w') => he.mono (Nat.le_refl B) (hBW.trans hb).block)
  have ih := Lib.hid ih
  clear HV hl hB hE he ha hfew hW hBW hT
  go_enter Tryd.func48, Tryd.ntmps48
  go_wp2_with fail
  go_region_with (first
    | (go_at_call 63; refine (owner_any 13 n nm wh A args.length c _).mono ?_; rintro e1 w1 ⟨rfl, hb⟩; have H1 := Lib.hid (H0.out.drew.new hb); obtain ⟨z0, z1, z2, z3, z4⟩ := HC.out _ _ _ H1.out)
    | (go_at_call 36; refine (put4 H1.out (ownText n nm) ⟨#[46]⟩ wh ⟨#[40]⟩ (by have hf := HF.out; first | omega | (simp only [List.length_append, List.length_cons, List.length_nil] at hf ⊢; omega)) _ (by simp)).mono ?_; rintro e2 w2 ⟨rfl, q2, H2⟩))
  all_goals
    clear z0 z1 z2 z3 z4 hb H1
    obtain ⟨z0, z1, z2, z3, z4⟩ := HC.out _ _ _ H2
    have H2 := Lib.hid H2
    go_wp2_with fail
    refine (partedE_at ih.out H2.out HE.out (HA.out _ H2.out.low) (by have hf := HF.out; first | omega | (simp only [List.length_append, List.length_cons, List.length_nil] at hf ⊢; omega))).mono ?_
    rintro e3 w3 ⟨rfl, q3, H3⟩
    clear z0 z1 z2 z3 z4
    obtain ⟨z0, z1, z2, z3, z4⟩ := HC.out _ _ _ H3
    have H3 := Lib.hid H3
    go_wp2_with fail
    refine (put1 H3.out ⟨#[41]⟩ (by have hf := HF.out; first | omega | (simp only [List.length_append, List.length_cons, List.length_nil] at hf ⊢; omega)) _ (by simp)).mono ?_
    rintro e4 w4 ⟨rfl, q4, H4⟩
    clear z0 z1 z2 z3 z4
    obtain ⟨z0, z1, z2, z3, z4⟩ := HC.out _ _ _ H4
    have H4 := Lib.hid H4
    go_wp2_with fail
    go_end0
    have hz := HP.out _ _ _ H4.out.done
    simpa only [List.append_assoc, List.cons_append, List.nil_append, List.singleton_append] using hz

theorem nth_ih {args : List ET} (ih : ∀ (k : Nat) (hk : k < args.length), EX args[k]) (i : Nat) : EX (nthE args i) := by
  by_cases h : i < args.length
  · have e : nthE args i = args[i] := by simp [nthE, h]
    rw [e]
    exact ih i h
  · have e : nthE args i = ET.zero := by simp [nthE, h]
    rw [e]
    exact ex_zero

set_option maxHeartbeats 1000000 in
theorem ex_1 (n : Int) (nm wh : ByteArray) (args : List ET) (ih : ∀ (k : Nat) (hk : k < args.length), EX args[k]) : EX (.mk 1 n nm wh args) := by
  intro B b w q l cs hl hB hE he hfew
  obtain ⟨A, c, rfl, hn, ha⟩ := he.form
  have KX := Lib.hid (fun i => nth_ih ih i)
  have KO := Lib.hid (fun i => op_of (nth_ih ih i))
  have hT : tE (.mk 1 n nm wh args) = tInt n := by rw [tE]; rfl
  rw [hT] at hfew ⊢
  have hW : Below w.heap.size w (copyE w 1 n nm wh A args.length c) := (Below.refl _ _).alloc (Nat.le_refl _) _
  have hBW : Below B w (copyE w 1 n nm wh A args.length c) := hW.mono hB
  have H0 := Lib.hid (At.start (hl.below hW) (Nat.le_trans hB hW.size))
  have HP := Lib.hid (fun l' e w' => Put.base (l' := l') (e := e) (w' := w') hl hB hW)
  have HC := Lib.hid (fun w' q' l' => copyE_cells (B := B) (w := w) (w' := w') (q' := q') (l' := l') (k := 1) (n := n) (nm := nm) (wh := wh) (A := A) (la := args.length) (c := c) hl)
  have HE := Lib.hid (hE.below hBW)
  have HF := Lib.hid hfew
  have HA := Lib.hid (fun (w' : World) (hb : Below B (copyE w 1 n nm wh A args.length c) w') => EsR.mono (Nat.le_refl B) (hBW.trans hb).block ha)
  have HV := Lib.hid (fun (w' : World) (hb : Below B (copyE w 1 n nm wh A args.length c) w') => he.mono (Nat.le_refl B) (hBW.trans hb).block)
  clear ih hl hB hE he ha hfew hW hBW hT
  go_enter Tryd.func24, Tryd.ntmps24
  go_wp2_with fail
  refine (int_any H0.out HE.out n hn (by have hf := HF.out; first | omega | (simp only [List.length_append, List.length_cons, List.length_nil] at hf ⊢; omega))).mono ?_
  rintro e1 w1 ⟨rfl, q1, H1⟩
  obtain ⟨z0, z1, z2, z3, z4⟩ := HC.out _ _ _ H1
  have H1 := Lib.hid H1
  go_wp2_with fail
  go_end0
  have hz := HP.out _ _ _ H1.out.done
  simpa only [List.append_assoc, List.cons_append, List.nil_append, List.singleton_append] using hz

set_option maxHeartbeats 1000000 in
theorem ex_2 (n : Int) (nm wh : ByteArray) (args : List ET) (ih : ∀ (k : Nat) (hk : k < args.length), EX args[k]) : EX (.mk 2 n nm wh args) := by
  intro B b w q l cs hl hB hE he hfew
  obtain ⟨A, c, rfl, hn, ha⟩ := he.form
  have KX := Lib.hid (fun i => nth_ih ih i)
  have KO := Lib.hid (fun i => op_of (nth_ih ih i))
  have hT : tE (.mk 2 n nm wh args) = [⟨#[84, 82, 85, 69]⟩] := by rw [tE]; rfl
  rw [hT] at hfew ⊢
  have hW : Below w.heap.size w (copyE w 2 n nm wh A args.length c) := (Below.refl _ _).alloc (Nat.le_refl _) _
  have hBW : Below B w (copyE w 2 n nm wh A args.length c) := hW.mono hB
  have H0 := Lib.hid (At.start (hl.below hW) (Nat.le_trans hB hW.size))
  have HP := Lib.hid (fun l' e w' => Put.base (l' := l') (e := e) (w' := w') hl hB hW)
  have HC := Lib.hid (fun w' q' l' => copyE_cells (B := B) (w := w) (w' := w') (q' := q') (l' := l') (k := 2) (n := n) (nm := nm) (wh := wh) (A := A) (la := args.length) (c := c) hl)
  have HE := Lib.hid (hE.below hBW)
  have HF := Lib.hid hfew
  have HA := Lib.hid (fun (w' : World) (hb : Below B (copyE w 2 n nm wh A args.length c) w') => EsR.mono (Nat.le_refl B) (hBW.trans hb).block ha)
  have HV := Lib.hid (fun (w' : World) (hb : Below B (copyE w 2 n nm wh A args.length c) w') => he.mono (Nat.le_refl B) (hBW.trans hb).block)
  clear ih hl hB hE he ha hfew hW hBW hT
  go_enter Tryd.func24, Tryd.ntmps24
  go_wp2_with fail
  refine (put1 H0.out ⟨#[84, 82, 85, 69]⟩ (by have hf := HF.out; first | omega | (simp only [List.length_append, List.length_cons, List.length_nil] at hf ⊢; omega)) _ (by simp)).mono ?_
  rintro e1 w1 ⟨rfl, q1, H1⟩
  obtain ⟨z0, z1, z2, z3, z4⟩ := HC.out _ _ _ H1
  have H1 := Lib.hid H1
  go_wp2_with fail
  go_end0
  have hz := HP.out _ _ _ H1.out.done
  simpa only [List.append_assoc, List.cons_append, List.nil_append, List.singleton_append] using hz

set_option maxHeartbeats 1000000 in
theorem ex_3 (n : Int) (nm wh : ByteArray) (args : List ET) (ih : ∀ (k : Nat) (hk : k < args.length), EX args[k]) : EX (.mk 3 n nm wh args) := by
  intro B b w q l cs hl hB hE he hfew
  obtain ⟨A, c, rfl, hn, ha⟩ := he.form
  have KX := Lib.hid (fun i => nth_ih ih i)
  have KO := Lib.hid (fun i => op_of (nth_ih ih i))
  have hT : tE (.mk 3 n nm wh args) = [⟨#[70, 65, 76, 83, 69]⟩] := by rw [tE]; rfl
  rw [hT] at hfew ⊢
  have hW : Below w.heap.size w (copyE w 3 n nm wh A args.length c) := (Below.refl _ _).alloc (Nat.le_refl _) _
  have hBW : Below B w (copyE w 3 n nm wh A args.length c) := hW.mono hB
  have H0 := Lib.hid (At.start (hl.below hW) (Nat.le_trans hB hW.size))
  have HP := Lib.hid (fun l' e w' => Put.base (l' := l') (e := e) (w' := w') hl hB hW)
  have HC := Lib.hid (fun w' q' l' => copyE_cells (B := B) (w := w) (w' := w') (q' := q') (l' := l') (k := 3) (n := n) (nm := nm) (wh := wh) (A := A) (la := args.length) (c := c) hl)
  have HE := Lib.hid (hE.below hBW)
  have HF := Lib.hid hfew
  have HA := Lib.hid (fun (w' : World) (hb : Below B (copyE w 3 n nm wh A args.length c) w') => EsR.mono (Nat.le_refl B) (hBW.trans hb).block ha)
  have HV := Lib.hid (fun (w' : World) (hb : Below B (copyE w 3 n nm wh A args.length c) w') => he.mono (Nat.le_refl B) (hBW.trans hb).block)
  clear ih hl hB hE he ha hfew hW hBW hT
  go_enter Tryd.func24, Tryd.ntmps24
  go_wp2_with fail
  refine (put1 H0.out ⟨#[70, 65, 76, 83, 69]⟩ (by have hf := HF.out; first | omega | (simp only [List.length_append, List.length_cons, List.length_nil] at hf ⊢; omega)) _ (by simp)).mono ?_
  rintro e1 w1 ⟨rfl, q1, H1⟩
  obtain ⟨z0, z1, z2, z3, z4⟩ := HC.out _ _ _ H1
  have H1 := Lib.hid H1
  go_wp2_with fail
  go_end0
  have hz := HP.out _ _ _ H1.out.done
  simpa only [List.append_assoc, List.cons_append, List.nil_append, List.singleton_append] using hz

set_option maxHeartbeats 1000000 in
theorem ex_4 (n : Int) (nm wh : ByteArray) (args : List ET) (ih : ∀ (k : Nat) (hk : k < args.length), EX args[k]) : EX (.mk 4 n nm wh args) := by
  intro B b w q l cs hl hB hE he hfew
  obtain ⟨A, c, rfl, hn, ha⟩ := he.form
  have KX := Lib.hid (fun i => nth_ih ih i)
  have KO := Lib.hid (fun i => op_of (nth_ih ih i))
  have hT : tE (.mk 4 n nm wh args) = [⟨#[78, 85, 76, 76]⟩] := by rw [tE]; rfl
  rw [hT] at hfew ⊢
  have hW : Below w.heap.size w (copyE w 4 n nm wh A args.length c) := (Below.refl _ _).alloc (Nat.le_refl _) _
  have hBW : Below B w (copyE w 4 n nm wh A args.length c) := hW.mono hB
  have H0 := Lib.hid (At.start (hl.below hW) (Nat.le_trans hB hW.size))
  have HP := Lib.hid (fun l' e w' => Put.base (l' := l') (e := e) (w' := w') hl hB hW)
  have HC := Lib.hid (fun w' q' l' => copyE_cells (B := B) (w := w) (w' := w') (q' := q') (l' := l') (k := 4) (n := n) (nm := nm) (wh := wh) (A := A) (la := args.length) (c := c) hl)
  have HE := Lib.hid (hE.below hBW)
  have HF := Lib.hid hfew
  have HA := Lib.hid (fun (w' : World) (hb : Below B (copyE w 4 n nm wh A args.length c) w') => EsR.mono (Nat.le_refl B) (hBW.trans hb).block ha)
  have HV := Lib.hid (fun (w' : World) (hb : Below B (copyE w 4 n nm wh A args.length c) w') => he.mono (Nat.le_refl B) (hBW.trans hb).block)
  clear ih hl hB hE he ha hfew hW hBW hT
  go_enter Tryd.func24, Tryd.ntmps24
  go_wp2_with fail
  refine (put1 H0.out ⟨#[78, 85, 76, 76]⟩ (by have hf := HF.out; first | omega | (simp only [List.length_append, List.length_cons, List.length_nil] at hf ⊢; omega)) _ (by simp)).mono ?_
  rintro e1 w1 ⟨rfl, q1, H1⟩
  obtain ⟨z0, z1, z2, z3, z4⟩ := HC.out _ _ _ H1
  have H1 := Lib.hid H1
  go_wp2_with fail
  go_end0
  have hz := HP.out _ _ _ H1.out.done
  simpa only [List.append_assoc, List.cons_append, List.nil_append, List.singleton_append] using hz

set_option maxHeartbeats 1000000 in
theorem ex_5 (n : Int) (nm wh : ByteArray) (args : List ET) (ih : ∀ (k : Nat) (hk : k < args.length), EX args[k]) : EX (.mk 5 n nm wh args) := by
  intro B b w q l cs hl hB hE he hfew
  obtain ⟨A, c, rfl, hn, ha⟩ := he.form
  have KX := Lib.hid (fun i => nth_ih ih i)
  have KO := Lib.hid (fun i => op_of (nth_ih ih i))
  have hT : tE (.mk 5 n nm wh args) = [nm] := by rw [tE]; rfl
  rw [hT] at hfew ⊢
  have hW : Below w.heap.size w (copyE w 5 n nm wh A args.length c) := (Below.refl _ _).alloc (Nat.le_refl _) _
  have hBW : Below B w (copyE w 5 n nm wh A args.length c) := hW.mono hB
  have H0 := Lib.hid (At.start (hl.below hW) (Nat.le_trans hB hW.size))
  have HP := Lib.hid (fun l' e w' => Put.base (l' := l') (e := e) (w' := w') hl hB hW)
  have HC := Lib.hid (fun w' q' l' => copyE_cells (B := B) (w := w) (w' := w') (q' := q') (l' := l') (k := 5) (n := n) (nm := nm) (wh := wh) (A := A) (la := args.length) (c := c) hl)
  have HE := Lib.hid (hE.below hBW)
  have HF := Lib.hid hfew
  have HA := Lib.hid (fun (w' : World) (hb : Below B (copyE w 5 n nm wh A args.length c) w') => EsR.mono (Nat.le_refl B) (hBW.trans hb).block ha)
  have HV := Lib.hid (fun (w' : World) (hb : Below B (copyE w 5 n nm wh A args.length c) w') => he.mono (Nat.le_refl B) (hBW.trans hb).block)
  clear ih hl hB hE he ha hfew hW hBW hT
  go_enter Tryd.func24, Tryd.ntmps24
  go_wp2_with fail
  refine (put1 H0.out nm (by have hf := HF.out; first | omega | (simp only [List.length_append, List.length_cons, List.length_nil] at hf ⊢; omega)) _ (by simp)).mono ?_
  rintro e1 w1 ⟨rfl, q1, H1⟩
  obtain ⟨z0, z1, z2, z3, z4⟩ := HC.out _ _ _ H1
  have H1 := Lib.hid H1
  go_wp2_with fail
  go_end0
  have hz := HP.out _ _ _ H1.out.done
  simpa only [List.append_assoc, List.cons_append, List.nil_append, List.singleton_append] using hz

set_option maxHeartbeats 1000000 in
theorem ex_6 (n : Int) (nm wh : ByteArray) (args : List ET) (ih : ∀ (k : Nat) (hk : k < args.length), EX args[k]) : EX (.mk 6 n nm wh args) := by
  intro B b w q l cs hl hB hE he hfew
  obtain ⟨A, c, rfl, hn, ha⟩ := he.form
  have KX := Lib.hid (fun i => nth_ih ih i)
  have KO := Lib.hid (fun i => op_of (nth_ih ih i))
  have hT : tE (.mk 6 n nm wh args) = [nm, ⟨#[91]⟩] ++ tE (nthE args 0) ++ [⟨#[93]⟩] := by rw [tE, tEk, tEs_nth]; rfl
  rw [hT] at hfew ⊢
  have hW : Below w.heap.size w (copyE w 6 n nm wh A args.length c) := (Below.refl _ _).alloc (Nat.le_refl _) _
  have hBW : Below B w (copyE w 6 n nm wh A args.length c) := hW.mono hB
  have H0 := Lib.hid (At.start (hl.below hW) (Nat.le_trans hB hW.size))
  have HP := Lib.hid (fun l' e w' => Put.base (l' := l') (e := e) (w' := w') hl hB hW)
  have HC := Lib.hid (fun w' q' l' => copyE_cells (B := B) (w := w) (w' := w') (q' := q') (l' := l') (k := 6) (n := n) (nm := nm) (wh := wh) (A := A) (la := args.length) (c := c) hl)
  have HE := Lib.hid (hE.below hBW)
  have HF := Lib.hid hfew
  have HA := Lib.hid (fun (w' : World) (hb : Below B (copyE w 6 n nm wh A args.length c) w') => EsR.mono (Nat.le_refl B) (hBW.trans hb).block ha)
  have HV := Lib.hid (fun (w' : World) (hb : Below B (copyE w 6 n nm wh A args.length c) w') => he.mono (Nat.le_refl B) (hBW.trans hb).block)
  clear ih hl hB hE he ha hfew hW hBW hT
  go_enter Tryd.func24, Tryd.ntmps24
  go_wp2_with fail
  refine (put2 H0.out nm ⟨#[91]⟩ (by have hf := HF.out; first | omega | (simp only [List.length_append, List.length_cons, List.length_nil] at hf ⊢; omega)) _ (by simp)).mono ?_
  rintro e1 w1 ⟨rfl, q1, H1⟩
  obtain ⟨z0, z1, z2, z3, z4⟩ := HC.out _ _ _ H1
  have H1 := Lib.hid H1
  go_wp2_with fail
  refine (nthE_0 args c A _ B (HA.out _ H1.out.low) H1.out.size).mono ?_
  rintro e2 w2 ⟨cs2, rfl, he2, hb2⟩
  have E2 := Lib.hid he2
  have H2 := H1.out.new hb2
  clear z0 z1 z2 z3 z4
  obtain ⟨z0, z1, z2, z3, z4⟩ := HC.out _ _ _ H2
  have H2 := Lib.hid H2
  clear he2 hb2
  go_wp2_with fail
  refine (EX.at_ (KX.out 0) H2.out HE.out E2.out (by have hf := HF.out; first | omega | (simp only [List.length_append, List.length_cons, List.length_nil] at hf ⊢; omega))).mono ?_
  rintro e3 w3 ⟨rfl, q3, H3⟩
  clear z0 z1 z2 z3 z4
  obtain ⟨z0, z1, z2, z3, z4⟩ := HC.out _ _ _ H3
  have H3 := Lib.hid H3
  go_wp2_with fail
  refine (put1 H3.out ⟨#[93]⟩ (by have hf := HF.out; first | omega | (simp only [List.length_append, List.length_cons, List.length_nil] at hf ⊢; omega)) _ (by simp)).mono ?_
  rintro e4 w4 ⟨rfl, q4, H4⟩
  clear z0 z1 z2 z3 z4
  obtain ⟨z0, z1, z2, z3, z4⟩ := HC.out _ _ _ H4
  have H4 := Lib.hid H4
  go_wp2_with fail
  go_end0
  have hz := HP.out _ _ _ H4.out.done
  simpa only [List.append_assoc, List.cons_append, List.nil_append, List.singleton_append] using hz

set_option maxHeartbeats 1000000 in
theorem ex_7 (n : Int) (nm wh : ByteArray) (args : List ET) (ih : ∀ (k : Nat) (hk : k < args.length), EX args[k]) : EX (.mk 7 n nm wh args) := by
  intro B b w q l cs hl hB hE he hfew
  obtain ⟨A, c, rfl, hn, ha⟩ := he.form
  have KX := Lib.hid (fun i => nth_ih ih i)
  have KO := Lib.hid (fun i => op_of (nth_ih ih i))
  have hT : tE (.mk 7 n nm wh args) = [⟨#[45]⟩] ++ tO (nthE args 0) := by rw [tE, tEk, tOs_nth]; rfl
  rw [hT] at hfew ⊢
  have hW : Below w.heap.size w (copyE w 7 n nm wh A args.length c) := (Below.refl _ _).alloc (Nat.le_refl _) _
  have hBW : Below B w (copyE w 7 n nm wh A args.length c) := hW.mono hB
  have H0 := Lib.hid (At.start (hl.below hW) (Nat.le_trans hB hW.size))
  have HP := Lib.hid (fun l' e w' => Put.base (l' := l') (e := e) (w' := w') hl hB hW)
  have HC := Lib.hid (fun w' q' l' => copyE_cells (B := B) (w := w) (w' := w') (q' := q') (l' := l') (k := 7) (n := n) (nm := nm) (wh := wh) (A := A) (la := args.length) (c := c) hl)
  have HE := Lib.hid (hE.below hBW)
  have HF := Lib.hid hfew
  have HA := Lib.hid (fun (w' : World) (hb : Below B (copyE w 7 n nm wh A args.length c) w') => EsR.mono (Nat.le_refl B) (hBW.trans hb).block ha)
  have HV := Lib.hid (fun (w' : World) (hb : Below B (copyE w 7 n nm wh A args.length c) w') => he.mono (Nat.le_refl B) (hBW.trans hb).block)
  clear ih hl hB hE he ha hfew hW hBW hT
  go_enter Tryd.func24, Tryd.ntmps24
  go_wp2_with fail
  refine (put1 H0.out ⟨#[45]⟩ (by have hf := HF.out; first | omega | (simp only [List.length_append, List.length_cons, List.length_nil] at hf ⊢; omega)) _ (by simp)).mono ?_
  rintro e1 w1 ⟨rfl, q1, H1⟩
  obtain ⟨z0, z1, z2, z3, z4⟩ := HC.out _ _ _ H1
  have H1 := Lib.hid H1
  go_wp2_with fail
  refine (nthE_0 args c A _ B (HA.out _ H1.out.low) H1.out.size).mono ?_
  rintro e2 w2 ⟨cs2, rfl, he2, hb2⟩
  have E2 := Lib.hid he2
  have H2 := H1.out.new hb2
  clear z0 z1 z2 z3 z4
  obtain ⟨z0, z1, z2, z3, z4⟩ := HC.out _ _ _ H2
  have H2 := Lib.hid H2
  clear he2 hb2
  go_wp2_with fail
  refine (OP.at_ (KO.out 0) H2.out HE.out E2.out (by have hf := HF.out; first | omega | (simp only [List.length_append, List.length_cons, List.length_nil] at hf ⊢; omega))).mono ?_
  rintro e3 w3 ⟨rfl, q3, H3⟩
  clear z0 z1 z2 z3 z4
  obtain ⟨z0, z1, z2, z3, z4⟩ := HC.out _ _ _ H3
  have H3 := Lib.hid H3
  go_wp2_with fail
  go_end0
  have hz := HP.out _ _ _ H3.out.done
  simpa only [List.append_assoc, List.cons_append, List.nil_append, List.singleton_append] using hz

set_option maxHeartbeats 1000000 in
theorem ex_8 (n : Int) (nm wh : ByteArray) (args : List ET) (ih : ∀ (k : Nat) (hk : k < args.length), EX args[k]) : EX (.mk 8 n nm wh args) := by
  intro B b w q l cs hl hB hE he hfew
  obtain ⟨A, c, rfl, hn, ha⟩ := he.form
  have KX := Lib.hid (fun i => nth_ih ih i)
  have KO := Lib.hid (fun i => op_of (nth_ih ih i))
  have hT : tE (.mk 8 n nm wh args) = [⟨#[78, 79, 84]⟩] ++ tO (nthE args 0) := by rw [tE, tEk, tOs_nth]; rfl
  rw [hT] at hfew ⊢
  have hW : Below w.heap.size w (copyE w 8 n nm wh A args.length c) := (Below.refl _ _).alloc (Nat.le_refl _) _
  have hBW : Below B w (copyE w 8 n nm wh A args.length c) := hW.mono hB
  have H0 := Lib.hid (At.start (hl.below hW) (Nat.le_trans hB hW.size))
  have HP := Lib.hid (fun l' e w' => Put.base (l' := l') (e := e) (w' := w') hl hB hW)
  have HC := Lib.hid (fun w' q' l' => copyE_cells (B := B) (w := w) (w' := w') (q' := q') (l' := l') (k := 8) (n := n) (nm := nm) (wh := wh) (A := A) (la := args.length) (c := c) hl)
  have HE := Lib.hid (hE.below hBW)
  have HF := Lib.hid hfew
  have HA := Lib.hid (fun (w' : World) (hb : Below B (copyE w 8 n nm wh A args.length c) w') => EsR.mono (Nat.le_refl B) (hBW.trans hb).block ha)
  have HV := Lib.hid (fun (w' : World) (hb : Below B (copyE w 8 n nm wh A args.length c) w') => he.mono (Nat.le_refl B) (hBW.trans hb).block)
  clear ih hl hB hE he ha hfew hW hBW hT
  go_enter Tryd.func24, Tryd.ntmps24
  go_wp2_with fail
  refine (put1 H0.out ⟨#[78, 79, 84]⟩ (by have hf := HF.out; first | omega | (simp only [List.length_append, List.length_cons, List.length_nil] at hf ⊢; omega)) _ (by simp)).mono ?_
  rintro e1 w1 ⟨rfl, q1, H1⟩
  obtain ⟨z0, z1, z2, z3, z4⟩ := HC.out _ _ _ H1
  have H1 := Lib.hid H1
  go_wp2_with fail
  refine (nthE_0 args c A _ B (HA.out _ H1.out.low) H1.out.size).mono ?_
  rintro e2 w2 ⟨cs2, rfl, he2, hb2⟩
  have E2 := Lib.hid he2
  have H2 := H1.out.new hb2
  clear z0 z1 z2 z3 z4
  obtain ⟨z0, z1, z2, z3, z4⟩ := HC.out _ _ _ H2
  have H2 := Lib.hid H2
  clear he2 hb2
  go_wp2_with fail
  refine (OP.at_ (KO.out 0) H2.out HE.out E2.out (by have hf := HF.out; first | omega | (simp only [List.length_append, List.length_cons, List.length_nil] at hf ⊢; omega))).mono ?_
  rintro e3 w3 ⟨rfl, q3, H3⟩
  clear z0 z1 z2 z3 z4
  obtain ⟨z0, z1, z2, z3, z4⟩ := HC.out _ _ _ H3
  have H3 := Lib.hid H3
  go_wp2_with fail
  go_end0
  have hz := HP.out _ _ _ H3.out.done
  simpa only [List.append_assoc, List.cons_append, List.nil_append, List.singleton_append] using hz

set_option maxHeartbeats 1000000 in
theorem ex_9 (n : Int) (nm wh : ByteArray) (args : List ET) (ih : ∀ (k : Nat) (hk : k < args.length), EX args[k]) : EX (.mk 9 n nm wh args) := by
  intro B b w q l cs hl hB hE he hfew
  obtain ⟨A, c, rfl, hn, ha⟩ := he.form
  have KX := Lib.hid (fun i => nth_ih ih i)
  have KO := Lib.hid (fun i => op_of (nth_ih ih i))
  have hT : tE (.mk 9 n nm wh args) = tO (nthE args 0) ++ [opText n] ++ tO (nthE args 1) := by rw [tE, tEk, tOs_nth, tOs_nth]; rfl
  rw [hT] at hfew ⊢
  have hW : Below w.heap.size w (copyE w 9 n nm wh A args.length c) := (Below.refl _ _).alloc (Nat.le_refl _) _
  have hBW : Below B w (copyE w 9 n nm wh A args.length c) := hW.mono hB
  have H0 := Lib.hid (At.start (hl.below hW) (Nat.le_trans hB hW.size))
  have HP := Lib.hid (fun l' e w' => Put.base (l' := l') (e := e) (w' := w') hl hB hW)
  have HC := Lib.hid (fun w' q' l' => copyE_cells (B := B) (w := w) (w' := w') (q' := q') (l' := l') (k := 9) (n := n) (nm := nm) (wh := wh) (A := A) (la := args.length) (c := c) hl)
  have HE := Lib.hid (hE.below hBW)
  have HF := Lib.hid hfew
  have HA := Lib.hid (fun (w' : World) (hb : Below B (copyE w 9 n nm wh A args.length c) w') => EsR.mono (Nat.le_refl B) (hBW.trans hb).block ha)
  have HV := Lib.hid (fun (w' : World) (hb : Below B (copyE w 9 n nm wh A args.length c) w') => he.mono (Nat.le_refl B) (hBW.trans hb).block)
  clear ih hl hB hE he ha hfew hW hBW hT
  go_enter Tryd.func24, Tryd.ntmps24
  go_wp2_with fail
  refine (nthE_0 args c A _ B (HA.out _ H0.out.low) H0.out.size).mono ?_
  rintro e1 w1 ⟨cs1, rfl, he1, hb1⟩
  have E1 := Lib.hid he1
  have H1 := H0.out.new hb1
  obtain ⟨z0, z1, z2, z3, z4⟩ := HC.out _ _ _ H1
  have H1 := Lib.hid H1
  clear he1 hb1
  go_wp2_with fail
  refine (OP.at_ (KO.out 0) H1.out HE.out E1.out (by have hf := HF.out; first | omega | (simp only [List.length_append, List.length_cons, List.length_nil] at hf ⊢; omega))).mono ?_
  rintro e2 w2 ⟨rfl, q2, H2⟩
  clear z0 z1 z2 z3 z4
  obtain ⟨z0, z1, z2, z3, z4⟩ := HC.out _ _ _ H2
  have H2 := Lib.hid H2
  go_wp2_with fail
  refine (operator_any n _ (HE.out.below H2.out.low)).mono ?_
  rintro e3 w3 ⟨rfl, hb3⟩
  have H3 := H2.out.new hb3
  clear z0 z1 z2 z3 z4
  obtain ⟨z0, z1, z2, z3, z4⟩ := HC.out _ _ _ H3
  have H3 := Lib.hid H3
  clear hb3
  go_wp2_with fail
  refine (put1 H3.out (opText n) (by have hf := HF.out; first | omega | (simp only [List.length_append, List.length_cons, List.length_nil] at hf ⊢; omega)) _ (by simp)).mono ?_
  rintro e4 w4 ⟨rfl, q4, H4⟩
  clear z0 z1 z2 z3 z4
  obtain ⟨z0, z1, z2, z3, z4⟩ := HC.out _ _ _ H4
  have H4 := Lib.hid H4
  go_wp2_with fail
  refine (nthE_1 args c A _ B (HA.out _ H4.out.low) H4.out.size).mono ?_
  rintro e5 w5 ⟨cs5, rfl, he5, hb5⟩
  have E5 := Lib.hid he5
  have H5 := H4.out.new hb5
  clear z0 z1 z2 z3 z4
  obtain ⟨z0, z1, z2, z3, z4⟩ := HC.out _ _ _ H5
  have H5 := Lib.hid H5
  clear he5 hb5
  go_wp2_with fail
  refine (OP.at_ (KO.out 1) H5.out HE.out E5.out (by have hf := HF.out; first | omega | (simp only [List.length_append, List.length_cons, List.length_nil] at hf ⊢; omega))).mono ?_
  rintro e6 w6 ⟨rfl, q6, H6⟩
  clear z0 z1 z2 z3 z4
  obtain ⟨z0, z1, z2, z3, z4⟩ := HC.out _ _ _ H6
  have H6 := Lib.hid H6
  go_wp2_with fail
  go_end0
  have hz := HP.out _ _ _ H6.out.done
  simpa only [List.append_assoc, List.cons_append, List.nil_append, List.singleton_append] using hz

set_option maxHeartbeats 1000000 in
theorem ex_10 (n : Int) (nm wh : ByteArray) (args : List ET) (ih : ∀ (k : Nat) (hk : k < args.length), EX args[k]) : EX (.mk 10 n nm wh args) := by
  intro B b w q l cs hl hB hE he hfew
  obtain ⟨A, c, rfl, hn, ha⟩ := he.form
  have KX := Lib.hid (fun i => nth_ih ih i)
  have KO := Lib.hid (fun i => op_of (nth_ih ih i))
  have hT : tE (.mk 10 n nm wh args) = [⟨#[82, 69, 70]⟩, ⟨#[40]⟩, nm, ⟨#[41]⟩] := by rw [tE]; rfl
  rw [hT] at hfew ⊢
  have hW : Below w.heap.size w (copyE w 10 n nm wh A args.length c) := (Below.refl _ _).alloc (Nat.le_refl _) _
  have hBW : Below B w (copyE w 10 n nm wh A args.length c) := hW.mono hB
  have H0 := Lib.hid (At.start (hl.below hW) (Nat.le_trans hB hW.size))
  have HP := Lib.hid (fun l' e w' => Put.base (l' := l') (e := e) (w' := w') hl hB hW)
  have HC := Lib.hid (fun w' q' l' => copyE_cells (B := B) (w := w) (w' := w') (q' := q') (l' := l') (k := 10) (n := n) (nm := nm) (wh := wh) (A := A) (la := args.length) (c := c) hl)
  have HE := Lib.hid (hE.below hBW)
  have HF := Lib.hid hfew
  have HA := Lib.hid (fun (w' : World) (hb : Below B (copyE w 10 n nm wh A args.length c) w') => EsR.mono (Nat.le_refl B) (hBW.trans hb).block ha)
  have HV := Lib.hid (fun (w' : World) (hb : Below B (copyE w 10 n nm wh A args.length c) w') => he.mono (Nat.le_refl B) (hBW.trans hb).block)
  clear ih hl hB hE he ha hfew hW hBW hT
  go_enter Tryd.func24, Tryd.ntmps24
  go_wp2_with fail
  refine (put4 H0.out ⟨#[82, 69, 70]⟩ ⟨#[40]⟩ nm ⟨#[41]⟩ (by have hf := HF.out; first | omega | (simp only [List.length_append, List.length_cons, List.length_nil] at hf ⊢; omega)) _ (by simp)).mono ?_
  rintro e1 w1 ⟨rfl, q1, H1⟩
  obtain ⟨z0, z1, z2, z3, z4⟩ := HC.out _ _ _ H1
  have H1 := Lib.hid H1
  go_wp2_with fail
  go_end0
  have hz := HP.out _ _ _ H1.out.done
  simpa only [List.append_assoc, List.cons_append, List.nil_append, List.singleton_append] using hz

set_option maxHeartbeats 1000000 in
theorem ex_11 (n : Int) (nm wh : ByteArray) (args : List ET) (ih : ∀ (k : Nat) (hk : k < args.length), EX args[k]) : EX (.mk 11 n nm wh args) := by
  intro B b w q l cs hl hB hE he hfew
  obtain ⟨A, c, rfl, hn, ha⟩ := he.form
  have KX := Lib.hid (fun i => nth_ih ih i)
  have KO := Lib.hid (fun i => op_of (nth_ih ih i))
  have hT : tE (.mk 11 n nm wh args) = [⟨#[68, 79, 78, 69]⟩, ⟨#[40]⟩, nm, ⟨#[41]⟩] := by rw [tE]; rfl
  rw [hT] at hfew ⊢
  have hW : Below w.heap.size w (copyE w 11 n nm wh A args.length c) := (Below.refl _ _).alloc (Nat.le_refl _) _
  have hBW : Below B w (copyE w 11 n nm wh A args.length c) := hW.mono hB
  have H0 := Lib.hid (At.start (hl.below hW) (Nat.le_trans hB hW.size))
  have HP := Lib.hid (fun l' e w' => Put.base (l' := l') (e := e) (w' := w') hl hB hW)
  have HC := Lib.hid (fun w' q' l' => copyE_cells (B := B) (w := w) (w' := w') (q' := q') (l' := l') (k := 11) (n := n) (nm := nm) (wh := wh) (A := A) (la := args.length) (c := c) hl)
  have HE := Lib.hid (hE.below hBW)
  have HF := Lib.hid hfew
  have HA := Lib.hid (fun (w' : World) (hb : Below B (copyE w 11 n nm wh A args.length c) w') => EsR.mono (Nat.le_refl B) (hBW.trans hb).block ha)
  have HV := Lib.hid (fun (w' : World) (hb : Below B (copyE w 11 n nm wh A args.length c) w') => he.mono (Nat.le_refl B) (hBW.trans hb).block)
  clear ih hl hB hE he ha hfew hW hBW hT
  go_enter Tryd.func24, Tryd.ntmps24
  go_wp2_with fail
  refine (put4 H0.out ⟨#[68, 79, 78, 69]⟩ ⟨#[40]⟩ nm ⟨#[41]⟩ (by have hf := HF.out; first | omega | (simp only [List.length_append, List.length_cons, List.length_nil] at hf ⊢; omega)) _ (by simp)).mono ?_
  rintro e1 w1 ⟨rfl, q1, H1⟩
  obtain ⟨z0, z1, z2, z3, z4⟩ := HC.out _ _ _ H1
  have H1 := Lib.hid H1
  go_wp2_with fail
  go_end0
  have hz := HP.out _ _ _ H1.out.done
  simpa only [List.append_assoc, List.cons_append, List.nil_append, List.singleton_append] using hz

set_option maxHeartbeats 1000000 in
theorem ex_12 (n : Int) (nm wh : ByteArray) (args : List ET) (ih : ∀ (k : Nat) (hk : k < args.length), EX args[k]) : EX (.mk 12 n nm wh args) := by
  intro B b w q l cs hl hB hE he hfew
  obtain ⟨A, c, rfl, hn, ha⟩ := he.form
  have KX := Lib.hid (fun i => nth_ih ih i)
  have KO := Lib.hid (fun i => op_of (nth_ih ih i))
  have hT : tE (.mk 12 n nm wh args) = [⟨#[67, 79, 85, 78, 84]⟩, ⟨#[40]⟩, nm, ⟨#[41]⟩] := by rw [tE]; rfl
  rw [hT] at hfew ⊢
  have hW : Below w.heap.size w (copyE w 12 n nm wh A args.length c) := (Below.refl _ _).alloc (Nat.le_refl _) _
  have hBW : Below B w (copyE w 12 n nm wh A args.length c) := hW.mono hB
  have H0 := Lib.hid (At.start (hl.below hW) (Nat.le_trans hB hW.size))
  have HP := Lib.hid (fun l' e w' => Put.base (l' := l') (e := e) (w' := w') hl hB hW)
  have HC := Lib.hid (fun w' q' l' => copyE_cells (B := B) (w := w) (w' := w') (q' := q') (l' := l') (k := 12) (n := n) (nm := nm) (wh := wh) (A := A) (la := args.length) (c := c) hl)
  have HE := Lib.hid (hE.below hBW)
  have HF := Lib.hid hfew
  have HA := Lib.hid (fun (w' : World) (hb : Below B (copyE w 12 n nm wh A args.length c) w') => EsR.mono (Nat.le_refl B) (hBW.trans hb).block ha)
  have HV := Lib.hid (fun (w' : World) (hb : Below B (copyE w 12 n nm wh A args.length c) w') => he.mono (Nat.le_refl B) (hBW.trans hb).block)
  clear ih hl hB hE he ha hfew hW hBW hT
  go_enter Tryd.func24, Tryd.ntmps24
  go_wp2_with fail
  refine (put4 H0.out ⟨#[67, 79, 85, 78, 84]⟩ ⟨#[40]⟩ nm ⟨#[41]⟩ (by have hf := HF.out; first | omega | (simp only [List.length_append, List.length_cons, List.length_nil] at hf ⊢; omega)) _ (by simp)).mono ?_
  rintro e1 w1 ⟨rfl, q1, H1⟩
  obtain ⟨z0, z1, z2, z3, z4⟩ := HC.out _ _ _ H1
  have H1 := Lib.hid H1
  go_wp2_with fail
  go_end0
  have hz := HP.out _ _ _ H1.out.done
  simpa only [List.append_assoc, List.cons_append, List.nil_append, List.singleton_append] using hz

set_option maxHeartbeats 1000000 in
theorem ex_13 (n : Int) (nm wh : ByteArray) (args : List ET) (ih : ∀ (k : Nat) (hk : k < args.length), EX args[k]) : EX (.mk 13 n nm wh args) := by
  intro B b w q l cs hl hB hE he hfew
  obtain ⟨A, c, rfl, hn, ha⟩ := he.form
  have hT : tE (.mk 13 n nm wh args) = tE (.mk 13 n nm wh args) := rfl
  have hW : Below w.heap.size w (copyE w 13 n nm wh A args.length c) := (Below.refl _ _).alloc (Nat.le_refl _) _
  have hBW : Below B w (copyE w 13 n nm wh A args.length c) := hW.mono hB
  have H0 := Lib.hid (At.start (hl.below hW) (Nat.le_trans hB hW.size))
  have HP := Lib.hid (fun l' e w' => Put.base (l' := l') (e := e) (w' := w') hl hB hW)
  have HC := Lib.hid (fun w' q' l' => copyE_cells (B := B) (w := w) (w' := w') (q' := q') (l' := l') (k := 13) (n := n) (nm := nm) (wh := wh) (A := A) (la := args.length) (c := c) hl)
  have HE := Lib.hid (hE.below hBW)
  have HF := Lib.hid hfew
  have HA := Lib.hid (fun (w' : World) (hb : Below B (copyE w 13 n nm wh A args.length c) w') => EsR.mono (Nat.le_refl B) (hBW.trans hb).block ha)
  have HV := Lib.hid (fun (w' : World) (hb : Below B (copyE w 13 n nm wh A args.length c) w') => he.mono (Nat.le_refl B) (hBW.trans hb).block)
  have ih := Lib.hid ih
  clear hl hB hE he ha hfew hW hBW hT
  go_enter Tryd.func24, Tryd.ntmps24
  go_wp2_with fail
  refine (inv_any n nm wh args ih.out B b _ _ _ _ H0.out.at_ H0.out.size HE.out (HV.out _ H0.out.low) HF.out).mono ?_
  rintro e1 w1 ⟨rfl, q1, H1⟩
  have H1 := Lib.hid H1
  go_wp2_with fail
  go_end0
  have hz := HP.out _ _ _ H1.out.done
  simpa only [List.append_assoc, List.cons_append, List.nil_append, List.singleton_append] using hz

set_option maxHeartbeats 1000000 in
theorem ex_14 (n : Int) (nm wh : ByteArray) (args : List ET) (ih : ∀ (k : Nat) (hk : k < args.length), EX args[k]) : EX (.mk 14 n nm wh args) := by
  intro B b w q l cs hl hB hE he hfew
  obtain ⟨A, c, rfl, hn, ha⟩ := he.form
  have KX := Lib.hid (fun i => nth_ih ih i)
  have KO := Lib.hid (fun i => op_of (nth_ih ih i))
  have hT : tE (.mk 14 n nm wh args) = [⟨#[65, 83]⟩, nm, ⟨#[40]⟩] ++ tE (nthE args 0) ++ [⟨#[41]⟩] := by rw [tE, tEk, tEs_nth]; rfl
  rw [hT] at hfew ⊢
  have hW : Below w.heap.size w (copyE w 14 n nm wh A args.length c) := (Below.refl _ _).alloc (Nat.le_refl _) _
  have hBW : Below B w (copyE w 14 n nm wh A args.length c) := hW.mono hB
  have H0 := Lib.hid (At.start (hl.below hW) (Nat.le_trans hB hW.size))
  have HP := Lib.hid (fun l' e w' => Put.base (l' := l') (e := e) (w' := w') hl hB hW)
  have HC := Lib.hid (fun w' q' l' => copyE_cells (B := B) (w := w) (w' := w') (q' := q') (l' := l') (k := 14) (n := n) (nm := nm) (wh := wh) (A := A) (la := args.length) (c := c) hl)
  have HE := Lib.hid (hE.below hBW)
  have HF := Lib.hid hfew
  have HA := Lib.hid (fun (w' : World) (hb : Below B (copyE w 14 n nm wh A args.length c) w') => EsR.mono (Nat.le_refl B) (hBW.trans hb).block ha)
  have HV := Lib.hid (fun (w' : World) (hb : Below B (copyE w 14 n nm wh A args.length c) w') => he.mono (Nat.le_refl B) (hBW.trans hb).block)
  clear ih hl hB hE he ha hfew hW hBW hT
  go_enter Tryd.func24, Tryd.ntmps24
  go_wp2_with fail
  refine (put3 H0.out ⟨#[65, 83]⟩ nm ⟨#[40]⟩ (by have hf := HF.out; first | omega | (simp only [List.length_append, List.length_cons, List.length_nil] at hf ⊢; omega)) _ (by simp)).mono ?_
  rintro e1 w1 ⟨rfl, q1, H1⟩
  obtain ⟨z0, z1, z2, z3, z4⟩ := HC.out _ _ _ H1
  have H1 := Lib.hid H1
  go_wp2_with fail
  refine (nthE_0 args c A _ B (HA.out _ H1.out.low) H1.out.size).mono ?_
  rintro e2 w2 ⟨cs2, rfl, he2, hb2⟩
  have E2 := Lib.hid he2
  have H2 := H1.out.new hb2
  clear z0 z1 z2 z3 z4
  obtain ⟨z0, z1, z2, z3, z4⟩ := HC.out _ _ _ H2
  have H2 := Lib.hid H2
  clear he2 hb2
  go_wp2_with fail
  refine (EX.at_ (KX.out 0) H2.out HE.out E2.out (by have hf := HF.out; first | omega | (simp only [List.length_append, List.length_cons, List.length_nil] at hf ⊢; omega))).mono ?_
  rintro e3 w3 ⟨rfl, q3, H3⟩
  clear z0 z1 z2 z3 z4
  obtain ⟨z0, z1, z2, z3, z4⟩ := HC.out _ _ _ H3
  have H3 := Lib.hid H3
  go_wp2_with fail
  refine (put1 H3.out ⟨#[41]⟩ (by have hf := HF.out; first | omega | (simp only [List.length_append, List.length_cons, List.length_nil] at hf ⊢; omega)) _ (by simp)).mono ?_
  rintro e4 w4 ⟨rfl, q4, H4⟩
  clear z0 z1 z2 z3 z4
  obtain ⟨z0, z1, z2, z3, z4⟩ := HC.out _ _ _ H4
  have H4 := Lib.hid H4
  go_wp2_with fail
  go_end0
  have hz := HP.out _ _ _ H4.out.done
  simpa only [List.append_assoc, List.cons_append, List.nil_append, List.singleton_append] using hz

theorem ex_mk (k n : Int) (nm wh : ByteArray) (args : List ET) (ih : ∀ (k : Nat) (hk : k < args.length), EX args[k]) : EX (.mk k n nm wh args) := by
  by_cases h : k < 1 ∨ 14 < k
  · exact ex_other k n nm wh args h
  · have : k = 1 ∨ k = 2 ∨ k = 3 ∨ k = 4 ∨ k = 5 ∨ k = 6 ∨ k = 7 ∨ k = 8 ∨ k = 9 ∨ k = 10 ∨ k = 11 ∨ k = 12 ∨ k = 13 ∨ k = 14 := by omega
    rcases this with rfl | rfl | rfl | rfl | rfl | rfl | rfl | rfl | rfl | rfl | rfl | rfl | rfl | rfl
    · exact ex_1 n nm wh args ih
    · exact ex_2 n nm wh args ih
    · exact ex_3 n nm wh args ih
    · exact ex_4 n nm wh args ih
    · exact ex_5 n nm wh args ih
    · exact ex_6 n nm wh args ih
    · exact ex_7 n nm wh args ih
    · exact ex_8 n nm wh args ih
    · exact ex_9 n nm wh args ih
    · exact ex_10 n nm wh args ih
    · exact ex_11 n nm wh args ih
    · exact ex_12 n nm wh args ih
    · exact ex_13 n nm wh args ih
    · exact ex_14 n nm wh args ih
mutual
theorem ex_all : ∀ e : ET, EX e
  | .mk k n nm wh args => ex_mk k n nm wh args (exs_all args)
theorem exs_all : ∀ (l : List ET) (k : Nat) (hk : k < l.length), EX l[k]
  | a :: r, 0, _ => ex_all a
  | a :: r, k + 1, hk => exs_all r k (by simpa using hk)
end
end Go.Proofs.YteijehmdabigeaaDoor
