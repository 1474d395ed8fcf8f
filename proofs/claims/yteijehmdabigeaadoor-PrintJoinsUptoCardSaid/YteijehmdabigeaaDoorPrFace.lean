/-
  print's declarations BY CONTRACTS: interfaces, classes; every declaration.
-/
import Derived.Test.YteijehmdabigeaaDoorPrDecl
namespace Go.Proofs.YteijehmdabigeaaDoor
open Go Go.RowKit

theorem tH_pos (m : MT) : 1 ≤ (tH m).length := by simp [tH]
theorem keep_cell {B b : Nat} {W w' : World} {q q' : Option Nat} {l' : List ByteArray} (H : At B W b q w' q' l') {p : Addr} {v : Value} (h1 : p.block < W.heap.size) (h2 : p.block ≠ b) (h3 : q ≠ some p.block) (hv : W.cell? p = some v) : w'.cell? p = some v := (H.fr.cell h1 h2 h3).trans hv
def tFace (m : MT) : List ByteArray := ⟨#[77, 69, 84, 72, 79, 68]⟩ :: tH m

set_option maxHeartbeats 2000000 in
set_option maxRecDepth 100000 in
theorem face_of (name base : ByteArray) (faces : List ByteArray) (ab fin : Bool) (vars : List VT) (methods : List MT) (body : List ST) (every first : Int) (B b : Nat) (w : World) (q : Option Nat) (l : List ByteArray) (cs : List Value) (hl : LAt B w b q l) (hB : B ≤ w.heap.size) (hE : Env B w) (he : DIn w B ⟨1, name, base, faces, ab, fin, vars, methods, body, every, first⟩ cs) (hfew : l.length + (tD ⟨1, name, base, faces, ab, fin, vars, methods, body, every, first⟩).length + 1 ≤ few) :
    Calls Tryd.prog 32 #[.pointer (some ⟨b, 0, none⟩), .agg cs.toArray] w (Put B w b q (l ++ tD ⟨1, name, base, faces, ab, fin, vars, methods, body, every, first⟩)) := by
  have he0 := he
  obtain ⟨A1, c1, A2, c2, A3, c3, A4, c4, rfl, hev, hfi, h1, h2, h3, h4⟩ := he
  have hT : tD ⟨1, name, base, faces, ab, fin, vars, methods, body, every, first⟩ = [⟨#[73, 78, 84, 69, 82, 70, 65, 67, 69]⟩, name, ⟨#[59]⟩] ++ methods.flatMap tFace ++ [⟨#[69, 78, 68, 95, 73, 78, 84, 69, 82, 70, 65, 67, 69]⟩] := rfl
  rw [hT] at hfew ⊢
  have hW : Below w.heap.size w (dC w ⟨1, name, base, faces, ab, fin, vars, methods, body, every, first⟩ A1 c1 A2 c2 A3 c3 A4 c4) := (Below.refl _ _).alloc (Nat.le_refl _) _
  have hBW : Below B w (dC w ⟨1, name, base, faces, ab, fin, vars, methods, body, every, first⟩ A1 c1 A2 c2 A3 c3 A4 c4) := hW.mono hB
  have H0 := Lib.hid (At.start (hl.below hW) (Nat.le_trans hB hW.size))
  have HP := Lib.hid (fun l' e w' => Put.base (l' := l') (e := e) (w' := w') hl hB hW)
  have HC := Lib.hid (fun w' q' l' (H : At B (dC w ⟨1, name, base, faces, ab, fin, vars, methods, body, every, first⟩ A1 c1 A2 c2 A3 c3 A4 c4) b q w' q' l') => copy_cell hl H)
  have HE := Lib.hid (hE.below hBW)
  have HF := Lib.hid hfew
  have HX := Lib.hid (fun (w' : World) (hb : Below B (dC w ⟨1, name, base, faces, ab, fin, vars, methods, body, every, first⟩ A1 c1 A2 c2 A3 c3 A4 c4) w') => XsR.mono (Nat.le_refl B) (hBW.trans hb).block h1)
  have HL := Lib.hid (fun (w' : World) (hb : Below B (dC w ⟨1, name, base, faces, ab, fin, vars, methods, body, every, first⟩ A1 c1 A2 c2 A3 c3 A4 c4) w') => VsR.mono (Nat.le_refl B) (hBW.trans hb).block h2)
  have HM := Lib.hid (fun (w' : World) (hb : Below B (dC w ⟨1, name, base, faces, ab, fin, vars, methods, body, every, first⟩ A1 c1 A2 c2 A3 c3 A4 c4) w') => MsR.mono (Nat.le_refl B) (hBW.trans hb).block h3)
  have HB := Lib.hid (fun (w' : World) (hb : Below B (dC w ⟨1, name, base, faces, ab, fin, vars, methods, body, every, first⟩ A1 c1 A2 c2 A3 c3 A4 c4) w') => SsR.mono (Nat.le_refl B) (hBW.trans hb).block h4)
  have HV := Lib.hid (fun (w' : World) (hb : Below B (dC w ⟨1, name, base, faces, ab, fin, vars, methods, body, every, first⟩ A1 c1 A2 c2 A3 c3 A4 c4) w') => DIn.mono (Nat.le_refl B) (hBW.trans hb).block he0)
  have hcnt := flat_len tFace (fun m => by simp [tFace]) methods
  have hcnt : methods.length ≤ 1000000000 := by have := HF.out; unfold few at this; simp only [List.length_append] at this; omega
  clear hl hB hE h1 h2 h3 h4 he0 hfew hW hBW hT 
  go_enter Tryd.func32, Tryd.ntmps32
  go_wp2_with fail
  refine (put3 H0.out ⟨#[73, 78, 84, 69, 82, 70, 65, 67, 69]⟩ name ⟨#[59]⟩ (by have hf := HF.out; first | omega | (simp only [List.length_append, List.length_cons, List.length_nil] at hf ⊢; omega)) _ (by first | rfl | simp)).mono ?_
  rintro e1 w1 ⟨rfl, q1, H1⟩
  have z0 := HC.out _ _ _ H1 0 _ rfl
  have z1 := HC.out _ _ _ H1 1 _ rfl
  have z2 := HC.out _ _ _ H1 2 _ rfl
  have z3 := HC.out _ _ _ H1 3 _ rfl
  have z4 := HC.out _ _ _ H1 4 _ rfl
  have z5 := HC.out _ _ _ H1 5 _ rfl
  have z6 := HC.out _ _ _ H1 6 _ rfl
  have z7 := HC.out _ _ _ H1 7 _ rfl
  have z8 := HC.out _ _ _ H1 8 _ rfl
  have z9 := HC.out _ _ _ H1 9 _ rfl
  have z10 := HC.out _ _ _ H1 10 _ rfl
  have H1 := Lib.hid H1
  go_wp2_with fail
  go_loopw [14] (fun i wr => ∃ k : Nat, k ≤ methods.length ∧ i = .int .i64 k ∧ Hid (∃ q', At B (dC w ⟨1, name, base, faces, ab, fin, vars, methods, body, every, first⟩ A1 c1 A2 c2 A3 c3 A4 c4) b q wr q' (l ++ [⟨#[73, 78, 84, 69, 82, 70, 65, 67, 69]⟩, name, ⟨#[59]⟩] ++ (methods.take k).flatMap tFace))) (fun i _ => methods.length - (intOf i).toNat)
  case atStart => exact ⟨0, Nat.zero_le _, rfl, q1, by simpa using H1.out⟩
  case round =>
    clear z0 z1 z2 z3 z4 z5 z6 z7 z8 z9 z10
    obtain ⟨k, hk, rfl, hx⟩ := hrel
    obtain ⟨q', Hr⟩ := hx.out
    clear hx H0
    by_cases hlt : k < methods.length
    · have e2 := flat_take tFace hlt
      have e3 := flat_take_le tFace methods hlt
      obtain ⟨g, o, cs, rfl, hg, hlen, hc, he⟩ := HM.out wr Hr.low k hlt
      obtain ⟨⟨mn, mo, ma, mf, mp, mr, mv, mb⟩, hN⟩ : ∃ m : MT, m = methods[k] := ⟨_, rfl⟩
      rw [← hN] at e2 e3 he
      have he1 := he
      obtain ⟨B1, d1, B2, d2, B3, d3, rfl, hwf, r1, r2, r3⟩ := he
      have y0 := hc 0 _ rfl
      have y1 := hc 1 _ rfl
      have y2 := hc 2 _ rfl
      have y3 := hc 3 _ rfl
      have y4 := hc 4 _ rfl
      have y5 := hc 5 _ rfl
      have y6 := hc 6 _ rfl
      have y7 := hc 7 _ rfl
      have y8 := hc 8 _ rfl
      have y9 := hc 9 _ rfl
      have y10 := hc 10 _ rfl
      rw [Nat.add_zero] at y0
      have HF : Hid (l.length + (3) + ((methods.take k).flatMap tFace).length + (⟨#[77, 69, 84, 72, 79, 68]⟩ :: tH ⟨mn, mo, ma, mf, mp, mr, mv, mb⟩).length + 1 ≤ few) := by have := HF.out; have := e3; simp only [tFace, List.length_append, List.length_cons, List.length_nil] at *; unfold Hid; omega
      have h1 : (k : Int) < (methods.length : Int) := by omega
      have h2 : (0 : Int) ≤ (k : Int) := by omega
      have hW : Below wr.heap.size wr (mC wr ⟨mn, mo, ma, mf, mp, mr, mv, mb⟩ B1 d1 B2 d2 B3 d3) := (Below.refl _ _).alloc (Nat.le_refl _) _
      have H0 := Lib.hid (At.start (Hr.at_.below hW) (Nat.le_trans Hr.size hW.size))
      have HC2 := Lib.hid (fun w' q'' l' (H : At B (mC wr ⟨mn, mo, ma, mf, mp, mr, mv, mb⟩ B1 d1 B2 d2 B3 d3) b q' w' q'' l') => copy_cell Hr.at_ H)
      have HP2 := Lib.hid (fun l' e w' hh => Hr.lift (Put.base (l' := l') (e := e) (w' := w') Hr.at_ Hr.size hW hh))
      have HE2 := Lib.hid (HE.out.below (Hr.low.trans (hW.mono Hr.size)))
      have HV2 := Lib.hid (fun (w' : World) (hb : Below B (mC wr ⟨mn, mo, ma, mf, mp, mr, mv, mb⟩ B1 d1 B2 d2 B3 d3) w') => MIn.mono (Nat.le_refl B) ((hW.mono Hr.size).trans hb).block he1)
      have E2 := Lib.hid e2
      clear hc hlen hg Hr e2 e3 hW he1 r1 r2 r3 hN hwf
      go_wp2_with fail
      refine (put1 H0.out ⟨#[77, 69, 84, 72, 79, 68]⟩ (by have hf := HF.out; first | omega | (simp only [List.length_append, List.length_cons, List.length_nil] at hf ⊢; omega)) _ (by first | rfl | simp)).mono ?_
      rintro e1 w1 ⟨rfl, q1, H1⟩
      have z0 := HC2.out _ _ _ H1 0 _ rfl
      have z1 := HC2.out _ _ _ H1 1 _ rfl
      have z2 := HC2.out _ _ _ H1 2 _ rfl
      have z3 := HC2.out _ _ _ H1 3 _ rfl
      have z4 := HC2.out _ _ _ H1 4 _ rfl
      have z5 := HC2.out _ _ _ H1 5 _ rfl
      have z6 := HC2.out _ _ _ H1 6 _ rfl
      have z7 := HC2.out _ _ _ H1 7 _ rfl
      have z8 := HC2.out _ _ _ H1 8 _ rfl
      have z9 := HC2.out _ _ _ H1 9 _ rfl
      have z10 := HC2.out _ _ _ H1 10 _ rfl
      have H1 := Lib.hid H1
      go_wp2_with fail
      refine (sig_at H1.out HE2.out (HV2.out _ H1.out.low) (by have hf := HF.out; first | omega | (simp only [List.length_append, List.length_cons, List.length_nil] at hf ⊢; omega))).mono ?_
      rintro e2 w2 ⟨rfl, q2, H2⟩
      clear z0 z1 z2 z3 z4 z5 z6 z7 z8 z9 z10
      have z0 := HC2.out _ _ _ H2 0 _ rfl
      have z1 := HC2.out _ _ _ H2 1 _ rfl
      have z2 := HC2.out _ _ _ H2 2 _ rfl
      have z3 := HC2.out _ _ _ H2 3 _ rfl
      have z4 := HC2.out _ _ _ H2 4 _ rfl
      have z5 := HC2.out _ _ _ H2 5 _ rfl
      have z6 := HC2.out _ _ _ H2 6 _ rfl
      have z7 := HC2.out _ _ _ H2 7 _ rfl
      have z8 := HC2.out _ _ _ H2 8 _ rfl
      have z9 := HC2.out _ _ _ H2 9 _ rfl
      have z10 := HC2.out _ _ _ H2 10 _ rfl
      have H2 := Lib.hid H2
      have hz := HP2.out _ _ _ H2.out.done
      have E2 := E2.out
      simp only [tFace, List.append_assoc, List.cons_append, List.nil_append] at hz E2
      obtain ⟨_, hz⟩ := hz
      have HZ : Hid (∃ q', At B (dC w ⟨1, name, base, faces, ab, fin, vars, methods, body, every, first⟩ A1 c1 A2 c2 (some ⟨g, o, none⟩) c3 A4 c4) b q w2 q' (l ++ [⟨#[73, 78, 84, 69, 82, 70, 65, 67, 69]⟩, name, ⟨#[59]⟩] ++ (methods.take (k + 1)).flatMap tFace)) := by
        obtain ⟨q9, hz⟩ := hz
        refine ⟨q9, ?_⟩
        simp only [List.append_assoc, List.cons_append, List.nil_append]
        rw [E2]
        exact hz
      clear hz E2
      go_wp2_with fail
      go_roundw
      case rel => exact ⟨k + 1, by omega, by go_num, HZ.out⟩
      case measure => simp [intOf]; omega
    · have h1 : ¬ (k : Int) < (methods.length : Int) := by omega
      have eT : methods.take k = methods := List.take_of_length_le (by omega)
      rw [eT] at Hr
      have H0 := Lib.hid Hr
      clear Hr hlt eT
      go_wp2_with fail
      refine (put1 H0.out ⟨#[69, 78, 68, 95, 73, 78, 84, 69, 82, 70, 65, 67, 69]⟩ (by have hf := HF.out; first | omega | (simp only [List.length_append, List.length_cons, List.length_nil] at hf ⊢; omega)) _ (by first | rfl | simp)).mono ?_
      rintro e1 w1 ⟨rfl, q1, H1⟩
      have H1 := Lib.hid H1
      go_wp2_with fail
      go_end0
      have hz := HP.out _ _ _ H1.out.done
      simpa only [List.append_assoc, List.cons_append, List.nil_append, List.append_nil, List.singleton_append] using hz
end Go.Proofs.YteijehmdabigeaaDoor
