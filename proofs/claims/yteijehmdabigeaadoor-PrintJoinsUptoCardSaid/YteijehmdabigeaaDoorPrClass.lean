/-
  print's declarations BY CONTRACTS: classes; every declaration.
-/
import Derived.Test.YteijehmdabigeaaDoorPrFace
namespace Go.Proofs.YteijehmdabigeaaDoor
open Go Go.RowKit

set_option maxHeartbeats 1000000 in
theorem class1_any {B b : Nat} {w0 w : World} {q0 q : Option Nat} {l : List ByteArray} (H : At B w0 b q0 w q l) (s : ByteArray) (G : Nat) (hG : w.cell? ⟨G, 0, none⟩ = some (.pointer (some ⟨b, 0, none⟩))) (hl : l.length + 1 ≤ few) :
    Calls Tryd.prog 54 #[.string s, .pointer (some ⟨G, 0, none⟩)] w (Put B w0 b q0 (l ++ [s])) := by
  have H0 := Lib.hid H
  clear H
  go_enter Tryd.func54, Tryd.ntmps54
  go_wp2_with fail
  refine (put1 H0.out s hl _ (by first | rfl | simp)).mono ?_
  rintro e1 w1 ⟨rfl, q1, H1⟩
  have H1 := Lib.hid H1
  go_wp2_with fail
  go_end0
  exact H1.out.done

set_option maxHeartbeats 2000000 in
set_option maxRecDepth 100000 in
theorem partedX_of (L : List ByteArray) (B b : Nat) (w : World) (q : Option Nat) (l : List ByteArray) (A : Option Addr) (c : Nat) (h : LAt B w b q l) (hB : B ≤ w.heap.size) (hE : Env B w) (G : Nat) (hG : ∀ (w' : World) (q' : Option Nat) (l' : List ByteArray), At B w b q w' q' l' → w'.cell? ⟨G, 0, none⟩ = some (.pointer (some ⟨b, 0, none⟩))) (ha : XsR w B A L) (hl : l.length + (sep (L.map fun f => [f])).length + 1 ≤ few) :
    Calls Tryd.prog 53 #[.pointer (some ⟨b, 0, none⟩), .slice A L.length c, .func (.func 54) #[] #[.pointer (some ⟨G, 0, none⟩)]] w (Put B w b q (l ++ sep (L.map fun f => [f]))) := by
  have HA := Lib.hid (fun (w' : World) (hb : Below B w w') => XsR.mono (Nat.le_refl B) hb.block ha)
  have HS := Lib.hid (At.start h hB)
  have HE := Lib.hid hE
  have HF := Lib.hid hl
  have hcnt : L.length ≤ 1000000000 := by have := sep_len (L.map fun f => [f]); rw [List.length_map] at this; unfold few at hl; omega
  have HG := Lib.hid hG
  clear h hE ha hl hG
  go_enter Tryd.func53, Tryd.ntmps53
  go_wp2_with fail
  go_loopw [10] (fun i wr => ∃ k : Nat, k ≤ L.length ∧ i = .int .i64 k ∧ Hid (∃ q', At B w b q wr q' (l ++ (sep ((L.take k).map fun f => [f]))))) (fun i _ => L.length - (intOf i).toNat)
  case atStart => exact ⟨0, Nat.zero_le _, rfl, q, by simpa [sep] using HS.out⟩
  case round =>
    obtain ⟨k, hk, rfl, hx⟩ := hrel
    obtain ⟨q', Hr⟩ := hx.out
    clear hx
    by_cases hlt : k < L.length
    · obtain ⟨g, o, cs, rfl, hg, hlen, hc, he⟩ := HA.out wr Hr.low k hlt
      have e2 := sep_map_take (fun f => [f]) hlt
      have e3 := sep_map_le (fun f => [f]) L hlt

      revert he e2 e3
      generalize L[k] = N
      intro he e2 e3
      obtain rfl := he
      have c0 := hc 0 _ rfl
      try rw [Nat.add_zero] at c0
      try simp only [Nat.mul_one] at c0
      have h1 : (k : Int) < (L.length : Int) := by omega
      have h2 : (0 : Int) ≤ (k : Int) := by omega
      have H0 := Lib.hid Hr
      have HP := Lib.hid (fun (l' : List ByteArray) (e : Ending) (w' : World) (hh : Put B w b q l' e w') => hh)
      have HE2 := HE
      have E2 := Lib.hid e2
      have HF := Lib.hid (show l.length + (sep ((L.take k).map fun f => [f])).length + (tF (decide (0 < k)) ⟨#[44]⟩ ++ [N]).length ≤ few by have := HF.out; have := e3; omega)
      have HE := HE2
      clear hc hlen hg Hr e2 e3
      go_wp2_with fail
      refine (flag_any H0.out _ _ (by have hf := HF.out; first | omega | (simp only [List.length_append, List.length_cons, List.length_nil] at hf ⊢; omega))).mono ?_
      rintro e1 w1 ⟨rfl, q1, H1⟩
      have H1 := Lib.hid H1
      go_wp2_with fail
      refine (class1_any H1.out N G (HG.out _ _ _ H1.out) (by have hf := HF.out; first | omega | (simp only [List.length_append, List.length_cons, List.length_nil] at hf ⊢; omega))).mono ?_
      rintro e2 w2 ⟨rfl, q2, H2⟩
      have H2 := Lib.hid H2
      have hz := HP.out _ _ _ H2.out.done
      have E2 := E2.out
      simp only [List.append_assoc] at hz E2
      rw [← E2] at hz
      obtain ⟨_, hz⟩ := hz
      have HZ := Lib.hid hz
      clear hz E2
      go_wp2_with fail
      go_roundw
      case rel => exact ⟨k + 1, by omega, by go_num, HZ.out⟩
      case measure => simp [intOf]; omega
    · have e1 : L.take k = L := List.take_of_length_le (by omega)
      rw [e1] at Hr
      have HZ := Lib.hid Hr.done
      have h1 : ¬ (k : Int) < (L.length : Int) := by omega
      clear Hr e1
      go_wp2_with fail
      go_end0
      exact HZ.out
theorem partedX_at {L : List ByteArray} {B b : Nat} {w0 w : World} {q0 q : Option Nat} {l : List ByteArray} {A : Option Addr} {c : Nat} (H : At B w0 b q0 w q l) (hE : Env B w0) (G : Nat) (hG : ∀ (w' : World) (q' : Option Nat) (l' : List ByteArray), At B w0 b q0 w' q' l' → w'.cell? ⟨G, 0, none⟩ = some (.pointer (some ⟨b, 0, none⟩)))
    (ha : XsR w B A L) (hl : l.length + (sep (L.map fun f => [f])).length + 1 ≤ few) :
    Calls Tryd.prog 53 #[.pointer (some ⟨b, 0, none⟩), .slice A L.length c, .func (.func 54) #[] #[.pointer (some ⟨G, 0, none⟩)]] w (Put B w0 b q0 (l ++ sep (L.map fun f => [f]))) :=
  (partedX_of L B b w q l A c H.at_ H.size (hE.below H.low) G (fun w' q' l' h => hG w' q' l' ⟨h.at_, H.fr.trans h.fr, H.lo, H.low.trans h.low⟩) ha hl).mono fun _ _ hh => H.lift hh
theorem beq_toList (a c : ByteArray) : (a.toList == c.toList) = decide (a = c) := by
  rw [Bool.eq_iff_iff]
  simp only [beq_iff_eq, ByteArray.toList_eq, decide_eq_true_eq]
  constructor
  · intro h; exact ByteArray.ext (Array.ext' h)
  · rintro rfl; rfl

set_option maxHeartbeats 2000000 in
set_option maxRecDepth 100000 in
theorem class_n (name : ByteArray) (faces : List ByteArray) (ab fin : Bool) (vars : List VT) (methods : List MT) (body : List ST) (every first : Int) (B b : Nat) (w : World) (q : Option Nat) (l : List ByteArray) (cs : List Value) (hl : LAt B w b q l) (hB : B ≤ w.heap.size) (hE : Env B w) (he : DIn w B ⟨2, name, ⟨#[]⟩, faces, ab, fin, vars, methods, body, every, first⟩ cs) (hfew : l.length + (tD ⟨2, name, ⟨#[]⟩, faces, ab, fin, vars, methods, body, every, first⟩).length + 1 ≤ few) :
    Calls Tryd.prog 33 #[.pointer (some ⟨b, 0, none⟩), .agg cs.toArray] w (Put B w b q (l ++ tD ⟨2, name, ⟨#[]⟩, faces, ab, fin, vars, methods, body, every, first⟩)) := by
  have he0 := he
  obtain ⟨A1, c1, A2, c2, A3, c3, A4, c4, rfl, hev, hfi, h1, h2, h3, h4⟩ := he
  have hT : tD ⟨2, name, ⟨#[]⟩, faces, ab, fin, vars, methods, body, every, first⟩ = ⟨#[67, 76, 65, 83, 83]⟩ :: tF ab ⟨#[65, 66, 83, 84, 82, 65, 67, 84]⟩ ++ tF fin ⟨#[70, 73, 78, 65, 76]⟩ ++ [name] ++ tF (decide (0 < faces.length)) ⟨#[73, 77, 80, 76, 69, 77, 69, 78, 84, 83]⟩ ++ sep (faces.map fun f => [f]) ++ [⟨#[59]⟩] ++ tVs vars ++ methods.flatMap tM ++ [⟨#[69, 78, 68, 95, 67, 76, 65, 83, 83]⟩] := by unfold tD; simp
  rw [hT] at hfew ⊢
  have hWB : Below w.heap.size w (w.alloc (.cells #[.pointer (some ⟨b, 0, none⟩)] 77)) := (Below.refl _ _).alloc (Nat.le_refl _) _
  have hW : Below w.heap.size w (dC (w.alloc (.cells #[.pointer (some ⟨b, 0, none⟩)] 77)) ⟨2, name, ⟨#[]⟩, faces, ab, fin, vars, methods, body, every, first⟩ A1 c1 A2 c2 A3 c3 A4 c4) := hWB.alloc (by rw [heap_alloc_size]; exact Nat.le_succ _) _
  have hBW : Below B w (dC (w.alloc (.cells #[.pointer (some ⟨b, 0, none⟩)] 77)) ⟨2, name, ⟨#[]⟩, faces, ab, fin, vars, methods, body, every, first⟩ A1 c1 A2 c2 A3 c3 A4 c4) := hW.mono hB
  have H0 := Lib.hid (At.start (hl.below hW) (Nat.le_trans hB hW.size))
  have HP := Lib.hid (fun l' e w' => Put.base (l' := l') (e := e) (w' := w') hl hB hW)
  have HC : Hid (∀ w' q' l', At B (dC (w.alloc (.cells #[.pointer (some ⟨b, 0, none⟩)] 77)) ⟨2, name, ⟨#[]⟩, faces, ab, fin, vars, methods, body, every, first⟩ A1 c1 A2 c2 A3 c3 A4 c4) b q w' q' l' → ∀ (j : Nat) (v : Value), (dV ⟨2, name, ⟨#[]⟩, faces, ab, fin, vars, methods, body, every, first⟩ A1 c1 A2 c2 A3 c3 A4 c4)[j]? = some v → w'.cell? ⟨w.heap.size + 1, j, none⟩ = some v) := fun w' q' l' H j v hv => by
    have := copy_cell (hl.below hWB) H j v hv
    rw [heap_alloc_size] at this
    exact this
  have HBX : Hid (∀ w' q' l', At B (dC (w.alloc (.cells #[.pointer (some ⟨b, 0, none⟩)] 77)) ⟨2, name, ⟨#[]⟩, faces, ab, fin, vars, methods, body, every, first⟩ A1 c1 A2 c2 A3 c3 A4 c4) b q w' q' l' → w'.cell? ⟨w.heap.size, 0, none⟩ = some (.pointer (some ⟨b, 0, none⟩))) := fun w' q' l' H => by
    have hlt := hl.lt
    refine keep_cell H (by simp; omega) (by simp; omega) (fun e => by have := (hl.row e).2; simp at this) (by simp)
  have HE := Lib.hid (hE.below hBW)
  have HF := Lib.hid hfew
  have HX := Lib.hid (fun (w' : World) (hb : Below B (dC (w.alloc (.cells #[.pointer (some ⟨b, 0, none⟩)] 77)) ⟨2, name, ⟨#[]⟩, faces, ab, fin, vars, methods, body, every, first⟩ A1 c1 A2 c2 A3 c3 A4 c4) w') => XsR.mono (Nat.le_refl B) (hBW.trans hb).block h1)
  have HL := Lib.hid (fun (w' : World) (hb : Below B (dC (w.alloc (.cells #[.pointer (some ⟨b, 0, none⟩)] 77)) ⟨2, name, ⟨#[]⟩, faces, ab, fin, vars, methods, body, every, first⟩ A1 c1 A2 c2 A3 c3 A4 c4) w') => VsR.mono (Nat.le_refl B) (hBW.trans hb).block h2)
  have HM := Lib.hid (fun (w' : World) (hb : Below B (dC (w.alloc (.cells #[.pointer (some ⟨b, 0, none⟩)] 77)) ⟨2, name, ⟨#[]⟩, faces, ab, fin, vars, methods, body, every, first⟩ A1 c1 A2 c2 A3 c3 A4 c4) w') => MsR.mono (Nat.le_refl B) (hBW.trans hb).block h3)
  have HB := Lib.hid (fun (w' : World) (hb : Below B (dC (w.alloc (.cells #[.pointer (some ⟨b, 0, none⟩)] 77)) ⟨2, name, ⟨#[]⟩, faces, ab, fin, vars, methods, body, every, first⟩ A1 c1 A2 c2 A3 c3 A4 c4) w') => SsR.mono (Nat.le_refl B) (hBW.trans hb).block h4)
  have HV := Lib.hid (fun (w' : World) (hb : Below B (dC (w.alloc (.cells #[.pointer (some ⟨b, 0, none⟩)] 77)) ⟨2, name, ⟨#[]⟩, faces, ab, fin, vars, methods, body, every, first⟩ A1 c1 A2 c2 A3 c3 A4 c4) w') => DIn.mono (Nat.le_refl B) (hBW.trans hb).block he0)
  have hcnt := flat_len tM (fun m => by simp [tM]) methods
  have hcnt : methods.length ≤ 1000000000 := by have := HF.out; unfold few at this; simp only [List.length_append, List.length_cons] at this; omega
  clear hl hB hE h1 h2 h3 h4 he0 hfew hW hWB hBW hT 
  go_enter Tryd.func33, Tryd.ntmps33
  go_wp2_with fail
  refine (put1 H0.out ⟨#[67, 76, 65, 83, 83]⟩ (by have hf := HF.out; first | omega | (simp only [List.length_append, List.length_cons, List.length_nil] at hf ⊢; omega)) _ (by first | rfl | simp)).mono ?_
  rintro e1 w1 ⟨rfl, q1, H1⟩
  have z0 := HC.out _ _ _ H1 0 _ rfl
  have z1 := HC.out _ _ _ H1 1 _ rfl
  have z2 := HC.out _ _ _ H1 2 _ rfl
  have z3 := HC.out _ _ _ H1 3 _ rfl
  have z4 := HC.out _ _ _ H1 4 _ rfl
  have z5 := HC.out _ _ _ H1 5 _ rfl
  have z6 := HC.out _ _ _ H1 6 _ rfl
  have z7 := HC.out _ _ _ H1 7 _ rfl
  have z8 := HC.out _ _ _ H1 8 _ rfl
  have z9 := HC.out _ _ _ H1 9 _ rfl
  have z10 := HC.out _ _ _ H1 10 _ rfl
  have zb := HBX.out _ _ _ H1
  have H1 := Lib.hid H1
  go_wp2_with fail
  refine (flag_any H1.out ab ⟨#[65, 66, 83, 84, 82, 65, 67, 84]⟩ (by have hf := HF.out; first | omega | (simp only [List.length_append, List.length_cons, List.length_nil] at hf ⊢; omega))).mono ?_
  rintro e2 w2 ⟨rfl, q2, H2⟩
  clear z0 z1 z2 z3 z4 z5 z6 z7 z8 z9 z10 zb
  have z0 := HC.out _ _ _ H2 0 _ rfl
  have z1 := HC.out _ _ _ H2 1 _ rfl
  have z2 := HC.out _ _ _ H2 2 _ rfl
  have z3 := HC.out _ _ _ H2 3 _ rfl
  have z4 := HC.out _ _ _ H2 4 _ rfl
  have z5 := HC.out _ _ _ H2 5 _ rfl
  have z6 := HC.out _ _ _ H2 6 _ rfl
  have z7 := HC.out _ _ _ H2 7 _ rfl
  have z8 := HC.out _ _ _ H2 8 _ rfl
  have z9 := HC.out _ _ _ H2 9 _ rfl
  have z10 := HC.out _ _ _ H2 10 _ rfl
  have zb := HBX.out _ _ _ H2
  have H2 := Lib.hid H2
  go_wp2_with fail
  refine (flag_any H2.out fin ⟨#[70, 73, 78, 65, 76]⟩ (by have hf := HF.out; first | omega | (simp only [List.length_append, List.length_cons, List.length_nil] at hf ⊢; omega))).mono ?_
  rintro e3 w3 ⟨rfl, q3, H3⟩
  clear z0 z1 z2 z3 z4 z5 z6 z7 z8 z9 z10 zb
  have z0 := HC.out _ _ _ H3 0 _ rfl
  have z1 := HC.out _ _ _ H3 1 _ rfl
  have z2 := HC.out _ _ _ H3 2 _ rfl
  have z3 := HC.out _ _ _ H3 3 _ rfl
  have z4 := HC.out _ _ _ H3 4 _ rfl
  have z5 := HC.out _ _ _ H3 5 _ rfl
  have z6 := HC.out _ _ _ H3 6 _ rfl
  have z7 := HC.out _ _ _ H3 7 _ rfl
  have z8 := HC.out _ _ _ H3 8 _ rfl
  have z9 := HC.out _ _ _ H3 9 _ rfl
  have z10 := HC.out _ _ _ H3 10 _ rfl
  have zb := HBX.out _ _ _ H3
  have H3 := Lib.hid H3
  go_wp2_with fail
  refine (put1 H3.out name (by have hf := HF.out; first | omega | (simp only [List.length_append, List.length_cons, List.length_nil] at hf ⊢; omega)) _ (by first | rfl | simp)).mono ?_
  rintro e4 w4 ⟨rfl, q4, H4⟩
  clear z0 z1 z2 z3 z4 z5 z6 z7 z8 z9 z10 zb
  have z0 := HC.out _ _ _ H4 0 _ rfl
  have z1 := HC.out _ _ _ H4 1 _ rfl
  have z2 := HC.out _ _ _ H4 2 _ rfl
  have z3 := HC.out _ _ _ H4 3 _ rfl
  have z4 := HC.out _ _ _ H4 4 _ rfl
  have z5 := HC.out _ _ _ H4 5 _ rfl
  have z6 := HC.out _ _ _ H4 6 _ rfl
  have z7 := HC.out _ _ _ H4 7 _ rfl
  have z8 := HC.out _ _ _ H4 8 _ rfl
  have z9 := HC.out _ _ _ H4 9 _ rfl
  have z10 := HC.out _ _ _ H4 10 _ rfl
  have zb := HBX.out _ _ _ H4
  have H4 := Lib.hid H4
  go_wp2_with fail
  refine (flag_any H4.out _ _ (by have hf := HF.out; first | omega | (simp only [List.length_append, List.length_cons, List.length_nil] at hf ⊢; omega))).mono ?_
  rintro e5 w5 ⟨rfl, q5, H5⟩
  clear z0 z1 z2 z3 z4 z5 z6 z7 z8 z9 z10 zb
  have z0 := HC.out _ _ _ H5 0 _ rfl
  have z1 := HC.out _ _ _ H5 1 _ rfl
  have z2 := HC.out _ _ _ H5 2 _ rfl
  have z3 := HC.out _ _ _ H5 3 _ rfl
  have z4 := HC.out _ _ _ H5 4 _ rfl
  have z5 := HC.out _ _ _ H5 5 _ rfl
  have z6 := HC.out _ _ _ H5 6 _ rfl
  have z7 := HC.out _ _ _ H5 7 _ rfl
  have z8 := HC.out _ _ _ H5 8 _ rfl
  have z9 := HC.out _ _ _ H5 9 _ rfl
  have z10 := HC.out _ _ _ H5 10 _ rfl
  have zb := HBX.out _ _ _ H5
  have H5 := Lib.hid H5
  go_wp2_with fail
  refine (partedX_at H5.out HE.out w.heap.size HBX.out (HX.out _ H5.out.low) (by have hf := HF.out; first | omega | (simp only [List.length_append, List.length_cons, List.length_nil] at hf ⊢; omega))).mono ?_
  rintro e6 w6 ⟨rfl, q6, H6⟩
  clear z0 z1 z2 z3 z4 z5 z6 z7 z8 z9 z10 zb
  have z0 := HC.out _ _ _ H6 0 _ rfl
  have z1 := HC.out _ _ _ H6 1 _ rfl
  have z2 := HC.out _ _ _ H6 2 _ rfl
  have z3 := HC.out _ _ _ H6 3 _ rfl
  have z4 := HC.out _ _ _ H6 4 _ rfl
  have z5 := HC.out _ _ _ H6 5 _ rfl
  have z6 := HC.out _ _ _ H6 6 _ rfl
  have z7 := HC.out _ _ _ H6 7 _ rfl
  have z8 := HC.out _ _ _ H6 8 _ rfl
  have z9 := HC.out _ _ _ H6 9 _ rfl
  have z10 := HC.out _ _ _ H6 10 _ rfl
  have zb := HBX.out _ _ _ H6
  have H6 := Lib.hid H6
  go_wp2_with fail
  refine (put1 H6.out ⟨#[59]⟩ (by have hf := HF.out; first | omega | (simp only [List.length_append, List.length_cons, List.length_nil] at hf ⊢; omega)) _ (by first | rfl | simp)).mono ?_
  rintro e7 w7 ⟨rfl, q7, H7⟩
  clear z0 z1 z2 z3 z4 z5 z6 z7 z8 z9 z10 zb
  have z0 := HC.out _ _ _ H7 0 _ rfl
  have z1 := HC.out _ _ _ H7 1 _ rfl
  have z2 := HC.out _ _ _ H7 2 _ rfl
  have z3 := HC.out _ _ _ H7 3 _ rfl
  have z4 := HC.out _ _ _ H7 4 _ rfl
  have z5 := HC.out _ _ _ H7 5 _ rfl
  have z6 := HC.out _ _ _ H7 6 _ rfl
  have z7 := HC.out _ _ _ H7 7 _ rfl
  have z8 := HC.out _ _ _ H7 8 _ rfl
  have z9 := HC.out _ _ _ H7 9 _ rfl
  have z10 := HC.out _ _ _ H7 10 _ rfl
  have zb := HBX.out _ _ _ H7
  have H7 := Lib.hid H7
  go_wp2_with fail
  refine (vars_any H7.out HE.out (HL.out _ H7.out.low) (by have hf := HF.out; first | omega | (simp only [List.length_append, List.length_cons, List.length_nil] at hf ⊢; omega))).mono ?_
  rintro e8 w8 ⟨rfl, q8, H8⟩
  clear z0 z1 z2 z3 z4 z5 z6 z7 z8 z9 z10 zb
  have z0 := HC.out _ _ _ H8 0 _ rfl
  have z1 := HC.out _ _ _ H8 1 _ rfl
  have z2 := HC.out _ _ _ H8 2 _ rfl
  have z3 := HC.out _ _ _ H8 3 _ rfl
  have z4 := HC.out _ _ _ H8 4 _ rfl
  have z5 := HC.out _ _ _ H8 5 _ rfl
  have z6 := HC.out _ _ _ H8 6 _ rfl
  have z7 := HC.out _ _ _ H8 7 _ rfl
  have z8 := HC.out _ _ _ H8 8 _ rfl
  have z9 := HC.out _ _ _ H8 9 _ rfl
  have z10 := HC.out _ _ _ H8 10 _ rfl
  have zb := HBX.out _ _ _ H8
  have H8 := Lib.hid H8
  go_wp2_with fail
  go_loopw [51] (fun i wr => ∃ k : Nat, k ≤ methods.length ∧ i = .int .i64 k ∧ Hid (∃ q', At B (dC (w.alloc (.cells #[.pointer (some ⟨b, 0, none⟩)] 77)) ⟨2, name, ⟨#[]⟩, faces, ab, fin, vars, methods, body, every, first⟩ A1 c1 A2 c2 A3 c3 A4 c4) b q wr q' (l ++ (⟨#[67, 76, 65, 83, 83]⟩ :: tF ab ⟨#[65, 66, 83, 84, 82, 65, 67, 84]⟩ ++ tF fin ⟨#[70, 73, 78, 65, 76]⟩ ++ [name] ++ tF (decide (0 < faces.length)) ⟨#[73, 77, 80, 76, 69, 77, 69, 78, 84, 83]⟩ ++ sep (faces.map fun f => [f]) ++ [⟨#[59]⟩] ++ tVs vars) ++ (methods.take k).flatMap tM))) (fun i _ => methods.length - (intOf i).toNat)
  case atStart => exact ⟨0, Nat.zero_le _, rfl, q8, by simpa using H8.out⟩
  case round =>
    clear z0 z1 z2 z3 z4 z5 z6 z7 z8 z9 z10 zb
    obtain ⟨k, hk, rfl, hx⟩ := hrel
    obtain ⟨q', Hr⟩ := hx.out
    clear hx H0
    have zb := HBX.out _ _ _ Hr
    by_cases hlt : k < methods.length
    · have e2 := flat_take tM hlt
      have e3 := flat_take_le tM methods hlt
      obtain ⟨g, o, cs, rfl, hg, hlen, hc, he⟩ := HM.out wr Hr.low k hlt
      obtain ⟨⟨mn, mo, ma, mf, mp, mr, mv, mb⟩, hN⟩ : ∃ m : MT, m = methods[k] := ⟨_, rfl⟩
      rw [← hN] at e2 e3 he
      have he1 := he
      obtain ⟨B1, d1, B2, d2, B3, d3, rfl, hwf, r1, r2, r3⟩ := he
      have y0 := hc 0 _ rfl
      have y1 := hc 1 _ rfl
      have y2 := hc 2 _ rfl
      have y3 := hc 3 _ rfl
      have y4 := hc 4 _ rfl
      have y5 := hc 5 _ rfl
      have y6 := hc 6 _ rfl
      have y7 := hc 7 _ rfl
      have y8 := hc 8 _ rfl
      have y9 := hc 9 _ rfl
      have y10 := hc 10 _ rfl
      rw [Nat.add_zero] at y0
      have HF : Hid (l.length + (((⟨#[67, 76, 65, 83, 83]⟩ :: tF ab ⟨#[65, 66, 83, 84, 82, 65, 67, 84]⟩ ++ tF fin ⟨#[70, 73, 78, 65, 76]⟩ ++ [name] ++ tF (decide (0 < faces.length)) ⟨#[73, 77, 80, 76, 69, 77, 69, 78, 84, 83]⟩ ++ sep (faces.map fun f => [f]) ++ [⟨#[59]⟩] ++ tVs vars) : List ByteArray).length) + ((methods.take k).flatMap tM).length + (tM ⟨mn, mo, ma, mf, mp, mr, mv, mb⟩).length + 1 ≤ few) := by have := HF.out; have := e3; simp only [List.length_append, List.length_cons, List.length_nil] at *; unfold Hid; omega
      have h1 : (k : Int) < (methods.length : Int) := by omega
      have h2 : (0 : Int) ≤ (k : Int) := by omega
      have hW : Below wr.heap.size wr (mC wr ⟨mn, mo, ma, mf, mp, mr, mv, mb⟩ B1 d1 B2 d2 B3 d3) := (Below.refl _ _).alloc (Nat.le_refl _) _
      have zb2 := HBX.out _ _ _ (Hr.new hW)
      have H0 := Lib.hid (At.start (Hr.at_.below hW) (Nat.le_trans Hr.size hW.size))
      have HC2 := Lib.hid (fun w' q'' l' (H : At B (mC wr ⟨mn, mo, ma, mf, mp, mr, mv, mb⟩ B1 d1 B2 d2 B3 d3) b q' w' q'' l') => copy_cell Hr.at_ H)
      have HP2 := Lib.hid (fun l' e w' hh => Hr.lift (Put.base (l' := l') (e := e) (w' := w') Hr.at_ Hr.size hW hh))
      have HE2 := Lib.hid (HE.out.below (Hr.low.trans (hW.mono Hr.size)))
      have HV2 := Lib.hid (fun (w' : World) (hb : Below B (mC wr ⟨mn, mo, ma, mf, mp, mr, mv, mb⟩ B1 d1 B2 d2 B3 d3) w') => MIn.mono (Nat.le_refl B) ((hW.mono Hr.size).trans hb).block he1)
      have E2 := Lib.hid e2
      clear hc hlen hg Hr e2 e3 hW he1 r1 r2 r3 hN hwf
      go_wp2_with fail
      refine (method_at H0.out HE2.out (HV2.out _ H0.out.low) (by have hf := HF.out; first | omega | (simp only [List.length_append, List.length_cons, List.length_nil] at hf ⊢; omega))).mono ?_
      rintro e1 w1 ⟨rfl, q1, H1⟩
      have z0 := HC2.out _ _ _ H1 0 _ rfl
      have z1 := HC2.out _ _ _ H1 1 _ rfl
      have z2 := HC2.out _ _ _ H1 2 _ rfl
      have z3 := HC2.out _ _ _ H1 3 _ rfl
      have z4 := HC2.out _ _ _ H1 4 _ rfl
      have z5 := HC2.out _ _ _ H1 5 _ rfl
      have z6 := HC2.out _ _ _ H1 6 _ rfl
      have z7 := HC2.out _ _ _ H1 7 _ rfl
      have z8 := HC2.out _ _ _ H1 8 _ rfl
      have z9 := HC2.out _ _ _ H1 9 _ rfl
      have z10 := HC2.out _ _ _ H1 10 _ rfl
      have H1 := Lib.hid H1
      have hz := HP2.out _ _ _ H1.out.done
      have E2 := E2.out
      simp only [List.append_assoc, List.cons_append, List.nil_append] at hz E2
      obtain ⟨_, hz⟩ := hz
      have HZ : Hid (∃ q', At B (dC (w.alloc (.cells #[.pointer (some ⟨b, 0, none⟩)] 77)) ⟨2, name, ⟨#[]⟩, faces, ab, fin, vars, methods, body, every, first⟩ A1 c1 A2 c2 (some ⟨g, o, none⟩) c3 A4 c4) b q w1 q' (l ++ (⟨#[67, 76, 65, 83, 83]⟩ :: tF ab ⟨#[65, 66, 83, 84, 82, 65, 67, 84]⟩ ++ tF fin ⟨#[70, 73, 78, 65, 76]⟩ ++ [name] ++ tF (decide (0 < faces.length)) ⟨#[73, 77, 80, 76, 69, 77, 69, 78, 84, 83]⟩ ++ sep (faces.map fun f => [f]) ++ [⟨#[59]⟩] ++ tVs vars) ++ (methods.take (k + 1)).flatMap tM)) := by
        obtain ⟨q9, hz⟩ := hz
        refine ⟨q9, ?_⟩
        simp only [List.append_assoc, List.cons_append, List.nil_append]
        rw [E2]
        exact hz
      clear hz E2
      go_wp2_with fail
      go_roundw
      case rel => exact ⟨k + 1, by omega, by go_num, HZ.out⟩
      case measure => simp [intOf]; omega
    · have h1 : ¬ (k : Int) < (methods.length : Int) := by omega
      have eT : methods.take k = methods := List.take_of_length_le (by omega)
      rw [eT] at Hr
      have H0 := Lib.hid Hr
      clear Hr hlt eT
      go_wp2_with fail
      refine (put1 H0.out ⟨#[69, 78, 68, 95, 67, 76, 65, 83, 83]⟩ (by have hf := HF.out; first | omega | (simp only [List.length_append, List.length_cons, List.length_nil] at hf ⊢; omega)) _ (by first | rfl | simp)).mono ?_
      rintro e1 w1 ⟨rfl, q1, H1⟩
      have H1 := Lib.hid H1
      go_wp2_with fail
      go_end0
      have hz := HP.out _ _ _ H1.out.done
      simpa only [List.append_assoc, List.cons_append, List.nil_append, List.append_nil, List.singleton_append] using hz

set_option maxHeartbeats 2000000 in
set_option maxRecDepth 100000 in
theorem class_y (name base : ByteArray) (faces : List ByteArray) (ab fin : Bool) (vars : List VT) (methods : List MT) (body : List ST) (every first : Int) (hne : base ≠ ⟨#[]⟩) (B b : Nat) (w : World) (q : Option Nat) (l : List ByteArray) (cs : List Value) (hl : LAt B w b q l) (hB : B ≤ w.heap.size) (hE : Env B w) (he : DIn w B ⟨2, name, base, faces, ab, fin, vars, methods, body, every, first⟩ cs) (hfew : l.length + (tD ⟨2, name, base, faces, ab, fin, vars, methods, body, every, first⟩).length + 1 ≤ few) :
    Calls Tryd.prog 33 #[.pointer (some ⟨b, 0, none⟩), .agg cs.toArray] w (Put B w b q (l ++ tD ⟨2, name, base, faces, ab, fin, vars, methods, body, every, first⟩)) := by
  have he0 := he
  obtain ⟨A1, c1, A2, c2, A3, c3, A4, c4, rfl, hev, hfi, h1, h2, h3, h4⟩ := he
  have hT : tD ⟨2, name, base, faces, ab, fin, vars, methods, body, every, first⟩ = ⟨#[67, 76, 65, 83, 83]⟩ :: tF ab ⟨#[65, 66, 83, 84, 82, 65, 67, 84]⟩ ++ tF fin ⟨#[70, 73, 78, 65, 76]⟩ ++ [name] ++ [⟨#[69, 88, 84, 69, 78, 68, 83]⟩, base] ++ tF (decide (0 < faces.length)) ⟨#[73, 77, 80, 76, 69, 77, 69, 78, 84, 83]⟩ ++ sep (faces.map fun f => [f]) ++ [⟨#[59]⟩] ++ tVs vars ++ methods.flatMap tM ++ [⟨#[69, 78, 68, 95, 67, 76, 65, 83, 83]⟩] := by unfold tD; simp [hne]
  rw [hT] at hfew ⊢
  have hWB : Below w.heap.size w (w.alloc (.cells #[.pointer (some ⟨b, 0, none⟩)] 77)) := (Below.refl _ _).alloc (Nat.le_refl _) _
  have hW : Below w.heap.size w (dC (w.alloc (.cells #[.pointer (some ⟨b, 0, none⟩)] 77)) ⟨2, name, base, faces, ab, fin, vars, methods, body, every, first⟩ A1 c1 A2 c2 A3 c3 A4 c4) := hWB.alloc (by rw [heap_alloc_size]; exact Nat.le_succ _) _
  have hBW : Below B w (dC (w.alloc (.cells #[.pointer (some ⟨b, 0, none⟩)] 77)) ⟨2, name, base, faces, ab, fin, vars, methods, body, every, first⟩ A1 c1 A2 c2 A3 c3 A4 c4) := hW.mono hB
  have H0 := Lib.hid (At.start (hl.below hW) (Nat.le_trans hB hW.size))
  have HP := Lib.hid (fun l' e w' => Put.base (l' := l') (e := e) (w' := w') hl hB hW)
  have HC : Hid (∀ w' q' l', At B (dC (w.alloc (.cells #[.pointer (some ⟨b, 0, none⟩)] 77)) ⟨2, name, base, faces, ab, fin, vars, methods, body, every, first⟩ A1 c1 A2 c2 A3 c3 A4 c4) b q w' q' l' → ∀ (j : Nat) (v : Value), (dV ⟨2, name, base, faces, ab, fin, vars, methods, body, every, first⟩ A1 c1 A2 c2 A3 c3 A4 c4)[j]? = some v → w'.cell? ⟨w.heap.size + 1, j, none⟩ = some v) := fun w' q' l' H j v hv => by
    have := copy_cell (hl.below hWB) H j v hv
    rw [heap_alloc_size] at this
    exact this
  have HBX : Hid (∀ w' q' l', At B (dC (w.alloc (.cells #[.pointer (some ⟨b, 0, none⟩)] 77)) ⟨2, name, base, faces, ab, fin, vars, methods, body, every, first⟩ A1 c1 A2 c2 A3 c3 A4 c4) b q w' q' l' → w'.cell? ⟨w.heap.size, 0, none⟩ = some (.pointer (some ⟨b, 0, none⟩))) := fun w' q' l' H => by
    have hlt := hl.lt
    refine keep_cell H (by simp; omega) (by simp; omega) (fun e => by have := (hl.row e).2; simp at this) (by simp)
  have HE := Lib.hid (hE.below hBW)
  have HF := Lib.hid hfew
  have HX := Lib.hid (fun (w' : World) (hb : Below B (dC (w.alloc (.cells #[.pointer (some ⟨b, 0, none⟩)] 77)) ⟨2, name, base, faces, ab, fin, vars, methods, body, every, first⟩ A1 c1 A2 c2 A3 c3 A4 c4) w') => XsR.mono (Nat.le_refl B) (hBW.trans hb).block h1)
  have HL := Lib.hid (fun (w' : World) (hb : Below B (dC (w.alloc (.cells #[.pointer (some ⟨b, 0, none⟩)] 77)) ⟨2, name, base, faces, ab, fin, vars, methods, body, every, first⟩ A1 c1 A2 c2 A3 c3 A4 c4) w') => VsR.mono (Nat.le_refl B) (hBW.trans hb).block h2)
  have HM := Lib.hid (fun (w' : World) (hb : Below B (dC (w.alloc (.cells #[.pointer (some ⟨b, 0, none⟩)] 77)) ⟨2, name, base, faces, ab, fin, vars, methods, body, every, first⟩ A1 c1 A2 c2 A3 c3 A4 c4) w') => MsR.mono (Nat.le_refl B) (hBW.trans hb).block h3)
  have HB := Lib.hid (fun (w' : World) (hb : Below B (dC (w.alloc (.cells #[.pointer (some ⟨b, 0, none⟩)] 77)) ⟨2, name, base, faces, ab, fin, vars, methods, body, every, first⟩ A1 c1 A2 c2 A3 c3 A4 c4) w') => SsR.mono (Nat.le_refl B) (hBW.trans hb).block h4)
  have HV := Lib.hid (fun (w' : World) (hb : Below B (dC (w.alloc (.cells #[.pointer (some ⟨b, 0, none⟩)] 77)) ⟨2, name, base, faces, ab, fin, vars, methods, body, every, first⟩ A1 c1 A2 c2 A3 c3 A4 c4) w') => DIn.mono (Nat.le_refl B) (hBW.trans hb).block he0)
  have g1 : (base.toList == []) = false := by
    have := beq_toList base ⟨#[]⟩
    rw [show (⟨#[]⟩ : ByteArray).toList = [] by simp [ByteArray.toList_eq]] at this
    rw [this]
    simp [hne]
  have g2 : (base.toList != []) = true := by simpa [bne] using g1
  have hcnt := flat_len tM (fun m => by simp [tM]) methods
  have hcnt : methods.length ≤ 1000000000 := by have := HF.out; unfold few at this; simp only [List.length_append, List.length_cons] at this; omega
  clear hl hB hE h1 h2 h3 h4 he0 hne hfew hW hWB hBW hT 
  go_enter Tryd.func33, Tryd.ntmps33
  go_wp2_with fail
  refine (put1 H0.out ⟨#[67, 76, 65, 83, 83]⟩ (by have hf := HF.out; first | omega | (simp only [List.length_append, List.length_cons, List.length_nil] at hf ⊢; omega)) _ (by first | rfl | simp)).mono ?_
  rintro e1 w1 ⟨rfl, q1, H1⟩
  have z0 := HC.out _ _ _ H1 0 _ rfl
  have z1 := HC.out _ _ _ H1 1 _ rfl
  have z2 := HC.out _ _ _ H1 2 _ rfl
  have z3 := HC.out _ _ _ H1 3 _ rfl
  have z4 := HC.out _ _ _ H1 4 _ rfl
  have z5 := HC.out _ _ _ H1 5 _ rfl
  have z6 := HC.out _ _ _ H1 6 _ rfl
  have z7 := HC.out _ _ _ H1 7 _ rfl
  have z8 := HC.out _ _ _ H1 8 _ rfl
  have z9 := HC.out _ _ _ H1 9 _ rfl
  have z10 := HC.out _ _ _ H1 10 _ rfl
  have zb := HBX.out _ _ _ H1
  have H1 := Lib.hid H1
  go_wp2_with fail
  refine (flag_any H1.out ab ⟨#[65, 66, 83, 84, 82, 65, 67, 84]⟩ (by have hf := HF.out; first | omega | (simp only [List.length_append, List.length_cons, List.length_nil] at hf ⊢; omega))).mono ?_
  rintro e2 w2 ⟨rfl, q2, H2⟩
  clear z0 z1 z2 z3 z4 z5 z6 z7 z8 z9 z10 zb
  have z0 := HC.out _ _ _ H2 0 _ rfl
  have z1 := HC.out _ _ _ H2 1 _ rfl
  have z2 := HC.out _ _ _ H2 2 _ rfl
  have z3 := HC.out _ _ _ H2 3 _ rfl
  have z4 := HC.out _ _ _ H2 4 _ rfl
  have z5 := HC.out _ _ _ H2 5 _ rfl
  have z6 := HC.out _ _ _ H2 6 _ rfl
  have z7 := HC.out _ _ _ H2 7 _ rfl
  have z8 := HC.out _ _ _ H2 8 _ rfl
  have z9 := HC.out _ _ _ H2 9 _ rfl
  have z10 := HC.out _ _ _ H2 10 _ rfl
  have zb := HBX.out _ _ _ H2
  have H2 := Lib.hid H2
  go_wp2_with fail
  refine (flag_any H2.out fin ⟨#[70, 73, 78, 65, 76]⟩ (by have hf := HF.out; first | omega | (simp only [List.length_append, List.length_cons, List.length_nil] at hf ⊢; omega))).mono ?_
  rintro e3 w3 ⟨rfl, q3, H3⟩
  clear z0 z1 z2 z3 z4 z5 z6 z7 z8 z9 z10 zb
  have z0 := HC.out _ _ _ H3 0 _ rfl
  have z1 := HC.out _ _ _ H3 1 _ rfl
  have z2 := HC.out _ _ _ H3 2 _ rfl
  have z3 := HC.out _ _ _ H3 3 _ rfl
  have z4 := HC.out _ _ _ H3 4 _ rfl
  have z5 := HC.out _ _ _ H3 5 _ rfl
  have z6 := HC.out _ _ _ H3 6 _ rfl
  have z7 := HC.out _ _ _ H3 7 _ rfl
  have z8 := HC.out _ _ _ H3 8 _ rfl
  have z9 := HC.out _ _ _ H3 9 _ rfl
  have z10 := HC.out _ _ _ H3 10 _ rfl
  have zb := HBX.out _ _ _ H3
  have H3 := Lib.hid H3
  go_wp2_with fail
  refine (put1 H3.out name (by have hf := HF.out; first | omega | (simp only [List.length_append, List.length_cons, List.length_nil] at hf ⊢; omega)) _ (by first | rfl | simp)).mono ?_
  rintro e4 w4 ⟨rfl, q4, H4⟩
  clear z0 z1 z2 z3 z4 z5 z6 z7 z8 z9 z10 zb
  have z0 := HC.out _ _ _ H4 0 _ rfl
  have z1 := HC.out _ _ _ H4 1 _ rfl
  have z2 := HC.out _ _ _ H4 2 _ rfl
  have z3 := HC.out _ _ _ H4 3 _ rfl
  have z4 := HC.out _ _ _ H4 4 _ rfl
  have z5 := HC.out _ _ _ H4 5 _ rfl
  have z6 := HC.out _ _ _ H4 6 _ rfl
  have z7 := HC.out _ _ _ H4 7 _ rfl
  have z8 := HC.out _ _ _ H4 8 _ rfl
  have z9 := HC.out _ _ _ H4 9 _ rfl
  have z10 := HC.out _ _ _ H4 10 _ rfl
  have zb := HBX.out _ _ _ H4
  have H4 := Lib.hid H4
  go_wp2_with fail
  refine (put2 H4.out ⟨#[69, 88, 84, 69, 78, 68, 83]⟩ base (by have hf := HF.out; first | omega | (simp only [List.length_append, List.length_cons, List.length_nil] at hf ⊢; omega)) _ (by first | rfl | simp)).mono ?_
  rintro e5 w5 ⟨rfl, q5, H5⟩
  clear z0 z1 z2 z3 z4 z5 z6 z7 z8 z9 z10 zb
  have z0 := HC.out _ _ _ H5 0 _ rfl
  have z1 := HC.out _ _ _ H5 1 _ rfl
  have z2 := HC.out _ _ _ H5 2 _ rfl
  have z3 := HC.out _ _ _ H5 3 _ rfl
  have z4 := HC.out _ _ _ H5 4 _ rfl
  have z5 := HC.out _ _ _ H5 5 _ rfl
  have z6 := HC.out _ _ _ H5 6 _ rfl
  have z7 := HC.out _ _ _ H5 7 _ rfl
  have z8 := HC.out _ _ _ H5 8 _ rfl
  have z9 := HC.out _ _ _ H5 9 _ rfl
  have z10 := HC.out _ _ _ H5 10 _ rfl
  have zb := HBX.out _ _ _ H5
  have H5 := Lib.hid H5
  go_wp2_with fail
  refine (flag_any H5.out _ _ (by have hf := HF.out; first | omega | (simp only [List.length_append, List.length_cons, List.length_nil] at hf ⊢; omega))).mono ?_
  rintro e6 w6 ⟨rfl, q6, H6⟩
  clear z0 z1 z2 z3 z4 z5 z6 z7 z8 z9 z10 zb
  have z0 := HC.out _ _ _ H6 0 _ rfl
  have z1 := HC.out _ _ _ H6 1 _ rfl
  have z2 := HC.out _ _ _ H6 2 _ rfl
  have z3 := HC.out _ _ _ H6 3 _ rfl
  have z4 := HC.out _ _ _ H6 4 _ rfl
  have z5 := HC.out _ _ _ H6 5 _ rfl
  have z6 := HC.out _ _ _ H6 6 _ rfl
  have z7 := HC.out _ _ _ H6 7 _ rfl
  have z8 := HC.out _ _ _ H6 8 _ rfl
  have z9 := HC.out _ _ _ H6 9 _ rfl
  have z10 := HC.out _ _ _ H6 10 _ rfl
  have zb := HBX.out _ _ _ H6
  have H6 := Lib.hid H6
  go_wp2_with fail
  refine (partedX_at H6.out HE.out w.heap.size HBX.out (HX.out _ H6.out.low) (by have hf := HF.out; first | omega | (simp only [List.length_append, List.length_cons, List.length_nil] at hf ⊢; omega))).mono ?_
  rintro e7 w7 ⟨rfl, q7, H7⟩
  clear z0 z1 z2 z3 z4 z5 z6 z7 z8 z9 z10 zb
  have z0 := HC.out _ _ _ H7 0 _ rfl
  have z1 := HC.out _ _ _ H7 1 _ rfl
  have z2 := HC.out _ _ _ H7 2 _ rfl
  have z3 := HC.out _ _ _ H7 3 _ rfl
  have z4 := HC.out _ _ _ H7 4 _ rfl
  have z5 := HC.out _ _ _ H7 5 _ rfl
  have z6 := HC.out _ _ _ H7 6 _ rfl
  have z7 := HC.out _ _ _ H7 7 _ rfl
  have z8 := HC.out _ _ _ H7 8 _ rfl
  have z9 := HC.out _ _ _ H7 9 _ rfl
  have z10 := HC.out _ _ _ H7 10 _ rfl
  have zb := HBX.out _ _ _ H7
  have H7 := Lib.hid H7
  go_wp2_with fail
  refine (put1 H7.out ⟨#[59]⟩ (by have hf := HF.out; first | omega | (simp only [List.length_append, List.length_cons, List.length_nil] at hf ⊢; omega)) _ (by first | rfl | simp)).mono ?_
  rintro e8 w8 ⟨rfl, q8, H8⟩
  clear z0 z1 z2 z3 z4 z5 z6 z7 z8 z9 z10 zb
  have z0 := HC.out _ _ _ H8 0 _ rfl
  have z1 := HC.out _ _ _ H8 1 _ rfl
  have z2 := HC.out _ _ _ H8 2 _ rfl
  have z3 := HC.out _ _ _ H8 3 _ rfl
  have z4 := HC.out _ _ _ H8 4 _ rfl
  have z5 := HC.out _ _ _ H8 5 _ rfl
  have z6 := HC.out _ _ _ H8 6 _ rfl
  have z7 := HC.out _ _ _ H8 7 _ rfl
  have z8 := HC.out _ _ _ H8 8 _ rfl
  have z9 := HC.out _ _ _ H8 9 _ rfl
  have z10 := HC.out _ _ _ H8 10 _ rfl
  have zb := HBX.out _ _ _ H8
  have H8 := Lib.hid H8
  go_wp2_with fail
  refine (vars_any H8.out HE.out (HL.out _ H8.out.low) (by have hf := HF.out; first | omega | (simp only [List.length_append, List.length_cons, List.length_nil] at hf ⊢; omega))).mono ?_
  rintro e9 w9 ⟨rfl, q9, H9⟩
  clear z0 z1 z2 z3 z4 z5 z6 z7 z8 z9 z10 zb
  have z0 := HC.out _ _ _ H9 0 _ rfl
  have z1 := HC.out _ _ _ H9 1 _ rfl
  have z2 := HC.out _ _ _ H9 2 _ rfl
  have z3 := HC.out _ _ _ H9 3 _ rfl
  have z4 := HC.out _ _ _ H9 4 _ rfl
  have z5 := HC.out _ _ _ H9 5 _ rfl
  have z6 := HC.out _ _ _ H9 6 _ rfl
  have z7 := HC.out _ _ _ H9 7 _ rfl
  have z8 := HC.out _ _ _ H9 8 _ rfl
  have z9 := HC.out _ _ _ H9 9 _ rfl
  have z10 := HC.out _ _ _ H9 10 _ rfl
  have zb := HBX.out _ _ _ H9
  have H9 := Lib.hid H9
  go_wp2_with fail
  go_loopw [51] (fun i wr => ∃ k : Nat, k ≤ methods.length ∧ i = .int .i64 k ∧ Hid (∃ q', At B (dC (w.alloc (.cells #[.pointer (some ⟨b, 0, none⟩)] 77)) ⟨2, name, base, faces, ab, fin, vars, methods, body, every, first⟩ A1 c1 A2 c2 A3 c3 A4 c4) b q wr q' (l ++ (⟨#[67, 76, 65, 83, 83]⟩ :: tF ab ⟨#[65, 66, 83, 84, 82, 65, 67, 84]⟩ ++ tF fin ⟨#[70, 73, 78, 65, 76]⟩ ++ [name] ++ [⟨#[69, 88, 84, 69, 78, 68, 83]⟩, base] ++ tF (decide (0 < faces.length)) ⟨#[73, 77, 80, 76, 69, 77, 69, 78, 84, 83]⟩ ++ sep (faces.map fun f => [f]) ++ [⟨#[59]⟩] ++ tVs vars) ++ (methods.take k).flatMap tM))) (fun i _ => methods.length - (intOf i).toNat)
  case atStart => exact ⟨0, Nat.zero_le _, rfl, q9, by simpa using H9.out⟩
  case round =>
    clear z0 z1 z2 z3 z4 z5 z6 z7 z8 z9 z10 zb
    obtain ⟨k, hk, rfl, hx⟩ := hrel
    obtain ⟨q', Hr⟩ := hx.out
    clear hx H0
    have zb := HBX.out _ _ _ Hr
    by_cases hlt : k < methods.length
    · have e2 := flat_take tM hlt
      have e3 := flat_take_le tM methods hlt
      obtain ⟨g, o, cs, rfl, hg, hlen, hc, he⟩ := HM.out wr Hr.low k hlt
      obtain ⟨⟨mn, mo, ma, mf, mp, mr, mv, mb⟩, hN⟩ : ∃ m : MT, m = methods[k] := ⟨_, rfl⟩
      rw [← hN] at e2 e3 he
      have he1 := he
      obtain ⟨B1, d1, B2, d2, B3, d3, rfl, hwf, r1, r2, r3⟩ := he
      have y0 := hc 0 _ rfl
      have y1 := hc 1 _ rfl
      have y2 := hc 2 _ rfl
      have y3 := hc 3 _ rfl
      have y4 := hc 4 _ rfl
      have y5 := hc 5 _ rfl
      have y6 := hc 6 _ rfl
      have y7 := hc 7 _ rfl
      have y8 := hc 8 _ rfl
      have y9 := hc 9 _ rfl
      have y10 := hc 10 _ rfl
      rw [Nat.add_zero] at y0
      have HF : Hid (l.length + (((⟨#[67, 76, 65, 83, 83]⟩ :: tF ab ⟨#[65, 66, 83, 84, 82, 65, 67, 84]⟩ ++ tF fin ⟨#[70, 73, 78, 65, 76]⟩ ++ [name] ++ [⟨#[69, 88, 84, 69, 78, 68, 83]⟩, base] ++ tF (decide (0 < faces.length)) ⟨#[73, 77, 80, 76, 69, 77, 69, 78, 84, 83]⟩ ++ sep (faces.map fun f => [f]) ++ [⟨#[59]⟩] ++ tVs vars) : List ByteArray).length) + ((methods.take k).flatMap tM).length + (tM ⟨mn, mo, ma, mf, mp, mr, mv, mb⟩).length + 1 ≤ few) := by have := HF.out; have := e3; simp only [List.length_append, List.length_cons, List.length_nil] at *; unfold Hid; omega
      have h1 : (k : Int) < (methods.length : Int) := by omega
      have h2 : (0 : Int) ≤ (k : Int) := by omega
      have hW : Below wr.heap.size wr (mC wr ⟨mn, mo, ma, mf, mp, mr, mv, mb⟩ B1 d1 B2 d2 B3 d3) := (Below.refl _ _).alloc (Nat.le_refl _) _
      have zb2 := HBX.out _ _ _ (Hr.new hW)
      have H0 := Lib.hid (At.start (Hr.at_.below hW) (Nat.le_trans Hr.size hW.size))
      have HC2 := Lib.hid (fun w' q'' l' (H : At B (mC wr ⟨mn, mo, ma, mf, mp, mr, mv, mb⟩ B1 d1 B2 d2 B3 d3) b q' w' q'' l') => copy_cell Hr.at_ H)
      have HP2 := Lib.hid (fun l' e w' hh => Hr.lift (Put.base (l' := l') (e := e) (w' := w') Hr.at_ Hr.size hW hh))
      have HE2 := Lib.hid (HE.out.below (Hr.low.trans (hW.mono Hr.size)))
      have HV2 := Lib.hid (fun (w' : World) (hb : Below B (mC wr ⟨mn, mo, ma, mf, mp, mr, mv, mb⟩ B1 d1 B2 d2 B3 d3) w') => MIn.mono (Nat.le_refl B) ((hW.mono Hr.size).trans hb).block he1)
      have E2 := Lib.hid e2
      clear hc hlen hg Hr e2 e3 hW he1 r1 r2 r3 hN hwf
      go_wp2_with fail
      refine (method_at H0.out HE2.out (HV2.out _ H0.out.low) (by have hf := HF.out; first | omega | (simp only [List.length_append, List.length_cons, List.length_nil] at hf ⊢; omega))).mono ?_
      rintro e1 w1 ⟨rfl, q1, H1⟩
      have z0 := HC2.out _ _ _ H1 0 _ rfl
      have z1 := HC2.out _ _ _ H1 1 _ rfl
      have z2 := HC2.out _ _ _ H1 2 _ rfl
      have z3 := HC2.out _ _ _ H1 3 _ rfl
      have z4 := HC2.out _ _ _ H1 4 _ rfl
      have z5 := HC2.out _ _ _ H1 5 _ rfl
      have z6 := HC2.out _ _ _ H1 6 _ rfl
      have z7 := HC2.out _ _ _ H1 7 _ rfl
      have z8 := HC2.out _ _ _ H1 8 _ rfl
      have z9 := HC2.out _ _ _ H1 9 _ rfl
      have z10 := HC2.out _ _ _ H1 10 _ rfl
      have H1 := Lib.hid H1
      have hz := HP2.out _ _ _ H1.out.done
      have E2 := E2.out
      simp only [List.append_assoc, List.cons_append, List.nil_append] at hz E2
      obtain ⟨_, hz⟩ := hz
      have HZ : Hid (∃ q', At B (dC (w.alloc (.cells #[.pointer (some ⟨b, 0, none⟩)] 77)) ⟨2, name, base, faces, ab, fin, vars, methods, body, every, first⟩ A1 c1 A2 c2 (some ⟨g, o, none⟩) c3 A4 c4) b q w1 q' (l ++ (⟨#[67, 76, 65, 83, 83]⟩ :: tF ab ⟨#[65, 66, 83, 84, 82, 65, 67, 84]⟩ ++ tF fin ⟨#[70, 73, 78, 65, 76]⟩ ++ [name] ++ [⟨#[69, 88, 84, 69, 78, 68, 83]⟩, base] ++ tF (decide (0 < faces.length)) ⟨#[73, 77, 80, 76, 69, 77, 69, 78, 84, 83]⟩ ++ sep (faces.map fun f => [f]) ++ [⟨#[59]⟩] ++ tVs vars) ++ (methods.take (k + 1)).flatMap tM)) := by
        obtain ⟨q9, hz⟩ := hz
        refine ⟨q9, ?_⟩
        simp only [List.append_assoc, List.cons_append, List.nil_append]
        rw [E2]
        exact hz
      clear hz E2
      go_wp2_with fail
      go_roundw
      case rel => exact ⟨k + 1, by omega, by go_num, HZ.out⟩
      case measure => simp [intOf]; omega
    · have h1 : ¬ (k : Int) < (methods.length : Int) := by omega
      have eT : methods.take k = methods := List.take_of_length_le (by omega)
      rw [eT] at Hr
      have H0 := Lib.hid Hr
      clear Hr hlt eT
      go_wp2_with fail
      refine (put1 H0.out ⟨#[69, 78, 68, 95, 67, 76, 65, 83, 83]⟩ (by have hf := HF.out; first | omega | (simp only [List.length_append, List.length_cons, List.length_nil] at hf ⊢; omega)) _ (by first | rfl | simp)).mono ?_
      rintro e1 w1 ⟨rfl, q1, H1⟩
      have H1 := Lib.hid H1
      go_wp2_with fail
      go_end0
      have hz := HP.out _ _ _ H1.out.done
      simpa only [List.append_assoc, List.cons_append, List.nil_append, List.append_nil, List.singleton_append] using hz
end Go.Proofs.YteijehmdabigeaaDoor
