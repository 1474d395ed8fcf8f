/-
  print's statements BY CONTRACTS: what the contracts say; list, otherwise, and the statements without blocks.
-/
import Derived.Test.YteijehmdabigeaaDoorPrVars
namespace Go.Proofs.YteijehmdabigeaaDoor
open Go Go.RowKit

/-- a call's own copy of a statement. -/
abbrev sC (w : World) (k n : Int) (nm : ByteArray) (A1 : Option Addr) (n1 c1 : Nat) (A2 : Option Addr) (n2 c2 : Nat) (A3 : Option Addr) (n3 c3 : Nat) : World := w.alloc (.cells #[.int .i64 k, .int .i64 n, .string nm, .slice A1 n1 c1, .slice A2 n2 c2, .slice A3 n3 c3] 43)
/-- what stmt writes. -/
def SX (s : ST) : Prop := ∀ (B b : Nat) (w : World) (q : Option Nat) (l : List ByteArray) (cs : List Value), LAt B w b q l → B ≤ w.heap.size → Env B w → SIn w B s cs → l.length + (tS s).length + 1 ≤ few →
  Calls Tryd.prog 68 #[.pointer (some ⟨b, 0, none⟩), .agg cs.toArray] w (Put B w b q (l ++ tS s))
theorem SX.at_ {s : ST} (h : SX s) {B b : Nat} {w0 w : World} {q0 q : Option Nat} {l : List ByteArray} {cs : List Value} (H : At B w0 b q0 w q l) (hE : Env B w0) (he : SIn w B s cs) (hl : l.length + (tS s).length + 1 ≤ few) :
    Calls Tryd.prog 68 #[.pointer (some ⟨b, 0, none⟩), .agg cs.toArray] w (Put B w0 b q0 (l ++ tS s)) :=
  (h B b w q l cs H.at_ H.size (hE.below H.low) he hl).mono fun _ _ hh => H.lift hh
/-- what list writes. -/
def LX (L : List ST) : Prop := ∀ (B b : Nat) (w : World) (q : Option Nat) (l : List ByteArray) (A : Option Addr) (c : Nat), LAt B w b q l → B ≤ w.heap.size → Env B w → SsR w B A L → l.length + (tL L).length + 1 ≤ few →
  Calls Tryd.prog 57 #[.pointer (some ⟨b, 0, none⟩), .slice A L.length c] w (Put B w b q (l ++ tL L))
theorem LX.at_ {L : List ST} (h : LX L) {B b : Nat} {w0 w : World} {q0 q : Option Nat} {l : List ByteArray} {A : Option Addr} {c : Nat} (H : At B w0 b q0 w q l) (hE : Env B w0) (he : SsR w B A L) (hl : l.length + (tL L).length + 1 ≤ few) :
    Calls Tryd.prog 57 #[.pointer (some ⟨b, 0, none⟩), .slice A L.length c] w (Put B w0 b q0 (l ++ tL L)) :=
  (h B b w q l A c H.at_ H.size (hE.below H.low) he hl).mono fun _ _ hh => H.lift hh
theorem nthB_0 (l : List (List ST)) (c : Nat) (A : Option Addr) (w : World) (B : Nat) (h : BsR w B A l) :
    Calls Tryd.prog 84 #[.slice A l.length c, .int .i64 0] w (NthB w B l 0) := nthB_any l 0 c A w B h
/-- a statement's tokens, its end behind. -/
def tSe (s : ST) : List ByteArray := tS s ++ [⟨#[59]⟩]

set_option maxHeartbeats 2000000 in
set_option maxRecDepth 100000 in
theorem list_of (L : List ST) (ih : ∀ (k : Nat) (hk : k < L.length), SX L[k]) (B b : Nat) (w : World) (q : Option Nat) (l : List ByteArray) (A : Option Addr) (c : Nat) (h : LAt B w b q l) (hB : B ≤ w.heap.size) (hE : Env B w) (ha : SsR w B A L) (hl : l.length + (L.flatMap tSe).length + 1 ≤ few) :
    Calls Tryd.prog 57 #[.pointer (some ⟨b, 0, none⟩), .slice A L.length c] w (Put B w b q (l ++ L.flatMap tSe)) := by
  have HA := Lib.hid (fun (w' : World) (hb : Below B w w') => SsR.mono (Nat.le_refl B) hb.block ha)
  have HS := Lib.hid (At.start h hB)
  have HE := Lib.hid hE
  have HF := Lib.hid hl
  have hcnt : L.length ≤ 1000000000 := by have := flat_len tSe (fun s => by simp [tSe]) L; unfold few at hl; omega
  have IH := Lib.hid ih
  clear h hE ha hl ih
  go_enter Tryd.func57, Tryd.ntmps57
  go_wp2_with fail
  go_loopw [8] (fun i wr => ∃ k : Nat, k ≤ L.length ∧ i = .int .i64 k ∧ Hid (∃ q', At B w b q wr q' (l ++ ((L.take k).flatMap tSe)))) (fun i _ => L.length - (intOf i).toNat)
  case atStart => exact ⟨0, Nat.zero_le _, rfl, q, by simpa [sep] using HS.out⟩
  case round =>
    obtain ⟨k, hk, rfl, hx⟩ := hrel
    obtain ⟨q', Hr⟩ := hx.out
    clear hx
    by_cases hlt : k < L.length
    · obtain ⟨g, o, cs, rfl, hg, hlen, hc, he⟩ := HA.out wr Hr.low k hlt
      have e2 := (show (L.take (k + 1)).flatMap tSe = (L.take k).flatMap tSe ++ (tS L[k] ++ ([⟨#[59]⟩] : List ByteArray)) from flat_take tSe hlt)
      have e3 := (show ((L.take k).flatMap tSe).length + (tS L[k] ++ ([⟨#[59]⟩] : List ByteArray)).length ≤ (L.flatMap tSe).length from flat_take_le tSe L hlt)
      have KX := Lib.hid (IH.out k hlt)
      revert he e2 e3 KX
      generalize L[k] = N
      intro he e2 e3 KX
      obtain ⟨sk, sn, snm, sex, slb, sbs⟩ := N
      have he0 := he
      obtain ⟨A1, d1, A2, d2, A3, d3, rfl, hn, r1, r2, r3⟩ := he.form
      have HV := Lib.hid (fun (w' : World) (hb : Below B (sC wr sk sn snm A1 sex.length d1 A2 slb.length d2 A3 sbs.length d3) w') => SIn.mono (Nat.le_refl B) ((((Below.refl wr.heap.size wr).alloc (Nat.le_refl _) _).mono Hr.size).trans hb).block he0)
      clear he0 he r1 r2 r3
      have c0 := hc 0 _ rfl
      have c1 := hc 1 _ rfl
      have c2 := hc 2 _ rfl
      have c3 := hc 3 _ rfl
      have c4 := hc 4 _ rfl
      have c5 := hc 5 _ rfl
      try rw [Nat.add_zero] at c0
      try simp only [Nat.mul_one] at c0
      have h1 : (k : Int) < (L.length : Int) := by omega
      have h2 : (0 : Int) ≤ (k : Int) := by omega
      have hW : Below wr.heap.size wr (sC wr sk sn snm A1 sex.length d1 A2 slb.length d2 A3 sbs.length d3) := (Below.refl _ _).alloc (Nat.le_refl _) _
      have H0 := Lib.hid (At.start (Hr.at_.below hW) (Nat.le_trans Hr.size hW.size))
      have HC := Lib.hid (fun w' q'' l' (H : At B (sC wr sk sn snm A1 sex.length d1 A2 slb.length d2 A3 sbs.length d3) b q' w' q'' l') => copy_cell Hr.at_ H)
      have HP := Lib.hid (fun l' e w' hh => Hr.lift (Put.base (l' := l') (e := e) (w' := w') Hr.at_ Hr.size hW hh))
      have HE2 := Lib.hid (HE.out.below (Hr.low.trans (hW.mono Hr.size)))
      have E2 := Lib.hid e2
      have HF := Lib.hid (show l.length + ((L.take k).flatMap tSe).length + (tS (.mk sk sn snm sex slb sbs) ++ ([⟨#[59]⟩] : List ByteArray)).length ≤ few by have := HF.out; have := e3; omega)
      have HE := HE2
      clear hc hlen hg Hr e2 e3 hW
      go_wp2_with fail
      refine (SX.at_ KX.out H0.out HE.out (HV.out _ H0.out.low) (by have hf := HF.out; first | omega | (simp only [List.length_append, List.length_cons, List.length_nil] at hf ⊢; omega))).mono ?_
      rintro e1 w1 ⟨rfl, q1, H1⟩
      have z0 := HC.out _ _ _ H1 0 _ rfl
      have z1 := HC.out _ _ _ H1 1 _ rfl
      have z2 := HC.out _ _ _ H1 2 _ rfl
      have z3 := HC.out _ _ _ H1 3 _ rfl
      have z4 := HC.out _ _ _ H1 4 _ rfl
      have z5 := HC.out _ _ _ H1 5 _ rfl
      have H1 := Lib.hid H1
      go_wp2_with fail
      refine (put1 H1.out ⟨#[59]⟩ (by have hf := HF.out; first | omega | (simp only [List.length_append, List.length_cons, List.length_nil] at hf ⊢; omega)) _ (by first | rfl | simp)).mono ?_
      rintro e2 w2 ⟨rfl, q2, H2⟩
      clear z0 z1 z2 z3 z4 z5
      have z0 := HC.out _ _ _ H2 0 _ rfl
      have z1 := HC.out _ _ _ H2 1 _ rfl
      have z2 := HC.out _ _ _ H2 2 _ rfl
      have z3 := HC.out _ _ _ H2 3 _ rfl
      have z4 := HC.out _ _ _ H2 4 _ rfl
      have z5 := HC.out _ _ _ H2 5 _ rfl
      have H2 := Lib.hid H2
      have hz := HP.out _ _ _ H2.out.done
      have E2 := E2.out
      simp only [List.append_assoc] at hz E2
      rw [← E2] at hz
      obtain ⟨_, hz⟩ := hz
      have HZ := Lib.hid hz
      clear hz E2
      go_wp2_with fail
      go_roundw
      case rel => exact ⟨k + 1, by omega, by go_num, HZ.out⟩
      case measure => simp [intOf]; omega
    · have e1 : L.take k = L := List.take_of_length_le (by omega)
      rw [e1] at Hr
      have HZ := Lib.hid Hr.done
      have h1 : ¬ (k : Int) < (L.length : Int) := by omega
      clear Hr e1
      go_wp2_with fail
      go_end0
      exact HZ.out
theorem lx_of (L : List ST) (ih : ∀ (k : Nat) (hk : k < L.length), SX L[k]) : LX L := by
  intro B b w q l A c h hB hE ha hl
  rw [tL_flat] at hl ⊢
  exact list_of L ih B b w q l A c h hB hE ha hl
theorem lx_nil : LX [] := lx_of [] (fun k hk => by simp at hk)
theorem nthB_ih {bs : List (List ST)} (ih : ∀ (i : Nat) (hi : i < bs.length), LX bs[i]) (i : Nat) : LX (bs.getD i []) := by
  by_cases h : i < bs.length
  · have e : bs.getD i [] = bs[i] := by simp [h]
    rw [e]
    exact ih i h
  · have e : bs.getD i [] = [] := by simp [h]
    rw [e]
    exact lx_nil
theorem tElse_eq (L : List ST) : tElse (tL L) = tF (decide (0 < L.length)) ⟨#[69, 76, 83, 69]⟩ ++ tL L := by
  unfold tElse
  cases L with
  | nil => simp [tL, tF]
  | cons s r => rw [if_neg (by simp [tL])]; simp [tF]

set_option maxHeartbeats 1000000 in
theorem otherwise_of (L : List ST) (ih : LX L) (B b : Nat) (w : World) (q : Option Nat) (l : List ByteArray) (A : Option Addr) (c : Nat) (h : LAt B w b q l) (hB : B ≤ w.heap.size) (hE : Env B w) (ha : SsR w B A L) (hl : l.length + (tElse (tL L)).length + 1 ≤ few) :
    Calls Tryd.prog 85 #[.pointer (some ⟨b, 0, none⟩), .slice A L.length c] w (Put B w b q (l ++ tElse (tL L))) := by
  rw [tElse_eq] at hl ⊢
  have HA := Lib.hid (fun (w' : World) (hb : Below B w w') => SsR.mono (Nat.le_refl B) hb.block ha)
  have H0 := Lib.hid (At.start h hB)
  have HP := Lib.hid (fun (l' : List ByteArray) (e : Ending) (w' : World) (hh : Put B w b q l' e w') => hh)
  have HE := Lib.hid hE
  have HF : Hid (l.length + (tF (decide (0 < L.length)) ⟨#[69, 76, 83, 69]⟩ ++ tL L).length + 1 ≤ few) := hl
  have HF2 := tF_len (decide (0 < L.length)) ⟨#[69, 76, 83, 69]⟩
  have HF : Hid (l.length + 1 + (tF (decide (0 < L.length)) ⟨#[69, 76, 83, 69]⟩ ++ tL L).length ≤ few) := by unfold Hid at *; omega
  have KL := Lib.hid ih
  clear h hE ha hl ih HF2
  go_enter Tryd.func85, Tryd.ntmps85
  go_wp2_with fail
  refine (flag_any H0.out _ _ (by have hf := HF.out; first | omega | (simp only [List.length_append, List.length_cons, List.length_nil] at hf ⊢; omega))).mono ?_
  rintro e1 w1 ⟨rfl, q1, H1⟩
  have H1 := Lib.hid H1
  go_wp2_with fail
  refine (LX.at_ KL.out H1.out HE.out (HA.out _ H1.out.low) (by have hf := HF.out; first | omega | (simp only [List.length_append] at hf ⊢; omega))).mono ?_
  rintro e2 w2 ⟨rfl, q2, H2⟩
  have H2 := Lib.hid H2
  go_wp2_with fail
  go_end0
  have hz := HP.out _ _ _ H2.out.done
  simpa only [List.append_assoc, List.cons_append, List.nil_append, List.append_nil, List.singleton_append] using hz
theorem otherwise_any {L : List ST} (ih : LX L) {B b : Nat} {w0 w : World} {q0 q : Option Nat} {l : List ByteArray} {A : Option Addr} {c : Nat} (H : At B w0 b q0 w q l) (hE : Env B w0) (ha : SsR w B A L) (hl : l.length + (tElse (tL L)).length + 1 ≤ few) :
    Calls Tryd.prog 85 #[.pointer (some ⟨b, 0, none⟩), .slice A L.length c] w (Put B w0 b q0 (l ++ tElse (tL L))) :=
  (otherwise_of L ih B b w q l A c H.at_ H.size (hE.below H.low) ha hl).mono fun _ _ hh => H.lift hh

set_option maxHeartbeats 1000000 in
theorem st_1 (n : Int) (nm : ByteArray) (ex : List ET) (lb : List (List Int)) (bs : List (List ST)) (B b : Nat) (w : World) (q : Option Nat) (l : List ByteArray) (cs : List Value) (hl : LAt B w b q l) (hB : B ≤ w.heap.size) (hE : Env B w)
    (he : SIn w B (.mk 1 n nm ex lb bs) cs) (hfew : l.length + (tS (.mk 1 n nm ex lb bs)).length + 1 ≤ few) :
    Calls Tryd.prog 68 #[.pointer (some ⟨b, 0, none⟩), .agg cs.toArray] w (Put B w b q (l ++ tS (.mk 1 n nm ex lb bs))) := by
  obtain ⟨A1, c1, A2, c2, A3, c3, rfl, hn, h1, h2, h3⟩ := he.form
  have hT : tS (.mk 1 n nm ex lb bs) = [nm, ⟨#[58, 61]⟩] ++ tE (nthE ex 0) := by rw [tS]; rfl
  rw [hT] at hfew ⊢
  have hW : Below w.heap.size w (sC w 1 n nm A1 ex.length c1 A2 lb.length c2 A3 bs.length c3) := (Below.refl _ _).alloc (Nat.le_refl _) _
  have hBW : Below B w (sC w 1 n nm A1 ex.length c1 A2 lb.length c2 A3 bs.length c3) := hW.mono hB
  have H0 := Lib.hid (At.start (hl.below hW) (Nat.le_trans hB hW.size))
  have HP := Lib.hid (fun l' e w' => Put.base (l' := l') (e := e) (w' := w') hl hB hW)
  have HC := Lib.hid (fun w' q' l' (H : At B (sC w 1 n nm A1 ex.length c1 A2 lb.length c2 A3 bs.length c3) b q w' q' l') => copy_cell hl H)
  have HE := Lib.hid (hE.below hBW)
  have HF := Lib.hid hfew
  have HA := Lib.hid (fun (w' : World) (hb : Below B (sC w 1 n nm A1 ex.length c1 A2 lb.length c2 A3 bs.length c3) w') => EsR.mono (Nat.le_refl B) (hBW.trans hb).block h1)
  have HL := Lib.hid (fun (w' : World) (hb : Below B (sC w 1 n nm A1 ex.length c1 A2 lb.length c2 A3 bs.length c3) w') => LsR.mono (Nat.le_refl B) (hBW.trans hb).block h2)
  have HB := Lib.hid (fun (w' : World) (hb : Below B (sC w 1 n nm A1 ex.length c1 A2 lb.length c2 A3 bs.length c3) w') => BsR.mono (Nat.le_refl B) (hBW.trans hb).block h3)
  have HV := Lib.hid (fun (w' : World) (hb : Below B (sC w 1 n nm A1 ex.length c1 A2 lb.length c2 A3 bs.length c3) w') => he.mono (Nat.le_refl B) (hBW.trans hb).block)
  clear hl hB hE he h1 h2 h3 hfew hW hBW hT 
  go_enter Tryd.func68, Tryd.ntmps68
  go_wp2_with fail
  refine (put2 H0.out nm ⟨#[58, 61]⟩ (by have hf := HF.out; first | omega | (simp only [List.length_append, List.length_cons, List.length_nil] at hf ⊢; omega)) _ (by first | rfl | simp)).mono ?_
  rintro e1 w1 ⟨rfl, q1, H1⟩
  have z0 := HC.out _ _ _ H1 0 _ rfl
  have z1 := HC.out _ _ _ H1 1 _ rfl
  have z2 := HC.out _ _ _ H1 2 _ rfl
  have z3 := HC.out _ _ _ H1 3 _ rfl
  have z4 := HC.out _ _ _ H1 4 _ rfl
  have z5 := HC.out _ _ _ H1 5 _ rfl
  have H1 := Lib.hid H1
  go_wp2_with fail
  refine (nthE_0 ex c1 A1 _ B (HA.out _ H1.out.low) H1.out.size).mono ?_
  rintro e2 w2 ⟨cs2, rfl, he2, hb2⟩
  have E2 := Lib.hid he2
  have H2 := H1.out.new hb2
  clear z0 z1 z2 z3 z4 z5
  have z0 := HC.out _ _ _ H2 0 _ rfl
  have z1 := HC.out _ _ _ H2 1 _ rfl
  have z2 := HC.out _ _ _ H2 2 _ rfl
  have z3 := HC.out _ _ _ H2 3 _ rfl
  have z4 := HC.out _ _ _ H2 4 _ rfl
  have z5 := HC.out _ _ _ H2 5 _ rfl
  have H2 := Lib.hid H2
  clear he2 hb2
  go_wp2_with fail
  refine (EX.at_ (ex_all (nthE ex 0)) H2.out HE.out E2.out (by have hf := HF.out; first | omega | (simp only [List.length_append, List.length_cons, List.length_nil] at hf ⊢; omega))).mono ?_
  rintro e3 w3 ⟨rfl, q3, H3⟩
  clear z0 z1 z2 z3 z4 z5
  have z0 := HC.out _ _ _ H3 0 _ rfl
  have z1 := HC.out _ _ _ H3 1 _ rfl
  have z2 := HC.out _ _ _ H3 2 _ rfl
  have z3 := HC.out _ _ _ H3 3 _ rfl
  have z4 := HC.out _ _ _ H3 4 _ rfl
  have z5 := HC.out _ _ _ H3 5 _ rfl
  have H3 := Lib.hid H3
  go_wp2_with fail
  go_end0
  have hz := HP.out _ _ _ H3.out.done
  simpa only [List.append_assoc, List.cons_append, List.nil_append, List.append_nil, List.singleton_append] using hz

set_option maxHeartbeats 1000000 in
theorem st_2 (n : Int) (nm : ByteArray) (ex : List ET) (lb : List (List Int)) (bs : List (List ST)) (B b : Nat) (w : World) (q : Option Nat) (l : List ByteArray) (cs : List Value) (hl : LAt B w b q l) (hB : B ≤ w.heap.size) (hE : Env B w)
    (he : SIn w B (.mk 2 n nm ex lb bs) cs) (hfew : l.length + (tS (.mk 2 n nm ex lb bs)).length + 1 ≤ few) :
    Calls Tryd.prog 68 #[.pointer (some ⟨b, 0, none⟩), .agg cs.toArray] w (Put B w b q (l ++ tS (.mk 2 n nm ex lb bs))) := by
  obtain ⟨A1, c1, A2, c2, A3, c3, rfl, hn, h1, h2, h3⟩ := he.form
  have hT : tS (.mk 2 n nm ex lb bs) = [nm, ⟨#[91]⟩] ++ tE (nthE ex 0) ++ [⟨#[93]⟩, ⟨#[58, 61]⟩] ++ tE (nthE ex 1) := by rw [tS]; rfl
  rw [hT] at hfew ⊢
  have hW : Below w.heap.size w (sC w 2 n nm A1 ex.length c1 A2 lb.length c2 A3 bs.length c3) := (Below.refl _ _).alloc (Nat.le_refl _) _
  have hBW : Below B w (sC w 2 n nm A1 ex.length c1 A2 lb.length c2 A3 bs.length c3) := hW.mono hB
  have H0 := Lib.hid (At.start (hl.below hW) (Nat.le_trans hB hW.size))
  have HP := Lib.hid (fun l' e w' => Put.base (l' := l') (e := e) (w' := w') hl hB hW)
  have HC := Lib.hid (fun w' q' l' (H : At B (sC w 2 n nm A1 ex.length c1 A2 lb.length c2 A3 bs.length c3) b q w' q' l') => copy_cell hl H)
  have HE := Lib.hid (hE.below hBW)
  have HF := Lib.hid hfew
  have HA := Lib.hid (fun (w' : World) (hb : Below B (sC w 2 n nm A1 ex.length c1 A2 lb.length c2 A3 bs.length c3) w') => EsR.mono (Nat.le_refl B) (hBW.trans hb).block h1)
  have HL := Lib.hid (fun (w' : World) (hb : Below B (sC w 2 n nm A1 ex.length c1 A2 lb.length c2 A3 bs.length c3) w') => LsR.mono (Nat.le_refl B) (hBW.trans hb).block h2)
  have HB := Lib.hid (fun (w' : World) (hb : Below B (sC w 2 n nm A1 ex.length c1 A2 lb.length c2 A3 bs.length c3) w') => BsR.mono (Nat.le_refl B) (hBW.trans hb).block h3)
  have HV := Lib.hid (fun (w' : World) (hb : Below B (sC w 2 n nm A1 ex.length c1 A2 lb.length c2 A3 bs.length c3) w') => he.mono (Nat.le_refl B) (hBW.trans hb).block)
  clear hl hB hE he h1 h2 h3 hfew hW hBW hT 
  go_enter Tryd.func68, Tryd.ntmps68
  go_wp2_with fail
  refine (put2 H0.out nm ⟨#[91]⟩ (by have hf := HF.out; first | omega | (simp only [List.length_append, List.length_cons, List.length_nil] at hf ⊢; omega)) _ (by first | rfl | simp)).mono ?_
  rintro e1 w1 ⟨rfl, q1, H1⟩
  have z0 := HC.out _ _ _ H1 0 _ rfl
  have z1 := HC.out _ _ _ H1 1 _ rfl
  have z2 := HC.out _ _ _ H1 2 _ rfl
  have z3 := HC.out _ _ _ H1 3 _ rfl
  have z4 := HC.out _ _ _ H1 4 _ rfl
  have z5 := HC.out _ _ _ H1 5 _ rfl
  have H1 := Lib.hid H1
  go_wp2_with fail
  refine (nthE_0 ex c1 A1 _ B (HA.out _ H1.out.low) H1.out.size).mono ?_
  rintro e2 w2 ⟨cs2, rfl, he2, hb2⟩
  have E2 := Lib.hid he2
  have H2 := H1.out.new hb2
  clear z0 z1 z2 z3 z4 z5
  have z0 := HC.out _ _ _ H2 0 _ rfl
  have z1 := HC.out _ _ _ H2 1 _ rfl
  have z2 := HC.out _ _ _ H2 2 _ rfl
  have z3 := HC.out _ _ _ H2 3 _ rfl
  have z4 := HC.out _ _ _ H2 4 _ rfl
  have z5 := HC.out _ _ _ H2 5 _ rfl
  have H2 := Lib.hid H2
  clear he2 hb2
  go_wp2_with fail
  refine (EX.at_ (ex_all (nthE ex 0)) H2.out HE.out E2.out (by have hf := HF.out; first | omega | (simp only [List.length_append, List.length_cons, List.length_nil] at hf ⊢; omega))).mono ?_
  rintro e3 w3 ⟨rfl, q3, H3⟩
  clear z0 z1 z2 z3 z4 z5
  have z0 := HC.out _ _ _ H3 0 _ rfl
  have z1 := HC.out _ _ _ H3 1 _ rfl
  have z2 := HC.out _ _ _ H3 2 _ rfl
  have z3 := HC.out _ _ _ H3 3 _ rfl
  have z4 := HC.out _ _ _ H3 4 _ rfl
  have z5 := HC.out _ _ _ H3 5 _ rfl
  have H3 := Lib.hid H3
  go_wp2_with fail
  refine (put2 H3.out ⟨#[93]⟩ ⟨#[58, 61]⟩ (by have hf := HF.out; first | omega | (simp only [List.length_append, List.length_cons, List.length_nil] at hf ⊢; omega)) _ (by first | rfl | simp)).mono ?_
  rintro e4 w4 ⟨rfl, q4, H4⟩
  clear z0 z1 z2 z3 z4 z5
  have z0 := HC.out _ _ _ H4 0 _ rfl
  have z1 := HC.out _ _ _ H4 1 _ rfl
  have z2 := HC.out _ _ _ H4 2 _ rfl
  have z3 := HC.out _ _ _ H4 3 _ rfl
  have z4 := HC.out _ _ _ H4 4 _ rfl
  have z5 := HC.out _ _ _ H4 5 _ rfl
  have H4 := Lib.hid H4
  go_wp2_with fail
  refine (nthE_1 ex c1 A1 _ B (HA.out _ H4.out.low) H4.out.size).mono ?_
  rintro e5 w5 ⟨cs5, rfl, he5, hb5⟩
  have E5 := Lib.hid he5
  have H5 := H4.out.new hb5
  clear z0 z1 z2 z3 z4 z5
  have z0 := HC.out _ _ _ H5 0 _ rfl
  have z1 := HC.out _ _ _ H5 1 _ rfl
  have z2 := HC.out _ _ _ H5 2 _ rfl
  have z3 := HC.out _ _ _ H5 3 _ rfl
  have z4 := HC.out _ _ _ H5 4 _ rfl
  have z5 := HC.out _ _ _ H5 5 _ rfl
  have H5 := Lib.hid H5
  clear he5 hb5
  go_wp2_with fail
  refine (EX.at_ (ex_all (nthE ex 1)) H5.out HE.out E5.out (by have hf := HF.out; first | omega | (simp only [List.length_append, List.length_cons, List.length_nil] at hf ⊢; omega))).mono ?_
  rintro e6 w6 ⟨rfl, q6, H6⟩
  clear z0 z1 z2 z3 z4 z5
  have z0 := HC.out _ _ _ H6 0 _ rfl
  have z1 := HC.out _ _ _ H6 1 _ rfl
  have z2 := HC.out _ _ _ H6 2 _ rfl
  have z3 := HC.out _ _ _ H6 3 _ rfl
  have z4 := HC.out _ _ _ H6 4 _ rfl
  have z5 := HC.out _ _ _ H6 5 _ rfl
  have H6 := Lib.hid H6
  go_wp2_with fail
  go_end0
  have hz := HP.out _ _ _ H6.out.done
  simpa only [List.append_assoc, List.cons_append, List.nil_append, List.append_nil, List.singleton_append] using hz

set_option maxHeartbeats 1000000 in
theorem st_3 (n : Int) (nm : ByteArray) (ex : List ET) (lb : List (List Int)) (bs : List (List ST)) (B b : Nat) (w : World) (q : Option Nat) (l : List ByteArray) (cs : List Value) (hl : LAt B w b q l) (hB : B ≤ w.heap.size) (hE : Env B w)
    (he : SIn w B (.mk 3 n nm ex lb bs) cs) (hfew : l.length + (tS (.mk 3 n nm ex lb bs)).length + 1 ≤ few) :
    Calls Tryd.prog 68 #[.pointer (some ⟨b, 0, none⟩), .agg cs.toArray] w (Put B w b q (l ++ tS (.mk 3 n nm ex lb bs))) := by
  obtain ⟨A1, c1, A2, c2, A3, c3, rfl, hn, h1, h2, h3⟩ := he.form
  have hT : tS (.mk 3 n nm ex lb bs) = [nm, ⟨#[63, 61]⟩] ++ tE (nthE ex 0) := by rw [tS]; rfl
  rw [hT] at hfew ⊢
  have hW : Below w.heap.size w (sC w 3 n nm A1 ex.length c1 A2 lb.length c2 A3 bs.length c3) := (Below.refl _ _).alloc (Nat.le_refl _) _
  have hBW : Below B w (sC w 3 n nm A1 ex.length c1 A2 lb.length c2 A3 bs.length c3) := hW.mono hB
  have H0 := Lib.hid (At.start (hl.below hW) (Nat.le_trans hB hW.size))
  have HP := Lib.hid (fun l' e w' => Put.base (l' := l') (e := e) (w' := w') hl hB hW)
  have HC := Lib.hid (fun w' q' l' (H : At B (sC w 3 n nm A1 ex.length c1 A2 lb.length c2 A3 bs.length c3) b q w' q' l') => copy_cell hl H)
  have HE := Lib.hid (hE.below hBW)
  have HF := Lib.hid hfew
  have HA := Lib.hid (fun (w' : World) (hb : Below B (sC w 3 n nm A1 ex.length c1 A2 lb.length c2 A3 bs.length c3) w') => EsR.mono (Nat.le_refl B) (hBW.trans hb).block h1)
  have HL := Lib.hid (fun (w' : World) (hb : Below B (sC w 3 n nm A1 ex.length c1 A2 lb.length c2 A3 bs.length c3) w') => LsR.mono (Nat.le_refl B) (hBW.trans hb).block h2)
  have HB := Lib.hid (fun (w' : World) (hb : Below B (sC w 3 n nm A1 ex.length c1 A2 lb.length c2 A3 bs.length c3) w') => BsR.mono (Nat.le_refl B) (hBW.trans hb).block h3)
  have HV := Lib.hid (fun (w' : World) (hb : Below B (sC w 3 n nm A1 ex.length c1 A2 lb.length c2 A3 bs.length c3) w') => he.mono (Nat.le_refl B) (hBW.trans hb).block)
  clear hl hB hE he h1 h2 h3 hfew hW hBW hT 
  go_enter Tryd.func68, Tryd.ntmps68
  go_wp2_with fail
  refine (put2 H0.out nm ⟨#[63, 61]⟩ (by have hf := HF.out; first | omega | (simp only [List.length_append, List.length_cons, List.length_nil] at hf ⊢; omega)) _ (by first | rfl | simp)).mono ?_
  rintro e1 w1 ⟨rfl, q1, H1⟩
  have z0 := HC.out _ _ _ H1 0 _ rfl
  have z1 := HC.out _ _ _ H1 1 _ rfl
  have z2 := HC.out _ _ _ H1 2 _ rfl
  have z3 := HC.out _ _ _ H1 3 _ rfl
  have z4 := HC.out _ _ _ H1 4 _ rfl
  have z5 := HC.out _ _ _ H1 5 _ rfl
  have H1 := Lib.hid H1
  go_wp2_with fail
  refine (nthE_0 ex c1 A1 _ B (HA.out _ H1.out.low) H1.out.size).mono ?_
  rintro e2 w2 ⟨cs2, rfl, he2, hb2⟩
  have E2 := Lib.hid he2
  have H2 := H1.out.new hb2
  clear z0 z1 z2 z3 z4 z5
  have z0 := HC.out _ _ _ H2 0 _ rfl
  have z1 := HC.out _ _ _ H2 1 _ rfl
  have z2 := HC.out _ _ _ H2 2 _ rfl
  have z3 := HC.out _ _ _ H2 3 _ rfl
  have z4 := HC.out _ _ _ H2 4 _ rfl
  have z5 := HC.out _ _ _ H2 5 _ rfl
  have H2 := Lib.hid H2
  clear he2 hb2
  go_wp2_with fail
  refine (EX.at_ (ex_all (nthE ex 0)) H2.out HE.out E2.out (by have hf := HF.out; first | omega | (simp only [List.length_append, List.length_cons, List.length_nil] at hf ⊢; omega))).mono ?_
  rintro e3 w3 ⟨rfl, q3, H3⟩
  clear z0 z1 z2 z3 z4 z5
  have z0 := HC.out _ _ _ H3 0 _ rfl
  have z1 := HC.out _ _ _ H3 1 _ rfl
  have z2 := HC.out _ _ _ H3 2 _ rfl
  have z3 := HC.out _ _ _ H3 3 _ rfl
  have z4 := HC.out _ _ _ H3 4 _ rfl
  have z5 := HC.out _ _ _ H3 5 _ rfl
  have H3 := Lib.hid H3
  go_wp2_with fail
  go_end0
  have hz := HP.out _ _ _ H3.out.done
  simpa only [List.append_assoc, List.cons_append, List.nil_append, List.append_nil, List.singleton_append] using hz

set_option maxHeartbeats 1000000 in
theorem st_4 (n : Int) (nm : ByteArray) (ex : List ET) (lb : List (List Int)) (bs : List (List ST)) (B b : Nat) (w : World) (q : Option Nat) (l : List ByteArray) (cs : List Value) (hl : LAt B w b q l) (hB : B ≤ w.heap.size) (hE : Env B w)
    (he : SIn w B (.mk 4 n nm ex lb bs) cs) (hfew : l.length + (tS (.mk 4 n nm ex lb bs)).length + 1 ≤ few) :
    Calls Tryd.prog 68 #[.pointer (some ⟨b, 0, none⟩), .agg cs.toArray] w (Put B w b q (l ++ tS (.mk 4 n nm ex lb bs))) := by
  obtain ⟨A1, c1, A2, c2, A3, c3, rfl, hn, h1, h2, h3⟩ := he.form
  have hT : tS (.mk 4 n nm ex lb bs) = tE (nthE ex 0) := by rw [tS]; rfl
  rw [hT] at hfew ⊢
  have hW : Below w.heap.size w (sC w 4 n nm A1 ex.length c1 A2 lb.length c2 A3 bs.length c3) := (Below.refl _ _).alloc (Nat.le_refl _) _
  have hBW : Below B w (sC w 4 n nm A1 ex.length c1 A2 lb.length c2 A3 bs.length c3) := hW.mono hB
  have H0 := Lib.hid (At.start (hl.below hW) (Nat.le_trans hB hW.size))
  have HP := Lib.hid (fun l' e w' => Put.base (l' := l') (e := e) (w' := w') hl hB hW)
  have HC := Lib.hid (fun w' q' l' (H : At B (sC w 4 n nm A1 ex.length c1 A2 lb.length c2 A3 bs.length c3) b q w' q' l') => copy_cell hl H)
  have HE := Lib.hid (hE.below hBW)
  have HF := Lib.hid hfew
  have HA := Lib.hid (fun (w' : World) (hb : Below B (sC w 4 n nm A1 ex.length c1 A2 lb.length c2 A3 bs.length c3) w') => EsR.mono (Nat.le_refl B) (hBW.trans hb).block h1)
  have HL := Lib.hid (fun (w' : World) (hb : Below B (sC w 4 n nm A1 ex.length c1 A2 lb.length c2 A3 bs.length c3) w') => LsR.mono (Nat.le_refl B) (hBW.trans hb).block h2)
  have HB := Lib.hid (fun (w' : World) (hb : Below B (sC w 4 n nm A1 ex.length c1 A2 lb.length c2 A3 bs.length c3) w') => BsR.mono (Nat.le_refl B) (hBW.trans hb).block h3)
  have HV := Lib.hid (fun (w' : World) (hb : Below B (sC w 4 n nm A1 ex.length c1 A2 lb.length c2 A3 bs.length c3) w') => he.mono (Nat.le_refl B) (hBW.trans hb).block)
  clear hl hB hE he h1 h2 h3 hfew hW hBW hT 
  go_enter Tryd.func68, Tryd.ntmps68
  go_wp2_with fail
  refine (nthE_0 ex c1 A1 _ B (HA.out _ H0.out.low) H0.out.size).mono ?_
  rintro e1 w1 ⟨cs1, rfl, he1, hb1⟩
  have E1 := Lib.hid he1
  have H1 := H0.out.new hb1
  have z0 := HC.out _ _ _ H1 0 _ rfl
  have z1 := HC.out _ _ _ H1 1 _ rfl
  have z2 := HC.out _ _ _ H1 2 _ rfl
  have z3 := HC.out _ _ _ H1 3 _ rfl
  have z4 := HC.out _ _ _ H1 4 _ rfl
  have z5 := HC.out _ _ _ H1 5 _ rfl
  have H1 := Lib.hid H1
  clear he1 hb1
  go_wp2_with fail
  refine (EX.at_ (ex_all (nthE ex 0)) H1.out HE.out E1.out (by have hf := HF.out; first | omega | (simp only [List.length_append, List.length_cons, List.length_nil] at hf ⊢; omega))).mono ?_
  rintro e2 w2 ⟨rfl, q2, H2⟩
  clear z0 z1 z2 z3 z4 z5
  have z0 := HC.out _ _ _ H2 0 _ rfl
  have z1 := HC.out _ _ _ H2 1 _ rfl
  have z2 := HC.out _ _ _ H2 2 _ rfl
  have z3 := HC.out _ _ _ H2 3 _ rfl
  have z4 := HC.out _ _ _ H2 4 _ rfl
  have z5 := HC.out _ _ _ H2 5 _ rfl
  have H2 := Lib.hid H2
  go_wp2_with fail
  go_end0
  have hz := HP.out _ _ _ H2.out.done
  simpa only [List.append_assoc, List.cons_append, List.nil_append, List.append_nil, List.singleton_append] using hz

set_option maxHeartbeats 1000000 in
theorem step_of (n : Int) (nm : ByteArray) (ex : List ET) (lb : List (List Int)) (bs : List (List ST)) (B b : Nat) (w : World) (q : Option Nat) (l : List ByteArray) (cs : List Value) (hl : LAt B w b q l) (hB : B ≤ w.heap.size) (hE : Env B w)
    (he : SIn w B (.mk 11 n nm ex lb bs) cs) (hfew : l.length + (tS (.mk 11 n nm ex lb bs)).length + 1 ≤ few) :
    Calls Tryd.prog 79 #[.pointer (some ⟨b, 0, none⟩), .agg cs.toArray] w (Put B w b q (l ++ tS (.mk 11 n nm ex lb bs))) := by
  obtain ⟨A1, c1, A2, c2, A3, c3, rfl, hn, h1, h2, h3⟩ := he.form
  have hT : tS (.mk 11 n nm ex lb bs) = [⟨#[83, 84, 69, 80]⟩, nm, ⟨#[40]⟩] ++ tE (nthE ex 0) ++ [⟨#[44]⟩] ++ tE (nthE ex 1) ++ [⟨#[41]⟩] := by rw [tS]; rfl
  rw [hT] at hfew ⊢
  have hW : Below w.heap.size w (sC w 11 n nm A1 ex.length c1 A2 lb.length c2 A3 bs.length c3) := (Below.refl _ _).alloc (Nat.le_refl _) _
  have hBW : Below B w (sC w 11 n nm A1 ex.length c1 A2 lb.length c2 A3 bs.length c3) := hW.mono hB
  have H0 := Lib.hid (At.start (hl.below hW) (Nat.le_trans hB hW.size))
  have HP := Lib.hid (fun l' e w' => Put.base (l' := l') (e := e) (w' := w') hl hB hW)
  have HC := Lib.hid (fun w' q' l' (H : At B (sC w 11 n nm A1 ex.length c1 A2 lb.length c2 A3 bs.length c3) b q w' q' l') => copy_cell hl H)
  have HE := Lib.hid (hE.below hBW)
  have HF := Lib.hid hfew
  have HA := Lib.hid (fun (w' : World) (hb : Below B (sC w 11 n nm A1 ex.length c1 A2 lb.length c2 A3 bs.length c3) w') => EsR.mono (Nat.le_refl B) (hBW.trans hb).block h1)
  have HL := Lib.hid (fun (w' : World) (hb : Below B (sC w 11 n nm A1 ex.length c1 A2 lb.length c2 A3 bs.length c3) w') => LsR.mono (Nat.le_refl B) (hBW.trans hb).block h2)
  have HB := Lib.hid (fun (w' : World) (hb : Below B (sC w 11 n nm A1 ex.length c1 A2 lb.length c2 A3 bs.length c3) w') => BsR.mono (Nat.le_refl B) (hBW.trans hb).block h3)
  have HV := Lib.hid (fun (w' : World) (hb : Below B (sC w 11 n nm A1 ex.length c1 A2 lb.length c2 A3 bs.length c3) w') => he.mono (Nat.le_refl B) (hBW.trans hb).block)
  clear hl hB hE he h1 h2 h3 hfew hW hBW hT 
  go_enter Tryd.func79, Tryd.ntmps79
  go_wp2_with fail
  refine (put3 H0.out ⟨#[83, 84, 69, 80]⟩ nm ⟨#[40]⟩ (by have hf := HF.out; first | omega | (simp only [List.length_append, List.length_cons, List.length_nil] at hf ⊢; omega)) _ (by first | rfl | simp)).mono ?_
  rintro e1 w1 ⟨rfl, q1, H1⟩
  have z0 := HC.out _ _ _ H1 0 _ rfl
  have z1 := HC.out _ _ _ H1 1 _ rfl
  have z2 := HC.out _ _ _ H1 2 _ rfl
  have z3 := HC.out _ _ _ H1 3 _ rfl
  have z4 := HC.out _ _ _ H1 4 _ rfl
  have z5 := HC.out _ _ _ H1 5 _ rfl
  have H1 := Lib.hid H1
  go_wp2_with fail
  refine (nthE_0 ex c1 A1 _ B (HA.out _ H1.out.low) H1.out.size).mono ?_
  rintro e2 w2 ⟨cs2, rfl, he2, hb2⟩
  have E2 := Lib.hid he2
  have H2 := H1.out.new hb2
  clear z0 z1 z2 z3 z4 z5
  have z0 := HC.out _ _ _ H2 0 _ rfl
  have z1 := HC.out _ _ _ H2 1 _ rfl
  have z2 := HC.out _ _ _ H2 2 _ rfl
  have z3 := HC.out _ _ _ H2 3 _ rfl
  have z4 := HC.out _ _ _ H2 4 _ rfl
  have z5 := HC.out _ _ _ H2 5 _ rfl
  have H2 := Lib.hid H2
  clear he2 hb2
  go_wp2_with fail
  refine (EX.at_ (ex_all (nthE ex 0)) H2.out HE.out E2.out (by have hf := HF.out; first | omega | (simp only [List.length_append, List.length_cons, List.length_nil] at hf ⊢; omega))).mono ?_
  rintro e3 w3 ⟨rfl, q3, H3⟩
  clear z0 z1 z2 z3 z4 z5
  have z0 := HC.out _ _ _ H3 0 _ rfl
  have z1 := HC.out _ _ _ H3 1 _ rfl
  have z2 := HC.out _ _ _ H3 2 _ rfl
  have z3 := HC.out _ _ _ H3 3 _ rfl
  have z4 := HC.out _ _ _ H3 4 _ rfl
  have z5 := HC.out _ _ _ H3 5 _ rfl
  have H3 := Lib.hid H3
  go_wp2_with fail
  refine (put1 H3.out ⟨#[44]⟩ (by have hf := HF.out; first | omega | (simp only [List.length_append, List.length_cons, List.length_nil] at hf ⊢; omega)) _ (by first | rfl | simp)).mono ?_
  rintro e4 w4 ⟨rfl, q4, H4⟩
  clear z0 z1 z2 z3 z4 z5
  have z0 := HC.out _ _ _ H4 0 _ rfl
  have z1 := HC.out _ _ _ H4 1 _ rfl
  have z2 := HC.out _ _ _ H4 2 _ rfl
  have z3 := HC.out _ _ _ H4 3 _ rfl
  have z4 := HC.out _ _ _ H4 4 _ rfl
  have z5 := HC.out _ _ _ H4 5 _ rfl
  have H4 := Lib.hid H4
  go_wp2_with fail
  refine (nthE_1 ex c1 A1 _ B (HA.out _ H4.out.low) H4.out.size).mono ?_
  rintro e5 w5 ⟨cs5, rfl, he5, hb5⟩
  have E5 := Lib.hid he5
  have H5 := H4.out.new hb5
  clear z0 z1 z2 z3 z4 z5
  have z0 := HC.out _ _ _ H5 0 _ rfl
  have z1 := HC.out _ _ _ H5 1 _ rfl
  have z2 := HC.out _ _ _ H5 2 _ rfl
  have z3 := HC.out _ _ _ H5 3 _ rfl
  have z4 := HC.out _ _ _ H5 4 _ rfl
  have z5 := HC.out _ _ _ H5 5 _ rfl
  have H5 := Lib.hid H5
  clear he5 hb5
  go_wp2_with fail
  refine (EX.at_ (ex_all (nthE ex 1)) H5.out HE.out E5.out (by have hf := HF.out; first | omega | (simp only [List.length_append, List.length_cons, List.length_nil] at hf ⊢; omega))).mono ?_
  rintro e6 w6 ⟨rfl, q6, H6⟩
  clear z0 z1 z2 z3 z4 z5
  have z0 := HC.out _ _ _ H6 0 _ rfl
  have z1 := HC.out _ _ _ H6 1 _ rfl
  have z2 := HC.out _ _ _ H6 2 _ rfl
  have z3 := HC.out _ _ _ H6 3 _ rfl
  have z4 := HC.out _ _ _ H6 4 _ rfl
  have z5 := HC.out _ _ _ H6 5 _ rfl
  have H6 := Lib.hid H6
  go_wp2_with fail
  refine (put1 H6.out ⟨#[41]⟩ (by have hf := HF.out; first | omega | (simp only [List.length_append, List.length_cons, List.length_nil] at hf ⊢; omega)) _ (by first | rfl | simp)).mono ?_
  rintro e7 w7 ⟨rfl, q7, H7⟩
  clear z0 z1 z2 z3 z4 z5
  have z0 := HC.out _ _ _ H7 0 _ rfl
  have z1 := HC.out _ _ _ H7 1 _ rfl
  have z2 := HC.out _ _ _ H7 2 _ rfl
  have z3 := HC.out _ _ _ H7 3 _ rfl
  have z4 := HC.out _ _ _ H7 4 _ rfl
  have z5 := HC.out _ _ _ H7 5 _ rfl
  have H7 := Lib.hid H7
  go_wp2_with fail
  go_end0
  have hz := HP.out _ _ _ H7.out.done
  simpa only [List.append_assoc, List.cons_append, List.nil_append, List.append_nil, List.singleton_append] using hz

set_option maxHeartbeats 1000000 in
theorem st_10 (n : Int) (nm : ByteArray) (ex : List ET) (lb : List (List Int)) (bs : List (List ST)) (B b : Nat) (w : World) (q : Option Nat) (l : List ByteArray) (cs : List Value) (hl : LAt B w b q l) (hB : B ≤ w.heap.size) (hE : Env B w)
    (he : SIn w B (.mk 10 n nm ex lb bs) cs) (hfew : l.length + (tS (.mk 10 n nm ex lb bs)).length + 1 ≤ few) :
    Calls Tryd.prog 68 #[.pointer (some ⟨b, 0, none⟩), .agg cs.toArray] w (Put B w b q (l ++ tS (.mk 10 n nm ex lb bs))) := by
  obtain ⟨A1, c1, A2, c2, A3, c3, rfl, hn, h1, h2, h3⟩ := he.form
  have hT : tS (.mk 10 n nm ex lb bs) = [⟨#[69, 88, 73, 84]⟩] := by rw [tS]; rfl
  rw [hT] at hfew ⊢
  have hW : Below w.heap.size w (sC w 10 n nm A1 ex.length c1 A2 lb.length c2 A3 bs.length c3) := (Below.refl _ _).alloc (Nat.le_refl _) _
  have hBW : Below B w (sC w 10 n nm A1 ex.length c1 A2 lb.length c2 A3 bs.length c3) := hW.mono hB
  have H0 := Lib.hid (At.start (hl.below hW) (Nat.le_trans hB hW.size))
  have HP := Lib.hid (fun l' e w' => Put.base (l' := l') (e := e) (w' := w') hl hB hW)
  have HC := Lib.hid (fun w' q' l' (H : At B (sC w 10 n nm A1 ex.length c1 A2 lb.length c2 A3 bs.length c3) b q w' q' l') => copy_cell hl H)
  have HE := Lib.hid (hE.below hBW)
  have HF := Lib.hid hfew
  have HA := Lib.hid (fun (w' : World) (hb : Below B (sC w 10 n nm A1 ex.length c1 A2 lb.length c2 A3 bs.length c3) w') => EsR.mono (Nat.le_refl B) (hBW.trans hb).block h1)
  have HL := Lib.hid (fun (w' : World) (hb : Below B (sC w 10 n nm A1 ex.length c1 A2 lb.length c2 A3 bs.length c3) w') => LsR.mono (Nat.le_refl B) (hBW.trans hb).block h2)
  have HB := Lib.hid (fun (w' : World) (hb : Below B (sC w 10 n nm A1 ex.length c1 A2 lb.length c2 A3 bs.length c3) w') => BsR.mono (Nat.le_refl B) (hBW.trans hb).block h3)
  have HV := Lib.hid (fun (w' : World) (hb : Below B (sC w 10 n nm A1 ex.length c1 A2 lb.length c2 A3 bs.length c3) w') => he.mono (Nat.le_refl B) (hBW.trans hb).block)
  clear hl hB hE he h1 h2 h3 hfew hW hBW hT 
  go_enter Tryd.func68, Tryd.ntmps68
  go_wp2_with fail
  refine (put1 H0.out ⟨#[69, 88, 73, 84]⟩ (by have hf := HF.out; first | omega | (simp only [List.length_append, List.length_cons, List.length_nil] at hf ⊢; omega)) _ (by first | rfl | simp)).mono ?_
  rintro e1 w1 ⟨rfl, q1, H1⟩
  have z0 := HC.out _ _ _ H1 0 _ rfl
  have z1 := HC.out _ _ _ H1 1 _ rfl
  have z2 := HC.out _ _ _ H1 2 _ rfl
  have z3 := HC.out _ _ _ H1 3 _ rfl
  have z4 := HC.out _ _ _ H1 4 _ rfl
  have z5 := HC.out _ _ _ H1 5 _ rfl
  have H1 := Lib.hid H1
  go_wp2_with fail
  go_end0
  have hz := HP.out _ _ _ H1.out.done
  simpa only [List.append_assoc, List.cons_append, List.nil_append, List.append_nil, List.singleton_append] using hz

set_option maxHeartbeats 1000000 in
theorem st_9n (n : Int) (nm : ByteArray) (ex : List ET) (lb : List (List Int)) (bs : List (List ST)) (h0 : ex.length = 0) (B b : Nat) (w : World) (q : Option Nat) (l : List ByteArray) (cs : List Value) (hl : LAt B w b q l) (hB : B ≤ w.heap.size) (hE : Env B w)
    (he : SIn w B (.mk 9 n nm ex lb bs) cs) (hfew : l.length + (tS (.mk 9 n nm ex lb bs)).length + 1 ≤ few) :
    Calls Tryd.prog 68 #[.pointer (some ⟨b, 0, none⟩), .agg cs.toArray] w (Put B w b q (l ++ tS (.mk 9 n nm ex lb bs))) := by
  obtain ⟨A1, c1, A2, c2, A3, c3, rfl, hn, h1, h2, h3⟩ := he.form
  have hT : tS (.mk 9 n nm ex lb bs) = ⟨#[82, 69, 84, 85, 82, 78]⟩ :: [] := by rw [tS]; simp [tSk, h0]
  rw [hT] at hfew ⊢
  have hW : Below w.heap.size w (sC w 9 n nm A1 ex.length c1 A2 lb.length c2 A3 bs.length c3) := (Below.refl _ _).alloc (Nat.le_refl _) _
  have hBW : Below B w (sC w 9 n nm A1 ex.length c1 A2 lb.length c2 A3 bs.length c3) := hW.mono hB
  have H0 := Lib.hid (At.start (hl.below hW) (Nat.le_trans hB hW.size))
  have HP := Lib.hid (fun l' e w' => Put.base (l' := l') (e := e) (w' := w') hl hB hW)
  have HC := Lib.hid (fun w' q' l' (H : At B (sC w 9 n nm A1 ex.length c1 A2 lb.length c2 A3 bs.length c3) b q w' q' l') => copy_cell hl H)
  have HE := Lib.hid (hE.below hBW)
  have HF := Lib.hid hfew
  have HA := Lib.hid (fun (w' : World) (hb : Below B (sC w 9 n nm A1 ex.length c1 A2 lb.length c2 A3 bs.length c3) w') => EsR.mono (Nat.le_refl B) (hBW.trans hb).block h1)
  have HL := Lib.hid (fun (w' : World) (hb : Below B (sC w 9 n nm A1 ex.length c1 A2 lb.length c2 A3 bs.length c3) w') => LsR.mono (Nat.le_refl B) (hBW.trans hb).block h2)
  have HB := Lib.hid (fun (w' : World) (hb : Below B (sC w 9 n nm A1 ex.length c1 A2 lb.length c2 A3 bs.length c3) w') => BsR.mono (Nat.le_refl B) (hBW.trans hb).block h3)
  have HV := Lib.hid (fun (w' : World) (hb : Below B (sC w 9 n nm A1 ex.length c1 A2 lb.length c2 A3 bs.length c3) w') => he.mono (Nat.le_refl B) (hBW.trans hb).block)
  have hz : ¬ 0 < (ex.length : Int) := by omega
  have hz2 : decide (0 < ex.length) = false := by simp [h0]
  clear hl hB hE he h1 h2 h3 hfew hW hBW hT h0
  go_enter Tryd.func68, Tryd.ntmps68
  go_wp2_with fail
  refine (put1 H0.out ⟨#[82, 69, 84, 85, 82, 78]⟩ (by have hf := HF.out; first | omega | (simp only [List.length_append, List.length_cons, List.length_nil] at hf ⊢; omega)) _ (by first | rfl | simp)).mono ?_
  rintro e1 w1 ⟨rfl, q1, H1⟩
  have z0 := HC.out _ _ _ H1 0 _ rfl
  have z1 := HC.out _ _ _ H1 1 _ rfl
  have z2 := HC.out _ _ _ H1 2 _ rfl
  have z3 := HC.out _ _ _ H1 3 _ rfl
  have z4 := HC.out _ _ _ H1 4 _ rfl
  have z5 := HC.out _ _ _ H1 5 _ rfl
  have H1 := Lib.hid H1
  go_wp2_with fail
  go_end0
  have hz := HP.out _ _ _ H1.out.done
  simpa only [List.append_assoc, List.cons_append, List.nil_append, List.append_nil, List.singleton_append] using hz
end Go.Proofs.YteijehmdabigeaaDoor
