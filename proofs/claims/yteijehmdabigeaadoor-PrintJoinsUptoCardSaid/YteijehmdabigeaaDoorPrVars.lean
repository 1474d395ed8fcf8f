/-
  print's loops BY CONTRACTS: vars, parted over parameters and over numbers.
-/
import Derived.Test.YteijehmdabigeaaDoorPrTy
namespace Go.Proofs.YteijehmdabigeaaDoor
open Go Go.RowKit

theorem flat_take {α : Type} (f : α → List ByteArray) {l : List α} {k : Nat} (h : k < l.length) : (l.take (k + 1)).flatMap f = (l.take k).flatMap f ++ f l[k] := by
  rw [List.take_succ_eq_append_getElem h, List.flatMap_append, List.flatMap_cons, List.flatMap_nil, List.append_nil]
theorem flat_take_le {α : Type} (f : α → List ByteArray) (l : List α) {k : Nat} (h : k < l.length) : ((l.take k).flatMap f).length + (f l[k]).length ≤ (l.flatMap f).length := by
  have e : l = l.take k ++ l[k] :: l.drop (k + 1) := by simp
  conv => rhs; rw [e]
  simp only [List.flatMap_append, List.flatMap_cons, List.length_append]
  omega
theorem flat_len {α : Type} (f : α → List ByteArray) (hf : ∀ x, 1 ≤ (f x).length) (l : List α) : l.length ≤ (l.flatMap f).length := by
  induction l with
  | nil => simp
  | cons x r ih => have := hf x; simp only [List.flatMap_cons, List.length_append, List.length_cons]; omega
theorem sep_map_take {α : Type} (f : α → List ByteArray) {l : List α} {k : Nat} (h : k < l.length) : sep ((l.take (k + 1)).map f) = sep ((l.take k).map f) ++ (tF (decide (0 < k)) ⟨#[44]⟩ ++ f l[k]) := by
  have hk : k < (l.map f).length := by simpa using h
  have := sep_take hk
  rw [← List.map_take, ← List.map_take] at this
  rw [this]
  simp
theorem sep_map_le {α : Type} (f : α → List ByteArray) (l : List α) {k : Nat} (h : k < l.length) : (sep ((l.take k).map f)).length + (tF (decide (0 < k)) ⟨#[44]⟩ ++ f l[k]).length ≤ (sep (l.map f)).length := by
  have hk : k < (l.map f).length := by simpa using h
  have := sep_take_succ_le hk
  rw [← List.map_take] at this
  simpa using this
theorem tV_pos (v : VT) : 1 ≤ (tV v).length := by simp [tV]

set_option maxHeartbeats 2000000 in
set_option maxRecDepth 100000 in
theorem vars_of (L : List VT) (B b : Nat) (w : World) (q : Option Nat) (l : List ByteArray) (A : Option Addr) (c : Nat) (h : LAt B w b q l) (hB : B ≤ w.heap.size) (hE : Env B w) (ha : VsR w B A L) (hl : l.length + (L.flatMap tV).length + 1 ≤ few) :
    Calls Tryd.prog 55 #[.pointer (some ⟨b, 0, none⟩), .slice A L.length c] w (Put B w b q (l ++ L.flatMap tV)) := by
  have HA := Lib.hid (fun (w' : World) (hb : Below B w w') => VsR.mono (Nat.le_refl B) hb.block ha)
  have HS := Lib.hid (At.start h hB)
  have HE := Lib.hid hE
  have HF := Lib.hid hl
  have hcnt : L.length ≤ 1000000000 := by have := flat_len tV tV_pos L; unfold few at hl; omega
  clear h hE ha hl 
  go_enter Tryd.func55, Tryd.ntmps55
  go_wp2_with fail
  go_loopw [8] (fun i wr => ∃ k : Nat, k ≤ L.length ∧ i = .int .i64 k ∧ Hid (∃ q', At B w b q wr q' (l ++ ((L.take k).flatMap tV)))) (fun i _ => L.length - (intOf i).toNat)
  case atStart => exact ⟨0, Nat.zero_le _, rfl, q, by simpa [sep] using HS.out⟩
  case round =>
    obtain ⟨k, hk, rfl, hx⟩ := hrel
    obtain ⟨q', Hr⟩ := hx.out
    clear hx
    by_cases hlt : k < L.length
    · obtain ⟨g, o, cs, rfl, hg, hlen, hc, he⟩ := HA.out wr Hr.low k hlt
      have e2 := flat_take tV hlt
      have e3 := flat_take_le tV L hlt

      revert he e2 e3
      generalize L[k] = N
      intro he e2 e3
      obtain ⟨nm, ⟨yk, ylo, yhi, ynm⟩, ini, dir, slot⟩ := N
      obtain ⟨rfl, hwf⟩ := he
      have c0 := hc 0 _ rfl
      have c1 := hc 1 _ rfl
      have c2 := hc 2 _ rfl
      have c3 := hc 3 _ rfl
      have c4 := hc 4 _ rfl
      have c5 := hc 5 _ rfl
      have c6 := hc 6 _ rfl
      have c7 := hc 7 _ rfl
      try rw [Nat.add_zero] at c0
      try simp only [] at c0
      have h1 : (k : Int) < (L.length : Int) := by omega
      have h2 : (0 : Int) ≤ (k : Int) := by omega
      have hW : Below wr.heap.size wr (vC ⟨nm, ⟨yk, ylo, yhi, ynm⟩, ini, dir, slot⟩ wr) := (Below.refl _ _).alloc (Nat.le_refl _) _
      have H0 := Lib.hid (At.start (Hr.at_.below hW) (Nat.le_trans Hr.size hW.size))
      have HC := Lib.hid (fun w' q'' l' (H : At B (vC ⟨nm, ⟨yk, ylo, yhi, ynm⟩, ini, dir, slot⟩ wr) b q' w' q'' l') => copy_cell Hr.at_ H)
      have HP := Lib.hid (fun l' e w' hh => Hr.lift (Put.base (l' := l') (e := e) (w' := w') Hr.at_ Hr.size hW hh))
      have HE2 := Lib.hid (HE.out.below (Hr.low.trans (hW.mono Hr.size)))
      have E2 := Lib.hid e2
      have HF := Lib.hid (show l.length + ((L.take k).flatMap tV).length + (tV ⟨nm, ⟨yk, ylo, yhi, ynm⟩, ini, dir, slot⟩).length ≤ few by have := HF.out; have := e3; omega)
      have HE := HE2
      clear hc hlen hg Hr e2 e3 hW
      go_wp2_with fail
      refine (variable_any H0.out HE.out ⟨nm, ⟨yk, ylo, yhi, ynm⟩, ini, dir, slot⟩ hwf (by have hf := HF.out; first | omega | (simp only [List.length_append] at hf ⊢; omega))).mono ?_
      rintro e1 w1 ⟨rfl, q1, H1⟩
      have z0 := HC.out _ _ _ H1 0 _ rfl
      have z1 := HC.out _ _ _ H1 1 _ rfl
      have z2 := HC.out _ _ _ H1 2 _ rfl
      have z3 := HC.out _ _ _ H1 3 _ rfl
      have z4 := HC.out _ _ _ H1 4 _ rfl
      have z5 := HC.out _ _ _ H1 5 _ rfl
      have z6 := HC.out _ _ _ H1 6 _ rfl
      have z7 := HC.out _ _ _ H1 7 _ rfl
      have H1 := Lib.hid H1
      have hz := HP.out _ _ _ H1.out.done
      have E2 := E2.out
      simp only [List.append_assoc] at hz E2
      rw [← E2] at hz
      obtain ⟨_, hz⟩ := hz
      have HZ := Lib.hid hz
      clear hz E2
      go_wp2_with fail
      go_roundw
      case rel => exact ⟨k + 1, by omega, by go_num, HZ.out⟩
      case measure => simp [intOf]; omega
    · have e1 : L.take k = L := List.take_of_length_le (by omega)
      rw [e1] at Hr
      have HZ := Lib.hid Hr.done
      have h1 : ¬ (k : Int) < (L.length : Int) := by omega
      clear Hr e1
      go_wp2_with fail
      go_end0
      exact HZ.out

set_option maxHeartbeats 2000000 in
set_option maxRecDepth 100000 in
theorem partedV_of (L : List VT) (B b : Nat) (w : World) (q : Option Nat) (l : List ByteArray) (A : Option Addr) (c : Nat) (h : LAt B w b q l) (hB : B ≤ w.heap.size) (hE : Env B w) (ha : VsR w B A L) (hl : l.length + (sep (L.map tP)).length + 1 ≤ few) :
    Calls Tryd.prog 65 #[.pointer (some ⟨b, 0, none⟩), .slice A L.length c, .func (.func 66) #[.pointer (some ⟨b, 0, none⟩)] #[]] w (Put B w b q (l ++ sep (L.map tP))) := by
  have HA := Lib.hid (fun (w' : World) (hb : Below B w w') => VsR.mono (Nat.le_refl B) hb.block ha)
  have HS := Lib.hid (At.start h hB)
  have HE := Lib.hid hE
  have HF := Lib.hid hl
  have hcnt : L.length ≤ 1000000000 := by have := sep_len (L.map tP); rw [List.length_map] at this; unfold few at hl; omega
  clear h hE ha hl 
  go_enter Tryd.func65, Tryd.ntmps65
  go_wp2_with fail
  go_loopw [10] (fun i wr => ∃ k : Nat, k ≤ L.length ∧ i = .int .i64 k ∧ Hid (∃ q', At B w b q wr q' (l ++ (sep ((L.take k).map tP))))) (fun i _ => L.length - (intOf i).toNat)
  case atStart => exact ⟨0, Nat.zero_le _, rfl, q, by simpa [sep] using HS.out⟩
  case round =>
    obtain ⟨k, hk, rfl, hx⟩ := hrel
    obtain ⟨q', Hr⟩ := hx.out
    clear hx
    by_cases hlt : k < L.length
    · obtain ⟨g, o, cs, rfl, hg, hlen, hc, he⟩ := HA.out wr Hr.low k hlt
      have e2 := sep_map_take tP hlt
      have e3 := sep_map_le tP L hlt

      revert he e2 e3
      generalize L[k] = N
      intro he e2 e3
      obtain ⟨nm, ⟨yk, ylo, yhi, ynm⟩, ini, dir, slot⟩ := N
      obtain ⟨rfl, hwf⟩ := he
      have c0 := hc 0 _ rfl
      have c1 := hc 1 _ rfl
      have c2 := hc 2 _ rfl
      have c3 := hc 3 _ rfl
      have c4 := hc 4 _ rfl
      have c5 := hc 5 _ rfl
      have c6 := hc 6 _ rfl
      have c7 := hc 7 _ rfl
      try rw [Nat.add_zero] at c0
      try simp only [] at c0
      have h1 : (k : Int) < (L.length : Int) := by omega
      have h2 : (0 : Int) ≤ (k : Int) := by omega
      have hW : Below wr.heap.size wr (vC ⟨nm, ⟨yk, ylo, yhi, ynm⟩, ini, dir, slot⟩ wr) := (Below.refl _ _).alloc (Nat.le_refl _) _
      have H0 := Lib.hid (At.start (Hr.at_.below hW) (Nat.le_trans Hr.size hW.size))
      have HC := Lib.hid (fun w' q'' l' (H : At B (vC ⟨nm, ⟨yk, ylo, yhi, ynm⟩, ini, dir, slot⟩ wr) b q' w' q'' l') => copy_cell Hr.at_ H)
      have HP := Lib.hid (fun l' e w' hh => Hr.lift (Put.base (l' := l') (e := e) (w' := w') Hr.at_ Hr.size hW hh))
      have HE2 := Lib.hid (HE.out.below (Hr.low.trans (hW.mono Hr.size)))
      have E2 := Lib.hid e2
      have HF := Lib.hid (show l.length + (sep ((L.take k).map tP)).length + (tF (decide (0 < k)) ⟨#[44]⟩ ++ tP ⟨nm, ⟨yk, ylo, yhi, ynm⟩, ini, dir, slot⟩).length ≤ few by have := HF.out; have := e3; omega)
      have HE := HE2
      clear hc hlen hg Hr e2 e3 hW
      go_wp2_with fail
      refine (flag_any H0.out _ _ (by have hf := HF.out; have := tF_len (decide (0 < k)) ⟨#[44]⟩; simp only [tP, List.length_append, List.length_cons, List.length_nil] at hf ⊢; omega)).mono ?_
      rintro e1 w1 ⟨rfl, q1, H1⟩
      have z0 := HC.out _ _ _ H1 0 _ rfl
      have z1 := HC.out _ _ _ H1 1 _ rfl
      have z2 := HC.out _ _ _ H1 2 _ rfl
      have z3 := HC.out _ _ _ H1 3 _ rfl
      have z4 := HC.out _ _ _ H1 4 _ rfl
      have z5 := HC.out _ _ _ H1 5 _ rfl
      have z6 := HC.out _ _ _ H1 6 _ rfl
      have z7 := HC.out _ _ _ H1 7 _ rfl
      have H1 := Lib.hid H1
      go_wp2_with fail
      refine (param_any H1.out HE.out ⟨nm, ⟨yk, ylo, yhi, ynm⟩, ini, dir, slot⟩ hwf (by have hf := HF.out; first | omega | (simp only [List.length_append] at hf ⊢; omega))).mono ?_
      rintro e2 w2 ⟨rfl, q2, H2⟩
      clear z0 z1 z2 z3 z4 z5 z6 z7
      have z0 := HC.out _ _ _ H2 0 _ rfl
      have z1 := HC.out _ _ _ H2 1 _ rfl
      have z2 := HC.out _ _ _ H2 2 _ rfl
      have z3 := HC.out _ _ _ H2 3 _ rfl
      have z4 := HC.out _ _ _ H2 4 _ rfl
      have z5 := HC.out _ _ _ H2 5 _ rfl
      have z6 := HC.out _ _ _ H2 6 _ rfl
      have z7 := HC.out _ _ _ H2 7 _ rfl
      have H2 := Lib.hid H2
      have hz := HP.out _ _ _ H2.out.done
      have E2 := E2.out
      simp only [List.append_assoc] at hz E2
      rw [← E2] at hz
      obtain ⟨_, hz⟩ := hz
      have HZ := Lib.hid hz
      clear hz E2
      go_wp2_with fail
      go_roundw
      case rel => exact ⟨k + 1, by omega, by go_num, HZ.out⟩
      case measure => simp [intOf]; omega
    · have e1 : L.take k = L := List.take_of_length_le (by omega)
      rw [e1] at Hr
      have HZ := Lib.hid Hr.done
      have h1 : ¬ (k : Int) < (L.length : Int) := by omega
      clear Hr e1
      go_wp2_with fail
      go_end0
      exact HZ.out

theorem tInt_pos (n : Int) : 1 ≤ (tInt n).length := by unfold tInt; split <;> simp
set_option maxHeartbeats 2000000 in
set_option maxRecDepth 100000 in
theorem partedN_of (L : List Int) (B b : Nat) (w : World) (q : Option Nat) (l : List ByteArray) (A : Option Addr) (c : Nat) (h : LAt B w b q l) (hB : B ≤ w.heap.size) (hE : Env B w) (ha : NsR w B A L) (hl : l.length + (sep (L.map tInt)).length + 1 ≤ few) :
    Calls Tryd.prog 86 #[.pointer (some ⟨b, 0, none⟩), .slice A L.length c, .func (.func 44) #[.pointer (some ⟨b, 0, none⟩)] #[]] w (Put B w b q (l ++ sep (L.map tInt))) := by
  have HA := Lib.hid (fun (w' : World) (hb : Below B w w') => NsR.mono (Nat.le_refl B) hb.block ha)
  have HS := Lib.hid (At.start h hB)
  have HE := Lib.hid hE
  have HF := Lib.hid hl
  have hcnt : L.length ≤ 1000000000 := by have := sep_len (L.map tInt); rw [List.length_map] at this; unfold few at hl; omega
  clear h hE ha hl 
  go_enter Tryd.func86, Tryd.ntmps86
  go_wp2_with fail
  go_loopw [10] (fun i wr => ∃ k : Nat, k ≤ L.length ∧ i = .int .i64 k ∧ Hid (∃ q', At B w b q wr q' (l ++ (sep ((L.take k).map tInt))))) (fun i _ => L.length - (intOf i).toNat)
  case atStart => exact ⟨0, Nat.zero_le _, rfl, q, by simpa [sep] using HS.out⟩
  case round =>
    obtain ⟨k, hk, rfl, hx⟩ := hrel
    obtain ⟨q', Hr⟩ := hx.out
    clear hx
    by_cases hlt : k < L.length
    · obtain ⟨g, o, cs, rfl, hg, hlen, hc, he⟩ := HA.out wr Hr.low k hlt
      have e2 := sep_map_take tInt hlt
      have e3 := sep_map_le tInt L hlt

      revert he e2 e3
      generalize L[k] = N
      intro he e2 e3
      obtain ⟨rfl, hn⟩ := he
      have c0 := hc 0 _ rfl
      try rw [Nat.add_zero] at c0
      try simp only [Nat.mul_one] at c0
      have h1 : (k : Int) < (L.length : Int) := by omega
      have h2 : (0 : Int) ≤ (k : Int) := by omega
      have H0 := Lib.hid Hr
      have HP := Lib.hid (fun (l' : List ByteArray) (e : Ending) (w' : World) (hh : Put B w b q l' e w') => hh)
      have HE2 := HE
      have E2 := Lib.hid e2
      have HF := Lib.hid (show l.length + (sep ((L.take k).map tInt)).length + (tF (decide (0 < k)) ⟨#[44]⟩ ++ tInt N).length ≤ few by have := HF.out; have := e3; omega)
      have HE := HE2
      clear hc hlen hg Hr e2 e3
      go_wp2_with fail
      refine (flag_any H0.out _ _ (by have hf := HF.out; have := tF_len (decide (0 < k)) ⟨#[44]⟩; have := tInt_pos N; simp only [List.length_append] at hf ⊢; omega)).mono ?_
      rintro e1 w1 ⟨rfl, q1, H1⟩
      have H1 := Lib.hid H1
      go_wp2_with fail
      refine (int_any H1.out HE.out N hn (by have hf := HF.out; first | omega | (simp only [List.length_append] at hf ⊢; omega))).mono ?_
      rintro e2 w2 ⟨rfl, q2, H2⟩
      have H2 := Lib.hid H2
      have hz := HP.out _ _ _ H2.out.done
      have E2 := E2.out
      simp only [List.append_assoc] at hz E2
      rw [← E2] at hz
      obtain ⟨_, hz⟩ := hz
      have HZ := Lib.hid hz
      clear hz E2
      go_wp2_with fail
      go_roundw
      case rel => exact ⟨k + 1, by omega, by go_num, HZ.out⟩
      case measure => simp [intOf]; omega
    · have e1 : L.take k = L := List.take_of_length_le (by omega)
      rw [e1] at Hr
      have HZ := Lib.hid Hr.done
      have h1 : ¬ (k : Int) < (L.length : Int) := by omega
      clear Hr e1
      go_wp2_with fail
      go_end0
      exact HZ.out
end Go.Proofs.YteijehmdabigeaaDoor
