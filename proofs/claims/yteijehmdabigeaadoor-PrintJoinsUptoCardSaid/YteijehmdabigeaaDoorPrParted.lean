/-
  print's parted over expressions BY A CONTRACT.
-/
import Derived.Test.YteijehmdabigeaaDoorPrEx0
import Derived.Deep.RegionWith
namespace Go.Proofs.YteijehmdabigeaaDoor
open Go Go.RowKit

theorem hmf : ∀ (fn : Fn) (first cap : Array Value) (w : World), (Instr.makeFunc fn first cap).run Tryd.prog w = .ok (.func fn first cap) w := fun _ _ _ _ => rfl
theorem sep_snoc (l : List (List ByteArray)) (x : List ByteArray) : sep (l ++ [x]) = sep l ++ (tF (decide (0 < l.length)) ⟨#[44]⟩ ++ x) := by
  cases l with
  | nil => simp [sep, tF]
  | cons y r => simp [sep, tF]
theorem sep_take {l : List (List ByteArray)} {k : Nat} (h : k < l.length) : sep (l.take (k + 1)) = sep (l.take k) ++ (tF (decide (0 < k)) ⟨#[44]⟩ ++ l[k]) := by
  rw [List.take_succ_eq_append_getElem h, sep_snoc, List.length_take, Nat.min_eq_left (by omega)]
theorem sep_take_le (l : List (List ByteArray)) (k : Nat) : (sep (l.take k)).length ≤ (sep l).length := by
  by_cases h : k < l.length
  · have e : l = l.take k ++ l[k] :: l.drop (k + 1) := by simp
    have : ∀ (a : List (List ByteArray)) (x : List ByteArray) (r : List (List ByteArray)), (sep a).length ≤ (sep (a ++ x :: r)).length := by
      intro a x r
      cases a with
      | nil => simp [sep]
      | cons y a => simp [sep]
    conv => rhs; rw [e]
    exact this _ _ _
  · rw [List.take_of_length_le (by omega)]; exact Nat.le_refl _
theorem sep_take_succ_le {l : List (List ByteArray)} {k : Nat} (h : k < l.length) : (sep (l.take k)).length + ((tF (decide (0 < k)) ⟨#[44]⟩).length + l[k].length) ≤ (sep l).length := by
  have := sep_take_le l (k + 1)
  rw [sep_take h] at this
  simpa using this
theorem sep_len (l : List (List ByteArray)) : l.length ≤ (sep l).length + 1 := by
  cases l with
  | nil => simp
  | cons x r =>
    have : ∀ r : List (List ByteArray), r.length ≤ (r.flatMap fun y => (⟨#[44]⟩ : ByteArray) :: y).length := by
      intro r
      induction r with
      | nil => simp
      | cons y r ih => simp only [List.flatMap_cons, List.length_append, List.length_cons]; omega
    have := this r
    simp only [sep, List.length_cons, List.length_append]
    omega
theorem tF_len (f : Bool) (s : ByteArray) : (tF f s).length ≤ 1 := by cases f <;> simp [tF]

set_option maxHeartbeats 2000000 in
set_option maxRecDepth 100000 in
theorem partedE_of (args : List ET) (ih : ∀ (k : Nat) (hk : k < args.length), EX args[k]) (B b : Nat) (w : World) (q : Option Nat) (l : List ByteArray) (A : Option Addr) (c : Nat) (h : LAt B w b q l) (hB : B ≤ w.heap.size) (hE : Env B w) (ha : EsR w B A args) (hl : l.length + (sep (tEs args)).length + 1 ≤ few) :
    Calls Tryd.prog 64 #[.pointer (some ⟨b, 0, none⟩), .slice A args.length c, .func (.func 24) #[.pointer (some ⟨b, 0, none⟩)] #[]] w (Put B w b q (l ++ sep (tEs args))) := by
  have hn : (tEs args).length = args.length := by rw [tEs_map]; simp
  have HA := Lib.hid (fun (w' : World) (hb : Below B w w') => EsR.mono (Nat.le_refl B) hb.block ha)
  have HS := Lib.hid (At.start h hB)
  have HE := Lib.hid hE
  have HF := Lib.hid hl
  have IH := Lib.hid ih
  have HN := Lib.hid hn
  have hcnt : args.length ≤ 1000000000 := by have := sep_len (tEs args); unfold few at hl; omega
  clear h hE ha hl ih hn
  go_enter Tryd.func64, Tryd.ntmps64
  go_wp2_with fail
  go_loopw [10] (fun i wr => ∃ k : Nat, k ≤ args.length ∧ i = .int .i64 k ∧ Hid (∃ q', At B w b q wr q' (l ++ sep ((tEs args).take k)))) (fun i _ => args.length - (intOf i).toNat)
  case atStart => exact ⟨0, Nat.zero_le _, rfl, q, by simpa [sep] using HS.out⟩
  case round =>
    obtain ⟨k, hk, rfl, hx⟩ := hrel
    obtain ⟨q', Hr⟩ := hx.out
    clear hx
    by_cases hlt : k < args.length
    · obtain ⟨g, o, cs, rfl, hg, hlen, hc, he⟩ := HA.out wr Hr.low k hlt
      have hlt2 : k < (tEs args).length := by rw [HN.out]; exact hlt
      have e1 : (tEs args)[k] = tE args[k] := by simp [tEs_map]
      have e2 := sep_take hlt2
      have e3 := sep_take_succ_le hlt2
      rw [e1] at e2 e3
      have KX := Lib.hid (IH.out k hlt)
      revert he KX e2 e3
      clear e1
      generalize args[k] = N
      intro he e2 e3 KX
      obtain ⟨k', n', nm', wh', args'⟩ := N
      obtain ⟨A', c', rfl, _, _⟩ := he.form
      have c0 := hc 0 _ rfl
      have c1 := hc 1 _ rfl
      have c2 := hc 2 _ rfl
      have c3 := hc 3 _ rfl
      have c4 := hc 4 _ rfl
      rw [Nat.add_zero] at c0
      have h1 : (k : Int) < (args.length : Int) := by omega
      have h2 : (0 : Int) ≤ (k : Int) := by omega
      have hW : Below wr.heap.size wr (copyE wr k' n' nm' wh' A' args'.length c') := (Below.refl _ _).alloc (Nat.le_refl _) _
      have H0 := Lib.hid (At.start (Hr.at_.below hW) (Nat.le_trans Hr.size hW.size))
      have HC := Lib.hid (fun w' q' l' => copyE_cells (B := B) (w := wr) (w' := w') (q' := q') (l' := l') (k := k') (n := n') (nm := nm') (wh := wh') (A := A') (la := args'.length) (c := c') Hr.at_)
      have HP := Lib.hid (fun l' e w' hh => Hr.lift (Put.base (l' := l') (e := e) (w' := w') Hr.at_ Hr.size hW hh))
      have HE2 := Lib.hid (HE.out.below (Hr.low.trans (hW.mono Hr.size)))
      have HV := Lib.hid (fun (w' : World) (hb : Below B (copyE wr k' n' nm' wh' A' args'.length c') w') => he.mono (Nat.le_refl B) ((hW.mono Hr.size).trans hb).block)
      have E2 := Lib.hid e2
      have E3 := Lib.hid e3
      clear hc he hlen hg Hr e2 e3 hlt2 hW
      go_wp2_with fail
      refine (flag_any H0.out _ _ (by have := HF.out; have := E3.out; simp only [List.length_append] at *; omega)).mono ?_
      rintro e1 w1 ⟨rfl, q1, H1⟩
      obtain ⟨z0, z1, z2, z3, z4⟩ := HC.out _ _ _ H1
      have V1 := Lib.hid (HV.out _ H1.low)
      have H1 := Lib.hid H1
      clear HC HV H0
      go_wp2_with fail
      refine (KX.out.at_ H1.out HE2.out V1.out (by have := HF.out; have := E3.out; simp only [List.length_append] at *; omega)).mono ?_
      rintro e2 w2 hh
      have hz := HP.out _ _ _ hh
      rw [List.append_assoc, List.append_assoc, ← E2.out] at hz
      obtain ⟨rfl, hz⟩ := hz
      have HZ := Lib.hid hz
      clear hz hh z0 z1 z2 z3 z4
      go_wp2_with fail
      go_roundw
      case rel => exact ⟨k + 1, by omega, by go_num, HZ.out⟩
      case measure => simp [intOf]; omega
    · have e1 : (tEs args).take k = tEs args := List.take_of_length_le (by rw [HN.out]; omega)
      rw [e1] at Hr
      have HZ := Lib.hid Hr.done
      have h1 : ¬ (k : Int) < (args.length : Int) := by omega
      clear Hr e1
      go_wp2_with fail
      go_end0
      exact HZ.out
end Go.Proofs.YteijehmdabigeaaDoor
