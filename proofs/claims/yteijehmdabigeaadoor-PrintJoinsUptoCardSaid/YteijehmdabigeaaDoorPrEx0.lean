/-
  print's expressions: what the contracts say, and what a call's own copy of a tree keeps.
-/
import Derived.Test.YteijehmdabigeaaDoorPrInt
namespace Go.Proofs.YteijehmdabigeaaDoor
open Go Go.RowKit

theorem Fr.cell {b : Nat} {q q' : Option Nat} {w w' : World} (h : Fr b q q' w w') {p : Addr} (h1 : p.block < w.heap.size) (h2 : p.block ≠ b) (h3 : q ≠ some p.block) : w'.cell? p = w.cell? p := World.cell?_of_block (h.block p.block h1 h2 h3)
/-- what expr writes. -/
def EX (e : ET) : Prop := ∀ (B b : Nat) (w : World) (q : Option Nat) (l : List ByteArray) (cs : List Value), LAt B w b q l → B ≤ w.heap.size → Env B w → EIn w B e cs → l.length + (tE e).length ≤ few →
  Calls Tryd.prog 24 #[.pointer (some ⟨b, 0, none⟩), .agg cs.toArray] w (Put B w b q (l ++ tE e))
theorem EX.at_ {e : ET} (h : EX e) {B b : Nat} {w0 w : World} {q0 q : Option Nat} {l : List ByteArray} {cs : List Value} (H : At B w0 b q0 w q l) (hE : Env B w0) (he : EIn w B e cs) (hl : l.length + (tE e).length ≤ few) :
    Calls Tryd.prog 24 #[.pointer (some ⟨b, 0, none⟩), .agg cs.toArray] w (Put B w0 b q0 (l ++ tE e)) :=
  (h B b w q l cs H.at_ H.size (hE.below H.low) he hl).mono fun _ _ hh => H.lift hh

/-- a call's own copy of a value of five cells. -/
abbrev copyE (w : World) (k n : Int) (nm wh : ByteArray) (A : Option Addr) (la c : Nat) : World := w.alloc (.cells #[.int .i64 k, .int .i64 n, .string nm, .string wh, .slice A la c] 27)
theorem copyE_cells {B b : Nat} {w w' : World} {q q' : Option Nat} {l l' : List ByteArray} {k n : Int} {nm wh : ByteArray} {A : Option Addr} {la c : Nat} (h : LAt B w b q l) (H : At B (copyE w k n nm wh A la c) b q w' q' l') :
    w'.cell? ⟨w.heap.size, 0, none⟩ = some (.int .i64 k) ∧ w'.cell? ⟨w.heap.size, 1, none⟩ = some (.int .i64 n) ∧ w'.cell? ⟨w.heap.size, 2, none⟩ = some (.string nm) ∧ w'.cell? ⟨w.heap.size, 3, none⟩ = some (.string wh) ∧ w'.cell? ⟨w.heap.size, 4, none⟩ = some (.slice A la c) := by
  have hlt := h.lt
  have hq : q ≠ some w.heap.size := fun e => by have := (h.row e).2; omega
  refine ⟨?_, ?_, ?_, ?_, ?_⟩
  all_goals
    rw [H.fr.cell (by simp) (by simp; omega) hq]
    simp [copyE]
/-- a call that goes on from its own copy. -/
theorem Put.base {B b : Nat} {w W : World} {q : Option Nat} {l l' : List ByteArray} {e : Ending} {w' : World} (h : LAt B w b q l) (hB : B ≤ w.heap.size) (hW : Below w.heap.size w W) (k : Put B W b q l' e w') : Put B w b q l' e w' := ((At.start h hB).new hW).lift k

theorem tE_other {k : Int} {n : Int} {nm wh : ByteArray} {args : List ET} (h : k < 1 ∨ 14 < k) : tE (.mk k n nm wh args) = [⟨#[63]⟩] := by
  unfold tE tEk
  repeat (rw [if_neg (by omega)])

set_option maxHeartbeats 1000000 in
theorem ex_other (k n : Int) (nm wh : ByteArray) (args : List ET) (h : k < 1 ∨ 14 < k) : EX (.mk k n nm wh args) := by
  intro B b w q l cs hl hB hE he hfew
  obtain ⟨A, c, rfl, hn, _⟩ := he.form
  rw [tE_other h] at hfew ⊢
  have h1 : (k == 1) = false := by simp; omega
  have h2 : (k == 2) = false := by simp; omega
  have h3 : (k == 3) = false := by simp; omega
  have h4 : (k == 4) = false := by simp; omega
  have h5 : (k == 5) = false := by simp; omega
  have h6 : (k == 6) = false := by simp; omega
  have h7 : (k == 7) = false := by simp; omega
  have h8 : (k == 8) = false := by simp; omega
  have h9 : (k == 9) = false := by simp; omega
  have h10 : (k == 10) = false := by simp; omega
  have h11 : (k == 11) = false := by simp; omega
  have h12 : (k == 12) = false := by simp; omega
  have h13 : (k == 13) = false := by simp; omega
  have h14 : (k == 14) = false := by simp; omega
  have hW : Below w.heap.size w (copyE w k n nm wh A args.length c) := (Below.refl _ _).alloc (Nat.le_refl _) _
  have H0 := Lib.hid (At.start (hl.below hW) (Nat.le_trans hB hW.size))
  have HP := Lib.hid (fun l' e w' => Put.base (l' := l') (e := e) (w' := w') hl hB hW)
  clear hl hB hE he hn h hW
  go_enter Tryd.func24, Tryd.ntmps24
  go_wp2_with fail
  refine (put1 H0.out ⟨#[63]⟩ hfew _ (by simp)).mono ?_
  rintro e1 w1 ⟨rfl, q1, H1⟩
  have H1 := Lib.hid H1
  go_wp2_with fail
  go_end0
  exact HP.out _ _ _ H1.out.done
theorem ex_zero : EX ET.zero := ex_other 0 0 ⟨#[]⟩ ⟨#[]⟩ [] (.inl (by decide))
end Go.Proofs.YteijehmdabigeaaDoor
