/-
  Trees in memory: what a value tells, and that it stays.
-/
import Derived.Test.YtkpieolmepngjaaPrPure
import Derived.WalkKit
import Derived.Lib.Hide
namespace Go.Proofs.Ytkpieolmepngjaa
open Go Go.RowKit

/-- a number of 64 bits. -/
def I64 (n : Int) : Prop := -9223372036854775808 ≤ n ∧ n ≤ 9223372036854775807
/-- the k-th of a row's values of sz cells is told by R; the row lies in a block below B. -/
def RowIn {α : Type} (R : α → List Value → Prop) (w : World) (B : Nat) (A : Option Addr) (sz : Nat) (l : List α) : Prop :=
  ∀ (k : Nat) (hk : k < l.length), ∃ g o cs, A = some ⟨g, o, none⟩ ∧ g < B ∧ cs.length = sz ∧ (∀ (j : Nat) u, cs[j]? = some u → w.cell? ⟨g, o + k * sz + j, none⟩ = some u) ∧ R l[k] cs
theorem RowIn.mono {α : Type} {R R' : α → List Value → Prop} {w w' : World} {B B' : Nat} {A : Option Addr} {sz : Nat} {l : List α} (hb : B ≤ B') (hk : ∀ g, g < B → w'.heap[g]? = w.heap[g]?)
    (hR : ∀ (k : Nat) (hk : k < l.length) cs, R l[k] cs → R' l[k] cs) (h : RowIn R w B A sz l) : RowIn R' w' B' A sz l := fun k h1 => by
  obtain ⟨g, o, cs, e, hg, hs, hc, hr⟩ := h k h1
  exact ⟨g, o, cs, e, Nat.lt_of_lt_of_le hg hb, hs, fun j u hj => (World.cell?_of_block (hk g hg)).trans (hc j u hj), hR k h1 cs hr⟩

mutual
/-- these cells tell the tree e; what it lies in are blocks below B. -/
def EIn (w : World) (B : Nat) : ET → List Value → Prop
  | .mk k n nm wh args, cs => ∃ A c, cs = [.int .i64 k, .int .i64 n, .string nm, .string wh, .slice A args.length c] ∧ I64 n ∧ EsIn w B A 0 args
/-- from the i-th place on the row at A tells these trees. -/
def EsIn (w : World) (B : Nat) (A : Option Addr) : Nat → List ET → Prop
  | _, [] => True
  | i, e :: r => (∃ g o cs, A = some ⟨g, o, none⟩ ∧ g < B ∧ cs.length = 5 ∧ (∀ (j : Nat) u, cs[j]? = some u → w.cell? ⟨g, o + i * 5 + j, none⟩ = some u) ∧ EIn w B e cs) ∧ EsIn w B A (i + 1) r
end
mutual
theorem EIn.mono {w w' : World} {B B' : Nat} (hb : B ≤ B') (hk : ∀ g, g < B → w'.heap[g]? = w.heap[g]?) : ∀ {e : ET} {cs : List Value}, EIn w B e cs → EIn w' B' e cs
  | .mk _ _ _ _ args, _, h => by
    rw [EIn] at h ⊢
    obtain ⟨A, c, h1, h0, h2⟩ := h
    exact ⟨A, c, h1, h0, EsIn.mono hb hk h2⟩
theorem EsIn.mono {w w' : World} {B B' : Nat} (hb : B ≤ B') (hk : ∀ g, g < B → w'.heap[g]? = w.heap[g]?) : ∀ {l : List ET} {A : Option Addr} {i : Nat}, EsIn w B A i l → EsIn w' B' A i l
  | [], _, _, _ => by rw [EsIn]; trivial
  | e :: r, A, i, h => by
    rw [EsIn] at h ⊢
    obtain ⟨⟨g, o, cs, h1, hs, h3, h4, h5⟩, h6⟩ := h
    exact ⟨⟨g, o, cs, h1, Nat.lt_of_lt_of_le hs hb, h3, fun j u hj => (World.cell?_of_block (hk g hs)).trans (h4 j u hj), EIn.mono hb hk h5⟩, EsIn.mono hb hk h6⟩
end
theorem EsIn.row {w : World} {B : Nat} {A : Option Addr} : ∀ {l : List ET} {i : Nat}, EsIn w B A i l → ∀ (k : Nat) (hk : k < l.length), ∃ g o cs, A = some ⟨g, o, none⟩ ∧ g < B ∧ cs.length = 5 ∧ (∀ (j : Nat) u, cs[j]? = some u → w.cell? ⟨g, o + (i + k) * 5 + j, none⟩ = some u) ∧ EIn w B l[k] cs
  | e :: r, i, h, 0, _ => by rw [EsIn] at h; exact h.1
  | e :: r, i, h, k + 1, hk => by
    rw [EsIn] at h
    have := EsIn.row h.2 k (by simpa using hk)
    rw [show i + 1 + k = i + (k + 1) by omega] at this
    exact this
theorem EsIn.of_row {w : World} {B : Nat} {A : Option Addr} : ∀ {l : List ET} {i : Nat}, (∀ (k : Nat) (hk : k < l.length), ∃ g o cs, A = some ⟨g, o, none⟩ ∧ g < B ∧ cs.length = 5 ∧ (∀ (j : Nat) u, cs[j]? = some u → w.cell? ⟨g, o + (i + k) * 5 + j, none⟩ = some u) ∧ EIn w B l[k] cs) → EsIn w B A i l
  | [], _, _ => by rw [EsIn]; trivial
  | e :: r, i, h => by
    rw [EsIn]
    refine ⟨h 0 (by simp), EsIn.of_row fun k hk => ?_⟩
    have := h (k + 1) (by simpa using hk)
    rw [show i + (k + 1) = i + 1 + k by omega] at this
    exact this
/-- a row of trees. -/
abbrev EsR (w : World) (B : Nat) (A : Option Addr) (l : List ET) : Prop := RowIn (EIn w B) w B A 5 l
theorem EsIn.rowIn {w : World} {B : Nat} {A : Option Addr} {l : List ET} (h : EsIn w B A 0 l) : EsR w B A l := fun k hk => by
  have := EsIn.row h k hk
  rw [Nat.zero_add] at this
  exact this
theorem EsIn.of_rowIn {w : World} {B : Nat} {A : Option Addr} {l : List ET} (h : EsR w B A l) : EsIn w B A 0 l := EsIn.of_row fun k hk => by
  rw [Nat.zero_add]
  exact h k hk
theorem EIn.form {w : World} {B : Nat} {k n : Int} {nm wh : ByteArray} {args : List ET} {cs : List Value} (h : EIn w B (.mk k n nm wh args) cs) : ∃ A c, cs = [.int .i64 k, .int .i64 n, .string nm, .string wh, .slice A args.length c] ∧ I64 n ∧ EsR w B A args := by
  rw [EIn] at h
  obtain ⟨A, c, h1, h0, h2⟩ := h
  exact ⟨A, c, h1, h0, h2.rowIn⟩
theorem EIn.of_form {w : World} {B : Nat} {k n : Int} {nm wh : ByteArray} {args : List ET} (A : Option Addr) (c : Nat) (h0 : I64 n) (h : EsR w B A args) : EIn w B (.mk k n nm wh args) [.int .i64 k, .int .i64 n, .string nm, .string wh, .slice A args.length c] := by
  rw [EIn]
  exact ⟨A, c, rfl, h0, .of_rowIn h⟩
theorem EIn.len {w : World} {B : Nat} {e : ET} {cs : List Value} (h : EIn w B e cs) : cs.length = 5 := by
  cases e
  obtain ⟨A, c, rfl, _⟩ := h.form
  rfl

/-- a number's cell; a row of numbers. -/
def NIn : Int → List Value → Prop := fun n cs => cs = [.int .i64 n] ∧ I64 n
abbrev NsR (w : World) (B : Nat) (A : Option Addr) (l : List Int) : Prop := RowIn NIn w B A 1 l
def LIn (w : World) (B : Nat) : List Int → List Value → Prop := fun l cs => ∃ A c, cs = [.slice A l.length c] ∧ NsR w B A l
abbrev LsR (w : World) (B : Nat) (A : Option Addr) (l : List (List Int)) : Prop := RowIn (LIn w B) w B A 1 l
/-- a text's cell; a row of texts. -/
def XIn : ByteArray → List Value → Prop := fun s cs => cs = [.string s]
abbrev XsR (w : World) (B : Nat) (A : Option Addr) (l : List ByteArray) : Prop := RowIn XIn w B A 1 l

mutual
/-- these cells tell the statement s. -/
def SIn (w : World) (B : Nat) : ST → List Value → Prop
  | .mk k n nm ex lb bs, cs => ∃ A1 c1 A2 c2 A3 c3, cs = [.int .i64 k, .int .i64 n, .string nm, .slice A1 ex.length c1, .slice A2 lb.length c2, .slice A3 bs.length c3] ∧ I64 n ∧ EsR w B A1 ex ∧ LsR w B A2 lb ∧ BsIn w B A3 0 bs
/-- the row at A tells these statements. -/
def SsIn (w : World) (B : Nat) (A : Option Addr) : Nat → List ST → Prop
  | _, [] => True
  | i, s :: r => (∃ g o cs, A = some ⟨g, o, none⟩ ∧ g < B ∧ cs.length = 6 ∧ (∀ (j : Nat) u, cs[j]? = some u → w.cell? ⟨g, o + i * 6 + j, none⟩ = some u) ∧ SIn w B s cs) ∧ SsIn w B A (i + 1) r
/-- the row at A tells these lists of statements. -/
def BsIn (w : World) (B : Nat) (A : Option Addr) : Nat → List (List ST) → Prop
  | _, [] => True
  | i, l :: r => (∃ g o cs, A = some ⟨g, o, none⟩ ∧ g < B ∧ cs.length = 1 ∧ (∀ (j : Nat) u, cs[j]? = some u → w.cell? ⟨g, o + i * 1 + j, none⟩ = some u) ∧ ∃ A' c', cs = [.slice A' l.length c'] ∧ SsIn w B A' 0 l) ∧ BsIn w B A (i + 1) r
end
theorem EsR.mono {w w' : World} {B B' : Nat} (hb : B ≤ B') (hk : ∀ g, g < B → w'.heap[g]? = w.heap[g]?) {A : Option Addr} {l : List ET} (h : EsR w B A l) : EsR w' B' A l := RowIn.mono hb hk (fun _ _ _ => EIn.mono hb hk) h
theorem NsR.mono {w w' : World} {B B' : Nat} (hb : B ≤ B') (hk : ∀ g, g < B → w'.heap[g]? = w.heap[g]?) {A : Option Addr} {l : List Int} (h : NsR w B A l) : NsR w' B' A l := RowIn.mono hb hk (fun _ _ _ h => h) h
theorem XsR.mono {w w' : World} {B B' : Nat} (hb : B ≤ B') (hk : ∀ g, g < B → w'.heap[g]? = w.heap[g]?) {A : Option Addr} {l : List ByteArray} (h : XsR w B A l) : XsR w' B' A l := RowIn.mono hb hk (fun _ _ _ h => h) h
theorem LIn.mono {w w' : World} {B B' : Nat} (hb : B ≤ B') (hk : ∀ g, g < B → w'.heap[g]? = w.heap[g]?) {l : List Int} {cs : List Value} (h : LIn w B l cs) : LIn w' B' l cs := by
  obtain ⟨A, c, h1, h2⟩ := h
  exact ⟨A, c, h1, h2.mono hb hk⟩
theorem LsR.mono {w w' : World} {B B' : Nat} (hb : B ≤ B') (hk : ∀ g, g < B → w'.heap[g]? = w.heap[g]?) {A : Option Addr} {l : List (List Int)} (h : LsR w B A l) : LsR w' B' A l := RowIn.mono hb hk (fun _ _ _ h => LIn.mono hb hk h) h
mutual
theorem SIn.mono {w w' : World} {B B' : Nat} (hb : B ≤ B') (hk : ∀ g, g < B → w'.heap[g]? = w.heap[g]?) : ∀ {s : ST} {cs : List Value}, SIn w B s cs → SIn w' B' s cs
  | .mk _ _ _ _ _ _, _, h => by
    rw [SIn] at h ⊢
    obtain ⟨A1, c1, A2, c2, A3, c3, h1, h0, h2, h3, h4⟩ := h
    exact ⟨A1, c1, A2, c2, A3, c3, h1, h0, EsR.mono hb hk h2, LsR.mono hb hk h3, BsIn.mono hb hk h4⟩
theorem SsIn.mono {w w' : World} {B B' : Nat} (hb : B ≤ B') (hk : ∀ g, g < B → w'.heap[g]? = w.heap[g]?) : ∀ {l : List ST} {A : Option Addr} {i : Nat}, SsIn w B A i l → SsIn w' B' A i l
  | [], _, _, _ => by rw [SsIn]; trivial
  | e :: r, A, i, h => by
    rw [SsIn] at h ⊢
    obtain ⟨⟨g, o, cs, h1, hs, h3, h4, h5⟩, h6⟩ := h
    exact ⟨⟨g, o, cs, h1, Nat.lt_of_lt_of_le hs hb, h3, fun j u hj => (World.cell?_of_block (hk g hs)).trans (h4 j u hj), SIn.mono hb hk h5⟩, SsIn.mono hb hk h6⟩
theorem BsIn.mono {w w' : World} {B B' : Nat} (hb : B ≤ B') (hk : ∀ g, g < B → w'.heap[g]? = w.heap[g]?) : ∀ {l : List (List ST)} {A : Option Addr} {i : Nat}, BsIn w B A i l → BsIn w' B' A i l
  | [], _, _, _ => by rw [BsIn]; trivial
  | e :: r, A, i, h => by
    rw [BsIn] at h ⊢
    obtain ⟨⟨g, o, cs, h1, hs, h3, h4, A', c', h5, h5'⟩, h6⟩ := h
    exact ⟨⟨g, o, cs, h1, Nat.lt_of_lt_of_le hs hb, h3, fun j u hj => (World.cell?_of_block (hk g hs)).trans (h4 j u hj), A', c', h5, SsIn.mono hb hk h5'⟩, BsIn.mono hb hk h6⟩
end
/-- a row of statements; a row of lists of them. -/
abbrev SsR (w : World) (B : Nat) (A : Option Addr) (l : List ST) : Prop := RowIn (SIn w B) w B A 6 l
def BIn (w : World) (B : Nat) : List ST → List Value → Prop := fun l cs => ∃ A c, cs = [.slice A l.length c] ∧ SsR w B A l
abbrev BsR (w : World) (B : Nat) (A : Option Addr) (l : List (List ST)) : Prop := RowIn (BIn w B) w B A 1 l
theorem SsIn.row {w : World} {B : Nat} {A : Option Addr} : ∀ {l : List ST} {i : Nat}, SsIn w B A i l → ∀ (k : Nat) (hk : k < l.length), ∃ g o cs, A = some ⟨g, o, none⟩ ∧ g < B ∧ cs.length = 6 ∧ (∀ (j : Nat) u, cs[j]? = some u → w.cell? ⟨g, o + (i + k) * 6 + j, none⟩ = some u) ∧ SIn w B l[k] cs
  | e :: r, i, h, 0, _ => by rw [SsIn] at h; exact h.1
  | e :: r, i, h, k + 1, hk => by
    rw [SsIn] at h
    have := SsIn.row h.2 k (by simpa using hk)
    rw [show i + 1 + k = i + (k + 1) by omega] at this
    exact this
theorem SsIn.of_row {w : World} {B : Nat} {A : Option Addr} : ∀ {l : List ST} {i : Nat}, (∀ (k : Nat) (hk : k < l.length), ∃ g o cs, A = some ⟨g, o, none⟩ ∧ g < B ∧ cs.length = 6 ∧ (∀ (j : Nat) u, cs[j]? = some u → w.cell? ⟨g, o + (i + k) * 6 + j, none⟩ = some u) ∧ SIn w B l[k] cs) → SsIn w B A i l
  | [], _, _ => by rw [SsIn]; trivial
  | e :: r, i, h => by
    rw [SsIn]
    refine ⟨h 0 (by simp), SsIn.of_row fun k hk => ?_⟩
    have := h (k + 1) (by simpa using hk)
    rw [show i + (k + 1) = i + 1 + k by omega] at this
    exact this
theorem SsIn.rowIn {w : World} {B : Nat} {A : Option Addr} {l : List ST} (h : SsIn w B A 0 l) : SsR w B A l := fun k hk => by
  have := SsIn.row h k hk
  rw [Nat.zero_add] at this
  exact this
theorem SsIn.of_rowIn {w : World} {B : Nat} {A : Option Addr} {l : List ST} (h : SsR w B A l) : SsIn w B A 0 l := SsIn.of_row fun k hk => by
  rw [Nat.zero_add]
  exact h k hk
theorem BsIn.row {w : World} {B : Nat} {A : Option Addr} : ∀ {l : List (List ST)} {i : Nat}, BsIn w B A i l → ∀ (k : Nat) (hk : k < l.length), ∃ g o cs, A = some ⟨g, o, none⟩ ∧ g < B ∧ cs.length = 1 ∧ (∀ (j : Nat) u, cs[j]? = some u → w.cell? ⟨g, o + (i + k) * 1 + j, none⟩ = some u) ∧ BIn w B l[k] cs
  | e :: r, i, h, 0, _ => by
    rw [BsIn] at h
    obtain ⟨⟨g, o, cs, h1, h2, h3, h4, A', c', h5, h6⟩, _⟩ := h
    exact ⟨g, o, cs, h1, h2, h3, h4, A', c', h5, h6.rowIn⟩
  | e :: r, i, h, k + 1, hk => by
    rw [BsIn] at h
    have := BsIn.row h.2 k (by simpa using hk)
    rw [show i + 1 + k = i + (k + 1) by omega] at this
    exact this
theorem BsIn.of_row {w : World} {B : Nat} {A : Option Addr} : ∀ {l : List (List ST)} {i : Nat}, (∀ (k : Nat) (hk : k < l.length), ∃ g o cs, A = some ⟨g, o, none⟩ ∧ g < B ∧ cs.length = 1 ∧ (∀ (j : Nat) u, cs[j]? = some u → w.cell? ⟨g, o + (i + k) * 1 + j, none⟩ = some u) ∧ BIn w B l[k] cs) → BsIn w B A i l
  | [], _, _ => by rw [BsIn]; trivial
  | e :: r, i, h => by
    rw [BsIn]
    refine ⟨?_, BsIn.of_row fun k hk => ?_⟩
    · obtain ⟨g, o, cs, h1, h2, h3, h4, A', c', h5, h6⟩ := h 0 (by simp)
      exact ⟨g, o, cs, h1, h2, h3, h4, A', c', h5, .of_rowIn h6⟩
    · have := h (k + 1) (by simpa using hk)
      rw [show i + (k + 1) = i + 1 + k by omega] at this
      exact this
theorem BsIn.rowIn {w : World} {B : Nat} {A : Option Addr} {l : List (List ST)} (h : BsIn w B A 0 l) : BsR w B A l := fun k hk => by
  have := BsIn.row h k hk
  rw [Nat.zero_add] at this
  exact this
theorem BsIn.of_rowIn {w : World} {B : Nat} {A : Option Addr} {l : List (List ST)} (h : BsR w B A l) : BsIn w B A 0 l := BsIn.of_row fun k hk => by
  rw [Nat.zero_add]
  exact h k hk
theorem SIn.form {w : World} {B : Nat} {k n : Int} {nm : ByteArray} {ex : List ET} {lb : List (List Int)} {bs : List (List ST)} {cs : List Value} (h : SIn w B (.mk k n nm ex lb bs) cs) :
    ∃ A1 c1 A2 c2 A3 c3, cs = [.int .i64 k, .int .i64 n, .string nm, .slice A1 ex.length c1, .slice A2 lb.length c2, .slice A3 bs.length c3] ∧ I64 n ∧ EsR w B A1 ex ∧ LsR w B A2 lb ∧ BsR w B A3 bs := by
  rw [SIn] at h
  obtain ⟨A1, c1, A2, c2, A3, c3, h1, h0, h2, h3, h4⟩ := h
  exact ⟨A1, c1, A2, c2, A3, c3, h1, h0, h2, h3, h4.rowIn⟩
theorem SIn.of_form {w : World} {B : Nat} {k n : Int} {nm : ByteArray} {ex : List ET} {lb : List (List Int)} {bs : List (List ST)} (A1 A2 A3 : Option Addr) (c1 c2 c3 : Nat) (h0 : I64 n) (h1 : EsR w B A1 ex) (h2 : LsR w B A2 lb) (h3 : BsR w B A3 bs) :
    SIn w B (.mk k n nm ex lb bs) [.int .i64 k, .int .i64 n, .string nm, .slice A1 ex.length c1, .slice A2 lb.length c2, .slice A3 bs.length c3] := by
  rw [SIn]
  exact ⟨A1, c1, A2, c2, A3, c3, rfl, h0, h1, h2, .of_rowIn h3⟩
theorem SsR.mono {w w' : World} {B B' : Nat} (hb : B ≤ B') (hk : ∀ g, g < B → w'.heap[g]? = w.heap[g]?) {A : Option Addr} {l : List ST} (h : SsR w B A l) : SsR w' B' A l := RowIn.mono hb hk (fun _ _ _ => SIn.mono hb hk) h
theorem BIn.mono {w w' : World} {B B' : Nat} (hb : B ≤ B') (hk : ∀ g, g < B → w'.heap[g]? = w.heap[g]?) {l : List ST} {cs : List Value} (h : BIn w B l cs) : BIn w' B' l cs := by
  obtain ⟨A, c, h1, h2⟩ := h
  exact ⟨A, c, h1, h2.mono hb hk⟩
theorem BsR.mono {w w' : World} {B B' : Nat} (hb : B ≤ B') (hk : ∀ g, g < B → w'.heap[g]? = w.heap[g]?) {A : Option Addr} {l : List (List ST)} (h : BsR w B A l) : BsR w' B' A l := RowIn.mono hb hk (fun _ _ _ => BIn.mono hb hk) h

/-- a type's cells. -/
def YT.cells (t : YT) : List Value := [.int .i64 t.kind, .int .i64 t.lo, .int .i64 t.hi, .string t.name]
def YT.wf (t : YT) : Prop := I64 t.lo ∧ I64 t.hi
/-- a variable's cells. -/
def VT.cells (v : VT) : List Value := [.string v.name, .int .i64 v.type.kind, .int .i64 v.type.lo, .int .i64 v.type.hi, .string v.type.name, .int .i64 v.init, .int .i64 v.dir, .int .i64 v.slot]
def VT.wf (v : VT) : Prop := v.type.wf ∧ I64 v.init ∧ I64 v.slot
def VIn : VT → List Value → Prop := fun v cs => cs = v.cells ∧ v.wf
abbrev VsR (w : World) (B : Nat) (A : Option Addr) (l : List VT) : Prop := RowIn VIn w B A 8 l
theorem VsR.mono {w w' : World} {B B' : Nat} (hb : B ≤ B') (hk : ∀ g, g < B → w'.heap[g]? = w.heap[g]?) {A : Option Addr} {l : List VT} (h : VsR w B A l) : VsR w' B' A l := RowIn.mono hb hk (fun _ _ _ h => h) h
/-- these cells tell the method m. -/
def MIn (w : World) (B : Nat) (m : MT) (cs : List Value) : Prop :=
  ∃ A1 c1 A2 c2 A3 c3, cs = [.string m.name, .bool m.over, .bool m.abstract, .bool m.final, .slice A1 m.params.length c1, .int .i64 m.result.kind, .int .i64 m.result.lo, .int .i64 m.result.hi, .string m.result.name, .slice A2 m.vars.length c2, .slice A3 m.body.length c3] ∧ m.result.wf ∧
    VsR w B A1 m.params ∧ VsR w B A2 m.vars ∧ SsR w B A3 m.body
theorem MIn.mono {w w' : World} {B B' : Nat} (hb : B ≤ B') (hk : ∀ g, g < B → w'.heap[g]? = w.heap[g]?) {m : MT} {cs : List Value} (h : MIn w B m cs) : MIn w' B' m cs := by
  obtain ⟨A1, c1, A2, c2, A3, c3, h1, h0, h2, h3, h4⟩ := h
  exact ⟨A1, c1, A2, c2, A3, c3, h1, h0, h2.mono hb hk, h3.mono hb hk, h4.mono hb hk⟩
abbrev MsR (w : World) (B : Nat) (A : Option Addr) (l : List MT) : Prop := RowIn (MIn w B) w B A 11 l
theorem MsR.mono {w w' : World} {B B' : Nat} (hb : B ≤ B') (hk : ∀ g, g < B → w'.heap[g]? = w.heap[g]?) {A : Option Addr} {l : List MT} (h : MsR w B A l) : MsR w' B' A l := RowIn.mono hb hk (fun _ _ _ h => MIn.mono hb hk h) h
/-- these cells tell the declaration d. -/
def DIn (w : World) (B : Nat) (d : DT) (cs : List Value) : Prop :=
  ∃ A1 c1 A2 c2 A3 c3 A4 c4, cs = [.int .i64 d.kind, .string d.name, .string d.base, .slice A1 d.faces.length c1, .bool d.abstract, .bool d.final, .slice A2 d.vars.length c2, .slice A3 d.methods.length c3, .slice A4 d.body.length c4, .int .i64 d.every, .int .i64 d.first] ∧ I64 d.every ∧ I64 d.first ∧
    XsR w B A1 d.faces ∧ VsR w B A2 d.vars ∧ MsR w B A3 d.methods ∧ SsR w B A4 d.body
theorem DIn.mono {w w' : World} {B B' : Nat} (hb : B ≤ B') (hk : ∀ g, g < B → w'.heap[g]? = w.heap[g]?) {d : DT} {cs : List Value} (h : DIn w B d cs) : DIn w' B' d cs := by
  obtain ⟨A1, c1, A2, c2, A3, c3, A4, c4, h1, h0, h0', h2, h3, h4, h5⟩ := h
  exact ⟨A1, c1, A2, c2, A3, c3, A4, c4, h1, h0, h0', h2.mono hb hk, h3.mono hb hk, h4.mono hb hk, h5.mono hb hk⟩
abbrev DsR (w : World) (B : Nat) (A : Option Addr) (l : List DT) : Prop := RowIn (DIn w B) w B A 11 l
theorem DsR.mono {w w' : World} {B B' : Nat} (hb : B ≤ B') (hk : ∀ g, g < B → w'.heap[g]? = w.heap[g]?) {A : Option Addr} {l : List DT} (h : DsR w B A l) : DsR w' B' A l := RowIn.mono hb hk (fun _ _ _ h => DIn.mono hb hk h) h
end Go.Proofs.Ytkpieolmepngjaa
