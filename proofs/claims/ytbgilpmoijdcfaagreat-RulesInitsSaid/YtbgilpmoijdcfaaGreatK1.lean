/-
  print on plain data: the trees, and the tokens that are written of each.
-/
import Derived.Test.YtbgilpmoijdcfaaGreatRows
import Derived.Lib.Join
import Derived.Lib.ItoaNum
import Derived.WalkKit
import Derived.Lib.Hide
import Derived.WalkSpells
import Derived.ProofKit
import Derived.OpenShut
import Derived.ChangeArms
import Derived.Deep.AppendLies
import Derived.RegionTactic
import Derived.Maps.AppendAt
import Derived.Deep.RegionHeld3
import Derived.Maps.OwnIn
import Derived.Maps.StringElems
namespace Go.Proofs.YtbgilpmoijdcfaaGreat
open Go

/-- the tree of an expression: kind, number, name, what, parts. -/
inductive ET where
  | mk (k n : Int) (nm wh : ByteArray) (args : List ET)
def ET.zero : ET := .mk 0 0 ⟨#[]⟩ ⟨#[]⟩ []
instance : Inhabited ET := ⟨ET.zero⟩
def ET.kind : ET → Int | .mk k _ _ _ _ => k
/-- the tree of a statement: kind, number, name, expressions, labels, blocks. -/
inductive ST where
  | mk (k n : Int) (nm : ByteArray) (exprs : List ET) (labels : List (List Int)) (blocks : List (List ST))
/-- a type. -/
structure YT where
  kind : Int
  lo : Int
  hi : Int
  name : ByteArray
/-- a variable. -/
structure VT where
  name : ByteArray
  type : YT
  init : Int
  dir : Int
  slot : Int
/-- a method. -/
structure MT where
  name : ByteArray
  over : Bool
  abstract : Bool
  final : Bool
  params : List VT
  result : YT
  vars : List VT
  body : List ST
/-- a declaration. -/
structure DT where
  kind : Int
  name : ByteArray
  base : ByteArray
  faces : List ByteArray
  abstract : Bool
  final : Bool
  vars : List VT
  methods : List MT
  body : List ST
  every : Int
  first : Int

/-- a number's tokens. -/
def tInt (n : Int) : List ByteArray := if n < 0 then [⟨#[45]⟩, ⟨(Lib.decDigits n.natAbs).toArray⟩] else [⟨(Lib.decDigits n.natAbs).toArray⟩]
/-- lists of tokens with a comma between. -/
def sep : List (List ByteArray) → List ByteArray
  | [] => []
  | x :: r => x ++ r.flatMap fun y => ⟨#[44]⟩ :: y
def opText (n : Int) : ByteArray :=
  if n = 1 then ⟨#[43]⟩ else if n = 2 then ⟨#[45]⟩ else if n = 3 then ⟨#[42]⟩ else if n = 4 then ⟨#[47]⟩ else if n = 5 then ⟨#[77, 79, 68]⟩ else if n = 6 then ⟨#[61]⟩ else if n = 7 then ⟨#[60, 62]⟩ else if n = 8 then ⟨#[60]⟩ else if n = 9 then ⟨#[60, 61]⟩ else if n = 10 then ⟨#[62]⟩ else if n = 11 then ⟨#[62, 61]⟩ else if n = 12 then ⟨#[65, 78, 68]⟩ else if n = 13 then ⟨#[79, 82]⟩ else if n = 14 then ⟨#[88, 79, 82]⟩ else ⟨#[63]⟩
def blockText (n : Int) : ByteArray :=
  if n = 1 then ⟨#[84, 79, 78]⟩ else if n = 2 then ⟨#[84, 79, 70]⟩ else if n = 3 then ⟨#[84, 80]⟩ else if n = 4 then ⟨#[67, 84, 85]⟩ else if n = 5 then ⟨#[67, 84, 68]⟩ else if n = 6 then ⟨#[82, 95, 84, 82, 73, 71]⟩ else if n = 7 then ⟨#[70, 95, 84, 82, 73, 71]⟩ else ⟨#[63]⟩
def ownText (n : Int) (nm : ByteArray) : ByteArray := if n = 0 then nm else if n = 1 then ⟨#[84, 72, 73, 83]⟩ else if n = 2 then ⟨#[83, 85, 80, 69, 82]⟩ else ⟨#[63]⟩
/-- has an operator of its own. -/
def isOp (k : Int) : Bool := decide (k = 7 ∨ k = 8 ∨ k = 9)
/-- an operand's tokens. -/
def inBr (k : Int) (t : List ByteArray) : List ByteArray := if isOp k then ⟨#[40]⟩ :: t ++ [⟨#[41]⟩] else t
/-- an expression's tokens, its parts' tokens and its operands' given. -/
def tEk (k n : Int) (nm wh : ByteArray) (ps os : List (List ByteArray)) : List ByteArray :=
  if k = 1 then tInt n
  else if k = 2 then [⟨#[84, 82, 85, 69]⟩]
  else if k = 3 then [⟨#[70, 65, 76, 83, 69]⟩]
  else if k = 4 then [⟨#[78, 85, 76, 76]⟩]
  else if k = 5 then [nm]
  else if k = 6 then [nm, ⟨#[91]⟩] ++ ps.getD 0 [⟨#[63]⟩] ++ [⟨#[93]⟩]
  else if k = 7 then [⟨#[45]⟩] ++ os.getD 0 [⟨#[63]⟩]
  else if k = 8 then [⟨#[78, 79, 84]⟩] ++ os.getD 0 [⟨#[63]⟩]
  else if k = 9 then os.getD 0 [⟨#[63]⟩] ++ [opText n] ++ os.getD 1 [⟨#[63]⟩]
  else if k = 10 then [⟨#[82, 69, 70]⟩, ⟨#[40]⟩, nm, ⟨#[41]⟩]
  else if k = 11 then [⟨#[68, 79, 78, 69]⟩, ⟨#[40]⟩, nm, ⟨#[41]⟩]
  else if k = 12 then [⟨#[67, 79, 85, 78, 84]⟩, ⟨#[40]⟩, nm, ⟨#[41]⟩]
  else if k = 13 then [ownText n nm, ⟨#[46]⟩, wh, ⟨#[40]⟩] ++ sep ps ++ [⟨#[41]⟩]
  else if k = 14 then [⟨#[65, 83]⟩, nm, ⟨#[40]⟩] ++ ps.getD 0 [⟨#[63]⟩] ++ [⟨#[41]⟩]
  else [⟨#[63]⟩]
mutual
def tE : ET → List ByteArray
  | .mk k n nm wh args => tEk k n nm wh (tEs args) (tOs args)
def tEs : List ET → List (List ByteArray)
  | [] => []
  | e :: r => tE e :: tEs r
def tOs : List ET → List (List ByteArray)
  | [] => []
  | e :: r => inBr e.kind (tE e) :: tOs r
end
def tO (e : ET) : List ByteArray := inBr e.kind (tE e)
theorem tEs_map : ∀ l : List ET, tEs l = l.map tE
  | [] => by simp [tEs]
  | e :: r => by simp [tEs, tEs_map r]
theorem tOs_map : ∀ l : List ET, tOs l = l.map tO
  | [] => by simp [tOs]
  | e :: r => by simp [tOs, tO, tOs_map r]
/-- the i-th of a list of trees. -/
def nthE (l : List ET) (i : Nat) : ET := l.getD i ET.zero
theorem tE_zero : tE ET.zero = [⟨#[63]⟩] := by simp [ET.zero, tE, tEk]
theorem tO_zero : tO ET.zero = [⟨#[63]⟩] := by
  unfold tO
  rw [tE_zero]
  rfl
theorem tEs_nth (l : List ET) (i : Nat) : (tEs l).getD i [⟨#[63]⟩] = tE (nthE l i) := by
  rw [tEs_map, nthE, ← tE_zero]
  simp only [List.getD_eq_getElem?_getD, List.getElem?_map]
  cases l[i]? <;> simp
theorem tOs_nth (l : List ET) (i : Nat) : (tOs l).getD i [⟨#[63]⟩] = tO (nthE l i) := by
  rw [tOs_map, nthE, ← tO_zero]
  simp only [List.getD_eq_getElem?_getD, List.getElem?_map]
  cases l[i]? <;> simp

/-- a type's tokens. -/
def tY (t : YT) : List ByteArray :=
  if t.kind = 1 then [⟨#[73, 78, 84]⟩]
  else if t.kind = 2 then [⟨#[66, 79, 79, 76]⟩]
  else if t.kind = 3 then [⟨#[73, 78, 84]⟩, ⟨#[40]⟩] ++ tInt t.lo ++ [⟨#[46, 46]⟩] ++ tInt t.hi ++ [⟨#[41]⟩]
  else if t.kind = 4 then [⟨#[65, 82, 82, 65, 89]⟩, ⟨#[91]⟩] ++ tInt t.hi ++ [⟨#[93]⟩, ⟨#[79, 70]⟩, ⟨#[73, 78, 84]⟩]
  else if t.kind = 5 then [⟨#[82, 69, 70, 95, 84, 79]⟩, t.name]
  else if t.kind = 6 then [t.name]
  else if t.kind = 7 then [blockText t.lo]
  else [⟨#[63]⟩]
/-- ELSE and a list of statements, if there are any. -/
def tElse (t : List ByteArray) : List ByteArray := if t = [] then [] else ⟨#[69, 76, 83, 69]⟩ :: t
/-- a statement's tokens but for its end; its blocks' given. -/
def tSk (k n : Int) (nm : ByteArray) (ex : List ET) (lb : List (List Int)) (bs : List (List ByteArray)) : List ByteArray :=
  if k = 1 then [nm, ⟨#[58, 61]⟩] ++ tE (nthE ex 0)
  else if k = 2 then [nm, ⟨#[91]⟩] ++ tE (nthE ex 0) ++ [⟨#[93]⟩, ⟨#[58, 61]⟩] ++ tE (nthE ex 1)
  else if k = 3 then [nm, ⟨#[63, 61]⟩] ++ tE (nthE ex 0)
  else if k = 4 then tE (nthE ex 0)
  else if k = 5 then (List.range (max 1 ex.length)).flatMap (fun i => (if i = 0 then ⟨#[73, 70]⟩ else ⟨#[69, 76, 83, 73, 70]⟩) :: tE (nthE ex i) ++ [⟨#[84, 72, 69, 78]⟩] ++ bs.getD i []) ++ tElse (bs.getD (max 1 ex.length) []) ++ [⟨#[69, 78, 68, 95, 73, 70]⟩]
  else if k = 6 then ⟨#[67, 65, 83, 69]⟩ :: tE (nthE ex 0) ++ [⟨#[79, 70]⟩] ++ (List.range lb.length).flatMap (fun i => sep ((lb.getD i []).map tInt) ++ [⟨#[58]⟩] ++ bs.getD i []) ++ tElse (bs.getD lb.length []) ++ [⟨#[69, 78, 68, 95, 67, 65, 83, 69]⟩]
  else if k = 7 then ⟨#[87, 72, 73, 76, 69]⟩ :: tE (nthE ex 0) ++ [⟨#[68, 79]⟩] ++ bs.getD 0 [] ++ [⟨#[69, 78, 68, 95, 87, 72, 73, 76, 69]⟩]
  else if k = 8 then [⟨#[70, 79, 82]⟩, nm, ⟨#[58, 61]⟩] ++ tE (nthE ex 0) ++ [⟨#[84, 79]⟩] ++ tE (nthE ex 1) ++ [⟨#[66, 89]⟩] ++ tInt n ++ [⟨#[68, 79]⟩] ++ bs.getD 0 [] ++ [⟨#[69, 78, 68, 95, 70, 79, 82]⟩]
  else if k = 9 then ⟨#[82, 69, 84, 85, 82, 78]⟩ :: (if 0 < ex.length then tE (nthE ex 0) else [])
  else if k = 10 then [⟨#[69, 88, 73, 84]⟩]
  else if k = 11 then [⟨#[83, 84, 69, 80]⟩, nm, ⟨#[40]⟩] ++ tE (nthE ex 0) ++ [⟨#[44]⟩] ++ tE (nthE ex 1) ++ [⟨#[41]⟩]
  else [⟨#[63]⟩]
mutual
def tS : ST → List ByteArray
  | .mk k n nm ex lb bs => tSk k n nm ex lb (tBs bs)
def tL : List ST → List ByteArray
  | [] => []
  | s :: r => (tS s ++ [⟨#[59]⟩]) ++ tL r
def tBs : List (List ST) → List (List ByteArray)
  | [] => []
  | l :: r => tL l :: tBs r
end
theorem tBs_map : ∀ l : List (List ST), tBs l = l.map tL
  | [] => by simp [tBs]
  | e :: r => by simp [tBs, tBs_map r]
theorem tL_flat : ∀ l : List ST, tL l = l.flatMap fun s => tS s ++ [⟨#[59]⟩]
  | [] => by simp [tL]
  | e :: r => by simp [tL, tL_flat r]
theorem tL_nil (l : List ST) : tL l = [] ↔ l = [] := by cases l <;> simp [tL]
theorem tBs_nth (l : List (List ST)) (i : Nat) : (tBs l).getD i [] = tL (l.getD i []) := by
  rw [tBs_map]
  simp only [List.getD_eq_getElem?_getD, List.getElem?_map]
  cases l[i]? <;> simp [tL]
/-- a parameter's tokens. -/
def tP (v : VT) : List ByteArray := [v.name, ⟨#[58]⟩] ++ tY v.type
/-- a variable's tokens. -/
def tV (v : VT) : List ByteArray := ⟨#[86, 65, 82]⟩ :: tP v ++ (if v.init = 0 then [] else ⟨#[58, 61]⟩ :: tInt v.init) ++ (if v.dir = 1 then [⟨#[65, 84]⟩, ⟨#[73, 78]⟩] ++ tInt v.slot else if v.dir = 2 then [⟨#[65, 84]⟩, ⟨#[79, 85, 84]⟩] ++ tInt v.slot else []) ++ [⟨#[59]⟩]
def tVs (l : List VT) : List ByteArray := l.flatMap tV
/-- a head's tokens. -/
def tH (m : MT) : List ByteArray := [m.name, ⟨#[40]⟩] ++ sep (m.params.map tP) ++ [⟨#[41]⟩] ++ (if m.result.kind = 0 then [] else ⟨#[58]⟩ :: tY m.result) ++ [⟨#[59]⟩]
def tF (b : Bool) (s : ByteArray) : List ByteArray := if b then [s] else []
/-- a method's tokens. -/
def tM (m : MT) : List ByteArray := ⟨#[77, 69, 84, 72, 79, 68]⟩ :: tF m.over ⟨#[79, 86, 69, 82, 82, 73, 68, 69]⟩ ++ tF m.abstract ⟨#[65, 66, 83, 84, 82, 65, 67, 84]⟩ ++ tF m.final ⟨#[70, 73, 78, 65, 76]⟩ ++ tH m ++ tVs m.vars ++ tL m.body ++ [⟨#[69, 78, 68, 95, 77, 69, 84, 72, 79, 68]⟩]
/-- a declaration's tokens. -/
def tD (d : DT) : List ByteArray :=
  if d.kind = 1 then [⟨#[73, 78, 84, 69, 82, 70, 65, 67, 69]⟩, d.name, ⟨#[59]⟩] ++ d.methods.flatMap (fun m => ⟨#[77, 69, 84, 72, 79, 68]⟩ :: tH m) ++ [⟨#[69, 78, 68, 95, 73, 78, 84, 69, 82, 70, 65, 67, 69]⟩]
  else if d.kind = 2 then ⟨#[67, 76, 65, 83, 83]⟩ :: tF d.abstract ⟨#[65, 66, 83, 84, 82, 65, 67, 84]⟩ ++ tF d.final ⟨#[70, 73, 78, 65, 76]⟩ ++ [d.name] ++ (if d.base = ⟨#[]⟩ then [] else [⟨#[69, 88, 84, 69, 78, 68, 83]⟩, d.base]) ++ tF (decide (0 < d.faces.length)) ⟨#[73, 77, 80, 76, 69, 77, 69, 78, 84, 83]⟩ ++ sep (d.faces.map fun f => [f]) ++ [⟨#[59]⟩] ++ tVs d.vars ++ d.methods.flatMap tM ++ [⟨#[69, 78, 68, 95, 67, 76, 65, 83, 83]⟩]
  else if d.kind = 3 then [⟨#[80, 82, 79, 71, 82, 65, 77]⟩, d.name, ⟨#[59]⟩] ++ tVs d.vars ++ tL d.body ++ [⟨#[69, 78, 68, 95, 80, 82, 79, 71, 82, 65, 77]⟩]
  else if d.kind = 4 then [⟨#[84, 65, 83, 75]⟩, d.name, ⟨#[40]⟩, ⟨#[73, 78, 84, 69, 82, 86, 65, 76]⟩] ++ tInt d.every ++ [⟨#[44]⟩, ⟨#[80, 82, 73, 79, 82, 73, 84, 89]⟩] ++ tInt d.first ++ [⟨#[41]⟩, ⟨#[58]⟩, d.base, ⟨#[59]⟩]
  else [⟨#[63]⟩]
/-- tokens with a blank between. -/
def joined (l : List ByteArray) : List UInt8 := Lib.join (l.map (·.data.toList)) [32]
/-- a unit's text. -/
def tU (l : List DT) : List UInt8 := l.flatMap fun d => joined (tD d) ++ [10]
end Go.Proofs.YtbgilpmoijdcfaaGreat

/-
  Trees in memory: what a value tells, and that it stays.
-/
namespace Go.Proofs.YtbgilpmoijdcfaaGreat
open Go Go.RowKit

/-- a number of 64 bits. -/
def I64 (n : Int) : Prop := -9223372036854775808 ≤ n ∧ n ≤ 9223372036854775807
/-- the k-th of a row's values of sz cells is told by R; the row lies in a block below B. -/
def RowIn {α : Type} (R : α → List Value → Prop) (w : World) (B : Nat) (A : Option Addr) (sz : Nat) (l : List α) : Prop :=
  ∀ (k : Nat) (hk : k < l.length), ∃ g o cs, A = some ⟨g, o, none⟩ ∧ g < B ∧ cs.length = sz ∧ (∀ (j : Nat) u, cs[j]? = some u → w.cell? ⟨g, o + k * sz + j, none⟩ = some u) ∧ R l[k] cs
theorem RowIn.mono {α : Type} {R R' : α → List Value → Prop} {w w' : World} {B B' : Nat} {A : Option Addr} {sz : Nat} {l : List α} (hb : B ≤ B') (hk : ∀ g, g < B → w'.heap[g]? = w.heap[g]?)
    (hR : ∀ (k : Nat) (hk : k < l.length) cs, R l[k] cs → R' l[k] cs) (h : RowIn R w B A sz l) : RowIn R' w' B' A sz l := fun k h1 => by
  obtain ⟨g, o, cs, e, hg, hs, hc, hr⟩ := h k h1
  exact ⟨g, o, cs, e, Nat.lt_of_lt_of_le hg hb, hs, fun j u hj => (World.cell?_of_block (hk g hg)).trans (hc j u hj), hR k h1 cs hr⟩

mutual
/-- these cells tell the tree e; what it lies in are blocks below B. -/
def EIn (w : World) (B : Nat) : ET → List Value → Prop
  | .mk k n nm wh args, cs => ∃ A c, cs = [.int .i64 k, .int .i64 n, .string nm, .string wh, .slice A args.length c] ∧ I64 n ∧ EsIn w B A 0 args
/-- from the i-th place on the row at A tells these trees. -/
def EsIn (w : World) (B : Nat) (A : Option Addr) : Nat → List ET → Prop
  | _, [] => True
  | i, e :: r => (∃ g o cs, A = some ⟨g, o, none⟩ ∧ g < B ∧ cs.length = 5 ∧ (∀ (j : Nat) u, cs[j]? = some u → w.cell? ⟨g, o + i * 5 + j, none⟩ = some u) ∧ EIn w B e cs) ∧ EsIn w B A (i + 1) r
end
mutual
theorem EIn.mono {w w' : World} {B B' : Nat} (hb : B ≤ B') (hk : ∀ g, g < B → w'.heap[g]? = w.heap[g]?) : ∀ {e : ET} {cs : List Value}, EIn w B e cs → EIn w' B' e cs
  | .mk _ _ _ _ args, _, h => by
    rw [EIn] at h ⊢
    obtain ⟨A, c, h1, h0, h2⟩ := h
    exact ⟨A, c, h1, h0, EsIn.mono hb hk h2⟩
theorem EsIn.mono {w w' : World} {B B' : Nat} (hb : B ≤ B') (hk : ∀ g, g < B → w'.heap[g]? = w.heap[g]?) : ∀ {l : List ET} {A : Option Addr} {i : Nat}, EsIn w B A i l → EsIn w' B' A i l
  | [], _, _, _ => by rw [EsIn]; trivial
  | e :: r, A, i, h => by
    rw [EsIn] at h ⊢
    obtain ⟨⟨g, o, cs, h1, hs, h3, h4, h5⟩, h6⟩ := h
    exact ⟨⟨g, o, cs, h1, Nat.lt_of_lt_of_le hs hb, h3, fun j u hj => (World.cell?_of_block (hk g hs)).trans (h4 j u hj), EIn.mono hb hk h5⟩, EsIn.mono hb hk h6⟩
end
theorem EsIn.row {w : World} {B : Nat} {A : Option Addr} : ∀ {l : List ET} {i : Nat}, EsIn w B A i l → ∀ (k : Nat) (hk : k < l.length), ∃ g o cs, A = some ⟨g, o, none⟩ ∧ g < B ∧ cs.length = 5 ∧ (∀ (j : Nat) u, cs[j]? = some u → w.cell? ⟨g, o + (i + k) * 5 + j, none⟩ = some u) ∧ EIn w B l[k] cs
  | e :: r, i, h, 0, _ => by rw [EsIn] at h; exact h.1
  | e :: r, i, h, k + 1, hk => by
    rw [EsIn] at h
    have := EsIn.row h.2 k (by simpa using hk)
    rw [show i + 1 + k = i + (k + 1) by omega] at this
    exact this
theorem EsIn.of_row {w : World} {B : Nat} {A : Option Addr} : ∀ {l : List ET} {i : Nat}, (∀ (k : Nat) (hk : k < l.length), ∃ g o cs, A = some ⟨g, o, none⟩ ∧ g < B ∧ cs.length = 5 ∧ (∀ (j : Nat) u, cs[j]? = some u → w.cell? ⟨g, o + (i + k) * 5 + j, none⟩ = some u) ∧ EIn w B l[k] cs) → EsIn w B A i l
  | [], _, _ => by rw [EsIn]; trivial
  | e :: r, i, h => by
    rw [EsIn]
    refine ⟨h 0 (by simp), EsIn.of_row fun k hk => ?_⟩
    have := h (k + 1) (by simpa using hk)
    rw [show i + (k + 1) = i + 1 + k by omega] at this
    exact this
/-- a row of trees. -/
abbrev EsR (w : World) (B : Nat) (A : Option Addr) (l : List ET) : Prop := RowIn (EIn w B) w B A 5 l
theorem EsIn.rowIn {w : World} {B : Nat} {A : Option Addr} {l : List ET} (h : EsIn w B A 0 l) : EsR w B A l := fun k hk => by
  have := EsIn.row h k hk
  rw [Nat.zero_add] at this
  exact this
theorem EsIn.of_rowIn {w : World} {B : Nat} {A : Option Addr} {l : List ET} (h : EsR w B A l) : EsIn w B A 0 l := EsIn.of_row fun k hk => by
  rw [Nat.zero_add]
  exact h k hk
theorem EIn.form {w : World} {B : Nat} {k n : Int} {nm wh : ByteArray} {args : List ET} {cs : List Value} (h : EIn w B (.mk k n nm wh args) cs) : ∃ A c, cs = [.int .i64 k, .int .i64 n, .string nm, .string wh, .slice A args.length c] ∧ I64 n ∧ EsR w B A args := by
  rw [EIn] at h
  obtain ⟨A, c, h1, h0, h2⟩ := h
  exact ⟨A, c, h1, h0, h2.rowIn⟩
theorem EIn.of_form {w : World} {B : Nat} {k n : Int} {nm wh : ByteArray} {args : List ET} (A : Option Addr) (c : Nat) (h0 : I64 n) (h : EsR w B A args) : EIn w B (.mk k n nm wh args) [.int .i64 k, .int .i64 n, .string nm, .string wh, .slice A args.length c] := by
  rw [EIn]
  exact ⟨A, c, rfl, h0, .of_rowIn h⟩
theorem EIn.len {w : World} {B : Nat} {e : ET} {cs : List Value} (h : EIn w B e cs) : cs.length = 5 := by
  cases e
  obtain ⟨A, c, rfl, _⟩ := h.form
  rfl

/-- a number's cell; a row of numbers. -/
def NIn : Int → List Value → Prop := fun n cs => cs = [.int .i64 n] ∧ I64 n
abbrev NsR (w : World) (B : Nat) (A : Option Addr) (l : List Int) : Prop := RowIn NIn w B A 1 l
def LIn (w : World) (B : Nat) : List Int → List Value → Prop := fun l cs => ∃ A c, cs = [.slice A l.length c] ∧ NsR w B A l
abbrev LsR (w : World) (B : Nat) (A : Option Addr) (l : List (List Int)) : Prop := RowIn (LIn w B) w B A 1 l
/-- a text's cell; a row of texts. -/
def XIn : ByteArray → List Value → Prop := fun s cs => cs = [.string s]
abbrev XsR (w : World) (B : Nat) (A : Option Addr) (l : List ByteArray) : Prop := RowIn XIn w B A 1 l

mutual
/-- these cells tell the statement s. -/
def SIn (w : World) (B : Nat) : ST → List Value → Prop
  | .mk k n nm ex lb bs, cs => ∃ A1 c1 A2 c2 A3 c3, cs = [.int .i64 k, .int .i64 n, .string nm, .slice A1 ex.length c1, .slice A2 lb.length c2, .slice A3 bs.length c3] ∧ I64 n ∧ EsR w B A1 ex ∧ LsR w B A2 lb ∧ BsIn w B A3 0 bs
/-- the row at A tells these statements. -/
def SsIn (w : World) (B : Nat) (A : Option Addr) : Nat → List ST → Prop
  | _, [] => True
  | i, s :: r => (∃ g o cs, A = some ⟨g, o, none⟩ ∧ g < B ∧ cs.length = 6 ∧ (∀ (j : Nat) u, cs[j]? = some u → w.cell? ⟨g, o + i * 6 + j, none⟩ = some u) ∧ SIn w B s cs) ∧ SsIn w B A (i + 1) r
/-- the row at A tells these lists of statements. -/
def BsIn (w : World) (B : Nat) (A : Option Addr) : Nat → List (List ST) → Prop
  | _, [] => True
  | i, l :: r => (∃ g o cs, A = some ⟨g, o, none⟩ ∧ g < B ∧ cs.length = 1 ∧ (∀ (j : Nat) u, cs[j]? = some u → w.cell? ⟨g, o + i * 1 + j, none⟩ = some u) ∧ ∃ A' c', cs = [.slice A' l.length c'] ∧ SsIn w B A' 0 l) ∧ BsIn w B A (i + 1) r
end
theorem EsR.mono {w w' : World} {B B' : Nat} (hb : B ≤ B') (hk : ∀ g, g < B → w'.heap[g]? = w.heap[g]?) {A : Option Addr} {l : List ET} (h : EsR w B A l) : EsR w' B' A l := RowIn.mono hb hk (fun _ _ _ => EIn.mono hb hk) h
theorem NsR.mono {w w' : World} {B B' : Nat} (hb : B ≤ B') (hk : ∀ g, g < B → w'.heap[g]? = w.heap[g]?) {A : Option Addr} {l : List Int} (h : NsR w B A l) : NsR w' B' A l := RowIn.mono hb hk (fun _ _ _ h => h) h
theorem XsR.mono {w w' : World} {B B' : Nat} (hb : B ≤ B') (hk : ∀ g, g < B → w'.heap[g]? = w.heap[g]?) {A : Option Addr} {l : List ByteArray} (h : XsR w B A l) : XsR w' B' A l := RowIn.mono hb hk (fun _ _ _ h => h) h
theorem LIn.mono {w w' : World} {B B' : Nat} (hb : B ≤ B') (hk : ∀ g, g < B → w'.heap[g]? = w.heap[g]?) {l : List Int} {cs : List Value} (h : LIn w B l cs) : LIn w' B' l cs := by
  obtain ⟨A, c, h1, h2⟩ := h
  exact ⟨A, c, h1, h2.mono hb hk⟩
theorem LsR.mono {w w' : World} {B B' : Nat} (hb : B ≤ B') (hk : ∀ g, g < B → w'.heap[g]? = w.heap[g]?) {A : Option Addr} {l : List (List Int)} (h : LsR w B A l) : LsR w' B' A l := RowIn.mono hb hk (fun _ _ _ h => LIn.mono hb hk h) h
mutual
theorem SIn.mono {w w' : World} {B B' : Nat} (hb : B ≤ B') (hk : ∀ g, g < B → w'.heap[g]? = w.heap[g]?) : ∀ {s : ST} {cs : List Value}, SIn w B s cs → SIn w' B' s cs
  | .mk _ _ _ _ _ _, _, h => by
    rw [SIn] at h ⊢
    obtain ⟨A1, c1, A2, c2, A3, c3, h1, h0, h2, h3, h4⟩ := h
    exact ⟨A1, c1, A2, c2, A3, c3, h1, h0, EsR.mono hb hk h2, LsR.mono hb hk h3, BsIn.mono hb hk h4⟩
theorem SsIn.mono {w w' : World} {B B' : Nat} (hb : B ≤ B') (hk : ∀ g, g < B → w'.heap[g]? = w.heap[g]?) : ∀ {l : List ST} {A : Option Addr} {i : Nat}, SsIn w B A i l → SsIn w' B' A i l
  | [], _, _, _ => by rw [SsIn]; trivial
  | e :: r, A, i, h => by
    rw [SsIn] at h ⊢
    obtain ⟨⟨g, o, cs, h1, hs, h3, h4, h5⟩, h6⟩ := h
    exact ⟨⟨g, o, cs, h1, Nat.lt_of_lt_of_le hs hb, h3, fun j u hj => (World.cell?_of_block (hk g hs)).trans (h4 j u hj), SIn.mono hb hk h5⟩, SsIn.mono hb hk h6⟩
theorem BsIn.mono {w w' : World} {B B' : Nat} (hb : B ≤ B') (hk : ∀ g, g < B → w'.heap[g]? = w.heap[g]?) : ∀ {l : List (List ST)} {A : Option Addr} {i : Nat}, BsIn w B A i l → BsIn w' B' A i l
  | [], _, _, _ => by rw [BsIn]; trivial
  | e :: r, A, i, h => by
    rw [BsIn] at h ⊢
    obtain ⟨⟨g, o, cs, h1, hs, h3, h4, A', c', h5, h5'⟩, h6⟩ := h
    exact ⟨⟨g, o, cs, h1, Nat.lt_of_lt_of_le hs hb, h3, fun j u hj => (World.cell?_of_block (hk g hs)).trans (h4 j u hj), A', c', h5, SsIn.mono hb hk h5'⟩, BsIn.mono hb hk h6⟩
end
/-- a row of statements; a row of lists of them. -/
abbrev SsR (w : World) (B : Nat) (A : Option Addr) (l : List ST) : Prop := RowIn (SIn w B) w B A 6 l
def BIn (w : World) (B : Nat) : List ST → List Value → Prop := fun l cs => ∃ A c, cs = [.slice A l.length c] ∧ SsR w B A l
abbrev BsR (w : World) (B : Nat) (A : Option Addr) (l : List (List ST)) : Prop := RowIn (BIn w B) w B A 1 l
theorem SsIn.row {w : World} {B : Nat} {A : Option Addr} : ∀ {l : List ST} {i : Nat}, SsIn w B A i l → ∀ (k : Nat) (hk : k < l.length), ∃ g o cs, A = some ⟨g, o, none⟩ ∧ g < B ∧ cs.length = 6 ∧ (∀ (j : Nat) u, cs[j]? = some u → w.cell? ⟨g, o + (i + k) * 6 + j, none⟩ = some u) ∧ SIn w B l[k] cs
  | e :: r, i, h, 0, _ => by rw [SsIn] at h; exact h.1
  | e :: r, i, h, k + 1, hk => by
    rw [SsIn] at h
    have := SsIn.row h.2 k (by simpa using hk)
    rw [show i + 1 + k = i + (k + 1) by omega] at this
    exact this
theorem SsIn.of_row {w : World} {B : Nat} {A : Option Addr} : ∀ {l : List ST} {i : Nat}, (∀ (k : Nat) (hk : k < l.length), ∃ g o cs, A = some ⟨g, o, none⟩ ∧ g < B ∧ cs.length = 6 ∧ (∀ (j : Nat) u, cs[j]? = some u → w.cell? ⟨g, o + (i + k) * 6 + j, none⟩ = some u) ∧ SIn w B l[k] cs) → SsIn w B A i l
  | [], _, _ => by rw [SsIn]; trivial
  | e :: r, i, h => by
    rw [SsIn]
    refine ⟨h 0 (by simp), SsIn.of_row fun k hk => ?_⟩
    have := h (k + 1) (by simpa using hk)
    rw [show i + (k + 1) = i + 1 + k by omega] at this
    exact this
theorem SsIn.rowIn {w : World} {B : Nat} {A : Option Addr} {l : List ST} (h : SsIn w B A 0 l) : SsR w B A l := fun k hk => by
  have := SsIn.row h k hk
  rw [Nat.zero_add] at this
  exact this
theorem SsIn.of_rowIn {w : World} {B : Nat} {A : Option Addr} {l : List ST} (h : SsR w B A l) : SsIn w B A 0 l := SsIn.of_row fun k hk => by
  rw [Nat.zero_add]
  exact h k hk
theorem BsIn.row {w : World} {B : Nat} {A : Option Addr} : ∀ {l : List (List ST)} {i : Nat}, BsIn w B A i l → ∀ (k : Nat) (hk : k < l.length), ∃ g o cs, A = some ⟨g, o, none⟩ ∧ g < B ∧ cs.length = 1 ∧ (∀ (j : Nat) u, cs[j]? = some u → w.cell? ⟨g, o + (i + k) * 1 + j, none⟩ = some u) ∧ BIn w B l[k] cs
  | e :: r, i, h, 0, _ => by
    rw [BsIn] at h
    obtain ⟨⟨g, o, cs, h1, h2, h3, h4, A', c', h5, h6⟩, _⟩ := h
    exact ⟨g, o, cs, h1, h2, h3, h4, A', c', h5, h6.rowIn⟩
  | e :: r, i, h, k + 1, hk => by
    rw [BsIn] at h
    have := BsIn.row h.2 k (by simpa using hk)
    rw [show i + 1 + k = i + (k + 1) by omega] at this
    exact this
theorem BsIn.of_row {w : World} {B : Nat} {A : Option Addr} : ∀ {l : List (List ST)} {i : Nat}, (∀ (k : Nat) (hk : k < l.length), ∃ g o cs, A = some ⟨g, o, none⟩ ∧ g < B ∧ cs.length = 1 ∧ (∀ (j : Nat) u, cs[j]? = some u → w.cell? ⟨g, o + (i + k) * 1 + j, none⟩ = some u) ∧ BIn w B l[k] cs) → BsIn w B A i l
  | [], _, _ => by rw [BsIn]; trivial
  | e :: r, i, h => by
    rw [BsIn]
    refine ⟨?_, BsIn.of_row fun k hk => ?_⟩
    · obtain ⟨g, o, cs, h1, h2, h3, h4, A', c', h5, h6⟩ := h 0 (by simp)
      exact ⟨g, o, cs, h1, h2, h3, h4, A', c', h5, .of_rowIn h6⟩
    · have := h (k + 1) (by simpa using hk)
      rw [show i + (k + 1) = i + 1 + k by omega] at this
      exact this
theorem BsIn.rowIn {w : World} {B : Nat} {A : Option Addr} {l : List (List ST)} (h : BsIn w B A 0 l) : BsR w B A l := fun k hk => by
  have := BsIn.row h k hk
  rw [Nat.zero_add] at this
  exact this
theorem BsIn.of_rowIn {w : World} {B : Nat} {A : Option Addr} {l : List (List ST)} (h : BsR w B A l) : BsIn w B A 0 l := BsIn.of_row fun k hk => by
  rw [Nat.zero_add]
  exact h k hk
theorem SIn.form {w : World} {B : Nat} {k n : Int} {nm : ByteArray} {ex : List ET} {lb : List (List Int)} {bs : List (List ST)} {cs : List Value} (h : SIn w B (.mk k n nm ex lb bs) cs) :
    ∃ A1 c1 A2 c2 A3 c3, cs = [.int .i64 k, .int .i64 n, .string nm, .slice A1 ex.length c1, .slice A2 lb.length c2, .slice A3 bs.length c3] ∧ I64 n ∧ EsR w B A1 ex ∧ LsR w B A2 lb ∧ BsR w B A3 bs := by
  rw [SIn] at h
  obtain ⟨A1, c1, A2, c2, A3, c3, h1, h0, h2, h3, h4⟩ := h
  exact ⟨A1, c1, A2, c2, A3, c3, h1, h0, h2, h3, h4.rowIn⟩
theorem SIn.of_form {w : World} {B : Nat} {k n : Int} {nm : ByteArray} {ex : List ET} {lb : List (List Int)} {bs : List (List ST)} (A1 A2 A3 : Option Addr) (c1 c2 c3 : Nat) (h0 : I64 n) (h1 : EsR w B A1 ex) (h2 : LsR w B A2 lb) (h3 : BsR w B A3 bs) :
    SIn w B (.mk k n nm ex lb bs) [.int .i64 k, .int .i64 n, .string nm, .slice A1 ex.length c1, .slice A2 lb.length c2, .slice A3 bs.length c3] := by
  rw [SIn]
  exact ⟨A1, c1, A2, c2, A3, c3, rfl, h0, h1, h2, .of_rowIn h3⟩
theorem SsR.mono {w w' : World} {B B' : Nat} (hb : B ≤ B') (hk : ∀ g, g < B → w'.heap[g]? = w.heap[g]?) {A : Option Addr} {l : List ST} (h : SsR w B A l) : SsR w' B' A l := RowIn.mono hb hk (fun _ _ _ => SIn.mono hb hk) h
theorem BIn.mono {w w' : World} {B B' : Nat} (hb : B ≤ B') (hk : ∀ g, g < B → w'.heap[g]? = w.heap[g]?) {l : List ST} {cs : List Value} (h : BIn w B l cs) : BIn w' B' l cs := by
  obtain ⟨A, c, h1, h2⟩ := h
  exact ⟨A, c, h1, h2.mono hb hk⟩
theorem BsR.mono {w w' : World} {B B' : Nat} (hb : B ≤ B') (hk : ∀ g, g < B → w'.heap[g]? = w.heap[g]?) {A : Option Addr} {l : List (List ST)} (h : BsR w B A l) : BsR w' B' A l := RowIn.mono hb hk (fun _ _ _ => BIn.mono hb hk) h

/-- a type's cells. -/
def YT.cells (t : YT) : List Value := [.int .i64 t.kind, .int .i64 t.lo, .int .i64 t.hi, .string t.name]
def YT.wf (t : YT) : Prop := I64 t.lo ∧ I64 t.hi
/-- a variable's cells. -/
def VT.cells (v : VT) : List Value := [.string v.name, .int .i64 v.type.kind, .int .i64 v.type.lo, .int .i64 v.type.hi, .string v.type.name, .int .i64 v.init, .int .i64 v.dir, .int .i64 v.slot]
def VT.wf (v : VT) : Prop := v.type.wf ∧ I64 v.init ∧ I64 v.slot
def VIn : VT → List Value → Prop := fun v cs => cs = v.cells ∧ v.wf
abbrev VsR (w : World) (B : Nat) (A : Option Addr) (l : List VT) : Prop := RowIn VIn w B A 8 l
theorem VsR.mono {w w' : World} {B B' : Nat} (hb : B ≤ B') (hk : ∀ g, g < B → w'.heap[g]? = w.heap[g]?) {A : Option Addr} {l : List VT} (h : VsR w B A l) : VsR w' B' A l := RowIn.mono hb hk (fun _ _ _ h => h) h
/-- these cells tell the method m. -/
def MIn (w : World) (B : Nat) (m : MT) (cs : List Value) : Prop :=
  ∃ A1 c1 A2 c2 A3 c3, cs = [.string m.name, .bool m.over, .bool m.abstract, .bool m.final, .slice A1 m.params.length c1, .int .i64 m.result.kind, .int .i64 m.result.lo, .int .i64 m.result.hi, .string m.result.name, .slice A2 m.vars.length c2, .slice A3 m.body.length c3] ∧ m.result.wf ∧
    VsR w B A1 m.params ∧ VsR w B A2 m.vars ∧ SsR w B A3 m.body
theorem MIn.mono {w w' : World} {B B' : Nat} (hb : B ≤ B') (hk : ∀ g, g < B → w'.heap[g]? = w.heap[g]?) {m : MT} {cs : List Value} (h : MIn w B m cs) : MIn w' B' m cs := by
  obtain ⟨A1, c1, A2, c2, A3, c3, h1, h0, h2, h3, h4⟩ := h
  exact ⟨A1, c1, A2, c2, A3, c3, h1, h0, h2.mono hb hk, h3.mono hb hk, h4.mono hb hk⟩
abbrev MsR (w : World) (B : Nat) (A : Option Addr) (l : List MT) : Prop := RowIn (MIn w B) w B A 11 l
theorem MsR.mono {w w' : World} {B B' : Nat} (hb : B ≤ B') (hk : ∀ g, g < B → w'.heap[g]? = w.heap[g]?) {A : Option Addr} {l : List MT} (h : MsR w B A l) : MsR w' B' A l := RowIn.mono hb hk (fun _ _ _ h => MIn.mono hb hk h) h
/-- these cells tell the declaration d. -/
def DIn (w : World) (B : Nat) (d : DT) (cs : List Value) : Prop :=
  ∃ A1 c1 A2 c2 A3 c3 A4 c4, cs = [.int .i64 d.kind, .string d.name, .string d.base, .slice A1 d.faces.length c1, .bool d.abstract, .bool d.final, .slice A2 d.vars.length c2, .slice A3 d.methods.length c3, .slice A4 d.body.length c4, .int .i64 d.every, .int .i64 d.first] ∧ I64 d.every ∧ I64 d.first ∧
    XsR w B A1 d.faces ∧ VsR w B A2 d.vars ∧ MsR w B A3 d.methods ∧ SsR w B A4 d.body
theorem DIn.mono {w w' : World} {B B' : Nat} (hb : B ≤ B') (hk : ∀ g, g < B → w'.heap[g]? = w.heap[g]?) {d : DT} {cs : List Value} (h : DIn w B d cs) : DIn w' B' d cs := by
  obtain ⟨A1, c1, A2, c2, A3, c3, A4, c4, h1, h0, h0', h2, h3, h4, h5⟩ := h
  exact ⟨A1, c1, A2, c2, A3, c3, A4, c4, h1, h0, h0', h2.mono hb hk, h3.mono hb hk, h4.mono hb hk, h5.mono hb hk⟩
abbrev DsR (w : World) (B : Nat) (A : Option Addr) (l : List DT) : Prop := RowIn (DIn w B) w B A 11 l
theorem DsR.mono {w w' : World} {B B' : Nat} (hb : B ≤ B') (hk : ∀ g, g < B → w'.heap[g]? = w.heap[g]?) {A : Option Addr} {l : List DT} (h : DsR w B A l) : DsR w' B' A l := RowIn.mono hb hk (fun _ _ _ h => DIn.mono hb hk h) h
end Go.Proofs.YtbgilpmoijdcfaaGreat

/-
  table on plain data: what is found in a list of declarations.
-/
namespace Go.Proofs.YtbgilpmoijdcfaaGreat
open Go Go.RowKit
set_option linter.unusedVariables false
set_option linter.unusedSimpArgs false

/-- the first declaration of a name, from the k-th on. -/
def findF (s : ByteArray) : List DT → Nat → Int
  | [], _ => -1
  | d :: r, k => if d.name = s then (k : Int) else findF s r (k + 1)
def findT (L : List DT) (s : ByteArray) : Int := findF s L 0
/-- is d a declaration of this kind? -/
def isOfT (L : List DT) (d k : Int) : Bool := decide (0 ≤ d) && decide (d < (L.length : Int)) && decide ((L[d.toNat]?.map DT.kind) = some k)
/-- a declaration's kind; 0: there is none. -/
def kindT (L : List DT) (d : Int) : Int := if 0 ≤ d ∧ d < (L.length : Int) then (L[d.toNat]?.map DT.kind).getD 0 else 0
/-- a declaration's base, faces, methods, variables; of none none. -/
def baseT (L : List DT) (d : Int) : ByteArray := (L[d.toNat]?.map DT.base).getD ⟨#[]⟩
def facesOf (L : List DT) (d : Int) : List ByteArray := (L[d.toNat]?.map DT.faces).getD []
def methodsOf (L : List DT) (d : Int) : List MT := (L[d.toNat]?.map DT.methods).getD []
def varsOf (L : List DT) (d : Int) : List VT := (L[d.toNat]?.map DT.vars).getD []
def chainF (L : List DT) : Nat → List Int → Int → List Int
  | 0, out, _ => out
  | f + 1, out, d => if isOfT L d 2 && !out.contains d then chainF L f (out ++ [d]) (findT L (baseT L d)) else out
def chainT (L : List DT) (d : Int) : List Int := chainF L (L.length + 1) [] d
/-- one more interface, if it is one that was not met. -/
def faceStep (L : List DT) (out : List Int) (s : ByteArray) : List Int := if isOfT L (findT L s) 1 && !out.contains (findT L s) then out ++ [findT L s] else out
def facesT (L : List DT) (d : Int) : List Int := (chainT L d).foldl (fun out c => (facesOf L c).foldl (faceStep L) out) []
def isT (L : List DT) (name what : ByteArray) : Bool :=
  (isOfT L (findT L name) 2 || isOfT L (findT L name) 1) && (decide (name = what) || (chainT L (findT L name)).contains (findT L what) || (facesT L (findT L name)).contains (findT L what))
/-- a method's number, from the k-th on. -/
def ownF (s : ByteArray) : List MT → Nat → Int
  | [], _ => -1
  | m :: r, k => if m.name = s then (k : Int) else ownF s r (k + 1)
def ownT (l : List MT) (s : ByteArray) : Int := ownF s l 0
def homesT (L : List DT) (d : Int) : List Int := if isOfT L d 1 then [d] else chainT L d
def methodF (L : List DT) (s : ByteArray) : List Int → Option (Int × Int)
  | [] => none
  | d :: r => if 0 ≤ ownT (methodsOf L d) s then some (d, ownT (methodsOf L d) s) else methodF L s r
def methodT (L : List DT) (d : Int) (s : ByteArray) : Option (Int × Int) := methodF L s (homesT L d)
def fieldsT (L : List DT) (d : Int) : List VT := if isOfT L d 3 then varsOf L d else (chainT L d).reverse.flatMap (varsOf L)
def YT.tup (t : YT) : Int × Int × Int × ByteArray := (t.kind, t.lo, t.hi, t.name)
def alikeT (a b : MT) : Bool := decide (a.result.tup = b.result.tup) && decide (a.params.map (fun v => v.type.tup) = b.params.map (fun v => v.type.tup))

theorem findF_le (s : ByteArray) : ∀ (l : List DT) (k : Nat), findF s l k = -1 ∨ ((k : Int) ≤ findF s l k ∧ findF s l k < k + l.length)
  | [], k => .inl rfl
  | d :: r, k => by
    unfold findF
    split
    · right; simp only [List.length_cons]; omega
    · rcases findF_le s r (k + 1) with h | h
      · exact .inl h
      · right; simp only [List.length_cons]; omega
theorem findT_le (L : List DT) (s : ByteArray) : findT L s = -1 ∨ (0 ≤ findT L s ∧ findT L s < L.length) := by
  have := findF_le s L 0
  unfold findT
  simpa using this
theorem findF_at (s : ByteArray) : ∀ (L : List DT) (j k : Nat) (hk : k < L.length), (∀ i (hi : i < L.length), i < k → L[i].name ≠ s) → L[k].name = s → findF s L j = (j + k : Nat)
  | d :: r, j, 0, _, _, h => by unfold findF; rw [if_pos (show d.name = s from h)]; rfl
  | d :: r, j, k + 1, hk, hn, h => by
    have h0 : d.name ≠ s := hn 0 (by simp) (by omega)
    unfold findF
    rw [if_neg h0, findF_at s r (j + 1) k (by simpa using hk) (fun i hi h1 => hn (i + 1) (by simpa using hi) (by omega)) (by simpa using h)]
    congr 1; omega
theorem findF_none (s : ByteArray) : ∀ (L : List DT) (j : Nat), (∀ i (hi : i < L.length), L[i].name ≠ s) → findF s L j = -1
  | [], _, _ => rfl
  | d :: r, j, hn => by
    have h0 : d.name ≠ s := hn 0 (by simp)
    unfold findF
    rw [if_neg h0, findF_none s r (j + 1) (fun i hi => hn (i + 1) (by simpa using hi))]
theorem findT_at {L : List DT} {s : ByteArray} {k : Nat} (hk : k < L.length) (hn : ∀ i (hi : i < L.length), i < k → L[i].name ≠ s) (h : L[k].name = s) : findT L s = k := by
  unfold findT
  rw [findF_at s L 0 k hk hn h]
  simp
theorem findT_none {L : List DT} {s : ByteArray} (hn : ∀ i (hi : i < L.length), L[i].name ≠ s) : findT L s = -1 := findF_none s L 0 hn
theorem ownF_at (s : ByteArray) : ∀ (L : List MT) (j k : Nat) (hk : k < L.length), (∀ i (hi : i < L.length), i < k → L[i].name ≠ s) → L[k].name = s → ownF s L j = (j + k : Nat)
  | d :: r, j, 0, _, _, h => by unfold ownF; rw [if_pos (show d.name = s from h)]; rfl
  | d :: r, j, k + 1, hk, hn, h => by
    have h0 : d.name ≠ s := hn 0 (by simp) (by omega)
    unfold ownF
    rw [if_neg h0, ownF_at s r (j + 1) k (by simpa using hk) (fun i hi h1 => hn (i + 1) (by simpa using hi) (by omega)) (by simpa using h)]
    congr 1; omega
theorem ownF_none (s : ByteArray) : ∀ (L : List MT) (j : Nat), (∀ i (hi : i < L.length), L[i].name ≠ s) → ownF s L j = -1
  | [], _, _ => rfl
  | d :: r, j, hn => by
    have h0 : d.name ≠ s := hn 0 (by simp)
    unfold ownF
    rw [if_neg h0, ownF_none s r (j + 1) (fun i hi => hn (i + 1) (by simpa using hi))]
theorem ownT_at {L : List MT} {s : ByteArray} {k : Nat} (hk : k < L.length) (hn : ∀ i (hi : i < L.length), i < k → L[i].name ≠ s) (h : L[k].name = s) : ownT L s = k := by
  unfold ownT
  rw [ownF_at s L 0 k hk hn h]
  simp
theorem ownT_none {L : List MT} {s : ByteArray} (hn : ∀ i (hi : i < L.length), L[i].name ≠ s) : ownT L s = -1 := ownF_none s L 0 hn
theorem isOfT_of {L : List DT} {k : Nat} {q : Int} (hk : k < L.length) : isOfT L k q = decide (L[k].kind = q) := by
  unfold isOfT
  have h1 : decide ((0 : Int) ≤ (k : Int)) = true := by simp
  have h2 : decide ((k : Int) < (L.length : Int)) = true := by simp [hk]
  rw [h1, h2, Int.toNat_natCast, List.getElem?_eq_getElem hk]
  simp
theorem kindT_isOf (L : List DT) (d q : Int) (hq : q ≠ 0) : isOfT L d q = decide (kindT L d = q) := by
  unfold isOfT kindT
  by_cases h : 0 ≤ d ∧ d < (L.length : Int)
  · rw [if_pos h, decide_eq_true h.1, decide_eq_true h.2]
    have : d.toNat < L.length := by omega
    rw [List.getElem?_eq_getElem this]
    simp
  · rw [if_neg h]
    by_cases h1 : 0 ≤ d
    · have h2 : ¬ d < (L.length : Int) := fun x => h ⟨h1, x⟩
      simp [h2, Ne.symm hq]
    · simp [h1, Ne.symm hq]
theorem isOfT_lt {L : List DT} {d q : Int} (h : isOfT L d q = true) : ∃ k : Nat, d = k ∧ k < L.length := by
  unfold isOfT at h
  simp only [Bool.and_eq_true, decide_eq_true_eq] at h
  exact ⟨d.toNat, by omega, by omega⟩
theorem isOfT_out {L : List DT} {d q : Int} (h : d < 0 ∨ (L.length : Int) ≤ d) : isOfT L d q = false := by
  cases hh : isOfT L d q
  · rfl
  · obtain ⟨k, rfl, hk⟩ := isOfT_lt hh
    omega
end Go.Proofs.YtbgilpmoijdcfaaGreat

/-
  governorref6: Find, Kind, has, own BY CONTRACTS.
-/
namespace Go.Proofs.YtbgilpmoijdcfaaGreat
open Go Go.RowKit
set_option linter.unusedVariables false
set_option linter.unusedSimpArgs false

theorem str_eq {a b : ByteArray} (h : a = b) : (a.toList == b.toList) = true := by rw [h]; simp
theorem str_ne {a b : ByteArray} (h : a ≠ b) : (a.toList == b.toList) = false := by
  simp only [beq_eq_false_iff_ne, ne_eq]
  intro hh
  rw [ByteArray.toList_eq, ByteArray.toList_eq] at hh
  exact h (ByteArray.ext (Array.ext' hh))
end Go.Proofs.YtbgilpmoijdcfaaGreat

/-
  How heavy trees are; the readings of the arguments as trees, no heavier than what is read.
-/
namespace Go.Proofs.YtbgilpmoijdcfaaGreat
open Go Go.ChangeShapes Go.WideShapes Go.RowKit

/-- how many digits a number has. -/
def dn (n : Int) : Nat := (Lib.decDigits n.natAbs).length
theorem nDigits_le : ∀ (k u : Nat), u < 10 ^ (k + 1) → Lib.nDigits u ≤ k + 1
  | 0, u, h => by rw [Lib.nDigits_small (by simpa using h)]; exact Nat.le_refl _
  | k + 1, u, h => by
    by_cases h1 : u < 10
    · rw [Lib.nDigits_small h1]; omega
    · rw [Lib.nDigits_big h1]
      have := nDigits_le k (u / 10) (by rw [Nat.pow_succ] at h; omega)
      omega
theorem dn_le {n : Int} (h : I64 n) : dn n ≤ 19 := by
  unfold dn
  rw [Lib.decDigits_length]
  have h1 : n.natAbs < 10 ^ (18 + 1) := by have := h.1; have := h.2; omega
  exact nDigits_le 18 n.natAbs h1
mutual
/-- at least so long, blanks and all, is what is written of a tree. -/
def wE : ET → Nat
  | .mk _ n nm wh args => 36 + dn n + nm.size + wh.size + wEs args
def wEs : List ET → Nat
  | [] => 0
  | e :: r => wE e + wEs r
end
theorem wEs_sum : ∀ l : List ET, wEs l = (l.map wE).sum
  | [] => by simp [wEs]
  | e :: r => by simp [wEs, wEs_sum r]
def wN (n : Int) : Nat := 5 + dn n
def wL (l : List Int) : Nat := 3 + (l.map wN).sum
mutual
def wS : ST → Nat
  | .mk _ n nm ex lb bs => 64 + dn n + nm.size + wEs ex + (lb.map wL).sum + wBs bs
def wSs : List ST → Nat
  | [] => 0
  | s :: r => wS s + wSs r
def wBs : List (List ST) → Nat
  | [] => 0
  | l :: r => 1 + wSs l + wBs r
end
theorem wSs_sum : ∀ l : List ST, wSs l = (l.map wS).sum
  | [] => by simp [wSs]
  | e :: r => by simp [wSs, wSs_sum r]
theorem wBs_sum : ∀ l : List (List ST), wBs l = (l.map fun b => 1 + wSs b).sum
  | [] => by simp [wBs]
  | e :: r => by simp [wBs, wBs_sum r]
def wY (t : YT) : Nat := 24 + t.name.size + dn t.lo + dn t.hi
def wV (v : VT) : Nat := 32 + v.name.size + wY v.type + dn v.init + dn v.slot
def wM (m : MT) : Nat := 64 + m.name.size + wY m.result + (m.params.map wV).sum + (m.vars.map wV).sum + wSs m.body
def wX (s : ByteArray) : Nat := 3 + s.size
def wD (d : DT) : Nat := 64 + d.name.size + d.base.size + (d.faces.map wX).sum + (d.vars.map wV).sum + (d.methods.map wM).sum + wSs d.body + dn d.every + dn d.first
def wU (l : List DT) : Nat := (l.map wD).sum

section
variable {H : Type} {enc : TypeId × Value → H} {w : World} {sp : Nat → Bool} {held : Bool}

theorem pick {α : Type} {Q : Nat → α → Prop} : ∀ n : Nat, (∀ i, i < n → ∃ a, Q i a) → ∃ l : List α, l.length = n ∧ ∀ (i : Nat) (hi : i < l.length), Q i l[i]
  | 0, _ => ⟨[], rfl, fun i hi => by simp at hi⟩
  | n + 1, h => by
    obtain ⟨l, hl, hq⟩ := pick n (fun i hi => h i (by omega))
    obtain ⟨a, ha⟩ := h n (by omega)
    refine ⟨l ++ [a], by simp [hl], fun i hi => ?_⟩
    by_cases hin : i < l.length
    · rw [List.getElem_append_left hin]; exact hq i hin
    · have : i = l.length := by simp at hi; omega
      subst this
      simp only [List.getElem_append_right (Nat.le_refl _), Nat.sub_self, List.getElem_singleton]
      rw [hl]; exact ha
theorem sum_le {α β : Type} (f : α → Nat) (g : β → Nat) : ∀ (l : List α) (m : List β), l.length = m.length → (∀ (i : Nat) (h1 : i < l.length) (h2 : i < m.length), f l[i] ≤ g m[i]) → (l.map f).sum ≤ (m.map g).sum
  | [], [], _, _ => by simp
  | a :: l, b :: m, hl, h => by
    have h0 := h 0 (by simp) (by simp)
    have h1 := sum_le f g l m (by simpa using hl) (fun i h1 h2 => h (i + 1) (by simpa using h1) (by simpa using h2))
    simp only [List.getElem_cons_zero] at h0
    simp only [List.map_cons, List.sum_cons]
    omega
theorem sum_mul {β : Type} (c : Nat) (g : β → Nat) : ∀ l : List β, (l.map fun y => c * g y).sum = c * (l.map g).sum
  | [] => by simp
  | y :: r => by simp only [List.map_cons, List.sum_cons, sum_mul c g r, Nat.mul_add]
theorem bulkAll_sum : ∀ l : List (DataW H), Rows.uptoBulkAll l = (l.map Rows.uptoBulk).sum
  | [] => by simp [Rows.uptoBulkAll]
  | d :: r => by simp [Rows.uptoBulkAll, bulkAll_sum r]

/-- a row that is read. -/
theorem openRow {α : Type} {R : α → List Value → Prop} {wt : α → Nat} {S T : TypeId} {sz fuel : Nat} {cs : List Value} {x : DataW H × List MemPlace} (hu : Tryz.prog.underlying S = some (.slice T)) (hsz : Tryz.prog.cellsOf T = sz) (h0 : 0 < sz)
    (ih : ∀ n, n < fuel → ∀ (cs : List Value) (y : DataW H × List MemPlace), DataW.trod enc Tryz.prog w 0 sp held n T cs = some y → ∃ a, R a cs ∧ wt a ≤ 24 * Rows.uptoBulk y.1)
    (h : DataW.trod enc Tryz.prog w 0 sp held fuel S cs = some x) : ∃ (l : List α) (A : Option Addr) (c : Nat), cs = [.slice A l.length c] ∧ RowIn R w w.heap.size A sz l ∧ (l.map wt).sum + 24 ≤ 24 * Rows.uptoBulk x.1 ∧ (A = none → c = 0) := by
  rcases DataW.trod_slice hu h with ⟨rfl, rfl⟩ | ⟨a, len, cap, elems, rest, n, rfl, rfl, rfl, _, _, _, hlen, hel, _, _⟩
  · exact ⟨[], none, 0, rfl, fun k hk => by simp at hk, by simp [Rows.uptoBulk], fun _ => rfl⟩
  · rw [hsz] at hel
    obtain ⟨l, hl, hq⟩ := pick (α := α) (Q := fun i b => ∃ cs2 y, elems[i]? = some y ∧ w.cells? 0 (a.add (i * sz)) sz = some cs2 ∧ R b cs2 ∧ wt b ≤ 24 * Rows.uptoBulk y.1) len (fun i hi => by
      have h1 := hel i hi
      have h2 : elems[i]? = some (elems[i]'(by omega)) := List.getElem?_eq_getElem (by omega)
      rw [h2] at h1
      obtain ⟨cs2, h3, h4⟩ := Option.bind_eq_some_iff.1 h1
      obtain ⟨b, h5, h6⟩ := ih n (Nat.lt_succ_self n) cs2 _ h4
      exact ⟨b, cs2, _, h2, h3, h5, h6⟩)
    have hspot : 0 < l.length → a.spot = none := fun hz => by
      obtain ⟨cs2, y, h1, h2, h3, h4⟩ := hq 0 hz
      obtain ⟨_, hcl, hcc⟩ := World.cells?_some h2
      have h5 := hcc 0 h0
      have h6 : cs2[0]? = some (cs2[0]'(by omega)) := List.getElem?_eq_getElem (by omega)
      rw [h6] at h5
      have e1 : (a.add (0 * sz)).add 0 = a := by simp [Addr.add]
      rw [e1] at h5
      cases hs : a.spot with
      | none => rfl
      | some s =>
        exfalso
        unfold World.cell? at h5
        rw [hs] at h5
        cases hb : w.heap[a.block]? with
        | none => rw [hb] at h5; cases h5
        | some o => rw [hb] at h5; cases o <;> simp at h5
    refine ⟨l, some a, cap, by rw [hl], fun k hk => ?_, ?_, fun h => by cases h⟩
    · obtain ⟨cs2, y, h1, h2, h3, h4⟩ := hq k hk
      obtain ⟨_, hcl, hcc⟩ := World.cells?_some h2
      have hs := hspot (by omega)
      obtain ⟨g, o, sp0⟩ := a
      simp only at hs
      subst hs
      have eadd : ∀ n m, ((⟨g, o, none⟩ : Addr).add n).add m = ⟨g, o + n + m, none⟩ := by
        intro n m
        unfold Addr.add
        by_cases hn : n = 0 <;> by_cases hm : m = 0 <;> simp [hn, hm]
      have eblk : ((⟨g, o, none⟩ : Addr).add (k * sz)).block = g := by
        unfold Addr.add
        by_cases hn : k * sz = 0 <;> simp [hn]
      refine ⟨g, o, cs2, rfl, ?_, hcl, fun j u hj => ?_, h3⟩
      · have := World.cells?_block h2 h0
        rw [eblk] at this
        exact this
      · have hjl : j < sz := by
          rcases Nat.lt_or_ge j cs2.length with h6 | h6
          · omega
          · rw [List.getElem?_eq_none h6] at hj; cases hj
        have h7 := hcc j hjl
        rw [hj, eadd] at h7
        exact h7
    · have h1 := sum_le wt (fun y : DataW H × List MemPlace => 24 * Rows.uptoBulk y.1) l elems (by omega) (fun i h1 h2 => by
        obtain ⟨cs2, y, h3, h4, h5, h6⟩ := hq i h1
        have h7 : elems[i] = y := by
          rw [List.getElem?_eq_getElem h2] at h3
          exact Option.some.inj h3
        rw [h7]; exact h6)
      have e : Rows.uptoBulkAll (elems.map fun x => x.1) = (elems.map fun y : DataW H × List MemPlace => Rows.uptoBulk y.1).sum := by
        rw [bulkAll_sum, List.map_map]
        rfl
      have e2 : (elems.map fun y : DataW H × List MemPlace => 24 * Rows.uptoBulk y.1).sum = 24 * (elems.map fun y : DataW H × List MemPlace => Rows.uptoBulk y.1).sum := sum_mul 24 _ elems
      rw [e2] at h1
      simp only [Rows.uptoBulk]
      rw [e]
      omega
end
end Go.Proofs.YtbgilpmoijdcfaaGreat

/-
  Rows that are appended: append(.., row...) in a region that draws, the row empty or not.
-/
namespace Go.Proofs.YtbgilpmoijdcfaaGreat
open Go Go.RowKit

theorem flat_at {α : Type} (sz : Nat) : ∀ (css : List (List α)), (∀ cs ∈ css, cs.length = sz) → ∀ (k : Nat) (hk : k < css.length), (css.flatten.drop (k * sz)).take sz = css[k]
  | cs :: r, h, 0, _ => by
    have h0 := h cs (by simp)
    simp only [Nat.zero_mul, List.drop_zero, List.flatten_cons, List.getElem_cons_zero]
    rw [List.take_append_of_le_length (by omega), List.take_of_length_le (by omega)]
  | cs :: r, h, k + 1, hk => by
    have h0 := h cs (by simp)
    have ih := flat_at sz r (fun c hc => h c (by simp [hc])) k (by simpa using hk)
    simp only [List.flatten_cons, List.getElem_cons_succ]
    rw [Nat.add_mul, Nat.one_mul, Nat.add_comm, ← List.drop_drop, ← h0, List.drop_left, h0]
    exact ih
theorem flat_len2 {α : Type} (sz : Nat) : ∀ (css : List (List α)), (∀ cs ∈ css, cs.length = sz) → css.flatten.length = css.length * sz
  | [], _ => by simp
  | cs :: r, h => by
    have h0 := h cs (by simp)
    have ih := flat_len2 sz r (fun c hc => h c (by simp [hc]))
    simp only [List.flatten_cons, List.length_append, List.length_cons, ih, h0, Nat.add_mul]
    omega
/-- the cells of a row, one behind the other. -/
theorem row_cells {α : Type} {R : α → List Value → Prop} {w : World} {B : Nat} {A : Option Addr} {sz : Nat} {l : List α} (h0 : 0 < sz) (h1 : ∀ a cs, R a cs → ∀ u ∈ cs, u.oneCell' = true) (h : RowIn R w B A sz l) :
    ∃ xs : List Value, xs.length = l.length * sz ∧ (∀ g o, A = some ⟨g, o, none⟩ → ∀ (j : Nat) u, xs[j]? = some u → w.cell? ⟨g, o + j, none⟩ = some u) ∧ (∀ u ∈ xs, u.oneCell' = true) ∧ ∀ (k : Nat) (hk : k < l.length), R l[k] ((xs.drop (k * sz)).take sz) := by
  obtain ⟨css, hl, hq⟩ := pick (α := List Value) (Q := fun k cs => ∀ hk : k < l.length, ∃ g o, A = some ⟨g, o, none⟩ ∧ g < B ∧ cs.length = sz ∧ (∀ (j : Nat) u, cs[j]? = some u → w.cell? ⟨g, o + k * sz + j, none⟩ = some u) ∧ R l[k] cs) l.length (fun k hk => by
    obtain ⟨g, o, cs, e1, e2, e3, e4, e5⟩ := h k hk
    exact ⟨cs, fun _ => ⟨g, o, e1, e2, e3, e4, e5⟩⟩)
  have hsz : ∀ cs ∈ css, cs.length = sz := by
    intro cs hc
    obtain ⟨k, hk, rfl⟩ := List.getElem_of_mem hc
    obtain ⟨_, _, _, _, e, _⟩ := hq k hk (by omega)
    exact e
  refine ⟨css.flatten, by rw [flat_len2 sz css hsz, hl], fun g o hA j u hj => ?_, fun u hu => ?_, fun k hk => ?_⟩
  · have hjl : j < css.length * sz := by
      rw [← flat_len2 sz css hsz]
      rcases Nat.lt_or_ge j css.flatten.length with h2 | h2
      · exact h2
      · rw [List.getElem?_eq_none h2] at hj; cases hj
    have hk : j / sz < css.length := by
      rw [Nat.div_lt_iff_lt_mul h0]; exact hjl
    have hm : j % sz < sz := Nat.mod_lt _ h0
    have hd := Nat.div_add_mod j sz
    obtain ⟨g', o', e1, _, _, e4, _⟩ := hq (j / sz) hk (by omega)
    have e6 : (some ⟨g, o, none⟩ : Option Addr) = some ⟨g', o', none⟩ := hA.symm.trans e1
    simp only [Option.some.injEq, Addr.mk.injEq, and_true] at e6
    obtain ⟨rfl, rfl⟩ := e6
    have e7 := flat_at sz css hsz (j / sz) hk
    have e8 : css[j / sz][j % sz]? = some u := by
      rw [← e7, List.getElem?_take, if_pos hm, List.getElem?_drop]
      rw [show j / sz * sz + j % sz = j by rw [Nat.mul_comm]; exact hd]
      exact hj
    have := e4 _ _ e8
    rw [show o + j / sz * sz + j % sz = o + j by rw [Nat.mul_comm]; omega] at this
    exact this
  · obtain ⟨cs, hc, hu2⟩ := List.mem_flatten.1 hu
    obtain ⟨k, hk, rfl⟩ := List.getElem_of_mem hc
    obtain ⟨_, _, _, _, _, _, e⟩ := hq k hk (by omega)
    exact h1 _ _ e u hu2
  · rw [flat_at sz css hsz k (by omega)]
    obtain ⟨_, _, _, _, _, _, e⟩ := hq k (by omega) hk
    exact e
/-- a row that is owned is a row. -/
theorem row_owned {α : Type} {R : α → List Value → Prop} {w : World} {base n sz : Nat} {e : TypeId} {v : Value} {xs : List Value} {l : List α} (hn : l.length = n) (h : w.ownsRow base e sz v n xs) (hx : ∀ (k : Nat) (hk : k < l.length), R l[k] ((xs.drop (k * sz)).take sz)) :
    ∃ A c, v = .slice A l.length c ∧ RowIn R w w.heap.size A sz l := by
  subst hn
  rcases h.2 with ⟨rfl, h0⟩ | ⟨g, cap, cur, rfl, _, hg, _, _, hs, ht⟩
  · have : l = [] := List.length_eq_zero_iff.1 h0
    subst this
    exact ⟨none, 0, rfl, fun k hk => by simp at hk⟩
  · refine ⟨some ⟨g, 0, none⟩, cap, rfl, fun k hk => ?_⟩
    have hgl : g < w.heap.size := by
      rcases Nat.lt_or_ge g w.heap.size with h2 | h2
      · exact h2
      · rw [Array.getElem?_eq_none h2] at hg; cases hg
    have h1 : (k + 1) * sz ≤ l.length * sz := Nat.mul_le_mul_right _ hk
    have h2 : (k + 1) * sz = k * sz + sz := by rw [Nat.add_mul, Nat.one_mul]
    have hxl : xs.length = l.length * sz := h.1
    have hl : ((xs.drop (k * sz)).take sz).length = sz := by
      simp only [List.length_take, List.length_drop]
      omega
    refine ⟨g, 0, (xs.drop (k * sz)).take sz, rfl, hgl, hl, fun j u hj => ?_, hx k hk⟩
    have hjl : j < sz := by
      rcases Nat.lt_or_ge j ((xs.drop (k * sz)).take sz).length with h3 | h3
      · omega
      · rw [List.getElem?_eq_none h3] at hj; cases hj
    rw [List.getElem?_take, if_pos hjl, List.getElem?_drop, ← ht, List.getElem?_take, if_pos (by omega)] at hj
    rw [cell_of_row w g (0 + k * sz + j) cur e (0, 0) hg, Nat.zero_add]
    simpa using hj

section
variable {P : Program} {w : World}
/-- append of a row, empty or not, onto an owned one. -/
theorem app_run {base : Nat} {t ty e : TypeId} {i : TypeInfo} {z : Value} {size bytes : Nat} (ht : P.underlying t = some (.slice e)) (hi : P.info? e = some i) (hz : i.zero = some z) (hsize : i.size = size) (hby : i.bytes = bytes) (hzs : z.cells.size = size) (hsz : 0 < size)
    {v : Value} {n : Nat} {xs : List Value} (hown : w.ownsRow base e size v n xs) {A : Option Addr} {m c : Nat} {news : List Value} (hl : news.length = m * size) (hc : ∀ g o, A = some ⟨g, o, none⟩ → ∀ (j : Nat) u, news[j]? = some u → w.cell? ⟨g, o + j, none⟩ = some u)
    (hA : (A = none ∧ m = 0 ∧ c = 0) ∨ (m = 0 ∧ ∃ a, A = some a) ∨ ∃ g o, A = some ⟨g, o, none⟩) (h1 : ∀ u ∈ news, u.oneCell' = true) (h63 : n + m ≤ maxLen) (hbytes : (n + m) * bytes ≤ 140737488355328) (hbase : base ≤ w.heap.size) :
    ∃ v' w', (Builtin.append_ #[t, t] ty #[v, .slice A m c]).run P w = .ok v' w' ∧ w'.ownsRow base e size v' (n + m) (xs ++ news) ∧ w.grownBy w' v.ownBlock ∧ (v'.ownBlock = v.ownBlock ∨ v'.ownBlock = some w.heap.size) := by
  rcases hA with ⟨rfl, rfl, rfl⟩ | ⟨rfl, a, rfl⟩ | ⟨g, o, rfl⟩
  · have : news = [] := List.length_eq_zero_iff.1 (by simpa using hl)
    subst this
    exact ⟨v, w, run_append_owned_none w base t ty e i size ht hi v n xs hown, by simpa using hown, ⟨rfl, rfl, rfl, Nat.le_refl _, fun _ _ _ => rfl⟩, .inl rfl⟩
  · have : news = [] := List.length_eq_zero_iff.1 (by simpa using hl)
    subst this
    obtain ⟨v', w', k1, k2, k3, _, k5⟩ := run_append_own_at (P := P) w base t ty e i z size bytes ht hi hz hsize hby hzs hsz v n xs hown a 0 c [] hl (fun j u hj => by simp at hj) h1 h63 hbytes hbase
    exact ⟨v', w', k1, k2, k3, k5⟩
  · obtain ⟨v', w', k1, k2, k3, _, k5⟩ := run_append_own_at (P := P) w base t ty e i z size bytes ht hi hz hsize hby hzs hsz v n xs hown ⟨g, o, none⟩ m c news hl (fun j u hj => by
      have := hc g o rfl j u hj
      unfold Addr.add
      by_cases h0 : j = 0
      · subst h0; simpa using this
      · simpa [h0] using this) h1 h63 hbytes hbase
    exact ⟨v', w', k1, k2, k3, k5⟩
/-- append at a step of a region that draws, by what it comes to. -/
theorem step_app {ops : Array Oper} {o : Oper} {a : Act} {K : Act → World → Prop} {Q : Exit → Act → World → Prop} {E : Prop} (hgd : o.guard = none) (s x : Operand) (t : TypeId)
    (ho : o.op = .call { callee := .builtin .append, args := #[s, x], argTypes := #[t, t] }) (v u : Value) (hs : a.eval s = v) (hx : a.eval x = u)
    (h : ∃ v' w', (Builtin.append_ #[t, t] o.type #[v, u]).run P w = .ok v' w' ∧ K (a.put o.dst v') w') : if Region.wanted o (yielded ops a.tmps) = true then Oper.wp P o a w K Q else E := by
  obtain ⟨v', w', hr, hk⟩ := h
  have hw : Region.wanted o (yielded ops a.tmps) = true := by simp [Region.wanted, hgd]
  rw [if_pos hw]
  unfold Oper.wp execOp
  simp only [ho, resolve, invoke, builtin, Sem.run_bind, Sem.run_pure, Result.andThen_ok, List.map_toArray, List.map_cons, List.map_nil, hs, hx, hr]
  exact hk
end
end Go.Proofs.YtbgilpmoijdcfaaGreat

/-
  Rows of numbers that a call makes; what chains are.
-/
namespace Go.Proofs.YtbgilpmoijdcfaaGreat
open Go Go.RowKit
set_option linter.unusedVariables false
set_option linter.unusedSimpArgs false

theorem info_parts {P : Program} {t : TypeId} {z : Value} {n k : Nat} (h : (P.info? t).map (fun i => (i.zero, i.size, i.bytes)) = some (some z, n, k)) : ∃ i0, P.info? t = some i0 ∧ i0.zero = some z ∧ i0.size = n ∧ i0.bytes = k := by
  cases hi : P.info? t with
  | none => rw [hi] at h; simp at h
  | some i0 => rw [hi] at h; simp at h; exact ⟨i0, rfl, h.1, h.2.1, h.2.2⟩
theorem Tryz.infoInt : (Tryz.prog.info? 3).map (fun i => (i.zero, i.size, i.bytes)) = some (some (.int .i64 0), 1, 8) := by kernel_rfl

/-- numbers as cells. -/
abbrev iv (l : List Int) : List Value := l.map (.int .i64)
/-- v is a row of the call's own (from block B on) that holds these numbers. -/
def IRow (B : Nat) (w : World) (A : Option Addr) (c : Nat) (l : List Int) : Prop := w.ownsRow B 3 1 (.slice A l.length c) l.length (iv l) ∧ ∀ x ∈ l, I64 x
theorem IRow.nsr {B : Nat} {w : World} {A : Option Addr} {c : Nat} {l : List Int} (h : IRow B w A c l) : NsR w w.heap.size A l := by
  obtain ⟨A', c', h1, h2⟩ := row_owned (R := NIn) rfl h.1 (fun k hk => by
    rw [Nat.mul_one]
    have h1 : ((iv l).drop k).take 1 = [.int .i64 l[k]] := by
      rw [List.take_one, List.head?_drop]
      simp [List.getElem?_eq_getElem hk]
    rw [h1]
    exact ⟨rfl, h.2 _ (List.getElem_mem _)⟩)
  simp only [Value.slice.injEq, true_and] at h1
  obtain ⟨rfl, rfl⟩ := h1
  exact h2
theorem IRow.below {B : Nat} {w w' : World} {A : Option Addr} {c : Nat} {l : List Int} (h : IRow B w A c l) (hb : Below w.heap.size w w') : IRow B w' A c l := by
  refine ⟨⟨h.1.1, ?_⟩, h.2⟩
  rcases h.1.2 with h0 | ⟨g, cap, cur, hv, hbg, hg, rest⟩
  · exact .inl h0
  · refine .inr ⟨g, cap, cur, hv, hbg, ?_, rest⟩
    have : g < w.heap.size := by
      rcases Nat.lt_or_ge g w.heap.size with h2 | h2
      · exact h2
      · rw [Array.getElem?_eq_none h2] at hg; cases hg
    rw [hb.block g this]
    exact hg
theorem IRow.nil (B : Nat) (w : World) : IRow B w none 0 [] := ⟨World.ownsRow_nil _ _ _ _, by simp⟩
/-- one more number, appended. -/
theorem IRow.snoc {B : Nat} {w w' : World} {A : Option Addr} {c : Nat} {l : List Int} {x : Int} {v : Value} {o : Obj} (h : IRow B w A c l) (hx : I64 x) (hB : B ≤ w.heap.size) (hown : w'.ownsRow B 3 1 v (l.length + 1) (iv l ++ [.int .i64 x]))
    (hg : (w.alloc o).grownBy w' (Value.slice A l.length c).ownBlock) : ∃ A' c', v = .slice A' (l ++ [x]).length c' ∧ IRow B w' A' c' (l ++ [x]) ∧ Below B w w' := by
  have hb : Below B w w' := ((Below.refl B w).alloc hB o).grown hg (by simp; omega) (fun j hj => (h.1.lt j hj).1)
  have e : iv (l ++ [x]) = iv l ++ [.int .i64 x] := by simp [iv]
  have hl : (l ++ [x]).length = l.length + 1 := by simp
  have hall : ∀ y ∈ l ++ [x], I64 y := fun y hy => by
    rcases List.mem_append.1 hy with h1 | h1
    · exact h.2 y h1
    · simp only [List.mem_singleton] at h1
      rw [h1]; exact hx
  rcases hown.2 with ⟨_, h0⟩ | ⟨g, cap, cur, hv, _⟩
  · omega
  · refine ⟨some ⟨g, 0, none⟩, cap, by rw [hl]; exact hv, ⟨?_, hall⟩, hb⟩
    rw [e, hl, ← hv]
    exact hown
/-- a call answers a new row of these numbers; nothing that was there is changed. -/
def ISays (w : World) (l : List Int) (e : Ending) (w' : World) : Prop := ∃ A c, e = .returned (.slice A l.length c) ∧ IRow w.heap.size w' A c l ∧ Below w.heap.size w w'

/-- a place in a list of declarations, each once. -/
def Met (L : List DT) (out : List Int) : Prop := out.Nodup ∧ ∀ x ∈ out, 0 ≤ x ∧ x < (L.length : Int)
theorem nodup_bound : ∀ (n : Nat) (l : List Int), l.Nodup → (∀ x ∈ l, 0 ≤ x ∧ x < (n : Int)) → l.length ≤ n
  | 0, l, _, h => by
    cases l with
    | nil => simp
    | cons x r => have := h x (by simp); omega
  | n + 1, l, hn, h => by
    by_cases hm : (n : Int) ∈ l
    · have h1 := nodup_bound n (l.erase n) (hn.erase _) (fun x hx => by
        rw [hn.mem_erase_iff] at hx
        have := h x hx.2
        omega)
      rw [List.length_erase_of_mem hm] at h1
      omega
    · have h1 := nodup_bound n l hn (fun x hx => by
        have := h x hx
        have : x ≠ n := fun e => hm (e ▸ hx)
        omega)
      omega
theorem Met.len {L : List DT} {out : List Int} (h : Met L out) : out.length ≤ L.length := nodup_bound _ _ h.1 h.2
theorem Met.i64 {L : List DT} {out : List Int} (h : Met L out) (hL : L.length ≤ 1000000000) : ∀ x ∈ out, I64 x := fun x hx => by
  have := h.2 x hx
  unfold I64
  omega
theorem Met.nil (L : List DT) : Met L [] := ⟨List.nodup_nil, by simp⟩
theorem Met.snoc {L : List DT} {out : List Int} {d q : Int} (h : Met L out) (h1 : isOfT L d q = true) (h2 : out.contains d = false) : Met L (out ++ [d]) := by
  obtain ⟨k, rfl, hk⟩ := isOfT_lt h1
  refine ⟨?_, fun x hx => ?_⟩
  · rw [List.nodup_append]
    refine ⟨h.1, by simp, fun a ha b hb => ?_⟩
    simp only [List.mem_singleton] at hb
    subst hb
    rintro rfl
    have : out.contains (k : Int) = true := by rw [List.contains_iff_mem]; exact ha
    rw [this] at h2
    cases h2
  · rcases List.mem_append.1 hx with h3 | h3
    · exact h.2 x h3
    · simp only [List.mem_singleton] at h3
      omega
theorem chainF_go {L : List DT} {f : Nat} {out : List Int} {d : Int} (h1 : isOfT L d 2 = true) (h2 : out.contains d = false) : chainF L (f + 1) out d = chainF L f (out ++ [d]) (findT L (baseT L d)) := by
  rw [chainF, h1, h2]
  rfl
theorem chainF_end {L : List DT} {f : Nat} {out : List Int} {d : Int} (h : isOfT L d 2 = false ∨ out.contains d = true) : chainF L (f + 1) out d = out := by
  rw [chainF]
  rcases h with h | h <;> rw [h] <;> simp
/-- all of a chain are classes, each once. -/
theorem chainF_met {L : List DT} : ∀ (f : Nat) (out : List Int) (d : Int), Met L out → (∀ x ∈ out, isOfT L x 2 = true) → Met L (chainF L f out d) ∧ ∀ x ∈ chainF L f out d, isOfT L x 2 = true
  | 0, out, d, h, h2 => ⟨h, h2⟩
  | f + 1, out, d, h, h2 => by
    rw [chainF]
    split
    · rename_i hh
      simp only [Bool.and_eq_true, Bool.not_eq_eq_eq_not, Bool.not_true] at hh
      refine chainF_met f _ _ (h.snoc hh.1 hh.2) fun x hx => ?_
      rcases List.mem_append.1 hx with h3 | h3
      · exact h2 x h3
      · simp only [List.mem_singleton] at h3
        rw [h3]; exact hh.1
    · exact ⟨h, h2⟩
theorem chainT_met (L : List DT) (d : Int) : Met L (chainT L d) := (chainF_met _ _ _ (Met.nil L) (by simp)).1
theorem chainT_class (L : List DT) (d : Int) : ∀ x ∈ chainT L d, isOfT L x 2 = true := (chainF_met _ _ _ (Met.nil L) (by simp)).2
def lenOfV : Value → Nat | .slice _ n _ => n | _ => 0
end Go.Proofs.YtbgilpmoijdcfaaGreat

/-
  governorref6.Chain BY A CONTRACT.
-/
namespace Go.Proofs.YtbgilpmoijdcfaaGreat
open Go Go.RowKit
set_option linter.unusedVariables false
set_option linter.unusedSimpArgs false

/-- what a unit's parameter is: a block of its own that holds the row's slice. -/
structure UAt (w R : World) (A : Option Addr) (c : Nat) (L : List DT) : Prop where
  size : w.heap.size + 1 ≤ R.heap.size
  below : Below w.heap.size w R
  cell : ∀ W, Below R.heap.size R W → W.cell? ⟨w.heap.size, 0, none⟩ = some (.slice A L.length c)
  row : ∀ W, Below R.heap.size R W → DsR W w.heap.size A L
theorem UAt.of {w : World} {A : Option Addr} {c : Nat} {L : List DT} (ha : DsR w w.heap.size A L) : UAt w (w.alloc (.cells #[.slice A L.length c] 31)) A c L := by
  have hb0 : Below w.heap.size w (w.alloc (.cells #[.slice A L.length c] 31)) := (Below.refl _ _).alloc (Nat.le_refl _) _
  refine ⟨by simp, hb0, fun W h => ?_, fun W h => ?_⟩
  · rw [h.cell (p := ⟨w.heap.size, 0, none⟩) (by simp), cell_of_row _ _ 0 _ _ _ (heap_alloc_new w _)]
    rfl
  · exact DsR.mono (Nat.le_refl _) (hb0.trans (h.mono hb0.size)).block ha
theorem UAt.alloc {w R : World} {A : Option Addr} {c : Nat} {L : List DT} (h : UAt w R A c L) (o : Obj) : UAt w (R.alloc o) A c L := by
  have hb : Below R.heap.size R (R.alloc o) := (Below.refl _ _).alloc (Nat.le_refl _) _
  have hs := h.size
  refine ⟨by simp; omega, h.below.trans (hb.mono (by omega)), fun W k => h.cell W (hb.trans (k.mono (by simp))), fun W k => h.row W (hb.trans (k.mono (by simp)))⟩
theorem UAt.out {w R W : World} {A : Option Addr} {c : Nat} {L : List DT} (h : UAt w R A c L) (hb : Below R.heap.size R W) : Below w.heap.size w W := h.below.trans (hb.mono h.below.size)
/-- in memory of later on the row is still one. -/
theorem UAt.rowAt {w R W : World} {A : Option Addr} {c : Nat} {L : List DT} (h : UAt w R A c L) (hb : Below R.heap.size R W) : DsR W W.heap.size A L := DsR.mono (h.out hb).size (fun _ _ => rfl) (h.row W hb)

theorem IRow.at_ {B : Nat} {w : World} {g o c : Nat} {l : List Int} (h : IRow B w (some ⟨g, o, none⟩) c l) {k : Nat} (hk : k < l.length) : w.cell? ⟨g, o + k, none⟩ = some (.int .i64 l[k]) := by
  obtain ⟨g', o', cs, e, _, _, hc, he⟩ := h.nsr k hk
  simp only [Option.some.injEq, Addr.mk.injEq, and_true] at e
  obtain ⟨rfl, rfl⟩ := e
  obtain ⟨rfl, _⟩ := he
  have := hc 0 _ rfl
  simpa using this
theorem IRow.isBlock {B : Nat} {w : World} {A : Option Addr} {c : Nat} {l : List Int} (h : IRow B w A c l) (hk : 0 < l.length) : ∃ g, A = some ⟨g, 0, none⟩ := by
  rcases h.1.2 with ⟨_, h0⟩ | ⟨g, cap, cur, hv, _⟩
  · omega
  · simp only [Value.slice.injEq] at hv
    exact ⟨g, hv.1⟩
theorem IRow.one {B : Nat} (w : World) (d : Int) (hd : I64 d) (hB : B ≤ w.heap.size) : IRow B (w.alloc (.cells #[.int .i64 d] 3)) (some ⟨w.heap.size, 0, none⟩) 1 [d] := by
  refine ⟨(⟨rfl, .inr ⟨w.heap.size, 1, #[.int .i64 d], rfl, hB, heap_alloc_new _ _, Nat.le_refl _, by unfold maxLen; omega, rfl, rfl⟩⟩ : World.ownsRow _ _ _ 1 _ 1 [.int .i64 d]), fun x hx => ?_⟩
  simp only [List.mem_singleton] at hx
  rw [hx]; exact hd
/-- a declaration in a unit: its cells, its rows; wherever the call goes on. -/
theorem UAt.decl {w R : World} {A : Option Addr} {c : Nat} {L : List DT} (h : UAt w R A c L) {k : Nat} (hk : k < L.length) : ∃ (q o : Nat) (E1 : Option Addr) (e1 : Nat) (E2 : Option Addr) (e2 : Nat) (E3 : Option Addr) (e3 : Nat) (E4 : Option Addr) (e4 : Nat), A = some ⟨q, o, none⟩ ∧ q < w.heap.size ∧ ∀ W, Below R.heap.size R W →
    (XsR W w.heap.size E1 L[k].faces ∧ VsR W w.heap.size E2 L[k].vars ∧ MsR W w.heap.size E3 L[k].methods ∧ SsR W w.heap.size E4 L[k].body ∧ I64 L[k].every ∧ I64 L[k].first) ∧
    W.cell? ⟨q, o + k * 11, none⟩ = some (.int .i64 L[k].kind) ∧ W.cell? ⟨q, o + k * 11 + 1, none⟩ = some (.string L[k].name) ∧ W.cell? ⟨q, o + k * 11 + 2, none⟩ = some (.string L[k].base) ∧ W.cell? ⟨q, o + k * 11 + 3, none⟩ = some (.slice E1 L[k].faces.length e1) ∧
    W.cell? ⟨q, o + k * 11 + 4, none⟩ = some (.bool L[k].abstract) ∧ W.cell? ⟨q, o + k * 11 + 5, none⟩ = some (.bool L[k].final) ∧ W.cell? ⟨q, o + k * 11 + 6, none⟩ = some (.slice E2 L[k].vars.length e2) ∧ W.cell? ⟨q, o + k * 11 + 7, none⟩ = some (.slice E3 L[k].methods.length e3) ∧
    W.cell? ⟨q, o + k * 11 + 8, none⟩ = some (.slice E4 L[k].body.length e4) ∧ W.cell? ⟨q, o + k * 11 + 9, none⟩ = some (.int .i64 L[k].every) ∧ W.cell? ⟨q, o + k * 11 + 10, none⟩ = some (.int .i64 L[k].first) := by
  obtain ⟨q, o, cs, hA, hq, _, hcs, he⟩ := h.row R (Below.refl _ _) k hk
  obtain ⟨E1, e1, E2, e2, E3, e3, E4, e4, rfl, hv1, hv2, r1, r2, r3, r4⟩ := he
  refine ⟨q, o, E1, e1, E2, e2, E3, e3, E4, e4, hA, hq, fun W hW => ?_⟩
  have hk2 : ∀ g, g < w.heap.size → W.heap[g]? = R.heap[g]? := fun g hg => hW.block g (by have := h.size; omega)
  have hc : ∀ (j : Nat) u, [Value.int .i64 L[k].kind, .string L[k].name, .string L[k].base, .slice E1 L[k].faces.length e1, .bool L[k].abstract, .bool L[k].final, .slice E2 L[k].vars.length e2, .slice E3 L[k].methods.length e3, .slice E4 L[k].body.length e4, .int .i64 L[k].every, .int .i64 L[k].first][j]? = some u → W.cell? ⟨q, o + k * 11 + j, none⟩ = some u := fun j u hj => (World.cell?_of_block (hk2 q hq)).trans (hcs j u hj)
  refine ⟨⟨r1.mono (Nat.le_refl _) hk2, r2.mono (Nat.le_refl _) hk2, r3.mono (Nat.le_refl _) hk2, r4.mono (Nat.le_refl _) hk2, hv1, hv2⟩, ?_⟩
  exact ⟨hc 0 _ rfl, hc 1 _ rfl, hc 2 _ rfl, hc 3 _ rfl, hc 4 _ rfl, hc 5 _ rfl, hc 6 _ rfl, hc 7 _ rfl, hc 8 _ rfl, hc 9 _ rfl, hc 10 _ rfl⟩
theorem ownsRow_lower {w : World} {B B' sz n : Nat} {e : TypeId} {v : Value} {xs : List Value} (h : B' ≤ B) (hr : w.ownsRow B e sz v n xs) : w.ownsRow B' e sz v n xs := by
  refine ⟨hr.1, ?_⟩
  rcases hr.2 with h0 | ⟨g, cap, cur, hv, hb, rest⟩
  · exact .inl h0
  · exact .inr ⟨g, cap, cur, hv, Nat.le_trans h hb, rest⟩
end Go.Proofs.YtbgilpmoijdcfaaGreat

/-
  governorref6: own, Method BY CONTRACTS.
-/
namespace Go.Proofs.YtbgilpmoijdcfaaGreat
open Go Go.RowKit
set_option linter.unusedVariables false
set_option linter.unusedSimpArgs false

/-- a declaration as a value. -/
abbrev dv (d : DT) (A1 A2 A3 A4 : Option Addr) (c1 c2 c3 c4 : Nat) : Value := .agg #[.int .i64 d.kind, .string d.name, .string d.base, .slice A1 d.faces.length c1, .bool d.abstract, .bool d.final, .slice A2 d.vars.length c2, .slice A3 d.methods.length c3, .slice A4 d.body.length c4, .int .i64 d.every, .int .i64 d.first]

theorem results_where {fn : Func} {p u : Tmp} (h : fn.results = #[.cell p 68, .tmp u]) (tmps : Array Value) (w : World) (g : Nat) (v0 v1 : Value) (hp : tmps.getD p undef = .pointer (some ⟨g, 0, none⟩))
    (c0 : w.cell? ⟨g, 0, none⟩ = some v0) (c1 : w.cell? ⟨g, 1, none⟩ = some v1) :
    (results fn tmps).run Tryz.prog w = .ok (.tuple #[.agg #[v0, v1], tmps.getD u undef]) w := by
  have hp2 : tmps[p]?.getD undef = .pointer (some ⟨g, 0, none⟩) := by simpa using hp
  simp only [results, h]
  simp [hp2, go_sem, c0, c1]
/-- what Method answers. -/
def whereV : Option (Int × Int) → Value
  | none => .tuple #[.agg #[.int .i64 0, .int .i64 0], .bool false]
  | some (a, b) => .tuple #[.agg #[.int .i64 a, .int .i64 b], .bool true]
def MSays (w : World) (r : Option (Int × Int)) (e : Ending) (w' : World) : Prop := e = .returned (whereV r) ∧ Below w.heap.size w w'
theorem homesT_in (L : List DT) (d : Int) : ∀ x ∈ homesT L d, ∃ k : Nat, x = k ∧ k < L.length := fun x hx => by
  unfold homesT at hx
  split at hx
  · rename_i h
    simp only [List.mem_singleton] at hx
    rw [hx]
    exact isOfT_lt h
  · have := (chainT_met L d).2 x hx
    exact ⟨x.toNat, by omega, by omega⟩
/-- behind the store of the result, its variable in block g. -/
theorem ret_where {fn : Func} {p u : Tmp} (h : fn.results = #[.cell p 68, .tmp u]) {R : Ending → World → Prop} {w3 : World} {g : Nat} {u0 u1 : Value} {a b : Int} {ev : Bool} {x : Act}
    (hg : w3.heap[g]? = some (.cells #[u0, u1] 68 (0, 0))) (hp : x.tmps.getD p undef = .pointer (some ⟨g, 0, none⟩)) (hu : x.tmps.getD u undef = .bool ev) (hd : x.defers = [])
    (hR : R (.returned (.tuple #[.agg #[.int .i64 a, .int .i64 b], .bool ev])) ((w3.setCell ⟨g, 0, none⟩ (.int .i64 a)).setCell ⟨g, 1, none⟩ (.int .i64 b))) :
    bodyPost Tryz.prog fn R Exit.ret x ((w3.setCell ⟨g, 0, none⟩ (.int .i64 a)).setCell ⟨g, 1, none⟩ (.int .i64 b)) := by
  have z0 : w3.cell? ⟨g, 0, none⟩ = some u0 := by rw [cell_of_row _ _ 0 _ _ _ hg]; rfl
  have z1 : w3.cell? ⟨g, 1, none⟩ = some u1 := by rw [cell_of_row _ _ 1 _ _ _ hg]; rfl
  rw [← hu] at hR
  refine bodyPost_ret (results_where h _ _ g (.int .i64 a) (.int .i64 b) hp ?_ ?_) hd hR
  all_goals simp [go_sem, z0, z1]
theorem methodF_drop {L : List DT} {s : ByteArray} {H : List Int} {i : Nat} (hi : i < H.length) : methodF L s (H.drop i) = if 0 ≤ ownT (methodsOf L H[i]) s then some (H[i], ownT (methodsOf L H[i]) s) else methodF L s (H.drop (i + 1)) := by
  rw [List.drop_eq_getElem_cons hi, methodF]
theorem ownF_small (s : ByteArray) : ∀ (l : List MT) (k : Nat), -1 ≤ ownF s l k ∧ ownF s l k < k + l.length + 1
  | [], k => by unfold ownF; simp only [List.length_nil]; omega
  | d :: r, k => by
    unfold ownF
    split
    · simp only [List.length_cons]; omega
    · have := ownF_small s r (k + 1)
      simp only [List.length_cons]; omega
theorem blk_cells {R W : World} {g : Nat} {u0 u1 : Value} {T : TypeId} (hg : R.heap[g]? = some (.cells #[u0, u1] T (0, 0))) (hb : Below R.heap.size R W) : W.heap[g]? = some (.cells #[u0, u1] T (0, 0)) := (hb.block _ (by
  rcases Nat.lt_or_ge g R.heap.size with h2 | h2
  · exact h2
  · rw [Array.getElem?_eq_none h2] at hg; cases hg)).trans hg
end Go.Proofs.YtbgilpmoijdcfaaGreat

/-
  governorref6.Faces BY A CONTRACT.
-/
namespace Go.Proofs.YtbgilpmoijdcfaaGreat
open Go Go.RowKit
set_option linter.unusedVariables false
set_option linter.unusedSimpArgs false

/-- the interfaces of these classes, those ahead given. -/
def facesF (L : List DT) (out : List Int) (cs : List Int) : List Int := cs.foldl (fun out c => (facesOf L c).foldl (faceStep L) out) out
theorem facesF_drop {L : List DT} {out C : List Int} {i : Nat} (hi : i < C.length) : facesF L out (C.drop i) = facesF L ((facesOf L C[i]).foldl (faceStep L) out) (C.drop (i + 1)) := by
  rw [List.drop_eq_getElem_cons hi]
  rfl
theorem fold_drop {L : List DT} {out : List Int} {F : List ByteArray} {k : Nat} (hk : k < F.length) : (F.drop k).foldl (faceStep L) out = (F.drop (k + 1)).foldl (faceStep L) (faceStep L out F[k]) := by
  rw [List.drop_eq_getElem_cons hk]
  rfl
theorem faceStep_met {L : List DT} {out : List Int} {s : ByteArray} (h : Met L out) : Met L (faceStep L out s) := by
  unfold faceStep
  split
  · rename_i hh
    simp only [Bool.and_eq_true, Bool.not_eq_eq_eq_not, Bool.not_true] at hh
    exact h.snoc hh.1 hh.2
  · exact h

theorem facesF_met {L : List DT} : ∀ (cs out : List Int), Met L out → Met L (facesF L out cs)
  | [], _, h => h
  | x :: r, out, h => by
    have h2 : ∀ (F : List ByteArray) (o : List Int), Met L o → Met L (F.foldl (faceStep L) o) := by
      intro F
      induction F with
      | nil => exact fun o h => h
      | cons s F ih => exact fun o h => ih _ (faceStep_met h)
    exact facesF_met r _ (h2 _ _ h)
theorem facesT_met (L : List DT) (d : Int) : Met L (facesT L d) := facesF_met _ _ (Met.nil L)
end Go.Proofs.YtbgilpmoijdcfaaGreat

/-
  governorref6.Is BY A CONTRACT.
-/
namespace Go.Proofs.YtbgilpmoijdcfaaGreat
open Go Go.RowKit
set_option linter.unusedVariables false
set_option linter.unusedSimpArgs false

/-- a class, an interface, neither. -/
theorem kinds3 (k : Int) : ((k != 2) = false ∧ (k != 1) = true ∧ decide (k = 2) = true ∧ decide (k = 1) = false) ∨ ((k != 2) = true ∧ (k != 1) = false ∧ decide (k = 2) = false ∧ decide (k = 1) = true) ∨ ((k != 2) = true ∧ (k != 1) = true ∧ decide (k = 2) = false ∧ decide (k = 1) = false) := by
  by_cases h2 : k = 2
  · subst h2; left; decide
  · by_cases h1 : k = 1
    · subst h1; right; left; decide
    · right; right; simp [h1, h2]
end Go.Proofs.YtbgilpmoijdcfaaGreat

/-
  Rows of variables that a call makes; governorref6.Fields BY A CONTRACT.
-/
namespace Go.Proofs.YtbgilpmoijdcfaaGreat
open Go Go.RowKit
set_option linter.unusedVariables false
set_option linter.unusedSimpArgs false

theorem Tryz.infoVar : (Tryz.prog.info? 41).map (fun i => (i.zero.map (·.cells.size), i.size, i.bytes)) = some (some 8, 8, 80) := by kernel_rfl
theorem vin_one {v : VT} {cs : List Value} (h : VIn v cs) : ∀ u ∈ cs, u.oneCell' = true := by
  obtain ⟨rfl, _⟩ := h
  unfold VT.cells
  simp [Value.oneCell']
/-- v is a row of the call's own (from block B on) that holds these variables. -/
def VRow (B : Nat) (w : World) (A : Option Addr) (c : Nat) (l : List VT) : Prop := ∃ xs, w.ownsRow B 41 8 (.slice A l.length c) l.length xs ∧ ∀ (k : Nat) (hk : k < l.length), VIn l[k] ((xs.drop (k * 8)).take 8)
theorem VRow.vsr {B : Nat} {w : World} {A : Option Addr} {c : Nat} {l : List VT} (h : VRow B w A c l) : VsR w w.heap.size A l := by
  obtain ⟨xs, h1, h2⟩ := h
  obtain ⟨A', c', e, h3⟩ := row_owned (R := VIn) rfl h1 h2
  simp only [Value.slice.injEq, true_and] at e
  obtain ⟨rfl, rfl⟩ := e
  exact h3
theorem ownsRow_far {w w' : World} {B sz n : Nat} {e : TypeId} {v : Value} {xs : List Value} (h : w.ownsRow B e sz v n xs) (hb : Below w.heap.size w w') : w'.ownsRow B e sz v n xs := by
  refine ⟨h.1, ?_⟩
  rcases h.2 with h0 | ⟨g, cap, cur, hv, hbg, hg, rest⟩
  · exact .inl h0
  · refine .inr ⟨g, cap, cur, hv, hbg, ?_, rest⟩
    have : g < w.heap.size := by
      rcases Nat.lt_or_ge g w.heap.size with h2 | h2
      · exact h2
      · rw [Array.getElem?_eq_none h2] at hg; cases hg
    rw [hb.block g this]
    exact hg
theorem VRow.below {B : Nat} {w w' : World} {A : Option Addr} {c : Nat} {l : List VT} (h : VRow B w A c l) (hb : Below w.heap.size w w') : VRow B w' A c l := by
  obtain ⟨xs, h1, h2⟩ := h
  exact ⟨xs, ownsRow_far h1 hb, h2⟩
theorem VRow.nil (B : Nat) (w : World) : VRow B w none 0 [] := ⟨[], World.ownsRow_nil _ _ _ _, fun k hk => by simp at hk⟩
theorem VRow.lower {B B' : Nat} {w : World} {A : Option Addr} {c : Nat} {l : List VT} (h : VRow B w A c l) (hb : B' ≤ B) : VRow B' w A c l := by
  obtain ⟨xs, h1, h2⟩ := h
  exact ⟨xs, ownsRow_lower hb h1, h2⟩
/-- a call answers a new row of these variables; nothing that was there is changed. -/
def VSays (w : World) (l : List VT) (e : Ending) (w' : World) : Prop := ∃ A c, e = .returned (.slice A l.length c) ∧ VRow w.heap.size w' A c l ∧ Below w.heap.size w w'
theorem use2 {α β : Type} {R : α → β → Prop} {S P : α → β → Prop} (h : ∃ a b, R a b ∧ S a b) (k : ∀ a b, S a b → P a b) : ∃ a b, R a b ∧ P a b := by
  obtain ⟨a, b, h1, h2⟩ := h
  exact ⟨a, b, h1, k a b h2⟩
theorem sum_at_le {α : Type} (f : α → Nat) : ∀ (l : List α) (k : Nat) (hk : k < l.length), f l[k] ≤ (l.map f).sum
  | x :: r, 0, _ => by simp only [List.getElem_cons_zero, List.map_cons, List.sum_cons]; omega
  | x :: r, k + 1, hk => by
    have := sum_at_le f r k (by simpa using hk)
    simp only [List.getElem_cons_succ, List.map_cons, List.sum_cons]
    omega
theorem flat_le {α β : Type} (f : α → List β) (M : Nat) : ∀ l : List α, (∀ x ∈ l, (f x).length ≤ M) → (l.flatMap f).length ≤ l.length * M
  | [], _ => by simp
  | x :: r, h => by
    have h1 := h x (by simp)
    have h2 := flat_le f M r (fun y hy => h y (by simp [hy]))
    simp only [List.flatMap_cons, List.length_append, List.length_cons, Nat.add_mul]
    omega
theorem append_capless (t ty : TypeId) (v : Value) (c : Nat) : Builtin.append_ #[t, t] ty #[v, .slice none 0 c] = Builtin.append_ #[t, t] ty #[v, .slice none 0 0] := rfl
/-- append of a row of variables, wherever it lies, onto one of the call's own. -/
theorem app_vars {B B' : Nat} {W : World} {A A1 : Option Addr} {c c1 : Nat} {l m : List VT} (h : VRow B W A c l) (hm : VsR W B' A1 m) (hlen : l.length + m.length ≤ 1700000000000) (hB : B ≤ W.heap.size) :
    ∃ A' c' w', (Builtin.append_ #[24, 24] 24 #[.slice A l.length c, .slice A1 m.length c1]).run Tryz.prog W = .ok (.slice A' (l ++ m).length c') w' ∧ VRow B w' A' c' (l ++ m) ∧ Below B W w' ∧ W.grownBy w' (Value.slice A l.length c).ownBlock ∧
      ((Value.slice A' (l ++ m).length c').ownBlock = (Value.slice A l.length c).ownBlock ∨ (Value.slice A' (l ++ m).length c').ownBlock = some W.heap.size) := by
  have hi0 : (Tryz.prog.info? 41).map (fun i => (i.zero.map (·.cells.size), i.size, i.bytes)) = some (some 8, 8, 80) := Tryz.infoVar
  obtain ⟨i0, hi, hz0, hz1, hz2⟩ : ∃ i0, Tryz.prog.info? 41 = some i0 ∧ i0.zero.map (·.cells.size) = some 8 ∧ i0.size = 8 ∧ i0.bytes = 80 := by
    cases hq : Tryz.prog.info? 41 with
    | none => rw [hq] at hi0; simp at hi0
    | some i0 => rw [hq] at hi0; simp at hi0; exact ⟨i0, rfl, by simpa using hi0.1, hi0.2.1, hi0.2.2⟩
  obtain ⟨z, hz, hzs⟩ := Option.map_eq_some_iff.1 hz0
  obtain ⟨xs, hown, hx⟩ := h
  obtain ⟨ys, y1, y2, y3, y4⟩ := row_cells (by decide) (fun a cs h => vin_one h) hm
  have hA : (A1 = none ∧ m.length = 0) ∨ ∃ g o, A1 = some ⟨g, o, none⟩ ∨ (m.length = 0 ∧ A1 = some ⟨g, o, none⟩) ∨ (m.length = 0 ∧ ∃ a, A1 = some a) := by
    cases A1 with
    | none =>
      left
      refine ⟨rfl, ?_⟩
      rcases Nat.eq_zero_or_pos m.length with h0 | h0
      · exact h0
      · obtain ⟨g, o, cs, e, _⟩ := hm 0 h0
        cases e
    | some a =>
      right
      rcases Nat.eq_zero_or_pos m.length with h0 | h0
      · exact ⟨0, 0, .inr (.inr ⟨h0, a, rfl⟩)⟩
      · obtain ⟨g, o, cs, e, _⟩ := hm 0 h0
        exact ⟨g, o, .inl e⟩
  have run : ∃ v' w', (Builtin.append_ #[24, 24] 24 #[.slice A l.length c, .slice A1 m.length c1]).run Tryz.prog W = .ok v' w' ∧ w'.ownsRow B 41 8 v' (l.length + m.length) (xs ++ ys) ∧ W.grownBy w' (Value.slice A l.length c).ownBlock ∧ (v'.ownBlock = (Value.slice A l.length c).ownBlock ∨ v'.ownBlock = some W.heap.size) := by
    have go : ∀ c1 : Nat, ((A1 = none ∧ m.length = 0 ∧ c1 = 0) ∨ (m.length = 0 ∧ ∃ a, A1 = some a) ∨ ∃ g o, A1 = some ⟨g, o, none⟩) → ∃ v' w', (Builtin.append_ #[24, 24] 24 #[.slice A l.length c, .slice A1 m.length c1]).run Tryz.prog W = .ok v' w' ∧ w'.ownsRow B 41 8 v' (l.length + m.length) (xs ++ ys) ∧ W.grownBy w' (Value.slice A l.length c).ownBlock ∧ (v'.ownBlock = (Value.slice A l.length c).ownBlock ∨ v'.ownBlock = some W.heap.size) := fun c1 hA => app_run (P := Tryz.prog) (w := W) (base := B) (t := 24) (ty := 24) (bytes := 80) Tryz.underlying24 hi hz hz1 hz2 hzs (by decide) hown (A := A1) (m := m.length) (c := c1) (news := ys) y1 (fun g o e j u hj => y2 g o e j u hj) hA y3 (by unfold maxLen; omega) (by omega) hB
    rcases hA with ⟨h1, h2⟩ | ⟨g, o, h1 | ⟨h2, h1⟩ | ⟨h2, h1⟩⟩
    · have := go 0 (.inl ⟨h1, h2, rfl⟩)
      rw [h1, h2, append_capless]
      rw [h1, h2] at this
      exact this
    · exact go c1 (.inr (.inr ⟨g, o, h1⟩))
    · exact go c1 (.inr (.inr ⟨g, o, h1⟩))
    · exact go c1 (.inr (.inl ⟨h2, h1⟩))
  obtain ⟨v', w', k1, k2, k3, k4⟩ := run
  have hlm : (l ++ m).length = l.length + m.length := List.length_append
  have hshape : ∃ A' c', v' = .slice A' (l ++ m).length c' := by
    rcases k2.2 with ⟨h1, h2⟩ | ⟨g, cap, cur, h1, _⟩
    · exact ⟨none, 0, by rw [h1, hlm, h2]⟩
    · exact ⟨_, cap, by rw [h1, hlm]⟩
  obtain ⟨A', c', rfl⟩ := hshape
  refine ⟨A', c', w', k1, ⟨xs ++ ys, by rw [← hlm] at k2; exact k2, fun k hk => ?_⟩, (Below.refl B W).grown k3 hB (fun j hj => (hown.lt j hj).1), k3, k4⟩
  have hxl : xs.length = l.length * 8 := hown.1
  by_cases hkn : k < l.length
  · rw [List.getElem_append_left hkn]
    have e : (((xs ++ ys).drop (k * 8)).take 8) = ((xs.drop (k * 8)).take 8) := by
      have : (k + 1) * 8 ≤ l.length * 8 := Nat.mul_le_mul_right _ (by omega)
      rw [List.drop_append_of_le_length (by omega), List.take_append_of_le_length (by simp only [List.length_drop]; omega)]
    rw [e]
    exact hx k hkn
  · have hk2 : k - l.length < m.length := by simp at hk; omega
    rw [List.getElem_append_right (by omega)]
    have e : (((xs ++ ys).drop (k * 8)).take 8) = ((ys.drop ((k - l.length) * 8)).take 8) := by
      have e1 : k * 8 = xs.length + (k - l.length) * 8 := by
        have e2 : l.length + (k - l.length) = k := by omega
        rw [hxl, ← Nat.add_mul, e2]
      rw [e1, ← List.drop_drop, List.drop_left]
    rw [e]
    exact y4 (k - l.length) hk2
set_option maxRecDepth 100000 in
/-- append, walked in the text's order. -/
theorem wpList_app {P : Program} {w : World} {ops : Array Oper} {rest : List Oper} {o : Oper} {a : Act} {Q : Exit → Act → World → Prop} (hgd : o.guard = none) (s x : Operand) (t : TypeId)
    (ho : o.op = .call { callee := .builtin .append, args := #[s, x], argTypes := #[t, t] }) (v u : Value) (hs : a.eval s = v) (hx : a.eval x = u)
    (h : ∃ v' w', (Builtin.append_ #[t, t] o.type #[v, u]).run P w = .ok v' w' ∧ wpList P ops Q rest (a.put o.dst v') w') : wpList P ops Q (o :: rest) a w := by
  obtain ⟨v', w', hr, hk⟩ := h
  refine wpList_plain hgd fun K hK => ?_
  unfold Oper.wp execOp
  simp only [ho, resolve, invoke, builtin, Sem.run_bind, Sem.run_pure, Result.andThen_ok, List.map_toArray, List.map_cons, List.map_nil, hs, hx, hr]
  exact hK _ _ hk

end Go.Proofs.YtbgilpmoijdcfaaGreat

/-
  governorref6.Alike BY A CONTRACT.
-/
namespace Go.Proofs.YtbgilpmoijdcfaaGreat
open Go Go.RowKit
set_option linter.unusedVariables false
set_option linter.unusedSimpArgs false

/-- a method's cells. -/
abbrev mcells (m : MT) (A1 A2 A3 : Option Addr) (c1 c2 c3 : Nat) : Array Value := #[.string m.name, .bool m.over, .bool m.abstract, .bool m.final, .slice A1 m.params.length c1, .int .i64 m.result.kind, .int .i64 m.result.lo, .int .i64 m.result.hi, .string m.result.name, .slice A2 m.vars.length c2, .slice A3 m.body.length c3]
theorem alike_len {a b : MT} (h : ¬ a.params.length = b.params.length) : alikeT a b = false := by
  unfold alikeT
  have : ¬ (a.params.map (fun v => v.type.tup) = b.params.map (fun v => v.type.tup)) := fun e => h (by simpa using congrArg List.length e)
  rw [decide_eq_false this, Bool.and_false]
theorem alike_res {a b : MT} (h : ¬ a.result.tup = b.result.tup) : alikeT a b = false := by
  unfold alikeT
  rw [decide_eq_false h, Bool.false_and]
theorem alike_par {a b : MT} (h : a.result.tup = b.result.tup) (k : Nat) (h1 : k < a.params.length) (h2 : k < b.params.length) (hk : ¬ a.params[k].type.tup = b.params[k].type.tup) : alikeT a b = false := by
  unfold alikeT
  have : ¬ (a.params.map (fun v => v.type.tup) = b.params.map (fun v => v.type.tup)) := fun e => hk (by
    have e2 : (a.params.map (fun v => v.type.tup))[k]? = (b.params.map (fun v => v.type.tup))[k]? := by rw [e]
    simpa [List.getElem?_map, List.getElem?_eq_getElem h1, List.getElem?_eq_getElem h2] using e2)
  rw [decide_eq_false this, Bool.and_false]
theorem alike_yes {a b : MT} (h : a.result.tup = b.result.tup) (hl : a.params.length = b.params.length) (hk : ∀ k (h1 : k < a.params.length) (h2 : k < b.params.length), a.params[k].type.tup = b.params[k].type.tup) : alikeT a b = true := by
  unfold alikeT
  have : a.params.map (fun v => v.type.tup) = b.params.map (fun v => v.type.tup) := by
    apply List.ext_getElem
    · simpa using hl
    · intro i h1 h2
      simp only [List.getElem_map]
      exact hk i (by simpa using h1) (by simpa using h2)
  rw [decide_eq_true this, decide_eq_true h, Bool.and_self]
theorem ne_yes2 {a b : Nat} (h : ¬ a = b) : ((a : Int) != (b : Int)) = true := by simp; omega
theorem ne_no2 {a b : Nat} (h : a = b) : ((a : Int) != (b : Int)) = false := by simp [h]
theorem eq_no {a b : Int} (h : a ≠ b) : (a == b) = false := by simp [h]
/-- two types: one, or where they part first. -/
theorem tup_cases (s t : YT) : (s.kind ≠ t.kind ∧ s.tup ≠ t.tup) ∨ (s.kind = t.kind ∧ s.lo ≠ t.lo ∧ s.tup ≠ t.tup) ∨ (s.kind = t.kind ∧ s.lo = t.lo ∧ s.hi ≠ t.hi ∧ s.tup ≠ t.tup) ∨ (s.kind = t.kind ∧ s.lo = t.lo ∧ s.hi = t.hi ∧ s.name ≠ t.name ∧ s.tup ≠ t.tup) ∨ (s.kind = t.kind ∧ s.lo = t.lo ∧ s.hi = t.hi ∧ s.name = t.name ∧ s.tup = t.tup) := by
  unfold YT.tup
  by_cases h1 : s.kind = t.kind <;> by_cases h2 : s.lo = t.lo <;> by_cases h3 : s.hi = t.hi <;> by_cases h4 : s.name = t.name <;> simp [h1, h2, h3, h4]

end Go.Proofs.YtbgilpmoijdcfaaGreat

/-
  lookup: what an index is, what its calls change; Of, isOf BY CONTRACTS.
-/
namespace Go.Proofs.YtbgilpmoijdcfaaGreat
open Go Go.RowKit
set_option linter.unusedVariables false
set_option linter.unusedSimpArgs false

/-- what is asked of a unit: no list of it is longer than memory bears. -/
structure Fit (L : List DT) : Prop where
  len : L.length ≤ 32
  names : ∀ d ∈ L, d.name.size ≤ 1000000000
  faces : ∀ d ∈ L, d.faces.length ≤ 1000000000
  bases : ∀ d ∈ L, d.base.size ≤ 1000000000
  fnames : ∀ d ∈ L, ∀ f ∈ d.faces, f.size ≤ 1000000000
theorem Fit.cnt {L : List DT} (h : Fit L) : L.length ≤ 1000000000 := Nat.le_trans h.len (by decide)
/-- and no list of methods, none of variables is longer than memory bears. -/
structure FitA (L : List DT) : Prop extends Fit L where
  methods : ∀ d ∈ L, d.methods.length ≤ 1000000000
  vars : ∀ d ∈ L, d.vars.length ≤ 1048576
instance fitOf {L : List DT} : Coe (FitA L) (Fit L) := ⟨fun h => h.toFit⟩
/-- what GreatUnit says: what is not great bears this. -/
def GreatF (L : List DT) (w : World) (e : Ending) (w' : World) : Prop := (∃ r : Bool, e = .returned (.bool r) ∧ Hid (r = false → Fit L)) ∧ Below w.heap.size w w'

/-- a map's datum tells these numbers, -1 where a name is no key. -/
def MapOf (D : DataW Unit) (f : ByteArray → Int) : Prop := Maps.IsMap D ∧ ∀ s : ByteArray, (f s = -1 → Maps.has D (.string s.data.toList) = false) ∧ (f s ≠ -1 → Maps.has D (.string s.data.toList) = true ∧ ∀ z, D.atKey (.string s.data.toList) z = .lit (.int .i64 (f s)))

/-- what an index has made by now: the block of its map, the block of its bases' row. -/
structure IX where
  mb : Option Nat
  g : Option Nat
/-- a block that is an index's own. -/
def IX.has (p : Nat) (I : IX) (h : Nat) : Prop := h = p ∨ I.mb = some h ∨ I.g = some h
def basesV (n : Nat) : Option Nat → Value
  | none => .slice none 0 0
  | some g => .slice (some ⟨g, 0, none⟩) n n
/-- an index's cells. -/
abbrev ixCells (A : Option Addr) (n c : Nat) (I : IX) : Array Value := #[.slice A n c, .map I.mb, basesV n I.g]
structure XAt (L : List DT) (A : Option Addr) (c p N : Nat) (W : World) (I : IX) : Prop where
  box : W.heap[p]? = some (.cells (ixCells A L.length c I) 53 (0, 0))
  row : DsR W N A L
  far : ∀ h, I.has p h → N ≤ h ∧ h < W.heap.size
  nm : ∀ m, I.mb = some m → m ≠ p ∧ I.g ≠ some m
  ng : ∀ g, I.g = some g → g ≠ p
  map : ∀ m, I.mb = some m → ∃ n D, W.ownsMap Tryz.prog 9 (plainElem (H := Unit) Tryz.prog 3) m n D ∧ MapOf D (findT L)
  bases : ∀ g, I.g = some g → ∃ cs : Array Value, W.heap[g]? = some (.cells cs 3 (0, 0)) ∧ cs.size = L.length ∧ ∀ i, i < L.length → cs[i]? = some (.int .i64 0) ∨ cs[i]? = some (.int .i64 (findT L (baseT L i) + 2))
/-- all that was there ahead of S stays, but an index's own blocks. -/
structure XFr (p S : Nat) (W : World) (I : IX) (W' : World) (I' : IX) : Prop where
  os : W'.os = W.os
  tape : W'.tape = W.tape
  output : W'.output = W.output
  size : W.heap.size ≤ W'.heap.size
  block : ∀ h, h < S → ¬ I.has p h → W'.heap[h]? = W.heap[h]?
  later : ∀ h, I'.has p h → I.has p h ∨ S ≤ h
/-- nothing is changed but an index's own blocks. -/
abbrev XTo (p : Nat) (W : World) (I : IX) (W' : World) (I' : IX) : Prop := XFr p W.heap.size W I W' I'
theorem XFr.refl (p S : Nat) (W : World) (I : IX) : XFr p S W I W I := ⟨rfl, rfl, rfl, Nat.le_refl _, fun _ _ _ => rfl, fun _ h => .inl h⟩
theorem XFr.trans {p S : Nat} {U V W : World} {I J K : IX} (h : XFr p S U I V J) (k : XTo p V J W K) (hS : S ≤ V.heap.size) : XFr p S U I W K := ⟨k.os.trans h.os, k.tape.trans h.tape, k.output.trans h.output, Nat.le_trans h.size k.size, fun i h1 h2 => (k.block i (by omega) (fun h3 => by rcases h.later i h3 with h4 | h4; exact h2 h4; omega)).trans (h.block i h1 h2), fun i h1 => by
  rcases k.later i h1 with h2 | h2
  · exact h.later i h2
  · exact .inr (by omega)⟩
theorem XTo.trans {p : Nat} {U V W : World} {I J K : IX} (h : XTo p U I V J) (k : XTo p V J W K) : XTo p U I W K := XFr.trans h k h.size
theorem XFr.quiet {p S : Nat} {U V W : World} {I J : IX} (h : XFr p S U I V J) (k : Below S V W) : XFr p S U I W J := ⟨k.os.trans h.os, k.tape.trans h.tape, k.output.trans h.output, Nat.le_trans h.size k.size, fun i h1 h2 => (k.block i h1).trans (h.block i h1 h2), h.later⟩
theorem XFr.low {p S S' : Nat} {W W' : World} {I I' : IX} (h : XFr p S W I W' I') (hs : S' ≤ S) : XFr p S' W I W' I' := ⟨h.os, h.tape, h.output, h.size, fun i h1 h2 => h.block i (by omega) h2, fun i h1 => (h.later i h1).imp id (fun h2 => by omega)⟩
theorem XTo.of_below {p : Nat} {W W' : World} {I : IX} (k : Below W.heap.size W W') : XTo p W I W' I := (XFr.refl p _ W I).quiet k
/-- a block that is none of an index's stays none. -/
theorem XFr.none {p S h : Nat} {W W' : World} {I I' : IX} (k : XFr p S W I W' I') (hl : h < S) (hn : ¬ I.has p h) : ¬ I'.has p h := fun h1 => by
  rcases k.later h h1 with h2 | h2
  · exact hn h2
  · omega
theorem XAt.stay {L : List DT} {A : Option Addr} {c p N : Nat} {W W' : World} {I : IX} (h : XAt L A c p N W I) (hs : W.heap.size ≤ W'.heap.size) (hb : ∀ k, k < N ∨ I.has p k → W'.heap[k]? = W.heap[k]?) : XAt L A c p N W' I := by
  refine ⟨(hb p (.inr (.inl rfl))).trans h.box, DsR.mono (Nat.le_refl _) (fun g hg => hb g (.inl hg)) h.row, fun k hk => ⟨(h.far k hk).1, Nat.lt_of_lt_of_le (h.far k hk).2 hs⟩, h.nm, h.ng, fun m hm => ?_, fun g hg => ?_⟩
  · obtain ⟨n, D, ⟨es, ck, hh, hr⟩, hf⟩ := h.map m hm
    exact ⟨n, D, ⟨es, ck, (hb m (.inr (.inr (.inl hm)))).trans hh, hr⟩, hf⟩
  · obtain ⟨cs, h1, h2⟩ := h.bases g hg
    exact ⟨cs, (hb g (.inr (.inr (.inr hg)))).trans h1, h2⟩
theorem XAt.pN {L : List DT} {A : Option Addr} {c p N : Nat} {W : World} {I : IX} (h : XAt L A c p N W I) : N ≤ p := (h.far p (.inl rfl)).1
theorem XAt.below {L : List DT} {A : Option Addr} {c p N : Nat} {W W' : World} {I : IX} (h : XAt L A c p N W I) (hb : Below W.heap.size W W') : XAt L A c p N W' I := h.stay hb.size fun k hk => by
  rcases hk with hk | hk
  · exact hb.block k (by have := (h.far p (.inl rfl)); omega)
  · exact hb.block k (h.far k hk).2
theorem XAt.drew {L : List DT} {A : Option Addr} {c p N : Nat} {W : World} {I : IX} (h : XAt L A c p N W I) : XAt L A c p N W.drew I := h.stay (Nat.le_refl _) (fun _ _ => rfl)
theorem XTo.drew {p : Nat} {W W' : World} {I I' : IX} (h : XTo p W.drew I W' I') : XTo p W I W' I' := ⟨h.os, h.tape, h.output, h.size, h.block, h.later⟩
theorem XAt.lt {L : List DT} {A : Option Addr} {c p N : Nat} {W : World} {I : IX} (h : XAt L A c p N W I) : N < W.heap.size := by have := h.far p (.inl rfl); omega
theorem XAt.rowAt {L : List DT} {A : Option Addr} {c p N : Nat} {W : World} {I : IX} (h : XAt L A c p N W I) : DsR W W.heap.size A L := DsR.mono (Nat.le_of_lt h.lt) (fun _ _ => rfl) h.row
/-- the index's own blocks lie from N on: what lies ahead of N is not touched. -/
theorem XFr.toBelow {L : List DT} {A : Option Addr} {c p N S : Nat} {W W' : World} {I I' : IX} (h : XAt L A c p N W I) (k : XFr p S W I W' I') (hS : N ≤ S) : Below N W W' := ⟨k.os, k.tape, k.output, k.size, fun i hi => k.block i (by omega) (fun h1 => by have := (h.far i h1).1; omega)⟩
theorem XAt.c0 {L : List DT} {A : Option Addr} {c p N : Nat} {W : World} {I : IX} (h : XAt L A c p N W I) : W.cell? ⟨p, 0, none⟩ = some (.slice A L.length c) := by rw [cell_of_row _ _ 0 _ _ _ h.box]; rfl
theorem XAt.c1 {L : List DT} {A : Option Addr} {c p N : Nat} {W : World} {I : IX} (h : XAt L A c p N W I) : W.cell? ⟨p, 1, none⟩ = some (.map I.mb) := by rw [cell_of_row _ _ 1 _ _ _ h.box]; rfl
theorem XAt.c2 {L : List DT} {A : Option Addr} {c p N : Nat} {W : World} {I : IX} (h : XAt L A c p N W I) : W.cell? ⟨p, 2, none⟩ = some (basesV L.length I.g) := by rw [cell_of_row _ _ 2 _ _ _ h.box]; rfl
theorem XAt.fz {L : List DT} {A : Option Addr} {c p N : Nat} {W : World} {I : IX} (h : XAt L A c p N W I) (j : Nat) : W.frozen? ⟨p, j, none⟩ = false := frozen_of_row _ _ j _ _ h.box

set_option maxHeartbeats 1000000 in
theorem of_any (L : List DT) (A : Option Addr) (c : Nat) (w : World) (ha : DsR w w.heap.size A L) :
    Calls Tryz.prog 9 #[.agg #[.slice A L.length c]] w fun e w' => ∃ p, e = .returned (.pointer (some ⟨p, 0, none⟩)) ∧ Hid (XAt L A c p w.heap.size w' ⟨none, none⟩) ∧ Hid (Below w.heap.size w w') := by
  obtain ⟨R0, hR0⟩ : ∃ R0 : World, R0 = w.alloc (.cells #[.slice A L.length c] 31) := ⟨_, rfl⟩
  have hg : R0.heap[w.heap.size]? = some (.cells #[.slice A L.length c] 31 (0, 0)) := by rw [hR0]; exact heap_alloc_new w _
  have y0 : R0.cell? ⟨w.heap.size, 0, none⟩ = some (.slice A L.length c) := by rw [cell_of_row _ _ 0 _ _ _ hg]; rfl
  have hs : R0.heap.size = w.heap.size + 1 := by rw [hR0]; simp
  have hb0 : Below w.heap.size w R0 := by rw [hR0]; exact (Below.refl _ _).alloc (Nat.le_refl _) _
  have HB := Lib.hid hb0
  have HS := Lib.hid hs
  have HA := Lib.hid ha
  have HR0 := Lib.hid hR0
  rw [hR0] at y0
  clear hg hs ha hb0 hR0
  go_enter Tryz.func9, Tryz.ntmps9
  go_wp2_with fail
  go_ret
  rw [← HR0.out]
  have hbx : Below w.heap.size w (R0.alloc (.cells #[.slice A L.length c, .map none, .slice none 0 0] 53)) := HB.out.alloc HB.out.size _
  refine ⟨R0.heap.size, by simp [HS.out], ⟨heap_alloc_new _ _, DsR.mono (Nat.le_refl _) hbx.block HA.out, fun k hk => ?_, fun m hm => (by cases hm), fun g hm => (by cases hm), fun m hm => (by cases hm), fun g hm => (by cases hm)⟩, hbx⟩
  rcases hk with rfl | hk | hk
  · have := HS.out
    simp
    omega
  · cases hk
  · cases hk
set_option maxHeartbeats 1000000 in
theorem lkIsOf_any (L : List DT) (A : Option Addr) (c p N : Nat) (I : IX) (d q : Int) (w : World) (h : XAt L A c p N w I) :
    Calls Tryz.prog 79 #[.pointer (some ⟨p, 0, none⟩), .int .i64 d, .int .i64 q] w fun e w' => e = .returned (.bool (isOfT L d q)) ∧ Hid (Below w.heap.size w w') := by
  have y0 := h.c0
  have HA := h.row
  have HB : Hid (Below w.heap.size w w) := Below.refl _ _
  clear h
  by_cases h1 : d < 0
  · rw [isOfT_out (.inl h1)]
    have h2 : ¬ 0 ≤ d := by omega
    clear HA
    go_enter Tryz.func79, Tryz.ntmps79
    go_wp2_with fail
    go_ret
    exact ⟨rfl, HB⟩
  obtain ⟨k, rfl⟩ : ∃ k : Nat, d = k := ⟨d.toNat, by omega⟩
  by_cases h2 : k < L.length
  · have q2 : (0 : Int) ≤ (k : Int) := by omega
    obtain ⟨g, o, cs, rfl, hg, hlen, hc, he⟩ := HA k h2
    rw [isOfT_of h2]
    obtain ⟨D, hN⟩ : ∃ D : DT, D = L[k] := ⟨_, rfl⟩
    rw [← hN] at he ⊢
    obtain ⟨A1, c1, A2, c2, A3, c3, A4, c4, rfl, _⟩ := he
    have y1 := hc 0 _ rfl
    rw [Nat.add_zero] at y1
    clear hc hlen hg hN HA
    have q1 : (k : Int) < (L.length : Int) := by omega
    by_cases hk : D.kind = q
    · have e1 : decide (D.kind = q) = true := decide_eq_true hk
      rw [e1]
      subst hk
      go_enter Tryz.func79, Tryz.ntmps79
      go_wp2_with fail
      go_ret
      exact ⟨rfl, HB⟩
    · have e1 : decide (D.kind = q) = false := decide_eq_false hk
      rw [e1]
      have e2 : (D.kind == q) = false := eq_no hk
      clear e1
      go_enter Tryz.func79, Tryz.ntmps79
      go_wp2_with fail
      go_ret
      exact ⟨rfl, HB⟩
  · have q1 : ¬ (k : Int) < (L.length : Int) := by omega
    have q2 : (0 : Int) ≤ (k : Int) := by omega
    rw [isOfT_out (.inr (by omega))]
    clear HA
    go_enter Tryz.func79, Tryz.ntmps79
    go_wp2_with fail
    go_ret
    exact ⟨rfl, HB⟩
end Go.Proofs.YtbgilpmoijdcfaaGreat
