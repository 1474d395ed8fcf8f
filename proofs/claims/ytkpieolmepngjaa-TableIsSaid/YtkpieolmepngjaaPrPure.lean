/-
  print on plain data: the trees, and the tokens that are written of each.
-/
import Derived.Test.YtkpieolmepngjaaRows
import Derived.Lib.Join
import Derived.Lib.ItoaNum
namespace Go.Proofs.Ytkpieolmepngjaa
open Go

/-- the tree of an expression: kind, number, name, what, parts. -/
inductive ET where
  | mk (k n : Int) (nm wh : ByteArray) (args : List ET)
def ET.zero : ET := .mk 0 0 ⟨#[]⟩ ⟨#[]⟩ []
instance : Inhabited ET := ⟨ET.zero⟩
def ET.kind : ET → Int | .mk k _ _ _ _ => k
/-- the tree of a statement: kind, number, name, expressions, labels, blocks. -/
inductive ST where
  | mk (k n : Int) (nm : ByteArray) (exprs : List ET) (labels : List (List Int)) (blocks : List (List ST))
/-- a type. -/
structure YT where
  kind : Int
  lo : Int
  hi : Int
  name : ByteArray
/-- a variable. -/
structure VT where
  name : ByteArray
  type : YT
  init : Int
  dir : Int
  slot : Int
/-- a method. -/
structure MT where
  name : ByteArray
  over : Bool
  abstract : Bool
  final : Bool
  params : List VT
  result : YT
  vars : List VT
  body : List ST
/-- a declaration. -/
structure DT where
  kind : Int
  name : ByteArray
  base : ByteArray
  faces : List ByteArray
  abstract : Bool
  final : Bool
  vars : List VT
  methods : List MT
  body : List ST
  every : Int
  first : Int

/-- a number's tokens. -/
def tInt (n : Int) : List ByteArray := if n < 0 then [⟨#[45]⟩, ⟨(Lib.decDigits n.natAbs).toArray⟩] else [⟨(Lib.decDigits n.natAbs).toArray⟩]
/-- lists of tokens with a comma between. -/
def sep : List (List ByteArray) → List ByteArray
  | [] => []
  | x :: r => x ++ r.flatMap fun y => ⟨#[44]⟩ :: y
def opText (n : Int) : ByteArray :=
  if n = 1 then ⟨#[43]⟩ else if n = 2 then ⟨#[45]⟩ else if n = 3 then ⟨#[42]⟩ else if n = 4 then ⟨#[47]⟩ else if n = 5 then ⟨#[77, 79, 68]⟩ else if n = 6 then ⟨#[61]⟩ else if n = 7 then ⟨#[60, 62]⟩ else if n = 8 then ⟨#[60]⟩ else if n = 9 then ⟨#[60, 61]⟩ else if n = 10 then ⟨#[62]⟩ else if n = 11 then ⟨#[62, 61]⟩ else if n = 12 then ⟨#[65, 78, 68]⟩ else if n = 13 then ⟨#[79, 82]⟩ else if n = 14 then ⟨#[88, 79, 82]⟩ else ⟨#[63]⟩
def blockText (n : Int) : ByteArray :=
  if n = 1 then ⟨#[84, 79, 78]⟩ else if n = 2 then ⟨#[84, 79, 70]⟩ else if n = 3 then ⟨#[84, 80]⟩ else if n = 4 then ⟨#[67, 84, 85]⟩ else if n = 5 then ⟨#[67, 84, 68]⟩ else if n = 6 then ⟨#[82, 95, 84, 82, 73, 71]⟩ else if n = 7 then ⟨#[70, 95, 84, 82, 73, 71]⟩ else ⟨#[63]⟩
def ownText (n : Int) (nm : ByteArray) : ByteArray := if n = 0 then nm else if n = 1 then ⟨#[84, 72, 73, 83]⟩ else if n = 2 then ⟨#[83, 85, 80, 69, 82]⟩ else ⟨#[63]⟩
/-- has an operator of its own. -/
def isOp (k : Int) : Bool := decide (k = 7 ∨ k = 8 ∨ k = 9)
/-- an operand's tokens. -/
def inBr (k : Int) (t : List ByteArray) : List ByteArray := if isOp k then ⟨#[40]⟩ :: t ++ [⟨#[41]⟩] else t
/-- an expression's tokens, its parts' tokens and its operands' given. -/
def tEk (k n : Int) (nm wh : ByteArray) (ps os : List (List ByteArray)) : List ByteArray :=
  if k = 1 then tInt n
  else if k = 2 then [⟨#[84, 82, 85, 69]⟩]
  else if k = 3 then [⟨#[70, 65, 76, 83, 69]⟩]
  else if k = 4 then [⟨#[78, 85, 76, 76]⟩]
  else if k = 5 then [nm]
  else if k = 6 then [nm, ⟨#[91]⟩] ++ ps.getD 0 [⟨#[63]⟩] ++ [⟨#[93]⟩]
  else if k = 7 then [⟨#[45]⟩] ++ os.getD 0 [⟨#[63]⟩]
  else if k = 8 then [⟨#[78, 79, 84]⟩] ++ os.getD 0 [⟨#[63]⟩]
  else if k = 9 then os.getD 0 [⟨#[63]⟩] ++ [opText n] ++ os.getD 1 [⟨#[63]⟩]
  else if k = 10 then [⟨#[82, 69, 70]⟩, ⟨#[40]⟩, nm, ⟨#[41]⟩]
  else if k = 11 then [⟨#[68, 79, 78, 69]⟩, ⟨#[40]⟩, nm, ⟨#[41]⟩]
  else if k = 12 then [⟨#[67, 79, 85, 78, 84]⟩, ⟨#[40]⟩, nm, ⟨#[41]⟩]
  else if k = 13 then [ownText n nm, ⟨#[46]⟩, wh, ⟨#[40]⟩] ++ sep ps ++ [⟨#[41]⟩]
  else if k = 14 then [⟨#[65, 83]⟩, nm, ⟨#[40]⟩] ++ ps.getD 0 [⟨#[63]⟩] ++ [⟨#[41]⟩]
  else [⟨#[63]⟩]
mutual
def tE : ET → List ByteArray
  | .mk k n nm wh args => tEk k n nm wh (tEs args) (tOs args)
def tEs : List ET → List (List ByteArray)
  | [] => []
  | e :: r => tE e :: tEs r
def tOs : List ET → List (List ByteArray)
  | [] => []
  | e :: r => inBr e.kind (tE e) :: tOs r
end
def tO (e : ET) : List ByteArray := inBr e.kind (tE e)
theorem tEs_map : ∀ l : List ET, tEs l = l.map tE
  | [] => by simp [tEs]
  | e :: r => by simp [tEs, tEs_map r]
theorem tOs_map : ∀ l : List ET, tOs l = l.map tO
  | [] => by simp [tOs]
  | e :: r => by simp [tOs, tO, tOs_map r]
/-- the i-th of a list of trees. -/
def nthE (l : List ET) (i : Nat) : ET := l.getD i ET.zero
theorem tE_zero : tE ET.zero = [⟨#[63]⟩] := by simp [ET.zero, tE, tEk]
theorem tO_zero : tO ET.zero = [⟨#[63]⟩] := by
  unfold tO
  rw [tE_zero]
  rfl
theorem tEs_nth (l : List ET) (i : Nat) : (tEs l).getD i [⟨#[63]⟩] = tE (nthE l i) := by
  rw [tEs_map, nthE, ← tE_zero]
  simp only [List.getD_eq_getElem?_getD, List.getElem?_map]
  cases l[i]? <;> simp
theorem tOs_nth (l : List ET) (i : Nat) : (tOs l).getD i [⟨#[63]⟩] = tO (nthE l i) := by
  rw [tOs_map, nthE, ← tO_zero]
  simp only [List.getD_eq_getElem?_getD, List.getElem?_map]
  cases l[i]? <;> simp

/-- a type's tokens. -/
def tY (t : YT) : List ByteArray :=
  if t.kind = 1 then [⟨#[73, 78, 84]⟩]
  else if t.kind = 2 then [⟨#[66, 79, 79, 76]⟩]
  else if t.kind = 3 then [⟨#[73, 78, 84]⟩, ⟨#[40]⟩] ++ tInt t.lo ++ [⟨#[46, 46]⟩] ++ tInt t.hi ++ [⟨#[41]⟩]
  else if t.kind = 4 then [⟨#[65, 82, 82, 65, 89]⟩, ⟨#[91]⟩] ++ tInt t.hi ++ [⟨#[93]⟩, ⟨#[79, 70]⟩, ⟨#[73, 78, 84]⟩]
  else if t.kind = 5 then [⟨#[82, 69, 70, 95, 84, 79]⟩, t.name]
  else if t.kind = 6 then [t.name]
  else if t.kind = 7 then [blockText t.lo]
  else [⟨#[63]⟩]
/-- ELSE and a list of statements, if there are any. -/
def tElse (t : List ByteArray) : List ByteArray := if t = [] then [] else ⟨#[69, 76, 83, 69]⟩ :: t
/-- a statement's tokens but for its end; its blocks' given. -/
def tSk (k n : Int) (nm : ByteArray) (ex : List ET) (lb : List (List Int)) (bs : List (List ByteArray)) : List ByteArray :=
  if k = 1 then [nm, ⟨#[58, 61]⟩] ++ tE (nthE ex 0)
  else if k = 2 then [nm, ⟨#[91]⟩] ++ tE (nthE ex 0) ++ [⟨#[93]⟩, ⟨#[58, 61]⟩] ++ tE (nthE ex 1)
  else if k = 3 then [nm, ⟨#[63, 61]⟩] ++ tE (nthE ex 0)
  else if k = 4 then tE (nthE ex 0)
  else if k = 5 then (List.range (max 1 ex.length)).flatMap (fun i => (if i = 0 then ⟨#[73, 70]⟩ else ⟨#[69, 76, 83, 73, 70]⟩) :: tE (nthE ex i) ++ [⟨#[84, 72, 69, 78]⟩] ++ bs.getD i []) ++ tElse (bs.getD (max 1 ex.length) []) ++ [⟨#[69, 78, 68, 95, 73, 70]⟩]
  else if k = 6 then ⟨#[67, 65, 83, 69]⟩ :: tE (nthE ex 0) ++ [⟨#[79, 70]⟩] ++ (List.range lb.length).flatMap (fun i => sep ((lb.getD i []).map tInt) ++ [⟨#[58]⟩] ++ bs.getD i []) ++ tElse (bs.getD lb.length []) ++ [⟨#[69, 78, 68, 95, 67, 65, 83, 69]⟩]
  else if k = 7 then ⟨#[87, 72, 73, 76, 69]⟩ :: tE (nthE ex 0) ++ [⟨#[68, 79]⟩] ++ bs.getD 0 [] ++ [⟨#[69, 78, 68, 95, 87, 72, 73, 76, 69]⟩]
  else if k = 8 then [⟨#[70, 79, 82]⟩, nm, ⟨#[58, 61]⟩] ++ tE (nthE ex 0) ++ [⟨#[84, 79]⟩] ++ tE (nthE ex 1) ++ [⟨#[66, 89]⟩] ++ tInt n ++ [⟨#[68, 79]⟩] ++ bs.getD 0 [] ++ [⟨#[69, 78, 68, 95, 70, 79, 82]⟩]
  else if k = 9 then ⟨#[82, 69, 84, 85, 82, 78]⟩ :: (if 0 < ex.length then tE (nthE ex 0) else [])
  else if k = 10 then [⟨#[69, 88, 73, 84]⟩]
  else if k = 11 then [⟨#[83, 84, 69, 80]⟩, nm, ⟨#[40]⟩] ++ tE (nthE ex 0) ++ [⟨#[44]⟩] ++ tE (nthE ex 1) ++ [⟨#[41]⟩]
  else [⟨#[63]⟩]
mutual
def tS : ST → List ByteArray
  | .mk k n nm ex lb bs => tSk k n nm ex lb (tBs bs)
def tL : List ST → List ByteArray
  | [] => []
  | s :: r => (tS s ++ [⟨#[59]⟩]) ++ tL r
def tBs : List (List ST) → List (List ByteArray)
  | [] => []
  | l :: r => tL l :: tBs r
end
theorem tBs_map : ∀ l : List (List ST), tBs l = l.map tL
  | [] => by simp [tBs]
  | e :: r => by simp [tBs, tBs_map r]
theorem tL_flat : ∀ l : List ST, tL l = l.flatMap fun s => tS s ++ [⟨#[59]⟩]
  | [] => by simp [tL]
  | e :: r => by simp [tL, tL_flat r]
theorem tL_nil (l : List ST) : tL l = [] ↔ l = [] := by cases l <;> simp [tL]
theorem tBs_nth (l : List (List ST)) (i : Nat) : (tBs l).getD i [] = tL (l.getD i []) := by
  rw [tBs_map]
  simp only [List.getD_eq_getElem?_getD, List.getElem?_map]
  cases l[i]? <;> simp [tL]
/-- a parameter's tokens. -/
def tP (v : VT) : List ByteArray := [v.name, ⟨#[58]⟩] ++ tY v.type
/-- a variable's tokens. -/
def tV (v : VT) : List ByteArray := ⟨#[86, 65, 82]⟩ :: tP v ++ (if v.init = 0 then [] else ⟨#[58, 61]⟩ :: tInt v.init) ++ (if v.dir = 1 then [⟨#[65, 84]⟩, ⟨#[73, 78]⟩] ++ tInt v.slot else if v.dir = 2 then [⟨#[65, 84]⟩, ⟨#[79, 85, 84]⟩] ++ tInt v.slot else []) ++ [⟨#[59]⟩]
def tVs (l : List VT) : List ByteArray := l.flatMap tV
/-- a head's tokens. -/
def tH (m : MT) : List ByteArray := [m.name, ⟨#[40]⟩] ++ sep (m.params.map tP) ++ [⟨#[41]⟩] ++ (if m.result.kind = 0 then [] else ⟨#[58]⟩ :: tY m.result) ++ [⟨#[59]⟩]
def tF (b : Bool) (s : ByteArray) : List ByteArray := if b then [s] else []
/-- a method's tokens. -/
def tM (m : MT) : List ByteArray := ⟨#[77, 69, 84, 72, 79, 68]⟩ :: tF m.over ⟨#[79, 86, 69, 82, 82, 73, 68, 69]⟩ ++ tF m.abstract ⟨#[65, 66, 83, 84, 82, 65, 67, 84]⟩ ++ tF m.final ⟨#[70, 73, 78, 65, 76]⟩ ++ tH m ++ tVs m.vars ++ tL m.body ++ [⟨#[69, 78, 68, 95, 77, 69, 84, 72, 79, 68]⟩]
/-- a declaration's tokens. -/
def tD (d : DT) : List ByteArray :=
  if d.kind = 1 then [⟨#[73, 78, 84, 69, 82, 70, 65, 67, 69]⟩, d.name, ⟨#[59]⟩] ++ d.methods.flatMap (fun m => ⟨#[77, 69, 84, 72, 79, 68]⟩ :: tH m) ++ [⟨#[69, 78, 68, 95, 73, 78, 84, 69, 82, 70, 65, 67, 69]⟩]
  else if d.kind = 2 then ⟨#[67, 76, 65, 83, 83]⟩ :: tF d.abstract ⟨#[65, 66, 83, 84, 82, 65, 67, 84]⟩ ++ tF d.final ⟨#[70, 73, 78, 65, 76]⟩ ++ [d.name] ++ (if d.base = ⟨#[]⟩ then [] else [⟨#[69, 88, 84, 69, 78, 68, 83]⟩, d.base]) ++ tF (decide (0 < d.faces.length)) ⟨#[73, 77, 80, 76, 69, 77, 69, 78, 84, 83]⟩ ++ sep (d.faces.map fun f => [f]) ++ [⟨#[59]⟩] ++ tVs d.vars ++ d.methods.flatMap tM ++ [⟨#[69, 78, 68, 95, 67, 76, 65, 83, 83]⟩]
  else if d.kind = 3 then [⟨#[80, 82, 79, 71, 82, 65, 77]⟩, d.name, ⟨#[59]⟩] ++ tVs d.vars ++ tL d.body ++ [⟨#[69, 78, 68, 95, 80, 82, 79, 71, 82, 65, 77]⟩]
  else if d.kind = 4 then [⟨#[84, 65, 83, 75]⟩, d.name, ⟨#[40]⟩, ⟨#[73, 78, 84, 69, 82, 86, 65, 76]⟩] ++ tInt d.every ++ [⟨#[44]⟩, ⟨#[80, 82, 73, 79, 82, 73, 84, 89]⟩] ++ tInt d.first ++ [⟨#[41]⟩, ⟨#[58]⟩, d.base, ⟨#[59]⟩]
  else [⟨#[63]⟩]
/-- tokens with a blank between. -/
def joined (l : List ByteArray) : List UInt8 := Lib.join (l.map (·.data.toList)) [32]
/-- a unit's text. -/
def tU (l : List DT) : List UInt8 := l.flatMap fun d => joined (tD d) ++ [10]
end Go.Proofs.Ytkpieolmepngjaa
