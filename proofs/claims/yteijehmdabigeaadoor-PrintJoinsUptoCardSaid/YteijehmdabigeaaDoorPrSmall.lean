/-
  print's small parts BY CONTRACTS: nth, operator, blockWord, owner, branchWord, flag; where the line stands in the course of a call.
-/
import Derived.Test.YteijehmdabigeaaDoorPrLine
import Derived.Test.YteijehmdabigeaaDoorPrTree
import Derived.Lib.LaidTab
import Derived.Lib.ItoaNum
namespace Go.Proofs.YteijehmdabigeaaDoor
open Go Go.RowKit

theorem gPow : Tryd.prog.globalNamed "internal/strconv.uint64pow10" = some 3 := by kernel_rfl
theorem gOps : Tryd.prog.globalNamed "governor/print.operators" = some 0 := by kernel_rfl
theorem gBlk : Tryd.prog.globalNamed "governor/print.blocks" = some 1 := by kernel_rfl
/-- the tables lie below B as they are laid. -/
structure Env (B : Nat) (w : World) : Prop where
  lo : 3 < B ∧ 0 < B ∧ 1 < B
  pow : Lib.TabIs Tryd.prog w "internal/strconv.uint64pow10" .u64 Lib.pow10Tab
  ops : ∀ k : Nat, k < 15 → 0 < k → w.cell? ⟨0, k, none⟩ = some (.string (opText k))
  blk : ∀ k : Nat, k < 8 → 0 < k → w.cell? ⟨1, k, none⟩ = some (.string (blockText k))
theorem Env.below {B : Nat} {w w' : World} (h : Env B w) (hb : Below B w w') : Env B w' := by
  refine ⟨h.lo, ?_, fun k h1 h2 => (hb.cell (p := ⟨0, k, none⟩) h.lo.2.1).trans (h.ops k h1 h2), fun k h1 h2 => (hb.cell (p := ⟨1, k, none⟩) h.lo.2.2).trans (h.blk k h1 h2)⟩
  have := h.pow
  unfold Lib.TabIs World.var? at this ⊢
  rw [gPow] at this ⊢
  simp only [Option.bind_some] at this ⊢
  rw [hb.block _ h.lo.1]
  exact this

/-- the line stands so, from w0 on (where its row lay in q0). -/
structure At (B : Nat) (w0 : World) (b : Nat) (q0 : Option Nat) (w : World) (q : Option Nat) (l : List ByteArray) : Prop where
  at_ : LAt B w b q l
  fr : Fr b q0 q w0 w
  lo : B ≤ w0.heap.size
  low : Below B w0 w
theorem At.start {B b : Nat} {w : World} {q : Option Nat} {l : List ByteArray} (h : LAt B w b q l) (hB : B ≤ w.heap.size) : At B w b q w q l := ⟨h, .refl _ _ _, hB, .refl _ _⟩
theorem At.size {B b : Nat} {w0 w : World} {q0 q : Option Nat} {l : List ByteArray} (h : At B w0 b q0 w q l) : B ≤ w.heap.size := Nat.le_trans h.lo h.fr.size
/-- what a method of the line comes to. -/
def Put (B : Nat) (w0 : World) (b : Nat) (q0 : Option Nat) (l : List ByteArray) (e : Ending) (w' : World) : Prop := e = .returned (.tuple #[]) ∧ ∃ q', At B w0 b q0 w' q' l
theorem At.done {B b : Nat} {w0 w : World} {q0 q : Option Nat} {l : List ByteArray} (h : At B w0 b q0 w q l) : Put B w0 b q0 l (.returned (.tuple #[])) w := ⟨rfl, q, h⟩
theorem At.new {B b : Nat} {w0 w w' : World} {q0 q : Option Nat} {l : List ByteArray} (h : At B w0 b q0 w q l) (hb : Below w.heap.size w w') : At B w0 b q0 w' q l :=
  ⟨h.at_.below hb, h.fr.trans (.of_below hb), h.lo, h.low.trans (hb.mono h.size)⟩
theorem At.alloc {B b : Nat} {w0 w : World} {q0 q : Option Nat} {l : List ByteArray} (h : At B w0 b q0 w q l) (o : Obj) : At B w0 b q0 (w.alloc o) q l := h.new ((Below.refl _ _).alloc (Nat.le_refl _) _)
theorem At.drew {B b : Nat} {w0 w : World} {q0 q : Option Nat} {l : List ByteArray} (h : At B w0 b q0 w q l) : At B w0 b q0 w.drew q l := h.new ((Below.refl _ _).drew)
theorem At.lift {B b : Nat} {w0 w w' : World} {q0 q : Option Nat} {l l' : List ByteArray} {e : Ending} (h : At B w0 b q0 w q l) (k : Put B w b q l' e w') : Put B w0 b q0 l' e w' := by
  obtain ⟨rfl, q', k⟩ := k
  exact ⟨rfl, q', k.at_, h.fr.trans k.fr, h.lo, h.low.trans k.low⟩
theorem Wrote.put {B b : Nat} {w w' : World} {q : Option Nat} {l l' : List ByteArray} {e : Ending} (h : LAt B w b q l) (hB : B ≤ w.heap.size) (k : Wrote B b q l' w e w') : Put B w b q l' e w' := by
  obtain ⟨rfl, q', k1, k2⟩ := k
  exact ⟨rfl, q', k1, k2, hB, k2.below h⟩
/-- so many tokens are few. -/
def few : Nat := 100000000

theorem put1 {B b : Nat} {w0 w : World} {q0 q : Option Nat} {l : List ByteArray} (h : At B w0 b q0 w q l) (s0 : ByteArray) (hl : l.length + 1 ≤ few) (G : Nat) (hG : w.heap.size = G) :
    Calls Tryd.prog 36 #[.pointer (some ⟨b, 0, none⟩), .slice (some ⟨G, 0, none⟩) 1 1] (w.alloc (.cells #[.string s0] 9)) (Put B w0 b q0 (l ++ [s0])) := by
  subst hG
  have h1 := h.alloc (.cells #[.string s0] 9)
  refine (put_any b q l [s0] ⟨w.heap.size, 0, none⟩ 1 _ B h1.at_ h1.size (World.news_of_block (cs := #[.string s0]) (t := 9) (fr := (0, 0)) (heap_alloc_new w _)) (by simp) hl).mono fun _ _ hh => h1.lift (Wrote.put h1.at_ h1.size hh)
theorem put2 {B b : Nat} {w0 w : World} {q0 q : Option Nat} {l : List ByteArray} (h : At B w0 b q0 w q l) (s0 s1 : ByteArray) (hl : l.length + 2 ≤ few) (G : Nat) (hG : w.heap.size = G) :
    Calls Tryd.prog 36 #[.pointer (some ⟨b, 0, none⟩), .slice (some ⟨G, 0, none⟩) 2 2] (w.alloc (.cells #[.string s0, .string s1] 9)) (Put B w0 b q0 (l ++ [s0, s1])) := by
  subst hG
  have h1 := h.alloc (.cells #[.string s0, .string s1] 9)
  refine (put_any b q l [s0, s1] ⟨w.heap.size, 0, none⟩ 2 _ B h1.at_ h1.size (World.news_of_block (cs := #[.string s0, .string s1]) (t := 9) (fr := (0, 0)) (heap_alloc_new w _)) (by simp) hl).mono fun _ _ hh => h1.lift (Wrote.put h1.at_ h1.size hh)
theorem put3 {B b : Nat} {w0 w : World} {q0 q : Option Nat} {l : List ByteArray} (h : At B w0 b q0 w q l) (s0 s1 s2 : ByteArray) (hl : l.length + 3 ≤ few) (G : Nat) (hG : w.heap.size = G) :
    Calls Tryd.prog 36 #[.pointer (some ⟨b, 0, none⟩), .slice (some ⟨G, 0, none⟩) 3 3] (w.alloc (.cells #[.string s0, .string s1, .string s2] 9)) (Put B w0 b q0 (l ++ [s0, s1, s2])) := by
  subst hG
  have h1 := h.alloc (.cells #[.string s0, .string s1, .string s2] 9)
  refine (put_any b q l [s0, s1, s2] ⟨w.heap.size, 0, none⟩ 3 _ B h1.at_ h1.size (World.news_of_block (cs := #[.string s0, .string s1, .string s2]) (t := 9) (fr := (0, 0)) (heap_alloc_new w _)) (by simp) hl).mono fun _ _ hh => h1.lift (Wrote.put h1.at_ h1.size hh)
theorem put4 {B b : Nat} {w0 w : World} {q0 q : Option Nat} {l : List ByteArray} (h : At B w0 b q0 w q l) (s0 s1 s2 s3 : ByteArray) (hl : l.length + 4 ≤ few) (G : Nat) (hG : w.heap.size = G) :
    Calls Tryd.prog 36 #[.pointer (some ⟨b, 0, none⟩), .slice (some ⟨G, 0, none⟩) 4 4] (w.alloc (.cells #[.string s0, .string s1, .string s2, .string s3] 9)) (Put B w0 b q0 (l ++ [s0, s1, s2, s3])) := by
  subst hG
  have h1 := h.alloc (.cells #[.string s0, .string s1, .string s2, .string s3] 9)
  refine (put_any b q l [s0, s1, s2, s3] ⟨w.heap.size, 0, none⟩ 4 _ B h1.at_ h1.size (World.news_of_block (cs := #[.string s0, .string s1, .string s2, .string s3]) (t := 9) (fr := (0, 0)) (heap_alloc_new w _)) (by simp) hl).mono fun _ _ hh => h1.lift (Wrote.put h1.at_ h1.size hh)
theorem put5 {B b : Nat} {w0 w : World} {q0 q : Option Nat} {l : List ByteArray} (h : At B w0 b q0 w q l) (s0 s1 s2 s3 s4 : ByteArray) (hl : l.length + 5 ≤ few) (G : Nat) (hG : w.heap.size = G) :
    Calls Tryd.prog 36 #[.pointer (some ⟨b, 0, none⟩), .slice (some ⟨G, 0, none⟩) 5 5] (w.alloc (.cells #[.string s0, .string s1, .string s2, .string s3, .string s4] 9)) (Put B w0 b q0 (l ++ [s0, s1, s2, s3, s4])) := by
  subst hG
  have h1 := h.alloc (.cells #[.string s0, .string s1, .string s2, .string s3, .string s4] 9)
  refine (put_any b q l [s0, s1, s2, s3, s4] ⟨w.heap.size, 0, none⟩ 5 _ B h1.at_ h1.size (World.news_of_block (cs := #[.string s0, .string s1, .string s2, .string s3, .string s4]) (t := 9) (fr := (0, 0)) (heap_alloc_new w _)) (by simp) hl).mono fun _ _ hh => h1.lift (Wrote.put h1.at_ h1.size hh)

set_option maxHeartbeats 400000 in
theorem flag_any {B b : Nat} {w0 w : World} {q0 q : Option Nat} {l : List ByteArray} (h : At B w0 b q0 w q l) (f : Bool) (s : ByteArray) (hl : l.length + 1 ≤ few) :
    Calls Tryd.prog 52 #[.pointer (some ⟨b, 0, none⟩), .bool f, .string s] w (Put B w0 b q0 (l ++ tF f s)) := by
  have H := Lib.hid h
  clear h
  cases f
  · go_enter Tryd.func52, Tryd.ntmps52
    go_wp2_with fail
    go_end0
    have := H.out.done
    simpa [tF] using this
  · go_enter Tryd.func52, Tryd.ntmps52
    go_wp2_with fail
    refine (put1 H.out s hl _ rfl).mono ?_
    rintro e1 w1 ⟨rfl, q1, H1⟩
    have H1 := Lib.hid H1
    go_wp2_with fail
    go_end0
    exact H1.out.done

set_option maxHeartbeats 400000 in
theorem operator_any (n : Int) (w : World) {B : Nat} (hE : Env B w) :
    Calls Tryd.prog 47 #[.int .i64 n] w fun e w' => e = .returned (.string (opText n)) ∧ Below w.heap.size w w' := by
  by_cases h : 1 ≤ n ∧ n ≤ 14
  · obtain ⟨k, rfl⟩ : ∃ k : Nat, n = k := ⟨n.toNat, by omega⟩
    have hc := hE.ops k (by omega) (by omega)
    obtain ⟨h1, h2⟩ := h
    have h3 : ¬ ((k : Int) < 1) := by omega
    have h4 : ¬ (14 < (k : Int)) := by omega
    have h5 : (0 : Int) ≤ k := by omega
    have h6 : (k : Int) < 15 := by omega
    clear hE
    go_enter Tryd.func47, Tryd.ntmps47
    go_wp2_with fail
    all_goals
      go_ret
      exact ⟨rfl, Below.refl _ _⟩
  · have e : opText n = ⟨#[63]⟩ := by unfold opText; repeat (rw [if_neg (by omega)])
    rw [e]
    clear hE e
    by_cases h1 : n < 1
    · clear h
      go_enter Tryd.func47, Tryd.ntmps47
      go_wp2_with fail
      go_ret
      exact ⟨rfl, Below.refl _ _⟩
    · have h2 : 14 < n := by omega
      clear h
      go_enter Tryd.func47, Tryd.ntmps47
      go_wp2_with fail
      go_ret
      exact ⟨rfl, Below.refl _ _⟩

set_option maxHeartbeats 400000 in
theorem blockWord_any (n : Int) (w : World) {B : Nat} (hE : Env B w) :
    Calls Tryd.prog 50 #[.int .i64 n] w fun e w' => e = .returned (.string (blockText n)) ∧ Below w.heap.size w w' := by
  by_cases h : 1 ≤ n ∧ n ≤ 7
  · obtain ⟨k, rfl⟩ : ∃ k : Nat, n = k := ⟨n.toNat, by omega⟩
    have hc := hE.blk k (by omega) (by omega)
    obtain ⟨h1, h2⟩ := h
    have h3 : ¬ ((k : Int) < 1) := by omega
    have h4 : ¬ (7 < (k : Int)) := by omega
    have h5 : (0 : Int) ≤ k := by omega
    have h6 : (k : Int) < 8 := by omega
    clear hE
    go_enter Tryd.func50, Tryd.ntmps50
    go_wp2_with fail
    all_goals
      go_ret
      exact ⟨rfl, Below.refl _ _⟩
  · have e : blockText n = ⟨#[63]⟩ := by unfold blockText; repeat (rw [if_neg (by omega)])
    rw [e]
    clear hE e
    by_cases h1 : n < 1
    · clear h
      go_enter Tryd.func50, Tryd.ntmps50
      go_wp2_with fail
      go_ret
      exact ⟨rfl, Below.refl _ _⟩
    · have h2 : 7 < n := by omega
      clear h
      go_enter Tryd.func50, Tryd.ntmps50
      go_wp2_with fail
      go_ret
      exact ⟨rfl, Below.refl _ _⟩

set_option maxHeartbeats 400000 in
theorem branchWord_any (i : Nat) (w : World) :
    Calls Tryd.prog 83 #[.int .i64 i] w fun e w' => e = .returned (.string (if i = 0 then ⟨#[73, 70]⟩ else ⟨#[69, 76, 83, 73, 70]⟩)) ∧ Below w.heap.size w w' := by
  by_cases h : i = 0
  · subst h
    go_enter Tryd.func83, Tryd.ntmps83
    go_wp2_with fail
    go_ret
    exact ⟨rfl, Below.refl _ _⟩
  · rw [if_neg h]
    have h1 : ((i : Int) == 0) = false := by simp; omega
    clear h
    go_enter Tryd.func83, Tryd.ntmps83
    go_wp2_with fail
    go_ret
    exact ⟨rfl, Below.refl _ _⟩

set_option maxHeartbeats 400000 in
theorem owner_any (k n : Int) (nm wh : ByteArray) (A : Option Addr) (la c : Nat) (w : World) :
    Calls Tryd.prog 63 #[.agg #[.int .i64 k, .int .i64 n, .string nm, .string wh, .slice A la c]] w fun e w' => e = .returned (.string (ownText n nm)) ∧ Below w.heap.size w w' := by
  unfold ownText
  by_cases h0 : n = 0
  · subst h0
    go_enter Tryd.func63, Tryd.ntmps63
    go_wp2_with fail
    go_ret
    exact ⟨rfl, (Below.refl _ _).alloc (Nat.le_refl _) _⟩
  by_cases h1 : n = 1
  · subst h1
    clear h0
    go_enter Tryd.func63, Tryd.ntmps63
    go_wp2_with fail
    go_ret
    exact ⟨rfl, (Below.refl _ _).alloc (Nat.le_refl _) _⟩
  by_cases h2 : n = 2
  · subst h2
    clear h0 h1
    go_enter Tryd.func63, Tryd.ntmps63
    go_wp2_with fail
    go_ret
    exact ⟨rfl, (Below.refl _ _).alloc (Nat.le_refl _) _⟩
  rw [if_neg h0, if_neg h1, if_neg h2]
  have h0 : (n == 0) = false := by simpa using h0
  have h1 : (n == 1) = false := by simpa using h1
  have h2 : (n == 2) = false := by simpa using h2
  go_enter Tryd.func63, Tryd.ntmps63
  go_wp2_with fail
  go_ret
  exact ⟨rfl, (Below.refl _ _).alloc (Nat.le_refl _) _⟩

/-- what a place of a list of trees gives: the tree there, or nothing. -/
def NthE (w : World) (B : Nat) (l : List ET) (i : Nat) (e : Ending) (w' : World) : Prop := ∃ cs, e = .returned (.agg cs.toArray) ∧ EIn w' B (nthE l i) cs ∧ Below w.heap.size w w'
theorem EIn.zero (w : World) (B : Nat) : EIn w B ET.zero [.int .i64 0, .int .i64 0, .string ⟨#[]⟩, .string ⟨#[]⟩, .slice none 0 0] := by
  unfold ET.zero
  have := EIn.of_form (w := w) (B := B) (k := 0) (n := 0) (nm := ⟨#[]⟩) (wh := ⟨#[]⟩) (args := []) none 0 ⟨by decide, by decide⟩ (fun k hk => by simp at hk)
  exact this

theorem results_var {fn : Func} {p : Tmp} (h : fn.results = #[.cell p 27]) (tmps : Array Value) (w : World) (g : Nat) (v0 v1 v2 v3 v4 : Value) (hp : tmps.getD p undef = .pointer (some ⟨g, 0, none⟩))
    (c0 : w.cell? ⟨g, 0, none⟩ = some v0) (c1 : w.cell? ⟨g, 1, none⟩ = some v1) (c2 : w.cell? ⟨g, 2, none⟩ = some v2) (c3 : w.cell? ⟨g, 3, none⟩ = some v3) (c4 : w.cell? ⟨g, 4, none⟩ = some v4) :
    (results fn tmps).run Tryd.prog w = .ok (.agg #[v0, v1, v2, v3, v4]) w := by
  have hp2 : tmps[p]?.getD undef = .pointer (some ⟨g, 0, none⟩) := by simpa using hp
  simp only [results, h]
  simp [hp2, go_sem, c0, c1, c2, c3, c4]

set_option maxHeartbeats 1000000 in
theorem nthE_any (l : List ET) (i c : Nat) (A : Option Addr) (w : World) (B : Nat) (h : EsR w B A l) (hB : B ≤ w.heap.size) :
    Calls Tryd.prog 45 #[.slice A l.length c, .int .i64 i] w (NthE w B l i) := by
  by_cases hi : i < l.length
  · obtain ⟨g, o, cs, rfl, hg, hlen, hc, he⟩ := h i hi
    have e : nthE l i = l[i] := by simp [nthE, hi]
    rw [← e] at he
    have HZ : Hid (∀ w', Below w.heap.size w w' → NthE w B l i (.returned (.agg cs.toArray)) w') := fun w' hb => ⟨_, rfl, he.mono (Nat.le_refl _) (fun g hg => hb.block g (by omega)), hb⟩
    clear h e
    revert he HZ
    generalize hN : nthE l i = N
    intro he HZ
    obtain ⟨k, n, nm, wh, args⟩ := N
    obtain ⟨A', c', rfl, _, _⟩ := he.form
    have hal : Below w.heap.size w (w.alloc (.cells #[.int .i64 0, .int .i64 0, .string ⟨#[]⟩, .string ⟨#[]⟩, .slice none 0 0] 27)) := (Below.refl _ _).alloc (Nat.le_refl _) _
    have hlt : g < w.heap.size := by omega
    have c0 := (hal.cell (p := ⟨g, o + i * 5 + 0, none⟩) hlt).trans (hc 0 _ rfl)
    have c1 := (hal.cell (p := ⟨g, o + i * 5 + 1, none⟩) hlt).trans (hc 1 _ rfl)
    have c2 := (hal.cell (p := ⟨g, o + i * 5 + 2, none⟩) hlt).trans (hc 2 _ rfl)
    have c3 := (hal.cell (p := ⟨g, o + i * 5 + 3, none⟩) hlt).trans (hc 3 _ rfl)
    have c4 := (hal.cell (p := ⟨g, o + i * 5 + 4, none⟩) hlt).trans (hc 4 _ rfl)
    rw [Nat.add_zero] at c0
    have h1 : (i : Int) < (l.length : Int) := by omega
    have h2 : (0 : Int) ≤ (i : Int) := by omega
    clear hc he hN hal hi hg
    go_enter Tryd.func45, Tryd.ntmps45
    go_wp2_with fail
    refine bodyPost_ret (results_var rfl _ _ w.heap.size _ _ _ _ _ rfl ?_ ?_ ?_ ?_ ?_) rfl (HZ.out _ ((Below.refl _ _).alloc (Nat.le_refl _) _))
    all_goals simp [go_sem]
  · have e : nthE l i = ET.zero := by simp [nthE, hi]
    have h1 : ¬ (i : Int) < (l.length : Int) := by omega
    have HZ : Hid (∀ w', Below w.heap.size w w' → NthE w B l i (.returned (.agg #[.int .i64 0, .int .i64 0, .string ⟨#[]⟩, .string ⟨#[]⟩, .slice none 0 0])) w') := fun w' hb => ⟨_, rfl, by rw [e]; exact EIn.zero w' B, hb⟩
    clear h e
    go_enter Tryd.func45, Tryd.ntmps45
    go_wp2_with fail
    refine bodyPost_ret (results_var rfl _ _ w.heap.size _ _ _ _ _ rfl ?_ ?_ ?_ ?_ ?_) rfl (HZ.out _ (((Below.refl _ _).alloc (Nat.le_refl _) _).alloc (by rw [heap_alloc_size]; exact Nat.le_succ _) _))
    all_goals simp [go_sem]

/-- what a place of a list of blocks gives: the block there, or none. -/
def NthB (w : World) (B : Nat) (l : List (List ST)) (i : Nat) (e : Ending) (w' : World) : Prop := ∃ A c, e = .returned (.slice A (l.getD i []).length c) ∧ SsR w' B A (l.getD i []) ∧ Below w.heap.size w w'

set_option maxHeartbeats 1000000 in
theorem nthB_any (l : List (List ST)) (i c : Nat) (A : Option Addr) (w : World) (B : Nat) (h : BsR w B A l) :
    Calls Tryd.prog 84 #[.slice A l.length c, .int .i64 i] w (NthB w B l i) := by
  by_cases hi : i < l.length
  · obtain ⟨g, o, cs, rfl, hg, hlen, hc, A', c', rfl, he⟩ := h i hi
    have e : l.getD i [] = l[i] := by simp [hi]
    have c0 := hc 0 _ rfl
    rw [← e] at he c0
    have HE := Lib.hid he
    simp only [Nat.add_zero, Nat.mul_one] at c0
    have h1 : (i : Int) < (l.length : Int) := by omega
    have h2 : (0 : Int) ≤ (i : Int) := by omega
    have HZ : Hid (NthB w B l i (.returned (.slice A' (l.getD i []).length c')) w) := ⟨A', c', rfl, HE.out, Below.refl _ _⟩
    clear hc he h e HE
    generalize (l.getD i []).length = d at c0 HZ
    go_enter Tryd.func84, Tryd.ntmps84
    go_wp2_with fail
    go_ret
    exact HZ.out
  · have e : l.getD i [] = [] := by simp [hi]
    have h1 : ¬ (i : Int) < (l.length : Int) := by omega
    have HZ : Hid (∀ w', Below w.heap.size w w' → NthB w B l i (.returned (.slice none 0 0)) w') := fun w' hb => ⟨none, 0, by rw [e]; rfl, by rw [e]; exact fun k hk => by simp at hk, hb⟩
    clear h e
    go_enter Tryd.func84, Tryd.ntmps84
    go_wp2_with fail
    go_ret
    exact HZ.out _ (Below.refl _ _)
end Go.Proofs.YteijehmdabigeaaDoor
