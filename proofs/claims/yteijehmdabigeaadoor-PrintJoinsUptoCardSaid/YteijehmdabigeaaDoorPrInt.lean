/-
  print's line: int and text BY CONTRACTS; strings.Builder's writers.
-/
import Derived.Test.YteijehmdabigeaaDoorPrSmall
import Derived.Test.YteijehmdabigeaaDoorShelf
import Derived.Sort.Grow
namespace Go.Proofs.YteijehmdabigeaaDoor
open Go Go.RowKit

theorem below_grow {w : World} (k : Nat) (os : Array Obj) : Below w.heap.size w (Sort.grow (w.drewN k) os) := by
  refine ⟨rfl, rfl, rfl, ?_, ?_⟩
  · simp [Sort.grow]
  · intro j hj
    simp [Sort.grow, Array.getElem?_append, hj]

theorem digit_ne (u : Nat) : ∀ b ∈ Lib.decDigits u, b ≠ 45 := by
  intro b hb
  induction u using Nat.strongRecOn with
  | _ u ih =>
    rw [Lib.decDigits] at hb
    split at hb
    · rename_i h
      simp only [List.mem_singleton] at hb
      subst hb
      have : u = 0 ∨ u = 1 ∨ u = 2 ∨ u = 3 ∨ u = 4 ∨ u = 5 ∨ u = 6 ∨ u = 7 ∨ u = 8 ∨ u = 9 := by omega
      rcases this with rfl | rfl | rfl | rfl | rfl | rfl | rfl | rfl | rfl | rfl <;> decide
    · rename_i h
      simp only [List.mem_append, List.mem_singleton] at hb
      rcases hb with hb | hb
      · exact ih (u / 10) (by omega) hb
      · subst hb
        have : u % 10 < 10 := Nat.mod_lt _ (by decide)
        generalize u % 10 = v at this
        have : v = 0 ∨ v = 1 ∨ v = 2 ∨ v = 3 ∨ v = 4 ∨ v = 5 ∨ v = 6 ∨ v = 7 ∨ v = 8 ∨ v = 9 := by omega
        rcases this with rfl | rfl | rfl | rfl | rfl | rfl | rfl | rfl | rfl | rfl <;> decide
theorem prefix_no (u : Nat) : Lib.hasPrefix (Lib.decDigits u) [45] = false := by
  cases h : Lib.decDigits u with
  | nil => rfl
  | cons x r =>
    have := digit_ne u x (by rw [h]; simp)
    unfold Lib.hasPrefix
    simp [List.isPrefixOf]
    exact fun e => this e.symm

set_option maxHeartbeats 1000000 in
theorem int_any {B b : Nat} {w0 w : World} {q0 q : Option Nat} {l : List ByteArray} (h : At B w0 b q0 w q l) (hE : Env B w0) (n : Int) (hn : I64 n) (hl : l.length + (tInt n).length ≤ few) :
    Calls Tryd.prog 44 #[.pointer (some ⟨b, 0, none⟩), .int .i64 n] w (Put B w0 b q0 (l ++ tInt n)) := by
  have K1 := Lib.hid (Tryd.strconv_Itoa n hn.1 hn.2 w (hE.below h.low).pow)
  have K2 : Hid (∀ W, Calls Tryd.prog 61 #[.string ⟨(Lib.itoa n).toArray⟩, .string ⟨#[45]⟩] W fun e w' => e = .returned (.tuple #[.string ⟨(Lib.decDigits n.natAbs).toArray⟩, .bool (decide (n < 0))]) ∧ w' = W) := by
    intro W
    have K := Tryd.strings_CutPrefix ⟨(Lib.itoa n).toArray⟩ ⟨#[45]⟩ W
    have e1 : Lib.trimPrefix (Lib.itoa n) [45] = Lib.decDigits n.natAbs ∧ Lib.hasPrefix (Lib.itoa n) [45] = decide (n < 0) := by
      by_cases hz : n < 0
      · have e2 : Lib.itoa n = 45 :: Lib.decDigits n.natAbs := by unfold Lib.itoa; rw [if_pos hz]
        rw [e2]
        simp [Lib.trimPrefix, Lib.hasPrefix, List.isPrefixOf, hz]
      · have e2 : Lib.itoa n = Lib.decDigits n.natAbs := by unfold Lib.itoa; rw [if_neg hz]; congr 1; omega
        rw [e2]
        unfold Lib.trimPrefix
        rw [prefix_no]
        simp [hz]
    simp only at K
    rw [e1.1, e1.2] at K
    exact K
  have H := Lib.hid h
  have HT : tInt n = tF (decide (n < 0)) ⟨#[45]⟩ ++ [⟨(Lib.decDigits n.natAbs).toArray⟩] := by
    unfold tInt tF
    by_cases hz : n < 0 <;> simp [hz]
  have hf : (tF (decide (n < 0)) ⟨#[45]⟩).length ≤ 1 := by unfold tF; split <;> simp
  rw [HT] at hl ⊢
  rw [List.length_append, List.length_singleton] at hl
  clear h hE HT hn
  generalize decide (n < 0) = f at *
  generalize (⟨(Lib.decDigits n.natAbs).toArray⟩ : ByteArray) = d at *
  generalize (⟨(Lib.itoa n).toArray⟩ : ByteArray) = i at *
  go_enter Tryd.func44, Tryd.ntmps44
  go_wp2_with fail
  refine K1.out.mono ?_
  rintro e1 w1 ⟨rfl, k, os, hw⟩
  have HB1 : Hid (Below w.heap.size w w1) := by rw [hw]; exact below_grow k os
  clear hw K1
  have H1 := Lib.hid (H.out.new HB1.out)
  go_wp2_with fail
  refine (K2.out _).mono ?_
  rintro e2 w2 ⟨rfl, rfl⟩
  clear K2
  go_wp2_with fail
  refine (flag_any H1.out f ⟨#[45]⟩ (by unfold few at *; omega)).mono ?_
  rintro e2 w2 ⟨rfl, q2, H2⟩
  have H2 := Lib.hid H2
  go_wp2_with fail
  refine (put1 H2.out d (by unfold few at *; simp; omega) _ rfl).mono ?_
  rintro e3 w3 ⟨rfl, q3, H3⟩
  rw [List.append_assoc] at H3
  have H3 := Lib.hid H3
  go_wp2_with fail
  go_end0
  exact H3.out.done

/-- the line's tokens as one text. -/
theorem text_any {B b : Nat} {w : World} {q : Option Nat} {l : List ByteArray} (h : LAt B w b q l) (hlen : (joined l).length ≤ 140737488355328) (hl : l.length ≤ few) :
    Calls Tryd.prog 20 #[.pointer (some ⟨b, 0, none⟩)] w fun e w' => e = .returned (.string ⟨(joined l).toArray⟩) ∧ Below w.heap.size w w' := by
  obtain ⟨A, c, hc, hq, hown⟩ := h.at_
  have c0 : w.cell? ⟨b, 0, none⟩ = some (.slice A l.length c) := by simp [World.cell?, hc]
  have K : Hid (Calls Tryd.prog 38 #[.slice A l.length c, .string ⟨#[32]⟩] w fun e w' => e = .returned (.string ⟨(joined l).toArray⟩) ∧ Below w.heap.size w w') := by
    by_cases h0 : l = []
    · subst h0
      exact (Tryd.strings_Join_none A c ⟨#[32]⟩ w).mono fun e w' ⟨h1, h2⟩ => ⟨h1, h2 ▸ Below.refl _ _⟩
    · rcases hown.2 with ⟨_, h1⟩ | ⟨g, cap, cur, hv, hbg, hg, hle, _, hs, ht⟩
      · exact absurd (List.length_eq_zero_iff.1 h1) h0
      · injection hv with e1 _ e2
        subst e1 e2
        have hgl : g < w.heap.size := by
          rcases Nat.lt_or_ge g w.heap.size with h2 | h2
          · exact h2
          · rw [Array.getElem?_eq_none h2] at hg; cases hg
        refine Tryd.strings_Join g 0 c l ⟨#[32]⟩ w (fun j x hj => ?_) hgl (by unfold few at *; omega) hle hlen
        have hjl : j < l.length := by
          rcases Nat.lt_or_ge j l.length with h2 | h2
          · exact h2
          · rw [List.getElem?_eq_none h2] at hj; cases hj
        have e3 : (tv l)[j]? = some (.string x) := by simp [tv, hj]
        rw [← ht, Nat.mul_one, List.getElem?_take, if_pos hjl] at e3
        rw [Nat.zero_add, cell_of_row w g j cur _ _ hg]
        simpa using e3
  clear h hc hown
  go_enter Tryd.func20, Tryd.ntmps20
  go_wp2_with fail
  refine K.out.mono ?_
  rintro e1 w1 ⟨rfl, hb⟩
  have HB := Lib.hid hb
  clear hb
  go_wp2_with fail
  go_ret
  exact ⟨rfl, HB.out⟩

/-- a strings.Builder in block b holds these bytes; all of it from B on. -/
abbrev Bu (B b : Nat) (l : List UInt8) (w : World) : Prop := Lib.IsBuilder 59 5 B b (Lib.byteCells l) w
theorem Tryd.l166 : Lays.n166 Tryd.prog Tryd.lays156_ren := { Tryd.lays156 with }
theorem Tryd.l240 : Lays.n240 Tryd.prog Tryd.lays156_ren := { Tryd.lays156 with }
theorem writeString_any (B b : Nat) (l : List UInt8) (s : ByteArray) (w : World) (h : Bu B b l w) (hlen : l.length + s.size ≤ 140737488355328) (hB : B ≤ w.heap.size) :
    Calls Tryd.prog 19 #[.pointer (some ⟨b, 0, none⟩), .string s] w fun e w' => e = .returned (.tuple #[.int .i64 s.size, .nilIface]) ∧ Bu B b (l ++ s.data.toList) w' ∧ Below B w w' := by
  refine (Any.Builder_WriteString Tryd.l166 Tryd.Builder_Extra_156 B b (Lib.byteCells l) s w h (by simpa [Lib.byteCells] using hlen) hB).mono fun e w' ⟨h1, h2, h3⟩ => ⟨h1, .inr ?_, h3⟩
  have e1 : Lib.byteCells (l ++ s.data.toList) = Lib.byteCells l ++ Lib.strCells s := by simp [Lib.byteCells, Lib.strCells]
  rw [e1]
  exact h2
theorem copyCheck_any (B b : Nat) (l : List UInt8) (w : World) (h : Bu B b l w) :
    Calls Tryd.prog 37 #[.pointer (some ⟨b, 0, none⟩)] w fun e w' => e = .returned (.tuple #[]) ∧ Lib.BuilderAt 59 5 B b (.pointer (some ⟨b, 0, none⟩)) (Lib.byteCells l) w' ∧ Below B w w' :=
  Any.Builder_copyCheck Tryd.l240 Tryd.Builder_Extra_156.toX72 B b (Lib.byteCells l) w h
theorem Tryd.infoU8 : (Tryd.prog.info? 5).map (fun i => (i.zero, i.size, i.bytes)) = some (some (.int .u8 0), 1, 1) := by kernel_rfl

set_option maxHeartbeats 1000000 in
set_option maxRecDepth 100000 in
theorem writeByte_any (B b : Nat) (l : List UInt8) (x : UInt8) (n : Int) (hx : n = x.toNat) (w : World) (h : Bu B b l w) (hlen : l.length + 1 ≤ 140737488355328) (hB : B ≤ w.heap.size) :
    Calls Tryd.prog 21 #[.pointer (some ⟨b, 0, none⟩), .int .u8 n] w fun e w' => e = .returned .nilIface ∧ Bu B b (l ++ [x]) w' ∧ Below B w w' := by
  obtain ⟨i0, hi, hz0, hz1, hz2⟩ := info_parts Tryd.infoU8
  have K := Lib.hid (copyCheck_any B b l w h)
  have e2 : Lib.byteCells (l ++ [x]) = Lib.byteCells l ++ [.int .u8 n] := by simp [Lib.byteCells, hx]
  have hl2 : (Lib.byteCells l).length + 1 ≤ 140737488355328 := by simpa [Lib.byteCells] using hlen
  unfold Bu
  rw [e2]
  clear h hx e2 hlen
  revert K hl2
  generalize Lib.byteCells l = bs
  intro K hl2
  go_enter Tryd.func21, Tryd.ntmps21
  go_wp2_with fail
  refine K.out.mono ?_
  rintro e1 w1 ⟨rfl, ⟨hBb, v, hbk, hown, hne⟩, hb1⟩
  have hlt : b < w1.heap.size := by
    rcases Nat.lt_or_ge b w1.heap.size with h2 | h2
    · exact h2
    · rw [Array.getElem?_eq_none h2] at hbk; cases hbk
  have y1 : w1.cell? ⟨b, 1, none⟩ = some v := by simp [World.cell?, hbk]
  have g1 : w1.frozen? ⟨b, 1, none⟩ = false := by simp [World.frozen?, hbk]
  obtain ⟨A, cc, rfl⟩ : ∃ A cc, v = .slice A bs.length cc := by
    rcases hown.2 with ⟨e1, e2⟩ | ⟨g, cap, cur, e1, _⟩
    · exact ⟨none, 0, by rw [e1, e2]⟩
    · exact ⟨_, _, e1⟩
  have HB1 := Lib.hid hb1
  have hs1 := hb1.size
  clear K hb1
  go_wp2_with (at_builtin; refine wpList_append_lies _ (by rfl) _ _ _ (by rfl) B 5 i0 _ 1 1 Tryd.underlying57 hi hz0 hz1 hz2 rfl (by omega) (.slice A bs.length cc) bs.length bs (by rfl) (hown.alloc _) ⟨w1.heap.size, 0, none⟩ 1 1 [.int .u8 n] (by rfl) (by rfl) (World.news_of_block (cs := #[.int .u8 n]) (t := 5) (fr := (0, 0)) (heap_alloc_new w1 _)) (by simp [Value.oneCell']) (by omega) (by unfold maxLen; omega) (by omega) (by simp; omega) _ rfl ?_; intro gg cap w2 hown1 hgrow hat hlt2; have f1 := (hgrow.frozen_far ⟨b, 1, none⟩ (by simp; omega) (Ne.symm hne)).trans ((((Below.refl w1.heap.size w1).alloc (Nat.le_refl _) _).frozen (p := ⟨b, 1, none⟩) hlt).trans g1); have c1 := (hgrow.cell_far ⟨b, 1, none⟩ (by simp; omega) (Ne.symm hne)).trans ((((Below.refl w1.heap.size w1).alloc (Nat.le_refl _) _).cell (p := ⟨b, 1, none⟩) hlt).trans y1))
  go_ret
  have hneb : gg ≠ b := by
    rcases hat with h1 | h1
    · rintro rfl; exact hne h1
    · have : gg = w1.heap.size + 1 := by simpa using h1
      omega
  have hb2 : w2.heap[b]? = some (.cells #[.pointer (some ⟨b, 0, none⟩), .slice A bs.length cc] 59 (0, 0)) := by
    rw [hgrow.block b (by simp; omega) (fun e => hne e.symm), Below.heap_alloc _ _ _ (by omega)]
    exact hbk
  refine ⟨rfl, .inr ⟨hBb, .slice (some ⟨gg, 0, none⟩) (bs.length + 1) cap, ?_, ?_, ?_⟩, ?_⟩
  · simp [World.setCell, Array.getElem?_modify, hb2]
  · rw [List.length_append]
    exact ownsRow_set hown1 _ _ hneb
  · simp [Value.ownBlock]; exact hneb
  · exact ((HB1.out.alloc (by omega) _).grown hgrow (by simp; omega) (fun k hk => (hown.lt k hk).1)).setCell (p := ⟨b, 1, none⟩) hBb _
theorem string_any (B b : Nat) (l : List UInt8) (w : World) (h : Bu B b l w) (hB : B ≤ w.heap.size) :
    Calls Tryd.prog 22 #[.pointer (some ⟨b, 0, none⟩)] w fun e w' => e = .returned (.string ⟨l.toArray⟩) ∧ Below B w w' := Tryd.Builder_String_any B b l w h hB
end Go.Proofs.YteijehmdabigeaaDoor
