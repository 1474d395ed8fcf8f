/-
  print.Unit BY A CONTRACT.
-/
import Derived.Test.YteijehmdabigeaaDoorPrUnit
namespace Go.Proofs.YteijehmdabigeaaDoor
open Go Go.RowKit

theorem Env.mono {B B' : Nat} {w : World} (h : Env B w) (hb : B ≤ B') : Env B' w := ⟨⟨by have := h.lo; omega, by have := h.lo; omega, by have := h.lo; omega⟩, h.pow, h.ops, h.blk⟩
theorem Bu.below {B b : Nat} {l : List UInt8} {w w' : World} (h : Bu B b l w) (hb : Below w.heap.size w w') : Bu B b l w' := by
  have hk : ∀ p, Lib.BuilderAt 59 5 B b p (Lib.byteCells l) w → Lib.BuilderAt 59 5 B b p (Lib.byteCells l) w' := by
    rintro p ⟨h1, v, h2, h3, h4⟩
    have hlt : ∀ g o, w.heap[g]? = some o → g < w.heap.size := by
      intro g o hg
      rcases Nat.lt_or_ge g w.heap.size with h5 | h5
      · exact h5
      · rw [Array.getElem?_eq_none h5] at hg; cases hg
    refine ⟨h1, v, (hb.block b (hlt _ _ h2)).trans h2, ⟨h3.1, ?_⟩, h4⟩
    rcases h3.2 with h5 | ⟨g, cap, cur, hv, hbg, hg, rest⟩
    · exact .inl h5
    · exact .inr ⟨g, cap, cur, hv, hbg, (hb.block g (hlt _ _ hg)).trans hg, rest⟩
  rcases h with h | h
  · exact .inl (hk _ h)
  · exact .inr (hk _ h)
theorem tU_take {l : List DT} {k : Nat} (h : k < l.length) : tU (l.take (k + 1)) = tU (l.take k) ++ (joined (tD l[k]) ++ [10]) := by
  unfold tU
  rw [List.take_succ_eq_append_getElem h, List.flatMap_append, List.flatMap_cons, List.flatMap_nil, List.append_nil]
theorem tU_take_le (l : List DT) {k : Nat} (h : k < l.length) : (tU (l.take k)).length + ((joined (tD l[k])).length + 1) ≤ (tU l).length := by
  have e : l = l.take k ++ l[k] :: l.drop (k + 1) := by simp
  conv => rhs; rw [e]
  simp only [tU, List.flatMap_append, List.flatMap_cons, List.length_append, List.length_cons, List.length_nil]
  omega
theorem tU_len (l : List DT) : l.length ≤ (tU l).length := by
  induction l with
  | nil => simp [tU]
  | cons x r ih => simp only [tU, List.flatMap_cons, List.length_append, List.length_cons, List.length_nil] at ih ⊢; omega

set_option maxHeartbeats 2000000 in
set_option maxRecDepth 100000 in
theorem Unit_any (L : List DT) (A : Option Addr) (c : Nat) (w : World) (hE : Env w.heap.size w) (ha : DsR w w.heap.size A L) (hl : ∀ (k : Nat) (hk : k < L.length), (tD L[k]).length + 1 ≤ few) (hs : (tU L).length ≤ 140737488355328) :
    Calls Tryd.prog 8 #[.agg #[.slice A L.length c]] w (Says w (tU L)) := by
  have HA := Lib.hid (fun (w' : World) (hb : Below w.heap.size w w') => DsR.mono (Nat.le_refl w.heap.size) hb.block ha)
  have HE := Lib.hid hE
  have HL := Lib.hid hl
  have HS := Lib.hid hs
  have hcnt : L.length ≤ 140737488355328 := Nat.le_trans (tU_len L) hs
  have hW : Below w.heap.size w ((w.alloc (.cells #[.slice A L.length c] 24)).alloc (.cells #[.pointer none, .slice none 0 0] 59)) := ((Below.refl _ _).alloc (Nat.le_refl _) _).alloc (by rw [heap_alloc_size]; exact Nat.le_succ _) _
  have hB : Bu (w.heap.size + 1) (w.heap.size + 1) [] ((w.alloc (.cells #[.slice A L.length c] 24)).alloc (.cells #[.pointer none, .slice none 0 0] 59)) := by
    refine .inl ⟨Nat.le_refl _, .slice none 0 0, ?_, ⟨rfl, .inl ⟨rfl, rfl⟩⟩, by simp [Value.ownBlock]⟩
    have := heap_alloc_new (w.alloc (.cells #[.slice A L.length c] 24)) (.cells #[.pointer none, .slice none 0 0] 59)
    rw [heap_alloc_size] at this
    exact this
  have H0 := Lib.hid (And.intro hW hB)
  clear ha hE hl hs hW hB
  go_enter Tryd.func8, Tryd.ntmps8
  go_wp2_with fail
  go_loopw [10] (fun i wr => ∃ k : Nat, k ≤ L.length ∧ i = .int .i64 k ∧ Hid (Below w.heap.size w wr ∧ Bu (w.heap.size + 1) (w.heap.size + 1) (tU (L.take k)) wr ∧ w.heap.size + 2 ≤ wr.heap.size)) (fun i _ => L.length - (intOf i).toNat)
  case atStart => exact ⟨0, Nat.zero_le _, rfl, H0.out.1, H0.out.2, by simp⟩
  case round =>
    obtain ⟨k, hk, rfl, hx⟩ := hrel
    by_cases hlt : k < L.length
    · obtain ⟨hb, hu, hsz⟩ := hx.out
      obtain ⟨g, o, cs, rfl, hg, hlen, hc, he⟩ := HA.out wr hb k hlt
      have e2 := tU_take hlt
      have e3 := tU_take_le L hlt
      have e4 := HL.out k hlt
      obtain ⟨⟨kind, name, base, faces, ab, fin, vars, methods, body, every, first⟩, hN⟩ : ∃ d : DT, d = L[k] := ⟨_, rfl⟩
      rw [← hN] at e2 e3 e4 he
      have he1 := he
      obtain ⟨A1, c1, A2, c2, A3, c3, A4, c4, rfl, hev, hfi, r1, r2, r3, r4⟩ := he
      have y0 := hc 0 _ rfl
      have y1 := hc 1 _ rfl
      have y2 := hc 2 _ rfl
      have y3 := hc 3 _ rfl
      have y4 := hc 4 _ rfl
      have y5 := hc 5 _ rfl
      have y6 := hc 6 _ rfl
      have y7 := hc 7 _ rfl
      have y8 := hc 8 _ rfl
      have y9 := hc 9 _ rfl
      have y10 := hc 10 _ rfl
      rw [Nat.add_zero] at y0
      have h1 : (k : Int) < (L.length : Int) := by omega
      have h2 : (0 : Int) ≤ (k : Int) := by omega
      have hW : Below wr.heap.size wr (dC wr ⟨kind, name, base, faces, ab, fin, vars, methods, body, every, first⟩ A1 c1 A2 c2 A3 c3 A4 c4) := (Below.refl _ _).alloc (Nat.le_refl _) _
      have hW2 : Below wr.heap.size wr ((dC wr ⟨kind, name, base, faces, ab, fin, vars, methods, body, every, first⟩ A1 c1 A2 c2 A3 c3 A4 c4).alloc (.cells #[.slice none 0 0] 61)) := hW.alloc hW.size _
      have hL2 : LAt wr.heap.size ((dC wr ⟨kind, name, base, faces, ab, fin, vars, methods, body, every, first⟩ A1 c1 A2 c2 A3 c3 A4 c4).alloc (.cells #[.slice none 0 0] 61)) (wr.heap.size + 1) none [] := by
        have := LAt.fresh (B := wr.heap.size) (w := dC wr ⟨kind, name, base, faces, ab, fin, vars, methods, body, every, first⟩ A1 c1 A2 c2 A3 c3 A4 c4) hW.size
        rw [heap_alloc_size] at this
        exact this
      have hEr : Env wr.heap.size ((dC wr ⟨kind, name, base, faces, ab, fin, vars, methods, body, every, first⟩ A1 c1 A2 c2 A3 c3 A4 c4).alloc (.cells #[.slice none 0 0] 61)) := ((HE.out.below hb).mono hb.size).below hW2
      have hD : DIn ((dC wr ⟨kind, name, base, faces, ab, fin, vars, methods, body, every, first⟩ A1 c1 A2 c2 A3 c3 A4 c4).alloc (.cells #[.slice none 0 0] 61)) wr.heap.size ⟨kind, name, base, faces, ab, fin, vars, methods, body, every, first⟩ _ := DIn.mono hb.size (fun g hg => hW2.block g (Nat.lt_of_lt_of_le hg hb.size)) he1
      have K := Lib.hid (decl_of _ wr.heap.size (wr.heap.size + 1) _ none [] _ hL2 hW2.size hEr hD (by simpa using e4))
      have HX := Lib.hid (And.intro hb (And.intro hu (And.intro hsz hW2)))
      have E2 := Lib.hid e2
      have E3 := Lib.hid e3
      have E4 := Lib.hid e4
      clear hx hb hu hsz hg hlen hc he1 hev hfi r1 r2 r3 r4 hN e2 e3 e4 hW hW2 hL2 hEr hD
      go_wp2_with fail
      refine K.out.mono ?_
      rintro e1 w1 ⟨rfl, q1, H1⟩
      rw [List.nil_append] at H1
      have KT := Lib.hid (text_any H1.at_ (by have := E3.out; have := HS.out; omega) (by have := E4.out; omega))
      have HB1 := Lib.hid (HX.out.2.2.2.trans H1.low)
      clear K H1 y0 y1 y2 y3 y4 y5 y6 y7 y8 y9 y10
      go_wp2_with fail
      refine KT.out.mono ?_
      rintro e2 w2 ⟨rfl, hb2⟩
      have HB2 : Hid (Below wr.heap.size wr w2) := HB1.out.trans (hb2.mono HB1.out.size)
      have hsz := HX.out.2.2.1
      have KW := Lib.hid (writeString_any (w.heap.size + 1) (w.heap.size + 1) (tU (L.take k)) ⟨(joined (tD ⟨kind, name, base, faces, ab, fin, vars, methods, body, every, first⟩)).toArray⟩ w2 (HX.out.2.1.below HB2.out) (by
        have := E3.out; have := HS.out
        have e5 : (⟨(joined (tD ⟨kind, name, base, faces, ab, fin, vars, methods, body, every, first⟩)).toArray⟩ : ByteArray).size = (joined (tD ⟨kind, name, base, faces, ab, fin, vars, methods, body, every, first⟩)).length := by simp [ByteArray.size]
        omega) (by have := HB2.out.size; omega))
      clear hb2 KT HB1
      go_wp2_with fail
      refine KW.out.mono ?_
      rintro e3 w3 ⟨rfl, hu3, hb3⟩
      have KB := Lib.hid (writeByte_any (w.heap.size + 1) (w.heap.size + 1) _ 10 10 rfl w3 hu3 (by have := E3.out; have := HS.out; simp only [List.length_append]; omega) (by have := HB2.out.size; have := hb3.size; omega))
      have HB3 : Hid (Below w.heap.size w w3 ∧ w.heap.size + 2 ≤ w3.heap.size) := ⟨(HX.out.1.trans (HB2.out.mono (by omega))).trans (hb3.mono (by omega)), by have := HB2.out.size; have := hb3.size; omega⟩
      clear hu3 hb3 KW hsz
      go_wp2_with fail
      refine KB.out.mono ?_
      rintro e4 w4 ⟨rfl, hu4, hb4⟩
      have HZ : Hid (Below w.heap.size w w4 ∧ Bu (w.heap.size + 1) (w.heap.size + 1) (tU (L.take (k + 1))) w4 ∧ w.heap.size + 2 ≤ w4.heap.size) := by
        refine ⟨HB3.out.1.trans (hb4.mono (by omega)), ?_, Nat.le_trans HB3.out.2 hb4.size⟩
        rw [E2.out, ← List.append_assoc]
        exact hu4
      clear hu4 hb4 KB
      go_wp2_with fail
      go_roundw
      case rel => exact ⟨k + 1, by omega, by go_num, HZ.out⟩
      case measure => simp [intOf]; omega
    · have h1 : ¬ (k : Int) < (L.length : Int) := by omega
      have eT : L.take k = L := List.take_of_length_le (by omega)
      rw [eT] at hx
      have KS := Lib.hid (string_any (w.heap.size + 1) (w.heap.size + 1) (tU L) wr hx.out.2.1 (by have := hx.out.2.2; omega))
      have HX := Lib.hid hx.out.1
      clear hx eT
      go_wp2_with fail
      refine KS.out.mono ?_
      rintro e1 w1 ⟨rfl, hb1⟩
      have HZ := Lib.hid (HX.out.trans (hb1.mono (Nat.le_succ _)))
      clear hb1 KS
      go_wp2_with fail
      go_ret
      exact ⟨rfl, HZ.out⟩
end Go.Proofs.YteijehmdabigeaaDoor
