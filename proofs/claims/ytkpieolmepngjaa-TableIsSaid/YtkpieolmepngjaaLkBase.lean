/-
  lookup: what is found of a declaration's base BY A CONTRACT.
-/
import Derived.Test.YtkpieolmepngjaaLkFindA
namespace Go.Proofs.Ytkpieolmepngjaa
open Go Go.RowKit
set_option linter.unusedVariables false
set_option linter.unusedSimpArgs false

/-- cells of a declaration that is read from an index's row. -/
theorem XAt.decl {L : List DT} {A : Option Addr} {c p N : Nat} {W : World} {I : IX} (h : XAt L A c p N W I) {k : Nat} (hk : k < L.length) : ∃ q o, A = some ⟨q, o, none⟩ ∧ q < N ∧ W.cell? ⟨q, o + k * 11 + 2, none⟩ = some (.string L[k].base) := by
  obtain ⟨g, o, cs, rfl, hg, hlen, hc, he⟩ := h.row k hk
  obtain ⟨A1, c1, A2, c2, A3, c3, A4, c4, rfl, _⟩ := he
  exact ⟨g, o, rfl, hg, hc 2 _ rfl⟩
theorem baseT_at {L : List DT} {k : Nat} (hk : k < L.length) : baseT L k = L[k].base := by unfold baseT; rw [Int.toNat_natCast, List.getElem?_eq_getElem hk]; rfl
/-- the row of the bases behind one more. -/
theorem XAt.setBase {L : List DT} {A : Option Addr} {c p N g k : Nat} {W : World} {I : IX} (h : XAt L A c p N W I) (hg : I.g = some g) (hk : k < L.length) : XAt L A c p N (W.setCell ⟨g, k, none⟩ (.int .i64 (findT L (baseT L k) + 2))) I := by
  have hgh : I.has p g := .inr (.inr hg)
  have hgp := h.ng g hg
  have hgN := (h.far g hgh).1
  have e : ∀ j, j ≠ g → (W.setCell ⟨g, k, none⟩ (.int .i64 (findT L (baseT L k) + 2))).heap[j]? = W.heap[j]? := fun j hj => Below.heap_setCell _ _ _ _ hj
  refine ⟨(e p (fun e => hgp e.symm)).trans h.box, DsR.mono (Nat.le_refl _) (fun j hj => e j (by omega)) h.row, fun j hj => ⟨(h.far j hj).1, by have := (h.far j hj).2; simp [World.setCell]; omega⟩, h.nm, h.ng, fun m hm => ?_, fun g2 hg2 => ?_⟩
  · obtain ⟨n, D, ⟨es, ck, hh, hr⟩, hf⟩ := h.map m hm
    exact ⟨n, D, ⟨es, ck, (e m (fun e => (h.nm m hm).2 (e ▸ hg))).trans hh, hr⟩, hf⟩
  · obtain rfl : g2 = g := by rw [hg] at hg2; cases hg2; rfl
    obtain ⟨cs, h1, h2, h3⟩ := h.bases g2 hg
    refine ⟨_, heap_set_cell h1 k _, by simp [h2], fun i hi => ?_⟩
    by_cases hik : i = k
    · subst hik
      have : i < cs.size := by omega
      right
      simp [Array.set!, Array.setIfInBounds, this]
    · have e2 : (cs.set! k (.int .i64 (findT L (baseT L k) + 2)))[i]? = cs[i]? := by simp [Array.set!, Array.getElem?_setIfInBounds_ne (Ne.symm hik)]
      rw [e2]
      exact h3 i hi
theorem XTo.setBase {L : List DT} {A : Option Addr} {c p N g k : Nat} {W : World} {I : IX} {v : Value} (hg : I.g = some g) : XTo p W I (W.setCell ⟨g, k, none⟩ v) I :=
  ⟨rfl, rfl, rfl, by simp [World.setCell], fun j _ hj => Below.heap_setCell _ _ _ _ (fun e => hj (.inr (.inr (by rw [hg]; exact congrArg some e.symm)))), fun j hj => .inl hj⟩
/-- an index whose bases' row was made. -/
theorem XAt.made {L : List DT} {A : Option Addr} {c p N : Nat} {W W' : World} {I : IX} {ms : Array Value} (h : XAt L A c p N W I) (hg : I.g = none) (hW : W' = (W.setCell ⟨p, 2, none⟩ (.slice (some ⟨W.heap.size, 0, none⟩) L.length L.length)).alloc (.cells ms 3)) (hm : ms.size = L.length ∧ ∀ i, i < L.length → ms[i]? = some (.int .i64 0)) :
    XAt L A c p N W' ⟨I.mb, some W.heap.size⟩ ∧ XTo p W I W' ⟨I.mb, some W.heap.size⟩ := by
  have hp := h.far p (.inl rfl)
  have hs : W'.heap.size = W.heap.size + 1 := by rw [hW]; simp [World.setCell]
  have e : ∀ j, j < W.heap.size → j ≠ p → W'.heap[j]? = W.heap[j]? := fun j h1 h2 => by
    rw [hW, Below.heap_alloc _ _ _ (by simp [World.setCell]; omega)]
    exact Below.heap_setCell _ _ _ _ h2
  have ep : W'.heap[p]? = some (.cells (ixCells A L.length c ⟨I.mb, some W.heap.size⟩) 103 (0, 0)) := by
    rw [hW, Below.heap_alloc _ _ _ (by simp [World.setCell]; omega), heap_set_cell h.box]
    rfl
  have eg : W'.heap[W.heap.size]? = some (.cells ms 3 (0, 0)) := by
    have := heap_alloc_new (W.setCell ⟨p, 2, none⟩ (.slice (some ⟨W.heap.size, 0, none⟩) L.length L.length)) (.cells ms 3)
    rw [hW]
    simpa [World.setCell] using this
  refine ⟨⟨ep, DsR.mono (Nat.le_refl _) (fun j hj => e j (by omega) (by omega)) h.row, fun j hj => ?_, fun m hm => ?_, fun g hg2 => ?_, fun m hm => ?_, fun g hg2 => ?_⟩, ⟨by rw [hW]; rfl, by rw [hW]; rfl, by rw [hW]; rfl, by omega, fun j h1 h2 => e j h1 (fun e => h2 (.inl e)), fun j hj => ?_⟩⟩
  · rcases hj with rfl | hj | hj
    · omega
    · have := h.far j (.inr (.inl hj)); omega
    · injection hj with hj
      omega
  · have := h.far m (.inr (.inl hm))
    refine ⟨(h.nm m hm).1, fun e => ?_⟩
    injection e with e
    omega
  · injection hg2 with hg2
    omega
  · obtain ⟨n, D, ⟨es, ck, hh, hr⟩, hf⟩ := h.map m hm
    have := h.far m (.inr (.inl hm))
    exact ⟨n, D, ⟨es, ck, (e m this.2 (h.nm m hm).1).trans hh, hr⟩, hf⟩
  · injection hg2 with hg2
    subst hg2
    exact ⟨ms, eg, hm.1, fun i hi => .inl (hm.2 i hi)⟩
  · rcases hj with rfl | hj | hj
    · exact .inl (.inl rfl)
    · exact .inl (.inr (.inl hj))
    · injection hj with hj
      exact .inr (by omega)
theorem XAt.cellB {L : List DT} {A : Option Addr} {c p N g k : Nat} {W : World} {I : IX} (h : XAt L A c p N W I) (hg : I.g = some g) (hk : k < L.length) : ∃ v, W.cell? ⟨g, k, none⟩ = some v ∧ W.frozen? ⟨g, k, none⟩ = false ∧ (v = .int .i64 0 ∨ v = .int .i64 (findT L (baseT L k) + 2)) := by
  obtain ⟨cs, h1, h2, h3⟩ := h.bases g hg
  rcases h3 k hk with h4 | h4
  · exact ⟨_, by rw [cell_of_row _ _ k _ _ _ h1, h4], frozen_of_row _ _ k _ _ h1, .inl rfl⟩
  · exact ⟨_, by rw [cell_of_row _ _ k _ _ _ h1, h4], frozen_of_row _ _ k _ _ h1, .inr rfl⟩
theorem XAt.cellSet {L : List DT} {A : Option Addr} {c p N g k : Nat} {W : World} {I : IX} (h : XAt L A c p N W I) (hg : I.g = some g) (hk : k < L.length) (v : Value) : (W.setCell ⟨g, k, none⟩ v).cell? ⟨g, k, none⟩ = some v := by
  obtain ⟨cs, h1, h2, h3⟩ := h.bases g hg
  have : k < cs.size := by omega
  rw [cell_of_row _ _ k _ _ _ (heap_set_cell h1 k v)]
  simp [Array.set!, Array.setIfInBounds, this]
theorem ints_nil (w : World) : (binOp .eql 32 (.slice none 0 0) (.slice none 0 0)).run Try.prog w = .ok (.bool true) w := by kernel_rfl
theorem ints_some (a : Addr) (n m : Nat) (w : World) : (binOp .eql 32 (.slice (some a) n m) (.slice none 0 0)).run Try.prog w = .ok (.bool false) w := by kernel_rfl
set_option maxHeartbeats 2000000 in
set_option maxRecDepth 100000 in
theorem lkBase_any (L : List DT) (A : Option Addr) (c p N k : Nat) (I : IX) (w : World) (h : XAt L A c p N w I) (hfit : Fit L) (hk : k < L.length) :
    Calls Try.prog 68 #[.pointer (some ⟨p, 0, none⟩), .int .i64 (k : Int)] w (XFinds L A c p N w I L[k].base) := by
  have hn := hfit.len
  obtain ⟨s, hs⟩ : ∃ s, s = L[k].base := ⟨_, rfl⟩
  obtain ⟨f, hf⟩ : ∃ f, f = findT L s := ⟨_, rfl⟩
  have hfl := findT_le L s
  rw [← hf] at hfl
  have hbT : findT L (baseT L k) = f := by rw [baseT_at hk, ← hs, ← hf]
  have KF : Hid (∀ W J, Hid (XAt L A c p N W J) → Calls Try.prog 69 #[.pointer (some ⟨p, 0, none⟩), .string s] W fun e w' => e = .returned (.int .i64 f) ∧ Hid (XAt L A c p N w' J) ∧ Hid (XTo p W J w' J)) := fun W J hx => hf ▸ lkFind_few L A c p N J s W hx.out (by omega) hn
  have q1 : (k : Int) < (L.length : Int) := by omega
  have q2 : (0 : Int) ≤ (k : Int) := by omega
  have e1 : wrap64 (f + 2) = f + 2 := by unfold wrap64; omega
  have e0 : IntKind.i64.wrap (f + 2) = f + 2 := by simp [IntKind.wrap, IntKind.bits, IntKind.signed]; omega
  have e2 : wrap64 f = f := by unfold wrap64; omega
  have e3 : (f + 2 == 0) = false := by simp; omega
  obtain ⟨q, o, rfl, hq, hcb⟩ := h.decl hk
  rw [← hs] at hcb
  unfold XFinds
  rw [← hs, ← hf]
  have HX := Lib.hid h
  have HBT := Lib.hid hbT
  have HK := Lib.hid hk
  obtain ⟨i0, hi0, hz0, hz1, hz2⟩ := info_parts Try.infoInt
  obtain ⟨n, hn0⟩ : ∃ n, n = L.length := ⟨_, rfl⟩
  obtain ⟨ms, hms⟩ : ∃ ms, ms = madeCells (Value.int .i64 0).cells (n * 1) := ⟨_, rfl⟩
  have hmk : ∀ W : World, (Instr.makeSlice 32 (.int .i64 (n : Int)) (.int .i64 (n : Int))).run Try.prog W = .ok (.slice (some ⟨W.heap.size, 0, none⟩) n n) (W.alloc (.cells ms 3)) := fun W => by
    have := run_make (P := Try.prog) W 32 3 i0 (.int .i64 0) Try.underlying32 hi0 hz0 .i64 .i64 n n (by omega) (Int.le_refl _) (by rw [hz2]; omega) (by omega)
    rw [hz1] at this
    rw [hms]
    simpa using this
  have hms2 : ms.size = n ∧ ∀ i, i < n → ms[i]? = some (.int .i64 0) := by
    rw [hms, size_madeCells, Nat.mul_one]
    refine ⟨rfl, fun i hi => ?_⟩
    rw [Array.getElem?_eq_getElem (by rw [size_madeCells]; exact hi)]
    simp [madeCells, Value.cells, Nat.mod_one]
  have HMS := Lib.hid hms2
  have HN := Lib.hid hn0
  cases hg : I.g with
  | none =>
    have hpl := (h.far p (.inl rfl)).2
    have y0 := h.c0
    have y2 : w.cell? ⟨p, 2, none⟩ = some (basesV L.length I.g) := h.c2
    have f2 := h.fz 2
    obtain ⟨hx1, ht1⟩ := h.made (W' := (w.setCell ⟨p, 2, none⟩ (.slice (some ⟨w.heap.size, 0, none⟩) n n)).alloc (.cells ms 3)) hg (by rw [hn0]) (by rw [← hn0]; exact hms2)
    obtain ⟨W1, hW1⟩ : ∃ W1, W1 = (w.setCell ⟨p, 2, none⟩ (.slice (some ⟨w.heap.size, 0, none⟩) n n)).alloc (.cells ms 3) := ⟨_, rfl⟩
    rw [← hW1] at hx1 ht1
    have g1 : W1.heap[w.heap.size]? = some (.cells ms 3 (0, 0)) := by
      have := heap_alloc_new (w.setCell ⟨p, 2, none⟩ (.slice (some ⟨w.heap.size, 0, none⟩) n n)) (.cells ms 3)
      rw [hW1]
      simpa [World.setCell] using this
    have z0 := hx1.c0
    have z2 : W1.cell? ⟨p, 2, none⟩ = some (.slice (some ⟨w.heap.size, 0, none⟩) L.length L.length) := hx1.c2
    have zk : W1.cell? ⟨w.heap.size, k, none⟩ = some (.int .i64 0) := by rw [cell_of_row _ _ k _ _ _ g1]; exact hms2.2 k (by omega)
    obtain ⟨q', o', hqo, hq', zc⟩ := hx1.decl hk
    obtain ⟨rfl, rfl⟩ : q' = q ∧ o' = o := by simpa using hqo.symm
    rw [← hs] at zc
    have HX1 := Lib.hid hx1
    have HT1 := Lib.hid ht1
    have HW1 := Lib.hid hW1
    rw [hg] at y2
    change _ = some (Value.slice none 0 0) at y2
    rw [← hn0] at y0 z0 z2 q1
    have hpn : p ≠ w.heap.size := by omega
    have hpn2 : w.heap.size ≠ p := by omega
    have hnil := ints_nil
    have SC : Hid (∀ W, Hid (XAt L (some ⟨q', o', none⟩) c p N W ⟨I.mb, some w.heap.size⟩) → W.cell? ⟨p, 0, none⟩ = some (.slice (some ⟨q', o', none⟩) n c) ∧ W.cell? ⟨p, 2, none⟩ = some (.slice (some ⟨w.heap.size, 0, none⟩) n n) ∧ W.cell? ⟨q', o' + k * 11 + 2, none⟩ = some (.string s)) := fun W hW => by
      obtain ⟨q2, o2, hqo, _, hc⟩ := hW.out.decl hk
      obtain ⟨rfl, rfl⟩ : q2 = q' ∧ o2 = o' := by simpa using hqo.symm
      exact ⟨hn0 ▸ hW.out.c0, hn0 ▸ hW.out.c2, hs ▸ hc⟩
    have SB : Hid (∀ W, Hid (XAt L (some ⟨q', o', none⟩) c p N W ⟨I.mb, some w.heap.size⟩) → ∃ v, W.cell? ⟨w.heap.size, k, none⟩ = some v ∧ W.frozen? ⟨w.heap.size, k, none⟩ = false) := fun W hW => by
      obtain ⟨v, h1, h2, _⟩ := hW.out.cellB rfl hk
      exact ⟨v, h1, h2⟩
    have SS : Hid (∀ W, Hid (XAt L (some ⟨q', o', none⟩) c p N W ⟨I.mb, some w.heap.size⟩) → Hid (XAt L (some ⟨q', o', none⟩) c p N (W.setCell ⟨w.heap.size, k, none⟩ (.int .i64 (f + 2))) ⟨I.mb, some w.heap.size⟩)) := fun W hW => by
      have := hW.out.setBase rfl hk
      rw [hbT] at this
      exact this
    have KK : Hid (∀ W, Hid (XAt L (some ⟨q', o', none⟩) c p N W ⟨I.mb, some w.heap.size⟩) → (W.setCell ⟨w.heap.size, k, none⟩ (.int .i64 (f + 2))).cell? ⟨w.heap.size, k, none⟩ = some (.int .i64 (f + 2))) := fun W hW => hW.out.cellSet rfl hk _
    rw [hW1] at z0 z2 zk zc
    clear hf hs hfl hbT h hfit hk hg hms hms2 hi0 hz0 hz1 hz2 hn0 hx1 ht1 hW1 g1
    go_enter Try.func68, Try.ntmps68
    go_wp2_with fail
    rw [← HW1.out] at z0 z2 zk zc ⊢
    go_region_held3 (fun w' => w'.cell? ⟨p, 0, none⟩ = some (.slice (some ⟨q', o', none⟩) n c) ∧ w'.cell? ⟨p, 2, none⟩ = some (.slice (some ⟨w.heap.size, 0, none⟩) n n) ∧ w'.cell? ⟨q', o' + k * 11 + 2, none⟩ = some (.string s))
      (first | exact SC.out _ HX1 | exact ⟨by assumption, by assumption, by assumption⟩ | exact SC.out _ (SS.out _ hx2))
      (first | (go_at_call 69; refine (KF.out _ _ HX1.out.drew).mono ?_; rintro e2 w2 ⟨rfl, hx2, ht2⟩; obtain ⟨v0, v2, v3⟩ := SC.out _ hx2; obtain ⟨vk, uk, fk⟩ := SB.out _ hx2))
    have HX3 := SS.out _ hx2
    have HT3 : Hid (XTo p w I (w2.setCell ⟨w.heap.size, k, none⟩ (.int .i64 (f + 2))) ⟨I.mb, some w.heap.size⟩) := (HT1.out.trans ht2.out.drew).trans (XTo.setBase rfl (L := L) (A := some ⟨q', o', none⟩) (c := c) (N := N))
    have x2 := (SC.out _ HX3).2.1
    have xk : (w2.setCell ⟨w.heap.size, k, none⟩ (.int .i64 (f + 2))).cell? ⟨w.heap.size, k, none⟩ = some (.int .i64 (f + 2)) := KK.out _ hx2
    clear uk fk v0 v2 v3 hx2 ht2 z0 z2 zk zc y0 y2 f2
    generalize w2.setCell ⟨w.heap.size, k, none⟩ (.int .i64 (f + 2)) = w3 at HX3 HT3 x2 xk ⊢
    go_wp2_with fail
    go_ret
    exact ⟨_, (by rw [e2]; rfl), HX3, HT3⟩
  | some g =>
    have y0 := h.c0
    have y2 : w.cell? ⟨p, 2, none⟩ = some (basesV L.length I.g) := h.c2
    rw [hg] at y2
    change _ = some (Value.slice (some ⟨g, 0, none⟩) L.length L.length) at y2
    rw [← hn0] at y0 y2 q1
    have hnil := ints_some ⟨g, 0, none⟩ n n
    obtain ⟨v, zk, fk, hv⟩ := h.cellB hg hk
    rw [hbT] at hv
    rcases hv with rfl | rfl
    · have SC : Hid (∀ W, Hid (XAt L (some ⟨q, o, none⟩) c p N W I) → W.cell? ⟨p, 0, none⟩ = some (.slice (some ⟨q, o, none⟩) n c) ∧ W.cell? ⟨p, 2, none⟩ = some (.slice (some ⟨g, 0, none⟩) n n) ∧ W.cell? ⟨q, o + k * 11 + 2, none⟩ = some (.string s)) := fun W hW => by
        obtain ⟨q2, o2, hqo, _, hc⟩ := hW.out.decl hk
        obtain ⟨rfl, rfl⟩ : q2 = q ∧ o2 = o := by simpa using hqo.symm
        have h2 : W.cell? ⟨p, 2, none⟩ = some (basesV L.length I.g) := hW.out.c2
        rw [hg] at h2
        exact ⟨hn0 ▸ hW.out.c0, hn0 ▸ h2, hs ▸ hc⟩
      have SB : Hid (∀ W, Hid (XAt L (some ⟨q, o, none⟩) c p N W I) → ∃ v, W.cell? ⟨g, k, none⟩ = some v ∧ W.frozen? ⟨g, k, none⟩ = false) := fun W hW => by
        obtain ⟨v, h1, h2, _⟩ := hW.out.cellB hg hk
        exact ⟨v, h1, h2⟩
      have SS : Hid (∀ W, Hid (XAt L (some ⟨q, o, none⟩) c p N W I) → Hid (XAt L (some ⟨q, o, none⟩) c p N (W.setCell ⟨g, k, none⟩ (.int .i64 (f + 2))) I)) := fun W hW => by
        have := hW.out.setBase hg hk
        rw [hbT] at this
        exact this
      have KK : Hid (∀ W, Hid (XAt L (some ⟨q, o, none⟩) c p N W I) → (W.setCell ⟨g, k, none⟩ (.int .i64 (f + 2))).cell? ⟨g, k, none⟩ = some (.int .i64 (f + 2))) := fun W hW => hW.out.cellSet hg hk _
      have HG := Lib.hid hg
      clear hf hs hfl hbT h hfit hk hms hms2 hi0 hz0 hz1 hz2 hn0 hg
      go_enter Try.func68, Try.ntmps68
      go_wp2_with fail
      go_region_held3 (fun w' => w'.cell? ⟨p, 0, none⟩ = some (.slice (some ⟨q, o, none⟩) n c) ∧ w'.cell? ⟨p, 2, none⟩ = some (.slice (some ⟨g, 0, none⟩) n n) ∧ w'.cell? ⟨q, o + k * 11 + 2, none⟩ = some (.string s))
        (first | exact SC.out _ HX | exact ⟨by assumption, by assumption, by assumption⟩ | exact SC.out _ (SS.out _ hx2))
        (first | (go_at_call 69; refine (KF.out _ _ HX.out.drew).mono ?_; rintro e2 w2 ⟨rfl, hx2, ht2⟩; obtain ⟨v0, v2, v3⟩ := SC.out _ hx2; obtain ⟨vk, uk, fk⟩ := SB.out _ hx2))
      have HX3 := SS.out _ hx2
      have HT3 : Hid (XTo p w I (w2.setCell ⟨g, k, none⟩ (.int .i64 (f + 2))) I) := ht2.out.drew.trans (XTo.setBase HG.out (L := L) (A := some ⟨q, o, none⟩) (c := c) (N := N))
      have x2 := (SC.out _ HX3).2.1
      have xk : (w2.setCell ⟨g, k, none⟩ (.int .i64 (f + 2))).cell? ⟨g, k, none⟩ = some (.int .i64 (f + 2)) := KK.out _ hx2
      clear uk fk v0 v2 v3 hx2 ht2 zk y0 y2
      generalize w2.setCell ⟨g, k, none⟩ (.int .i64 (f + 2)) = w3 at HX3 HT3 x2 xk ⊢
      go_wp2_with fail
      go_ret
      exact ⟨_, (by rw [e2]; rfl), HX3, HT3⟩
    · have HT : Hid (XTo p w I w I) := XFr.refl _ _ _ _
      clear hf hs hfl hbT h hfit hk hms hms2 hi0 hz0 hz1 hz2 hn0 hg fk
      go_enter Try.func68, Try.ntmps68
      go_wp2_with fail
      go_ret
      exact ⟨_, (by rw [e2]; rfl), HX, HT⟩
end Go.Proofs.Ytkpieolmepngjaa
