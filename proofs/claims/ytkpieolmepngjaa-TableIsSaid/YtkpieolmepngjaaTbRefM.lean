/-
  governorref6: own, Method BY CONTRACTS.
-/
import Derived.Test.YtkpieolmepngjaaTbRefC
namespace Go.Proofs.Ytkpieolmepngjaa
open Go Go.RowKit
set_option linter.unusedVariables false
set_option linter.unusedSimpArgs false

/-- a declaration as a value. -/
abbrev dv (d : DT) (A1 A2 A3 A4 : Option Addr) (c1 c2 c3 c4 : Nat) : Value := .agg #[.int .i64 d.kind, .string d.name, .string d.base, .slice A1 d.faces.length c1, .bool d.abstract, .bool d.final, .slice A2 d.vars.length c2, .slice A3 d.methods.length c3, .slice A4 d.body.length c4, .int .i64 d.every, .int .i64 d.first]

set_option maxHeartbeats 1000000 in
set_option maxRecDepth 100000 in
theorem refOwn_any (d : DT) (A1 A2 A3 A4 : Option Addr) (c1 c2 c3 c4 : Nat) (s : ByteArray) (w : World) (ha : MsR w w.heap.size A3 d.methods) (hcnt : d.methods.length ≤ 1000000000) :
    Calls Try.prog 50 #[dv d A1 A2 A3 A4 c1 c2 c3 c4, .string s] w fun e w' => e = .returned (.int .i64 (ownT d.methods s)) ∧ Below w.heap.size w w' := by
  obtain ⟨R0, hR0⟩ : ∃ R0 : World, R0 = w.alloc (.cells #[.int .i64 d.kind, .string d.name, .string d.base, .slice A1 d.faces.length c1, .bool d.abstract, .bool d.final, .slice A2 d.vars.length c2, .slice A3 d.methods.length c3, .slice A4 d.body.length c4, .int .i64 d.every, .int .i64 d.first] 47) := ⟨_, rfl⟩
  have hb0 : Below w.heap.size w R0 := by rw [hR0]; exact (Below.refl _ _).alloc (Nat.le_refl _) _
  have hg : R0.heap[w.heap.size]? = some (.cells #[.int .i64 d.kind, .string d.name, .string d.base, .slice A1 d.faces.length c1, .bool d.abstract, .bool d.final, .slice A2 d.vars.length c2, .slice A3 d.methods.length c3, .slice A4 d.body.length c4, .int .i64 d.every, .int .i64 d.first] 47 (0, 0)) := by rw [hR0]; exact heap_alloc_new w _
  have y0 : R0.cell? ⟨w.heap.size, 7, none⟩ = some (.slice A3 d.methods.length c3) := by rw [cell_of_row _ _ 7 _ _ _ hg]; rfl
  have HA := Lib.hid (MsR.mono (Nat.le_refl _) hb0.block ha)
  have HB := Lib.hid hb0
  have HR0 := Lib.hid hR0
  obtain ⟨r, hr0⟩ : ∃ r, r = ownT d.methods s := ⟨_, rfl⟩
  rw [← hr0]
  have HR := Lib.hid hr0
  obtain ⟨M, hM⟩ : ∃ M, M = d.methods := ⟨_, rfl⟩
  rw [← hM] at HA HR y0 hcnt
  have HM := Lib.hid hM
  clear ha hb0 hg hR0 hr0 hM
  unfold dv
  go_enter Try.func50, Try.ntmps50
  go_wp2_with fail
  rw [← HR0.out]
  go_loopw [5] (fun i wr => ∃ k : Nat, k ≤ M.length ∧ i = .int .i64 k ∧ wr = R0 ∧ Hid (∀ j (hj : j < M.length), j < k → M[j].name ≠ s)) (fun i _ => M.length - (intOf i).toNat)
  case atStart => exact ⟨0, Nat.zero_le _, rfl, rfl, fun _ _ h => absurd h (Nat.not_lt_zero _)⟩
  case round =>
    obtain ⟨k, hk, rfl, rfl, hn⟩ := hrel
    have h2 : (0 : Int) ≤ (k : Int) := by omega
    by_cases hlt : k < M.length
    · have h1 : (k : Int) < (M.length : Int) := by omega
      obtain ⟨g, o, cs, rfl, hg, hlen, hc, he⟩ := HA.out k hlt
      obtain ⟨m, hN⟩ : ∃ d : MT, d = M[k] := ⟨_, rfl⟩
      rw [← hN] at he
      obtain ⟨B1, d1, B2, d2, B3, d3, rfl, _⟩ := he
      have y1 := hc 0 _ rfl
      rw [Nat.add_zero] at y1
      by_cases hs : m.name = s
      · have hr := ownT_at hlt hn.out (hN ▸ hs)
        have q : (m.name.toList == s.toList) = true := str_eq hs
        have HF := Lib.hid (HR.out.trans hr)
        clear hc hlen hg hN hr hs
        go_wp2_with fail
        go_ret
        exact ⟨by rw [HF.out]; rfl, HB.out⟩
      · have hn2 : Hid (∀ j (hj : j < M.length), j < k + 1 → M[j].name ≠ s) := fun j hj h => by
          rcases Nat.lt_or_ge j k with h3 | h3
          · exact hn.out j hj h3
          · obtain rfl : j = k := by omega
            exact hN ▸ hs
        have q : (m.name.toList == s.toList) = false := str_ne hs
        clear hc hlen hg hN hs
        go_wp2_with fail
        go_roundw
        case rel => exact ⟨k + 1, by omega, by go_num, trivial, hn2⟩
        case measure => simp [intOf]; omega
    · have h1 : ¬ (k : Int) < (M.length : Int) := by omega
      have hr := ownT_none (L := M) (s := s) (fun j hj => hn.out j hj (by omega))
      have HF := Lib.hid (HR.out.trans hr)
      clear hr
      go_wp2_with fail
      go_ret
      exact ⟨by rw [HF.out]; rfl, HB.out⟩

theorem results_where {fn : Func} {p u : Tmp} (h : fn.results = #[.cell p 29, .tmp u]) (tmps : Array Value) (w : World) (g : Nat) (v0 v1 : Value) (hp : tmps.getD p undef = .pointer (some ⟨g, 0, none⟩))
    (c0 : w.cell? ⟨g, 0, none⟩ = some v0) (c1 : w.cell? ⟨g, 1, none⟩ = some v1) :
    (results fn tmps).run Try.prog w = .ok (.tuple #[.agg #[v0, v1], tmps.getD u undef]) w := by
  have hp2 : tmps[p]?.getD undef = .pointer (some ⟨g, 0, none⟩) := by simpa using hp
  simp only [results, h]
  simp [hp2, go_sem, c0, c1]
/-- what Method answers. -/
def whereV : Option (Int × Int) → Value
  | none => .tuple #[.agg #[.int .i64 0, .int .i64 0], .bool false]
  | some (a, b) => .tuple #[.agg #[.int .i64 a, .int .i64 b], .bool true]
def MSays (w : World) (r : Option (Int × Int)) (e : Ending) (w' : World) : Prop := e = .returned (whereV r) ∧ Below w.heap.size w w'
theorem homesT_in (L : List DT) (d : Int) : ∀ x ∈ homesT L d, ∃ k : Nat, x = k ∧ k < L.length := fun x hx => by
  unfold homesT at hx
  split at hx
  · rename_i h
    simp only [List.mem_singleton] at hx
    rw [hx]
    exact isOfT_lt h
  · have := (chainT_met L d).2 x hx
    exact ⟨x.toNat, by omega, by omega⟩
/-- behind the store of the result, its variable in block g. -/
theorem ret_where {fn : Func} {p u : Tmp} (h : fn.results = #[.cell p 29, .tmp u]) {R : Ending → World → Prop} {w3 : World} {g : Nat} {u0 u1 : Value} {a b : Int} {ev : Bool} {x : Act}
    (hg : w3.heap[g]? = some (.cells #[u0, u1] 29 (0, 0))) (hp : x.tmps.getD p undef = .pointer (some ⟨g, 0, none⟩)) (hu : x.tmps.getD u undef = .bool ev) (hd : x.defers = [])
    (hR : R (.returned (.tuple #[.agg #[.int .i64 a, .int .i64 b], .bool ev])) ((w3.setCell ⟨g, 0, none⟩ (.int .i64 a)).setCell ⟨g, 1, none⟩ (.int .i64 b))) :
    bodyPost Try.prog fn R Exit.ret x ((w3.setCell ⟨g, 0, none⟩ (.int .i64 a)).setCell ⟨g, 1, none⟩ (.int .i64 b)) := by
  have z0 : w3.cell? ⟨g, 0, none⟩ = some u0 := by rw [cell_of_row _ _ 0 _ _ _ hg]; rfl
  have z1 : w3.cell? ⟨g, 1, none⟩ = some u1 := by rw [cell_of_row _ _ 1 _ _ _ hg]; rfl
  rw [← hu] at hR
  refine bodyPost_ret (results_where h _ _ g (.int .i64 a) (.int .i64 b) hp ?_ ?_) hd hR
  all_goals simp [go_sem, z0, z1]
theorem methodF_drop {L : List DT} {s : ByteArray} {H : List Int} {i : Nat} (hi : i < H.length) : methodF L s (H.drop i) = if 0 ≤ ownT (methodsOf L H[i]) s then some (H[i], ownT (methodsOf L H[i]) s) else methodF L s (H.drop (i + 1)) := by
  rw [List.drop_eq_getElem_cons hi, methodF]
theorem ownF_small (s : ByteArray) : ∀ (l : List MT) (k : Nat), -1 ≤ ownF s l k ∧ ownF s l k < k + l.length + 1
  | [], k => by unfold ownF; simp only [List.length_nil]; omega
  | d :: r, k => by
    unfold ownF
    split
    · simp only [List.length_cons]; omega
    · have := ownF_small s r (k + 1)
      simp only [List.length_cons]; omega
theorem blk_cells {R W : World} {g : Nat} {u0 u1 : Value} {T : TypeId} (hg : R.heap[g]? = some (.cells #[u0, u1] T (0, 0))) (hb : Below R.heap.size R W) : W.heap[g]? = some (.cells #[u0, u1] T (0, 0)) := (hb.block _ (by
  rcases Nat.lt_or_ge g R.heap.size with h2 | h2
  · exact h2
  · rw [Array.getElem?_eq_none h2] at hg; cases hg)).trans hg
set_option maxHeartbeats 4000000 in
set_option maxRecDepth 100000 in
theorem refMethod_any (L : List DT) (A : Option Addr) (c : Nat) (d0 : Int) (s : ByteArray) (w : World) (ha : DsR w w.heap.size A L) (hcnt : L.length ≤ 1000000000) (hms : ∀ d ∈ L, d.methods.length ≤ 1000000000) (hd0 : I64 d0) :
    Calls Try.prog 16 #[.agg #[.slice A L.length c], .int .i64 d0, .string s] w (MSays w (methodT L d0 s)) := by
  obtain ⟨R0, hR0⟩ : ∃ R0 : World, R0 = (w.alloc (.cells #[.slice A L.length c] 24)).alloc (.cells #[.int .i64 0, .int .i64 0] 29) := ⟨_, rfl⟩
  have hu : UAt w R0 A c L := hR0 ▸ (UAt.of ha).alloc _
  have hg0 : R0.heap[w.heap.size + 1]? = some (.cells #[.int .i64 0, .int .i64 0] 29 (0, 0)) := by
    have := heap_alloc_new (w.alloc (.cells #[.slice A L.length c] 24)) (.cells #[.int .i64 0, .int .i64 0] 29)
    rw [hR0]
    simpa using this
  have HG := Lib.hid hg0
  have HU := Lib.hid hu
  have HR0 := Lib.hid hR0
  have HS := Lib.hid hu.size
  have HMS := Lib.hid hms
  have HC := Lib.hid hcnt
  have HD0 := Lib.hid hd0
  obtain ⟨i0, hi0, hz0, hz1, hz2⟩ := info_parts Try.infoInt
  have KK : Hid (∀ W d, Hid (Below R0.heap.size R0 W) → Calls Try.prog 49 #[.agg #[.slice A L.length c], .int .i64 d] W fun e w' => e = .returned (.int .i64 (kindT L d)) ∧ Hid (Below R0.heap.size R0 w') ∧ Hid (Below W.heap.size W w')) := fun W d hb => (refKind_any L A c d W (hu.rowAt hb)).mono fun e w' hh => ⟨hh.1, hb.out.trans (hh.2.mono hb.out.size), hh.2⟩
  have KC : Hid (∀ W d, Hid (Below R0.heap.size R0 W) → Calls Try.prog 23 #[.agg #[.slice A L.length c], .int .i64 d] W fun e w' => ∃ A' c', e = .returned (.slice A' (chainT L d).length c') ∧ Hid (IRow R0.heap.size w' A' c' (chainT L d)) ∧ Hid (Below R0.heap.size R0 w')) := fun W d hb => (refChain_any L A c d W (hu.rowAt hb) hcnt).mono fun e w' hh => by
    obtain ⟨A', c', h1, h2, h3⟩ := hh
    exact ⟨A', c', h1, ⟨ownsRow_lower hb.out.size h2.1, h2.2⟩, hb.out.trans (h3.mono hb.out.size)⟩
  obtain ⟨r, hr0⟩ : ∃ r, r = methodT L d0 s := ⟨_, rfl⟩
  rw [← hr0]
  have HR := Lib.hid hr0
  clear hr0 ha hu hR0 hcnt hg0 hms hd0
  unfold MSays
  go_enter Try.func16, Try.ntmps16
  have y0 := HU.out.cell _ (Below.refl _ _)
  have HB0 : Hid (Below R0.heap.size R0 R0) := Below.refl _ _
  rw [HR0.out] at y0
  go_wp2_with fail
  rw [← HR0.out] at y0 ⊢
  refine (KC.out _ _ HB0).mono ?_
  rintro e1 w1 ⟨A1, c1, rfl, hrow1, hb1⟩
  clear y0
  have y0 := HU.out.cell _ hb1.out
  go_wp2_with fail
  refine (KK.out _ _ hb1).mono ?_
  rintro e2 w2 ⟨rfl, hb2, hl2⟩
  have hrow2 : Hid (IRow R0.heap.size w2 A1 c1 (chainT L d0)) := hrow1.out.below hl2.out
  clear y0 hb1 hrow1 hl2
  by_cases hk : kindT L d0 = 1
  · have hk1 : isOfT L d0 1 = true := by rw [kindT_isOf _ _ _ (by decide), hk]; rfl
    have hh : homesT L d0 = [d0] := by unfold homesT; rw [hk1]; rfl
    have hr1 : methodF L s (homesT L d0) = r := HR.out.symm
    have hin := homesT_in L d0
    have hcl0 := HC.out
    rw [hh] at hr1 hin
    have hs2 := hb2.out.size
    have hrow4 : Hid (IRow R0.heap.size (w2.alloc (.cells #[.int .i64 d0] 3)) (some ⟨w2.heap.size, 0, none⟩) 1 [d0]) := IRow.one w2 d0 HD0.out hs2
    have hb4 : Hid (Below R0.heap.size R0 (w2.alloc (.cells #[.int .i64 d0] 3))) := hb2.out.alloc hs2 _
    obtain ⟨H, hH⟩ : ∃ H, H = [d0] := ⟨_, rfl⟩
    have hHl : H.length = 1 := by rw [hH]; rfl
    rw [← hH] at hr1 hin hrow4
    have HR1 := Lib.hid hr1
    have HIN := Lib.hid hin
    clear hh hr1 hin hH hk1 hrow2
    go_wp2_with fail
    generalize (w2.alloc (.cells #[.int .i64 d0] 3)) = w4 at hrow4 hb4 ⊢
    generalize w2.heap.size = gl at hrow4 ⊢
    go_loopw [9] (fun iv wr => ∃ k : Nat, k ≤ H.length ∧ iv = .int .i64 k ∧ Hid (methodF L s (H.drop k) = r) ∧ Hid (IRow R0.heap.size wr (some ⟨gl, 0, none⟩) 1 H) ∧ Hid (Below R0.heap.size R0 wr)) (fun i _ => H.length - (intOf i).toNat)
    case atStart => exact ⟨0, Nat.zero_le _, rfl, HR1, hrow4, hb4⟩
    case round =>
      obtain ⟨k, hk, rfl, hdr, hrow3, hb3⟩ := hrel
      rcases (show k = 0 ∨ k = 1 by omega) with rfl | rfl
      · have hlt : 0 < H.length := by omega
        have hdrop := hdr.out
        rw [methodF_drop hlt] at hdrop
        have hhome := HIN.out _ (List.getElem_mem hlt)
        obtain ⟨x, hx⟩ : ∃ x, x = H[0] := ⟨_, rfl⟩
        rw [← hx] at hhome hdrop
        obtain ⟨kk, hkk, hkl⟩ := hhome
        obtain ⟨q, o, E1, e1, E2, e2, E3, e3, E4, e4, hA, hg, hY⟩ := HU.out.decl hkl
        subst hA
        have hz : ∀ W, Hid (IRow R0.heap.size W (some ⟨gl, 0, none⟩) 1 H) → W.cell? ⟨gl, 0, none⟩ = some (.int .i64 (kk : Int)) := fun W h => by
          have h9 := h.out.at_ hlt
          rw [Nat.zero_add, ← hx, hkk] at h9
          exact h9
        obtain ⟨D, hN⟩ : ∃ D : DT, D = L[kk] := ⟨_, rfl⟩
        rw [← hN] at hY
        have hmo : methodsOf L x = D.methods := by rw [hkk]; unfold methodsOf; rw [Int.toNat_natCast, List.getElem?_eq_getElem hkl, hN]; rfl
        have hml : D.methods.length ≤ 1000000000 := HMS.out D (hN ▸ List.getElem_mem _)
        rw [hmo] at hdrop
        have HCE : Hid (∀ W, Hid (Below R0.heap.size R0 W) → Hid (IRow R0.heap.size W (some ⟨gl, 0, none⟩) 1 H) → (W.cell? ⟨w.heap.size, 0, none⟩ = some (.slice (some ⟨q, o, none⟩) L.length c) ∧ W.cell? ⟨gl, 0, none⟩ = some (.int .i64 (kk : Int)) ∧ W.cell? ⟨q, o + kk * 11, none⟩ = some (.int .i64 D.kind) ∧ W.cell? ⟨q, o + kk * 11 + 1, none⟩ = some (.string D.name) ∧ W.cell? ⟨q, o + kk * 11 + 2, none⟩ = some (.string D.base) ∧ W.cell? ⟨q, o + kk * 11 + 3, none⟩ = some (.slice E1 D.faces.length e1) ∧ W.cell? ⟨q, o + kk * 11 + 4, none⟩ = some (.bool D.abstract) ∧ W.cell? ⟨q, o + kk * 11 + 5, none⟩ = some (.bool D.final) ∧ W.cell? ⟨q, o + kk * 11 + 6, none⟩ = some (.slice E2 D.vars.length e2) ∧ W.cell? ⟨q, o + kk * 11 + 7, none⟩ = some (.slice E3 D.methods.length e3) ∧ W.cell? ⟨q, o + kk * 11 + 8, none⟩ = some (.slice E4 D.body.length e4) ∧ W.cell? ⟨q, o + kk * 11 + 9, none⟩ = some (.int .i64 D.every) ∧ W.cell? ⟨q, o + kk * 11 + 10, none⟩ = some (.int .i64 D.first)) ∧ Hid (Below R0.heap.size R0 W) ∧ Hid (IRow R0.heap.size W (some ⟨gl, 0, none⟩) 1 H)) := fun W h h2 => ⟨⟨HU.out.cell W h.out, hz W h2, (hY W h.out).2⟩, h, h2⟩
        have KO : Hid (∀ W, Hid (Below R0.heap.size R0 W) → Hid (IRow R0.heap.size W (some ⟨gl, 0, none⟩) 1 H) → Calls Try.prog 50 #[dv D E1 E2 E3 E4 e1 e2 e3 e4, .string s] W fun e w' => e = .returned (.int .i64 (ownT D.methods s)) ∧ Hid ((w'.cell? ⟨w.heap.size, 0, none⟩ = some (.slice (some ⟨q, o, none⟩) L.length c) ∧ w'.cell? ⟨gl, 0, none⟩ = some (.int .i64 (kk : Int)) ∧ w'.cell? ⟨q, o + kk * 11, none⟩ = some (.int .i64 D.kind) ∧ w'.cell? ⟨q, o + kk * 11 + 1, none⟩ = some (.string D.name) ∧ w'.cell? ⟨q, o + kk * 11 + 2, none⟩ = some (.string D.base) ∧ w'.cell? ⟨q, o + kk * 11 + 3, none⟩ = some (.slice E1 D.faces.length e1) ∧ w'.cell? ⟨q, o + kk * 11 + 4, none⟩ = some (.bool D.abstract) ∧ w'.cell? ⟨q, o + kk * 11 + 5, none⟩ = some (.bool D.final) ∧ w'.cell? ⟨q, o + kk * 11 + 6, none⟩ = some (.slice E2 D.vars.length e2) ∧ w'.cell? ⟨q, o + kk * 11 + 7, none⟩ = some (.slice E3 D.methods.length e3) ∧ w'.cell? ⟨q, o + kk * 11 + 8, none⟩ = some (.slice E4 D.body.length e4) ∧ w'.cell? ⟨q, o + kk * 11 + 9, none⟩ = some (.int .i64 D.every) ∧ w'.cell? ⟨q, o + kk * 11 + 10, none⟩ = some (.int .i64 D.first)) ∧ Hid (Below R0.heap.size R0 w') ∧ Hid (IRow R0.heap.size w' (some ⟨gl, 0, none⟩) 1 H))) := fun W h h2 => (refOwn_any D E1 E2 E3 E4 e1 e2 e3 e4 s W (MsR.mono (HU.out.out h.out).size (fun _ _ => rfl) (hY W h.out).1.2.2.1) hml).mono fun e w' hh => ⟨hh.1, HCE.out _ (h.out.trans (hh.2.mono h.out.size)) (h2.out.below hh.2)⟩
        have Y := HCE.out _ hb3 hrow3
        obtain ⟨⟨y0, z, x0, x1, x2, x3, x4, x5, x6, x7, x8, x9, x10⟩, -, -⟩ := Y
        have q1 : (kk : Int) < (L.length : Int) := by omega
        have q2 : (0 : Int) ≤ (kk : Int) := by omega
        obtain ⟨n, hn⟩ : ∃ n, n = ownT D.methods s := ⟨_, rfl⟩
        rw [← hn] at KO hdrop
        have hns := ownF_small s D.methods 0
        rw [show ownF s D.methods 0 = n from hn.symm] at hns
        have HNS := Lib.hid hns
        rw [hkk] at hdrop
        have HDR := Lib.hid hdrop
        clear hmo hN hn hns hz hY hdrop hkk
        unfold dv at KO
        go_wp2_with fail
        go_region_held3 (fun w' => (w'.cell? ⟨w.heap.size, 0, none⟩ = some (.slice (some ⟨q, o, none⟩) L.length c) ∧ w'.cell? ⟨gl, 0, none⟩ = some (.int .i64 (kk : Int)) ∧ w'.cell? ⟨q, o + kk * 11, none⟩ = some (.int .i64 D.kind) ∧ w'.cell? ⟨q, o + kk * 11 + 1, none⟩ = some (.string D.name) ∧ w'.cell? ⟨q, o + kk * 11 + 2, none⟩ = some (.string D.base) ∧ w'.cell? ⟨q, o + kk * 11 + 3, none⟩ = some (.slice E1 D.faces.length e1) ∧ w'.cell? ⟨q, o + kk * 11 + 4, none⟩ = some (.bool D.abstract) ∧ w'.cell? ⟨q, o + kk * 11 + 5, none⟩ = some (.bool D.final) ∧ w'.cell? ⟨q, o + kk * 11 + 6, none⟩ = some (.slice E2 D.vars.length e2) ∧ w'.cell? ⟨q, o + kk * 11 + 7, none⟩ = some (.slice E3 D.methods.length e3) ∧ w'.cell? ⟨q, o + kk * 11 + 8, none⟩ = some (.slice E4 D.body.length e4) ∧ w'.cell? ⟨q, o + kk * 11 + 9, none⟩ = some (.int .i64 D.every) ∧ w'.cell? ⟨q, o + kk * 11 + 10, none⟩ = some (.int .i64 D.first)) ∧ Hid (Below R0.heap.size R0 w') ∧ Hid (IRow R0.heap.size w' (some ⟨gl, 0, none⟩) 1 H))
          (first | exact ⟨⟨y0, z, x0, x1, x2, x3, x4, x5, x6, x7, x8, x9, x10⟩, hb3, hrow3⟩ | exact ⟨⟨y0, z, x0, x1, x2, x3, x4, x5, x6, x7, x8, x9, x10⟩, Below.drew hb3, hrow3⟩ | exact HB6.out)
          (first | (go_at_call 50; refine (KO.out _ (by first | exact hb3 | exact Below.drew hb3) (by exact hrow3)).mono ?_; rintro e6 w6 ⟨rfl, HB6⟩))
        all_goals
          clear y0 z x0 x1 x2 x3 x4 x5 x6 x7 x8 x9 x10
          obtain ⟨⟨-, z, -⟩, hb6, hrow6⟩ := HB6.out
          clear HB6
          have hw6 := blk_cells HG.out hb6.out
          have g0 : w6.cell? ⟨w.heap.size + 1, 0, none⟩ = some (.int .i64 0) := by rw [cell_of_row _ _ 0 _ _ _ hw6]; rfl
          have g1 : w6.cell? ⟨w.heap.size + 1, 1, none⟩ = some (.int .i64 0) := by rw [cell_of_row _ _ 1 _ _ _ hw6]; rfl
          have f0 : w6.frozen? ⟨w.heap.size + 1, 0, none⟩ = false := frozen_of_row _ _ 0 _ _ hw6
          have f1 : w6.frozen? ⟨w.heap.size + 1, 1, none⟩ = false := frozen_of_row _ _ 1 _ _ hw6
          have HW6 := Lib.hid hw6
          have HO := Lib.hid ((HU.out.out hb6.out).setCell (p := ⟨w.heap.size + 1, 0, none⟩) (by show w.heap.size ≤ w.heap.size + 1; omega) (.int .i64 (kk : Int)) |>.setCell (p := ⟨w.heap.size + 1, 1, none⟩) (by show w.heap.size ≤ w.heap.size + 1; omega) (.int .i64 n))
          clear hw6
          by_cases hn : 0 ≤ n
          · have hres := HDR.out
            rw [if_pos hn] at hres
            have HRES := Lib.hid hres
            clear hres
            go_wp2_with fail
            refine ret_where (w3 := w6) (g := w.heap.size + 1) (a := kk) (b := n) (ev := true) rfl HW6.out rfl rfl rfl ⟨?_, HO.out⟩
            rw [← HRES.out]
            rfl
          · have hres := HDR.out
            rw [if_neg hn] at hres
            have HRES := Lib.hid hres
            clear hres
            go_wp2_with fail
            go_roundw
            case rel => exact ⟨1, by omega, rfl, HRES, hrow6, hb6⟩
            case measure => simp [intOf]; omega
      · have hres := hdr.out
        rw [List.drop_of_length_le (by omega)] at hres
        have HRES := Lib.hid hres
        have hw6 := blk_cells HG.out hb3.out
        have g0 : wr.cell? ⟨w.heap.size + 1, 0, none⟩ = some (.int .i64 0) := by rw [cell_of_row _ _ 0 _ _ _ hw6]; rfl
        have g1 : wr.cell? ⟨w.heap.size + 1, 1, none⟩ = some (.int .i64 0) := by rw [cell_of_row _ _ 1 _ _ _ hw6]; rfl
        have f0 : wr.frozen? ⟨w.heap.size + 1, 0, none⟩ = false := frozen_of_row _ _ 0 _ _ hw6
        have f1 : wr.frozen? ⟨w.heap.size + 1, 1, none⟩ = false := frozen_of_row _ _ 1 _ _ hw6
        have HW6 := Lib.hid hw6
        have HO := Lib.hid ((HU.out.out hb3.out).setCell (p := ⟨w.heap.size + 1, 0, none⟩) (by show w.heap.size ≤ w.heap.size + 1; omega) (.int .i64 0) |>.setCell (p := ⟨w.heap.size + 1, 1, none⟩) (by show w.heap.size ≤ w.heap.size + 1; omega) (.int .i64 0))
        clear hw6 hres
        go_wp2_with fail
        refine ret_where (w3 := wr) (g := w.heap.size + 1) (a := 0) (b := 0) (ev := false) rfl HW6.out rfl rfl rfl ⟨?_, HO.out⟩
        rw [← HRES.out]
        rfl
  · have hk1 : isOfT L d0 1 = false := by rw [kindT_isOf _ _ _ (by decide)]; simp [hk]
    have hh : homesT L d0 = chainT L d0 := by unfold homesT; rw [hk1]; rfl
    have hr1 : methodF L s (homesT L d0) = r := HR.out.symm
    have hin := homesT_in L d0
    have hmet := (chainT_met L d0).len
    have hcl0 := HC.out
    rw [hh] at hr1 hin
    obtain ⟨H, hH⟩ : ∃ H, H = chainT L d0 := ⟨_, rfl⟩
    rw [← hH] at hr1 hin hmet hrow2
    have HR1 := Lib.hid hr1
    have HIN := Lib.hid hin
    rw [← hH]
    clear hh hr1 hin hH hk1
    go_wp2_with fail
    go_loopw [9] (fun iv wr => ∃ k : Nat, k ≤ H.length ∧ iv = .int .i64 k ∧ Hid (methodF L s (H.drop k) = r) ∧ Hid (IRow R0.heap.size wr A1 c1 H) ∧ Hid (Below R0.heap.size R0 wr)) (fun i _ => H.length - (intOf i).toNat)
    case atStart => exact ⟨0, Nat.zero_le _, rfl, HR1, hrow2, hb2⟩
    case round =>
      obtain ⟨k, hk, rfl, hdr, hrow3, hb3⟩ := hrel
      have h2 : (0 : Int) ≤ (k : Int) := by omega
      by_cases hlt : k < H.length
      · have h1 : (k : Int) < (H.length : Int) := by omega
        have hdrop := hdr.out
        rw [methodF_drop hlt] at hdrop
        have hhome := HIN.out _ (List.getElem_mem hlt)
        obtain ⟨x, hx⟩ : ∃ x, x = H[k] := ⟨_, rfl⟩
        rw [← hx] at hhome hdrop
        obtain ⟨kk, hkk, hkl⟩ := hhome
        obtain ⟨q, o, E1, e1, E2, e2, E3, e3, E4, e4, hA, hg, hY⟩ := HU.out.decl hkl
        obtain ⟨gl, hAl⟩ := hrow3.out.isBlock (by omega)
        subst hA hAl
        have hz : ∀ W, Hid (IRow R0.heap.size W (some ⟨gl, 0, none⟩) c1 H) → W.cell? ⟨gl, k, none⟩ = some (.int .i64 (kk : Int)) := fun W h => by
          have h9 := h.out.at_ hlt
          rw [Nat.zero_add, ← hx, hkk] at h9
          exact h9
        obtain ⟨D, hN⟩ : ∃ D : DT, D = L[kk] := ⟨_, rfl⟩
        rw [← hN] at hY
        have hmo : methodsOf L x = D.methods := by rw [hkk]; unfold methodsOf; rw [Int.toNat_natCast, List.getElem?_eq_getElem hkl, hN]; rfl
        have hml : D.methods.length ≤ 1000000000 := HMS.out D (hN ▸ List.getElem_mem _)
        rw [hmo] at hdrop
        have HCE : Hid (∀ W, Hid (Below R0.heap.size R0 W) → Hid (IRow R0.heap.size W (some ⟨gl, 0, none⟩) c1 H) → (W.cell? ⟨w.heap.size, 0, none⟩ = some (.slice (some ⟨q, o, none⟩) L.length c) ∧ W.cell? ⟨gl, k, none⟩ = some (.int .i64 (kk : Int)) ∧ W.cell? ⟨q, o + kk * 11, none⟩ = some (.int .i64 D.kind) ∧ W.cell? ⟨q, o + kk * 11 + 1, none⟩ = some (.string D.name) ∧ W.cell? ⟨q, o + kk * 11 + 2, none⟩ = some (.string D.base) ∧ W.cell? ⟨q, o + kk * 11 + 3, none⟩ = some (.slice E1 D.faces.length e1) ∧ W.cell? ⟨q, o + kk * 11 + 4, none⟩ = some (.bool D.abstract) ∧ W.cell? ⟨q, o + kk * 11 + 5, none⟩ = some (.bool D.final) ∧ W.cell? ⟨q, o + kk * 11 + 6, none⟩ = some (.slice E2 D.vars.length e2) ∧ W.cell? ⟨q, o + kk * 11 + 7, none⟩ = some (.slice E3 D.methods.length e3) ∧ W.cell? ⟨q, o + kk * 11 + 8, none⟩ = some (.slice E4 D.body.length e4) ∧ W.cell? ⟨q, o + kk * 11 + 9, none⟩ = some (.int .i64 D.every) ∧ W.cell? ⟨q, o + kk * 11 + 10, none⟩ = some (.int .i64 D.first)) ∧ Hid (Below R0.heap.size R0 W) ∧ Hid (IRow R0.heap.size W (some ⟨gl, 0, none⟩) c1 H)) := fun W h h2 => ⟨⟨HU.out.cell W h.out, hz W h2, (hY W h.out).2⟩, h, h2⟩
        have KO : Hid (∀ W, Hid (Below R0.heap.size R0 W) → Hid (IRow R0.heap.size W (some ⟨gl, 0, none⟩) c1 H) → Calls Try.prog 50 #[dv D E1 E2 E3 E4 e1 e2 e3 e4, .string s] W fun e w' => e = .returned (.int .i64 (ownT D.methods s)) ∧ Hid ((w'.cell? ⟨w.heap.size, 0, none⟩ = some (.slice (some ⟨q, o, none⟩) L.length c) ∧ w'.cell? ⟨gl, k, none⟩ = some (.int .i64 (kk : Int)) ∧ w'.cell? ⟨q, o + kk * 11, none⟩ = some (.int .i64 D.kind) ∧ w'.cell? ⟨q, o + kk * 11 + 1, none⟩ = some (.string D.name) ∧ w'.cell? ⟨q, o + kk * 11 + 2, none⟩ = some (.string D.base) ∧ w'.cell? ⟨q, o + kk * 11 + 3, none⟩ = some (.slice E1 D.faces.length e1) ∧ w'.cell? ⟨q, o + kk * 11 + 4, none⟩ = some (.bool D.abstract) ∧ w'.cell? ⟨q, o + kk * 11 + 5, none⟩ = some (.bool D.final) ∧ w'.cell? ⟨q, o + kk * 11 + 6, none⟩ = some (.slice E2 D.vars.length e2) ∧ w'.cell? ⟨q, o + kk * 11 + 7, none⟩ = some (.slice E3 D.methods.length e3) ∧ w'.cell? ⟨q, o + kk * 11 + 8, none⟩ = some (.slice E4 D.body.length e4) ∧ w'.cell? ⟨q, o + kk * 11 + 9, none⟩ = some (.int .i64 D.every) ∧ w'.cell? ⟨q, o + kk * 11 + 10, none⟩ = some (.int .i64 D.first)) ∧ Hid (Below R0.heap.size R0 w') ∧ Hid (IRow R0.heap.size w' (some ⟨gl, 0, none⟩) c1 H))) := fun W h h2 => (refOwn_any D E1 E2 E3 E4 e1 e2 e3 e4 s W (MsR.mono (HU.out.out h.out).size (fun _ _ => rfl) (hY W h.out).1.2.2.1) hml).mono fun e w' hh => ⟨hh.1, HCE.out _ (h.out.trans (hh.2.mono h.out.size)) (h2.out.below hh.2)⟩
        have Y := HCE.out _ hb3 hrow3
        obtain ⟨⟨y0, z, x0, x1, x2, x3, x4, x5, x6, x7, x8, x9, x10⟩, -, -⟩ := Y
        have q1 : (kk : Int) < (L.length : Int) := by omega
        have q2 : (0 : Int) ≤ (kk : Int) := by omega
        obtain ⟨n, hn⟩ : ∃ n, n = ownT D.methods s := ⟨_, rfl⟩
        rw [← hn] at KO hdrop
        have hns := ownF_small s D.methods 0
        rw [show ownF s D.methods 0 = n from hn.symm] at hns
        have HNS := Lib.hid hns
        rw [hkk] at hdrop
        have HDR := Lib.hid hdrop
        clear hmo hN hn hns hz hY hdrop hkk
        unfold dv at KO
        go_wp2_with fail
        go_region_held3 (fun w' => (w'.cell? ⟨w.heap.size, 0, none⟩ = some (.slice (some ⟨q, o, none⟩) L.length c) ∧ w'.cell? ⟨gl, k, none⟩ = some (.int .i64 (kk : Int)) ∧ w'.cell? ⟨q, o + kk * 11, none⟩ = some (.int .i64 D.kind) ∧ w'.cell? ⟨q, o + kk * 11 + 1, none⟩ = some (.string D.name) ∧ w'.cell? ⟨q, o + kk * 11 + 2, none⟩ = some (.string D.base) ∧ w'.cell? ⟨q, o + kk * 11 + 3, none⟩ = some (.slice E1 D.faces.length e1) ∧ w'.cell? ⟨q, o + kk * 11 + 4, none⟩ = some (.bool D.abstract) ∧ w'.cell? ⟨q, o + kk * 11 + 5, none⟩ = some (.bool D.final) ∧ w'.cell? ⟨q, o + kk * 11 + 6, none⟩ = some (.slice E2 D.vars.length e2) ∧ w'.cell? ⟨q, o + kk * 11 + 7, none⟩ = some (.slice E3 D.methods.length e3) ∧ w'.cell? ⟨q, o + kk * 11 + 8, none⟩ = some (.slice E4 D.body.length e4) ∧ w'.cell? ⟨q, o + kk * 11 + 9, none⟩ = some (.int .i64 D.every) ∧ w'.cell? ⟨q, o + kk * 11 + 10, none⟩ = some (.int .i64 D.first)) ∧ Hid (Below R0.heap.size R0 w') ∧ Hid (IRow R0.heap.size w' (some ⟨gl, 0, none⟩) c1 H))
          (first | exact ⟨⟨y0, z, x0, x1, x2, x3, x4, x5, x6, x7, x8, x9, x10⟩, hb3, hrow3⟩ | exact ⟨⟨y0, z, x0, x1, x2, x3, x4, x5, x6, x7, x8, x9, x10⟩, Below.drew hb3, hrow3⟩ | exact HB6.out)
          (first | (go_at_call 50; refine (KO.out _ (by first | exact hb3 | exact Below.drew hb3) (by exact hrow3)).mono ?_; rintro e6 w6 ⟨rfl, HB6⟩))
        all_goals
          clear y0 z x0 x1 x2 x3 x4 x5 x6 x7 x8 x9 x10
          obtain ⟨⟨-, z, -⟩, hb6, hrow6⟩ := HB6.out
          clear HB6
          have hw6 := blk_cells HG.out hb6.out
          have g0 : w6.cell? ⟨w.heap.size + 1, 0, none⟩ = some (.int .i64 0) := by rw [cell_of_row _ _ 0 _ _ _ hw6]; rfl
          have g1 : w6.cell? ⟨w.heap.size + 1, 1, none⟩ = some (.int .i64 0) := by rw [cell_of_row _ _ 1 _ _ _ hw6]; rfl
          have f0 : w6.frozen? ⟨w.heap.size + 1, 0, none⟩ = false := frozen_of_row _ _ 0 _ _ hw6
          have f1 : w6.frozen? ⟨w.heap.size + 1, 1, none⟩ = false := frozen_of_row _ _ 1 _ _ hw6
          have HW6 := Lib.hid hw6
          have HO := Lib.hid ((HU.out.out hb6.out).setCell (p := ⟨w.heap.size + 1, 0, none⟩) (by show w.heap.size ≤ w.heap.size + 1; omega) (.int .i64 (kk : Int)) |>.setCell (p := ⟨w.heap.size + 1, 1, none⟩) (by show w.heap.size ≤ w.heap.size + 1; omega) (.int .i64 n))
          clear hw6
          by_cases hn : 0 ≤ n
          · have hres := HDR.out
            rw [if_pos hn] at hres
            have HRES := Lib.hid hres
            clear hres
            go_wp2_with fail
            refine ret_where (w3 := w6) (g := w.heap.size + 1) (a := kk) (b := n) (ev := true) rfl HW6.out rfl rfl rfl ⟨?_, HO.out⟩
            rw [← HRES.out]
            rfl
          · have hres := HDR.out
            rw [if_neg hn] at hres
            have HRES := Lib.hid hres
            clear hres
            go_wp2_with fail
            go_roundw
            case rel => exact ⟨k + 1, by omega, by omega, HRES⟩
            case measure => simp [intOf]; omega
      · have h1 : ¬ (k : Int) < (H.length : Int) := by omega
        have hres := hdr.out
        rw [List.drop_of_length_le (by omega)] at hres
        have HRES := Lib.hid hres
        have hw6 := blk_cells HG.out hb3.out
        have g0 : wr.cell? ⟨w.heap.size + 1, 0, none⟩ = some (.int .i64 0) := by rw [cell_of_row _ _ 0 _ _ _ hw6]; rfl
        have g1 : wr.cell? ⟨w.heap.size + 1, 1, none⟩ = some (.int .i64 0) := by rw [cell_of_row _ _ 1 _ _ _ hw6]; rfl
        have f0 : wr.frozen? ⟨w.heap.size + 1, 0, none⟩ = false := frozen_of_row _ _ 0 _ _ hw6
        have f1 : wr.frozen? ⟨w.heap.size + 1, 1, none⟩ = false := frozen_of_row _ _ 1 _ _ hw6
        have HW6 := Lib.hid hw6
        have HO := Lib.hid ((HU.out.out hb3.out).setCell (p := ⟨w.heap.size + 1, 0, none⟩) (by show w.heap.size ≤ w.heap.size + 1; omega) (.int .i64 0) |>.setCell (p := ⟨w.heap.size + 1, 1, none⟩) (by show w.heap.size ≤ w.heap.size + 1; omega) (.int .i64 0))
        clear hw6 hres
        go_wp2_with fail
        refine ret_where (w3 := wr) (g := w.heap.size + 1) (a := 0) (b := 0) (ev := false) rfl HW6.out rfl rfl rfl ⟨?_, HO.out⟩
        rw [← HRES.out]
        rfl
end Go.Proofs.Ytkpieolmepngjaa
