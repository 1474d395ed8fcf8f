/-
  governorref6: own, Method BY CONTRACTS.
-/
import Derived.Test.YtmbddofcildibaaK1
import Derived.Maps.OwnIn
import Derived.Maps.StringElems
namespace Go.Proofs.Ytmbddofcildibaa
open Go Go.RowKit
set_option linter.unusedVariables false
set_option linter.unusedSimpArgs false

/-- a declaration as a value. -/
abbrev dv (d : DT) (A1 A2 A3 A4 : Option Addr) (c1 c2 c3 c4 : Nat) : Value := .agg #[.int .i64 d.kind, .string d.name, .string d.base, .slice A1 d.faces.length c1, .bool d.abstract, .bool d.final, .slice A2 d.vars.length c2, .slice A3 d.methods.length c3, .slice A4 d.body.length c4, .int .i64 d.every, .int .i64 d.first]

set_option maxHeartbeats 1000000 in
set_option maxRecDepth 100000 in
theorem refOwn_any (d : DT) (A1 A2 A3 A4 : Option Addr) (c1 c2 c3 c4 : Nat) (s : ByteArray) (w : World) (ha : MsR w w.heap.size A3 d.methods) (hcnt : d.methods.length ≤ 1000000000) :
    Calls Try.prog 50 #[dv d A1 A2 A3 A4 c1 c2 c3 c4, .string s] w fun e w' => e = .returned (.int .i64 (ownT d.methods s)) ∧ Below w.heap.size w w' := by
  obtain ⟨R0, hR0⟩ : ∃ R0 : World, R0 = w.alloc (.cells #[.int .i64 d.kind, .string d.name, .string d.base, .slice A1 d.faces.length c1, .bool d.abstract, .bool d.final, .slice A2 d.vars.length c2, .slice A3 d.methods.length c3, .slice A4 d.body.length c4, .int .i64 d.every, .int .i64 d.first] 47) := ⟨_, rfl⟩
  have hb0 : Below w.heap.size w R0 := by rw [hR0]; exact (Below.refl _ _).alloc (Nat.le_refl _) _
  have hg : R0.heap[w.heap.size]? = some (.cells #[.int .i64 d.kind, .string d.name, .string d.base, .slice A1 d.faces.length c1, .bool d.abstract, .bool d.final, .slice A2 d.vars.length c2, .slice A3 d.methods.length c3, .slice A4 d.body.length c4, .int .i64 d.every, .int .i64 d.first] 47 (0, 0)) := by rw [hR0]; exact heap_alloc_new w _
  have y0 : R0.cell? ⟨w.heap.size, 7, none⟩ = some (.slice A3 d.methods.length c3) := by rw [cell_of_row _ _ 7 _ _ _ hg]; rfl
  have HA := Lib.hid (MsR.mono (Nat.le_refl _) hb0.block ha)
  have HB := Lib.hid hb0
  have HR0 := Lib.hid hR0
  obtain ⟨r, hr0⟩ : ∃ r, r = ownT d.methods s := ⟨_, rfl⟩
  rw [← hr0]
  have HR := Lib.hid hr0
  obtain ⟨M, hM⟩ : ∃ M, M = d.methods := ⟨_, rfl⟩
  rw [← hM] at HA HR y0 hcnt
  have HM := Lib.hid hM
  clear ha hb0 hg hR0 hr0 hM
  unfold dv
  go_enter Try.func50, Try.ntmps50
  go_wp2_with fail
  rw [← HR0.out]
  go_loopw [5] (fun i wr => ∃ k : Nat, k ≤ M.length ∧ i = .int .i64 k ∧ wr = R0 ∧ Hid (∀ j (hj : j < M.length), j < k → M[j].name ≠ s)) (fun i _ => M.length - (intOf i).toNat)
  case atStart => exact ⟨0, Nat.zero_le _, rfl, rfl, fun _ _ h => absurd h (Nat.not_lt_zero _)⟩
  case round =>
    obtain ⟨k, hk, rfl, rfl, hn⟩ := hrel
    have h2 : (0 : Int) ≤ (k : Int) := by omega
    by_cases hlt : k < M.length
    · have h1 : (k : Int) < (M.length : Int) := by omega
      obtain ⟨g, o, cs, rfl, hg, hlen, hc, he⟩ := HA.out k hlt
      obtain ⟨m, hN⟩ : ∃ d : MT, d = M[k] := ⟨_, rfl⟩
      rw [← hN] at he
      obtain ⟨B1, d1, B2, d2, B3, d3, rfl, _⟩ := he
      have y1 := hc 0 _ rfl
      rw [Nat.add_zero] at y1
      by_cases hs : m.name = s
      · have hr := ownT_at hlt hn.out (hN ▸ hs)
        have q : (m.name.toList == s.toList) = true := str_eq hs
        have HF := Lib.hid (HR.out.trans hr)
        clear hc hlen hg hN hr hs
        go_wp2_with fail
        go_ret
        exact ⟨by rw [HF.out]; rfl, HB.out⟩
      · have hn2 : Hid (∀ j (hj : j < M.length), j < k + 1 → M[j].name ≠ s) := fun j hj h => by
          rcases Nat.lt_or_ge j k with h3 | h3
          · exact hn.out j hj h3
          · obtain rfl : j = k := by omega
            exact hN ▸ hs
        have q : (m.name.toList == s.toList) = false := str_ne hs
        clear hc hlen hg hN hs
        go_wp2_with fail
        go_roundw
        case rel => exact ⟨k + 1, by omega, by go_num, trivial, hn2⟩
        case measure => simp [intOf]; omega
    · have h1 : ¬ (k : Int) < (M.length : Int) := by omega
      have hr := ownT_none (L := M) (s := s) (fun j hj => hn.out j hj (by omega))
      have HF := Lib.hid (HR.out.trans hr)
      clear hr
      go_wp2_with fail
      go_ret
      exact ⟨by rw [HF.out]; rfl, HB.out⟩

theorem results_where {fn : Func} {p u : Tmp} (h : fn.results = #[.cell p 29, .tmp u]) (tmps : Array Value) (w : World) (g : Nat) (v0 v1 : Value) (hp : tmps.getD p undef = .pointer (some ⟨g, 0, none⟩))
    (c0 : w.cell? ⟨g, 0, none⟩ = some v0) (c1 : w.cell? ⟨g, 1, none⟩ = some v1) :
    (results fn tmps).run Try.prog w = .ok (.tuple #[.agg #[v0, v1], tmps.getD u undef]) w := by
  have hp2 : tmps[p]?.getD undef = .pointer (some ⟨g, 0, none⟩) := by simpa using hp
  simp only [results, h]
  simp [hp2, go_sem, c0, c1]
/-- what Method answers. -/
def whereV : Option (Int × Int) → Value
  | none => .tuple #[.agg #[.int .i64 0, .int .i64 0], .bool false]
  | some (a, b) => .tuple #[.agg #[.int .i64 a, .int .i64 b], .bool true]
def MSays (w : World) (r : Option (Int × Int)) (e : Ending) (w' : World) : Prop := e = .returned (whereV r) ∧ Below w.heap.size w w'
theorem homesT_in (L : List DT) (d : Int) : ∀ x ∈ homesT L d, ∃ k : Nat, x = k ∧ k < L.length := fun x hx => by
  unfold homesT at hx
  split at hx
  · rename_i h
    simp only [List.mem_singleton] at hx
    rw [hx]
    exact isOfT_lt h
  · have := (chainT_met L d).2 x hx
    exact ⟨x.toNat, by omega, by omega⟩
/-- behind the store of the result, its variable in block g. -/
theorem ret_where {fn : Func} {p u : Tmp} (h : fn.results = #[.cell p 29, .tmp u]) {R : Ending → World → Prop} {w3 : World} {g : Nat} {u0 u1 : Value} {a b : Int} {ev : Bool} {x : Act}
    (hg : w3.heap[g]? = some (.cells #[u0, u1] 29 (0, 0))) (hp : x.tmps.getD p undef = .pointer (some ⟨g, 0, none⟩)) (hu : x.tmps.getD u undef = .bool ev) (hd : x.defers = [])
    (hR : R (.returned (.tuple #[.agg #[.int .i64 a, .int .i64 b], .bool ev])) ((w3.setCell ⟨g, 0, none⟩ (.int .i64 a)).setCell ⟨g, 1, none⟩ (.int .i64 b))) :
    bodyPost Try.prog fn R Exit.ret x ((w3.setCell ⟨g, 0, none⟩ (.int .i64 a)).setCell ⟨g, 1, none⟩ (.int .i64 b)) := by
  have z0 : w3.cell? ⟨g, 0, none⟩ = some u0 := by rw [cell_of_row _ _ 0 _ _ _ hg]; rfl
  have z1 : w3.cell? ⟨g, 1, none⟩ = some u1 := by rw [cell_of_row _ _ 1 _ _ _ hg]; rfl
  rw [← hu] at hR
  refine bodyPost_ret (results_where h _ _ g (.int .i64 a) (.int .i64 b) hp ?_ ?_) hd hR
  all_goals simp [go_sem, z0, z1]
theorem methodF_drop {L : List DT} {s : ByteArray} {H : List Int} {i : Nat} (hi : i < H.length) : methodF L s (H.drop i) = if 0 ≤ ownT (methodsOf L H[i]) s then some (H[i], ownT (methodsOf L H[i]) s) else methodF L s (H.drop (i + 1)) := by
  rw [List.drop_eq_getElem_cons hi, methodF]
theorem ownF_small (s : ByteArray) : ∀ (l : List MT) (k : Nat), -1 ≤ ownF s l k ∧ ownF s l k < k + l.length + 1
  | [], k => by unfold ownF; simp only [List.length_nil]; omega
  | d :: r, k => by
    unfold ownF
    split
    · simp only [List.length_cons]; omega
    · have := ownF_small s r (k + 1)
      simp only [List.length_cons]; omega
theorem blk_cells {R W : World} {g : Nat} {u0 u1 : Value} {T : TypeId} (hg : R.heap[g]? = some (.cells #[u0, u1] T (0, 0))) (hb : Below R.heap.size R W) : W.heap[g]? = some (.cells #[u0, u1] T (0, 0)) := (hb.block _ (by
  rcases Nat.lt_or_ge g R.heap.size with h2 | h2
  · exact h2
  · rw [Array.getElem?_eq_none h2] at hg; cases hg)).trans hg
set_option maxHeartbeats 4000000 in
set_option maxRecDepth 100000 in
theorem refMethod_any (L : List DT) (A : Option Addr) (c : Nat) (d0 : Int) (s : ByteArray) (w : World) (ha : DsR w w.heap.size A L) (hcnt : L.length ≤ 1000000000) (hms : ∀ d ∈ L, d.methods.length ≤ 1000000000) (hd0 : I64 d0) :
    Calls Try.prog 16 #[.agg #[.slice A L.length c], .int .i64 d0, .string s] w (MSays w (methodT L d0 s)) := by
  obtain ⟨R0, hR0⟩ : ∃ R0 : World, R0 = (w.alloc (.cells #[.slice A L.length c] 24)).alloc (.cells #[.int .i64 0, .int .i64 0] 29) := ⟨_, rfl⟩
  have hu : UAt w R0 A c L := hR0 ▸ (UAt.of ha).alloc _
  have hg0 : R0.heap[w.heap.size + 1]? = some (.cells #[.int .i64 0, .int .i64 0] 29 (0, 0)) := by
    have := heap_alloc_new (w.alloc (.cells #[.slice A L.length c] 24)) (.cells #[.int .i64 0, .int .i64 0] 29)
    rw [hR0]
    simpa using this
  have HG := Lib.hid hg0
  have HU := Lib.hid hu
  have HR0 := Lib.hid hR0
  have HS := Lib.hid hu.size
  have HMS := Lib.hid hms
  have HC := Lib.hid hcnt
  have HD0 := Lib.hid hd0
  obtain ⟨i0, hi0, hz0, hz1, hz2⟩ := info_parts Try.infoInt
  have KK : Hid (∀ W d, Hid (Below R0.heap.size R0 W) → Calls Try.prog 49 #[.agg #[.slice A L.length c], .int .i64 d] W fun e w' => e = .returned (.int .i64 (kindT L d)) ∧ Hid (Below R0.heap.size R0 w') ∧ Hid (Below W.heap.size W w')) := fun W d hb => (refKind_any L A c d W (hu.rowAt hb)).mono fun e w' hh => ⟨hh.1, hb.out.trans (hh.2.mono hb.out.size), hh.2⟩
  have KC : Hid (∀ W d, Hid (Below R0.heap.size R0 W) → Calls Try.prog 23 #[.agg #[.slice A L.length c], .int .i64 d] W fun e w' => ∃ A' c', e = .returned (.slice A' (chainT L d).length c') ∧ Hid (IRow R0.heap.size w' A' c' (chainT L d)) ∧ Hid (Below R0.heap.size R0 w')) := fun W d hb => (refChain_any L A c d W (hu.rowAt hb) hcnt).mono fun e w' hh => by
    obtain ⟨A', c', h1, h2, h3⟩ := hh
    exact ⟨A', c', h1, ⟨ownsRow_lower hb.out.size h2.1, h2.2⟩, hb.out.trans (h3.mono hb.out.size)⟩
  obtain ⟨r, hr0⟩ : ∃ r, r = methodT L d0 s := ⟨_, rfl⟩
  rw [← hr0]
  have HR := Lib.hid hr0
  clear hr0 ha hu hR0 hcnt hg0 hms hd0
  unfold MSays
  go_enter Try.func16, Try.ntmps16
  have y0 := HU.out.cell _ (Below.refl _ _)
  have HB0 : Hid (Below R0.heap.size R0 R0) := Below.refl _ _
  rw [HR0.out] at y0
  go_wp2_with fail
  rw [← HR0.out] at y0 ⊢
  refine (KC.out _ _ HB0).mono ?_
  rintro e1 w1 ⟨A1, c1, rfl, hrow1, hb1⟩
  clear y0
  have y0 := HU.out.cell _ hb1.out
  go_wp2_with fail
  refine (KK.out _ _ hb1).mono ?_
  rintro e2 w2 ⟨rfl, hb2, hl2⟩
  have hrow2 : Hid (IRow R0.heap.size w2 A1 c1 (chainT L d0)) := hrow1.out.below hl2.out
  clear y0 hb1 hrow1 hl2
  by_cases hk : kindT L d0 = 1
  · have hk1 : isOfT L d0 1 = true := by rw [kindT_isOf _ _ _ (by decide), hk]; rfl
    have hh : homesT L d0 = [d0] := by unfold homesT; rw [hk1]; rfl
    have hr1 : methodF L s (homesT L d0) = r := HR.out.symm
    have hin := homesT_in L d0
    have hcl0 := HC.out
    rw [hh] at hr1 hin
    have hs2 := hb2.out.size
    have hrow4 : Hid (IRow R0.heap.size (w2.alloc (.cells #[.int .i64 d0] 3)) (some ⟨w2.heap.size, 0, none⟩) 1 [d0]) := IRow.one w2 d0 HD0.out hs2
    have hb4 : Hid (Below R0.heap.size R0 (w2.alloc (.cells #[.int .i64 d0] 3))) := hb2.out.alloc hs2 _
    obtain ⟨H, hH⟩ : ∃ H, H = [d0] := ⟨_, rfl⟩
    have hHl : H.length = 1 := by rw [hH]; rfl
    rw [← hH] at hr1 hin hrow4
    have HR1 := Lib.hid hr1
    have HIN := Lib.hid hin
    clear hh hr1 hin hH hk1 hrow2
    go_wp2_with fail
    generalize (w2.alloc (.cells #[.int .i64 d0] 3)) = w4 at hrow4 hb4 ⊢
    generalize w2.heap.size = gl at hrow4 ⊢
    go_loopw [9] (fun iv wr => ∃ k : Nat, k ≤ H.length ∧ iv = .int .i64 k ∧ Hid (methodF L s (H.drop k) = r) ∧ Hid (IRow R0.heap.size wr (some ⟨gl, 0, none⟩) 1 H) ∧ Hid (Below R0.heap.size R0 wr)) (fun i _ => H.length - (intOf i).toNat)
    case atStart => exact ⟨0, Nat.zero_le _, rfl, HR1, hrow4, hb4⟩
    case round =>
      obtain ⟨k, hk, rfl, hdr, hrow3, hb3⟩ := hrel
      rcases (show k = 0 ∨ k = 1 by omega) with rfl | rfl
      · have hlt : 0 < H.length := by omega
        have hdrop := hdr.out
        rw [methodF_drop hlt] at hdrop
        have hhome := HIN.out _ (List.getElem_mem hlt)
        obtain ⟨x, hx⟩ : ∃ x, x = H[0] := ⟨_, rfl⟩
        rw [← hx] at hhome hdrop
        obtain ⟨kk, hkk, hkl⟩ := hhome
        obtain ⟨q, o, E1, e1, E2, e2, E3, e3, E4, e4, hA, hg, hY⟩ := HU.out.decl hkl
        subst hA
        have hz : ∀ W, Hid (IRow R0.heap.size W (some ⟨gl, 0, none⟩) 1 H) → W.cell? ⟨gl, 0, none⟩ = some (.int .i64 (kk : Int)) := fun W h => by
          have h9 := h.out.at_ hlt
          rw [Nat.zero_add, ← hx, hkk] at h9
          exact h9
        obtain ⟨D, hN⟩ : ∃ D : DT, D = L[kk] := ⟨_, rfl⟩
        rw [← hN] at hY
        have hmo : methodsOf L x = D.methods := by rw [hkk]; unfold methodsOf; rw [Int.toNat_natCast, List.getElem?_eq_getElem hkl, hN]; rfl
        have hml : D.methods.length ≤ 1000000000 := HMS.out D (hN ▸ List.getElem_mem _)
        rw [hmo] at hdrop
        have HCE : Hid (∀ W, Hid (Below R0.heap.size R0 W) → Hid (IRow R0.heap.size W (some ⟨gl, 0, none⟩) 1 H) → (W.cell? ⟨w.heap.size, 0, none⟩ = some (.slice (some ⟨q, o, none⟩) L.length c) ∧ W.cell? ⟨gl, 0, none⟩ = some (.int .i64 (kk : Int)) ∧ W.cell? ⟨q, o + kk * 11, none⟩ = some (.int .i64 D.kind) ∧ W.cell? ⟨q, o + kk * 11 + 1, none⟩ = some (.string D.name) ∧ W.cell? ⟨q, o + kk * 11 + 2, none⟩ = some (.string D.base) ∧ W.cell? ⟨q, o + kk * 11 + 3, none⟩ = some (.slice E1 D.faces.length e1) ∧ W.cell? ⟨q, o + kk * 11 + 4, none⟩ = some (.bool D.abstract) ∧ W.cell? ⟨q, o + kk * 11 + 5, none⟩ = some (.bool D.final) ∧ W.cell? ⟨q, o + kk * 11 + 6, none⟩ = some (.slice E2 D.vars.length e2) ∧ W.cell? ⟨q, o + kk * 11 + 7, none⟩ = some (.slice E3 D.methods.length e3) ∧ W.cell? ⟨q, o + kk * 11 + 8, none⟩ = some (.slice E4 D.body.length e4) ∧ W.cell? ⟨q, o + kk * 11 + 9, none⟩ = some (.int .i64 D.every) ∧ W.cell? ⟨q, o + kk * 11 + 10, none⟩ = some (.int .i64 D.first)) ∧ Hid (Below R0.heap.size R0 W) ∧ Hid (IRow R0.heap.size W (some ⟨gl, 0, none⟩) 1 H)) := fun W h h2 => ⟨⟨HU.out.cell W h.out, hz W h2, (hY W h.out).2⟩, h, h2⟩
        have KO : Hid (∀ W, Hid (Below R0.heap.size R0 W) → Hid (IRow R0.heap.size W (some ⟨gl, 0, none⟩) 1 H) → Calls Try.prog 50 #[dv D E1 E2 E3 E4 e1 e2 e3 e4, .string s] W fun e w' => e = .returned (.int .i64 (ownT D.methods s)) ∧ Hid ((w'.cell? ⟨w.heap.size, 0, none⟩ = some (.slice (some ⟨q, o, none⟩) L.length c) ∧ w'.cell? ⟨gl, 0, none⟩ = some (.int .i64 (kk : Int)) ∧ w'.cell? ⟨q, o + kk * 11, none⟩ = some (.int .i64 D.kind) ∧ w'.cell? ⟨q, o + kk * 11 + 1, none⟩ = some (.string D.name) ∧ w'.cell? ⟨q, o + kk * 11 + 2, none⟩ = some (.string D.base) ∧ w'.cell? ⟨q, o + kk * 11 + 3, none⟩ = some (.slice E1 D.faces.length e1) ∧ w'.cell? ⟨q, o + kk * 11 + 4, none⟩ = some (.bool D.abstract) ∧ w'.cell? ⟨q, o + kk * 11 + 5, none⟩ = some (.bool D.final) ∧ w'.cell? ⟨q, o + kk * 11 + 6, none⟩ = some (.slice E2 D.vars.length e2) ∧ w'.cell? ⟨q, o + kk * 11 + 7, none⟩ = some (.slice E3 D.methods.length e3) ∧ w'.cell? ⟨q, o + kk * 11 + 8, none⟩ = some (.slice E4 D.body.length e4) ∧ w'.cell? ⟨q, o + kk * 11 + 9, none⟩ = some (.int .i64 D.every) ∧ w'.cell? ⟨q, o + kk * 11 + 10, none⟩ = some (.int .i64 D.first)) ∧ Hid (Below R0.heap.size R0 w') ∧ Hid (IRow R0.heap.size w' (some ⟨gl, 0, none⟩) 1 H))) := fun W h h2 => (refOwn_any D E1 E2 E3 E4 e1 e2 e3 e4 s W (MsR.mono (HU.out.out h.out).size (fun _ _ => rfl) (hY W h.out).1.2.2.1) hml).mono fun e w' hh => ⟨hh.1, HCE.out _ (h.out.trans (hh.2.mono h.out.size)) (h2.out.below hh.2)⟩
        have Y := HCE.out _ hb3 hrow3
        obtain ⟨⟨y0, z, x0, x1, x2, x3, x4, x5, x6, x7, x8, x9, x10⟩, -, -⟩ := Y
        have q1 : (kk : Int) < (L.length : Int) := by omega
        have q2 : (0 : Int) ≤ (kk : Int) := by omega
        obtain ⟨n, hn⟩ : ∃ n, n = ownT D.methods s := ⟨_, rfl⟩
        rw [← hn] at KO hdrop
        have hns := ownF_small s D.methods 0
        rw [show ownF s D.methods 0 = n from hn.symm] at hns
        have HNS := Lib.hid hns
        rw [hkk] at hdrop
        have HDR := Lib.hid hdrop
        clear hmo hN hn hns hz hY hdrop hkk
        unfold dv at KO
        go_wp2_with fail
        go_region_held3 (fun w' => (w'.cell? ⟨w.heap.size, 0, none⟩ = some (.slice (some ⟨q, o, none⟩) L.length c) ∧ w'.cell? ⟨gl, 0, none⟩ = some (.int .i64 (kk : Int)) ∧ w'.cell? ⟨q, o + kk * 11, none⟩ = some (.int .i64 D.kind) ∧ w'.cell? ⟨q, o + kk * 11 + 1, none⟩ = some (.string D.name) ∧ w'.cell? ⟨q, o + kk * 11 + 2, none⟩ = some (.string D.base) ∧ w'.cell? ⟨q, o + kk * 11 + 3, none⟩ = some (.slice E1 D.faces.length e1) ∧ w'.cell? ⟨q, o + kk * 11 + 4, none⟩ = some (.bool D.abstract) ∧ w'.cell? ⟨q, o + kk * 11 + 5, none⟩ = some (.bool D.final) ∧ w'.cell? ⟨q, o + kk * 11 + 6, none⟩ = some (.slice E2 D.vars.length e2) ∧ w'.cell? ⟨q, o + kk * 11 + 7, none⟩ = some (.slice E3 D.methods.length e3) ∧ w'.cell? ⟨q, o + kk * 11 + 8, none⟩ = some (.slice E4 D.body.length e4) ∧ w'.cell? ⟨q, o + kk * 11 + 9, none⟩ = some (.int .i64 D.every) ∧ w'.cell? ⟨q, o + kk * 11 + 10, none⟩ = some (.int .i64 D.first)) ∧ Hid (Below R0.heap.size R0 w') ∧ Hid (IRow R0.heap.size w' (some ⟨gl, 0, none⟩) 1 H))
          (first | exact ⟨⟨y0, z, x0, x1, x2, x3, x4, x5, x6, x7, x8, x9, x10⟩, hb3, hrow3⟩ | exact ⟨⟨y0, z, x0, x1, x2, x3, x4, x5, x6, x7, x8, x9, x10⟩, Below.drew hb3, hrow3⟩ | exact HB6.out)
          (first | (go_at_call 50; refine (KO.out _ (by first | exact hb3 | exact Below.drew hb3) (by exact hrow3)).mono ?_; rintro e6 w6 ⟨rfl, HB6⟩))
        all_goals
          clear y0 z x0 x1 x2 x3 x4 x5 x6 x7 x8 x9 x10
          obtain ⟨⟨-, z, -⟩, hb6, hrow6⟩ := HB6.out
          clear HB6
          have hw6 := blk_cells HG.out hb6.out
          have g0 : w6.cell? ⟨w.heap.size + 1, 0, none⟩ = some (.int .i64 0) := by rw [cell_of_row _ _ 0 _ _ _ hw6]; rfl
          have g1 : w6.cell? ⟨w.heap.size + 1, 1, none⟩ = some (.int .i64 0) := by rw [cell_of_row _ _ 1 _ _ _ hw6]; rfl
          have f0 : w6.frozen? ⟨w.heap.size + 1, 0, none⟩ = false := frozen_of_row _ _ 0 _ _ hw6
          have f1 : w6.frozen? ⟨w.heap.size + 1, 1, none⟩ = false := frozen_of_row _ _ 1 _ _ hw6
          have HW6 := Lib.hid hw6
          have HO := Lib.hid ((HU.out.out hb6.out).setCell (p := ⟨w.heap.size + 1, 0, none⟩) (by show w.heap.size ≤ w.heap.size + 1; omega) (.int .i64 (kk : Int)) |>.setCell (p := ⟨w.heap.size + 1, 1, none⟩) (by show w.heap.size ≤ w.heap.size + 1; omega) (.int .i64 n))
          clear hw6
          by_cases hn : 0 ≤ n
          · have hres := HDR.out
            rw [if_pos hn] at hres
            have HRES := Lib.hid hres
            clear hres
            go_wp2_with fail
            refine ret_where (w3 := w6) (g := w.heap.size + 1) (a := kk) (b := n) (ev := true) rfl HW6.out rfl rfl rfl ⟨?_, HO.out⟩
            rw [← HRES.out]
            rfl
          · have hres := HDR.out
            rw [if_neg hn] at hres
            have HRES := Lib.hid hres
            clear hres
            go_wp2_with fail
            go_roundw
            case rel => exact ⟨1, by omega, rfl, HRES, hrow6, hb6⟩
            case measure => simp [intOf]; omega
      · have hres := hdr.out
        rw [List.drop_of_length_le (by omega)] at hres
        have HRES := Lib.hid hres
        have hw6 := blk_cells HG.out hb3.out
        have g0 : wr.cell? ⟨w.heap.size + 1, 0, none⟩ = some (.int .i64 0) := by rw [cell_of_row _ _ 0 _ _ _ hw6]; rfl
        have g1 : wr.cell? ⟨w.heap.size + 1, 1, none⟩ = some (.int .i64 0) := by rw [cell_of_row _ _ 1 _ _ _ hw6]; rfl
        have f0 : wr.frozen? ⟨w.heap.size + 1, 0, none⟩ = false := frozen_of_row _ _ 0 _ _ hw6
        have f1 : wr.frozen? ⟨w.heap.size + 1, 1, none⟩ = false := frozen_of_row _ _ 1 _ _ hw6
        have HW6 := Lib.hid hw6
        have HO := Lib.hid ((HU.out.out hb3.out).setCell (p := ⟨w.heap.size + 1, 0, none⟩) (by show w.heap.size ≤ w.heap.size + 1; omega) (.int .i64 0) |>.setCell (p := ⟨w.heap.size + 1, 1, none⟩) (by show w.heap.size ≤ w.heap.size + 1; omega) (.int .i64 0))
        clear hw6 hres
        go_wp2_with fail
        refine ret_where (w3 := wr) (g := w.heap.size + 1) (a := 0) (b := 0) (ev := false) rfl HW6.out rfl rfl rfl ⟨?_, HO.out⟩
        rw [← HRES.out]
        rfl
  · have hk1 : isOfT L d0 1 = false := by rw [kindT_isOf _ _ _ (by decide)]; simp [hk]
    have hh : homesT L d0 = chainT L d0 := by unfold homesT; rw [hk1]; rfl
    have hr1 : methodF L s (homesT L d0) = r := HR.out.symm
    have hin := homesT_in L d0
    have hmet := (chainT_met L d0).len
    have hcl0 := HC.out
    rw [hh] at hr1 hin
    obtain ⟨H, hH⟩ : ∃ H, H = chainT L d0 := ⟨_, rfl⟩
    rw [← hH] at hr1 hin hmet hrow2
    have HR1 := Lib.hid hr1
    have HIN := Lib.hid hin
    rw [← hH]
    clear hh hr1 hin hH hk1
    go_wp2_with fail
    go_loopw [9] (fun iv wr => ∃ k : Nat, k ≤ H.length ∧ iv = .int .i64 k ∧ Hid (methodF L s (H.drop k) = r) ∧ Hid (IRow R0.heap.size wr A1 c1 H) ∧ Hid (Below R0.heap.size R0 wr)) (fun i _ => H.length - (intOf i).toNat)
    case atStart => exact ⟨0, Nat.zero_le _, rfl, HR1, hrow2, hb2⟩
    case round =>
      obtain ⟨k, hk, rfl, hdr, hrow3, hb3⟩ := hrel
      have h2 : (0 : Int) ≤ (k : Int) := by omega
      by_cases hlt : k < H.length
      · have h1 : (k : Int) < (H.length : Int) := by omega
        have hdrop := hdr.out
        rw [methodF_drop hlt] at hdrop
        have hhome := HIN.out _ (List.getElem_mem hlt)
        obtain ⟨x, hx⟩ : ∃ x, x = H[k] := ⟨_, rfl⟩
        rw [← hx] at hhome hdrop
        obtain ⟨kk, hkk, hkl⟩ := hhome
        obtain ⟨q, o, E1, e1, E2, e2, E3, e3, E4, e4, hA, hg, hY⟩ := HU.out.decl hkl
        obtain ⟨gl, hAl⟩ := hrow3.out.isBlock (by omega)
        subst hA hAl
        have hz : ∀ W, Hid (IRow R0.heap.size W (some ⟨gl, 0, none⟩) c1 H) → W.cell? ⟨gl, k, none⟩ = some (.int .i64 (kk : Int)) := fun W h => by
          have h9 := h.out.at_ hlt
          rw [Nat.zero_add, ← hx, hkk] at h9
          exact h9
        obtain ⟨D, hN⟩ : ∃ D : DT, D = L[kk] := ⟨_, rfl⟩
        rw [← hN] at hY
        have hmo : methodsOf L x = D.methods := by rw [hkk]; unfold methodsOf; rw [Int.toNat_natCast, List.getElem?_eq_getElem hkl, hN]; rfl
        have hml : D.methods.length ≤ 1000000000 := HMS.out D (hN ▸ List.getElem_mem _)
        rw [hmo] at hdrop
        have HCE : Hid (∀ W, Hid (Below R0.heap.size R0 W) → Hid (IRow R0.heap.size W (some ⟨gl, 0, none⟩) c1 H) → (W.cell? ⟨w.heap.size, 0, none⟩ = some (.slice (some ⟨q, o, none⟩) L.length c) ∧ W.cell? ⟨gl, k, none⟩ = some (.int .i64 (kk : Int)) ∧ W.cell? ⟨q, o + kk * 11, none⟩ = some (.int .i64 D.kind) ∧ W.cell? ⟨q, o + kk * 11 + 1, none⟩ = some (.string D.name) ∧ W.cell? ⟨q, o + kk * 11 + 2, none⟩ = some (.string D.base) ∧ W.cell? ⟨q, o + kk * 11 + 3, none⟩ = some (.slice E1 D.faces.length e1) ∧ W.cell? ⟨q, o + kk * 11 + 4, none⟩ = some (.bool D.abstract) ∧ W.cell? ⟨q, o + kk * 11 + 5, none⟩ = some (.bool D.final) ∧ W.cell? ⟨q, o + kk * 11 + 6, none⟩ = some (.slice E2 D.vars.length e2) ∧ W.cell? ⟨q, o + kk * 11 + 7, none⟩ = some (.slice E3 D.methods.length e3) ∧ W.cell? ⟨q, o + kk * 11 + 8, none⟩ = some (.slice E4 D.body.length e4) ∧ W.cell? ⟨q, o + kk * 11 + 9, none⟩ = some (.int .i64 D.every) ∧ W.cell? ⟨q, o + kk * 11 + 10, none⟩ = some (.int .i64 D.first)) ∧ Hid (Below R0.heap.size R0 W) ∧ Hid (IRow R0.heap.size W (some ⟨gl, 0, none⟩) c1 H)) := fun W h h2 => ⟨⟨HU.out.cell W h.out, hz W h2, (hY W h.out).2⟩, h, h2⟩
        have KO : Hid (∀ W, Hid (Below R0.heap.size R0 W) → Hid (IRow R0.heap.size W (some ⟨gl, 0, none⟩) c1 H) → Calls Try.prog 50 #[dv D E1 E2 E3 E4 e1 e2 e3 e4, .string s] W fun e w' => e = .returned (.int .i64 (ownT D.methods s)) ∧ Hid ((w'.cell? ⟨w.heap.size, 0, none⟩ = some (.slice (some ⟨q, o, none⟩) L.length c) ∧ w'.cell? ⟨gl, k, none⟩ = some (.int .i64 (kk : Int)) ∧ w'.cell? ⟨q, o + kk * 11, none⟩ = some (.int .i64 D.kind) ∧ w'.cell? ⟨q, o + kk * 11 + 1, none⟩ = some (.string D.name) ∧ w'.cell? ⟨q, o + kk * 11 + 2, none⟩ = some (.string D.base) ∧ w'.cell? ⟨q, o + kk * 11 + 3, none⟩ = some (.slice E1 D.faces.length e1) ∧ w'.cell? ⟨q, o + kk * 11 + 4, none⟩ = some (.bool D.abstract) ∧ w'.cell? ⟨q, o + kk * 11 + 5, none⟩ = some (.bool D.final) ∧ w'.cell? ⟨q, o + kk * 11 + 6, none⟩ = some (.slice E2 D.vars.length e2) ∧ w'.cell? ⟨q, o + kk * 11 + 7, none⟩ = some (.slice E3 D.methods.length e3) ∧ w'.cell? ⟨q, o + kk * 11 + 8, none⟩ = some (.slice E4 D.body.length e4) ∧ w'.cell? ⟨q, o + kk * 11 + 9, none⟩ = some (.int .i64 D.every) ∧ w'.cell? ⟨q, o + kk * 11 + 10, none⟩ = some (.int .i64 D.first)) ∧ Hid (Below R0.heap.size R0 w') ∧ Hid (IRow R0.heap.size w' (some ⟨gl, 0, none⟩) c1 H))) := fun W h h2 => (refOwn_any D E1 E2 E3 E4 e1 e2 e3 e4 s W (MsR.mono (HU.out.out h.out).size (fun _ _ => rfl) (hY W h.out).1.2.2.1) hml).mono fun e w' hh => ⟨hh.1, HCE.out _ (h.out.trans (hh.2.mono h.out.size)) (h2.out.below hh.2)⟩
        have Y := HCE.out _ hb3 hrow3
        obtain ⟨⟨y0, z, x0, x1, x2, x3, x4, x5, x6, x7, x8, x9, x10⟩, -, -⟩ := Y
        have q1 : (kk : Int) < (L.length : Int) := by omega
        have q2 : (0 : Int) ≤ (kk : Int) := by omega
        obtain ⟨n, hn⟩ : ∃ n, n = ownT D.methods s := ⟨_, rfl⟩
        rw [← hn] at KO hdrop
        have hns := ownF_small s D.methods 0
        rw [show ownF s D.methods 0 = n from hn.symm] at hns
        have HNS := Lib.hid hns
        rw [hkk] at hdrop
        have HDR := Lib.hid hdrop
        clear hmo hN hn hns hz hY hdrop hkk
        unfold dv at KO
        go_wp2_with fail
        go_region_held3 (fun w' => (w'.cell? ⟨w.heap.size, 0, none⟩ = some (.slice (some ⟨q, o, none⟩) L.length c) ∧ w'.cell? ⟨gl, k, none⟩ = some (.int .i64 (kk : Int)) ∧ w'.cell? ⟨q, o + kk * 11, none⟩ = some (.int .i64 D.kind) ∧ w'.cell? ⟨q, o + kk * 11 + 1, none⟩ = some (.string D.name) ∧ w'.cell? ⟨q, o + kk * 11 + 2, none⟩ = some (.string D.base) ∧ w'.cell? ⟨q, o + kk * 11 + 3, none⟩ = some (.slice E1 D.faces.length e1) ∧ w'.cell? ⟨q, o + kk * 11 + 4, none⟩ = some (.bool D.abstract) ∧ w'.cell? ⟨q, o + kk * 11 + 5, none⟩ = some (.bool D.final) ∧ w'.cell? ⟨q, o + kk * 11 + 6, none⟩ = some (.slice E2 D.vars.length e2) ∧ w'.cell? ⟨q, o + kk * 11 + 7, none⟩ = some (.slice E3 D.methods.length e3) ∧ w'.cell? ⟨q, o + kk * 11 + 8, none⟩ = some (.slice E4 D.body.length e4) ∧ w'.cell? ⟨q, o + kk * 11 + 9, none⟩ = some (.int .i64 D.every) ∧ w'.cell? ⟨q, o + kk * 11 + 10, none⟩ = some (.int .i64 D.first)) ∧ Hid (Below R0.heap.size R0 w') ∧ Hid (IRow R0.heap.size w' (some ⟨gl, 0, none⟩) c1 H))
          (first | exact ⟨⟨y0, z, x0, x1, x2, x3, x4, x5, x6, x7, x8, x9, x10⟩, hb3, hrow3⟩ | exact ⟨⟨y0, z, x0, x1, x2, x3, x4, x5, x6, x7, x8, x9, x10⟩, Below.drew hb3, hrow3⟩ | exact HB6.out)
          (first | (go_at_call 50; refine (KO.out _ (by first | exact hb3 | exact Below.drew hb3) (by exact hrow3)).mono ?_; rintro e6 w6 ⟨rfl, HB6⟩))
        all_goals
          clear y0 z x0 x1 x2 x3 x4 x5 x6 x7 x8 x9 x10
          obtain ⟨⟨-, z, -⟩, hb6, hrow6⟩ := HB6.out
          clear HB6
          have hw6 := blk_cells HG.out hb6.out
          have g0 : w6.cell? ⟨w.heap.size + 1, 0, none⟩ = some (.int .i64 0) := by rw [cell_of_row _ _ 0 _ _ _ hw6]; rfl
          have g1 : w6.cell? ⟨w.heap.size + 1, 1, none⟩ = some (.int .i64 0) := by rw [cell_of_row _ _ 1 _ _ _ hw6]; rfl
          have f0 : w6.frozen? ⟨w.heap.size + 1, 0, none⟩ = false := frozen_of_row _ _ 0 _ _ hw6
          have f1 : w6.frozen? ⟨w.heap.size + 1, 1, none⟩ = false := frozen_of_row _ _ 1 _ _ hw6
          have HW6 := Lib.hid hw6
          have HO := Lib.hid ((HU.out.out hb6.out).setCell (p := ⟨w.heap.size + 1, 0, none⟩) (by show w.heap.size ≤ w.heap.size + 1; omega) (.int .i64 (kk : Int)) |>.setCell (p := ⟨w.heap.size + 1, 1, none⟩) (by show w.heap.size ≤ w.heap.size + 1; omega) (.int .i64 n))
          clear hw6
          by_cases hn : 0 ≤ n
          · have hres := HDR.out
            rw [if_pos hn] at hres
            have HRES := Lib.hid hres
            clear hres
            go_wp2_with fail
            refine ret_where (w3 := w6) (g := w.heap.size + 1) (a := kk) (b := n) (ev := true) rfl HW6.out rfl rfl rfl ⟨?_, HO.out⟩
            rw [← HRES.out]
            rfl
          · have hres := HDR.out
            rw [if_neg hn] at hres
            have HRES := Lib.hid hres
            clear hres
            go_wp2_with fail
            go_roundw
            case rel => exact ⟨k + 1, by omega, by omega, HRES⟩
            case measure => simp [intOf]; omega
      · have h1 : ¬ (k : Int) < (H.length : Int) := by omega
        have hres := hdr.out
        rw [List.drop_of_length_le (by omega)] at hres
        have HRES := Lib.hid hres
        have hw6 := blk_cells HG.out hb3.out
        have g0 : wr.cell? ⟨w.heap.size + 1, 0, none⟩ = some (.int .i64 0) := by rw [cell_of_row _ _ 0 _ _ _ hw6]; rfl
        have g1 : wr.cell? ⟨w.heap.size + 1, 1, none⟩ = some (.int .i64 0) := by rw [cell_of_row _ _ 1 _ _ _ hw6]; rfl
        have f0 : wr.frozen? ⟨w.heap.size + 1, 0, none⟩ = false := frozen_of_row _ _ 0 _ _ hw6
        have f1 : wr.frozen? ⟨w.heap.size + 1, 1, none⟩ = false := frozen_of_row _ _ 1 _ _ hw6
        have HW6 := Lib.hid hw6
        have HO := Lib.hid ((HU.out.out hb3.out).setCell (p := ⟨w.heap.size + 1, 0, none⟩) (by show w.heap.size ≤ w.heap.size + 1; omega) (.int .i64 0) |>.setCell (p := ⟨w.heap.size + 1, 1, none⟩) (by show w.heap.size ≤ w.heap.size + 1; omega) (.int .i64 0))
        clear hw6 hres
        go_wp2_with fail
        refine ret_where (w3 := wr) (g := w.heap.size + 1) (a := 0) (b := 0) (ev := false) rfl HW6.out rfl rfl rfl ⟨?_, HO.out⟩
        rw [← HRES.out]
        rfl
end Go.Proofs.Ytmbddofcildibaa

/-
  governorref6.Faces BY A CONTRACT.
-/
namespace Go.Proofs.Ytmbddofcildibaa
open Go Go.RowKit
set_option linter.unusedVariables false
set_option linter.unusedSimpArgs false

/-- the interfaces of these classes, those ahead given. -/
def facesF (L : List DT) (out : List Int) (cs : List Int) : List Int := cs.foldl (fun out c => (facesOf L c).foldl (faceStep L) out) out
theorem facesF_drop {L : List DT} {out C : List Int} {i : Nat} (hi : i < C.length) : facesF L out (C.drop i) = facesF L ((facesOf L C[i]).foldl (faceStep L) out) (C.drop (i + 1)) := by
  rw [List.drop_eq_getElem_cons hi]
  rfl
theorem fold_drop {L : List DT} {out : List Int} {F : List ByteArray} {k : Nat} (hk : k < F.length) : (F.drop k).foldl (faceStep L) out = (F.drop (k + 1)).foldl (faceStep L) (faceStep L out F[k]) := by
  rw [List.drop_eq_getElem_cons hk]
  rfl
theorem faceStep_met {L : List DT} {out : List Int} {s : ByteArray} (h : Met L out) : Met L (faceStep L out s) := by
  unfold faceStep
  split
  · rename_i hh
    simp only [Bool.and_eq_true, Bool.not_eq_eq_eq_not, Bool.not_true] at hh
    exact h.snoc hh.1 hh.2
  · exact h

theorem facesF_met {L : List DT} : ∀ (cs out : List Int), Met L out → Met L (facesF L out cs)
  | [], _, h => h
  | x :: r, out, h => by
    have h2 : ∀ (F : List ByteArray) (o : List Int), Met L o → Met L (F.foldl (faceStep L) o) := by
      intro F
      induction F with
      | nil => exact fun o h => h
      | cons s F ih => exact fun o h => ih _ (faceStep_met h)
    exact facesF_met r _ (h2 _ _ h)
theorem facesT_met (L : List DT) (d : Int) : Met L (facesT L d) := facesF_met _ _ (Met.nil L)
set_option maxHeartbeats 4000000 in
set_option maxRecDepth 100000 in
theorem refFaces_any (L : List DT) (A : Option Addr) (c : Nat) (d0 : Int) (w : World) (ha : DsR w w.heap.size A L) (hcnt : L.length ≤ 1000000000) (hfs : ∀ d ∈ L, d.faces.length ≤ 1000000000) :
    Calls Try.prog 24 #[.agg #[.slice A L.length c], .int .i64 d0] w (ISays w (facesT L d0)) := by
  obtain ⟨R0, hR0⟩ : ∃ R0 : World, R0 = w.alloc (.cells #[.slice A L.length c] 24) := ⟨_, rfl⟩
  have hu : UAt w R0 A c L := hR0 ▸ UAt.of ha
  have HU := Lib.hid hu
  have HR0 := Lib.hid hR0
  have HS := Lib.hid hu.size
  have HFS := Lib.hid hfs
  obtain ⟨i0, hi0, hz0, hz1, hz2⟩ := info_parts Try.infoInt
  have KC : Hid (∀ W d, Hid (Below R0.heap.size R0 W) → Calls Try.prog 23 #[.agg #[.slice A L.length c], .int .i64 d] W fun e w' => ∃ A' c', e = .returned (.slice A' (chainT L d).length c') ∧ Hid (IRow R0.heap.size w' A' c' (chainT L d)) ∧ Hid (Below R0.heap.size R0 w')) := fun W d hb => (refChain_any L A c d W (hu.rowAt hb) hcnt).mono fun e w' hh => by
    obtain ⟨A', c', h1, h2, h3⟩ := hh
    exact ⟨A', c', h1, ⟨ownsRow_lower hb.out.size h2.1, h2.2⟩, hb.out.trans (h3.mono hb.out.size)⟩
  have HC := Lib.hid hcnt
  have KK0 : Hid (∀ w1 W d, Below R0.heap.size R0 w1 → Hid (Below w1.heap.size w1 W) → Calls Try.prog 49 #[.agg #[.slice A L.length c], .int .i64 d] W fun e w' => e = .returned (.int .i64 (kindT L d)) ∧ Hid (Below w1.heap.size w1 w') ∧ Hid (Below W.heap.size W w')) := fun w1 W d h1 hb => (refKind_any L A c d W (hu.rowAt (h1.trans (hb.out.mono h1.size)))).mono fun e w' hh => ⟨hh.1, hb.out.trans (hh.2.mono hb.out.size), hh.2⟩
  have KF0 : Hid (∀ w1 W s, Below R0.heap.size R0 w1 → Hid (Below w1.heap.size w1 W) → Calls Try.prog 21 #[.agg #[.slice A L.length c], .string s] W fun e w' => e = .returned (.int .i64 (findT L s)) ∧ Hid (Below w1.heap.size w1 w') ∧ Hid (Below W.heap.size W w')) := fun w1 W s h1 hb => (refFind_any L A c s W (hu.rowAt (h1.trans (hb.out.mono h1.size))) hcnt).mono fun e w' hh => ⟨hh.1, hb.out.trans (hh.2.mono hb.out.size), hh.2⟩
  obtain ⟨r, hr0⟩ : ∃ r, r = facesT L d0 := ⟨_, rfl⟩
  rw [← hr0]
  have HR := Lib.hid hr0
  clear hr0 ha hu hR0 hcnt hfs
  unfold ISays
  go_enter Try.func24, Try.ntmps24
  have y0 := HU.out.cell _ (Below.refl _ _)
  have HB0 : Hid (Below R0.heap.size R0 R0) := Below.refl _ _
  rw [HR0.out] at y0
  go_wp2_with fail
  rw [← HR0.out] at y0 ⊢
  refine (KC.out _ _ HB0).mono ?_
  rintro e1 w1 ⟨A1, c1, rfl, hrow1, hb1⟩
  clear y0
  have hin : ∀ x ∈ chainT L d0, ∃ k : Nat, x = k ∧ k < L.length := fun x hx => by
    have := (chainT_met L d0).2 x hx
    exact ⟨x.toNat, by omega, by omega⟩
  have hr2 : facesF L [] (chainT L d0) = r := HR.out.symm
  have hmet := (chainT_met L d0).len
  have hcl0 := HC.out
  obtain ⟨C, hC⟩ : ∃ C, C = chainT L d0 := ⟨_, rfl⟩
  rw [← hC] at hr2 hin hmet hrow1
  have HR1 := Lib.hid hr2
  have HIN := Lib.hid hin
  rw [← hC]
  have HT : Hid (∀ W, Hid (Below w1.heap.size w1 W) → Below R0.heap.size R0 W) := fun W h => hb1.out.trans (h.out.mono hb1.out.size)
  have KK : Hid (∀ W d, Hid (Below w1.heap.size w1 W) → Calls Try.prog 49 #[.agg #[.slice A L.length c], .int .i64 d] W fun e w' => e = .returned (.int .i64 (kindT L d)) ∧ Hid (Below w1.heap.size w1 w') ∧ Hid (Below W.heap.size W w')) := fun W d => KK0.out w1 W d hb1.out
  have KF : Hid (∀ W s, Hid (Below w1.heap.size w1 W) → Calls Try.prog 21 #[.agg #[.slice A L.length c], .string s] W fun e w' => e = .returned (.int .i64 (findT L s)) ∧ Hid (Below w1.heap.size w1 w') ∧ Hid (Below W.heap.size W w')) := fun W s => KF0.out w1 W s hb1.out
  have HBW : Hid (Below w1.heap.size w1 w1) := Below.refl _ _
  clear hr2 hin hC KC KK0 KF0 HB0
  go_wp2_with fail
  go_loopw [5, 7] (fun ov iv wr => ∃ (i : Nat) (out : List Int) (A2 : Option Addr) (c2 : Nat), i ≤ C.length ∧ ov = .slice A2 out.length c2 ∧ iv = .int .i64 i ∧ Hid (Met L out) ∧ Hid (facesF L out (C.drop i) = r) ∧ Hid (IRow w1.heap.size wr A2 c2 out) ∧ Hid (Below w1.heap.size w1 wr)) (fun _ i _ => C.length - (intOf i).toNat)
  case atStart => exact ⟨0, [], none, 0, Nat.zero_le _, rfl, rfl, Met.nil L, HR1, IRow.nil _ _, HBW⟩
  case round =>
    obtain ⟨i, out, A2, c2, hi, rfl, rfl, hm, hdr, hrow2, hb2⟩ := hrel
    have h2 : (0 : Int) ≤ (i : Int) := by omega
    by_cases hlt : i < C.length
    · have h1 : (i : Int) < (C.length : Int) := by omega
      have hdrop := hdr.out
      rw [facesF_drop hlt] at hdrop
      obtain ⟨kk, hkk, hkl⟩ := HIN.out _ (List.getElem_mem hlt)
      obtain ⟨q, o, E1, e1, E2, e2, E3, e3, E4, e4, hA, hg, hY⟩ := HU.out.decl hkl
      obtain ⟨gl, hAl⟩ := hrow1.out.isBlock (by omega)
      subst hA hAl
      have hz : ∀ W, Hid (Below w1.heap.size w1 W) → W.cell? ⟨gl, i, none⟩ = some (.int .i64 (kk : Int)) := fun W h => by
        have h9 := (hrow1.out.below h.out).at_ hlt
        rw [Nat.zero_add, hkk] at h9
        exact h9
      have z := hz _ hb2
      obtain ⟨hfr, -, -, -, x3, -⟩ := hY _ (HT.out _ hb2)
      have y0 := HU.out.cell _ (HT.out _ hb2)
      have q1 : (kk : Int) < (L.length : Int) := by omega
      have q2 : (0 : Int) ≤ (kk : Int) := by omega
      obtain ⟨F, hF⟩ : ∃ F, F = L[kk].faces := ⟨_, rfl⟩
      have hfo : facesOf L C[i] = F := by rw [hkk]; unfold facesOf; rw [Int.toNat_natCast, List.getElem?_eq_getElem hkl, hF]; rfl
      have hfl : F.length ≤ 1000000000 := hF ▸ HFS.out _ (List.getElem_mem _)
      rw [hfo] at hdrop
      have hXS : ∀ W, Hid (Below w1.heap.size w1 W) → XsR W w.heap.size E1 F := fun W h => hF ▸ (hY W (HT.out _ h)).1.1
      rw [← hF] at x3
      have HXS := Lib.hid hXS
      have HDR := Lib.hid hdrop
      clear hdrop hz hY hfr hF hfo hXS hkk
      go_wp2_with fail
      go_region
      go_wp2_with fail
      have HBI : Hid (Below w1.heap.size w1 wr.drew) := Below.drew hb2
      have HRI : Hid (IRow w1.heap.size wr.drew A2 c2 out) := hrow2
      generalize hWI : wr.drew = wi at HBI HRI ⊢
      clear hWI hb2 hrow2 z x3 y0
      go_loopw [5, 9] (fun ov jv w4 => ∃ (j : Nat) (out4 : List Int) (A4 : Option Addr) (c4 : Nat), j ≤ F.length ∧ ov = .slice A4 out4.length c4 ∧ jv = .int .i64 j ∧ Hid (Met L out4) ∧ Hid (facesF L ((F.drop j).foldl (faceStep L) out4) (C.drop (i + 1)) = r) ∧ Hid (IRow w1.heap.size w4 A4 c4 out4) ∧ Hid (Below w1.heap.size w1 w4)) (fun _ j _ => F.length - (intOf j).toNat)
      case atStart => exact ⟨0, out, A2, c2, Nat.zero_le _, rfl, rfl, hm, HDR, HRI, HBI⟩
      case round =>
        obtain ⟨j, out4, A4, c4, hj, rfl, rfl, hm4, hdr4, hrow4, hb4⟩ := hrel
        obtain ⟨W4, hW4⟩ : ∃ W4 : World, W4 = wr := ⟨_, rfl⟩
        subst hW4
        have h3 : (0 : Int) ≤ (j : Int) := by omega
        by_cases hjl : j < F.length
        · have h4 : (j : Int) < (F.length : Int) := by omega
          have hdrop := hdr4.out
          rw [fold_drop hjl] at hdrop
          obtain ⟨gf, off, csf, hE, hgf, -, hcf, hef⟩ := HXS.out _ hb4 j hjl
          subst hE
          obtain ⟨s, hs⟩ : ∃ s, s = F[j] := ⟨_, rfl⟩
          rw [← hs] at hef hdrop
          have hef' : csf = [.string s] := hef
          subst hef'
          have x := hcf 0 _ rfl
          simp only [Nat.mul_one, Nat.add_zero] at x
          have y0 := HU.out.cell _ (HT.out _ hb4)
          have KF2 : Hid (∀ W, Hid (Below w1.heap.size w1 W) → Hid (IRow w1.heap.size W A4 c4 out4) → Calls Try.prog 21 #[.agg #[.slice (some ⟨q, o, none⟩) L.length c], .string s] W fun e w' => e = .returned (.int .i64 (findT L s)) ∧ Hid (Below w1.heap.size w1 w') ∧ Hid (IRow w1.heap.size w' A4 c4 out4) ∧ w'.cell? ⟨w.heap.size, 0, none⟩ = some (.slice (some ⟨q, o, none⟩) L.length c) ∧ w'.cell? ⟨gf, off + j, none⟩ = some (.string s)) := fun W k1 k2 => (KF.out W s k1).mono fun e w' hh => by
            refine ⟨hh.1, hh.2.1, k2.out.below hh.2.2.out, HU.out.cell _ (HT.out _ hh.2.1), ?_⟩
            exact ((HU.out.out (HT.out _ hh.2.1)).cell (p := ⟨gf, off + j, none⟩) hgf).trans (((HU.out.out (HT.out _ hb4)).cell (p := ⟨gf, off + j, none⟩) hgf).symm.trans x)
          have HFS1 : Hid (faceStep L out4 s = if isOfT L (findT L s) 1 && !out4.contains (findT L s) then out4 ++ [findT L s] else out4) := rfl
          obtain ⟨n, hn⟩ : ∃ n, n = findT L s := ⟨_, rfl⟩
          have hni : I64 n := by have := findT_le L s; have := HC.out; unfold I64; omega
          rw [← hn] at KF2 HFS1
          have HDR4 := Lib.hid hdrop
          have HNI := Lib.hid hni
          clear hcf hef hs hdrop hn hni
          go_wp2_with fail
          go_region_held3 (fun w' => w'.cell? ⟨w.heap.size, 0, none⟩ = some (.slice (some ⟨q, o, none⟩) L.length c) ∧ w'.cell? ⟨gf, off + j, none⟩ = some (.string s) ∧ Hid (Below w1.heap.size w1 w') ∧ Hid (IRow w1.heap.size w' A4 c4 out4))
            (first | exact ⟨y0, x, hb4, hrow4⟩ | exact ⟨y0, x, Below.drew hb4, hrow4⟩ | exact ⟨z0, z1, HB6, HL6⟩)
            (first | (go_at_call 21; refine (KF2.out _ (by first | exact Below.drew hb4 | exact hb4) (by exact hrow4)).mono ?_; rintro e6 w6 ⟨rfl, HB6, HL6, z0, z1⟩))
          all_goals
            clear y0 x z1
            have KH : Hid (∀ W, Hid (IRow w1.heap.size W A4 c4 out4) → Calls Try.prog 55 #[.slice A4 out4.length c4, .int .i64 n] W fun e w' => e = .returned (.bool (out4.contains n)) ∧ w' = W) := fun W hr => refHas_any out4 A4 c4 n W hr.out.nsr (by have := hm4.out.len; have := HC.out; omega)
            obtain ⟨b, hb0⟩ : ∃ b, b = out4.contains n := ⟨_, rfl⟩
            rw [← hb0] at KH HFS1
            have HB0 := Lib.hid hb0
            clear hb0
            by_cases hk : kindT L n = 1
            · have hk2 : isOfT L n 1 = true := by rw [kindT_isOf _ _ _ (by decide), hk]; rfl
              rw [hk2] at HFS1
              have HK2 := Lib.hid hk2
              clear hk2
              go_wp2_with fail
              refine (KK.out _ _ HB6).mono ?_
              rintro e7 w7 ⟨rfl, HB7, hl7⟩
              have HL7 : Hid (IRow w1.heap.size w7 A4 c4 out4) := HL6.out.below hl7.out
              clear HB6 HL6 z0 hl7
              go_wp2_with fail
              refine (KH.out _ HL7).mono ?_
              rintro e8 w8 ⟨rfl, rfl⟩
              cases b
              · have hfs : faceStep L out4 s = out4 ++ [n] := HFS1.out
                have hdr5 := HDR4.out
                rw [hfs] at hdr5
                have HD5 := Lib.hid hdr5
                have hm5 : Hid (Met L (out4 ++ [n])) := hm4.out.snoc HK2.out HB0.out.symm
                have hs8 := HB7.out.size
                have hol := hm4.out.len
                have hcl := HC.out
                clear hfs hdr5
                go_wp2_with (at_builtin; refine wpList_append_own _ rfl _ _ 32 rfl w1.heap.size 3 i0 (.int .i64 0) 1 8 Try.underlying32 hi0 hz0 hz1 hz2 rfl (by decide) _ _ _ rfl (HL7.out.1.alloc _) ⟨w8.heap.size, 0, none⟩ 1 1 [.int .i64 n] rfl rfl (cell_one_new _ _ _) (by simp [Value.oneCell']) (by unfold maxLen; omega) (by omega) (by simp; omega) ?_)
                intro v2 w9 hown3 hgrow3 _
                obtain ⟨A5, c5, rfl, hrow5, hb5'⟩ := HL7.out.snoc HNI.out hs8 hown3 hgrow3
                have HR5 := Lib.hid hrow5
                have HB5 : Hid (Below w1.heap.size w1 w9) := HB7.out.trans hb5'
                obtain ⟨out5, ho5⟩ : ∃ o, o = out4 ++ [n] := ⟨_, rfl⟩
                rw [← ho5] at HR5 HD5 hm5 ⊢
                clear hown3 hgrow3 hrow5 hb5' ho5
                go_wp2_with fail
                go_roundw
                case rel => exact ⟨j + 1, out5, A5, c5, by omega, rfl, by go_num, hm5, HD5, HR5, HB5⟩
                case measure => simp [intOf]; omega
              · have hfs : faceStep L out4 s = out4 := HFS1.out
                have hdr5 := HDR4.out
                rw [hfs] at hdr5
                have HD5 := Lib.hid hdr5
                clear hfs hdr5
                go_wp2_with fail
                go_roundw
                case rel => exact ⟨j + 1, out4, A4, c4, by omega, rfl, by go_num, hm4, HD5, HL7, HB7⟩
                case measure => simp [intOf]; omega
            · have hk2 : isOfT L n 1 = false := by rw [kindT_isOf _ _ _ (by decide)]; simp [hk]
              rw [hk2] at HFS1
              have hfs : faceStep L out4 s = out4 := HFS1.out
              have hdr5 := HDR4.out
              rw [hfs] at hdr5
              have HD5 := Lib.hid hdr5
              clear hfs hdr5 hk2
              go_wp2_with fail
              refine (KK.out _ _ HB6).mono ?_
              rintro e7 w7 ⟨rfl, HB7, hl7⟩
              have HL7 : Hid (IRow w1.heap.size w7 A4 c4 out4) := HL6.out.below hl7.out
              clear HB6 HL6 z0 hl7
              go_wp2_with fail
              go_roundw
              case rel => exact ⟨j + 1, out4, A4, c4, by omega, rfl, by go_num, hm4, HD5, HL7, HB7⟩
              case measure => simp [intOf]; omega
        · have h4 : ¬ (j : Int) < (F.length : Int) := by omega
          have hdr5 := hdr4.out
          rw [List.drop_of_length_le (i := j) (l := F) (by omega)] at hdr5
          have HD5 := Lib.hid hdr5
          clear hdr5
          go_wp2_with fail
          go_roundw
          case rel => exact ⟨i + 1, out4, A4, c4, by omega, rfl, by go_num, hm4, HD5, hrow4, hb4⟩
          case measure => simp [intOf]; omega
    · have h1 : ¬ (i : Int) < (C.length : Int) := by omega
      have hres := hdr.out
      rw [List.drop_of_length_le (by omega)] at hres
      have HRES := Lib.hid hres
      clear hres
      go_wp2_with fail
      go_ret
      have e : out = r := HRES.out
      exact ⟨A2, c2, by rw [← e]; rfl, e ▸ ⟨ownsRow_lower (Nat.le_trans HU.out.below.size hb1.out.size) hrow2.out.1, hrow2.out.2⟩, HU.out.out (HT.out _ hb2)⟩
end Go.Proofs.Ytmbddofcildibaa

/-
  governorref6.Is BY A CONTRACT.
-/
namespace Go.Proofs.Ytmbddofcildibaa
open Go Go.RowKit
set_option linter.unusedVariables false
set_option linter.unusedSimpArgs false

/-- a class, an interface, neither. -/
theorem kinds3 (k : Int) : ((k != 2) = false ∧ (k != 1) = true ∧ decide (k = 2) = true ∧ decide (k = 1) = false) ∨ ((k != 2) = true ∧ (k != 1) = false ∧ decide (k = 2) = false ∧ decide (k = 1) = true) ∨ ((k != 2) = true ∧ (k != 1) = true ∧ decide (k = 2) = false ∧ decide (k = 1) = false) := by
  by_cases h2 : k = 2
  · subst h2; left; decide
  · by_cases h1 : k = 1
    · subst h1; right; left; decide
    · right; right; simp [h1, h2]
set_option maxHeartbeats 4000000 in
set_option maxRecDepth 100000 in
theorem refIs_any (L : List DT) (A : Option Addr) (c : Nat) (name what : ByteArray) (w : World) (ha : DsR w w.heap.size A L) (hcnt : L.length ≤ 1000000000) (hfs : ∀ d ∈ L, d.faces.length ≤ 1000000000) :
    Calls Try.prog 26 #[.agg #[.slice A L.length c], .string name, .string what] w fun e w' => e = .returned (.bool (isT L name what)) ∧ Below w.heap.size w w' := by
  obtain ⟨R0, hR0⟩ : ∃ R0 : World, R0 = w.alloc (.cells #[.slice A L.length c] 24) := ⟨_, rfl⟩
  have hu : UAt w R0 A c L := hR0 ▸ UAt.of ha
  have HU := Lib.hid hu
  have HR0 := Lib.hid hR0
  have HU0 : Hid (∀ W, Hid (Below R0.heap.size R0 W) → W.cell? ⟨w.heap.size, 0, none⟩ = some (.slice A L.length c)) := fun W h => hu.cell W h.out
  have KK : Hid (∀ W d, Hid (Below R0.heap.size R0 W) → Calls Try.prog 49 #[.agg #[.slice A L.length c], .int .i64 d] W fun e w' => e = .returned (.int .i64 (kindT L d)) ∧ Hid (Below R0.heap.size R0 w')) := fun W d hb => (refKind_any L A c d W (hu.rowAt hb)).mono fun e w' hh => ⟨hh.1, hb.out.trans (hh.2.mono hb.out.size)⟩
  have KF : Hid (∀ W s, Hid (Below R0.heap.size R0 W) → Calls Try.prog 21 #[.agg #[.slice A L.length c], .string s] W fun e w' => e = .returned (.int .i64 (findT L s)) ∧ Hid (Below R0.heap.size R0 w')) := fun W s hb => (refFind_any L A c s W (hu.rowAt hb) hcnt).mono fun e w' hh => ⟨hh.1, hb.out.trans (hh.2.mono hb.out.size)⟩
  have KC : Hid (∀ W d, Hid (Below R0.heap.size R0 W) → Calls Try.prog 23 #[.agg #[.slice A L.length c], .int .i64 d] W fun e w' => ∃ A' c', e = .returned (.slice A' (chainT L d).length c') ∧ Hid (IRow R0.heap.size w' A' c' (chainT L d)) ∧ Hid (Below R0.heap.size R0 w')) := fun W d hb => (refChain_any L A c d W (hu.rowAt hb) hcnt).mono fun e w' hh => by
    obtain ⟨A', c', h1, h2, h3⟩ := hh
    exact ⟨A', c', h1, ⟨ownsRow_lower hb.out.size h2.1, h2.2⟩, hb.out.trans (h3.mono hb.out.size)⟩
  have KFA : Hid (∀ W d, Hid (Below R0.heap.size R0 W) → Calls Try.prog 24 #[.agg #[.slice A L.length c], .int .i64 d] W fun e w' => ∃ A' c', e = .returned (.slice A' (facesT L d).length c') ∧ Hid (IRow R0.heap.size w' A' c' (facesT L d)) ∧ Hid (Below R0.heap.size R0 w')) := fun W d hb => (refFaces_any L A c d W (hu.rowAt hb) hcnt hfs).mono fun e w' hh => by
    obtain ⟨A', c', h1, h2, h3⟩ := hh
    exact ⟨A', c', h1, ⟨ownsRow_lower hb.out.size h2.1, h2.2⟩, hb.out.trans (h3.mono hb.out.size)⟩
  have KH : Hid (∀ W l A' c' n, l.length ≤ 1000000000 → Hid (IRow R0.heap.size W A' c' l) → Calls Try.prog 55 #[.slice A' l.length c', .int .i64 n] W fun e w' => e = .returned (.bool (l.contains n)) ∧ w' = W) := fun W l A' c' n hl hr => refHas_any l A' c' n W hr.out.nsr hl
  have HBW : Hid (∀ W, Hid (Below R0.heap.size R0 W) → Below w.heap.size w W) := fun W h => hu.out h.out
  obtain ⟨d, hd⟩ : ∃ d, d = findT L name := ⟨_, rfl⟩
  obtain ⟨m, hm⟩ : ∃ m, m = findT L what := ⟨_, rfl⟩
  have hcl : (chainT L d).length ≤ 1000000000 := Nat.le_trans (chainT_met L d).len hcnt
  have hfl : (facesT L d).length ≤ 1000000000 := Nat.le_trans (facesT_met L d).len hcnt
  obtain ⟨r, hr⟩ : ∃ r, r = isT L name what := ⟨_, rfl⟩
  rw [← hr]
  have hr1 : r = ((isOfT L d 2 || isOfT L d 1) && (decide (name = what) || (chainT L d).contains m || (facesT L d).contains m)) := by rw [hr, isT, ← hd, ← hm]
  have k2 : isOfT L d 2 = decide (kindT L d = 2) := kindT_isOf _ _ _ (by decide)
  have k1 : isOfT L d 1 = decide (kindT L d = 1) := kindT_isOf _ _ _ (by decide)
  rw [k1, k2] at hr1
  obtain ⟨k, hk⟩ : ∃ k, k = kindT L d := ⟨_, rfl⟩
  have KF1 : Hid (∀ W, Hid (Below R0.heap.size R0 W) → Calls Try.prog 21 #[.agg #[.slice A L.length c], .string name] W fun e w' => e = .returned (.int .i64 d) ∧ Hid (Below R0.heap.size R0 w')) := fun W h => hd ▸ KF.out W name h
  have KF2 : Hid (∀ W, Hid (Below R0.heap.size R0 W) → Calls Try.prog 21 #[.agg #[.slice A L.length c], .string what] W fun e w' => e = .returned (.int .i64 m) ∧ Hid (Below R0.heap.size R0 w')) := fun W h => hm ▸ KF.out W what h
  have KK1 : Hid (∀ W, Hid (Below R0.heap.size R0 W) → Calls Try.prog 49 #[.agg #[.slice A L.length c], .int .i64 d] W fun e w' => e = .returned (.int .i64 k) ∧ Hid (Below R0.heap.size R0 w')) := fun W h => hk ▸ KK.out W d h
  rw [← hk] at hr1
  have KC1 := Lib.hid (fun W => KC.out W d)
  have KFA1 := Lib.hid (fun W => KFA.out W d)
  obtain ⟨CH, hCH⟩ : ∃ x, x = chainT L d := ⟨_, rfl⟩
  obtain ⟨FA, hFA⟩ : ∃ x, x = facesT L d := ⟨_, rfl⟩
  rw [← hCH] at KC1 hcl hr1
  rw [← hFA] at KFA1 hfl hr1
  have KH1 : Hid (∀ W A' c', Hid (IRow R0.heap.size W A' c' CH) → Calls Try.prog 55 #[.slice A' CH.length c', .int .i64 m] W fun e w' => e = .returned (.bool (CH.contains m)) ∧ w' = W) := fun W A' c' h => KH.out W CH A' c' m hcl h
  have KH2 : Hid (∀ W A' c', Hid (IRow R0.heap.size W A' c' FA) → Calls Try.prog 55 #[.slice A' FA.length c', .int .i64 m] W fun e w' => e = .returned (.bool (FA.contains m)) ∧ w' = W) := fun W A' c' h => KH.out W FA A' c' m hfl h
  obtain ⟨b1, hb1⟩ : ∃ b, b = CH.contains m := ⟨_, rfl⟩
  obtain ⟨b2, hb2⟩ : ∃ b, b = FA.contains m := ⟨_, rfl⟩
  rw [← hb1] at KH1 hr1
  rw [← hb2] at KH2 hr1
  have HRr := Lib.hid hr1
  clear KF KC KFA KK KH hu hr hr1 k1 k2 hk hb1 hb2 hCH hFA hcl hfl hd hm hcnt hfs ha hR0
  have HB0 : Hid (Below R0.heap.size R0 R0) := Below.refl _ _
  have y0 := HU0.out _ HB0
  go_enter Try.func26, Try.ntmps26
  rw [HR0.out] at y0
  go_wp2_with fail
  rw [← HR0.out] at y0 ⊢
  refine (KF1.out _ HB0).mono ?_
  rintro e1 w1 ⟨rfl, h1⟩
  clear y0
  have y0 := HU0.out _ h1
  go_wp2_with fail
  refine (KK1.out _ h1).mono ?_
  rintro e2 w2 ⟨rfl, h2⟩
  clear y0 h1
  have y0 := HU0.out _ h2
  rcases kinds3 k with ⟨p2, p1, e2, e1⟩ | ⟨p2, p1, e2, e1⟩ | ⟨p2, p1, e2, e1⟩
  rotate_left 2
  · skip
    have HF : Hid (r = false) := by unfold Hid; rw [HRr.out]; simp [e1, e2]
    clear e1 e2
    go_wp2_with fail
    go_ret
    exact ⟨by rw [HF.out]; rfl, HBW.out _ h2⟩
  all_goals
    have HRR : Hid (r = (decide (name = what) || b1 || b2)) := by unfold Hid; rw [HRr.out]; simp only [e1, e2, Bool.true_or, Bool.or_true, Bool.true_and]
    clear e1 e2
    go_wp2_with fail
    refine (KF2.out _ h2).mono ?_
    rintro e3 w3 ⟨rfl, h3⟩
    clear y0 h2
    have y0 := HU0.out _ h3
    by_cases q : name = what
    · have qq := str_eq q
      have HF : Hid (r = true) := by unfold Hid; rw [HRR.out]; simp [q]
      clear q
      go_wp2_with fail
      go_ret
      exact ⟨by rw [HF.out]; rfl, HBW.out _ h3⟩
    · have qq := str_ne q
      have HF1 : Hid (r = (b1 || b2)) := by unfold Hid; rw [HRR.out]; simp [q]
      clear q
      go_wp2_with fail
      refine (KC1.out _ h3).mono ?_
      rintro e4 w4 ⟨A4, c4, rfl, r4, h4⟩
      clear y0 h3
      have y0 := HU0.out _ h4
      go_wp2_with fail
      refine (KH1.out _ _ _ r4).mono ?_
      rintro e5 w5 ⟨rfl, rfl⟩
      cases b1
      · have HF2 : Hid (r = b2) := by unfold Hid; rw [HF1.out]; simp
        go_wp2_with fail
        refine (KFA1.out _ h4).mono ?_
        rintro e6 w6 ⟨A6, c6, rfl, r6, h6⟩
        clear y0 h4
        go_wp2_with fail
        refine (KH2.out _ _ _ r6).mono ?_
        rintro e7 w7 ⟨rfl, rfl⟩
        go_wp2_with fail
        go_ret
        exact ⟨by rw [HF2.out]; rfl, HBW.out _ h6⟩
      · have HF2 : Hid (r = true) := by unfold Hid; rw [HF1.out]; simp
        go_wp2_with fail
        go_ret
        exact ⟨by rw [HF2.out]; rfl, HBW.out _ h4⟩
end Go.Proofs.Ytmbddofcildibaa

/-
  Rows of variables that a call makes; governorref6.Fields BY A CONTRACT.
-/
namespace Go.Proofs.Ytmbddofcildibaa
open Go Go.RowKit
set_option linter.unusedVariables false
set_option linter.unusedSimpArgs false

theorem Try.infoVar : (Try.prog.info? 54).map (fun i => (i.zero.map (·.cells.size), i.size, i.bytes)) = some (some 8, 8, 80) := by kernel_rfl
theorem vin_one {v : VT} {cs : List Value} (h : VIn v cs) : ∀ u ∈ cs, u.oneCell' = true := by
  obtain ⟨rfl, _⟩ := h
  unfold VT.cells
  simp [Value.oneCell']
/-- v is a row of the call's own (from block B on) that holds these variables. -/
def VRow (B : Nat) (w : World) (A : Option Addr) (c : Nat) (l : List VT) : Prop := ∃ xs, w.ownsRow B 54 8 (.slice A l.length c) l.length xs ∧ ∀ (k : Nat) (hk : k < l.length), VIn l[k] ((xs.drop (k * 8)).take 8)
theorem VRow.vsr {B : Nat} {w : World} {A : Option Addr} {c : Nat} {l : List VT} (h : VRow B w A c l) : VsR w w.heap.size A l := by
  obtain ⟨xs, h1, h2⟩ := h
  obtain ⟨A', c', e, h3⟩ := row_owned (R := VIn) rfl h1 h2
  simp only [Value.slice.injEq, true_and] at e
  obtain ⟨rfl, rfl⟩ := e
  exact h3
theorem ownsRow_far {w w' : World} {B sz n : Nat} {e : TypeId} {v : Value} {xs : List Value} (h : w.ownsRow B e sz v n xs) (hb : Below w.heap.size w w') : w'.ownsRow B e sz v n xs := by
  refine ⟨h.1, ?_⟩
  rcases h.2 with h0 | ⟨g, cap, cur, hv, hbg, hg, rest⟩
  · exact .inl h0
  · refine .inr ⟨g, cap, cur, hv, hbg, ?_, rest⟩
    have : g < w.heap.size := by
      rcases Nat.lt_or_ge g w.heap.size with h2 | h2
      · exact h2
      · rw [Array.getElem?_eq_none h2] at hg; cases hg
    rw [hb.block g this]
    exact hg
theorem VRow.below {B : Nat} {w w' : World} {A : Option Addr} {c : Nat} {l : List VT} (h : VRow B w A c l) (hb : Below w.heap.size w w') : VRow B w' A c l := by
  obtain ⟨xs, h1, h2⟩ := h
  exact ⟨xs, ownsRow_far h1 hb, h2⟩
theorem VRow.nil (B : Nat) (w : World) : VRow B w none 0 [] := ⟨[], World.ownsRow_nil _ _ _ _, fun k hk => by simp at hk⟩
theorem VRow.lower {B B' : Nat} {w : World} {A : Option Addr} {c : Nat} {l : List VT} (h : VRow B w A c l) (hb : B' ≤ B) : VRow B' w A c l := by
  obtain ⟨xs, h1, h2⟩ := h
  exact ⟨xs, ownsRow_lower hb h1, h2⟩
/-- a call answers a new row of these variables; nothing that was there is changed. -/
def VSays (w : World) (l : List VT) (e : Ending) (w' : World) : Prop := ∃ A c, e = .returned (.slice A l.length c) ∧ VRow w.heap.size w' A c l ∧ Below w.heap.size w w'
theorem use2 {α β : Type} {R : α → β → Prop} {S P : α → β → Prop} (h : ∃ a b, R a b ∧ S a b) (k : ∀ a b, S a b → P a b) : ∃ a b, R a b ∧ P a b := by
  obtain ⟨a, b, h1, h2⟩ := h
  exact ⟨a, b, h1, k a b h2⟩
theorem sum_at_le {α : Type} (f : α → Nat) : ∀ (l : List α) (k : Nat) (hk : k < l.length), f l[k] ≤ (l.map f).sum
  | x :: r, 0, _ => by simp only [List.getElem_cons_zero, List.map_cons, List.sum_cons]; omega
  | x :: r, k + 1, hk => by
    have := sum_at_le f r k (by simpa using hk)
    simp only [List.getElem_cons_succ, List.map_cons, List.sum_cons]
    omega
theorem flat_le {α β : Type} (f : α → List β) (M : Nat) : ∀ l : List α, (∀ x ∈ l, (f x).length ≤ M) → (l.flatMap f).length ≤ l.length * M
  | [], _ => by simp
  | x :: r, h => by
    have h1 := h x (by simp)
    have h2 := flat_le f M r (fun y hy => h y (by simp [hy]))
    simp only [List.flatMap_cons, List.length_append, List.length_cons, Nat.add_mul]
    omega
theorem append_capless (t ty : TypeId) (v : Value) (c : Nat) : Builtin.append_ #[t, t] ty #[v, .slice none 0 c] = Builtin.append_ #[t, t] ty #[v, .slice none 0 0] := rfl
/-- append of a row of variables, wherever it lies, onto one of the call's own. -/
theorem app_vars {B B' : Nat} {W : World} {A A1 : Option Addr} {c c1 : Nat} {l m : List VT} (h : VRow B W A c l) (hm : VsR W B' A1 m) (hlen : l.length + m.length ≤ 1700000000000) (hB : B ≤ W.heap.size) :
    ∃ A' c' w', (Builtin.append_ #[34, 34] 34 #[.slice A l.length c, .slice A1 m.length c1]).run Try.prog W = .ok (.slice A' (l ++ m).length c') w' ∧ VRow B w' A' c' (l ++ m) ∧ Below B W w' ∧ W.grownBy w' (Value.slice A l.length c).ownBlock ∧
      ((Value.slice A' (l ++ m).length c').ownBlock = (Value.slice A l.length c).ownBlock ∨ (Value.slice A' (l ++ m).length c').ownBlock = some W.heap.size) := by
  have hi0 : (Try.prog.info? 54).map (fun i => (i.zero.map (·.cells.size), i.size, i.bytes)) = some (some 8, 8, 80) := Try.infoVar
  obtain ⟨i0, hi, hz0, hz1, hz2⟩ : ∃ i0, Try.prog.info? 54 = some i0 ∧ i0.zero.map (·.cells.size) = some 8 ∧ i0.size = 8 ∧ i0.bytes = 80 := by
    cases hq : Try.prog.info? 54 with
    | none => rw [hq] at hi0; simp at hi0
    | some i0 => rw [hq] at hi0; simp at hi0; exact ⟨i0, rfl, by simpa using hi0.1, hi0.2.1, hi0.2.2⟩
  obtain ⟨z, hz, hzs⟩ := Option.map_eq_some_iff.1 hz0
  obtain ⟨xs, hown, hx⟩ := h
  obtain ⟨ys, y1, y2, y3, y4⟩ := row_cells (by decide) (fun a cs h => vin_one h) hm
  have hA : (A1 = none ∧ m.length = 0) ∨ ∃ g o, A1 = some ⟨g, o, none⟩ ∨ (m.length = 0 ∧ A1 = some ⟨g, o, none⟩) ∨ (m.length = 0 ∧ ∃ a, A1 = some a) := by
    cases A1 with
    | none =>
      left
      refine ⟨rfl, ?_⟩
      rcases Nat.eq_zero_or_pos m.length with h0 | h0
      · exact h0
      · obtain ⟨g, o, cs, e, _⟩ := hm 0 h0
        cases e
    | some a =>
      right
      rcases Nat.eq_zero_or_pos m.length with h0 | h0
      · exact ⟨0, 0, .inr (.inr ⟨h0, a, rfl⟩)⟩
      · obtain ⟨g, o, cs, e, _⟩ := hm 0 h0
        exact ⟨g, o, .inl e⟩
  have run : ∃ v' w', (Builtin.append_ #[34, 34] 34 #[.slice A l.length c, .slice A1 m.length c1]).run Try.prog W = .ok v' w' ∧ w'.ownsRow B 54 8 v' (l.length + m.length) (xs ++ ys) ∧ W.grownBy w' (Value.slice A l.length c).ownBlock ∧ (v'.ownBlock = (Value.slice A l.length c).ownBlock ∨ v'.ownBlock = some W.heap.size) := by
    have go : ∀ c1 : Nat, ((A1 = none ∧ m.length = 0 ∧ c1 = 0) ∨ (m.length = 0 ∧ ∃ a, A1 = some a) ∨ ∃ g o, A1 = some ⟨g, o, none⟩) → ∃ v' w', (Builtin.append_ #[34, 34] 34 #[.slice A l.length c, .slice A1 m.length c1]).run Try.prog W = .ok v' w' ∧ w'.ownsRow B 54 8 v' (l.length + m.length) (xs ++ ys) ∧ W.grownBy w' (Value.slice A l.length c).ownBlock ∧ (v'.ownBlock = (Value.slice A l.length c).ownBlock ∨ v'.ownBlock = some W.heap.size) := fun c1 hA => app_run (P := Try.prog) (w := W) (base := B) (t := 34) (ty := 34) (bytes := 80) Try.underlying34 hi hz hz1 hz2 hzs (by decide) hown (A := A1) (m := m.length) (c := c1) (news := ys) y1 (fun g o e j u hj => y2 g o e j u hj) hA y3 (by unfold maxLen; omega) (by omega) hB
    rcases hA with ⟨h1, h2⟩ | ⟨g, o, h1 | ⟨h2, h1⟩ | ⟨h2, h1⟩⟩
    · have := go 0 (.inl ⟨h1, h2, rfl⟩)
      rw [h1, h2, append_capless]
      rw [h1, h2] at this
      exact this
    · exact go c1 (.inr (.inr ⟨g, o, h1⟩))
    · exact go c1 (.inr (.inr ⟨g, o, h1⟩))
    · exact go c1 (.inr (.inl ⟨h2, h1⟩))
  obtain ⟨v', w', k1, k2, k3, k4⟩ := run
  have hlm : (l ++ m).length = l.length + m.length := List.length_append
  have hshape : ∃ A' c', v' = .slice A' (l ++ m).length c' := by
    rcases k2.2 with ⟨h1, h2⟩ | ⟨g, cap, cur, h1, _⟩
    · exact ⟨none, 0, by rw [h1, hlm, h2]⟩
    · exact ⟨_, cap, by rw [h1, hlm]⟩
  obtain ⟨A', c', rfl⟩ := hshape
  refine ⟨A', c', w', k1, ⟨xs ++ ys, by rw [← hlm] at k2; exact k2, fun k hk => ?_⟩, (Below.refl B W).grown k3 hB (fun j hj => (hown.lt j hj).1), k3, k4⟩
  have hxl : xs.length = l.length * 8 := hown.1
  by_cases hkn : k < l.length
  · rw [List.getElem_append_left hkn]
    have e : (((xs ++ ys).drop (k * 8)).take 8) = ((xs.drop (k * 8)).take 8) := by
      have : (k + 1) * 8 ≤ l.length * 8 := Nat.mul_le_mul_right _ (by omega)
      rw [List.drop_append_of_le_length (by omega), List.take_append_of_le_length (by simp only [List.length_drop]; omega)]
    rw [e]
    exact hx k hkn
  · have hk2 : k - l.length < m.length := by simp at hk; omega
    rw [List.getElem_append_right (by omega)]
    have e : (((xs ++ ys).drop (k * 8)).take 8) = ((ys.drop ((k - l.length) * 8)).take 8) := by
      have e1 : k * 8 = xs.length + (k - l.length) * 8 := by
        have e2 : l.length + (k - l.length) = k := by omega
        rw [hxl, ← Nat.add_mul, e2]
      rw [e1, ← List.drop_drop, List.drop_left]
    rw [e]
    exact y4 (k - l.length) hk2
set_option maxRecDepth 100000 in
/-- append, walked in the text's order. -/
theorem wpList_app {P : Program} {w : World} {ops : Array Oper} {rest : List Oper} {o : Oper} {a : Act} {Q : Exit → Act → World → Prop} (hgd : o.guard = none) (s x : Operand) (t : TypeId)
    (ho : o.op = .call { callee := .builtin .append, args := #[s, x], argTypes := #[t, t] }) (v u : Value) (hs : a.eval s = v) (hx : a.eval x = u)
    (h : ∃ v' w', (Builtin.append_ #[t, t] o.type #[v, u]).run P w = .ok v' w' ∧ wpList P ops Q rest (a.put o.dst v') w') : wpList P ops Q (o :: rest) a w := by
  obtain ⟨v', w', hr, hk⟩ := h
  refine wpList_plain hgd fun K hK => ?_
  unfold Oper.wp execOp
  simp only [ho, resolve, invoke, builtin, Sem.run_bind, Sem.run_pure, Result.andThen_ok, List.map_toArray, List.map_cons, List.map_nil, hs, hx, hr]
  exact hK _ _ hk

set_option maxHeartbeats 4000000 in
set_option maxRecDepth 100000 in
theorem refFields_any (L : List DT) (A : Option Addr) (c : Nat) (d0 : Int) (w : World) (ha : DsR w w.heap.size A L) (hcnt : L.length ≤ 1000000000) (hc6 : L.length ≤ 1048576) (hvs : ∀ d ∈ L, d.vars.length ≤ 1048576) :
    Calls Try.prog 28 #[.agg #[.slice A L.length c], .int .i64 d0] w (VSays w (fieldsT L d0)) := by
  obtain ⟨R0, hR0⟩ : ∃ R0 : World, R0 = w.alloc (.cells #[.slice A L.length c] 24) := ⟨_, rfl⟩
  have hu : UAt w R0 A c L := hR0 ▸ UAt.of ha
  have HU := Lib.hid hu
  have HR0 := Lib.hid hR0
  have HVS := Lib.hid hvs
  have HC := Lib.hid hcnt
  have KK : Hid (∀ W d, Hid (Below R0.heap.size R0 W) → Calls Try.prog 49 #[.agg #[.slice A L.length c], .int .i64 d] W fun e w' => e = .returned (.int .i64 (kindT L d)) ∧ Hid (Below R0.heap.size R0 w') ∧ Hid (Below W.heap.size W w')) := fun W d hb => (refKind_any L A c d W (hu.rowAt hb)).mono fun e w' hh => ⟨hh.1, hb.out.trans (hh.2.mono hb.out.size), hh.2⟩
  have KC : Hid (∀ W d, Hid (Below R0.heap.size R0 W) → Calls Try.prog 23 #[.agg #[.slice A L.length c], .int .i64 d] W fun e w' => ∃ A' c', e = .returned (.slice A' (chainT L d).length c') ∧ Hid (IRow R0.heap.size w' A' c' (chainT L d)) ∧ Hid (Below R0.heap.size R0 w')) := fun W d hb => (refChain_any L A c d W (hu.rowAt hb) hcnt).mono fun e w' hh => by
    obtain ⟨A', c', h1, h2, h3⟩ := hh
    exact ⟨A', c', h1, ⟨ownsRow_lower hb.out.size h2.1, h2.2⟩, hb.out.trans (h3.mono hb.out.size)⟩
  obtain ⟨r, hr0⟩ : ∃ r, r = fieldsT L d0 := ⟨_, rfl⟩
  rw [← hr0]
  have HR := Lib.hid hr0
  have HC6 := Lib.hid hc6
  clear hr0 ha hu hR0 hcnt hvs hc6
  unfold VSays
  go_enter Try.func28, Try.ntmps28
  have y0 := HU.out.cell _ (Below.refl _ _)
  have HB0 : Hid (Below R0.heap.size R0 R0) := Below.refl _ _
  rw [HR0.out] at y0
  go_wp2_with fail
  rw [← HR0.out] at y0 ⊢
  refine (KK.out _ _ HB0).mono ?_
  rintro e1 w1 ⟨rfl, hb1, -⟩
  clear y0
  by_cases hk : kindT L d0 = 3
  · have hk2 : isOfT L d0 3 = true := by rw [kindT_isOf _ _ _ (by decide), hk]; rfl
    obtain ⟨kk, hkk, hkl⟩ := isOfT_lt hk2
    have y0 := HU.out.cell _ hb1.out
    obtain ⟨q, o, E1, e1, E2, e2, E3, e3, E4, e4, hA, hg, hY⟩ := HU.out.decl hkl
    subst hA hkk
    obtain ⟨⟨-, hV, -⟩, -, -, -, -, -, -, x6, -⟩ := hY _ hb1.out
    have q1 : (kk : Int) < (L.length : Int) := by omega
    have q2 : (0 : Int) ≤ (kk : Int) := by omega
    have hr3 : r = L[kk].vars := by
      rw [HR.out]
      unfold fieldsT varsOf
      rw [hk2, if_pos rfl, Int.toNat_natCast, List.getElem?_eq_getElem hkl]
      rfl
    have hvl : L[kk].vars.length ≤ 1048576 := HVS.out _ (List.getElem_mem _)
    have AP : Hid (∃ v' w', (Builtin.append_ #[34, 34] 34 #[.slice none 0 0, .slice E2 L[kk].vars.length e2]).run Try.prog w1 = .ok v' w' ∧ ∃ A' c', v' = .slice A' r.length c' ∧ Hid (VRow R0.heap.size w' A' c' r) ∧ Hid (Below R0.heap.size R0 w')) := by
      obtain ⟨A', c', w', k1, k2, k3, _⟩ := app_vars (c1 := e2) (VRow.nil R0.heap.size w1) hV (by simp; omega) hb1.out.size
      rw [List.nil_append] at k1 k2
      exact ⟨_, w', k1, A', c', by rw [hr3], hr3 ▸ k2, hb1.out.trans k3⟩
    obtain ⟨V, hVV⟩ : ∃ V, V = L[kk].vars := ⟨_, rfl⟩
    rw [← hVV] at AP x6
    clear hV hr3 hvl hVV hY
    go_wp2_with (at_builtin; refine wpList_app rfl _ _ _ rfl _ _ rfl rfl (use2 AP.out ?_))
    rintro v2 w2 A2 c2 rfl hrow2 hb2
    go_wp2_with fail
    go_ret
    exact ⟨A2, c2, rfl, hrow2.out.lower HU.out.below.size, HU.out.out hb2.out⟩
  · have hk2 : isOfT L d0 3 = false := by rw [kindT_isOf _ _ _ (by decide)]; simp [hk]
    have hr2 : r = (chainT L d0).reverse.flatMap (varsOf L) := by rw [HR.out]; unfold fieldsT; rw [hk2]; rfl
    have y0 := HU.out.cell _ hb1.out
    go_wp2_with fail
    refine (KC.out _ _ hb1).mono ?_
    rintro e2 w2 ⟨A1, c1, rfl, hrow1, hb2⟩
    have hin : ∀ x ∈ chainT L d0, ∃ k : Nat, x = k ∧ k < L.length := fun x hx => by
      have := (chainT_met L d0).2 x hx
      exact ⟨x.toNat, by omega, by omega⟩
    have hmet := (chainT_met L d0).len
    obtain ⟨C, hC⟩ : ∃ C, C = chainT L d0 := ⟨_, rfl⟩
    rw [← hC] at hr2 hin hmet hrow1
    have HR1 := Lib.hid hr2
    have HIN := Lib.hid hin
    have hc6 := HC6.out
    have hcl : C.length ≤ 1048576 := by omega
    rw [← hC]
    have HT : Hid (∀ W, Hid (Below w2.heap.size w2 W) → Below R0.heap.size R0 W) := fun W h => hb2.out.trans (h.out.mono hb2.out.size)
    have HBW : Hid (Below w2.heap.size w2 w2) := Below.refl _ _
    have hw0 : wrap64 ((C.length : Int) - 1) = (C.length : Int) - 1 := by unfold wrap64; omega
    clear hr2 hin hC KC KK HB0 y0 hb1 hk2
    go_wp2_with fail
    go_loopw [5, 7] (fun ov iv wr => ∃ (k : Nat) (n : Int) (out : List VT) (A2 : Option Addr) (c2 : Nat), k ≤ C.length ∧ ov = .slice A2 out.length c2 ∧ iv = .int .i64 n ∧ Hid (n = (k : Int) - 1) ∧ Hid (out = (C.drop k).reverse.flatMap (varsOf L)) ∧ Hid (VRow w2.heap.size wr A2 c2 out) ∧ Hid (Below w2.heap.size w2 wr)) (fun _ i _ => (intOf i + 1).toNat)
    case atStart => exact ⟨C.length, _, [], none, 0, Nat.le_refl _, rfl, rfl, rfl, by simp [Hid], VRow.nil _ _, HBW⟩
    case round =>
      obtain ⟨k, n, out, A2, c2, hk, rfl, rfl, hn, ho, hrow2, hb3⟩ := hrel
      cases k with
      | zero =>
        obtain rfl : n = -1 := by have := hn.out; omega
        have hres : r = out := by rw [HR1.out, ho.out]; simp
        have HRES := Lib.hid hres
        clear hres
        go_wp2_with fail
        go_ret
        exact ⟨A2, c2, by rw [HRES.out]; rfl, HRES.out ▸ hrow2.out.lower (Nat.le_trans HU.out.below.size hb2.out.size), HU.out.out (HT.out _ hb3)⟩
      | succ m =>
        obtain rfl : n = (m : Int) := by have := hn.out; omega
        have h2 : (0 : Int) ≤ (m : Int) := by omega
        have hlt : m < C.length := by omega
        have h1 : (m : Int) < (C.length : Int) := by omega
        obtain ⟨kk, hkk, hkl⟩ := HIN.out _ (List.getElem_mem hlt)
        obtain ⟨q, o, E1, e1, E2, e2, E3, e3, E4, e4, hA, hg, hY⟩ := HU.out.decl hkl
        obtain ⟨gl, hAl⟩ := hrow1.out.isBlock (by omega)
        subst hA hAl
        have z : wr.cell? ⟨gl, m, none⟩ = some (.int .i64 (kk : Int)) := by
          have h9 := (hrow1.out.below hb3.out).at_ hlt
          rw [Nat.zero_add, hkk] at h9
          exact h9
        obtain ⟨⟨-, hV, -⟩, -, -, -, -, -, -, x6, -⟩ := hY _ (HT.out _ hb3)
        have y0 := HU.out.cell _ (HT.out _ hb3)
        have q1 : (kk : Int) < (L.length : Int) := by omega
        have q2 : (0 : Int) ≤ (kk : Int) := by omega
        have hvo : varsOf L C[m] = L[kk].vars := by rw [hkk]; unfold varsOf; rw [Int.toNat_natCast, List.getElem?_eq_getElem hkl]; rfl
        have hvl : L[kk].vars.length ≤ 1048576 := HVS.out _ (List.getElem_mem _)
        have hol : out.length ≤ (C.length - (m + 1)) * 1048576 := by
          rw [ho.out]
          refine Nat.le_trans (flat_le (varsOf L) 1048576 _ fun x hx => ?_) (by simp)
          obtain ⟨kx, hx1, hx2⟩ := HIN.out x (List.mem_of_mem_drop (List.mem_reverse.1 hx))
          rw [hx1, show varsOf L (kx : Int) = L[kx].vars from by unfold varsOf; rw [Int.toNat_natCast, List.getElem?_eq_getElem hx2]; rfl]
          exact HVS.out _ (List.getElem_mem _)
        have ho2 : out ++ L[kk].vars = (C.drop m).reverse.flatMap (varsOf L) := by
          rw [List.drop_eq_getElem_cons hlt, List.reverse_cons, List.flatMap_append, ← ho.out, List.flatMap_cons, List.flatMap_nil, List.append_nil, hvo]
        have HCE : Hid (∀ W, Hid (Below w2.heap.size w2 W) → W.cell? ⟨w.heap.size, 0, none⟩ = some (.slice (some ⟨q, o, none⟩) L.length c) ∧ W.cell? ⟨gl, m, none⟩ = some (.int .i64 (kk : Int)) ∧ W.cell? ⟨q, o + kk * 11 + 6, none⟩ = some (.slice E2 L[kk].vars.length e2)) := fun W h => ⟨HU.out.cell _ (HT.out _ h), by
          have h9 := (hrow1.out.below h.out).at_ hlt
          rw [Nat.zero_add, hkk] at h9
          exact h9, (hY _ (HT.out _ h)).2.2.2.2.2.2.2.1⟩
        have AP : Hid (∀ W, Hid (Below w2.heap.size w2 W) → Hid (VRow w2.heap.size W A2 c2 out) → ∃ v' w', (Builtin.append_ #[34, 34] 34 #[.slice A2 out.length c2, .slice E2 L[kk].vars.length e2]).run Try.prog W = .ok v' w' ∧ ∃ A' c' out', v' = .slice A' out'.length c' ∧ Hid (out' = (C.drop m).reverse.flatMap (varsOf L)) ∧ Hid (VRow w2.heap.size w' A' c' out') ∧ Hid (Below w2.heap.size w2 w') ∧ w'.cell? ⟨w.heap.size, 0, none⟩ = some (.slice (some ⟨q, o, none⟩) L.length c) ∧ w'.cell? ⟨gl, m, none⟩ = some (.int .i64 (kk : Int)) ∧ w'.cell? ⟨q, o + kk * 11 + 6, none⟩ = some (.slice E2 L[kk].vars.length e2)) := fun W h hr => by
          have hV' := (hY _ (HT.out _ h)).1.2.1
          obtain ⟨A', c', w', k1, k2, k3, _⟩ := app_vars (c1 := e2) hr.out hV' (by omega) h.out.size
          have hb' : Hid (Below w2.heap.size w2 w') := h.out.trans k3
          exact ⟨_, w', k1, A', c', out ++ L[kk].vars, rfl, ho2, k2, hb', HCE.out _ hb'⟩
        obtain ⟨V, hVV⟩ : ∃ V, V = L[kk].vars := ⟨_, rfl⟩
        rw [← hVV] at AP x6 HCE
        clear hV hvl hVV hY hkk hvo hol ho2
        go_wp2_with fail
        go_region_held3 (fun w' => w'.cell? ⟨w.heap.size, 0, none⟩ = some (.slice (some ⟨q, o, none⟩) L.length c) ∧ w'.cell? ⟨gl, m, none⟩ = some (.int .i64 (kk : Int)) ∧ w'.cell? ⟨q, o + kk * 11 + 6, none⟩ = some (.slice E2 V.length e2))
          (first | exact ⟨y0, z, x6⟩ | exact ⟨z0, z1, z2⟩)
          (first | (refine step_app (by rfl) _ _ _ (by rfl) (.slice A2 out.length c2) (.slice E2 V.length e2) (by rfl) (by rfl) (use2 (AP.out _ (by first | exact hb3 | exact Below.drew hb3) (by exact hrow2)) ?_); rintro v4 w4 ⟨A4, c4, out4, rfl, ho4, hr4, hb4, z0, z1, z2⟩))
        all_goals
          clear y0 z x6 z0 z1 z2
          go_wp2_with fail
          go_roundw
          case rel => exact ⟨m, (m : Int) - 1, out4, A4, c4, by omega, rfl, by go_num, rfl, ho4, hr4, hb4⟩
          case measure => simp [intOf]
end Go.Proofs.Ytmbddofcildibaa

/-
  governorref6.Alike BY A CONTRACT.
-/
namespace Go.Proofs.Ytmbddofcildibaa
open Go Go.RowKit
set_option linter.unusedVariables false
set_option linter.unusedSimpArgs false

/-- a method's cells. -/
abbrev mcells (m : MT) (A1 A2 A3 : Option Addr) (c1 c2 c3 : Nat) : Array Value := #[.string m.name, .bool m.over, .bool m.abstract, .bool m.final, .slice A1 m.params.length c1, .int .i64 m.result.kind, .int .i64 m.result.lo, .int .i64 m.result.hi, .string m.result.name, .slice A2 m.vars.length c2, .slice A3 m.body.length c3]
theorem alike_len {a b : MT} (h : ¬ a.params.length = b.params.length) : alikeT a b = false := by
  unfold alikeT
  have : ¬ (a.params.map (fun v => v.type.tup) = b.params.map (fun v => v.type.tup)) := fun e => h (by simpa using congrArg List.length e)
  rw [decide_eq_false this, Bool.and_false]
theorem alike_res {a b : MT} (h : ¬ a.result.tup = b.result.tup) : alikeT a b = false := by
  unfold alikeT
  rw [decide_eq_false h, Bool.false_and]
theorem alike_par {a b : MT} (h : a.result.tup = b.result.tup) (k : Nat) (h1 : k < a.params.length) (h2 : k < b.params.length) (hk : ¬ a.params[k].type.tup = b.params[k].type.tup) : alikeT a b = false := by
  unfold alikeT
  have : ¬ (a.params.map (fun v => v.type.tup) = b.params.map (fun v => v.type.tup)) := fun e => hk (by
    have e2 : (a.params.map (fun v => v.type.tup))[k]? = (b.params.map (fun v => v.type.tup))[k]? := by rw [e]
    simpa [List.getElem?_map, List.getElem?_eq_getElem h1, List.getElem?_eq_getElem h2] using e2)
  rw [decide_eq_false this, Bool.and_false]
theorem alike_yes {a b : MT} (h : a.result.tup = b.result.tup) (hl : a.params.length = b.params.length) (hk : ∀ k (h1 : k < a.params.length) (h2 : k < b.params.length), a.params[k].type.tup = b.params[k].type.tup) : alikeT a b = true := by
  unfold alikeT
  have : a.params.map (fun v => v.type.tup) = b.params.map (fun v => v.type.tup) := by
    apply List.ext_getElem
    · simpa using hl
    · intro i h1 h2
      simp only [List.getElem_map]
      exact hk i (by simpa using h1) (by simpa using h2)
  rw [decide_eq_true this, decide_eq_true h, Bool.and_self]
theorem ne_yes2 {a b : Nat} (h : ¬ a = b) : ((a : Int) != (b : Int)) = true := by simp; omega
theorem ne_no2 {a b : Nat} (h : a = b) : ((a : Int) != (b : Int)) = false := by simp [h]
theorem eq_no {a b : Int} (h : a ≠ b) : (a == b) = false := by simp [h]
/-- two types: one, or where they part first. -/
theorem tup_cases (s t : YT) : (s.kind ≠ t.kind ∧ s.tup ≠ t.tup) ∨ (s.kind = t.kind ∧ s.lo ≠ t.lo ∧ s.tup ≠ t.tup) ∨ (s.kind = t.kind ∧ s.lo = t.lo ∧ s.hi ≠ t.hi ∧ s.tup ≠ t.tup) ∨ (s.kind = t.kind ∧ s.lo = t.lo ∧ s.hi = t.hi ∧ s.name ≠ t.name ∧ s.tup ≠ t.tup) ∨ (s.kind = t.kind ∧ s.lo = t.lo ∧ s.hi = t.hi ∧ s.name = t.name ∧ s.tup = t.tup) := by
  unfold YT.tup
  by_cases h1 : s.kind = t.kind <;> by_cases h2 : s.lo = t.lo <;> by_cases h3 : s.hi = t.hi <;> by_cases h4 : s.name = t.name <;> simp [h1, h2, h3, h4]

set_option maxHeartbeats 4000000 in
set_option maxRecDepth 100000 in
theorem refAlike_any (a b : MT) (A1 A2 A3 B1 B2 B3 : Option Addr) (c1 c2 c3 d1 d2 d3 : Nat) (w : World) (ha : VsR w w.heap.size A1 a.params) (hb : VsR w w.heap.size B1 b.params) (hcnt : a.params.length ≤ 1000000000) :
    Calls Try.prog 32 #[.agg (mcells a A1 A2 A3 c1 c2 c3), .agg (mcells b B1 B2 B3 d1 d2 d3)] w fun e w' => e = .returned (.bool (alikeT a b)) ∧ Below w.heap.size w w' := by
  obtain ⟨R0, hR0⟩ : ∃ R0 : World, R0 = (w.alloc (.cells (mcells a A1 A2 A3 c1 c2 c3) 52)).alloc (.cells (mcells b B1 B2 B3 d1 d2 d3) 52) := ⟨_, rfl⟩
  have hbw : Below w.heap.size w R0 := by rw [hR0]; exact ((Below.refl _ _).alloc (Nat.le_refl _) _).alloc (by simp) _
  have g1 : R0.heap[w.heap.size]? = some (.cells (mcells a A1 A2 A3 c1 c2 c3) 52 (0, 0)) := by
    rw [hR0, Below.heap_alloc _ _ _ (by simp)]; exact heap_alloc_new w _
  have g2 : R0.heap[w.heap.size + 1]? = some (.cells (mcells b B1 B2 B3 d1 d2 d3) 52 (0, 0)) := by
    have := heap_alloc_new (w.alloc (.cells (mcells a A1 A2 A3 c1 c2 c3) 52)) (.cells (mcells b B1 B2 B3 d1 d2 d3) 52)
    rw [hR0]; simpa using this
  have ca : ∀ j v, (mcells a A1 A2 A3 c1 c2 c3).toList[j]? = some v → R0.cell? ⟨w.heap.size, j, none⟩ = some v := fun j v hj => by rw [cell_of_row _ _ j _ _ _ g1]; simpa using hj
  have cb : ∀ j v, (mcells b B1 B2 B3 d1 d2 d3).toList[j]? = some v → R0.cell? ⟨w.heap.size + 1, j, none⟩ = some v := fun j v hj => by rw [cell_of_row _ _ j _ _ _ g2]; simpa using hj
  have HA := Lib.hid (VsR.mono (Nat.le_refl _) hbw.block ha)
  have HB := Lib.hid (VsR.mono (Nat.le_refl _) hbw.block hb)
  have HR0 := Lib.hid hR0
  have HBW := Lib.hid hbw
  obtain ⟨r, hr0⟩ : ∃ r, r = alikeT a b := ⟨_, rfl⟩
  rw [← hr0]
  have HR := Lib.hid hr0
  have Hlen := Lib.hid (@alike_len a b)
  have Hres := Lib.hid (@alike_res a b)
  have Hpar := Lib.hid (@alike_par a b)
  have Hyes := Lib.hid (@alike_yes a b)
  have Htc := Lib.hid (tup_cases a.result b.result)
  obtain ⟨an, ao, aa, af, PA, ⟨k1, l1, h1, n1⟩, av, ab⟩ := a
  obtain ⟨bn, bo, ba, bf, PB, ⟨k2, l2, h2, n2⟩, bv, bb⟩ := b
  simp only at HA HB Hlen Hres Hpar Hyes Htc hcnt
  have x4 := ca 4 (.slice A1 PA.length c1) rfl
  have x5 := ca 5 (.int .i64 k1) rfl
  have x6 := ca 6 (.int .i64 l1) rfl
  have x7 := ca 7 (.int .i64 h1) rfl
  have x8 := ca 8 (.string n1) rfl
  have y4 := cb 4 (.slice B1 PB.length d1) rfl
  have y5 := cb 5 (.int .i64 k2) rfl
  have y6 := cb 6 (.int .i64 l2) rfl
  have y7 := cb 7 (.int .i64 h2) rfl
  have y8 := cb 8 (.string n2) rfl
  clear g1 g2 ca cb hbw hR0 ha hb hr0
  by_cases hl : PA.length = PB.length
  · rcases Htc.out with ⟨q, t⟩ | ⟨q, q1, t⟩ | ⟨q, q1, q2, t⟩ | ⟨q, q1, q2, q3, t⟩ | ⟨q, q1, q2, q3, t⟩
    · have HF := Lib.hid (HR.out.trans (Hres.out t))
      have hl1 : ((PA.length : Int) != (PB.length : Int)) = false := ne_no2 hl
      have p1 : (k1 == k2) = false := eq_no q
      clear t Htc
      rw [HR0.out] at x4 y4 x5 x6 x7 x8 y5 y6 y7 y8
      go_enter Try.func32, Try.ntmps32
      go_wp2_with fail
      go_ret
      exact ⟨by rw [HF.out]; rfl, HR0.out ▸ HBW.out⟩
    · have HF := Lib.hid (HR.out.trans (Hres.out t))
      have hl1 : ((PA.length : Int) != (PB.length : Int)) = false := ne_no2 hl
      have p1 : (l1 == l2) = false := eq_no q1
      have q : k1 = k2 := q
      subst q
      clear t Htc
      rw [HR0.out] at x4 y4 x5 x6 x7 x8 y5 y6 y7 y8
      go_enter Try.func32, Try.ntmps32
      go_wp2_with fail
      go_ret
      exact ⟨by rw [HF.out]; rfl, HR0.out ▸ HBW.out⟩
    · have HF := Lib.hid (HR.out.trans (Hres.out t))
      have hl1 : ((PA.length : Int) != (PB.length : Int)) = false := ne_no2 hl
      have p1 : (h1 == h2) = false := eq_no q2
      have q : k1 = k2 := q
      have q1 : l1 = l2 := q1
      subst q q1
      clear t Htc
      rw [HR0.out] at x4 y4 x5 x6 x7 x8 y5 y6 y7 y8
      go_enter Try.func32, Try.ntmps32
      go_wp2_with fail
      go_ret
      exact ⟨by rw [HF.out]; rfl, HR0.out ▸ HBW.out⟩
    · have HF := Lib.hid (HR.out.trans (Hres.out t))
      have hl1 : ((PA.length : Int) != (PB.length : Int)) = false := ne_no2 hl
      have p1 := str_ne q3
      have q : k1 = k2 := q
      have q1 : l1 = l2 := q1
      have q2 : h1 = h2 := q2
      subst q q1 q2
      clear t Htc
      rw [HR0.out] at x4 y4 x5 x6 x7 x8 y5 y6 y7 y8
      go_enter Try.func32, Try.ntmps32
      go_wp2_with fail
      go_ret
      exact ⟨by rw [HF.out]; rfl, HR0.out ▸ HBW.out⟩
    · have hl1 : ((PA.length : Int) != (PB.length : Int)) = false := ne_no2 hl
      have HP := Lib.hid (Hpar.out t)
      have HY := Lib.hid (Hyes.out t hl)
      have HL := Lib.hid hl
      have q : k1 = k2 := q
      have q1 : l1 = l2 := q1
      have q2 : h1 = h2 := q2
      have q3 : n1 = n2 := q3
      subst q q1 q2 q3
      clear t Htc Hlen Hres Hpar Hyes
      rw [HR0.out] at x4 y4 x5 x6 x7 x8 y5 y6 y7 y8
      go_enter Try.func32, Try.ntmps32
      go_wp2_with fail
      rw [← HR0.out] at x4 y4 x5 x6 x7 x8 y5 y6 y7 y8 ⊢
      have HX4 : Hid (∀ W, Hid (Below R0.heap.size R0 W) → W.cell? ⟨w.heap.size, 4, none⟩ = some (.slice A1 PA.length c1) ∧ W.cell? ⟨w.heap.size + 1, 4, none⟩ = some (.slice B1 PB.length d1)) := fun W h => ⟨(World.cell?_of_block (h.out.block _ (World.block_lt_of_cell? _ _ x4))).trans x4, (World.cell?_of_block (h.out.block _ (World.block_lt_of_cell? _ _ y4))).trans y4⟩
      clear x5 x6 x7 x8 y5 y6 y7 y8 x4 y4
      go_loopw [5] (fun i wr => ∃ k : Nat, k ≤ PA.length ∧ i = .int .i64 k ∧ Hid (∀ j, j < k → ∀ (h1 : j < PA.length) (h2 : j < PB.length), PA[j].type.tup = PB[j].type.tup) ∧ Hid (Below R0.heap.size R0 wr)) (fun i _ => PA.length - (intOf i).toNat)
      case atStart => exact ⟨0, Nat.zero_le _, rfl, fun j h => absurd h (Nat.not_lt_zero _), Below.refl _ _⟩
      case round =>
        obtain ⟨k, hk, rfl, hall, hb⟩ := hrel
        obtain ⟨x4, y4⟩ := HX4.out _ hb
        have z0 : (0 : Int) ≤ (k : Int) := by omega
        have hl := HL.out
        by_cases hlt : k < PA.length
        · have hlt2 : k < PB.length := by omega
          have z1 : (k : Int) < (PA.length : Int) := by omega
          have z2 : (k : Int) < (PB.length : Int) := by omega
          have hkeep : ∀ g, g < w.heap.size → wr.heap[g]? = R0.heap[g]? := fun g hg => hb.out.block g (Nat.lt_of_lt_of_le hg HBW.out.size)
          obtain ⟨ga, oa, ca, rfl, hga, -, hca, hea⟩ := (VsR.mono (Nat.le_refl _) hkeep HA.out) k hlt
          obtain ⟨gb, ob, cb, rfl, hgb, -, hcb, heb⟩ := (VsR.mono (Nat.le_refl _) hkeep HB.out) k hlt2
          have hpk := HP.out k hlt hlt2
          have hnx : PA[k].type.tup = PB[k].type.tup → ∀ j, j < k + 1 → ∀ (h1 : j < PA.length) (h2 : j < PB.length), PA[j].type.tup = PB[j].type.tup := fun e j hj h1 h2 => by
            rcases Nat.lt_or_ge j k with h3 | h3
            · exact hall.out j h3 h1 h2
            · obtain rfl : j = k := by omega
              exact e
          obtain ⟨⟨vn1, ⟨yk1, yl1, yh1, yn1⟩, i1, dr1, s1⟩, hva⟩ : ∃ v : VT, v = PA[k] := ⟨_, rfl⟩
          obtain ⟨⟨vn2, ⟨yk2, yl2, yh2, yn2⟩, i2, dr2, s2⟩, hvb⟩ : ∃ v : VT, v = PB[k] := ⟨_, rfl⟩
          have HTC := tup_cases PA[k].type PB[k].type
          rw [← hva] at hea hpk hnx HTC
          rw [← hvb] at heb hpk hnx HTC
          obtain ⟨rfl, -⟩ := hea
          obtain ⟨rfl, -⟩ := heb
          have a1 := hca 1 _ rfl
          have a2 := hca 2 _ rfl
          have a3 := hca 3 _ rfl
          have a4 := hca 4 _ rfl
          have b1 := hcb 1 _ rfl
          have b2 := hcb 2 _ rfl
          have b3 := hcb 3 _ rfl
          have b4 := hcb 4 _ rfl
          simp only at hpk hnx HTC
          have HPK := Lib.hid hpk
          have HNX := Lib.hid hnx
          clear hca hcb hva hvb hkeep hl hpk hnx
          rcases HTC with ⟨q, t⟩ | ⟨q, q1, t⟩ | ⟨q, q1, q2, t⟩ | ⟨q, q1, q2, q3, t⟩ | ⟨q, q1, q2, q3, t⟩
          · have p1 := eq_no q
            have HF := Lib.hid (HR.out.trans (HPK.out t))
            clear t q
            go_wp2_with fail
            go_region
            go_wp2_with fail
            go_ret
            exact ⟨by rw [HF.out]; rfl, (HBW.out.trans (hb.out.mono HBW.out.size)).drew⟩
          · have p1 := eq_no q1
            have HF := Lib.hid (HR.out.trans (HPK.out t))
            subst q
            clear t q1
            go_wp2_with fail
            go_region
            go_wp2_with fail
            go_ret
            exact ⟨by rw [HF.out]; rfl, (HBW.out.trans (hb.out.mono HBW.out.size)).drew⟩
          · have p1 := eq_no q2
            have HF := Lib.hid (HR.out.trans (HPK.out t))
            subst q q1
            clear t q2
            go_wp2_with fail
            go_region
            go_wp2_with fail
            go_ret
            exact ⟨by rw [HF.out]; rfl, (HBW.out.trans (hb.out.mono HBW.out.size)).drew⟩
          · have p1 := str_ne q3
            have HF := Lib.hid (HR.out.trans (HPK.out t))
            subst q q1 q2
            clear t q3
            go_wp2_with fail
            go_region
            go_wp2_with fail
            go_ret
            exact ⟨by rw [HF.out]; rfl, (HBW.out.trans (hb.out.mono HBW.out.size)).drew⟩
          · have HN2 := Lib.hid (HNX.out t)
            subst q q1 q2 q3
            clear t
            have hb2 : Hid (Below R0.heap.size R0 wr.drew) := hb.out.drew
            go_wp2_with fail
            go_region
            go_wp2_with fail
            go_roundw
            case rel => exact ⟨k + 1, by omega, by go_num, HN2, hb2⟩
            case measure => simp [intOf]; omega
        · have z1 : ¬ (k : Int) < (PA.length : Int) := by omega
          have HF := Lib.hid (HR.out.trans (HY.out fun j h1 h2 => hall.out j (by omega) h1 h2))
          go_wp2_with fail
          go_ret
          exact ⟨by rw [HF.out]; rfl, HBW.out.trans (hb.out.mono HBW.out.size)⟩
  · have HF := Lib.hid (HR.out.trans (Hlen.out hl))
    have hl1 : ((PA.length : Int) != (PB.length : Int)) = true := ne_yes2 hl
    clear hl
    rw [HR0.out] at x4 y4
    clear x5 x6 x7 x8 y5 y6 y7 y8
    go_enter Try.func32, Try.ntmps32
    go_wp2_with fail
    go_ret
    exact ⟨by rw [HF.out]; rfl, HR0.out ▸ HBW.out⟩
end Go.Proofs.Ytmbddofcildibaa

/-
  lookup: what an index is, what its calls change; Of, isOf BY CONTRACTS.
-/
namespace Go.Proofs.Ytmbddofcildibaa
open Go Go.RowKit
set_option linter.unusedVariables false
set_option linter.unusedSimpArgs false

/-- what is asked of a unit: no list of it is longer than memory bears. -/
structure Fit (L : List DT) : Prop where
  len : L.length ≤ 32
  names : ∀ d ∈ L, d.name.size ≤ 1000000000
  faces : ∀ d ∈ L, d.faces.length ≤ 1000000000
  bases : ∀ d ∈ L, d.base.size ≤ 1000000000
  fnames : ∀ d ∈ L, ∀ f ∈ d.faces, f.size ≤ 1000000000
theorem Fit.cnt {L : List DT} (h : Fit L) : L.length ≤ 1000000000 := Nat.le_trans h.len (by decide)
/-- and no list of methods, none of variables is longer than memory bears. -/
structure FitA (L : List DT) : Prop extends Fit L where
  methods : ∀ d ∈ L, d.methods.length ≤ 1000000000
  vars : ∀ d ∈ L, d.vars.length ≤ 1048576
instance fitOf {L : List DT} : Coe (FitA L) (Fit L) := ⟨fun h => h.toFit⟩
/-- what GreatUnit says: what is not great bears this. -/
def GreatF (L : List DT) (w : World) (e : Ending) (w' : World) : Prop := (∃ r : Bool, e = .returned (.bool r) ∧ Hid (r = false → Fit L)) ∧ Below w.heap.size w w'

/-- a map's datum tells these numbers, -1 where a name is no key. -/
def MapOf (D : DataW Unit) (f : ByteArray → Int) : Prop := Maps.IsMap D ∧ ∀ s : ByteArray, (f s = -1 → Maps.has D (.string s.data.toList) = false) ∧ (f s ≠ -1 → Maps.has D (.string s.data.toList) = true ∧ ∀ z, D.atKey (.string s.data.toList) z = .lit (.int .i64 (f s)))

/-- what an index has made by now: the block of its map, the block of its bases' row. -/
structure IX where
  mb : Option Nat
  g : Option Nat
/-- a block that is an index's own. -/
def IX.has (p : Nat) (I : IX) (h : Nat) : Prop := h = p ∨ I.mb = some h ∨ I.g = some h
def basesV (n : Nat) : Option Nat → Value
  | none => .slice none 0 0
  | some g => .slice (some ⟨g, 0, none⟩) n n
/-- an index's cells. -/
abbrev ixCells (A : Option Addr) (n c : Nat) (I : IX) : Array Value := #[.slice A n c, .map I.mb, basesV n I.g]
structure XAt (L : List DT) (A : Option Addr) (c p N : Nat) (W : World) (I : IX) : Prop where
  box : W.heap[p]? = some (.cells (ixCells A L.length c I) 103 (0, 0))
  row : DsR W N A L
  far : ∀ h, I.has p h → N ≤ h ∧ h < W.heap.size
  nm : ∀ m, I.mb = some m → m ≠ p ∧ I.g ≠ some m
  ng : ∀ g, I.g = some g → g ≠ p
  map : ∀ m, I.mb = some m → ∃ n D, W.ownsMap Try.prog 9 (plainElem (H := Unit) Try.prog 3) m n D ∧ MapOf D (findT L)
  bases : ∀ g, I.g = some g → ∃ cs : Array Value, W.heap[g]? = some (.cells cs 3 (0, 0)) ∧ cs.size = L.length ∧ ∀ i, i < L.length → cs[i]? = some (.int .i64 0) ∨ cs[i]? = some (.int .i64 (findT L (baseT L i) + 2))
/-- all that was there ahead of S stays, but an index's own blocks. -/
structure XFr (p S : Nat) (W : World) (I : IX) (W' : World) (I' : IX) : Prop where
  os : W'.os = W.os
  tape : W'.tape = W.tape
  output : W'.output = W.output
  size : W.heap.size ≤ W'.heap.size
  block : ∀ h, h < S → ¬ I.has p h → W'.heap[h]? = W.heap[h]?
  later : ∀ h, I'.has p h → I.has p h ∨ S ≤ h
/-- nothing is changed but an index's own blocks. -/
abbrev XTo (p : Nat) (W : World) (I : IX) (W' : World) (I' : IX) : Prop := XFr p W.heap.size W I W' I'
theorem XFr.refl (p S : Nat) (W : World) (I : IX) : XFr p S W I W I := ⟨rfl, rfl, rfl, Nat.le_refl _, fun _ _ _ => rfl, fun _ h => .inl h⟩
theorem XFr.trans {p S : Nat} {U V W : World} {I J K : IX} (h : XFr p S U I V J) (k : XTo p V J W K) (hS : S ≤ V.heap.size) : XFr p S U I W K := ⟨k.os.trans h.os, k.tape.trans h.tape, k.output.trans h.output, Nat.le_trans h.size k.size, fun i h1 h2 => (k.block i (by omega) (fun h3 => by rcases h.later i h3 with h4 | h4; exact h2 h4; omega)).trans (h.block i h1 h2), fun i h1 => by
  rcases k.later i h1 with h2 | h2
  · exact h.later i h2
  · exact .inr (by omega)⟩
theorem XTo.trans {p : Nat} {U V W : World} {I J K : IX} (h : XTo p U I V J) (k : XTo p V J W K) : XTo p U I W K := XFr.trans h k h.size
theorem XFr.quiet {p S : Nat} {U V W : World} {I J : IX} (h : XFr p S U I V J) (k : Below S V W) : XFr p S U I W J := ⟨k.os.trans h.os, k.tape.trans h.tape, k.output.trans h.output, Nat.le_trans h.size k.size, fun i h1 h2 => (k.block i h1).trans (h.block i h1 h2), h.later⟩
theorem XFr.low {p S S' : Nat} {W W' : World} {I I' : IX} (h : XFr p S W I W' I') (hs : S' ≤ S) : XFr p S' W I W' I' := ⟨h.os, h.tape, h.output, h.size, fun i h1 h2 => h.block i (by omega) h2, fun i h1 => (h.later i h1).imp id (fun h2 => by omega)⟩
theorem XTo.of_below {p : Nat} {W W' : World} {I : IX} (k : Below W.heap.size W W') : XTo p W I W' I := (XFr.refl p _ W I).quiet k
/-- a block that is none of an index's stays none. -/
theorem XFr.none {p S h : Nat} {W W' : World} {I I' : IX} (k : XFr p S W I W' I') (hl : h < S) (hn : ¬ I.has p h) : ¬ I'.has p h := fun h1 => by
  rcases k.later h h1 with h2 | h2
  · exact hn h2
  · omega
theorem XAt.stay {L : List DT} {A : Option Addr} {c p N : Nat} {W W' : World} {I : IX} (h : XAt L A c p N W I) (hs : W.heap.size ≤ W'.heap.size) (hb : ∀ k, k < N ∨ I.has p k → W'.heap[k]? = W.heap[k]?) : XAt L A c p N W' I := by
  refine ⟨(hb p (.inr (.inl rfl))).trans h.box, DsR.mono (Nat.le_refl _) (fun g hg => hb g (.inl hg)) h.row, fun k hk => ⟨(h.far k hk).1, Nat.lt_of_lt_of_le (h.far k hk).2 hs⟩, h.nm, h.ng, fun m hm => ?_, fun g hg => ?_⟩
  · obtain ⟨n, D, ⟨es, ck, hh, hr⟩, hf⟩ := h.map m hm
    exact ⟨n, D, ⟨es, ck, (hb m (.inr (.inr (.inl hm)))).trans hh, hr⟩, hf⟩
  · obtain ⟨cs, h1, h2⟩ := h.bases g hg
    exact ⟨cs, (hb g (.inr (.inr (.inr hg)))).trans h1, h2⟩
theorem XAt.pN {L : List DT} {A : Option Addr} {c p N : Nat} {W : World} {I : IX} (h : XAt L A c p N W I) : N ≤ p := (h.far p (.inl rfl)).1
theorem XAt.below {L : List DT} {A : Option Addr} {c p N : Nat} {W W' : World} {I : IX} (h : XAt L A c p N W I) (hb : Below W.heap.size W W') : XAt L A c p N W' I := h.stay hb.size fun k hk => by
  rcases hk with hk | hk
  · exact hb.block k (by have := (h.far p (.inl rfl)); omega)
  · exact hb.block k (h.far k hk).2
theorem XAt.drew {L : List DT} {A : Option Addr} {c p N : Nat} {W : World} {I : IX} (h : XAt L A c p N W I) : XAt L A c p N W.drew I := h.stay (Nat.le_refl _) (fun _ _ => rfl)
theorem XTo.drew {p : Nat} {W W' : World} {I I' : IX} (h : XTo p W.drew I W' I') : XTo p W I W' I' := ⟨h.os, h.tape, h.output, h.size, h.block, h.later⟩
theorem XAt.lt {L : List DT} {A : Option Addr} {c p N : Nat} {W : World} {I : IX} (h : XAt L A c p N W I) : N < W.heap.size := by have := h.far p (.inl rfl); omega
theorem XAt.rowAt {L : List DT} {A : Option Addr} {c p N : Nat} {W : World} {I : IX} (h : XAt L A c p N W I) : DsR W W.heap.size A L := DsR.mono (Nat.le_of_lt h.lt) (fun _ _ => rfl) h.row
/-- the index's own blocks lie from N on: what lies ahead of N is not touched. -/
theorem XFr.toBelow {L : List DT} {A : Option Addr} {c p N S : Nat} {W W' : World} {I I' : IX} (h : XAt L A c p N W I) (k : XFr p S W I W' I') (hS : N ≤ S) : Below N W W' := ⟨k.os, k.tape, k.output, k.size, fun i hi => k.block i (by omega) (fun h1 => by have := (h.far i h1).1; omega)⟩
theorem XAt.c0 {L : List DT} {A : Option Addr} {c p N : Nat} {W : World} {I : IX} (h : XAt L A c p N W I) : W.cell? ⟨p, 0, none⟩ = some (.slice A L.length c) := by rw [cell_of_row _ _ 0 _ _ _ h.box]; rfl
theorem XAt.c1 {L : List DT} {A : Option Addr} {c p N : Nat} {W : World} {I : IX} (h : XAt L A c p N W I) : W.cell? ⟨p, 1, none⟩ = some (.map I.mb) := by rw [cell_of_row _ _ 1 _ _ _ h.box]; rfl
theorem XAt.c2 {L : List DT} {A : Option Addr} {c p N : Nat} {W : World} {I : IX} (h : XAt L A c p N W I) : W.cell? ⟨p, 2, none⟩ = some (basesV L.length I.g) := by rw [cell_of_row _ _ 2 _ _ _ h.box]; rfl
theorem XAt.fz {L : List DT} {A : Option Addr} {c p N : Nat} {W : World} {I : IX} (h : XAt L A c p N W I) (j : Nat) : W.frozen? ⟨p, j, none⟩ = false := frozen_of_row _ _ j _ _ h.box

set_option maxHeartbeats 1000000 in
theorem of_any (L : List DT) (A : Option Addr) (c : Nat) (w : World) (ha : DsR w w.heap.size A L) :
    Calls Try.prog 47 #[.agg #[.slice A L.length c]] w fun e w' => ∃ p, e = .returned (.pointer (some ⟨p, 0, none⟩)) ∧ Hid (XAt L A c p w.heap.size w' ⟨none, none⟩) ∧ Hid (Below w.heap.size w w') := by
  obtain ⟨R0, hR0⟩ : ∃ R0 : World, R0 = w.alloc (.cells #[.slice A L.length c] 24) := ⟨_, rfl⟩
  have hg : R0.heap[w.heap.size]? = some (.cells #[.slice A L.length c] 24 (0, 0)) := by rw [hR0]; exact heap_alloc_new w _
  have y0 : R0.cell? ⟨w.heap.size, 0, none⟩ = some (.slice A L.length c) := by rw [cell_of_row _ _ 0 _ _ _ hg]; rfl
  have hs : R0.heap.size = w.heap.size + 1 := by rw [hR0]; simp
  have hb0 : Below w.heap.size w R0 := by rw [hR0]; exact (Below.refl _ _).alloc (Nat.le_refl _) _
  have HB := Lib.hid hb0
  have HS := Lib.hid hs
  have HA := Lib.hid ha
  have HR0 := Lib.hid hR0
  rw [hR0] at y0
  clear hg hs ha hb0 hR0
  go_enter Try.func47, Try.ntmps47
  go_wp2_with fail
  go_ret
  rw [← HR0.out]
  have hbx : Below w.heap.size w (R0.alloc (.cells #[.slice A L.length c, .map none, .slice none 0 0] 103)) := HB.out.alloc HB.out.size _
  refine ⟨R0.heap.size, by simp [HS.out], ⟨heap_alloc_new _ _, DsR.mono (Nat.le_refl _) hbx.block HA.out, fun k hk => ?_, fun m hm => (by cases hm), fun g hm => (by cases hm), fun m hm => (by cases hm), fun g hm => (by cases hm)⟩, hbx⟩
  rcases hk with rfl | hk | hk
  · have := HS.out
    simp
    omega
  · cases hk
  · cases hk
set_option maxHeartbeats 1000000 in
theorem lkIsOf_any (L : List DT) (A : Option Addr) (c p N : Nat) (I : IX) (d q : Int) (w : World) (h : XAt L A c p N w I) :
    Calls Try.prog 65 #[.pointer (some ⟨p, 0, none⟩), .int .i64 d, .int .i64 q] w fun e w' => e = .returned (.bool (isOfT L d q)) ∧ Hid (Below w.heap.size w w') := by
  have y0 := h.c0
  have HA := h.row
  have HB : Hid (Below w.heap.size w w) := Below.refl _ _
  clear h
  by_cases h1 : d < 0
  · rw [isOfT_out (.inl h1)]
    have h2 : ¬ 0 ≤ d := by omega
    clear HA
    go_enter Try.func65, Try.ntmps65
    go_wp2_with fail
    go_ret
    exact ⟨rfl, HB⟩
  obtain ⟨k, rfl⟩ : ∃ k : Nat, d = k := ⟨d.toNat, by omega⟩
  by_cases h2 : k < L.length
  · have q2 : (0 : Int) ≤ (k : Int) := by omega
    obtain ⟨g, o, cs, rfl, hg, hlen, hc, he⟩ := HA k h2
    rw [isOfT_of h2]
    obtain ⟨D, hN⟩ : ∃ D : DT, D = L[k] := ⟨_, rfl⟩
    rw [← hN] at he ⊢
    obtain ⟨A1, c1, A2, c2, A3, c3, A4, c4, rfl, _⟩ := he
    have y1 := hc 0 _ rfl
    rw [Nat.add_zero] at y1
    clear hc hlen hg hN HA
    have q1 : (k : Int) < (L.length : Int) := by omega
    by_cases hk : D.kind = q
    · have e1 : decide (D.kind = q) = true := decide_eq_true hk
      rw [e1]
      subst hk
      go_enter Try.func65, Try.ntmps65
      go_wp2_with fail
      go_ret
      exact ⟨rfl, HB⟩
    · have e1 : decide (D.kind = q) = false := decide_eq_false hk
      rw [e1]
      have e2 : (D.kind == q) = false := eq_no hk
      clear e1
      go_enter Try.func65, Try.ntmps65
      go_wp2_with fail
      go_ret
      exact ⟨rfl, HB⟩
  · have q1 : ¬ (k : Int) < (L.length : Int) := by omega
    have q2 : (0 : Int) ≤ (k : Int) := by omega
    rw [isOfT_out (.inr (by omega))]
    clear HA
    go_enter Try.func65, Try.ntmps65
    go_wp2_with fail
    go_ret
    exact ⟨rfl, HB⟩
end Go.Proofs.Ytmbddofcildibaa
