/-
  DiagChains: whatever the links and the code, the law returns true and changes nothing that was there. Conditions: package errors' own variable is as its initialiser lays it (the card ties it).
-/
import Derived.Test.YtljgjcnfcmbemaaDoorLaid
import Derived.Test.YtljgjcnfcmbemaaDoorChains
import Derived.Test.YtljgjcnfcmbemaaDoorTie
import Derived.Test.YtljgjcnfcmbemaaDoorCards
import Derived.SevenTiedAt
import Derived.Deep.Slices
import Derived.Deep.Strs
import Derived.ChangeSame
namespace Go.Proofs.YtljgjcnfcmbemaaDoor.diagchains
open Go Go.ChangeShapes Go.WideShapes Go.RowKit

theorem exists_list {α : Type} {p : Nat → α → Prop} : ∀ n : Nat, (∀ i, i < n → ∃ x, p i x) → ∃ L : List α, L.length = n ∧ ∀ i (h : i < L.length), p i L[i]
  | 0, _ => ⟨[], rfl, fun i h => absurd h (Nat.not_lt_zero i)⟩
  | n + 1, h => by
    obtain ⟨L, hl, hL⟩ := exists_list n (fun i hi => h i (by omega))
    obtain ⟨x, hx⟩ := h n (by omega)
    refine ⟨L ++ [x], by simp [hl], fun i hi => ?_⟩
    by_cases hlt : i < L.length
    · rw [List.getElem_append_left hlt]; exact hL i hlt
    · have he : i = n := by simp at hi; omega
      subst he
      rw [List.getElem_append_right (by omega)]
      simpa [hl] using hx

theorem laidOut : laidOutB Tryd.prog = true := by kernel_rfl
theorem Tryd.cellsLink : Tryd.prog.cellsOf 55 = 3 := by kernel_rfl
theorem Tryd.cellsOne : Tryd.prog.cellsOf 3 = 1 := by kernel_rfl
theorem Tryd.cellsBool : Tryd.prog.cellsOf 4 = 1 := by kernel_rfl
theorem add_plain (b off j : Nat) : (⟨b, off, none⟩ : Addr).add j = ⟨b, off + j, none⟩ := by unfold Addr.add; split <;> simp_all

set_option maxRecDepth 100000 in
theorem lifted (os : Os) (started : os.Started) (H : Type) (enc : TypeId × Value → H) :
    ReturnsInHanded {} Tryd.checked os 3 .any (fun w args => (Rows.diagChainsSpec.pre enc Tryd.prog Tryd.f3 [] false w args ∧ laidMetH Tryd.prog etOnly w) ∧ sizedMet enc Tryd.prog Tryd.f3 (OpenSpec.ofChange Rows.diagChainsSpec) false w args)
      (Rows.diagChainsSpec.post enc Tryd.prog Tryd.f3 false true false false) := by
  refine returnsInHanded_of_change_and (C := Tryd.checked) (X := fun w _ => laidMetH Tryd.prog etOnly w) (fun _ _ _ hh h => h.of_heap hh) own started (by kernel_rfl) Tryd.func3
    (ChangeSpec.witness_shaped (enc := enc) (C := Tryd.checked) (os := os) (X := fun w _ => laidMetH Tryd.prog etOnly w) false (World.doorLaid Tryd.prog 31 os) #[.slice none 0 0, .int .i64 0] 8 rfl (World.shaped_of_RefB (by kernel_rfl) (by kernel_rfl)) (by kernel_rfl) (by kernel_rfl) (by kernel_rfl) (door_met_one os _)) ?_
  intro W base args ds gs before hval0 hW _ _ hL _
  have hval : ∀ (j : Nat) t v, Tryd.f3.params[j]? = some t → args[j]? = some v → Value.okWide Tryd.prog W .any base t v := hval0
  have hW' := hW
  obtain ⟨p, q, hA0, hV, rfl, hfz, hnd⟩ := hW
  have hA : DataW.TrodAll enc Tryd.prog W 0 (fun _ => true) true Tryd.f3.params.toList args.toList ds p := hA0
  rw [Tryd.params3] at hA hval
  obtain ⟨v0, vs0, d0, ds0, p0, q0, hargs, rfl, rfl, h0, r0⟩ := trodAll_cons hA
  obtain ⟨v1, vs1, d1, ds1, p1, q1, rfl, rfl, rfl, h1, r1⟩ := trodAll_cons r0
  obtain ⟨rfl, rfl, rfl⟩ := trodAll_nil r1
  obtain rfl : args = #[v0, v1] := by cases args; simp_all
  obtain ⟨rfl, rfl⟩ := trodVars_none hV
  obtain ⟨A, len, cap, rfl⟩ := okWide_slice Tryd.underlying22 (hval 0 22 v0 rfl rfl)
  obtain ⟨code, rfl, rfl, rfl, w1⟩ := open_int Tryd.underlying3 (hval 1 3 v1 rfl rfl) h1
  have h0k := h0
  obtain ⟨fuel, hf⟩ := h0
  have hg := errorType_of_one hL
  clear hA0 hval0
  simp only [List.append_nil] at hW'
  have hlt : ∀ x ∈ p0, x.block < W.heap.size := fun x hx => hW'.lt x (by simp [hx])
  have e1 : Rows.diagChainsSpec.fn H ([d0, .lit (.int .i64 code)] ++ []) = { results := [.lit (.bool true)], args := [d0, .lit (.int .i64 code)] } := by simp [Rows.diagChainsSpec]
  have fin : ∀ W', Below W.heap.size W W' → Rows.diagChainsSpec.post enc Tryd.prog Tryd.f3 false true false false W #[.slice A len cap, .int .i64 code] (.bool true) W' := by
    intro W' hb
    refine ⟨_, _, _, [], p0 ++ ([] ++ []), [], hW', ?_, ?_, ?_, hb.frame _, fun h => by cases h⟩
    · rw [e1]; exact trodAll_mk1 (shut_bool Tryd.underlying4 true)
    · rw [e1]; exact trodAll_cons_mk (Below.trod laidOut (by kernel_rfl) (of_decide_eq_true (by kernel_rfl)) h0k hb hlt) (trodAll_cons_mk (shut_int Tryd.underlying3 w1) trodAll_mk0)
    · rw [e1]; rfl
  have goal : Calls Tryd.prog 3 #[.slice A len cap, .int .i64 code] W fun e w' => e = .returned (.bool true) ∧ Below W.heap.size W w' := by
    rcases Go.Deep.open_slice Tryd.underlying22 hf with ⟨hcs, _⟩ | ⟨a, len', cap', m, nn, D, Pl, hcs, _, hl, hm, hmm, hx, hi⟩
    · simp [Value.cells] at hcs
      obtain ⟨rfl, rfl, rfl⟩ := hcs
      exact chains_edge none 0 0 code W hg (Or.inr rfl) (by unfold maxLen; omega)
    · simp [Value.cells] at hcs
      obtain ⟨rfl, rfl, rfl⟩ := hcs
      simp only [if_true] at hmm
      subst hmm
      by_cases hed : 20 < len ∨ len = 0
      · exact chains_edge (some a) len m code W hg hed (by omega)
      · have cell : ∀ i, i < len → ∃ x : (Int × Int) × Bool, W.cell? (a.add (i * 3)) = some (.int .i64 x.1.1) ∧ W.cell? (a.add (i * 3 + 1)) = some (.int .i64 x.1.2) ∧ W.cell? (a.add (i * 3 + 2)) = some (.bool x.2) := by
          intro i hil
          obtain ⟨cs, hc, ht⟩ := hi i (by omega)
          rw [Tryd.cellsLink] at hc
          obtain ⟨_, hcl, hat⟩ := World.cells?_some hc
          obtain ⟨y0, y1, y2, nf, _, _, t0, t1, t2⟩ := Go.Deep.trod_struct3 Tryd.underlying55 ht
          obtain ⟨u0, u1, u2, rfl⟩ : ∃ u0 u1 u2, cs = [u0, u1, u2] := by
            match cs, hcl with
            | [u0, u1, u2], _ => exact ⟨u0, u1, u2, rfl⟩
          have k0 := hat 0 (by omega)
          have k1 := hat 1 (by omega)
          have k2 := hat 2 (by omega)
          obtain ⟨x0, e0, _, _⟩ := DataW.trod_int Tryd.underlying3 t0
          obtain ⟨x1, e1, _, _⟩ := DataW.trod_int Tryd.underlying3 t1
          obtain ⟨x2, e2, _⟩ := DataW.trod_bool Tryd.underlying4 t2
          simp [Tryd.cellsOne, Tryd.cellsBool] at e0 e1 e2
          subst e0 e1 e2
          rw [Go.Deep.add_add] at k0 k1 k2
          exact ⟨((x0, x1), x2), k0, k1, k2⟩
        obtain ⟨L, hLl, hL⟩ := exists_list len cell
        obtain ⟨b, off, spot⟩ := a
        have hspot : spot = none := by
          have h00 := (hL 0 (by omega)).1
          simpa [Addr.add] using World.cell?_spot h00
        subst hspot
        have hbW : b < W.heap.size := by
          have h00 := (hL 0 (by omega)).1
          rw [add_plain] at h00
          exact lt_of_cell h00
        subst hLl
        refine chains_any L b off m code W hg ⟨hbW, fun i hil => ?_⟩ (by omega) (by omega)
        obtain ⟨c0, c1, c2⟩ := hL i hil
        rw [add_plain] at c0 c1 c2
        exact ⟨c0, c1, c2⟩
  refine goal.mono fun e W' ⟨he, hb⟩ => ?_
  subst he
  exact ⟨_, rfl, fin W' hb⟩

theorem row_holds : Rows.DiagChainsSaid :=
  OpenClaim.holds_of_wide 3 Tryd.f3 rfl rfl rfl rfl rfl rfl rfl ⟨rfl, rfl, rfl, rfl, rfl⟩ rfl rfl rfl rfl rfl (by kernel_rfl) Tryd.func3 (by kernel_rfl)
    (of_decide_eq_true (by kernel_rfl)) (by unfold Func.isWrapper; first | (rw [if_pos (by decide +kernel)]; kernel_rfl) | (rw [if_neg (by decide +kernel)]; exact ⟨rfl, rfl⟩))
    (fun os started H enc _ => lifted os started H enc)

theorem proved : Rows.DiagChainsCardSaid :=
  Claim7.holds_tied_plain_at .later [] [.handle] true Rows.diagChainsCard.stood.harness true
    row_holds (fun _ h => by cases h) (by kernel_rfl) (fun _ h => by cases h) diagChains_row_tie rfl ⟨rfl, rfl⟩ (by kernel_rfl) rfl
    (fun f fn hf hfn => by
      obtain rfl : f = 3 := Option.some.inj ((show Tryd.prog.funcNamed "governor/governorlaw1.DiagChains" = some 3 by kernel_rfl).symm.trans hf) |>.symm
      obtain rfl : fn = Tryd.f3 := (Option.some.inj (Tryd.func3.symm.trans hfn)).symm
      exact ⟨by kernel_rfl, fun j t ht => by
        rw [Tryd.params3] at ht
        have h3 : t = 22 ∨ t = 3 := by
          rcases j with _ | _ | j
          · exact Or.inl (by simpa using ht.symm)
          · exact Or.inr (by simpa using ht.symm)
          · simp at ht
        rcases h3 with rfl | rfl
        · exact (show Tryd.prog.wantsStandIn 22 = false by kernel_rfl)
        · exact (show Tryd.prog.wantsStandIn 3 = false by kernel_rfl)⟩)
    (by kernel_rfl)
#print axioms proved
end Go.Proofs.YtljgjcnfcmbemaaDoor.diagchains
