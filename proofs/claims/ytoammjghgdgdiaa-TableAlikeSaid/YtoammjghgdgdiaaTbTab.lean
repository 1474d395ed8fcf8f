/-
  table: Chain, Is BY CONTRACTS.
-/
import Derived.Test.YtoammjghgdgdiaaTbFinder
namespace Go.Proofs.Ytoammjghgdgdiaa
open Go Go.RowKit
set_option linter.unusedVariables false
set_option linter.unusedSimpArgs false

/-- what is asked of a unit: no list of it is longer than memory bears. -/
structure Fit (L : List DT) : Prop where
  len : L.length ≤ 1048576
  names : ∀ d ∈ L, d.name.size ≤ 1000000000
  faces : ∀ d ∈ L, d.faces.length ≤ 1000000000
  bases : ∀ d ∈ L, d.base.size ≤ 1000000000
  fnames : ∀ d ∈ L, ∀ f ∈ d.faces, f.size ≤ 1000000000
  methods : ∀ d ∈ L, d.methods.length ≤ 1000000000
  vars : ∀ d ∈ L, d.vars.length ≤ 1048576
theorem Fit.cnt {L : List DT} (h : Fit L) : L.length ≤ 1000000000 := Nat.le_trans h.len (by decide)

set_option maxHeartbeats 1000000 in
set_option maxRecDepth 100000 in
theorem Chain_any (L : List DT) (A : Option Addr) (c : Nat) (d0 : Int) (w : World) (ha : DsR w w.heap.size A L) (hfit : Fit L) :
    Calls Try.prog 13 #[.agg #[.slice A L.length c], .int .i64 d0] w (ISays w (chainT L d0)) := by
  obtain ⟨R0, hR0⟩ : ∃ R0 : World, R0 = w.alloc (.cells #[.slice A L.length c] 24) := ⟨_, rfl⟩
  have hu : UAt w R0 A c L := hR0 ▸ UAt.of ha
  have HU := Lib.hid hu
  have HR0 := Lib.hid hR0
  have KF : Hid (∀ W, Hid (Below R0.heap.size R0 W) → Calls Try.prog 38 #[.agg #[.slice A L.length c]] W fun e w' => ∃ fn b, e = .returned (.func (.func fn) #[] #[.pointer (some ⟨b, 0, none⟩)]) ∧ Hid (fn = 47 ∨ fn = 49) ∧ Hid (IsFinder fn b L w') ∧ Hid (Below R0.heap.size R0 w') ∧ w'.cell? ⟨w.heap.size, 0, none⟩ = some (.slice A L.length c)) := fun W hb => (finder_any L A c W (hu.rowAt hb) hfit.cnt hfit.names).mono fun e w' hh => by
    obtain ⟨fn, b, h1, h2, h3, h4⟩ := hh
    have h5 : Below R0.heap.size R0 w' := hb.out.trans (h4.out.mono hb.out.size)
    exact ⟨fn, b, h1, h2, h3, h5, hu.cell _ h5⟩
  have KC : Hid (∀ W fn b, Hid (fn = 47 ∨ fn = 49) → Hid (IsFinder fn b L W) → Hid (Below R0.heap.size R0 W) → Calls Try.prog 37 #[.agg #[.slice A L.length c], .int .i64 d0, .func (.func fn) #[] #[.pointer (some ⟨b, 0, none⟩)]] W fun e w' => ∃ A' c', e = .returned (.slice A' (chainT L d0).length c') ∧ Hid (IRow R0.heap.size w' A' c' (chainT L d0)) ∧ Hid (Below R0.heap.size R0 w')) := fun W fn b h1 h2 hb => (chain_any L A c d0 fn b W (hu.rowAt hb) hfit.cnt hfit.bases h2.out h1.out).mono fun e w' hh => by
    obtain ⟨A', c', k1, k2, k3⟩ := hh
    exact ⟨A', c', k1, ⟨ownsRow_lower hb.out.size k2.1, k2.2⟩, hb.out.trans (k3.mono hb.out.size)⟩
  have y0 := hu.cell _ (Below.refl _ _)
  have HB0 : Hid (Below R0.heap.size R0 R0) := Below.refl _ _
  obtain ⟨r, hr0⟩ : ∃ r, r = chainT L d0 := ⟨_, rfl⟩
  rw [← hr0] at KC ⊢
  clear hr0 ha hu hfit hR0
  unfold ISays
  rw [HR0.out] at y0
  go_enter Try.func13, Try.ntmps13
  go_wp2_with fail
  rw [← HR0.out] at y0 ⊢
  go_region_held3 (fun w' => w'.cell? ⟨w.heap.size, 0, none⟩ = some (.slice A L.length c))
    (first | exact y0 | exact z0 | exact z1)
    (first
      | (go_at_call 38; refine (KF.out _ (by first | exact HB0 | exact Below.drew HB0)).mono ?_; rintro e2 w2 ⟨fn, b, rfl, hfn, hfi, hb2, z0⟩)
      | (go_at_call 37; refine (KC.out _ _ _ hfn hfi hb2).mono ?_; rintro e3 w3 ⟨A3, c3, rfl, hr3, hb3⟩; have z1 := HU.out.cell _ hb3.out))
  all_goals
    clear y0 z0 z1
    go_wp2_with fail
    go_ret
    exact ⟨A3, c3, rfl, ⟨ownsRow_lower HU.out.below.size hr3.out.1, hr3.out.2⟩, HU.out.out hb3.out⟩
end Go.Proofs.Ytoammjghgdgdiaa
