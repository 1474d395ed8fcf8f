/-
  lookup: an index finds BY A CONTRACT: a small unit.
-/
import Derived.Test.YtkpieolmepngjaaLkFind0
namespace Go.Proofs.Ytkpieolmepngjaa
open Go Go.RowKit
set_option linter.unusedVariables false
set_option linter.unusedSimpArgs false

theorem map_nil (m : Option Nat) (w : World) : (binOp .eql 101 (.map m) (.map none)).run Try.prog w = .ok (.bool (m == none)) w := by
  cases m <;> kernel_rfl
/-- what is answered of a name: its declaration's number. -/
def XFinds (L : List DT) (A : Option Addr) (c p N : Nat) (W : World) (I : IX) (s : ByteArray) (e : Ending) (w' : World) : Prop := ∃ I', e = .returned (.int .i64 (findT L s)) ∧ Hid (XAt L A c p N w' I') ∧ Hid (XTo p W I w' I')
set_option maxHeartbeats 1000000 in
set_option maxRecDepth 100000 in
theorem lkFind_few (L : List DT) (A : Option Addr) (c p N : Nat) (I : IX) (s : ByteArray) (w : World) (h : XAt L A c p N w I) (hcnt : L.length ≤ 1000000000) (hfew : L.length ≤ 32) :
    Calls Try.prog 69 #[.pointer (some ⟨p, 0, none⟩), .string s] w fun e w' => e = .returned (.int .i64 (findT L s)) ∧ Hid (XAt L A c p N w' I) ∧ Hid (XTo p w I w' I) := by
  obtain ⟨R0, hR0⟩ : ∃ R0 : World, R0 = w.alloc (.cells #[.pointer (some ⟨p, 0, none⟩)] 82) := ⟨_, rfl⟩
  have hb0 : Below w.heap.size w R0 := by rw [hR0]; exact (Below.refl _ _).alloc (Nat.le_refl _) _
  have hg : R0.heap[w.heap.size]? = some (.cells #[.pointer (some ⟨p, 0, none⟩)] 82 (0, 0)) := by rw [hR0]; exact heap_alloc_new w _
  have yx : R0.cell? ⟨w.heap.size, 0, none⟩ = some (.pointer (some ⟨p, 0, none⟩)) := by rw [cell_of_row _ _ 0 _ _ _ hg]; rfl
  have hx := h.below hb0
  have y0 := hx.c0
  have q : (L.length : Int) ≤ 32 := by omega
  have KF : Hid (∀ W, Below R0.heap.size R0 W → Calls Try.prog 54 #[.agg #[.slice A L.length c], .string s] W fun e w' => e = .returned (.int .i64 (findT L s)) ∧ Hid (XAt L A c p N w' I) ∧ Hid (Below R0.heap.size R0 w')) := fun W hW => (lkFind0_any L A c s W ((hx.below hW).rowAt) hcnt).mono fun e w' hh => ⟨hh.1, (hx.below hW).below hh.2, hW.trans (hh.2.mono hW.size)⟩
  have HB := Lib.hid hb0
  have HR0 := Lib.hid hR0
  clear h hx hg hb0
  rw [hR0] at y0 yx
  clear hR0
  go_enter Try.func69, Try.ntmps69
  go_wp2_with fail
  rw [← HR0.out]
  refine (KF.out _ (Below.refl _ _)).mono ?_
  rintro e1 w1 ⟨rfl, hx1, hb1⟩
  go_wp2_with fail
  go_ret
  exact ⟨rfl, hx1, XTo.of_below (HB.out.trans (hb1.out.mono HB.out.size))⟩
end Go.Proofs.Ytkpieolmepngjaa
