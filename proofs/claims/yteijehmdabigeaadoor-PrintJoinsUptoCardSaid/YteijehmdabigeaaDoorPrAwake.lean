/-
  governorlaw5: awake BY A CONTRACT.
-/
import Derived.Test.YteijehmdabigeaaDoorPrUnit2
namespace Go.Proofs.YteijehmdabigeaaDoor
open Go Go.RowKit

/-- a row that is a block of its own. -/
theorem row_of_block {α : Type} {R : α → List Value → Prop} {W : World} {g B : Nat} {cs : Array Value} {T : TypeId} {fr : Nat × Nat} (hg : g < B) (hs : W.heap[g]? = some (.cells cs T fr)) (l : List α) (sz : Nat) (hsz : cs.size = l.length * sz)
    (h : ∀ (k : Nat) (hk : k < l.length), R l[k] ((cs.toList.drop (k * sz)).take sz)) : RowIn R W B (some ⟨g, 0, none⟩) sz l := by
  intro k hk
  have h1 : (k + 1) * sz ≤ l.length * sz := Nat.mul_le_mul_right _ hk
  have h2 : (k + 1) * sz = k * sz + sz := by rw [Nat.add_mul, Nat.one_mul]
  have hl : ((cs.toList.drop (k * sz)).take sz).length = sz := by
    simp only [List.length_take, List.length_drop, Array.length_toList]
    omega
  refine ⟨g, 0, (cs.toList.drop (k * sz)).take sz, rfl, hg, hl, fun j u hj => ?_, h k hk⟩
  have hjl : j < sz := by
    rcases Nat.lt_or_ge j ((cs.toList.drop (k * sz)).take sz).length with h3 | h3
    · omega
    · rw [List.getElem?_eq_none h3] at hj; cases hj
  rw [List.getElem?_take, if_pos hjl, List.getElem?_drop] at hj
  rw [cell_of_row W g (0 + k * sz + j) cs T fr hs, Nat.zero_add]
  simpa using hj
def awE : ET := .mk 7 0 ⟨#[]⟩ ⟨#[]⟩ [.mk 9 1 ⟨#[]⟩ ⟨#[]⟩ [.mk 5 0 ⟨#[97]⟩ ⟨#[]⟩ [], .mk 1 1 ⟨#[]⟩ ⟨#[]⟩ []]]
def awY : YT := ⟨4, 0, 3, ⟨#[]⟩⟩
def awD : DT := ⟨3, ⟨#[80]⟩, ⟨#[]⟩, [], false, false, [], [], [], 0, 0⟩
theorem dd1 : Lib.decDigits 1 = [49] := by rw [Lib.decDigits_one (by decide)]; rfl
theorem dd3 : Lib.decDigits 3 = [51] := by rw [Lib.decDigits_one (by decide)]; rfl
theorem awE_toks : tE awE = [⟨#[45]⟩, ⟨#[40]⟩, ⟨#[97]⟩, ⟨#[43]⟩, ⟨#[49]⟩, ⟨#[41]⟩] := by
  have h : tInt 1 = [⟨#[49]⟩] := by unfold tInt; rw [if_neg (by decide)]; show [(⟨(Lib.decDigits 1).toArray⟩ : ByteArray)] = _; rw [dd1]
  have h1 : tE (.mk 1 1 ⟨#[]⟩ ⟨#[]⟩ []) = [⟨#[49]⟩] := by rw [tE]; exact h
  have h2 : tE (.mk 5 0 ⟨#[97]⟩ ⟨#[]⟩ []) = [⟨#[97]⟩] := by rw [tE]; rfl
  have h3 : tE (.mk 9 1 ⟨#[]⟩ ⟨#[]⟩ [.mk 5 0 ⟨#[97]⟩ ⟨#[]⟩ [], .mk 1 1 ⟨#[]⟩ ⟨#[]⟩ []]) = [⟨#[97]⟩, ⟨#[43]⟩, ⟨#[49]⟩] := by
    rw [tE, tEk, tOs_nth, tOs_nth]
    show tO (.mk 5 0 ⟨#[97]⟩ ⟨#[]⟩ []) ++ [opText 1] ++ tO (.mk 1 1 ⟨#[]⟩ ⟨#[]⟩ []) = _
    rw [tO, tO, h1, h2]
    rfl
  unfold awE
  rw [tE, tEk, tOs_nth]
  show [(⟨#[45]⟩ : ByteArray)] ++ tO (.mk 9 1 ⟨#[]⟩ ⟨#[]⟩ [.mk 5 0 ⟨#[97]⟩ ⟨#[]⟩ [], .mk 1 1 ⟨#[]⟩ ⟨#[]⟩ []]) = _
  rw [tO, h3]
  rfl
theorem awY_toks : tY awY = [⟨#[65, 82, 82, 65, 89]⟩, ⟨#[91]⟩, ⟨#[51]⟩, ⟨#[93]⟩, ⟨#[79, 70]⟩, ⟨#[73, 78, 84]⟩] := by
  have h : tInt 3 = [⟨#[51]⟩] := by unfold tInt; rw [if_neg (by decide)]; show [(⟨(Lib.decDigits 3).toArray⟩ : ByteArray)] = _; rw [dd3]
  unfold awY tY
  show [(⟨#[65, 82, 82, 65, 89]⟩ : ByteArray), ⟨#[91]⟩] ++ tInt 3 ++ [⟨#[93]⟩, ⟨#[79, 70]⟩, ⟨#[73, 78, 84]⟩] = _
  rw [h]
  rfl
theorem awD_toks : tD awD = [⟨#[80, 82, 79, 71, 82, 65, 77]⟩, ⟨#[80]⟩, ⟨#[59]⟩, ⟨#[69, 78, 68, 95, 80, 82, 79, 71, 82, 65, 77]⟩] := by
  unfold awD tD
  show [(⟨#[80, 82, 79, 71, 82, 65, 77]⟩ : ByteArray), ⟨#[80]⟩, ⟨#[59]⟩] ++ tVs [] ++ tL [] ++ [⟨#[69, 78, 68, 95, 80, 82, 79, 71, 82, 65, 77]⟩] = _
  simp [tVs, tL]
theorem awE_text : (⟨(joined (tE awE)).toArray⟩ : ByteArray) = ⟨#[45, 32, 40, 32, 97, 32, 43, 32, 49, 32, 41]⟩ := by rw [awE_toks]; rfl
theorem awY_text : (⟨(joined (tY awY)).toArray⟩ : ByteArray) = ⟨#[65, 82, 82, 65, 89, 32, 91, 32, 51, 32, 93, 32, 79, 70, 32, 73, 78, 84]⟩ := by rw [awY_toks]; rfl
theorem awU_text : (⟨(tU [awD]).toArray⟩ : ByteArray) = ⟨#[80, 82, 79, 71, 82, 65, 77, 32, 80, 32, 59, 32, 69, 78, 68, 95, 80, 82, 79, 71, 82, 65, 77, 10]⟩ := by
  unfold tU
  rw [List.flatMap_cons, List.flatMap_nil, awD_toks]
  rfl

set_option maxHeartbeats 2000000 in
set_option maxRecDepth 100000 in
theorem awake_any (w : World) (hE : Env w.heap.size w) : Calls Tryd.prog 7 #[] w fun e w' => e = .returned (.bool true) ∧ Below w.heap.size w w' := by
  have HE := Lib.hid hE
  clear hE
  have KE : Hid (∀ W : World, W = ((w.alloc (.cells #[.int .i64 5, .int .i64 0, .string ⟨#[97]⟩, .string ⟨#[]⟩, .slice none 0 0, .int .i64 1, .int .i64 1, .string ⟨#[]⟩, .string ⟨#[]⟩, .slice none 0 0] 27)).alloc (.cells #[.int .i64 9, .int .i64 1, .string ⟨#[]⟩, .string ⟨#[]⟩, .slice (some ⟨w.heap.size, 0, none⟩) 2 2] 27)).alloc (.cells #[.int .i64 7, .int .i64 0, .string ⟨#[]⟩, .string ⟨#[]⟩, .slice (some ⟨w.heap.size + 1, 0, none⟩) 1 1] 27) →
      Calls Tryd.prog 10 #[.agg #[.int .i64 7, .int .i64 0, .string ⟨#[]⟩, .string ⟨#[]⟩, .slice (some ⟨w.heap.size + 1, 0, none⟩) 1 1]] W fun e w' => e = .returned (.string ⟨#[45, 32, 40, 32, 97, 32, 43, 32, 49, 32, 41]⟩) ∧ Hid (Below w.heap.size w w')) := by
    intro W hW
    have hb : Below w.heap.size w W := by
      rw [hW]
      exact (((Below.refl _ _).alloc (Nat.le_refl _) _).alloc (by simp) _).alloc (by simp; omega) _
    have hs : W.heap.size = w.heap.size + 3 := by rw [hW]; simp
    have i64 : ∀ n : Nat, n < 100 → I64 n := fun n h => ⟨by omega, by omega⟩
    have s0 : W.heap[w.heap.size]? = some (.cells #[.int .i64 5, .int .i64 0, .string ⟨#[97]⟩, .string ⟨#[]⟩, .slice none 0 0, .int .i64 1, .int .i64 1, .string ⟨#[]⟩, .string ⟨#[]⟩, .slice none 0 0] 27 (0, 0)) := by
      rw [hW, Below.heap_alloc _ _ _ (by simp; omega), Below.heap_alloc _ _ _ (by simp)]
      exact heap_alloc_new w _
    have s1 : W.heap[w.heap.size + 1]? = some (.cells #[.int .i64 9, .int .i64 1, .string ⟨#[]⟩, .string ⟨#[]⟩, .slice (some ⟨w.heap.size, 0, none⟩) 2 2] 27 (0, 0)) := by
      rw [hW, Below.heap_alloc _ _ _ (by simp)]
      have := heap_alloc_new (w.alloc (.cells #[.int .i64 5, .int .i64 0, .string ⟨#[97]⟩, .string ⟨#[]⟩, .slice none 0 0, .int .i64 1, .int .i64 1, .string ⟨#[]⟩, .string ⟨#[]⟩, .slice none 0 0] 27)) (.cells #[.int .i64 9, .int .i64 1, .string ⟨#[]⟩, .string ⟨#[]⟩, .slice (some ⟨w.heap.size, 0, none⟩) 2 2] 27)
      rw [heap_alloc_size] at this
      exact this
    have none_row : ∀ A, EsR W W.heap.size A [] := fun A k hk => by simp at hk
    have e1 : EIn W W.heap.size (.mk 5 0 ⟨#[97]⟩ ⟨#[]⟩ []) [.int .i64 5, .int .i64 0, .string ⟨#[97]⟩, .string ⟨#[]⟩, .slice none 0 0] := EIn.of_form none 0 (i64 0 (by decide)) (none_row _)
    have e2 : EIn W W.heap.size (.mk 1 1 ⟨#[]⟩ ⟨#[]⟩ []) [.int .i64 1, .int .i64 1, .string ⟨#[]⟩, .string ⟨#[]⟩, .slice none 0 0] := EIn.of_form none 0 (i64 1 (by decide)) (none_row _)
    have r2 : EsR W W.heap.size (some ⟨w.heap.size, 0, none⟩) [.mk 5 0 ⟨#[97]⟩ ⟨#[]⟩ [], .mk 1 1 ⟨#[]⟩ ⟨#[]⟩ []] := row_of_block (by omega) s0 _ 5 rfl (fun k hk => by
      match k, hk with
      | 0, _ => exact e1
      | 1, _ => exact e2)
    have e3 : EIn W W.heap.size (.mk 9 1 ⟨#[]⟩ ⟨#[]⟩ [.mk 5 0 ⟨#[97]⟩ ⟨#[]⟩ [], .mk 1 1 ⟨#[]⟩ ⟨#[]⟩ []]) [.int .i64 9, .int .i64 1, .string ⟨#[]⟩, .string ⟨#[]⟩, .slice (some ⟨w.heap.size, 0, none⟩) 2 2] := EIn.of_form _ 2 (i64 1 (by decide)) r2
    have r3 : EsR W W.heap.size (some ⟨w.heap.size + 1, 0, none⟩) [.mk 9 1 ⟨#[]⟩ ⟨#[]⟩ [.mk 5 0 ⟨#[97]⟩ ⟨#[]⟩ [], .mk 1 1 ⟨#[]⟩ ⟨#[]⟩ []]] := row_of_block (by omega) s1 _ 5 rfl (fun k hk => by
      match k, hk with
      | 0, _ => exact e3)
    have e4 : EIn W W.heap.size awE [.int .i64 7, .int .i64 0, .string ⟨#[]⟩, .string ⟨#[]⟩, .slice (some ⟨w.heap.size + 1, 0, none⟩) 1 1] := EIn.of_form _ 1 (i64 0 (by decide)) r3
    have K := Expr_any awE W _ ((HE.out.below hb).mono hb.size) e4 (by rw [awE_toks]; decide) (by rw [awE_toks]; decide)
    refine K.mono fun e w' hh => ⟨?_, hb.trans (hh.2.mono hb.size)⟩
    rw [hh.1, awE_text]
  have KY : Hid (∀ W : World, Hid (Below w.heap.size w W) → Calls Tryd.prog 12 #[.agg #[.int .i64 4, .int .i64 0, .int .i64 3, .string ⟨#[]⟩]] W fun e w' => e = .returned (.string ⟨#[65, 82, 82, 65, 89, 32, 91, 32, 51, 32, 93, 32, 79, 70, 32, 73, 78, 84]⟩) ∧ Hid (Below w.heap.size w w')) := by
    intro W hb
    have K := Type_any awY W ((HE.out.below hb.out).mono hb.out.size) ⟨⟨by decide, by decide⟩, ⟨by decide, by decide⟩⟩ (by rw [awY_toks]; decide) (by rw [awY_toks]; decide)
    refine K.mono fun e w' hh => ⟨?_, hb.out.trans (hh.2.mono hb.out.size)⟩
    rw [hh.1, awY_text]
  have KU : Hid (∀ W : World, Hid (Below w.heap.size w W) → Calls Tryd.prog 8 #[.agg #[.slice (some ⟨W.heap.size, 0, none⟩) 1 1]] (W.alloc (.cells #[.int .i64 3, .string ⟨#[80]⟩, .string ⟨#[]⟩, .slice none 0 0, .bool false, .bool false, .slice none 0 0, .slice none 0 0, .slice none 0 0, .int .i64 0, .int .i64 0] 48)) fun e w' => e = .returned (.string ⟨#[80, 82, 79, 71, 82, 65, 77, 32, 80, 32, 59, 32, 69, 78, 68, 95, 80, 82, 79, 71, 82, 65, 77, 10]⟩) ∧ Hid (Below w.heap.size w w')) := by
    intro W hb
    obtain ⟨V, hV⟩ : ∃ V, V = W.alloc (.cells #[.int .i64 3, .string ⟨#[80]⟩, .string ⟨#[]⟩, .slice none 0 0, .bool false, .bool false, .slice none 0 0, .slice none 0 0, .slice none 0 0, .int .i64 0, .int .i64 0] 48) := ⟨_, rfl⟩
    have hbV : Below w.heap.size w V := by rw [hV]; exact hb.out.alloc hb.out.size _
    have hsV : V.heap.size = W.heap.size + 1 := by rw [hV]; simp
    have s0 : V.heap[W.heap.size]? = some (.cells #[.int .i64 3, .string ⟨#[80]⟩, .string ⟨#[]⟩, .slice none 0 0, .bool false, .bool false, .slice none 0 0, .slice none 0 0, .slice none 0 0, .int .i64 0, .int .i64 0] 48 (0, 0)) := by rw [hV]; exact heap_alloc_new W _
    rw [← hV]
    have i0 : I64 0 := ⟨by decide, by decide⟩
    have r : DsR V V.heap.size (some ⟨W.heap.size, 0, none⟩) [awD] := row_of_block (by omega) s0 _ 11 rfl (fun k hk => by
      match k, hk with
      | 0, _ => exact ⟨none, 0, none, 0, none, 0, none, 0, rfl, i0, i0, fun k hk => by simp [awD] at hk, fun k hk => by simp [awD] at hk, fun k hk => by simp [awD] at hk, fun k hk => by simp [awD] at hk⟩)
    have K := Unit_any [awD] (some ⟨W.heap.size, 0, none⟩) 1 V ((HE.out.below hbV).mono hbV.size) r (fun k hk => by
      match k, hk with
      | 0, _ => show (tD awD).length + 1 ≤ few; rw [awD_toks]; decide) (by unfold tU; rw [List.flatMap_cons, List.flatMap_nil, awD_toks]; decide)
    refine K.mono fun e w' hh => ⟨?_, hbV.trans (hh.2.mono hbV.size)⟩
    rw [hh.1, awU_text]
  clear HE
  go_enter Tryd.func7, Tryd.ntmps7
  go_wp2_with fail
  refine (KE.out _ rfl).mono ?_
  rintro e1 w1 ⟨rfl, HB1⟩
  clear KE
  go_wp2_with fail
  refine (KY.out _ HB1).mono ?_
  rintro e2 w2 ⟨rfl, HB2⟩
  clear KY HB1
  go_wp2_with fail
  refine (KU.out _ HB2).mono ?_
  rintro e3 w3 ⟨rfl, HB3⟩
  clear KU HB2
  go_wp2_with fail
  go_ret
  exact ⟨rfl, HB3.out⟩
end Go.Proofs.YteijehmdabigeaaDoor
