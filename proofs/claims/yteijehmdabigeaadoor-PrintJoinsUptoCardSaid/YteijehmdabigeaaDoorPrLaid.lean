/-
  What the rows' listed variables give the walks of layer 5; a start that meets the condition.
-/
import Derived.Test.YteijehmdabigeaaDoorRows
import Derived.Test.YteijehmdabigeaaDoorPrSmall
import Derived.ProofKit
import Derived.OpenShut
import Derived.LaidMore
import Derived.LaidHandle
import Derived.LaidLaws
import Derived.ChangeVars
import Derived.Lib.LaidTab
import Derived.Stop.Joined
import Derived.Stop.LaidErr
namespace Go.Proofs.YteijehmdabigeaaDoor
open Go Go.ChangeShapes Go.WideShapes Go.RowKit

theorem own : ownKnob Tryd.prog.godebug = none := by kernel_rfl
theorem gPowType : (Tryd.prog.globals[3]?).map (·.type) = some 119 := by kernel_rfl
theorem gOpsType : (Tryd.prog.globals[0]?).map (·.type) = some 99 := by kernel_rfl
theorem gBlkType : (Tryd.prog.globals[1]?).map (·.type) = some 101 := by kernel_rfl
theorem cellsU64 : Tryd.prog.cellsOf 87 = 1 := by kernel_rfl
theorem cellsPow : Tryd.prog.cellsOf 119 = 20 := by kernel_rfl
theorem cellsStr1 : Tryd.prog.cellsOf 9 = 1 := by kernel_rfl
theorem cellsOps : Tryd.prog.cellsOf 99 = 15 := by kernel_rfl
theorem cellsBlk : Tryd.prog.cellsOf 101 = 8 := by kernel_rfl

/-- an array of strings that reads as a table holds the table's texts. -/
theorem cells_of_strs {H : Type} {enc : TypeId × Value → H} {P : Program} {w : World} {base : Nat} {sp : Nat → Bool} {held : Bool} {fuel : Nat} {t e : TypeId} {n : Nat} {cs : List Value} {zs : List (List UInt8)} {p : List MemPlace}
    (ht : P.underlying t = some (.array n e)) (he : P.underlying e = some .string) (hce : P.cellsOf e = 1) (hct : P.cellsOf t = n)
    (h : DataW.trod enc P w base sp held fuel t cs = some (.agg (zs.map fun z => .lit (.string z)), p)) : cs = zs.map fun z => Value.string ⟨z.toArray⟩ := by
  cases fuel with
  | zero => simp [DataW.trod] at h
  | succ fuel =>
    simp only [DataW.trod, ht, hce, hct, Nat.mul_one] at h
    split at h
    · rename_i hl
      obtain ⟨xs, hm, hx⟩ := Option.map_eq_some_iff.1 h
      have hxs : xs.map (·.1) = zs.map fun z => (DataW.lit (.string z) : DataW H) := by
        have := congrArg Prod.fst hx
        simpa using this
      have hxl : xs.length = n := by simpa using Lib.mapM_length hm
      have hzl : zs.length = n := by
        have := congrArg List.length hxs
        simp at this
        omega
      apply List.ext_getElem?
      intro i
      by_cases hi : i < n
      · obtain ⟨b, hb, hf⟩ := Lib.mapM_at hm i i (by simp [hi])
        obtain ⟨z, hc, rfl, _⟩ := DataW.trod_string he hf
        have h1 : cs[i]? = some (.string z) := by
          have := congrArg (·[0]?) hc
          simpa [List.getElem?_take, List.getElem?_drop] using this
        have h2 : (xs.map (·.1))[i]? = some (DataW.lit (.string z.data.toList) : DataW H) := by simp [hb]
        rw [hxs] at h2
        simp only [List.getElem?_map, Option.map_eq_some_iff, DataW.lit.injEq, Lit.string.injEq] at h2
        obtain ⟨z', hz', rfl⟩ := h2
        simp [h1, hz']
      · rw [List.getElem?_eq_none (by omega), List.getElem?_eq_none (by simp; omega)]
    · cases h

abbrev twoLaid : List (String × DataW Unit) := [("governor/print.blocks", Rows.laid_governor_print_blocks), ("governor/print.operators", Rows.laid_governor_print_operators)]
abbrev threeLaid : List (String × DataW Unit) := ("internal/strconv.uint64pow10", Rows.laid_internal_strconv_uint64pow10) :: twoLaid
abbrev fiveLaid : List (String × DataW Unit) := ("math/bits.deBruijn32tab", Rows.laid_math_bits_deBruijn32tab) :: ("math/bits.deBruijn64tab", Rows.laid_math_bits_deBruijn64tab) :: threeLaid

def opLists : List (List UInt8) := [[], [43], [45], [42], [47], [77, 79, 68], [61], [60, 62], [60], [60, 61], [62], [62, 61], [65, 78, 68], [79, 82], [88, 79, 82]]
def blkLists : List (List UInt8) := [[], [84, 79, 78], [84, 79, 70], [84, 80], [67, 84, 85], [67, 84, 68], [82, 95, 84, 82, 73, 71], [70, 95, 84, 82, 73, 71]]
theorem strs_of_head {W : World} {name : String} {d : DataW Unit} {rest : List (String × DataW Unit)} {g : Nat} {t e : TypeId} {zs : List (List UInt8)} (hd0 : d = .agg (zs.map fun z => .lit (.string z)))
    (hg : Tryd.prog.globalNamed name = some g) (hty : (Tryd.prog.globals[g]?).map (·.type) = some t) (ht : Tryd.prog.underlying t = some (.array zs.length e)) (he : Tryd.prog.underlying e = some .string) (hce : Tryd.prog.cellsOf e = 1) (hct : Tryd.prog.cellsOf t = zs.length)
    (h : laidMet Tryd.prog ((name, d) :: rest) W) : ∀ k (hk : k < zs.length), W.cell? ⟨g, k, none⟩ = some (.string ⟨(zs[k]).toArray⟩) := by
  obtain ⟨ps, ⟨g', t', cs, fuel, p, q, hg', ht', hvar, hd, _, _⟩, _⟩ := h
  obtain rfl := Option.some.inj (hg.symm.trans hg')
  obtain rfl := Option.some.inj (hty.symm.trans ht')
  rw [hd0] at hd
  have hcs := cells_of_strs (zs := zs) ht he hce hct hd
  intro k hk
  have hv := World.var?_cell hg hvar k
  rw [hv]
  have : cs.toList[k]? = some (.string ⟨(zs[k]).toArray⟩) := by
    rw [hcs, List.getElem?_map, List.getElem?_eq_getElem hk]
    rfl
  simpa using this
theorem opLists_text : ∀ k (hk : k < opLists.length), 0 < k → (⟨(opLists[k]).toArray⟩ : ByteArray) = opText k := by
  intro k hk h0
  have : k < 15 := hk
  match k, this with
  | 1, _ | 2, _ | 3, _ | 4, _ | 5, _ | 6, _ | 7, _ | 8, _ | 9, _ | 10, _ | 11, _ | 12, _ | 13, _ | 14, _ => rfl
theorem blkLists_text : ∀ k (hk : k < blkLists.length), 0 < k → (⟨(blkLists[k]).toArray⟩ : ByteArray) = blockText k := by
  intro k hk h0
  have : k < 8 := hk
  match k, this with
  | 1, _ | 2, _ | 3, _ | 4, _ | 5, _ | 6, _ | 7, _ => rfl
theorem env_of_laid {W : World} (h : laidMetH Tryd.prog fiveLaid W) : Env W.heap.size W := by
  have h5 : laidMet Tryd.prog fiveLaid W := h
  have h3 : laidMet Tryd.prog threeLaid W := laidMet.tail (laidMet.tail h5)
  have hp : Lib.TabIs Tryd.prog W "internal/strconv.uint64pow10" .u64 Lib.pow10Tab := by
    have e : (Rows.laid_internal_strconv_uint64pow10 : DataW Unit) = Lib.tabData .u64 Lib.pow10Tab := by kernel_rfl
    have h3' := h3
    unfold threeLaid at h3'
    rw [e] at h3'
    exact Lib.tabIs_of_head gPow gPowType Tryd.underlying119 Tryd.underlying87 cellsU64 cellsPow h3'
  have h2 : laidMet Tryd.prog twoLaid W := laidMet.tail h3
  have hb := strs_of_head (zs := blkLists) (by rfl) gBlk gBlkType Tryd.underlying101 Tryd.underlying9 cellsStr1 cellsBlk h2
  have ho := strs_of_head (zs := opLists) (by rfl) gOps gOpsType Tryd.underlying99 Tryd.underlying9 cellsStr1 cellsOps (laidMet.tail h2)
  refine ⟨⟨World.block_lt_of_cell? W _ (hp.cell gPow 0 (by decide)), World.block_lt_of_cell? W _ (ho 0 (by decide)), World.block_lt_of_cell? W _ (hb 0 (by decide))⟩, hp, fun k hk h0 => ?_, fun k hk h0 => ?_⟩
  · rw [ho k hk, opLists_text k hk h0]
  · rw [hb k hk, blkLists_text k hk h0]
theorem door_met (os : Os) (args : Array Value) : laidMetH Tryd.prog fiveLaid ((World.doorLaid Tryd.prog 200 os).forCall (fun _ _ => 0) ⟨#[], args, []⟩).memory :=
  laidMet_of_run' 8 (by kernel_rfl) (by kernel_rfl)
end Go.Proofs.YteijehmdabigeaaDoor
