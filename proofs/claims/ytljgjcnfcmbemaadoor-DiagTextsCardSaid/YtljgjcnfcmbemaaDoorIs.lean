/-
  errors.Is BY ITS CONTRACT over a chain of errors: at what diag.Of makes it tells whether the chain has the code.
-/
import Derived.Test.YtljgjcnfcmbemaaDoorDiag
import Derived.Deep.LoopGhost
import Derived.BigFrame
namespace Go.Proofs.YtljgjcnfcmbemaaDoor
open Go.RowKit Go.Extern.Stop Go.Stop Go.Extern

/-- v is a chain of errors, each in a block below B: 'some (code, place)' an Error, 'none' one of another type round the next. -/
def Chn (w : World) (B : Nat) : List (Option (Int × Int)) → Value → Prop
  | [], v => v = .nilIface
  | some x :: r, v => ∃ b u, v = errv b ∧ b < B ∧ IsErr w b x.1 x.2 u ∧ Chn w B r u
  | none :: r, v => ∃ u, v = .iface 57 (.agg #[u]) ∧ Chn w B r u

def hasCode (k : Int) : List (Option (Int × Int)) → Bool
  | [] => false
  | some x :: r => k == x.1 || hasCode k r
  | none :: r => hasCode k r

theorem Chn.below {w w' : World} {B C : Nat} (hb : Below C w w') (hBC : B ≤ C) : ∀ {l : List (Option (Int × Int))} {v : Value}, Chn w B l v → Chn w' B l v
  | [], _, h => h
  | some _ :: _, _, ⟨b, u, h1, h2, h3, h4⟩ => ⟨b, u, h1, h2, h3.below hb (by omega), Chn.below hb hBC h4⟩
  | none :: _, _, ⟨u, h1, h2⟩ => ⟨u, h1, Chn.below hb hBC h2⟩
theorem Chn.shape {w : World} {B : Nat} {l : List (Option (Int × Int))} {v : Value} (h : Chn w B l v) : (l = [] ∧ v = .nilIface) ∨ (l ≠ [] ∧ ∃ t x, v = .iface t x) := by
  match l, h with
  | [], h => exact Or.inl ⟨rfl, h⟩
  | some _ :: _, ⟨b, u, h1, _⟩ => exact Or.inr ⟨by simp, _, _, h1⟩
  | none :: _, ⟨u, h1, _⟩ => exact Or.inr ⟨by simp, _, _, h1⟩
theorem HasErrorType.below {w w' : World} {B : Nat} (h : HasErrorType w) (hb : Below B w w') (hB : w.heap.size ≤ B) : HasErrorType w' := by
  have hl := lt_of_cell h
  unfold HasErrorType at *
  rw [hb.cell (p := ⟨0, 0, none⟩) (by simp at hl ⊢; omega)]; exact h

theorem Tryd.hasIsE (v : Value) (xT : TypeId) (w : World) : (Instr.typeAssert (.iface 45 v) xT 76 true).run Tryd.prog w = .ok (.tuple #[.iface 45 v, .bool true]) w := run_typeAssert_hasB Tryd.underlying76 (by kernel_rfl) v xT w
theorem Tryd.hasUnwrapE (v : Value) (xT : TypeId) (w : World) : (Instr.typeAssert (.iface 45 v) xT 62 true).run Tryd.prog w = .ok (.tuple #[.iface 45 v, .bool true]) w := run_typeAssert_hasB Tryd.underlying62 (by kernel_rfl) v xT w
theorem Tryd.noIsO (v : Value) (xT : TypeId) (w : World) : (Instr.typeAssert (.iface 57 v) xT 76 true).run Tryd.prog w = .ok (.tuple #[.nilIface, .bool false]) w := run_typeAssert_lacksB Tryd.underlying76 (by kernel_rfl) (by kernel_rfl) v xT w
theorem Tryd.methodIsE (a : Addr) (w : World) : (Go.method 245 45 (.pointer (some a)) "Is").run Tryd.prog w = .ok (22, .pointer (some a)) w := by kernel_rfl
theorem Tryd.methodUnwrapE (a : Addr) (w : World) : (Go.method 245 45 (.pointer (some a)) "Unwrap").run Tryd.prog w = .ok (21, .pointer (some a)) w := by kernel_rfl

theorem run_eql_err_other {b q : Nat} {c a c2 a2 : Int} {v v2 : Value} (w : World) (hb : IsErr w b c a v) (hq : IsErr w q c2 a2 v2) (hne : b ≠ q) :
    (binOp .eql 27 (errv b) (errv q)).run Tryd.prog w = .ok (.bool false) w := by
  obtain ⟨i, hi, hcmp⟩ := Option.map_eq_some_iff.1 Tryd.compE
  obtain ⟨j, hj, hjs⟩ := Option.map_eq_some_iff.1 Tryd.sizeErr
  exact run_eql_iface_ptr_other (P := Tryd.prog) w Tryd.underlying27 Tryd.underlying45 hi hcmp hj (by rw [hjs]; decide) (fun e => hne (congrArg Addr.block e)) hb hq

set_option maxHeartbeats 4000000 in
theorem is25 (k : Int) (q B : Nat) (l : List (Option (Int × Int))) (v : Value) (w : World) (hg : HasErrorType w) (hq : IsErr w q k (-1) .nilIface) (hB : B ≤ q) (hc : Chn w B l v) (hne : l ≠ []) :
    Calls Tryd.prog 25 #[v, errv q, .bool true] w fun e w' => e = .returned (.bool (hasCode k l)) ∧ Below w.heap.size w w' := by
  have HG := Lib.hid hg
  have HQ := Lib.hid hq
  have HC := Lib.hid hc
  have HN := Lib.hid hne
  have hql := hq.lt
  clear hg hq hc hne
  have mI := Tryd.methodIsE
  have mU := Tryd.methodUnwrapE
  have aI := Tryd.hasIsE
  have aU := Tryd.hasUnwrapE
  have nO := Tryd.noIsO
  have uO := Tryd.hasUnwrapO
  have mO := Tryd.methodUnwrapO
  have hty := fun (u v : Value) (w : World) => run_eql_iface_types (P := Tryd.prog) 57 45 u v Tryd.underlying27 (by decide) w
  go_enter Tryd.func25, Tryd.ntmps25
  go_wp2
  go_loopg [0] l.length (fun n u wr => ∃ r, Hid (r.length = n ∧ r ≠ [] ∧ hasCode k r = hasCode k l ∧ Chn wr B r u) ∧ Hid (Below w.heap.size w wr))
  case atStart => exact ⟨l, ⟨rfl, HN.out, rfl, HC.out⟩, Below.refl _ _⟩
  case round =>
    obtain ⟨r, hr, hb⟩ := hrel
    have HG2 : Hid (HasErrorType wr) := HG.out.below hb.out (Nat.le_refl _)
    have HQ2 : Hid (IsErr wr q k (-1) .nilIface) := HQ.out.below hb.out hql
    obtain ⟨hlen, hrn, hcode, hch⟩ := hr.out
    clear hr HG HQ HC HN
    have HL := Lib.hid hlen
    have HK := Lib.hid hcode
    clear hlen hcode
    cases r with
    | nil => exact absurd rfl hrn
    | cons y r' =>
      clear hrn
      cases y with
      | some x =>
        obtain ⟨c, a⟩ := x
        obtain ⟨b, u', rfl, hbB, he, hrest⟩ := hch
        have heq := run_eql_err_other wr he HQ2.out (by omega)
        have HE := Lib.hid he
        have HR := Lib.hid hrest
        clear he hrest
        by_cases hk : k = c
        · subst hk
          go_wp2_with (go_at_call 22; refine (is_yes b q k a u' wr HG2.out HE.out HQ2.out).mono ?_; rintro e1 w1 ⟨rfl, hw1⟩; have HW := Lib.hid hw1; clear hw1)
          go_ret
          exact ⟨by rw [← HK.out]; simp [hasCode], hb.out.trans (HW.out.mono hb.out.size)⟩
        · have HKC := Lib.hid hk
          clear hk
          rcases HR.out.shape with ⟨h1, h2⟩ | ⟨h1, t, x, h2⟩
          · subst h2
            have H1 := Lib.hid h1
            clear h1
            go_wp2_with (first | (go_at_call 22; refine (is_no b q c k a _ wr HG2.out HE.out HQ2.out HKC.out).mono ?_; rintro e1 w1 ⟨rfl, hw1⟩; have HW := Lib.hid hw1; clear hw1) | (go_at_call 21; refine (unwrap_any b c a _ _ (HE.out.below HW.out HE.out.lt)).mono ?_; rintro e2 w2 ⟨rfl, rfl⟩))
            go_ret
            exact ⟨by rw [← HK.out, H1.out]; simp [hasCode, HKC.out], hb.out.trans (HW.out.mono hb.out.size)⟩
          · subst h2
            have H1 := Lib.hid h1
            clear h1
            go_wp2_with (first | (go_at_call 22; refine (is_no b q c k a _ wr HG2.out HE.out HQ2.out HKC.out).mono ?_; rintro e1 w1 ⟨rfl, hw1⟩; have HW := Lib.hid hw1; clear hw1) | (go_at_call 21; refine (unwrap_any b c a _ _ (HE.out.below HW.out HE.out.lt)).mono ?_; rintro e2 w2 ⟨rfl, rfl⟩))
            go_roundg r'.length
            case measure => have := HL.out; simp at this; omega
            case rel => exact ⟨r', ⟨rfl, H1.out, by rw [← HK.out]; simp [hasCode, HKC.out], HR.out.below HW.out (by have := hb.out.size; omega)⟩, hb.out.trans (HW.out.mono hb.out.size)⟩
      | none =>
        obtain ⟨u', rfl, hrest⟩ := hch
        have HR := Lib.hid hrest
        clear hrest
        have mO2 := mO u'
        rcases HR.out.shape with ⟨h1, h2⟩ | ⟨h1, t, x, h2⟩
        · subst h2
          have H1 := Lib.hid h1
          clear h1
          go_wp2_with (go_at_call 72; refine (unwrap_other _ _).mono ?_; rintro e2 w2 ⟨rfl, rfl⟩)
          go_ret
          exact ⟨by rw [← HK.out, H1.out]; simp [hasCode], hb.out.alloc hb.out.size _⟩
        · subst h2
          have H1 := Lib.hid h1
          clear h1
          go_wp2_with (go_at_call 72; refine (unwrap_other _ _).mono ?_; rintro e2 w2 ⟨rfl, rfl⟩)
          go_roundg r'.length
          case measure => have := HL.out; simp at this; omega
          case rel => exact ⟨r', ⟨rfl, H1.out, by rw [← HK.out]; simp [hasCode], HR.out.below ((Below.refl _ _).alloc (Nat.le_refl _) _) (by have := hb.out.size; omega)⟩, hb.out.alloc hb.out.size _⟩
end Go.Proofs.YtljgjcnfcmbemaaDoor
