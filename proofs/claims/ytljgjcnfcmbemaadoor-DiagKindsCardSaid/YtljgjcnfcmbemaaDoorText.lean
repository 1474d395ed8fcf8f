/-
  diag's texts BY CONTRACTS: strconv.AppendInt at small numbers; appendText over a chain of diag's own errors; Error.
-/
import Derived.Test.YtljgjcnfcmbemaaDoorIs2
import Derived.Test.YtljgjcnfcmbemaaDoorShelf
import Derived.Lib.AppendStr
import Derived.Lib.AppendIntMem
import Derived.Lib.ItoaLen
import Derived.Lib.Slices
import Derived.Laws.IdiomStrings
import Derived.OwnWalk
import Derived.BigCall
namespace Go.Proofs.YtljgjcnfcmbemaaDoor
open Go.RowKit Go.Extern.Stop Go.Stop Go.Extern

theorem Tryd.infoByte : (Tryd.prog.info? 5).map (fun i => (i.zero, i.size, i.bytes)) = some (some (.int .u8 0), 1, 1) := by kernel_rfl

/-- an owned row stays one where all that was there stays. -/
theorem ownsRow_below {w w' : World} {base n : Nat} {e : TypeId} {size : Nat} {v : Value} {xs : List Value} (h : w.ownsRow base e size v n xs) (hb : Below w.heap.size w w') : w'.ownsRow base e size v n xs := by
  refine ⟨h.1, ?_⟩
  rcases h.2 with hn | ⟨g, cap, cur, rfl, hbg, hgg, rest⟩
  · exact .inl hn
  · refine .inr ⟨g, cap, cur, rfl, hbg, ?_, rest⟩
    rw [hb.block g (Array.getElem?_eq_some_iff.1 hgg).1]
    exact hgg

/-- strconv.AppendInt(.., i, 10) onto rows that lie from B on, in worlds that are w0 below B. -/
def AppOk (B : Nat) (w0 : World) (i : Int) : Prop := ∀ (n : Nat) (sv : Value) (xs : List Value) (w : World), Below B w0 w → w.ownsRow B 5 1 sv n xs → B ≤ w.heap.size → n + 21 ≤ 140737488355328 →
  Calls Tryd.prog 32 #[sv, .int .i64 i, .int .i64 10] w fun e w' => ∃ v', e = .returned v' ∧ w'.ownsRow B 5 1 v' (n + (Lib.itoa i).length) (xs ++ Lib.byteCells (Lib.itoa i)) ∧ Below B w w'

theorem itoa_small (i : Nat) : Lib.itoa i = Lib.decDigits i := by unfold Lib.itoa; rw [if_neg (by omega)]; simp

theorem appOk_small (B : Nat) (w0 : World) (i : Nat) (hi : i < 100) : AppOk B w0 i := by
  intro n sv xs w _ hown hB hlim
  rw [itoa_small]
  have K := Lib.hid (Tryd.internal_strconv_AppendUint_10_small B n i hi sv xs w hown hB (by omega))
  clear hown hB hlim
  go_enter Tryd.func32, Tryd.ntmps32
  go_wp2_with (first | (go_at_call 42; go_in) | (go_at_call 51; refine K.out.mono ?_; rintro e w1 ⟨v1, rfl, hown1, hnx1, -⟩))
  go_ret
  exact ⟨v1, rfl, hown1, hnx1⟩

theorem appOk_any (B : Nat) (w0 : World) (i : Int) (h0 : -9223372036854775808 ≤ i) (h1 : i ≤ 9223372036854775807) (ht : Lib.TabBelow Tryd.prog B w0 "internal/strconv.uint64pow10" .u64 Lib.pow10Tab) : AppOk B w0 i := by
  intro n sv xs w hb hown hB hlim
  refine (Tryd.strconv_AppendInt_10 B n i h0 h1 sv xs w hown hB hlim (ht.on hb)).mono ?_
  rintro e w' ⟨v', h2, h3, h4, _⟩
  exact ⟨v', h2, h3, h4⟩

def codeWord : List UInt8 := [99, 111, 100, 101, 32]
def atWord : List UInt8 := [32, 97, 116, 32]
def sepWord : List UInt8 := [58, 32]
def fineWord : List UInt8 := [102, 105, 110, 101]
/-- what errors that wrap one another say: the code and the place, and behind them what is wrapped. -/
def txt : List (Int × Int) → List UInt8
  | [] => fineWord
  | [x] => codeWord ++ Lib.itoa x.1 ++ atWord ++ Lib.itoa x.2
  | x :: y :: r => codeWord ++ Lib.itoa x.1 ++ atWord ++ Lib.itoa x.2 ++ sepWord ++ txt (y :: r)

/-- where appendText stands: so much is to come, and the rest of the chain. -/
structure TextAt (w wr : World) (B : Nat) (es : List (Int × Int)) (xs0 : List Value) (m : Nat) (r : List (Int × Int)) (b : Nat) (sv : Value) (n : Nat) (xs : List Value) : Prop where
  len : r.length = m
  ne : r ≠ []
  chn : Chn wr B (r.map some) (errv b)
  own : wr.ownsRow B 5 1 sv n xs
  all : xs ++ Lib.byteCells (txt r) = xs0 ++ Lib.byteCells (txt es)
  room : n + 64 * r.length ≤ 140737488355328
  bel : Below B w wr
  sub : ∀ x, x ∈ r → x ∈ es

/-- the row that is handed back holds these cells; what lay below B is as it was. -/
def TextIs (B : Nat) (l : List Value) (w : World) (e : Ending) (w' : World) : Prop := ∃ v' n', e = .returned v' ∧ w'.ownsRow B 5 1 v' n' l ∧ Below B w w'

theorem TextIs.of {B n' : Nat} {l l' : List Value} {w w' : World} {v' : Value} (h : w'.ownsRow B 5 1 v' n' l') (hl : l' = l) (hb : Below B w w') : TextIs B l w (.returned v') w' := ⟨v', n', rfl, hl ▸ h, hb⟩

theorem txt_one (xs : List Value) (c a : Int) : xs ++ Lib.strCells ⟨#[99, 111, 100, 101, 32]⟩ ++ Lib.byteCells (Lib.itoa c) ++ Lib.strCells ⟨#[32, 97, 116, 32]⟩ ++ Lib.byteCells (Lib.itoa a) = xs ++ Lib.byteCells (txt [(c, a)]) := by
  rw [Lib.strCells_eq, Lib.strCells_eq]
  simp [txt, codeWord, atWord, Lib.byteCells]
theorem txt_more (xs : List Value) (c a : Int) (y : Int × Int) (r : List (Int × Int)) : xs ++ Lib.strCells ⟨#[99, 111, 100, 101, 32]⟩ ++ Lib.byteCells (Lib.itoa c) ++ Lib.strCells ⟨#[32, 97, 116, 32]⟩ ++ Lib.byteCells (Lib.itoa a) ++ Lib.strCells ⟨#[58, 32]⟩ ++ Lib.byteCells (txt (y :: r)) = xs ++ Lib.byteCells (txt ((c, a) :: y :: r)) := by
  rw [Lib.strCells_eq, Lib.strCells_eq, Lib.strCells_eq]
  simp [txt, codeWord, atWord, sepWord, Lib.byteCells]

set_option maxHeartbeats 8000000 in
set_option maxRecDepth 100000 in
theorem appendText_chain (B : Nat) (es : List (Int × Int)) (b n0 : Nat) (sv0 : Value) (xs0 : List Value) (w : World) (hg : HasErrorType w) (hgB : w.heap.size = B) (hc : Chn w B (es.map some) (errv b)) (hne : es ≠ [])
    (hown : w.ownsRow B 5 1 sv0 n0 xs0) (hroom : n0 + 64 * es.length ≤ 140737488355328)
    (hA : ∀ x, x ∈ es → AppOk B w x.1 ∧ AppOk B w x.2 ∧ -9223372036854775808 ≤ x.1 ∧ x.1 ≤ 9223372036854775807 ∧ -9223372036854775808 ≤ x.2 ∧ x.2 ≤ 9223372036854775807) :
    Calls Tryd.prog 27 #[sv0, .pointer (some ⟨b, 0, none⟩)] w (TextIs B (xs0 ++ Lib.byteCells (txt es)) w) := by
  obtain ⟨i0, hi, hz0, hz1, hz2⟩ := info_parts Tryd.infoByte
  have HG := Lib.hid hg
  have HA := Lib.hid hA
  have HGB := Lib.hid hgB
  have H0 := Lib.hid (show TextAt w w B es xs0 es.length es b sv0 n0 xs0 from ⟨rfl, hne, hc, hown, rfl, hroom, Below.refl _ _, fun _ h => h⟩)
  clear hg hA hc hne hown hroom hgB
  go_enter Tryd.func27, Tryd.ntmps27
  go_wp2
  go_loopg [0, 1] es.length (fun m t e wr => ∃ r b n xs, e = .pointer (some ⟨b, 0, none⟩) ∧ Hid (TextAt w wr B es xs0 m r b t n xs))
  case atStart => exact ⟨es, b, n0, xs0, rfl, H0.out⟩
  case round =>
    obtain ⟨r, b, n, xs, rfl, hT⟩ := hrel
    have hT0 := hT.out
    cases r with
    | nil => exact absurd rfl hT0.ne
    | cons x r' =>
      obtain ⟨c, a⟩ := x
      obtain ⟨b2, u, hb2, hbB, he, hrest⟩ := hT0.chn
      simp only [errv, Value.iface.injEq, Value.pointer.injEq, Option.some.injEq, Addr.mk.injEq, true_and, and_true] at hb2
      subst hb2
      have hrm : n + 64 * (r'.length + 1) ≤ 140737488355328 := by have := hT0.room; simpa using this
      have hBr : B ≤ wr.heap.size := by have := hT0.bel.size; have := HGB.out; omega
      have hown0 := hT0.own
      have HE := Lib.hid he
      have HR := Lib.hid hrest
      have HM := Lib.hid (HA.out (c, a) (hT0.sub _ (by simp)))
      have hb0 := Lib.hid hT0.bel
      have HL := Lib.hid hT0.len
      have HAll := Lib.hid hT0.all
      have HSub := Lib.hid hT0.sub
      clear hT hT0 he hrest
      have lc := Lib.itoa_length_le c HM.out.2.2.1 HM.out.2.2.2.1
      have la := Lib.itoa_length_le a HM.out.2.2.2.2.1 HM.out.2.2.2.2.2
      go_wp2_with (at_builtin; refine Lib.wpList_append_own_string _ rfl _ _ 67 9 rfl B 5 i0 Tryd.underlying67 Tryd.underlying9 hi hz0 hz1 hz2 _ _ _ rfl hown0 ⟨#[99, 111, 100, 101, 32]⟩ rfl (by simp [ByteArray.size]; unfold maxLen; omega) (by simp [ByteArray.size]; omega) hBr ?_)
      intro v1 w1 hown1 hgrow1 _
      have hx1 : Below B wr w1 := (Below.refl B _).grown hgrow1 hBr (fun k hk => (hown0.lt k hk).1)
      have hs1 := hx1.size
      clear hgrow1 hown0
      obtain ⟨q0, q1, q2⟩ := (HE.out.below hx1 hbB).cells
      go_wp2_with (go_at_call 32; refine (HM.out.1 _ _ _ _ (hb0.out.trans hx1) hown1 (by omega) (by omega)).mono ?_; rintro e w2 ⟨v2, rfl, hown2, hx2⟩; refine Hid.out ?_)
      refine Lib.hid ?_
      have hs2 := hx2.size
      have hy2 := hx1.trans hx2
      clear q0 q1 q2 hown1 hx1 hx2
      obtain ⟨q0, q1, q2⟩ := (HE.out.below hy2 hbB).cells
      go_wp2_with (at_builtin; refine Lib.wpList_append_own_string _ rfl _ _ 67 9 rfl B 5 i0 Tryd.underlying67 Tryd.underlying9 hi hz0 hz1 hz2 _ _ _ rfl hown2 ⟨#[32, 97, 116, 32]⟩ rfl (by simp [ByteArray.size]; unfold maxLen; omega) (by simp [ByteArray.size]; omega) (by omega) ?_)
      intro v3 w3 hown3 hgrow3 _
      have hx3 : Below B w2 w3 := (Below.refl B _).grown hgrow3 (by omega) (fun k hk => (hown2.lt k hk).1)
      have hs3 := hx3.size
      have hy3 := hy2.trans hx3
      clear q0 q1 q2 hown2 hgrow3 hx3 hy2
      obtain ⟨q0, q1, q2⟩ := (HE.out.below hy3 hbB).cells
      go_wp2_with (go_at_call 32; refine (HM.out.2.1 _ _ _ _ (hb0.out.trans hy3) hown3 (by omega) (by omega)).mono ?_; rintro e w4 ⟨v4, rfl, hown4, hx4⟩; refine Hid.out ?_)
      refine Lib.hid ?_
      have hs4 := hx4.size
      have hy4 := hy3.trans hx4
      clear q0 q1 q2 hown3 hx4 hy3
      obtain ⟨q0, q1, q2⟩ := (HE.out.below hy4 hbB).cells
      rcases HR.out.shape with ⟨h1, h2⟩ | ⟨h1, t, x, h2⟩
      · subst h2
        have H1 := Lib.hid h1
        clear h1
        go_wp2
        go_ret
        refine TextIs.of hown4 ?_ (hb0.out.trans hy4)
        have e1 : r' = [] := by simpa using H1.out
        subst e1
        rw [← HAll.out]
        simp only [← List.append_assoc]
        exact txt_one _ _ _
      · subst h2
        have H1 := Lib.hid h1
        clear h1
        go_wp2_with (at_builtin; refine Lib.wpList_append_own_string _ rfl _ _ 67 9 rfl B 5 i0 Tryd.underlying67 Tryd.underlying9 hi hz0 hz1 hz2 _ _ _ rfl hown4 ⟨#[58, 32]⟩ rfl (by simp [ByteArray.size]; unfold maxLen; omega) (by simp [ByteArray.size]; omega) (by omega) ?_)
        intro v5 w5 hown5 hgrow5 _
        have hx5 : Below B w4 w5 := (Below.refl B _).grown hgrow5 (by omega) (fun k hk => (hown4.lt k hk).1)
        have hs5 := hx5.size
        have hy5 := hy4.trans hx5
        clear q0 q1 q2 hown4 hgrow5 hx5 hy4
        obtain ⟨q0, q1, q2⟩ := (HE.out.below hy5 hbB).cells
        cases r' with
        | nil => exact absurd H1.out (by simp)
        | cons y r2 =>
          obtain ⟨b3, u3, hb3, hbB3, he3, hrest3⟩ := HR.out
          have HR2 := Lib.hid (HR.out.below hy5 (Nat.le_refl _))
          clear he3 hrest3
          simp only [Value.iface.injEq] at hb3
          obtain ⟨ht, hx⟩ := hb3
          subst ht hx
          have hg5 : HasErrorType w5 := HG.out.below (hb0.out.trans hy5) (by have := HGB.out; omega)
          have K := Lib.hid (itself_err ⟨b3, 0, none⟩ w5 hg5)
          clear hg5
          go_wp2_with (go_at_call 28; refine K.out.mono ?_; rintro e w6 ⟨rfl, hx6⟩)
          have hy6 := hy5.trans (hx6.mono (show B ≤ w5.heap.size by omega))
          go_roundg (r2.length + 1)
          case measure => have := HL.out; simp at this; omega
          case rel =>
            refine ⟨y :: r2, b3, _, _, rfl, ⟨rfl, by simp, HR.out.below hy6 (Nat.le_refl _), ownsRow_below hown5 hx6, ?_, ?_, hb0.out.trans hy6, fun z hz => HSub.out z (List.mem_cons_of_mem _ hz)⟩⟩
            · rw [← HAll.out]; simp only [← List.append_assoc]; exact txt_more _ _ _ _ _
            · simp at hrm ⊢; omega

/-- (*Error).Error over a chain of diag's own errors. -/
theorem error_chain (es : List (Int × Int)) (b : Nat) (w : World) (hg : HasErrorType w) (hc : Chn w w.heap.size (es.map some) (errv b)) (hne : es ≠ []) (hlen : es.length ≤ 1000000)
    (hA : ∀ x, x ∈ es → AppOk w.heap.size w x.1 ∧ AppOk w.heap.size w x.2 ∧ -9223372036854775808 ≤ x.1 ∧ x.1 ≤ 9223372036854775807 ∧ -9223372036854775808 ≤ x.2 ∧ x.2 ≤ 9223372036854775807) :
    Calls Tryd.prog 20 #[.pointer (some ⟨b, 0, none⟩)] w fun e w' => e = .returned (.string ⟨(txt es).toArray⟩) ∧ Below w.heap.size w w' := by
  have K := Lib.hid (appendText_chain w.heap.size es b 0 (.slice none 0 0) [] w hg rfl hc hne (World.ownsRow_nil _ _ _ _) (by omega) hA)
  clear hg hc hA
  have hpos : 0 < (txt es).length := by
    cases es with
    | nil => exact absurd rfl hne
    | cons x r => cases r <;> simp [txt, codeWord] <;> omega
  clear hne
  obtain ⟨l, hl⟩ : ∃ l, l = txt es := ⟨_, rfl⟩
  rw [← hl] at K hpos ⊢
  clear hl
  go_enter Tryd.func20, Tryd.ntmps20
  go_wp2_with (go_at_call 27; refine K.out.mono ?_; rintro e1 w1 ⟨v1, n1, rfl, hown1, hx1⟩; refine Hid.out ?_)
  refine Lib.hid ?_
  have en : n1 = l.length := by have := hown1.1; simpa [Lib.byteCells] using this.symm
  subst en
  rcases hown1.2 with ⟨-, h0⟩ | ⟨g, cap, cur, rfl, -, -, -, -, -, -⟩
  · omega
  · have hcv := run_convert_bytes_back (P := Tryd.prog) w1 67 9 5 ⟨g, 0, none⟩ cap l Tryd.underlying67 Tryd.underlying5 Tryd.underlying9 (fun j hj => hown1.cells (g := g) rfl j _ (by simp [Lib.byteCells, hj]))
    go_wp2
    go_ret
    exact ⟨rfl, hx1⟩

/-- a nil *Error's text. -/
theorem error_nil (w : World) :
    Calls Tryd.prog 20 #[.pointer none] w fun e w' => e = .returned (.string ⟨#[102, 105, 110, 101]⟩) ∧ Below w.heap.size w w' := by
  have K : ∀ w : World, Calls Tryd.prog 27 #[.slice none 0 0, .pointer none] w (TextIs w.heap.size (Lib.byteCells fineWord) w) := by
    intro w
    obtain ⟨i0, hi, hz0, hz1, hz2⟩ := info_parts Tryd.infoByte
    go_enter Tryd.func27, Tryd.ntmps27
    go_wp2
    refine wp_loop_rounds 1 ?_
    rw [rounds_succ]
    go_wp2_with (at_builtin; refine Lib.wpList_append_own_string _ rfl _ _ 67 9 rfl w.heap.size 5 i0 Tryd.underlying67 Tryd.underlying9 hi hz0 hz1 hz2 _ 0 [] rfl (World.ownsRow_nil _ _ _ _) ⟨#[102, 105, 110, 101]⟩ rfl (by simp [ByteArray.size]; unfold maxLen; omega) (by simp [ByteArray.size]) (Nat.le_refl _) ?_)
    intro v1 w1 hown1 hgrow1 _
    go_wp2
    go_ret
    exact TextIs.of hown1 rfl ((Below.refl _ _).grown hgrow1 (Nat.le_refl _) (fun k hk => by cases hk))
  have K1 := Lib.hid (K w)
  clear K
  obtain ⟨l, hl⟩ : ∃ l, l = fineWord := ⟨_, rfl⟩
  have hpos : 0 < l.length := by rw [hl]; decide
  have HL := Lib.hid hl
  rw [← hl] at K1
  clear hl
  go_enter Tryd.func20, Tryd.ntmps20
  go_wp2_with (go_at_call 27; refine K1.out.mono ?_; rintro e1 w1 ⟨v1, n1, rfl, hown1, hx1⟩; refine Hid.out ?_)
  refine Lib.hid ?_
  have en : n1 = l.length := by have := hown1.1; simpa [Lib.byteCells] using this.symm
  subst en
  rcases hown1.2 with ⟨-, h0⟩ | ⟨g, cap, cur, rfl, -, -, -, -, -, -⟩
  · omega
  · have hcv := run_convert_bytes_back (P := Tryd.prog) w1 67 9 5 ⟨g, 0, none⟩ cap l Tryd.underlying67 Tryd.underlying5 Tryd.underlying9 (fun j hj => hown1.cells (g := g) rfl j _ (by simp [Lib.byteCells, hj]))
    go_wp2
    go_ret
    exact ⟨by rw [HL.out]; rfl, hx1⟩
end Go.Proofs.YtljgjcnfcmbemaaDoor
