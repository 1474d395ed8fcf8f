/-
  diag.Chain BY ITS CONTRACT: of a chain of errors, each perhaps in another one's wrap, the codes and places, the outermost first.
-/
import Derived.Test.YtljgjcnfcmbemaaDoorWrongs
import Derived.Test.YtljgjcnfcmbemaaDoorNone
import Derived.Deep.RegionHeld3
import Derived.Deep.AppendLies
import Derived.StillTactics
import Derived.Laws.Pointers
namespace Go.Proofs.YtljgjcnfcmbemaaDoor
open Go.RowKit Go.Extern.Stop Go.Stop Go.Extern

/-- v is an error of these codes and places, one round the other, each in a block below B, each perhaps in the wrap of another type's error. -/
def EChn (w : World) (B : Nat) : List (Int × Int) → Value → Prop
  | [], v => v = .nilIface
  | x :: r, v => ∃ b u, (v = errv b ∨ v = .iface 57 (.agg #[errv b])) ∧ b < B ∧ IsErr w b x.1 x.2 u ∧ EChn w B r u

theorem EChn.below {w w' : World} {B C : Nat} (hb : Below C w w') (hBC : B ≤ C) : ∀ {l : List (Int × Int)} {v : Value}, EChn w B l v → EChn w' B l v
  | [], _, h => h
  | _ :: _, _, ⟨b, u, h1, h2, h3, h4⟩ => ⟨b, u, h1, h2, h3.below hb (by omega), EChn.below hb hBC h4⟩
theorem EChn.grow {w : World} {B C : Nat} (hBC : B ≤ C) : ∀ {l : List (Int × Int)} {v : Value}, EChn w B l v → EChn w C l v
  | [], _, h => h
  | _ :: _, _, ⟨b, u, h1, h2, h3, h4⟩ => ⟨b, u, h1, by omega, h3, EChn.grow hBC h4⟩

/-- as a chain for errors.Is. -/
theorem EChn.chn {w : World} {B : Nat} : ∀ {l : List (Int × Int)} {v : Value}, EChn w B l v → ∃ m, Chn w B m v ∧ (l ≠ [] → m ≠ []) ∧ ∀ k, hasCode k m = l.any fun x => k == x.1
  | [], v, h => ⟨[], h, fun h => absurd rfl h, fun _ => rfl⟩
  | x :: r, v, ⟨b, u, h1, h2, h3, h4⟩ => by
    obtain ⟨m, hm, _, hk⟩ := EChn.chn h4
    rcases h1 with h1 | h1
    · exact ⟨some x :: m, ⟨b, u, h1, h2, h3, hm⟩, fun _ => by simp, fun k => by simp [hasCode, hk]⟩
    · exact ⟨none :: some x :: m, ⟨_, h1, ⟨b, u, rfl, h2, h3, hm⟩⟩, fun _ => by simp, fun k => by simp [hasCode, hk]⟩

/-- what first answers. -/
def FirstIs (w : World) (B : Nat) : List (Int × Int) → Value → Prop
  | [], p => p = .pointer none
  | x :: r, p => ∃ b u, p = .pointer (some ⟨b, 0, none⟩) ∧ b < B ∧ IsErr w b x.1 x.2 u ∧ EChn w B r u

theorem first_e (l : List (Int × Int)) (B : Nat) (v : Value) (w : World) (hg : HasErrorType w) (h : EChn w B l v) (hB : B ≤ w.heap.size) :
    Calls Tryd.prog 23 #[v] w fun e w' => ∃ p, e = .returned p ∧ FirstIs w' B l p ∧ Below w.heap.size w w' := by
  match l, h with
  | [], h =>
    rw [show v = .nilIface from h]
    exact (first_nil w).mono fun _ _ ⟨he, hb⟩ => ⟨_, he, rfl, hb⟩
  | x :: r, ⟨b, u, h1, h2, h3, h4⟩ =>
    rcases h1 with rfl | rfl
    · exact (first_err _ w hg).mono fun _ _ ⟨he, hb⟩ => ⟨_, he, ⟨b, u, rfl, h2, h3.below hb (by omega), h4.below hb hB⟩, hb⟩
    · exact (first_other _ w hg).mono fun _ _ ⟨he, hb⟩ => ⟨_, he, ⟨b, u, rfl, h2, h3.below hb (by omega), h4.below hb hB⟩, hb⟩

/-- where Chain stands: r is to come, p points to its first. -/
structure CAt (w wr : World) (es : List (Int × Int)) (m : Nat) (r : List (Int × Int)) (cv p : Value) : Prop where
  len : r.length = m
  fst : FirstIs wr w.heap.size r p
  own : ∃ d, WRow wr w.heap.size d cv ∧ d ++ r = es
  bel : Below w.heap.size w wr

def ChainIs (es : List (Int × Int)) (w : World) (e : Ending) (w' : World) : Prop := ∃ v, e = .returned v ∧ WRow w' w.heap.size es v ∧ Below w.heap.size w w'

set_option maxHeartbeats 4000000 in
set_option maxRecDepth 100000 in
theorem chain_e (es : List (Int × Int)) (v : Value) (w : World) (hg : HasErrorType w) (h : EChn w w.heap.size es v) (hl : es.length ≤ 100) :
    Calls Tryd.prog 7 #[v] w (ChainIs es w) := by
  have HG := Lib.hid hg
  have K := Lib.hid (first_e es w.heap.size v w hg h (Nat.le_refl _))
  obtain ⟨i0, hi, hz0, hz1, hz2⟩ := info_parts Tryd.infoWrong
  clear hg h
  go_enter Tryd.func7, Tryd.ntmps7
  go_wp2_with (go_at_call 23; refine K.out.mono ?_; rintro e1 w1 ⟨p1, rfl, hF, hb⟩; have H0 : Hid (CAt w w1 es es.length es (.slice none 0 0) p1) := ⟨rfl, hF, ⟨[], World.ownsRow_nil _ _ _ _, rfl⟩, hb⟩; clear hF hb)
  go_loopg [3, 4] es.length (fun m c p wr => ∃ r, Hid (CAt w wr es m r c p))
  case atStart => exact ⟨es, H0⟩
  case round =>
    obtain ⟨r, hC⟩ := hrel
    obtain ⟨hlen, hfst, ⟨d, hown, hd⟩, hbel⟩ := hC.out
    clear hC H0 K
    have HL := Lib.hid hlen
    have HD := Lib.hid hd
    have HB := Lib.hid hbel
    obtain ⟨A1, c1, hv⟩ := hown.len
    subst hv
    have HO := Lib.hid hown
    clear hlen hd hbel hown
    cases r with
    | nil =>
      have hp : _ = Value.pointer none := hfst
      subst hp
      go_wp2
      go_ret
      exact ⟨_, rfl, by have := HD.out; simp at this; rw [← this]; exact HO.out, HB.out⟩
    | cons x r' =>
      obtain ⟨c, a⟩ := x
      obtain ⟨b, u, hp, hbB, he, hrest⟩ := hfst
      subst hp
      have hdl : d.length < 100 := by have := congrArg List.length HD.out; simp at this; omega
      have hz : (d.length : Int) < 100 := by omega
      have HE := Lib.hid he
      have HR := Lib.hid hrest
      obtain ⟨q0, q1, q2⟩ := he.cells
      clear he hrest
      have hBr : w.heap.size ≤ wr.heap.size := HB.out.size
      have ab : (Value.slice A1 d.length c1).ownBlock ≠ some b := fun e => by have := (HO.out.lt b e).1; omega
      have hbr : b < wr.heap.size := by omega
      have hown := HO.out
      unfold WRow at hown
      go_wp2_with fail
      go_region_held3 (fun w' => w'.cell? ⟨b, 0, none⟩ = some (.int .i64 c) ∧ w'.cell? ⟨b, 1, none⟩ = some (.int .i64 a))
        (first
          | go_keep
          | (go_split_ands
             refine ⟨?_, ?_⟩
             · (rw [hgrow.cell_far _ (by simp; omega) (Ne.symm ab)]; assumption)
             · (rw [hgrow.cell_far _ (by simp; omega) (Ne.symm ab)]; assumption)))
        ((refine step_append_lies _ (by rfl) _ _ _ (by rfl) w.heap.size 33 i0 _ 2 16 Tryd.underlying23 hi hz0 hz1 hz2 rfl (by omega) (.slice A1 d.length c1) d.length (wcells d) (by rfl) ((hown.alloc _).drew)
            ⟨wr.heap.size, 0, none⟩ 1 1 [.int .i64 c, .int .i64 a] (by rfl) (by rfl) (World.news_of_block (cs := #[.int .i64 c, .int .i64 a]) (t := 33) (fr := (0, 0)) (heap_alloc_new wr _)) (by simp [Value.oneCell'])
            (by omega) (by unfold maxLen; omega) (by omega) (by simp; omega) (wr.heap.size + 1) (by simp) ?_; intro gg cap w1 hown1 hgrow hat hlt))
      have hx1 : Below w.heap.size wr w1 := (((Below.refl _ _).alloc hBr _).drew).grown hgrow (by show w.heap.size ≤ (wr.alloc _).heap.size; simp; omega) (fun k hk => (hown.lt k hk).1)
      have hy1 := HB.out.trans hx1
      obtain ⟨q0, q1, q2⟩ := (HE.out.below hx1 hbB).cells
      have K := Lib.hid (first_e r' w.heap.size u w1 (HG.out.below hy1 (Nat.le_refl _)) (HR.out.below hx1 (Nat.le_refl _)) hy1.size)
      have HO1 : Hid (WRow w1 w.heap.size (d ++ [(c, a)]) (.slice (some ⟨gg, 0, none⟩) (d.length + 1) cap)) := by
        unfold WRow
        rw [wcells_append, List.length_append]
        exact hown1
      have HY1 := Lib.hid hy1
      clear hgrow hown1 hat hlt hown ab hx1 hy1
      go_wp2_with (go_at_call 23; refine K.out.mono ?_; rintro e2 w2 ⟨p2, rfl, hF2, hb2⟩)
      go_roundg r'.length
      case measure => have := HL.out; simp at this; omega
      case rel => exact ⟨r', ⟨rfl, hF2, ⟨d ++ [(c, a)], HO1.out.below hb2, by simpa using HD.out⟩, HY1.out.trans (hb2.mono HY1.out.size)⟩⟩
end Go.Proofs.YtljgjcnfcmbemaaDoor
