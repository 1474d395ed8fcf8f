/-
  chained BY ITS CONTRACT: of links, one at least, the error that wraps them one round the other, and their codes and places, the last one first.
-/
import Derived.Test.YtljgjcnfcmbemaaDoorChain
namespace Go.Proofs.YtljgjcnfcmbemaaDoor
open Go.RowKit Go.Extern.Stop Go.Stop Go.Extern

/-- at (b, off) lie these links. -/
def LinksAt (w : World) (b off : Nat) (L : List ((Int × Int) × Bool)) : Prop := b < w.heap.size ∧ ∀ k (h : k < L.length), w.cell? ⟨b, off + k * 3, none⟩ = some (.int .i64 L[k].1.1) ∧ w.cell? ⟨b, off + k * 3 + 1, none⟩ = some (.int .i64 L[k].1.2) ∧ w.cell? ⟨b, off + k * 3 + 2, none⟩ = some (.bool L[k].2)

theorem LinksAt.below {w w' : World} {b off : Nat} {L : List ((Int × Int) × Bool)} (h : LinksAt w b off L) (hb : Below w.heap.size w w') : LinksAt w' b off L := by
  refine ⟨Nat.lt_of_lt_of_le h.1 hb.size, fun k hk => ?_⟩
  rw [hb.cell (p := ⟨b, off + k * 3, none⟩) h.1, hb.cell (p := ⟨b, off + k * 3 + 1, none⟩) h.1, hb.cell (p := ⟨b, off + k * 3 + 2, none⟩) h.1]
  exact h.2 k hk

/-- what the first k links come to, the last one first. -/
def upto (L : List ((Int × Int) × Bool)) (k : Nat) : List (Int × Int) := ((L.take k).map (·.1)).reverse
theorem upto_succ (L : List ((Int × Int) × Bool)) (k : Nat) (h : k < L.length) : upto L (k + 1) = L[k].1 :: upto L k := by
  unfold upto
  rw [List.take_succ_eq_append_getElem h, List.map_append, List.reverse_append]
  rfl
theorem upto_length (L : List ((Int × Int) × Bool)) (k : Nat) (h : k ≤ L.length) : (upto L k).length = k := by
  unfold upto
  simp
  omega
theorem upto_all (L : List ((Int × Int) × Bool)) : upto L L.length = (L.map (·.1)).reverse := by
  unfold upto
  rw [List.take_length]

/-- where chained stands behind k links. -/
structure LinkAt (w wr : World) (L : List ((Int × Int) × Bool)) (k : Nat) (ev wv : Value) : Prop where
  chn : EChn wr wr.heap.size (upto L k) ev
  own : WRow wr w.heap.size (upto L k) wv
  bel : Below w.heap.size w wr
  non : k = 0 → wv = .slice none 0 0

theorem link_step {w wr w1 W : World} {L : List ((Int × Int) × Bool)} {k : Nat} {c a : Int} {b1 : Nat} {v0 ev wv : Value} (hlt : k < L.length) (hX : L[k].1 = (c, a)) (hB : Below w.heap.size w wr) (hx1 : Below wr.heap.size wr w1) (hx2 : Below w1.heap.size w1 W)
    (hE : IsErr w1 b1 c a v0) (hC : EChn wr wr.heap.size (upto L k) v0) (hev : ev = errv b1 ∨ ev = .iface 57 (.agg #[errv b1])) (hown : WRow W w.heap.size ((c, a) :: upto L k) wv) : LinkAt w W L (k + 1) ev wv := by
  have hs1 := hx1.size
  have hs2 := hx2.size
  refine ⟨?_, ?_, hB.trans ((hx1.trans (hx2.mono hs1)).mono hB.size), fun h => absurd h (Nat.succ_ne_zero k)⟩
  · rw [upto_succ L k hlt, hX]
    have hl := hE.lt
    exact ⟨b1, v0, hev, by omega, hE.below hx2 hl, ((hC.below hx1 (Nat.le_refl _)).below hx2 hs1).grow (by omega)⟩
  · rw [upto_succ L k hlt, hX]
    exact hown

theorem wcells_one (l : List (Int × Int)) : ∀ u ∈ wcells l, u.oneCell' = true := by
  intro u hu
  unfold wcells at hu
  obtain ⟨x, _, hx⟩ := List.mem_flatMap.1 hu
  simp at hx
  rcases hx with rfl | rfl <;> rfl

def ChainedIs (L : List ((Int × Int) × Bool)) (w : World) (e : Ending) (w' : World) : Prop := ∃ ev wv, e = .returned (.tuple #[ev, wv]) ∧ LinkAt w w' L L.length ev wv

set_option maxHeartbeats 8000000 in
set_option maxRecDepth 100000 in
theorem chained_any (L : List ((Int × Int) × Bool)) (b off cap : Nat) (w : World) (hL : LinksAt w b off L) (hn : L.length ≤ 20) (hp : 0 < L.length) :
    Calls Tryd.prog 9 #[.slice (some ⟨b, off, none⟩) L.length cap] w (ChainedIs L w) := by
  have HL := Lib.hid hL
  clear hL
  obtain ⟨i0, hi, hz0, hz1, hz2⟩ := info_parts Tryd.infoWrong
  go_enter Tryd.func9, Tryd.ntmps9
  go_wp2
  go_loopw [4, 5, 6] (fun ev wv i wr => ∃ k : Nat, k ≤ L.length ∧ i = .int .i64 k ∧ Hid (LinkAt w wr L k ev wv)) (fun _ _ i _ => L.length - (intOf i).toNat)
  case atStart => exact ⟨0, Nat.zero_le _, rfl, rfl, World.ownsRow_nil _ _ _ _, Below.refl _ _, fun _ => rfl⟩
  case round =>
    obtain ⟨k, hk, rfl, hA⟩ := hrel
    by_cases hlt : k < L.length
    · have hz : (k : Int) < (L.length : Int) := by omega
      have hz0' : (0 : Int) ≤ (k : Int) := Int.natCast_nonneg _
      obtain ⟨hchn, hown, hbel, hnon⟩ := hA.out
      obtain ⟨q0, q1, q2⟩ := (HL.out.below hbel).2 k hlt
      have hbl : b < w.heap.size := HL.out.1
      have hbr : b < wr.heap.size := Nat.lt_of_lt_of_le hbl hbel.size
      generalize hcc : L[k].1.1 = c at q0
      generalize haa : L[k].1.2 = a at q1
      generalize hoo : L[k].2 = o at q2
      have HX := Lib.hid (And.intro hcc (And.intro haa hoo))
      have HB := Lib.hid hbel
      have HO := Lib.hid hown
      clear hcc haa hoo hbel hown hA
      by_cases hk0 : k = 0
      · have hv := hnon hk0
        subst hv
        have hev : _ = Value.nilIface := (show upto L k = [] by rw [hk0]; rfl) ▸ hchn
        have HCH := Lib.hid hchn
        have HK0 := Lib.hid hk0
        subst hev
        clear hnon hchn hk0
        go_wp2_with fail
        go_region_held3 (fun w' => w'.cell? ⟨b, off + k * 3, none⟩ = some (.int .i64 c) ∧ w'.cell? ⟨b, off + k * 3 + 1, none⟩ = some (.int .i64 a))
          (first | go_keep | exact ⟨by assumption, by assumption⟩)
          (first | (go_at_call 15; refine (new_made c a _).mono ?_; rintro e1 w1 ⟨b1, rfl, m1⟩; have z0 := (m1.bel.cell (p := ⟨b, off + k * 3, none⟩) hbr).trans q0; have z1 := (m1.bel.cell (p := ⟨b, off + k * 3 + 1, none⟩) hbr).trans q1))
        have hx1 : Below wr.heap.size wr w1 := ((Below.refl wr.heap.size wr).drew).trans m1.bel
        have hlo : wr.heap.size ≤ b1 := m1.lo
        have z2 := (hx1.cell (p := ⟨b, off + k * 3 + 2, none⟩) hbr).trans q2
        have hbr1 : b < w1.heap.size := Nat.lt_of_lt_of_le hbr hx1.size
        have HM := Lib.hid (And.intro m1.err hlo)
        have HX1 := Lib.hid hx1
        clear q0 q1 q2 m1 hx1
        go_wp2_with fail
        go_region_held3 (fun w' => w'.cell? ⟨b, off + k * 3, none⟩ = some (.int .i64 c) ∧ w'.cell? ⟨b, off + k * 3 + 1, none⟩ = some (.int .i64 a))
          (first | go_keep | exact ⟨by assumption, by assumption⟩)
          (fail)
        have HY : Hid (Below w1.heap.size w1 (w1.alloc (.cells #[.int .i64 c, .int .i64 a] 33)).drew ∧ WRow (w1.alloc (.cells #[.int .i64 c, .int .i64 a] 33)).drew w.heap.size ((c, a) :: upto L k) (.slice (some ⟨w1.heap.size, 0, none⟩) 1 1)) := by
          refine ⟨((Below.refl _ _).alloc (Nat.le_refl _) _).drew, ?_⟩
          rw [show upto L k = [] by rw [HK0.out]; rfl]
          exact World.ownsRow_lit w1 #[.int .i64 c, .int .i64 a] 1 (by have := HB.out.size; have := HX1.out.size; omega) (by unfold maxLen; omega) rfl
        have z3 : (w1.alloc (.cells #[.int .i64 c, .int .i64 a] 33)).drew.cell? ⟨b, off + k * 3 + 2, none⟩ = some (.bool o) := (HY.out.1.cell (p := ⟨b, off + k * 3 + 2, none⟩) hbr1).trans z2
        clear z0 z1 z2
        cases o
        · go_wp2
          go_roundw
          case rel => exact ⟨k + 1, by omega, by go_num, link_step hlt (Prod.ext HX.out.1 HX.out.2.1) HB.out HX1.out HY.out.1 HM.out.1 HCH.out (Or.inl rfl) HY.out.2⟩
          case measure => simp [intOf]; omega
        · go_wp2
          go_roundw
          case rel => exact ⟨k + 1, by omega, by go_num, link_step hlt (Prod.ext HX.out.1 HX.out.2.1) HB.out HX1.out HY.out.1 HM.out.1 HCH.out (Or.inr rfl) HY.out.2⟩
          case measure => simp [intOf]; omega
      · have hl := upto_length L k hk
        have hne : upto L k ≠ [] := fun e => by rw [e] at hl; simp at hl; omega
        obtain ⟨t0, x0, hv0⟩ : ∃ t x, u4 = Value.iface t x := by
          obtain ⟨m, hm, hmn, _⟩ := hchn.chn
          rcases hm.shape with ⟨h1, _⟩ | ⟨_, h2⟩
          · exact absurd h1 (hmn hne)
          · exact h2
        subst hv0
        obtain ⟨g, cp, hwv, hgB, hgl, -⟩ := HO.out.cells hne
        subst hwv
        have HCH := Lib.hid hchn
        have HO2 : Hid (wr.ownsRow w.heap.size 33 2 (.slice (some ⟨g, 0, none⟩) k cp) k (wcells (upto L k))) := by
          have h0 := HO.out
          unfold WRow at h0
          rw [hl] at h0
          exact h0
        rw [hl]
        have HKL := Lib.hid hl
        have HK0 := Lib.hid hk0
        clear hnon hchn hk0 hl hne HO
        go_wp2_with fail
        go_region_held3 (fun w' => w'.cell? ⟨b, off + k * 3, none⟩ = some (.int .i64 c) ∧ w'.cell? ⟨b, off + k * 3 + 1, none⟩ = some (.int .i64 a))
          (first | go_keep | exact ⟨by assumption, by assumption⟩)
          (first | (go_at_call 16; refine (wrap_made t0 x0 c a _).mono ?_; rintro e1 w1 ⟨b1, rfl, m1⟩; have z0 := (m1.bel.cell (p := ⟨b, off + k * 3, none⟩) hbr).trans q0; have z1 := (m1.bel.cell (p := ⟨b, off + k * 3 + 1, none⟩) hbr).trans q1))
        have hx1 : Below wr.heap.size wr w1 := ((Below.refl wr.heap.size wr).drew).trans m1.bel
        have hlo : wr.heap.size ≤ b1 := m1.lo
        have z2 := (hx1.cell (p := ⟨b, off + k * 3 + 2, none⟩) hbr).trans q2
        have hbr1 : b < w1.heap.size := Nat.lt_of_lt_of_le hbr hx1.size
        have HM := Lib.hid (And.intro m1.err hlo)
        have HX1 := Lib.hid hx1
        have hs1 := hx1.size
        have hwr : w.heap.size ≤ wr.heap.size := HB.out.size
        have hown : w1.ownsRow w.heap.size 33 2 (.slice (some ⟨g, 0, none⟩) k cp) k (wcells (upto L k)) := ownsRow_below HO2.out hx1
        have hlit : (w1.alloc (.cells #[.int .i64 c, .int .i64 a] 33)).ownsRow w.heap.size 33 2 (.slice (some ⟨w1.heap.size, 0, none⟩) 1 1) 1 [.int .i64 c, .int .i64 a] :=
          World.ownsRow_lit w1 #[.int .i64 c, .int .i64 a] 1 (by omega) (by unfold maxLen; omega) rfl
        have hne1 : (Value.slice (some ⟨w1.heap.size, 0, none⟩) 1 1).ownBlock ≠ some b := fun e => by simp [Value.ownBlock] at e; omega
        have hk1 : 0 < k := by have := HK0.out; omega
        clear q0 q1 q2 m1 hx1
        go_wp2_with fail
        go_region_held3 (fun w' => w'.cell? ⟨b, off + k * 3, none⟩ = some (.int .i64 c) ∧ w'.cell? ⟨b, off + k * 3 + 1, none⟩ = some (.int .i64 a))
          (first
            | go_keep
            | (go_split_ands
               refine ⟨?_, ?_⟩
               · (rw [hgrow.cell_far _ (by simp; omega) (Ne.symm hne1)]; assumption)
               · (rw [hgrow.cell_far _ (by simp; omega) (Ne.symm hne1)]; assumption)))
          ((refine step_append_lies _ (by rfl) _ _ _ (by rfl) w.heap.size 33 i0 _ 2 16 Tryd.underlying23 hi hz0 hz1 hz2 rfl (by omega) (.slice (some ⟨w1.heap.size, 0, none⟩) 1 1) 1 [.int .i64 c, .int .i64 a] (by rfl) (hlit.drew)
              ⟨g, 0, none⟩ k cp (wcells (upto L k)) (by rfl) (by rw [wcells_length, HKL.out]) ((hown.alloc _).cells (g := g) rfl) (wcells_one _)
              (by omega) (by unfold maxLen; omega) (by omega) (by simp; omega) (w1.heap.size + 1) (by simp) ?_; intro gg cap2 w2 hown1 hgrow hat hlt2))
        have hx2 : Below w1.heap.size w1 w2 := (((Below.refl _ _).alloc (Nat.le_refl _) _).drew).grown hgrow (by show w1.heap.size ≤ (w1.alloc _).heap.size; simp) (fun j hj => by simp [Value.ownBlock] at hj; omega)
        have HY : Hid (Below w1.heap.size w1 w2 ∧ WRow w2 w.heap.size ((c, a) :: upto L k) (.slice (some ⟨gg, 0, none⟩) (1 + k) cap2)) := ⟨hx2, by
          unfold WRow
          have e1 : wcells ((c, a) :: upto L k) = [.int .i64 c, .int .i64 a] ++ wcells (upto L k) := rfl
          rw [e1, List.length_cons, HKL.out, Nat.add_comm k 1]
          exact hown1⟩
        have z3 : w2.cell? ⟨b, off + k * 3 + 2, none⟩ = some (.bool o) := (HY.out.1.cell (p := ⟨b, off + k * 3 + 2, none⟩) hbr1).trans z2
        clear z0 z1 z2 hgrow hown1 hat hlt2 hx2 hlit
        cases o
        · go_wp2
          go_roundw
          case rel => exact ⟨k + 1, by omega, by go_num, link_step hlt (Prod.ext HX.out.1 HX.out.2.1) HB.out HX1.out HY.out.1 HM.out.1 HCH.out (Or.inl rfl) HY.out.2⟩
          case measure => simp [intOf]; omega
        · go_wp2
          go_roundw
          case rel => exact ⟨k + 1, by omega, by go_num, link_step hlt (Prod.ext HX.out.1 HX.out.2.1) HB.out HX1.out HY.out.1 HM.out.1 HCH.out (Or.inr rfl) HY.out.2⟩
          case measure => simp [intOf]; omega
    · go_wp2
      go_ret2
      obtain rfl : k = L.length := by omega
      exact ⟨_, _, rfl, hA.out⟩
end Go.Proofs.YtljgjcnfcmbemaaDoor
