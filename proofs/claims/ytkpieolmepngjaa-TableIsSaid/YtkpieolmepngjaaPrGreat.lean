/-
  governorlaw0: GreatTexts, vars, exprs BY CONTRACTS: some answer, nothing changed.
-/
import Derived.Test.YtkpieolmepngjaaPrWeight
import Derived.WalkSpells
import Derived.Deep.RegionWith
namespace Go.Proofs.Ytkpieolmepngjaa
open Go Go.RowKit

/-- some bool, nothing changed; some number. -/
def SomeB (w : World) (e : Ending) (w' : World) : Prop := (∃ r : Bool, e = .returned (.bool r)) ∧ Below w.heap.size w w'
def SomeN (w : World) (e : Ending) (w' : World) : Prop := (∃ n : Int, e = .returned (.int .i64 n)) ∧ Below w.heap.size w w'

set_option maxHeartbeats 1000000 in
theorem greatTexts_any (L : List ByteArray) (A : Option Addr) (c : Nat) (most long : Int) (w : World) (ha : XsR w w.heap.size A L) (hcnt : L.length ≤ 1000000000) :
    Calls Try.prog 43 #[.slice A L.length c, .int .i64 most, .int .i64 long] w (SomeB w) := by
  have HA := Lib.hid (fun (w' : World) (hb : Below w.heap.size w w') => XsR.mono (Nat.le_refl _) hb.block ha)
  clear ha
  go_enter Try.func43, Try.ntmps43
  go_wp2_with fail
  go_loopw [7] (fun i wr => ∃ k : Nat, k ≤ L.length ∧ i = .int .i64 k ∧ Hid (Below w.heap.size w wr)) (fun i _ => L.length - (intOf i).toNat)
  case atStart => exact ⟨0, Nat.zero_le _, rfl, Below.refl _ _⟩
  case round =>
    obtain ⟨k, hk, rfl, hb⟩ := hrel
    by_cases hlt : k < L.length
    · have h1 : (k : Int) < (L.length : Int) := by omega
      have h2 : (0 : Int) ≤ (k : Int) := by omega
      by_cases hm : (L.length : Int) ≤ most
      · obtain ⟨g, o, cs, rfl, hg, hlen, hc, he⟩ := HA.out wr hb.out k hlt
        obtain ⟨s, hN⟩ : ∃ s : ByteArray, s = L[k] := ⟨_, rfl⟩
        rw [← hN] at he
        obtain rfl := he
        have c0 := hc 0 _ rfl
        simp only [Nat.mul_one, Nat.add_zero] at c0
        by_cases hs : long < (s.size : Int)
        · clear hc hlen hg hN
          go_wp2_with fail
          go_ret
          exact ⟨⟨_, rfl⟩, hb.out⟩
        · clear hc hlen hg hN
          go_wp2_with fail
          go_roundw
          case rel => exact ⟨k + 1, by omega, by go_num, hb⟩
          case measure => simp [intOf]; omega
      · go_wp2_with fail
        go_ret
        exact ⟨⟨_, rfl⟩, hb.out⟩
    · have h1 : ¬ (k : Int) < (L.length : Int) := by omega
      go_wp2_with fail
      go_ret
      exact ⟨⟨_, rfl⟩, hb.out⟩

set_option maxHeartbeats 1000000 in
theorem vars_great (L : List VT) (A : Option Addr) (c : Nat) (most : Int) (w : World) (ha : VsR w w.heap.size A L) (hcnt : L.length ≤ 1000000000) :
    Calls Try.prog 44 #[.slice A L.length c, .int .i64 most] w (SomeN w) := by
  have HA := Lib.hid (fun (w' : World) (hb : Below w.heap.size w w') => VsR.mono (Nat.le_refl _) hb.block ha)
  clear ha
  go_enter Try.func44, Try.ntmps44
  go_wp2_with fail
  go_loopw [5] (fun i wr => ∃ k : Nat, k ≤ L.length ∧ i = .int .i64 k ∧ Hid (Below w.heap.size w wr)) (fun i _ => L.length - (intOf i).toNat)
  case atStart => exact ⟨0, Nat.zero_le _, rfl, Below.refl _ _⟩
  case round =>
    obtain ⟨k, hk, rfl, hb⟩ := hrel
    by_cases hlt : k < L.length
    · have h1 : (k : Int) < (L.length : Int) := by omega
      have h2 : (0 : Int) ≤ (k : Int) := by omega
      by_cases hm : (L.length : Int) ≤ most
      · obtain ⟨g, o, cs, rfl, hg, hlen, hc, he⟩ := HA.out wr hb.out k hlt
        obtain ⟨⟨nm, ⟨yk, ylo, yhi, ynm⟩, ini, dir, slot⟩, hN⟩ : ∃ s : VT, s = L[k] := ⟨_, rfl⟩
        rw [← hN] at he
        obtain ⟨rfl, hwf⟩ := he
        have c0 := hc 0 _ rfl
        have c4 := hc 4 _ rfl
        rw [Nat.add_zero] at c0
        by_cases hs : (60 : Int) < (nm.size : Int)
        · clear hc hlen hg hN
          go_wp2_with fail
          go_ret
          exact ⟨⟨_, rfl⟩, hb.out⟩
        · by_cases hs2 : (60 : Int) < (ynm.size : Int)
          · clear hc hlen hg hN
            go_wp2_with fail
            go_ret
            exact ⟨⟨_, rfl⟩, hb.out⟩
          · clear hc hlen hg hN
            go_wp2_with fail
            go_roundw
            case rel => exact ⟨k + 1, by omega, by go_num, hb⟩
            case measure => simp [intOf]; omega
      · go_wp2_with fail
        go_ret
        exact ⟨⟨_, rfl⟩, hb.out⟩
    · have h1 : ¬ (k : Int) < (L.length : Int) := by omega
      go_wp2_with fail
      go_ret
      exact ⟨⟨_, rfl⟩, hb.out⟩

/-- exprs says something. -/
def GX (L : List ET) : Prop := wEs L ≤ 1000000000 → ∀ (A : Option Addr) (c : Nat) (most : Int) (w : World), EsR w w.heap.size A L → Calls Try.prog 64 #[.slice A L.length c, .int .i64 most] w (SomeN w)
def ET.args : ET → List ET | .mk _ _ _ _ a => a
theorem wEs_len : ∀ L : List ET, L.length ≤ wEs L
  | [] => by simp [wEs]
  | .mk k n nm wh args :: r => by have := wEs_len r; simp only [wEs, wE, List.length_cons]; omega
theorem wEs_at : ∀ (L : List ET) (k : Nat) (hk : k < L.length), wEs L[k].args ≤ wEs L
  | .mk _ _ _ _ args :: r, 0, _ => by simp only [List.getElem_cons_zero, ET.args, wEs, wE]; omega
  | e :: r, k + 1, hk => by
    have := wEs_at r k (by simpa using hk)
    simp only [List.getElem_cons_succ, wEs]
    omega

set_option maxHeartbeats 1000000 in
theorem gx_of (L : List ET) (ih : ∀ (k : Nat) (hk : k < L.length), GX L[k].args) : GX L := by
  intro hw A c most w ha
  have hcnt : L.length ≤ 1000000000 := Nat.le_trans (wEs_len L) hw
  have HA := Lib.hid (fun (w' : World) (hb : Below w.heap.size w w') => EsR.mono (Nat.le_refl _) hb.block ha)
  have IH : Hid (∀ (k : Nat) (hk : k < L.length) (A : Option Addr) (c : Nat) (most : Int) (w : World), EsR w w.heap.size A L[k].args → Calls Try.prog 64 #[.slice A L[k].args.length c, .int .i64 most] w (SomeN w)) := fun k hk => ih k hk (Nat.le_trans (wEs_at L k hk) hw)
  clear ha ih hw
  go_enter Try.func64, Try.ntmps64
  go_wp2_with fail
  go_loopw [5, 6] (fun m i wr => ∃ (k : Nat) (n : Int), k ≤ L.length ∧ m = .int .i64 n ∧ i = .int .i64 k ∧ Hid (Below w.heap.size w wr)) (fun _ i _ => L.length - (intOf i).toNat)
  case atStart => exact ⟨0, 0, Nat.zero_le _, rfl, rfl, Below.refl _ _⟩
  case round =>
    obtain ⟨k, n, hk, rfl, rfl, hb⟩ := hrel
    by_cases hlt : k < L.length
    · have h1 : (k : Int) < (L.length : Int) := by omega
      have h2 : (0 : Int) ≤ (k : Int) := by omega
      by_cases hm : n ≤ most
      · obtain ⟨g, o, cs, rfl, hg, hlen, hc, he⟩ := HA.out wr hb.out k hlt
        have KX := IH.out k hlt
        obtain ⟨⟨xk, xn, nm, wh, args⟩, hN⟩ : ∃ s : ET, s = L[k] := ⟨_, rfl⟩
        rw [← hN] at he KX
        obtain ⟨A', c', rfl, hn, hr⟩ := he.form
        have KX : Hid (∀ (m : Int) (W : World), W.heap = wr.heap → Calls Try.prog 64 #[.slice A' args.length c', .int .i64 m] W (SomeN W)) := fun m W hW => KX A' c' m W (EsR.mono (by rw [hW]; exact hb.out.size) (fun g _ => by rw [hW]) hr)
        have c2 := hc 2 _ rfl
        have c3 := hc 3 _ rfl
        have c4 := hc 4 _ rfl
        by_cases hs : (60 : Int) < (nm.size : Int)
        · clear hc hlen hg hN KX he hr hn
          go_wp2_with fail
          go_ret
          exact ⟨⟨_, rfl⟩, hb.out⟩
        · by_cases hs2 : (60 : Int) < (wh.size : Int)
          · clear hc hlen hg hN KX he hr hn
            go_wp2_with fail
            go_ret
            exact ⟨⟨_, rfl⟩, hb.out⟩
          · clear hc hlen hg hN he hr hn
            go_wp2_with fail
            refine (KX.out _ _ rfl).mono ?_
            rintro e1 w1 ⟨⟨r, rfl⟩, hb1⟩
            have HB1 : Hid (Below w.heap.size w w1) := hb.out.trans (hb1.mono hb.out.size)
            clear hb1 KX
            go_wp2_with fail
            go_roundw
            case rel => exact ⟨k + 1, _, by omega, rfl, by go_num, HB1⟩
            case measure => simp [intOf]; omega
      · go_wp2_with fail
        go_ret
        exact ⟨⟨_, rfl⟩, hb.out⟩
    · have h1 : ¬ (k : Int) < (L.length : Int) := by omega
      go_wp2_with fail
      go_ret
      exact ⟨⟨_, rfl⟩, hb.out⟩
mutual
theorem gx_e : ∀ e : ET, GX e.args
  | .mk _ _ _ _ args => gx_of args (gx_es args)
theorem gx_es : ∀ (l : List ET) (k : Nat) (hk : k < l.length), GX l[k].args
  | a :: r, 0, _ => gx_e a
  | a :: r, k + 1, hk => gx_es r k (by simpa using hk)
end
theorem gx_all (L : List ET) : GX L := gx_of L (gx_es L)
end Go.Proofs.Ytkpieolmepngjaa
