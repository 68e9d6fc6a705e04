/-
  What DrawOpen and DrawTurn do: some row of bytes, and some bit, in new memory; nothing that was there is turned.
-/
import Derived.Test.YtpemnkfjeldgmaaDrawBytesF
namespace Go.Proofs.Ytpemnkfjeldgmaa
open Go.RowKit

/-- Some row of bytes, few of them. -/
def Some304 (w : World) (v : Value) : Prop := ∃ (a : Option Addr) (len cap : Nat) (ys : List Int), v = .slice a len cap ∧ In w w.heap.size a len ys ∧ len ≤ 304 ∧ len ≤ cap ∧ (a = none → cap = 0) ∧ (∀ x, a = some x → x.spot = none)

theorem some_own {w : World} {b : Nat} {v : Value} {ys : List Int} (h : Own w b v ys) (hl : ys.length ≤ 304) (hy : Byt ys) : Some304 w v := by
  obtain ⟨a, c, rfl, hi, hc⟩ := in_any h (by omega) hy (Nat.le_refl _)
  refine ⟨a, ys.length, c, ys, rfl, hi, hl, hc, h.cap0, fun x hx => ?_⟩
  subst hx
  rcases h.2 with ⟨e, _⟩ | ⟨g', cap, cur, e, _⟩
  · cases e
  · cases e; rfl

set_option maxRecDepth 100000 in
set_option maxHeartbeats 1000000 in
theorem drawOpen (w : World) (a : Option Addr) (len cap : Nat) (zs : List Int) (hin : In w w.heap.size a len zs) :
    Calls Try.prog 17 #[.slice a len cap] w fun e w' => ∃ v, e = .returned v ∧ Some304 w' v ∧ Below w.heap.size w w' := by
  go_enter Try.func17, Try.ntmps17
  go_wp2_with fail
  refine (newDraw _ _ _ _ _ hin).mono ?_
  rintro e w1 ⟨rfl, hc, HB⟩
  replace HB := hide HB
  have HC := hide hc
  clear hc hin
  go_wp2_with fail
  refine (drawBytes _ _ _ _ HC.out).mono ?_
  rintro e w2 ⟨b2, c2, ys, s2, -, rfl, o2, hY, hyl, hc2, hg2⟩
  have hgl : w.heap.size < w1.heap.size := HC.out.lt
  have hin2 := hide (in_own o2 rfl (by omega) hY.at (Nat.le_refl _))
  replace HB := hide (HB.out.grown hg2 HB.out.size (fun k hk => by cases hk; exact Nat.le_refl _))
  have HC2 := hide hc2
  have HY := hide hY
  have hg2s := hg2.size
  clear o2 hc2 hg2 hY HC
  go_wp2_with fail
  refine (sealSpec _ _ _ _ _ hin2.out (by simp)).mono ?_
  rintro e w3 ⟨v3, rfl, o3, b3⟩
  have hsl : 4 ≤ (sealed ys).length ∧ (sealed ys).length ≤ 304 := by rw [sealed_len]; omega
  have HSB := hide (sealed_byt _ HY.out)
  generalize sealed ys = sl at *
  obtain ⟨a3, c3, rfl, i3, hc3⟩ := in_any o3 (by omega) HSB.out (Nat.le_refl _)
  have HO := hide o3
  have HC3 := hide (HC2.out.row (grown_of_below b3) (fun k hk => by cases hk))
  replace HB := hide (HB.out.trans (b3.mono HB.out.size))
  clear o3 i3 b3 hin2 HC2
  have hx := belowF_bd zs s2 5 (by omega)
  go_wp2_with fail
  refine (belowDraw _ _ _ _ _ (by omega) (by omega) HC3.out).mono ?_
  rintro e w4 ⟨rfl, hc4, hg4⟩
  replace HO := hide (HO.out.cur hg4 (by omega))
  replace HB := hide (HB.out.grown hg4 HB.out.size (fun k hk => by cases hk; exact Nat.le_refl _))
  have HC4 := hide hc4
  clear hc4 hg4 HC3
  generalize belowF zs s2 5 = r at *
  obtain ⟨x, s4⟩ := r
  have HC4 : Hid (Cur w4 w.heap.size zs s4) := HC4
  simp only at hx
  simp only
  have h8 : (0 : Int) < 8 * (sl.length : Int) := by omega
  by_cases hx0 : x = 0
  · subst hx0
    go_wp2_with fail
    refine (belowDraw _ _ _ _ _ h8 (by omega) HC4.out).mono ?_
    rintro e w5 ⟨rfl, hc5, hg5⟩
    have hb5 := belowF_bd zs s4 (8 * (sl.length : Int)) h8
    replace HO := hide (HO.out.cur hg5 (by omega))
    replace HB := hide (HB.out.grown hg5 HB.out.size (fun k hk => by cases hk; exact Nat.le_refl _))
    clear hc5 hg5
    generalize (belowF zs s4 (8 * (sl.length : Int))).1 = bit at *
    go_wp2_with fail
    refine (turnSpec _ _ _ _ _ _ (in_slice HO.out (by omega) HSB.out (Nat.le_refl _)).1 HO.out.cap0 (by omega)).mono ?_
    rintro e w6 ⟨v6, rfl, o6, b6⟩
    have H := hide (some_own o6 (by rw [turned_len]; omega) (turned_byt _ _ HSB.out))
    replace HB := hide (HB.out.trans (b6.mono HB.out.size))
    clear o6 b6 HO
    go_wp2
    go_ret
    exact ⟨_, rfl, H.out, HB.out⟩
  · by_cases hx1 : x = 1
    · subst hx1
      have h9 : (0 : Int) < (sl.length : Int) + 1 := by omega
      go_wp2_with fail
      refine (belowDraw _ _ _ _ _ h9 (by omega) HC4.out).mono ?_
      rintro e w5 ⟨rfl, hc5, hg5⟩
      have hb5 := belowF_bd zs s4 ((sl.length : Int) + 1) h9
      replace HO := hide (HO.out.cur hg5 (by omega))
      replace HB := hide (HB.out.grown hg5 HB.out.size (fun k hk => by cases hk; exact Nat.le_refl _))
      clear hc5 hg5
      generalize (belowF zs s4 ((sl.length : Int) + 1)).1 = n at *
      obtain ⟨m, rfl⟩ := Int.eq_ofNat_of_zero_le hb5.1
      have hm : m ≤ sl.length := by omega
      have hmc : m ≤ c3 := by omega
      have HI := hide ((in_slice HO.out (by omega) HSB.out (Nat.le_refl _)).1.take m hm)
      have H0 := hide HO.out.cap0
      have HP : Hid (∀ x, a3 = some x → x.spot = none) := hide (fun x hx => by
        subst hx
        rcases HO.out.2 with ⟨e, _⟩ | ⟨g', cap, cur, e, _⟩
        · cases e
        · cases e; rfl)
      go_wp2
      go_ret
      exact ⟨_, rfl, ⟨a3, m, c3, sl.take m, rfl, HI.out, by omega, hmc, H0.out, HP.out⟩, HB.out⟩
    · have H := hide (some_own HO.out (by omega) HSB.out)
      have hx0' : (x == 0) = false := by simp [hx0]
      have hx1' : (x == 1) = false := by simp [hx1]
      go_wp2
      go_ret
      exact ⟨_, rfl, H.out, HB.out⟩

set_option maxRecDepth 100000 in
set_option maxHeartbeats 1000000 in
theorem drawTurn (w : World) (a : Option Addr) (len cap : Nat) (zs : List Int) (hin : In w w.heap.size a len zs) :
    Calls Try.prog 19 #[.slice a len cap] w fun e w' => ∃ v k, e = .returned (.tuple #[v, .int .i64 k]) ∧ Some304 w' v ∧ (-9223372036854775808 ≤ k ∧ k ≤ 9223372036854775807) ∧ Below w.heap.size w w' := by
  go_enter Try.func19, Try.ntmps19
  go_wp2_with fail
  refine (newDraw _ _ _ _ _ hin).mono ?_
  rintro e w1 ⟨rfl, hc, HB⟩
  replace HB := hide HB
  have HC := hide hc
  clear hc hin
  go_wp2_with fail
  refine (drawBytes _ _ _ _ HC.out).mono ?_
  rintro e w2 ⟨b2, c2, ys, s2, -, rfl, o2, hY, hyl, hc2, hg2⟩
  have hgl : w.heap.size < w1.heap.size := HC.out.lt
  replace HB := hide (HB.out.grown hg2 HB.out.size (fun k hk => by cases hk; exact Nat.le_refl _))
  have HC2 := hide hc2
  have HO := hide o2
  have HY := hide hY
  clear o2 hc2 hg2 hY HC
  go_wp2_with fail
  refine (pickDraw _ _ _ 8 _ _ [0, 1, 7, 8, 8 * (ys.length : Int) - 1, 8 * (ys.length : Int), -1, 9223372036854775807] rfl (by omega) (by omega) HC2.out.lt (HC2.out.alloc _) (heap_alloc_new w2 _)).mono ?_
  rintro e w3 ⟨rfl, -, hg3⟩
  have hk := pickF_mem zs s2 [0, 1, 7, 8, 8 * (ys.length : Int) - 1, 8 * (ys.length : Int), -1, 9223372036854775807] (by simp)
  generalize (pickF zs s2 [0, 1, 7, 8, 8 * (ys.length : Int) - 1, 8 * (ys.length : Int), -1, 9223372036854775807]).1 = k at *
  have hk' : -9223372036854775808 ≤ k ∧ k ≤ 9223372036854775807 := by simp at hk; omega
  have H := hide (some_own (HO.out.cur (alloc_grown hg3) hgl) (by omega) HY.out)
  have HB' := hide (draw_below HB.out hg3)
  clear hk hg3 HO HB HC2
  go_wp2
  go_ret2
  exact ⟨_, _, rfl, H.out, hk', HB'.out⟩
end Go.Proofs.Ytpemnkfjeldgmaa
