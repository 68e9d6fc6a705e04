/-
  What Turn and its model do: the bytes, one bit the other way round, in new memory.
-/
import Derived.Test.YtmlbemcblgnbjaaCloneW
import Derived.Deep.QuietTactic
import Derived.BigQuiet
import Derived.RegionTactic
import Derived.ChangeAlike
namespace Go.Proofs.Ytmlbemcblgnbjaa
open Go.RowKit

/-- One bit of a byte the other way round. -/
def fl (z : Int) (k : Nat) : Int := bits .xor .u8 z (2 ^ k % 256)
/-- One bit of the bytes the other way round. -/
def turned (zs : List Int) (bit : Int) : List Int := if 0 ≤ bit ∧ bit / 8 < zs.length then zs.set (bit / 8).toNat (fl (zs.getD (bit / 8).toNat 0) (bit % 8).toNat) else zs

theorem turned_out (zs : List Int) (bit : Int) (h : bit < 0 ∨ (zs.length : Int) ≤ bit / 8) : turned zs bit = zs := by
  unfold turned; rw [if_neg (by omega)]
theorem turned_in (zs : List Int) (n : Nat) (h : n / 8 < zs.length) : turned zs (n : Int) = zs.set (n / 8) (fl (zs.getD (n / 8) 0) (n % 8)) := by
  have e1 : ((n : Int) / 8).toNat = n / 8 := by omega
  have e2 : ((n : Int) % 8).toNat = n % 8 := by omega
  unfold turned; rw [if_pos (by omega), e1, e2]

theorem Own.put {w : World} {b g c : Nat} {zs : List Int} (h : Own w b (.slice (some ⟨g, 0, none⟩) zs.length c) zs) (j : Nat) (z : Int) :
    Own (w.setCell ⟨g, j, none⟩ (.int .u8 z)) b (.slice (some ⟨g, 0, none⟩) zs.length c) (zs.set j z) ∧ w.grownBy (w.setCell ⟨g, j, none⟩ (.int .u8 z)) (some g) := by
  have HS := World.ownsRow.stored h j (.int .u8 z)
  refine ⟨?_, HS.2⟩
  unfold Own
  rw [List.length_set, List.map_set]
  exact HS.1

set_option maxHeartbeats 1000000 in
theorem turnImplOut (w : World) (a : Option Addr) (len cap : Nat) (zs : List Int) (bit : Int) (hin : In w w.heap.size a len zs) (hc : a = none → cap = 0) (hi : -9223372036854775808 ≤ bit ∧ bit ≤ 9223372036854775807)
    (hb : bit < 0 ∨ (zs.length : Int) ≤ bit / 8) :
    Calls Try.prog 37 #[.slice a len cap, .int .i64 bit] w fun e w' => ∃ v, e = .returned v ∧ Own w' w.heap.size v zs ∧ Below w.heap.size w w' := by
  obtain rfl := hin.1
  have hm := hin.2.1
  go_enter Try.func37, Try.ntmps37
  go_wp2_with fail
  refine (cloneB _ _ _ _ _ hin hc).mono ?_
  rintro e w1 ⟨v1, rfl, o1, b1, _⟩
  have HB := hide b1
  clear b1 hin
  obtain ⟨a1, c1, rfl⟩ := own_shape o1
  have HO := hide o1
  clear o1
  by_cases hn : bit < 0
  · clear hb
    go_wp2
    go_ret
    exact ⟨_, rfl, HO.out, HB.out⟩
  · have hb' : (zs.length : Int) ≤ bit / 8 := by omega
    have hn' : 0 ≤ bit := by omega
    clear hb hn
    go_wp2
    go_ret
    exact ⟨_, rfl, HO.out, HB.out⟩

set_option maxHeartbeats 1000000 in
theorem turnImplIn (w : World) (a : Option Addr) (len cap : Nat) (zs : List Int) (n : Nat) (hin : In w w.heap.size a len zs) (hc : a = none → cap = 0) (hi : (n : Int) ≤ 9223372036854775807)
    (hlt : n / 8 < zs.length) :
    Calls Try.prog 37 #[.slice a len cap, .int .i64 (n : Int)] w fun e w' => ∃ v, e = .returned v ∧ Own w' w.heap.size v (zs.set (n / 8) (fl (zs.getD (n / 8) 0) (n % 8))) ∧ Below w.heap.size w w' := by
  obtain rfl := hin.1
  have hm := hin.2.1
  have hb := hin.2.2.1 (n / 8) (by omega)
  go_enter Try.func37, Try.ntmps37
  go_wp2_with fail
  refine (cloneB _ _ _ _ _ hin hc).mono ?_
  rintro e w1 ⟨v1, rfl, o1, b1, _⟩
  have HB := hide b1
  clear b1 hin
  rcases o1.form with ⟨h0, _⟩ | ⟨hp, g, c1, rfl, hbg, hgs, hcell, hfr⟩
  · rw [h0] at hlt; simp at hlt
  have hc0 := hcell (n / 8) hlt
  have hf0 := hfr (n / 8)
  have hlt' : (n : Int) / 8 < (zs.length : Int) := by omega
  have hn0 : (0 : Int) ≤ (n : Int) / 8 := by omega
  have HO := hide o1
  clear o1 hcell hfr
  generalize hz : zs.getD (n / 8) 0 = z at *
  have HZ := hide hz
  clear hz
  go_wp2
  go_region
  have hend := HO.out.put (n / 8) (bits .xor .u8 z (2 ^ (n % 8) % 256))
  have HO' := hide hend.1
  have HB' := hide ((HB.out.grown hend.2 HB.out.size (fun q hq => by cases hq; exact hbg)))
  clear hend HO HB
  go_wp2
  go_ret
  refine ⟨_, rfl, ?_, below_drewN HB'.out 1⟩
  rw [HZ.out]
  exact HO'.out.drewN 1

set_option maxHeartbeats 1000000 in
theorem turnSpecOut (w : World) (a : Option Addr) (len cap : Nat) (zs : List Int) (bit : Int) (hin : In w w.heap.size a len zs) (hc : a = none → cap = 0) (hi : -9223372036854775808 ≤ bit ∧ bit ≤ 9223372036854775807)
    (hb : bit < 0 ∨ (zs.length : Int) ≤ bit / 8) :
    Calls Try.prog 39 #[.slice a len cap, .int .i64 bit] w fun e w' => ∃ v, e = .returned v ∧ Own w' w.heap.size v zs ∧ Below w.heap.size w w' := by
  obtain rfl := hin.1
  have hm := hin.2.1
  have HIN := hide (hin.kept (w' := w.alloc (.cells #[] 5)) (fun k hk => Below.heap_alloc w _ k hk))
  have HE := hide (own_empty w w.heap.size (Nat.le_refl _))
  clear hin
  by_cases hn : bit < 0
  · clear hb
    go_enter Try.func39, Try.ntmps39
    go_wp2_with (at_builtin; refine app_in rfl _ _ rfl w.heap.size w.heap.size _ [] rfl HE.out _ _ _ zs rfl hc HIN.out (by simp) (by simp) ?_; intro v1 w1 o1 g1 n1)
    go_ret
    exact ⟨_, rfl, o1, ((Below.refl w.heap.size w).alloc (Nat.le_refl _) (.cells #[] 5)).grown g1 (by simp) (fun q hq => (HE.out.lt q hq).1)⟩
  · have hb' : (zs.length : Int) ≤ bit / 8 := by omega
    have hn' : 0 ≤ bit := by omega
    clear hb hn
    go_enter Try.func39, Try.ntmps39
    go_wp2_with (at_builtin; refine app_in rfl _ _ rfl w.heap.size w.heap.size _ [] rfl HE.out _ _ _ zs rfl hc HIN.out (by simp) (by simp) ?_; intro v1 w1 o1 g1 n1)
    go_ret
    exact ⟨_, rfl, o1, ((Below.refl w.heap.size w).alloc (Nat.le_refl _) (.cells #[] 5)).grown g1 (by simp) (fun q hq => (HE.out.lt q hq).1)⟩

set_option maxHeartbeats 1000000 in
theorem turnSpecIn (w : World) (a : Option Addr) (len cap : Nat) (zs : List Int) (n : Nat) (hin : In w w.heap.size a len zs) (hc : a = none → cap = 0) (hi : (n : Int) ≤ 9223372036854775807)
    (hlt : n / 8 < zs.length) :
    Calls Try.prog 39 #[.slice a len cap, .int .i64 (n : Int)] w fun e w' => ∃ v, e = .returned v ∧ Own w' w.heap.size v (zs.set (n / 8) (fl (zs.getD (n / 8) 0) (n % 8))) ∧ Below w.heap.size w w' := by
  obtain rfl := hin.1
  have hm := hin.2.1
  have hb := hin.2.2.1 (n / 8) (by omega)
  have HIN := hide (hin.kept (w' := w.alloc (.cells #[] 5)) (fun k hk => Below.heap_alloc w _ k hk))
  have HE := hide (own_empty w w.heap.size (Nat.le_refl _))
  clear hin
  go_enter Try.func39, Try.ntmps39
  go_wp2_with (at_builtin; refine app_in rfl _ _ rfl w.heap.size w.heap.size _ [] rfl HE.out _ _ _ zs rfl hc HIN.out (by simp) (by simp) ?_; intro v1 w1 o1 g1 n1)
  have HB := hide (((Below.refl w.heap.size w).alloc (Nat.le_refl _) (.cells #[] 5)).grown g1 (by simp) (fun q hq => (HE.out.lt q hq).1))
  rw [List.nil_append] at o1
  clear g1 n1 HE HIN
  rcases o1.form with ⟨h0, _⟩ | ⟨hp, g, c1, rfl, hbg, hgs, hcell, hfr⟩
  · rw [h0] at hlt; simp at hlt
  have hc0 := hcell (n / 8) hlt
  have hf0 := hfr (n / 8)
  have hlt' : (n : Int) / 8 < (zs.length : Int) := by omega
  have hn0 : (0 : Int) ≤ (n : Int) / 8 := by omega
  have HO := hide o1
  clear o1 hcell hfr
  generalize hz : zs.getD (n / 8) 0 = z at *
  have HZ := hide hz
  clear hz
  go_wp2
  go_region
  have hend := HO.out.put (n / 8) (bits .xor .u8 z (2 ^ (n % 8) % 256))
  have HO' := hide hend.1
  have HB' := hide ((HB.out.grown hend.2 HB.out.size (fun q hq => by cases hq; exact hbg)))
  clear hend HO HB
  go_wp2
  go_ret
  refine ⟨_, rfl, ?_, below_drewN HB'.out 1⟩
  rw [HZ.out]
  exact HO'.out.drewN 1

theorem turnImpl (w : World) (a : Option Addr) (len cap : Nat) (zs : List Int) (bit : Int) (hin : In w w.heap.size a len zs) (hc : a = none → cap = 0) (hi : -9223372036854775808 ≤ bit ∧ bit ≤ 9223372036854775807) :
    Calls Try.prog 37 #[.slice a len cap, .int .i64 bit] w fun e w' => ∃ v, e = .returned v ∧ Own w' w.heap.size v (turned zs bit) ∧ Below w.heap.size w w' := by
  by_cases hb : bit < 0 ∨ (zs.length : Int) ≤ bit / 8
  · rw [turned_out _ _ hb]
    exact turnImplOut w a len cap zs bit hin hc hi hb
  · obtain ⟨n, rfl⟩ : ∃ n : Nat, bit = (n : Int) := Int.eq_ofNat_of_zero_le (by omega)
    rw [turned_in _ _ (by omega)]
    exact turnImplIn w a len cap zs n hin hc hi.2 (by omega)
theorem turnSpec (w : World) (a : Option Addr) (len cap : Nat) (zs : List Int) (bit : Int) (hin : In w w.heap.size a len zs) (hc : a = none → cap = 0) (hi : -9223372036854775808 ≤ bit ∧ bit ≤ 9223372036854775807) :
    Calls Try.prog 39 #[.slice a len cap, .int .i64 bit] w fun e w' => ∃ v, e = .returned v ∧ Own w' w.heap.size v (turned zs bit) ∧ Below w.heap.size w w' := by
  by_cases hb : bit < 0 ∨ (zs.length : Int) ≤ bit / 8
  · rw [turned_out _ _ hb]
    exact turnSpecOut w a len cap zs bit hin hc hi hb
  · obtain ⟨n, rfl⟩ : ∃ n : Nat, bit = (n : Int) := Int.eq_ofNat_of_zero_le (by omega)
    rw [turned_in _ _ (by omega)]
    exact turnSpecIn w a len cap zs n hin hc hi.2 (by omega)

end Go.Proofs.Ytmlbemcblgnbjaa
