/-
  What Check, Clone, Seal and their models do: the bytes and behind them the four bytes of their sums, in new memory; nothing that was there is touched.
-/
import Derived.Test.YtmlbemcblgnbjaaSumW
import Derived.Test.YtmlbemcblgnbjaaPutWordW
import Derived.Test.YtmlbemcblgnbjaaCloneW
import Derived.Lib.LazyBuf
namespace Go.Proofs.Ytmlbemcblgnbjaa
open Go.RowKit

/-- The four bytes of a number, the low ones first. -/
def four (n : Int) : List Int := [n % 256, n / 256 % 256, n / 65536 % 256, n / 16777216 % 256]
/-- Bytes, sealed. -/
def sealed (zs : List Int) : List Int := zs ++ four (chk zs)

theorem pw_rnd (n : Int) : pw (rnd n) = four n := by
  have h := rnd_bd n
  rw [pw_in _ h.1 h.2]
  unfold four rnd
  simp only [List.cons.injEq, and_true]
  refine ⟨?_, ?_, ?_, ?_⟩ <;> omega
theorem four_byt (n : Int) : Byt (four n) := by
  intro z hz
  simp [four] at hz
  omega
theorem four_len (n : Int) : (four n).length = 4 := rfl
theorem chk_bd (zs : List Int) : 0 ≤ chk zs ∧ chk zs ≤ 4294967295 := by
  have := sums_bd zs
  unfold chk
  omega

theorem own_in {w : World} {b B : Nat} {v : Value} {zs : List Int} (h : Own w b v zs) (hm : zs.length ≤ 1048576) (hz : Byt zs) (hB : w.heap.size ≤ B) : ∃ a c, v = .slice a zs.length c ∧ In w B a zs.length zs ∧ (a = none → c = 0) := by
  obtain ⟨a, c, rfl, hi, _⟩ := in_any h hm hz hB
  exact ⟨a, c, rfl, hi, h.cap0⟩


set_option maxHeartbeats 1000000 in
theorem l2Sum (w : World) (a : Option Addr) (len cap : Nat) (zs : List Int) (hin : In w w.heap.size a len zs) :
    Calls Try.prog 48 #[.slice a len cap] w fun e w' => ∃ v, e = .returned v ∧ Own w' w.heap.size v (four (chk zs)) ∧ Below w.heap.size w w' := by
  have hb := chk_bd zs
  have HE : Hid (four (chk zs) = [chk zs % 256, chk zs / 256 % 256, chk zs / 65536 % 256, chk zs / 16777216]) := by
    show _ = _
    have e : chk zs / 16777216 % 256 = chk zs / 16777216 := by omega
    unfold four
    rw [e]
  go_enter Try.func48, Try.ntmps48
  go_wp2_with fail
  refine (checkSpec _ _ _ _ _ _ hin).mono ?_
  rintro e w1 ⟨rfl, rfl⟩
  clear hin
  go_wp2
  go_ret
  refine ⟨_, rfl, ?_, (Below.refl _ _).alloc (Nat.le_refl _) _⟩
  rw [HE.out]
  exact own_four _ _ (Nat.le_refl _) _ _ _ _

set_option maxHeartbeats 1000000 in
theorem sealSpec (w : World) (a : Option Addr) (len cap : Nat) (zs : List Int) (hin : In w w.heap.size a len zs) (hc : a = none → cap = 0) :
    Calls Try.prog 47 #[.slice a len cap] w fun e w' => ∃ v, e = .returned v ∧ Own w' w.heap.size v (sealed zs) ∧ Below w.heap.size w w' := by
  have hl := hin.1
  have hm := hin.2.1
  have HIN := hide (hin.kept (w' := w.alloc (.cells #[] 5)) (fun k hk => Below.heap_alloc w _ k hk))
  have HO := hide (own_empty w w.heap.size (Nat.le_refl _))
  clear hin
  go_enter Try.func47, Try.ntmps47
  go_wp2_with (at_builtin; refine app_in rfl _ _ rfl w.heap.size w.heap.size _ [] rfl HO.out _ _ _ zs rfl hc HIN.out (by simp) (by simp) ?_; intro v1 w1 o1 g1 n1)
  have HB1 := hide (((Below.refl w.heap.size w).alloc (Nat.le_refl _) (.cells #[] 5)).grown g1 (by simp) (fun q hq => (HO.out.lt q hq).1))
  have HO1 := hide o1
  have hin1 := hide ((HIN.out.kept (fun k hk => g1.block k (by simp; omega) (fun e => by have := (HO.out.lt k e.symm).1; omega))).up HB1.out.size)
  clear o1 g1 n1 HO HIN
  go_wp2_with fail
  refine (l2Sum _ _ _ _ _ hin1.out).mono ?_
  rintro e w4 ⟨v4, rfl, o4, b4⟩
  obtain ⟨a4, c4, rfl, i4, hc4⟩ := own_in o4 (by simp [four_len]) (four_byt _) (Nat.le_refl _)
  have HB4 := hide (HB1.out.trans (b4.mono HB1.out.size))
  have HO4 : Hid (Own w4 w.heap.size v1 zs) := hide (HO1.out.below b4)
  have HI4 := hide i4
  have hs4 : w.heap.size ≤ w4.heap.size := HB4.out.size
  clear b4 HB1 HO1 i4 o4 hin1
  go_wp2_with (at_builtin; refine app_in rfl _ _ rfl w.heap.size w4.heap.size _ zs rfl HO4.out _ _ _ (four (chk zs)) rfl hc4 HI4.out (by omega) hs4 ?_; intro v' w' o' g' n')
  have H := hide o'
  have HB := hide (HB4.out.grown g' hs4 (fun q hq => (HO4.out.lt q hq).1))
  clear o' g' n' HO4 HI4 HB4
  go_wp2
  go_ret
  exact ⟨_, rfl, H.out, HB.out⟩

end Go.Proofs.Ytmlbemcblgnbjaa
