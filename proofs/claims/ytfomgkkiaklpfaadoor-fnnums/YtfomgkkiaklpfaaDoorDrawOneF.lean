/-
  What DrawPutNum, DrawGetNum, DrawPutText and DrawGetText do: some number, some bytes and some place in them, some text; nothing that was there is turned.
-/
import Derived.Test.YtfomgkkiaklpfaaDoorDrawNumsF
import Derived.Test.YtfomgkkiaklpfaaDoorDrawTextF
import Derived.Test.YtfomgkkiaklpfaaDoorPutTextW
import Derived.Test.YtfomgkkiaklpfaaDoorInCut
namespace Go.Proofs.YtfomgkkiaklpfaaDoor
open Go.RowKit

set_option maxRecDepth 100000 in
set_option maxHeartbeats 1000000 in
theorem drawPutNum (w : World) (a : Option Addr) (len cap : Nat) (zs : List Int) (hin : In w w.heap.size a len zs) :
    Calls Tryd.prog 9 #[.slice a len cap] w fun e w' => ∃ x : Int, e = .returned (.int .i64 x) ∧ (-1 ≤ x ∧ x ≤ 16777216) ∧ Below w.heap.size w w' := by
  go_enter Tryd.func9, Tryd.ntmps9
  go_wp2_with fail
  refine (newDraw _ _ _ _ _ hin).mono ?_
  rintro e w1 ⟨rfl, hc, hb⟩
  go_wp2_with fail
  refine (pickDraw _ _ _ 9 _ _ [0, 1, 127, 128, 300, 16384, 16777215, 16777216, -1] rfl (by omega) (by omega) hc.lt (hc.alloc _) (heap_alloc_new w1 _)).mono ?_
  rintro e w3 ⟨rfl, -, hg⟩
  have hx := pickF_mem zs (newF zs) [0, 1, 127, 128, 300, 16384, 16777215, 16777216, -1] (by simp)
  generalize (pickF zs (newF zs) [0, 1, 127, 128, 300, 16384, 16777215, 16777216, -1]).1 = x at *
  have H : Hid ((-1 ≤ x ∧ x ≤ 16777216) ∧ Below w.heap.size w w3) := ⟨by simp at hx; omega, draw_below hb hg⟩
  clear hx hg hb hc
  go_wp2
  go_ret
  exact ⟨x, rfl, H.out⟩

/-- Some row of bytes, few of them. -/
def SomeRow (w : World) (v : Value) : Prop := ∃ (a : Option Addr) (len cap : Nat) (ys : List Int), v = .slice a len cap ∧ In w w.heap.size a len ys ∧ len ≤ 300 ∧ len ≤ cap ∧ (a = none → cap = 0) ∧ (∀ x, a = some x → x.spot = none)

theorem own_spot {w : World} {b len cap : Nat} {a : Option Addr} {zs : List Int} (h : Own w b (.slice a len cap) zs) : ∀ x, a = some x → x.spot = none := by
  rintro x rfl
  rcases h.2 with ⟨e, _⟩ | ⟨g', cap, cur, e, _⟩
  · cases e
  · cases e; rfl
theorem some_row {w : World} {b : Nat} {v : Value} {ys : List Int} (h : Own w b v ys) (hl : ys.length ≤ 300) (hy : Byt ys) : SomeRow w v := by
  obtain ⟨a, c, rfl, hi, hc⟩ := in_any h (by omega) hy (Nat.le_refl _)
  exact ⟨a, ys.length, c, ys, rfl, hi, hl, hc, h.cap0, own_spot h⟩
theorem bts_byt (s : ByteArray) : Byt (bts s) := by
  intro z hz
  simp only [bts, List.mem_map] at hz
  obtain ⟨b, _, rfl⟩ := hz
  have := b.toNat_lt
  omega
theorem pt_byt (s : ByteArray) : Byt (pt s) := by
  unfold pt
  split
  · exact (pn_byt _).append (bts_byt s)
  · intro z hz; cases hz

set_option maxRecDepth 100000 in
set_option maxHeartbeats 1000000 in
theorem drawGetNum (w : World) (a : Option Addr) (len cap : Nat) (zs : List Int) (hin : In w w.heap.size a len zs) :
    Calls Tryd.prog 14 #[.slice a len cap] w fun e w' => ∃ v k, e = .returned (.tuple #[v, .int .i64 k]) ∧ SomeRow w' v ∧ (-9223372036854775808 ≤ k ∧ k ≤ 9223372036854775807) ∧ Below w.heap.size w w' := by
  go_enter Tryd.func14, Tryd.ntmps14
  go_wp2_with fail
  refine (newDraw _ _ _ _ _ hin).mono ?_
  rintro e w1 ⟨rfl, hc, HB⟩
  replace HB := hide HB
  have HC := hide hc
  clear hc hin
  go_wp2_with fail
  refine (drawNums _ _ _ _ HC.out).mono ?_
  rintro e w2 ⟨b2, c2, ys, s2, -, rfl, o2, hY, hyl, hc2, hg2⟩
  have hgl : w.heap.size < w1.heap.size := HC.out.lt
  replace HB := hide (HB.out.grown hg2 HB.out.size (fun k hk => by cases hk; exact Nat.le_refl _))
  have HC2 := hide hc2
  have HO := hide o2
  have HY := hide hY
  clear o2 hc2 hg2 hY HC
  go_wp2_with fail
  refine (pickDraw _ _ _ 7 _ _ [0, 0, 1, (ys.length : Int), (ys.length : Int) - 1, -1, 9223372036854775807] rfl (by omega) (by omega) HC2.out.lt (HC2.out.alloc _) (heap_alloc_new w2 _)).mono ?_
  rintro e w3 ⟨rfl, -, hg3⟩
  have hk := pickF_mem zs s2 [0, 0, 1, (ys.length : Int), (ys.length : Int) - 1, -1, 9223372036854775807] (by simp)
  generalize (pickF zs s2 [0, 0, 1, (ys.length : Int), (ys.length : Int) - 1, -1, 9223372036854775807]).1 = k at *
  have hk' : -9223372036854775808 ≤ k ∧ k ≤ 9223372036854775807 := by simp at hk; omega
  have H := hide (some_row (HO.out.cur (alloc_grown hg3) hgl) (by omega) HY.out)
  have HB' := hide (draw_below HB.out hg3)
  clear hk hg3 HO HB HC2
  go_wp2
  go_ret2
  exact ⟨_, _, rfl, H.out, hk', HB'.out⟩

set_option maxHeartbeats 1000000 in
theorem drawPutText (w : World) (a : Option Addr) (len cap : Nat) (zs : List Int) (hin : In w w.heap.size a len zs) :
    Calls Tryd.prog 16 #[.slice a len cap] w fun e w' => ∃ s : ByteArray, e = .returned (.string s) ∧ s.size ≤ 201 ∧ Below w.heap.size w w' := by
  go_enter Tryd.func16, Tryd.ntmps16
  go_wp2_with fail
  refine (newDraw _ _ _ _ _ hin).mono ?_
  rintro e w1 ⟨rfl, hc, hb⟩
  go_wp2_with fail
  refine (drawText _ _ _ _ hc).mono ?_
  rintro e w2 ⟨rfl, hs, -, hg⟩
  have H := hide (hb.grown hg hb.size (fun k hk => by cases hk; exact Nat.le_refl _))
  clear hg hb hc hin
  generalize (textF zs (newF zs)).1 = s at *
  go_wp2
  go_ret
  exact ⟨s, rfl, hs, H.out⟩

set_option maxRecDepth 100000 in
set_option maxHeartbeats 1000000 in
theorem drawGetText (w : World) (a : Option Addr) (len cap : Nat) (zs : List Int) (hin : In w w.heap.size a len zs) :
    Calls Tryd.prog 20 #[.slice a len cap] w fun e w' => ∃ v k, e = .returned (.tuple #[v, .int .i64 k]) ∧ SomeRow w' v ∧ (-1 ≤ k ∧ k ≤ 300) ∧ Below w.heap.size w w' := by
  go_enter Tryd.func20, Tryd.ntmps20
  go_wp2_with fail
  refine (newDraw _ _ _ _ _ hin).mono ?_
  rintro e w1 ⟨rfl, hc, HB⟩
  replace HB := hide HB
  have HC := hide hc
  have hgl : w.heap.size < w1.heap.size := hc.lt
  clear hc hin
  go_wp2_with fail
  refine (drawText _ _ _ _ HC.out).mono ?_
  rintro e w2 ⟨rfl, hs, hc2, hg2⟩
  replace HB := hide (HB.out.grown hg2 HB.out.size (fun k hk => by cases hk; exact Nat.le_refl _))
  have hsz2 := hg2.size
  replace HC := hide hc2
  clear hc2 hg2
  generalize textF zs (newF zs) = r at *
  obtain ⟨s, s2⟩ := r
  have HC : Hid (Cur w2 w.heap.size zs s2) := HC
  have hs : s.size ≤ 201 := hs
  simp only
  go_wp2_with fail
  refine (putTextSpec _ _ (by unfold maxLen; omega)).mono ?_
  rintro e w3 ⟨v3, rfl, o3, b3⟩
  have hpl := pt_len s
  have HPB := hide (pt_byt s)
  generalize pt s = ps at *
  obtain ⟨a3, c3, rfl⟩ := own_shape o3
  have HO := hide o3
  replace HC := hide (HC.out.row (grown_of_below b3) (fun k hk => by cases hk))
  have hs3 := b3.size
  replace HB := hide (HB.out.trans (b3.mono HB.out.size))
  clear o3 b3
  go_wp2_with fail
  refine (drawNums _ _ _ _ HC.out).mono ?_
  rintro e w4 ⟨b4, c4, ys, s4, -, rfl, o4, hY, hyl, hc4, hg4⟩
  replace HB := hide (HB.out.grown hg4 HB.out.size (fun k hk => by cases hk; exact Nat.le_refl _))
  replace HO := hide (HO.out.cur hg4 (by omega))
  have hs4 := hg4.size
  have HI4 := hide (in_own o4 rfl (by omega) hY.at (Nat.le_refl _))
  have HY := hide hY
  replace HC := hide hc4
  clear o4 hc4 hg4 hY
  have hb2 : w2.heap.size ≤ w4.heap.size := by omega
  go_wp2_with (at_builtin; refine app_in rfl _ _ rfl w2.heap.size w4.heap.size _ ps rfl HO.out _ _ _ ys rfl ?_ HI4.out ?_ hb2 ?_; (intro h; cases h); omega; intro v5 w5 o5 g5 n5)
  have hrow : ∀ q, Value.ownBlock (.slice a3 ps.length c3) = some q → w2.heap.size ≤ q := fun q hq => (HO.out.lt q hq).1
  have g5' : w4.grownBy w5 (Value.ownBlock (.slice a3 ps.length c3)) := g5
  replace HB := hide (HB.out.grown g5' HB.out.size (fun q hq => by have := hrow q hq; omega))
  replace HC := hide (HC.out.row g5' (fun q hq => by have := hrow q hq; omega))
  replace HO := hide o5
  have hs5 := g5'.size
  have HSB := hide (HPB.out.append HY.out)
  have hsl : (ps ++ ys).length ≤ 234 := by simp; omega
  generalize ps ++ ys = sl at *
  obtain ⟨a5, c5, rfl⟩ := own_shape o5
  have hc5 := (in_slice o5 (by omega) HSB.out (Nat.le_refl _)).2
  clear o5 g5 g5' n5 HI4 hrow
  have hbO := belowF_bd zs s4 4 (by omega)
  go_wp2_with fail
  refine (onceDraw _ _ _ _ _ (by omega) (by omega) HC.out).mono ?_
  rintro e w6 ⟨rfl, hc6, hg6⟩
  replace HB := hide (HB.out.grown hg6 HB.out.size (fun k hk => by cases hk; exact Nat.le_refl _))
  replace HO := hide (HO.out.cur hg6 (by omega))
  replace HC := hide hc6
  clear hc6 hg6
  generalize onceF zs s4 4 = r at *
  obtain ⟨o, s6⟩ := r
  have HC : Hid (Cur w6 w.heap.size zs s6) := HC
  simp only
  cases o with
  | false =>
    go_wp2_with fail
    refine (pickDraw _ _ _ 6 _ _ [0, 0, 0, 1, (sl.length : Int), -1] rfl (by omega) (by omega) HC.out.lt (HC.out.alloc _) (heap_alloc_new w6 _)).mono ?_
    rintro e w7 ⟨rfl, -, hg7⟩
    have hk := pickF_mem zs s6 [0, 0, 0, 1, (sl.length : Int), -1] (by simp)
    generalize (pickF zs s6 [0, 0, 0, 1, (sl.length : Int), -1]).1 = k at *
    have hk' : -1 ≤ k ∧ k ≤ 300 := by simp at hk; omega
    have H := hide (some_row (HO.out.cur (alloc_grown hg7) (by omega)) (by omega) HSB.out)
    have HB' := hide (draw_below HB.out hg7)
    clear hk hg7 HO HB HC
    go_wp2
    go_ret2
    exact ⟨_, _, rfl, H.out, hk', HB'.out⟩
  | true =>
    have h9 : (0 : Int) < (sl.length : Int) + 1 := by omega
    have hb9 := belowF_bd zs s6 ((sl.length : Int) + 1) h9
    go_wp2_with fail
    refine (belowDraw _ _ _ _ _ h9 (by omega) HC.out).mono ?_
    rintro e w7 ⟨rfl, hc7, hg7⟩
    replace HB := hide (HB.out.grown hg7 HB.out.size (fun k hk => by cases hk; exact Nat.le_refl _))
    replace HO := hide (HO.out.cur hg7 (by omega))
    replace HC := hide hc7
    clear hc7 hg7
    generalize belowF zs s6 ((sl.length : Int) + 1) = r at *
    obtain ⟨x, s7⟩ := r
    have HC : Hid (Cur w7 w.heap.size zs s7) := HC
    have hb9 : 0 ≤ x ∧ x < (sl.length : Int) + 1 := hb9
    obtain ⟨m, rfl⟩ := Int.eq_ofNat_of_zero_le hb9.1
    have hm : m ≤ sl.length := by omega
    have hmc : m ≤ c5 := by omega
    have HT := hide ((in_slice HO.out (by omega) HSB.out (Nat.le_refl _)).1.take m hm)
    have H0 := hide HO.out.cap0
    have HP := hide (own_spot HO.out)
    simp only
    go_wp2_with fail
    refine (pickDraw _ _ _ 6 _ _ [0, 0, 0, 1, (m : Int), -1] rfl (by omega) (by omega) HC.out.lt (HC.out.alloc _) (heap_alloc_new w7 _)).mono ?_
    rintro e w8 ⟨rfl, -, hg8⟩
    have hk := pickF_mem zs s7 [0, 0, 0, 1, (m : Int), -1] (by simp)
    generalize (pickF zs s7 [0, 0, 0, 1, (m : Int), -1]).1 = k at *
    have hk' : -1 ≤ k ∧ k ≤ 300 := by simp at hk; omega
    have hga := alloc_grown hg8
    have HO8 := hide (HO.out.cur hga (by omega))
    have HT8 := hide ((in_slice HO8.out (by omega) HSB.out (Nat.le_refl _)).1.take m hm)
    have H : Hid (SomeRow w8 (.slice a5 m c5)) := ⟨a5, m, c5, sl.take m, rfl, HT8.out, by omega, hmc, H0.out, HP.out⟩
    have HB' := hide (draw_below HB.out hg8)
    clear hk hg8 hga HO HB HC HT HO8 HT8
    go_wp2
    go_ret2
    exact ⟨_, _, rfl, H.out, hk', HB'.out⟩
end Go.Proofs.YtfomgkkiaklpfaaDoor
