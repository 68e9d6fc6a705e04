/-
  Joined: ReadB, ReadAt, GetSpec.
-/
import Derived.Test.YtpgmipbanpofaaaGreatDoorJ2
import Derived.Defers
import Derived.Recover
import Derived.Laws.Pointers
import Derived.RegionTactic
import Derived.ChangeAlike
import Derived.Test.YtpgmipbanpofaaaGreatDoorJ3
/-
  The variables of a face over a reader.
-/
namespace Go.Proofs.YtpgmipbanpofaaaGreatDoor
open Go.RowKit

/-- The four new variables, behind a call that has turned none but the last one. -/
theorem four_new {w w1 : World} {x0 : Value} {T : TypeId} {k : Int} (hg : ((((w.alloc (.cells #[x0] T)).alloc (.cells #[.int .i64 0] 3)).alloc (.cells #[.bool false] 4)).alloc (.cells #[.int .i64 k] 3)).grownBy w1 (some (w.heap.size + 1 + 1 + 1))) :
    w1.heap[w.heap.size]? = some (.cells #[x0] T (0, 0)) ∧ w1.heap[w.heap.size + 1]? = some (.cells #[.int .i64 0] 3 (0, 0)) ∧ w1.heap[w.heap.size + 1 + 1]? = some (.cells #[.bool false] 4 (0, 0)) ∧ Below w.heap.size w w1 := by
  have hs : ((((w.alloc (.cells #[x0] T)).alloc (.cells #[.int .i64 0] 3)).alloc (.cells #[.bool false] 4)).alloc (.cells #[.int .i64 k] 3)).heap.size = w.heap.size + 4 := by simp
  have e0 := heap_alloc_new w (.cells #[x0] T)
  have e1 := heap_alloc_new (w.alloc (.cells #[x0] T)) (.cells #[.int .i64 0] 3)
  have e2 := heap_alloc_new ((w.alloc (.cells #[x0] T)).alloc (.cells #[.int .i64 0] 3)) (.cells #[.bool false] 4)
  have n1 : (w.alloc (.cells #[x0] T)).heap.size = w.heap.size + 1 := by simp
  have n2 : ((w.alloc (.cells #[x0] T)).alloc (.cells #[.int .i64 0] 3)).heap.size = w.heap.size + 1 + 1 := by simp
  have n3 : (((w.alloc (.cells #[x0] T)).alloc (.cells #[.int .i64 0] 3)).alloc (.cells #[.bool false] 4)).heap.size = w.heap.size + 1 + 1 + 1 := by simp
  rw [n1] at e1
  rw [n2] at e2
  refine ⟨?_, ?_, ?_, ?_⟩
  · rw [hg.block _ (by omega) (by simp; omega), Below.heap_alloc _ _ _ (by omega), Below.heap_alloc _ _ _ (by omega), Below.heap_alloc _ _ _ (by omega), e0]
  · rw [hg.block _ (by omega) (by simp), Below.heap_alloc _ _ _ (by omega), Below.heap_alloc _ _ _ (by omega), e1]
  · rw [hg.block _ (by omega) (by simp), Below.heap_alloc _ _ _ (by omega), e2]
  · exact ((((Below.refl _ _).alloc (Nat.le_refl _) _).alloc (by simp) _).alloc (by simp; omega) _ |>.alloc (by simp; omega) _).grown hg (by simp; omega) (fun k hk => by cases hk; omega)

theorem Err.low {w W : World} {t : TypeId} {v : Value} (h : Err w t v) (hb : Below w.heap.size w W) (h0 : 0 < w.heap.size) : Err W t v :=
  (hb.cell (p := ⟨0, 0, none⟩) h0).trans h

end Go.Proofs.YtpgmipbanpofaaaGreatDoor
/-
  What readAt does with takeNum: the number, the place behind it and true; 0, 0 and false, where there is none.
-/
namespace Go.Proofs.YtpgmipbanpofaaaGreatDoor
open Go.RowKit

/-- What readAt answers. -/
def ans (r : Option (Int × Nat)) : Value :=
  match r with
  | some (n, nx) => .tuple #[.int .i64 n, .int .i64 (nx : Int), .bool true]
  | none => .tuple #[.int .i64 0, .int .i64 0, .bool false]

end Go.Proofs.YtpgmipbanpofaaaGreatDoor
/-
  What the model's GetNum does: it answers as the readers of the program do.
-/
namespace Go.Proofs.YtpgmipbanpofaaaGreatDoor
open Go.RowKit

theorem or_low (i : Nat) (hi : i ≤ 62) (m x : Int) (h0 : 0 ≤ m) (h1 : m < 2 ^ i) (hx0 : 0 ≤ x) (hx : x % 2 ^ i = 0) (hx1 : x < 2 ^ 62) : bits .or .i64 m x = m + x := by
  have hc : bits .or .i64 m x = bits .or .i64 x m := by simp only [bits, BitVec.or_comm]
  have hp : (2 : Int) ^ i ≤ 2 ^ 62 := by
    have := Nat.pow_le_pow_right (n := 2) (by decide) hi
    exact_mod_cast this
  rw [hc, bits_join .i64 62 (by decide) (fun n a b => by rw [IntKind.wrap_i64]; omega) i x m hx0 hx hx1 h0 h1 (by omega)]
  omega

theorem ret_ans {r : Option (Int × Nat)} {n m b : Int} {nx : Nat} (hr : r = some (n, nx)) (h1 : m = n) (h2 : b = (nx : Int)) : Ending.returned (.tuple #[.int .i64 m, .int .i64 b, .bool true]) = .returned (ans r) := by
  subst hr h1 h2; rfl

set_option maxRecDepth 100000 in
set_option maxHeartbeats 2000000 in
theorem getNumSpec (w : World) (a : Option Addr) (len cap : Nat) (zs : List Int) (k0 : Nat) (B : Nat) (hin : In w B a len zs) :
    Calls Tryz.prog 30 #[.slice a len cap, .int .i64 (k0 : Int)] w fun e w' => e = .returned (ans (gnF zs 4 k0 0 1)) ∧ w' = w := by
  have hlen := hin.1
  have hl := hin.2.1
  have hnn : ¬ ((k0 : Int) < 0) := by omega
  go_enter Tryz.func30, Tryz.ntmps30
  go_wp2
  go_loopw [7, 8] (fun n i wr => ∃ (j : Nat) (m wt : Int), j ≤ 4 ∧ ((j = 0 ∧ wt = 1) ∨ (j = 1 ∧ wt = 128) ∨ (j = 2 ∧ wt = 16384) ∨ (j = 3 ∧ wt = 2097152) ∨ (j = 4)) ∧ 0 ≤ m ∧ m < wt ∧ n = .int .i64 m ∧ i = .int .i64 (j : Int) ∧
      Hid (gnF zs (4 - j) (k0 + j) m wt = gnF zs 4 k0 0 1) ∧ wr = w)
    (fun _ i _ => 4 - (intOf i).toNat)
  case atStart => exact ⟨0, 0, 1, by omega, by omega, by omega, by omega, rfl, rfl, rfl, rfl⟩
  case round =>
    obtain ⟨j, m, wt, hj, hw, hm0, hm1, rfl, rfl, HX, rfl⟩ := hrel
    by_cases hj4 : j = 4
    · subst hj4
      clear hw hin
      have HN : Hid (ans (gnF zs 4 k0 0 1) = ans none) := by have := HX.out; show _ = _; rw [← this]; rfl
      go_wp2
      go_ret3
      exact ⟨by rw [HN.out]; rfl, rfl⟩
    · have hw3 : (j = 0 ∧ wt = 1) ∨ (j = 1 ∧ wt = 128) ∨ (j = 2 ∧ wt = 16384) ∨ (j = 3 ∧ wt = 2097152) := by omega
      clear hw
      by_cases hr : k0 + j < len
      · have hr' : k0 + j < zs.length := by omega
        have hzb := hin.2.2.1 _ hr
        obtain ⟨b, o, rfl, hbB, hcell⟩ := hin.2.2.2 (by omega)
        have hz := hcell _ hr
        clear hin hcell
        by_cases hd : zs.getD (k0 + j) 0 < 128
        · by_cases hb : 16777215 < m + zs.getD (k0 + j) 0 % 128 * wt ∨ (zs.getD (k0 + j) 0 = 0 ∧ 1 < wt)
          · have HN : Hid (ans (gnF zs 4 k0 0 1) = ans none) := by
              have := HX.out
              rw [show 4 - j = (3 - j) + 1 from by omega, gnF_no zs _ _ m wt hr' hd hb] at this
              show _ = _
              rw [← this]
            clear HX
            generalize zs.getD (k0 + j) 0 = z at *
            by_cases hb1 : 16777215 < m + z % 128 * wt
            · clear hb
              by_cases hz1 : z = 0
              · exfalso; rcases hw3 with ⟨rfl, rfl⟩ | ⟨rfl, rfl⟩ | ⟨rfl, rfl⟩ | ⟨rfl, rfl⟩ <;> omega
              have hz0 : (z == 0) = false := by simp [hz1]
              clear hz1
              rcases hw3 with ⟨rfl, rfl⟩ | ⟨rfl, rfl⟩ | ⟨rfl, rfl⟩ | ⟨rfl, rfl⟩
              · omega
              · omega
              · omega
              · have hor : bits .or .i64 m (z % 128 * 2097152) = m + z % 128 * 2097152 := or_low 21 (by omega) m _ hm0 (by simpa using hm1) (by omega) (by omega) (by omega)
                go_wp2
                go_ret3
                exact ⟨by rw [HN.out]; rfl, rfl⟩
            · have hz0 : (z == 0) = true := by simp; omega
              have hw1 : 1 < wt := by omega
              clear hb
              rcases hw3 with ⟨rfl, rfl⟩ | ⟨rfl, rfl⟩ | ⟨rfl, rfl⟩ | ⟨rfl, rfl⟩
              · omega
              · have hor : bits .or .i64 m (z % 128 * 128) = m + z % 128 * 128 := or_low 7 (by omega) m _ hm0 (by simpa using hm1) (by omega) (by omega) (by omega)
                go_wp2
                go_ret3
                exact ⟨by rw [HN.out]; rfl, rfl⟩
              · have hor : bits .or .i64 m (z % 128 * 16384) = m + z % 128 * 16384 := or_low 14 (by omega) m _ hm0 (by simpa using hm1) (by omega) (by omega) (by omega)
                go_wp2
                go_ret3
                exact ⟨by rw [HN.out]; rfl, rfl⟩
              · have hor : bits .or .i64 m (z % 128 * 2097152) = m + z % 128 * 2097152 := or_low 21 (by omega) m _ hm0 (by simpa using hm1) (by omega) (by omega) (by omega)
                go_wp2
                go_ret3
                exact ⟨by rw [HN.out]; rfl, rfl⟩
          · have HN : Hid (gnF zs 4 k0 0 1 = some (m + zs.getD (k0 + j) 0 % 128 * wt, k0 + j + 1)) := by
              have := HX.out
              rw [show 4 - j = (3 - j) + 1 from by omega, gnF_yes zs _ _ m wt hr' hd hb] at this
              exact this.symm
            clear HX
            generalize zs.getD (k0 + j) 0 = z at *
            have hb1 : m + z % 128 * wt ≤ 16777215 := by omega
            have hb2 : z = 0 → wt ≤ 1 := by intro h; omega
            clear hb
            by_cases hz1 : z = 0
            · have hw1 := hb2 hz1
              have hz0 : (z == 0) = true := by simp [hz1]
              clear hz1 hb2
              rcases hw3 with ⟨rfl, rfl⟩ | ⟨rfl, rfl⟩ | ⟨rfl, rfl⟩ | ⟨rfl, rfl⟩
              · simp only [Nat.add_zero] at hz hr
                have hor : bits .or .i64 m (z % 128) = m + z % 128 := or_low 0 (by omega) m _ hm0 (by simpa using hm1) (by omega) (by simp [Int.emod_one]) (by omega)
                go_wp2
                go_ret3
                exact ⟨ret_ans HN.out (by omega) (by omega), rfl⟩
              · omega
              · omega
              · omega
            · have hz0 : (z == 0) = false := by simp [hz1]
              clear hz1 hb2
              rcases hw3 with ⟨rfl, rfl⟩ | ⟨rfl, rfl⟩ | ⟨rfl, rfl⟩ | ⟨rfl, rfl⟩
              · simp only [Nat.add_zero] at hz hr
                have hor : bits .or .i64 m (z % 128) = m + z % 128 := or_low 0 (by omega) m _ hm0 (by simpa using hm1) (by omega) (by simp [Int.emod_one]) (by omega)
                go_wp2
                go_ret3
                exact ⟨ret_ans HN.out (by omega) (by omega), rfl⟩
              · have hor : bits .or .i64 m (z % 128 * 128) = m + z % 128 * 128 := or_low 7 (by omega) m _ hm0 (by simpa using hm1) (by omega) (by omega) (by omega)
                go_wp2
                go_ret3
                exact ⟨ret_ans HN.out (by omega) (by omega), rfl⟩
              · have hor : bits .or .i64 m (z % 128 * 16384) = m + z % 128 * 16384 := or_low 14 (by omega) m _ hm0 (by simpa using hm1) (by omega) (by omega) (by omega)
                go_wp2
                go_ret3
                exact ⟨ret_ans HN.out (by omega) (by omega), rfl⟩
              · have hor : bits .or .i64 m (z % 128 * 2097152) = m + z % 128 * 2097152 := or_low 21 (by omega) m _ hm0 (by simpa using hm1) (by omega) (by omega) (by omega)
                go_wp2
                go_ret3
                exact ⟨ret_ans HN.out (by omega) (by omega), rfl⟩
        · have HN : Hid (gnF zs (3 - j) (k0 + j + 1) (m + zs.getD (k0 + j) 0 % 128 * wt) (wt * 128) = gnF zs 4 k0 0 1) := by
            have := HX.out
            rw [show 4 - j = (3 - j) + 1 from by omega, gnF_on zs _ _ m wt hr' (by omega)] at this
            exact this
          clear HX
          generalize zs.getD (k0 + j) 0 = z at *
          rcases hw3 with ⟨rfl, rfl⟩ | ⟨rfl, rfl⟩ | ⟨rfl, rfl⟩ | ⟨rfl, rfl⟩
          · simp only [Nat.add_zero] at hz hr
            have hor : bits .or .i64 m (z % 128) = m + z % 128 := or_low 0 (by omega) m _ hm0 (by simpa using hm1) (by omega) (by simp [Int.emod_one]) (by omega)
            have HN2 : Hid (gnF zs (4 - 1) (k0 + 1) (m + z % 128) 128 = gnF zs 4 k0 0 1) := by
              have h1 := HN.out
              show _ = _
              rw [← h1]
              congr 1
              omega
            go_wp2
            exact ⟨⟨1, m + z % 128, 128, by omega, by omega, by omega, by omega, rfl, rfl, HN2, trivial⟩, by simp [intOf]⟩
          · have hor : bits .or .i64 m (z % 128 * 128) = m + z % 128 * 128 := or_low 7 (by omega) m _ hm0 (by simpa using hm1) (by omega) (by omega) (by omega)
            have HN2 : Hid (gnF zs (4 - 2) (k0 + 2) (m + z % 128 * 128) 16384 = gnF zs 4 k0 0 1) := by
              have h1 := HN.out
              show _ = _
              rw [← h1]
              congr 1
            go_wp2
            exact ⟨⟨2, m + z % 128 * 128, 16384, by omega, by omega, by omega, by omega, rfl, rfl, HN2, trivial⟩, by simp [intOf]⟩
          · have hor : bits .or .i64 m (z % 128 * 16384) = m + z % 128 * 16384 := or_low 14 (by omega) m _ hm0 (by simpa using hm1) (by omega) (by omega) (by omega)
            have HN2 : Hid (gnF zs (4 - 3) (k0 + 3) (m + z % 128 * 16384) 2097152 = gnF zs 4 k0 0 1) := by
              have h1 := HN.out
              show _ = _
              rw [← h1]
              congr 1
            go_wp2
            exact ⟨⟨3, m + z % 128 * 16384, 2097152, by omega, by omega, by omega, by omega, rfl, rfl, HN2, trivial⟩, by simp [intOf]⟩
          · have hor : bits .or .i64 m (z % 128 * 2097152) = m + z % 128 * 2097152 := or_low 21 (by omega) m _ hm0 (by simpa using hm1) (by omega) (by omega) (by omega)
            have HN2 : Hid (gnF zs (4 - 4) (k0 + 4) (m + z % 128 * 2097152) 268435456 = gnF zs 4 k0 0 1) := by
              have h1 := HN.out
              show _ = _
              rw [← h1]
              congr 1
            go_wp2
            exact ⟨⟨4, m + z % 128 * 2097152, 268435456, by omega, by omega, by omega, by omega, rfl, rfl, HN2, trivial⟩, by simp [intOf]⟩
      · clear hin
        have HN : Hid (ans (gnF zs 4 k0 0 1) = ans none) := by
          have := HX.out; show _ = _; rw [← this, gnF_end zs _ _ _ _ (by omega)]
        rcases hw3 with ⟨rfl, rfl⟩ | ⟨rfl, rfl⟩ | ⟨rfl, rfl⟩ | ⟨rfl, rfl⟩
        all_goals
          go_wp2
          go_ret3
          exact ⟨by rw [HN.out]; rfl, rfl⟩

set_option maxRecDepth 100000 in
set_option maxHeartbeats 1000000 in
theorem getNumNeg (w : World) (a : Option Addr) (len cap : Nat) (k : Int) (hk : k < 0) :
    Calls Tryz.prog 30 #[.slice a len cap, .int .i64 k] w fun e w' => e = .returned (ans none) ∧ w' = w := by
  go_enter Tryz.func30, Tryz.ntmps30
  go_wp2
  go_loopw [7, 8] (fun n i wr => n = .int .i64 0 ∧ i = .int .i64 0 ∧ wr = w) (fun _ _ _ => 0)
  case atStart => exact ⟨rfl, rfl, rfl⟩
  case round =>
    obtain ⟨rfl, rfl, rfl⟩ := hrel
    go_wp2
    go_ret3
    exact ⟨rfl, rfl⟩

theorem getNumModel (w : World) (a : Option Addr) (len cap : Nat) (zs : List Int) (k : Int) (B : Nat) (hin : In w B a len zs) :
    Calls Tryz.prog 30 #[.slice a len cap, .int .i64 k] w fun e w' => e = .returned (ans (gn zs k)) ∧ w' = w := by
  by_cases hk : 0 ≤ k
  · obtain ⟨k0, rfl⟩ := Int.eq_ofNat_of_zero_le hk
    have e1 : gn zs (k0 : Int) = gnF zs 4 k0 0 1 := by simp [gn]
    rw [e1]
    exact getNumSpec w a len cap zs k0 B hin
  · have e1 : gn zs k = none := by simp [gn, hk]
    rw [e1]
    exact getNumNeg w a len cap k (by omega)

end Go.Proofs.YtpgmipbanpofaaaGreatDoor
