/-
  Joined: RoundW, GetWord, InB.
-/
import Derived.Test.YtpgmipbanpofaaaGreatDoorRows
import Derived.Test.YtpgmipbanpofaaaGreatDoorJ1
import Derived.WalkKit
import Derived.ProofKit
import Derived.Test.YtpgmipbanpofaaaGreatDoorJ4
import Derived.RegionTactic
import Derived.ChangeAlike
/-
  What Round does, in the program and in its model: both answer the word that a number goes round to, and touch nothing.
-/
namespace Go.Proofs.YtpgmipbanpofaaaGreatDoor
open Go.RowKit

theorem roundImpl (n : Int) (w : World) :
    Calls Tryz.prog 102 #[.int .i64 n] w fun e w' => e = .returned (.int .i64 (rnd n)) ∧ w' = w := by
  go_enter Tryz.func102, Tryz.ntmps102
  go_wp2
  go_ret
  exact ⟨ret_int (rnd_wrap n), rfl⟩

theorem roundSpec (n : Int) (w : World) :
    Calls Tryz.prog 80 #[.int .i64 n] w fun e w' => e = .returned (.int .i64 (rnd n)) ∧ w' = w := by
  have hb := and32 n
  have h0 : 0 ≤ n % 4294967296 := by omega
  have h1 : n % 4294967296 < 4294967296 := by omega
  by_cases h : 2147483647 < n % 4294967296
  · go_enter Tryz.func80, Tryz.ntmps80
    go_wp2
    go_ret
    exact ⟨ret_int (rnd_hi n h), rfl⟩
  · go_enter Tryz.func80, Tryz.ntmps80
    go_wp2
    go_ret
    exact ⟨ret_int (rnd_lo n (by omega)), rfl⟩
end Go.Proofs.YtpgmipbanpofaaaGreatDoor
/-
  What GetWord does, in the program and in its model: the word that lies at the place as four bytes, the place behind it and true; 0, 0 and false, where there is none.
-/
namespace Go.Proofs.YtpgmipbanpofaaaGreatDoor
open Go.RowKit

/-- What the first j bytes from place k on come to, the low ones first. -/
def ws (zs : List Int) (k : Nat) : Nat → Int
  | 0 => 0
  | 1 => zs.getD k 0
  | 2 => zs.getD k 0 + zs.getD (k + 1) 0 * 256
  | 3 => zs.getD k 0 + zs.getD (k + 1) 0 * 256 + zs.getD (k + 2) 0 * 65536
  | _ => zs.getD k 0 + zs.getD (k + 1) 0 * 256 + zs.getD (k + 2) 0 * 65536 + zs.getD (k + 3) 0 * 16777216

def gw (zs : List Int) (i : Int) : Option (Int × Nat) := if 0 ≤ i ∧ i.toNat + 4 ≤ zs.length then some (rnd (ws zs i.toNat 4), i.toNat + 4) else none

set_option maxRecDepth 100000 in
set_option maxHeartbeats 1000000 in
theorem takeWord (w : World) (a : Option Addr) (len cap : Nat) (zs : List Int) (B p k0 : Nat) (t : TypeId) (v : Value) (hin : In w B a len zs) (hB : B ≤ p) (hp0 : 0 < p) (hE : Err w t v)
    (hp : w.heap[p]? = some (.cells #[.int .i64 (k0 : Int)] 3 (0, 0))) :
    Calls Tryz.prog 97 #[.slice a len cap, .pointer (some ⟨p, 0, none⟩)] w (took w p t v (gw zs (k0 : Int))) := by
  have hlen := hin.1
  have hl := hin.2.1
  have hpw : p < w.heap.size := (Array.getElem?_eq_some_iff.1 hp).1
  go_enter Tryz.func97, Tryz.ntmps97
  go_wp2
  go_loopw [5, 6, 7] (fun n x i wr => ∃ (j : Nat) (m wt : Int), j ≤ 4 ∧ ((j = 0 ∧ wt = 1) ∨ (j = 1 ∧ wt = 256) ∨ (j = 2 ∧ wt = 65536) ∨ (j = 3 ∧ wt = 16777216) ∨ (j = 4)) ∧ 0 ≤ m ∧ m < wt ∧ n = .int .i64 m ∧ x = .int .i64 wt ∧ i = .int .i64 (j : Int) ∧
      Hid (m = ws zs k0 j) ∧ (j = 0 ∨ k0 + j ≤ len) ∧ Hid (wr.heap[p]? = some (.cells #[.int .i64 ((k0 + j : Nat) : Int)] 3 (0, 0))) ∧ Hid (w.grownBy wr (some p)))
    (fun _ _ i _ => 4 - (intOf i).toNat)
  case atStart => exact ⟨0, 0, 1, by omega, by omega, by omega, by omega, rfl, rfl, rfl, rfl, .inl rfl, hp, World.grownBy.refl _ _⟩
  case round =>
    obtain ⟨j, m, wt, hj, hw, hm0, hm1, rfl, rfl, rfl, HX, hjl, HP, HG⟩ := hrel
    have hin' := hin.out HG.out hB hpw
    have hE' := hE.out HG.out hp0
    by_cases hj4 : j = 4
    · subst hj4
      have hk4 : k0 + 4 ≤ zs.length := by omega
      have HN : Hid (gw zs (k0 : Int) = some (rnd m, k0 + 4)) := by
        show _ = _
        rw [HX.out]; simp [gw, hk4]
      clear hw hin hin' hE hE' hp hjl HX
      go_wp2_with (go_at_call 102; refine (roundImpl _ _).mono ?_; rintro e w' ⟨rfl, rfl⟩)
      go_ret
      exact ⟨.inl ⟨_, _, HN.out, rfl, HP.out⟩, HG.out⟩
    · have hw3 : (j = 0 ∧ wt = 1) ∨ (j = 1 ∧ wt = 256) ∨ (j = 2 ∧ wt = 65536) ∨ (j = 3 ∧ wt = 16777216) := by omega
      clear hw
      by_cases hr : k0 + j < len
      · have hzb := hin'.2.2.1 _ hr
        have hT := takeByteYes wr a len cap zs B p (k0 + j) hin' HP.out hr
        have PP := place_put (y := ((k0 + j : Nat) : Int) + 1) HG.out HP.out
        generalize wr.setCell ⟨p, 0, none⟩ (.int .i64 (((k0 + j : Nat) : Int) + 1)) = W1 at hT PP
        have HPP : Hid (W1.heap[p]? = some (.cells #[.int .i64 (((k0 + j : Nat) : Int) + 1)] 3 (0, 0)) ∧ w.grownBy W1 (some p)) := PP
        clear PP HG HP hin hin' hE hE' hp hjl
        have HZ : Hid (zs.getD (k0 + j) 0 = zs.getD (k0 + j) 0) := rfl
        generalize hz : zs.getD (k0 + j) 0 = z at hT hzb
        have HZ2 := hide hz
        clear hz HZ
        have HT := hide hT
        clear hT
        rcases hw3 with ⟨rfl, rfl⟩ | ⟨rfl, rfl⟩ | ⟨rfl, rfl⟩ | ⟨rfl, rfl⟩
        · have HN2 : Hid (m + z = ws zs k0 1) := by
            have h1 := HX.out
            have h2 := HZ2.out
            show _ = _
            rw [h1, ← h2]
            simp [ws]
          go_wp2_with fail
          refine (unhide HT).mono ?_
          rintro e w1 ⟨rfl, rfl⟩
          go_wp2
          exact ⟨⟨1, m + z, 256, by omega, by omega, by omega, by omega, rfl, rfl, rfl, HN2, by omega, HPP.out.1, HPP.out.2⟩, by simp [intOf]⟩
        · have HN2 : Hid (m + z * 256 = ws zs k0 2) := by
            have h1 := HX.out
            have h2 := HZ2.out
            show _ = _
            rw [h1, ← h2]
            simp [ws]
          go_wp2_with fail
          refine (unhide HT).mono ?_
          rintro e w1 ⟨rfl, rfl⟩
          go_wp2
          exact ⟨⟨2, m + z * 256, 65536, by omega, by omega, by omega, by omega, rfl, rfl, rfl, HN2, by omega, HPP.out.1, HPP.out.2⟩, by simp [intOf]⟩
        · have HN2 : Hid (m + z * 65536 = ws zs k0 3) := by
            have h1 := HX.out
            have h2 := HZ2.out
            show _ = _
            rw [h1, ← h2]
            simp [ws]
          go_wp2_with fail
          refine (unhide HT).mono ?_
          rintro e w1 ⟨rfl, rfl⟩
          go_wp2
          exact ⟨⟨3, m + z * 65536, 16777216, by omega, by omega, by omega, by omega, rfl, rfl, rfl, HN2, by omega, HPP.out.1, HPP.out.2⟩, by simp [intOf]⟩
        · have HN2 : Hid (m + z * 16777216 = ws zs k0 4) := by
            have h1 := HX.out
            have h2 := HZ2.out
            show _ = _
            rw [h1, ← h2]
            simp [ws]
          go_wp2_with fail
          refine (unhide HT).mono ?_
          rintro e w1 ⟨rfl, rfl⟩
          go_wp2
          exact ⟨⟨4, m + z * 16777216, 4294967296, by omega, by omega, by omega, by omega, rfl, rfl, rfl, HN2, by omega, HPP.out.1, HPP.out.2⟩, by simp [intOf]⟩
      · have hE2 := takeByteNo wr a len cap p _ t v HP.out (by omega) hE'
        have HN : Hid (gw zs (k0 : Int) = none) := by
          show _ = _
          unfold gw
          rw [if_neg (by simp; omega)]
        clear hin hin' hE hE' hp hl
        rcases hw3 with ⟨rfl, rfl⟩ | ⟨rfl, rfl⟩ | ⟨rfl, rfl⟩ | ⟨rfl, rfl⟩
        all_goals
          go_wp2_with fail
          refine hE2.mono ?_
          rintro e w1 ⟨rfl, rfl⟩
          go_wp2
          exact ⟨rfl, .inr ⟨HN.out, rfl⟩, HG.out⟩

set_option maxRecDepth 100000 in
set_option maxHeartbeats 1000000 in
theorem takeWordNeg (w : World) (a : Option Addr) (len cap : Nat) (p : Nat) (k : Int) (t : TypeId) (v : Value) (hk : k < 0) (hE : Err w t v)
    (hp : w.heap[p]? = some (.cells #[.int .i64 k] 3 (0, 0))) :
    Calls Tryz.prog 97 #[.slice a len cap, .pointer (some ⟨p, 0, none⟩)] w (took w p t v none) := by
  have HT := hide (takeByteNo w a len cap p k t v hp (by omega) hE)
  clear hp hE hk
  go_enter Tryz.func97, Tryz.ntmps97
  go_wp2
  go_loopw [5, 6, 7] (fun n x i wr => n = .int .i64 0 ∧ x = .int .i64 1 ∧ i = .int .i64 0 ∧ wr = w) (fun _ _ _ _ => 0)
  case atStart => exact ⟨rfl, rfl, rfl, rfl⟩
  case round =>
    obtain ⟨rfl, rfl, rfl, rfl⟩ := hrel
    go_wp2_with fail
    refine (unhide HT).mono ?_
    rintro e w1 ⟨rfl, rfl⟩
    go_wp2
    exact ⟨rfl, .inr ⟨rfl, rfl⟩, World.grownBy.refl _ _⟩

end Go.Proofs.YtpgmipbanpofaaaGreatDoor
/-
  Whether a number lies from one to another, asked by the program and by its model.
-/
namespace Go.Proofs.YtpgmipbanpofaaaGreatDoor
open Go.RowKit

/-- n lies from a to b. -/
def inB (n a b : Int) : Bool := decide (a ≤ n ∧ n ≤ b)
theorem inB_yes {n a b : Int} (h : inB n a b = true) : a ≤ n ∧ n ≤ b := of_decide_eq_true h
theorem inB_no {n a b : Int} (h : inB n a b = false) : n < a ∨ b < n := by
  have := of_decide_eq_false h
  omega
theorem inB_mk {n a b : Int} (h1 : a ≤ n) (h2 : n ≤ b) : inB n a b = true := decide_eq_true ⟨h1, h2⟩
theorem inB_not {n a b : Int} (h : n < a ∨ b < n) : inB n a b = false := decide_eq_false (by omega)

theorem inYes (x lo hi : Int) (w : World) (h1 : lo ≤ x) (h2 : x ≤ hi) :
    Calls Tryz.prog 60 #[.int .i64 x, .int .i64 lo, .int .i64 hi] w fun e w' => e = .returned (.bool true) ∧ w' = w := by
  go_enter Tryz.func60, Tryz.ntmps60
  go_wp2
  go_ret
  exact ⟨ret_bool (by simp), rfl⟩

theorem inNo (x lo hi : Int) (w : World) (h : x < lo ∨ hi < x) :
    Calls Tryz.prog 60 #[.int .i64 x, .int .i64 lo, .int .i64 hi] w fun e w' => e = .returned (.bool false) ∧ w' = w := by
  by_cases h1 : lo ≤ x
  · have h2 : hi < x := by omega
    clear h
    go_enter Tryz.func60, Tryz.ntmps60
    go_wp2
    go_ret
    exact ⟨ret_bool (by simp [h2]), rfl⟩
  · clear h
    go_enter Tryz.func60, Tryz.ntmps60
    go_wp2
    go_ret
    exact ⟨ret_bool (by simp), rfl⟩

theorem inSpec (n a b : Int) (w : World) :
    Calls Tryz.prog 60 #[.int .i64 n, .int .i64 a, .int .i64 b] w fun e w' => e = .returned (.bool (inB n a b)) ∧ w' = w := by
  cases h : inB n a b with
  | true => have := inB_yes h; exact inYes n a b w this.1 this.2
  | false => exact inNo n a b w (inB_no h)
theorem inImpl (n a b : Int) (w : World) :
    Calls Tryz.prog 95 #[.int .i64 n, .int .i64 a, .int .i64 b] w fun e w' => e = .returned (.bool (inB n a b)) ∧ w' = w := by
  by_cases h1 : a ≤ n
  · by_cases h2 : n ≤ b
    · rw [inB_mk h1 h2]
      go_enter Tryz.func95, Tryz.ntmps95
      go_wp2
      go_ret
      exact ⟨ret_bool (by simp), rfl⟩
    · rw [inB_not (.inr (by omega))]
      go_enter Tryz.func95, Tryz.ntmps95
      go_wp2
      go_ret
      exact ⟨ret_bool (by simp), rfl⟩
  · rw [inB_not (.inl (by omega))]
    go_enter Tryz.func95, Tryz.ntmps95
    go_wp2
    go_ret
    exact ⟨ret_bool (by simp), rfl⟩
end Go.Proofs.YtpgmipbanpofaaaGreatDoor
