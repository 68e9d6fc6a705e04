/-
  Joined: GetWord, InB, PutNumW.
-/
import Derived.Test.YtbggcoclfnhbgaaDoorJ4
import Derived.RegionTactic
import Derived.ChangeAlike
import Derived.Test.YtbggcoclfnhbgaaDoorRows
import Derived.Test.YtbggcoclfnhbgaaDoorJ1
import Derived.Maps.AppendAt
/-
  What GetWord does, in the program and in its model: the word that lies at the place as four bytes, the place behind it and true; 0, 0 and false, where there is none.
-/
namespace Go.Proofs.YtbggcoclfnhbgaaDoor
open Go.RowKit

/-- What the first j bytes from place k on come to, the low ones first. -/
def ws (zs : List Int) (k : Nat) : Nat → Int
  | 0 => 0
  | 1 => zs.getD k 0
  | 2 => zs.getD k 0 + zs.getD (k + 1) 0 * 256
  | 3 => zs.getD k 0 + zs.getD (k + 1) 0 * 256 + zs.getD (k + 2) 0 * 65536
  | _ => zs.getD k 0 + zs.getD (k + 1) 0 * 256 + zs.getD (k + 2) 0 * 65536 + zs.getD (k + 3) 0 * 16777216

def gw (zs : List Int) (i : Int) : Option (Int × Nat) := if 0 ≤ i ∧ i.toNat + 4 ≤ zs.length then some (rnd (ws zs i.toNat 4), i.toNat + 4) else none

set_option maxRecDepth 100000 in
set_option maxHeartbeats 1000000 in
theorem takeWord (w : World) (a : Option Addr) (len cap : Nat) (zs : List Int) (B p k0 : Nat) (t : TypeId) (v : Value) (hin : In w B a len zs) (hB : B ≤ p) (hp0 : 0 < p) (hE : Err w t v)
    (hp : w.heap[p]? = some (.cells #[.int .i64 (k0 : Int)] 3 (0, 0))) :
    Calls Tryd.prog 98 #[.slice a len cap, .pointer (some ⟨p, 0, none⟩)] w (took w p t v (gw zs (k0 : Int))) := by
  have hlen := hin.1
  have hl := hin.2.1
  have hpw : p < w.heap.size := (Array.getElem?_eq_some_iff.1 hp).1
  go_enter Tryd.func98, Tryd.ntmps98
  go_wp2
  go_loopw [5, 6, 7] (fun n x i wr => ∃ (j : Nat) (m wt : Int), j ≤ 4 ∧ ((j = 0 ∧ wt = 1) ∨ (j = 1 ∧ wt = 256) ∨ (j = 2 ∧ wt = 65536) ∨ (j = 3 ∧ wt = 16777216) ∨ (j = 4)) ∧ 0 ≤ m ∧ m < wt ∧ n = .int .i64 m ∧ x = .int .i64 wt ∧ i = .int .i64 (j : Int) ∧
      Hid (m = ws zs k0 j) ∧ (j = 0 ∨ k0 + j ≤ len) ∧ Hid (wr.heap[p]? = some (.cells #[.int .i64 ((k0 + j : Nat) : Int)] 3 (0, 0))) ∧ Hid (w.grownBy wr (some p)))
    (fun _ _ i _ => 4 - (intOf i).toNat)
  case atStart => exact ⟨0, 0, 1, by omega, by omega, by omega, by omega, rfl, rfl, rfl, rfl, .inl rfl, hp, World.grownBy.refl _ _⟩
  case round =>
    obtain ⟨j, m, wt, hj, hw, hm0, hm1, rfl, rfl, rfl, HX, hjl, HP, HG⟩ := hrel
    have hin' := hin.out HG.out hB hpw
    have hE' := hE.out HG.out hp0
    by_cases hj4 : j = 4
    · subst hj4
      have hk4 : k0 + 4 ≤ zs.length := by omega
      have HN : Hid (gw zs (k0 : Int) = some (rnd m, k0 + 4)) := by
        show _ = _
        rw [HX.out]; simp [gw, hk4]
      clear hw hin hin' hE hE' hp hjl HX
      go_wp2_with (go_at_call 101; refine (roundImpl _ _).mono ?_; rintro e w' ⟨rfl, rfl⟩)
      go_ret
      exact ⟨.inl ⟨_, _, HN.out, rfl, HP.out⟩, HG.out⟩
    · have hw3 : (j = 0 ∧ wt = 1) ∨ (j = 1 ∧ wt = 256) ∨ (j = 2 ∧ wt = 65536) ∨ (j = 3 ∧ wt = 16777216) := by omega
      clear hw
      by_cases hr : k0 + j < len
      · have hzb := hin'.2.2.1 _ hr
        have hT := takeByteYes wr a len cap zs B p (k0 + j) hin' HP.out hr
        have PP := place_put (y := ((k0 + j : Nat) : Int) + 1) HG.out HP.out
        generalize wr.setCell ⟨p, 0, none⟩ (.int .i64 (((k0 + j : Nat) : Int) + 1)) = W1 at hT PP
        have HPP : Hid (W1.heap[p]? = some (.cells #[.int .i64 (((k0 + j : Nat) : Int) + 1)] 3 (0, 0)) ∧ w.grownBy W1 (some p)) := PP
        clear PP HG HP hin hin' hE hE' hp hjl
        have HZ : Hid (zs.getD (k0 + j) 0 = zs.getD (k0 + j) 0) := rfl
        generalize hz : zs.getD (k0 + j) 0 = z at hT hzb
        have HZ2 := hide hz
        clear hz HZ
        have HT := hide hT
        clear hT
        rcases hw3 with ⟨rfl, rfl⟩ | ⟨rfl, rfl⟩ | ⟨rfl, rfl⟩ | ⟨rfl, rfl⟩
        · have HN2 : Hid (m + z = ws zs k0 1) := by
            have h1 := HX.out
            have h2 := HZ2.out
            show _ = _
            rw [h1, ← h2]
            simp [ws]
          go_wp2_with fail
          refine (unhide HT).mono ?_
          rintro e w1 ⟨rfl, rfl⟩
          go_wp2
          exact ⟨⟨1, m + z, 256, by omega, by omega, by omega, by omega, rfl, rfl, rfl, HN2, by omega, HPP.out.1, HPP.out.2⟩, by simp [intOf]⟩
        · have HN2 : Hid (m + z * 256 = ws zs k0 2) := by
            have h1 := HX.out
            have h2 := HZ2.out
            show _ = _
            rw [h1, ← h2]
            simp [ws]
          go_wp2_with fail
          refine (unhide HT).mono ?_
          rintro e w1 ⟨rfl, rfl⟩
          go_wp2
          exact ⟨⟨2, m + z * 256, 65536, by omega, by omega, by omega, by omega, rfl, rfl, rfl, HN2, by omega, HPP.out.1, HPP.out.2⟩, by simp [intOf]⟩
        · have HN2 : Hid (m + z * 65536 = ws zs k0 3) := by
            have h1 := HX.out
            have h2 := HZ2.out
            show _ = _
            rw [h1, ← h2]
            simp [ws]
          go_wp2_with fail
          refine (unhide HT).mono ?_
          rintro e w1 ⟨rfl, rfl⟩
          go_wp2
          exact ⟨⟨3, m + z * 65536, 16777216, by omega, by omega, by omega, by omega, rfl, rfl, rfl, HN2, by omega, HPP.out.1, HPP.out.2⟩, by simp [intOf]⟩
        · have HN2 : Hid (m + z * 16777216 = ws zs k0 4) := by
            have h1 := HX.out
            have h2 := HZ2.out
            show _ = _
            rw [h1, ← h2]
            simp [ws]
          go_wp2_with fail
          refine (unhide HT).mono ?_
          rintro e w1 ⟨rfl, rfl⟩
          go_wp2
          exact ⟨⟨4, m + z * 16777216, 4294967296, by omega, by omega, by omega, by omega, rfl, rfl, rfl, HN2, by omega, HPP.out.1, HPP.out.2⟩, by simp [intOf]⟩
      · have hE2 := takeByteNo wr a len cap p _ t v HP.out (by omega) hE'
        have HN : Hid (gw zs (k0 : Int) = none) := by
          show _ = _
          unfold gw
          rw [if_neg (by simp; omega)]
        clear hin hin' hE hE' hp hl
        rcases hw3 with ⟨rfl, rfl⟩ | ⟨rfl, rfl⟩ | ⟨rfl, rfl⟩ | ⟨rfl, rfl⟩
        all_goals
          go_wp2_with fail
          refine hE2.mono ?_
          rintro e w1 ⟨rfl, rfl⟩
          go_wp2
          exact ⟨rfl, .inr ⟨HN.out, rfl⟩, HG.out⟩

set_option maxRecDepth 100000 in
set_option maxHeartbeats 1000000 in
theorem takeWordNeg (w : World) (a : Option Addr) (len cap : Nat) (p : Nat) (k : Int) (t : TypeId) (v : Value) (hk : k < 0) (hE : Err w t v)
    (hp : w.heap[p]? = some (.cells #[.int .i64 k] 3 (0, 0))) :
    Calls Tryd.prog 98 #[.slice a len cap, .pointer (some ⟨p, 0, none⟩)] w (took w p t v none) := by
  have HT := hide (takeByteNo w a len cap p k t v hp (by omega) hE)
  clear hp hE hk
  go_enter Tryd.func98, Tryd.ntmps98
  go_wp2
  go_loopw [5, 6, 7] (fun n x i wr => n = .int .i64 0 ∧ x = .int .i64 1 ∧ i = .int .i64 0 ∧ wr = w) (fun _ _ _ _ => 0)
  case atStart => exact ⟨rfl, rfl, rfl, rfl⟩
  case round =>
    obtain ⟨rfl, rfl, rfl, rfl⟩ := hrel
    go_wp2_with fail
    refine (unhide HT).mono ?_
    rintro e w1 ⟨rfl, rfl⟩
    go_wp2
    exact ⟨rfl, .inr ⟨rfl, rfl⟩, World.grownBy.refl _ _⟩

end Go.Proofs.YtbggcoclfnhbgaaDoor
/-
  Whether a number lies from one to another, asked by the program and by its model.
-/
namespace Go.Proofs.YtbggcoclfnhbgaaDoor
open Go.RowKit

/-- n lies from a to b. -/
def inB (n a b : Int) : Bool := decide (a ≤ n ∧ n ≤ b)
theorem inB_yes {n a b : Int} (h : inB n a b = true) : a ≤ n ∧ n ≤ b := of_decide_eq_true h
theorem inB_no {n a b : Int} (h : inB n a b = false) : n < a ∨ b < n := by
  have := of_decide_eq_false h
  omega
theorem inB_mk {n a b : Int} (h1 : a ≤ n) (h2 : n ≤ b) : inB n a b = true := decide_eq_true ⟨h1, h2⟩
theorem inB_not {n a b : Int} (h : n < a ∨ b < n) : inB n a b = false := decide_eq_false (by omega)

theorem inYes (x lo hi : Int) (w : World) (h1 : lo ≤ x) (h2 : x ≤ hi) :
    Calls Tryd.prog 60 #[.int .i64 x, .int .i64 lo, .int .i64 hi] w fun e w' => e = .returned (.bool true) ∧ w' = w := by
  go_enter Tryd.func60, Tryd.ntmps60
  go_wp2
  go_ret
  exact ⟨ret_bool (by simp), rfl⟩

theorem inNo (x lo hi : Int) (w : World) (h : x < lo ∨ hi < x) :
    Calls Tryd.prog 60 #[.int .i64 x, .int .i64 lo, .int .i64 hi] w fun e w' => e = .returned (.bool false) ∧ w' = w := by
  by_cases h1 : lo ≤ x
  · have h2 : hi < x := by omega
    clear h
    go_enter Tryd.func60, Tryd.ntmps60
    go_wp2
    go_ret
    exact ⟨ret_bool (by simp [h2]), rfl⟩
  · clear h
    go_enter Tryd.func60, Tryd.ntmps60
    go_wp2
    go_ret
    exact ⟨ret_bool (by simp), rfl⟩

theorem inSpec (n a b : Int) (w : World) :
    Calls Tryd.prog 60 #[.int .i64 n, .int .i64 a, .int .i64 b] w fun e w' => e = .returned (.bool (inB n a b)) ∧ w' = w := by
  cases h : inB n a b with
  | true => have := inB_yes h; exact inYes n a b w this.1 this.2
  | false => exact inNo n a b w (inB_no h)
theorem inImpl (n a b : Int) (w : World) :
    Calls Tryd.prog 96 #[.int .i64 n, .int .i64 a, .int .i64 b] w fun e w' => e = .returned (.bool (inB n a b)) ∧ w' = w := by
  by_cases h1 : a ≤ n
  · by_cases h2 : n ≤ b
    · rw [inB_mk h1 h2]
      go_enter Tryd.func96, Tryd.ntmps96
      go_wp2
      go_ret
      exact ⟨ret_bool (by simp), rfl⟩
    · rw [inB_not (.inr (by omega))]
      go_enter Tryd.func96, Tryd.ntmps96
      go_wp2
      go_ret
      exact ⟨ret_bool (by simp), rfl⟩
  · rw [inB_not (.inl (by omega))]
    go_enter Tryd.func96, Tryd.ntmps96
    go_wp2
    go_ret
    exact ⟨ret_bool (by simp), rfl⟩
end Go.Proofs.YtbggcoclfnhbgaaDoor
/-
  What PutNum does, in the program and in its model: both answer the bytes of the number (none, where it is none) in new memory, and touch nothing that was there.
-/
namespace Go.Proofs.YtbggcoclfnhbgaaDoor
open Go.RowKit

set_option maxRecDepth 100000 in
set_option maxHeartbeats 400000 in
theorem putNumSpec (n : Int) (w : World) :
    Calls Tryd.prog 35 #[.int .i64 n] w fun e w' => ∃ v, e = .returned v ∧ Own w' w.heap.size v (pn n) ∧ Below w.heap.size w w' := by
  by_cases hn : n < 0 ∨ 16777215 < n
  · rw [pn_out n hn]
    go_enter Tryd.func35, Tryd.ntmps35
    go_wp2_with (go_at_call 60; refine (inNo _ _ _ _ hn).mono ?_; rintro e w' ⟨rfl, rfl⟩)
    go_ret
    exact ⟨_, rfl, own_empty _ _ (Nat.le_refl _), (Below.refl _ _).alloc (Nat.le_refl _) _⟩
  · have h0 : 0 ≤ n := by omega
    have h1 : n ≤ 16777215 := by omega
    clear hn
    rw [pn_in n h0 h1]
    obtain ⟨i0, hi, hz0, hz1, hz2⟩ := info_parts Tryd.info5
    go_enter Tryd.func35, Tryd.ntmps35
    go_wp2_with (go_at_call 60; refine (inYes _ _ _ _ (by omega) (by omega)).mono ?_; rintro e w' ⟨rfl, rfl⟩)
    go_loopw [0, 3] (fun s v wr => ∃ (m : Int) (k : Nat) (xs : List Int), 0 ≤ m ∧ m ≤ 16777215 ∧ m ≤ pnB k ∧ s = .int .i64 m ∧ xs.length + k = 3 ∧ Hid (xs ++ pnF k m = pnF 3 n) ∧ Own wr w.heap.size v xs ∧ Below w.heap.size w wr)
      (fun s _ _ => (intOf s).toNat)
    case atStart => exact ⟨n, 3, [], h0, h1, by simp [pnB]; omega, rfl, rfl, rfl, own_empty _ _ (Nat.le_refl _), (Below.refl _ _).alloc (Nat.le_refl _) _⟩
    case round =>
      obtain ⟨m, k, xs, hm0, hm1, hmk, rfl, hxk, HX, hown, hb⟩ := hrel
      have hsize := hb.size
      by_cases hlt : 127 < m
      · go_wp2_with (first
          | (at_builtin; refine wpList_append_own _ rfl _ _ 22 rfl w.heap.size 5 i0 (.int .u8 0) 1 1 Tryd.underlying22 hi hz0 hz1 hz2 rfl (by decide) _ _ _ rfl (World.ownsRow.alloc hown _) ⟨wr.heap.size, 0, none⟩ 1 1 [.int .u8 (m % 128 + 128)] rfl rfl (cell_one_new _ _ _) (fun x hx => by simp at hx; subst hx; rfl) (by unfold maxLen; omega) (by omega) (by simp; omega) ?_; intro v' w3 hown' hgrow3 hnil3))
        obtain ⟨j, rfl⟩ : ∃ j, k = j + 1 := by
          cases k with
          | zero => simp [pnB] at hmk; omega
          | succ j => exact ⟨j, rfl⟩
        refine ⟨⟨m / 128, j, xs ++ [m % 128 + 128], by omega, by omega, by simp only [pnB] at hmk; omega, rfl, by simp; omega, ?_, own_more hown', below_app hb hsize hown hgrow3⟩, by simp [intOf]; omega⟩
        have := HX.out
        rw [pnF_hi j m hlt] at this
        show _ = _
        rw [← this]; simp
      · go_wp2_with (first
          | (at_builtin; refine wpList_append_own _ rfl _ _ 22 rfl w.heap.size 5 i0 (.int .u8 0) 1 1 Tryd.underlying22 hi hz0 hz1 hz2 rfl (by decide) _ _ _ rfl (World.ownsRow.alloc hown _) ⟨wr.heap.size, 0, none⟩ 1 1 [.int .u8 m] rfl rfl (cell_one_new _ _ _) (fun x hx => by simp at hx; subst hx; rfl) (by unfold maxLen; omega) (by omega) (by simp; omega) ?_; intro v' w3 hown' hgrow3 hnil3))
        go_ret
        refine ⟨v', rfl, ?_, below_app hb hsize hown hgrow3⟩
        have := HX.out
        rw [pnF_lo k m (by omega)] at this
        rw [← this]
        exact own_more hown'
end Go.Proofs.YtbggcoclfnhbgaaDoor
