/-
  Joined: PutNumW, PutWordW, PnB.
-/
import Derived.Test.YtpgmipbanpofaaaGreatDoorRows
import Derived.Test.YtpgmipbanpofaaaGreatDoorJ1
import Derived.Test.YtpgmipbanpofaaaGreatDoorJ5
import Derived.Maps.AppendAt
/-
  What PutNum does, in the program and in its model: both answer the bytes of the number (none, where it is none) in new memory, and touch nothing that was there.
-/
namespace Go.Proofs.YtpgmipbanpofaaaGreatDoor
open Go.RowKit

set_option maxRecDepth 100000 in
set_option maxHeartbeats 400000 in
theorem putNumSpec (n : Int) (w : World) :
    Calls Tryz.prog 35 #[.int .i64 n] w fun e w' => ∃ v, e = .returned v ∧ Own w' w.heap.size v (pn n) ∧ Below w.heap.size w w' := by
  by_cases hn : n < 0 ∨ 16777215 < n
  · rw [pn_out n hn]
    go_enter Tryz.func35, Tryz.ntmps35
    go_wp2_with (go_at_call 60; refine (inNo _ _ _ _ hn).mono ?_; rintro e w' ⟨rfl, rfl⟩)
    go_ret
    exact ⟨_, rfl, own_empty _ _ (Nat.le_refl _), (Below.refl _ _).alloc (Nat.le_refl _) _⟩
  · have h0 : 0 ≤ n := by omega
    have h1 : n ≤ 16777215 := by omega
    clear hn
    rw [pn_in n h0 h1]
    obtain ⟨i0, hi, hz0, hz1, hz2⟩ := info_parts Tryz.info5
    go_enter Tryz.func35, Tryz.ntmps35
    go_wp2_with (go_at_call 60; refine (inYes _ _ _ _ (by omega) (by omega)).mono ?_; rintro e w' ⟨rfl, rfl⟩)
    go_loopw [0, 3] (fun s v wr => ∃ (m : Int) (k : Nat) (xs : List Int), 0 ≤ m ∧ m ≤ 16777215 ∧ m ≤ pnB k ∧ s = .int .i64 m ∧ xs.length + k = 3 ∧ Hid (xs ++ pnF k m = pnF 3 n) ∧ Own wr w.heap.size v xs ∧ Below w.heap.size w wr)
      (fun s _ _ => (intOf s).toNat)
    case atStart => exact ⟨n, 3, [], h0, h1, by simp [pnB]; omega, rfl, rfl, rfl, own_empty _ _ (Nat.le_refl _), (Below.refl _ _).alloc (Nat.le_refl _) _⟩
    case round =>
      obtain ⟨m, k, xs, hm0, hm1, hmk, rfl, hxk, HX, hown, hb⟩ := hrel
      have hsize := hb.size
      by_cases hlt : 127 < m
      · go_wp2_with (first
          | (at_builtin; refine wpList_append_own _ rfl _ _ 22 rfl w.heap.size 5 i0 (.int .u8 0) 1 1 Tryz.underlying22 hi hz0 hz1 hz2 rfl (by decide) _ _ _ rfl (World.ownsRow.alloc hown _) ⟨wr.heap.size, 0, none⟩ 1 1 [.int .u8 (m % 128 + 128)] rfl rfl (cell_one_new _ _ _) (fun x hx => by simp at hx; subst hx; rfl) (by unfold maxLen; omega) (by omega) (by simp; omega) ?_; intro v' w3 hown' hgrow3 hnil3))
        obtain ⟨j, rfl⟩ : ∃ j, k = j + 1 := by
          cases k with
          | zero => simp [pnB] at hmk; omega
          | succ j => exact ⟨j, rfl⟩
        refine ⟨⟨m / 128, j, xs ++ [m % 128 + 128], by omega, by omega, by simp only [pnB] at hmk; omega, rfl, by simp; omega, ?_, own_more hown', below_app hb hsize hown hgrow3⟩, by simp [intOf]; omega⟩
        have := HX.out
        rw [pnF_hi j m hlt] at this
        show _ = _
        rw [← this]; simp
      · go_wp2_with (first
          | (at_builtin; refine wpList_append_own _ rfl _ _ 22 rfl w.heap.size 5 i0 (.int .u8 0) 1 1 Tryz.underlying22 hi hz0 hz1 hz2 rfl (by decide) _ _ _ rfl (World.ownsRow.alloc hown _) ⟨wr.heap.size, 0, none⟩ 1 1 [.int .u8 m] rfl rfl (cell_one_new _ _ _) (fun x hx => by simp at hx; subst hx; rfl) (by unfold maxLen; omega) (by omega) (by simp; omega) ?_; intro v' w3 hown' hgrow3 hnil3))
        go_ret
        refine ⟨v', rfl, ?_, below_app hb hsize hown hgrow3⟩
        have := HX.out
        rw [pnF_lo k m (by omega)] at this
        rw [← this]
        exact own_more hown'
end Go.Proofs.YtpgmipbanpofaaaGreatDoor
/-
  What PutWord does, in the program and in its model: both answer the four bytes of the word (none, where it is none) in new memory, and touch nothing that was there.
-/
namespace Go.Proofs.YtpgmipbanpofaaaGreatDoor
open Go.RowKit

def pw (n : Int) : List Int := if -2147483648 ≤ n ∧ n ≤ 2147483647 then [n % 256, n / 256 % 256, n / 65536 % 256, n / 16777216 % 256] else []
theorem pw_in (n : Int) (h0 : -2147483648 ≤ n) (h1 : n ≤ 2147483647) : pw n = [n % 256, n / 256 % 256, n / 65536 % 256, n / 16777216 % 256] := by simp [pw, h0, h1]
theorem pw_out (n : Int) (h : n < -2147483648 ∨ 2147483647 < n) : pw n = [] := by
  unfold pw; rw [if_neg (by omega)]
theorem pw_len (n : Int) : (pw n).length ≤ 4 := by
  unfold pw
  split <;> simp
theorem rnd_in (n : Int) (h0 : -2147483648 ≤ n) (h1 : n ≤ 2147483647) : (rnd n != n) = false := by
  have : rnd n = n := by unfold rnd; omega
  simp [this]
theorem rnd_out (n : Int) (h : n < -2147483648 ∨ 2147483647 < n) : (rnd n != n) = true := by
  have := rnd_bd n
  rw [bne_iff_ne]; omega

theorem pw_byt (n : Int) : Byt (pw n) := by
  unfold pw
  split
  · intro z hz
    simp at hz
    omega
  · intro z hz; cases hz
theorem wordYes (x : Int) (w : World) (h1 : -2147483648 ≤ x) (h2 : x ≤ 2147483647) :
    Calls Tryz.prog 54 #[.int .i64 x] w fun e w' => e = .returned (.bool true) ∧ w' = w := by
  go_enter Tryz.func54, Tryz.ntmps54
  go_wp2_with (go_at_call 60; refine (inYes _ _ _ _ (by omega) (by omega)).mono ?_; rintro e w' ⟨rfl, rfl⟩)
  go_ret
  exact ⟨rfl, rfl⟩
theorem wordNo (x : Int) (w : World) (h : x < -2147483648 ∨ 2147483647 < x) :
    Calls Tryz.prog 54 #[.int .i64 x] w fun e w' => e = .returned (.bool false) ∧ w' = w := by
  go_enter Tryz.func54, Tryz.ntmps54
  go_wp2_with (go_at_call 60; refine (inNo _ _ _ _ h).mono ?_; rintro e w' ⟨rfl, rfl⟩)
  go_ret
  exact ⟨rfl, rfl⟩

set_option maxRecDepth 100000 in
set_option maxHeartbeats 400000 in
theorem putWordSpec (n : Int) (w : World) :
    Calls Tryz.prog 61 #[.int .i64 n] w fun e w' => ∃ v, e = .returned v ∧ Own w' w.heap.size v (pw n) ∧ Below w.heap.size w w' := by
  by_cases hn : n < -2147483648 ∨ 2147483647 < n
  · rw [pw_out n hn]
    go_enter Tryz.func61, Tryz.ntmps61
    go_wp2_with (go_at_call 54; refine (wordNo _ _ hn).mono ?_; rintro e w' ⟨rfl, rfl⟩)
    go_ret
    exact ⟨_, rfl, own_empty _ _ (Nat.le_refl _), (Below.refl _ _).alloc (Nat.le_refl _) _⟩
  · have h0 : -2147483648 ≤ n := by omega
    have h1 : n ≤ 2147483647 := by omega
    rw [pw_in n h0 h1]
    clear hn
    go_enter Tryz.func61, Tryz.ntmps61
    go_wp2_with (go_at_call 54; refine (wordYes _ _ h0 h1).mono ?_; rintro e w' ⟨rfl, rfl⟩)
    go_ret
    refine ⟨_, rfl, ?_, (Below.refl _ _).alloc (Nat.le_refl _) _⟩
    exact own_four _ _ (Nat.le_refl _) _ _ _ _

end Go.Proofs.YtpgmipbanpofaaaGreatDoor
/-
  The bytes of numbers are bytes; rows of bytes of one's own, one put behind another.
-/
namespace Go.Proofs.YtpgmipbanpofaaaGreatDoor
open Go.RowKit

theorem pnF_byt : ∀ (k : Nat) (n : Int), 0 ≤ n → n ≤ pnB k → Byt (pnF k n)
  | 0, n, h0, h1 => by
    intro z hz
    simp [pnF] at hz
    simp [pnB] at h1
    omega
  | k + 1, n, h0, h1 => by
    intro z hz
    unfold pnF at hz
    split at hz
    · rcases List.mem_cons.1 hz with rfl | hz
      · omega
      · exact pnF_byt k (n / 128) (by omega) (by simp only [pnB] at h1; omega) z hz
    · simp at hz; omega
theorem pn_byt (n : Int) : Byt (pn n) := by
  unfold pn
  split
  · rename_i h
    exact pnF_byt 3 n h.1 (by simp [pnB]; omega)
  · intro z hz; cases hz
theorem pnF_pos : ∀ (k : Nat) (n : Int), 0 < (pnF k n).length
  | 0, n => by simp [pnF]
  | k + 1, n => by unfold pnF; split <;> simp
theorem pn_pos (n : Int) (h0 : 0 ≤ n) (h1 : n ≤ 16777215) : 0 < (pn n).length := by rw [pn_in n h0 h1]; exact pnF_pos 3 n

/-- 'append(v, u...)', both rows of one's own: u's bytes behind v's. -/
theorem app_own {w : World} {ops : Array Oper} {rest : List Oper} {o : Oper} {act : Act} {Q : Exit → Act → World → Prop} (hgd : o.guard = none) (s x : Operand)
    (ho : o.op = .call { callee := .builtin .append, args := #[s, x], argTypes := #[22, 22] }) (base b2 : Nat) (v u : Value) (xs zs : List Int) (hs : act.eval s = v) (hown : Own w base v xs)
    (hx : act.eval x = u) (hu : Own w b2 u zs) (hz : Byt zs) (hl : zs.length ≤ 1048576) (hsm : xs.length ≤ 2000000) (hbase : base ≤ w.heap.size)
    (h : ∀ v' w', Own w' base v' (xs ++ zs) → w.grownBy w' v.ownBlock → (v' = .slice none 0 0 ↔ v = .slice none 0 0 ∧ zs.length = 0) → wpList Tryz.prog ops Q rest (act.put o.dst v') w') :
    wpList Tryz.prog ops Q (o :: rest) act w := by
  obtain ⟨a, c, rfl, hi, _⟩ := in_any hu hl hz (Nat.le_refl _)
  exact app_in hgd s x ho base w.heap.size v xs hs hown a zs.length c zs hx (fun e => hu.cap0 e) hi hsm hbase h
end Go.Proofs.YtpgmipbanpofaaaGreatDoor
