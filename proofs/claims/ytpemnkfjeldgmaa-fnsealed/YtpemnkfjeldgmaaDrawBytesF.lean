/-
  What l2DrawBytes, DrawSeal, DrawCheck, DrawOpen and DrawTurn do, and what at and big answer.
-/
import Derived.Test.YtpemnkfjeldgmaaDrawNumsF
import Derived.Test.YtpemnkfjeldgmaaTurnMath
namespace Go.Proofs.Ytpemnkfjeldgmaa
open Go.RowKit

/-- The bytes that l2DrawBytes draws. -/
def bytesF (zs : List Int) (s : Nat × Int) : List Int × (Nat × Int) :=
  (if (onceF zs (numsF zs 6 0 [] s).2 9).1 then (numsF zs 6 0 [] s).1 ++ List.replicate (300 - (numsF zs 6 0 [] s).1.length) 255 else (numsF zs 6 0 [] s).1, (onceF zs (numsF zs 6 0 [] s).2 9).2)

theorem rep_byt (n : Nat) : Byt (List.replicate n 255) := by
  intro z hz
  have := List.eq_of_mem_replicate hz
  omega

set_option maxRecDepth 100000 in
set_option maxHeartbeats 1000000 in
theorem drawBytes (w : World) (g : Nat) (zs : List Int) (s0 : Nat × Int) (hc : Cur w g zs s0) :
    Calls Try.prog 27 #[.pointer (some ⟨g, 0, none⟩)] w fun e w' => ∃ b c ys s, bytesF zs s0 = (ys, s) ∧ e = .returned (.slice (some ⟨b, 0, none⟩) ys.length c) ∧ Own w' w.heap.size (.slice (some ⟨b, 0, none⟩) ys.length c) ys ∧ Byt ys ∧ ys.length ≤ 300 ∧ Cur w' g zs s ∧ w.grownBy w' (some g) := by
  have hgl := hc.lt
  have HC := hide hc
  clear hc
  obtain ⟨i0, hi, hz0, hz1, hz2⟩ := info_parts Try.info5
  go_enter Try.func27, Try.ntmps27
  go_wp2_with fail
  refine (drawNums _ _ _ _ HC.out).mono ?_
  rintro e w1 ⟨b1, c1, ys, s1, hN, rfl, o1, hY, hyl, hc1, hg1⟩
  have HN := hide hN
  have HO := hide o1
  have HY := hide hY
  have HC1 := hide hc1
  have HG := hide hg1
  clear hN o1 hY hc1 hg1 HC
  go_wp2_with fail
  refine (onceDraw _ _ _ _ _ (by omega) (by omega) HC1.out).mono ?_
  rintro e w2 ⟨rfl, hc2, hg2⟩
  replace HO := hide (HO.out.cur hg2 hgl)
  replace HG := hide (grown_step HG.out hg2 (fun k hk => by cases hk; exact .inl rfl))
  have HC2 := hide hc2
  clear HC1 hc2 hg2
  cases ho : (onceF zs s1 9).1 with
  | false =>
    have HB : Hid (bytesF zs s0 = (ys, (onceF zs s1 9).2)) := by
      show _ = _
      unfold bytesF
      rw [HN.out]
      simp only
      rw [if_neg (by simp [ho])]
    clear ho
    go_wp2
    go_ret
    exact ⟨b1, c1, ys, _, HB.out, rfl, HO.out, HY.out, by omega, HC2.out, HG.out⟩
  | true =>
    have HB : Hid (bytesF zs s0 = (ys ++ List.replicate (300 - ys.length) 255, (onceF zs s1 9).2)) := by
      show _ = _
      unfold bytesF
      rw [HN.out]
      simp only
      rw [if_pos ho]
    clear ho
    go_wp2
    go_loopw [3] (fun v wr => ∃ (b c : Nat) (xs : List Int), v = .slice (some ⟨b, 0, none⟩) xs.length c ∧ xs.length ≤ 300 ∧ Hid (Own wr w.heap.size (.slice (some ⟨b, 0, none⟩) xs.length c) xs) ∧ Hid (xs ++ List.replicate (300 - xs.length) 255 = ys ++ List.replicate (300 - ys.length) 255) ∧ Hid (Byt xs) ∧ Hid (Cur wr g zs (onceF zs s1 9).2) ∧ Hid (w.grownBy wr (some g)))
      (fun v _ => match v with | .slice _ n _ => 300 - n | _ => 0)
    case atStart => exact ⟨b1, c1, ys, rfl, by omega, HO, rfl, HY, HC2, HG⟩
    case round =>
      obtain ⟨b, c, xs, rfl, hxl, HOx, HX, HYx, HCx, HGx⟩ := hrel
      clear HO HY HC2 HG
      have hsz : w.heap.size ≤ wr.heap.size := HGx.out.size
      by_cases hlt : xs.length < 300
      · have hlt' : (xs.length : Int) < 300 := by omega
        go_wp2_with (at_builtin; refine wpList_append_own _ rfl _ _ 22 rfl w.heap.size 5 i0 (.int .u8 0) 1 1 Try.underlying22 hi hz0 hz1 hz2 rfl (by decide) _ _ _ rfl (World.ownsRow.alloc HOx.out _) ⟨wr.heap.size, 0, none⟩ 1 1 [.int .u8 255] rfl rfl (cell_one_new _ _ _) (fun x hx => by simp at hx; subst hx; rfl) (by unfold maxLen; omega) (by omega) (by simp; omega) ?_; intro v' w5 hown' hgrow5 hnil5)
        obtain ⟨g5, c5, hv5⟩ : ∃ g5 c5, v' = .slice (some ⟨g5, 0, none⟩) (xs ++ [255]).length c5 := by
          rcases hown'.2 with ⟨_, h⟩ | ⟨g5, c5, _, h, _⟩
          · omega
          · exact ⟨g5, c5, by rw [h, List.length_append]; rfl⟩
        subst hv5
        have hrow : ∀ q, Value.ownBlock (.slice (some ⟨b, 0, none⟩) xs.length c) = some q → w.heap.size ≤ q := fun q hq => (HOx.out.lt q hq).1
        have hga := alloc_grown hgrow5
        refine ⟨⟨g5, c5, xs ++ [255], rfl, by simp; omega, own_more (ys := [255]) hown', ?_, HYx.out.append (ys := [255]) (fun q hq => by simp at hq; omega), HCx.out.row hga (fun q hq => by have := hrow q hq; omega), grown_step HGx.out hga (fun q hq => .inr (hrow q hq))⟩, by simp; omega⟩
        show _ = _
        rw [← HX.out, List.append_assoc, List.length_append, show 300 - xs.length = (300 - (xs.length + [255].length)) + 1 from by simp; omega, List.replicate_succ]
        rfl
      · have hxe : xs.length = 300 := by omega
        have HXE : Hid (xs = ys ++ List.replicate (300 - ys.length) 255) := by
          have := HX.out
          rw [hxe, Nat.sub_self, List.replicate_zero, List.append_nil] at this
          exact this
        have hge : (300 : Int) ≤ (xs.length : Int) := by omega
        clear hxe hlt
        go_wp2
        go_ret
        refine ⟨b, c, xs, _, ?_, rfl, HOx.out, HYx.out, by omega, HCx.out, HGx.out⟩
        rw [HB.out, ← HXE.out]

/-- What DrawSeal draws. -/
def sealF (zs : List Int) : List Int := (bytesF zs (newF zs)).1

set_option maxHeartbeats 1000000 in
theorem drawSeal (w : World) (a : Option Addr) (len cap : Nat) (zs : List Int) (hin : In w w.heap.size a len zs) :
    Calls Try.prog 10 #[.slice a len cap] w fun e w' => ∃ b c, e = .returned (.slice (some ⟨b, 0, none⟩) (sealF zs).length c) ∧ Own w' w.heap.size (.slice (some ⟨b, 0, none⟩) (sealF zs).length c) (sealF zs) ∧ Byt (sealF zs) ∧ (sealF zs).length ≤ 300 ∧ Below w.heap.size w w' := by
  go_enter Try.func10, Try.ntmps10
  go_wp2_with fail
  refine (newDraw _ _ _ _ _ hin).mono ?_
  rintro e w1 ⟨rfl, hc, hb⟩
  go_wp2_with fail
  refine (drawBytes _ _ _ _ hc).mono ?_
  rintro e w2 ⟨b, c, ys, s, hF, rfl, o, hY, hl, -, hg⟩
  have HF : Hid (sealF zs = ys) := by show _ = _; unfold sealF; rw [hF]
  have H := hide (And.intro (o.mono hb.size) (And.intro hY (And.intro hl (hb.grown hg hb.size (fun k hk => by cases hk; exact Nat.le_refl _)))))
  clear hF o hY hl hg hb hc hin
  go_wp2
  go_ret
  refine ⟨b, c, ?_⟩
  rw [HF.out]
  exact ⟨rfl, H.out⟩

set_option maxHeartbeats 1000000 in
theorem drawCheck (w : World) (a : Option Addr) (len cap : Nat) (zs : List Int) (hin : In w w.heap.size a len zs) :
    Calls Try.prog 16 #[.slice a len cap] w fun e w' => ∃ b c, e = .returned (.slice (some ⟨b, 0, none⟩) (sealF zs).length c) ∧ Own w' w.heap.size (.slice (some ⟨b, 0, none⟩) (sealF zs).length c) (sealF zs) ∧ Byt (sealF zs) ∧ (sealF zs).length ≤ 300 ∧ Below w.heap.size w w' := by
  go_enter Try.func16, Try.ntmps16
  go_wp2_with fail
  refine (newDraw _ _ _ _ _ hin).mono ?_
  rintro e w1 ⟨rfl, hc, hb⟩
  go_wp2_with fail
  refine (drawBytes _ _ _ _ hc).mono ?_
  rintro e w2 ⟨b, c, ys, s, hF, rfl, o, hY, hl, -, hg⟩
  have HF : Hid (sealF zs = ys) := by show _ = _; unfold sealF; rw [hF]
  have H := hide (And.intro (o.mono hb.size) (And.intro hY (And.intro hl (hb.grown hg hb.size (fun k hk => by cases hk; exact Nat.le_refl _)))))
  clear hF o hY hl hg hb hc hin
  go_wp2
  go_ret
  refine ⟨b, c, ?_⟩
  rw [HF.out]
  exact ⟨rfl, H.out⟩

theorem bigNo (w : World) (a : Option Addr) (len cap : Nat) (h : (len : Int) ≤ 1048576) :
    Calls Try.prog 9 #[.slice a len cap] w fun e w' => e = .returned (.bool false) ∧ w' = w := by
  go_enter Try.func9, Try.ntmps9
  go_wp2
  go_ret
  exact ⟨ret_bool (by simp; omega), rfl⟩
theorem bigYes (w : World) (a : Option Addr) (len cap : Nat) (h : 1048576 < (len : Int)) :
    Calls Try.prog 9 #[.slice a len cap] w fun e w' => e = .returned (.bool true) ∧ w' = w := by
  go_enter Try.func9, Try.ntmps9
  go_wp2
  go_ret
  exact ⟨ret_bool (by simp), rfl⟩

/-- What at answers of the bytes. -/
def atF (zs : List Int) (i : Nat) : Int := if i < zs.length then zs.getD i 0 else ((i : Int) * 7 + zs.length) % 256

set_option maxHeartbeats 400000 in
theorem atB (w : World) (B : Nat) (a : Option Addr) (len cap : Nat) (zs : List Int) (i : Nat) (hi : i ≤ 1000000) (hin : In w B a len zs) :
    Calls Try.prog 14 #[.slice a len cap, .int .i64 (i : Int)] w fun e w' => e = .returned (.int .i64 (atF zs i)) ∧ w' = w := by
  have hl := hin.1
  have hm := hin.2.1
  by_cases hlt : i < len
  · obtain ⟨b, o, rfl, hb, hc⟩ := hin.2.2.2 (by omega)
    have hz := hc i hlt
    have hzb := hin.2.2.1 i hlt
    have HF : Hid (atF zs i = zs.getD i 0) := by show _ = _; unfold atF; rw [if_pos (by omega)]
    clear hin hc
    generalize zs.getD i 0 = z at *
    go_enter Try.func14, Try.ntmps14
    go_wp2
    go_ret
    exact ⟨ret_int HF.out.symm, rfl⟩
  · have HF : Hid (atF zs i = ((i : Int) * 7 + len) % 256) := by show _ = _; unfold atF; rw [if_neg (by omega), hl]
    clear hin
    go_enter Try.func14, Try.ntmps14
    go_wp2
    go_ret
    exact ⟨ret_int HF.out.symm, rfl⟩
theorem atF_bd (zs : List Int) (hz : Byt zs) (i : Nat) : 0 ≤ atF zs i ∧ atF zs i ≤ 255 := by
  unfold atF
  split
  · exact hz.at i (by omega)
  · omega
end Go.Proofs.Ytpemnkfjeldgmaa
