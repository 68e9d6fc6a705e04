/-
  What the model's Open does: what was sealed, in new memory; nothing where the sums are not those.
-/
import Derived.Test.YtpemnkfjeldgmaaOpenW
import Derived.Laws.BytesArg
import Derived.Lib.Bytes
namespace Go.Proofs.Ytpemnkfjeldgmaa
open Go.RowKit

theorem in_str {w : World} {B len b o : Nat} (c : Nat) {zs : List Int} (h : In w B (some ⟨b, o, none⟩) len zs) : (convert 22 9 (.slice (some ⟨b, o, none⟩) len c)).run Try.prog w = .ok (.string (strOfNums zs)) w :=
  run_convert_bytes_arg (P := Try.prog) w 22 5 Try.underlying22 Try.underlying5 b o len c zs h.1 (fun i hi => by
    obtain ⟨b', o', ha, _, hcell⟩ := h.2.2.2 (by omega)
    cases ha
    exact hcell i hi) 9 Try.underlying9

theorem own_str {w : World} {b : Nat} {v : Value} {zs : List Int} (h : Own w b v zs) : (convert 22 9 v).run Try.prog w = .ok (.string (strOfNums zs)) w := by
  rcases h.2 with ⟨rfl, h0⟩ | ⟨g, c, cur, rfl, _⟩
  · have hn : zs = [] := List.eq_nil_of_length_eq_zero h0
    subst hn
    exact run_convert_bytes_nil (P := Try.prog) w 22 5 Try.underlying22 Try.underlying5 0 0 9 Try.underlying9
  · refine run_convert_bytes_arg (P := Try.prog) w 22 5 Try.underlying22 Try.underlying5 g 0 zs.length c zs rfl (fun i hi => ?_) 9 Try.underlying9
    have := World.ownsRow.cellAt h i (by omega)
    rw [Nat.zero_add, this]
    simp [hi]

theorem in_byt {w : World} {B len : Nat} {a : Option Addr} {zs : List Int} (h : In w B a len zs) : Byt zs := by
  intro z hz
  obtain ⟨j, hj, rfl⟩ := List.getElem_of_mem hz
  have hl := h.1
  have := h.2.2.1 j (by omega)
  simpa [hj] using this

theorem byte_inj : ∀ (xs ys : List Int), Byt xs → Byt ys → xs.map (fun n => UInt8.ofNat n.toNat) = ys.map (fun n => UInt8.ofNat n.toNat) → xs = ys
  | [], [], _, _, _ => rfl
  | [], _ :: _, _, _, h => by simp at h
  | _ :: _, [], _, _, h => by simp at h
  | x :: xs, y :: ys, hx, hy, h => by
    simp only [List.map_cons, List.cons.injEq] at h
    have h1 := hx x (by simp)
    have h2 := hy y (by simp)
    have h3 : x.toNat = y.toNat := by
      have := congrArg UInt8.toNat h.1
      simp at this
      omega
    have h4 := byte_inj xs ys (fun z hz => hx z (by simp [hz])) (fun z hz => hy z (by simp [hz])) h.2
    rw [h4, show x = y from by omega]
theorem str_eq (xs ys : List Int) (hx : Byt xs) (hy : Byt ys) : ((strOfNums xs).toList == (strOfNums ys).toList) = decide (xs = ys) := by
  by_cases h : xs = ys
  · subst h; simp
  · rw [decide_eq_false h, beq_eq_false_iff_ne]
    intro h'
    rw [Go.Lib.strOfNums_toList, Go.Lib.strOfNums_toList] at h'
    exact h (byte_inj xs ys hx hy h')

set_option maxHeartbeats 8000000 in
theorem openSpec (w : World) (a : Option Addr) (len cap : Nat) (zs : List Int) (hin : In w w.heap.size a len zs) (hcap : len ≤ cap) :
    Calls Try.prog 18 #[.slice a len cap] w fun e w' => openA w.heap.size (opened zs) e w' ∧ Below w.heap.size w w' := by
  have hl := hin.1
  have hm := hin.2.1
  by_cases hs : len < 4
  · rw [opened_short zs (by omega)]
    have hs' : (len : Int) < 4 := by omega
    have hd : decide ((len : Int) - 4 < 0) = true := by simp; omega
    clear hin hl
    go_enter Try.func18, Try.ntmps18
    go_wp2
    go_quiet (fail)
    go_wp2
    go_ret2
    exact ⟨⟨_, rfl, own_empty (w.drewN nq) w.heap.size (Nat.le_refl _)⟩, (below_drewN (Below.refl _ _) nq).alloc (Nat.le_refl _) _⟩
  · obtain ⟨n, rfl⟩ : ∃ n, len = n + 4 := ⟨len - 4, by omega⟩
    obtain ⟨b, o, rfl, hb, hc⟩ := hin.2.2.2 (by omega)
    have hn4 : (((n + 4 : Nat) : Int) - 4) = (n : Int) := by omega
    have HT := hide (hin.take n (by omega))
    have HD : Hid (In w w.heap.size (some ⟨b, o + n, none⟩) 4 (zs.drop n)) := hide (by have := hin.drop n (by omega); rwa [show n + 4 - n = 4 from by omega] at this)
    have hd : decide ((n : Int) < 0) = false := by simp
    have HT0 := HT
    have HT : Hid (In w.drew w.drew.heap.size (some ⟨b, o, none⟩) n (zs.take n)) := HT
    have HD : Hid (In w.drew w.drew.heap.size (some ⟨b, o + n, none⟩) 4 (zs.drop n)) := HD
    clear hc hin
    have e4 : zs.length - 4 = n := by omega
    have hcv0 := in_str (cap - n) HD.out
    go_enter Try.func18, Try.ntmps18
    go_upto_region 2 with fail
    go_cut [21] from 8 to 21 (fun s wr => s = .bool (!((strOfNums (four (chk (zs.take n)))).toList == (strOfNums (zs.drop n)).toList)) ∧ Below w.heap.size w wr)
    case first =>
      go_region_with (go_at_call 32; refine (l2Sum _ _ _ _ _ HT.out).mono ?_; rintro e w1 ⟨v1, rfl, o1, b1⟩; have hcv1 := own_str o1; have hcv2 := in_str (cap - n) (HD.out.at b1); have HB1 := hide (below_of_drew b1); clear b1 o1)
      all_goals (go_wp2_with fail; go_meet; exact ⟨rfl, HB1.out⟩)
    case rest =>
      obtain ⟨rfl, hB⟩ := hcut
      have HB := hide hB
      have HTc := hide (HT0.out.at hB)
      have hbyt : Byt (zs.drop n) := in_byt HD.out
      rw [str_eq _ _ (four_byt _) hbyt]
      have htold := told_iff (zs.take n) (zs.drop n) hbyt HD.out.1
      clear hB hcv0 HT HD hbyt
      by_cases heq : sums (zs.take n) = told (zs.drop n)
      · have HF := hide (opened_fine zs (by omega) (by rw [e4]; exact heq))
        rw [e4] at HF
        rw [decide_eq_true (htold.2 heq)]
        have HA := hide (own_empty wc w.heap.size HB.out.size)
        have HTd := hide (HTc.out.kept (w' := wc.alloc (.cells #[] 5)) (fun k hk => Below.heap_alloc wc _ k hk))
        clear heq htold HTc
        go_wp2_with (at_builtin; refine app_in rfl _ _ rfl w.heap.size wc.heap.size _ [] rfl HA.out _ _ _ (zs.take n) rfl ?_ HTd.out ?_ ?_ ?_; (intro h; cases h); simp; (have := HB.out.size; simp; omega); intro v' w' o' g' n')
        have HO := hide o'
        have HB' := hide ((HB.out.alloc HB.out.size (.cells #[] 5)).grown g' (by have := HB.out.size; simp; omega) (fun q hq => (HA.out.lt q hq).1))
        clear o' g' n' HA HTd
        go_wp2
        go_ret2
        refine ⟨?_, HB'.out⟩
        rw [HF.out]
        exact ⟨_, rfl, HO.out⟩
      · have HF := hide (opened_bad zs (by rw [e4]; exact heq))
        rw [decide_eq_false (fun h => heq (htold.1 h))]
        clear heq htold HTc
        go_wp2
        go_ret2
        refine ⟨?_, HB.out.alloc HB.out.size _⟩
        rw [HF.out]
        exact ⟨_, rfl, own_empty _ _ HB.out.size⟩

theorem openA_any {B : Nat} {r : Option (List Int)} {e : Ending} {w' : World} (h : openA B r e w') : ∃ v, e = .returned (.tuple #[v, .bool r.isSome]) ∧ Own w' B v (r.getD []) := by
  cases r with
  | none => exact h
  | some zs => exact h

theorem opened_len (zs : List Int) : ((opened zs).getD []).length ≤ zs.length := by
  unfold opened
  split
  · simp only [Option.getD_some, List.length_take]; omega
  · simp
end Go.Proofs.Ytpemnkfjeldgmaa
