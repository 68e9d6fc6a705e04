/-
  Joined: KfSz, ClsSz, ClsOkS.
-/
import Derived.Test.YtpgmipbanpofaaaGreatDoorJ15
import Derived.Test.YtpgmipbanpofaaaGreatDoorJ17
import Derived.Laws.StructEq
import Derived.Deep.CutRange
import Derived.Deep.RegionWith
import Derived.Deep.QuietTactic
import Derived.BigQuiet
/-
  How great texts, consts and fields are that come in.
-/
namespace Go.Proofs.YtpgmipbanpofaaaGreatDoor
open Go.RowKit

def kcW (x : Kc) : Nat := x.a.size + x.b.size
def fdW (x : Fd) : Nat := x.n.size + x.t.size
end Go.Proofs.YtpgmipbanpofaaaGreatDoor
/-
  How great classes are that come in.
-/
namespace Go.Proofs.YtpgmipbanpofaaaGreatDoor
open Go.RowKit

def meW (x : Me) : Nat := x.n.size + (x.ps.length + tot ByteArray.size x.ps) + x.r.size + x.c.length
def clW (x : Cl) : Nat := x.n.size + x.s.size + (x.p.length + tot kcW x.p) + (x.f.length + tot fdW x.f) + (x.m.length + tot meW x.m)

end Go.Proofs.YtpgmipbanpofaaaGreatDoor
/-
  What ClassOk does, in the model.
-/
namespace Go.Proofs.YtpgmipbanpofaaaGreatDoor
open Go.RowKit

theorem len_max {n : Nat} (h : n ≤ 1048576) : n ≤ maxLen := Nat.le_trans h (by decide)
set_option maxRecDepth 100000 in
set_option maxHeartbeats 4000000 in
theorem poolSpec (w : World) (v : Value) (xs : List Kc) (h : Reads w w.heap.size (pool xs) v) (hm : xs.length ≤ 1048576) (hg : ∀ y ∈ xs, y.a.size ≤ 1048576 ∧ y.b.size ≤ 1048576) :
    Calls Tryz.prog 58 #[v] w fun e w' => e = .returned (.bool (poolB xs)) ∧ Below w.heap.size w w' := by
  have HX : Hid (∀ wr, Below w.heap.size w wr → _) := hide (fun wr hb => const_at (h.at hb))
  have HG := hide (fun j hj => getD_mem hg j hj)
  have HN1 : Hid (∀ j, j < xs.length → kcB (xs.getD j default) = false → poolB xs = false) := hide (fun j hj h => by unfold poolB; rw [all_no hj h]; simp)
  have HN2 : Hid (∀ j k, j < xs.length → k < j → eqK (xs.getD k default) (xs.getD j default) = true → poolB xs = false) := hide (fun j k hj hk h => by unfold poolB; rw [noTwo_no hj hk h]; simp)
  have HY : Hid (RightJ kcB eqK xs xs.length → poolB xs = decide (xs.length ≤ 24)) := hide (fun h => by unfold poolB; rw [h.all.1, h.all.2]; simp)
  obtain ⟨a, cap, rfl, _⟩ := const_at h
  clear h hg
  generalize hn : xs.length = n at *
  go_enter Tryz.func58, Tryz.ntmps58
  go_wp2
  go_loopw [3] (fun i wr => ∃ j : Nat, j ≤ n ∧ i = .int .i64 (j : Int) ∧ Hid (RightJ kcB eqK xs j) ∧ Hid (Below w.heap.size w wr)) (fun i _ => n - (intOf i).toNat)
  case atStart => exact ⟨0, Nat.zero_le _, rfl, hide (RightJ.zero _ _ _), hide (Below.refl _ _)⟩
  case round =>
    obtain ⟨j, hj, rfl, HR, HB⟩ := hrel
    by_cases hlt : j < n
    · obtain ⟨a', cap', ea, _, _, hc⟩ := HX.out wr HB.out
      cases ea
      obtain ⟨b, o, rfl, _, hcell⟩ := hc (by omega)
      obtain ⟨e0, e1, e2, e3⟩ := hcell j hlt
      have hgx := hide (HG.out j hlt)
      clear hcell hc
      obtain ⟨x, hx⟩ : ∃ x, xs.getD j default = x := ⟨_, rfl⟩
      rw [hx] at e0 e1 e2 e3 hgx
      have HX9 := hide hx
      clear hx
      go_wp2_with fail
      refine (constOkSpec x.k x.n x.a x.b _ (len_max hgx.out.1) (len_max hgx.out.2)).mono ?_
      rintro e w1 ⟨rfl, b1⟩
      replace HB := hide (HB.out.trans (b1.mono HB.out.size))
      clear b1 e0 e1 e2 e3
      cases c : kOk x.k x.n x.a x.b with
      | false =>
        have HF : Hid (poolB xs = false) := hide (HN1.out j hlt (by rw [HX9.out]; exact c))
        go_wp2
        go_ret
        exact ⟨by rw [HF.out]; rfl, HB.out⟩
      | true =>
        have HC : Hid (kcB x = true) := hide c
        clear c hgx
        go_wp2
        go_loopw [4] (fun i wr => ∃ k : Nat, k ≤ j ∧ i = .int .i64 (k : Int) ∧ Hid (∀ i, i < k → eqK (xs.getD i default) x = false) ∧ Hid (Below w.heap.size w wr)) (fun i _ => j - (intOf i).toNat)
        case atStart => exact ⟨0, Nat.zero_le _, rfl, hide (fun i hi => by omega), HB⟩
        case round =>
          clear HB
          obtain ⟨k, hk, rfl, HE, HB⟩ := hrel
          by_cases hlk : k < j
          · obtain ⟨a', cap', ea, _, _, hc⟩ := HX.out wr HB.out
            cases ea
            obtain ⟨b', o', eo, _, hcell⟩ := hc (by omega)
            cases eo
            obtain ⟨e0, e1, e2, e3⟩ := hcell j hlt
            obtain ⟨d0, d1, d2, d3⟩ := hcell k (by omega)
            clear hcell hc
            rw [HX9.out] at e0 e1 e2 e3
            obtain ⟨y, hy⟩ : ∃ y, xs.getD k default = y := ⟨_, rfl⟩
            rw [hy] at d0 d1 d2 d3
            have HY9 := hide hy
            clear hy
            have hkn : k < n := by omega
            have hs := HB.out.size
            go_wp2
            go_cut [30] from 22 to 30 (fun s wq => s = .bool (eqK y x) ∧ Below w.heap.size w wq)
            case first =>
              cases q1 : (y.k == x.k) with
              | false =>
                have HE9 : Hid (eqK y x = false) := hide (by simp only [eqK, q1]; rfl)
                (go_region; all_goals (go_wp2_with fail; go_meet; exact ⟨by rw [HE9.out], HB.out.drew⟩))
              | true =>
                cases q2 : (y.n == x.n) with
                | false =>
                  have HE9 : Hid (eqK y x = false) := hide (by simp only [eqK, q1, q2]; rfl)
                  (go_region; all_goals (go_wp2_with fail; go_meet; exact ⟨by rw [HE9.out], HB.out.drew⟩))
                | true =>
                  cases q3 : (y.a.toList == x.a.toList) with
                  | false =>
                    have HE9 : Hid (eqK y x = false) := hide (by simp only [eqK, q1, q2, q3]; rfl)
                    (go_region; all_goals (go_wp2_with fail; go_meet; exact ⟨by rw [HE9.out], HB.out.drew⟩))
                  | true =>
                    cases q4 : (y.b.toList == x.b.toList) with
                    | false =>
                      have HE9 : Hid (eqK y x = false) := hide (by simp only [eqK, q1, q2, q3, q4]; rfl)
                      (go_region; all_goals (go_wp2_with fail; go_meet; exact ⟨by rw [HE9.out], HB.out.drew⟩))
                    | true =>
                      have HE9 : Hid (eqK y x = true) := hide (by simp only [eqK, q1, q2, q3, q4]; rfl)
                      (go_region; all_goals (go_wp2_with fail; go_meet; exact ⟨by rw [HE9.out], HB.out.drew⟩))
            case rest =>
              obtain ⟨rfl, hB⟩ := hcut
              have HB2 := hide hB
              clear hB HB e0 e1 e2 e3 d0 d1 d2 d3
              cases c : eqK y x with
              | true =>
                have HF : Hid (poolB xs = false) := hide (HN2.out j k hlt hlk (by rw [HX9.out, HY9.out]; exact c))
                go_wp2
                go_ret
                exact ⟨by rw [HF.out]; rfl, HB2.out⟩
              | false =>
                have HE2 : Hid (∀ i, i < k + 1 → eqK (xs.getD i default) x = false) := hide (fun i hi => by
                  rcases Nat.lt_succ_iff_lt_or_eq.1 hi with h | rfl
                  · exact HE.out i h
                  · rw [HY9.out]; exact c)
                clear HE
                go_wp2
                exact ⟨⟨k + 1, by omega, by go_num, HE2, HB2⟩, by simp [intOf]; omega⟩
          · obtain rfl : k = j := by omega
            have HR2 := hide (RightJ.step HR.out (by rw [HX9.out]; exact HC.out) (fun i hi => by rw [HX9.out]; exact HE.out i hi))
            clear HR HE HC
            go_wp2
            exact ⟨⟨k + 1, by omega, by go_num, HR2, HB⟩, by simp [intOf]; omega⟩
    · obtain rfl : j = n := by omega
      have HF := hide (HY.out HR.out)
      by_cases hmost : j ≤ 24
      · have hm' : (j : Int) ≤ 24 := by omega
        go_wp2
        go_ret
        exact ⟨by rw [HF.out, decide_eq_true hmost]; first | rfl | simp, HB.out⟩
      · have hm' : ¬ (j : Int) ≤ 24 := by omega
        go_wp2
        go_ret
        exact ⟨by rw [HF.out, decide_eq_false hmost]; first | rfl | simp, HB.out⟩
set_option maxRecDepth 100000 in
set_option maxHeartbeats 4000000 in
theorem fldsSpec (w : World) (v : Value) (xs : List Fd) (h : Reads w w.heap.size (flds xs) v) (hm : xs.length ≤ 1048576) (hg : ∀ y ∈ xs, y.n.size ≤ 1048576 ∧ y.t.size ≤ 1048576) :
    Calls Tryz.prog 59 #[v] w fun e w' => e = .returned (.bool (fldsB xs)) ∧ Below w.heap.size w w' := by
  have HX : Hid (∀ wr, Below w.heap.size w wr → _) := hide (fun wr hb => field_at (h.at hb))
  have HG := hide (fun j hj => getD_mem hg j hj)
  have HN1 : Hid (∀ j, j < xs.length → fdB (xs.getD j default) = false → fldsB xs = false) := hide (fun j hj h => by unfold fldsB; rw [all_no hj h]; simp)
  have HN2 : Hid (∀ j k, j < xs.length → k < j → sameF (xs.getD k default) (xs.getD j default) = true → fldsB xs = false) := hide (fun j k hj hk h => by unfold fldsB; rw [noTwo_no hj hk h]; simp)
  have HY : Hid (RightJ fdB sameF xs xs.length → fldsB xs = decide (xs.length ≤ 8)) := hide (fun h => by unfold fldsB; rw [h.all.1, h.all.2]; simp)
  obtain ⟨a, cap, rfl, _⟩ := field_at h
  clear h hg
  generalize hn : xs.length = n at *
  go_enter Tryz.func59, Tryz.ntmps59
  go_wp2
  go_loopw [3] (fun i wr => ∃ j : Nat, j ≤ n ∧ i = .int .i64 (j : Int) ∧ Hid (RightJ fdB sameF xs j) ∧ Hid (Below w.heap.size w wr)) (fun i _ => n - (intOf i).toNat)
  case atStart => exact ⟨0, Nat.zero_le _, rfl, hide (RightJ.zero _ _ _), hide (Below.refl _ _)⟩
  case round =>
    obtain ⟨j, hj, rfl, HR, HB⟩ := hrel
    by_cases hlt : j < n
    · obtain ⟨a', cap', ea, _, _, hc⟩ := HX.out wr HB.out
      cases ea
      obtain ⟨b, o, rfl, _, hcell⟩ := hc (by omega)
      obtain ⟨e0, e1⟩ := hcell j hlt
      have hgx := hide (HG.out j hlt)
      clear hcell hc
      obtain ⟨x, hx⟩ : ∃ x, xs.getD j default = x := ⟨_, rfl⟩
      rw [hx] at e0 e1 hgx
      have HX9 := hide hx
      clear hx
      go_wp2_with fail
      refine (nameSpec _ _ (len_max hgx.out.1)).mono ?_
      rintro e w1 ⟨rfl, hw1⟩
      subst hw1
      cases c : nameB x.n with
      | false =>
        have HF : Hid (fldsB xs = false) := hide (HN1.out j hlt (by rw [HX9.out]; unfold fdB; rw [c]; rfl))
        go_wp2
        go_ret
        exact ⟨by rw [HF.out]; rfl, HB.out⟩
      | true =>
       have HC1 := hide c
       clear c
       go_wp2_with fail
       refine (nameSpec _ _ (len_max hgx.out.2)).mono ?_
       rintro e w1 ⟨rfl, hw1⟩
       subst hw1
       clear e0 e1
       cases c : nameB x.t with
       | false =>
        have HF : Hid (fldsB xs = false) := hide (HN1.out j hlt (by rw [HX9.out]; unfold fdB; rw [HC1.out, c]; rfl))
        go_wp2
        go_ret
        exact ⟨by rw [HF.out]; rfl, HB.out⟩
       | true =>
        have HC : Hid (fdB x = true) := hide (by unfold fdB; rw [HC1.out, c]; rfl)
        clear c hgx HC1
        go_wp2
        go_loopw [4] (fun i wr => ∃ k : Nat, k ≤ j ∧ i = .int .i64 (k : Int) ∧ Hid (∀ i, i < k → sameF (xs.getD i default) x = false) ∧ Hid (Below w.heap.size w wr)) (fun i _ => j - (intOf i).toNat)
        case atStart => exact ⟨0, Nat.zero_le _, rfl, hide (fun i hi => by omega), HB⟩
        case round =>
          clear HB
          obtain ⟨k, hk, rfl, HE, HB⟩ := hrel
          by_cases hlk : k < j
          · obtain ⟨a', cap', ea, _, _, hc⟩ := HX.out wr HB.out
            cases ea
            obtain ⟨b', o', eo, _, hcell⟩ := hc (by omega)
            cases eo
            obtain ⟨e0, e1⟩ := hcell j hlt
            obtain ⟨d0, d1⟩ := hcell k (by omega)
            clear hcell hc
            rw [HX9.out] at e0 e1
            obtain ⟨y, hy⟩ : ∃ y, xs.getD k default = y := ⟨_, rfl⟩
            rw [hy] at d0 d1
            have HY9 := hide hy
            clear hy
            have hkn : k < n := by omega
            have hs := HB.out.size
            go_wp2
            go_cut [42] from 32 to 42 (fun s wq => s = .bool (sameF y x) ∧ Below w.heap.size w wq)
            case first =>
              cases q1 : (y.n.toList == x.n.toList) with
              | false =>
                have HE9 : Hid (sameF y x = false) := hide q1
                (go_region; all_goals (go_wp2_with fail; go_meet; exact ⟨by rw [HE9.out], HB.out.drew⟩))
              | true =>
                have HE9 : Hid (sameF y x = true) := hide q1
                (go_region; all_goals (go_wp2_with fail; go_meet; exact ⟨by rw [HE9.out], HB.out.drew⟩))
            case rest =>
              obtain ⟨rfl, hB⟩ := hcut
              have HB2 := hide hB
              clear hB HB e0 e1 d0 d1
              cases c : sameF y x with
              | true =>
                have HF : Hid (fldsB xs = false) := hide (HN2.out j k hlt hlk (by rw [HX9.out, HY9.out]; exact c))
                go_wp2
                go_ret
                exact ⟨by rw [HF.out]; rfl, HB2.out⟩
              | false =>
                have HE2 : Hid (∀ i, i < k + 1 → sameF (xs.getD i default) x = false) := hide (fun i hi => by
                  rcases Nat.lt_succ_iff_lt_or_eq.1 hi with h | rfl
                  · exact HE.out i h
                  · rw [HY9.out]; exact c)
                clear HE
                go_wp2
                exact ⟨⟨k + 1, by omega, by go_num, HE2, HB2⟩, by simp [intOf]; omega⟩
          · obtain rfl : k = j := by omega
            have HR2 := hide (RightJ.step HR.out (by rw [HX9.out]; exact HC.out) (fun i hi => by rw [HX9.out]; exact HE.out i hi))
            clear HR HE HC
            go_wp2
            exact ⟨⟨k + 1, by omega, by go_num, HR2, HB⟩, by simp [intOf]; omega⟩
    · obtain rfl : j = n := by omega
      have HF := hide (HY.out HR.out)
      by_cases hmost : j ≤ 8
      · have hm' : (j : Int) ≤ 8 := by omega
        go_wp2
        go_ret
        exact ⟨by rw [HF.out, decide_eq_true hmost]; first | rfl | simp, HB.out⟩
      · have hm' : ¬ (j : Int) ≤ 8 := by omega
        go_wp2
        go_ret
        exact ⟨by rw [HF.out, decide_eq_false hmost]; first | rfl | simp, HB.out⟩
set_option maxRecDepth 100000 in
set_option maxHeartbeats 4000000 in
theorem methSpec (w : World) (x : Me) (pv cv : Value) (hp : Reads w w.heap.size (strs x.ps) pv) (hc : Reads w w.heap.size (byts x.c) cv) (hg : x.n.size ≤ 1048576 ∧ x.r.size ≤ 1048576 ∧ MeG x ∧ (∀ s ∈ x.ps, s.size ≤ 1048576)) :
    Calls Tryz.prog 56 #[meV x pv cv] w fun e w' => e = .returned (.bool (meB x)) ∧ Below w.heap.size w w' := by
  obtain ⟨a1, k1, e1, _⟩ := hp.shape
  obtain ⟨a2, k2, e2, _⟩ := hc.shape
  subst e1 e2
  have bA := (Below.refl w.heap.size w).alloc (Nat.le_refl _) (.cells #[.string x.n, .slice a1 x.ps.length k1, .string x.r, .int .i64 x.l, .slice a2 x.c.length k2] 48)
  have hX := Box.new w #[.string x.n, .slice a1 x.ps.length k1, .string x.r, .int .i64 x.l, .slice a2 x.c.length k2] 48
  obtain ⟨a1', c1', ea, _, _, hat⟩ := str_at (hp.at bA)
  cases ea
  have HX := hide hat
  have HB := hide bA
  have HG := hide (fun j hj => getD_mem hg.2.2.2 j hj)
  have HM : Hid (meB x = (nameB x.n && (decide (x.ps.length ≤ 3) && x.ps.all nameB) && nameB x.r && inB x.l ((x.ps.length : Int) + 1) 6 && inB (x.c.length : Int) 1 90)) := hide rfl
  have HN1 : Hid (∀ j, j < x.ps.length → nameB (x.ps.getD j default) = false → meB x = false) := hide (fun j hj h => by rw [HM.out, all_no hj h]; simp)
  have HY : Hid ((∀ j, j < x.ps.length → nameB (x.ps.getD j default) = true) → x.ps.all nameB = true) := hide all_yes
  have hl := hg.2.2.1.1
  have hcl := hg.2.2.1.2.1
  have HS := hide hg
  have q0 := hX 0 _ rfl
  have q1 := hX 1 _ rfl
  have q2 := hX 2 _ rfl
  have q3 := hX 3 _ rfl
  have q4 := hX 4 _ rfl
  clear hp hc bA hat hg hX
  unfold meV
  go_enter Tryz.func56, Tryz.ntmps56
  go_wp2_with fail
  generalize w.alloc (.cells #[.string x.n, .slice a1 x.ps.length k1, .string x.r, .int .i64 x.l, .slice a2 x.c.length k2] 48) = W at *
  generalize hn : x.ps.length = n at *
  have hw : IntKind.i64.wrap ((n : Int) + 1) = (n : Int) + 1 := by rw [IntKind.wrap_i64]; omega
  go_loopw [3] (fun i wr => ∃ j : Nat, j ≤ n ∧ i = .int .i64 (j : Int) ∧ Hid (∀ i, i < j → nameB (x.ps.getD i default) = true) ∧ wr = W) (fun i _ => n - (intOf i).toNat)
  case atStart => exact ⟨0, Nat.zero_le _, rfl, hide (fun i hi => by omega), rfl⟩
  case round =>
    obtain ⟨j, hj, rfl, HR, rfl⟩ := hrel
    by_cases hlt : j < n
    · obtain ⟨b, o, rfl, _, hcell⟩ := HX.out (by omega)
      have e0 := hcell j hlt
      have hgx := hide (HG.out j (by omega))
      clear hcell
      obtain ⟨s, hs⟩ : ∃ s, x.ps.getD j default = s := ⟨_, rfl⟩
      rw [hs] at e0 hgx
      have HX9 := hide hs
      clear hs
      go_wp2_with fail
      refine (nameSpec _ _ (len_max hgx.out)).mono ?_
      rintro e w1 ⟨rfl, rfl⟩
      cases c : nameB s with
      | false =>
        have HF : Hid (meB x = false) := hide (HN1.out j hlt (by rw [HX9.out]; exact c))
        go_wp2
        go_ret
        exact ⟨by rw [HF.out]; rfl, HB.out⟩
      | true =>
        have HR2 : Hid (∀ i, i < j + 1 → nameB (x.ps.getD i default) = true) := hide (fun i hi => by
          rcases Nat.lt_succ_iff_lt_or_eq.1 hi with h | rfl
          · exact HR.out i h
          · rw [HX9.out]; exact c)
        go_wp2
        exact ⟨⟨j + 1, by omega, by go_num, HR2, by first | rfl | trivial⟩, by simp [intOf]; omega⟩
    · obtain rfl : j = n := by omega
      rw [HY.out HR.out] at HM
      clear HY HR HN1 HG HX
      go_wp2_with fail
      refine (nameSpec _ _ (len_max HS.out.1)).mono ?_
      rintro e w1 ⟨rfl, rfl⟩
      cases c1 : nameB x.n with
      | false =>
        have HF : Hid (meB x = false) := hide (by rw [HM.out, c1]; rfl)
        go_wp2
        go_ret
        exact ⟨by rw [HF.out]; rfl, HB.out⟩
      | true =>
        rw [c1] at HM
        clear c1
        go_wp2_with fail
        refine (nameSpec _ _ (len_max HS.out.2.1)).mono ?_
        rintro e w1 ⟨rfl, rfl⟩
        cases c1 : nameB x.r with
        | false =>
          have HF : Hid (meB x = false) := hide (by rw [HM.out, c1]; simp)
          go_wp2
          go_ret
          exact ⟨by rw [HF.out]; rfl, HB.out⟩
        | true =>
          rw [c1] at HM
          clear c1
          by_cases hmost : j ≤ 3
          · rw [decide_eq_true hmost] at HM
            have hm' : (j : Int) ≤ 3 := by omega
            go_wp2_with fail
            refine (inSpec _ _ _ _).mono ?_
            rintro e w1 ⟨rfl, rfl⟩
            cases c1 : inB x.l ((j : Int) + 1) 6 with
            | false =>
              have HF : Hid (meB x = false) := hide (by rw [HM.out, c1]; rfl)
              go_wp2
              go_ret
              exact ⟨by rw [HF.out]; rfl, HB.out⟩
            | true =>
              rw [c1] at HM
              clear c1
              go_wp2_with fail
              refine (inSpec _ _ _ _).mono ?_
              rintro e w1 ⟨rfl, rfl⟩
              have HF : Hid (meB x = inB (x.c.length : Int) 1 90) := hide (by rw [HM.out]; simp)
              go_wp2
              go_ret
              exact ⟨by rw [HF.out]; rfl, HB.out⟩
          · rw [decide_eq_false hmost] at HM
            have hm' : ¬ (j : Int) ≤ 3 := by omega
            have HF : Hid (meB x = false) := hide (by rw [HM.out]; rfl)
            go_wp2
            go_ret
            exact ⟨by rw [HF.out]; rfl, HB.out⟩

set_option maxRecDepth 100000 in
set_option maxHeartbeats 8000000 in
theorem clSpec (w : World) (x : Cl) (pv fv mv : Value) (hp : Reads w w.heap.size (pool x.p) pv) (hf : Reads w w.heap.size (flds x.f) fv) (hme : Reads w w.heap.size (mets x.m) mv) (hg : ClG x) :
    Calls Tryz.prog 33 #[clV x pv fv mv] w fun e w' => e = .returned (.bool (clB x)) ∧ Below w.heap.size w w' := by
  obtain ⟨a1, k1, e1, _⟩ := hp.shape
  obtain ⟨a2, k2, e2, _⟩ := hf.shape
  obtain ⟨a3, k3, e3, _⟩ := hme.shape
  subst e1 e2 e3
  have bA := (Below.refl w.heap.size w).alloc (Nat.le_refl _) (.cells #[.string x.n, .string x.s, .slice a1 x.p.length k1, .slice a2 x.f.length k2, .slice a3 x.m.length k3] 27)
  have G0 := heap_alloc_new w (.cells #[.string x.n, .string x.s, .slice a1 x.p.length k1, .slice a2 x.f.length k2, .slice a3 x.m.length k3] 27)
  have HP := hide (hp.at bA)
  have HFL := hide (hf.at bA)
  have HME := hide (hme.at bA)
  have HB := hide bA
  have HS := hide hg
  have hm := hg.m
  have HG := hide (fun j hj => getD_mem hg.ms j hj)
  have HM : Hid (clB x = (namB x && poolB x.p && fldsB x.f && metsB x.m)) := hide rfl
  have HNA : Hid (namB x = (clsB x.n && (x.s.toList.isEmpty || clsB x.s))) := hide rfl
  have HN1 : Hid (∀ j, j < x.m.length → meB (x.m.getD j default) = false → clB x = false) := hide (fun j hj h => by rw [HM.out]; unfold metsB; rw [all_no hj h]; simp)
  have HN2 : Hid (∀ j k, j < x.m.length → k < j → sameN (x.m.getD k default) (x.m.getD j default) = true → clB x = false) := hide (fun j k hj hk h => by rw [HM.out]; unfold metsB; rw [noTwo_no hj hk h]; simp)
  have HY : Hid (RightJ meB sameN x.m x.m.length → metsB x.m = decide (x.m.length ≤ 6)) := hide (fun h => by unfold metsB; rw [h.all.1, h.all.2]; simp)
  clear hp hf hme
  unfold clV
  go_enter Tryz.func33, Tryz.ntmps33
  go_wp2_with fail
  generalize w.alloc (.cells #[.string x.n, .string x.s, .slice a1 x.p.length k1, .slice a2 x.f.length k2, .slice a3 x.m.length k3] 27) = W at *
  have hWs : w.heap.size < W.heap.size := (Array.getElem?_eq_some_iff.1 G0).1
  have HBX : Hid (∀ wr, Below W.heap.size W wr → Box wr w.heap.size [.string x.n, .string x.s, .slice a1 x.p.length k1, .slice a2 x.f.length k2, .slice a3 x.m.length k3]) := hide (fun wr hb => (box_of ((hb.block _ hWs).trans G0)).1)
  have HX : Hid (∀ wr, Below W.heap.size W wr → _) := hide (fun wr hb => meth_at (HME.out.at hb))
  clear G0 bA hg HME
  generalize hn : x.m.length = n at *
  go_loopw [3] (fun i wr => ∃ j : Nat, j ≤ n ∧ i = .int .i64 (j : Int) ∧ Hid (RightJ meB sameN x.m j) ∧ Hid (Below W.heap.size W wr)) (fun i _ => n - (intOf i).toNat)
  case atStart => exact ⟨0, Nat.zero_le _, rfl, hide (RightJ.zero _ _ _), hide (Below.refl _ _)⟩
  case round =>
    obtain ⟨j, hj, rfl, HR, HW⟩ := hrel
    have q4 := HBX.out wr HW.out 4 _ rfl
    by_cases hlt : j < n
    · obtain ⟨a', cap', ea, _, _, hc⟩ := HX.out wr HW.out
      cases ea
      obtain ⟨b, o, rfl, _, hcell⟩ := hc (by omega)
      obtain ⟨pv, cv, e0, e1, e2, e3, e4, r1, r2⟩ := hcell j hlt
      have hgx := hide (HG.out j (by omega))
      clear hcell hc
      obtain ⟨y, hy⟩ : ∃ y, x.m.getD j default = y := ⟨_, rfl⟩
      rw [hy] at e0 e2 e3 r1 r2 hgx
      have HX9 := hide hy
      clear hy
      obtain ⟨aa, cc, ea, _⟩ := r1.shape
      obtain ⟨ab, cd, eb, _⟩ := r2.shape
      subst ea eb
      have R1 := hide r1
      have R2 := hide r2
      clear r1 r2
      go_wp2_with fail
      refine (methSpec _ y _ _ R1.out R2.out ⟨hgx.out.1, hgx.out.2.1, hgx.out.2.2.1, hgx.out.2.2.2.1⟩).mono ?_
      rintro e w1 ⟨rfl, b1⟩
      replace HW := hide (HW.out.trans (b1.mono HW.out.size))
      clear b1 e0 e1 e2 e3 e4 R1 R2 hgx q4
      cases c : meB y with
      | false =>
        have HF : Hid (clB x = false) := hide (HN1.out j hlt (by rw [HX9.out]; exact c))
        go_wp2
        go_ret
        exact ⟨by rw [HF.out]; rfl, HB.out.trans (HW.out.mono HB.out.size)⟩
      | true =>
        have HC := hide c
        clear c
        go_wp2
        go_loopw [4] (fun i wr => ∃ k : Nat, k ≤ j ∧ i = .int .i64 (k : Int) ∧ Hid (∀ i, i < k → sameN (x.m.getD i default) y = false) ∧ Hid (Below W.heap.size W wr)) (fun i _ => j - (intOf i).toNat)
        case atStart => exact ⟨0, Nat.zero_le _, rfl, hide (fun i hi => by omega), HW⟩
        case round =>
          clear HW
          obtain ⟨k, hk, rfl, HE, HW⟩ := hrel
          by_cases hlk : k < j
          · have q4 := HBX.out wr HW.out 4 _ rfl
            obtain ⟨a', cap', ea, _, _, hc⟩ := HX.out wr HW.out
            cases ea
            obtain ⟨b', o', eo, _, hcell⟩ := hc (by omega)
            cases eo
            obtain ⟨_, _, e0, _⟩ := hcell j hlt
            obtain ⟨_, _, d0, _⟩ := hcell k (by omega)
            clear hcell hc
            rw [HX9.out] at e0
            obtain ⟨z, hz⟩ : ∃ z, x.m.getD k default = z := ⟨_, rfl⟩
            rw [hz] at d0
            have HY9 := hide hz
            clear hz
            have hkn : k < n := by omega
            have hs := HW.out.size
            go_wp2
            go_cut [36] from 24 to 36 (fun s wq => s = .bool (sameN z y) ∧ Below W.heap.size W wq)
            case first =>
              cases q1 : (z.n.toList == y.n.toList) with
              | false =>
                have HE9 : Hid (sameN z y = false) := hide q1
                (go_region; all_goals (go_wp2_with fail; go_meet; exact ⟨by rw [HE9.out], HW.out.drew⟩))
              | true =>
                have HE9 : Hid (sameN z y = true) := hide q1
                (go_region; all_goals (go_wp2_with fail; go_meet; exact ⟨by rw [HE9.out], HW.out.drew⟩))
            case rest =>
              obtain ⟨rfl, hB⟩ := hcut
              have HW2 := hide hB
              clear hB HW e0 d0 q4
              cases c : sameN z y with
              | true =>
                have HF : Hid (clB x = false) := hide (HN2.out j k hlt hlk (by rw [HX9.out, HY9.out]; exact c))
                go_wp2
                go_ret
                exact ⟨by rw [HF.out]; rfl, HB.out.trans (HW2.out.mono HB.out.size)⟩
              | false =>
                have HE2 : Hid (∀ i, i < k + 1 → sameN (x.m.getD i default) y = false) := hide (fun i hi => by
                  rcases Nat.lt_succ_iff_lt_or_eq.1 hi with h | rfl
                  · exact HE.out i h
                  · rw [HY9.out]; exact c)
                clear HE
                go_wp2
                exact ⟨⟨k + 1, by omega, by go_num, HE2, HW2⟩, by simp [intOf]; omega⟩
          · obtain rfl : k = j := by omega
            have HR2 := hide (RightJ.step HR.out (by rw [HX9.out]; exact HC.out) (fun i hi => by rw [HX9.out]; exact HE.out i hi))
            clear HR HE HC
            go_wp2
            exact ⟨⟨k + 1, by omega, by go_num, HR2, HW⟩, by simp [intOf]; omega⟩
    · obtain rfl : j = n := by omega
      have HJ := hide (HY.out HR.out)
      rw [HJ.out] at HM
      have HZ := hide (HB.out.trans (HW.out.mono HB.out.size))
      replace HP := hide (HP.out.at HW.out)
      replace HFL := hide (HFL.out.at HW.out)
      have q0 := HBX.out wr HW.out 0 _ rfl
      have q1 := HBX.out wr HW.out 1 _ rfl
      have q2 := HBX.out wr HW.out 2 _ rfl
      have HBX2 := hide (HBX.out wr HW.out)
      have hgs : Hid (w.heap.size < wr.heap.size) := hide (Nat.lt_of_lt_of_le hWs HW.out.size)
      clear HY HR HN1 HN2 HX HG HB HW HBX HJ
      go_wp2_with fail
      refine (clsSpec _ _ (len_max HS.out.n)).mono ?_
      rintro e w1 ⟨rfl, hw1⟩
      subst hw1
      cases c1 : clsB x.n with
      | false =>
        have HF : Hid (clB x = false) := hide (by rw [HM.out, HNA.out, c1]; rfl)
        go_wp2
        go_ret
        exact ⟨by rw [HF.out]; rfl, HZ.out⟩
      | true =>
        rw [c1] at HNA
        clear c1
        cases c2 : x.s.toList.isEmpty with
        | true =>
          have c2' : (x.s.toList == []) = true := by simpa using c2
          rw [HNA.out, c2] at HM
          clear c2 HNA
          go_wp2_with fail
          clear q0 q1 q2
          refine (poolSpec _ _ x.p HP.out HS.out.p HS.out.ps).mono ?_
          rintro e w2 ⟨rfl, b2⟩
          replace HFL := hide (HFL.out.at b2)
          replace HBX2 := hide (HBX2.out.below hgs.out b2)
          replace hgs := hide (Nat.lt_of_lt_of_le hgs.out b2.size)
          replace HZ := hide (HZ.out.trans (b2.mono HZ.out.size))
          clear b2
          cases c1 : poolB x.p with
          | false =>
            have HF : Hid (clB x = false) := hide (by rw [HM.out, c1]; rfl)
            go_wp2
            go_ret
            exact ⟨by rw [HF.out]; rfl, HZ.out⟩
          | true =>
            rw [c1] at HM
            clear c1
            have q3 := HBX2.out 3 _ rfl
            go_wp2_with fail
            clear q3
            refine (fldsSpec _ _ x.f HFL.out HS.out.f HS.out.fs).mono ?_
            rintro e w3 ⟨rfl, b3⟩
            replace HBX2 := hide (HBX2.out.below hgs.out b3)
            replace HZ := hide (HZ.out.trans (b3.mono HZ.out.size))
            clear b3
            cases c1 : fldsB x.f with
            | false =>
              have HF : Hid (clB x = false) := hide (by rw [HM.out, c1]; rfl)
              go_wp2
              go_ret
              exact ⟨by rw [HF.out]; rfl, HZ.out⟩
            | true =>
              rw [c1] at HM
              clear c1
              have q4 := HBX2.out 4 _ rfl
              by_cases hmost : j ≤ 6
              · have hm' : (j : Int) ≤ 6 := by omega
                have HF : Hid (clB x = true) := hide (by rw [HM.out, decide_eq_true hmost]; rfl)
                go_wp2
                go_ret
                exact ⟨by rw [HF.out]; rfl, HZ.out⟩
              · have hm' : ¬ (j : Int) ≤ 6 := by omega
                have HF : Hid (clB x = false) := hide (by rw [HM.out, decide_eq_false hmost]; rfl)
                go_wp2
                go_ret
                exact ⟨by rw [HF.out]; first | rfl | (simp; omega), HZ.out⟩
        | false =>
          have c2' : (x.s.toList == []) = false := by simpa using c2
          rw [c2] at HNA
          clear c2
          go_wp2_with fail
          refine (clsSpec _ _ (len_max HS.out.s)).mono ?_
          rintro e w1 ⟨rfl, hw1⟩
          subst hw1
          cases c1 : clsB x.s with
          | false =>
            have HF : Hid (clB x = false) := hide (by rw [HM.out, HNA.out, c1]; rfl)
            go_wp2
            go_ret
            exact ⟨by rw [HF.out]; rfl, HZ.out⟩
          | true =>
            rw [HNA.out, c1] at HM
            clear c1 HNA
            go_wp2_with fail
            clear q0 q1 q2
            refine (poolSpec _ _ x.p HP.out HS.out.p HS.out.ps).mono ?_
            rintro e w2 ⟨rfl, b2⟩
            replace HFL := hide (HFL.out.at b2)
            replace HBX2 := hide (HBX2.out.below hgs.out b2)
            replace hgs := hide (Nat.lt_of_lt_of_le hgs.out b2.size)
            replace HZ := hide (HZ.out.trans (b2.mono HZ.out.size))
            clear b2
            cases c1 : poolB x.p with
            | false =>
              have HF : Hid (clB x = false) := hide (by rw [HM.out, c1]; rfl)
              go_wp2
              go_ret
              exact ⟨by rw [HF.out]; rfl, HZ.out⟩
            | true =>
              rw [c1] at HM
              clear c1
              have q3 := HBX2.out 3 _ rfl
              go_wp2_with fail
              clear q3
              refine (fldsSpec _ _ x.f HFL.out HS.out.f HS.out.fs).mono ?_
              rintro e w3 ⟨rfl, b3⟩
              replace HBX2 := hide (HBX2.out.below hgs.out b3)
              replace HZ := hide (HZ.out.trans (b3.mono HZ.out.size))
              clear b3
              cases c1 : fldsB x.f with
              | false =>
                have HF : Hid (clB x = false) := hide (by rw [HM.out, c1]; rfl)
                go_wp2
                go_ret
                exact ⟨by rw [HF.out]; rfl, HZ.out⟩
              | true =>
                rw [c1] at HM
                clear c1
                have q4 := HBX2.out 4 _ rfl
                by_cases hmost : j ≤ 6
                · have hm' : (j : Int) ≤ 6 := by omega
                  have HF : Hid (clB x = true) := hide (by rw [HM.out, decide_eq_true hmost]; rfl)
                  go_wp2
                  go_ret
                  exact ⟨by rw [HF.out]; rfl, HZ.out⟩
                · have hm' : ¬ (j : Int) ≤ 6 := by omega
                  have HF : Hid (clB x = false) := hide (by rw [HM.out, decide_eq_false hmost]; rfl)
                  go_wp2
                  go_ret
                  exact ⟨by rw [HF.out]; first | rfl | (simp; omega), HZ.out⟩
end Go.Proofs.YtpgmipbanpofaaaGreatDoor
