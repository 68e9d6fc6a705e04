/-
  What MsgOk's model does.
-/
import Derived.Test.YtkfnpijljpbiaaaDoorJ8
import Derived.Deep.CutRange
import Derived.Deep.RegionWith
import Derived.BigRegion
namespace Go.Proofs.YtkfnpijljpbiaaaDoor
open Go.RowKit


/-- What a kind of message has. -/
def hasF (k : Int) : Int := if k = 2 then 14 else if k = 3 then 8 else if k = 4 then 4 else if k = 5 ∨ k = 9 then 1 else if k = 6 ∨ k = 7 ∨ k = 8 ∨ k = 10 then 17 else 0
/-- Has the kind this part? -/
def flg (k b : Int) : Bool := bits .and .i64 (hasF k) b != 0

theorem kinds {k : Int} (h : inB k 1 10 = true) : k = 1 ∨ k = 2 ∨ k = 3 ∨ k = 4 ∨ k = 5 ∨ k = 6 ∨ k = 7 ∨ k = 8 ∨ k = 9 ∨ k = 10 := by
  have := inB_yes h; omega

set_option maxRecDepth 100000 in
set_option maxHeartbeats 1000000 in
theorem hasSpec (k : Int) (w : World) :
    Calls Tryd.prog 63 #[.int .i64 k] w fun e w' => e = .returned (.int .i64 (hasF k)) ∧ Below w.heap.size w w' := by
  cases hk : inB k 1 10 with
  | false =>
    have h0 : hasF k = 0 := by
      have := inB_no hk
      unfold hasF
      rw [if_neg (by omega), if_neg (by omega), if_neg (by omega), if_neg (by omega), if_neg (by omega)]
    rw [h0]
    go_enter Tryd.func63, Tryd.ntmps63
    go_wp2_with (go_at_call 35; refine (inSpec _ _ _ _).mono ?_; rintro e w' ⟨rfl, rfl⟩)
    go_ret
    exact ⟨rfl, Below.refl _ _⟩
  | true =>
    rcases kinds hk with rfl | rfl | rfl | rfl | rfl | rfl | rfl | rfl | rfl | rfl
    all_goals
      go_enter Tryd.func63, Tryd.ntmps63
      go_wp2_with (go_at_call 35; refine (inSpec _ _ _ _).mono ?_; rintro e w' ⟨rfl, rfl⟩)
      go_ret
      exact ⟨rfl, (Below.refl _ _).alloc (Nat.le_refl _) _⟩

/-- A message, as the program holds it. -/
def msgV (k i u c n : Int) (cv nv : Value) : Value := .agg #[.int .i64 k, .int .i64 i, .int .i64 u, .int .i64 c, .int .i64 n, cv, nv]

/-- Parts that a message has, by its kind. -/
def whoB (k u : Int) : Bool := bif flg k 1 then inB u 1 1000000 else u == 0
def clsB (k c : Int) : Bool := bif flg k 2 then (inB c 0 255 || c == 0) else c == 0
def verB (k n : Int) : Bool := bif flg k 4 then (inB n 0 16777215 || n == 0) else n == 0
/-- What MsgOk says, as its model goes. -/
def mSpec (k i u c n : Int) (cs : List (Int × Bool × Int)) (ns : List (Int × Int)) : Bool :=
  inB k 1 10 && inB i 1 1000000 && cOk cs && nOk ns && (whoB k u && clsB k c && verB k n && (flg k 8 || (cs.length : Int) == 0) && (flg k 16 || (ns.length : Int) == 0))

set_option maxRecDepth 100000 in
set_option maxHeartbeats 4000000 in
theorem msgSpec (w : World) (k i u c n : Int) (cv nv : Value) (cs : List (Int × Bool × Int)) (ns : List (Int × Int)) (hc : Rd w w.heap.size 3 cv cs.length (cs.flatMap cellC)) (hn : Rd w w.heap.size 2 nv ns.length (ns.flatMap noteC))
    (hmc : cs.length ≤ 1048576) (hmn : ns.length ≤ 1048576) :
    Calls Tryd.prog 57 #[msgV k i u c n cv nv] w fun e w' => e = .returned (.bool (mSpec k i u c n cs ns)) ∧ Below w.heap.size w w' := by
  have HC := hide hc
  have HN := hide hn
  obtain ⟨a5, cap5, rfl, _⟩ := cells_at hc
  obtain ⟨a6, cap6, rfl, _⟩ := notes_at hn
  clear hc hn
  have HM : Hid (mSpec k i u c n cs ns = (inB k 1 10 && inB i 1 1000000 && cOk cs && nOk ns && (whoB k u && clsB k c && verB k n && (flg k 8 || (cs.length : Int) == 0) && (flg k 16 || (ns.length : Int) == 0)))) := hide rfl
  have HX := hide (Box.new w #[.int .i64 k, .int .i64 i, .int .i64 u, .int .i64 c, .int .i64 n, .slice a5 cs.length cap5, .slice a6 ns.length cap6] 39)
  have HB := hide ((Below.refl w.heap.size w).alloc (Nat.le_refl _) (.cells #[.int .i64 k, .int .i64 i, .int .i64 u, .int .i64 c, .int .i64 n, .slice a5 cs.length cap5, .slice a6 ns.length cap6] 39))
  unfold msgV
  go_enter Tryd.func57, Tryd.ntmps57
  go_wp2_with fail
  refine (hasSpec _ _).mono ?_
  rintro e w1 ⟨rfl, b1⟩
  replace HX := hide (HX.out.below (by simp) b1)
  have hs1 := b1.size
  simp only [World.size_alloc] at hs1
  replace HB := hide (HB.out.trans (b1.mono HB.out.size))
  clear b1
  have hg : w.heap.size < w1.heap.size := by omega
  clear hs1
  have f0 := HX.out 0 _ rfl
  have f1 := HX.out 1 _ rfl
  have f2 := HX.out 2 _ rfl
  have f3 := HX.out 3 _ rfl
  have f4 := HX.out 4 _ rfl
  have f5 := HX.out 5 _ rfl
  have f6 := HX.out 6 _ rfl
  cases hk : inB k 1 10 with
  | false =>
    rw [hk] at HM
    go_wp2_with (go_at_call 35; refine (inSpec _ _ _ _).mono ?_; rintro e w' ⟨rfl, rfl⟩)
    go_ret
    exact ⟨by rw [HM.out]; rfl, HB.out⟩
  | true =>
    cases hi : inB i 1 1000000 with
    | false =>
      rw [hk, hi] at HM
      go_wp2_with (go_at_call 35; refine (inSpec _ _ _ _).mono ?_; rintro e w' ⟨rfl, rfl⟩)
      go_ret
      exact ⟨by rw [HM.out]; rfl, HB.out⟩
    | true =>
      go_wp2_with (go_at_call 35; refine (inSpec _ _ _ _).mono ?_; rintro e w' ⟨rfl, rfl⟩)
      refine (cellsSpec _ _ _ _ (HC.out.low (Below.mono HB.out (Nat.le_refl _)) (Nat.le_refl _)) HB.out.size hmc).mono ?_
      rintro e w2 ⟨rfl, b2⟩
      replace HX := hide (HX.out.below hg b2)
      replace HB := hide (HB.out.trans (b2.mono HB.out.size))
      have hg2 : w.heap.size < w2.heap.size := Nat.lt_of_lt_of_le hg b2.size
      clear b2 f0 f1 f2 f3 f4 f5 f6
      have f0 := HX.out 0 _ rfl
      have f1 := HX.out 1 _ rfl
      have f2 := HX.out 2 _ rfl
      have f3 := HX.out 3 _ rfl
      have f4 := HX.out 4 _ rfl
      have f5 := HX.out 5 _ rfl
      have f6 := HX.out 6 _ rfl
      cases hc : cOk cs with
      | false =>
        rw [hk, hi, hc] at HM
        go_wp2
        go_ret
        exact ⟨by rw [HM.out]; rfl, HB.out⟩
      | true =>
        go_wp2_with fail
        refine (notesSpec _ _ _ _ (HN.out.low HB.out (Nat.le_refl _)) HB.out.size hmn).mono ?_
        rintro e w3 ⟨rfl, b3⟩
        replace HX := hide (HX.out.below hg2 b3)
        replace HB := hide (HB.out.trans (b3.mono HB.out.size))
        clear b3 f0 f1 f2 f3 f4 f5 f6 hg hg2
        have f0 := HX.out 0 _ rfl
        have f1 := HX.out 1 _ rfl
        have f2 := HX.out 2 _ rfl
        have f3 := HX.out 3 _ rfl
        have f4 := HX.out 4 _ rfl
        have f5 := HX.out 5 _ rfl
        have f6 := HX.out 6 _ rfl
        cases hn : nOk ns with
        | false =>
          rw [hk, hi, hc, hn] at HM
          go_wp2
          go_ret
          exact ⟨by rw [HM.out]; rfl, HB.out⟩
        | true =>
          rw [hk, hi, hc, hn] at HM
          go_upto_region 4 with fail
          go_cut [4] from 32 to 49 (fun s wq => s = .bool (whoB k u) ∧ w3 = wq)
          case first =>
            cases hf : flg k 1 with
            | true =>
              have hf1 : (bits .and .i64 (hasF k) 1 != 0) = true := hf
              have hf2 : (bits .and .i64 (hasF k) 1 == 0) = false := by have := hf1; simpa using this
              cases hu : inB u 1 1000000 with
              | true =>
                have HW : Hid (whoB k u = true) := hide (by unfold whoB; rw [hf, hu]; rfl)
                clear hf
                go_wp2_with (go_at_call 35; refine (inSpec _ _ _ _).mono ?_; rintro e w' ⟨rfl, rfl⟩)
                go_meet
                exact ⟨by rw [HW.out], rfl⟩
              | false =>
                have HW : Hid (whoB k u = false) := hide (by unfold whoB; rw [hf, hu]; rfl)
                clear hf
                go_wp2_with (go_at_call 35; refine (inSpec _ _ _ _).mono ?_; rintro e w' ⟨rfl, rfl⟩)
                go_meet
                exact ⟨by rw [HW.out], rfl⟩
            | false =>
              have hf1 : (bits .and .i64 (hasF k) 1 != 0) = false := hf
              have hf2 : (bits .and .i64 (hasF k) 1 == 0) = true := by have := hf1; simpa using this
              have HW : Hid (whoB k u = (u == 0)) := hide (by unfold whoB; rw [hf]; rfl)
              clear hf
              go_wp2
              go_meet
              exact ⟨by rw [HW.out], rfl⟩
          case rest =>
            obtain ⟨rfl, rfl⟩ := hcut
            go_upto_region 5 with fail
            go_cut [5] from 50 to 62 (fun s wq => s = .bool (clsB k c) ∧ w3 = wq)
            case first =>
              cases hf : flg k 2 with
              | true =>
                have hf1 : (bits .and .i64 (hasF k) 2 != 0) = true := hf
                have hf2 : (bits .and .i64 (hasF k) 2 == 0) = false := by have := hf1; simpa using this
                cases hu : inB c 0 255 with
                | true =>
                  have HW : Hid (clsB k c = true) := hide (by unfold clsB; rw [hf, hu]; rfl)
                  clear hf
                  go_wp2_with (go_at_call 35; refine (inSpec _ _ _ _).mono ?_; rintro e w' ⟨rfl, rfl⟩)
                  go_meet
                  exact ⟨by rw [HW.out], rfl⟩
                | false =>
                  have HW : Hid (clsB k c = (c == 0)) := hide (by unfold clsB; rw [hf, hu]; rfl)
                  clear hf
                  go_wp2_with (go_at_call 35; refine (inSpec _ _ _ _).mono ?_; rintro e w' ⟨rfl, rfl⟩)
                  go_meet
                  exact ⟨by rw [HW.out], rfl⟩
              | false =>
                have hf1 : (bits .and .i64 (hasF k) 2 != 0) = false := hf
                have hf2 : (bits .and .i64 (hasF k) 2 == 0) = true := by have := hf1; simpa using this
                have HW : Hid (clsB k c = (c == 0)) := hide (by unfold clsB; rw [hf]; rfl)
                clear hf
                go_wp2
                go_meet
                exact ⟨by rw [HW.out], rfl⟩
            case rest =>
              obtain ⟨rfl, rfl⟩ := hcut
              go_upto_region 6 with fail
              go_cut [6] from 63 to 75 (fun s wq => s = .bool (verB k n) ∧ w3 = wq)
              case first =>
                cases hf : flg k 4 with
                | true =>
                  have hf1 : (bits .and .i64 (hasF k) 4 != 0) = true := hf
                  have hf2 : (bits .and .i64 (hasF k) 4 == 0) = false := by have := hf1; simpa using this
                  cases hu : inB n 0 16777215 with
                  | true =>
                    have HW : Hid (verB k n = true) := hide (by unfold verB; rw [hf, hu]; rfl)
                    clear hf
                    go_wp2_with (go_at_call 35; refine (inSpec _ _ _ _).mono ?_; rintro e w' ⟨rfl, rfl⟩)
                    go_meet
                    exact ⟨by rw [HW.out], rfl⟩
                  | false =>
                    have HW : Hid (verB k n = (n == 0)) := hide (by unfold verB; rw [hf, hu]; rfl)
                    clear hf
                    go_wp2_with (go_at_call 35; refine (inSpec _ _ _ _).mono ?_; rintro e w' ⟨rfl, rfl⟩)
                    go_meet
                    exact ⟨by rw [HW.out], rfl⟩
                | false =>
                  have hf1 : (bits .and .i64 (hasF k) 4 != 0) = false := hf
                  have hf2 : (bits .and .i64 (hasF k) 4 == 0) = true := by have := hf1; simpa using this
                  have HW : Hid (verB k n = (n == 0)) := hide (by unfold verB; rw [hf]; rfl)
                  clear hf
                  go_wp2
                  go_meet
                  exact ⟨by rw [HW.out], rfl⟩
              case rest =>
                obtain ⟨rfl, rfl⟩ := hcut
                cases hw : whoB k u with
                | false =>
                  rw [hw] at HM
                  clear f0 f1 f2 f3 f4
                  go_wp2
                  go_ret
                  exact ⟨by rw [HM.out]; rfl, HB.out⟩
                | true =>
                  cases hl : clsB k c with
                  | false =>
                    rw [hw, hl] at HM
                    clear f0 f1 f2 f3 f4
                    go_wp2
                    go_ret
                    exact ⟨by rw [HM.out]; rfl, HB.out⟩
                  | true =>
                    cases hv : verB k n with
                    | false =>
                      rw [hw, hl, hv] at HM
                      clear f0 f1 f2 f3 f4
                      go_wp2
                      go_ret
                      exact ⟨by rw [HM.out]; rfl, HB.out⟩
                    | true =>
                      rw [hw, hl, hv] at HM
                      cases h8 : flg k 8 with
                      | true =>
                        have h81 : (bits .and .i64 (hasF k) 8 != 0) = true := h8
                        cases h16 : flg k 16 with
                        | true =>
                          have h161 : (bits .and .i64 (hasF k) 16 != 0) = true := h16
                          rw [h8, h16] at HM
                          clear f0 f1 f2 f3 f4
                          go_wp2
                          go_ret
                          exact ⟨by rw [HM.out]; rfl, HB.out⟩
                        | false =>
                          have h161 : (bits .and .i64 (hasF k) 16 != 0) = false := h16
                          rw [h8, h16] at HM
                          clear f0 f1 f2 f3 f4
                          go_wp2
                          go_ret
                          exact ⟨by rw [HM.out]; rfl, HB.out⟩
                      | false =>
                        have h81 : (bits .and .i64 (hasF k) 8 != 0) = false := h8
                        cases h0 : ((cs.length : Int) == 0) with
                        | false =>
                          rw [h8, h0] at HM
                          clear f0 f1 f2 f3 f4
                          go_wp2
                          go_ret
                          exact ⟨by rw [HM.out]; rfl, HB.out⟩
                        | true =>
                          cases h16 : flg k 16 with
                          | true =>
                            have h161 : (bits .and .i64 (hasF k) 16 != 0) = true := h16
                            rw [h8, h0, h16] at HM
                            clear f0 f1 f2 f3 f4
                            go_wp2
                            go_ret
                            exact ⟨by rw [HM.out]; rfl, HB.out⟩
                          | false =>
                            have h161 : (bits .and .i64 (hasF k) 16 != 0) = false := h16
                            rw [h8, h0, h16] at HM
                            clear f0 f1 f2 f3 f4
                            go_wp2
                            go_ret
                            exact ⟨by rw [HM.out]; rfl, HB.out⟩
end Go.Proofs.YtkfnpijljpbiaaaDoor
