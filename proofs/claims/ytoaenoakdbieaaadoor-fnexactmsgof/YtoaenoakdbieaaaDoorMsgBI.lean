/-
  What MsgBytes does, in the program.
-/
import Derived.Test.YtoaenoakdbieaaaDoorCellB
namespace Go.Proofs.YtoaenoakdbieaaaDoor
open Go.RowKit

theorem Box.grown {w w' : World} {g : Nat} {row : Option Nat} {vs : List Value} (h : Box w g vs) (hg : g < w.heap.size) (hgr : w.grownBy w' row) (hne : ∀ q, row = some q → q < g) : Box w' g vs :=
  fun j v hv => (World.cell?_of_block (w := w) (hgr.block g hg (fun e => by have := hne g e.symm; omega))).trans (h j v hv)
/-- What MsgBytes answers. -/
def mBytes (k i u c n : Int) (cs : List (Int × Bool × Int)) (ns : List (Int × Int)) : List Int := bif mOk k i u c n cs ns then msgB k i u c n cs ns else []

theorem mOk_lens {k i u c n : Int} {cs : List (Int × Bool × Int)} {ns : List (Int × Int)} (h : mOk k i u c n cs ns = true) : cs.length ≤ 8 ∧ ns.length ≤ 130 := by
  rw [← mOk_spec] at h
  unfold mSpec at h
  simp only [Bool.and_eq_true] at h
  have h1 := h.1.1.2
  have h2 := h.1.2
  unfold cOk at h1
  unfold nOk at h2
  simp only [Bool.and_eq_true, decide_eq_true_eq] at h1 h2
  exact ⟨h1.1, h2.1⟩
theorem mBytes_len (k i u c n : Int) (cs : List (Int × Bool × Int)) (ns : List (Int × Int)) : (mBytes k i u c n cs ns).length ≤ 1200 := by
  unfold mBytes
  cases h : mOk k i u c n cs ns
  · simp
  · exact msgB_len k i u c n cs ns (mOk_lens h).1 (mOk_lens h).2
theorem mBytes_byt (k i u c n : Int) (cs : List (Int × Bool × Int)) (ns : List (Int × Int)) : Byt (mBytes k i u c n cs ns) := by
  unfold mBytes
  cases h : mOk k i u c n cs ns
  · intro z hz; cases hz
  · exact msgB_byt k i u c n cs ns

def hdL (k i u c n : Int) : List Int := [k, i, u, c, n]
theorem hdL_all (k i u c n : Int) : (hdL k i u c n).flatMap pn = headB k i u c n := by simp [hdL, headB]
theorem hdL_len (k i u c n : Int) (j : Nat) : (((hdL k i u c n).take j).flatMap pn).length ≤ 20 := by
  have h1 := flatB_len pn 4 pn_len ((hdL k i u c n).take j)
  have h2 : ((hdL k i u c n).take j).length ≤ 5 := by simp [hdL]; omega
  omega

set_option maxRecDepth 100000 in
set_option maxHeartbeats 4000000 in
theorem msgBytesImpl (w : World) (k i u c n : Int) (cv nv : Value) (cs : List (Int × Bool × Int)) (ns : List (Int × Int)) (hc : Rd w w.heap.size 3 cv cs.length (cs.flatMap cellC)) (hn : Rd w w.heap.size 2 nv ns.length (ns.flatMap noteC))
    (hmc : cs.length ≤ 1048576) (hmn : ns.length ≤ 1048576) :
    Calls Tryd.prog 10 #[msgV k i u c n cv nv] w fun e w' => ∃ v, e = .returned v ∧ Own w' w.heap.size v (mBytes k i u c n cs ns) ∧ Below w.heap.size w w' := by
  have HC := hide hc
  have HN := hide hn
  obtain ⟨a5, cap5, rfl, _⟩ := cells_at hc
  obtain ⟨a6, cap6, rfl, _⟩ := notes_at hn
  clear hc hn
  have HX := hide (Box.new w #[.int .i64 k, .int .i64 i, .int .i64 u, .int .i64 c, .int .i64 n, .slice a5 cs.length cap5, .slice a6 ns.length cap6] 27)
  have HW := hide ((Below.refl w.heap.size w).alloc (Nat.le_refl _) (.cells #[.int .i64 k, .int .i64 i, .int .i64 u, .int .i64 c, .int .i64 n, .slice a5 cs.length cap5, .slice a6 ns.length cap6] 27))
  have hg : Hid (w.heap.size < (w.alloc (.cells #[.int .i64 k, .int .i64 i, .int .i64 u, .int .i64 c, .int .i64 n, .slice a5 cs.length cap5, .slice a6 ns.length cap6] 27)).heap.size) := hide (by simp)
  unfold msgV
  go_enter Tryd.func10, Tryd.ntmps10
  go_wp2_with fail
  generalize w.alloc (.cells #[.int .i64 k, .int .i64 i, .int .i64 u, .int .i64 c, .int .i64 n, .slice a5 cs.length cap5, .slice a6 ns.length cap6] 27) = W0 at *
  refine (msgImpl _ k i u c n _ _ cs ns (HC.out.at HW.out) (HN.out.at HW.out) hmc hmn).mono ?_
  rintro e w1 ⟨rfl, b1⟩
  have HP := hide b1
  clear b1
  cases hm : mOk k i u c n cs ns with
  | false =>
    have HM : Hid (mBytes k i u c n cs ns = []) := hide (by unfold mBytes; rw [hm]; rfl)
    go_wp2
    go_ret
    exact ⟨_, rfl, by rw [HM.out]; exact World.ownsRow_nil _ _ _ _, HW.out.trans (HP.out.mono HW.out.size)⟩
  | true =>
    have HM : Hid (mBytes k i u c n cs ns = msgB k i u c n cs ns) := hide (by unfold mBytes; rw [hm]; rfl)
    obtain ⟨hl5, hl6⟩ := mOk_lens hm
    clear hm hmc hmn
    have f0 := (HX.out.below hg.out HP.out) 0 _ rfl
    have f1 := (HX.out.below hg.out HP.out) 1 _ rfl
    have f2 := (HX.out.below hg.out HP.out) 2 _ rfl
    have f3 := (HX.out.below hg.out HP.out) 3 _ rfl
    have f4 := (HX.out.below hg.out HP.out) 4 _ rfl
    go_wp2
    clear f0 f1 f2 f3 f4
    go_loopw [3, 24] (fun out x wr => ∃ j : Nat, j ≤ 5 ∧ x = .int .i64 (j : Int) ∧ Hid (Own wr W0.heap.size out (((hdL k i u c n).take j).flatMap pn)) ∧ Hid (Below W0.heap.size W0 wr)) (fun _ x _ => 5 - (intOf x).toNat)
    case atStart => exact ⟨0, by omega, rfl, hide (World.ownsRow_nil _ _ _ _), HP⟩
    case round =>
      obtain ⟨j, hj, rfl, HO, HP⟩ := hrel
      have hlen := hdL_len k i u c n j
      have i0 : ∀ w, (Instr.index 71 (.agg #[.int .i64 k, .int .i64 i, .int .i64 u, .int .i64 c, .int .i64 n]) (.int .i64 0)).run Tryd.prog w = .ok (.int .i64 k) w := fun _ => by kernel_rfl
      have i1 : ∀ w, (Instr.index 71 (.agg #[.int .i64 k, .int .i64 i, .int .i64 u, .int .i64 c, .int .i64 n]) (.int .i64 1)).run Tryd.prog w = .ok (.int .i64 i) w := fun _ => by kernel_rfl
      have i2 : ∀ w, (Instr.index 71 (.agg #[.int .i64 k, .int .i64 i, .int .i64 u, .int .i64 c, .int .i64 n]) (.int .i64 2)).run Tryd.prog w = .ok (.int .i64 u) w := fun _ => by kernel_rfl
      have i3 : ∀ w, (Instr.index 71 (.agg #[.int .i64 k, .int .i64 i, .int .i64 u, .int .i64 c, .int .i64 n]) (.int .i64 3)).run Tryd.prog w = .ok (.int .i64 c) w := fun _ => by kernel_rfl
      have i4 : ∀ w, (Instr.index 71 (.agg #[.int .i64 k, .int .i64 i, .int .i64 u, .int .i64 c, .int .i64 n]) (.int .i64 4)).run Tryd.prog w = .ok (.int .i64 n) w := fun _ => by kernel_rfl
      by_cases hj5 : j = 5
      · subst hj5
        clear i0 i1 i2 i3 i4 hlen
        have hh := headB_len k i u c n
        replace HO : Hid (Own wr W0.heap.size _ (headB k i u c n)) := hide (by have := HO.out; rwa [show (hdL k i u c n).take 5 = hdL k i u c n from rfl, hdL_all] at this)
        have f5 := (HX.out.below hg.out HP.out) 5 _ rfl
        go_wp2_with fail
        refine (putNumImpl _ _).mono ?_
        rintro e w2 ⟨v2, rfl, o2, b2⟩
        have HU2 := hide o2
        replace HO := hide (HO.out.below b2)
        replace HP := hide (HP.out.trans (b2.mono HP.out.size))
        have s2 := HP.out.size
        clear o2 b2 f5
        go_wp2_with (at_builtin; refine app_own rfl _ _ rfl W0.heap.size _ _ _ _ (pn cs.length) rfl HO.out rfl HU2.out (pn_byt _) (Nat.le_trans (pn_len _) (by omega)) (by omega) s2 ?_; intro v3 w3 o3 g3 n3; have HP3 := hide (HP.out.grown g3 s2 (fun q hq => (HO.out.lt q hq).1)); have HO3 := hide o3; clear o3 g3 n3; have f5 := (HX.out.below hg.out HP3.out) 5 _ rfl)
        clear f5 HO HP HU2 s2
        have hp5 := pn_len cs.length
        generalize hA : headB k i u c n ++ pn cs.length = A at *
        have hAl : A.length ≤ 24 := by rw [← hA, List.length_append]; omega
        have HA := hide hA
        clear hA hh hp5
        go_loopw [3, 41] (fun out x wr => ∃ j : Nat, j ≤ cs.length ∧ x = .int .i64 (j : Int) ∧ Hid (Own wr W0.heap.size out (A ++ (cs.take j).flatMap cellB)) ∧ Hid (Below W0.heap.size W0 wr)) (fun _ x _ => cs.length - (intOf x).toNat)
        case atStart => exact ⟨0, by omega, rfl, hide (by simpa using HO3.out), HP3⟩
        case round =>
          obtain ⟨j, hj, rfl, HO, HP⟩ := hrel
          clear HO3 HP3
          have hfl : ((cs.take j).flatMap cellB).length ≤ 96 := by
            have h1 := flatB_len cellB 12 cellB_len (cs.take j)
            have h2 : (cs.take j).length ≤ 8 := by simp; omega
            omega
          by_cases hlt : j < cs.length
          · obtain ⟨a', cap', ea, hx⟩ := cells_at ((HC.out.at HW.out).at HP.out)
            cases ea
            obtain ⟨b, o, rfl, hb, hc⟩ := hx (by omega)
            have e1 := (hc j hlt).1
            have e2 := (hc j hlt).2.1
            have e3 := (hc j hlt).2.2
            have HS := hide (flatB_snoc cellB cs (0, false, 0) j hlt)
            clear hx hc
            generalize cs.getD j (0, false, 0) = z at *
            obtain ⟨x, r, y⟩ := z
            simp only at e1 e2 e3
            have bA := (Below.refl wr.heap.size wr).alloc (Nat.le_refl _) (.cells #[.int .i64 x, .bool r, .int .i64 y] 74)
            replace HO := hide (HO.out.below bA)
            replace HP := hide (HP.out.trans (bA.mono HP.out.size))
            clear bA
            go_wp2_with fail
            refine (cellBytes _ _ _ _).mono ?_
            rintro e w2 ⟨v2, rfl, o2, b2⟩
            have HU2 := hide o2
            replace HO := hide (HO.out.below b2)
            replace HP := hide (HP.out.trans (b2.mono HP.out.size))
            have s2 := HP.out.size
            clear o2 b2 e1 e2 e3
            go_wp2_with (at_builtin; refine app_own rfl _ _ rfl W0.heap.size _ _ _ _ (cellB (x, r, y)) rfl HO.out rfl HU2.out (cellB_byt _) (Nat.le_trans (cellB_len _) (by omega)) (by simp only [List.length_append]; omega) s2 ?_; intro v3 w3 o3 g3 n3; have HP3 := hide (HP.out.grown g3 s2 (fun q hq => (HO.out.lt q hq).1)); have HO3 := hide o3; clear o3 g3 n3)
            exact ⟨⟨j + 1, by omega, by go_num, hide (by have := HO3.out; rwa [List.append_assoc, ← HS.out] at this), HP3⟩, by simp [intOf]; omega⟩
          · obtain rfl : j = cs.length := by omega
            replace HO : Hid (Own wr W0.heap.size _ (A ++ cs.flatMap cellB)) := hide (by have := HO.out; rwa [List.take_length] at this)
            rw [List.take_length] at hfl
            have f6 := (HX.out.below hg.out HP.out) 6 _ rfl
            go_wp2_with fail
            refine (putNumImpl _ _).mono ?_
            rintro e w2 ⟨v2, rfl, o2, b2⟩
            have HU2 := hide o2
            replace HO := hide (HO.out.below b2)
            replace HP := hide (HP.out.trans (b2.mono HP.out.size))
            have s2 := HP.out.size
            clear o2 b2 f6
            go_wp2_with (at_builtin; refine app_own rfl _ _ rfl W0.heap.size _ _ _ _ (pn ns.length) rfl HO.out rfl HU2.out (pn_byt _) (Nat.le_trans (pn_len _) (by omega)) (by simp only [List.length_append]; omega) s2 ?_; intro v3 w3 o3 g3 n3; have HP3 := hide (HP.out.grown g3 s2 (fun q hq => (HO.out.lt q hq).1)); have HO3 := hide o3; clear o3 g3 n3; have f6 := (HX.out.below hg.out HP3.out) 6 _ rfl)
            clear f6 HO HP HU2 s2
            have hp6 := pn_len ns.length
            generalize hD : A ++ cs.flatMap cellB ++ pn ns.length = D at *
            have hDl : D.length ≤ 124 := by rw [← hD, List.length_append, List.length_append]; omega
            have HD := hide hD
            clear hD hfl hp6
            go_loopw [3, 59] (fun out x wr => ∃ j : Nat, j ≤ ns.length ∧ x = .int .i64 (j : Int) ∧ Hid (Own wr W0.heap.size out (D ++ (ns.take j).flatMap noteB)) ∧ Hid (Below W0.heap.size W0 wr)) (fun _ x _ => ns.length - (intOf x).toNat)
            case atStart => exact ⟨0, by omega, rfl, hide (by simpa using HO3.out), HP3⟩
            case round =>
              obtain ⟨j, hj, rfl, HO, HP⟩ := hrel
              clear HO3 HP3
              have hfl : ((ns.take j).flatMap noteB).length ≤ 1040 := by
                have h1 := flatB_len noteB 8 noteB_len (ns.take j)
                have h2 : (ns.take j).length ≤ 130 := by simp; omega
                omega
              by_cases hlt : j < ns.length
              · obtain ⟨a', cap', ea, hx⟩ := notes_at ((HN.out.at HW.out).at HP.out)
                cases ea
                obtain ⟨b, o, rfl, hb, hc⟩ := hx (by omega)
                have e1 := (hc j hlt).1
                have e2 := (hc j hlt).2
                have HS := hide (flatB_snoc noteB ns (0, 0) j hlt)
                clear hx hc
                generalize ns.getD j (0, 0) = z at *
                obtain ⟨x, y⟩ := z
                simp only at e1 e2
                have hx4 := pn_len x
                have bA := (Below.refl wr.heap.size wr).alloc (Nat.le_refl _) (.cells #[.int .i64 x, .int .i64 y] 77)
                have HY := hide (Box.new wr #[.int .i64 x, .int .i64 y] 77)
                have hgr : Hid (wr.heap.size < (wr.alloc (.cells #[.int .i64 x, .int .i64 y] 77)).heap.size) := hide (by simp)
                have HL := hide fun q hq => (HO.out.lt q hq).2
                replace HO := hide (HO.out.below bA)
                have hsr := HP.out.size
                replace HP := hide (HP.out.trans (bA.mono HP.out.size))
                clear bA
                go_wp2_with fail
                clear e1 e2
                refine (putNumImpl _ _).mono ?_
                rintro e w2 ⟨v2, rfl, o2, b2⟩
                have HU2 := hide o2
                replace HY := hide (HY.out.below hgr.out b2)
                replace hgr := hide (Nat.lt_of_lt_of_le hgr.out b2.size)
                replace HO := hide (HO.out.below b2)
                replace HP := hide (HP.out.trans (b2.mono HP.out.size))
                have s2 := HP.out.size
                clear o2 b2
                go_wp2_with (at_builtin; refine app_own rfl _ _ rfl W0.heap.size _ _ _ _ (pn x) rfl HO.out rfl HU2.out (pn_byt _) (Nat.le_trans (pn_len _) (by omega)) (by simp only [List.length_append]; omega) s2 ?_; intro v3 w3 o3 g3 n3; have HP3 := hide (HP.out.grown g3 s2 (fun q hq => (HO.out.lt q hq).1)); have HO3 := hide o3; have f1 := (HY.out.grown hgr.out g3 HL.out) 1 _ rfl; clear o3 g3 n3)
                clear f1 HO HP HU2 s2
                refine (putNumImpl _ _).mono ?_
                rintro e w4 ⟨v4, rfl, o4, b4⟩
                have HU4 := hide o4
                have HO := hide (HO3.out.below b4)
                have HP := hide (HP3.out.trans (b4.mono HP3.out.size))
                have s4 := HP.out.size
                clear o4 b4 HO3 HP3
                go_wp2_with (at_builtin; refine app_own rfl _ _ rfl W0.heap.size _ _ _ _ (pn y) rfl HO.out rfl HU4.out (pn_byt _) (Nat.le_trans (pn_len _) (by omega)) (by simp only [List.length_append]; omega) s4 ?_; intro v5 w5 o5 g5 n5; have HP5 := hide (HP.out.grown g5 s4 (fun q hq => (HO.out.lt q hq).1)); have HO5 := hide o5; clear o5 g5 n5)
                exact ⟨⟨j + 1, by omega, by go_num, hide (by have := HO5.out; rw [HS.out]; rw [List.append_assoc, List.append_assoc] at this; exact this), HP5⟩, by simp [intOf]; omega⟩
              · obtain rfl : j = ns.length := by omega
                have HF : Hid (Own wr W0.heap.size _ (mBytes k i u c n cs ns)) := hide (by
                  have := HO.out
                  rw [List.take_length] at this
                  rw [HM.out]
                  unfold msgB
                  rw [HA.out, HD.out]
                  exact this)
                go_wp2
                go_ret
                exact ⟨_, rfl, HF.out.mono HW.out.size, HW.out.trans (HP.out.mono HW.out.size)⟩
      · have hj4 : j = 0 ∨ j = 1 ∨ j = 2 ∨ j = 3 ∨ j = 4 := by omega
        rcases hj4 with rfl | rfl | rfl | rfl | rfl
        · go_wp2_with fail
          refine (putNumImpl _ _).mono ?_
          rintro e w2 ⟨v2, rfl, o2, b2⟩
          have HU2 := hide o2
          replace HO := hide (HO.out.below b2)
          replace HP := hide (HP.out.trans (b2.mono HP.out.size))
          have s2 := HP.out.size
          clear o2 b2
          go_wp2_with (at_builtin; refine app_own rfl _ _ rfl W0.heap.size _ _ _ _ (pn k) rfl HO.out rfl HU2.out (pn_byt _) (Nat.le_trans (pn_len _) (by omega)) (by omega) s2 ?_; intro v3 w3 o3 g3 n3; have HP3 := hide (HP.out.grown g3 s2 (fun q hq => (HO.out.lt q hq).1)); have HO3 := hide o3; clear o3 g3 n3)
          exact ⟨⟨1, by omega, rfl, hide (by simpa [hdL] using HO3.out), HP3⟩, by simp [intOf]⟩
        · go_wp2_with fail
          refine (putNumImpl _ _).mono ?_
          rintro e w2 ⟨v2, rfl, o2, b2⟩
          have HU2 := hide o2
          replace HO := hide (HO.out.below b2)
          replace HP := hide (HP.out.trans (b2.mono HP.out.size))
          have s2 := HP.out.size
          clear o2 b2
          go_wp2_with (at_builtin; refine app_own rfl _ _ rfl W0.heap.size _ _ _ _ (pn i) rfl HO.out rfl HU2.out (pn_byt _) (Nat.le_trans (pn_len _) (by omega)) (by omega) s2 ?_; intro v3 w3 o3 g3 n3; have HP3 := hide (HP.out.grown g3 s2 (fun q hq => (HO.out.lt q hq).1)); have HO3 := hide o3; clear o3 g3 n3)
          exact ⟨⟨2, by omega, rfl, hide (by simpa [hdL] using HO3.out), HP3⟩, by simp [intOf]⟩
        · go_wp2_with fail
          refine (putNumImpl _ _).mono ?_
          rintro e w2 ⟨v2, rfl, o2, b2⟩
          have HU2 := hide o2
          replace HO := hide (HO.out.below b2)
          replace HP := hide (HP.out.trans (b2.mono HP.out.size))
          have s2 := HP.out.size
          clear o2 b2
          go_wp2_with (at_builtin; refine app_own rfl _ _ rfl W0.heap.size _ _ _ _ (pn u) rfl HO.out rfl HU2.out (pn_byt _) (Nat.le_trans (pn_len _) (by omega)) (by omega) s2 ?_; intro v3 w3 o3 g3 n3; have HP3 := hide (HP.out.grown g3 s2 (fun q hq => (HO.out.lt q hq).1)); have HO3 := hide o3; clear o3 g3 n3)
          exact ⟨⟨3, by omega, rfl, hide (by simpa [hdL] using HO3.out), HP3⟩, by simp [intOf]⟩
        · go_wp2_with fail
          refine (putNumImpl _ _).mono ?_
          rintro e w2 ⟨v2, rfl, o2, b2⟩
          have HU2 := hide o2
          replace HO := hide (HO.out.below b2)
          replace HP := hide (HP.out.trans (b2.mono HP.out.size))
          have s2 := HP.out.size
          clear o2 b2
          go_wp2_with (at_builtin; refine app_own rfl _ _ rfl W0.heap.size _ _ _ _ (pn c) rfl HO.out rfl HU2.out (pn_byt _) (Nat.le_trans (pn_len _) (by omega)) (by omega) s2 ?_; intro v3 w3 o3 g3 n3; have HP3 := hide (HP.out.grown g3 s2 (fun q hq => (HO.out.lt q hq).1)); have HO3 := hide o3; clear o3 g3 n3)
          exact ⟨⟨4, by omega, rfl, hide (by simpa [hdL] using HO3.out), HP3⟩, by simp [intOf]⟩
        · go_wp2_with fail
          refine (putNumImpl _ _).mono ?_
          rintro e w2 ⟨v2, rfl, o2, b2⟩
          have HU2 := hide o2
          replace HO := hide (HO.out.below b2)
          replace HP := hide (HP.out.trans (b2.mono HP.out.size))
          have s2 := HP.out.size
          clear o2 b2
          go_wp2_with (at_builtin; refine app_own rfl _ _ rfl W0.heap.size _ _ _ _ (pn n) rfl HO.out rfl HU2.out (pn_byt _) (Nat.le_trans (pn_len _) (by omega)) (by omega) s2 ?_; intro v3 w3 o3 g3 n3; have HP3 := hide (HP.out.grown g3 s2 (fun q hq => (HO.out.lt q hq).1)); have HO3 := hide o3; clear o3 g3 n3)
          exact ⟨⟨5, by omega, rfl, hide (by simpa [hdL] using HO3.out), HP3⟩, by simp [intOf]⟩
end Go.Proofs.YtoaenoakdbieaaaDoor
