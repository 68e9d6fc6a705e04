/-
  Joined: MsgBI, AppAt, MsgBS.
-/
import Derived.Test.YtkfnpijljpbiaaaDoorJ14
/-
  What MsgBytes does, in the program.
-/
namespace Go.Proofs.YtkfnpijljpbiaaaDoor
open Go.RowKit

theorem Box.grown {w w' : World} {g : Nat} {row : Option Nat} {vs : List Value} (h : Box w g vs) (hg : g < w.heap.size) (hgr : w.grownBy w' row) (hne : ∀ q, row = some q → q < g) : Box w' g vs :=
  fun j v hv => (World.cell?_of_block (w := w) (hgr.block g hg (fun e => by have := hne g e.symm; omega))).trans (h j v hv)
/-- What MsgBytes answers. -/
def mBytes (k i u c n : Int) (cs : List (Int × Bool × Int)) (ns : List (Int × Int)) : List Int := bif mOk k i u c n cs ns then msgB k i u c n cs ns else []

theorem mOk_lens {k i u c n : Int} {cs : List (Int × Bool × Int)} {ns : List (Int × Int)} (h : mOk k i u c n cs ns = true) : cs.length ≤ 8 ∧ ns.length ≤ 130 := by
  rw [← mOk_spec] at h
  unfold mSpec at h
  simp only [Bool.and_eq_true] at h
  have h1 := h.1.1.2
  have h2 := h.1.2
  unfold cOk at h1
  unfold nOk at h2
  simp only [Bool.and_eq_true, decide_eq_true_eq] at h1 h2
  exact ⟨h1.1, h2.1⟩
theorem mBytes_len (k i u c n : Int) (cs : List (Int × Bool × Int)) (ns : List (Int × Int)) : (mBytes k i u c n cs ns).length ≤ 1200 := by
  unfold mBytes
  cases h : mOk k i u c n cs ns
  · simp
  · exact msgB_len k i u c n cs ns (mOk_lens h).1 (mOk_lens h).2
theorem mBytes_byt (k i u c n : Int) (cs : List (Int × Bool × Int)) (ns : List (Int × Int)) : Byt (mBytes k i u c n cs ns) := by
  unfold mBytes
  cases h : mOk k i u c n cs ns
  · intro z hz; cases hz
  · exact msgB_byt k i u c n cs ns

def hdL (k i u c n : Int) : List Int := [k, i, u, c, n]
theorem hdL_all (k i u c n : Int) : (hdL k i u c n).flatMap pn = headB k i u c n := by simp [hdL, headB]
theorem hdL_len (k i u c n : Int) (j : Nat) : (((hdL k i u c n).take j).flatMap pn).length ≤ 20 := by
  have h1 := flatB_len pn 4 pn_len ((hdL k i u c n).take j)
  have h2 : ((hdL k i u c n).take j).length ≤ 5 := by simp [hdL]; omega
  omega

set_option maxRecDepth 100000 in
set_option maxHeartbeats 4000000 in
theorem msgBytesImpl (w : World) (k i u c n : Int) (cv nv : Value) (cs : List (Int × Bool × Int)) (ns : List (Int × Int)) (hc : Rd w w.heap.size 3 cv cs.length (cs.flatMap cellC)) (hn : Rd w w.heap.size 2 nv ns.length (ns.flatMap noteC))
    (hmc : cs.length ≤ 1048576) (hmn : ns.length ≤ 1048576) :
    Calls Tryd.prog 43 #[msgV k i u c n cv nv] w fun e w' => ∃ v, e = .returned v ∧ Own w' w.heap.size v (mBytes k i u c n cs ns) ∧ Below w.heap.size w w' := by
  have HC := hide hc
  have HN := hide hn
  obtain ⟨a5, cap5, rfl, _⟩ := cells_at hc
  obtain ⟨a6, cap6, rfl, _⟩ := notes_at hn
  clear hc hn
  have HX := hide (Box.new w #[.int .i64 k, .int .i64 i, .int .i64 u, .int .i64 c, .int .i64 n, .slice a5 cs.length cap5, .slice a6 ns.length cap6] 39)
  have HW := hide ((Below.refl w.heap.size w).alloc (Nat.le_refl _) (.cells #[.int .i64 k, .int .i64 i, .int .i64 u, .int .i64 c, .int .i64 n, .slice a5 cs.length cap5, .slice a6 ns.length cap6] 39))
  have hg : Hid (w.heap.size < (w.alloc (.cells #[.int .i64 k, .int .i64 i, .int .i64 u, .int .i64 c, .int .i64 n, .slice a5 cs.length cap5, .slice a6 ns.length cap6] 39)).heap.size) := hide (by simp)
  unfold msgV
  go_enter Tryd.func43, Tryd.ntmps43
  go_wp2_with fail
  generalize w.alloc (.cells #[.int .i64 k, .int .i64 i, .int .i64 u, .int .i64 c, .int .i64 n, .slice a5 cs.length cap5, .slice a6 ns.length cap6] 39) = W0 at *
  refine (msgImpl _ k i u c n _ _ cs ns (HC.out.at HW.out) (HN.out.at HW.out) hmc hmn).mono ?_
  rintro e w1 ⟨rfl, b1⟩
  have HP := hide b1
  clear b1
  cases hm : mOk k i u c n cs ns with
  | false =>
    have HM : Hid (mBytes k i u c n cs ns = []) := hide (by unfold mBytes; rw [hm]; rfl)
    go_wp2
    go_ret
    exact ⟨_, rfl, by rw [HM.out]; exact World.ownsRow_nil _ _ _ _, HW.out.trans (HP.out.mono HW.out.size)⟩
  | true =>
    have HM : Hid (mBytes k i u c n cs ns = msgB k i u c n cs ns) := hide (by unfold mBytes; rw [hm]; rfl)
    obtain ⟨hl5, hl6⟩ := mOk_lens hm
    clear hm hmc hmn
    have f0 := (HX.out.below hg.out HP.out) 0 _ rfl
    have f1 := (HX.out.below hg.out HP.out) 1 _ rfl
    have f2 := (HX.out.below hg.out HP.out) 2 _ rfl
    have f3 := (HX.out.below hg.out HP.out) 3 _ rfl
    have f4 := (HX.out.below hg.out HP.out) 4 _ rfl
    go_wp2
    clear f0 f1 f2 f3 f4
    go_loopw [3, 24] (fun out x wr => ∃ j : Nat, j ≤ 5 ∧ x = .int .i64 (j : Int) ∧ Hid (Own wr W0.heap.size out (((hdL k i u c n).take j).flatMap pn)) ∧ Hid (Below W0.heap.size W0 wr)) (fun _ x _ => 5 - (intOf x).toNat)
    case atStart => exact ⟨0, by omega, rfl, hide (World.ownsRow_nil _ _ _ _), HP⟩
    case round =>
      obtain ⟨j, hj, rfl, HO, HP⟩ := hrel
      have hlen := hdL_len k i u c n j
      have i0 : ∀ w, (Instr.index 100 (.agg #[.int .i64 k, .int .i64 i, .int .i64 u, .int .i64 c, .int .i64 n]) (.int .i64 0)).run Tryd.prog w = .ok (.int .i64 k) w := fun _ => by kernel_rfl
      have i1 : ∀ w, (Instr.index 100 (.agg #[.int .i64 k, .int .i64 i, .int .i64 u, .int .i64 c, .int .i64 n]) (.int .i64 1)).run Tryd.prog w = .ok (.int .i64 i) w := fun _ => by kernel_rfl
      have i2 : ∀ w, (Instr.index 100 (.agg #[.int .i64 k, .int .i64 i, .int .i64 u, .int .i64 c, .int .i64 n]) (.int .i64 2)).run Tryd.prog w = .ok (.int .i64 u) w := fun _ => by kernel_rfl
      have i3 : ∀ w, (Instr.index 100 (.agg #[.int .i64 k, .int .i64 i, .int .i64 u, .int .i64 c, .int .i64 n]) (.int .i64 3)).run Tryd.prog w = .ok (.int .i64 c) w := fun _ => by kernel_rfl
      have i4 : ∀ w, (Instr.index 100 (.agg #[.int .i64 k, .int .i64 i, .int .i64 u, .int .i64 c, .int .i64 n]) (.int .i64 4)).run Tryd.prog w = .ok (.int .i64 n) w := fun _ => by kernel_rfl
      by_cases hj5 : j = 5
      · subst hj5
        clear i0 i1 i2 i3 i4 hlen
        have hh := headB_len k i u c n
        replace HO : Hid (Own wr W0.heap.size _ (headB k i u c n)) := hide (by have := HO.out; rwa [show (hdL k i u c n).take 5 = hdL k i u c n from rfl, hdL_all] at this)
        have f5 := (HX.out.below hg.out HP.out) 5 _ rfl
        go_wp2_with fail
        refine (putNumImpl _ _).mono ?_
        rintro e w2 ⟨v2, rfl, o2, b2⟩
        have HU2 := hide o2
        replace HO := hide (HO.out.below b2)
        replace HP := hide (HP.out.trans (b2.mono HP.out.size))
        have s2 := HP.out.size
        clear o2 b2 f5
        go_wp2_with (at_builtin; refine app_own rfl _ _ rfl W0.heap.size _ _ _ _ (pn cs.length) rfl HO.out rfl HU2.out (pn_byt _) (Nat.le_trans (pn_len _) (by omega)) (by omega) s2 ?_; intro v3 w3 o3 g3 n3; have HP3 := hide (HP.out.grown g3 s2 (fun q hq => (HO.out.lt q hq).1)); have HO3 := hide o3; clear o3 g3 n3; have f5 := (HX.out.below hg.out HP3.out) 5 _ rfl)
        clear f5 HO HP HU2 s2
        have hp5 := pn_len cs.length
        generalize hA : headB k i u c n ++ pn cs.length = A at *
        have hAl : A.length ≤ 24 := by rw [← hA, List.length_append]; omega
        have HA := hide hA
        clear hA hh hp5
        go_loopw [3, 41] (fun out x wr => ∃ j : Nat, j ≤ cs.length ∧ x = .int .i64 (j : Int) ∧ Hid (Own wr W0.heap.size out (A ++ (cs.take j).flatMap cellB)) ∧ Hid (Below W0.heap.size W0 wr)) (fun _ x _ => cs.length - (intOf x).toNat)
        case atStart => exact ⟨0, by omega, rfl, hide (by simpa using HO3.out), HP3⟩
        case round =>
          obtain ⟨j, hj, rfl, HO, HP⟩ := hrel
          clear HO3 HP3
          have hfl : ((cs.take j).flatMap cellB).length ≤ 96 := by
            have h1 := flatB_len cellB 12 cellB_len (cs.take j)
            have h2 : (cs.take j).length ≤ 8 := by simp; omega
            omega
          by_cases hlt : j < cs.length
          · obtain ⟨a', cap', ea, hx⟩ := cells_at ((HC.out.at HW.out).at HP.out)
            cases ea
            obtain ⟨b, o, rfl, hb, hc⟩ := hx (by omega)
            have e1 := (hc j hlt).1
            have e2 := (hc j hlt).2.1
            have e3 := (hc j hlt).2.2
            have HS := hide (flatB_snoc cellB cs (0, false, 0) j hlt)
            clear hx hc
            generalize cs.getD j (0, false, 0) = z at *
            obtain ⟨x, r, y⟩ := z
            simp only at e1 e2 e3
            have bA := (Below.refl wr.heap.size wr).alloc (Nat.le_refl _) (.cells #[.int .i64 x, .bool r, .int .i64 y] 92)
            replace HO := hide (HO.out.below bA)
            replace HP := hide (HP.out.trans (bA.mono HP.out.size))
            clear bA
            go_wp2_with fail
            refine (cellBytes _ _ _ _).mono ?_
            rintro e w2 ⟨v2, rfl, o2, b2⟩
            have HU2 := hide o2
            replace HO := hide (HO.out.below b2)
            replace HP := hide (HP.out.trans (b2.mono HP.out.size))
            have s2 := HP.out.size
            clear o2 b2 e1 e2 e3
            go_wp2_with (at_builtin; refine app_own rfl _ _ rfl W0.heap.size _ _ _ _ (cellB (x, r, y)) rfl HO.out rfl HU2.out (cellB_byt _) (Nat.le_trans (cellB_len _) (by omega)) (by simp only [List.length_append]; omega) s2 ?_; intro v3 w3 o3 g3 n3; have HP3 := hide (HP.out.grown g3 s2 (fun q hq => (HO.out.lt q hq).1)); have HO3 := hide o3; clear o3 g3 n3)
            exact ⟨⟨j + 1, by omega, by go_num, hide (by have := HO3.out; rwa [List.append_assoc, ← HS.out] at this), HP3⟩, by simp [intOf]; omega⟩
          · obtain rfl : j = cs.length := by omega
            replace HO : Hid (Own wr W0.heap.size _ (A ++ cs.flatMap cellB)) := hide (by have := HO.out; rwa [List.take_length] at this)
            rw [List.take_length] at hfl
            have f6 := (HX.out.below hg.out HP.out) 6 _ rfl
            go_wp2_with fail
            refine (putNumImpl _ _).mono ?_
            rintro e w2 ⟨v2, rfl, o2, b2⟩
            have HU2 := hide o2
            replace HO := hide (HO.out.below b2)
            replace HP := hide (HP.out.trans (b2.mono HP.out.size))
            have s2 := HP.out.size
            clear o2 b2 f6
            go_wp2_with (at_builtin; refine app_own rfl _ _ rfl W0.heap.size _ _ _ _ (pn ns.length) rfl HO.out rfl HU2.out (pn_byt _) (Nat.le_trans (pn_len _) (by omega)) (by simp only [List.length_append]; omega) s2 ?_; intro v3 w3 o3 g3 n3; have HP3 := hide (HP.out.grown g3 s2 (fun q hq => (HO.out.lt q hq).1)); have HO3 := hide o3; clear o3 g3 n3; have f6 := (HX.out.below hg.out HP3.out) 6 _ rfl)
            clear f6 HO HP HU2 s2
            have hp6 := pn_len ns.length
            generalize hD : A ++ cs.flatMap cellB ++ pn ns.length = D at *
            have hDl : D.length ≤ 124 := by rw [← hD, List.length_append, List.length_append]; omega
            have HD := hide hD
            clear hD hfl hp6
            go_loopw [3, 59] (fun out x wr => ∃ j : Nat, j ≤ ns.length ∧ x = .int .i64 (j : Int) ∧ Hid (Own wr W0.heap.size out (D ++ (ns.take j).flatMap noteB)) ∧ Hid (Below W0.heap.size W0 wr)) (fun _ x _ => ns.length - (intOf x).toNat)
            case atStart => exact ⟨0, by omega, rfl, hide (by simpa using HO3.out), HP3⟩
            case round =>
              obtain ⟨j, hj, rfl, HO, HP⟩ := hrel
              clear HO3 HP3
              have hfl : ((ns.take j).flatMap noteB).length ≤ 1040 := by
                have h1 := flatB_len noteB 8 noteB_len (ns.take j)
                have h2 : (ns.take j).length ≤ 130 := by simp; omega
                omega
              by_cases hlt : j < ns.length
              · obtain ⟨a', cap', ea, hx⟩ := notes_at ((HN.out.at HW.out).at HP.out)
                cases ea
                obtain ⟨b, o, rfl, hb, hc⟩ := hx (by omega)
                have e1 := (hc j hlt).1
                have e2 := (hc j hlt).2
                have HS := hide (flatB_snoc noteB ns (0, 0) j hlt)
                clear hx hc
                generalize ns.getD j (0, 0) = z at *
                obtain ⟨x, y⟩ := z
                simp only at e1 e2
                have hx4 := pn_len x
                have bA := (Below.refl wr.heap.size wr).alloc (Nat.le_refl _) (.cells #[.int .i64 x, .int .i64 y] 95)
                have HY := hide (Box.new wr #[.int .i64 x, .int .i64 y] 95)
                have hgr : Hid (wr.heap.size < (wr.alloc (.cells #[.int .i64 x, .int .i64 y] 95)).heap.size) := hide (by simp)
                have HL := hide fun q hq => (HO.out.lt q hq).2
                replace HO := hide (HO.out.below bA)
                have hsr := HP.out.size
                replace HP := hide (HP.out.trans (bA.mono HP.out.size))
                clear bA
                go_wp2_with fail
                clear e1 e2
                refine (putNumImpl _ _).mono ?_
                rintro e w2 ⟨v2, rfl, o2, b2⟩
                have HU2 := hide o2
                replace HY := hide (HY.out.below hgr.out b2)
                replace hgr := hide (Nat.lt_of_lt_of_le hgr.out b2.size)
                replace HO := hide (HO.out.below b2)
                replace HP := hide (HP.out.trans (b2.mono HP.out.size))
                have s2 := HP.out.size
                clear o2 b2
                go_wp2_with (at_builtin; refine app_own rfl _ _ rfl W0.heap.size _ _ _ _ (pn x) rfl HO.out rfl HU2.out (pn_byt _) (Nat.le_trans (pn_len _) (by omega)) (by simp only [List.length_append]; omega) s2 ?_; intro v3 w3 o3 g3 n3; have HP3 := hide (HP.out.grown g3 s2 (fun q hq => (HO.out.lt q hq).1)); have HO3 := hide o3; have f1 := (HY.out.grown hgr.out g3 HL.out) 1 _ rfl; clear o3 g3 n3)
                clear f1 HO HP HU2 s2
                refine (putNumImpl _ _).mono ?_
                rintro e w4 ⟨v4, rfl, o4, b4⟩
                have HU4 := hide o4
                have HO := hide (HO3.out.below b4)
                have HP := hide (HP3.out.trans (b4.mono HP3.out.size))
                have s4 := HP.out.size
                clear o4 b4 HO3 HP3
                go_wp2_with (at_builtin; refine app_own rfl _ _ rfl W0.heap.size _ _ _ _ (pn y) rfl HO.out rfl HU4.out (pn_byt _) (Nat.le_trans (pn_len _) (by omega)) (by simp only [List.length_append]; omega) s4 ?_; intro v5 w5 o5 g5 n5; have HP5 := hide (HP.out.grown g5 s4 (fun q hq => (HO.out.lt q hq).1)); have HO5 := hide o5; clear o5 g5 n5)
                exact ⟨⟨j + 1, by omega, by go_num, hide (by have := HO5.out; rw [HS.out]; rw [List.append_assoc, List.append_assoc] at this; exact this), HP5⟩, by simp [intOf]; omega⟩
              · obtain rfl : j = ns.length := by omega
                have HF : Hid (Own wr W0.heap.size _ (mBytes k i u c n cs ns)) := hide (by
                  have := HO.out
                  rw [List.take_length] at this
                  rw [HM.out]
                  unfold msgB
                  rw [HA.out, HD.out]
                  exact this)
                go_wp2
                go_ret
                exact ⟨_, rfl, HF.out.mono HW.out.size, HW.out.trans (HP.out.mono HW.out.size)⟩
      · have hj4 : j = 0 ∨ j = 1 ∨ j = 2 ∨ j = 3 ∨ j = 4 := by omega
        rcases hj4 with rfl | rfl | rfl | rfl | rfl
        · go_wp2_with fail
          refine (putNumImpl _ _).mono ?_
          rintro e w2 ⟨v2, rfl, o2, b2⟩
          have HU2 := hide o2
          replace HO := hide (HO.out.below b2)
          replace HP := hide (HP.out.trans (b2.mono HP.out.size))
          have s2 := HP.out.size
          clear o2 b2
          go_wp2_with (at_builtin; refine app_own rfl _ _ rfl W0.heap.size _ _ _ _ (pn k) rfl HO.out rfl HU2.out (pn_byt _) (Nat.le_trans (pn_len _) (by omega)) (by omega) s2 ?_; intro v3 w3 o3 g3 n3; have HP3 := hide (HP.out.grown g3 s2 (fun q hq => (HO.out.lt q hq).1)); have HO3 := hide o3; clear o3 g3 n3)
          exact ⟨⟨1, by omega, rfl, hide (by simpa [hdL] using HO3.out), HP3⟩, by simp [intOf]⟩
        · go_wp2_with fail
          refine (putNumImpl _ _).mono ?_
          rintro e w2 ⟨v2, rfl, o2, b2⟩
          have HU2 := hide o2
          replace HO := hide (HO.out.below b2)
          replace HP := hide (HP.out.trans (b2.mono HP.out.size))
          have s2 := HP.out.size
          clear o2 b2
          go_wp2_with (at_builtin; refine app_own rfl _ _ rfl W0.heap.size _ _ _ _ (pn i) rfl HO.out rfl HU2.out (pn_byt _) (Nat.le_trans (pn_len _) (by omega)) (by omega) s2 ?_; intro v3 w3 o3 g3 n3; have HP3 := hide (HP.out.grown g3 s2 (fun q hq => (HO.out.lt q hq).1)); have HO3 := hide o3; clear o3 g3 n3)
          exact ⟨⟨2, by omega, rfl, hide (by simpa [hdL] using HO3.out), HP3⟩, by simp [intOf]⟩
        · go_wp2_with fail
          refine (putNumImpl _ _).mono ?_
          rintro e w2 ⟨v2, rfl, o2, b2⟩
          have HU2 := hide o2
          replace HO := hide (HO.out.below b2)
          replace HP := hide (HP.out.trans (b2.mono HP.out.size))
          have s2 := HP.out.size
          clear o2 b2
          go_wp2_with (at_builtin; refine app_own rfl _ _ rfl W0.heap.size _ _ _ _ (pn u) rfl HO.out rfl HU2.out (pn_byt _) (Nat.le_trans (pn_len _) (by omega)) (by omega) s2 ?_; intro v3 w3 o3 g3 n3; have HP3 := hide (HP.out.grown g3 s2 (fun q hq => (HO.out.lt q hq).1)); have HO3 := hide o3; clear o3 g3 n3)
          exact ⟨⟨3, by omega, rfl, hide (by simpa [hdL] using HO3.out), HP3⟩, by simp [intOf]⟩
        · go_wp2_with fail
          refine (putNumImpl _ _).mono ?_
          rintro e w2 ⟨v2, rfl, o2, b2⟩
          have HU2 := hide o2
          replace HO := hide (HO.out.below b2)
          replace HP := hide (HP.out.trans (b2.mono HP.out.size))
          have s2 := HP.out.size
          clear o2 b2
          go_wp2_with (at_builtin; refine app_own rfl _ _ rfl W0.heap.size _ _ _ _ (pn c) rfl HO.out rfl HU2.out (pn_byt _) (Nat.le_trans (pn_len _) (by omega)) (by omega) s2 ?_; intro v3 w3 o3 g3 n3; have HP3 := hide (HP.out.grown g3 s2 (fun q hq => (HO.out.lt q hq).1)); have HO3 := hide o3; clear o3 g3 n3)
          exact ⟨⟨4, by omega, rfl, hide (by simpa [hdL] using HO3.out), HP3⟩, by simp [intOf]⟩
        · go_wp2_with fail
          refine (putNumImpl _ _).mono ?_
          rintro e w2 ⟨v2, rfl, o2, b2⟩
          have HU2 := hide o2
          replace HO := hide (HO.out.below b2)
          replace HP := hide (HP.out.trans (b2.mono HP.out.size))
          have s2 := HP.out.size
          clear o2 b2
          go_wp2_with (at_builtin; refine app_own rfl _ _ rfl W0.heap.size _ _ _ _ (pn n) rfl HO.out rfl HU2.out (pn_byt _) (Nat.le_trans (pn_len _) (by omega)) (by omega) s2 ?_; intro v3 w3 o3 g3 n3; have HP3 := hide (HP.out.grown g3 s2 (fun q hq => (HO.out.lt q hq).1)); have HO3 := hide o3; clear o3 g3 n3)
          exact ⟨⟨5, by omega, rfl, hide (by simpa [hdL] using HO3.out), HP3⟩, by simp [intOf]⟩
end Go.Proofs.YtkfnpijljpbiaaaDoor
/-
  Rows of bytes of one's own, one put behind another, and where they lie then.
-/
namespace Go.Proofs.YtkfnpijljpbiaaaDoor
open Go.RowKit

/-- 'append(v, u...)', both rows of one's own: u's bytes behind v's; v's block, or a new one. -/
theorem app_own_at {w : World} {ops : Array Oper} {rest : List Oper} {o : Oper} {act : Act} {Q : Exit → Act → World → Prop} (hgd : o.guard = none) (s x : Operand)
    (ho : o.op = .call { callee := .builtin .append, args := #[s, x], argTypes := #[22, 22] }) (base b2 : Nat) (v u : Value) (xs zs : List Int) (hs : act.eval s = v) (hown : Own w base v xs)
    (hx : act.eval x = u) (hu : Own w b2 u zs) (hz : Byt zs) (hl : zs.length ≤ 1048576) (hsm : xs.length ≤ 2000000) (hbase : base ≤ w.heap.size)
    (h : ∀ v' w', Own w' base v' (xs ++ zs) → w.grownBy w' v.ownBlock → (v'.ownBlock = v.ownBlock ∨ v'.ownBlock = some w.heap.size) → wpList Tryd.prog ops Q rest (act.put o.dst v') w') :
    wpList Tryd.prog ops Q (o :: rest) act w := by
  obtain ⟨i0, hi, hz0, hz1, hz2⟩ := info_parts Tryd.info5
  obtain ⟨a, c, rfl, hin, _⟩ := in_any hu hl hz (Nat.le_refl _)
  cases a with
  | none =>
    obtain ⟨h0, rfl⟩ := hin.none_len
    obtain rfl := hu.cap0 rfl
    refine wpList_append_own_none hgd s x 22 ho base 5 i0 1 Tryd.underlying22 hi v _ _ hs hown hx (h v w ?_ (World.grownBy.refl _ _) (.inl rfl))
    rw [List.append_nil]; exact hown
  | some ad =>
    refine wpList_append_own_at w hgd s x 22 ho base 5 i0 (.int .u8 0) 1 1 Tryd.underlying22 hi hz0 hz1 hz2 rfl (by decide) v _ _ hs hown ad zs.length c (zs.map (Value.int .u8)) hx (by simp) (cells_in hin) (byt_cells _) (by unfold maxLen; omega) (by omega) hbase ?_
    intro v' w' ho' hg' _ ha'
    exact h v' w' (own_more ho') hg' ha'

theorem ne_at {v v' : Value} {n g : Nat} (h : v'.ownBlock = v.ownBlock ∨ v'.ownBlock = some n) (h0 : v.ownBlock ≠ some g) (hlt : g < n) : v'.ownBlock ≠ some g := by
  rcases h with h | h
  · rw [h]; exact h0
  · rw [h]; intro e; cases e; omega
theorem Own.ne {w : World} {b g : Nat} {v : Value} {zs : List Int} (h : Own w b v zs) (hg : w.heap.size ≤ g) : v.ownBlock ≠ some g := fun e => by
  have := (h.lt g e).2; omega

theorem bitSpec (r : Bool) (w : World) :
    Calls Tryd.prog 58 #[.bool r] w fun e w' => e = .returned (.int .i64 (bif r then 1 else 0)) ∧ w' = w := by
  cases r
  · go_enter Tryd.func58, Tryd.ntmps58
    go_wp2
    go_ret
    exact ⟨rfl, rfl⟩
  · go_enter Tryd.func58, Tryd.ntmps58
    go_wp2
    go_ret
    exact ⟨rfl, rfl⟩
end Go.Proofs.YtkfnpijljpbiaaaDoor
/-
  What the model's MsgBytes does.
-/
namespace Go.Proofs.YtkfnpijljpbiaaaDoor
open Go.RowKit

def hdS (k i u c n l : Int) : List Int := [k, i, u, c, n, l]
theorem hdS_all (k i u c n l : Int) : (hdS k i u c n l).flatMap pn = headB k i u c n ++ pn l := by simp [hdS, headB]
theorem hdS_len (k i u c n l : Int) (j : Nat) : (((hdS k i u c n l).take j).flatMap pn).length ≤ 24 := by
  have h1 := flatB_len pn 4 pn_len ((hdS k i u c n l).take j)
  have h2 : ((hdS k i u c n l).take j).length ≤ 6 := by simp [hdS]; omega
  omega

set_option maxRecDepth 100000 in
set_option maxHeartbeats 4000000 in
theorem msgBytesSpec (w : World) (k i u c n : Int) (cv nv : Value) (cs : List (Int × Bool × Int)) (ns : List (Int × Int)) (hc : Rd w w.heap.size 3 cv cs.length (cs.flatMap cellC)) (hn : Rd w w.heap.size 2 nv ns.length (ns.flatMap noteC))
    (hmc : cs.length ≤ 1048576) (hmn : ns.length ≤ 1048576) :
    Calls Tryd.prog 36 #[msgV k i u c n cv nv] w fun e w' => ∃ v, e = .returned v ∧ Own w' w.heap.size v (mBytes k i u c n cs ns) ∧ Below w.heap.size w w' := by
  have HC := hide hc
  have HN := hide hn
  obtain ⟨a5, cap5, rfl, _⟩ := cells_at hc
  obtain ⟨a6, cap6, rfl, _⟩ := notes_at hn
  clear hc hn
  have HX := hide (Box.new w #[.int .i64 k, .int .i64 i, .int .i64 u, .int .i64 c, .int .i64 n, .slice a5 cs.length cap5, .slice a6 ns.length cap6] 39)
  have HW := hide ((Below.refl w.heap.size w).alloc (Nat.le_refl _) (.cells #[.int .i64 k, .int .i64 i, .int .i64 u, .int .i64 c, .int .i64 n, .slice a5 cs.length cap5, .slice a6 ns.length cap6] 39))
  have hg : Hid (w.heap.size < (w.alloc (.cells #[.int .i64 k, .int .i64 i, .int .i64 u, .int .i64 c, .int .i64 n, .slice a5 cs.length cap5, .slice a6 ns.length cap6] 39)).heap.size) := hide (by simp)
  unfold msgV
  go_enter Tryd.func36, Tryd.ntmps36
  go_wp2_with fail
  generalize w.alloc (.cells #[.int .i64 k, .int .i64 i, .int .i64 u, .int .i64 c, .int .i64 n, .slice a5 cs.length cap5, .slice a6 ns.length cap6] 39) = W0 at *
  refine (msgSpec _ k i u c n _ _ cs ns (HC.out.at HW.out) (HN.out.at HW.out) hmc hmn).mono ?_
  rintro e w1 ⟨rfl, b1⟩
  rw [mOk_spec]
  have HP := hide b1
  clear b1
  cases hm : mOk k i u c n cs ns with
  | false =>
    have HM : Hid (mBytes k i u c n cs ns = []) := hide (by unfold mBytes; rw [hm]; rfl)
    go_wp2
    go_ret
    exact ⟨_, rfl, by rw [HM.out]; exact (own_empty _ _ (Nat.le_trans HW.out.size HP.out.size)), HW.out.trans ((HP.out.alloc HP.out.size _).mono HW.out.size)⟩
  | true =>
    have HM : Hid (mBytes k i u c n cs ns = msgB k i u c n cs ns) := hide (by unfold mBytes; rw [hm]; rfl)
    obtain ⟨hl5, hl6⟩ := mOk_lens hm
    clear hm hmc hmn
    have f0 := (HX.out.below hg.out HP.out) 0 _ rfl
    have f1 := (HX.out.below hg.out HP.out) 1 _ rfl
    have f2 := (HX.out.below hg.out HP.out) 2 _ rfl
    have f3 := (HX.out.below hg.out HP.out) 3 _ rfl
    have f4 := (HX.out.below hg.out HP.out) 4 _ rfl
    have f5 := (HX.out.below hg.out HP.out) 5 _ rfl
    have hgl : w.heap.size < w1.heap.size := Nat.lt_of_lt_of_le hg.out HP.out.size
    go_wp2
    clear f0 f1 f2 f3 f4 f5
    have hW2 : Hid (Below W0.heap.size W0 ((w1.alloc (.cells #[] 5)).alloc (.cells #[.int .i64 k, .int .i64 i, .int .i64 u, .int .i64 c, .int .i64 n, .int .i64 (cs.length : Int)] 3))) := hide ((HP.out.alloc HP.out.size _).alloc (Nat.le_trans HP.out.size (by simp)) _)
    have hO2 : Hid (Own ((w1.alloc (.cells #[] 5)).alloc (.cells #[.int .i64 k, .int .i64 i, .int .i64 u, .int .i64 c, .int .i64 n, .int .i64 (cs.length : Int)] 3)) W0.heap.size (.slice (some ⟨w1.heap.size, 0, none⟩) 0 0) []) := hide ((own_empty w1 W0.heap.size HP.out.size).below ((Below.refl _ _).alloc (Nat.le_refl _) _))
    have hH2 : Hid (Box ((w1.alloc (.cells #[] 5)).alloc (.cells #[.int .i64 k, .int .i64 i, .int .i64 u, .int .i64 c, .int .i64 n, .int .i64 (cs.length : Int)] 3)) (w1.heap.size + 1) [.int .i64 k, .int .i64 i, .int .i64 u, .int .i64 c, .int .i64 n, .int .i64 (cs.length : Int)]) := hide (by have := Box.new (w1.alloc (.cells #[] 5)) #[.int .i64 k, .int .i64 i, .int .i64 u, .int .i64 c, .int .i64 n, .int .i64 (cs.length : Int)] 3; simpa using this)
    generalize hgH : w1.heap.size + 1 = gH at *
    go_loopw [3, 5] (fun out x wr => ∃ j : Nat, j ≤ 6 ∧ x = .int .i64 (j : Int) ∧ Hid (Own wr W0.heap.size out (((hdS k i u c n cs.length).take j).flatMap pn)) ∧ Hid (Below W0.heap.size W0 wr) ∧ Hid (Box wr gH [.int .i64 k, .int .i64 i, .int .i64 u, .int .i64 c, .int .i64 n, .int .i64 (cs.length : Int)]) ∧ Hid (gH < wr.heap.size) ∧ Hid (out.ownBlock ≠ some gH)) (fun _ x _ => 6 - (intOf x).toNat)
    case atStart => exact ⟨0, by omega, rfl, hO2, hW2, hH2, hide (by simp; omega), hide (by simp [Value.ownBlock]; omega)⟩
    case round =>
      obtain ⟨j, hj, rfl, HO, HP, HY, hgr, HNE⟩ := hrel
      have hlen := hdS_len k i u c n cs.length j
      clear hW2 hO2 hH2
      by_cases hj6 : j = 6
      · subst hj6
        clear hlen HY hgr HNE hj
        have hh := headB_len k i u c n
        have hp5 := pn_len cs.length
        replace HO : Hid (Own wr W0.heap.size _ (headB k i u c n ++ pn cs.length)) := hide (by have := HO.out; rwa [show (hdS k i u c n cs.length).take 6 = hdS k i u c n cs.length from rfl, hdS_all] at this)
        generalize hA : headB k i u c n ++ pn cs.length = A at *
        have hAl : A.length ≤ 24 := by rw [← hA, List.length_append]; omega
        have HA := hide hA
        clear hA hh hp5
        go_wp2
        go_loopw [3, 6] (fun out x wr => ∃ j : Nat, j ≤ cs.length ∧ x = .int .i64 (j : Int) ∧ Hid (Own wr W0.heap.size out (A ++ (cs.take j).flatMap cellB)) ∧ Hid (Below W0.heap.size W0 wr)) (fun _ x _ => cs.length - (intOf x).toNat)
        case atStart => exact ⟨0, by omega, rfl, hide (by simpa using HO.out), HP⟩
        case round =>
          clear HO HP
          obtain ⟨j, hj, rfl, HO, HP⟩ := hrel
          have f5 := (HX.out.below hg.out HP.out) 5 _ rfl
          have hfl : ((cs.take j).flatMap cellB).length ≤ 96 := by
            have h1 := flatB_len cellB 12 cellB_len (cs.take j)
            have h2 : (cs.take j).length ≤ 8 := by simp; omega
            omega
          by_cases hlt : j < cs.length
          · obtain ⟨a', cap', ea, hx⟩ := cells_at ((HC.out.at HW.out).at HP.out)
            cases ea
            obtain ⟨b, o, rfl, hb, hc⟩ := hx (by omega)
            have e1 := (hc j hlt).1
            have e2 := (hc j hlt).2.1
            have e3 := (hc j hlt).2.2
            have HS := hide (flatB_snoc cellB cs (0, false, 0) j hlt)
            clear hx hc
            generalize cs.getD j (0, false, 0) = z at *
            obtain ⟨x, r, y⟩ := z
            simp only at e1 e2 e3
            have hx4 := pn_len x
            have bA := (Below.refl wr.heap.size wr).alloc (Nat.le_refl _) (.cells #[.int .i64 x, .bool r, .int .i64 y] 92)
            have HY := hide (Box.new wr #[.int .i64 x, .bool r, .int .i64 y] 92)
            have hgr : Hid (wr.heap.size < (wr.alloc (.cells #[.int .i64 x, .bool r, .int .i64 y] 92)).heap.size) := hide (by simp)
            have HNE := hide (HO.out.ne (Nat.le_refl _))
            replace HO := hide (HO.out.below bA)
            replace HP := hide (HP.out.trans (bA.mono HP.out.size))
            clear bA
            cases r with
            | true =>
              rw [cellB_yes] at HS
              have hx5 := pn_len 1
              go_wp2_with fail
              clear e1 e2 e3 f5
              refine (putNumSpec _ _).mono ?_
              rintro e w2 ⟨v2, rfl, o2, b2⟩
              have HU2 := hide o2
              replace HY := hide (HY.out.below hgr.out b2)
              replace hgr := hide (Nat.lt_of_lt_of_le hgr.out b2.size)
              replace HO := hide (HO.out.below b2)
              replace HP := hide (HP.out.trans (b2.mono HP.out.size))
              have s2 := HP.out.size
              clear o2 b2
              go_wp2_with (at_builtin; refine app_own_at rfl _ _ rfl W0.heap.size _ _ _ _ (pn x) rfl HO.out rfl HU2.out (pn_byt _) (Nat.le_trans (pn_len _) (by omega)) (by simp only [List.length_append]; omega) s2 ?_; intro v3 w3 o3 g3 a103; have HP3 := hide (HP.out.grown g3 s2 (fun q hq => (HO.out.lt q hq).1)); have HO3 := hide o3; have HY3 := hide (HY.out.apart hgr.out g3 HNE.out); have HNE3 := hide (ne_at a103 HNE.out hgr.out); have hgr3 := hide (Nat.lt_of_lt_of_le hgr.out g3.size); clear o3 g3 a103; have y1 := HY3.out 1 _ rfl; have y2 := HY3.out 2 _ rfl)
              replace HO := HO3
              replace HP := HP3
              replace HY := HY3
              replace HNE := HNE3
              replace hgr := hgr3
              clear HO3 HP3 HY3 HNE3 hgr3 HU2 s2
              refine (bitSpec _ _).mono ?_
              rintro e w4 ⟨rfl, hw4⟩
              subst hw4
              go_wp2_with fail
              clear y1 y2
              refine (putNumSpec _ _).mono ?_
              rintro e w5 ⟨v5, rfl, o5, b5⟩
              have HU5 := hide o5
              replace HY := hide (HY.out.below hgr.out b5)
              replace hgr := hide (Nat.lt_of_lt_of_le hgr.out b5.size)
              replace HO := hide (HO.out.below b5)
              replace HP := hide (HP.out.trans (b5.mono HP.out.size))
              have s5 := HP.out.size
              clear o5 b5
              go_wp2_with (at_builtin; refine app_own_at rfl _ _ rfl W0.heap.size _ _ _ _ (pn 1) rfl HO.out rfl HU5.out (pn_byt _) (Nat.le_trans (pn_len _) (by omega)) (by simp only [List.length_append]; omega) s5 ?_; intro v6 w6 o6 g6 a106; have HP6 := hide (HP.out.grown g6 s5 (fun q hq => (HO.out.lt q hq).1)); have HO6 := hide o6; have HY6 := hide (HY.out.apart hgr.out g6 HNE.out); have HNE6 := hide (ne_at a106 HNE.out hgr.out); have hgr6 := hide (Nat.lt_of_lt_of_le hgr.out g6.size); clear o6 g6 a106; have y1 := HY6.out 1 _ rfl; have y2 := HY6.out 2 _ rfl)
              clear y1 y2
              replace HO := HO6
              replace HP := HP6
              replace HY := HY6
              replace HNE := HNE6
              replace hgr := hgr6
              clear HO6 HP6 HY6 HNE6 hgr6 HU5 s5
              refine (putNumSpec _ _).mono ?_
              rintro e w7 ⟨v7, rfl, o7, b7⟩
              have HU7 := hide o7
              replace HO := hide (HO.out.below b7)
              replace HP := hide (HP.out.trans (b7.mono HP.out.size))
              have s7 := HP.out.size
              clear o7 b7
              go_wp2_with (at_builtin; refine app_own_at rfl _ _ rfl W0.heap.size _ _ _ _ (pn y) rfl HO.out rfl HU7.out (pn_byt _) (Nat.le_trans (pn_len _) (by omega)) (by simp only [List.length_append]; omega) s7 ?_; intro v8 w8 o8 g8 a108; have HP8 := hide (HP.out.grown g8 s7 (fun q hq => (HO.out.lt q hq).1)); have HO8 := hide o8; clear o8 g8 a108)
              refine ⟨?_, by simp [intOf]; omega⟩
              (repeat apply Exists.intro)
              refine ⟨?_, rfl⟩
              exact ⟨j + 1, by omega, by go_num, hide (by have := HO8.out; rw [HS.out]; simp only [List.append_assoc] at this ⊢; exact this), HP8⟩
            | false =>
              rw [cellB_no] at HS
              have hx5 := pn_len 0
              go_wp2_with fail
              clear e1 e2 e3 f5
              refine (putNumSpec _ _).mono ?_
              rintro e w2 ⟨v2, rfl, o2, b2⟩
              have HU2 := hide o2
              replace HY := hide (HY.out.below hgr.out b2)
              replace hgr := hide (Nat.lt_of_lt_of_le hgr.out b2.size)
              replace HO := hide (HO.out.below b2)
              replace HP := hide (HP.out.trans (b2.mono HP.out.size))
              have s2 := HP.out.size
              clear o2 b2
              go_wp2_with (at_builtin; refine app_own_at rfl _ _ rfl W0.heap.size _ _ _ _ (pn x) rfl HO.out rfl HU2.out (pn_byt _) (Nat.le_trans (pn_len _) (by omega)) (by simp only [List.length_append]; omega) s2 ?_; intro v3 w3 o3 g3 a103; have HP3 := hide (HP.out.grown g3 s2 (fun q hq => (HO.out.lt q hq).1)); have HO3 := hide o3; have HY3 := hide (HY.out.apart hgr.out g3 HNE.out); have HNE3 := hide (ne_at a103 HNE.out hgr.out); have hgr3 := hide (Nat.lt_of_lt_of_le hgr.out g3.size); clear o3 g3 a103; have y1 := HY3.out 1 _ rfl; have y2 := HY3.out 2 _ rfl)
              replace HO := HO3
              replace HP := HP3
              replace HY := HY3
              replace HNE := HNE3
              replace hgr := hgr3
              clear HO3 HP3 HY3 HNE3 hgr3 HU2 s2
              refine (bitSpec _ _).mono ?_
              rintro e w4 ⟨rfl, hw4⟩
              subst hw4
              go_wp2_with fail
              clear y1 y2
              refine (putNumSpec _ _).mono ?_
              rintro e w5 ⟨v5, rfl, o5, b5⟩
              have HU5 := hide o5
              replace HY := hide (HY.out.below hgr.out b5)
              replace hgr := hide (Nat.lt_of_lt_of_le hgr.out b5.size)
              replace HO := hide (HO.out.below b5)
              replace HP := hide (HP.out.trans (b5.mono HP.out.size))
              have s5 := HP.out.size
              clear o5 b5
              go_wp2_with (at_builtin; refine app_own_at rfl _ _ rfl W0.heap.size _ _ _ _ (pn 0) rfl HO.out rfl HU5.out (pn_byt _) (Nat.le_trans (pn_len _) (by omega)) (by simp only [List.length_append]; omega) s5 ?_; intro v6 w6 o6 g6 a106; have HP6 := hide (HP.out.grown g6 s5 (fun q hq => (HO.out.lt q hq).1)); have HO6 := hide o6; have HY6 := hide (HY.out.apart hgr.out g6 HNE.out); have HNE6 := hide (ne_at a106 HNE.out hgr.out); have hgr6 := hide (Nat.lt_of_lt_of_le hgr.out g6.size); clear o6 g6 a106; have y1 := HY6.out 1 _ rfl; have y2 := HY6.out 2 _ rfl)
              clear y1 y2
              replace HO := HO6
              replace HP := HP6
              replace HY := HY6
              replace HNE := HNE6
              replace hgr := hgr6
              clear HO6 HP6 HY6 HNE6 hgr6 HU5 s5
              refine (putWordSpec _ _).mono ?_
              rintro e w7 ⟨v7, rfl, o7, b7⟩
              have HU7 := hide o7
              replace HO := hide (HO.out.below b7)
              replace HP := hide (HP.out.trans (b7.mono HP.out.size))
              have s7 := HP.out.size
              clear o7 b7
              go_wp2_with (at_builtin; refine app_own_at rfl _ _ rfl W0.heap.size _ _ _ _ (pw y) rfl HO.out rfl HU7.out (pw_byt _) (Nat.le_trans (pw_len _) (by omega)) (by simp only [List.length_append]; omega) s7 ?_; intro v8 w8 o8 g8 a108; have HP8 := hide (HP.out.grown g8 s7 (fun q hq => (HO.out.lt q hq).1)); have HO8 := hide o8; clear o8 g8 a108)
              refine ⟨?_, by simp [intOf]; omega⟩
              (repeat apply Exists.intro)
              refine ⟨?_, rfl⟩
              exact ⟨j + 1, by omega, by go_num, hide (by have := HO8.out; rw [HS.out]; simp only [List.append_assoc] at this ⊢; exact this), HP8⟩
          · obtain rfl : j = cs.length := by omega
            replace HO : Hid (Own wr W0.heap.size _ (A ++ cs.flatMap cellB)) := hide (by have := HO.out; rwa [List.take_length] at this)
            rw [List.take_length] at hfl
            have f6 := (HX.out.below hg.out HP.out) 6 _ rfl
            go_wp2_with fail
            clear f5 f6
            refine (putNumSpec _ _).mono ?_
            rintro e w2 ⟨v2, rfl, o2, b2⟩
            have HU2 := hide o2
            replace HO := hide (HO.out.below b2)
            replace HP := hide (HP.out.trans (b2.mono HP.out.size))
            have s2 := HP.out.size
            clear o2 b2
            go_wp2_with (at_builtin; refine app_own_at rfl _ _ rfl W0.heap.size _ _ _ _ (pn ns.length) rfl HO.out rfl HU2.out (pn_byt _) (Nat.le_trans (pn_len _) (by omega)) (by simp only [List.length_append]; omega) s2 ?_; intro v3 w3 o3 g3 a103; have HP3 := hide (HP.out.grown g3 s2 (fun q hq => (HO.out.lt q hq).1)); have HO3 := hide o3; clear o3 g3 a103)
            have hp6 := pn_len ns.length
            generalize hD : A ++ cs.flatMap cellB ++ pn ns.length = D at *
            have hDl : D.length ≤ 124 := by rw [← hD, List.length_append, List.length_append]; omega
            have HD := hide hD
            clear hD hfl hp6 HO HP HU2 s2
            go_loopw [3, 8] (fun out x wr => ∃ j : Nat, j ≤ ns.length ∧ x = .int .i64 (j : Int) ∧ Hid (Own wr W0.heap.size out (D ++ (ns.take j).flatMap noteB)) ∧ Hid (Below W0.heap.size W0 wr)) (fun _ x _ => ns.length - (intOf x).toNat)
            case atStart => exact ⟨0, by omega, rfl, hide (by simpa using HO3.out), HP3⟩
            case round =>
              clear HO3 HP3
              obtain ⟨j, hj, rfl, HO, HP⟩ := hrel
              have f6 := (HX.out.below hg.out HP.out) 6 _ rfl
              have hfl : ((ns.take j).flatMap noteB).length ≤ 1040 := by
                have h1 := flatB_len noteB 8 noteB_len (ns.take j)
                have h2 : (ns.take j).length ≤ 130 := by simp; omega
                omega
              by_cases hlt : j < ns.length
              · obtain ⟨a', cap', ea, hx⟩ := notes_at ((HN.out.at HW.out).at HP.out)
                cases ea
                obtain ⟨b, o, rfl, hb, hc⟩ := hx (by omega)
                have e1 := (hc j hlt).1
                have HS := hide (flatB_snoc noteB ns (0, 0) j hlt)
                have HE : Hid (∀ wq, Below W0.heap.size W0 wq → wq.cell? ⟨b, o + j * 2 + 1, none⟩ = some (.int .i64 (ns.getD j (0, 0)).2)) := hide (fun wq hq => by
                  obtain ⟨a', cap', ea, hx⟩ := notes_at ((HN.out.at HW.out).at hq)
                  cases ea
                  obtain ⟨b', o', eb, _, hc'⟩ := hx (by omega)
                  cases eb
                  exact (hc' j hlt).2)
                clear hx hc
                generalize ns.getD j (0, 0) = z at *
                obtain ⟨x, y⟩ := z
                simp only at e1 HE
                have hx4 := pn_len x
                go_wp2_with fail
                clear e1 f6
                refine (putNumSpec _ _).mono ?_
                rintro e w2 ⟨v2, rfl, o2, b2⟩
                have HU2 := hide o2
                replace HO := hide (HO.out.below b2)
                replace HP := hide (HP.out.trans (b2.mono HP.out.size))
                have s2 := HP.out.size
                clear o2 b2
                go_wp2_with (at_builtin; refine app_own_at rfl _ _ rfl W0.heap.size _ _ _ _ (pn x) rfl HO.out rfl HU2.out (pn_byt _) (Nat.le_trans (pn_len _) (by omega)) (by simp only [List.length_append]; omega) s2 ?_; intro v3 w3 o3 g3 a103; have HP3 := hide (HP.out.grown g3 s2 (fun q hq => (HO.out.lt q hq).1)); have HO3 := hide o3; clear o3 g3 a103; have e2 := HE.out _ HP3.out; have f6 := (HX.out.below hg.out HP3.out) 6 _ rfl)
                clear e2 f6
                replace HO := HO3
                replace HP := HP3
                clear HO3 HP3 HU2 s2
                refine (putNumSpec _ _).mono ?_
                rintro e w4 ⟨v4, rfl, o4, b4⟩
                have HU4 := hide o4
                replace HO := hide (HO.out.below b4)
                replace HP := hide (HP.out.trans (b4.mono HP.out.size))
                have s4 := HP.out.size
                clear o4 b4
                go_wp2_with (at_builtin; refine app_own_at rfl _ _ rfl W0.heap.size _ _ _ _ (pn y) rfl HO.out rfl HU4.out (pn_byt _) (Nat.le_trans (pn_len _) (by omega)) (by simp only [List.length_append]; omega) s4 ?_; intro v5 w5 o5 g5 a105; have HP5 := hide (HP.out.grown g5 s4 (fun q hq => (HO.out.lt q hq).1)); have HO5 := hide o5; clear o5 g5 a105)
                exact ⟨⟨j + 1, by omega, by go_num, hide (by have := HO5.out; rw [HS.out]; rw [List.append_assoc, List.append_assoc] at this; exact this), HP5⟩, by simp [intOf]; omega⟩
              · obtain rfl : j = ns.length := by omega
                have HF : Hid (Own wr W0.heap.size _ (mBytes k i u c n cs ns)) := hide (by
                  have := HO.out
                  rw [List.take_length] at this
                  rw [HM.out]
                  unfold msgB
                  rw [HA.out, HD.out]
                  exact this)
                go_wp2
                go_ret
                exact ⟨_, rfl, HF.out.mono HW.out.size, HW.out.trans (HP.out.mono HW.out.size)⟩
      · have hj5 : j = 0 ∨ j = 1 ∨ j = 2 ∨ j = 3 ∨ j = 4 ∨ j = 5 := by omega
        clear hj6
        rcases hj5 with rfl | rfl | rfl | rfl | rfl | rfl
        · have y0 := HY.out 0 _ rfl
          go_wp2_with fail
          clear y0
          refine (putNumSpec _ _).mono ?_
          rintro e w2 ⟨v2, rfl, o2, b2⟩
          have HU2 := hide o2
          replace HY := hide (HY.out.below hgr.out b2)
          replace hgr := hide (Nat.lt_of_lt_of_le hgr.out b2.size)
          replace HO := hide (HO.out.below b2)
          replace HP := hide (HP.out.trans (b2.mono HP.out.size))
          have s2 := HP.out.size
          clear o2 b2
          go_wp2_with (at_builtin; refine app_own_at rfl _ _ rfl W0.heap.size _ _ _ _ (pn k) rfl HO.out rfl HU2.out (pn_byt _) (Nat.le_trans (pn_len _) (by omega)) (by omega) s2 ?_; intro v3 w3 o3 g3 a103; have HP3 := hide (HP.out.grown g3 s2 (fun q hq => (HO.out.lt q hq).1)); have HO3 := hide o3; have HY3 := hide (HY.out.apart hgr.out g3 HNE.out); have HNE3 := hide (ne_at a103 HNE.out hgr.out); have hgr3 := hide (Nat.lt_of_lt_of_le hgr.out g3.size); clear o3 g3 a103)
          exact ⟨⟨1, by omega, rfl, hide (by simpa [hdS] using HO3.out), HP3, HY3, hgr3, HNE3⟩, by simp [intOf]⟩
        · have y0 := HY.out 1 _ rfl
          go_wp2_with fail
          clear y0
          refine (putNumSpec _ _).mono ?_
          rintro e w2 ⟨v2, rfl, o2, b2⟩
          have HU2 := hide o2
          replace HY := hide (HY.out.below hgr.out b2)
          replace hgr := hide (Nat.lt_of_lt_of_le hgr.out b2.size)
          replace HO := hide (HO.out.below b2)
          replace HP := hide (HP.out.trans (b2.mono HP.out.size))
          have s2 := HP.out.size
          clear o2 b2
          go_wp2_with (at_builtin; refine app_own_at rfl _ _ rfl W0.heap.size _ _ _ _ (pn i) rfl HO.out rfl HU2.out (pn_byt _) (Nat.le_trans (pn_len _) (by omega)) (by omega) s2 ?_; intro v3 w3 o3 g3 a103; have HP3 := hide (HP.out.grown g3 s2 (fun q hq => (HO.out.lt q hq).1)); have HO3 := hide o3; have HY3 := hide (HY.out.apart hgr.out g3 HNE.out); have HNE3 := hide (ne_at a103 HNE.out hgr.out); have hgr3 := hide (Nat.lt_of_lt_of_le hgr.out g3.size); clear o3 g3 a103)
          exact ⟨⟨2, by omega, rfl, hide (by simpa [hdS] using HO3.out), HP3, HY3, hgr3, HNE3⟩, by simp [intOf]⟩
        · have y0 := HY.out 2 _ rfl
          go_wp2_with fail
          clear y0
          refine (putNumSpec _ _).mono ?_
          rintro e w2 ⟨v2, rfl, o2, b2⟩
          have HU2 := hide o2
          replace HY := hide (HY.out.below hgr.out b2)
          replace hgr := hide (Nat.lt_of_lt_of_le hgr.out b2.size)
          replace HO := hide (HO.out.below b2)
          replace HP := hide (HP.out.trans (b2.mono HP.out.size))
          have s2 := HP.out.size
          clear o2 b2
          go_wp2_with (at_builtin; refine app_own_at rfl _ _ rfl W0.heap.size _ _ _ _ (pn u) rfl HO.out rfl HU2.out (pn_byt _) (Nat.le_trans (pn_len _) (by omega)) (by omega) s2 ?_; intro v3 w3 o3 g3 a103; have HP3 := hide (HP.out.grown g3 s2 (fun q hq => (HO.out.lt q hq).1)); have HO3 := hide o3; have HY3 := hide (HY.out.apart hgr.out g3 HNE.out); have HNE3 := hide (ne_at a103 HNE.out hgr.out); have hgr3 := hide (Nat.lt_of_lt_of_le hgr.out g3.size); clear o3 g3 a103)
          exact ⟨⟨3, by omega, rfl, hide (by simpa [hdS] using HO3.out), HP3, HY3, hgr3, HNE3⟩, by simp [intOf]⟩
        · have y0 := HY.out 3 _ rfl
          go_wp2_with fail
          clear y0
          refine (putNumSpec _ _).mono ?_
          rintro e w2 ⟨v2, rfl, o2, b2⟩
          have HU2 := hide o2
          replace HY := hide (HY.out.below hgr.out b2)
          replace hgr := hide (Nat.lt_of_lt_of_le hgr.out b2.size)
          replace HO := hide (HO.out.below b2)
          replace HP := hide (HP.out.trans (b2.mono HP.out.size))
          have s2 := HP.out.size
          clear o2 b2
          go_wp2_with (at_builtin; refine app_own_at rfl _ _ rfl W0.heap.size _ _ _ _ (pn c) rfl HO.out rfl HU2.out (pn_byt _) (Nat.le_trans (pn_len _) (by omega)) (by omega) s2 ?_; intro v3 w3 o3 g3 a103; have HP3 := hide (HP.out.grown g3 s2 (fun q hq => (HO.out.lt q hq).1)); have HO3 := hide o3; have HY3 := hide (HY.out.apart hgr.out g3 HNE.out); have HNE3 := hide (ne_at a103 HNE.out hgr.out); have hgr3 := hide (Nat.lt_of_lt_of_le hgr.out g3.size); clear o3 g3 a103)
          exact ⟨⟨4, by omega, rfl, hide (by simpa [hdS] using HO3.out), HP3, HY3, hgr3, HNE3⟩, by simp [intOf]⟩
        · have y0 := HY.out 4 _ rfl
          go_wp2_with fail
          clear y0
          refine (putNumSpec _ _).mono ?_
          rintro e w2 ⟨v2, rfl, o2, b2⟩
          have HU2 := hide o2
          replace HY := hide (HY.out.below hgr.out b2)
          replace hgr := hide (Nat.lt_of_lt_of_le hgr.out b2.size)
          replace HO := hide (HO.out.below b2)
          replace HP := hide (HP.out.trans (b2.mono HP.out.size))
          have s2 := HP.out.size
          clear o2 b2
          go_wp2_with (at_builtin; refine app_own_at rfl _ _ rfl W0.heap.size _ _ _ _ (pn n) rfl HO.out rfl HU2.out (pn_byt _) (Nat.le_trans (pn_len _) (by omega)) (by omega) s2 ?_; intro v3 w3 o3 g3 a103; have HP3 := hide (HP.out.grown g3 s2 (fun q hq => (HO.out.lt q hq).1)); have HO3 := hide o3; have HY3 := hide (HY.out.apart hgr.out g3 HNE.out); have HNE3 := hide (ne_at a103 HNE.out hgr.out); have hgr3 := hide (Nat.lt_of_lt_of_le hgr.out g3.size); clear o3 g3 a103)
          exact ⟨⟨5, by omega, rfl, hide (by simpa [hdS] using HO3.out), HP3, HY3, hgr3, HNE3⟩, by simp [intOf]⟩
        · have y0 := HY.out 5 _ rfl
          go_wp2_with fail
          clear y0
          refine (putNumSpec _ _).mono ?_
          rintro e w2 ⟨v2, rfl, o2, b2⟩
          have HU2 := hide o2
          replace HY := hide (HY.out.below hgr.out b2)
          replace hgr := hide (Nat.lt_of_lt_of_le hgr.out b2.size)
          replace HO := hide (HO.out.below b2)
          replace HP := hide (HP.out.trans (b2.mono HP.out.size))
          have s2 := HP.out.size
          clear o2 b2
          go_wp2_with (at_builtin; refine app_own_at rfl _ _ rfl W0.heap.size _ _ _ _ (pn (cs.length : Int)) rfl HO.out rfl HU2.out (pn_byt _) (Nat.le_trans (pn_len _) (by omega)) (by omega) s2 ?_; intro v3 w3 o3 g3 a103; have HP3 := hide (HP.out.grown g3 s2 (fun q hq => (HO.out.lt q hq).1)); have HO3 := hide o3; have HY3 := hide (HY.out.apart hgr.out g3 HNE.out); have HNE3 := hide (ne_at a103 HNE.out hgr.out); have hgr3 := hide (Nat.lt_of_lt_of_le hgr.out g3.size); clear o3 g3 a103)
          exact ⟨⟨6, by omega, rfl, hide (by simpa [hdS] using HO3.out), HP3, HY3, hgr3, HNE3⟩, by simp [intOf]⟩
end Go.Proofs.YtkfnpijljpbiaaaDoor
