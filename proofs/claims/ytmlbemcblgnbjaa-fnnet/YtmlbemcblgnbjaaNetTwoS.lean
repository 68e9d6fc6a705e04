/-
  What Twice does in the model.
-/
import Derived.Test.YtmlbemcblgnbjaaNetTwo
namespace Go.Proofs.Ytmlbemcblgnbjaa
open Go.RowKit

attribute [local go_sem ↓] Go.wp_at_zero Go.wp_at_succ
set_option maxRecDepth 100000 in
set_option maxHeartbeats 4000000 in
theorem twiceSpec (w : World) (size : Int) (v : Value) (ps : List Pk) (i : Int) (h : RdP w w.heap.size v ps) (hm : ps.length ≤ 1048576) :
    Calls Try.prog 15 #[netV size v, .int .i64 i] w (ansN w (twiceN size ps i)) := by
  have HR := hide h
  obtain ⟨a, cap, rfl, _⟩ := pk_at h
  clear h
  unfold netV
  have bA := ((Below.refl w.heap.size w).alloc (Nat.le_refl _) (.cells #[.int .i64 size, .slice a ps.length cap] 26)).alloc (by simp) (.cells #[.int .i64 0, .slice none 0 0] 26)
  have HE0 := hide ((Below.heap_alloc (w.alloc (.cells #[.int .i64 size, .slice a ps.length cap] 26)) (.cells #[.int .i64 0, .slice none 0 0] 26) w.heap.size (by simp)).trans (heap_alloc_new w (.cells #[.int .i64 size, .slice a ps.length cap] 26)))
  have HE1 := hide (heap_alloc_new (w.alloc (.cells #[.int .i64 size, .slice a ps.length cap] 26)) (.cells #[.int .i64 0, .slice none 0 0] 26))
  simp only [World.size_alloc] at HE1
  have HB := hide bA
  clear bA
  go_enter Try.func15, Try.ntmps15
  go_wp2_with fail
  refine (netSpec _ size _ ps _ (HR.out.at HB.out) (Nat.le_refl _) hm).mono ?_
  rintro e w1 ⟨rfl, b1⟩
  have E0 := (b1.block w.heap.size (by simp; omega)).trans HE0.out
  have E1 := (b1.block (w.heap.size + 1) (by simp)).trans HE1.out
  have hs1 : w.heap.size + 1 + 1 ≤ w1.heap.size := by have := b1.size; simp at this; omega
  replace HB := hide (HB.out.trans (b1.mono HB.out.size))
  clear b1 HE0 HE1
  have f0 := (box_of E0).1 0 _ rfl
  have f1 := (box_of E0).1 1 _ rfl
  have r0 := (box_of E1).1 0 _ rfl
  have r1 := (box_of E1).1 1 _ rfl
  have z1 := (box_of E1).2
  have HE := hide E1
  clear E0 E1
  cases hnet : netOk size ps with
  | false =>
    have hok2 : hasN size ps i = false := by unfold hasN; rw [hnet]; rfl
    go_wp2
    exact bodyPost_ret (v := .tuple #[.agg #[.int .i64 0, .slice none 0 0], .bool false]) (results_ct Try.results15 _ _ _ rfl (load2 (put2 HE.out _ _))) rfl (show ansN w (twiceN size ps i) _ _ from by
      rw [twiceN_no hok2, asN_no hnet]
      exact ⟨_, rfl, ownP_nil _ _ _, (HB.out.setCell (by simp) _).setCell (by simp) _⟩)
  | true =>
    have h60 := (netOk_all hnet).2.1
    cases hin : inB i 0 ((ps.length : Int) - 1) with
    | false =>
      have hok2 : hasN size ps i = false := by unfold hasN; rw [hnet, hin]; rfl
      go_wp2_with (go_at_call 32; refine (inSpec _ _ _ _).mono ?_; rw [hin]; rintro e w9 ⟨rfl, hw9⟩; subst w9)
      refine (copyNetS _ size _ ps _ (HR.out.at HB.out) (Nat.le_refl _) hm).mono ?_
      rintro e w2 ⟨v2, rfl, o2, b2⟩
      obtain ⟨a2, c2, rfl⟩ := o2.shape
      have HO := hide o2
      have E1 := (b2.block (w.heap.size + 1) (by omega)).trans HE.out
      have hs2 := b2.size
      replace HB := hide (HB.out.trans (b2.mono HB.out.size))
      clear b2 o2 HE f0 f1 r0 r1 z1
      have r0 := (box_of E1).1 0 _ rfl
      have r1 := (box_of E1).1 1 _ rfl
      have z1 := (box_of E1).2
      have HE := hide E1
      clear E1
      unfold netV
      go_wp2
      refine bodyPost_ret (v := .tuple #[.agg #[.int .i64 size, .slice a2 ps.length c2], .bool false]) (results_ct Try.results15 _ _ _ rfl (load2 (put2 HE.out _ _))) rfl (show ansN w (twiceN size ps i) _ _ from by
        rw [twiceN_no hok2, asN_yes hnet]
        refine ⟨_, rfl, ?_, (HB.out.setCell (by simp) _).setCell (by simp) _⟩
        refine ((OwnP.same HO.out (fun q hq _ _ => ?_)).mono (by omega)).up (by simp)
        rw [heap_setCell_other _ _ _ _ (by simp; omega), heap_setCell_other _ _ _ _ (by simp; omega)])
    | true =>
      have hok2 : hasN size ps i = true := by unfold hasN; rw [hnet, hin]; rfl
      obtain ⟨j, rfl, hj, _⟩ := hasN_at hok2
      obtain ⟨a', cap', ea, _, _, hx⟩ := pk_at (HR.out.low HB.out (Nat.le_refl _))
      cases ea
      obtain ⟨b, o, rfl, hb, hc⟩ := hx (by omega)
      obtain ⟨a2, c2, e0, e1, e2, e3, hc0, hi2⟩ := hc j hj
      have HGJ : Hid (ps.getD ((j : Nat) : Int).toNat default = ps.getD j default) := hide rfl
      have HT := hide (show Bt w1.drew w1.drew.heap.size (.slice a2 (ps.getD j default).b.length c2) (ps.getD j default).b from ⟨a2, c2, rfl, hc0, (hi2.up (show w.heap.size ≤ w1.heap.size by omega)).drewN 1⟩)
      have HRD := hide (show RdP w1.drew w1.drew.heap.size (.slice (some ⟨b, o, none⟩) ps.length cap) ps from (HR.out.at HB.out).drewN 1)
      have HZ := hide ((Below.refl w1.drew.heap.size w1.drew).alloc (Nat.le_refl _) (.cells #[.int .i64 0, .slice none 0 0] 26))
      clear hc hx hi2 hc0
      generalize ps.getD j default = p at *
      clear r0 r1 z1
      have n0 : w.heap.size < w1.heap.size := by omega
      go_wp2_with (go_at_call 32; refine (inSpec _ _ _ _).mono ?_; rw [hin]; rintro e w9 ⟨rfl, hw9⟩; subst w9)
      go_cut [6, 7] from 21 to 30 (fun s6 s7 wq => ∃ g av cv, s6 = .pointer (some ⟨g, 0, none⟩) ∧ s7 = .bool (postN size ps p).2 ∧ Hid (w1.heap.size ≤ g ∧ wq.heap[g]? = some (.cells #[.int .i64 (postN size ps p).1.1, .slice av (postN size ps p).1.2.length cv] 26 (0, 0))) ∧ Hid (OwnP wq w1.heap.size wq.heap.size (.slice av (postN size ps p).1.2.length cv) (postN size ps p).1.2) ∧ Hid (Below w1.heap.size w1 wq))
      case first =>
        go_region_held_law (fun w' => w'.cell? ⟨w.heap.size, 0, none⟩ = some (.int .i64 size) ∧ w'.cell? ⟨w.heap.size, 1, none⟩ = some (.slice (some ⟨b, o, none⟩) ps.length cap) ∧ w'.cell? ⟨b, o + j * 4, none⟩ = some (.int .i64 p.f) ∧ w'.cell? ⟨b, o + j * 4 + 1, none⟩ = some (.int .i64 p.t) ∧ w'.cell? ⟨b, o + j * 4 + 2, none⟩ = some (.slice a2 p.b.length c2) ∧ w'.cell? ⟨b, o + j * 4 + 3, none⟩ = some (.bool p.s))
          (first | (go_keep; done) | (refine ⟨cell_set2 ?_ ?_, cell_set2 ?_ ?_, cell_set2 ?_ ?_, cell_set2 ?_ ?_, cell_set2 ?_ ?_, cell_set2 ?_ ?_⟩ <;> first | assumption | omega))
          (first
            | (refine step_call (w := w1.drew) rfl 7 _ _ rfl #[netV size (.slice (some ⟨b, o, none⟩) ps.length cap), pkV p (.slice a2 p.b.length c2)] (by kernel_rfl) (postSpec w1.drew size _ ps p _ HRD.out HT.out hm) ?_; rintro e w2 ⟨v2, rfl, o2, b2⟩; refine ⟨_, rfl, ?_⟩; obtain ⟨av, cv, rfl⟩ := o2.shape; have bB := below_of_drew b2; have hs2 := bB.size;
                have q0 := (bB.cell (p := ⟨w.heap.size, 0, none⟩) (by simp; omega)).trans f0; have q1 := (bB.cell (p := ⟨w.heap.size, 1, none⟩) (by simp; omega)).trans f1; have q2 := (bB.cell (p := ⟨b, o + j * 4, none⟩) (by simp; omega)).trans e0; have q3 := (bB.cell (p := ⟨b, o + j * 4 + 1, none⟩) (by simp; omega)).trans e1; have q4 := (bB.cell (p := ⟨b, o + j * 4 + 2, none⟩) (by simp; omega)).trans e2; have q5 := (bB.cell (p := ⟨b, o + j * 4 + 3, none⟩) (by simp; omega)).trans e3;
                have hl2 : w.heap.size < w2.heap.size := (by omega); have hl3 : b < w2.heap.size := (by omega);
                have bD := (Below.refl w2.heap.size w2).alloc (Nat.le_refl _) (.cells #[.int .i64 (postN size ps p).1.1, .slice av (postN size ps p).1.2.length cv] 26);
                have F1 : Hid (w1.heap.size ≤ w2.heap.size ∧ _) := hide ⟨hs2, heap_alloc_new w2 (.cells #[.int .i64 (postN size ps p).1.1, .slice av (postN size ps p).1.2.length cv] 26)⟩;
                have F2 := hide ((show OwnP w2 w1.heap.size w2.heap.size (.slice av (postN size ps p).1.2.length cv) (postN size ps p).1.2 from o2).below bD |>.up bD.size);
                have F3 := hide (bB.trans (bD.mono hs2)); clear b2 o2 bB bD; unfold netV)
            | (refine step_call (w := w1.drew.alloc (.cells #[.int .i64 0, .slice none 0 0] 26)) rfl 7 _ _ rfl #[netV size (.slice (some ⟨b, o, none⟩) ps.length cap), pkV p (.slice a2 p.b.length c2)] (by kernel_rfl) (postSpec (w1.drew.alloc (.cells #[.int .i64 0, .slice none 0 0] 26)) size _ ps p _ (HRD.out.at HZ.out) (HT.out.at HZ.out) hm) ?_; rintro e w2 ⟨v2, rfl, o2, b2⟩; refine ⟨_, rfl, ?_⟩; obtain ⟨av, cv, rfl⟩ := o2.shape; have bB := below_of_drew (HZ.out.trans (b2.mono HZ.out.size)); have hs2 : w1.heap.size < w2.heap.size := Nat.lt_of_lt_of_le (by simp) b2.size;
                have q0 := (bB.cell (p := ⟨w.heap.size, 0, none⟩) (by simp; omega)).trans f0; have q1 := (bB.cell (p := ⟨w.heap.size, 1, none⟩) (by simp; omega)).trans f1; have q2 := (bB.cell (p := ⟨b, o + j * 4, none⟩) (by simp; omega)).trans e0; have q3 := (bB.cell (p := ⟨b, o + j * 4 + 1, none⟩) (by simp; omega)).trans e1; have q4 := (bB.cell (p := ⟨b, o + j * 4 + 2, none⟩) (by simp; omega)).trans e2; have q5 := (bB.cell (p := ⟨b, o + j * 4 + 3, none⟩) (by simp; omega)).trans e3;
                have EZ : w2.heap[w1.heap.size]? = some (.cells #[.int .i64 0, .slice none 0 0] 26 (0, 0)) := (b2.block w1.heap.size (by simp)).trans (heap_alloc_new w1.drew (.cells #[.int .i64 0, .slice none 0 0] 26)); have k0 := (box_of EZ).1 0 _ rfl; have k1 := (box_of EZ).1 1 _ rfl; have kz := (box_of EZ).2;
                have F1 : Hid (w1.heap.size ≤ w1.heap.size ∧ _) := hide ⟨Nat.le_refl _, put2 EZ (.int .i64 (postN size ps p).1.1) (.slice av (postN size ps p).1.2.length cv)⟩;
                have o3 : OwnP w2 (w1.heap.size + 1) w2.heap.size (.slice av (postN size ps p).1.2.length cv) (postN size ps p).1.2 := (by simpa using o2);
                have F2 := hide (((o3.same (w' := (w2.setCell ⟨w1.heap.size, 0, none⟩ (.int .i64 (postN size ps p).1.1)).setCell ⟨w1.heap.size, 1, none⟩ (.slice av (postN size ps p).1.2.length cv)) (fun q hq _ _ => by rw [heap_setCell_other _ _ _ _ (by simp; omega), heap_setCell_other _ _ _ _ (by simp; omega)])).mono (Nat.le_succ _)).up (hi' := ((w2.setCell ⟨w1.heap.size, 0, none⟩ (.int .i64 (postN size ps p).1.1)).setCell ⟨w1.heap.size, 1, none⟩ (.slice av (postN size ps p).1.2.length cv)).heap.size) (by simp));
                have F3 := hide ((bB.setCell (p := ⟨w1.heap.size, 0, none⟩) (Nat.le_refl _) (.int .i64 (postN size ps p).1.1)).setCell (p := ⟨w1.heap.size, 1, none⟩) (Nat.le_refl _) (.slice av (postN size ps p).1.2.length cv)); clear b2 o2 o3 bB EZ; unfold netV))
        all_goals (go_wp2_with fail; go_meet; exact ⟨_, av, cv, rfl, rfl, F1, F2, F3⟩)
      case rest =>
        obtain ⟨g, av, cv, rfl, rfl, HG, HO, HW⟩ := hcut
        clear f0 f1 e0 e1 e2 e3
        have E1 := (HW.out.block (w.heap.size + 1) (by omega)).trans HE.out
        have k0 := (box_of HG.out.2).1 0 _ rfl
        have k1 := (box_of HG.out.2).1 1 _ rfl
        have r0 := (box_of E1).1 0 _ rfl
        have r1 := (box_of E1).1 1 _ rfl
        have z1 := (box_of E1).2
        have HE2 := hide E1
        have HB2 := hide (HB.out.trans (HW.out.mono HB.out.size))
        have hne : ¬ w.heap.size + 1 = g := by have := HG.out.1; omega
        clear E1
        go_wp2
        refine bodyPost_ret (v := .tuple #[.agg #[.int .i64 (postN size ps p).1.1, .slice av (postN size ps p).1.2.length cv], .bool (postN size ps p).2]) (results_ct Try.results15 _ _ _ rfl (load2 (put2 HE2.out _ _))) rfl (show ansN w (twiceN size ps (j : Int)) _ _ from by
          rw [twiceN_yes hok2, HGJ.out]
          refine ⟨_, rfl, ?_, (HB2.out.setCell (by simp) _).setCell (by simp) _⟩
          refine ((OwnP.same HO.out (fun q hq _ _ => ?_)).mono (show w.heap.size ≤ w1.heap.size by omega)).up (by simp)
          rw [heap_setCell_other _ _ _ _ (by simp; omega), heap_setCell_other _ _ _ _ (by simp; omega)])
end Go.Proofs.Ytmlbemcblgnbjaa
