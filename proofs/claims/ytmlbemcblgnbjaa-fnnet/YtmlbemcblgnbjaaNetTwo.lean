/-
  What Twice does, in the program and in its model.
-/
import Derived.Test.YtmlbemcblgnbjaaNetPosS
namespace Go.Proofs.Ytmlbemcblgnbjaa
open Go.RowKit

/-- There is a packet i. -/
def hasN (size : Int) (ps : List Pk) (i : Int) : Bool := netOk size ps && inB i 0 ((ps.length : Int) - 1)
/-- What Twice answers. -/
def twiceN (size : Int) (ps : List Pk) (i : Int) : (Int × List Pk) × Bool := bif hasN size ps i then postN size ps (ps.getD i.toNat default) else (asN size ps, false)

theorem twiceN_yes {size : Int} {ps : List Pk} {i : Int} (h : hasN size ps i = true) : twiceN size ps i = postN size ps (ps.getD i.toNat default) := by unfold twiceN; rw [h]; rfl
theorem twiceN_no {size : Int} {ps : List Pk} {i : Int} (h : hasN size ps i = false) : twiceN size ps i = (asN size ps, false) := by unfold twiceN; rw [h]; rfl
theorem hasN_at {size : Int} {ps : List Pk} {i : Int} (h : hasN size ps i = true) : ∃ j : Nat, i = (j : Int) ∧ j < ps.length ∧ netOk size ps = true := by
  unfold hasN at h
  rw [Bool.and_eq_true] at h
  have := inB_yes h.2
  exact ⟨i.toNat, by omega, by omega, h.1⟩

attribute [local go_sem ↓] Go.wp_at_zero Go.wp_at_succ
set_option maxRecDepth 100000 in
set_option maxHeartbeats 4000000 in
theorem twiceImpl (w : World) (size : Int) (v : Value) (ps : List Pk) (i : Int) (h : RdP w w.heap.size v ps) (hm : ps.length ≤ 1048576) :
    Calls Try.prog 14 #[netV size v, .int .i64 i] w (ansN w (twiceN size ps i)) := by
  have HR := hide h
  obtain ⟨a, cap, rfl, _⟩ := pk_at h
  clear h
  unfold netV
  have bA := ((Below.refl w.heap.size w).alloc (Nat.le_refl _) (.cells #[.int .i64 size, .slice a ps.length cap] 26)).alloc (by simp) (.cells #[.int .i64 0, .slice none 0 0] 26)
  have HE0 := hide ((Below.heap_alloc (w.alloc (.cells #[.int .i64 size, .slice a ps.length cap] 26)) (.cells #[.int .i64 0, .slice none 0 0] 26) w.heap.size (by simp)).trans (heap_alloc_new w (.cells #[.int .i64 size, .slice a ps.length cap] 26)))
  have HE1 := hide (heap_alloc_new (w.alloc (.cells #[.int .i64 size, .slice a ps.length cap] 26)) (.cells #[.int .i64 0, .slice none 0 0] 26))
  simp only [World.size_alloc] at HE1
  have HB := hide bA
  clear bA
  go_enter Try.func14, Try.ntmps14
  go_wp2_with fail
  refine (hasPk _ size _ ps i _ (HR.out.at HB.out) (Nat.le_refl _) (by omega)).mono ?_
  rintro e w1 ⟨rfl, b1⟩
  have E0 := (b1.block w.heap.size (by simp; omega)).trans HE0.out
  have E1 := (b1.block (w.heap.size + 1) (by simp)).trans HE1.out
  have hs1 : w.heap.size + 1 + 1 ≤ w1.heap.size := by have := b1.size; simp at this; omega
  replace HB := hide (HB.out.trans (b1.mono HB.out.size))
  clear b1 HE0 HE1
  have f0 := (box_of E0).1 0 _ rfl
  have f1 := (box_of E0).1 1 _ rfl
  have HE := hide E1
  clear E0 E1
  cases hok : (netOk size ps && inB i 0 ((ps.length : Int) - 1)) with
  | false =>
    have hok2 : hasN size ps i = false := hok
    go_wp2_with fail
    refine (asWas _ size _ ps _ (HR.out.at HB.out) (Nat.le_refl _) (by omega)).mono ?_
    rintro e w2 ⟨v2, rfl, o2, b2⟩
    obtain ⟨a2, c2, rfl⟩ := o2.shape
    have HO := hide o2
    have E1 := (b2.block (w.heap.size + 1) (by omega)).trans HE.out
    have hs2 := b2.size
    replace HB := hide (HB.out.trans (b2.mono HB.out.size))
    clear b2 o2 HE f0 f1
    have r0 := (box_of E1).1 0 _ rfl
    have r1 := (box_of E1).1 1 _ rfl
    have z1 := (box_of E1).2
    have HE := hide E1
    clear E1
    unfold netV
    go_wp2
    refine bodyPost_ret (v := .tuple #[.agg #[.int .i64 (asN size ps).1, .slice a2 (asN size ps).2.length c2], .bool false]) (results_ct Try.results14 _ _ _ rfl (load2 (put2 HE.out _ _))) rfl (show ansN w (twiceN size ps i) _ _ from by
      rw [twiceN_no hok2]
      refine ⟨_, rfl, ?_, (HB.out.setCell (by simp) _).setCell (by simp) _⟩
      refine ((OwnP.same HO.out (fun q hq _ _ => ?_)).mono (by omega)).up (by simp)
      rw [heap_setCell_other _ _ _ _ (by simp; omega), heap_setCell_other _ _ _ _ (by simp; omega)])
  | true =>
    have hok2 : hasN size ps i = true := hok
    obtain ⟨j, rfl, hj, hnet⟩ := hasN_at hok2
    obtain ⟨a', cap', ea, _, _, hx⟩ := pk_at (HR.out.low HB.out (Nat.le_refl _))
    cases ea
    obtain ⟨b, o, rfl, hb, hc⟩ := hx (by omega)
    obtain ⟨a2, c2, e0, e1, e2, e3, hc0, hin⟩ := hc j hj
    have HGJ : Hid (ps.getD ((j : Nat) : Int).toNat default = ps.getD j default) := hide rfl
    have HT := hide (show Bt w1.drew w1.drew.heap.size (.slice a2 (ps.getD j default).b.length c2) (ps.getD j default).b from ⟨a2, c2, rfl, hc0, (hin.up (show w.heap.size ≤ w1.heap.size by omega)).drewN 1⟩)
    have HRD := hide (show RdP w1.drew w1.drew.heap.size (.slice (some ⟨b, o, none⟩) ps.length cap) ps from (HR.out.at HB.out).drewN 1)
    clear hc hx hin hc0
    generalize ps.getD j default = p at *
    have r0 := (box_of HE.out).1 0 _ rfl
    have r1 := (box_of HE.out).1 1 _ rfl
    have z1 := (box_of HE.out).2
    go_wp2_with fail
    go_region_held_law (fun w' => w'.cell? ⟨w.heap.size, 0, none⟩ = some (.int .i64 size) ∧ w'.cell? ⟨w.heap.size, 1, none⟩ = some (.slice (some ⟨b, o, none⟩) ps.length cap) ∧ w'.cell? ⟨b, o + j * 4, none⟩ = some (.int .i64 p.f) ∧ w'.cell? ⟨b, o + j * 4 + 1, none⟩ = some (.int .i64 p.t) ∧ w'.cell? ⟨b, o + j * 4 + 2, none⟩ = some (.slice a2 p.b.length c2) ∧ w'.cell? ⟨b, o + j * 4 + 3, none⟩ = some (.bool p.s))
      (first | (go_keep; done) | (refine ⟨cell_set2 ?_ ?_, cell_set2 ?_ ?_, cell_set2 ?_ ?_, cell_set2 ?_ ?_, cell_set2 ?_ ?_, cell_set2 ?_ ?_⟩ <;> first | assumption | omega))
      (first
        | (refine step_call rfl 6 _ _ rfl #[netV size (.slice (some ⟨b, o, none⟩) ps.length cap), pkV p (.slice a2 p.b.length c2)] (by kernel_rfl) (postImpl _ size _ ps p _ HRD.out HT.out hm) ?_; rintro e w2 ⟨v2, rfl, o2, b2⟩; refine ⟨_, rfl, ?_⟩; obtain ⟨av, cv, rfl⟩ := o2.shape; have HO := hide o2; have bB := below_of_drew b2; have hs2 := bB.size;
            have q0 := (bB.cell (p := ⟨w.heap.size, 0, none⟩) (by simp; omega)).trans f0; have q1 := (bB.cell (p := ⟨w.heap.size, 1, none⟩) (by simp; omega)).trans f1; have q2 := (bB.cell (p := ⟨b, o + j * 4, none⟩) (by simp; omega)).trans e0; have q3 := (bB.cell (p := ⟨b, o + j * 4 + 1, none⟩) (by simp; omega)).trans e1; have q4 := (bB.cell (p := ⟨b, o + j * 4 + 2, none⟩) (by simp; omega)).trans e2; have q5 := (bB.cell (p := ⟨b, o + j * 4 + 3, none⟩) (by simp; omega)).trans e3;
            have E2 := (bB.block (w.heap.size + 1) (by omega)).trans HE.out; have HE2 := hide E2; have k0 := (box_of E2).1 0 _ rfl; have k1 := (box_of E2).1 1 _ rfl; have kz := (box_of E2).2; have HB2 := hide (HB.out.trans (bB.mono HB.out.size)); clear b2 bB o2 E2; unfold netV))
    all_goals (
      clear f0 f1 e0 e1 e2 e3 r0 r1 z1 q0 q1 q2 q3 q4 q5
      go_wp2
      refine bodyPost_ret (v := .tuple #[.agg #[.int .i64 (postN size ps p).1.1, .slice av (postN size ps p).1.2.length cv], .bool (postN size ps p).2]) (results_ct Try.results14 _ _ _ rfl (load2 (put2 HE2.out _ _))) rfl (show ansN w (twiceN size ps (j : Int)) _ _ from by
        rw [twiceN_yes hok2, HGJ.out]
        refine ⟨_, rfl, ?_, (HB2.out.setCell (by simp) _).setCell (by simp) _⟩
        refine ((OwnP.same HO.out (fun q hq _ _ => ?_)).mono (show w.heap.size ≤ w1.heap.size by omega)).up (by simp)
        have hq' : w1.heap.size ≤ q := hq
        rw [heap_setCell_other _ _ _ _ (by simp; omega), heap_setCell_other _ _ _ _ (by simp; omega)]))
end Go.Proofs.Ytmlbemcblgnbjaa
