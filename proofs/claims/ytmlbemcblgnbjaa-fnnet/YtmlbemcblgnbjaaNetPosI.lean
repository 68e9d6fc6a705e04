/-
  What Post does in the program.
-/
import Derived.Test.YtmlbemcblgnbjaaNetCat
namespace Go.Proofs.Ytmlbemcblgnbjaa
open Go.RowKit

theorem postN_yes {size : Int} {ps : List Pk} {p : Pk} (h : netOk size (ps ++ [p]) = true) : postN size ps p = ((size, ps ++ [p]), true) := by unfold postN; rw [h]; rfl
theorem postN_no {size : Int} {ps : List Pk} {p : Pk} (h : netOk size (ps ++ [p]) = false) : postN size ps p = (asN size ps, false) := by unfold postN; rw [h]; rfl

theorem cell_set2 {w : World} {b k g o o' : Nat} {x y z : Value} (h : w.cell? ⟨b, k, none⟩ = some x) (hne : b ≠ g) : ((w.setCell ⟨g, o, none⟩ y).setCell ⟨g, o', none⟩ z).cell? ⟨b, k, none⟩ = some x :=
  (World.cell?_of_block (w := w) (a := ⟨b, k, none⟩) ((heap_setCell_other _ _ _ _ hne).trans (heap_setCell_other _ _ _ _ hne))).trans h

attribute [local go_sem ↓] Go.wp_at_zero Go.wp_at_succ
set_option maxRecDepth 100000 in
set_option maxHeartbeats 4000000 in
theorem postImpl (w : World) (size : Int) (v : Value) (ps : List Pk) (p : Pk) (bv : Value) (h : RdP w w.heap.size v ps) (hp : Bt w w.heap.size bv p.b) (hm : ps.length ≤ 1048576) :
    Calls Try.prog 6 #[netV size v, pkV p bv] w (ansN w (postN size ps p)) := by
  have HR := hide h
  have HP := hide hp
  obtain ⟨a, cap, rfl, hcap, hca, _⟩ := pk_at h
  obtain ⟨pa, pc, rfl, _⟩ := hp
  have ha0 : a = none → ps.length = 0 := fun e => by have := hca e; omega
  clear h hca
  unfold netV pkV
  have HB := hide ((((Below.refl w.heap.size w).alloc (Nat.le_refl _) (.cells #[.int .i64 size, .slice a ps.length cap] 26)).alloc (by simp) (.cells #[.int .i64 p.f, .int .i64 p.t, .slice pa p.b.length pc, .bool p.s] 28)).alloc (by simp; omega) (.cells #[.int .i64 0, .slice none 0 0] 26))
  have HE0 := hide ((Below.heap_alloc ((w.alloc (.cells #[.int .i64 size, .slice a ps.length cap] 26)).alloc (.cells #[.int .i64 p.f, .int .i64 p.t, .slice pa p.b.length pc, .bool p.s] 28)) (.cells #[.int .i64 0, .slice none 0 0] 26) w.heap.size (by simp; omega)).trans ((Below.heap_alloc (w.alloc (.cells #[.int .i64 size, .slice a ps.length cap] 26)) (.cells #[.int .i64 p.f, .int .i64 p.t, .slice pa p.b.length pc, .bool p.s] 28) w.heap.size (by simp)).trans (heap_alloc_new w (.cells #[.int .i64 size, .slice a ps.length cap] 26))))
  have HE1 := hide ((Below.heap_alloc ((w.alloc (.cells #[.int .i64 size, .slice a ps.length cap] 26)).alloc (.cells #[.int .i64 p.f, .int .i64 p.t, .slice pa p.b.length pc, .bool p.s] 28)) (.cells #[.int .i64 0, .slice none 0 0] 26) (w.heap.size + 1) (by simp)).trans (by have := heap_alloc_new (w.alloc (.cells #[.int .i64 size, .slice a ps.length cap] 26)) (.cells #[.int .i64 p.f, .int .i64 p.t, .slice pa p.b.length pc, .bool p.s] 28); simp only [World.size_alloc] at this; exact this))
  have HE2 := hide (heap_alloc_new ((w.alloc (.cells #[.int .i64 size, .slice a ps.length cap] 26)).alloc (.cells #[.int .i64 p.f, .int .i64 p.t, .slice pa p.b.length pc, .bool p.s] 28)) (.cells #[.int .i64 0, .slice none 0 0] 26))
  have hsz : (((w.alloc (.cells #[.int .i64 size, .slice a ps.length cap] 26)).alloc (.cells #[.int .i64 p.f, .int .i64 p.t, .slice pa p.b.length pc, .bool p.s] 28)).alloc (.cells #[.int .i64 0, .slice none 0 0] 26)).heap.size = w.heap.size + 1 + 1 + 1 := by simp
  simp only [World.size_alloc] at HE2
  go_enter Try.func6, Try.ntmps6
  go_wp2_with fail
  generalize ((w.alloc (.cells #[.int .i64 size, .slice a ps.length cap] 26)).alloc (.cells #[.int .i64 p.f, .int .i64 p.t, .slice pa p.b.length pc, .bool p.s] 28)).alloc (.cells #[.int .i64 0, .slice none 0 0] 26) = w1 at *
  have HR1 := hide (HR.out.at HB.out)
  have HP1 := hide (HP.out.at HB.out)
  have f0 := (box_of HE0.out).1 0 _ rfl
  have f1 := (box_of HE0.out).1 1 _ rfl
  have p0 := (box_of HE1.out).1 0 _ rfl
  have p1 := (box_of HE1.out).1 1 _ rfl
  have p2 := (box_of HE1.out).1 2 _ rfl
  have p3 := (box_of HE1.out).1 3 _ rfl
  have HT := hide (show RdP w1.drew w1.heap.size (.slice a ps.length ps.length) ps from by have := (HR1.out.take (i := ps.length) (m := ps.length) (Nat.le_refl _) (Nat.le_refl _) hcap).drewN 1; rwa [List.take_length] at this)
  have HPD := hide (show Bt w1.drew w1.heap.size (.slice pa p.b.length pc) p.b from HP1.out.drewN 1)
  have hl3 : ps.length + [p].length ≤ 3000000 := by simp; omega
  have HL3 := hide hl3
  have hlt0 : w.heap.size < w1.heap.size := by omega
  have hlt1 : w.heap.size + 1 < w1.heap.size := by omega
  have m0 : ¬ w.heap.size = w1.heap.size := by omega
  have m1 : ¬ w.heap.size = w1.heap.size + 1 := by omega
  have m2 : ¬ w.heap.size + 1 = w1.heap.size := by omega
  have HS := hide hsz
  clear hl3 hsz
  go_cut [6] from 7 to 18 (fun s wq => ∃ g a3 c3, s = .pointer (some ⟨g, 0, none⟩) ∧ Hid (w1.heap.size ≤ g ∧ wq.heap[g]? = some (.cells #[.int .i64 size, .slice a3 (ps.length + 1) c3] 26 (0, 0))) ∧ Hid (RdP wq wq.heap.size (.slice a3 (ps.length + 1) c3) (ps ++ [p])) ∧ Hid (Below w1.heap.size w1 wq))
  case first =>
    go_region_held_law (fun w' => w'.cell? ⟨w.heap.size, 0, none⟩ = some (.int .i64 size) ∧ w'.cell? ⟨w.heap.size, 1, none⟩ = some (.slice a ps.length cap) ∧ w'.cell? ⟨w.heap.size + 1, 0, none⟩ = some (.int .i64 p.f) ∧ w'.cell? ⟨w.heap.size + 1, 1, none⟩ = some (.int .i64 p.t) ∧ w'.cell? ⟨w.heap.size + 1, 2, none⟩ = some (.slice pa p.b.length pc) ∧ w'.cell? ⟨w.heap.size + 1, 3, none⟩ = some (.bool p.s))
      (first | go_keep | (refine ⟨cell_set2 ?_ ?_, cell_set2 ?_ ?_, cell_set2 ?_ ?_, cell_set2 ?_ ?_, cell_set2 ?_ ?_, cell_set2 ?_ ?_⟩ <;> first | assumption | omega))
      (first
        | (refine step_call rfl 24 _ _ rfl #[.slice a ps.length cap, .int .i64 (ps.length : Int)] (by kernel_rfl) (firstPks _ a ps.length cap ps.length hcap ha0) ?_; rintro e w' ⟨rfl, rfl⟩; refine ⟨_, rfl, ?_⟩)
        | (refine step_cat (w := w1.drew.alloc (.cells #[.int .i64 p.f, .int .i64 p.t, .slice pa p.b.length pc, .bool p.s] 28)) rfl _ _ rfl _ w1.heap.size ps.length 1 1 a ⟨w1.heap.size, 0, none⟩ ps [p] (by rfl) (by rfl) (HT.out.kept (fun k hk => Below.heap_alloc w1.drew _ k hk)) (one_rd (Box.new w1.drew #[.int .i64 p.f, .int .i64 p.t, .slice pa p.b.length pc, .bool p.s] 28) (HPD.out.kept (fun k hk => Below.heap_alloc w1.drew _ k hk)) (Nat.le_refl _)) (by simp <;> omega) HL3.out (ps.length + 1) rfl ?_; intro a3 c3 w3 r3 b3;
            have hq : ∀ k, k < w1.heap.size → w3.heap[k]? = w1.heap[k]? := fun k hk => (b3.block k (by simp <;> omega)).trans (Below.heap_alloc w1.drew _ k hk);
            have hz : w1.heap.size < w3.heap.size := Nat.lt_of_lt_of_le (by simp <;> omega) b3.size;
            have q0 := (World.cell?_of_block (w := w1) (a := ⟨w.heap.size, 0, none⟩) (hq _ hlt0)).trans f0; have q1 := (World.cell?_of_block (w := w1) (a := ⟨w.heap.size, 1, none⟩) (hq _ hlt0)).trans f1; have q2 := (World.cell?_of_block (w := w1) (a := ⟨w.heap.size + 1, 0, none⟩) (hq _ hlt1)).trans p0; have q3 := (World.cell?_of_block (w := w1) (a := ⟨w.heap.size + 1, 1, none⟩) (hq _ hlt1)).trans p1; have q4 := (World.cell?_of_block (w := w1) (a := ⟨w.heap.size + 1, 2, none⟩) (hq _ hlt1)).trans p2; have q5 := (World.cell?_of_block (w := w1) (a := ⟨w.heap.size + 1, 3, none⟩) (hq _ hlt1)).trans p3;
            have hlt2 : w.heap.size < w3.heap.size := (by omega); have hlt3 : w.heap.size + 1 < w3.heap.size := (by omega);
            have F1 : Hid (w1.heap.size ≤ w3.heap.size ∧ _) := hide ⟨by omega, heap_alloc_new w3 (.cells #[.int .i64 size, .slice a3 (ps.length + 1) c3] 26)⟩;
            have F2 := hide (r3 (w3.alloc (.cells #[.int .i64 size, .slice a3 (ps.length + 1) c3] 26)) (by simp) (fun k hk _ => Below.heap_alloc _ _ _ hk));
            have F3 : Hid (Below w1.heap.size w1 (w3.alloc (.cells #[.int .i64 size, .slice a3 (ps.length + 1) c3] 26))) := hide ((Below.mk (B := w1.heap.size) (w := w1) (w' := w3) b3.os b3.tape b3.output (by omega) hq).alloc (by omega) _); clear r3 b3 hq)
        | (refine step_cat (w := (w1.drew.alloc (.cells #[.int .i64 p.f, .int .i64 p.t, .slice pa p.b.length pc, .bool p.s] 28)).alloc (.cells #[.int .i64 0, .slice none 0 0] 26)) rfl _ _ rfl _ w1.heap.size ps.length 1 1 a ⟨w1.heap.size, 0, none⟩ ps [p] (by rfl) (by rfl) (HT.out.kept (fun k hk => (Below.heap_alloc _ _ _ (by simp <;> omega)).trans (Below.heap_alloc w1.drew _ k hk))) (one_rd ((Box.new w1.drew #[.int .i64 p.f, .int .i64 p.t, .slice pa p.b.length pc, .bool p.s] 28).below (by simp) ((Below.refl _ _).alloc (Nat.le_refl _) (.cells #[.int .i64 0, .slice none 0 0] 26))) (HPD.out.kept (fun k hk => (Below.heap_alloc _ _ _ (by simp <;> omega)).trans (Below.heap_alloc w1.drew _ k hk))) (Nat.le_refl _)) (by simp <;> omega) HL3.out (ps.length + 1) rfl ?_; intro a3 c3 w3 r3 b3;
            have hq : ∀ k, k < w1.heap.size → w3.heap[k]? = w1.heap[k]? := fun k hk => (b3.block k (by simp <;> omega)).trans ((Below.heap_alloc _ _ _ (by simp <;> omega)).trans (Below.heap_alloc w1.drew _ k hk));
            have hz : w1.heap.size < w3.heap.size := Nat.lt_of_lt_of_le (by simp <;> omega) b3.size;
            have q0 := (World.cell?_of_block (w := w1) (a := ⟨w.heap.size, 0, none⟩) (hq _ hlt0)).trans f0; have q1 := (World.cell?_of_block (w := w1) (a := ⟨w.heap.size, 1, none⟩) (hq _ hlt0)).trans f1; have q2 := (World.cell?_of_block (w := w1) (a := ⟨w.heap.size + 1, 0, none⟩) (hq _ hlt1)).trans p0; have q3 := (World.cell?_of_block (w := w1) (a := ⟨w.heap.size + 1, 1, none⟩) (hq _ hlt1)).trans p1; have q4 := (World.cell?_of_block (w := w1) (a := ⟨w.heap.size + 1, 2, none⟩) (hq _ hlt1)).trans p2; have q5 := (World.cell?_of_block (w := w1) (a := ⟨w.heap.size + 1, 3, none⟩) (hq _ hlt1)).trans p3;
            have hlt2 : w.heap.size < w3.heap.size := (by omega); have hlt3 : w.heap.size + 1 < w3.heap.size := (by omega);
            have E3 : w3.heap[w1.heap.size + 1]? = some (.cells #[.int .i64 0, .slice none 0 0] 26 (0, 0)) := (b3.block (w1.heap.size + 1) (by simp <;> omega)).trans (by have := heap_alloc_new (w1.drew.alloc (.cells #[.int .i64 p.f, .int .i64 p.t, .slice pa p.b.length pc, .bool p.s] 28)) (.cells #[.int .i64 0, .slice none 0 0] 26); simpa using this); have k0 := (box_of E3).1 0 _ rfl; have k1 := (box_of E3).1 1 _ rfl; have kz := (box_of E3).2; have F1 : Hid (w1.heap.size ≤ w1.heap.size + 1 ∧ _) := hide ⟨by omega, put2 E3 (.int .i64 size) (.slice a3 (ps.length + 1) c3)⟩;
            have F2 := hide (r3 ((w3.setCell ⟨w1.heap.size + 1, 0, none⟩ (.int .i64 size)).setCell ⟨w1.heap.size + 1, 1, none⟩ (.slice a3 (ps.length + 1) c3)) (by simp) (fun k hk ho => by have hne : k ≠ w1.heap.size + 1 := (by simp at ho; omega); exact (heap_setCell_other _ _ _ _ hne).trans (heap_setCell_other _ _ _ _ hne)));
            have F3 : Hid (Below w1.heap.size w1 ((w3.setCell ⟨w1.heap.size + 1, 0, none⟩ (.int .i64 size)).setCell ⟨w1.heap.size + 1, 1, none⟩ (.slice a3 (ps.length + 1) c3))) := hide (((Below.mk (B := w1.heap.size) (w := w1) (w' := w3) b3.os b3.tape b3.output (by omega) hq).setCell (p := ⟨w1.heap.size + 1, 0, none⟩) (by simp) _).setCell (p := ⟨w1.heap.size + 1, 1, none⟩) (by simp) _); clear E3; clear r3 b3 hq)
        | (refine step_cat (w := (w1.drew.alloc (.cells #[.int .i64 0, .slice none 0 0] 26)).alloc (.cells #[.int .i64 p.f, .int .i64 p.t, .slice pa p.b.length pc, .bool p.s] 28)) rfl _ _ rfl _ w1.heap.size ps.length 1 1 a ⟨w1.heap.size + 1, 0, none⟩ ps [p] (by rfl) (by rfl) (HT.out.kept (fun k hk => (Below.heap_alloc _ _ _ (by simp <;> omega)).trans (Below.heap_alloc w1.drew _ k hk))) (one_rd (p := p) (u := .slice pa p.b.length pc) (g := w1.heap.size + 1) (by have := Box.new (w1.drew.alloc (.cells #[.int .i64 0, .slice none 0 0] 26)) #[.int .i64 p.f, .int .i64 p.t, .slice pa p.b.length pc, .bool p.s] 28; simp only [World.size_alloc] at this; exact this) (HPD.out.kept (fun k hk => (Below.heap_alloc _ _ _ (by simp <;> omega)).trans (Below.heap_alloc w1.drew _ k hk))) (Nat.le_refl _)) (by simp <;> omega) HL3.out (ps.length + 1) rfl ?_; intro a3 c3 w3 r3 b3;
            have hq : ∀ k, k < w1.heap.size → w3.heap[k]? = w1.heap[k]? := fun k hk => (b3.block k (by simp <;> omega)).trans ((Below.heap_alloc _ _ _ (by simp <;> omega)).trans (Below.heap_alloc w1.drew _ k hk));
            have hz : w1.heap.size < w3.heap.size := Nat.lt_of_lt_of_le (by simp <;> omega) b3.size;
            have q0 := (World.cell?_of_block (w := w1) (a := ⟨w.heap.size, 0, none⟩) (hq _ hlt0)).trans f0; have q1 := (World.cell?_of_block (w := w1) (a := ⟨w.heap.size, 1, none⟩) (hq _ hlt0)).trans f1; have q2 := (World.cell?_of_block (w := w1) (a := ⟨w.heap.size + 1, 0, none⟩) (hq _ hlt1)).trans p0; have q3 := (World.cell?_of_block (w := w1) (a := ⟨w.heap.size + 1, 1, none⟩) (hq _ hlt1)).trans p1; have q4 := (World.cell?_of_block (w := w1) (a := ⟨w.heap.size + 1, 2, none⟩) (hq _ hlt1)).trans p2; have q5 := (World.cell?_of_block (w := w1) (a := ⟨w.heap.size + 1, 3, none⟩) (hq _ hlt1)).trans p3;
            have hlt2 : w.heap.size < w3.heap.size := (by omega); have hlt3 : w.heap.size + 1 < w3.heap.size := (by omega);
            have E3 : w3.heap[w1.heap.size]? = some (.cells #[.int .i64 0, .slice none 0 0] 26 (0, 0)) := (b3.block (w1.heap.size) (by simp <;> omega)).trans ((Below.heap_alloc _ _ _ (by simp)).trans (heap_alloc_new w1.drew (.cells #[.int .i64 0, .slice none 0 0] 26))); have k0 := (box_of E3).1 0 _ rfl; have k1 := (box_of E3).1 1 _ rfl; have kz := (box_of E3).2; have F1 : Hid (w1.heap.size ≤ w1.heap.size ∧ _) := hide ⟨by omega, put2 E3 (.int .i64 size) (.slice a3 (ps.length + 1) c3)⟩;
            have F2 := hide (r3 ((w3.setCell ⟨w1.heap.size, 0, none⟩ (.int .i64 size)).setCell ⟨w1.heap.size, 1, none⟩ (.slice a3 (ps.length + 1) c3)) (by simp) (fun k hk ho => by have hne : k ≠ w1.heap.size := (by simp at ho; omega); exact (heap_setCell_other _ _ _ _ hne).trans (heap_setCell_other _ _ _ _ hne)));
            have F3 : Hid (Below w1.heap.size w1 ((w3.setCell ⟨w1.heap.size, 0, none⟩ (.int .i64 size)).setCell ⟨w1.heap.size, 1, none⟩ (.slice a3 (ps.length + 1) c3))) := hide (((Below.mk (B := w1.heap.size) (w := w1) (w' := w3) b3.os b3.tape b3.output (by omega) hq).setCell (p := ⟨w1.heap.size, 0, none⟩) (by simp) _).setCell (p := ⟨w1.heap.size, 1, none⟩) (by simp) _); clear E3; clear r3 b3 hq))
    all_goals (go_wp2_with fail; go_meet; exact ⟨_, a3, c3, rfl, F1, F2, F3⟩)
  case rest =>
    obtain ⟨g, a3, c3, rfl, HG, HQ, HW⟩ := hcut
    have HB2 := hide (HB.out.trans (HW.out.mono HB.out.size))
    have f0 := (box_of HG.out.2).1 0 _ rfl
    have f1 := (box_of HG.out.2).1 1 _ rfl
    have hgs := (Array.getElem?_eq_some_iff.1 HG.out.2).1
    go_wp2_with fail
    have hlen : (ps ++ [p]).length = ps.length + 1 := by simp
    refine (netImpl _ size _ (ps ++ [p]) _ HQ.out (Nat.le_refl _) (by omega)).mono ?_
    rintro e w4 ⟨rfl, b4⟩
    have hw1 := HW.out.size
    have EG := (b4.block g hgs).trans HG.out.2
    have E0 := (b4.block w.heap.size (by omega)).trans ((HW.out.block w.heap.size (by omega)).trans HE0.out)
    have E2 := (b4.block (w.heap.size + 1 + 1) (by have := HS.out; omega)).trans ((HW.out.block (w.heap.size + 1 + 1) (by have := HS.out; omega)).trans HE2.out)
    replace HQ := hide (HQ.out.at b4)
    have h24 : w.heap.size + 1 + 1 + 1 ≤ w4.heap.size := by have := HS.out; have := b4.size; omega
    replace HB2 := hide (HB2.out.trans (b4.mono HB2.out.size))
    clear b4 f0 f1 p0 p1 p2 p3 HT HPD HL3
    cases hok : netOk size (ps ++ [p]) with
    | false =>
      have f0 := (box_of E0).1 0 _ rfl
      have f1 := (box_of E0).1 1 _ rfl
      have HE := hide E2
      clear E0 E2 EG
      go_wp2_with fail
      refine (asWas _ size _ ps _ (HR.out.at HB2.out) (Nat.le_refl _) (by omega)).mono ?_
      rintro e w5 ⟨v5, rfl, o5, b5⟩
      obtain ⟨a5, c5, rfl⟩ := o5.shape
      have HO := hide o5
      have E2 := (b5.block (w.heap.size + 1 + 1) (by omega)).trans HE.out
      have hs5 := b5.size
      replace HB2 := hide (HB2.out.trans (b5.mono HB2.out.size))
      clear b5 o5 HE f0 f1
      have r0 := (box_of E2).1 0 _ rfl
      have r1 := (box_of E2).1 1 _ rfl
      have z1 := (box_of E2).2
      have HE := hide E2
      clear E2
      unfold netV
      go_wp2
      refine bodyPost_ret (v := .tuple #[.agg #[.int .i64 (asN size ps).1, .slice a5 (asN size ps).2.length c5], .bool false]) (results_ct Try.results6 _ _ _ rfl (load2 (put2 HE.out _ _))) rfl (show ansN w (postN size ps p) _ _ from by
        rw [postN_no hok]
        refine ⟨_, rfl, ?_, (HB2.out.setCell (by simp; omega) _).setCell (by simp; omega) _⟩
        refine ((OwnP.same HO.out (fun q hq _ _ => ?_)).mono (by omega)).up (by simp)
        rw [heap_setCell_other _ _ _ _ (by simp; omega), heap_setCell_other _ _ _ _ (by simp; omega)])
    | true =>
      have f0 := (box_of EG).1 0 _ rfl
      have f1 := (box_of EG).1 1 _ rfl
      have HE := hide E2
      clear E0 E2 EG
      go_wp2_with fail
      refine (copyNetI _ size _ (ps ++ [p]) _ HQ.out (Nat.le_refl _) (by have := (netOk_all hok).2.1; omega)).mono ?_
      rintro e w5 ⟨v5, rfl, o5, b5⟩
      obtain ⟨a5, c5, rfl⟩ := o5.shape
      rw [hlen] at o5
      have HO := hide o5
      have E2 := (b5.block (w.heap.size + 1 + 1) (by omega)).trans HE.out
      have hs5 := b5.size
      replace HB2 := hide (HB2.out.trans (b5.mono HB2.out.size))
      clear b5 o5 HE f0 f1
      have r0 := (box_of E2).1 0 _ rfl
      have r1 := (box_of E2).1 1 _ rfl
      have z1 := (box_of E2).2
      have HE := hide E2
      clear E2
      unfold netV
      go_wp2
      refine bodyPost_ret (v := .tuple #[.agg #[.int .i64 size, .slice a5 (ps.length + 1) c5], .bool true]) (results_ct Try.results6 _ _ _ rfl (load2 (put2 HE.out _ _))) rfl (show ansN w (postN size ps p) _ _ from by
        rw [postN_yes hok]
        refine ⟨_, rfl, ?_, (HB2.out.setCell (by simp; omega) _).setCell (by simp; omega) _⟩
        refine ((OwnP.same HO.out (fun q hq _ _ => ?_)).mono (by omega)).up (by simp)
        rw [heap_setCell_other _ _ _ _ (by simp; omega), heap_setCell_other _ _ _ _ (by simp; omega)])
end Go.Proofs.Ytmlbemcblgnbjaa
