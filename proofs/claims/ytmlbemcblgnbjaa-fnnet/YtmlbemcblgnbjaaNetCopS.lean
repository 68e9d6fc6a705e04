/-
  Packets and nets copied by the model.
-/
import Derived.Test.YtmlbemcblgnbjaaNetCopy
import Derived.Deep.RegionLaw
import Derived.Deep.DrawnRows
namespace Go.Proofs.Ytmlbemcblgnbjaa
open Go.RowKit

set_option maxRecDepth 100000 in
set_option maxHeartbeats 2000000 in
theorem copyPkS (w : World) (p : Pk) (bv : Value) (h : Bt w w.heap.size bv p.b) :
    Calls Try.prog 29 #[pkV p bv] w fun e w' => ∃ v', e = .returned (pkV p v') ∧ Own w' w.heap.size v' p.b ∧ Below w.heap.size w w' := by
  obtain ⟨a, cap, rfl, hc, hin⟩ := h
  obtain ⟨f, t, zs, s⟩ := p
  simp only at hin
  unfold pkV
  simp only
  have bA := (((Below.refl w.heap.size w).alloc (Nat.le_refl _) (.cells #[.int .i64 f, .int .i64 t, .slice a zs.length cap, .bool s] 28)).alloc (by simp) (.cells #[.int .i64 0, .int .i64 0, .slice none 0 0, .bool false] 28)).alloc (by simp; omega) (.cells #[] 5)
  have G0 := heap_alloc_new w (.cells #[.int .i64 f, .int .i64 t, .slice a zs.length cap, .bool s] 28)
  have G1 := heap_alloc_new (w.alloc (.cells #[.int .i64 f, .int .i64 t, .slice a zs.length cap, .bool s] 28)) (.cells #[.int .i64 0, .int .i64 0, .slice none 0 0, .bool false] 28)
  have HG := hide (And.intro G0 G1)
  have HI := hide (hin.at bA)
  have HB := hide bA
  clear bA hin G0 G1
  have HN := hide (own_empty ((w.alloc (.cells #[.int .i64 f, .int .i64 t, .slice a zs.length cap, .bool s] 28)).alloc (.cells #[.int .i64 0, .int .i64 0, .slice none 0 0, .bool false] 28)) (w.heap.size + 1 + 1) (by simp))
  simp only [World.size_alloc] at HN
  go_enter Try.func29, Try.ntmps29
  go_wp2_with (at_builtin; refine app_in rfl _ _ rfl (w.heap.size + 1 + 1) _ _ [] rfl HN.out _ _ _ zs rfl hc HI.out (by simp) (by simp) ?_; intro v1 w1 o1 g1 n1; have E0 : w1.heap[w.heap.size]? = some (.cells #[.int .i64 f, .int .i64 t, .slice a zs.length cap, .bool s] 28 (0, 0)) := (g1.block w.heap.size (by simp <;> omega) (fun e => absurd (Option.some.inj (show some w.heap.size = some (w.heap.size + 1 + 1) from e)) (by omega))).trans ((Below.heap_alloc _ _ _ (by simp <;> omega)).trans ((Below.heap_alloc _ _ _ (by simp)).trans HG.out.1)); have E1 : w1.heap[w.heap.size + 1]? = some (.cells #[.int .i64 0, .int .i64 0, .slice none 0 0, .bool false] 28 (0, 0)) := (g1.block (w.heap.size + 1) (by simp <;> omega) (fun e => absurd (Option.some.inj (show some (w.heap.size + 1) = some (w.heap.size + 1 + 1) from e)) (by omega))).trans ((Below.heap_alloc _ _ _ (by simp)).trans (by have := HG.out.2; simp only [World.size_alloc] at this; exact this)); have HW := hide (HB.out.grown g1 (by simp <;> omega) (fun q hq => by have := Option.some.inj (show some (w.heap.size + 1 + 1) = some q from hq); omega)); have HO := hide o1; obtain ⟨a1, c1, e1⟩ := own_shape o1; simp only [List.nil_append] at e1 HO; subst e1; have X0 := (box_of E0).1; have f0 := X0 0 _ rfl; have f1 := X0 1 _ rfl; have f2 := X0 2 _ rfl; have f3 := X0 3 _ rfl; have z0 := (box_of E0).2; have X1 := (box_of E1).1; have k0 := X1 0 _ rfl; have k1 := X1 1 _ rfl; have k2 := X1 2 _ rfl; have k3 := X1 3 _ rfl; have z1 := (box_of E1).2; have HE := hide E1; clear E0 E1 X0 X1 g1 n1 o1)
  refine bodyPost_ret (v := .agg #[.int .i64 f, .int .i64 t, .slice a1 zs.length c1, .bool s]) (results_one Try.results29 _ _ _ rfl (load4 (put4 ((heap_setCell_other _ _ _ _ (by simp)).trans HE.out) _ _ _ _))) rfl ⟨_, rfl, ?_, ?_⟩
  · exact Own.mono (b := w.heap.size + 1 + 1) (own_set (own_set (own_set (own_set (own_set HO.out (by omega) _ _) (by omega) _ _) (by omega) _ _) (by omega) _ _) (by omega) _ _) (by omega)
  · exact ((((HW.out.setCell (by simp) _).setCell (by simp) _).setCell (by simp) _).setCell (by simp) _).setCell (by simp) _

/-- A call of a Go function by its contract, at a step of a region that draws its order. -/
theorem step_call {P : Program} {ops : Array Oper} {o : Oper} {a : Act} {w : World} {K : Act → World → Prop} {Q : Exit → Act → World → Prop} {E : Prop} {R : Ending → World → Prop} (hgd : o.guard = none)
    (f : FuncId) (xs : Array Operand) (ts : Array TypeId) (_ho : o.op = .call { callee := .value (.func f), args := xs, argTypes := ts }) (args : Array Value) (hrun : (execOp a.eval o).run P w = .ok (.enter f args) w) (hc : Calls P f args w R) (h : ∀ e w', R e w' → ∃ v, e = .returned v ∧ K (a.put o.dst v) w') :
    if Region.wanted o (yielded ops a.tmps) = true then Oper.wp P o a w K Q else E := by

  have hw : Region.wanted o (yielded ops a.tmps) = true := by simp [Region.wanted, hgd]
  rw [if_pos hw]
  unfold Oper.wp
  rw [hrun, Oper.upon_enter]
  refine hc.mono fun e w' hh => ?_
  obtain ⟨v, rfl, hk⟩ := h e w' hh
  exact hk

attribute [local go_sem ↓] Go.wp_at_zero Go.wp_at_succ
set_option maxRecDepth 100000 in
set_option maxHeartbeats 4000000 in
theorem copyNetS (w : World) (size : Int) (v : Value) (ps : List Pk) (B : Nat) (h : RdP w B v ps) (hB : B ≤ w.heap.size) (hm : ps.length ≤ 1048576) :
    Calls Try.prog 27 #[netV size v] w fun e w' => ∃ v', e = .returned (netV size v') ∧ OwnP w' w.heap.size w'.heap.size v' ps ∧ Below w.heap.size w w' := by
  have HX : Hid (∀ wr, Below w.heap.size w wr → _) := hide (fun wr hb => pk_at (h.low hb hB))
  obtain ⟨a, cap, rfl, _⟩ := pk_at h
  clear h
  generalize hn : ps.length = n at *
  unfold netV
  have HB1 := hide ((((Below.refl w.heap.size w).alloc (Nat.le_refl _) (.cells #[.int .i64 size, .slice a n cap] 26)).alloc (by simp) (.cells #[.int .i64 0, .slice none 0 0] 26)).alloc (by simp; omega) (.cells #[.int .i64 size, .slice none 0 0] 26))
  have HE0 := hide ((Below.heap_alloc ((w.alloc (.cells #[.int .i64 size, .slice a n cap] 26)).alloc (.cells #[.int .i64 0, .slice none 0 0] 26)) (.cells #[.int .i64 size, .slice none 0 0] 26) w.heap.size (by simp; omega)).trans ((Below.heap_alloc (w.alloc (.cells #[.int .i64 size, .slice a n cap] 26)) (.cells #[.int .i64 0, .slice none 0 0] 26) w.heap.size (by simp)).trans (heap_alloc_new w (.cells #[.int .i64 size, .slice a n cap] 26))))
  have HE1 := hide ((Below.heap_alloc ((w.alloc (.cells #[.int .i64 size, .slice a n cap] 26)).alloc (.cells #[.int .i64 0, .slice none 0 0] 26)) (.cells #[.int .i64 size, .slice none 0 0] 26) (w.heap.size + 1) (by simp)).trans (by have := heap_alloc_new (w.alloc (.cells #[.int .i64 size, .slice a n cap] 26)) (.cells #[.int .i64 0, .slice none 0 0] 26); simp only [World.size_alloc] at this; exact this))
  have HE2 := hide (heap_alloc_new ((w.alloc (.cells #[.int .i64 size, .slice a n cap] 26)).alloc (.cells #[.int .i64 0, .slice none 0 0] 26)) (.cells #[.int .i64 size, .slice none 0 0] 26))
  have hsz : (((w.alloc (.cells #[.int .i64 size, .slice a n cap] 26)).alloc (.cells #[.int .i64 0, .slice none 0 0] 26)).alloc (.cells #[.int .i64 size, .slice none 0 0] 26)).heap.size = w.heap.size + 1 + 1 + 1 := by simp
  simp only [World.size_alloc] at HE2
  go_enter Try.func27, Try.ntmps27
  go_wp2
  generalize ((w.alloc (.cells #[.int .i64 size, .slice a n cap] 26)).alloc (.cells #[.int .i64 0, .slice none 0 0] 26)).alloc (.cells #[.int .i64 size, .slice none 0 0] 26) = w1 at *
  have HS := hide hsz
  clear hsz
  go_loopw [4] (fun i wr => ∃ (j : Nat) (ys : List (Pk × Value)) (al : Option Addr) (cl : Nat), Hid (wr.heap[w.heap.size + 1 + 1]? = some (.cells #[.int .i64 size, .slice al j cl] 26 (0, 0))) ∧ j ≤ n ∧ i = .int .i64 (j : Int) ∧ Hid (ys.length = j ∧ ys.map Prod.fst = ps.take j) ∧ Hid (OwnX wr (w.heap.size + 1 + 1 + 1) wr.heap.size (.slice al j cl) ys) ∧ Hid (Below (w.heap.size + 1 + 1) w1 wr) ∧ w.heap.size + 1 + 1 + 1 ≤ wr.heap.size) (fun i _ => n - (intOf i).toNat)
  case atStart => exact ⟨0, [], none, 0, HE2, Nat.zero_le _, rfl, hide ⟨rfl, by simp⟩, hide (ownX_nil _ _ _), hide (Below.refl _ _), by rw [HS.out]; omega⟩
  case round =>
    obtain ⟨j, ys, al, cl, HL, hj, rfl, HY, HO, HB, hs⟩ := hrel
    have HW := hide (HB1.out.trans (HB.out.mono (by omega)))
    have E0 := (HB.out.block w.heap.size (by omega)).trans HE0.out
    have f1 := (box_of E0).1 1 _ rfl
    have k0 := (box_of HL.out).1 0 _ rfl
    have k1 := (box_of HL.out).1 1 _ rfl
    have kz := (box_of HL.out).2 1
    clear E0
    by_cases hlt : j < n
    · obtain ⟨a', cap', ea, _, _, hx⟩ := HX.out wr HW.out
      cases ea
      obtain ⟨b, o, rfl, hb, hc⟩ := hx (by omega)
      obtain ⟨a2, c2, e0, e1, e2, e3, hc0, hin⟩ := hc j hlt
      have HP : Hid (ps.take (j + 1) = ps.take j ++ [ps.getD j default]) := hide (by rw [List.take_succ_eq_append_getElem (by omega)]; simp [show j < ps.length by omega])
      have HT := hide (show Bt wr.drew wr.drew.heap.size (.slice a2 (ps.getD j default).b.length c2) (ps.getD j default).b from ⟨a2, c2, rfl, hc0, (hin.up (show B ≤ wr.heap.size by omega)).drewN 1⟩)
      clear hc hx hin hc0
      generalize ps.getD j default = p at *
      have hnn : Hid (ys.length ≤ 2000000) := hide (by rw [HY.out.1]; omega)
      go_wp2
      go_region_law
        (first
          | (refine step_call rfl 29 _ _ rfl #[pkV p (.slice a2 p.b.length c2)] (by kernel_rfl) (copyPkS _ p _ HT.out) ?_; rintro e w2 ⟨u, rfl, ou, b2⟩; refine ⟨_, rfl, ?_⟩; obtain ⟨au, cu, rfl⟩ := own_shape ou; have c0 := (below_of_drew b2).cell (p := ⟨w.heap.size + 1 + 1, 1, none⟩) (by simp; omega); rw [k1] at c0; have bB := below_of_drew b2; have hsB := bB.size; have HB2 := hide (HB.out.trans (bB.mono (by omega))); have HO2 := hide (HO.out.below bB); have HU := hide (ou.mono (show w.heap.size + 1 + 1 + 1 ≤ wr.drew.heap.size from hs));
              have HF : Hid (∀ q, (Value.slice au p.b.length cu).ownBlock = some q → (Value.slice al j cl).ownBlock ≠ some q ∧ ∀ z ∈ ys.map Prod.snd, z.ownBlock ≠ some q) := hide (fun q hq => by
                have h1 : wr.heap.size ≤ q := (ou.lt q hq).1
                exact ⟨fun e => by have := HO.out.2.2.2.1 q e; omega, fun z hz e => by have := HO.out.2.2.2.2 z hz q e; omega⟩);
              have HL2 := hide ((bB.block (w.heap.size + 1 + 1) (by omega)).trans HL.out); have HBB := hide bB; clear b2 bB ou;
              have HBx := hide (Box.new w2 #[.int .i64 p.f, .int .i64 p.t, .slice au p.b.length cu, .bool p.s] 28);
              have bD := (Below.refl w2.heap.size w2).alloc (Nat.le_refl _) (.cells #[.int .i64 p.f, .int .i64 p.t, .slice au p.b.length cu, .bool p.s] 28);
              have HO3 := hide (HO2.out.below bD); have HU3 := hide (HU.out.below bD); have HB3 := hide (HB2.out.trans (bD.mono (by omega))); have HL3 := hide ((bD.block (w.heap.size + 1 + 1) (by omega)).trans HL2.out);
              have HSD : Hid (w.heap.size + 1 + 1 + 1 ≤ (w2.alloc (.cells #[.int .i64 p.f, .int .i64 p.t, .slice au p.b.length cu, .bool p.s] 28)).heap.size) := hide (Nat.le_trans hs (Nat.le_trans hsB bD.size)); have HQ2 : Hid (∀ r : Addr, r.block < wr.heap.size → (w2.alloc (.cells #[.int .i64 p.f, .int .i64 p.t, .slice au p.b.length cu, .bool p.s] 28)).cell? r = wr.cell? r) := hide (fun r hr => (HBB.out.trans (bD.mono hsB)).cell hr); have x0 := (HQ2.out ⟨w.heap.size + 1 + 1, 1, none⟩ (by simp; omega)).trans k1; clear bD HO2 HU HB2 HL2 HBB; unfold pkV)
          | (refine step_app_Pk (by rfl) _ _ (by rfl) (w.heap.size + 1 + 1 + 1) _ w2.heap.size 1 _ ys (p, .slice au p.b.length cu) (by rfl) HO3.out (by rfl) HBx.out HU3.out HF.out hnn.out HSD.out ?_; intro v4 w4 o4 g4 _; obtain ⟨a4, c4', e4⟩ := o4.shape; have HO4 := hide o4; rw [List.length_append, HY.out.1] at e4; subst e4;
              have hlo : Hid (∀ q, q < w.heap.size + 1 + 1 + 1 → some q ≠ (Value.slice al j cl).ownBlock) := hide (fun q hq e => by have := (World.ownsRow.lt HO3.out.1 q e.symm).1; omega);
              have HL4 := hide ((g4.block (w.heap.size + 1 + 1) (by have := HSD.out; omega) (hlo.out _ (by omega))).trans HL3.out); have HB4 := hide (HB3.out.grown g4 (by have := HSD.out; omega) (fun q hq => by have := (World.ownsRow.lt HO3.out.1 q hq).1; omega)); have hs4 := g4.size;
              have q4 : ∀ r : Addr, r.block < w.heap.size + 1 + 1 + 1 → w4.cell? r = wr.cell? r := fun r hr => (World.cell?_of_block (g4.block r.block (by have := HSD.out; omega) (hlo.out _ hr))).trans (HQ2.out r (by omega)); have d1 := (q4 ⟨w.heap.size, 1, none⟩ (by simp; omega)).trans f1; have d2 := (q4 ⟨b, o + j * 4, none⟩ (by simp; omega)).trans e0; have d3 := (q4 ⟨b, o + j * 4 + 1, none⟩ (by simp; omega)).trans e1; have d4 := (q4 ⟨b, o + j * 4 + 2, none⟩ (by simp; omega)).trans e2; have d5 := (q4 ⟨b, o + j * 4 + 3, none⟩ (by simp; omega)).trans e3; clear q4; have d0 := (box_of HL4.out).1 1 _ rfl; have dz := (box_of HL4.out).2 1;
              clear o4))
      all_goals (
        have HL5 : Hid ((w4.setCell ⟨w.heap.size + 1 + 1, 1, none⟩ (.slice a4 (j + 1) c4')).heap[w.heap.size + 1 + 1]? = some (.cells #[.int .i64 size, .slice a4 (j + 1) c4'] 26 (0, 0))) := hide (heap_setCell_same w4 (w.heap.size + 1 + 1) 1 _ 26 (.slice a4 (j + 1) c4') HL4.out)
        have HO5 := hide ((HO4.out.same (w' := w4.setCell ⟨w.heap.size + 1 + 1, 1, none⟩ (.slice a4 (j + 1) c4')) (fun q hq _ _ => heap_setCell_other w4 _ q _ (by simp; omega))).up (hi' := (w4.setCell ⟨w.heap.size + 1 + 1, 1, none⟩ (.slice a4 (j + 1) c4')).heap.size) (by simp))
        have HB5 := hide (HB4.out.setCell (p := ⟨w.heap.size + 1 + 1, 1, none⟩) (Nat.le_refl _) (.slice a4 (j + 1) c4'))
        have hs5 : w.heap.size + 1 + 1 + 1 ≤ (w4.setCell ⟨w.heap.size + 1 + 1, 1, none⟩ (.slice a4 (j + 1) c4')).heap.size := by simp; have := HSD.out; omega
        go_wp2
        exact ⟨⟨j + 1, ys ++ [(p, .slice au p.b.length cu)], a4, c4', HL5, by omega, by go_num, hide ⟨by rw [List.length_append, HY.out.1]; rfl, by rw [List.map_append, HY.out.2, HP.out]; rfl⟩, HO5, HB5, hs5⟩, by simp [intOf]; omega⟩)
    · obtain rfl : j = n := by omega
      have HF : Hid (OwnP wr (w.heap.size + 1 + 1 + 1) wr.heap.size (.slice al j cl) ps) := hide ⟨ys, by rw [HY.out.2, ← hn, List.take_length], HO.out⟩
      have E1 := (HB.out.block (w.heap.size + 1) (by omega)).trans HE1.out
      have r0 := (box_of E1).1 0 _ rfl
      have r1 := (box_of E1).1 1 _ rfl
      have z1 := (box_of E1).2
      have HE := hide E1
      clear E1
      go_wp2
      refine bodyPost_ret (v := .agg #[.int .i64 size, .slice al j cl]) (results_one Try.results27 _ _ _ rfl (load2 (put2 HE.out _ _))) rfl ⟨_, rfl, ?_, ?_⟩
      · refine ((OwnP.same HF.out (fun q hq _ _ => ?_)).mono (by omega)).up (by simp)
        rw [heap_setCell_other _ _ _ _ (by simp; omega), heap_setCell_other _ _ _ _ (by simp; omega)]
      · exact (HW.out.setCell (by simp) _).setCell (by simp) _
end Go.Proofs.Ytmlbemcblgnbjaa
