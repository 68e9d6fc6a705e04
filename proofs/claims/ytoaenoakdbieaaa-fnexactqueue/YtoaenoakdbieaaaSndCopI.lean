/-
  Messages and senders copied by the program.
-/
import Derived.Test.YtoaenoakdbieaaaCopyM
namespace Go.Proofs.Ytoaenoakdbieaaa
open Go.RowKit

theorem one_cellC (cs : List (Int × Bool × Int)) : ∀ u ∈ cs.flatMap cellC, u.oneCell' = true := by
  intro u hu
  obtain ⟨x, _, hx⟩ := List.mem_flatMap.1 hu
  simp [cellC] at hx
  rcases hx with rfl | rfl | rfl <;> rfl
theorem one_noteC (cs : List (Int × Int)) : ∀ u ∈ cs.flatMap noteC, u.oneCell' = true := by
  intro u hu
  obtain ⟨x, _, hx⟩ := List.mem_flatMap.1 hu
  simp [noteC] at hx
  rcases hx with rfl | rfl <;> rfl
theorem one_msC {w : World} {B : Nat} {x : MsX} (h : Mt w B x) : ∀ u ∈ msC x, u.oneCell' = true := by
  intro u hu
  obtain ⟨a5, c5, e5, _⟩ := cells_at h.1
  obtain ⟨a6, c6, e6, _⟩ := notes_at h.2
  simp [msC, e5, e6] at hu
  rcases hu with rfl | rfl | rfl | rfl | rfl | rfl | rfl <;> rfl
theorem one_msCs {w : World} {B : Nat} {xs : List MsX} (h : ∀ x ∈ xs, Mt w B x) : ∀ u ∈ xs.flatMap msC, u.oneCell' = true := by
  intro u hu
  obtain ⟨x, hx, hu⟩ := List.mem_flatMap.1 hu
  exact one_msC (h x hx) u hu

set_option maxRecDepth 100000 in
set_option maxHeartbeats 4000000 in
theorem copyMsI (w : World) (m : Ms) (cv nv : Value) (h : Mt w w.heap.size (m, cv, nv)) (hg : GoodM m) :
    Calls Try.prog 95 #[msV m cv nv] w fun e w' => ∃ v5 v6, e = .returned (msV m v5 v6) ∧ OwnC w' w.heap.size v5 m.cs ∧ OwnN w' w.heap.size v6 m.ns ∧ Below w.heap.size w w' ∧ (∀ b, v5.ownBlock = some b → ∀ b', v6.ownBlock = some b' → b < b') := by
  have HC := hide h.1
  have HN := hide h.2
  obtain ⟨a5, cap5, e5, _⟩ := cells_at h.1
  obtain ⟨a6, cap6, e6, _⟩ := notes_at h.2
  simp only at e5 e6
  subst e5 e6
  clear h
  obtain ⟨k, i, u, c, n, cs, ns⟩ := m
  simp only at HC HN hg
  have hgc : cs.length ≤ 1048576 := hg.1
  have hgn : ns.length ≤ 1048576 := hg.2
  clear hg
  unfold msV msgV
  simp only
  go_enter Try.func95, Try.ntmps95
  go_wp2_with fail
  have G0 := heap_alloc_new w (.cells #[.int .i64 k, .int .i64 i, .int .i64 u, .int .i64 c, .int .i64 n, .slice a5 cs.length cap5, .slice a6 ns.length cap6] 65)
  have G1 := heap_alloc_new (w.alloc (.cells #[.int .i64 k, .int .i64 i, .int .i64 u, .int .i64 c, .int .i64 n, .slice a5 cs.length cap5, .slice a6 ns.length cap6] 65)) (.cells #[.int .i64 0, .int .i64 0, .int .i64 0, .int .i64 0, .int .i64 0, .slice none 0 0, .slice none 0 0] 65)
  simp only [World.size_alloc] at G1
  have bA := ((Below.refl w.heap.size w).alloc (Nat.le_refl _) (.cells #[.int .i64 k, .int .i64 i, .int .i64 u, .int .i64 c, .int .i64 n, .slice a5 cs.length cap5, .slice a6 ns.length cap6] 65)).alloc (by simp) (.cells #[.int .i64 0, .int .i64 0, .int .i64 0, .int .i64 0, .int .i64 0, .slice none 0 0, .slice none 0 0] 65)
  refine (copyListCell _ _ cs (HC.out.at bA) (by omega) (one_cellC cs)).mono ?_
  rintro e w1 ⟨v5, rfl, o5, b1⟩
  have HO5 : Hid (OwnC w1 (w.heap.size + 1 + 1) v5 cs) := hide (by unfold OwnC; simpa using o5)
  obtain ⟨a7, c7, rfl⟩ := ownC_shape HO5.out
  have E0 := (b1.block w.heap.size (by simp; omega)).trans ((Below.heap_alloc _ _ _ (by simp)).trans G0)
  have E1 := (b1.block (w.heap.size + 1) (by simp)).trans G1
  have HB := hide (bA.trans (b1.mono (by simp; omega)))
  have hs1 : w.heap.size + 1 + 1 ≤ w1.heap.size := by have := b1.size; simpa using this
  clear b1 o5 G0 G1 bA
  have f5 := (box_of E0).1 5 _ rfl
  have f6 := (box_of E0).1 6 _ rfl
  have z0 := (box_of E0).2
  have HE := hide (And.intro E0 E1)
  clear E0 E1
  go_wp2_with fail
  clear f5 f6 z0
  have E0 := heap_setCell_same w1 w.heap.size 5 _ 65 (.slice a7 cs.length c7) HE.out.1
  have E1 := (heap_setCell_other w1 ⟨w.heap.size, 5, none⟩ (w.heap.size + 1) (.slice a7 cs.length c7) (by simp)).trans HE.out.2
  simp at E0
  replace HB := hide (HB.out.setCell (p := ⟨w.heap.size, 5, none⟩) (Nat.le_refl _) (.slice a7 cs.length c7))
  have H5 := hide (ownsRow_setCell_below HO5.out (a := ⟨w.heap.size, 5, none⟩) (by dsimp only; omega) (.slice a7 cs.length c7))
  clear HO5 HE
  have hs1' : w.heap.size + 1 + 1 ≤ (w1.setCell ⟨w.heap.size, 5, none⟩ (.slice a7 cs.length c7)).heap.size := by simpa using hs1
  generalize w1.setCell ⟨w.heap.size, 5, none⟩ (.slice a7 cs.length c7) = w2 at *
  refine (copyListNote _ _ ns (HN.out.at HB.out) (by omega) (one_noteC ns)).mono ?_
  rintro e w3 ⟨v6, rfl, o6, b3⟩
  have HO6 : Hid (OwnN w3 w2.heap.size v6 ns) := hide o6
  obtain ⟨a8, c8, rfl⟩ := ownN_shape HO6.out
  have l5 := OwnC.lt H5.out
  have hlt : Hid (∀ b, (Value.slice a7 cs.length c7).ownBlock = some b → ∀ b', (Value.slice a8 ns.length c8).ownBlock = some b' → b < b') := hide fun b hb b' hb' => Nat.lt_of_lt_of_le (l5 b hb).2 (HO6.out.lt b' hb').1
  replace H5 := hide (OwnC.below H5.out b3)
  replace E0 := (b3.block w.heap.size (by omega)).trans E0
  replace E1 := (b3.block (w.heap.size + 1) (by omega)).trans E1
  replace HB := hide (HB.out.trans (b3.mono HB.out.size))
  have hs3 := b3.size
  clear b3 o6 l5
  have X0 := (box_of E0).1
  have z0 := (box_of E0).2
  have X1 := (box_of E1).1
  have z1 := (box_of E1).2
  have HX0 := hide X0
  have HX1 := hide X1
  clear X0 X1
  have f0 := HX0.out 0 _ rfl
  have f1 := HX0.out 1 _ rfl
  have f2 := HX0.out 2 _ rfl
  have f3 := HX0.out 3 _ rfl
  have f4 := HX0.out 4 _ rfl
  have f5 := HX0.out 5 _ rfl
  have f6 := HX0.out 6 _ rfl
  have r0 := HX1.out 0 _ rfl
  have r1 := HX1.out 1 _ rfl
  have r2 := HX1.out 2 _ rfl
  have r3 := HX1.out 3 _ rfl
  have r4 := HX1.out 4 _ rfl
  have r5 := HX1.out 5 _ rfl
  have r6 := HX1.out 6 _ rfl
  have H1 := hide E1
  clear E0 E1 HX0 HX1
  go_wp2
  refine bodyPost_ret (v := .agg #[.int .i64 k, .int .i64 i, .int .i64 u, .int .i64 c, .int .i64 n, .slice a7 cs.length c7, .slice a8 ns.length c8]) (results_one Try.results95 _ _ _ rfl (load7 (put7 ((heap_setCell_other _ _ _ _ (by simp)).trans H1.out) _ _ _ _ _ _ _))) rfl ⟨_, _, rfl, ?_, ?_, ?_, hlt.out⟩
  · refine OwnC.mono (b := w.heap.size + 1 + 1) (ownsRow_setCell_below (ownsRow_setCell_below (ownsRow_setCell_below (ownsRow_setCell_below (ownsRow_setCell_below (ownsRow_setCell_below (ownsRow_setCell_below (ownsRow_setCell_below H5.out ?_ _) ?_ _) ?_ _) ?_ _) ?_ _) ?_ _) ?_ _) ?_ _) (by omega)
    all_goals (dsimp only; omega)
  · refine OwnN.mono (b := w2.heap.size) (ownsRow_setCell_below (ownsRow_setCell_below (ownsRow_setCell_below (ownsRow_setCell_below (ownsRow_setCell_below (ownsRow_setCell_below (ownsRow_setCell_below (ownsRow_setCell_below HO6.out ?_ _) ?_ _) ?_ _) ?_ _) ?_ _) ?_ _) ?_ _) ?_ _) (by omega)
    all_goals (dsimp only; omega)
  · refine (((((((HB.out.setCell ?_ _).setCell ?_ _).setCell ?_ _).setCell ?_ _).setCell ?_ _).setCell ?_ _).setCell ?_ _).setCell ?_ _
    all_goals (dsimp only; omega)
set_option maxRecDepth 100000 in
set_option maxHeartbeats 8000000 in
theorem copySndI (w : World) (base : Int) (v : Value) (ms : List Ms) (h : RdS w w.heap.size v ms) (hm : ms.length ≤ 2000000) (hgd : GoodS ms) :
    Calls Try.prog 74 #[sndV base v] w fun e w' => ∃ v', e = .returned (sndV base v') ∧ OwnS w' w.heap.size w'.heap.size v' ms ∧ Below w.heap.size w w' := by
  obtain ⟨xs, rfl, hrd, hmt⟩ := h
  have HR := hide hrd
  have HM := hide hmt
  have HGD : Hid (∀ x ∈ xs, GoodM x.1) := hide (fun x hx => hgd x.1 (List.mem_map_of_mem hx))
  obtain ⟨_, a, cap, rfl, _⟩ := hrd
  rw [List.length_map] at hm
  clear hmt hgd
  unfold sndV
  have G0 := heap_alloc_new w (.cells #[.int .i64 base, .slice a xs.length cap] 51)
  have G1 := heap_alloc_new (w.alloc (.cells #[.int .i64 base, .slice a xs.length cap] 51)) (.cells #[.int .i64 0, .slice none 0 0] 51)
  simp only [World.size_alloc] at G1
  have bA := ((Below.refl w.heap.size w).alloc (Nat.le_refl _) (.cells #[.int .i64 base, .slice a xs.length cap] 51)).alloc (by simp) (.cells #[.int .i64 0, .slice none 0 0] 51)
  have HG := hide (And.intro G0 G1)
  have HA := hide bA
  clear G0 G1 bA
  go_enter Try.func74, Try.ntmps74
  go_wp2_with fail
  refine (copyListM _ _ xs (HR.out.at HA.out) hm (one_msCs HM.out)).mono ?_
  rintro e w1 ⟨v1, rfl, o1, b1⟩
  have E0 := (b1.block w.heap.size (by simp; omega)).trans ((Below.heap_alloc _ _ _ (by simp)).trans HG.out.1)
  have E1 := (b1.block (w.heap.size + 1) (by simp)).trans HG.out.2
  have hs1 : w.heap.size + 1 + 1 ≤ w1.heap.size := by have := b1.size; simpa using this
  have HB1 := hide (HA.out.trans (b1.mono HA.out.size))
  have o1' : w1.ownsRow (w.heap.size + 1 + 1) 65 7 v1 xs.length (xs.flatMap msC) := by simpa using o1
  have HT := hide (ownT_start o1' rfl (fun q hq => (World.ownsRow.lt o1' q hq).2))
  obtain ⟨a1, c1, e1⟩ : ∃ a1 c1, v1 = .slice a1 xs.length c1 := by
    rcases o1.2 with ⟨e, h0⟩ | ⟨g, c, _, e, _⟩
    · exact ⟨_, _, by rw [e, h0]⟩
    · exact ⟨_, _, e⟩
  subst e1
  have HE := hide (And.intro E0 E1)
  clear b1 o1 o1' E0 E1 HA HG
  generalize hn : xs.length = n at *
  have HN := hide hn
  clear hn
  go_wp2
  go_loopw [11] (fun i wr => ∃ (j : Nat) (ys : List MsX), j ≤ n ∧ i = .int .i64 (j : Int) ∧ Hid (ys.length = j ∧ ys.map Prod.fst = (xs.map Prod.fst).take j) ∧ Hid (OwnT wr (w.heap.size + 1 + 1) wr.heap.size (.slice a1 n c1) ys (xs.drop j)) ∧ Hid (Below w.heap.size w wr) ∧ Hid (w1.heap.size ≤ wr.heap.size ∧ wr.heap[w.heap.size]? = some (.cells #[.int .i64 base, .slice a n cap] 51 (0, 0)) ∧ wr.heap[w.heap.size + 1]? = some (.cells #[.int .i64 0, .slice none 0 0] 51 (0, 0)))) (fun i _ => n - (intOf i).toNat)
  case atStart => exact ⟨0, [], Nat.zero_le _, rfl, hide ⟨rfl, by simp⟩, HT, HB1, hide ⟨Nat.le_refl _, HE.out.1, HE.out.2⟩⟩
  case round =>
    clear HT HB1 HE
    obtain ⟨j, ys, hj, rfl, HY, HO, HB, HE⟩ := hrel
    by_cases hlt : j < n
    · have hjx : j < xs.length := by rw [HN.out]; exact hlt
      have HD : Hid (xs.drop j = xs.getD j default :: xs.drop (j + 1)) := hide (by rw [List.drop_eq_getElem_cons hjx]; simp [hjx])
      have hxm : xs.getD j default ∈ xs := by
        have : xs.getD j default = xs[j] := by simp [hjx]
        rw [this]; exact List.getElem_mem _
      have HP : Hid ((xs.map Prod.fst).take (j + 1) = (xs.map Prod.fst).take j ++ [(xs.getD j default).1]) := hide (by rw [List.take_succ_eq_append_getElem (by simpa using hjx)]; simp [hjx])
      have HMj := hide (HM.out _ hxm)
      have HGj := hide (HGD.out _ hxm)
      have hyj := HY.out.1
      obtain ⟨g, rfl⟩ : ∃ g, a1 = some ⟨g, 0, none⟩ := by
        rcases HO.out.1.2 with ⟨e, h1⟩ | ⟨g, c', _, e, _⟩
        · simp only [Value.slice.injEq] at e; omega
        · simp only [Value.slice.injEq] at e; exact ⟨g, e.1⟩
      have hlen : (ys ++ xs.drop j).length = n := by rw [List.length_append, hyj, List.length_drop, HN.out]; omega
      have hrow := HO.out.1
      rw [hlen] at hrow
      have fc : ∀ r, r < 7 → wr.cell? ⟨g, j * 7 + r, none⟩ = (msC (xs.getD j default))[r]? := fun r hr => by
        rw [World.ownsRow.cellAt hrow _ (by omega), flat_get msC 7 msC_len _ default j r (by rw [hlen]; exact hlt) hr, HD.out]
        have : (ys ++ xs.getD j default :: xs.drop (j + 1)).getD j default = xs.getD j default := by rw [List.getD_eq_getElem?_getD, List.getElem?_append_right (by omega), hyj, Nat.sub_self]; rfl
        rw [this]
      rw [HD.out] at HO
      generalize xs.getD j default = x at *
      obtain ⟨p, cv, nv⟩ := x
      obtain ⟨a5, c5, ec, _⟩ := cells_at HMj.out.1
      obtain ⟨a6, c6, en, _⟩ := notes_at HMj.out.2
      simp only at ec en
      subst ec en
      have d0 := fc 0 (by omega)
      have d1 := fc 1 (by omega)
      have d2 := fc 2 (by omega)
      have d3 := fc 3 (by omega)
      have d4 := fc 4 (by omega)
      have d5 := fc 5 (by omega)
      have d6 := fc 6 (by omega)
      rw [Nat.add_zero] at d0
      simp only [msC, List.getElem?_cons_zero, List.getElem?_cons_succ] at d0 d1 d2 d3 d4 d5 d6
      have hs := HB.out.size
      have bA := (Below.refl wr.heap.size wr).alloc (Nat.le_refl _) (.cells #[.int .i64 p.k, .int .i64 p.i, .int .i64 p.u, .int .i64 p.c, .int .i64 p.n, .slice a5 p.cs.length c5, .slice a6 p.ns.length c6] 65)
      have HA := hide bA
      have hgl : g < wr.heap.size := (World.ownsRow.lt hrow g rfl).2
      have hgb : w.heap.size + 1 + 1 ≤ g := (World.ownsRow.lt hrow g rfl).1
      clear fc hrow hxm bA hlen
      go_wp2_with fail
      clear d0 d1 d2 d3 d4 d5 d6
      refine (copyMsI _ p _ _ ((HMj.out.kept (fun k hk => HB.out.block k hk)).up hs |>.at HA.out) HGj.out).mono ?_
      rintro e w2 ⟨v5, v6, rfl, o5, o6, b2, hord⟩
      obtain ⟨au, cu, rfl⟩ := ownC_shape o5
      obtain ⟨av, cw, rfl⟩ := ownN_shape o6
      have bT := HA.out.trans (b2.mono HA.out.size)
      have hs2 := bT.size
      obtain ⟨hc, hf, ho2⟩ := OwnT.put (z := (p, .slice a5 p.cs.length c5, .slice a6 p.ns.length c6)) (zs := xs.drop (j + 1)) (ys := ys) ((HO.out.below bT).up hs2) (by rw [hyj, List.length_drop, HN.out]; omega) p (.slice au p.cs.length cu) (.slice av p.ns.length cw) (o5.mono (by simp; omega)) (o6.mono (by simp; omega)) (fun q hq => by
        have h1 := o5.lt q hq
        simp only [World.size_alloc] at h1
        refine ⟨by omega, fun x hx e => ?_, h1.2⟩
        have := HO.out.2.2.2.2 x hx q e
        omega) (fun q hq => by
        have h1 := o6.lt q hq
        simp only [World.size_alloc] at h1
        refine ⟨by omega, fun x hx e => ?_, h1.2, fun e => ?_⟩
        · have := HO.out.2.2.2.2 x hx q e
          omega
        · have := hord q e q hq; omega)
      rw [hyj] at hc ho2
      obtain ⟨y0, d0⟩ := hc 0 (by omega)
      obtain ⟨y1, d1⟩ := hc 1 (by omega)
      obtain ⟨y2, d2⟩ := hc 2 (by omega)
      obtain ⟨y3, d3⟩ := hc 3 (by omega)
      obtain ⟨y4, d4⟩ := hc 4 (by omega)
      obtain ⟨y5, d5⟩ := hc 5 (by omega)
      obtain ⟨y6, d6⟩ := hc 6 (by omega)
      rw [Nat.add_zero] at d0
      replace HO := hide ho2
      have HY2 : Hid ((ys ++ [(p, Value.slice au p.cs.length cu, Value.slice av p.ns.length cw)]).length = j + 1 ∧ (ys ++ [(p, Value.slice au p.cs.length cu, Value.slice av p.ns.length cw)]).map Prod.fst = (xs.map Prod.fst).take (j + 1)) := hide ⟨by rw [List.length_append, HY.out.1]; rfl, by rw [List.map_append, HY.out.2, HP.out]; rfl⟩
      replace HB := hide (HB.out.trans (bT.mono HB.out.size))
      replace HB := hide (((((((HB.out.setCell (p := ⟨g, j * 7, none⟩) (by dsimp only; omega) (.int .i64 p.k)).setCell (p := ⟨g, j * 7 + 1, none⟩) (by dsimp only; omega) (.int .i64 p.i)).setCell (p := ⟨g, j * 7 + 2, none⟩) (by dsimp only; omega) (.int .i64 p.u)).setCell (p := ⟨g, j * 7 + 3, none⟩) (by dsimp only; omega) (.int .i64 p.c)).setCell (p := ⟨g, j * 7 + 4, none⟩) (by dsimp only; omega) (.int .i64 p.n)).setCell (p := ⟨g, j * 7 + 5, none⟩) (by dsimp only; omega) (.slice au p.cs.length cu)).setCell (p := ⟨g, j * 7 + 6, none⟩) (by dsimp only; omega) (.slice av p.ns.length cw))
      have hk7 : ∀ q, q ≠ g → (((((((w2.setCell ⟨g, j * 7, none⟩ (.int .i64 p.k)).setCell ⟨g, j * 7 + 1, none⟩ (.int .i64 p.i)).setCell ⟨g, j * 7 + 2, none⟩ (.int .i64 p.u)).setCell ⟨g, j * 7 + 3, none⟩ (.int .i64 p.c)).setCell ⟨g, j * 7 + 4, none⟩ (.int .i64 p.n)).setCell ⟨g, j * 7 + 5, none⟩ (.slice au p.cs.length cu)).setCell ⟨g, j * 7 + 6, none⟩ (.slice av p.ns.length cw)).heap[q]? = w2.heap[q]? := fun q hq => by
        rw [heap_setCell_other _ _ _ _ (by simpa using hq), heap_setCell_other _ _ _ _ (by simpa using hq), heap_setCell_other _ _ _ _ (by simpa using hq), heap_setCell_other _ _ _ _ (by simpa using hq), heap_setCell_other _ _ _ _ (by simpa using hq), heap_setCell_other _ _ _ _ (by simpa using hq), heap_setCell_other _ _ _ _ (by simpa using hq)]
      have HE2 : Hid (w1.heap.size ≤ (((((((w2.setCell ⟨g, j * 7, none⟩ (.int .i64 p.k)).setCell ⟨g, j * 7 + 1, none⟩ (.int .i64 p.i)).setCell ⟨g, j * 7 + 2, none⟩ (.int .i64 p.u)).setCell ⟨g, j * 7 + 3, none⟩ (.int .i64 p.c)).setCell ⟨g, j * 7 + 4, none⟩ (.int .i64 p.n)).setCell ⟨g, j * 7 + 5, none⟩ (.slice au p.cs.length cu)).setCell ⟨g, j * 7 + 6, none⟩ (.slice av p.ns.length cw)).heap.size ∧ _ ∧ _) := hide ⟨by simp; exact Nat.le_trans HE.out.1 hs2, (hk7 _ (by omega)).trans ((bT.block w.heap.size (by omega)).trans HE.out.2.1), (hk7 _ (by omega)).trans ((bT.block (w.heap.size + 1) (by omega)).trans HE.out.2.2)⟩
      clear b2 bT ho2 o5 o6 hc hord hk7 HE HMj HGj
      obtain ⟨mk, mi, mu, mc, mn, mcs, mns⟩ := p
      unfold msV msgV
      simp only at HO HB HE2 ⊢
      go_wp2
      exact ⟨⟨j + 1, ys ++ [(⟨mk, mi, mu, mc, mn, mcs, mns⟩, .slice au mcs.length cu, .slice av mns.length cw)], hlt, by go_num, HY2, hide (by simpa using HO.out), HB, HE2⟩, by simp [intOf]; omega⟩
    · obtain rfl : j = n := by omega
      have HF : Hid (OwnS wr (w.heap.size + 1 + 1) wr.heap.size (.slice a1 j c1) (xs.map Prod.fst)) := hide ⟨ys, by rw [HY.out.2, ← HN.out, ← List.map_take, List.take_length], by have := HO.out; rw [← HN.out, List.drop_length, HN.out] at this; exact this.done⟩
      have f0 := (box_of HE.out.2.1).1 0 _ rfl
      have r0 := (box_of HE.out.2.2).1 0 _ rfl
      have r1 := (box_of HE.out.2.2).1 1 _ rfl
      have z1 := (box_of HE.out.2.2).2
      go_wp2
      refine bodyPost_ret (v := .agg #[.int .i64 base, .slice a1 j c1]) (results_one Try.results74 _ _ _ rfl (loadS (put2 HE.out.2.2 _ _))) rfl ⟨_, rfl, ?_, ?_⟩
      · refine ((OwnS.same HF.out (fun q hq _ _ => ?_)).mono (by omega)).up (by simp)
        rw [heap_setCell_other _ _ _ _ (by simp; omega), heap_setCell_other _ _ _ _ (by simp; omega)]
      · exact (HB.out.setCell (by simp) _).setCell (by simp) _
end Go.Proofs.Ytoaenoakdbieaaa
