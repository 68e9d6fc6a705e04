/-
  Rows of messages and senders: copied into new memory, held against each other.
-/
import Derived.Test.YtoaenoakdbieaaaSndTo
namespace Go.Proofs.Ytoaenoakdbieaaa
open Go.RowKit

theorem Try.infoMs : (Try.prog.info? 65).map (fun i => (i.zero, i.size, i.bytes)) = some (some (.agg #[.int .i64 0, .int .i64 0, .int .i64 0, .int .i64 0, .int .i64 0, .slice none 0 0, .slice none 0 0]), 7, 88) := by kernel_rfl

def zeroY : MsX := (⟨0, 0, 0, 0, 0, [], []⟩, .slice none 0 0, .slice none 0 0)
set_option maxRecDepth 100000 in
set_option maxHeartbeats 4000000 in
theorem toMss (w : World) (v : Value) (ms : List Ms) (h : RdS w w.heap.size v ms) (hm : ms.length ≤ 1048576) (hgd : GoodS ms) :
    Calls Try.prog 61 #[v] w fun e w' => ∃ v', e = .returned v' ∧ OwnS w' w.heap.size w'.heap.size v' ms ∧ Below w.heap.size w w' := by
  have HX : Hid (∀ wr, Below w.heap.size w wr → _) := hide (fun wr hb => ms_at (h.low hb (Nat.le_refl _)))
  have HG : Hid (∀ j, j < ms.length → GoodM (ms.getD j default)) := hide (fun j hj => hgd.at hj)
  obtain ⟨a, cap, rfl, _⟩ := ms_at h
  clear h hgd
  obtain ⟨i0, hi, hz0, hz1, hz2⟩ := info_parts Try.infoMs
  generalize hn : ms.length = n at *
  go_enter Try.func61, Try.ntmps61
  go_wp2_with (at_make; refine wpList_make_full _ rfl _ _ 49 rfl w.heap.size 65 i0 (.agg #[.int .i64 0, .int .i64 0, .int .i64 0, .int .i64 0, .int .i64 0, .slice none 0 0, .slice none 0 0]) 7 Try.underlying49 hi hz0 hz1 _ _ _ _ n rfl rfl rfl rfl (by rw [hz2]; omega) (by unfold maxLen; omega) (Nat.le_refl _) ?_; intro w1 ho1 hg1)
  have o1 : OwnT w1 w.heap.size w1.heap.size (.slice (some ⟨w.heap.size, 0, none⟩) n n) [] (List.replicate n zeroY) := by
    have em := made_flat msC 7 msC_len (by omega) zeroY (Value.agg #[.int .i64 0, .int .i64 0, .int .i64 0, .int .i64 0, .int .i64 0, .slice none 0 0, .slice none 0 0]).cells rfl n
    rw [em] at ho1
    exact ownT_start ho1 (by simp) (fun q hq => (World.ownsRow.lt ho1 q hq).2)
  have b1 : Below w.heap.size w w1 := (Below.refl _ _).grown hg1 (Nat.le_refl _) (fun k hk => by cases hk)
  clear ho1 hg1 hi hz0 hz1 hz2
  go_loopw [4] (fun i wr => ∃ (j : Nat) (ys : List MsX), j ≤ n ∧ i = .int .i64 (j : Int) ∧ Hid (ys.length = j ∧ ys.map Prod.fst = ms.take j) ∧ Hid (OwnT wr w.heap.size wr.heap.size (.slice (some ⟨w.heap.size, 0, none⟩) n n) ys (List.replicate (n - j) zeroY)) ∧ Hid (Below w.heap.size w wr)) (fun i _ => n - (intOf i).toNat)
  case atStart => exact ⟨0, [], Nat.zero_le _, rfl, hide ⟨rfl, by simp⟩, hide (by simpa using o1), hide b1⟩
  case round =>
    clear o1 b1
    obtain ⟨j, ys, hj, rfl, HY, HO, HB⟩ := hrel
    by_cases hlt : j < n
    · obtain ⟨a', cap', ea, _, _, hx⟩ := HX.out wr HB.out
      cases ea
      obtain ⟨b, o, rfl, hbB, hcell⟩ := hx (by omega)
      obtain ⟨cv, nv, e0, e1, e2, e3, e4, e5, e6, hmt⟩ := hcell j hlt
      have hs := HB.out.size
      have HT : Hid (Mt wr wr.heap.size (ms.getD j default, cv, nv)) := hide (hmt.up hs)
      obtain ⟨a5, c5, ec, _⟩ := cells_at hmt.1
      obtain ⟨a6, c6, en, _⟩ := notes_at hmt.2
      simp only at ec en
      subst ec en
      have HP : Hid (ms.take (j + 1) = ms.take j ++ [ms.getD j default]) := hide (by rw [List.take_succ_eq_append_getElem (by omega)]; simp [show j < ms.length by omega])
      have HGj := hide (HG.out j hlt)
      clear hcell hx hmt
      generalize ms.getD j default = p at *
      go_wp2_with fail
      refine (toMsg _ p.k p.i p.u p.c p.n _ _ p.cs p.ns HT.out.1 HT.out.2 HGj.out.1 HGj.out.2).mono ?_
      rintro e w2 ⟨v5, v6, rfl, o5, o6, b2, hord⟩
      obtain ⟨au, cu, rfl⟩ := ownC_shape o5
      obtain ⟨av, cw, rfl⟩ := ownN_shape o6
      have hs2 := b2.size
      have hlt2 : w.heap.size < wr.heap.size := HO.out.2.2.2.1 _ rfl
      have hyj := HY.out.1
      obtain ⟨hc, hf, ho2⟩ := OwnT.put (z := zeroY) (zs := List.replicate (n - (j + 1)) zeroY) (ys := ys) (by
          have := (HO.out.below b2).up hs2
          rwa [show n - j = n - (j + 1) + 1 by omega, List.replicate_succ] at this) (by rw [hyj, List.length_replicate]; omega) p (.slice au p.cs.length cu) (.slice av p.ns.length cw) (o5.mono hs) (o6.mono hs) (fun q hq => by
        have h1 := o5.lt q hq
        refine ⟨by omega, fun x hx e => ?_, h1.2⟩
        have := HO.out.2.2.2.2 x hx q e
        omega) (fun q hq => by
        have h1 := o6.lt q hq
        refine ⟨by omega, fun x hx e => ?_, h1.2, fun e => ?_⟩
        · have := HO.out.2.2.2.2 x hx q e
          omega
        · have := hord q e q hq; omega)
      rw [hyj] at hc ho2
      obtain ⟨y0, d0⟩ := hc 0 (by omega)
      obtain ⟨y1, d1⟩ := hc 1 (by omega)
      obtain ⟨y2, d2⟩ := hc 2 (by omega)
      obtain ⟨y3, d3⟩ := hc 3 (by omega)
      obtain ⟨y4, d4⟩ := hc 4 (by omega)
      obtain ⟨y5, d5⟩ := hc 5 (by omega)
      obtain ⟨y6, d6⟩ := hc 6 (by omega)
      rw [Nat.add_zero] at d0
      replace HO := hide ho2
      have HY2 : Hid ((ys ++ [(p, Value.slice au p.cs.length cu, Value.slice av p.ns.length cw)]).length = j + 1 ∧ (ys ++ [(p, Value.slice au p.cs.length cu, Value.slice av p.ns.length cw)]).map Prod.fst = ms.take (j + 1)) := hide ⟨by rw [List.length_append, HY.out.1]; rfl, by rw [List.map_append, HY.out.2, HP.out]; rfl⟩
      replace HB := hide (HB.out.trans (b2.mono HB.out.size))
      replace HB := hide (((((((HB.out.setCell (p := ⟨w.heap.size, j * 7, none⟩) (Nat.le_refl _) (.int .i64 p.k)).setCell (p := ⟨w.heap.size, j * 7 + 1, none⟩) (Nat.le_refl _) (.int .i64 p.i)).setCell (p := ⟨w.heap.size, j * 7 + 2, none⟩) (Nat.le_refl _) (.int .i64 p.u)).setCell (p := ⟨w.heap.size, j * 7 + 3, none⟩) (Nat.le_refl _) (.int .i64 p.c)).setCell (p := ⟨w.heap.size, j * 7 + 4, none⟩) (Nat.le_refl _) (.int .i64 p.n)).setCell (p := ⟨w.heap.size, j * 7 + 5, none⟩) (Nat.le_refl _) (.slice au p.cs.length cu)).setCell (p := ⟨w.heap.size, j * 7 + 6, none⟩) (Nat.le_refl _) (.slice av p.ns.length cw))
      clear b2 ho2 o5 o6 hc HT hord
      obtain ⟨mk, mi, mu, mc, mn, mcs, mns⟩ := p
      unfold msgV
      simp only at HO HB ⊢
      go_wp2
      exact ⟨⟨j + 1, ys ++ [(⟨mk, mi, mu, mc, mn, mcs, mns⟩, .slice au mcs.length cu, .slice av mns.length cw)], hlt, by go_num, HY2, hide (by simpa using HO.out), HB⟩, by simp [intOf]; omega⟩
    · obtain rfl : j = n := by omega
      have HF : Hid (OwnS wr w.heap.size wr.heap.size (.slice (some ⟨w.heap.size, 0, none⟩) j j) ms) := hide ⟨ys, by rw [HY.out.2, ← hn, List.take_length], by have := HO.out; rw [Nat.sub_self, List.replicate_zero] at this; exact this.done⟩
      go_wp2
      go_ret
      exact ⟨_, rfl, HF.out, HB.out⟩

set_option maxRecDepth 100000 in
set_option maxHeartbeats 2000000 in
theorem toSnd (w : World) (base : Int) (v : Value) (ms : List Ms) (h : RdS w w.heap.size v ms) (hm : ms.length ≤ 1048576) (hgd : GoodS ms) :
    Calls Try.prog 25 #[sndV base v] w fun e w' => ∃ v', e = .returned (sndV base v') ∧ OwnS w' w.heap.size w'.heap.size v' ms ∧ Below w.heap.size w w' := by
  have HR := hide h
  obtain ⟨a, cap, rfl, _⟩ := ms_at h
  clear h
  unfold sndV
  go_enter Try.func25, Try.ntmps25
  go_wp2_with fail
  have G1 := heap_alloc_new (w.alloc (.cells #[.int .i64 base, .slice a ms.length cap] 46)) (.cells #[.int .i64 0, .slice none 0 0] 51)
  have G2 := heap_alloc_new ((w.alloc (.cells #[.int .i64 base, .slice a ms.length cap] 46)).alloc (.cells #[.int .i64 0, .slice none 0 0] 51)) (.cells #[.int .i64 base, .slice none 0 0] 51)
  simp only [World.size_alloc] at G1 G2
  have bA := (((Below.refl w.heap.size w).alloc (Nat.le_refl _) (.cells #[.int .i64 base, .slice a ms.length cap] 46)).alloc (by simp) (.cells #[.int .i64 0, .slice none 0 0] 51)).alloc (by simp; omega) (.cells #[.int .i64 base, .slice none 0 0] 51)
  refine (toMss _ _ _ (HR.out.at bA) hm hgd).mono ?_
  rintro e w1 ⟨v1, rfl, o1, b1⟩
  have HO := hide o1
  obtain ⟨a1, c1, rfl⟩ := o1.shape
  have E1 := (b1.block (w.heap.size + 1) (by simp)).trans ((Below.heap_alloc _ _ _ (by simp)).trans G1)
  have E2 := (b1.block (w.heap.size + 1 + 1) (by simp)).trans G2
  have HB := hide (bA.trans (b1.mono (by simp; omega)))
  have hs1 := b1.size
  simp only [World.size_alloc] at hs1
  clear b1 o1 G1 G2 bA
  have X2 := box_of E2
  have X1 := box_of E1
  have g0 := X2.1 0 _ rfl
  have g1 := X2.1 1 _ rfl
  have z2 := X2.2
  have r0 := X1.1 0 _ rfl
  have r1 := X1.1 1 _ rfl
  have z1 := X1.2
  have H1 := hide E1
  simp only [World.size_alloc] at HO
  clear X1 X2 E1 E2
  go_wp2
  refine bodyPost_ret (v := .agg #[.int .i64 base, .slice a1 ms.length c1]) (results_one Try.results25 _ _ _ rfl (loadS (put2 ((heap_setCell_other _ _ _ _ (by simp)).trans H1.out) _ _))) rfl ⟨_, rfl, ?_, ?_⟩
  · refine ((OwnS.same HO.out (fun q hq _ _ => ?_)).mono (by omega)).up (by simp)
    rw [heap_setCell_other _ _ _ _ (by simp; omega), heap_setCell_other _ _ _ _ (by simp; omega), heap_setCell_other _ _ _ _ (by simp; omega)]
  · exact ((HB.out.setCell (by simp; omega) _).setCell (by simp) _).setCell (by simp) _
set_option maxRecDepth 100000 in
set_option maxHeartbeats 4000000 in
theorem eqMss (w : World) (v1 v2 : Value) (ms : List Ms) (B1 B2 : Nat) (h1 : RdS w B1 v1 ms) (h2 : RdS w B2 v2 ms) (hB1 : B1 ≤ w.heap.size) (hB2 : B2 ≤ w.heap.size) (hm : ms.length ≤ 1048576) (hgd : GoodS ms) :
    Calls Try.prog 65 #[v1, v2] w fun e w' => e = .returned (.bool true) ∧ Below w.heap.size w w' := by
  have HX1 : Hid (∀ wr, Below w.heap.size w wr → _) := hide (fun wr hb => ms_at (h1.low hb hB1))
  have HX2 : Hid (∀ wr, Below w.heap.size w wr → _) := hide (fun wr hb => ms_at (h2.low hb hB2))
  have HG : Hid (∀ j, j < ms.length → GoodM (ms.getD j default)) := hide (fun j hj => hgd.at hj)
  obtain ⟨a1, cap1, rfl, _⟩ := ms_at h1
  obtain ⟨a2, cap2, rfl, _⟩ := ms_at h2
  clear h1 h2 hgd
  generalize hn : ms.length = n at *
  have hne : ((n : Int) != (n : Int)) = false := by simp
  go_enter Try.func65, Try.ntmps65
  go_wp2
  go_loopw [5] (fun i wr => ∃ j : Nat, j ≤ n ∧ i = .int .i64 (j : Int) ∧ Below w.heap.size w wr) (fun i _ => n - (intOf i).toNat)
  case atStart => exact ⟨0, Nat.zero_le _, rfl, Below.refl _ _⟩
  case round =>
    obtain ⟨j, hj, rfl, hb⟩ := hrel
    have HB := hide hb
    have hs := hb.size
    clear hb
    by_cases hlt : j < n
    · obtain ⟨a1', cap1', ea1, _, _, hx1⟩ := HX1.out wr HB.out
      cases ea1
      obtain ⟨b1, o1, rfl, hb1, hc1⟩ := hx1 (by omega)
      obtain ⟨a2', cap2', ea2, _, _, hx2⟩ := HX2.out wr HB.out
      cases ea2
      obtain ⟨b2, o2, rfl, hb2, hc2⟩ := hx2 (by omega)
      obtain ⟨cv, nv, e0, e1, e2, e3, e4, e5, e6, m3⟩ := hc1 j hlt
      obtain ⟨cv', nv', d0, d1, d2, d3, d4, d5, d6, m4⟩ := hc2 j hlt
      have T3 : Hid (Mt wr.drew wr.drew.heap.size (ms.getD j default, cv, nv)) := hide ((m3.up (show B1 ≤ wr.heap.size by omega)).drewN 1)
      have T4 : Hid (Mt wr.drew wr.drew.heap.size (ms.getD j default, cv', nv')) := hide ((m4.up (show B2 ≤ wr.heap.size by omega)).drewN 1)
      obtain ⟨a3, c3, ec, _⟩ := cells_at m3.1
      obtain ⟨a4, c4, en, _⟩ := notes_at m3.2
      obtain ⟨a5, c5, ec', _⟩ := cells_at m4.1
      obtain ⟨a6, c6, en', _⟩ := notes_at m4.2
      simp only at ec en ec' en'
      subst ec en ec' en'
      have HGj := hide (HG.out j hlt)
      clear hx1 hx2 hc1 hc2 m3 m4
      generalize ms.getD j default = p at *
      go_wp2
      go_cut [26] from 11 to 26 (fun s wq => s = .bool false ∧ Below w.heap.size w wq)
      case first =>
        go_region_with (go_at_call 32; refine (eqMsg _ p.k p.i p.u p.c p.n _ _ _ _ p.cs p.ns T3.out.1 T3.out.2 T4.out.1 T4.out.2 HGj.out.1 HGj.out.2).mono ?_; rintro e w1 ⟨rfl, b1⟩; have HB1 := hide (HB.out.trans (below_of_drew b1 |>.mono hs)); clear b1)
        all_goals (go_wp2_with fail; go_meet; exact ⟨rfl, HB1.out⟩)
      case rest =>
        obtain ⟨rfl, hB⟩ := hcut
        have HB2 := hide hB
        clear hB
        go_wp2
        exact ⟨⟨j + 1, hlt, by go_num, HB2.out⟩, by simp [intOf]; omega⟩
    · go_wp2
      go_ret
      exact ⟨rfl, HB.out⟩

set_option maxRecDepth 100000 in
set_option maxHeartbeats 1000000 in
theorem eqSnd (w : World) (base : Int) (v1 v2 : Value) (ms : List Ms) (B1 B2 : Nat) (h1 : RdS w B1 v1 ms) (h2 : RdS w B2 v2 ms) (hB1 : B1 ≤ w.heap.size) (hB2 : B2 ≤ w.heap.size) (hm : ms.length ≤ 1048576) (hgd : GoodS ms) :
    Calls Try.prog 27 #[sndV base v1, sndV base v2] w fun e w' => e = .returned (.bool true) ∧ Below w.heap.size w w' := by
  have H1 := hide h1
  have H2 := hide h2
  obtain ⟨a1, cap1, rfl, _⟩ := ms_at h1
  obtain ⟨a2, cap2, rfl, _⟩ := ms_at h2
  clear h1 h2
  have n0 : (base != base) = false := by simp
  unfold sndV
  go_enter Try.func27, Try.ntmps27
  go_wp2_with fail
  have bA := ((Below.refl w.heap.size w).alloc (Nat.le_refl _) (.cells #[.int .i64 base, .slice a1 ms.length cap1] 51)).alloc (by simp) (.cells #[.int .i64 base, .slice a2 ms.length cap2] 51)
  refine (eqMss _ _ _ _ _ _ (H1.out.low bA hB1) (H2.out.low bA hB2) (Nat.le_trans hB1 bA.size) (Nat.le_trans hB2 bA.size) hm hgd).mono ?_
  rintro e w1 ⟨rfl, b1⟩
  have HB := hide (bA.trans (b1.mono bA.size))
  clear bA b1
  go_wp2
  go_ret
  exact ⟨rfl, HB.out⟩
end Go.Proofs.Ytoaenoakdbieaaa
