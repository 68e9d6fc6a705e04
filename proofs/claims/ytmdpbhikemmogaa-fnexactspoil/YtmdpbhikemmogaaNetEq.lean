/-
  Rows of packets and nets: copied into new memory, held against each other.
-/
import Derived.Test.YtmdpbhikemmogaaNetTo
import Derived.Test.YtmdpbhikemmogaaEq
namespace Go.Proofs.Ytmdpbhikemmogaa
open Go.RowKit

theorem Try.infoPk : (Try.prog.info? 28).map (fun i => (i.zero, i.size, i.bytes)) = some (some (.agg #[.int .i64 0, .int .i64 0, .slice none 0 0, .bool false]), 4, 48) := by kernel_rfl

def zeroX : Pk × Value := (⟨0, 0, [], false⟩, .slice none 0 0)
theorem ownX_made {w : World} {b hi g n c : Nat} (h : w.ownsRow b 28 4 (.slice (some ⟨g, 0, none⟩) n c) n ((List.replicate n zeroX).flatMap pkC)) (hg : g < hi) : OwnX w b hi (.slice (some ⟨g, 0, none⟩) n c) (List.replicate n zeroX) := by
  refine ⟨by rw [List.length_replicate]; exact h, fun x hx => ?_, ⟨fun u hu q hq => ?_, ?_⟩, fun q hq => ?_, fun u hu q hq => ?_⟩
  · rw [(List.mem_replicate.1 hx).2]; exact World.ownsRow_nil _ _ _ _
  · rw [List.map_replicate] at hu
    rw [(List.mem_replicate.1 hu).2] at hq; cases hq
  · rw [List.map_replicate, List.pairwise_replicate]; right; intro q hq; cases hq
  · cases hq; exact hg
  · rw [List.map_replicate] at hu
    rw [(List.mem_replicate.1 hu).2] at hq; cases hq

set_option maxRecDepth 100000 in
set_option maxHeartbeats 4000000 in
theorem toPks (w : World) (v : Value) (ps : List Pk) (h : RdP w w.heap.size v ps) (hm : ps.length ≤ 1048576) :
    Calls Try.prog 60 #[v] w fun e w' => ∃ v', e = .returned v' ∧ OwnP w' w.heap.size w'.heap.size v' ps ∧ Below w.heap.size w w' := by
  have HX : Hid (∀ wr, Below w.heap.size w wr → _) := hide (fun wr hb => pk_at (h.low hb (Nat.le_refl _)))
  obtain ⟨a, cap, rfl, _⟩ := pk_at h
  clear h
  obtain ⟨i0, hi, hz0, hz1, hz2⟩ := info_parts Try.infoPk
  generalize hn : ps.length = n at *
  go_enter Try.func60, Try.ntmps60
  go_wp2_with (at_make; refine wpList_make_full _ rfl _ _ 24 rfl w.heap.size 28 i0 (.agg #[.int .i64 0, .int .i64 0, .slice none 0 0, .bool false]) 4 Try.underlying24 hi hz0 hz1 _ _ _ _ n rfl rfl rfl rfl (by rw [hz2]; omega) (by unfold maxLen; omega) (Nat.le_refl _) ?_; intro w1 ho1 hg1)
  have o1 : OwnX w1 w.heap.size w1.heap.size (.slice (some ⟨w.heap.size, 0, none⟩) n n) (List.replicate n zeroX) := by
    have em := made_flat pkC 4 pkC_len (by omega) zeroX (Value.agg #[.int .i64 0, .int .i64 0, .slice none 0 0, .bool false]).cells rfl n
    rw [em] at ho1
    exact ownX_made ho1 ((World.ownsRow.lt ho1 _ rfl).2)
  have b1 : Below w.heap.size w w1 := (Below.refl _ _).grown hg1 (Nat.le_refl _) (fun k hk => by cases hk)
  clear ho1 hg1 hi hz0 hz1 hz2
  go_loopw [4] (fun i wr => ∃ (j : Nat) (ys : List (Pk × Value)), j ≤ n ∧ i = .int .i64 (j : Int) ∧ Hid (ys.length = j ∧ ys.map Prod.fst = ps.take j) ∧ Hid (OwnX wr w.heap.size wr.heap.size (.slice (some ⟨w.heap.size, 0, none⟩) n n) (ys ++ List.replicate (n - j) zeroX)) ∧ Hid (Below w.heap.size w wr)) (fun i _ => n - (intOf i).toNat)
  case atStart => exact ⟨0, [], Nat.zero_le _, rfl, hide ⟨rfl, by simp⟩, hide (by simpa using o1), hide b1⟩
  case round =>
    clear o1 b1
    obtain ⟨j, ys, hj, rfl, HY, HO, HB⟩ := hrel
    by_cases hlt : j < n
    · obtain ⟨a', cap', ea, _, _, hx⟩ := HX.out wr HB.out
      cases ea
      obtain ⟨b, o, rfl, hbB, hcell⟩ := hx (by omega)
      obtain ⟨a2, c2, e0, e1, e2, e3, hc0, hin⟩ := hcell j hlt
      have hs := HB.out.size
      have HT : Hid (Bt wr wr.heap.size (.slice a2 (ps.getD j default).b.length c2) (ps.getD j default).b) := hide ⟨a2, c2, rfl, hc0, hin.up (by omega)⟩
      have HP : Hid (ps.take (j + 1) = ps.take j ++ [ps.getD j default]) := hide (by rw [List.take_succ_eq_append_getElem (by omega)]; simp [show j < ps.length by omega])
      clear hcell hx hin hc0
      generalize ps.getD j default = p at *
      go_wp2_with fail
      refine (toPk _ p _ HT.out).mono ?_
      rintro e w2 ⟨u, rfl, ou, b2⟩
      obtain ⟨au, cu, rfl⟩ := own_shape ou
      have hs2 := b2.size
      have hlen : (ys ++ List.replicate (n - j) zeroX).length = n := by rw [List.length_append, HY.out.1, List.length_replicate]; omega
      have hlt2 : w.heap.size < wr.heap.size := HO.out.2.2.2.1 _ rfl
      obtain ⟨hc, hf, ho2⟩ := OwnX.put ((HO.out.below b2).up hs2) hlen j hlt p (.slice au p.b.length cu) (ou.mono hs) (fun q hq => by
        have h1 := ou.lt q hq
        refine ⟨by omega, fun x hx e => ?_, h1.2⟩
        have := HO.out.2.2.2.2 x hx q e
        omega)
      obtain ⟨y0, d0⟩ := hc 0 (by omega)
      obtain ⟨y1, d1⟩ := hc 1 (by omega)
      obtain ⟨y2, d2⟩ := hc 2 (by omega)
      obtain ⟨y3, d3⟩ := hc 3 (by omega)
      rw [Nat.add_zero] at d0
      have ez : (ys ++ List.replicate (n - j) zeroX).set j (p, Value.slice au p.b.length cu) = (ys ++ [(p, Value.slice au p.b.length cu)]) ++ List.replicate (n - (j + 1)) zeroX := by
        rw [show n - j = (n - (j + 1)) + 1 by omega, List.replicate_succ, List.set_append_right _ _ (by rw [HY.out.1]; omega), HY.out.1, Nat.sub_self, List.set_cons_zero, List.append_assoc]; rfl
      rw [ez] at ho2
      replace HO := hide ho2
      have HY2 : Hid ((ys ++ [(p, Value.slice au p.b.length cu)]).length = j + 1 ∧ (ys ++ [(p, Value.slice au p.b.length cu)]).map Prod.fst = ps.take (j + 1)) := hide ⟨by rw [List.length_append, HY.out.1]; rfl, by rw [List.map_append, HY.out.2, HP.out]; rfl⟩
      replace HB := hide (HB.out.trans (b2.mono HB.out.size))
      replace HB := hide ((((HB.out.setCell (p := ⟨w.heap.size, j * 4, none⟩) (Nat.le_refl _) (.int .i64 p.f)).setCell (p := ⟨w.heap.size, j * 4 + 1, none⟩) (Nat.le_refl _) (.int .i64 p.t)).setCell (p := ⟨w.heap.size, j * 4 + 2, none⟩) (Nat.le_refl _) (.slice au p.b.length cu)).setCell (p := ⟨w.heap.size, j * 4 + 3, none⟩) (Nat.le_refl _) (.bool p.s))
      clear b2 ho2 ou hc HT
      obtain ⟨f, t, zs, s⟩ := p
      unfold pkV
      simp only at HO HB ⊢
      go_wp2
      exact ⟨⟨j + 1, ys ++ [(⟨f, t, zs, s⟩, .slice au zs.length cu)], hlt, by go_num, HY2, hide (by simpa using HO.out), HB⟩, by simp [intOf]; omega⟩
    · obtain rfl : j = n := by omega
      have HF : Hid (OwnP wr w.heap.size wr.heap.size (.slice (some ⟨w.heap.size, 0, none⟩) j j) ps) := hide ⟨ys, by rw [HY.out.2, ← hn, List.take_length], by have := HO.out; rwa [Nat.sub_self, List.replicate_zero, List.append_nil] at this⟩
      go_wp2
      go_ret
      exact ⟨_, rfl, HF.out, HB.out⟩

set_option maxRecDepth 100000 in
set_option maxHeartbeats 2000000 in
theorem toNet (w : World) (size : Int) (v : Value) (ps : List Pk) (h : RdP w w.heap.size v ps) (hm : ps.length ≤ 1048576) :
    Calls Try.prog 27 #[netV size v] w fun e w' => ∃ v', e = .returned (netV size v') ∧ OwnP w' w.heap.size w'.heap.size v' ps ∧ Below w.heap.size w w' := by
  have HR := hide h
  obtain ⟨a, cap, rfl, _⟩ := pk_at h
  clear h
  unfold netV
  go_enter Try.func27, Try.ntmps27
  go_wp2_with fail
  have G1 := heap_alloc_new (w.alloc (.cells #[.int .i64 size, .slice a ps.length cap] 46)) (.cells #[.int .i64 0, .slice none 0 0] 26)
  have G2 := heap_alloc_new ((w.alloc (.cells #[.int .i64 size, .slice a ps.length cap] 46)).alloc (.cells #[.int .i64 0, .slice none 0 0] 26)) (.cells #[.int .i64 size, .slice none 0 0] 26)
  simp only [World.size_alloc] at G1 G2
  have bA := (((Below.refl w.heap.size w).alloc (Nat.le_refl _) (.cells #[.int .i64 size, .slice a ps.length cap] 46)).alloc (by simp) (.cells #[.int .i64 0, .slice none 0 0] 26)).alloc (by simp; omega) (.cells #[.int .i64 size, .slice none 0 0] 26)
  refine (toPks _ _ _ (HR.out.at bA) hm).mono ?_
  rintro e w1 ⟨v1, rfl, o1, b1⟩
  have HO := hide o1
  obtain ⟨a1, c1, rfl⟩ := o1.shape
  have E1 := (b1.block (w.heap.size + 1) (by simp)).trans ((Below.heap_alloc _ _ _ (by simp)).trans G1)
  have E2 := (b1.block (w.heap.size + 1 + 1) (by simp)).trans G2
  have HB := hide (bA.trans (b1.mono (by simp; omega)))
  have hs1 := b1.size
  simp only [World.size_alloc] at hs1
  clear b1 o1 G1 G2 bA
  have X2 := box_of E2
  have X1 := box_of E1
  have g0 := X2.1 0 _ rfl
  have g1 := X2.1 1 _ rfl
  have z2 := X2.2
  have r0 := X1.1 0 _ rfl
  have r1 := X1.1 1 _ rfl
  have z1 := X1.2
  have H1 := hide E1
  simp only [World.size_alloc] at HO
  clear X1 X2 E1 E2
  go_wp2
  refine bodyPost_ret (v := .agg #[.int .i64 size, .slice a1 ps.length c1]) (results_one Try.results27 _ _ _ rfl (load2 (put2 ((heap_setCell_other _ _ _ _ (by simp)).trans H1.out) _ _))) rfl ⟨_, rfl, ?_, ?_⟩
  · refine ((OwnP.same HO.out (fun q hq _ _ => ?_)).mono (by omega)).up (by simp)
    rw [heap_setCell_other _ _ _ _ (by simp; omega), heap_setCell_other _ _ _ _ (by simp; omega), heap_setCell_other _ _ _ _ (by simp; omega)]
  · exact ((HB.out.setCell (by simp; omega) _).setCell (by simp) _).setCell (by simp) _
set_option maxHeartbeats 400000 in
theorem eqBt (w : World) (b1 b2 : Nat) (v1 v2 : Value) (zs : List Int) (h1 : Bt w b1 v1 zs) (h2 : Bt w b2 v2 zs) :
    Calls Try.prog 64 #[v1, v2] w fun e w' => e = .returned (.bool true) ∧ ∃ q, w' = w.drewN q := by
  obtain ⟨a1, c1, rfl, _, i1⟩ := h1
  obtain ⟨a2, c2, rfl, _, i2⟩ := h2
  have hl := i1.2.1
  have hne : ((zs.length : Int) != (zs.length : Int)) = false := by simp
  have H1 := hide i1.2.2.2
  have H2 := hide i2.2.2.2
  clear i1 i2
  generalize hn : zs.length = n at *
  go_enter Try.func64, Try.ntmps64
  go_wp2
  go_loopw [5] (fun i wr => ∃ k : Nat, k ≤ n ∧ i = .int .i64 k ∧ ∃ q, wr = w.drewN q) (fun i _ => n - (intOf i).toNat)
  case atStart => exact ⟨0, Nat.zero_le _, rfl, 0, rfl⟩
  case round =>
    obtain ⟨k, hk, rfl, q, rfl⟩ := hrel
    by_cases hlt : k < n
    · obtain ⟨g1, o1, rfl, _, hc1⟩ := H1.out (by omega)
      obtain ⟨g2, o2, rfl, _, hc2⟩ := H2.out (by omega)
      have e1 := hc1 k hlt
      have e2 := hc2 k hlt
      clear hc1 hc2
      have hbe : ((zs.getD k 0) != (zs.getD k 0)) = false := by simp
      go_wp2
      go_quiet (fail)
      go_wp2
      go_roundw
      case rel => exact ⟨k + 1, by omega, by go_num, q + nq, rfl⟩
      case measure => simp [intOf]; omega
    · go_wp2
      go_ret
      exact ⟨rfl, q, rfl⟩

set_option maxRecDepth 100000 in
set_option maxHeartbeats 1000000 in
theorem eqPk (w : World) (p : Pk) (v1 v2 : Value) (h1 : Bt w w.heap.size v1 p.b) (h2 : Bt w w.heap.size v2 p.b) :
    Calls Try.prog 31 #[pkV p v1, pkV p v2] w fun e w' => e = .returned (.bool true) ∧ Below w.heap.size w w' := by
  have H1 := hide h1
  have H2 := hide h2
  obtain ⟨a1, c1, rfl, _⟩ := h1
  obtain ⟨a2, c2, rfl, _⟩ := h2
  obtain ⟨f, t, zs, s⟩ := p
  simp only at H1 H2
  unfold pkV
  simp only
  have n0 : (f != f) = false := by simp
  have n1 : (t != t) = false := by simp
  have n2 : (s != s) = false := by simp
  go_enter Try.func31, Try.ntmps31
  go_wp2_with fail
  have bA := ((Below.refl w.heap.size w).alloc (Nat.le_refl _) (.cells #[.int .i64 f, .int .i64 t, .slice a1 zs.length c1, .bool s] 28)).alloc (by simp) (.cells #[.int .i64 f, .int .i64 t, .slice a2 zs.length c2, .bool s] 28)
  refine (eqBt _ _ _ _ _ _ (H1.out.at bA) (H2.out.at bA)).mono ?_
  rintro e w1 ⟨rfl, q, rfl⟩
  have HB := hide bA
  clear bA
  go_wp2
  go_ret
  exact ⟨rfl, below_drewN HB.out q⟩

set_option maxRecDepth 100000 in
set_option maxHeartbeats 2000000 in
theorem eqPks (w : World) (v1 v2 : Value) (ps : List Pk) (B1 B2 : Nat) (h1 : RdP w B1 v1 ps) (h2 : RdP w B2 v2 ps) (hB1 : B1 ≤ w.heap.size) (hB2 : B2 ≤ w.heap.size) (hm : ps.length ≤ 1048576) :
    Calls Try.prog 61 #[v1, v2] w fun e w' => e = .returned (.bool true) ∧ Below w.heap.size w w' := by
  have HX1 : Hid (∀ wr, Below w.heap.size w wr → _) := hide (fun wr hb => pk_at (h1.low hb hB1))
  have HX2 : Hid (∀ wr, Below w.heap.size w wr → _) := hide (fun wr hb => pk_at (h2.low hb hB2))
  obtain ⟨a1, cap1, rfl, _⟩ := pk_at h1
  obtain ⟨a2, cap2, rfl, _⟩ := pk_at h2
  clear h1 h2
  generalize hn : ps.length = n at *
  have hne : ((n : Int) != (n : Int)) = false := by simp
  go_enter Try.func61, Try.ntmps61
  go_wp2
  go_loopw [5] (fun i wr => ∃ j : Nat, j ≤ n ∧ i = .int .i64 (j : Int) ∧ Below w.heap.size w wr) (fun i _ => n - (intOf i).toNat)
  case atStart => exact ⟨0, Nat.zero_le _, rfl, Below.refl _ _⟩
  case round =>
    obtain ⟨j, hj, rfl, hb⟩ := hrel
    have HB := hide hb
    have hs := hb.size
    clear hb
    by_cases hlt : j < n
    · obtain ⟨a1', cap1', ea1, _, _, hx1⟩ := HX1.out wr HB.out
      cases ea1
      obtain ⟨b1, o1, rfl, hb1, hc1⟩ := hx1 (by omega)
      obtain ⟨a2', cap2', ea2, _, _, hx2⟩ := HX2.out wr HB.out
      cases ea2
      obtain ⟨b2, o2, rfl, hb2, hc2⟩ := hx2 (by omega)
      obtain ⟨a3, c3, e0, e1, e2, e3, hn3, i3⟩ := hc1 j hlt
      obtain ⟨a4, c4, d0, d1, d2, d3, hn4, i4⟩ := hc2 j hlt
      have T3 : Hid (Bt wr.drew wr.drew.heap.size (.slice a3 (ps.getD j default).b.length c3) (ps.getD j default).b) := hide ⟨a3, c3, rfl, hn3, (i3.up (show B1 ≤ wr.heap.size by omega)).drewN 1⟩
      have T4 : Hid (Bt wr.drew wr.drew.heap.size (.slice a4 (ps.getD j default).b.length c4) (ps.getD j default).b) := hide ⟨a4, c4, rfl, hn4, (i4.up (show B2 ≤ wr.heap.size by omega)).drewN 1⟩
      clear hx1 hx2 hc1 hc2 i3 i4 hn3 hn4
      generalize ps.getD j default = p at *
      go_wp2
      go_cut [26] from 11 to 26 (fun s wq => s = .bool false ∧ Below w.heap.size w wq)
      case first =>
        go_region_with (go_at_call 31; refine (eqPk _ p _ _ T3.out T4.out).mono ?_; rintro e w1 ⟨rfl, b1⟩; have HB1 := hide (HB.out.trans (below_of_drew b1 |>.mono hs)); clear b1)
        all_goals (go_wp2_with fail; go_meet; exact ⟨rfl, HB1.out⟩)
      case rest =>
        obtain ⟨rfl, hB⟩ := hcut
        have HB2 := hide hB
        clear hB
        go_wp2
        exact ⟨⟨j + 1, hlt, by go_num, HB2.out⟩, by simp [intOf]; omega⟩
    · go_wp2
      go_ret
      exact ⟨rfl, HB.out⟩

set_option maxRecDepth 100000 in
set_option maxHeartbeats 1000000 in
theorem eqNet (w : World) (size : Int) (v1 v2 : Value) (ps : List Pk) (B1 B2 : Nat) (h1 : RdP w B1 v1 ps) (h2 : RdP w B2 v2 ps) (hB1 : B1 ≤ w.heap.size) (hB2 : B2 ≤ w.heap.size) (hm : ps.length ≤ 1048576) :
    Calls Try.prog 28 #[netV size v1, netV size v2] w fun e w' => e = .returned (.bool true) ∧ Below w.heap.size w w' := by
  have H1 := hide h1
  have H2 := hide h2
  obtain ⟨a1, cap1, rfl, _⟩ := pk_at h1
  obtain ⟨a2, cap2, rfl, _⟩ := pk_at h2
  clear h1 h2
  have n0 : (size != size) = false := by simp
  unfold netV
  go_enter Try.func28, Try.ntmps28
  go_wp2_with fail
  have bA := ((Below.refl w.heap.size w).alloc (Nat.le_refl _) (.cells #[.int .i64 size, .slice a1 ps.length cap1] 26)).alloc (by simp) (.cells #[.int .i64 size, .slice a2 ps.length cap2] 26)
  refine (eqPks _ _ _ _ _ _ (H1.out.low bA hB1) (H2.out.low bA hB2) (Nat.le_trans hB1 bA.size) (Nat.le_trans hB2 bA.size) hm).mono ?_
  rintro e w1 ⟨rfl, b1⟩
  have HB := hide (bA.trans (b1.mono bA.size))
  clear bA b1
  go_wp2
  go_ret
  exact ⟨rfl, HB.out⟩
end Go.Proofs.Ytmdpbhikemmogaa
