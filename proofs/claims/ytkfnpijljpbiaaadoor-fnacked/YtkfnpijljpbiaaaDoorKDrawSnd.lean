/-
  What is drawn of senders: some sender whose messages may be read; nothing is turned but the cursor.
-/
import Derived.Test.YtkfnpijljpbiaaaDoorKDrawAny
import Derived.Test.YtkfnpijljpbiaaaDoorJ25
import Derived.Test.YtkfnpijljpbiaaaDoorJ12
import Derived.Deep.RegionHeldLaw
namespace Go.Proofs.YtkfnpijljpbiaaaDoor
open Go.RowKit

/-- A sender is drawn at block l: its base, its messages; the cursor at block g; blocks of messages below hi. -/
structure SS (w0 : World) (g l hi : Nat) (base : Int) (v : Value) (xs : List MsX) (w : World) : Prop where
  cur : CurW w g
  box : w.heap[l]? = some (.cells #[.int .i64 base, v] 26 (0, 0))
  own : OwnY w (l + 1) hi v xs
  good : ∀ x ∈ xs, x.1.cs.length ≤ 50 ∧ x.1.ns.length ≤ 50
  grown : w0.grownBy w (some g)
  gl : g < w0.heap.size ∧ w0.heap.size ≤ l ∧ hi ≤ w.heap.size
theorem SS.lt {w0 w : World} {g l hi : Nat} {base : Int} {v : Value} {xs : List MsX} (h : SS w0 g l hi base v xs w) : l < w.heap.size := (Array.getElem?_eq_some_iff.1 h.box).1
theorem SS.call {w0 w : World} {g l hi : Nat} {base : Int} {v : Value} {xs : List MsX} {w' : World} (h : SS w0 g l hi base v xs w) (hc : CurW w' g) (hg : w.grownBy w' (some g)) : SS w0 g l hi base v xs w' := by
  obtain ⟨h1, h2, h3⟩ := h.gl
  exact ⟨hc, (hg.block l h.lt (fun e => by simp only [Option.some.injEq] at e; omega)).trans h.box, h.own.same (fun q hq _ hw => hg.block q hw (fun e => by simp only [Option.some.injEq] at e; omega)), h.good, grown_step h.grown hg same_g, h1, h2, Nat.le_trans h3 hg.size⟩
theorem SS.below {w0 w : World} {g l hi : Nat} {base : Int} {v : Value} {xs : List MsX} {w' : World} (h : SS w0 g l hi base v xs w) (hb : Below w.heap.size w w') : SS w0 g l hi base v xs w' := by
  obtain ⟨h1, h2, h3⟩ := h.gl
  exact ⟨h.cur.row (grown_of_below hb) (fun k hk => by cases hk), (hb.block l h.lt).trans h.box, h.own.below hb, h.good, grown_step h.grown (grown_of_below hb) (fun k hk => by cases hk), h1, h2, Nat.le_trans h3 hb.size⟩
theorem SS.alloc {w0 w : World} {g l hi : Nat} {base : Int} {v : Value} {xs : List MsX} (h : SS w0 g l hi base v xs w) (o : Obj) : SS w0 g l hi base v xs (w.alloc o) := h.below ((Below.refl w.heap.size w).alloc (Nat.le_refl _) o)
theorem SS.more {w0 w : World} {g l hi : Nat} {base : Int} {v : Value} {xs : List MsX} {w' : World} {v' : Value} {xs' : List MsX} (h : SS w0 g l hi base v xs w) (ho : OwnY w' (l + 1) w'.heap.size v' xs') (hg : w.grownBy w' v.ownBlock) (hgo : ∀ x ∈ xs', x.1.cs.length ≤ 50 ∧ x.1.ns.length ≤ 50) :
    SS w0 g l w'.heap.size base v' xs' (w'.setCell ⟨l, 1, none⟩ v') := by
  obtain ⟨h1, h2, h3⟩ := h.gl
  have hlt : ∀ q, v.ownBlock = some q → l + 1 ≤ q := fun q hq => (World.ownsRow.lt h.own.1 q hq).1
  have hb : w'.heap[l]? = some (.cells #[.int .i64 base, v] 26 (0, 0)) := (hg.block l h.lt (fun e => by have := hlt l e.symm; omega)).trans h.box
  have hcu : CurW w' g := h.cur.row hg (fun k hk => by have := hlt k hk; omega)
  refine ⟨hcu.mine (by omega) _ _, heap_setCell_same w' l 1 _ _ v' hb, ?_, hgo, grown_mine (grown_step h.grown hg (fun k hk => by have := hlt k hk; omega)) h2 _ _, h1, h2, by simp⟩
  exact ho.same (fun q hq _ _ => heap_setCell_other w' ⟨l, 1, none⟩ q v' (by simp; omega))
theorem SS.kept {w0 w : World} {g l hi : Nat} {base : Int} {v : Value} {xs : List MsX} {w' : World} (h : SS w0 g l hi base v xs w) (hg : w.grownBy w' v.ownBlock) : w'.heap[l]? = some (.cells #[.int .i64 base, v] 26 (0, 0)) :=
  (hg.block l h.lt (fun e => by have := (World.ownsRow.lt h.own.1 l e.symm).1; omega)).trans h.box
theorem SS.based {w0 w : World} {g l hi : Nat} {base : Int} {v : Value} {xs : List MsX} (h : SS w0 g l hi base v xs w) (b' : Int) : SS w0 g l hi b' v xs (w.setCell ⟨l, 0, none⟩ (.int .i64 b')) := by
  obtain ⟨h1, h2, h3⟩ := h.gl
  exact ⟨h.cur.mine (by omega) _ _, heap_setCell_same w l 0 _ _ _ h.box, h.own.same (fun q hq _ _ => heap_setCell_other w ⟨l, 0, none⟩ q _ (by simp; omega)), h.good, grown_mine h.grown h2 _ _, h1, h2, by simpa using h3⟩
theorem SS.fresh {w0 w : World} {g l hi : Nat} {base : Int} {v : Value} {xs : List MsX} (h : SS w0 g l hi base v xs w) {u : Value} (hu : ∀ q, u.ownBlock = some q → hi ≤ q) : ∀ q, u.ownBlock = some q → v.ownBlock ≠ some q ∧ ∀ z ∈ vals xs, z.ownBlock ≠ some q := by
  intro q hq
  have := hu q hq
  refine ⟨fun e => ?_, fun z hz e => ?_⟩
  · have := h.own.2.2.2.1 q e; omega
  · have := h.own.2.2.2.2 z hz q e; omega
theorem good_ms {xs : List MsX} {y : MsX} (h : ∀ x ∈ xs, x.1.cs.length ≤ 50 ∧ x.1.ns.length ≤ 50) (hy : y.1.cs.length ≤ 50 ∧ y.1.ns.length ≤ 50) : ∀ x ∈ xs ++ [y], x.1.cs.length ≤ 50 ∧ x.1.ns.length ≤ 50 := by
  intro x hx
  rcases List.mem_append.1 hx with hx | hx
  · exact h x hx
  · obtain rfl := List.mem_singleton.1 hx
    exact hy
theorem app_MsL {w : World} {ops : Array Oper} {rest : List Oper} {o : Oper} {act : Act} {Q : Exit → Act → World → Prop} (hgd : o.guard = none) (s x : Operand)
    (ho : o.op = .call { callee := .builtin .append, args := #[s, x], argTypes := #[24, 24] }) (base hi g c : Nat) (v : Value) (xs : List MsX) (y : MsX) (hs : act.eval s = v) (hown : OwnY w base hi v xs)
    (hx : act.eval x = .slice (some ⟨g, 0, none⟩) 1 c) (hb : Box w g (msC y)) (hc : OwnC w base y.2.1 y.1.cs) (hn : OwnN w base y.2.2 y.1.ns) (hf1 : ∀ q, y.2.1.ownBlock = some q → v.ownBlock ≠ some q ∧ ∀ z ∈ vals xs, z.ownBlock ≠ some q)
    (hf2 : ∀ q, y.2.2.ownBlock = some q → v.ownBlock ≠ some q ∧ (∀ z ∈ vals xs, z.ownBlock ≠ some q) ∧ y.2.1.ownBlock ≠ some q) (hsm : xs.length ≤ 2000000) (hbase : base ≤ w.heap.size)
    (h : ∀ v' w', OwnY w' base w'.heap.size v' (xs ++ [y]) → w.grownBy w' v.ownBlock → (v'.ownBlock = v.ownBlock ∨ v'.ownBlock = some w.heap.size) → wpList Tryd.prog ops Q rest (act.put o.dst v') w') :
    wpList Tryd.prog ops Q (o :: rest) act w :=
  wpList_plain hgd fun _ hK => wp_app_Ms s x ho base hi g c v xs y hs hown hx hb hc hn hf1 hf2 hsm hbase fun v' w' h1 h2 h3 => hK _ _ (h v' w' h1 h2 h3)
/-- A drawn sender: some base, messages of one's own. -/
def DS (w : World) (g : Nat) (e : Ending) (w' : World) : Prop := ∃ base v xs, e = .returned (.agg #[.int .i64 base, v]) ∧ (-1 ≤ base ∧ base ≤ 16777216) ∧ OwnY w' w.heap.size w'.heap.size v xs ∧ (∀ x ∈ xs, x.1.cs.length ≤ 50 ∧ x.1.ns.length ≤ 50) ∧ xs.length ≤ 50 ∧ CurW w' g ∧ w.grownBy w' (some g)

set_option maxRecDepth 100000 in
set_option maxHeartbeats 8000000 in
theorem senderW (w : World) (g : Nat) (hc : CurW w g) :
    Calls Tryd.prog 23 #[.pointer (some ⟨g, 0, none⟩)] w (DS w g) := by
  have hgl := hc.lt
  have HC := hide (hc.alloc (.cells #[.int .i64 0, .slice none 0 0] 26))
  have E0 := hide (heap_alloc_new w (.cells #[.int .i64 0, .slice none 0 0] 26))
  have HG := hide (World.grownBy_alloc w (.cells #[.int .i64 0, .slice none 0 0] 26) (some g))
  clear hc
  go_enter Tryd.func23, Tryd.ntmps23
  go_wp2_with fail
  generalize hW : w.alloc (.cells #[.int .i64 0, .slice none 0 0] 26) = W at *
  have hWs : W.heap.size = w.heap.size + 1 := by rw [← hW]; simp
  have HLD : Hid ((W.alloc (.cells #[.int .i64 0, .int .i64 0, .int .i64 3, .int .i64 50] 3)).heap[w.heap.size + 1]? = some (.cells ([0, 0, 3, 50].map (Value.int .i64)).toArray 3 (0, 0))) := hide (by rw [← hWs]; exact heap_alloc_new W _)
  have hgW := HC.out.lt
  clear hW
  refine (pickW (W.alloc (.cells #[.int .i64 0, .int .i64 0, .int .i64 3, .int .i64 50] 3)) g (w.heap.size + 1) 4 [0, 0, 3, 50] rfl (by omega) (by omega) (by omega) (HC.out.alloc _) HLD.out).mono ?_
  rintro e w1 ⟨b0, rfl, hm, hc1, hg1⟩
  have hb0 : 0 ≤ b0 ∧ b0 ≤ 50 := by
    simp at hm
    rcases hm with rfl | rfl | rfl <;> omega
  have hgA := alloc_grown hg1
  have hsW := (Array.getElem?_eq_some_iff.1 E0.out).1
  have hs1 : w.heap.size < w1.heap.size := Nat.lt_of_lt_of_le hsW hgA.size
  replace E0 := hide ((hgA.block w.heap.size hsW (fun e => by simp only [Option.some.injEq] at e; omega)).trans E0.out)
  replace HG := hide (grown_step HG.out hgA same_g)
  replace HC := hide hc1
  clear hc1 hg1 hgA hsW hm HLD hgW hWs
  go_wp2_with fail
  have HN0 : Hid (SS w1 g w1.heap.size 0 b0 (.slice none 0 0) [] (w1.alloc (.cells #[.int .i64 b0, .slice none 0 0] 26))) := hide ⟨HC.out.alloc _, heap_alloc_new _ _, ownY_nil _ _ _, fun p hp => by simp at hp, World.grownBy_alloc _ _ _, HC.out.lt, Nat.le_refl _, Nat.zero_le _⟩
  clear HC W
  go_loopw [4] (fun i wr => ∃ (j hi : Nat) (v : Value) (xs : List MsX), i = .int .i64 (j : Int) ∧ j ≤ 6 ∧ Hid (xs.length = j) ∧ Hid (SS w1 g w1.heap.size hi b0 v xs wr)) (fun i _ => 100 - (intOf i).toNat)
  case atStart => exact ⟨0, 0, _, [], rfl, by omega, hide rfl, HN0⟩
  case round =>
    clear HN0
    obtain ⟨j, hi, v, xs, rfl, hj, HX, HN⟩ := hrel
    go_wp2_with fail
    refine (belowW _ _ _ (by omega) (by omega) HN.out.cur).mono ?_
    rintro e w2 ⟨k, rfl, k0, k1, hc, hg⟩
    replace HN := hide (HN.out.call hc hg)
    clear hc hg
    obtain ⟨av, cv, ev⟩ := HN.out.own.shape
    subst ev
    have hnn : Hid (xs.length ≤ 2000000) := hide (by rw [HX.out]; omega)
    by_cases hlt : (j : Int) < k
    · have HD := hide (HN.out.below (Below.refl w2.heap.size w2).drew)
      have HLL : Hid (w1.heap.size + 1 ≤ w2.drew.heap.size) := hide (Nat.succ_le_of_lt HD.out.lt)
      clear HN
      have p0 := (box_of HD.out.box).1 1 _ rfl
      go_upto_region 5 with fail
      go_region_law
        (first
          | (refine step_callN rfl 47 _ _ rfl #[.pointer (some ⟨g, 0, none⟩)] (by kernel_rfl) (rightD _ g HD.out.cur) ?_; rintro e y1 ⟨mk, mi, mu, mc, mn, a5, c5, a6, c6, cs, ns, rfl, o5, o6, hap, l5, l6, hc, hg⟩; refine ⟨_, rfl, ?_⟩; have H1 := hide (HD.out.call hc hg); clear hc hg; have p1 := (box_of H1.out.box).1 1 _ rfl;
              have HBx := hide (Box.new y1 #[.int .i64 mk, .int .i64 mi, .int .i64 mu, .int .i64 mc, .int .i64 mn, .slice a5 cs.length c5, .slice a6 ns.length c6] 39);
              have bD := (Below.refl y1.heap.size y1).alloc (Nat.le_refl _) (.cells #[.int .i64 mk, .int .i64 mi, .int .i64 mu, .int .i64 mc, .int .i64 mn, .slice a5 cs.length c5, .slice a6 ns.length c6] 39);
              have H6 := hide (H1.out.below bD); have p6 := (box_of H6.out.box).1 1 _ rfl;
              have HU6 := hide (OwnC.below (OwnC.mono o5 HLL.out) bD); have HV6 := hide (OwnN.below (OwnN.mono o6 HLL.out) bD);
              have HF1 := hide (H6.out.fresh (u := .slice a5 cs.length c5) (fun q hq => Nat.le_trans HD.out.gl.2.2 (o5.lt q hq).1));
              have HF2 : Hid (∀ q, (Value.slice a6 ns.length c6).ownBlock = some q → (Value.slice av xs.length cv).ownBlock ≠ some q ∧ (∀ z ∈ vals xs, z.ownBlock ≠ some q) ∧ (Value.slice a5 cs.length c5).ownBlock ≠ some q) := hide (fun q hq => have h0 := H6.out.fresh (u := .slice a6 ns.length c6) (fun q hq => Nat.le_trans HD.out.gl.2.2 (o6.lt q hq).1) q hq; ⟨h0.1, h0.2, fun e => hap q e hq⟩);
              have HSD := hide (Nat.succ_le_of_lt H6.out.lt); clear bD o5 o6)
          | (refine step_app_Ms (by rfl) _ _ (by rfl) (w1.heap.size + 1) _ y1.heap.size 1 _ xs (⟨mk, mi, mu, mc, mn, cs, ns⟩, .slice a5 cs.length c5, .slice a6 ns.length c6) (by rfl) H6.out.own (by rfl) HBx.out HU6.out HV6.out HF1.out HF2.out hnn.out HSD.out ?_; intro v7 w7 o7 g7 _; obtain ⟨a7, c7, e7⟩ := o7.shape; rw [List.length_append] at e7; change v7 = .slice a7 (xs.length + 1) c7 at e7; subst e7;
              have H7 := hide (H6.out.more o7 g7 (good_ms H6.out.good ⟨by dsimp only; omega, by dsimp only; omega⟩)); have X7 := box_of (H6.out.kept g7); have p7 := X7.1 1 _ rfl; have z7 := X7.2 1; clear X7 o7 g7)
          | fail)
      all_goals (
        go_wp2_with fail
        exact ⟨⟨j + 1, _, _, xs ++ [((⟨mk, mi, mu, mc, mn, cs, ns⟩, .slice a5 cs.length c5, .slice a6 ns.length c6) : MsX)], by go_num, by omega, hide (by rw [List.length_append, HX.out]; rfl), H7⟩, by simp [intOf]; omega⟩)
    · go_wp2_with fail
      refine (belowW _ _ _ (by omega) (by omega) HN.out.cur).mono ?_
      rintro e w3 ⟨x, rfl, x0, x1, hc, hg⟩
      replace HN := hide (HN.out.call hc hg)
      clear hc hg
      have hs3 : w.heap.size < w3.heap.size := by have := HN.out.lt; omega
      have HXL : Hid (xs.length ≤ 50) := hide (by rw [HX.out]; omega)
      by_cases h0 : x = 0
      · subst h0
        go_wp2_with fail
        refine (pickW _ _ _ 4 [-1, 16777215, 16777213, 16777216] rfl (by omega) (by omega) HN.out.cur.lt (HN.out.cur.alloc _) (heap_alloc_new w3 _)).mono ?_
        rintro e w4 ⟨bb, rfl, hm, hc, hg⟩
        have HBB : Hid (-1 ≤ bb ∧ bb ≤ 16777216) := hide (by
          simp at hm
          rcases hm with rfl | rfl | rfl | rfl <;> omega)
        have HN4 := hide (HN.out.call hc (alloc_grown hg))
        clear hc hg hm HN
        have f0 := (box_of HN4.out.box).1 0 _ rfl
        have z0 := (box_of HN4.out.box).2 0
        go_upto_region 14 with fail
        have HN := hide (HN4.out.based bb)
        clear HN4 f0 z0
        generalize w4.setCell ⟨w1.heap.size, 0, none⟩ (.int .i64 bb) = w5 at *
        have hs5 : w.heap.size < w5.heap.size := by have := HN.out.lt; omega
        have E := hide ((HN.out.grown.block w.heap.size (by omega) (fun e => by simp only [Option.some.injEq] at e; omega)).trans E0.out)
        have f0 := (box_of HN.out.box).1 0 _ rfl
        have p0 := (box_of HN.out.box).1 1 _ rfl
        have r0 := (box_of E.out).1 0 _ rfl
        have r1 := (box_of E.out).1 1 _ rfl
        have z1 := (box_of E.out).2
        go_wp2
        refine bodyPost_ret (v := .agg #[.int .i64 bb, .slice av xs.length cv]) (results_one Tryd.results23 _ _ _ rfl (loadS (put2 E.out _ _))) rfl ⟨_, _, xs, rfl, HBB.out, ?_, HN.out.good, HXL.out, ?_, ?_⟩
        · refine (((HN.out.own.up HN.out.gl.2.2).same (fun q hq _ _ => ?_)).mono (by omega)).up (by simp)
          rw [heap_setCell_other _ _ _ _ (by simp; omega), heap_setCell_other _ _ _ _ (by simp; omega)]
        · exact (HN.out.cur.mine hgl _ _).mine hgl _ _
        · exact grown_mine (grown_mine (grown_step HG.out HN.out.grown same_g) (Nat.le_refl _) _ _) (Nat.le_refl _) _ _
      have HBB : Hid (-1 ≤ b0 ∧ b0 ≤ 16777216) := hide (by omega)
      by_cases h1 : x = 1
      · subst h1
        have HD := hide (HN.out.below (Below.refl w3.heap.size w3).drew)
        have HLL : Hid (w1.heap.size + 1 ≤ w3.drew.heap.size) := hide (Nat.succ_le_of_lt HD.out.lt)
        clear HN
        have p0 := (box_of HD.out.box).1 1 _ rfl
        go_upto_region 10 with fail
        go_region_law
          (first
            | (refine step_callN rfl 48 _ _ rfl #[.pointer (some ⟨g, 0, none⟩)] (by kernel_rfl) (drawD _ g HD.out.cur) ?_; rintro e y1 ⟨mk, mi, mu, mc, mn, a5, c5, a6, c6, cs, ns, rfl, o5, o6, l5, l6, hc, hg⟩; refine ⟨_, rfl, ?_⟩; have H1 := hide (HD.out.call hc hg); clear hc hg; have p1 := (box_of H1.out.box).1 1 _ rfl;
                have HBx := hide (Box.new y1 #[.int .i64 mk, .int .i64 mi, .int .i64 mu, .int .i64 mc, .int .i64 mn, .slice a5 cs.length c5, .slice a6 ns.length c6] 39);
                have bD := (Below.refl y1.heap.size y1).alloc (Nat.le_refl _) (.cells #[.int .i64 mk, .int .i64 mi, .int .i64 mu, .int .i64 mc, .int .i64 mn, .slice a5 cs.length c5, .slice a6 ns.length c6] 39);
                have H6 := hide (H1.out.below bD); have p6 := (box_of H6.out.box).1 1 _ rfl;
                have HU6 := hide (OwnC.below (OwnC.mono o5 HLL.out) bD); have HV6 := hide (OwnN.below (OwnN.mono o6 HLL.out) bD);
                have HF1 := hide (H6.out.fresh (u := .slice a5 cs.length c5) (fun q hq => Nat.le_trans HD.out.gl.2.2 (o5.lt q hq).1));
                have HF2 : Hid (∀ q, (Value.slice a6 ns.length c6).ownBlock = some q → (Value.slice av xs.length cv).ownBlock ≠ some q ∧ (∀ z ∈ vals xs, z.ownBlock ≠ some q) ∧ (Value.slice a5 cs.length c5).ownBlock ≠ some q) := hide (fun q hq => have h0 := H6.out.fresh (u := .slice a6 ns.length c6) (fun q hq => Nat.le_trans HD.out.gl.2.2 (o6.lt q hq).1) q hq; ⟨h0.1, h0.2, fun e => typ_apart o5 o6 (by decide) q e hq⟩);
                have HSD := hide (Nat.succ_le_of_lt H6.out.lt); clear bD o5 o6)
            | (refine step_app_Ms (by rfl) _ _ (by rfl) (w1.heap.size + 1) _ y1.heap.size 1 _ xs (⟨mk, mi, mu, mc, mn, cs, ns⟩, .slice a5 cs.length c5, .slice a6 ns.length c6) (by rfl) H6.out.own (by rfl) HBx.out HU6.out HV6.out HF1.out HF2.out hnn.out HSD.out ?_; intro v7 w7 o7 g7 _; obtain ⟨a7, c7, e7⟩ := o7.shape; rw [List.length_append] at e7; change v7 = .slice a7 (xs.length + 1) c7 at e7; subst e7;
                have H7 := hide (H6.out.more o7 g7 (good_ms H6.out.good ⟨by dsimp only; omega, by dsimp only; omega⟩)); have X7 := box_of (H6.out.kept g7); have p7 := X7.1 1 _ rfl; have z7 := X7.2 1; clear X7 o7 g7)
            | fail)
        all_goals (
          go_upto_region 14 with fail
          have HXL2 : Hid ((xs ++ [((⟨mk, mi, mu, mc, mn, cs, ns⟩, .slice a5 cs.length c5, .slice a6 ns.length c6) : MsX)]).length ≤ 50) := hide (by rw [List.length_append, HX.out]; simp; omega)
          have HN := H7
          clear HXL H7 p7 z7
          have HXL := HXL2
          generalize w7.setCell ⟨w1.heap.size, 1, none⟩ (.slice a7 (xs.length + 1) c7) = w8 at *
          have hs8 : w.heap.size < w8.heap.size := by have := HN.out.lt; omega
          have E := hide ((HN.out.grown.block w.heap.size (by omega) (fun e => by simp only [Option.some.injEq] at e; omega)).trans E0.out)
          have f0 := (box_of HN.out.box).1 0 _ rfl
          have p0 := (box_of HN.out.box).1 1 _ rfl
          have r0 := (box_of E.out).1 0 _ rfl
          have r1 := (box_of E.out).1 1 _ rfl
          have z1 := (box_of E.out).2
          go_wp2
          refine bodyPost_ret (v := .agg #[.int .i64 b0, .slice a7 (xs.length + 1) c7]) (results_one Tryd.results23 _ _ _ rfl (loadS (put2 E.out _ _))) rfl ⟨_, _, xs ++ [((⟨mk, mi, mu, mc, mn, cs, ns⟩, .slice a5 cs.length c5, .slice a6 ns.length c6) : MsX)], rfl, HBB.out, ?_, HN.out.good, HXL.out, ?_, ?_⟩
          · refine (((HN.out.own.up HN.out.gl.2.2).same (fun q hq _ _ => ?_)).mono (by omega)).up (by simp)
            rw [heap_setCell_other _ _ _ _ (by simp; omega), heap_setCell_other _ _ _ _ (by simp; omega)]
          · exact (HN.out.cur.mine hgl _ _).mine hgl _ _
          · exact grown_mine (grown_mine (grown_step HG.out HN.out.grown same_g) (Nat.le_refl _) _ _) (Nat.le_refl _) _ _)
      by_cases h2 : x = 2
      · subst h2
        have HN0 := HN
        clear HN HXL
        go_wp2_with fail
        go_loopw [] (fun wr => ∃ (n hi : Nat) (a : Option Addr) (c : Nat) (xs : List MsX), n ≤ 48 ∧ Hid (xs.length = n) ∧ Hid (SS w1 g w1.heap.size hi b0 (.slice a n c) xs wr)) (fun wr => match wr.cell? ⟨w1.heap.size, 1, none⟩ with | some (.slice _ n _) => 100 - n | _ => 0)
        case atStart => exact ⟨xs.length, _, _, _, xs, by have := HX.out; omega, hide rfl, HN0⟩
        case round =>
          clear HN0 hnn HX xs
          obtain ⟨n, hi, av, cv, xs, hn, HX, HN⟩ := hrel
          have HD := hide (HN.out.below (Below.refl wr.heap.size wr).drew)
          have p0 := (box_of HD.out.box).1 1 _ rfl
          have hnn : Hid (xs.length ≤ 2000000) := hide (by rw [HX.out]; omega)
          have mz : wr.cell? ⟨w1.heap.size, 1, none⟩ = some (.slice av n cv) := (box_of HN.out.box).1 1 _ rfl
          rw [mz]
          clear HN mz
          go_upto_region 12 with fail
          go_cut [47] from 41 to 47 (fun s wq => ∃ k2 : Int, (0 ≤ k2 ∧ k2 < 2) ∧ s = .bool (decide ((n : Int) < 40 + k2)) ∧ SS w1 g w1.heap.size hi b0 (.slice av n cv) xs wq)
          case first =>
            go_region_law
              (first
                | (refine step_callN rfl 33 _ _ rfl #[.pointer (some ⟨g, 0, none⟩), .int .i64 2] (by kernel_rfl) (belowW _ g 2 (by omega) (by omega) HD.out.cur) ?_; rintro e y1 ⟨k2, rfl, hk0, hk1, hc, hg⟩; refine ⟨_, rfl, ?_⟩; have H1 := hide (HD.out.call hc hg); clear hc hg; have p1 := (box_of H1.out.box).1 1 _ rfl)
                | fail)
            all_goals (go_wp2_with fail; go_meet; have hwr : IntKind.i64.wrap (40 + k2) = 40 + k2 := (by rw [IntKind.wrap_i64]; omega); exact ⟨k2, ⟨hk0, hk1⟩, by rw [hwr], H1.out⟩)
          case rest =>
            obtain ⟨k2, hk2, rfl, hS⟩ := hcut
            have HN := hide hS
            clear hS HD p0
            have hsc : w.heap.size < wc.heap.size := by have := HN.out.lt; omega
            by_cases hlt2 : (n : Int) < 40 + k2
            · have hdc : decide ((n : Int) < 40 + k2) = true := by simpa using hlt2
              rw [hdc]
              have p0 := (box_of HN.out.box).1 1 _ rfl
              have HBx := hide (Box.new wc #[.int .i64 1, .int .i64 1, .int .i64 0, .int .i64 0, .int .i64 0, .slice none 0 0, .slice none 0 0] 39)
              have H6 := hide (HN.out.alloc (.cells #[.int .i64 1, .int .i64 1, .int .i64 0, .int .i64 0, .int .i64 0, .slice none 0 0, .slice none 0 0] 39))
              have HSD := hide (Nat.succ_le_of_lt H6.out.lt)
              go_wp2_with (at_builtin; refine app_MsL (by rfl) _ _ (by rfl) (w1.heap.size + 1) _ wc.heap.size 1 _ xs ((⟨1, 1, 0, 0, 0, [], []⟩, .slice none 0 0, .slice none 0 0) : MsX) (by rfl) H6.out.own (by rfl) HBx.out (World.ownsRow_nil _ _ _ _) (World.ownsRow_nil _ _ _ _) (fun q hq => by simp [Value.ownBlock] at hq) (fun q hq => by simp [Value.ownBlock] at hq) hnn.out HSD.out ?_; intro v7 w7 o7 g7 _; obtain ⟨a7, c7, e7⟩ := o7.shape; rw [List.length_append, HX.out] at e7; change v7 = .slice a7 (n + 1) c7 at e7; subst e7; have H7 := hide (H6.out.more o7 g7 (good_ms H6.out.good ⟨by simp, by simp⟩)); have X7 := box_of (H6.out.kept g7); have p7 := X7.1 1 _ rfl; have z7 := X7.2 1; clear X7 o7 g7)
              have m7 := (box_of H7.out.box).1 1 _ rfl
              refine ⟨⟨n + 1, _, _, _, _, by omega, hide (by rw [List.length_append, HX.out]; rfl), H7⟩, ?_⟩
              rw [m7]
              simp
              omega
            · have hdc : decide ((n : Int) < 40 + k2) = false := by simpa using hlt2
              rw [hdc]
              have HXL : Hid (xs.length ≤ 50) := hide (by rw [HX.out]; omega)
              go_upto_region 14 with fail
              have E := hide ((HN.out.grown.block w.heap.size (by omega) (fun e => by simp only [Option.some.injEq] at e; omega)).trans E0.out)
              have f0 := (box_of HN.out.box).1 0 _ rfl
              have p0 := (box_of HN.out.box).1 1 _ rfl
              have r0 := (box_of E.out).1 0 _ rfl
              have r1 := (box_of E.out).1 1 _ rfl
              have z1 := (box_of E.out).2
              go_wp2
              refine bodyPost_ret (v := .agg #[.int .i64 b0, .slice av n cv]) (results_one Tryd.results23 _ _ _ rfl (loadS (put2 E.out _ _))) rfl ⟨_, _, xs, rfl, HBB.out, ?_, HN.out.good, HXL.out, ?_, ?_⟩
              · refine (((HN.out.own.up HN.out.gl.2.2).same (fun q hq _ _ => ?_)).mono (by omega)).up (by simp)
                rw [heap_setCell_other _ _ _ _ (by simp; omega), heap_setCell_other _ _ _ _ (by simp; omega)]
              · exact (HN.out.cur.mine hgl _ _).mine hgl _ _
              · exact grown_mine (grown_mine (grown_step HG.out HN.out.grown same_g) (Nat.le_refl _) _ _) (Nat.le_refl _) _ _
      · go_upto_region 14 with fail
        have E := hide ((HN.out.grown.block w.heap.size (by omega) (fun e => by simp only [Option.some.injEq] at e; omega)).trans E0.out)
        have f0 := (box_of HN.out.box).1 0 _ rfl
        have p0 := (box_of HN.out.box).1 1 _ rfl
        have r0 := (box_of E.out).1 0 _ rfl
        have r1 := (box_of E.out).1 1 _ rfl
        have z1 := (box_of E.out).2
        go_wp2
        refine bodyPost_ret (v := .agg #[.int .i64 b0, .slice av xs.length cv]) (results_one Tryd.results23 _ _ _ rfl (loadS (put2 E.out _ _))) rfl ⟨_, _, xs, rfl, HBB.out, ?_, HN.out.good, HXL.out, ?_, ?_⟩
        · refine (((HN.out.own.up HN.out.gl.2.2).same (fun q hq _ _ => ?_)).mono (by omega)).up (by simp)
          rw [heap_setCell_other _ _ _ _ (by simp; omega), heap_setCell_other _ _ _ _ (by simp; omega)]
        · exact (HN.out.cur.mine hgl _ _).mine hgl _ _
        · exact grown_mine (grown_mine (grown_step HG.out HN.out.grown same_g) (Nat.le_refl _) _ _) (Nat.le_refl _) _ _
end Go.Proofs.YtkfnpijljpbiaaaDoor
