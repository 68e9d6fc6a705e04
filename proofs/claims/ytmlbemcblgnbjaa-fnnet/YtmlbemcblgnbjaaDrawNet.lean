/-
  What is drawn of nets: some net whose packets may be read; nothing is turned but the cursor.
-/
import Derived.Test.YtmlbemcblgnbjaaDrawW
import Derived.Test.YtmlbemcblgnbjaaDrawNumsF
import Derived.Test.YtmlbemcblgnbjaaSealW
import Derived.Test.YtmlbemcblgnbjaaNetTakS
import Derived.Test.YtmlbemcblgnbjaaNetCopS
import Derived.Test.YtmlbemcblgnbjaaStepW
import Derived.Deep.RegionHeldLaw
import Derived.Deep.CutRange
namespace Go.Proofs.Ytmlbemcblgnbjaa
open Go.RowKit

theorem numsW (w : World) (g : Nat) (hc : CurW w g) :
    Calls Try.prog 23 #[.pointer (some ⟨g, 0, none⟩)] w fun e w' => ∃ b c ys, e = .returned (.slice (some ⟨b, 0, none⟩) (ys : List Int).length c) ∧ Own w' w.heap.size (.slice (some ⟨b, 0, none⟩) ys.length c) ys ∧ Byt ys ∧ ys.length ≤ 1000 ∧ CurW w' g ∧ w.grownBy w' (some g) := by
  obtain ⟨zs, s, hc⟩ := hc
  refine (drawNums w g zs s hc).mono ?_
  rintro e w' ⟨b, c, ys, s', _, rfl, h1, h2, h3, h4, h5⟩
  exact ⟨b, c, ys, rfl, h1, h2, by omega, ⟨_, _, h4⟩, h5⟩
theorem sealed_byt {zs : List Int} (h : Byt zs) : Byt (sealed zs) := h.append (four_byt _)
theorem sealed_len (zs : List Int) : (sealed zs).length = zs.length + 4 := by simp [sealed, four_len]

/-- A net is drawn at block l: its size, its packets; the cursor at block g; blocks of packets below hi. -/
structure NS (w0 : World) (g l hi : Nat) (size : Int) (v : Value) (xs : List (Pk × Value)) (w : World) : Prop where
  cur : CurW w g
  box : w.heap[l]? = some (.cells #[.int .i64 size, v] 26 (0, 0))
  own : OwnX w (l + 1) hi v xs
  good : Good (xs.map Prod.fst)
  grown : w0.grownBy w (some g)
  gl : g < w0.heap.size ∧ w0.heap.size ≤ l ∧ hi ≤ w.heap.size
theorem NS.lt {w0 w : World} {g l hi : Nat} {size : Int} {v : Value} {xs : List (Pk × Value)} (h : NS w0 g l hi size v xs w) : l < w.heap.size := (Array.getElem?_eq_some_iff.1 h.box).1
theorem NS.call {w0 w w' : World} {g l hi : Nat} {size : Int} {v : Value} {xs : List (Pk × Value)} (h : NS w0 g l hi size v xs w) (hc : CurW w' g) (hg : w.grownBy w' (some g)) : NS w0 g l hi size v xs w' := by
  obtain ⟨h1, h2, h3⟩ := h.gl
  exact ⟨hc, (hg.block l h.lt (fun e => by simp only [Option.some.injEq] at e; omega)).trans h.box, h.own.same (fun q hq _ hw => hg.block q hw (fun e => by simp only [Option.some.injEq] at e; omega)), h.good, grown_step h.grown hg same_g, h1, h2, Nat.le_trans h3 hg.size⟩
theorem NS.below {w0 w w' : World} {g l hi : Nat} {size : Int} {v : Value} {xs : List (Pk × Value)} (h : NS w0 g l hi size v xs w) (hb : Below w.heap.size w w') : NS w0 g l hi size v xs w' := by
  obtain ⟨h1, h2, h3⟩ := h.gl
  exact ⟨h.cur.below hb, (hb.block l h.lt).trans h.box, h.own.below hb, h.good, grown_step h.grown (grown_of_below hb) (fun k hk => by cases hk), h1, h2, Nat.le_trans h3 hb.size⟩
theorem NS.alloc {w0 w : World} {g l hi : Nat} {size : Int} {v : Value} {xs : List (Pk × Value)} (h : NS w0 g l hi size v xs w) (o : Obj) : NS w0 g l hi size v xs (w.alloc o) := h.below ((Below.refl w.heap.size w).alloc (Nat.le_refl _) o)
/-- A packet is put behind the others, and stored. -/
theorem NS.more {w0 w w' : World} {g l hi : Nat} {size : Int} {v v' : Value} {xs xs' : List (Pk × Value)} (h : NS w0 g l hi size v xs w) (ho : OwnX w' (l + 1) w'.heap.size v' xs') (hg : w.grownBy w' v.ownBlock) (hgo : Good (xs'.map Prod.fst)) :
    NS w0 g l w'.heap.size size v' xs' (w'.setCell ⟨l, 1, none⟩ v') := by
  obtain ⟨h1, h2, h3⟩ := h.gl
  have hlt : ∀ q, v.ownBlock = some q → l + 1 ≤ q := fun q hq => (World.ownsRow.lt h.own.1 q hq).1
  have hb : w'.heap[l]? = some (.cells #[.int .i64 size, v] 26 (0, 0)) := (hg.block l h.lt (fun e => by have := hlt l e.symm; omega)).trans h.box
  have hcu : CurW w' g := h.cur.row hg (fun k hk => by have := hlt k hk; omega)
  refine ⟨hcu.mine (by omega) _ _, heap_setCell_same w' l 1 _ _ v' hb, ?_, hgo, grown_mine (grown_step h.grown hg (fun k hk => by have := hlt k hk; omega)) h2 _ _, h1, h2, by simp⟩
  exact ho.same (fun q hq _ _ => heap_setCell_other w' ⟨l, 1, none⟩ q v' (by simp; omega))
theorem NS.kept {w0 w w' : World} {g l hi : Nat} {size : Int} {v : Value} {xs : List (Pk × Value)} (h : NS w0 g l hi size v xs w) (hg : w.grownBy w' v.ownBlock) : w'.heap[l]? = some (.cells #[.int .i64 size, v] 26 (0, 0)) :=
  (hg.block l h.lt (fun e => by have := (World.ownsRow.lt h.own.1 l e.symm).1; omega)).trans h.box
theorem NS.sized {w0 w : World} {g l hi : Nat} {size : Int} {v : Value} {xs : List (Pk × Value)} (h : NS w0 g l hi size v xs w) (s' : Int) : NS w0 g l hi s' v xs (w.setCell ⟨l, 0, none⟩ (.int .i64 s')) := by
  obtain ⟨h1, h2, h3⟩ := h.gl
  exact ⟨h.cur.mine (by omega) _ _, heap_setCell_same w l 0 _ _ _ h.box, h.own.same (fun q hq _ _ => heap_setCell_other w ⟨l, 0, none⟩ q _ (by simp; omega)), h.good, grown_mine h.grown h2 _ _, h1, h2, by simpa using h3⟩
theorem good_more {xs : List (Pk × Value)} {y : Pk × Value} (h : Good (xs.map Prod.fst)) (hl : y.1.b.length ≤ 1048576) (hb : Byt y.1.b) : Good ((xs ++ [y]).map Prod.fst) := by
  intro p hp
  simp only [List.map_append, List.map_cons, List.map_nil, List.mem_append, List.mem_singleton] at hp
  rcases hp with hp | rfl
  · exact h p hp
  · exact ⟨hl, hb⟩
/-- New bytes lie apart from the packets that there are. -/
theorem NS.fresh {w0 w : World} {g l hi : Nat} {size : Int} {v : Value} {xs : List (Pk × Value)} (h : NS w0 g l hi size v xs w) {u : Value} (hu : ∀ q, u.ownBlock = some q → hi ≤ q) : ∀ q, u.ownBlock = some q → v.ownBlock ≠ some q ∧ ∀ z ∈ xs.map Prod.snd, z.ownBlock ≠ some q := by
  intro q hq
  have := hu q hq
  refine ⟨fun e => ?_, fun z hz e => ?_⟩
  · have := h.own.2.2.2.1 q e; omega
  · have := h.own.2.2.2.2 z hz q e; omega

set_option maxRecDepth 100000 in
set_option maxHeartbeats 8000000 in
theorem rightN (w : World) (g : Nat) (hc : CurW w g) :
    Calls Try.prog 43 #[.pointer (some ⟨g, 0, none⟩)] w fun e w' => ∃ size v xs, e = .returned (.agg #[.int .i64 size, v]) ∧ (1 ≤ size ∧ size ≤ 3) ∧ OwnX w' w.heap.size w'.heap.size v xs ∧ Good (xs.map Prod.fst) ∧ xs.length ≤ 10 ∧ CurW w' g ∧ w.grownBy w' (some g) := by
  have hgl := hc.lt
  have HC := hide (hc.alloc (.cells #[.int .i64 0, .slice none 0 0] 26))
  have E0 := hide (heap_alloc_new w (.cells #[.int .i64 0, .slice none 0 0] 26))
  have HG := hide (World.grownBy_alloc w (.cells #[.int .i64 0, .slice none 0 0] 26) (some g))
  clear hc
  go_enter Try.func43, Try.ntmps43
  go_wp2_with fail
  refine (belowW _ _ _ (by omega) (by omega) HC.out).mono ?_
  rintro e w1 ⟨s0, rfl, s1, s2, hc, hg⟩
  have hs1 : w.heap.size < w1.heap.size := by have := hg.size; simp at this; omega
  replace E0 := hide ((hg.block w.heap.size (by simp) (fun e => by simp only [Option.some.injEq] at e; omega)).trans E0.out)
  replace HG := hide (grown_step HG.out hg same_g)
  replace HC := hide hc
  clear hc hg
  go_wp2_with fail
  have HN0 : Hid (NS w1 g w1.heap.size 0 (1 + s0) (.slice none 0 0) [] (w1.alloc (.cells #[.int .i64 (1 + s0), .slice none 0 0] 26))) := hide ⟨HC.out.alloc _, heap_alloc_new _ _, ownX_nil _ _ _, fun p hp => by simp at hp, World.grownBy_alloc _ _ _, HC.out.lt, Nat.le_refl _, Nat.zero_le _⟩
  clear HC
  go_loopw [4] (fun i wr => ∃ (j hi : Nat) (v : Value) (xs : List (Pk × Value)), i = .int .i64 (j : Int) ∧ j ≤ 6 ∧ Hid (xs.length = j) ∧ Hid (NS w1 g w1.heap.size hi (1 + s0) v xs wr)) (fun i _ => 100 - (intOf i).toNat)
  case atStart => exact ⟨0, 0, _, [], rfl, by omega, hide rfl, HN0⟩
  case round =>
    clear HN0
    obtain ⟨j, hi, v, xs, rfl, hj, HX, HN⟩ := hrel
    go_wp2_with fail
    refine (belowW _ _ _ (by omega) (by omega) HN.out.cur).mono ?_
    rintro e w2 ⟨k, rfl, k0, k1, hc, hg⟩
    replace HN := hide (HN.out.call hc hg)
    clear hc hg
    obtain ⟨av, cv, ev⟩ := HN.out.own.shape
    rw [HX.out] at ev
    subst ev
    by_cases hlt : (j : Int) < k
    · have HD := hide (HN.out.below (Below.refl w2.heap.size w2).drew)
      have HI5 := hide HN.out.gl.2.2
      clear HN
      have f0 := (box_of HD.out.box).1 0 _ rfl
      have p0 := (box_of HD.out.box).1 1 _ rfl
      go_upto_region 5 with fail
      go_region_law
        (first
          | (refine step_call rfl 22 _ _ rfl #[.pointer (some ⟨g, 0, none⟩), .int .i64 (1 + s0)] (by kernel_rfl) (belowW w2.drew g (1 + s0) (by omega) (by omega) HD.out.cur) ?_; rintro e y1 ⟨x1, rfl, _, _, hc, hg⟩; refine ⟨_, rfl, ?_⟩; have H1 := hide (HD.out.call hc hg); clear hc hg; have f1 := (box_of H1.out.box).1 0 _ rfl; have p1 := (box_of H1.out.box).1 1 _ rfl)
          | (refine step_call rfl 22 _ _ rfl #[.pointer (some ⟨g, 0, none⟩), .int .i64 (1 + s0)] (by kernel_rfl) (belowW y1 g (1 + s0) (by omega) (by omega) H1.out.cur) ?_; rintro e y2 ⟨x2, rfl, _, _, hc, hg⟩; refine ⟨_, rfl, ?_⟩; have H2 := hide (H1.out.call hc hg); clear hc hg; have p2 := (box_of H2.out.box).1 1 _ rfl)
          | (refine step_call rfl 23 _ _ rfl #[.pointer (some ⟨g, 0, none⟩)] (by kernel_rfl) (numsW y2 g H2.out.cur) ?_; rintro e y3 ⟨bz, cz, zs, rfl, oz, hz, lz, hc, hg⟩; refine ⟨_, rfl, ?_⟩; have H3 := hide (H2.out.call hc hg); obtain ⟨az, cz', ez, iz, nz⟩ := own_in oz (by omega) hz (Nat.le_refl _); cases ez; have HZ := hide iz; have HZb := hide hz; clear hc hg oz iz hz; have p3 := (box_of H3.out.box).1 1 _ rfl)
          | (refine step_call rfl 47 _ _ rfl #[.slice (some ⟨bz, 0, none⟩) zs.length cz] (by kernel_rfl) (sealSpec y3 _ _ _ zs HZ.out nz) ?_; rintro e y4 ⟨u, rfl, ou, bb⟩; refine ⟨_, rfl, ?_⟩; have H4 := hide (H3.out.below bb); obtain ⟨au, cu, rfl⟩ := own_shape ou; have HU4 := hide ou; clear bb ou; have p4 := (box_of H4.out.box).1 1 _ rfl)
          | (refine step_call rfl 46 _ _ rfl #[.pointer (some ⟨g, 0, none⟩), .int .i64 4] (by kernel_rfl) (onceW y4 g 4 (by omega) (by omega) H4.out.cur) ?_; rintro e y5 ⟨b5, rfl, hc, hg⟩; refine ⟨_, rfl, ?_⟩; have H5 := hide (H4.out.call hc hg); have HU5 : Hid (Own y5 y3.heap.size (.slice au (sealed zs).length cu) (sealed zs)) := hide (own_like HU4.out (fun q hq => hg.block q (HU4.out.lt q hq).2 (fun e => by simp only [Option.some.injEq] at e; have := (HU4.out.lt q hq).1; have := H3.out.cur.lt; omega))); clear hc hg; have p5 := (box_of H5.out.box).1 1 _ rfl;
              have HBx := hide (Box.new y5 #[.int .i64 x1, .int .i64 x2, .slice au (sealed zs).length cu, .bool b5] 28);
              have bD := (Below.refl y5.heap.size y5).alloc (Nat.le_refl _) (.cells #[.int .i64 x1, .int .i64 x2, .slice au (sealed zs).length cu, .bool b5] 28);
              have H6 := hide (H5.out.below bD); have HU6 := hide ((HU5.out.mono (show w1.heap.size + 1 ≤ y3.heap.size from H3.out.lt)).below bD); have p6 := (box_of H6.out.box).1 1 _ rfl;
              have HF := hide (H6.out.fresh (u := .slice au (sealed zs).length cu) (fun q hq => Nat.le_trans H3.out.gl.2.2 (HU4.out.lt q hq).1));
              have hnn : Hid (xs.length ≤ 2000000) := hide (by rw [HX.out]; omega);
              have HSD := hide (Nat.succ_le_of_lt H6.out.lt); clear bD)
          | (refine step_app_Pk (by rfl) _ _ (by rfl) (w1.heap.size + 1) _ y5.heap.size 1 _ xs (⟨x1, x2, sealed zs, b5⟩, .slice au (sealed zs).length cu) (by rfl) H6.out.own (by rfl) HBx.out HU6.out HF.out hnn.out HSD.out ?_; intro v7 w7 o7 g7 _; obtain ⟨a7, c7, e7⟩ := o7.shape; rw [List.length_append, HX.out] at e7; subst e7;
              have H7 := hide (H6.out.more o7 g7 (good_more H6.out.good (by simp only [sealed_len]; omega) (sealed_byt HZb.out))); have X7 := box_of (H6.out.kept g7); have p7 := X7.1 1 _ rfl; have z7 := X7.2 1; clear X7 o7 g7)
          | fail)
      all_goals (
        go_wp2_with fail
        exact ⟨⟨j + 1, _, _, _, by go_num, by omega, hide (by simp [HX.out]), H7⟩, by simp [intOf]; omega⟩)
    · have E := hide ((HN.out.grown.block w.heap.size (by omega) (fun e => by simp only [Option.some.injEq] at e; omega)).trans E0.out)
      have f0 := (box_of HN.out.box).1 0 _ rfl
      have p0 := (box_of HN.out.box).1 1 _ rfl
      have r0 := (box_of E.out).1 0 _ rfl
      have r1 := (box_of E.out).1 1 _ rfl
      have z1 := (box_of E.out).2
      go_wp2
      refine bodyPost_ret (v := .agg #[.int .i64 (1 + s0), .slice av j cv]) (results_one Try.results43 _ _ _ rfl (load2 (put2 E.out _ _))) rfl ⟨_, _, xs, rfl, by omega, ?_, HN.out.good, by rw [HX.out]; omega, ?_, ?_⟩
      · refine (((HN.out.own.up HN.out.gl.2.2).same (fun q hq _ _ => ?_)).mono (by omega)).up (by simp)
        rw [heap_setCell_other _ _ _ _ (by simp; omega), heap_setCell_other _ _ _ _ (by simp; omega)]
      · exact (HN.out.cur.mine hgl _ _).mine hgl _ _
      · exact grown_mine (grown_mine (grown_step HG.out HN.out.grown same_g) (Nat.le_refl _) _ _) (Nat.le_refl _) _ _
end Go.Proofs.Ytmlbemcblgnbjaa
