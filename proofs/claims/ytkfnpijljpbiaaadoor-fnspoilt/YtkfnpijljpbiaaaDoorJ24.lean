/-
  Joined: DrawMsg, StepW.
-/
import Derived.Test.YtkfnpijljpbiaaaDoorJ23
import Derived.Test.YtkfnpijljpbiaaaDoorKMsgW
import Derived.Test.YtkfnpijljpbiaaaDoorJ10
import Derived.Deep.CutRange
import Derived.Test.YtkfnpijljpbiaaaDoorJ1
import Derived.Deep.RegionHeldLaw
import Derived.Deep.RegionLaw
import Derived.Deep.DrawnRows
/-
  A drawn message: its rows lie in new memory, apart, and are short.
-/
namespace Go.Proofs.YtkfnpijljpbiaaaDoor
open Go.RowKit

/-- A message that is being drawn lies at block l; what is answered will lie at the block w.heap.size. -/
structure MIn (w : World) (g l m : Nat) (k i u c n : Int) (v5 v6 : Value) (cs : List (Int × Bool × Int)) (ns : List (Int × Int)) (wq : World) : Prop where
  box : wq.heap[l]? = some (.cells #[.int .i64 k, .int .i64 i, .int .i64 u, .int .i64 c, .int .i64 n, v5, v6] 39 (0, 0))
  res : wq.heap[w.heap.size]? = some (.cells #[.int .i64 0, .int .i64 0, .int .i64 0, .int .i64 0, .int .i64 0, .slice none 0 0, .slice none 0 0] 39 (0, 0))
  own5 : OwnC wq (w.heap.size + 1) v5 cs
  own6 : OwnN wq (w.heap.size + 1) v6 ns
  ne5 : v5.ownBlock ≠ some l
  ne6 : v6.ownBlock ≠ some l
  apart : ∀ q, v5.ownBlock = some q → v6.ownBlock ≠ some q
  len5 : cs.length ≤ m
  len6 : ns.length ≤ m
  cur : CurW wq g
  grown : w.grownBy wq (some g)
  lo : g < w.heap.size
  hi : w.heap.size < l

theorem MIn.call {w : World} {g l m : Nat} {k i u c n : Int} {v5 v6 : Value} {cs : List (Int × Bool × Int)} {ns : List (Int × Int)} {wq w' : World} (h : MIn w g l m k i u c n v5 v6 cs ns wq) (hc : CurW w' g) (hg : wq.grownBy w' (some g)) : MIn w g l m k i u c n v5 v6 cs ns w' :=
  have := h.lo
  have := h.hi
  ⟨(hg.block l (Array.getElem?_eq_some_iff.1 h.box).1 (fun e => by simp only [Option.some.injEq] at e; omega)).trans h.box,
   (hg.block w.heap.size (Array.getElem?_eq_some_iff.1 h.res).1 (fun e => by simp only [Option.some.injEq] at e; omega)).trans h.res,
   h.own5.kept hg (fun q hq e => by simp only [Option.some.injEq] at e; have := (h.own5.lt q hq).1; omega),
   h.own6.kept hg (fun q hq e => by simp only [Option.some.injEq] at e; have := (h.own6.lt q hq).1; omega),
   h.ne5, h.ne6, h.apart, h.len5, h.len6, hc, grown_step h.grown hg same_g, h.lo, h.hi⟩
theorem MIn.below {w : World} {g l m : Nat} {k i u c n : Int} {v5 v6 : Value} {cs : List (Int × Bool × Int)} {ns : List (Int × Int)} {wq w' : World} (h : MIn w g l m k i u c n v5 v6 cs ns wq) (hb : Below wq.heap.size wq w') : MIn w g l m k i u c n v5 v6 cs ns w' :=
  ⟨(hb.block l (Array.getElem?_eq_some_iff.1 h.box).1).trans h.box, (hb.block w.heap.size (Array.getElem?_eq_some_iff.1 h.res).1).trans h.res, h.own5.below hb, h.own6.below hb,
   h.ne5, h.ne6, h.apart, h.len5, h.len6, h.cur.row (grown_of_below hb) (fun k hk => by cases hk), grown_step h.grown (grown_of_below hb) (fun k hk => by cases hk), h.lo, h.hi⟩
/-- As MIn, of some message. -/
def MAny (w : World) (g l m : Nat) (wq : World) : Prop := ∃ k i u c n a5 c5 a6 c6 cs ns, MIn w g l m k i u c n (.slice a5 (cs : List (Int × Bool × Int)).length c5) (.slice a6 (ns : List (Int × Int)).length c6) cs ns wq
theorem MIn.put {w : World} {g l m : Nat} {k i u c n k' i' u' c' n' : Int} {v5 v6 : Value} {cs : List (Int × Bool × Int)} {ns : List (Int × Int)} {wq : World} (h : MIn w g l m k i u c n v5 v6 cs ns wq) (j : Nat) (x : Value)
    (hx : #[Value.int .i64 k', .int .i64 i', .int .i64 u', .int .i64 c', .int .i64 n', v5, v6] = (#[Value.int .i64 k, .int .i64 i, .int .i64 u, .int .i64 c, .int .i64 n, v5, v6]).setIfInBounds j x) : MIn w g l m k' i' u' c' n' v5 v6 cs ns (wq.setCell ⟨l, j, none⟩ x) :=
  have := h.lo
  have := h.hi
  ⟨by rw [hx]; exact heap_setCell_same wq l j _ _ x h.box,
   (heap_setCell_other wq ⟨l, j, none⟩ w.heap.size x (show w.heap.size ≠ l from by omega)).trans h.res,
   h.own5.kept (grown_set (g := l) (World.grownBy.refl wq (some l)) j x) (fun q hq e => h.ne5 (hq.trans e.symm)),
   h.own6.kept (grown_set (g := l) (World.grownBy.refl wq (some l)) j x) (fun q hq e => h.ne6 (hq.trans e.symm)),
   h.ne5, h.ne6, h.apart, h.len5, h.len6, h.cur.mine (by omega) j x, grown_mine h.grown (by omega) j x, h.lo, h.hi⟩

theorem MIn.set5 {w : World} {g l m : Nat} {k i u c n : Int} {v5 v6 v : Value} {cs ys : List (Int × Bool × Int)} {ns : List (Int × Int)} {wq w' : World} (h : MIn w g l m k i u c n v5 v6 cs ns wq) (ho : OwnC w' wq.heap.size v ys) (hl : ys.length ≤ m) (hc : CurW w' g) (hg : wq.grownBy w' (some g)) :
    MIn w g l m k i u c n v v6 ys ns (w'.setCell ⟨l, 5, none⟩ v) :=
  have h' := h.call hc hg
  have := h.lo
  have := h.hi
  have hL := (Array.getElem?_eq_some_iff.1 h.box).1
  have hW : w.heap.size + 1 ≤ wq.heap.size := by omega
  ⟨heap_setCell_same w' l 5 _ _ v h'.box, (heap_setCell_other w' ⟨l, 5, none⟩ w.heap.size v (show w.heap.size ≠ l from by omega)).trans h'.res,
   (ho.mono hW).kept (grown_set (g := l) (World.grownBy.refl w' (some l)) 5 v) (fun q hq e => by simp only [Option.some.injEq] at e; have := (ho.lt q hq).1; omega),
   h'.own6.kept (grown_set (g := l) (World.grownBy.refl w' (some l)) 5 v) (fun q hq e => h.ne6 (hq.trans e.symm)),
   fun e => by have := (ho.lt _ e).1; omega, h.ne6,
   fun q hq e => by have := (ho.lt q hq).1; have := (h.own6.lt q e).2; omega, hl, h.len6, h'.cur.mine (by omega) 5 v, grown_mine h'.grown (by omega) 5 v, h.lo, h.hi⟩
theorem MIn.set6 {w : World} {g l m : Nat} {k i u c n : Int} {v5 v6 v : Value} {cs : List (Int × Bool × Int)} {ns ys : List (Int × Int)} {wq w' : World} (h : MIn w g l m k i u c n v5 v6 cs ns wq) (ho : OwnN w' wq.heap.size v ys) (hl : ys.length ≤ m) (hc : CurW w' g) (hg : wq.grownBy w' (some g)) :
    MIn w g l m k i u c n v5 v cs ys (w'.setCell ⟨l, 6, none⟩ v) :=
  have h' := h.call hc hg
  have := h.lo
  have := h.hi
  have hL := (Array.getElem?_eq_some_iff.1 h.box).1
  have hW : w.heap.size + 1 ≤ wq.heap.size := by omega
  ⟨heap_setCell_same w' l 6 _ _ v h'.box, (heap_setCell_other w' ⟨l, 6, none⟩ w.heap.size v (show w.heap.size ≠ l from by omega)).trans h'.res,
   h'.own5.kept (grown_set (g := l) (World.grownBy.refl w' (some l)) 6 v) (fun q hq e => h.ne5 (hq.trans e.symm)),
   (ho.mono hW).kept (grown_set (g := l) (World.grownBy.refl w' (some l)) 6 v) (fun q hq e => by simp only [Option.some.injEq] at e; have := (ho.lt q hq).1; omega),
   h.ne5, fun e => by have := (ho.lt _ e).1; omega,
   fun q hq e => by have := (h.own5.lt q hq).2; have := (ho.lt q e).1; omega, h.len5, hl, h'.cur.mine (by omega) 6 v, grown_mine h'.grown (by omega) 6 v, h.lo, h.hi⟩
/-- What is answered: the message is loaded, and stored where the answer lies. -/
theorem MIn.ans {w : World} {g l m : Nat} {k i u c n : Int} {v5 v6 : Value} {cs : List (Int × Bool × Int)} {ns : List (Int × Int)} {wq : World} (h : MIn w g l m k i u c n v5 v6 cs ns wq) (x0 x1 x2 x3 x4 x5 x6 : Value) :
    let w' := (((((((wq.setCell ⟨w.heap.size, 0, none⟩ x0).setCell ⟨w.heap.size, 1, none⟩ x1).setCell ⟨w.heap.size, 2, none⟩ x2).setCell ⟨w.heap.size, 3, none⟩ x3).setCell ⟨w.heap.size, 4, none⟩ x4).setCell ⟨w.heap.size, 5, none⟩ x5).setCell ⟨w.heap.size, 6, none⟩ x6)
    OwnC w' w.heap.size v5 cs ∧ OwnN w' w.heap.size v6 ns ∧ CurW w' g ∧ w.grownBy w' (some g) := by
  have := h.lo
  have := h.hi
  refine ⟨OwnC.mono (own_put7 h.own5 (by omega) _ _ _ _ _ _ _) (by omega), OwnN.mono (own_put7 h.own6 (by omega) _ _ _ _ _ _ _) (by omega), ?_, ?_⟩
  · exact ((((((h.cur.mine h.lo _ _).mine h.lo _ _).mine h.lo _ _).mine h.lo _ _).mine h.lo _ _).mine h.lo _ _).mine h.lo _ _
  · exact grown_mine (grown_mine (grown_mine (grown_mine (grown_mine (grown_mine (grown_mine h.grown (Nat.le_refl _) _ _) (Nat.le_refl _) _ _) (Nat.le_refl _) _ _) (Nat.le_refl _) _ _) (Nat.le_refl _) _ _) (Nat.le_refl _) _ _) (Nat.le_refl _) _ _

set_option maxRecDepth 100000 in
set_option maxHeartbeats 4000000 in
theorem rightD (w : World) (g : Nat) (hc : CurW w g) :
    Calls Tryd.prog 47 #[.pointer (some ⟨g, 0, none⟩)] w fun e w' => ∃ k i u c n a5 c5 a6 c6 cs ns, e = .returned (.agg #[.int .i64 k, .int .i64 i, .int .i64 u, .int .i64 c, .int .i64 n, .slice a5 (cs : List (Int × Bool × Int)).length c5, .slice a6 (ns : List (Int × Int)).length c6]) ∧
      OwnC w' w.heap.size (.slice a5 cs.length c5) cs ∧ OwnN w' w.heap.size (.slice a6 ns.length c6) ns ∧ (∀ q, (Value.slice a5 cs.length c5).ownBlock = some q → (Value.slice a6 ns.length c6).ownBlock ≠ some q) ∧ cs.length ≤ 40 ∧ ns.length ≤ 40 ∧ CurW w' g ∧ w.grownBy w' (some g) := by
  have hgl := hc.lt
  have HC := hide (hc.alloc (.cells #[.int .i64 0, .int .i64 0, .int .i64 0, .int .i64 0, .int .i64 0, .slice none 0 0, .slice none 0 0] 39))
  have E := hide (heap_alloc_new w (.cells #[.int .i64 0, .int .i64 0, .int .i64 0, .int .i64 0, .int .i64 0, .slice none 0 0, .slice none 0 0] 39))
  have HG := hide (World.grownBy_alloc w (.cells #[.int .i64 0, .int .i64 0, .int .i64 0, .int .i64 0, .int .i64 0, .slice none 0 0, .slice none 0 0] 39) (some g))
  clear hc
  go_enter Tryd.func47, Tryd.ntmps47
  go_wp2_with fail
  generalize w.alloc (.cells #[.int .i64 0, .int .i64 0, .int .i64 0, .int .i64 0, .int .i64 0, .slice none 0 0, .slice none 0 0] 39) = W at *
  refine (belowW _ _ _ (by omega) (by omega) HC.out).mono ?_
  rintro e w1 ⟨k, rfl, k0, k1, hc1, hg1⟩
  have hs0 := (Array.getElem?_eq_some_iff.1 E.out).1
  replace E := hide ((hg1.block w.heap.size hs0 (fun e => by simp only [Option.some.injEq] at e; omega)).trans E.out)
  replace HG := hide (grown_step HG.out hg1 same_g)
  replace HC := hide hc1
  clear hc1 hg1 hs0
  go_wp2_with fail
  refine (pickW _ _ _ 5 [1, 2, 17, 18, 300] rfl (by omega) (by omega) HC.out.lt (HC.out.alloc _) (heap_alloc_new w1 _)).mono ?_
  rintro e w2 ⟨i, rfl, hi, hc2, hg2⟩
  have hs0 := (Array.getElem?_eq_some_iff.1 E.out).1
  have hg3 := alloc_grown hg2
  replace E := hide ((hg3.block w.heap.size hs0 (fun e => by simp only [Option.some.injEq] at e; omega)).trans E.out)
  replace HG := hide (grown_step HG.out hg3 same_g)
  replace HC := hide hc2
  clear hc2 hg2 hg3 hs0 hi
  have hs2 := (Array.getElem?_eq_some_iff.1 E.out).1
  have HI : Hid (MIn w g w2.heap.size 40 (1 + k) i 0 0 0 (.slice none 0 0) (.slice none 0 0) [] [] (w2.alloc (.cells #[.int .i64 (1 + k), .int .i64 i, .int .i64 0, .int .i64 0, .int .i64 0, .slice none 0 0, .slice none 0 0] 39))) :=
    hide ⟨heap_alloc_new w2 _, (Below.heap_alloc _ _ _ hs2).trans E.out, World.ownsRow_nil _ _ _ _, World.ownsRow_nil _ _ _ _, (fun e => by cases e), (fun e => by cases e), fun q hq => (by cases hq), by simp, by simp, HC.out.alloc _, grown_step HG.out (World.grownBy_alloc w2 _ none) (fun k hk => by cases hk), hgl, hs2⟩
  clear E HG HC
  have f0 := (box_of HI.out.box).1 0 _ rfl
  go_wp2_with fail
  clear f0
  generalize w2.heap.size = l at *
  generalize w2.alloc _ = w3 at *
  refine (hasSpec _ _).mono ?_
  rintro e w4 ⟨rfl, b4⟩
  have HA : Hid (MAny w g l 40 w4) := hide ⟨_, _, _, _, _, none, 0, none, 0, [], [], HI.out.below b4⟩
  clear HI b4
  generalize hasF (1 + k) = h at *
  go_upto_if 17 with fail
  go_cut [18] from 15 to 21 (fun _ wq => MAny w g l 40 wq)
  case first =>
    cases hb : (bits .and .i64 h 1 != 0)
    · go_wp2_with fail
      go_meet
      exact HA.out
    · obtain ⟨k, i, u, c, n, a5, c5, a6, c6, cs, ns, hI⟩ := HA.out
      have HI := hide hI
      clear hI HA
      go_wp2_with fail
      refine (belowW _ _ _ (by omega) (by omega) HI.out.cur).mono ?_
      rintro e w5 ⟨x, rfl, x0, x1, hc5, hg5⟩
      have HJ := hide (HI.out.call hc5 hg5)
      clear HI hc5 hg5
      have X := box_of HJ.out.box
      have f := X.1 2 _ rfl
      have z := X.2 2
      clear X
      go_wp2_with fail
      go_meet
      exact ⟨_, _, _, _, _, _, _, _, _, _, _, HJ.out.put 2 _ rfl⟩
  case rest =>
  clear HA
  have HA := hide hcut
  clear hcut
  go_upto_if 24 with fail
  go_cut [25] from 22 to 27 (fun _ wq => MAny w g l 40 wq)
  case first =>
    cases hb : (bits .and .i64 h 2 != 0)
    · go_wp2_with fail
      go_meet
      exact HA.out
    · obtain ⟨k, i, u, c, n, a5, c5, a6, c6, cs, ns, hI⟩ := HA.out
      have HI := hide hI
      clear hI HA
      go_wp2_with fail
      refine (belowW _ _ _ (by omega) (by omega) HI.out.cur).mono ?_
      rintro e w5 ⟨x, rfl, x0, x1, hc5, hg5⟩
      have HJ := hide (HI.out.call hc5 hg5)
      clear HI hc5 hg5
      have X := box_of HJ.out.box
      have f := X.1 3 _ rfl
      have z := X.2 3
      clear X
      go_wp2_with fail
      go_meet
      exact ⟨_, _, _, _, _, _, _, _, _, _, _, HJ.out.put 3 _ rfl⟩
  case rest =>
  clear HA
  have HA := hide hcut
  clear hcut
  go_upto_if 30 with fail
  go_cut [31] from 28 to 33 (fun _ wq => MAny w g l 40 wq)
  case first =>
    cases hb : (bits .and .i64 h 4 != 0)
    · go_wp2_with fail
      go_meet
      exact HA.out
    · obtain ⟨k, i, u, c, n, a5, c5, a6, c6, cs, ns, hI⟩ := HA.out
      have HI := hide hI
      clear hI HA
      go_wp2_with fail
      refine (belowW _ _ _ (by omega) (by omega) HI.out.cur).mono ?_
      rintro e w5 ⟨x, rfl, x0, x1, hc5, hg5⟩
      have HJ := hide (HI.out.call hc5 hg5)
      clear HI hc5 hg5
      have X := box_of HJ.out.box
      have f := X.1 4 _ rfl
      have z := X.2 4
      clear X
      go_wp2_with fail
      go_meet
      exact ⟨_, _, _, _, _, _, _, _, _, _, _, HJ.out.put 4 _ rfl⟩
  case rest =>
  clear HA
  have HA := hide hcut
  clear hcut
  go_upto_if 36 with fail
  go_cut [37] from 34 to 39 (fun _ wq => MAny w g l 40 wq)
  case first =>
    cases hb : (bits .and .i64 h 8 != 0)
    · go_wp2_with fail
      go_meet
      exact HA.out
    · obtain ⟨k, i, u, c, n, a5, c5, a6, c6, cs, ns, hI⟩ := HA.out
      have HI := hide hI
      clear hI HA
      go_wp2_with fail
      refine (cellsD _ _ HI.out.cur).mono ?_
      rintro e w5 ⟨aN, cN, ys, rfl, ho, hl5, hc5, hg5⟩
      have HJ := hide (HI.out.set5 ho (by omega) hc5 hg5)
      have X := box_of (HI.out.call hc5 hg5).box
      clear HI hc5 hg5 ho
      have f := X.1 5 _ rfl
      have z := X.2 5
      clear X
      go_wp2_with fail
      go_meet
      exact ⟨_, _, _, _, _, _, _, _, _, _, _, HJ.out⟩
  case rest =>
  clear HA
  have HA := hide hcut
  clear hcut
  go_upto_if 42 with fail
  go_cut [43] from 40 to 45 (fun _ wq => MAny w g l 40 wq)
  case first =>
    cases hb : (bits .and .i64 h 16 != 0)
    · go_wp2_with fail
      go_meet
      exact HA.out
    · obtain ⟨k, i, u, c, n, a5, c5, a6, c6, cs, ns, hI⟩ := HA.out
      have HI := hide hI
      clear hI HA
      go_wp2_with fail
      refine (notesD _ _ HI.out.cur).mono ?_
      rintro e w5 ⟨aN, cN, ys, rfl, ho, hl5, hc5, hg5⟩
      have HJ := hide (HI.out.set6 ho (by omega) hc5 hg5)
      have X := box_of (HI.out.call hc5 hg5).box
      clear HI hc5 hg5 ho
      have f := X.1 6 _ rfl
      have z := X.2 6
      clear X
      go_wp2_with fail
      go_meet
      exact ⟨_, _, _, _, _, _, _, _, _, _, _, HJ.out⟩
  case rest =>
  clear HA
  have HA := hide hcut
  clear hcut
  obtain ⟨k, i, u, c, n, a5, c5, a6, c6, cs, ns, hI⟩ := HA.out
  have HI := hide hI
  clear hI HA
  have hgl := HI.out.hi
  have X := box_of HI.out.box
  have f0 := X.1 0 _ rfl
  have f1 := X.1 1 _ rfl
  have f2 := X.1 2 _ rfl
  have f3 := X.1 3 _ rfl
  have f4 := X.1 4 _ rfl
  have f5 := X.1 5 _ rfl
  have f6 := X.1 6 _ rfl
  have Y := box_of HI.out.res
  have r0 := Y.1 0 _ rfl
  have r1 := Y.1 1 _ rfl
  have r2 := Y.1 2 _ rfl
  have r3 := Y.1 3 _ rfl
  have r4 := Y.1 4 _ rfl
  have r5 := Y.1 5 _ rfl
  have r6 := Y.1 6 _ rfl
  have z0 := Y.2 0
  have z1 := Y.2 1
  have z2 := Y.2 2
  have z3 := Y.2 3
  have z4 := Y.2 4
  have z5 := Y.2 5
  have z6 := Y.2 6
  clear X Y
  go_wp2
  have hA := HI.out.ans (.int .i64 k) (.int .i64 i) (.int .i64 u) (.int .i64 c) (.int .i64 n) (.slice a5 cs.length c5) (.slice a6 ns.length c6)
  exact bodyPost_ret (v := .agg #[.int .i64 k, .int .i64 i, .int .i64 u, .int .i64 c, .int .i64 n, .slice a5 cs.length c5, .slice a6 ns.length c6]) (results_one Tryd.results47 _ _ _ rfl (load7 (put7 HI.out.res _ _ _ _ _ _ _))) rfl ⟨k, i, u, c, n, a5, c5, a6, c6, cs, ns, rfl, hA.1, hA.2.1, HI.out.apart, HI.out.len5, HI.out.len6, hA.2.2.1, hA.2.2.2⟩
end Go.Proofs.YtkfnpijljpbiaaaDoor
/-
  A guarded call in a drawn region, by its contract; a row that is owned, in a world that is like it there.
-/
namespace Go.Proofs.YtkfnpijljpbiaaaDoor
theorem step_callW {P : Program} {ops : Array Oper} {o : Oper} {a : Act} {w : World} {K : Act → World → Prop} {Q : Exit → Act → World → Prop} {E : Prop} {R : Ending → World → Prop} (d : Option Tmp) (hd : o.dst = d) (hw : Region.wanted o (yielded ops a.tmps) = true)
    (f : FuncId) (xs : Array Operand) (ts : Array TypeId) (_ho : o.op = .call { callee := .value (.func f), args := xs, argTypes := ts }) (args : Array Value) (hrun : (execOp a.eval o).run P w = .ok (.enter f args) w) (hc : Calls P f args w R) (h : ∀ e w', R e w' → ∃ v, e = .returned v ∧ K (a.put d v) w') :
    if Region.wanted o (yielded ops a.tmps) = true then Oper.wp P o a w K Q else E := by
  subst hd
  rw [if_pos hw]
  unfold Oper.wp
  rw [hrun, Oper.upon_enter]
  refine hc.mono fun e w' hh => ?_
  obtain ⟨v, rfl, hk⟩ := h e w' hh
  exact hk
theorem own_like {w w' : World} {b e sz n : Nat} {v : Value} {cs : List Value} (h : w.ownsRow b e sz v n cs) (hs : ∀ q, v.ownBlock = some q → w'.heap[q]? = w.heap[q]?) : w'.ownsRow b e sz v n cs := by
  refine ⟨h.1, ?_⟩
  rcases h.2 with hn | ⟨g, cap, cur, rfl, hb, hgg, rest⟩
  · exact .inl hn
  · exact .inr ⟨g, cap, cur, rfl, hb, (hs g rfl).trans hgg, rest⟩
end Go.Proofs.YtkfnpijljpbiaaaDoor
