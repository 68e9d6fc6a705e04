/-
  Joined: TakeM, DrawVal, DrawRow.
-/
import Derived.Test.YtkfnpijljpbiaaaDoorJ22
import Derived.Test.YtkfnpijljpbiaaaDoorJ2
import Derived.RegionTactic
import Derived.BigRegion
import Derived.Great.BuildSlice
/-
  What takeMsg does.
-/
namespace Go.Proofs.YtkfnpijljpbiaaaDoor
open Go.RowKit

/-- A message that is taken, in new memory. -/
def RowM (b : Nat) (w : World) (v : Value) (m : M) : Prop := ∃ v5 v6, v = msgV m.k m.i m.u m.c m.n v5 v6 ∧ OwnC w b v5 m.cs ∧ OwnN w b v6 m.ns ∧ (∀ q, v5.ownBlock = some q → ∀ r, v6.ownBlock = some r → q < r)

theorem own_put7 {w : World} {base e sz n : Nat} {v : Value} {cs : List Value} (h : w.ownsRow base e sz v n cs) {g : Nat} (hg : g < base) (x0 x1 x2 x3 x4 x5 x6 : Value) :
    (((((((w.setCell ⟨g, 0, none⟩ x0).setCell ⟨g, 1, none⟩ x1).setCell ⟨g, 2, none⟩ x2).setCell ⟨g, 3, none⟩ x3).setCell ⟨g, 4, none⟩ x4).setCell ⟨g, 5, none⟩ x5).setCell ⟨g, 6, none⟩ x6).ownsRow base e sz v n cs :=
  own_set (own_set (own_set (own_set (own_set (own_set (own_set h hg 0 x0) hg 1 x1) hg 2 x2) hg 3 x3) hg 4 x4) hg 5 x5) hg 6 x6
theorem grown_put7 {w wr : World} {p g : Nat} (h : w.grownBy wr (some p)) (hg : w.heap.size ≤ g) (x0 x1 x2 x3 x4 x5 x6 : Value) :
    w.grownBy (((((((wr.setCell ⟨g, 0, none⟩ x0).setCell ⟨g, 1, none⟩ x1).setCell ⟨g, 2, none⟩ x2).setCell ⟨g, 3, none⟩ x3).setCell ⟨g, 4, none⟩ x4).setCell ⟨g, 5, none⟩ x5).setCell ⟨g, 6, none⟩ x6) (some p) :=
  grown_new (grown_new (grown_new (grown_new (grown_new (grown_new (grown_new h hg 0 x0) hg 1 x1) hg 2 x2) hg 3 x3) hg 4 x4) hg 5 x5) hg 6 x6
theorem place_put7 {w : World} {p g : Nat} (hg : p < g) (x0 x1 x2 x3 x4 x5 x6 : Value) :
    (((((((w.setCell ⟨g, 0, none⟩ x0).setCell ⟨g, 1, none⟩ x1).setCell ⟨g, 2, none⟩ x2).setCell ⟨g, 3, none⟩ x3).setCell ⟨g, 4, none⟩ x4).setCell ⟨g, 5, none⟩ x5).setCell ⟨g, 6, none⟩ x6).heap[p]? = w.heap[p]? := by
  rw [set_place hg, set_place hg, set_place hg, set_place hg, set_place hg, set_place hg, set_place hg]

set_option maxRecDepth 100000 in
set_option maxHeartbeats 8000000 in
theorem rdMsg {w : World} {B : Nat} {a : Option Addr} {len : Nat} {zs : List Int} {p k0 : Nat} {t : TypeId} {v : Value} (cap : Nat) (h : Rdr w B a len zs p k0 t v) :
    Calls Tryd.prog 70 #[.slice a len cap, .pointer (some ⟨p, 0, none⟩)] w (tookL (RowM w.heap.size) w p t v (rMsg zs k0)) := by
  have hlt := h.lt
  have hlt1 : p < w.heap.size + 1 := by omega
  generalize hGG : rMsg zs k0 = G
  have HGG := hide hGG
  clear hGG
  unfold rMsg at HGG
  have HR := hide ((h.alloc (.cells #[.int .i64 0, .int .i64 0, .int .i64 0, .int .i64 0, .int .i64 0, .slice none 0 0, .slice none 0 0] 39)).alloc (.cells #[.int .i64 0, .int .i64 0, .int .i64 0, .int .i64 0, .int .i64 0, .slice none 0 0, .slice none 0 0] 39))
  have HG := hide (grownBy_trans (World.grownBy_alloc w (.cells #[.int .i64 0, .int .i64 0, .int .i64 0, .int .i64 0, .int .i64 0, .slice none 0 0, .slice none 0 0] 39) (some p)) (World.grownBy_alloc (w.alloc (.cells #[.int .i64 0, .int .i64 0, .int .i64 0, .int .i64 0, .int .i64 0, .slice none 0 0, .slice none 0 0] 39)) (.cells #[.int .i64 0, .int .i64 0, .int .i64 0, .int .i64 0, .int .i64 0, .slice none 0 0, .slice none 0 0] 39) (some p)))
  have E4 : Hid (((w.alloc (.cells #[.int .i64 0, .int .i64 0, .int .i64 0, .int .i64 0, .int .i64 0, .slice none 0 0, .slice none 0 0] 39)).alloc (.cells #[.int .i64 0, .int .i64 0, .int .i64 0, .int .i64 0, .int .i64 0, .slice none 0 0, .slice none 0 0] 39)).heap[w.heap.size]? = some (.cells #[.int .i64 0, .int .i64 0, .int .i64 0, .int .i64 0, .int .i64 0, .slice none 0 0, .slice none 0 0] 39 (0, 0))) := hide ((Below.heap_alloc _ _ _ (by simp)).trans (heap_alloc_new w _))
  have E5 : Hid (((w.alloc (.cells #[.int .i64 0, .int .i64 0, .int .i64 0, .int .i64 0, .int .i64 0, .slice none 0 0, .slice none 0 0] 39)).alloc (.cells #[.int .i64 0, .int .i64 0, .int .i64 0, .int .i64 0, .int .i64 0, .slice none 0 0, .slice none 0 0] 39)).heap[w.heap.size + 1]? = some (.cells #[.int .i64 0, .int .i64 0, .int .i64 0, .int .i64 0, .int .i64 0, .slice none 0 0, .slice none 0 0] 39 (0, 0))) := hide (by have := heap_alloc_new (w.alloc (.cells #[.int .i64 0, .int .i64 0, .int .i64 0, .int .i64 0, .int .i64 0, .slice none 0 0, .slice none 0 0] 39)) (.cells #[.int .i64 0, .int .i64 0, .int .i64 0, .int .i64 0, .int .i64 0, .slice none 0 0, .slice none 0 0] 39); simpa only [World.size_alloc] using this)
  clear h
  go_enter Tryd.func70, Tryd.ntmps70
  go_wp2_with fail
  generalize (w.alloc (.cells #[.int .i64 0, .int .i64 0, .int .i64 0, .int .i64 0, .int .i64 0, .slice none 0 0, .slice none 0 0] 39)).alloc (.cells #[.int .i64 0, .int .i64 0, .int .i64 0, .int .i64 0, .int .i64 0, .slice none 0 0, .slice none 0 0] 39) = W0 at *
  refine (rdNum cap HR.out).mono ?_
  rintro e w1 ⟨hres, gg⟩
  replace HG := hide (grownBy_trans HG.out gg)
  rcases hres with ⟨k, k1, hr, rfl, hp⟩ | ⟨hr, rfl⟩
  · replace HR := hide (HR.out.next gg hp)
    replace E4 := hide ((gg.block w.heap.size (Array.getElem?_eq_some_iff.1 E4.out).1 (fun e => by cases e; omega)).trans E4.out)
    replace E5 := hide ((gg.block (w.heap.size + 1) (Array.getElem?_eq_some_iff.1 E5.out).1 (fun e => by cases e; omega)).trans E5.out)
    rw [hr] at HGG
    simp only [Option.bind_some] at HGG
    have X := box_of E5.out
    have f0 := X.1 0 _ rfl
    have z0 := X.2 0
    clear gg hp hr X
    replace HR := hide (HR.out.set hlt1 0 (.int .i64 k))
    replace HG := hide (grown_new HG.out (Nat.le_succ _) 0 (.int .i64 k))
    replace E4 := hide ((heap_setCell_other w1 ⟨w.heap.size + 1, 0, none⟩ w.heap.size (.int .i64 k) (by simp)).trans E4.out)
    replace E5 : Hid ((w1.setCell ⟨w.heap.size + 1, 0, none⟩ (.int .i64 k)).heap[w.heap.size + 1]? = some (.cells #[.int .i64 k, .int .i64 0, .int .i64 0, .int .i64 0, .int .i64 0, .slice none 0 0, .slice none 0 0] 39 (0, 0))) := hide (heap_setCell_same w1 (w.heap.size + 1) 0 _ 39 (.int .i64 k) E5.out)
    go_wp2_with fail
    clear f0 z0
    generalize w1.setCell ⟨w.heap.size + 1, 0, none⟩ (.int .i64 k) = W1 at *
    refine (rdNum cap HR.out).mono ?_
    rintro e w2 ⟨hres, gg⟩
    replace HG := hide (grownBy_trans HG.out gg)
    rcases hres with ⟨i, k2, hr, rfl, hp⟩ | ⟨hr, rfl⟩
    · replace HR := hide (HR.out.next gg hp)
      replace E4 := hide ((gg.block w.heap.size (Array.getElem?_eq_some_iff.1 E4.out).1 (fun e => by cases e; omega)).trans E4.out)
      replace E5 := hide ((gg.block (w.heap.size + 1) (Array.getElem?_eq_some_iff.1 E5.out).1 (fun e => by cases e; omega)).trans E5.out)
      rw [hr] at HGG
      simp only [Option.bind_some] at HGG
      have X := box_of E5.out
      have f1 := X.1 1 _ rfl
      have z1 := X.2 1
      clear gg hp hr X
      replace HR := hide (HR.out.set hlt1 1 (.int .i64 i))
      replace HG := hide (grown_new HG.out (Nat.le_succ _) 1 (.int .i64 i))
      replace E4 := hide ((heap_setCell_other w2 ⟨w.heap.size + 1, 1, none⟩ w.heap.size (.int .i64 i) (by simp)).trans E4.out)
      replace E5 : Hid ((w2.setCell ⟨w.heap.size + 1, 1, none⟩ (.int .i64 i)).heap[w.heap.size + 1]? = some (.cells #[.int .i64 k, .int .i64 i, .int .i64 0, .int .i64 0, .int .i64 0, .slice none 0 0, .slice none 0 0] 39 (0, 0))) := hide (heap_setCell_same w2 (w.heap.size + 1) 1 _ 39 (.int .i64 i) E5.out)
      go_wp2_with fail
      clear f1 z1
      generalize w2.setCell ⟨w.heap.size + 1, 1, none⟩ (.int .i64 i) = W2 at *
      refine (rdNum cap HR.out).mono ?_
      rintro e w3 ⟨hres, gg⟩
      replace HG := hide (grownBy_trans HG.out gg)
      rcases hres with ⟨u, k3, hr, rfl, hp⟩ | ⟨hr, rfl⟩
      · replace HR := hide (HR.out.next gg hp)
        replace E4 := hide ((gg.block w.heap.size (Array.getElem?_eq_some_iff.1 E4.out).1 (fun e => by cases e; omega)).trans E4.out)
        replace E5 := hide ((gg.block (w.heap.size + 1) (Array.getElem?_eq_some_iff.1 E5.out).1 (fun e => by cases e; omega)).trans E5.out)
        rw [hr] at HGG
        simp only [Option.bind_some] at HGG
        have X := box_of E5.out
        have f2 := X.1 2 _ rfl
        have z2 := X.2 2
        clear gg hp hr X
        replace HR := hide (HR.out.set hlt1 2 (.int .i64 u))
        replace HG := hide (grown_new HG.out (Nat.le_succ _) 2 (.int .i64 u))
        replace E4 := hide ((heap_setCell_other w3 ⟨w.heap.size + 1, 2, none⟩ w.heap.size (.int .i64 u) (by simp)).trans E4.out)
        replace E5 : Hid ((w3.setCell ⟨w.heap.size + 1, 2, none⟩ (.int .i64 u)).heap[w.heap.size + 1]? = some (.cells #[.int .i64 k, .int .i64 i, .int .i64 u, .int .i64 0, .int .i64 0, .slice none 0 0, .slice none 0 0] 39 (0, 0))) := hide (heap_setCell_same w3 (w.heap.size + 1) 2 _ 39 (.int .i64 u) E5.out)
        go_wp2_with fail
        clear f2 z2
        generalize w3.setCell ⟨w.heap.size + 1, 2, none⟩ (.int .i64 u) = W3 at *
        refine (rdNum cap HR.out).mono ?_
        rintro e w4 ⟨hres, gg⟩
        replace HG := hide (grownBy_trans HG.out gg)
        rcases hres with ⟨c, k4, hr, rfl, hp⟩ | ⟨hr, rfl⟩
        · replace HR := hide (HR.out.next gg hp)
          replace E4 := hide ((gg.block w.heap.size (Array.getElem?_eq_some_iff.1 E4.out).1 (fun e => by cases e; omega)).trans E4.out)
          replace E5 := hide ((gg.block (w.heap.size + 1) (Array.getElem?_eq_some_iff.1 E5.out).1 (fun e => by cases e; omega)).trans E5.out)
          rw [hr] at HGG
          simp only [Option.bind_some] at HGG
          have X := box_of E5.out
          have f3 := X.1 3 _ rfl
          have z3 := X.2 3
          clear gg hp hr X
          replace HR := hide (HR.out.set hlt1 3 (.int .i64 c))
          replace HG := hide (grown_new HG.out (Nat.le_succ _) 3 (.int .i64 c))
          replace E4 := hide ((heap_setCell_other w4 ⟨w.heap.size + 1, 3, none⟩ w.heap.size (.int .i64 c) (by simp)).trans E4.out)
          replace E5 : Hid ((w4.setCell ⟨w.heap.size + 1, 3, none⟩ (.int .i64 c)).heap[w.heap.size + 1]? = some (.cells #[.int .i64 k, .int .i64 i, .int .i64 u, .int .i64 c, .int .i64 0, .slice none 0 0, .slice none 0 0] 39 (0, 0))) := hide (heap_setCell_same w4 (w.heap.size + 1) 3 _ 39 (.int .i64 c) E5.out)
          go_wp2_with fail
          clear f3 z3
          generalize w4.setCell ⟨w.heap.size + 1, 3, none⟩ (.int .i64 c) = W4 at *
          refine (rdNum cap HR.out).mono ?_
          rintro e w5 ⟨hres, gg⟩
          replace HG := hide (grownBy_trans HG.out gg)
          rcases hres with ⟨n, k5, hr, rfl, hp⟩ | ⟨hr, rfl⟩
          · replace HR := hide (HR.out.next gg hp)
            replace E4 := hide ((gg.block w.heap.size (Array.getElem?_eq_some_iff.1 E4.out).1 (fun e => by cases e; omega)).trans E4.out)
            replace E5 := hide ((gg.block (w.heap.size + 1) (Array.getElem?_eq_some_iff.1 E5.out).1 (fun e => by cases e; omega)).trans E5.out)
            rw [hr] at HGG
            simp only [Option.bind_some] at HGG
            have X := box_of E5.out
            have f4 := X.1 4 _ rfl
            have z4 := X.2 4
            clear gg hp hr X
            replace HR := hide (HR.out.set hlt1 4 (.int .i64 n))
            replace HG := hide (grown_new HG.out (Nat.le_succ _) 4 (.int .i64 n))
            replace E4 := hide ((heap_setCell_other w5 ⟨w.heap.size + 1, 4, none⟩ w.heap.size (.int .i64 n) (by simp)).trans E4.out)
            replace E5 : Hid ((w5.setCell ⟨w.heap.size + 1, 4, none⟩ (.int .i64 n)).heap[w.heap.size + 1]? = some (.cells #[.int .i64 k, .int .i64 i, .int .i64 u, .int .i64 c, .int .i64 n, .slice none 0 0, .slice none 0 0] 39 (0, 0))) := hide (heap_setCell_same w5 (w.heap.size + 1) 4 _ 39 (.int .i64 n) E5.out)
            go_wp2_with fail
            clear f4 z4
            generalize w5.setCell ⟨w.heap.size + 1, 4, none⟩ (.int .i64 n) = W5 at *
            have sz5 := HG.out.size
            refine (rdListCell cap HR.out).mono ?_
            rintro e w6 ⟨hres, gg⟩
            rcases hres with ⟨cs, k6, v5, hr, rfl, ho, hp⟩ | ⟨hr, rfl⟩
            · replace HG := hide (grownBy_trans HG.out gg)
              obtain ⟨a5, c5, rfl, _⟩ := cells_at (ho.rd (Nat.le_refl _))
              have H5 := hide ho
              have hw5 : w.heap.size + 1 < W5.heap.size := (Array.getElem?_eq_some_iff.1 E5.out).1
              replace HR := hide (HR.out.next gg hp)
              replace E4 := hide ((gg.block w.heap.size (Array.getElem?_eq_some_iff.1 E4.out).1 (fun e => by cases e; omega)).trans E4.out)
              replace E5 := hide ((gg.block (w.heap.size + 1) (Array.getElem?_eq_some_iff.1 E5.out).1 (fun e => by cases e; omega)).trans E5.out)
              rw [hr] at HGG
              simp only [Option.bind_some] at HGG
              have X := box_of E5.out
              have f5 := X.1 5 _ rfl
              have z5 := X.2 5
              clear gg hp hr X ho
              replace HR := hide (HR.out.set hlt1 5 (.slice a5 cs.length c5))
              replace HG := hide (grown_new HG.out (Nat.le_succ _) 5 (.slice a5 cs.length c5))
              replace H5 := hide (own_set H5.out (show w.heap.size + 1 < _ from by omega) 5 (.slice a5 cs.length c5))
              replace E4 := hide ((heap_setCell_other w6 ⟨w.heap.size + 1, 5, none⟩ w.heap.size (.slice a5 cs.length c5) (by simp)).trans E4.out)
              replace E5 : Hid ((w6.setCell ⟨w.heap.size + 1, 5, none⟩ (.slice a5 cs.length c5)).heap[w.heap.size + 1]? = some (.cells #[.int .i64 k, .int .i64 i, .int .i64 u, .int .i64 c, .int .i64 n, .slice a5 cs.length c5, .slice none 0 0] 39 (0, 0))) := hide (heap_setCell_same w6 (w.heap.size + 1) 5 _ 39 (.slice a5 cs.length c5) E5.out)
              go_wp2_with fail
              clear f5 z5
              generalize w6.setCell ⟨w.heap.size + 1, 5, none⟩ (.slice a5 cs.length c5) = W6 at *
              have sz6 := HG.out.size
              refine (rdListNote cap HR.out).mono ?_
              rintro e w7 ⟨hres, gg⟩
              rcases hres with ⟨ns, k7, v6, hr, rfl, ho, hp⟩ | ⟨hr, rfl⟩
              · replace HG := hide (grownBy_trans HG.out gg)
                obtain ⟨a6, c6, rfl, _⟩ := notes_at (ho.rd (Nat.le_refl _))
                have H6 := hide ho
                have hw6 : w.heap.size + 1 < W6.heap.size := (Array.getElem?_eq_some_iff.1 E5.out).1
                have L5 := hide (OwnC.lt H5.out)
                replace H5 := hide (OwnC.kept H5.out gg (fun q hq e => by cases e; have := (L5.out _ hq).1; omega))
                replace HR := hide (HR.out.next gg hp)
                replace E4 := hide ((gg.block w.heap.size (Array.getElem?_eq_some_iff.1 E4.out).1 (fun e => by cases e; omega)).trans E4.out)
                replace E5 := hide ((gg.block (w.heap.size + 1) (Array.getElem?_eq_some_iff.1 E5.out).1 (fun e => by cases e; omega)).trans E5.out)
                rw [hr] at HGG
                simp only [Option.bind_some] at HGG
                have X := box_of E5.out
                have HX5 := hide X.1
                have X4 := box_of E4.out
                have HX4 := hide X4.1
                have zz := X4.2
                clear X4
                have f6 := X.1 6 _ rfl
                have z6 := X.2 6
                have HNE : Hid (∀ q, (Value.slice a5 cs.length c5).ownBlock = some q → ∀ r, (Value.slice a6 ns.length c6).ownBlock = some r → q < r) := hide (fun q hq r hr => Nat.lt_of_lt_of_le (L5.out q hq).2 (ho.lt r hr).1)
                clear gg hp hr X ho
                replace HR := hide (HR.out.set hlt1 6 (.slice a6 ns.length c6))
                replace HG := hide (grown_new HG.out (Nat.le_succ _) 6 (.slice a6 ns.length c6))
                replace H5 := hide (own_set H5.out (show w.heap.size + 1 < _ from by omega) 6 (.slice a6 ns.length c6))
                replace H6 := hide (own_set H6.out (show w.heap.size + 1 < _ from by omega) 6 (.slice a6 ns.length c6))
                replace E4 := hide ((heap_setCell_other w7 ⟨w.heap.size + 1, 6, none⟩ w.heap.size (.slice a6 ns.length c6) (by simp)).trans E4.out)
                replace E5 : Hid ((w7.setCell ⟨w.heap.size + 1, 6, none⟩ (.slice a6 ns.length c6)).heap[w.heap.size + 1]? = some (.cells #[.int .i64 k, .int .i64 i, .int .i64 u, .int .i64 c, .int .i64 n, .slice a5 cs.length c5, .slice a6 ns.length c6] 39 (0, 0))) := hide (heap_setCell_same w7 (w.heap.size + 1) 6 _ 39 (.slice a6 ns.length c6) E5.out)
                have HN := hide HGG.out.symm
                have HP := hide HR.out.pl
                have r0 := HX4.out 0 _ rfl
                have r1 := HX4.out 1 _ rfl
                have r2 := HX4.out 2 _ rfl
                have r3 := HX4.out 3 _ rfl
                have r4 := HX4.out 4 _ rfl
                have r5 := HX4.out 5 _ rfl
                have r6 := HX4.out 6 _ rfl
                have g0 := HX5.out 0 _ rfl
                have g1 := HX5.out 1 _ rfl
                have g2 := HX5.out 2 _ rfl
                have g3 := HX5.out 3 _ rfl
                have g4 := HX5.out 4 _ rfl
                have g5 := HX5.out 5 _ rfl
                have g6 := HX5.out 6 _ rfl
                clear HR HGG f6
                have E := hide E4.out
                go_wp2
                refine bodyPost_ret (v := msgV k i u c n (.slice a5 cs.length c5) (.slice a6 ns.length c6)) (results_one Tryd.results70 _ _ _ rfl (load7 (put7 E.out _ _ _ _ _ _ _))) rfl ⟨.inl ⟨_, _, _, HN.out, rfl, ⟨_, _, rfl, ?_, ?_, HNE.out⟩, ?_⟩, grown_put7 HG.out (Nat.le_refl _) _ _ _ _ _ _ _⟩
                · exact OwnC.mono (own_put7 H5.out (show w.heap.size < _ from by omega) _ _ _ _ _ _ _) (by omega)
                · exact OwnN.mono (own_put7 H6.out (show w.heap.size < _ from by omega) _ _ _ _ _ _ _) (by omega)
                · rw [place_put7 hlt]; exact HP.out
              · have HN : Hid (G = none) := hide (by rw [← HGG.out, hr]; rfl)
                replace HG := hide (grownBy_trans HG.out gg)
                clear gg hr HGG
                go_wp2
                exact ⟨rfl, .inr ⟨HN.out, rfl⟩, HG.out⟩
            · have HN : Hid (G = none) := hide (by rw [← HGG.out, hr]; rfl)
              replace HG := hide (grownBy_trans HG.out gg)
              clear gg hr HGG
              go_wp2
              exact ⟨rfl, .inr ⟨HN.out, rfl⟩, HG.out⟩
          · have HN : Hid (G = none) := hide (by rw [← HGG.out, hr]; rfl)
            clear gg hr HGG
            go_wp2
            exact ⟨rfl, .inr ⟨HN.out, rfl⟩, HG.out⟩
        · have HN : Hid (G = none) := hide (by rw [← HGG.out, hr]; rfl)
          clear gg hr HGG
          go_wp2
          exact ⟨rfl, .inr ⟨HN.out, rfl⟩, HG.out⟩
      · have HN : Hid (G = none) := hide (by rw [← HGG.out, hr]; rfl)
        clear gg hr HGG
        go_wp2
        exact ⟨rfl, .inr ⟨HN.out, rfl⟩, HG.out⟩
    · have HN : Hid (G = none) := hide (by rw [← HGG.out, hr]; rfl)
      clear gg hr HGG
      go_wp2
      exact ⟨rfl, .inr ⟨HN.out, rfl⟩, HG.out⟩
  · have HN : Hid (G = none) := hide (by rw [← HGG.out, hr]; rfl)
    clear gg hr HGG
    go_wp2
    exact ⟨rfl, .inr ⟨HN.out, rfl⟩, HG.out⟩
end Go.Proofs.YtkfnpijljpbiaaaDoor
/-
  What is drawn for messages, as far as it matters (how great it is, and whose memory): numbers, values, cells, notes.
-/
namespace Go.Proofs.YtkfnpijljpbiaaaDoor
open Go.RowKit

/-- A cursor lies at block g. -/
def CurW (w : World) (g : Nat) : Prop := ∃ zs s, Cur w g zs s
theorem CurW.lt {w : World} {g : Nat} (h : CurW w g) : g < w.heap.size := by obtain ⟨_, _, h⟩ := h; exact h.lt
theorem CurW.alloc {w : World} {g : Nat} (h : CurW w g) (o : Obj) : CurW (w.alloc o) g := by obtain ⟨_, _, h⟩ := h; exact ⟨_, _, h.alloc o⟩
theorem CurW.row {w w' : World} {g : Nat} {row : Option Nat} (h : CurW w g) (hg : w.grownBy w' row) (hr : ∀ k, row = some k → g < k) : CurW w' g := by obtain ⟨_, _, h⟩ := h; exact ⟨_, _, h.row hg hr⟩
theorem belowW (w : World) (g : Nat) (n : Int) (hn : 0 < n) (hn' : n ≤ 1000000000) (hc : CurW w g) :
    Calls Tryd.prog 33 #[.pointer (some ⟨g, 0, none⟩), .int .i64 n] w fun e w' => ∃ k, e = .returned (.int .i64 k) ∧ 0 ≤ k ∧ k < n ∧ CurW w' g ∧ w.grownBy w' (some g) := by
  obtain ⟨zs, s, hc⟩ := hc
  exact (belowDraw w g zs s n hn hn' hc).mono fun e w' ⟨h1, h2, h3⟩ => ⟨_, h1, (belowF_bd zs s n hn).1, (belowF_bd zs s n hn).2, ⟨_, _, h2⟩, h3⟩
theorem onceW (w : World) (g : Nat) (n : Int) (hn : 0 < n) (hn' : n ≤ 1000000000) (hc : CurW w g) :
    Calls Tryd.prog 80 #[.pointer (some ⟨g, 0, none⟩), .int .i64 n] w fun e w' => ∃ b : Bool, e = .returned (.bool b) ∧ CurW w' g ∧ w.grownBy w' (some g) := by
  obtain ⟨zs, s, hc⟩ := hc
  exact (onceDraw w g zs s n hn hn' hc).mono fun e w' ⟨h1, h2, h3⟩ => ⟨_, h1, ⟨_, _, h2⟩, h3⟩
theorem pickW (w : World) (g l n : Nat) (ls : List Int) (hz : ls.length = n) (hn : 0 < n) (hn' : n ≤ 256) (hgl : g < l) (hc : CurW w g) (hl : w.heap[l]? = some (.cells (ls.map (Value.int .i64)).toArray 3 (0, 0))) :
    Calls Tryd.prog 46 #[.pointer (some ⟨g, 0, none⟩), .slice (some ⟨l, 0, none⟩) n n] w fun e w' => ∃ k, e = .returned (.int .i64 k) ∧ k ∈ ls ∧ CurW w' g ∧ w.grownBy w' (some g) := by
  obtain ⟨zs, s, hc⟩ := hc
  exact (pickDraw w g l n zs s ls hz hn hn' hgl hc hl).mono fun e w' ⟨h1, h2, h3⟩ => ⟨_, h1, pickF_mem zs s ls (by omega), ⟨_, _, h2⟩, h3⟩

set_option maxRecDepth 100000 in
set_option maxHeartbeats 2000000 in
theorem wordW (w : World) (g : Nat) (hc : CurW w g) :
    Calls Tryd.prog 90 #[.pointer (some ⟨g, 0, none⟩)] w fun e w' => ∃ k, e = .returned (.int .i64 k) ∧ -2147483648 ≤ k ∧ k ≤ 2147483647 ∧ CurW w' g ∧ w.grownBy w' (some g) := by
  have HC := hide hc
  clear hc
  go_enter Tryd.func90, Tryd.ntmps90
  go_wp2_with fail
  refine (pickW _ _ _ 8 [0, 1, -1, 5, 7, 100, 2147483647, -2147483648] rfl (by omega) (by omega) HC.out.lt (HC.out.alloc _) (heap_alloc_new w _)).mono ?_
  rintro e w1 ⟨k, rfl, hk, hc1, hg1⟩
  have hb : -2147483648 ≤ k ∧ k ≤ 2147483647 := by simp at hk; omega
  have HG := hide (alloc_grown hg1)
  have HC1 := hide hc1
  clear hk hc1 hg1
  go_wp2
  go_ret
  exact ⟨k, rfl, hb.1, hb.2, HC1.out, HG.out⟩

theorem loadV {w : World} {g : Nat} {x y : Value} (h : w.heap[g]? = some (.cells #[x, y] 90 (0, 0))) : (loadVar 90 ⟨g, 0, none⟩).run Tryd.prog w = .ok (.agg #[x, y]) w :=
  run_loadVar_row w g 90 90 #[x, y] (0, 0) _ h Tryd.underlying90 rfl (by kernel_rfl)
/-- A block of one's own is stored into. -/
theorem grown_mine {w w1 : World} {g l : Nat} (h : w.grownBy w1 (some g)) (hl : w.heap.size ≤ l) (o : Nat) (v : Value) : w.grownBy (w1.setCell ⟨l, o, none⟩ v) (some g) :=
  grown_step h (grown_set (g := l) (World.grownBy.refl w1 (some l)) o v) (fun k hk => by cases hk; exact .inr hl)
theorem CurW.mine {w : World} {g l : Nat} (h : CurW w g) (hl : g < l) (o : Nat) (v : Value) : CurW (w.setCell ⟨l, o, none⟩ v) g :=
  h.row (grown_set (g := l) (World.grownBy.refl w (some l)) o v) (fun k hk => by cases hk; exact hl)
theorem same_g {w : World} {g : Nat} : ∀ k, (some g : Option Nat) = some k → k = g ∨ w.heap.size ≤ k := fun k hk => by cases hk; exact .inl rfl

set_option maxRecDepth 100000 in
set_option maxHeartbeats 2000000 in
theorem valW (w : World) (g : Nat) (hc : CurW w g) :
    Calls Tryd.prog 81 #[.pointer (some ⟨g, 0, none⟩)] w fun e w' => ∃ (r : Bool) (k : Int), e = .returned (.agg #[.bool r, .int .i64 k]) ∧ -2147483648 ≤ k ∧ k ≤ 2147483647 ∧ CurW w' g ∧ w.grownBy w' (some g) := by
  have hgl := hc.lt
  have HC := hide (hc.alloc (.cells #[.bool false, .int .i64 0] 90))
  have E := hide (heap_alloc_new w (.cells #[.bool false, .int .i64 0] 90))
  have HG := hide (World.grownBy_alloc w (.cells #[.bool false, .int .i64 0] 90) (some g))
  clear hc
  go_enter Tryd.func81, Tryd.ntmps81
  go_wp2_with fail
  generalize w.alloc (.cells #[.bool false, .int .i64 0] 90) = W at *
  refine (onceW _ _ _ (by omega) (by omega) HC.out).mono ?_
  rintro e w1 ⟨b, rfl, hc1, hg1⟩
  have hs0 := (Array.getElem?_eq_some_iff.1 E.out).1
  replace E := hide ((hg1.block w.heap.size hs0 (fun e => by simp only [Option.some.injEq] at e; omega)).trans E.out)
  replace HG := hide (grown_step HG.out hg1 same_g)
  replace HC := hide hc1
  clear hc1 hg1 hs0
  have hs1 := (Array.getElem?_eq_some_iff.1 E.out).1
  cases b
  · go_wp2_with fail
    refine (wordW _ _ HC.out).mono ?_
    rintro e w2 ⟨k, rfl, k0, k1, hc2, hg2⟩
    replace E := hide ((hg2.block w.heap.size hs1 (fun e => by simp only [Option.some.injEq] at e; omega)).trans E.out)
    replace HG := hide (grown_step HG.out hg2 same_g)
    replace HC := hide hc2
    clear hc2 hg2
    have X := box_of E.out
    have p0 := X.1 0 _ rfl
    have p1 := X.1 1 _ rfl
    have z0 := X.2 0
    have z1 := X.2 1
    clear X
    go_wp2
    exact bodyPost_ret (v := .agg #[.bool false, .int .i64 k]) (results_one Tryd.results81 _ _ _ rfl (loadV (put2N E.out _ _))) rfl ⟨_, _, rfl, k0, k1, (HC.out.mine hgl _ _).mine hgl _ _, grown_mine (grown_mine HG.out (Nat.le_refl _) _ _) (Nat.le_refl _) _ _⟩
  · go_wp2_with fail
    refine (pickW _ _ _ 4 [0, 1, 17, 18] rfl (by omega) (by omega) HC.out.lt (HC.out.alloc _) (heap_alloc_new w1 _)).mono ?_
    rintro e w2 ⟨k, rfl, hk, hc2, hg2⟩
    have hb : -2147483648 ≤ k ∧ k ≤ 2147483647 := by simp at hk; omega
    have hg3 := alloc_grown hg2
    replace E := hide ((hg3.block w.heap.size hs1 (fun e => by simp only [Option.some.injEq] at e; omega)).trans E.out)
    replace HG := hide (grown_step HG.out hg3 same_g)
    replace HC := hide hc2
    clear hc2 hg2 hg3 hk
    have X := box_of E.out
    have p0 := X.1 0 _ rfl
    have p1 := X.1 1 _ rfl
    have z0 := X.2 0
    have z1 := X.2 1
    clear X
    go_wp2
    exact bodyPost_ret (v := .agg #[.bool true, .int .i64 k]) (results_one Tryd.results81 _ _ _ rfl (loadV (put2N E.out _ _))) rfl ⟨_, _, rfl, hb.1, hb.2, (HC.out.mine hgl _ _).mine hgl _ _, grown_mine (grown_mine HG.out (Nat.le_refl _) _ _) (Nat.le_refl _) _ _⟩
end Go.Proofs.YtkfnpijljpbiaaaDoor
/-
  Drawn cells and notes lie in new memory, and are few.
-/
namespace Go.Proofs.YtkfnpijljpbiaaaDoor
open Go.RowKit

set_option maxRecDepth 100000 in
set_option maxHeartbeats 2000000 in
theorem notesD (w : World) (g : Nat) (hc : CurW w g) :
    Calls Tryd.prog 65 #[.pointer (some ⟨g, 0, none⟩)] w fun e w' => ∃ a c ys, e = .returned (.slice a (ys : List (Int × Int)).length c) ∧ OwnN w' w.heap.size (.slice a ys.length c) ys ∧ ys.length ≤ 30 ∧ CurW w' g ∧ w.grownBy w' (some g) := by
  have hgl := hc.lt
  have HC := hide hc
  clear hc
  go_enter Tryd.func65, Tryd.ntmps65
  go_wp2
  go_loopw [3, 4] (fun v i wr => ∃ (j : Nat) (ys : List (Int × Int)), i = .int .i64 (j : Int) ∧ 1 ≤ j ∧ ys.length + 1 ≤ j ∧ ys.length ≤ 24 ∧ Hid (OwnN wr w.heap.size v ys) ∧ Hid (CurW wr g) ∧ Hid (w.grownBy wr (some g))) (fun _ i _ => 100 - (intOf i).toNat)
  case atStart => exact ⟨1, [], rfl, by omega, by simp, by simp, World.ownsRow_made w #[] 0 (Nat.le_refl _) (by unfold maxLen; omega) rfl, HC.out.alloc _, World.grownBy_alloc _ _ _⟩
  case round =>
    clear HC
    obtain ⟨j, ys, rfl, hj1, hyl, hy2, HN, HC, HG⟩ := hrel
    obtain ⟨a6, c6, rfl, _⟩ := notes_at (HN.out.rd (Nat.le_refl _))
    by_cases hlt : (j : Int) < 25
    · go_wp2_with fail
      refine (belowW _ _ _ (by omega) (by omega) HC.out).mono ?_
      rintro e w1 ⟨k, rfl, k0, k1, hc1, hg1⟩
      replace HN := hide (HN.out.kept hg1 (fun q hq e => by simp only [Option.some.injEq] at e; have := (HN.out.lt q hq).1; omega))
      replace HG := hide (grown_step HG.out hg1 same_g)
      replace HC := hide hc1
      clear hg1 hc1
      have HBx := hide (Box.new w1 #[.int .i64 (j : Int), .int .i64 (1 + k)] 95)
      have bD := (Below.refl w1.heap.size w1).alloc (Nat.le_refl _) (.cells #[.int .i64 (j : Int), .int .i64 (1 + k)] 95)
      have HLo := hide HN.out.lt
      replace HC := hide (HC.out.alloc (.cells #[.int .i64 (j : Int), .int .i64 (1 + k)] 95))
      replace HN := hide (HN.out.below bD)
      replace HG := hide (grown_step HG.out (World.grownBy_alloc w1 (.cells #[.int .i64 (j : Int), .int .i64 (1 + k)] 95) none) (fun k hk => by cases hk))
      have hsG := HG.out.size
      clear bD
      go_wp2_with (at_builtin; refine app_Note rfl _ _ rfl w.heap.size w1.heap.size 1 _ ys ((j : Int), 1 + k) rfl HN.out rfl HBx.out (by omega) hsG ?_; intro v3 w3 o3 g3; have HN3 := hide o3; have HC3 := hide (HC.out.row g3 (fun q hq => by have := (HLo.out q hq).1; omega)); have HG3 := hide (grown_step HG.out g3 (fun q hq => .inr (HLo.out q hq).1)); clear o3 g3)
      clear HC HN HG HBx hsG
      refine (belowW _ _ _ (by omega) (by omega) HC3.out).mono ?_
      rintro e w4 ⟨k', rfl, k0', k1', hc4, hg4⟩
      have HN4 := hide (HN3.out.kept hg4 (fun q hq e => by simp only [Option.some.injEq] at e; have := (HN3.out.lt q hq).1; omega))
      have HG4 := hide (grown_step HG3.out hg4 same_g)
      have HC4 := hide hc4
      clear hg4 hc4 HN3 HG3 HC3
      go_wp2
      exact ⟨⟨j + 1 + k'.toNat, ys ++ [((j : Int), 1 + k)], by go_num, by omega, by simp; omega, by simp; omega, HN4, HC4, HG4⟩, by simp [intOf]; omega⟩
    · go_wp2
      go_ret
      exact ⟨_, _, _, rfl, HN.out, by omega, HC.out, HG.out⟩

set_option maxRecDepth 100000 in
set_option maxHeartbeats 2000000 in
theorem cellsD (w : World) (g : Nat) (hc : CurW w g) :
    Calls Tryd.prog 64 #[.pointer (some ⟨g, 0, none⟩)] w fun e w' => ∃ a c ys, e = .returned (.slice a (ys : List (Int × Bool × Int)).length c) ∧ OwnC w' w.heap.size (.slice a ys.length c) ys ∧ ys.length ≤ 30 ∧ CurW w' g ∧ w.grownBy w' (some g) := by
  have hgl := hc.lt
  have HC := hide hc
  clear hc
  go_enter Tryd.func64, Tryd.ntmps64
  go_wp2
  go_loopw [3, 4] (fun v i wr => ∃ (j : Nat) (ys : List (Int × Bool × Int)), i = .int .i64 (j : Int) ∧ j ≤ 4 ∧ ys.length ≤ j ∧ Hid (OwnC wr w.heap.size v ys) ∧ Hid (CurW wr g) ∧ Hid (w.grownBy wr (some g))) (fun _ i _ => 100 - (intOf i).toNat)
  case atStart => exact ⟨0, [], rfl, by omega, by simp, World.ownsRow_made w #[] 0 (Nat.le_refl _) (by unfold maxLen; omega) rfl, HC.out.alloc _, World.grownBy_alloc _ _ _⟩
  case round =>
    clear HC
    obtain ⟨j, ys, rfl, hj1, hyl, HN, HC, HG⟩ := hrel
    obtain ⟨a6, c6, rfl, _⟩ := cells_at (HN.out.rd (Nat.le_refl _))
    by_cases hlt : (j : Int) < 4
    · go_wp2_with fail
      refine (onceW _ _ _ (by omega) (by omega) HC.out).mono ?_
      rintro e w1 ⟨b, rfl, hc1, hg1⟩
      replace HN := hide (HN.out.kept hg1 (fun q hq e => by simp only [Option.some.injEq] at e; have := (HN.out.lt q hq).1; omega))
      replace HG := hide (grown_step HG.out hg1 same_g)
      replace HC := hide hc1
      clear hg1 hc1
      cases b
      · go_wp2
        exact ⟨⟨j + 1, ys, by go_num, by omega, by omega, HN, HC, HG⟩, by simp [intOf]; omega⟩
      · go_wp2_with fail
        refine (valW _ _ HC.out).mono ?_
        rintro e w2 ⟨r, k, rfl, k0, k1, hc2, hg2⟩
        replace HN := hide (HN.out.kept hg2 (fun q hq e => by simp only [Option.some.injEq] at e; have := (HN.out.lt q hq).1; omega))
        replace HG := hide (grown_step HG.out hg2 same_g)
        replace HC := hide hc2
        clear hg2 hc2
        have HBx := hide (Box.new w2 #[.int .i64 (j : Int), .bool r, .int .i64 k] 92)
        have bD := (Below.refl w2.heap.size w2).alloc (Nat.le_refl _) (.cells #[.int .i64 (j : Int), .bool r, .int .i64 k] 92)
        have HLo := hide HN.out.lt
        replace HC := hide (HC.out.alloc (.cells #[.int .i64 (j : Int), .bool r, .int .i64 k] 92))
        replace HN := hide (HN.out.below bD)
        replace HG := hide (grown_step HG.out (World.grownBy_alloc w2 (.cells #[.int .i64 (j : Int), .bool r, .int .i64 k] 92) none) (fun k hk => by cases hk))
        have hsG := HG.out.size
        clear bD
        go_wp2_with (at_builtin; refine app_Cell rfl _ _ rfl w.heap.size w2.heap.size 1 _ ys ((j : Int), r, k) rfl HN.out rfl HBx.out (by omega) hsG ?_; intro v3 w3 o3 g3; have HN3 := hide o3; have HC3 := hide (HC.out.row g3 (fun q hq => by have := (HLo.out q hq).1; omega)); have HG3 := hide (grown_step HG.out g3 (fun q hq => .inr (HLo.out q hq).1)); clear o3 g3)
        exact ⟨⟨j + 1, ys ++ [((j : Int), r, k)], by go_num, by omega, by simp; omega, HN3, HC3, HG3⟩, by simp [intOf]; omega⟩
    · go_wp2
      go_ret
      exact ⟨_, _, _, rfl, HN.out, by omega, HC.out, HG.out⟩
end Go.Proofs.YtkfnpijljpbiaaaDoor
