/-
  What takeMsg does.
-/
import Derived.Test.YtoaenoakdbieaaaDoorTakeL
namespace Go.Proofs.YtoaenoakdbieaaaDoor
open Go.RowKit

/-- A message that is taken, in new memory. -/
def RowM (b : Nat) (w : World) (v : Value) (m : M) : Prop := ∃ v5 v6, v = msgV m.k m.i m.u m.c m.n v5 v6 ∧ OwnC w b v5 m.cs ∧ OwnN w b v6 m.ns ∧ (∀ q, v5.ownBlock = some q → ∀ r, v6.ownBlock = some r → q < r)

theorem own_put7 {w : World} {base e sz n : Nat} {v : Value} {cs : List Value} (h : w.ownsRow base e sz v n cs) {g : Nat} (hg : g < base) (x0 x1 x2 x3 x4 x5 x6 : Value) :
    (((((((w.setCell ⟨g, 0, none⟩ x0).setCell ⟨g, 1, none⟩ x1).setCell ⟨g, 2, none⟩ x2).setCell ⟨g, 3, none⟩ x3).setCell ⟨g, 4, none⟩ x4).setCell ⟨g, 5, none⟩ x5).setCell ⟨g, 6, none⟩ x6).ownsRow base e sz v n cs :=
  own_set (own_set (own_set (own_set (own_set (own_set (own_set h hg 0 x0) hg 1 x1) hg 2 x2) hg 3 x3) hg 4 x4) hg 5 x5) hg 6 x6
theorem grown_put7 {w wr : World} {p g : Nat} (h : w.grownBy wr (some p)) (hg : w.heap.size ≤ g) (x0 x1 x2 x3 x4 x5 x6 : Value) :
    w.grownBy (((((((wr.setCell ⟨g, 0, none⟩ x0).setCell ⟨g, 1, none⟩ x1).setCell ⟨g, 2, none⟩ x2).setCell ⟨g, 3, none⟩ x3).setCell ⟨g, 4, none⟩ x4).setCell ⟨g, 5, none⟩ x5).setCell ⟨g, 6, none⟩ x6) (some p) :=
  grown_new (grown_new (grown_new (grown_new (grown_new (grown_new (grown_new h hg 0 x0) hg 1 x1) hg 2 x2) hg 3 x3) hg 4 x4) hg 5 x5) hg 6 x6
theorem place_put7 {w : World} {p g : Nat} (hg : p < g) (x0 x1 x2 x3 x4 x5 x6 : Value) :
    (((((((w.setCell ⟨g, 0, none⟩ x0).setCell ⟨g, 1, none⟩ x1).setCell ⟨g, 2, none⟩ x2).setCell ⟨g, 3, none⟩ x3).setCell ⟨g, 4, none⟩ x4).setCell ⟨g, 5, none⟩ x5).setCell ⟨g, 6, none⟩ x6).heap[p]? = w.heap[p]? := by
  rw [set_place hg, set_place hg, set_place hg, set_place hg, set_place hg, set_place hg, set_place hg]

set_option maxRecDepth 100000 in
set_option maxHeartbeats 8000000 in
theorem rdMsg {w : World} {B : Nat} {a : Option Addr} {len : Nat} {zs : List Int} {p k0 : Nat} {t : TypeId} {v : Value} (cap : Nat) (h : Rdr w B a len zs p k0 t v) :
    Calls Tryd.prog 57 #[.slice a len cap, .pointer (some ⟨p, 0, none⟩)] w (tookL (RowM w.heap.size) w p t v (rMsg zs k0)) := by
  have hlt := h.lt
  have hlt1 : p < w.heap.size + 1 := by omega
  generalize hGG : rMsg zs k0 = G
  have HGG := hide hGG
  clear hGG
  unfold rMsg at HGG
  have HR := hide ((h.alloc (.cells #[.int .i64 0, .int .i64 0, .int .i64 0, .int .i64 0, .int .i64 0, .slice none 0 0, .slice none 0 0] 27)).alloc (.cells #[.int .i64 0, .int .i64 0, .int .i64 0, .int .i64 0, .int .i64 0, .slice none 0 0, .slice none 0 0] 27))
  have HG := hide (grownBy_trans (World.grownBy_alloc w (.cells #[.int .i64 0, .int .i64 0, .int .i64 0, .int .i64 0, .int .i64 0, .slice none 0 0, .slice none 0 0] 27) (some p)) (World.grownBy_alloc (w.alloc (.cells #[.int .i64 0, .int .i64 0, .int .i64 0, .int .i64 0, .int .i64 0, .slice none 0 0, .slice none 0 0] 27)) (.cells #[.int .i64 0, .int .i64 0, .int .i64 0, .int .i64 0, .int .i64 0, .slice none 0 0, .slice none 0 0] 27) (some p)))
  have E4 : Hid (((w.alloc (.cells #[.int .i64 0, .int .i64 0, .int .i64 0, .int .i64 0, .int .i64 0, .slice none 0 0, .slice none 0 0] 27)).alloc (.cells #[.int .i64 0, .int .i64 0, .int .i64 0, .int .i64 0, .int .i64 0, .slice none 0 0, .slice none 0 0] 27)).heap[w.heap.size]? = some (.cells #[.int .i64 0, .int .i64 0, .int .i64 0, .int .i64 0, .int .i64 0, .slice none 0 0, .slice none 0 0] 27 (0, 0))) := hide ((Below.heap_alloc _ _ _ (by simp)).trans (heap_alloc_new w _))
  have E5 : Hid (((w.alloc (.cells #[.int .i64 0, .int .i64 0, .int .i64 0, .int .i64 0, .int .i64 0, .slice none 0 0, .slice none 0 0] 27)).alloc (.cells #[.int .i64 0, .int .i64 0, .int .i64 0, .int .i64 0, .int .i64 0, .slice none 0 0, .slice none 0 0] 27)).heap[w.heap.size + 1]? = some (.cells #[.int .i64 0, .int .i64 0, .int .i64 0, .int .i64 0, .int .i64 0, .slice none 0 0, .slice none 0 0] 27 (0, 0))) := hide (by have := heap_alloc_new (w.alloc (.cells #[.int .i64 0, .int .i64 0, .int .i64 0, .int .i64 0, .int .i64 0, .slice none 0 0, .slice none 0 0] 27)) (.cells #[.int .i64 0, .int .i64 0, .int .i64 0, .int .i64 0, .int .i64 0, .slice none 0 0, .slice none 0 0] 27); simpa only [World.size_alloc] using this)
  clear h
  go_enter Tryd.func57, Tryd.ntmps57
  go_wp2_with fail
  generalize (w.alloc (.cells #[.int .i64 0, .int .i64 0, .int .i64 0, .int .i64 0, .int .i64 0, .slice none 0 0, .slice none 0 0] 27)).alloc (.cells #[.int .i64 0, .int .i64 0, .int .i64 0, .int .i64 0, .int .i64 0, .slice none 0 0, .slice none 0 0] 27) = W0 at *
  refine (rdNum cap HR.out).mono ?_
  rintro e w1 ⟨hres, gg⟩
  replace HG := hide (grownBy_trans HG.out gg)
  rcases hres with ⟨k, k1, hr, rfl, hp⟩ | ⟨hr, rfl⟩
  · replace HR := hide (HR.out.next gg hp)
    replace E4 := hide ((gg.block w.heap.size (Array.getElem?_eq_some_iff.1 E4.out).1 (fun e => by cases e; omega)).trans E4.out)
    replace E5 := hide ((gg.block (w.heap.size + 1) (Array.getElem?_eq_some_iff.1 E5.out).1 (fun e => by cases e; omega)).trans E5.out)
    rw [hr] at HGG
    simp only [Option.bind_some] at HGG
    have X := box_of E5.out
    have f0 := X.1 0 _ rfl
    have z0 := X.2 0
    clear gg hp hr X
    replace HR := hide (HR.out.set hlt1 0 (.int .i64 k))
    replace HG := hide (grown_new HG.out (Nat.le_succ _) 0 (.int .i64 k))
    replace E4 := hide ((heap_setCell_other w1 ⟨w.heap.size + 1, 0, none⟩ w.heap.size (.int .i64 k) (by simp)).trans E4.out)
    replace E5 : Hid ((w1.setCell ⟨w.heap.size + 1, 0, none⟩ (.int .i64 k)).heap[w.heap.size + 1]? = some (.cells #[.int .i64 k, .int .i64 0, .int .i64 0, .int .i64 0, .int .i64 0, .slice none 0 0, .slice none 0 0] 27 (0, 0))) := hide (heap_setCell_same w1 (w.heap.size + 1) 0 _ 27 (.int .i64 k) E5.out)
    go_wp2_with fail
    clear f0 z0
    generalize w1.setCell ⟨w.heap.size + 1, 0, none⟩ (.int .i64 k) = W1 at *
    refine (rdNum cap HR.out).mono ?_
    rintro e w2 ⟨hres, gg⟩
    replace HG := hide (grownBy_trans HG.out gg)
    rcases hres with ⟨i, k2, hr, rfl, hp⟩ | ⟨hr, rfl⟩
    · replace HR := hide (HR.out.next gg hp)
      replace E4 := hide ((gg.block w.heap.size (Array.getElem?_eq_some_iff.1 E4.out).1 (fun e => by cases e; omega)).trans E4.out)
      replace E5 := hide ((gg.block (w.heap.size + 1) (Array.getElem?_eq_some_iff.1 E5.out).1 (fun e => by cases e; omega)).trans E5.out)
      rw [hr] at HGG
      simp only [Option.bind_some] at HGG
      have X := box_of E5.out
      have f1 := X.1 1 _ rfl
      have z1 := X.2 1
      clear gg hp hr X
      replace HR := hide (HR.out.set hlt1 1 (.int .i64 i))
      replace HG := hide (grown_new HG.out (Nat.le_succ _) 1 (.int .i64 i))
      replace E4 := hide ((heap_setCell_other w2 ⟨w.heap.size + 1, 1, none⟩ w.heap.size (.int .i64 i) (by simp)).trans E4.out)
      replace E5 : Hid ((w2.setCell ⟨w.heap.size + 1, 1, none⟩ (.int .i64 i)).heap[w.heap.size + 1]? = some (.cells #[.int .i64 k, .int .i64 i, .int .i64 0, .int .i64 0, .int .i64 0, .slice none 0 0, .slice none 0 0] 27 (0, 0))) := hide (heap_setCell_same w2 (w.heap.size + 1) 1 _ 27 (.int .i64 i) E5.out)
      go_wp2_with fail
      clear f1 z1
      generalize w2.setCell ⟨w.heap.size + 1, 1, none⟩ (.int .i64 i) = W2 at *
      refine (rdNum cap HR.out).mono ?_
      rintro e w3 ⟨hres, gg⟩
      replace HG := hide (grownBy_trans HG.out gg)
      rcases hres with ⟨u, k3, hr, rfl, hp⟩ | ⟨hr, rfl⟩
      · replace HR := hide (HR.out.next gg hp)
        replace E4 := hide ((gg.block w.heap.size (Array.getElem?_eq_some_iff.1 E4.out).1 (fun e => by cases e; omega)).trans E4.out)
        replace E5 := hide ((gg.block (w.heap.size + 1) (Array.getElem?_eq_some_iff.1 E5.out).1 (fun e => by cases e; omega)).trans E5.out)
        rw [hr] at HGG
        simp only [Option.bind_some] at HGG
        have X := box_of E5.out
        have f2 := X.1 2 _ rfl
        have z2 := X.2 2
        clear gg hp hr X
        replace HR := hide (HR.out.set hlt1 2 (.int .i64 u))
        replace HG := hide (grown_new HG.out (Nat.le_succ _) 2 (.int .i64 u))
        replace E4 := hide ((heap_setCell_other w3 ⟨w.heap.size + 1, 2, none⟩ w.heap.size (.int .i64 u) (by simp)).trans E4.out)
        replace E5 : Hid ((w3.setCell ⟨w.heap.size + 1, 2, none⟩ (.int .i64 u)).heap[w.heap.size + 1]? = some (.cells #[.int .i64 k, .int .i64 i, .int .i64 u, .int .i64 0, .int .i64 0, .slice none 0 0, .slice none 0 0] 27 (0, 0))) := hide (heap_setCell_same w3 (w.heap.size + 1) 2 _ 27 (.int .i64 u) E5.out)
        go_wp2_with fail
        clear f2 z2
        generalize w3.setCell ⟨w.heap.size + 1, 2, none⟩ (.int .i64 u) = W3 at *
        refine (rdNum cap HR.out).mono ?_
        rintro e w4 ⟨hres, gg⟩
        replace HG := hide (grownBy_trans HG.out gg)
        rcases hres with ⟨c, k4, hr, rfl, hp⟩ | ⟨hr, rfl⟩
        · replace HR := hide (HR.out.next gg hp)
          replace E4 := hide ((gg.block w.heap.size (Array.getElem?_eq_some_iff.1 E4.out).1 (fun e => by cases e; omega)).trans E4.out)
          replace E5 := hide ((gg.block (w.heap.size + 1) (Array.getElem?_eq_some_iff.1 E5.out).1 (fun e => by cases e; omega)).trans E5.out)
          rw [hr] at HGG
          simp only [Option.bind_some] at HGG
          have X := box_of E5.out
          have f3 := X.1 3 _ rfl
          have z3 := X.2 3
          clear gg hp hr X
          replace HR := hide (HR.out.set hlt1 3 (.int .i64 c))
          replace HG := hide (grown_new HG.out (Nat.le_succ _) 3 (.int .i64 c))
          replace E4 := hide ((heap_setCell_other w4 ⟨w.heap.size + 1, 3, none⟩ w.heap.size (.int .i64 c) (by simp)).trans E4.out)
          replace E5 : Hid ((w4.setCell ⟨w.heap.size + 1, 3, none⟩ (.int .i64 c)).heap[w.heap.size + 1]? = some (.cells #[.int .i64 k, .int .i64 i, .int .i64 u, .int .i64 c, .int .i64 0, .slice none 0 0, .slice none 0 0] 27 (0, 0))) := hide (heap_setCell_same w4 (w.heap.size + 1) 3 _ 27 (.int .i64 c) E5.out)
          go_wp2_with fail
          clear f3 z3
          generalize w4.setCell ⟨w.heap.size + 1, 3, none⟩ (.int .i64 c) = W4 at *
          refine (rdNum cap HR.out).mono ?_
          rintro e w5 ⟨hres, gg⟩
          replace HG := hide (grownBy_trans HG.out gg)
          rcases hres with ⟨n, k5, hr, rfl, hp⟩ | ⟨hr, rfl⟩
          · replace HR := hide (HR.out.next gg hp)
            replace E4 := hide ((gg.block w.heap.size (Array.getElem?_eq_some_iff.1 E4.out).1 (fun e => by cases e; omega)).trans E4.out)
            replace E5 := hide ((gg.block (w.heap.size + 1) (Array.getElem?_eq_some_iff.1 E5.out).1 (fun e => by cases e; omega)).trans E5.out)
            rw [hr] at HGG
            simp only [Option.bind_some] at HGG
            have X := box_of E5.out
            have f4 := X.1 4 _ rfl
            have z4 := X.2 4
            clear gg hp hr X
            replace HR := hide (HR.out.set hlt1 4 (.int .i64 n))
            replace HG := hide (grown_new HG.out (Nat.le_succ _) 4 (.int .i64 n))
            replace E4 := hide ((heap_setCell_other w5 ⟨w.heap.size + 1, 4, none⟩ w.heap.size (.int .i64 n) (by simp)).trans E4.out)
            replace E5 : Hid ((w5.setCell ⟨w.heap.size + 1, 4, none⟩ (.int .i64 n)).heap[w.heap.size + 1]? = some (.cells #[.int .i64 k, .int .i64 i, .int .i64 u, .int .i64 c, .int .i64 n, .slice none 0 0, .slice none 0 0] 27 (0, 0))) := hide (heap_setCell_same w5 (w.heap.size + 1) 4 _ 27 (.int .i64 n) E5.out)
            go_wp2_with fail
            clear f4 z4
            generalize w5.setCell ⟨w.heap.size + 1, 4, none⟩ (.int .i64 n) = W5 at *
            have sz5 := HG.out.size
            refine (rdListCell cap HR.out).mono ?_
            rintro e w6 ⟨hres, gg⟩
            rcases hres with ⟨cs, k6, v5, hr, rfl, ho, hp⟩ | ⟨hr, rfl⟩
            · replace HG := hide (grownBy_trans HG.out gg)
              obtain ⟨a5, c5, rfl, _⟩ := cells_at (ho.rd (Nat.le_refl _))
              have H5 := hide ho
              have hw5 : w.heap.size + 1 < W5.heap.size := (Array.getElem?_eq_some_iff.1 E5.out).1
              replace HR := hide (HR.out.next gg hp)
              replace E4 := hide ((gg.block w.heap.size (Array.getElem?_eq_some_iff.1 E4.out).1 (fun e => by cases e; omega)).trans E4.out)
              replace E5 := hide ((gg.block (w.heap.size + 1) (Array.getElem?_eq_some_iff.1 E5.out).1 (fun e => by cases e; omega)).trans E5.out)
              rw [hr] at HGG
              simp only [Option.bind_some] at HGG
              have X := box_of E5.out
              have f5 := X.1 5 _ rfl
              have z5 := X.2 5
              clear gg hp hr X ho
              replace HR := hide (HR.out.set hlt1 5 (.slice a5 cs.length c5))
              replace HG := hide (grown_new HG.out (Nat.le_succ _) 5 (.slice a5 cs.length c5))
              replace H5 := hide (own_set H5.out (show w.heap.size + 1 < _ from by omega) 5 (.slice a5 cs.length c5))
              replace E4 := hide ((heap_setCell_other w6 ⟨w.heap.size + 1, 5, none⟩ w.heap.size (.slice a5 cs.length c5) (by simp)).trans E4.out)
              replace E5 : Hid ((w6.setCell ⟨w.heap.size + 1, 5, none⟩ (.slice a5 cs.length c5)).heap[w.heap.size + 1]? = some (.cells #[.int .i64 k, .int .i64 i, .int .i64 u, .int .i64 c, .int .i64 n, .slice a5 cs.length c5, .slice none 0 0] 27 (0, 0))) := hide (heap_setCell_same w6 (w.heap.size + 1) 5 _ 27 (.slice a5 cs.length c5) E5.out)
              go_wp2_with fail
              clear f5 z5
              generalize w6.setCell ⟨w.heap.size + 1, 5, none⟩ (.slice a5 cs.length c5) = W6 at *
              have sz6 := HG.out.size
              refine (rdListNote cap HR.out).mono ?_
              rintro e w7 ⟨hres, gg⟩
              rcases hres with ⟨ns, k7, v6, hr, rfl, ho, hp⟩ | ⟨hr, rfl⟩
              · replace HG := hide (grownBy_trans HG.out gg)
                obtain ⟨a6, c6, rfl, _⟩ := notes_at (ho.rd (Nat.le_refl _))
                have H6 := hide ho
                have hw6 : w.heap.size + 1 < W6.heap.size := (Array.getElem?_eq_some_iff.1 E5.out).1
                have L5 := hide (OwnC.lt H5.out)
                replace H5 := hide (OwnC.kept H5.out gg (fun q hq e => by cases e; have := (L5.out _ hq).1; omega))
                replace HR := hide (HR.out.next gg hp)
                replace E4 := hide ((gg.block w.heap.size (Array.getElem?_eq_some_iff.1 E4.out).1 (fun e => by cases e; omega)).trans E4.out)
                replace E5 := hide ((gg.block (w.heap.size + 1) (Array.getElem?_eq_some_iff.1 E5.out).1 (fun e => by cases e; omega)).trans E5.out)
                rw [hr] at HGG
                simp only [Option.bind_some] at HGG
                have X := box_of E5.out
                have HX5 := hide X.1
                have X4 := box_of E4.out
                have HX4 := hide X4.1
                have zz := X4.2
                clear X4
                have f6 := X.1 6 _ rfl
                have z6 := X.2 6
                have HNE : Hid (∀ q, (Value.slice a5 cs.length c5).ownBlock = some q → ∀ r, (Value.slice a6 ns.length c6).ownBlock = some r → q < r) := hide (fun q hq r hr => Nat.lt_of_lt_of_le (L5.out q hq).2 (ho.lt r hr).1)
                clear gg hp hr X ho
                replace HR := hide (HR.out.set hlt1 6 (.slice a6 ns.length c6))
                replace HG := hide (grown_new HG.out (Nat.le_succ _) 6 (.slice a6 ns.length c6))
                replace H5 := hide (own_set H5.out (show w.heap.size + 1 < _ from by omega) 6 (.slice a6 ns.length c6))
                replace H6 := hide (own_set H6.out (show w.heap.size + 1 < _ from by omega) 6 (.slice a6 ns.length c6))
                replace E4 := hide ((heap_setCell_other w7 ⟨w.heap.size + 1, 6, none⟩ w.heap.size (.slice a6 ns.length c6) (by simp)).trans E4.out)
                replace E5 : Hid ((w7.setCell ⟨w.heap.size + 1, 6, none⟩ (.slice a6 ns.length c6)).heap[w.heap.size + 1]? = some (.cells #[.int .i64 k, .int .i64 i, .int .i64 u, .int .i64 c, .int .i64 n, .slice a5 cs.length c5, .slice a6 ns.length c6] 27 (0, 0))) := hide (heap_setCell_same w7 (w.heap.size + 1) 6 _ 27 (.slice a6 ns.length c6) E5.out)
                have HN := hide HGG.out.symm
                have HP := hide HR.out.pl
                have r0 := HX4.out 0 _ rfl
                have r1 := HX4.out 1 _ rfl
                have r2 := HX4.out 2 _ rfl
                have r3 := HX4.out 3 _ rfl
                have r4 := HX4.out 4 _ rfl
                have r5 := HX4.out 5 _ rfl
                have r6 := HX4.out 6 _ rfl
                have g0 := HX5.out 0 _ rfl
                have g1 := HX5.out 1 _ rfl
                have g2 := HX5.out 2 _ rfl
                have g3 := HX5.out 3 _ rfl
                have g4 := HX5.out 4 _ rfl
                have g5 := HX5.out 5 _ rfl
                have g6 := HX5.out 6 _ rfl
                clear HR HGG f6
                have E := hide E4.out
                go_wp2
                refine bodyPost_ret (v := msgV k i u c n (.slice a5 cs.length c5) (.slice a6 ns.length c6)) (results_one Tryd.results57 _ _ _ rfl (load7 (put7 E.out _ _ _ _ _ _ _))) rfl ⟨.inl ⟨_, _, _, HN.out, rfl, ⟨_, _, rfl, ?_, ?_, HNE.out⟩, ?_⟩, grown_put7 HG.out (Nat.le_refl _) _ _ _ _ _ _ _⟩
                · exact OwnC.mono (own_put7 H5.out (show w.heap.size < _ from by omega) _ _ _ _ _ _ _) (by omega)
                · exact OwnN.mono (own_put7 H6.out (show w.heap.size < _ from by omega) _ _ _ _ _ _ _) (by omega)
                · rw [place_put7 hlt]; exact HP.out
              · have HN : Hid (G = none) := hide (by rw [← HGG.out, hr]; rfl)
                replace HG := hide (grownBy_trans HG.out gg)
                clear gg hr HGG
                go_wp2
                exact ⟨rfl, .inr ⟨HN.out, rfl⟩, HG.out⟩
            · have HN : Hid (G = none) := hide (by rw [← HGG.out, hr]; rfl)
              replace HG := hide (grownBy_trans HG.out gg)
              clear gg hr HGG
              go_wp2
              exact ⟨rfl, .inr ⟨HN.out, rfl⟩, HG.out⟩
          · have HN : Hid (G = none) := hide (by rw [← HGG.out, hr]; rfl)
            clear gg hr HGG
            go_wp2
            exact ⟨rfl, .inr ⟨HN.out, rfl⟩, HG.out⟩
        · have HN : Hid (G = none) := hide (by rw [← HGG.out, hr]; rfl)
          clear gg hr HGG
          go_wp2
          exact ⟨rfl, .inr ⟨HN.out, rfl⟩, HG.out⟩
      · have HN : Hid (G = none) := hide (by rw [← HGG.out, hr]; rfl)
        clear gg hr HGG
        go_wp2
        exact ⟨rfl, .inr ⟨HN.out, rfl⟩, HG.out⟩
    · have HN : Hid (G = none) := hide (by rw [← HGG.out, hr]; rfl)
      clear gg hr HGG
      go_wp2
      exact ⟨rfl, .inr ⟨HN.out, rfl⟩, HG.out⟩
  · have HN : Hid (G = none) := hide (by rw [← HGG.out, hr]; rfl)
    clear gg hr HGG
    go_wp2
    exact ⟨rfl, .inr ⟨HN.out, rfl⟩, HG.out⟩
end Go.Proofs.YtoaenoakdbieaaaDoor
