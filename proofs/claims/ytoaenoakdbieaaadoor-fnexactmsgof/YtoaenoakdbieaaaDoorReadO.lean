/-
  What readAt does with takeMsg: the message, the place behind it and true; zero, 0 and false, where there is none.
-/
import Derived.Test.YtoaenoakdbieaaaDoorReadN
namespace Go.Proofs.YtoaenoakdbieaaaDoor
open Go.RowKit

set_option maxRecDepth 100000 in
set_option maxHeartbeats 8000000 in
theorem readMsg (w : World) (a : Option Addr) (len cap : Nat) (t : TypeId) (v : Value) (r : Option (M × Nat))
    (hT : ∀ W : World, Below w.heap.size w W → W.heap[w.heap.size + 1 + 1 + 1]? = some (.cells #[.int .i64 0] 3 (0, 0)) →
      Calls Tryd.prog 57 #[.slice a len cap, .pointer (some ⟨w.heap.size + 1 + 1 + 1, 0, none⟩)] W (tookL (RowM W.heap.size) W (w.heap.size + 1 + 1 + 1) t v r)) :
    Calls Tryd.prog 56 #[.slice a len cap, .int .i64 0, .func (.func 57) #[] #[]] w fun e w' => ansM w.heap.size r e w' ∧ Below w.heap.size w w' := by
  have hmf : ∀ (fn : Fn) (first cap : Array Value) (w : World), (Instr.makeFunc fn first cap).run Tryd.prog w = .ok (.func fn first cap) w := fun _ _ _ _ => rfl
  have HT := hide hT
  clear hT
  go_enter_defers Tryd.func56, Tryd.ntmps56
  go_wp2_with fail
  refine (unhide HT _ ((((Below.refl _ _).alloc (Nat.le_refl _) _).alloc (by simp) _).alloc (by simp; omega) _ |>.alloc (by simp; omega) _) (by
    have := heap_alloc_new (((w.alloc (.cells #[.int .i64 0, .int .i64 0, .int .i64 0, .int .i64 0, .int .i64 0, .slice none 0 0, .slice none 0 0] 27)).alloc (.cells #[.int .i64 0] 3)).alloc (.cells #[.bool false] 4)) (.cells #[.int .i64 0] 3)
    simpa using this)).mono ?_
  clear HT
  rintro e w1 ⟨hres, hg1⟩
  obtain ⟨g0, g1, g2, hb1, hs1⟩ := four_newM hg1
  have HB := hide hb1
  clear hg1 hb1
  have HE := hide (And.intro g0 (And.intro g1 g2))
  have HX0 := hide (box_of g0).1
  have z0 := (box_of g0).2
  have z1 := (box_of g1).2 0
  have z2 := (box_of g2).2 0
  have d0 := (box_of g1).1 0 _ rfl
  have e0 := (box_of g2).1 0 _ rfl
  have c0 := HX0.out 0 _ rfl
  have c1 := HX0.out 1 _ rfl
  have c2 := HX0.out 2 _ rfl
  have c3 := HX0.out 3 _ rfl
  have c4 := HX0.out 4 _ rfl
  have c5 := HX0.out 5 _ rfl
  have c6 := HX0.out 6 _ rfl
  clear g0 g1 g2 HX0
  rcases hres with ⟨m, nx, u, rfl, rfl, ⟨v5, v6, rfl, o5, o6, hne⟩, hp1⟩ | ⟨rfl, rfl⟩
  · have c3' : w1.cell? ⟨w.heap.size + 1 + 1 + 1, 0, none⟩ = some (.int .i64 (nx : Int)) := by rw [cell_of_row _ _ 0 _ 3 (0, 0) hp1]; rfl
    have H5 := hide o5
    have H6 := hide o6
    have HNE := hide hne
    obtain ⟨a5, c5', rfl, _⟩ := cells_at (o5.rd (Nat.le_refl _))
    obtain ⟨a6, c6', rfl, _⟩ := notes_at (o6.rd (Nat.le_refl _))
    clear hp1 o5 o6 hne
    obtain ⟨k, i, uu, c, n, cs, ns⟩ := m
    simp only at H5 H6 HNE
    unfold msgV
    simp only
    go_wp2
    go_region
    go_wp2
    refine leaves_cons (f := 102) (args := #[.pointer (some ⟨w.heap.size, 0, none⟩), .pointer (some ⟨w.heap.size + 1, 0, none⟩), .pointer (some ⟨w.heap.size + 1 + 1, 0, none⟩)]) (by simp) (by simp [go_sem]) ?_
    refine (catchIdleM _ _).mono ?_
    rintro e u' w'' ⟨rfl, rfl, rfl⟩
    have P7 := put7 HE.out.1 (.int .i64 k) (.int .i64 i) (.int .i64 uu) (.int .i64 c) (.int .i64 n) (.slice a5 cs.length c5') (.slice a6 ns.length c6')
    have oth : ∀ q, q ≠ w.heap.size → (((((((w1.setCell ⟨w.heap.size, 0, none⟩ (.int .i64 k)).setCell ⟨w.heap.size, 1, none⟩ (.int .i64 i)).setCell ⟨w.heap.size, 2, none⟩ (.int .i64 uu)).setCell ⟨w.heap.size, 3, none⟩ (.int .i64 c)).setCell ⟨w.heap.size, 4, none⟩ (.int .i64 n)).setCell ⟨w.heap.size, 5, none⟩ (.slice a5 cs.length c5')).setCell ⟨w.heap.size, 6, none⟩ (.slice a6 ns.length c6')).heap[q]? = w1.heap[q]? := fun q hq => by
      rw [heap_setCell_other _ _ _ _ hq, heap_setCell_other _ _ _ _ hq, heap_setCell_other _ _ _ _ hq, heap_setCell_other _ _ _ _ hq, heap_setCell_other _ _ _ _ hq, heap_setCell_other _ _ _ _ hq, heap_setCell_other _ _ _ _ hq]
    have P9 := put9 P7 ((oth _ (by omega)).trans HE.out.2.1) ((oth _ (by omega)).trans HE.out.2.2) (.int .i64 k) (.int .i64 i) (.int .i64 uu) (.int .i64 c) (.int .i64 n) (.slice a5 cs.length c5') (.slice a6 ns.length c6') (.int .i64 (nx : Int)) (.bool true)
    refine ⟨.tuple #[.agg #[.int .i64 k, .int .i64 i, .int .i64 uu, .int .i64 c, .int .i64 n, .slice a5 cs.length c5', .slice a6 ns.length c6'], .int .i64 (nx : Int), .bool true], results_three Tryd.results56 _ _ _ rfl rfl rfl (load7d P9.1) (loadIntd P9.2.1) (loadBoold P9.2.2), ⟨_, rfl, _, _, rfl, ?_, ?_, HNE.out⟩, ?_⟩
    · exact own_drew (own_put9 (own_put7 (OwnC.mono (b' := w.heap.size + 1 + 1 + 1) H5.out (by simp)) (by omega) _ _ _ _ _ _ _) (by omega) _ _ _ _ _ _ _ _ _) |> fun h => OwnC.mono h (by omega)
    · exact own_drew (own_put9 (own_put7 (OwnN.mono (b' := w.heap.size + 1 + 1 + 1) H6.out (by simp)) (by omega) _ _ _ _ _ _ _) (by omega) _ _ _ _ _ _ _ _ _) |> fun h => OwnN.mono h (by omega)
    · exact (below_put9 (below_put7 HB.out (Nat.le_refl _) _ _ _ _ _ _ _) (Nat.le_refl _) _ _ _ _ _ _ _ _ _).drew
  · go_wp2
    refine leaves_cons (f := 102) (args := #[.pointer (some ⟨w.heap.size, 0, none⟩), .pointer (some ⟨w.heap.size + 1, 0, none⟩), .pointer (some ⟨w.heap.size + 1 + 1, 0, none⟩)]) (by simp) (by simp [go_sem]) ?_
    refine (catchPanicM _ _ _ _ _ _ _ _ _ _ _ _ _ _ (by omega) HE.out.1 HE.out.2.1 HE.out.2.2).mono ?_
    rintro e u' w'' ⟨rfl, rfl, rfl⟩
    have hsz : w.heap.size + 1 + 1 < w1.heap.size := by omega
    have P9 := put9 ((Below.heap_alloc w1 (.cells #[.int .i64 0, .int .i64 0, .int .i64 0, .int .i64 0, .int .i64 0, .slice none 0 0, .slice none 0 0] 27) _ (by omega)).trans HE.out.1) ((Below.heap_alloc w1 _ _ (by omega)).trans HE.out.2.1) ((Below.heap_alloc w1 _ _ (by omega)).trans HE.out.2.2) (.int .i64 0) (.int .i64 0) (.int .i64 0) (.int .i64 0) (.int .i64 0) (.slice none 0 0) (.slice none 0 0) (.int .i64 0) (.bool false)
    exact ⟨.tuple #[zeroM, .int .i64 0, .bool false], results_three Tryd.results56 _ _ _ rfl rfl rfl (load7 P9.1) (loadInt P9.2.1) (loadBool P9.2.2), rfl, below_put9 (HB.out.alloc HB.out.size _) (Nat.le_refl _) _ _ _ _ _ _ _ _ _⟩
end Go.Proofs.YtoaenoakdbieaaaDoor
