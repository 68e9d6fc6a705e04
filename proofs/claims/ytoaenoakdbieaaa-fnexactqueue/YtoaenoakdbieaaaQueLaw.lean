/-
  What the law over Queue leans on besides.
-/
import Derived.Test.YtoaenoakdbieaaaSndLaw
import Derived.Test.YtoaenoakdbieaaaSndQS
namespace Go.Proofs.Ytoaenoakdbieaaa
open Go.RowKit

theorem cell_setNe {w : World} {a p : Addr} {v : Value} (h : p.block ≠ a.block) : (w.setCell a v).cell? p = w.cell? p := World.cell?_of_block (w := w) (heap_setCell_other _ _ _ _ h)
theorem nxt {c l x : World} (h : Below c.heap.size c l) (b : Below l.heap.size l x) : Below c.heap.size c x := h.trans (b.mono h.size)
theorem nxtZ {c l x : World} {o : Obj} (h : Below c.heap.size c l) (b : Below (l.alloc o).heap.size (l.alloc o) x) : Below c.heap.size c x := (h.alloc h.size o).trans (b.mono (by have := h.size; simp; omega))
theorem newZ {l x : World} {vs : Array Value} {T : TypeId} (b : Below (l.alloc (.cells vs T)).heap.size (l.alloc (.cells vs T)) x) : Bx x l.heap.size vs T := (b.block l.heap.size (by simp)).trans (heap_alloc_new l _)
/-- A sender stored into a variable that lay there already. -/
theorem finZ {c x : World} {g : Nat} {z0 z1 r : Value} {pR : List Ms} (EZ : Bx x g #[z0, z1] 51) (hz : c.heap.size ≤ g) (hd : Below c.heap.size c x) (ho : ∃ b, OwnS x b x.heap.size r pR ∧ g < b) (s : Int) :
    ∃ b, Bx ((x.setCell ⟨g, 0, none⟩ (.int .i64 s)).setCell ⟨g, 1, none⟩ r) g #[.int .i64 s, r] 51 ∧ OwnS ((x.setCell ⟨g, 0, none⟩ (.int .i64 s)).setCell ⟨g, 1, none⟩ r) b ((x.setCell ⟨g, 0, none⟩ (.int .i64 s)).setCell ⟨g, 1, none⟩ r).heap.size r pR ∧
      Below c.heap.size c ((x.setCell ⟨g, 0, none⟩ (.int .i64 s)).setCell ⟨g, 1, none⟩ r) ∧ c.heap.size ≤ b ∧ c.heap.size ≤ g ∧ g < ((x.setCell ⟨g, 0, none⟩ (.int .i64 s)).setCell ⟨g, 1, none⟩ r).heap.size := by
  obtain ⟨b, h1, h2⟩ := ho
  refine ⟨b, put2 EZ _ _, (h1.same (fun q hq _ _ => ?_)).up (by simp), (hd.setCell (p := ⟨g, 0, none⟩) hz _).setCell (p := ⟨g, 1, none⟩) hz _, by omega, hz, by have := EZ.lt; simpa using this⟩
  rw [heap_setCell_other _ _ _ _ (by dsimp only; omega), heap_setCell_other _ _ _ _ (by dsimp only; omega)]
/-- A sender laid into a new variable. -/
theorem finA {c x : World} {r : Value} {b : Nat} {pR : List Ms} (hd : Below c.heap.size c x) (ho : OwnS x b x.heap.size r pR) (hb : c.heap.size ≤ b) (s : Int) :
    ∃ b, Bx (x.alloc (.cells #[.int .i64 s, r] 51)) x.heap.size #[.int .i64 s, r] 51 ∧ OwnS (x.alloc (.cells #[.int .i64 s, r] 51)) b (x.alloc (.cells #[.int .i64 s, r] 51)).heap.size r pR ∧
      Below c.heap.size c (x.alloc (.cells #[.int .i64 s, r] 51)) ∧ c.heap.size ≤ b ∧ c.heap.size ≤ x.heap.size ∧ x.heap.size < (x.alloc (.cells #[.int .i64 s, r] 51)).heap.size :=
  ⟨b, Bx.new x _ _, (ho.below ((Below.refl _ _).alloc (Nat.le_refl _) _)).up (by simp), hd.alloc hd.size _, hb, hd.size, by simp⟩

/-- A message with parts of its own, from block b on up to hi. -/
def OwnM (w : World) (b hi : Nat) (cv nv : Value) (m : Ms) : Prop :=
  OwnC w b cv m.cs ∧ OwnN w b nv m.ns ∧ (∀ q, cv.ownBlock = some q → q < hi) ∧ (∀ q, nv.ownBlock = some q → q < hi) ∧ ∀ q, cv.ownBlock = some q → ∀ r, nv.ownBlock = some r → q < r
theorem OwnM.below {w w' : World} {b hi : Nat} {cv nv : Value} {m : Ms} (h : OwnM w b hi cv nv m) (hb : Below w.heap.size w w') : OwnM w' b hi cv nv m := ⟨OwnC.below h.1 hb, OwnN.below h.2.1 hb, h.2.2⟩
theorem OwnM.out {w w' : World} {b hi c d : Nat} {cv nv : Value} {m : Ms} (h : OwnM w b hi cv nv m) (ho : Out c d w w') (hd : hi ≤ c ∨ d ≤ b) : OwnM w' b hi cv nv m :=
  ⟨owns_same h.1 (fun q hq => ho.block q (World.ownsRow.lt h.1 q hq).2 (by have h1 := (World.ownsRow.lt h.1 q hq).1; have h2 := h.2.2.1 q hq; omega)),
   owns_same h.2.1 (fun q hq => ho.block q (World.ownsRow.lt h.2.1 q hq).2 (by have h1 := (World.ownsRow.lt h.2.1 q hq).1; have h2 := h.2.2.2.1 q hq; omega)), h.2.2⟩
theorem OwnM.mt {w : World} {b hi : Nat} {cv nv : Value} {m : Ms} (h : OwnM w b hi cv nv m) : Mt w w.heap.size (m, cv, nv) := ⟨OwnC.rd h.1 (Nat.le_refl _), OwnN.rd h.2.1 (Nat.le_refl _)⟩

theorem toMs (w : World) (m : Ms) (cv nv : Value) (h : Mt w w.heap.size (m, cv, nv)) (hg : GoodM m) :
    Calls Try.prog 30 #[msV m cv nv] w fun e w' => ∃ a5 c5 a6 c6, e = .returned (msV m (.slice a5 m.cs.length c5) (.slice a6 m.ns.length c6)) ∧ OwnM w' w.heap.size w'.heap.size (.slice a5 m.cs.length c5) (.slice a6 m.ns.length c6) m ∧ Below w.heap.size w w' := by
  refine (toMsg w m.k m.i m.u m.c m.n cv nv m.cs m.ns h.1 h.2 hg.1 hg.2).mono ?_
  rintro e w' ⟨v5, v6, rfl, o5, o6, b, hord⟩
  obtain ⟨a5, c5, rfl⟩ := ownC_shape o5
  obtain ⟨a6, c6, rfl⟩ := ownN_shape o6
  exact ⟨a5, c5, a6, c6, rfl, ⟨o5, o6, fun q hq => (o5.lt q hq).2, fun q hq => (o6.lt q hq).2, hord⟩, b⟩
theorem eqMs (w : World) (m : Ms) (cv nv cv' nv' : Value) (h : Mt w w.heap.size (m, cv, nv)) (h' : Mt w w.heap.size (m, cv', nv')) (hg : GoodM m) :
    Calls Try.prog 32 #[msV m cv nv, msV m cv' nv'] w fun e w' => e = .returned (.bool true) ∧ Below w.heap.size w w' :=
  eqMsg w m.k m.i m.u m.c m.n cv nv cv' nv' m.cs m.ns h.1 h.2 h'.1 h'.2 hg.1 hg.2
set_option maxRecDepth 100000 in
set_option maxHeartbeats 2000000 in
theorem markMs (w : World) (b hi k : Nat) (m : Ms) (cv nv : Value) (h : OwnM w b hi cv nv m) (hg : GoodM m) (hk : k ≤ 50000000) :
    Calls Try.prog 34 #[msV m cv nv, .int .i64 (k : Int)] w fun e w' => e = .returned (.int .i64 ((k : Int) + 3 * (m.cs.length : Int) + 2 * (m.ns.length : Int))) ∧ Out b hi w w' := by
  obtain ⟨h5, h6, l5, l6, hne⟩ := h
  have H5 := hide h5
  have H6 := hide h6
  obtain ⟨a5, c5, rfl⟩ := ownC_shape h5
  obtain ⟨a6, c6, rfl⟩ := ownN_shape h6
  have L5 := hide (fun q hq => And.intro (World.ownsRow.lt h5 q hq) (l5 q hq))
  have L6 := hide (fun q hq => And.intro (World.ownsRow.lt h6 q hq) (l6 q hq))
  have HN := hide hne
  clear h5 h6 l5 l6 hne
  have hg1 := hg.1
  have hg2 := hg.2
  obtain ⟨mk, mi, mu, mc, mn, cs, ns⟩ := m
  simp only at hg1 hg2 H5 H6 L5 L6 HN ⊢
  unfold msV msgV
  simp only
  have bA := (Below.refl w.heap.size w).alloc (Nat.le_refl _) (.cells #[.int .i64 mk, .int .i64 mi, .int .i64 mu, .int .i64 mc, .int .i64 mn, .slice a5 cs.length c5, .slice a6 ns.length c6] 65)
  have HX := hide (Box.new w #[.int .i64 mk, .int .i64 mi, .int .i64 mu, .int .i64 mc, .int .i64 mn, .slice a5 cs.length c5, .slice a6 ns.length c6] 65)
  replace H5 := hide (OwnC.below H5.out bA)
  replace H6 := hide (OwnN.below H6.out bA)
  have HA := hide (Out.of_below (b := b) (hi := hi) bA)
  clear bA
  go_enter Try.func34, Try.ntmps34
  go_wp2_with fail
  refine (markCells _ _ _ _ _ H5.out (by omega) (by omega) hg1).mono ?_
  rintro e w1 ⟨rfl, o5, g1⟩
  have f6 : w1.cell? ⟨w.heap.size, 6, none⟩ = some (.slice a6 ns.length c6) := (World.cell?_of_block (w := w.alloc (.cells #[.int .i64 mk, .int .i64 mi, .int .i64 mu, .int .i64 mc, .int .i64 mn, .slice a5 cs.length c5, .slice a6 ns.length c6] 65)) (g1.block w.heap.size (by simp) (fun e => by have := (L5.out _ e.symm).1.2; omega))).trans (HX.out 6 _ rfl)
  replace H6 := hide (ownN_kept H6.out g1 (fun q hq e => by have := HN.out q e q hq; omega))
  have G1 := hide (HA.out.trans (Out.row g1 (fun q hq => ⟨(L5.out q hq).1.1, (L5.out q hq).2⟩)))
  clear o5 g1 HA
  go_wp2_with fail
  refine (markNotes _ _ _ _ _ H6.out (by omega) (by omega) hg2).mono ?_
  rintro e w2 ⟨rfl, o6, g2⟩
  have G2 := hide (G1.out.trans (Out.row g2 (fun q hq => ⟨(L6.out q hq).1.1, (L6.out q hq).2⟩)))
  clear o6 g2 f6
  go_wp2
  go_ret
  exact ⟨rfl, G2.out⟩
end Go.Proofs.Ytoaenoakdbieaaa
