/-
  Joined: RngP, RndUp.
-/
import Derived.Test.YthlaihkpffddcaaJ36
import Derived.Test.YthlaihkpffddcaaJ26
import Derived.RangeFuncNested
import Derived.OrdersIn
import Derived.TacticsIn
import Derived.Deep.RegionHeld
import Derived.Test.YthlaihkpffddcaaJ3
/-
  One object, found by a range over a function that stops early.
-/
namespace Go.Proofs.Ythlaihkpffddcaa
open Go.RowKit Go.Shelf

attribute [local go_sem] Oper.semAt_some

theorem results_cco {fn : Func} {p0 p1 : Tmp} {t0 t1 : TypeId} {v0 v1 : Value} {g0 g1 : Addr} (h : fn.results = #[.cell p0 t0, .cell p1 t1]) (tmps : Array Value) (P : Program) (w : World)
    (hg0 : tmps.getD p0 undef = .pointer (some g0)) (hg1 : tmps.getD p1 undef = .pointer (some g1)) (hl0 : (loadVar t0 g0).run P w = .ok v0 w) (hl1 : (loadVar t1 g1).run P w = .ok v1 w) :
    (results fn tmps).run P w = .ok (.tuple #[v0, v1]) w := by
  have h' : ((asAddr (tmps.getD p0 undef)).run P w).andThen (fun a w₁ => ((loadVar t0 a).run P w₁).andThen fun x w₂ => ((asAddr (tmps.getD p1 undef)).run P w₂).andThen (fun a w₃ => ((loadVar t1 a).run P w₃).andThen fun y w₄ => Result.ok (Value.tuple #[x, y]) w₄)) = Result.ok (Value.tuple #[v0, v1]) w := by
    rw [hg0, hg1]
    simp [asAddr, Result.andThen, hl0, hl1]
  simp only [results, h]
  simpa [Sem.run_bind, Result.andThen] using h'
theorem ldBl {w : World} {g : Nat} {c : Bool} (h : w.heap[g]? = some (.cells #[.bool c] 4 (0, 0))) : (loadVar 4 ⟨g, 0, none⟩).run Try.prog w = .ok (.bool c) w := by
  have c := (box_of h).1 0 _ rfl
  simp [go_sem, c]
/-- The row of the fields of what is found. -/
def fuV (m : Mm) (q : Int) (uf : Nat → Option Addr × Nat) : Value := if 0 ≤ atM m q then .slice (uf (atM m q).toNat).1 (m.o.getD (atM m q).toNat default).f.length (uf (atM m q).toNat).2 else .slice none 0 0
theorem told_last {xs : List Ob} {k : Nat} {pre : List { j : Nat // j < xs.length }} {x : { j : Nat // j < xs.length }} (h : Told xs k (pre ++ [x])) : x.1 = pre.length ∧ ∀ i, i < pre.length → ∃ y ∈ pre, y.1 = i := by
  unfold Told at h
  have hk : k = pre.length + 1 := by have := congrArg List.length h; simpa using this.symm
  subst hk
  rw [List.map_append, List.range_succ] at h
  obtain ⟨h1, h2⟩ := List.append_inj h (by simp)
  refine ⟨by simpa using h2, fun i hi => ?_⟩
  have : i ∈ pre.map Subtype.val := by rw [h1]; exact List.mem_range.2 hi
  obtain ⟨y, hy, e⟩ := List.mem_map.1 this
  exact ⟨y, hy, e⟩
theorem told_all {xs : List Ob} {ys : List { j : Nat // j < xs.length }} (h : Told xs xs.length ys) : ∀ i, i < xs.length → ∃ y ∈ ys, y.1 = i := fun i hi => by
  unfold Told at h
  have : i ∈ ys.map Subtype.val := by rw [h]; exact List.mem_range.2 hi
  obtain ⟨y, hy, e⟩ := List.mem_map.1 this
  exact ⟨y, hy, e⟩

set_option maxRecDepth 100000 in
set_option maxHeartbeats 8000000 in
theorem object_in (F : Fence) (n : Nat) (hf : F.fn 57) (hf2 : F.fn 73) (hf3 : F.fn 98) (hro : F.round = none) (hn : 3 ≤ n) (w : World) (m : Mm) (u1 u2 : Value) (q : Int) (uf : Nat → Option Addr × Nat) (hO : ObsAt w.heap.size w u1 m.o uf) (h2 : Reads w w.heap.size (lks m.l) u2) (hm : m.o.length ≤ 1048576) :
    CallsIn F n Try.prog 57 #[mmV m u1 u2, .int .i64 q] w fun e w' => e = .returned (.tuple #[obV (findX m q) (fuV m q uf), .bool (foundB m q)]) ∧ Below w.heap.size w w' := by
  have h1 : 1 ≤ n := by omega
  have HO := hide hO
  obtain ⟨a1, c1, e1, _⟩ := hO
  obtain ⟨a2, c2, e2, _⟩ := h2.shape
  subst e1 e2
  clear h2
  have bA := ((((((Below.refl w.heap.size w).alloc (Nat.le_refl _) (.cells #[.slice a1 m.o.length c1, .slice a2 m.l.length c2] 39)).alloc (by simp) (.cells #[.int .i64 q] 3)).alloc (by simp <;> omega) (.cells #[.int .i64 0, .int .i64 0, .slice none 0 0] 51)).alloc (by simp <;> omega) (.cells #[.bool false] 4)).alloc (by simp <;> omega) (.cells #[.slice a1 m.o.length c1, .slice a2 m.l.length c2] 39))
  have G0 := heap_alloc_new w (.cells #[.slice a1 m.o.length c1, .slice a2 m.l.length c2] 39)
  have G1 := heap_alloc_new (w.alloc (.cells #[.slice a1 m.o.length c1, .slice a2 m.l.length c2] 39)) (.cells #[.int .i64 q] 3)
  have G2 := heap_alloc_new ((w.alloc (.cells #[.slice a1 m.o.length c1, .slice a2 m.l.length c2] 39)).alloc (.cells #[.int .i64 q] 3)) (.cells #[.int .i64 0, .int .i64 0, .slice none 0 0] 51)
  have G3 := heap_alloc_new (((w.alloc (.cells #[.slice a1 m.o.length c1, .slice a2 m.l.length c2] 39)).alloc (.cells #[.int .i64 q] 3)).alloc (.cells #[.int .i64 0, .int .i64 0, .slice none 0 0] 51)) (.cells #[.bool false] 4)
  have G4 := heap_alloc_new ((((w.alloc (.cells #[.slice a1 m.o.length c1, .slice a2 m.l.length c2] 39)).alloc (.cells #[.int .i64 q] 3)).alloc (.cells #[.int .i64 0, .int .i64 0, .slice none 0 0] 51)).alloc (.cells #[.bool false] 4)) (.cells #[.slice a1 m.o.length c1, .slice a2 m.l.length c2] 39)
  simp only [World.size_alloc] at G1 G2 G3 G4
  have E0 := hide ((Below.heap_alloc _ (.cells #[.slice a1 m.o.length c1, .slice a2 m.l.length c2] 39) _ (by simp <;> omega)).trans ((Below.heap_alloc _ (.cells #[.bool false] 4) _ (by simp <;> omega)).trans ((Below.heap_alloc _ (.cells #[.int .i64 0, .int .i64 0, .slice none 0 0] 51) _ (by simp <;> omega)).trans ((Below.heap_alloc _ (.cells #[.int .i64 q] 3) _ (by simp)).trans (G0)))))
  have E1 := hide ((Below.heap_alloc _ (.cells #[.slice a1 m.o.length c1, .slice a2 m.l.length c2] 39) _ (by simp <;> omega)).trans ((Below.heap_alloc _ (.cells #[.bool false] 4) _ (by simp <;> omega)).trans ((Below.heap_alloc _ (.cells #[.int .i64 0, .int .i64 0, .slice none 0 0] 51) _ (by simp)).trans (G1))))
  have E2 := hide ((Below.heap_alloc _ (.cells #[.slice a1 m.o.length c1, .slice a2 m.l.length c2] 39) _ (by simp <;> omega)).trans ((Below.heap_alloc _ (.cells #[.bool false] 4) _ (by simp)).trans (G2)))
  have E3 := hide ((Below.heap_alloc _ (.cells #[.slice a1 m.o.length c1, .slice a2 m.l.length c2] 39) _ (by simp)).trans (G3))
  have E4 := hide (G4)
  have HB := hide bA
  replace HO := hide (HO.out.below bA)
  clear bA G0 G1 G2 G3 G4
  unfold mmV
  refine callsIn_of_wp_marks Try.func57 rfl hf ?_ hro
  simp only [Try.ntmps57, List.size_toArray, List.length_cons, List.length_nil, Nat.reduceAdd, Nat.reduceSub, Array.replicate_succ, Array.replicate_zero, List.push_toArray, List.append_toArray, List.nil_append, List.cons_append]
  gi_wp2_with (gi_at_call 73; refine (objects_in F (n - 1) hf2 hro _ _ _).mono ?_; rintro e w' ⟨rfl, rfl⟩)
  have hsz : (((((w.alloc (.cells #[.slice a1 m.o.length c1, .slice a2 m.l.length c2] 39)).alloc (.cells #[.int .i64 q] 3)).alloc (.cells #[.int .i64 0, .int .i64 0, .slice none 0 0] 51)).alloc (.cells #[.bool false] 4)).alloc (.cells #[.slice a1 m.o.length c1, .slice a2 m.l.length c2] 39)).heap.size = w.heap.size + 5 := by simp
  try simp only [World.size_alloc]
  generalize (((((w.alloc (.cells #[.slice a1 m.o.length c1, .slice a2 m.l.length c2] 39)).alloc (.cells #[.int .i64 q] 3)).alloc (.cells #[.int .i64 0, .int .i64 0, .slice none 0 0] 51)).alloc (.cells #[.bool false] 4)).alloc (.cells #[.slice a1 m.o.length c1, .slice a2 m.l.length c2] 39)) = W0 at *
  refine wpIn_rangeFunc_ownH hro h1 (gf := 98) (lb := #[.pointer (some ⟨w.heap.size + 1 + 1 + 1 + 1, 0, none⟩)]) rfl hf3 (enters_of Try.func98 (by kernel_rfl) rfl)
    (objects_stops F (n - 1) hf3 hro (by omega) (w.heap.size + 1 + 1 + 1 + 1) w.heap.size _ m.o uf hm W0 (by omega) (by omega) ((box_of E4.out).1 0 _ rfl) HO.out) belowK_t (belowK_b (by omega)) (Below.refl _ _) (fun _ => rfl)
    (fun pre W => (((∀ y ∈ pre, ¬ (m.o.getD y.1 default).i = q) ∧ W.heap[w.heap.size + 1]? = some (.cells #[.int .i64 q] 3 (0, 0))) ∧ (W.heap[w.heap.size + 1 + 1]? = some (.cells #[.int .i64 0, .int .i64 0, .slice none 0 0] 51 (0, 0)) ∧ W.heap[w.heap.size + 1 + 1 + 1]? = some (.cells #[.bool false] 4 (0, 0)))) ∧ Below w.heap.size w W)
    (fun c pre W => (c = .ret ∧ ∃ pre' x, pre = pre' ++ [x] ∧ (∀ y ∈ pre', ¬ (m.o.getD y.1 default).i = q) ∧ (m.o.getD x.1 default).i = q ∧ W.heap[w.heap.size + 1 + 1]? = some (.cells #[.int .i64 (m.o.getD x.1 default).i, .int .i64 (m.o.getD x.1 default).c, .slice (uf x.1).1 (m.o.getD x.1 default).f.length (uf x.1).2] 51 (0, 0)) ∧ W.heap[w.heap.size + 1 + 1 + 1]? = some (.cells #[.bool true] 4 (0, 0))) ∧ Below w.heap.size w W)
    (OwnFrom.and (OwnFrom.and (OwnFrom.and (ownFrom_pure _ _) (Go.Own.from (blk_own _ _ _) _)) (OwnFrom.and (Go.Own.from (blk_own _ _ _) _) (Go.Own.from (blk_own _ _ _) _))) (ownFrom_below (Nat.le_refl _) (by omega)))
    (fun c => OwnFrom.and (fun s X Y row hs hg hr => by
      obtain ⟨g1, p, x, g2, g3, g4, g5, g6⟩ := hs
      exact ⟨g1, p, x, g2, g3, g4, blk_own _ _ (fun _ : Unit => _) () X Y row g5 hg (fun r e => (hr r e).2), blk_own _ _ (fun _ : Unit => _) () X Y row g6 hg (fun r e => (hr r e).2)⟩) (ownFrom_below (Nat.le_refl _) (by omega)))
    ⟨⟨⟨by simp, E1.out⟩, E2.out, E3.out⟩, HB.out⟩
    (fun x a' W => ∃ Bx, w.heap.size + 3 < Bx ∧ W.heap[Bx]? = some (.cells #[.int .i64 (m.o.getD x.1 default).i, .int .i64 (m.o.getD x.1 default).c, .slice (uf x.1).1 (m.o.getD x.1 default).f.length (uf x.1).2] 51 (0, 0)) ∧ a' = { tmps := #[.agg #[.slice a1 m.o.length c1, .slice a2 m.l.length c2], .int .i64 q, .pointer (some ⟨w.heap.size, 0, none⟩), .pointer (some ⟨w.heap.size + 1, 0, none⟩), .pointer (some ⟨w.heap.size + 1 + 1, 0, none⟩), .pointer (some ⟨w.heap.size + 1 + 1 + 1, 0, none⟩), .pointer (some ⟨Bx, 0, none⟩), .agg #[.slice a1 m.o.length c1, .slice a2 m.l.length c2], .func (.func 98) #[] #[.pointer (some ⟨w.heap.size + 1 + 1 + 1 + 1, 0, none⟩)], .agg #[.int .i64 (m.o.getD x.1 default).i, .int .i64 (m.o.getD x.1 default).c, .slice (uf x.1).1 (m.o.getD x.1 default).f.length (uf x.1).2], undef, undef, undef, undef, undef, undef], defers := [] })
    (fun x a' _ X Y row hs hg hr => by obtain ⟨Bx, e1, e2, e3⟩ := hs; exact ⟨Bx, e1, blk_own Bx _ (fun _ : Unit => _) () X Y row e2 hg (fun r e => (hr r e).2), e3⟩)
    ?assign ?body ?done ?stop
  case assign =>
    rintro l pre x W K ⟨⟨⟨hp, b1⟩, b2, b3⟩, hB1⟩ hK
    unfold obE
    have lt1 := (Array.getElem?_eq_some_iff.1 b1).1
    have lt2 := (Array.getElem?_eq_some_iff.1 b2).1
    have lt3 := (Array.getElem?_eq_some_iff.1 b3).1
    generalize m.o.getD x.1 default = y at *
    generalize (uf x.1).1 = ua at *
    generalize (uf x.1).2 = uc at *
    gi_wp2
    exact hK _ _ ((KeepsOthers.alloc _ _).from _) ((Below.refl _ W).alloc hB1.size _) ⟨⟨⟨hp, (Below.heap_alloc W _ _ lt1).trans b1⟩, (Below.heap_alloc W _ _ lt2).trans b2, (Below.heap_alloc W _ _ lt3).trans b3⟩, hB1.alloc hB1.size _⟩ ⟨W.heap.size, by omega, World.alloc_heap_new W _, rfl⟩
  case body =>
    rintro l pre x a' W hl ⟨r, hr⟩ ⟨⟨⟨hp, b1⟩, b2, b3⟩, hB1⟩ ⟨Bx, hBx, bX, rfl⟩ hlt
    obtain ⟨y, hy⟩ : ∃ y, m.o.getD x.1 default = y := ⟨_, rfl⟩
    obtain ⟨ua, hua⟩ : ∃ y, (uf x.1).1 = y := ⟨_, rfl⟩
    obtain ⟨uc, huc⟩ : ∃ y, (uf x.1).2 = y := ⟨_, rfl⟩
    have HY := hide hy
    have HUA := hide hua
    have HUC := hide huc
    rw [hy, hua, huc] at bX
    rw [hy, hua, huc]
    clear hy hua huc
    have c0 := (box_of bX).1 0 _ rfl
    have c1' := (box_of bX).1 1 _ rfl
    have c2' := (box_of bX).1 2 _ rfl
    have cq := (box_of b1).1 0 _ rfl
    by_cases k : y.i = q
    · have k' : (y.i == q) = true := by simpa using k
      have s0 := (box_of b2).1 0 _ rfl
      have s1 := (box_of b2).1 1 _ rfl
      have s2 := (box_of b2).1 2 _ rfl
      have sz := (box_of b2).2
      have t0 := (box_of b3).1 0 _ rfl
      have tz := (box_of b3).2
      have HK := hide k
      clear k
      gi_wp2
      refine ⟨((((KeepsOthers.setCell _ _ _).trans (KeepsOthers.setCell _ _ _)).trans (KeepsOthers.setCell _ _ _)).trans (KeepsOthers.setCell _ _ _)).from _, ⟨rfl, pre, x, rfl, hp, by rw [HY.out]; exact HK.out, ?_, ?_⟩, ?_⟩
      · rw [HY.out, HUA.out, HUC.out]
        exact (heap_setCell_other _ _ _ _ (by simp)).trans (putN3 b2 _ _ _)
      · exact heap_setCell_same _ _ 0 _ 4 _ (((heap_setCell_other _ _ _ _ (by simp)).trans ((heap_setCell_other _ _ _ _ (by simp)).trans (heap_setCell_other _ _ _ _ (by simp)))).trans b3)
      · exact (((hB1.setCell (by simp <;> omega) _).setCell (by simp <;> omega) _).setCell (by simp <;> omega) _).setCell (by simp <;> omega) _
    · have k' : (y.i == q) = false := by simpa using k
      have HK := hide k
      clear k
      gi_wp2
      exact ⟨KeepsFrom.refl _ _, Below.refl _ _, ⟨⟨fun z hz => (List.mem_append.1 hz).elim (hp z) (fun e => by simp at e; subst e; rw [HY.out]; exact HK.out), b1⟩, b2, b3⟩, hB1⟩
  case done =>
    rintro D ys W hD hT ⟨⟨⟨hp, b1⟩, b2, b3⟩, hB1⟩ hK
    have hA : atM m q = -1 := obAt_no (fun i hi => by
      obtain ⟨y, hy, e⟩ := told_all hT i hi
      rw [← e]; exact hp y hy)
    have HA := hide hA
    clear hA hp
    have s0 := (box_of b2).1 0 _ rfl
    have s1 := (box_of b2).1 1 _ rfl
    have s2 := (box_of b2).1 2 _ rfl
    have sz := (box_of b2).2
    have t0 := (box_of b3).1 0 _ rfl
    have tz := (box_of b3).2
    gi_wp2
    have hK' := ((((KeepsOthers.setCell W ⟨w.heap.size + 1 + 1, 0, none⟩ (.int .i64 0)).trans (KeepsOthers.setCell _ ⟨w.heap.size + 1 + 1, 1, none⟩ (.int .i64 0))).trans (KeepsOthers.setCell _ ⟨w.heap.size + 1 + 1, 2, none⟩ (.slice none 0 0))).trans (KeepsOthers.setCell _ ⟨w.heap.size + 1 + 1 + 1, 0, none⟩ (.bool false))).same D _ hK rfl
    have g2 : ((((W.setCell ⟨w.heap.size + 1 + 1, 0, none⟩ (.int .i64 0)).setCell ⟨w.heap.size + 1 + 1, 1, none⟩ (.int .i64 0)).setCell ⟨w.heap.size + 1 + 1, 2, none⟩ (.slice none 0 0)).setCell ⟨w.heap.size + 1 + 1 + 1, 0, none⟩ (.bool false)).heap[w.heap.size + 1 + 1]? = _ := (heap_setCell_other _ _ _ _ (by simp)).trans (putN3 b2 (.int .i64 0) (.int .i64 0) (.slice none 0 0))
    have g3 := heap_setCell_same (((W.setCell ⟨w.heap.size + 1 + 1, 0, none⟩ (.int .i64 0)).setCell ⟨w.heap.size + 1 + 1, 1, none⟩ (.int .i64 0)).setCell ⟨w.heap.size + 1 + 1, 2, none⟩ (.slice none 0 0)) (w.heap.size + 1 + 1 + 1) 0 _ 4 (.bool false) (((heap_setCell_other _ _ _ _ (by simp)).trans ((heap_setCell_other _ _ _ _ (by simp)).trans (heap_setCell_other _ _ _ _ (by simp)))).trans b3)
    refine ⟨by simp, .inl ⟨_, _, rfl, run_takeDeferred hK', ?_⟩⟩
    refine ⟨.tuple #[.agg #[.int .i64 0, .int .i64 0, .slice none 0 0], .bool false], results_cco Try.results57 _ _ _ rfl rfl (loadOb ((World.putObj_heap_other (by omega)).trans g2)) (ldBl ((World.putObj_heap_other (by omega)).trans g3)), ?_, ?_⟩
    · unfold findX fuV foundB
      rw [HA.out]
      rfl
    · exact ((((hB1.setCell (by simp <;> omega) _).setCell (by simp <;> omega) _).setCell (by simp <;> omega) _).setCell (by simp <;> omega) _).trans (belowK_b (w := w) (Nat.le_refl _) _ D _ _ (by omega) hK' rfl rfl)
  case stop =>
    rintro D c pre W hD ⟨k, hk, hT⟩ ⟨⟨rfl, pre', x, rfl, hp, hx, b2, b3⟩, hB1⟩ hK
    obtain ⟨hj, hall⟩ := told_last hT
    have hA : atM m q = (x.1 : Int) := by
      unfold atM
      rw [obAt_hit x.2 hx (fun i hi => by
        obtain ⟨y, hy, e⟩ := hall i (by omega)
        rw [← e]; exact hp y hy), Nat.zero_add]
    have HA := hide hA
    clear hA hp hx hT hall hj
    gi_wp2
    refine ⟨by simp, .inl ⟨_, _, rfl, run_takeDeferred hK, ?_⟩⟩
    refine ⟨_, results_cco Try.results57 _ _ _ rfl rfl (loadOb ((World.putObj_heap_other (by omega)).trans b2)) (ldBl ((World.putObj_heap_other (by omega)).trans b3)), ?_, ?_⟩
    · unfold findX fuV foundB obV
      rw [HA.out, if_pos (by omega), if_pos (by omega), decide_eq_true (by omega), Int.toNat_natCast]
    · exact hB1.trans (belowK_b (w := w) (Nat.le_refl _) _ D _ _ (by omega) hK rfl rfl)
theorem objectI (w : World) (m : Mm) (u1 u2 : Value) (q : Int) (uf : Nat → Option Addr × Nat) (hO : ObsAt w.heap.size w u1 m.o uf) (h2 : Reads w w.heap.size (lks m.l) u2) (hm : m.o.length ≤ 1048576) :
    Calls Try.prog 57 #[mmV m u1 u2, .int .i64 q] w fun e w' => e = .returned (.tuple #[obV (findX m q) (fuV m q uf), .bool (foundB m q)]) ∧ Below w.heap.size w w' :=
  (callsIn_wide (n := 3)).1 (object_in Fence.wide 3 trivial trivial trivial rfl (by omega) w m u1 u2 q uf hO h2 hm)
end Go.Proofs.Ythlaihkpffddcaa
/-
  A region that draws its order, in a round of a loop over a function: as outside of it.
-/
namespace Go.Proofs.Ythlaihkpffddcaa
open Go

def noDefer (o : Oper) : Bool := match o.op with | .defer _ => false | _ => true
theorem noDefer_at {ops : Array Oper} (h : ops.toList.all noDefer = true) {i : Nat} {o : Oper} (ho : ops[i]? = some o) : ∀ c, o.op ≠ .defer c := fun c e => by
  have hm : o ∈ ops.toList := by
    have := Array.getElem?_toList (xs := ops) (i := i)
    exact List.mem_of_getElem? (this.trans ho)
  have := List.all_eq_true.1 h o hm
  unfold noDefer at this
  rw [e] at this
  cases this
theorem wpOp_up {P : Program} {ops : Array Oper} {Q : Exit → Act → World → Prop} {n l i : Nat} {K K' : Act → World → Prop} {a : Act} {w : World} (hd : ops.toList.all noDefer = true) (hQ : ¬ LetsOut Q) (hK : ∀ a w, K a w → K' a w)
    (h : wpOp P ops Q i K a w) : wpOpIn (Fence.wide.inRound l) n P ops Q i K' a w := by
  unfold wpOp at h
  unfold wpOpIn
  cases ho : ops[i]? with
  | none => simp only [ho] at h ⊢; exact hK _ _ h
  | some o =>
    simp only [ho] at h ⊢
    by_cases hw : Region.wanted o (yielded ops a.tmps) = true
    · simp only [hw, if_true] at h ⊢
      rcases h with h | ⟨_, hl⟩
      · refine ⟨fun _ _ => trivial, ?_⟩
        show o.uponIn (Fence.wide.inRound l) n P a K' Q ((o.semAt (some l) a.eval).run P w)
        rw [Oper.semAt_some l _ o (noDefer_at hd ho)]
        unfold Oper.wp at h
        generalize (execOp a.eval o).run P w = r at h ⊢
        cases r with
        | ok x w' =>
          cases x <;> simp only [Oper.upon, Oper.uponIn] at h ⊢ <;>
            first
              | exact hK _ _ h
              | exact ⟨fun h => (by cases h), callsIn_wide.2 (Calls.mono h (fun e w'' he => by cases e <;> first | exact hK _ _ he | exact he))⟩
              | exact ⟨fun h => (by cases h), fun c cs _ => let ⟨v, w', r, s⟩ := h c cs; ⟨v, w', hK _ _ r, stepsIn_wide.2 s⟩⟩
        | halt x w' => cases x <;> simp only [Oper.upon, Oper.uponIn] at h ⊢ <;> exact h
      · exact absurd hl hQ
    · simp only [hw] at h ⊢
      exact ⟨fun _ _ => trivial, hK _ _ h⟩
theorem wpAny_up {P : Program} {md : Region.Mode} {ops : Array Oper} {Q : Exit → Act → World → Prop} {n l : Nat} (hd : ops.toList.all noDefer = true) (hQ : ¬ LetsOut Q) :
    ∀ (fuel : Nat) (listed : Array Bool) (a : Act) (w : World), wpAny P md ops Q fuel listed a w → wpAnyIn (Fence.wide.inRound l) n P md ops Q fuel listed a w
  | 0, _, _, _, h => h
  | fuel + 1, _, _, _, h => ⟨h.1, fun i hi => wpOp_up hd hQ (fun a w hk => wpAny_up hd hQ fuel _ a w hk) (h.2 i hi)⟩
/-- The beginning of a walk by hand, in a round. -/
theorem wpIn_held_drew {P : Program} {ops : Array Oper} {Q : Exit → Act → World → Prop} {S : World → Prop} {id n l : Nat} {a : Act} {w : World} (hm : P.follows .mixedOrders = true) (hd : ops.toList.all noDefer = true) (hQ : ¬ LetsOut Q) (hS : S w.drew)
    (h : S w.drew → wpAnyH P .any ops Q S ops.size (Array.replicate ops.size false) a w.drew) : (Code.region id ops true).wpIn (Fence.wide.inRound l) n P Q a w :=
  wpIn_region_any hm (wpAny_up hd hQ _ _ _ _ (wpAny_of_held _ _ _ _ (h hS)))
end Go.Proofs.Ythlaihkpffddcaa
