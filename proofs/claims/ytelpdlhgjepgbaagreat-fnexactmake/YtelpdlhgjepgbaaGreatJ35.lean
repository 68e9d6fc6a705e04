/-
  Joined: RngO, RngP.
-/
import Derived.RangeFuncNested
import Derived.RangeFuncLeaves
import Derived.Shelf.Abstract
import Derived.WalkKit
import Derived.OwnWalkIn
import Derived.TacticsInMore
import Derived.LoopNIn
import Derived.LoopIn
import Derived.Test.YtelpdlhgjepgbaaGreatJ25
import Derived.Test.YtelpdlhgjepgbaaGreatJ27
/-
  Objects told by a range over a function that stops early: the teller.
-/
namespace Go.Proofs.YtelpdlhgjepgbaaGreat
open Go.RowKit Go.Shelf

attribute [local go_sem] Oper.semAt_some

/-- The objects lie below n, their fields' rows are uf. -/
def ObsAt (n : Nat) (w : World) (u : Value) (xs : List Ob) (uf : Nat → Option Addr × Nat) : Prop :=
  ∃ a cap, u = .slice a xs.length cap ∧ (0 < xs.length → ∃ b o, a = some ⟨b, o, none⟩ ∧ b < n ∧ ∀ j, j < xs.length → w.cell? ⟨b, o + j * 3, none⟩ = some (.int .i64 (xs.getD j default).i) ∧ w.cell? ⟨b, o + j * 3 + 1, none⟩ = some (.int .i64 (xs.getD j default).c) ∧ w.cell? ⟨b, o + j * 3 + 2, none⟩ = some (.slice (uf j).1 (xs.getD j default).f.length (uf j).2))
theorem ObsAt.below {n : Nat} {w w' : World} {u : Value} {xs : List Ob} {uf : Nat → Option Addr × Nat} (h : ObsAt n w u xs uf) (hb : Below n w w') : ObsAt n w' u xs uf := by
  obtain ⟨a, cap, h1, h2⟩ := h
  refine ⟨a, cap, h1, fun hp => ?_⟩
  obtain ⟨b, o, h3, h4, h5⟩ := h2 hp
  refine ⟨b, o, h3, h4, fun j hj => ?_⟩
  obtain ⟨p0, p1, p2⟩ := h5 j hj
  exact ⟨(hb.cell (p := ⟨b, o + j * 3, none⟩) h4).trans p0, (hb.cell (p := ⟨b, o + j * 3 + 1, none⟩) h4).trans p1, (hb.cell (p := ⟨b, o + j * 3 + 2, none⟩) h4).trans p2⟩
theorem ObsAt.of {n : Nat} {w : World} {u : Value} {xs : List Ob} (h : Reads w n (obs xs) u) : ∃ uf, ObsAt n w u xs uf ∧ ∀ j, j < xs.length → Reads w n (vls (xs.getD j default).f) (.slice (uf j).1 (xs.getD j default).f.length (uf j).2) := by
  obtain ⟨a, cap, e, _, _, hc⟩ := object_at h
  by_cases hp : 0 < xs.length
  · obtain ⟨b, o, ea, hb, hcell⟩ := hc hp
    have hx : ∀ j, ∃ p : Option Addr × Nat, j < xs.length → w.cell? ⟨b, o + j * 3 + 2, none⟩ = some (.slice p.1 (xs.getD j default).f.length p.2) ∧ Reads w n (vls (xs.getD j default).f) (.slice p.1 (xs.getD j default).f.length p.2) := fun j => by
      by_cases hj : j < xs.length
      · obtain ⟨pv, _, _, d2, r⟩ := hcell j hj
        obtain ⟨fa, fc, fe, _⟩ := r.shape
        subst fe
        exact ⟨(fa, fc), fun _ => ⟨d2, r⟩⟩
      · exact ⟨(none, 0), fun h => absurd h hj⟩
    refine ⟨fun j => Classical.choose (hx j), ⟨a, cap, e, fun _ => ⟨b, o, ea, hb, fun j hj => ?_⟩⟩, fun j hj => (Classical.choose_spec (hx j) hj).2⟩
    obtain ⟨pv, d0, d1, _, _⟩ := hcell j hj
    exact ⟨d0, d1, (Classical.choose_spec (hx j) hj).1⟩
  · exact ⟨fun _ => (none, 0), ⟨a, cap, e, fun h => absurd h hp⟩, fun j hj => absurd (Nat.lt_of_le_of_lt (Nat.zero_le j) hj) hp⟩
def obE (xs : List Ob) (uf : Nat → Option Addr × Nat) (x : { j : Nat // j < xs.length }) : Array Value := #[.agg #[.int .i64 (xs.getD x.1 default).i, .int .i64 (xs.getD x.1 default).c, .slice (uf x.1).1 (xs.getD x.1 default).f.length (uf x.1).2]]
def Told (xs : List Ob) (k : Nat) (pre : List { j : Nat // j < xs.length }) : Prop := pre.map Subtype.val = List.range k
theorem Told.snoc {xs : List Ob} {pre : List { j : Nat // j < xs.length }} (h : Told xs pre.length pre) (hlt : pre.length < xs.length) : Told xs (pre ++ [(⟨pre.length, hlt⟩ : { j : Nat // j < xs.length })]).length (pre ++ [⟨pre.length, hlt⟩]) := by
  unfold Told at *
  rw [List.map_append, h]
  simp [List.range_succ]

set_option maxRecDepth 100000 in
set_option maxHeartbeats 4000000 in
theorem objects1_in (F : Fence) (n : Nat) (hf : F.fn 88) (hro : F.round = none) (hn : 1 ≤ n) (l Bs n₀ : Nat) (u1 : Value) (xs : List Ob) (uf : Nat → Option Addr × Nat) (hlen : xs.length ≤ 1048576) (J Jx : List { j : Nat // j < xs.length } → World → Prop) (W : World) (hJ : AbidesFrom W.heap.size J) (hn₀ : n₀ ≤ W.heap.size)
    (hY : ∀ pre x W1, J pre W1 → pre.length < xs.length → YieldAt F (n - 1) Tryz.prog l (obE xs uf x) W1 fun e W' =>
      (e = .returned (.bool true) ∧ J (pre ++ [x]) W' ∧ Below n₀ W1 W') ∨ (e = .returned (.bool false) ∧ Jx (pre ++ [x]) W'))
    (hBs : W.cell? ⟨Bs, 0, none⟩ = some u1) (hO : ObsAt n₀ W u1 xs uf) (h0 : J [] W) :
    CallsIn F n Tryz.prog 88 #[.func (.yield l) #[] #[], .pointer (some ⟨Bs, 0, none⟩)] W fun e W' => (∃ v, e = .returned v) ∧
      ((∃ ys, Told xs xs.length ys ∧ J ys W') ∨ (∃ pre, (∃ k, k ≤ xs.length ∧ Told xs k pre) ∧ Jx pre W')) := by
  obtain ⟨a, cap, rfl, hc⟩ := hO
  refine callsIn_of_wp Tryz.func88 rfl hf ?_ hro
  simp only [Tryz.ntmps88, List.size_toArray, List.length_cons, List.length_nil, Nat.reduceAdd, Nat.reduceSub, Array.replicate_succ, Array.replicate_zero, List.push_toArray, List.append_toArray, List.nil_append, List.cons_append]
  gi_wp2
  gi_loopw [8] (fun i wr => ∃ pre : List { j : Nat // j < xs.length }, pre.length ≤ xs.length ∧ Hid (Told xs pre.length pre) ∧ i = .int .i64 (pre.length : Int) ∧ Hid (J pre wr) ∧ Hid (Below n₀ W wr))
    (fun i _ => xs.length - (intOf i).toNat)
  case atStart => exact ⟨[], Nat.zero_le _, hide rfl, rfl, hide h0, hide (Below.refl _ _)⟩
  case round =>
    obtain ⟨pre, hk, HT, rfl, HJ', HBr⟩ := hrel
    by_cases hlt : pre.length < xs.length
    · obtain ⟨b, o, rfl, hbb, hcell⟩ := hc (by omega)
      obtain ⟨d0, d1, d2⟩ := hcell pre.length hlt
      replace d0 := (HBr.out.cell (p := ⟨b, o + pre.length * 3, none⟩) hbb).trans d0
      replace d1 := (HBr.out.cell (p := ⟨b, o + pre.length * 3 + 1, none⟩) hbb).trans d1
      replace d2 := (HBr.out.cell (p := ⟨b, o + pre.length * 3 + 2, none⟩) hbb).trans d2
      have HS := hide (HT.out.snoc hlt)
      have hJ2 := hJ pre wr (wr.alloc (.cells #[.int .i64 (xs.getD pre.length default).i, .int .i64 (xs.getD pre.length default).c, .slice (uf pre.length).1 (xs.getD pre.length default).f.length (uf pre.length).2] 54)) none HJ'.out (World.grownBy_alloc _ _ none) (fun r e => by cases e)
      obtain ⟨fn, tmps, assign, body, hy, hR⟩ := hY pre ⟨pre.length, hlt⟩ _ hJ2 hlt
      unfold obE at hy
      dsimp only at hy
      have hsz := HBr.out.size
      have HB2 := hide (HBr.out.alloc (Nat.le_trans hn₀ hsz) (.cells #[.int .i64 (xs.getD pre.length default).i, .int .i64 (xs.getD pre.length default).c, .slice (uf pre.length).1 (xs.getD pre.length default).f.length (uf pre.length).2] 54))
      clear hcell hJ2
      generalize xs.getD pre.length default = y at *
      generalize (uf pre.length).1 = ua at *
      generalize (uf pre.length).2 = uc at *
      gi_wp2
      refine hR.mono ?_
      rintro e W3 (⟨rfl, hJ3, hk3⟩ | ⟨rfl, hJx3⟩)
      · gi_wp2
        go_roundw
        case rel => exact ⟨pre ++ [⟨pre.length, hlt⟩], by simp; omega, HS, by simp, hide hJ3, hide (HB2.out.trans hk3)⟩
        case measure => simp [intOf]; omega
      · gi_wp2
        refine bodyPost_ret (results_none rfl _ _ _) rfl ?_
        exact ⟨⟨_, rfl⟩, .inr ⟨_, ⟨_, by rw [List.length_append]; simp; omega, HS.out⟩, hJx3⟩⟩
    · have he : pre.length = xs.length := by omega
      gi_wp2
      go_end0
      exact ⟨⟨_, rfl⟩, .inl ⟨pre, by rw [← he]; exact HT.out, HJ'.out⟩⟩
theorem objects_stops (F : Fence) (n : Nat) (hf : F.fn 88) (hro : F.round = none) (hn : 1 ≤ n) (Bs n₀ : Nat) (u1 : Value) (xs : List Ob) (uf : Nat → Option Addr × Nat) (hlen : xs.length ≤ 1048576) (w : World) (hBs : Bs < w.heap.size) (hn₀ : n₀ ≤ w.heap.size)
    (hc : w.cell? ⟨Bs, 0, none⟩ = some u1) (hO : ObsAt n₀ w u1 xs uf) :
    SeqStopsK F n Tryz.prog 88 #[.pointer (some ⟨Bs, 0, none⟩)] (obE xs uf) (Below n₀) (Told xs xs.length) (fun pre => ∃ k, k ≤ xs.length ∧ Told xs k pre) xs.length w := fun l J Jx W hW hJ _ hY h0 =>
  objects1_in F n hf hro hn l Bs n₀ u1 xs uf hlen J Jx W hJ (Nat.le_trans hn₀ hW.size) hY ((hW.cell (p := ⟨Bs, 0, none⟩) hBs).trans hc) (hO.below (hW.mono hn₀)) h0
set_option maxHeartbeats 1000000 in
theorem objects_in (F : Fence) (n : Nat) (hf : F.fn 68) (hro : F.round = none) (u1 u2 : Value) (w : World) :
    CallsIn F n Tryz.prog 68 #[.agg #[u1, u2]] w fun e w' => e = .returned (.func (.func 88) #[] #[.pointer (some ⟨w.heap.size, 0, none⟩)]) ∧ w' = w.alloc (.cells #[u1, u2] 34) := by
  refine callsIn_of_wp Tryz.func68 rfl hf ?_ hro
  simp only [Tryz.ntmps68, List.size_toArray, List.length_cons, List.length_nil, Nat.reduceAdd, Nat.reduceSub, Array.replicate_succ, Array.replicate_zero, List.push_toArray, List.append_toArray, List.nil_append, List.cons_append]
  gi_wp2
  go_ret
  exact ⟨rfl, rfl⟩
/-- A block of cells stays where none but blocks that are no cells are turned. -/
theorem blk_own {β : Type} (B : Nat) (t : TypeId) (f : β → Array Value) : Go.Own (fun s W => W.heap[B]? = some (.cells (f s) t (0, 0))) := fun s X Y row hs hg hrow =>
  (hg.block B (Array.getElem?_eq_some_iff.1 hs).1 (fun e => by obtain ⟨o, ho, hc⟩ := hrow B e.symm; rw [hs] at ho; cases ho; cases hc)).trans hs
end Go.Proofs.YtelpdlhgjepgbaaGreat
/-
  One object, found by a range over a function that stops early.
-/
namespace Go.Proofs.YtelpdlhgjepgbaaGreat
open Go.RowKit Go.Shelf

attribute [local go_sem] Oper.semAt_some

theorem results_cco {fn : Func} {p0 p1 : Tmp} {t0 t1 : TypeId} {v0 v1 : Value} {g0 g1 : Addr} (h : fn.results = #[.cell p0 t0, .cell p1 t1]) (tmps : Array Value) (P : Program) (w : World)
    (hg0 : tmps.getD p0 undef = .pointer (some g0)) (hg1 : tmps.getD p1 undef = .pointer (some g1)) (hl0 : (loadVar t0 g0).run P w = .ok v0 w) (hl1 : (loadVar t1 g1).run P w = .ok v1 w) :
    (results fn tmps).run P w = .ok (.tuple #[v0, v1]) w := by
  have h' : ((asAddr (tmps.getD p0 undef)).run P w).andThen (fun a w₁ => ((loadVar t0 a).run P w₁).andThen fun x w₂ => ((asAddr (tmps.getD p1 undef)).run P w₂).andThen (fun a w₃ => ((loadVar t1 a).run P w₃).andThen fun y w₄ => Result.ok (Value.tuple #[x, y]) w₄)) = Result.ok (Value.tuple #[v0, v1]) w := by
    rw [hg0, hg1]
    simp [asAddr, Result.andThen, hl0, hl1]
  simp only [results, h]
  simpa [Sem.run_bind, Result.andThen] using h'
theorem ldBl {w : World} {g : Nat} {c : Bool} (h : w.heap[g]? = some (.cells #[.bool c] 4 (0, 0))) : (loadVar 4 ⟨g, 0, none⟩).run Tryz.prog w = .ok (.bool c) w := by
  have c := (box_of h).1 0 _ rfl
  simp [go_sem, c]
/-- The row of the fields of what is found. -/
def fuV (m : Mm) (q : Int) (uf : Nat → Option Addr × Nat) : Value := if 0 ≤ atM m q then .slice (uf (atM m q).toNat).1 (m.o.getD (atM m q).toNat default).f.length (uf (atM m q).toNat).2 else .slice none 0 0
theorem told_last {xs : List Ob} {k : Nat} {pre : List { j : Nat // j < xs.length }} {x : { j : Nat // j < xs.length }} (h : Told xs k (pre ++ [x])) : x.1 = pre.length ∧ ∀ i, i < pre.length → ∃ y ∈ pre, y.1 = i := by
  unfold Told at h
  have hk : k = pre.length + 1 := by have := congrArg List.length h; simpa using this.symm
  subst hk
  rw [List.map_append, List.range_succ] at h
  obtain ⟨h1, h2⟩ := List.append_inj h (by simp)
  refine ⟨by simpa using h2, fun i hi => ?_⟩
  have : i ∈ pre.map Subtype.val := by rw [h1]; exact List.mem_range.2 hi
  obtain ⟨y, hy, e⟩ := List.mem_map.1 this
  exact ⟨y, hy, e⟩
theorem told_all {xs : List Ob} {ys : List { j : Nat // j < xs.length }} (h : Told xs xs.length ys) : ∀ i, i < xs.length → ∃ y ∈ ys, y.1 = i := fun i hi => by
  unfold Told at h
  have : i ∈ ys.map Subtype.val := by rw [h]; exact List.mem_range.2 hi
  obtain ⟨y, hy, e⟩ := List.mem_map.1 this
  exact ⟨y, hy, e⟩

set_option maxRecDepth 100000 in
set_option maxHeartbeats 8000000 in
theorem object_in (F : Fence) (n : Nat) (hf : F.fn 44) (hf2 : F.fn 68) (hf3 : F.fn 88) (hro : F.round = none) (hn : 3 ≤ n) (w : World) (m : Mm) (u1 u2 : Value) (q : Int) (uf : Nat → Option Addr × Nat) (hO : ObsAt w.heap.size w u1 m.o uf) (h2 : Reads w w.heap.size (lks m.l) u2) (hm : m.o.length ≤ 1048576) :
    CallsIn F n Tryz.prog 44 #[mmV m u1 u2, .int .i64 q] w fun e w' => e = .returned (.tuple #[obV (findX m q) (fuV m q uf), .bool (foundB m q)]) ∧ Below w.heap.size w w' := by
  have h1 : 1 ≤ n := by omega
  have HO := hide hO
  obtain ⟨a1, c1, e1, _⟩ := hO
  obtain ⟨a2, c2, e2, _⟩ := h2.shape
  subst e1 e2
  clear h2
  have bA := ((((((Below.refl w.heap.size w).alloc (Nat.le_refl _) (.cells #[.slice a1 m.o.length c1, .slice a2 m.l.length c2] 34)).alloc (by simp) (.cells #[.int .i64 q] 3)).alloc (by simp <;> omega) (.cells #[.int .i64 0, .int .i64 0, .slice none 0 0] 54)).alloc (by simp <;> omega) (.cells #[.bool false] 4)).alloc (by simp <;> omega) (.cells #[.slice a1 m.o.length c1, .slice a2 m.l.length c2] 34))
  have G0 := heap_alloc_new w (.cells #[.slice a1 m.o.length c1, .slice a2 m.l.length c2] 34)
  have G1 := heap_alloc_new (w.alloc (.cells #[.slice a1 m.o.length c1, .slice a2 m.l.length c2] 34)) (.cells #[.int .i64 q] 3)
  have G2 := heap_alloc_new ((w.alloc (.cells #[.slice a1 m.o.length c1, .slice a2 m.l.length c2] 34)).alloc (.cells #[.int .i64 q] 3)) (.cells #[.int .i64 0, .int .i64 0, .slice none 0 0] 54)
  have G3 := heap_alloc_new (((w.alloc (.cells #[.slice a1 m.o.length c1, .slice a2 m.l.length c2] 34)).alloc (.cells #[.int .i64 q] 3)).alloc (.cells #[.int .i64 0, .int .i64 0, .slice none 0 0] 54)) (.cells #[.bool false] 4)
  have G4 := heap_alloc_new ((((w.alloc (.cells #[.slice a1 m.o.length c1, .slice a2 m.l.length c2] 34)).alloc (.cells #[.int .i64 q] 3)).alloc (.cells #[.int .i64 0, .int .i64 0, .slice none 0 0] 54)).alloc (.cells #[.bool false] 4)) (.cells #[.slice a1 m.o.length c1, .slice a2 m.l.length c2] 34)
  simp only [World.size_alloc] at G1 G2 G3 G4
  have E0 := hide ((Below.heap_alloc _ (.cells #[.slice a1 m.o.length c1, .slice a2 m.l.length c2] 34) _ (by simp <;> omega)).trans ((Below.heap_alloc _ (.cells #[.bool false] 4) _ (by simp <;> omega)).trans ((Below.heap_alloc _ (.cells #[.int .i64 0, .int .i64 0, .slice none 0 0] 54) _ (by simp <;> omega)).trans ((Below.heap_alloc _ (.cells #[.int .i64 q] 3) _ (by simp)).trans (G0)))))
  have E1 := hide ((Below.heap_alloc _ (.cells #[.slice a1 m.o.length c1, .slice a2 m.l.length c2] 34) _ (by simp <;> omega)).trans ((Below.heap_alloc _ (.cells #[.bool false] 4) _ (by simp <;> omega)).trans ((Below.heap_alloc _ (.cells #[.int .i64 0, .int .i64 0, .slice none 0 0] 54) _ (by simp)).trans (G1))))
  have E2 := hide ((Below.heap_alloc _ (.cells #[.slice a1 m.o.length c1, .slice a2 m.l.length c2] 34) _ (by simp <;> omega)).trans ((Below.heap_alloc _ (.cells #[.bool false] 4) _ (by simp)).trans (G2)))
  have E3 := hide ((Below.heap_alloc _ (.cells #[.slice a1 m.o.length c1, .slice a2 m.l.length c2] 34) _ (by simp)).trans (G3))
  have E4 := hide (G4)
  have HB := hide bA
  replace HO := hide (HO.out.below bA)
  clear bA G0 G1 G2 G3 G4
  unfold mmV
  refine callsIn_of_wp_marks Tryz.func44 rfl hf ?_ hro
  simp only [Tryz.ntmps44, List.size_toArray, List.length_cons, List.length_nil, Nat.reduceAdd, Nat.reduceSub, Array.replicate_succ, Array.replicate_zero, List.push_toArray, List.append_toArray, List.nil_append, List.cons_append]
  gi_wp2_with (gi_at_call 68; refine (objects_in F (n - 1) hf2 hro _ _ _).mono ?_; rintro e w' ⟨rfl, rfl⟩)
  have hsz : (((((w.alloc (.cells #[.slice a1 m.o.length c1, .slice a2 m.l.length c2] 34)).alloc (.cells #[.int .i64 q] 3)).alloc (.cells #[.int .i64 0, .int .i64 0, .slice none 0 0] 54)).alloc (.cells #[.bool false] 4)).alloc (.cells #[.slice a1 m.o.length c1, .slice a2 m.l.length c2] 34)).heap.size = w.heap.size + 5 := by simp
  try simp only [World.size_alloc]
  generalize (((((w.alloc (.cells #[.slice a1 m.o.length c1, .slice a2 m.l.length c2] 34)).alloc (.cells #[.int .i64 q] 3)).alloc (.cells #[.int .i64 0, .int .i64 0, .slice none 0 0] 54)).alloc (.cells #[.bool false] 4)).alloc (.cells #[.slice a1 m.o.length c1, .slice a2 m.l.length c2] 34)) = W0 at *
  refine wpIn_rangeFunc_ownH hro h1 (gf := 88) (lb := #[.pointer (some ⟨w.heap.size + 1 + 1 + 1 + 1, 0, none⟩)]) rfl hf3 (enters_of Tryz.func88 (by kernel_rfl) rfl)
    (objects_stops F (n - 1) hf3 hro (by omega) (w.heap.size + 1 + 1 + 1 + 1) w.heap.size _ m.o uf hm W0 (by omega) (by omega) ((box_of E4.out).1 0 _ rfl) HO.out) belowK_t (belowK_b (by omega)) (Below.refl _ _) (fun _ => rfl)
    (fun pre W => (((∀ y ∈ pre, ¬ (m.o.getD y.1 default).i = q) ∧ W.heap[w.heap.size + 1]? = some (.cells #[.int .i64 q] 3 (0, 0))) ∧ (W.heap[w.heap.size + 1 + 1]? = some (.cells #[.int .i64 0, .int .i64 0, .slice none 0 0] 54 (0, 0)) ∧ W.heap[w.heap.size + 1 + 1 + 1]? = some (.cells #[.bool false] 4 (0, 0)))) ∧ Below w.heap.size w W)
    (fun c pre W => (c = .ret ∧ ∃ pre' x, pre = pre' ++ [x] ∧ (∀ y ∈ pre', ¬ (m.o.getD y.1 default).i = q) ∧ (m.o.getD x.1 default).i = q ∧ W.heap[w.heap.size + 1 + 1]? = some (.cells #[.int .i64 (m.o.getD x.1 default).i, .int .i64 (m.o.getD x.1 default).c, .slice (uf x.1).1 (m.o.getD x.1 default).f.length (uf x.1).2] 54 (0, 0)) ∧ W.heap[w.heap.size + 1 + 1 + 1]? = some (.cells #[.bool true] 4 (0, 0))) ∧ Below w.heap.size w W)
    (OwnFrom.and (OwnFrom.and (OwnFrom.and (ownFrom_pure _ _) (Go.Own.from (blk_own _ _ _) _)) (OwnFrom.and (Go.Own.from (blk_own _ _ _) _) (Go.Own.from (blk_own _ _ _) _))) (ownFrom_below (Nat.le_refl _) (by omega)))
    (fun c => OwnFrom.and (fun s X Y row hs hg hr => by
      obtain ⟨g1, p, x, g2, g3, g4, g5, g6⟩ := hs
      exact ⟨g1, p, x, g2, g3, g4, blk_own _ _ (fun _ : Unit => _) () X Y row g5 hg (fun r e => (hr r e).2), blk_own _ _ (fun _ : Unit => _) () X Y row g6 hg (fun r e => (hr r e).2)⟩) (ownFrom_below (Nat.le_refl _) (by omega)))
    ⟨⟨⟨by simp, E1.out⟩, E2.out, E3.out⟩, HB.out⟩
    (fun x a' W => ∃ Bx, w.heap.size + 3 < Bx ∧ W.heap[Bx]? = some (.cells #[.int .i64 (m.o.getD x.1 default).i, .int .i64 (m.o.getD x.1 default).c, .slice (uf x.1).1 (m.o.getD x.1 default).f.length (uf x.1).2] 54 (0, 0)) ∧ a' = { tmps := #[.agg #[.slice a1 m.o.length c1, .slice a2 m.l.length c2], .int .i64 q, .pointer (some ⟨w.heap.size, 0, none⟩), .pointer (some ⟨w.heap.size + 1, 0, none⟩), .pointer (some ⟨w.heap.size + 1 + 1, 0, none⟩), .pointer (some ⟨w.heap.size + 1 + 1 + 1, 0, none⟩), .pointer (some ⟨Bx, 0, none⟩), .agg #[.slice a1 m.o.length c1, .slice a2 m.l.length c2], .func (.func 88) #[] #[.pointer (some ⟨w.heap.size + 1 + 1 + 1 + 1, 0, none⟩)], .agg #[.int .i64 (m.o.getD x.1 default).i, .int .i64 (m.o.getD x.1 default).c, .slice (uf x.1).1 (m.o.getD x.1 default).f.length (uf x.1).2], undef, undef, undef, undef, undef, undef], defers := [] })
    (fun x a' _ X Y row hs hg hr => by obtain ⟨Bx, e1, e2, e3⟩ := hs; exact ⟨Bx, e1, blk_own Bx _ (fun _ : Unit => _) () X Y row e2 hg (fun r e => (hr r e).2), e3⟩)
    ?assign ?body ?done ?stop
  case assign =>
    rintro l pre x W K ⟨⟨⟨hp, b1⟩, b2, b3⟩, hB1⟩ hK
    unfold obE
    have lt1 := (Array.getElem?_eq_some_iff.1 b1).1
    have lt2 := (Array.getElem?_eq_some_iff.1 b2).1
    have lt3 := (Array.getElem?_eq_some_iff.1 b3).1
    generalize m.o.getD x.1 default = y at *
    generalize (uf x.1).1 = ua at *
    generalize (uf x.1).2 = uc at *
    gi_wp2
    exact hK _ _ ((KeepsOthers.alloc _ _).from _) ((Below.refl _ W).alloc hB1.size _) ⟨⟨⟨hp, (Below.heap_alloc W _ _ lt1).trans b1⟩, (Below.heap_alloc W _ _ lt2).trans b2, (Below.heap_alloc W _ _ lt3).trans b3⟩, hB1.alloc hB1.size _⟩ ⟨W.heap.size, by omega, World.alloc_heap_new W _, rfl⟩
  case body =>
    rintro l pre x a' W hl ⟨r, hr⟩ ⟨⟨⟨hp, b1⟩, b2, b3⟩, hB1⟩ ⟨Bx, hBx, bX, rfl⟩ hlt
    obtain ⟨y, hy⟩ : ∃ y, m.o.getD x.1 default = y := ⟨_, rfl⟩
    obtain ⟨ua, hua⟩ : ∃ y, (uf x.1).1 = y := ⟨_, rfl⟩
    obtain ⟨uc, huc⟩ : ∃ y, (uf x.1).2 = y := ⟨_, rfl⟩
    have HY := hide hy
    have HUA := hide hua
    have HUC := hide huc
    rw [hy, hua, huc] at bX
    rw [hy, hua, huc]
    clear hy hua huc
    have c0 := (box_of bX).1 0 _ rfl
    have c1' := (box_of bX).1 1 _ rfl
    have c2' := (box_of bX).1 2 _ rfl
    have cq := (box_of b1).1 0 _ rfl
    by_cases k : y.i = q
    · have k' : (y.i == q) = true := by simpa using k
      have s0 := (box_of b2).1 0 _ rfl
      have s1 := (box_of b2).1 1 _ rfl
      have s2 := (box_of b2).1 2 _ rfl
      have sz := (box_of b2).2
      have t0 := (box_of b3).1 0 _ rfl
      have tz := (box_of b3).2
      have HK := hide k
      clear k
      gi_wp2
      refine ⟨((((KeepsOthers.setCell _ _ _).trans (KeepsOthers.setCell _ _ _)).trans (KeepsOthers.setCell _ _ _)).trans (KeepsOthers.setCell _ _ _)).from _, ⟨rfl, pre, x, rfl, hp, by rw [HY.out]; exact HK.out, ?_, ?_⟩, ?_⟩
      · rw [HY.out, HUA.out, HUC.out]
        exact (heap_setCell_other _ _ _ _ (by simp)).trans (putN3 b2 _ _ _)
      · exact heap_setCell_same _ _ 0 _ 4 _ (((heap_setCell_other _ _ _ _ (by simp)).trans ((heap_setCell_other _ _ _ _ (by simp)).trans (heap_setCell_other _ _ _ _ (by simp)))).trans b3)
      · exact (((hB1.setCell (by simp <;> omega) _).setCell (by simp <;> omega) _).setCell (by simp <;> omega) _).setCell (by simp <;> omega) _
    · have k' : (y.i == q) = false := by simpa using k
      have HK := hide k
      clear k
      gi_wp2
      exact ⟨KeepsFrom.refl _ _, Below.refl _ _, ⟨⟨fun z hz => (List.mem_append.1 hz).elim (hp z) (fun e => by simp at e; subst e; rw [HY.out]; exact HK.out), b1⟩, b2, b3⟩, hB1⟩
  case done =>
    rintro D ys W hD hT ⟨⟨⟨hp, b1⟩, b2, b3⟩, hB1⟩ hK
    have hA : atM m q = -1 := obAt_no (fun i hi => by
      obtain ⟨y, hy, e⟩ := told_all hT i hi
      rw [← e]; exact hp y hy)
    have HA := hide hA
    clear hA hp
    have s0 := (box_of b2).1 0 _ rfl
    have s1 := (box_of b2).1 1 _ rfl
    have s2 := (box_of b2).1 2 _ rfl
    have sz := (box_of b2).2
    have t0 := (box_of b3).1 0 _ rfl
    have tz := (box_of b3).2
    gi_wp2
    have hK' := ((((KeepsOthers.setCell W ⟨w.heap.size + 1 + 1, 0, none⟩ (.int .i64 0)).trans (KeepsOthers.setCell _ ⟨w.heap.size + 1 + 1, 1, none⟩ (.int .i64 0))).trans (KeepsOthers.setCell _ ⟨w.heap.size + 1 + 1, 2, none⟩ (.slice none 0 0))).trans (KeepsOthers.setCell _ ⟨w.heap.size + 1 + 1 + 1, 0, none⟩ (.bool false))).same D _ hK rfl
    have g2 : ((((W.setCell ⟨w.heap.size + 1 + 1, 0, none⟩ (.int .i64 0)).setCell ⟨w.heap.size + 1 + 1, 1, none⟩ (.int .i64 0)).setCell ⟨w.heap.size + 1 + 1, 2, none⟩ (.slice none 0 0)).setCell ⟨w.heap.size + 1 + 1 + 1, 0, none⟩ (.bool false)).heap[w.heap.size + 1 + 1]? = _ := (heap_setCell_other _ _ _ _ (by simp)).trans (putN3 b2 (.int .i64 0) (.int .i64 0) (.slice none 0 0))
    have g3 := heap_setCell_same (((W.setCell ⟨w.heap.size + 1 + 1, 0, none⟩ (.int .i64 0)).setCell ⟨w.heap.size + 1 + 1, 1, none⟩ (.int .i64 0)).setCell ⟨w.heap.size + 1 + 1, 2, none⟩ (.slice none 0 0)) (w.heap.size + 1 + 1 + 1) 0 _ 4 (.bool false) (((heap_setCell_other _ _ _ _ (by simp)).trans ((heap_setCell_other _ _ _ _ (by simp)).trans (heap_setCell_other _ _ _ _ (by simp)))).trans b3)
    refine ⟨by simp, .inl ⟨_, _, rfl, run_takeDeferred hK', ?_⟩⟩
    refine ⟨.tuple #[.agg #[.int .i64 0, .int .i64 0, .slice none 0 0], .bool false], results_cco Tryz.results44 _ _ _ rfl rfl (loadOb ((World.putObj_heap_other (by omega)).trans g2)) (ldBl ((World.putObj_heap_other (by omega)).trans g3)), ?_, ?_⟩
    · unfold findX fuV foundB
      rw [HA.out]
      rfl
    · exact ((((hB1.setCell (by simp <;> omega) _).setCell (by simp <;> omega) _).setCell (by simp <;> omega) _).setCell (by simp <;> omega) _).trans (belowK_b (w := w) (Nat.le_refl _) _ D _ _ (by omega) hK' rfl rfl)
  case stop =>
    rintro D c pre W hD ⟨k, hk, hT⟩ ⟨⟨rfl, pre', x, rfl, hp, hx, b2, b3⟩, hB1⟩ hK
    obtain ⟨hj, hall⟩ := told_last hT
    have hA : atM m q = (x.1 : Int) := by
      unfold atM
      rw [obAt_hit x.2 hx (fun i hi => by
        obtain ⟨y, hy, e⟩ := hall i (by omega)
        rw [← e]; exact hp y hy), Nat.zero_add]
    have HA := hide hA
    clear hA hp hx hT hall hj
    gi_wp2
    refine ⟨by simp, .inl ⟨_, _, rfl, run_takeDeferred hK, ?_⟩⟩
    refine ⟨_, results_cco Tryz.results44 _ _ _ rfl rfl (loadOb ((World.putObj_heap_other (by omega)).trans b2)) (ldBl ((World.putObj_heap_other (by omega)).trans b3)), ?_, ?_⟩
    · unfold findX fuV foundB obV
      rw [HA.out, if_pos (by omega), if_pos (by omega), decide_eq_true (by omega), Int.toNat_natCast]
    · exact hB1.trans (belowK_b (w := w) (Nat.le_refl _) _ D _ _ (by omega) hK rfl rfl)
theorem objectI (w : World) (m : Mm) (u1 u2 : Value) (q : Int) (uf : Nat → Option Addr × Nat) (hO : ObsAt w.heap.size w u1 m.o uf) (h2 : Reads w w.heap.size (lks m.l) u2) (hm : m.o.length ≤ 1048576) :
    Calls Tryz.prog 44 #[mmV m u1 u2, .int .i64 q] w fun e w' => e = .returned (.tuple #[obV (findX m q) (fuV m q uf), .bool (foundB m q)]) ∧ Below w.heap.size w w' :=
  (callsIn_wide (n := 3)).1 (object_in Fence.wide 3 trivial trivial trivial rfl (by omega) w m u1 u2 q uf hO h2 hm)
end Go.Proofs.YtelpdlhgjepgbaaGreat
