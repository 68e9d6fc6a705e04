/-
  Objects told by a range over a function that stops early: the teller.
-/
import Derived.RangeFuncNested
import Derived.RangeFuncLeaves
import Derived.Shelf.Abstract
import Derived.WalkKit
import Derived.OwnWalkIn
import Derived.TacticsInMore
import Derived.LoopNIn
import Derived.LoopIn
import Derived.Test.YthlaihkpffddcaaMemM
namespace Go.Proofs.Ythlaihkpffddcaa
open Go.RowKit Go.Shelf

attribute [local go_sem] Oper.semAt_some

/-- The objects lie below n, their fields' rows are uf. -/
def ObsAt (n : Nat) (w : World) (u : Value) (xs : List Ob) (uf : Nat → Option Addr × Nat) : Prop :=
  ∃ a cap, u = .slice a xs.length cap ∧ (0 < xs.length → ∃ b o, a = some ⟨b, o, none⟩ ∧ b < n ∧ ∀ j, j < xs.length → w.cell? ⟨b, o + j * 3, none⟩ = some (.int .i64 (xs.getD j default).i) ∧ w.cell? ⟨b, o + j * 3 + 1, none⟩ = some (.int .i64 (xs.getD j default).c) ∧ w.cell? ⟨b, o + j * 3 + 2, none⟩ = some (.slice (uf j).1 (xs.getD j default).f.length (uf j).2))
theorem ObsAt.below {n : Nat} {w w' : World} {u : Value} {xs : List Ob} {uf : Nat → Option Addr × Nat} (h : ObsAt n w u xs uf) (hb : Below n w w') : ObsAt n w' u xs uf := by
  obtain ⟨a, cap, h1, h2⟩ := h
  refine ⟨a, cap, h1, fun hp => ?_⟩
  obtain ⟨b, o, h3, h4, h5⟩ := h2 hp
  refine ⟨b, o, h3, h4, fun j hj => ?_⟩
  obtain ⟨p0, p1, p2⟩ := h5 j hj
  exact ⟨(hb.cell (p := ⟨b, o + j * 3, none⟩) h4).trans p0, (hb.cell (p := ⟨b, o + j * 3 + 1, none⟩) h4).trans p1, (hb.cell (p := ⟨b, o + j * 3 + 2, none⟩) h4).trans p2⟩
theorem ObsAt.of {n : Nat} {w : World} {u : Value} {xs : List Ob} (h : Reads w n (obs xs) u) : ∃ uf, ObsAt n w u xs uf ∧ ∀ j, j < xs.length → Reads w n (vls (xs.getD j default).f) (.slice (uf j).1 (xs.getD j default).f.length (uf j).2) := by
  obtain ⟨a, cap, e, _, _, hc⟩ := object_at h
  by_cases hp : 0 < xs.length
  · obtain ⟨b, o, ea, hb, hcell⟩ := hc hp
    have hx : ∀ j, ∃ p : Option Addr × Nat, j < xs.length → w.cell? ⟨b, o + j * 3 + 2, none⟩ = some (.slice p.1 (xs.getD j default).f.length p.2) ∧ Reads w n (vls (xs.getD j default).f) (.slice p.1 (xs.getD j default).f.length p.2) := fun j => by
      by_cases hj : j < xs.length
      · obtain ⟨pv, _, _, d2, r⟩ := hcell j hj
        obtain ⟨fa, fc, fe, _⟩ := r.shape
        subst fe
        exact ⟨(fa, fc), fun _ => ⟨d2, r⟩⟩
      · exact ⟨(none, 0), fun h => absurd h hj⟩
    refine ⟨fun j => Classical.choose (hx j), ⟨a, cap, e, fun _ => ⟨b, o, ea, hb, fun j hj => ?_⟩⟩, fun j hj => (Classical.choose_spec (hx j) hj).2⟩
    obtain ⟨pv, d0, d1, _, _⟩ := hcell j hj
    exact ⟨d0, d1, (Classical.choose_spec (hx j) hj).1⟩
  · exact ⟨fun _ => (none, 0), ⟨a, cap, e, fun h => absurd h hp⟩, fun j hj => absurd (Nat.lt_of_le_of_lt (Nat.zero_le j) hj) hp⟩
def obE (xs : List Ob) (uf : Nat → Option Addr × Nat) (x : { j : Nat // j < xs.length }) : Array Value := #[.agg #[.int .i64 (xs.getD x.1 default).i, .int .i64 (xs.getD x.1 default).c, .slice (uf x.1).1 (xs.getD x.1 default).f.length (uf x.1).2]]
def Told (xs : List Ob) (k : Nat) (pre : List { j : Nat // j < xs.length }) : Prop := pre.map Subtype.val = List.range k
theorem Told.snoc {xs : List Ob} {pre : List { j : Nat // j < xs.length }} (h : Told xs pre.length pre) (hlt : pre.length < xs.length) : Told xs (pre ++ [(⟨pre.length, hlt⟩ : { j : Nat // j < xs.length })]).length (pre ++ [⟨pre.length, hlt⟩]) := by
  unfold Told at *
  rw [List.map_append, h]
  simp [List.range_succ]

set_option maxRecDepth 100000 in
set_option maxHeartbeats 4000000 in
theorem objects1_in (F : Fence) (n : Nat) (hf : F.fn 98) (hro : F.round = none) (hn : 1 ≤ n) (l Bs n₀ : Nat) (u1 : Value) (xs : List Ob) (uf : Nat → Option Addr × Nat) (hlen : xs.length ≤ 1048576) (J Jx : List { j : Nat // j < xs.length } → World → Prop) (W : World) (hJ : AbidesFrom W.heap.size J) (hn₀ : n₀ ≤ W.heap.size)
    (hY : ∀ pre x W1, J pre W1 → pre.length < xs.length → YieldAt F (n - 1) Try.prog l (obE xs uf x) W1 fun e W' =>
      (e = .returned (.bool true) ∧ J (pre ++ [x]) W' ∧ Below n₀ W1 W') ∨ (e = .returned (.bool false) ∧ Jx (pre ++ [x]) W'))
    (hBs : W.cell? ⟨Bs, 0, none⟩ = some u1) (hO : ObsAt n₀ W u1 xs uf) (h0 : J [] W) :
    CallsIn F n Try.prog 98 #[.func (.yield l) #[] #[], .pointer (some ⟨Bs, 0, none⟩)] W fun e W' => (∃ v, e = .returned v) ∧
      ((∃ ys, Told xs xs.length ys ∧ J ys W') ∨ (∃ pre, (∃ k, k ≤ xs.length ∧ Told xs k pre) ∧ Jx pre W')) := by
  obtain ⟨a, cap, rfl, hc⟩ := hO
  refine callsIn_of_wp Try.func98 rfl hf ?_ hro
  simp only [Try.ntmps98, List.size_toArray, List.length_cons, List.length_nil, Nat.reduceAdd, Nat.reduceSub, Array.replicate_succ, Array.replicate_zero, List.push_toArray, List.append_toArray, List.nil_append, List.cons_append]
  gi_wp2
  gi_loopw [8] (fun i wr => ∃ pre : List { j : Nat // j < xs.length }, pre.length ≤ xs.length ∧ Hid (Told xs pre.length pre) ∧ i = .int .i64 (pre.length : Int) ∧ Hid (J pre wr) ∧ Hid (Below n₀ W wr))
    (fun i _ => xs.length - (intOf i).toNat)
  case atStart => exact ⟨[], Nat.zero_le _, hide rfl, rfl, hide h0, hide (Below.refl _ _)⟩
  case round =>
    obtain ⟨pre, hk, HT, rfl, HJ', HBr⟩ := hrel
    by_cases hlt : pre.length < xs.length
    · obtain ⟨b, o, rfl, hbb, hcell⟩ := hc (by omega)
      obtain ⟨d0, d1, d2⟩ := hcell pre.length hlt
      replace d0 := (HBr.out.cell (p := ⟨b, o + pre.length * 3, none⟩) hbb).trans d0
      replace d1 := (HBr.out.cell (p := ⟨b, o + pre.length * 3 + 1, none⟩) hbb).trans d1
      replace d2 := (HBr.out.cell (p := ⟨b, o + pre.length * 3 + 2, none⟩) hbb).trans d2
      have HS := hide (HT.out.snoc hlt)
      have hJ2 := hJ pre wr (wr.alloc (.cells #[.int .i64 (xs.getD pre.length default).i, .int .i64 (xs.getD pre.length default).c, .slice (uf pre.length).1 (xs.getD pre.length default).f.length (uf pre.length).2] 51)) none HJ'.out (World.grownBy_alloc _ _ none) (fun r e => by cases e)
      obtain ⟨fn, tmps, assign, body, hy, hR⟩ := hY pre ⟨pre.length, hlt⟩ _ hJ2 hlt
      unfold obE at hy
      dsimp only at hy
      have hsz := HBr.out.size
      have HB2 := hide (HBr.out.alloc (Nat.le_trans hn₀ hsz) (.cells #[.int .i64 (xs.getD pre.length default).i, .int .i64 (xs.getD pre.length default).c, .slice (uf pre.length).1 (xs.getD pre.length default).f.length (uf pre.length).2] 51))
      clear hcell hJ2
      generalize xs.getD pre.length default = y at *
      generalize (uf pre.length).1 = ua at *
      generalize (uf pre.length).2 = uc at *
      gi_wp2
      refine hR.mono ?_
      rintro e W3 (⟨rfl, hJ3, hk3⟩ | ⟨rfl, hJx3⟩)
      · gi_wp2
        go_roundw
        case rel => exact ⟨pre ++ [⟨pre.length, hlt⟩], by simp; omega, HS, by simp, hide hJ3, hide (HB2.out.trans hk3)⟩
        case measure => simp [intOf]; omega
      · gi_wp2
        refine bodyPost_ret (results_none rfl _ _ _) rfl ?_
        exact ⟨⟨_, rfl⟩, .inr ⟨_, ⟨_, by rw [List.length_append]; simp; omega, HS.out⟩, hJx3⟩⟩
    · have he : pre.length = xs.length := by omega
      gi_wp2
      go_end0
      exact ⟨⟨_, rfl⟩, .inl ⟨pre, by rw [← he]; exact HT.out, HJ'.out⟩⟩
theorem objects_stops (F : Fence) (n : Nat) (hf : F.fn 98) (hro : F.round = none) (hn : 1 ≤ n) (Bs n₀ : Nat) (u1 : Value) (xs : List Ob) (uf : Nat → Option Addr × Nat) (hlen : xs.length ≤ 1048576) (w : World) (hBs : Bs < w.heap.size) (hn₀ : n₀ ≤ w.heap.size)
    (hc : w.cell? ⟨Bs, 0, none⟩ = some u1) (hO : ObsAt n₀ w u1 xs uf) :
    SeqStopsK F n Try.prog 98 #[.pointer (some ⟨Bs, 0, none⟩)] (obE xs uf) (Below n₀) (Told xs xs.length) (fun pre => ∃ k, k ≤ xs.length ∧ Told xs k pre) xs.length w := fun l J Jx W hW hJ _ hY h0 =>
  objects1_in F n hf hro hn l Bs n₀ u1 xs uf hlen J Jx W hJ (Nat.le_trans hn₀ hW.size) hY ((hW.cell (p := ⟨Bs, 0, none⟩) hBs).trans hc) (hO.below (hW.mono hn₀)) h0
set_option maxHeartbeats 1000000 in
theorem objects_in (F : Fence) (n : Nat) (hf : F.fn 73) (hro : F.round = none) (u1 u2 : Value) (w : World) :
    CallsIn F n Try.prog 73 #[.agg #[u1, u2]] w fun e w' => e = .returned (.func (.func 98) #[] #[.pointer (some ⟨w.heap.size, 0, none⟩)]) ∧ w' = w.alloc (.cells #[u1, u2] 39) := by
  refine callsIn_of_wp Try.func73 rfl hf ?_ hro
  simp only [Try.ntmps73, List.size_toArray, List.length_cons, List.length_nil, Nat.reduceAdd, Nat.reduceSub, Array.replicate_succ, Array.replicate_zero, List.push_toArray, List.append_toArray, List.nil_append, List.cons_append]
  gi_wp2
  go_ret
  exact ⟨rfl, rfl⟩
/-- A block of cells stays where none but blocks that are no cells are turned. -/
theorem blk_own {β : Type} (B : Nat) (t : TypeId) (f : β → Array Value) : Go.Own (fun s W => W.heap[B]? = some (.cells (f s) t (0, 0))) := fun s X Y row hs hg hrow =>
  (hg.block B (Array.getElem?_eq_some_iff.1 hs).1 (fun e => by obtain ⟨o, ho, hc⟩ := hrow B e.symm; rw [hs] at ho; cases ho; cases hc)).trans hs
end Go.Proofs.Ythlaihkpffddcaa
