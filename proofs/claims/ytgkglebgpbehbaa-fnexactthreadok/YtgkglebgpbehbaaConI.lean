/-
  Room for values, and two rows of values one behind the other.
-/
import Derived.Test.YtgkglebgpbehbaaAppM
import Derived.Test.YtgkglebgpbehbaaThrM
import Derived.Test.YtgkglebgpbehbaaBldV
import Derived.Lib.AppendZeros
namespace Go.Proofs.Ytgkglebgpbehbaa
open Go.RowKit

theorem flat_vl : ∀ (xs : List Vl), ∀ d ∈ xs.flatMap vlD, ∃ u, d = .val u ∧ u.oneCell' = true := fun xs d hd => by
  rw [List.mem_flatMap] at hd
  obtain ⟨x, _, hd⟩ := hd
  unfold vlD at hd
  simp only [List.mem_cons, List.not_mem_nil, or_false] at hd
  rcases hd with rfl | rfl <;> exact ⟨_, rfl, rfl⟩
set_option maxRecDepth 100000 in
set_option maxHeartbeats 4000000 in
theorem growI (w : World) (n : Nat) (hn : n ≤ 2500000) :
    Calls Try.prog 60 #[.slice none 0 0, .int .i64 (n : Int)] w fun e w' => ∃ r, e = .returned r ∧ OwnD w' w.heap.size w'.heap.size (vls []) r ∧ Below w.heap.size w w' := by
  by_cases h0 : n = 0
  · subst h0
    go_enter Try.func60, Try.ntmps60
    go_wp2
    go_ret
    exact ⟨_, rfl, ownD_nil _ _ _ _ _, Below.refl _ _⟩
  · obtain ⟨i0, hi, hz0, hz1, hz2⟩ := info_parts Try.infoVl
    have h1 : ¬ ((n : Int) < 0) := by omega
    have h3 : IntKind.i64.wrap (n : Int) = n := by rw [IntKind.wrap_i64]; omega
    have h4 : 0 < (n : Int) := by omega
    have hrz : ∀ ty, (Builtin.append_ #[52, 3] ty #[.slice none 0 0, .int .i64 (n : Int)]).run Try.prog w = _ := fun ty =>
      Go.Lib.run_append_nil_zeros w 52 3 ty 45 i0 (.agg #[.bool false, .int .i64 0]) .i64 .i64 Try.underlying52 Try.underlying3 hi hz0 n (by omega) (by rw [hz1]; decide) (by omega) (by rw [hz2]; omega)
    have hG := grownCap_ge w n 0 45
    have hM := grownCap_le_maxLen w n 0 45 (by unfold maxLen; omega)
    generalize grownCap w n 0 45 = G at *
    have hM' : G ≤ 9223372036854775807 := by unfold maxLen at hM; omega
    have HO : Hid (OwnD (w.drew.alloc (.cells (Builtin.zeroCells (Value.agg #[.bool false, .int .i64 0]).cells n ++ Builtin.zeroCells (Value.agg #[.bool false, .int .i64 0]).cells (G - n)) 45)) w.heap.size (w.drew.alloc (.cells (Builtin.zeroCells (Value.agg #[.bool false, .int .i64 0]).cells n ++ Builtin.zeroCells (Value.agg #[.bool false, .int .i64 0]).cells (G - n)) 45)).heap.size (vls []) (.slice (some ⟨w.heap.size, 0, none⟩) 0 G)) := hide (by
      refine ⟨[w.heap.size], ?_, by simp, fun q hq => by simp at hq ⊢; omega⟩
      unfold vls Owns
      refine ⟨[], [], ⟨rfl, .inr ⟨w.heap.size, G, _, rfl, Nat.le_refl _, heap_alloc_new w.drew _, Nat.zero_le _, hM, ?_, rfl⟩⟩, ownsL_nil, rfl⟩
      rw [Array.size_append, size_zeroCells, size_zeroCells, ← Nat.add_mul, Nat.add_sub_cancel' hG]
      rfl)
    have HBl := hide ((Below.refl w.heap.size w).drew.alloc (Nat.le_refl _) (.cells (Builtin.zeroCells (Value.agg #[.bool false, .int .i64 0]).cells n ++ Builtin.zeroCells (Value.agg #[.bool false, .int .i64 0]).cells (G - n)) 45))
    generalize (w.drew.alloc (.cells (Builtin.zeroCells (Value.agg #[.bool false, .int .i64 0]).cells n ++ Builtin.zeroCells (Value.agg #[.bool false, .int .i64 0]).cells (G - n)) 45)) = W at *
    clear hi hz0 hz1 hz2 hM
    go_enter Try.func60, Try.ntmps60
    go_wp2_with (at_builtin; refine Go.Lib.wpList_append_run _ rfl _ _ _ _ rfl _ _ rfl rfl _ _ (hrz _) ?_)
    go_ret
    exact ⟨_, rfl, HO.out, HBl.out⟩
def conS (l s j : Nat) : Nat := if j = 0 then 0 else if j = 1 then l else l + s
def conL (l s : List Vl) (j : Nat) : List Vl := if j = 0 then [] else if j = 1 then l else l ++ s
def conA (l s : Nat) (i z : Value) : Prop := ∃ j : Nat, j ≤ 2 ∧ i = .int .i64 (j : Int) ∧ z = .int .i64 (conS l s j : Nat)
set_option maxRecDepth 100000 in
set_option maxHeartbeats 8000000 in
theorem concatI (w : World) (g : Nat) (l s : List Vl) (u1 u2 : Value) (hb : w.heap[g]? = some (.cells #[u1, u2] 52 (0, 0))) (h1 : Reads w w.heap.size (vls l) u1) (h2 : Reads w w.heap.size (vls s) u2) (hl : l.length ≤ 1048576) (hs : s.length ≤ 1048576) :
    Calls Try.prog 42 #[.slice (some ⟨g, 0, none⟩) 2 2] w fun e w' => ∃ r, e = .returned r ∧ OwnD w' w.heap.size w'.heap.size (vls (l ++ s)) r ∧ Below w.heap.size w w' := by
  have R1 := hide h1
  have R2 := hide h2
  obtain ⟨a1, c1, e1, _⟩ := h1.shape
  obtain ⟨a2, c2, e2, _⟩ := h2.shape
  subst e1 e2
  clear h1 h2
  obtain ⟨i0, hi, hz0, hz1, hz2⟩ := info_parts Try.infoVl
  have HI := hide (And.intro hi (And.intro hz0 (And.intro hz1 hz2)))
  clear hi hz0 hz1 hz2
  have E0 := hide hb
  have q0 := (box_of hb).1 0 _ rfl
  have q1 := (box_of hb).1 1 _ rfl
  clear hb
  have hw1 : IntKind.i64.wrap (l.length : Int) = l.length := by rw [IntKind.wrap_i64]; omega
  have hw2 : IntKind.i64.wrap ((l.length : Int) + s.length) = l.length + s.length := by rw [IntKind.wrap_i64]; omega
  have hn1 : ¬ (l.length : Int) < 0 := by omega
  have hn2 : ¬ (l.length : Int) + s.length < 0 := by omega
  go_enter Try.func42, Try.ntmps42
  go_wp2
  go_loopw [3, 11] (fun z i wr => conA l.length s.length i z ∧ wr = w) (fun _ i _ => 2 - (intOf i).toNat)
  case atStart => exact ⟨⟨0, by omega, rfl, rfl⟩, rfl⟩
  case round =>
    obtain ⟨⟨j, hj, rfl, rfl⟩, hwr⟩ := hrel
    replace hwr := hwr.symm
    subst hwr
    rcases (show j = 0 ∨ j = 1 ∨ j = 2 by omega) with rfl | rfl | rfl
    · unfold conS
      go_wp2
      exact ⟨⟨⟨1, by omega, by first | rfl | go_num, by first | rfl | (unfold conS; simp)⟩, by first | rfl | trivial⟩, by simp [intOf]⟩
    · unfold conS
      go_wp2
      exact ⟨⟨⟨2, by omega, by first | rfl | go_num, by first | rfl | (unfold conS; simp)⟩, by first | rfl | trivial⟩, by simp [intOf]⟩
    · unfold conS
      go_wp2_with fail
      have hgr := growI w (l.length + s.length) (by omega)
      rw [Int.natCast_add] at hgr
      refine hgr.mono ?_
      rintro e w1 ⟨r, rfl, o1, b1⟩
      have HO1 := hide o1
      have HB1 := hide b1
      have hgl : g < w.heap.size := (Array.getElem?_eq_some_iff.1 E0.out).1
      clear hgr o1 b1
      go_wp2
      go_loopw [6, 27] (fun v i wr => ∃ j : Nat, j ≤ 2 ∧ i = .int .i64 (j : Int) ∧ Hid (OwnD wr w.heap.size wr.heap.size (vls (conL l s j)) v) ∧ Hid (Below w.heap.size w wr)) (fun _ i _ => 2 - (intOf i).toNat)
      case atStart => exact ⟨0, by omega, rfl, HO1, HB1⟩
      case round =>
        obtain ⟨j, hj, rfl, HO, HBr⟩ := hrel
        rcases (show j = 0 ∨ j = 1 ∨ j = 2 by omega) with rfl | rfl | rfl
        · obtain ⟨ax, cx, ex⟩ := (HO.out).shape
          subst ex
          have HRx := hide (R1.out.at HBr.out)
          have p0 := (HBr.out.cell (p := ⟨g, 0, none⟩) hgl).trans q0
          have hsz := HBr.out.size
          go_wp2_with (first
            | (at_builtin; refine appM rfl _ _ 52 rfl w.heap.size _ 45 i0 (.agg #[.bool false, .int .i64 0]) 2 16 Try.underlying52 HI.out.1 HI.out.2.1 HI.out.2.2.1 HI.out.2.2.2 rfl (by decide) _ 0 [] rfl HO.out _ rfl l.length 45 (l.flatMap vlD) HRx.out (flat_vl l) (by omega) (by decide) hsz ?_; intro v9 w9 o9 g9 hb9; have HO9 := hide o9; have HB9 := hide (HBr.out.grown g9 hsz (fun q hq => (hb9 q hq).1)); clear o9 g9 hb9)
            | fail)
          refine ⟨⟨1, by omega, by first | rfl | go_num, hide ?_, HB9⟩, by simp [intOf]⟩
          have h9 := HO9.out
          rw [Nat.zero_add, List.nil_append] at h9
          exact h9
        · obtain ⟨ax, cx, ex⟩ := (HO.out).shape
          subst ex
          have HRx := hide (R2.out.at HBr.out)
          have p0 := (HBr.out.cell (p := ⟨g, 1, none⟩) hgl).trans q1
          have hsz := HBr.out.size
          go_wp2_with (first
            | (at_builtin; refine appM rfl _ _ 52 rfl w.heap.size _ 45 i0 (.agg #[.bool false, .int .i64 0]) 2 16 Try.underlying52 HI.out.1 HI.out.2.1 HI.out.2.2.1 HI.out.2.2.2 rfl (by decide) _ l.length (l.flatMap vlD) rfl HO.out _ rfl s.length 45 (s.flatMap vlD) HRx.out (flat_vl s) (by omega) (by decide) hsz ?_; intro v9 w9 o9 g9 hb9; have HO9 := hide o9; have HB9 := hide (HBr.out.grown g9 hsz (fun q hq => (hb9 q hq).1)); clear o9 g9 hb9)
            | fail)
          refine ⟨⟨2, by omega, by first | rfl | go_num, hide ?_, HB9⟩, by simp [intOf]⟩
          have h9 := HO9.out
          rw [← List.length_append, ← List.flatMap_append] at h9
          exact h9
        · go_wp2
          go_ret
          exact ⟨_, rfl, HO.out, HBr.out⟩
end Go.Proofs.Ytgkglebgpbehbaa
