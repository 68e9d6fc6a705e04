/-
  What Post does, in the program and in its model.
-/
import Derived.Test.YtmlbemcblgnbjaaNetCopS
namespace Go.Proofs.Ytmlbemcblgnbjaa
open Go.RowKit

/-- A net as it was; zero, where it is none. -/
def asN (size : Int) (ps : List Pk) : Int × List Pk := bif netOk size ps then (size, ps) else (0, [])
/-- What Post answers. -/
def postN (size : Int) (ps : List Pk) (p : Pk) : (Int × List Pk) × Bool := bif netOk size (ps ++ [p]) then ((size, ps ++ [p]), true) else (asN size ps, false)

theorem asN_yes {size : Int} {ps : List Pk} (h : netOk size ps = true) : asN size ps = (size, ps) := by unfold asN; rw [h]; rfl
theorem asN_no {size : Int} {ps : List Pk} (h : netOk size ps = false) : asN size ps = (0, []) := by unfold asN; rw [h]; rfl
theorem asN_good {size : Int} {ps : List Pk} (h : Good ps) : Good (asN size ps).2 := by
  unfold asN
  cases netOk size ps
  · intro p hp; simp at hp
  · exact h
theorem Good.snoc {ps : List Pk} {p : Pk} (h : Good ps) (hp : p.b.length ≤ 1048576 ∧ Byt p.b) : Good (ps ++ [p]) := by
  intro q hq
  rcases List.mem_append.1 hq with hq | hq
  · exact h q hq
  · obtain rfl := List.mem_singleton.1 hq; exact hp
theorem asN_len (size : Int) (ps : List Pk) : (asN size ps).2.length ≤ 60 := by
  unfold asN
  cases h : netOk size ps
  · simp
  · exact (netOk_all h).2.1

/-- An answer: a net of its own, and whether it was done. -/
def ansN (w : World) (r : (Int × List Pk) × Bool) (e : Ending) (w' : World) : Prop := ∃ v', e = .returned (.tuple #[netV r.1.1 v', .bool r.2]) ∧ OwnP w' w.heap.size w'.heap.size v' r.1.2 ∧ Below w.heap.size w w'

set_option maxRecDepth 100000 in
set_option maxHeartbeats 2000000 in
theorem asWas (w : World) (size : Int) (v : Value) (ps : List Pk) (B : Nat) (h : RdP w B v ps) (hB : B ≤ w.heap.size) (hm : ps.length ≤ 1048576) :
    Calls Try.prog 25 #[netV size v] w fun e w' => ∃ v', e = .returned (netV (asN size ps).1 v') ∧ OwnP w' w.heap.size w'.heap.size v' (asN size ps).2 ∧ Below w.heap.size w w' := by
  have HR := hide h
  obtain ⟨a, cap, rfl, _⟩ := pk_at h
  clear h
  unfold netV
  have bA := ((Below.refl w.heap.size w).alloc (Nat.le_refl _) (.cells #[.int .i64 size, .slice a ps.length cap] 26)).alloc (by simp) (.cells #[.int .i64 0, .slice none 0 0] 26)
  have HE0 := hide ((Below.heap_alloc (w.alloc (.cells #[.int .i64 size, .slice a ps.length cap] 26)) (.cells #[.int .i64 0, .slice none 0 0] 26) w.heap.size (by simp)).trans (heap_alloc_new w (.cells #[.int .i64 size, .slice a ps.length cap] 26)))
  have HE1 := hide (heap_alloc_new (w.alloc (.cells #[.int .i64 size, .slice a ps.length cap] 26)) (.cells #[.int .i64 0, .slice none 0 0] 26))
  simp only [World.size_alloc] at HE1
  have HB := hide bA
  clear bA
  cases hok : netOk size ps with
  | false =>
    rw [asN_no hok]
    go_enter Try.func25, Try.ntmps25
    go_wp2_with fail
    refine (netImpl _ size _ ps _ (HR.out.low HB.out hB) (Nat.le_trans hB HB.out.size) (by omega)).mono ?_
    rw [hok]
    rintro e w1 ⟨rfl, b1⟩
    have E0 := (b1.block w.heap.size (by simp; omega)).trans HE0.out
    have E1 := (b1.block (w.heap.size + 1) (by simp)).trans HE1.out
    have hs1 : w.heap.size + 1 + 1 ≤ w1.heap.size := by have := b1.size; simp at this; omega
    replace HB := hide (HB.out.trans (b1.mono HB.out.size))
    clear b1 HE0 HE1
    have r0 := (box_of E1).1 0 _ rfl
    have r1 := (box_of E1).1 1 _ rfl
    have z1 := (box_of E1).2
    have HE := hide E1
    clear E0 E1
    go_wp2
    exact bodyPost_ret (v := .agg #[.int .i64 0, .slice none 0 0]) (results_one Try.results25 _ _ _ rfl (load2 (put2 HE.out _ _))) rfl ⟨_, rfl, ownP_nil _ _ _, (HB.out.setCell (by simp) _).setCell (by simp) _⟩
  | true =>
    rw [asN_yes hok]
    go_enter Try.func25, Try.ntmps25
    go_wp2_with fail
    refine (netImpl _ size _ ps _ (HR.out.low HB.out hB) (Nat.le_trans hB HB.out.size) (by omega)).mono ?_
    rw [hok]
    rintro e w1 ⟨rfl, b1⟩
    have E0 := (b1.block w.heap.size (by simp; omega)).trans HE0.out
    have E1 := (b1.block (w.heap.size + 1) (by simp)).trans HE1.out
    have hs1 : w.heap.size + 1 + 1 ≤ w1.heap.size := by have := b1.size; simp at this; omega
    replace HB := hide (HB.out.trans (b1.mono HB.out.size))
    clear b1 HE0 HE1
    have f0 := (box_of E0).1 0 _ rfl
    have f1 := (box_of E0).1 1 _ rfl
    have HE := hide E1
    clear E0 E1
    go_wp2_with fail
    refine (copyNetI _ size _ ps _ (HR.out.low HB.out hB) (Nat.le_trans hB HB.out.size) hm).mono ?_
    rintro e w2 ⟨v2, rfl, o2, b2⟩
    obtain ⟨a2, c2, rfl⟩ := o2.shape
    have HO := hide o2
    have E1 := (b2.block (w.heap.size + 1) (by omega)).trans HE.out
    have hs2 := b2.size
    replace HB := hide (HB.out.trans (b2.mono HB.out.size))
    clear b2 o2 HE f0 f1
    have r0 := (box_of E1).1 0 _ rfl
    have r1 := (box_of E1).1 1 _ rfl
    have z1 := (box_of E1).2
    have HE := hide E1
    clear E1
    unfold netV
    go_wp2
    refine bodyPost_ret (v := .agg #[.int .i64 size, .slice a2 ps.length c2]) (results_one Try.results25 _ _ _ rfl (load2 (put2 HE.out _ _))) rfl ⟨_, rfl, ?_, (HB.out.setCell (by simp) _).setCell (by simp) _⟩
    refine ((OwnP.same HO.out (fun q hq _ _ => ?_)).mono (by omega)).up (by simp)
    rw [heap_setCell_other _ _ _ _ (by simp; omega), heap_setCell_other _ _ _ _ (by simp; omega)]

set_option maxRecDepth 100000 in
set_option maxHeartbeats 2000000 in
theorem hasPk (w : World) (size : Int) (v : Value) (ps : List Pk) (i : Int) (B : Nat) (h : RdP w B v ps) (hB : B ≤ w.heap.size) (hm : ps.length ≤ 1048576) :
    Calls Try.prog 33 #[netV size v, .int .i64 i] w fun e w' => e = .returned (.bool (netOk size ps && inB i 0 ((ps.length : Int) - 1))) ∧ Below w.heap.size w w' := by
  have HR := hide h
  obtain ⟨a, cap, rfl, _⟩ := pk_at h
  clear h
  unfold netV
  have bA := (Below.refl w.heap.size w).alloc (Nat.le_refl _) (.cells #[.int .i64 size, .slice a ps.length cap] 26)
  have HE0 := hide (heap_alloc_new w (.cells #[.int .i64 size, .slice a ps.length cap] 26))
  have HB := hide bA
  clear bA
  cases hok : netOk size ps with
  | false =>
    go_enter Try.func33, Try.ntmps33
    go_wp2_with fail
    refine (netImpl _ size _ ps _ (HR.out.low HB.out hB) (Nat.le_trans hB HB.out.size) (by omega)).mono ?_
    rw [hok]
    rintro e w1 ⟨rfl, b1⟩
    replace HB := hide (HB.out.trans (b1.mono HB.out.size))
    clear b1
    go_wp2
    go_ret
    exact ⟨rfl, HB.out⟩
  | true =>
    go_enter Try.func33, Try.ntmps33
    go_wp2_with fail
    refine (netImpl _ size _ ps _ (HR.out.low HB.out hB) (Nat.le_trans hB HB.out.size) (by omega)).mono ?_
    rw [hok]
    rintro e w1 ⟨rfl, b1⟩
    have E0 := (b1.block w.heap.size (by simp)).trans HE0.out
    replace HB := hide (HB.out.trans (b1.mono HB.out.size))
    have f1 := (box_of E0).1 1 _ rfl
    clear b1 E0 HE0
    go_wp2_with (go_at_call 30; refine (inImpl _ _ _ _).mono ?_; rintro e w' ⟨rfl, rfl⟩)
    go_ret
    exact ⟨rfl, HB.out⟩
end Go.Proofs.Ytmlbemcblgnbjaa
