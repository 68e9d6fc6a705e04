/-
  What Forget does, in the program and in its model.
-/
import Derived.Test.YtoaenoakdbieaaaSndCopS
namespace Go.Proofs.Ytoaenoakdbieaaa
open Go.RowKit

theorem flat_drop {α : Type} (f : α → List Value) (sz : Nat) (hf : ∀ x, (f x).length = sz) : ∀ (xs : List α) (k : Nat), (xs.flatMap f).drop (k * sz) = (xs.drop k).flatMap f
  | xs, 0 => by simp
  | [], k + 1 => by simp
  | x :: xs, k + 1 => by
    rw [List.flatMap_cons, List.drop_succ_cons, ← flat_drop f sz hf xs k, Nat.succ_mul, Nat.add_comm, ← List.drop_drop, List.drop_left' (hf x)]
theorem rd_zero {w : World} {B sz c : Nat} {a : Option Addr} (h : a = none → c = 0) : Rd w B sz (.slice a 0 c) 0 [] := ⟨by simp, a, c, rfl, Nat.zero_le _, h, fun hp => by omega⟩
theorem Rd.drop {w : World} {B sz n cap b o k : Nat} {cs : List Value} (h : Rd w B sz (.slice (some ⟨b, o, none⟩) n cap) n cs) (hk : k ≤ n) : Rd w B sz (.slice (some ⟨b, o + k * sz, none⟩) (n - k) (cap - k)) (n - k) (cs.drop (k * sz)) := by
  obtain ⟨hl, a, c, e, hc, hn, hx⟩ := h
  cases e
  refine ⟨by rw [List.length_drop, hl, Nat.sub_mul], _, _, rfl, by omega, fun e => (by cases e), fun hp => ?_⟩
  obtain ⟨b', o', e, hb, hcell⟩ := hx (by omega)
  cases e
  refine ⟨b, o + k * sz, rfl, hb, fun i hi => ?_⟩
  have h1 : k * sz + (n - k) * sz = n * sz := by rw [← Nat.add_mul]; congr 1; omega
  rw [Nat.add_assoc, hcell (k * sz + i) (by omega), List.getElem?_drop]
theorem RdS.drop {w : World} {B n cap b o k : Nat} {ms : List Ms} (h : RdS w B (.slice (some ⟨b, o, none⟩) n cap) ms) (hn : ms.length = n) (hk : k ≤ n) : RdS w B (.slice (some ⟨b, o + k * 7, none⟩) (n - k) (cap - k)) (ms.drop k) := by
  obtain ⟨xs, rfl, h1, h2⟩ := h
  rw [List.length_map] at hn
  subst hn
  refine ⟨xs.drop k, by rw [List.map_drop], ?_, fun x hx => h2 x (List.mem_of_mem_drop hx)⟩
  rw [List.length_drop, ← flat_drop msC 7 msC_len]
  exact h1.drop hk
theorem rdS_zero {w : World} {B c : Nat} {a : Option Addr} (h : a = none → c = 0) : RdS w B (.slice a 0 c) [] := ⟨[], rfl, rd_zero h, fun x hx => by simp at hx⟩

/-- What Forget answers. -/
def fgOk (base n : Int) (ms : List Ms) : Bool := sOk base ms && decide (base < n ∧ n ≤ base + (ms.length : Int))
def fgR (base n : Int) (ms : List Ms) : Int × List Ms := bif fgOk base n ms then (n, ms.drop (n - base).toNat) else (base, ms)
def ansF (w : World) (R : Int × List Ms) (e : Ending) (w' : World) : Prop := ∃ v, e = .returned (sndV R.1 v) ∧ OwnS w' w.heap.size w'.heap.size v R.2 ∧ Below w.heap.size w w'
theorem goodS_drop {ms : List Ms} (h : GoodS ms) (k : Nat) : GoodS (ms.drop k) := fun m hm => h m (List.mem_of_mem_drop hm)
theorem totS_drop (ms : List Ms) (k : Nat) : totS (ms.drop k) ≤ totS ms := by
  induction ms generalizing k with
  | nil => simp
  | cons m ms ih =>
    cases k with
    | zero => simp
    | succ k =>
      rw [List.drop_succ_cons]
      refine Nat.le_trans (ih k) ?_
      unfold totS
      simp only [List.foldr_cons, List.length_cons]
      rw [foldS_add, foldS_add ms (ms.length + 1)]; omega
theorem fgR_good {base n : Int} {ms : List Ms} (h : GoodS ms) : GoodS (fgR base n ms).2 ∧ totS (fgR base n ms).2 ≤ totS ms ∧ (fgR base n ms).2.length ≤ ms.length := by
  unfold fgR
  cases fgOk base n ms
  · exact ⟨h, Nat.le_refl _, Nat.le_refl _⟩
  · exact ⟨goodS_drop h _, totS_drop _ _, by simp⟩

set_option maxRecDepth 100000 in
set_option maxHeartbeats 2000000 in
theorem senderOf (w : World) (base : Int) (v : Value) (ms : List Ms) (h : RdS w w.heap.size v ms) (hm : ms.length ≤ 2000000) (hgd : GoodS ms) :
    Calls Try.prog 72 #[sndV base v] w fun e w' => ∃ v', e = .returned (sndV base v') ∧ OwnS w' w.heap.size w'.heap.size v' ms ∧ Below w.heap.size w w' := by
  have HR := hide h
  obtain ⟨a, cap, rfl, _⟩ := ms_at h
  clear h
  unfold sndV
  have bA := ((Below.refl w.heap.size w).alloc (Nat.le_refl _) (.cells #[.int .i64 base, .slice a ms.length cap] 96)).alloc (by simp) (.cells #[.int .i64 0, .slice none 0 0] 51)
  have HE1 := hide (heap_alloc_new (w.alloc (.cells #[.int .i64 base, .slice a ms.length cap] 96)) (.cells #[.int .i64 0, .slice none 0 0] 51))
  simp only [World.size_alloc] at HE1
  have HB := hide bA
  clear bA
  go_enter Try.func72, Try.ntmps72
  go_wp2_with fail
  refine (copySndI _ base _ ms (HR.out.at HB.out) hm hgd).mono ?_
  rintro e w1 ⟨v1, rfl, o1, b1⟩
  obtain ⟨a1, c1, rfl⟩ := o1.shape
  have HO := hide o1
  have E1 := (b1.block (w.heap.size + 1) (by simp)).trans HE1.out
  have hs0 := b1.size
  simp only [World.size_alloc] at hs0 HO
  replace HB := hide (HB.out.trans (b1.mono HB.out.size))
  clear b1 o1 HE1
  have r0 := (box_of E1).1 0 _ rfl
  have r1 := (box_of E1).1 1 _ rfl
  have z1 := (box_of E1).2
  have H1 := hide E1
  clear E1
  unfold sndV
  go_wp2
  refine bodyPost_ret (v := .agg #[.int .i64 base, .slice a1 ms.length c1]) (results_one Try.results72 _ _ _ rfl (loadS (put2 H1.out _ _))) rfl ⟨_, rfl, ?_, ?_⟩
  · refine ((OwnS.same HO.out (fun q hq _ _ => ?_)).mono (by omega)).up (by simp)
    rw [heap_setCell_other _ _ _ _ (by simp; omega), heap_setCell_other _ _ _ _ (by simp; omega)]
  · exact (HB.out.setCell (by simp) _).setCell (by simp) _

theorem row_shape {w : World} {b e sz n : Nat} {v : Value} {cs : List Value} (h : w.ownsRow b e sz v n cs) : ∃ a c, v = .slice a n c := by
  rcases h.2 with ⟨rfl, h0⟩ | ⟨g, c, _, rfl, _⟩
  · exact ⟨_, _, by rw [h0]⟩
  · exact ⟨_, _, rfl⟩
/-- The last messages of a row of one's own, in another row of one's own. -/
theorem OwnY.moved {w w' : World} {b hi k : Nat} {v v' : Value} {xs : List MsX} (h : OwnY w b hi v xs) (hr : w'.ownsRow b 65 7 v' (xs.drop k).length ((xs.drop k).flatMap msC)) (hs : ∀ q, b ≤ q → q < hi → w'.heap[q]? = w.heap[q]?) (hv : ∀ q, v'.ownBlock = some q → hi ≤ q) (hz : hi ≤ w'.heap.size) :
    OwnY w' b w'.heap.size v' (xs.drop k) := by
  have hsub : ∀ u ∈ vals (xs.drop k), u ∈ vals xs := fun u hu => by
    obtain ⟨x, hx, hu⟩ := List.mem_flatMap.1 hu
    exact List.mem_flatMap.2 ⟨x, List.mem_of_mem_drop hx, hu⟩
  refine ⟨hr, fun x hx => ?_, ⟨fun u hu q hq e => ?_, ?_⟩, fun q hq => (World.ownsRow.lt hr q hq).2, fun u hu q hq => Nat.lt_of_lt_of_le (h.2.2.2.2 u (hsub u hu) q hq) hz⟩
  · have hx' := List.mem_of_mem_drop hx
    have hp := h.2.1 x hx'
    exact ⟨owns_same hp.1 (fun q hq => hs q (World.ownsRow.lt hp.1 q hq).1 (h.2.2.2.2 _ (vals_mem hx').1 q hq)), owns_same hp.2 (fun q hq => hs q (World.ownsRow.lt hp.2 q hq).1 (h.2.2.2.2 _ (vals_mem hx').2 q hq))⟩
  · have h1 := h.2.2.2.2 u (hsub u hu) q hq
    have h2 := hv q e
    omega
  · have ev : vals xs = vals (xs.take k) ++ vals (xs.drop k) := by rw [← vals_app, List.take_append_drop]
    have hp := h.2.2.1.2
    rw [ev, List.pairwise_append] at hp
    exact hp.2.1

end Go.Proofs.Ytoaenoakdbieaaa
