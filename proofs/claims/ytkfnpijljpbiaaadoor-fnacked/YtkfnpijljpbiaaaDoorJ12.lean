/-
  Joined: SndEq, SndW, Marks.
-/
import Derived.Test.YtkfnpijljpbiaaaDoorJ11
import Derived.Test.YtkfnpijljpbiaaaDoorJ5
import Derived.Test.YtkfnpijljpbiaaaDoorJ10
/-
  Rows of messages and senders: copied into new memory, held against each other.
-/
namespace Go.Proofs.YtkfnpijljpbiaaaDoor
open Go.RowKit

theorem Tryd.infoMs : (Tryd.prog.info? 39).map (fun i => (i.zero, i.size, i.bytes)) = some (some (.agg #[.int .i64 0, .int .i64 0, .int .i64 0, .int .i64 0, .int .i64 0, .slice none 0 0, .slice none 0 0]), 7, 88) := by kernel_rfl

def zeroY : MsX := (⟨0, 0, 0, 0, 0, [], []⟩, .slice none 0 0, .slice none 0 0)
end Go.Proofs.YtkfnpijljpbiaaaDoor
/-
  What SenderOk does, in the program and in its model.
-/
namespace Go.Proofs.YtkfnpijljpbiaaaDoor
open Go.RowKit

/-- A message is right. -/
def msOk (m : Ms) : Bool := mOk m.k m.i m.u m.c m.n m.cs m.ns
/-- What SenderOk says. -/
def sOk (base : Int) (ms : List Ms) : Bool := inB base 0 16777215 && decide (ms.length ≤ 40) && decide (base + (ms.length : Int) ≤ 16777215) && ms.all msOk

theorem sOk_yes {base : Int} {ms : List Ms} (h1 : inB base 0 16777215 = true) (h2 : ms.length ≤ 40) (h4 : base + (ms.length : Int) ≤ 16777215) (h3 : ∀ j, j < ms.length → msOk (ms.getD j default) = true) : sOk base ms = true := by
  unfold sOk
  rw [h1, decide_eq_true h2, decide_eq_true h4]
  simp only [Bool.true_and, List.all_eq_true]
  intro p hp
  obtain ⟨j, hj, rfl⟩ := List.mem_iff_getElem.1 hp
  have := h3 j hj
  simpa [hj] using this
theorem sOk_bad {base : Int} {ms : List Ms} {j : Nat} (h1 : j < ms.length) (h2 : msOk (ms.getD j default) = false) : sOk base ms = false := by
  unfold sOk
  rw [Bool.and_eq_false_iff]; right
  rw [List.all_eq_false]
  refine ⟨ms.getD j default, ?_, by rw [h2]; decide⟩
  have : ms.getD j default = ms[j] := by simp [h1]
  rw [this]; exact List.getElem_mem _
theorem sOk_long {base : Int} {ms : List Ms} (h1 : 40 < ms.length) : sOk base ms = false := by
  unfold sOk; rw [decide_eq_false (show ¬ ms.length ≤ 40 by omega)]; simp
theorem sOk_end {base : Int} {ms : List Ms} (h1 : ¬ base + (ms.length : Int) ≤ 16777215) : sOk base ms = false := by
  unfold sOk; rw [decide_eq_false h1]; simp
theorem sOk_base {base : Int} {ms : List Ms} (h1 : inB base 0 16777215 = false) : sOk base ms = false := by
  unfold sOk; rw [h1]; rfl
theorem sOk_all {base : Int} {ms : List Ms} (h : sOk base ms = true) : (0 ≤ base ∧ base ≤ 16777215) ∧ ms.length ≤ 40 ∧ base + (ms.length : Int) ≤ 16777215 ∧ ∀ m ∈ ms, msOk m = true := by
  unfold sOk at h
  simp only [Bool.and_eq_true, decide_eq_true_eq, List.all_eq_true] at h
  exact ⟨inB_yes h.1.1.1, h.1.1.2, h.1.2, h.2⟩

theorem msSpec (w : World) (m : Ms) (cv nv : Value) (h : Mt w w.heap.size (m, cv, nv)) (hg : GoodM m) :
    Calls Tryd.prog 57 #[.agg #[.int .i64 m.k, .int .i64 m.i, .int .i64 m.u, .int .i64 m.c, .int .i64 m.n, cv, nv]] w fun e w' => e = .returned (.bool (msOk m)) ∧ Below w.heap.size w w' := by
  have := msgSpec w m.k m.i m.u m.c m.n cv nv m.cs m.ns h.1 h.2 hg.1 hg.2
  rw [mOk_spec] at this
  exact this

set_option maxRecDepth 100000 in
set_option maxHeartbeats 4000000 in
theorem sndSpec (w : World) (base : Int) (v : Value) (ms : List Ms) (B : Nat) (h : RdS w B v ms) (hB : B ≤ w.heap.size) (hm : ms.length ≤ 2000000) (hgd : GoodS ms) :
    Calls Tryd.prog 44 #[sndV base v] w fun e w' => e = .returned (.bool (sOk base ms)) ∧ Below w.heap.size w w' := by
  have HX : Hid (∀ wr, Below w.heap.size w wr → _) := hide (fun wr hb => ms_at (h.low hb hB))
  have HGG : Hid (∀ j, j < ms.length → GoodM (ms.getD j default)) := hide (fun j hj => hgd.at hj)
  obtain ⟨a, cap, rfl, _⟩ := ms_at h
  clear h hgd
  generalize hn : ms.length = n at *
  unfold sndV
  have HB1 := hide ((Below.refl w.heap.size w).alloc (Nat.le_refl _) (.cells #[.int .i64 base, .slice a n cap] 26))
  have HE := hide (heap_alloc_new w (.cells #[.int .i64 base, .slice a n cap] 26))
  have hsz : w.heap.size < (w.alloc (.cells #[.int .i64 base, .slice a n cap] 26)).heap.size := by simp
  go_enter Tryd.func44, Tryd.ntmps44
  go_wp2
  generalize w.alloc (.cells #[.int .i64 base, .slice a n cap] 26) = w1 at *
  go_loopw [3] (fun i wr => ∃ k : Nat, k ≤ n ∧ i = .int .i64 (k : Int) ∧ Hid (∀ j, j < k → msOk (ms.getD j default) = true) ∧ Hid (Below w1.heap.size w1 wr)) (fun i _ => n - (intOf i).toNat)
  case atStart => exact ⟨0, Nat.zero_le _, rfl, hide (fun j hj => by omega), hide (Below.refl _ _)⟩
  case round =>
    obtain ⟨k, hk, rfl, HG, HB⟩ := hrel
    have E := (HB.out.block w.heap.size hsz).trans HE.out
    have f0 := (box_of E).1 0 _ rfl
    have f1 := (box_of E).1 1 _ rfl
    have HW := hide (HB1.out.trans (HB.out.mono HB1.out.size))
    have hs := HB.out.size
    clear E
    by_cases hlt : k < n
    · obtain ⟨a', cap', ea, _, _, hx⟩ := HX.out wr HW.out
      cases ea
      obtain ⟨b, o, rfl, hb, hc⟩ := hx (by omega)
      obtain ⟨cv, nv, e0, e1, e2, e3, e4, e5, e6, hmt⟩ := hc k hlt
      have HT := hide (hmt.up (show B ≤ wr.heap.size by omega))
      have HGk := hide (HGG.out k hlt)
      clear hc hx hmt
      generalize hp : ms.getD k default = p at *
      have HP := hide hp
      clear hp
      cases hok : msOk p with
      | false =>
        have HF := hide (sOk_bad (base := base) (ms := ms) (j := k) (by omega) (by rw [HP.out]; exact hok))
        go_wp2_with fail
        refine (msSpec _ p _ _ HT.out HGk.out).mono ?_
        rw [hok]
        rintro e w2 ⟨rfl, b2⟩
        have HB2 := hide (HB.out.trans (b2.mono hs))
        clear b2
        go_wp2
        go_ret
        exact ⟨by rw [HF.out]; rfl, HB1.out.trans (HB2.out.mono HB1.out.size)⟩
      | true =>
        have HY : Hid (∀ j, j < k + 1 → msOk (ms.getD j default) = true) := hide (fun j hj => by
          rcases Nat.lt_succ_iff_lt_or_eq.1 hj with h | rfl
          · exact HG.out j h
          · rw [HP.out]; exact hok)
        go_wp2_with fail
        refine (msSpec _ p _ _ HT.out HGk.out).mono ?_
        rw [hok]
        rintro e w2 ⟨rfl, b2⟩
        have HB2 := hide (HB.out.trans (b2.mono hs))
        clear b2
        go_wp2
        exact ⟨⟨k + 1, by omega, by go_num, HY, HB2⟩, by simp [intOf]; omega⟩
    · obtain rfl : k = n := by omega
      cases hsz2 : inB base 0 16777215 with
      | false =>
        have HF := hide (sOk_base (base := base) (ms := ms) hsz2)
        go_wp2_with (go_at_call 35; refine (inSpec _ _ _ _).mono ?_; rw [hsz2]; rintro e w' ⟨rfl, rfl⟩)
        go_ret
        exact ⟨by rw [HF.out]; rfl, HW.out⟩
      | true =>
        have hbb := inB_yes hsz2
        by_cases hlong : k ≤ 40
        · by_cases hend : base + (k : Int) ≤ 16777215
          · have HF := hide (sOk_yes (base := base) (ms := ms) hsz2 (by omega) (by rw [hn]; exact hend) (fun j hj => HG.out j (by omega)))
            go_wp2_with (go_at_call 35; refine (inSpec _ _ _ _).mono ?_; rw [hsz2]; rintro e w' ⟨rfl, rfl⟩)
            go_ret
            exact ⟨by rw [HF.out]; exact ret_bool (by first | (simp; done) | (simp; omega)), HW.out⟩
          · have HF := hide (sOk_end (base := base) (ms := ms) (by rw [hn]; exact hend))
            go_wp2_with (go_at_call 35; refine (inSpec _ _ _ _).mono ?_; rw [hsz2]; rintro e w' ⟨rfl, rfl⟩)
            go_ret
            exact ⟨by rw [HF.out]; exact ret_bool (by first | (simp; done) | (simp; omega)), HW.out⟩
        · have HF := hide (sOk_long (base := base) (ms := ms) (by omega))
          go_wp2_with (go_at_call 35; refine (inSpec _ _ _ _).mono ?_; rw [hsz2]; rintro e w' ⟨rfl, rfl⟩)
          go_ret
          exact ⟨by rw [HF.out]; exact ret_bool (by first | (simp; done) | (simp; omega)), HW.out⟩
theorem loadQ {w : World} {g : Nat} {a0 a1 : Value} (h : w.heap[g]? = some (.cells #[a0, a1] 62 (0, 0))) : (loadVar 62 ⟨g, 0, none⟩).run Tryd.prog w = .ok (.agg #[a0, a1]) w :=
  run_loadVar_row w g 62 62 #[a0, a1] (0, 0) _ h Tryd.underlying62 rfl (by kernel_rfl)

set_option maxRecDepth 100000 in
set_option maxHeartbeats 1000000 in
theorem queueOf (w : World) (base : Int) (a : Option Addr) (n cap : Nat) :
    Calls Tryd.prog 28 #[.agg #[.int .i64 base, .slice a n cap]] w fun e w' => e = .returned (.agg #[.int .i64 base, .slice a n cap]) ∧ Below w.heap.size w w' := by
  have G1 := heap_alloc_new (w.alloc (.cells #[.int .i64 base, .slice a n cap] 26)) (.cells #[.int .i64 base, .slice a n cap] 62)
  simp only [World.size_alloc] at G1
  have HB := hide (((Below.refl w.heap.size w).alloc (Nat.le_refl _) (.cells #[.int .i64 base, .slice a n cap] 26)).alloc (by simp) (.cells #[.int .i64 base, .slice a n cap] 62))
  have H1 := hide G1
  clear G1
  go_enter Tryd.func28, Tryd.ntmps28
  go_wp2
  exact bodyPost_ret (v := .agg #[.int .i64 base, .slice a n cap]) (results_one Tryd.results28 _ _ _ rfl (loadQ H1.out)) rfl ⟨rfl, HB.out⟩

set_option maxRecDepth 100000 in
set_option maxHeartbeats 1000000 in
theorem queueEnd (w : World) (base : Int) (a : Option Addr) (n cap : Nat) (h0 : 0 ≤ base) (h1 : base ≤ 16777215) (hn : n ≤ 2000000) :
    Calls Tryd.prog 29 #[.agg #[.int .i64 base, .slice a n cap]] w fun e w' => e = .returned (.int .i64 (base + (n : Int))) ∧ Below w.heap.size w w' := by
  have HB := hide ((Below.refl w.heap.size w).alloc (Nat.le_refl _) (.cells #[.int .i64 base, .slice a n cap] 62))
  go_enter Tryd.func29, Tryd.ntmps29
  go_wp2
  go_ret
  exact ⟨rfl, HB.out⟩

set_option maxRecDepth 100000 in
set_option maxHeartbeats 4000000 in
theorem sndImpl (w : World) (base : Int) (v : Value) (ms : List Ms) (B : Nat) (h : RdS w B v ms) (hB : B ≤ w.heap.size) (hm : ms.length ≤ 2000000) (hgd : GoodS ms) :
    Calls Tryd.prog 27 #[sndV base v] w fun e w' => e = .returned (.bool (sOk base ms)) ∧ Below w.heap.size w w' := by
  have HX : Hid (∀ wr, Below w.heap.size w wr → _) := hide (fun wr hb => ms_at (h.low hb hB))
  have HGG : Hid (∀ j, j < ms.length → GoodM (ms.getD j default)) := hide (fun j hj => hgd.at hj)
  obtain ⟨a, cap, rfl, _⟩ := ms_at h
  clear h hgd
  generalize hn : ms.length = n at *
  unfold sndV
  have HB1 := hide ((Below.refl w.heap.size w).alloc (Nat.le_refl _) (.cells #[.int .i64 base, .slice a n cap] 26))
  have HE := hide (heap_alloc_new w (.cells #[.int .i64 base, .slice a n cap] 26))
  have hsz : w.heap.size < (w.alloc (.cells #[.int .i64 base, .slice a n cap] 26)).heap.size := by simp
  cases hsz2 : inB base 0 16777215 with
  | false =>
    have HF := hide (sOk_base (base := base) (ms := ms) hsz2)
    go_enter Tryd.func27, Tryd.ntmps27
    go_wp2_with (go_at_call 38; refine (inImpl _ _ _ _).mono ?_; rw [hsz2]; rintro e w' ⟨rfl, rfl⟩)
    go_ret
    exact ⟨by rw [HF.out]; rfl, HB1.out⟩
  | true =>
    have hbb := inB_yes hsz2
    by_cases hlong : 40 < n
    · have HF := hide (sOk_long (base := base) (ms := ms) (by omega))
      go_enter Tryd.func27, Tryd.ntmps27
      go_wp2_with (go_at_call 38; refine (inImpl _ _ _ _).mono ?_; rw [hsz2]; rintro e w' ⟨rfl, rfl⟩)
      go_ret
      exact ⟨by rw [HF.out]; rfl, HB1.out⟩
    · go_enter Tryd.func27, Tryd.ntmps27
      go_wp2_with (first
        | (go_at_call 38; refine (inImpl _ _ _ _).mono ?_; rw [hsz2]; rintro e w' ⟨rfl, rfl⟩)
        | fail)
      refine (queueOf _ base a n cap).mono ?_
      rintro e w2 ⟨rfl, b2⟩
      have HB2 := hide b2
      clear b2
      go_wp2_with fail
      refine (queueEnd _ base a n cap hbb.1 hbb.2 hm).mono ?_
      rintro e w3 ⟨rfl, b3⟩
      have HB3 := hide (HB2.out.trans (b3.mono HB2.out.size))
      clear b3
      have hs3 := HB3.out.size
      replace HE := hide ((HB3.out.block w.heap.size hsz).trans HE.out)
      have f0 := (box_of HE.out).1 0 _ rfl
      have f1 := (box_of HE.out).1 1 _ rfl
      replace HB1 := hide (HB1.out.trans (HB3.out.mono HB1.out.size))
      have hsz3 : w.heap.size < w3.heap.size := by omega
      clear hs3 hsz HB3 HB2
      by_cases hend : base + (n : Int) ≤ 16777215
      · go_wp2
        clear f0 f1
        go_loopw [24] (fun i wr => ∃ k : Nat, k ≤ n ∧ i = .int .i64 (k : Int) ∧ Hid (∀ j, j < k → msOk (ms.getD j default) = true) ∧ Hid (Below w3.heap.size w3 wr)) (fun i _ => n - (intOf i).toNat)
        case atStart => exact ⟨0, Nat.zero_le _, rfl, hide (fun j hj => by omega), hide (Below.refl _ _)⟩
        case round =>
          obtain ⟨k, hk, rfl, HG, HB⟩ := hrel
          have HW := hide (HB1.out.trans (HB.out.mono HB1.out.size))
          have hs := HB.out.size
          by_cases hlt : k < n
          · obtain ⟨a', cap', ea, _, _, hx⟩ := HX.out wr HW.out
            cases ea
            obtain ⟨b, o, rfl, hb, hc⟩ := hx (by omega)
            obtain ⟨cv, nv, e0, e1, e2, e3, e4, e5, e6, hmt⟩ := hc k hlt
            obtain ⟨a5, c5, ec, _⟩ := cells_at hmt.1
            obtain ⟨a6, c6, en, _⟩ := notes_at hmt.2
            simp only at ec en
            subst ec en
            have HT := hide (hmt.up (show B ≤ wr.heap.size by omega))
            have HGk := hide (HGG.out k hlt)
            clear hc hx hmt
            generalize hp : ms.getD k default = p at *
            have HP := hide hp
            have bA := (Below.refl wr.heap.size wr).alloc (Nat.le_refl _) (.cells #[.int .i64 p.k, .int .i64 p.i, .int .i64 p.u, .int .i64 p.c, .int .i64 p.n, .slice a5 p.cs.length c5, .slice a6 p.ns.length c6] 39)
            have HA := hide (HB.out.trans (bA.mono hs))
            replace HT := hide (HT.out.at bA)
            clear hp bA
            cases hok : msOk p with
            | false =>
              have HF := hide (sOk_bad (base := base) (ms := ms) (j := k) (by omega) (by rw [HP.out]; exact hok))
              go_wp2_with fail
              refine (msgImpl _ p.k p.i p.u p.c p.n _ _ p.cs p.ns HT.out.1 HT.out.2 HGk.out.1 HGk.out.2).mono ?_
              rw [show mOk p.k p.i p.u p.c p.n p.cs p.ns = false from hok]
              rintro e w2 ⟨rfl, b2⟩
              have HB2 := hide (HA.out.trans (b2.mono HA.out.size))
              clear b2
              go_wp2
              go_ret
              exact ⟨by rw [HF.out]; rfl, HB1.out.trans (HB2.out.mono HB1.out.size)⟩
            | true =>
              have HY : Hid (∀ j, j < k + 1 → msOk (ms.getD j default) = true) := hide (fun j hj => by
                rcases Nat.lt_succ_iff_lt_or_eq.1 hj with h | rfl
                · exact HG.out j h
                · rw [HP.out]; exact hok)
              go_wp2_with fail
              refine (msgImpl _ p.k p.i p.u p.c p.n _ _ p.cs p.ns HT.out.1 HT.out.2 HGk.out.1 HGk.out.2).mono ?_
              rw [show mOk p.k p.i p.u p.c p.n p.cs p.ns = true from hok]
              rintro e w2 ⟨rfl, b2⟩
              have HB2 := hide (HA.out.trans (b2.mono HA.out.size))
              clear b2
              go_wp2
              exact ⟨⟨k + 1, by omega, by go_num, HY, HB2⟩, by simp [intOf]; omega⟩
          · obtain rfl : k = n := by omega
            have HF := hide (sOk_yes (base := base) (ms := ms) hsz2 (by omega) (by rw [hn]; exact hend) (fun j hj => HG.out j (by omega)))
            go_wp2
            go_ret
            exact ⟨by rw [HF.out]; rfl, HW.out⟩
      · have HF := hide (sOk_end (base := base) (ms := ms) (by rw [hn]; exact hend))
        go_wp2
        go_ret
        exact ⟨by rw [HF.out]; rfl, HB1.out⟩
end Go.Proofs.YtkfnpijljpbiaaaDoor
/-
  What markCellS, markNoteS and markMsg leave in rows of one's own.
-/
namespace Go.Proofs.YtkfnpijljpbiaaaDoor
open Go.RowKit

def markC1 (k : Int) : Int × Bool × Int := (k, (k + 1) % 3 == 0, k + 1 + 1)
def markN1 (k : Int) : Int × Int := (k, k + 1)
def marksC (k : Int) (n : Nat) : List (Int × Bool × Int) := (List.range n).map fun (j : Nat) => markC1 (k + 3 * (j : Int))
def marksN (k : Int) (n : Nat) : List (Int × Int) := (List.range n).map fun (j : Nat) => markN1 (k + 2 * (j : Int))
theorem marksC_len (k : Int) (n : Nat) : (marksC k n).length = n := by simp [marksC]
theorem marksN_len (k : Int) (n : Nat) : (marksN k n).length = n := by simp [marksN]
theorem marksC_get (k : Int) (n j : Nat) (h : j < n) : (marksC k n).getD j (0, false, 0) = markC1 (k + 3 * (j : Int)) := by simp [marksC, h]
theorem marksN_get (k : Int) (n j : Nat) (h : j < n) : (marksN k n).getD j (0, 0) = markN1 (k + 2 * (j : Int)) := by simp [marksN, h]
theorem markC_step (k : Int) (j : Nat) (cs : List (Int × Bool × Int)) (h : j < cs.length) : (marksC k j ++ cs.drop j).set j (markC1 (k + 3 * (j : Int))) = marksC k (j + 1) ++ cs.drop (j + 1) := by
  rw [List.drop_eq_getElem_cons h, List.set_append_right _ _ (by simp [marksC_len]), marksC_len, Nat.sub_self, List.set_cons_zero]
  unfold marksC
  rw [List.range_succ, List.map_append, List.append_assoc]
  rfl
theorem markN_step (k : Int) (j : Nat) (cs : List (Int × Int)) (h : j < cs.length) : (marksN k j ++ cs.drop j).set j (markN1 (k + 2 * (j : Int))) = marksN k (j + 1) ++ cs.drop (j + 1) := by
  rw [List.drop_eq_getElem_cons h, List.set_append_right _ _ (by simp [marksN_len]), marksN_len, Nat.sub_self, List.set_cons_zero]
  unfold marksN
  rw [List.range_succ, List.map_append, List.append_assoc]
  rfl
theorem markC_len (k : Int) (j : Nat) (cs : List (Int × Bool × Int)) (h : j ≤ cs.length) : (marksC k j ++ cs.drop j).length = cs.length := by simp [marksC_len]; omega
theorem markN_len (k : Int) (j : Nat) (cs : List (Int × Int)) (h : j ≤ cs.length) : (marksN k j ++ cs.drop j).length = cs.length := by simp [marksN_len]; omega


theorem OwnC.shape {w : World} {b : Nat} {v : Value} {cs : List (Int × Bool × Int)} (h : OwnC w b v cs) : (cs = [] ∧ ∃ a c, v = .slice a 0 c) ∨ (0 < cs.length ∧ ∃ g c, v = .slice (some ⟨g, 0, none⟩) cs.length c) := by
  rcases h.2 with ⟨rfl, h0⟩ | ⟨g, c, cur, rfl, _⟩
  · exact .inl ⟨List.eq_nil_of_length_eq_zero h0, _, _, rfl⟩
  · by_cases hz : cs.length = 0
    · exact .inl ⟨List.eq_nil_of_length_eq_zero hz, _, _, by rw [hz]⟩
    · exact .inr ⟨by omega, g, c, rfl⟩
theorem OwnN.shape {w : World} {b : Nat} {v : Value} {cs : List (Int × Int)} (h : OwnN w b v cs) : (cs = [] ∧ ∃ a c, v = .slice a 0 c) ∨ (0 < cs.length ∧ ∃ g c, v = .slice (some ⟨g, 0, none⟩) cs.length c) := by
  rcases h.2 with ⟨rfl, h0⟩ | ⟨g, c, cur, rfl, _⟩
  · exact .inl ⟨List.eq_nil_of_length_eq_zero h0, _, _, rfl⟩
  · by_cases hz : cs.length = 0
    · exact .inl ⟨List.eq_nil_of_length_eq_zero hz, _, _, by rw [hz]⟩
    · exact .inr ⟨by omega, g, c, rfl⟩

theorem OwnC.kept {w w' : World} {b : Nat} {v : Value} {row : Option Nat} {cs : List (Int × Bool × Int)} (h : OwnC w b v cs) (hg : w.grownBy w' row) (hne : ∀ q, v.ownBlock = some q → row ≠ some q) : OwnC w' b v cs := by
  refine World.ownsRow.kept h hg ?_
  cases hv : v.ownBlock with
  | none => exact .inl rfl
  | some q => exact .inr (fun e => hne q hv e.symm)
theorem OwnN.kept {w w' : World} {b : Nat} {v : Value} {row : Option Nat} {cs : List (Int × Int)} (h : OwnN w b v cs) (hg : w.grownBy w' row) (hne : ∀ q, v.ownBlock = some q → row ≠ some q) : OwnN w' b v cs := by
  refine World.ownsRow.kept h hg ?_
  cases hv : v.ownBlock with
  | none => exact .inl rfl
  | some q => exact .inr (fun e => hne q hv e.symm)

end Go.Proofs.YtkfnpijljpbiaaaDoor
