/-
  What SenderOk does, in the program and in its model.
-/
import Derived.Test.YtoaenoakdbieaaaSndEq
import Derived.Test.YtoaenoakdbieaaaInB
namespace Go.Proofs.Ytoaenoakdbieaaa
open Go.RowKit

/-- A message is right. -/
def msOk (m : Ms) : Bool := mOk m.k m.i m.u m.c m.n m.cs m.ns
/-- What SenderOk says. -/
def sOk (base : Int) (ms : List Ms) : Bool := inB base 0 16777215 && decide (ms.length ≤ 40) && decide (base + (ms.length : Int) ≤ 16777215) && ms.all msOk

theorem sOk_yes {base : Int} {ms : List Ms} (h1 : inB base 0 16777215 = true) (h2 : ms.length ≤ 40) (h4 : base + (ms.length : Int) ≤ 16777215) (h3 : ∀ j, j < ms.length → msOk (ms.getD j default) = true) : sOk base ms = true := by
  unfold sOk
  rw [h1, decide_eq_true h2, decide_eq_true h4]
  simp only [Bool.true_and, List.all_eq_true]
  intro p hp
  obtain ⟨j, hj, rfl⟩ := List.mem_iff_getElem.1 hp
  have := h3 j hj
  simpa [hj] using this
theorem sOk_bad {base : Int} {ms : List Ms} {j : Nat} (h1 : j < ms.length) (h2 : msOk (ms.getD j default) = false) : sOk base ms = false := by
  unfold sOk
  rw [Bool.and_eq_false_iff]; right
  rw [List.all_eq_false]
  refine ⟨ms.getD j default, ?_, by rw [h2]; decide⟩
  have : ms.getD j default = ms[j] := by simp [h1]
  rw [this]; exact List.getElem_mem _
theorem sOk_long {base : Int} {ms : List Ms} (h1 : 40 < ms.length) : sOk base ms = false := by
  unfold sOk; rw [decide_eq_false (show ¬ ms.length ≤ 40 by omega)]; simp
theorem sOk_end {base : Int} {ms : List Ms} (h1 : ¬ base + (ms.length : Int) ≤ 16777215) : sOk base ms = false := by
  unfold sOk; rw [decide_eq_false h1]; simp
theorem sOk_base {base : Int} {ms : List Ms} (h1 : inB base 0 16777215 = false) : sOk base ms = false := by
  unfold sOk; rw [h1]; rfl
theorem sOk_all {base : Int} {ms : List Ms} (h : sOk base ms = true) : (0 ≤ base ∧ base ≤ 16777215) ∧ ms.length ≤ 40 ∧ base + (ms.length : Int) ≤ 16777215 ∧ ∀ m ∈ ms, msOk m = true := by
  unfold sOk at h
  simp only [Bool.and_eq_true, decide_eq_true_eq, List.all_eq_true] at h
  exact ⟨inB_yes h.1.1.1, h.1.1.2, h.1.2, h.2⟩

theorem msSpec (w : World) (m : Ms) (cv nv : Value) (h : Mt w w.heap.size (m, cv, nv)) (hg : GoodM m) :
    Calls Try.prog 60 #[.agg #[.int .i64 m.k, .int .i64 m.i, .int .i64 m.u, .int .i64 m.c, .int .i64 m.n, cv, nv]] w fun e w' => e = .returned (.bool (msOk m)) ∧ Below w.heap.size w w' := by
  have := msgSpec w m.k m.i m.u m.c m.n cv nv m.cs m.ns h.1 h.2 hg.1 hg.2
  rw [mOk_spec] at this
  exact this

set_option maxRecDepth 100000 in
set_option maxHeartbeats 4000000 in
theorem sndSpec (w : World) (base : Int) (v : Value) (ms : List Ms) (B : Nat) (h : RdS w B v ms) (hB : B ≤ w.heap.size) (hm : ms.length ≤ 2000000) (hgd : GoodS ms) :
    Calls Try.prog 24 #[sndV base v] w fun e w' => e = .returned (.bool (sOk base ms)) ∧ Below w.heap.size w w' := by
  have HX : Hid (∀ wr, Below w.heap.size w wr → _) := hide (fun wr hb => ms_at (h.low hb hB))
  have HGG : Hid (∀ j, j < ms.length → GoodM (ms.getD j default)) := hide (fun j hj => hgd.at hj)
  obtain ⟨a, cap, rfl, _⟩ := ms_at h
  clear h hgd
  generalize hn : ms.length = n at *
  unfold sndV
  have HB1 := hide ((Below.refl w.heap.size w).alloc (Nat.le_refl _) (.cells #[.int .i64 base, .slice a n cap] 51))
  have HE := hide (heap_alloc_new w (.cells #[.int .i64 base, .slice a n cap] 51))
  have hsz : w.heap.size < (w.alloc (.cells #[.int .i64 base, .slice a n cap] 51)).heap.size := by simp
  go_enter Try.func24, Try.ntmps24
  go_wp2
  generalize w.alloc (.cells #[.int .i64 base, .slice a n cap] 51) = w1 at *
  go_loopw [3] (fun i wr => ∃ k : Nat, k ≤ n ∧ i = .int .i64 (k : Int) ∧ Hid (∀ j, j < k → msOk (ms.getD j default) = true) ∧ Hid (Below w1.heap.size w1 wr)) (fun i _ => n - (intOf i).toNat)
  case atStart => exact ⟨0, Nat.zero_le _, rfl, hide (fun j hj => by omega), hide (Below.refl _ _)⟩
  case round =>
    obtain ⟨k, hk, rfl, HG, HB⟩ := hrel
    have E := (HB.out.block w.heap.size hsz).trans HE.out
    have f0 := (box_of E).1 0 _ rfl
    have f1 := (box_of E).1 1 _ rfl
    have HW := hide (HB1.out.trans (HB.out.mono HB1.out.size))
    have hs := HB.out.size
    clear E
    by_cases hlt : k < n
    · obtain ⟨a', cap', ea, _, _, hx⟩ := HX.out wr HW.out
      cases ea
      obtain ⟨b, o, rfl, hb, hc⟩ := hx (by omega)
      obtain ⟨cv, nv, e0, e1, e2, e3, e4, e5, e6, hmt⟩ := hc k hlt
      have HT := hide (hmt.up (show B ≤ wr.heap.size by omega))
      have HGk := hide (HGG.out k hlt)
      clear hc hx hmt
      generalize hp : ms.getD k default = p at *
      have HP := hide hp
      clear hp
      cases hok : msOk p with
      | false =>
        have HF := hide (sOk_bad (base := base) (ms := ms) (j := k) (by omega) (by rw [HP.out]; exact hok))
        go_wp2_with fail
        refine (msSpec _ p _ _ HT.out HGk.out).mono ?_
        rw [hok]
        rintro e w2 ⟨rfl, b2⟩
        have HB2 := hide (HB.out.trans (b2.mono hs))
        clear b2
        go_wp2
        go_ret
        exact ⟨by rw [HF.out]; rfl, HB1.out.trans (HB2.out.mono HB1.out.size)⟩
      | true =>
        have HY : Hid (∀ j, j < k + 1 → msOk (ms.getD j default) = true) := hide (fun j hj => by
          rcases Nat.lt_succ_iff_lt_or_eq.1 hj with h | rfl
          · exact HG.out j h
          · rw [HP.out]; exact hok)
        go_wp2_with fail
        refine (msSpec _ p _ _ HT.out HGk.out).mono ?_
        rw [hok]
        rintro e w2 ⟨rfl, b2⟩
        have HB2 := hide (HB.out.trans (b2.mono hs))
        clear b2
        go_wp2
        exact ⟨⟨k + 1, by omega, by go_num, HY, HB2⟩, by simp [intOf]; omega⟩
    · obtain rfl : k = n := by omega
      cases hsz2 : inB base 0 16777215 with
      | false =>
        have HF := hide (sOk_base (base := base) (ms := ms) hsz2)
        go_wp2_with (go_at_call 48; refine (inSpec _ _ _ _).mono ?_; rw [hsz2]; rintro e w' ⟨rfl, rfl⟩)
        go_ret
        exact ⟨by rw [HF.out]; rfl, HW.out⟩
      | true =>
        have hbb := inB_yes hsz2
        by_cases hlong : k ≤ 40
        · by_cases hend : base + (k : Int) ≤ 16777215
          · have HF := hide (sOk_yes (base := base) (ms := ms) hsz2 (by omega) (by rw [hn]; exact hend) (fun j hj => HG.out j (by omega)))
            go_wp2_with (go_at_call 48; refine (inSpec _ _ _ _).mono ?_; rw [hsz2]; rintro e w' ⟨rfl, rfl⟩)
            go_ret
            exact ⟨by rw [HF.out]; exact ret_bool (by first | (simp; done) | (simp; omega)), HW.out⟩
          · have HF := hide (sOk_end (base := base) (ms := ms) (by rw [hn]; exact hend))
            go_wp2_with (go_at_call 48; refine (inSpec _ _ _ _).mono ?_; rw [hsz2]; rintro e w' ⟨rfl, rfl⟩)
            go_ret
            exact ⟨by rw [HF.out]; exact ret_bool (by first | (simp; done) | (simp; omega)), HW.out⟩
        · have HF := hide (sOk_long (base := base) (ms := ms) (by omega))
          go_wp2_with (go_at_call 48; refine (inSpec _ _ _ _).mono ?_; rw [hsz2]; rintro e w' ⟨rfl, rfl⟩)
          go_ret
          exact ⟨by rw [HF.out]; exact ret_bool (by first | (simp; done) | (simp; omega)), HW.out⟩
theorem loadQ {w : World} {g : Nat} {a0 a1 : Value} (h : w.heap[g]? = some (.cells #[a0, a1] 96 (0, 0))) : (loadVar 96 ⟨g, 0, none⟩).run Try.prog w = .ok (.agg #[a0, a1]) w :=
  run_loadVar_row w g 96 96 #[a0, a1] (0, 0) _ h Try.underlying96 rfl (by kernel_rfl)

set_option maxRecDepth 100000 in
set_option maxHeartbeats 1000000 in
theorem queueOf (w : World) (base : Int) (a : Option Addr) (n cap : Nat) :
    Calls Try.prog 62 #[.agg #[.int .i64 base, .slice a n cap]] w fun e w' => e = .returned (.agg #[.int .i64 base, .slice a n cap]) ∧ Below w.heap.size w w' := by
  have G1 := heap_alloc_new (w.alloc (.cells #[.int .i64 base, .slice a n cap] 51)) (.cells #[.int .i64 base, .slice a n cap] 96)
  simp only [World.size_alloc] at G1
  have HB := hide (((Below.refl w.heap.size w).alloc (Nat.le_refl _) (.cells #[.int .i64 base, .slice a n cap] 51)).alloc (by simp) (.cells #[.int .i64 base, .slice a n cap] 96))
  have H1 := hide G1
  clear G1
  go_enter Try.func62, Try.ntmps62
  go_wp2
  exact bodyPost_ret (v := .agg #[.int .i64 base, .slice a n cap]) (results_one Try.results62 _ _ _ rfl (loadQ H1.out)) rfl ⟨rfl, HB.out⟩

set_option maxRecDepth 100000 in
set_option maxHeartbeats 1000000 in
theorem queueEnd (w : World) (base : Int) (a : Option Addr) (n cap : Nat) (h0 : 0 ≤ base) (h1 : base ≤ 16777215) (hn : n ≤ 2000000) :
    Calls Try.prog 63 #[.agg #[.int .i64 base, .slice a n cap]] w fun e w' => e = .returned (.int .i64 (base + (n : Int))) ∧ Below w.heap.size w w' := by
  have HB := hide ((Below.refl w.heap.size w).alloc (Nat.le_refl _) (.cells #[.int .i64 base, .slice a n cap] 96))
  go_enter Try.func63, Try.ntmps63
  go_wp2
  go_ret
  exact ⟨rfl, HB.out⟩

set_option maxRecDepth 100000 in
set_option maxHeartbeats 4000000 in
theorem sndImpl (w : World) (base : Int) (v : Value) (ms : List Ms) (B : Nat) (h : RdS w B v ms) (hB : B ≤ w.heap.size) (hm : ms.length ≤ 2000000) (hgd : GoodS ms) :
    Calls Try.prog 26 #[sndV base v] w fun e w' => e = .returned (.bool (sOk base ms)) ∧ Below w.heap.size w w' := by
  have HX : Hid (∀ wr, Below w.heap.size w wr → _) := hide (fun wr hb => ms_at (h.low hb hB))
  have HGG : Hid (∀ j, j < ms.length → GoodM (ms.getD j default)) := hide (fun j hj => hgd.at hj)
  obtain ⟨a, cap, rfl, _⟩ := ms_at h
  clear h hgd
  generalize hn : ms.length = n at *
  unfold sndV
  have HB1 := hide ((Below.refl w.heap.size w).alloc (Nat.le_refl _) (.cells #[.int .i64 base, .slice a n cap] 51))
  have HE := hide (heap_alloc_new w (.cells #[.int .i64 base, .slice a n cap] 51))
  have hsz : w.heap.size < (w.alloc (.cells #[.int .i64 base, .slice a n cap] 51)).heap.size := by simp
  cases hsz2 : inB base 0 16777215 with
  | false =>
    have HF := hide (sOk_base (base := base) (ms := ms) hsz2)
    go_enter Try.func26, Try.ntmps26
    go_wp2_with (go_at_call 46; refine (inImpl _ _ _ _).mono ?_; rw [hsz2]; rintro e w' ⟨rfl, rfl⟩)
    go_ret
    exact ⟨by rw [HF.out]; rfl, HB1.out⟩
  | true =>
    have hbb := inB_yes hsz2
    by_cases hlong : 40 < n
    · have HF := hide (sOk_long (base := base) (ms := ms) (by omega))
      go_enter Try.func26, Try.ntmps26
      go_wp2_with (go_at_call 46; refine (inImpl _ _ _ _).mono ?_; rw [hsz2]; rintro e w' ⟨rfl, rfl⟩)
      go_ret
      exact ⟨by rw [HF.out]; rfl, HB1.out⟩
    · go_enter Try.func26, Try.ntmps26
      go_wp2_with (first
        | (go_at_call 46; refine (inImpl _ _ _ _).mono ?_; rw [hsz2]; rintro e w' ⟨rfl, rfl⟩)
        | fail)
      refine (queueOf _ base a n cap).mono ?_
      rintro e w2 ⟨rfl, b2⟩
      have HB2 := hide b2
      clear b2
      go_wp2_with fail
      refine (queueEnd _ base a n cap hbb.1 hbb.2 hm).mono ?_
      rintro e w3 ⟨rfl, b3⟩
      have HB3 := hide (HB2.out.trans (b3.mono HB2.out.size))
      clear b3
      have hs3 := HB3.out.size
      replace HE := hide ((HB3.out.block w.heap.size hsz).trans HE.out)
      have f0 := (box_of HE.out).1 0 _ rfl
      have f1 := (box_of HE.out).1 1 _ rfl
      replace HB1 := hide (HB1.out.trans (HB3.out.mono HB1.out.size))
      have hsz3 : w.heap.size < w3.heap.size := by omega
      clear hs3 hsz HB3 HB2
      by_cases hend : base + (n : Int) ≤ 16777215
      · go_wp2
        clear f0 f1
        go_loopw [24] (fun i wr => ∃ k : Nat, k ≤ n ∧ i = .int .i64 (k : Int) ∧ Hid (∀ j, j < k → msOk (ms.getD j default) = true) ∧ Hid (Below w3.heap.size w3 wr)) (fun i _ => n - (intOf i).toNat)
        case atStart => exact ⟨0, Nat.zero_le _, rfl, hide (fun j hj => by omega), hide (Below.refl _ _)⟩
        case round =>
          obtain ⟨k, hk, rfl, HG, HB⟩ := hrel
          have HW := hide (HB1.out.trans (HB.out.mono HB1.out.size))
          have hs := HB.out.size
          by_cases hlt : k < n
          · obtain ⟨a', cap', ea, _, _, hx⟩ := HX.out wr HW.out
            cases ea
            obtain ⟨b, o, rfl, hb, hc⟩ := hx (by omega)
            obtain ⟨cv, nv, e0, e1, e2, e3, e4, e5, e6, hmt⟩ := hc k hlt
            obtain ⟨a5, c5, ec, _⟩ := cells_at hmt.1
            obtain ⟨a6, c6, en, _⟩ := notes_at hmt.2
            simp only at ec en
            subst ec en
            have HT := hide (hmt.up (show B ≤ wr.heap.size by omega))
            have HGk := hide (HGG.out k hlt)
            clear hc hx hmt
            generalize hp : ms.getD k default = p at *
            have HP := hide hp
            have bA := (Below.refl wr.heap.size wr).alloc (Nat.le_refl _) (.cells #[.int .i64 p.k, .int .i64 p.i, .int .i64 p.u, .int .i64 p.c, .int .i64 p.n, .slice a5 p.cs.length c5, .slice a6 p.ns.length c6] 65)
            have HA := hide (HB.out.trans (bA.mono hs))
            replace HT := hide (HT.out.at bA)
            clear hp bA
            cases hok : msOk p with
            | false =>
              have HF := hide (sOk_bad (base := base) (ms := ms) (j := k) (by omega) (by rw [HP.out]; exact hok))
              go_wp2_with fail
              refine (msgImpl _ p.k p.i p.u p.c p.n _ _ p.cs p.ns HT.out.1 HT.out.2 HGk.out.1 HGk.out.2).mono ?_
              rw [show mOk p.k p.i p.u p.c p.n p.cs p.ns = false from hok]
              rintro e w2 ⟨rfl, b2⟩
              have HB2 := hide (HA.out.trans (b2.mono HA.out.size))
              clear b2
              go_wp2
              go_ret
              exact ⟨by rw [HF.out]; rfl, HB1.out.trans (HB2.out.mono HB1.out.size)⟩
            | true =>
              have HY : Hid (∀ j, j < k + 1 → msOk (ms.getD j default) = true) := hide (fun j hj => by
                rcases Nat.lt_succ_iff_lt_or_eq.1 hj with h | rfl
                · exact HG.out j h
                · rw [HP.out]; exact hok)
              go_wp2_with fail
              refine (msgImpl _ p.k p.i p.u p.c p.n _ _ p.cs p.ns HT.out.1 HT.out.2 HGk.out.1 HGk.out.2).mono ?_
              rw [show mOk p.k p.i p.u p.c p.n p.cs p.ns = true from hok]
              rintro e w2 ⟨rfl, b2⟩
              have HB2 := hide (HA.out.trans (b2.mono HA.out.size))
              clear b2
              go_wp2
              exact ⟨⟨k + 1, by omega, by go_num, HY, HB2⟩, by simp [intOf]; omega⟩
          · obtain rfl : k = n := by omega
            have HF := hide (sOk_yes (base := base) (ms := ms) hsz2 (by omega) (by rw [hn]; exact hend) (fun j hj => HG.out j (by omega)))
            go_wp2
            go_ret
            exact ⟨by rw [HF.out]; rfl, HW.out⟩
      · have HF := hide (sOk_end (base := base) (ms := ms) (by rw [hn]; exact hend))
        go_wp2
        go_ret
        exact ⟨by rw [HF.out]; rfl, HB1.out⟩
end Go.Proofs.Ytoaenoakdbieaaa
