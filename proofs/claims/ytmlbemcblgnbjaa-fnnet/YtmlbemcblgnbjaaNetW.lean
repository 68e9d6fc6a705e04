/-
  What NetOk does, in the program and in its model.
-/
import Derived.Test.YtmlbemcblgnbjaaNetEq
import Derived.Test.YtmlbemcblgnbjaaInB
import Derived.Test.YtmlbemcblgnbjaaLow
namespace Go.Proofs.Ytmlbemcblgnbjaa
open Go.RowKit

/-- A packet is right. -/
def pkOk (size : Int) (p : Pk) : Bool := decide (0 ≤ p.f ∧ p.f < size ∧ 0 ≤ p.t ∧ p.t < size ∧ p.b.length ≤ 4000)
/-- What NetOk says. -/
def netOk (size : Int) (ps : List Pk) : Bool := inB size 1 4 && decide (ps.length ≤ 60) && ps.all (pkOk size)

theorem netOk_yes {size : Int} {ps : List Pk} (h1 : inB size 1 4 = true) (h2 : ps.length ≤ 60) (h3 : ∀ j, j < ps.length → pkOk size (ps.getD j default) = true) : netOk size ps = true := by
  unfold netOk
  rw [h1, decide_eq_true h2]
  simp only [Bool.true_and, List.all_eq_true]
  intro p hp
  obtain ⟨j, hj, rfl⟩ := List.mem_iff_getElem.1 hp
  have := h3 j hj
  simpa [hj] using this
theorem netOk_bad {size : Int} {ps : List Pk} {j : Nat} (h1 : j < ps.length) (h2 : pkOk size (ps.getD j default) = false) : netOk size ps = false := by
  unfold netOk
  rw [Bool.and_eq_false_iff]; right
  rw [List.all_eq_false]
  refine ⟨ps.getD j default, ?_, by rw [h2]; decide⟩
  have : ps.getD j default = ps[j] := by simp [h1]
  rw [this]; exact List.getElem_mem _
theorem netOk_long {size : Int} {ps : List Pk} (h1 : 60 < ps.length) : netOk size ps = false := by
  unfold netOk; rw [decide_eq_false (show ¬ ps.length ≤ 60 by omega)]; simp
theorem netOk_size {size : Int} {ps : List Pk} (h1 : inB size 1 4 = false) : netOk size ps = false := by
  unfold netOk; rw [h1]; rfl
theorem netOk_all {size : Int} {ps : List Pk} (h : netOk size ps = true) : (1 ≤ size ∧ size ≤ 4) ∧ ps.length ≤ 60 ∧ ∀ p ∈ ps, pkOk size p = true := by
  unfold netOk at h
  simp only [Bool.and_eq_true, decide_eq_true_eq, List.all_eq_true] at h
  exact ⟨inB_yes h.1.1, h.1.2, h.2⟩
theorem pkOk_len {size : Int} {p : Pk} (h : pkOk size p = true) : p.b.length ≤ 4000 := by
  have := of_decide_eq_true h; omega

set_option maxRecDepth 100000 in
set_option maxHeartbeats 1000000 in
theorem pkSpec (w : World) (p : Pk) (a : Option Addr) (cap : Nat) (size : Int) :
    Calls Try.prog 28 #[pkV p (.slice a p.b.length cap), .int .i64 size] w fun e w' => e = .returned (.bool (pkOk size p)) ∧ Below w.heap.size w w' := by
  obtain ⟨f, t, zs, s⟩ := p
  unfold pkV pkOk
  simp only
  generalize zs.length = l
  have HB := hide ((Below.refl w.heap.size w).alloc (Nat.le_refl _) (.cells #[.int .i64 f, .int .i64 t, .slice a l cap, .bool s] 28))
  by_cases h1 : 0 ≤ f
  · by_cases h2 : f < size
    · by_cases h3 : 0 ≤ t
      · by_cases h4 : t < size
        · rw [show decide (0 ≤ f ∧ f < size ∧ 0 ≤ t ∧ t < size ∧ l ≤ 4000) = decide (l ≤ 4000) from by simp [h1, h2, h3, h4]]
          go_enter Try.func28, Try.ntmps28
          go_wp2
          go_ret
          exact ⟨ret_bool (by simp; omega), HB.out⟩
        · rw [decide_eq_false (by omega)]
          go_enter Try.func28, Try.ntmps28
          go_wp2
          go_ret
          exact ⟨rfl, HB.out⟩
      · rw [decide_eq_false (by omega)]
        go_enter Try.func28, Try.ntmps28
        go_wp2
        go_ret
        exact ⟨rfl, HB.out⟩
    · rw [decide_eq_false (by omega)]
      go_enter Try.func28, Try.ntmps28
      go_wp2
      go_ret
      exact ⟨rfl, HB.out⟩
  · rw [decide_eq_false (by omega)]
    go_enter Try.func28, Try.ntmps28
    go_wp2
    go_ret
    exact ⟨rfl, HB.out⟩

set_option maxRecDepth 100000 in
set_option maxHeartbeats 1000000 in
theorem pkImpl (w : World) (p : Pk) (a : Option Addr) (cap : Nat) (size : Int) (hs : 1 ≤ size ∧ size ≤ 4) :
    Calls Try.prog 31 #[pkV p (.slice a p.b.length cap), .int .i64 size] w fun e w' => e = .returned (.bool (pkOk size p)) ∧ Below w.heap.size w w' := by
  obtain ⟨f, t, zs, s⟩ := p
  unfold pkV pkOk
  simp only
  generalize zs.length = l
  have HB := hide ((Below.refl w.heap.size w).alloc (Nat.le_refl _) (.cells #[.int .i64 f, .int .i64 t, .slice a l cap, .bool s] 28))
  have HI := hide (fun n a b w => inImpl n a b w)
  cases h1 : inB f 0 (size - 1) with
  | false =>
    have := inB_no h1
    rw [decide_eq_false (by omega)]
    go_enter Try.func31, Try.ntmps31
    go_wp2_with (go_at_call 30; refine (inImpl _ _ _ _).mono ?_; rintro e w' ⟨rfl, rfl⟩)
    go_ret
    exact ⟨rfl, HB.out⟩
  | true =>
    have := inB_yes h1
    cases h2 : inB t 0 (size - 1) with
    | false =>
      have := inB_no h2
      rw [decide_eq_false (by omega)]
      go_enter Try.func31, Try.ntmps31
      go_wp2_with (go_at_call 30; refine (inImpl _ _ _ _).mono ?_; rintro e w' ⟨rfl, rfl⟩)
      go_ret
      exact ⟨rfl, HB.out⟩
    | true =>
      have := inB_yes h2
      rw [show decide (0 ≤ f ∧ f < size ∧ 0 ≤ t ∧ t < size ∧ l ≤ 4000) = decide (l ≤ 4000) from decide_eq_decide.2 (by omega)]
      go_enter Try.func31, Try.ntmps31
      go_wp2_with (go_at_call 30; refine (inImpl _ _ _ _).mono ?_; rintro e w' ⟨rfl, rfl⟩)
      go_ret
      exact ⟨ret_bool (by simp; omega), HB.out⟩

set_option maxRecDepth 100000 in
set_option maxHeartbeats 4000000 in
theorem netSpec (w : World) (size : Int) (v : Value) (ps : List Pk) (B : Nat) (h : RdP w B v ps) (hB : B ≤ w.heap.size) (hm : ps.length ≤ 1048576) :
    Calls Try.prog 9 #[netV size v] w fun e w' => e = .returned (.bool (netOk size ps)) ∧ Below w.heap.size w w' := by
  have HX : Hid (∀ wr, Below w.heap.size w wr → _) := hide (fun wr hb => pk_at (h.low hb hB))
  obtain ⟨a, cap, rfl, _⟩ := pk_at h
  clear h
  generalize hn : ps.length = n at *
  unfold netV
  have HB1 := hide ((Below.refl w.heap.size w).alloc (Nat.le_refl _) (.cells #[.int .i64 size, .slice a n cap] 26))
  have HE := hide (heap_alloc_new w (.cells #[.int .i64 size, .slice a n cap] 26))
  have hsz : w.heap.size < (w.alloc (.cells #[.int .i64 size, .slice a n cap] 26)).heap.size := by simp
  go_enter Try.func9, Try.ntmps9
  go_wp2
  generalize w.alloc (.cells #[.int .i64 size, .slice a n cap] 26) = w1 at *
  go_loopw [3] (fun i wr => ∃ k : Nat, k ≤ n ∧ i = .int .i64 (k : Int) ∧ Hid (∀ j, j < k → pkOk size (ps.getD j default) = true) ∧ Hid (Below w1.heap.size w1 wr)) (fun i _ => n - (intOf i).toNat)
  case atStart => exact ⟨0, Nat.zero_le _, rfl, hide (fun j hj => by omega), hide (Below.refl _ _)⟩
  case round =>
    obtain ⟨k, hk, rfl, HG, HB⟩ := hrel
    have E := (HB.out.block w.heap.size hsz).trans HE.out
    have f0 := (box_of E).1 0 _ rfl
    have f1 := (box_of E).1 1 _ rfl
    have HW := hide (HB1.out.trans (HB.out.mono HB1.out.size))
    have hs := HB.out.size
    clear E
    by_cases hlt : k < n
    · obtain ⟨a', cap', ea, _, _, hx⟩ := HX.out wr HW.out
      cases ea
      obtain ⟨b, o, rfl, hb, hc⟩ := hx (by omega)
      obtain ⟨a2, c2, e0, e1, e2, e3, _⟩ := hc k hlt
      clear hc hx
      generalize hp : ps.getD k default = p at *
      have HP := hide hp
      clear hp
      go_wp2
      cases hok : pkOk size p with
      | false =>
        have HF := hide (netOk_bad (size := size) (ps := ps) (j := k) (by omega) (by rw [HP.out]; exact hok))
        go_cut [19] from 4 to 19 (fun s wq => s = .bool true ∧ Below w1.heap.size w1 wq)
        case first =>
          go_region_with (go_at_call 28; refine (pkSpec _ p _ _ _).mono ?_; rw [hok]; rintro e w2 ⟨rfl, b2⟩; have HB2 := hide (HB.out.trans (below_of_drew b2 |>.mono hs)); clear b2)
          all_goals (go_wp2_with fail; go_meet; exact ⟨rfl, HB2.out⟩)
        case rest =>
          obtain ⟨rfl, b3⟩ := hcut
          have HB3 := hide b3
          clear b3
          go_wp2
          go_ret
          exact ⟨by rw [HF.out]; rfl, HB1.out.trans (HB3.out.mono HB1.out.size)⟩
      | true =>
        go_cut [19] from 4 to 19 (fun s wq => s = .bool false ∧ Below w1.heap.size w1 wq)
        case first =>
          go_region_with (go_at_call 28; refine (pkSpec _ p _ _ _).mono ?_; rw [hok]; rintro e w2 ⟨rfl, b2⟩; have HB2 := hide (HB.out.trans (below_of_drew b2 |>.mono hs)); clear b2)
          all_goals (go_wp2_with fail; go_meet; exact ⟨rfl, HB2.out⟩)
        case rest =>
          obtain ⟨rfl, b3⟩ := hcut
          have HB3 := hide b3
          have HY : Hid (∀ j, j < k + 1 → pkOk size (ps.getD j default) = true) := hide (fun j hj => by
            rcases Nat.lt_succ_iff_lt_or_eq.1 hj with h | rfl
            · exact HG.out j h
            · rw [HP.out]; exact hok)
          clear b3
          go_wp2
          exact ⟨⟨k + 1, by omega, by go_num, HY, HB3⟩, by simp [intOf]; omega⟩
    · obtain rfl : k = n := by omega
      cases hsz2 : inB size 1 4 with
      | false =>
        have HF := hide (netOk_size (size := size) (ps := ps) hsz2)
        go_wp2_with (go_at_call 32; refine (inSpec _ _ _ _).mono ?_; rw [hsz2]; rintro e w' ⟨rfl, rfl⟩)
        go_ret
        exact ⟨by rw [HF.out]; rfl, HW.out⟩
      | true =>
        by_cases hlong : k ≤ 60
        · have HF := hide (netOk_yes (size := size) (ps := ps) hsz2 (by omega) (fun j hj => HG.out j (by omega)))
          go_wp2_with (go_at_call 32; refine (inSpec _ _ _ _).mono ?_; rw [hsz2]; rintro e w' ⟨rfl, rfl⟩)
          go_ret
          exact ⟨by rw [HF.out]; exact ret_bool (by simp; omega), HW.out⟩
        · have HF := hide (netOk_long (size := size) (ps := ps) (by omega))
          go_wp2_with (go_at_call 32; refine (inSpec _ _ _ _).mono ?_; rw [hsz2]; rintro e w' ⟨rfl, rfl⟩)
          go_ret
          exact ⟨by rw [HF.out]; exact ret_bool (by simp; omega), HW.out⟩

set_option maxRecDepth 100000 in
set_option maxHeartbeats 4000000 in
theorem netImpl (w : World) (size : Int) (v : Value) (ps : List Pk) (B : Nat) (h : RdP w B v ps) (hB : B ≤ w.heap.size) (hm : ps.length ≤ 2000000) :
    Calls Try.prog 8 #[netV size v] w fun e w' => e = .returned (.bool (netOk size ps)) ∧ Below w.heap.size w w' := by
  have HX : Hid (∀ wr, Below w.heap.size w wr → _) := hide (fun wr hb => pk_at (h.low hb hB))
  obtain ⟨a, cap, rfl, _⟩ := pk_at h
  clear h
  generalize hn : ps.length = n at *
  unfold netV
  have HB1 := hide ((Below.refl w.heap.size w).alloc (Nat.le_refl _) (.cells #[.int .i64 size, .slice a n cap] 26))
  have HE := hide (heap_alloc_new w (.cells #[.int .i64 size, .slice a n cap] 26))
  have hsz : w.heap.size < (w.alloc (.cells #[.int .i64 size, .slice a n cap] 26)).heap.size := by simp
  cases hsz2 : inB size 1 4 with
  | false =>
    have HF := hide (netOk_size (size := size) (ps := ps) hsz2)
    go_enter Try.func8, Try.ntmps8
    go_wp2_with (go_at_call 30; refine (inImpl _ _ _ _).mono ?_; rw [hsz2]; rintro e w' ⟨rfl, rfl⟩)
    go_ret
    exact ⟨by rw [HF.out]; rfl, HB1.out⟩
  | true =>
    have hsz3 := inB_yes hsz2
    by_cases hlong : 60 < n
    · have HF := hide (netOk_long (size := size) (ps := ps) (by omega))
      go_enter Try.func8, Try.ntmps8
      go_wp2_with (go_at_call 30; refine (inImpl _ _ _ _).mono ?_; rw [hsz2]; rintro e w' ⟨rfl, rfl⟩)
      go_ret
      exact ⟨by rw [HF.out]; rfl, HB1.out⟩
    · go_enter Try.func8, Try.ntmps8
      go_wp2_with (go_at_call 30; refine (inImpl _ _ _ _).mono ?_; rw [hsz2]; rintro e w' ⟨rfl, rfl⟩)
      generalize w.alloc (.cells #[.int .i64 size, .slice a n cap] 26) = w1 at *
      go_loopw [18] (fun i wr => ∃ k : Nat, k ≤ n ∧ i = .int .i64 (k : Int) ∧ Hid (∀ j, j < k → pkOk size (ps.getD j default) = true) ∧ Hid (Below w1.heap.size w1 wr)) (fun i _ => n - (intOf i).toNat)
      case atStart => exact ⟨0, Nat.zero_le _, rfl, hide (fun j hj => by omega), hide (Below.refl _ _)⟩
      case round =>
        obtain ⟨k, hk, rfl, HG, HB⟩ := hrel
        have E := (HB.out.block w.heap.size hsz).trans HE.out
        have f0 := (box_of E).1 0 _ rfl
        have f1 := (box_of E).1 1 _ rfl
        have HW := hide (HB1.out.trans (HB.out.mono HB1.out.size))
        have hs := HB.out.size
        have hne : w.heap.size < wr.heap.size := by omega
        clear E
        by_cases hlt : k < n
        · obtain ⟨a', cap', ea, _, _, hx⟩ := HX.out wr HW.out
          cases ea
          obtain ⟨b, o, rfl, hb, hc⟩ := hx (by omega)
          obtain ⟨a2, c2, e0, e1, e2, e3, _⟩ := hc k hlt
          clear hc hx
          generalize hp : ps.getD k default = p at *
          have HP := hide hp
          have bA := (Below.refl wr.heap.size wr).alloc (Nat.le_refl _) (.cells #[.int .i64 p.f, .int .i64 p.t, .slice a2 p.b.length c2, .bool p.s] 28)
          have HA := hide (HB.out.trans (bA.mono hs))
          clear hp bA
          cases hok : pkOk size p with
          | false =>
            have HF := hide (netOk_bad (size := size) (ps := ps) (j := k) (by omega) (by rw [HP.out]; exact hok))
            go_wp2_with fail
            refine (pkImpl _ p _ _ _ hsz3).mono ?_
            rw [hok]
            rintro e w2 ⟨rfl, b2⟩
            have HB2 := hide (HA.out.trans (b2.mono HA.out.size))
            clear b2
            go_wp2
            go_ret
            exact ⟨by rw [HF.out]; rfl, HB1.out.trans (HB2.out.mono HB1.out.size)⟩
          | true =>
            have HY : Hid (∀ j, j < k + 1 → pkOk size (ps.getD j default) = true) := hide (fun j hj => by
              rcases Nat.lt_succ_iff_lt_or_eq.1 hj with h | rfl
              · exact HG.out j h
              · rw [HP.out]; exact hok)
            go_wp2_with fail
            refine (pkImpl _ p _ _ _ hsz3).mono ?_
            rw [hok]
            rintro e w2 ⟨rfl, b2⟩
            have HB2 := hide (HA.out.trans (b2.mono HA.out.size))
            clear b2
            go_wp2
            exact ⟨⟨k + 1, by omega, by go_num, HY, HB2⟩, by simp [intOf]; omega⟩
        · obtain rfl : k = n := by omega
          have HF := hide (netOk_yes (size := size) (ps := ps) hsz2 (by omega) (fun j hj => HG.out j (by omega)))
          go_wp2
          go_ret
          exact ⟨by rw [HF.out]; rfl, HW.out⟩
end Go.Proofs.Ytmlbemcblgnbjaa
