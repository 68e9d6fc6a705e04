/-
  Joined: ClcI, ClcL.
-/
import Derived.Test.YtllghgcancennaaJ27
import Derived.Test.YtllghgcancennaaJ28
import Derived.Carry
import Derived.Test.YtllghgcancennaaJ19
import Derived.Test.YtllghgcancennaaJ10
import Derived.Test.YtllghgcancennaaJ13
import Derived.Deep.RegionHeld
/-
  The program's Clocks.
-/
namespace Go.Proofs.Ytllghgcancennaa
open Go.RowKit

theorem out_known {w : World} {B hi j : Nat} {xs : List Evt} {v : Value} {us : List Value} (h : Out w B hi (clkN xs j) v us) : ∀ k i, (0 ≤ k ∧ k ≤ 6) → (0 ≤ i ∧ i ≤ 1000000) → Reads w w.heap.size (smps (fcl xs j k i)) ((fsrc xs us j k i).getD (.slice none 0 0)) := by
  intro k i _ _
  have hl := idxS_lt xs j k i
  unfold fcl fsrc atC
  by_cases c : 0 ≤ idxS xs j k i
  · rw [if_pos c, if_pos c]
    exact h.reads (by rw [clkN_len]; omega)
  · rw [if_neg c, if_neg c]
    exact (ownD_nil w 0 0 72 2).rd (Nat.le_refl _)
theorem evB_in {xs : List Evt} (h : evB xs = true) : xs.length ≤ 3000 ∧ ∀ j, j < xs.length → evAt (xs.getD j default) = true := by
  unfold evB at h
  rw [Bool.and_eq_true] at h
  refine ⟨of_decide_eq_true h.2, fun j hj => ?_⟩
  rw [List.getD_eq_getElem?_getD, List.getElem?_eq_getElem hj]
  exact List.all_eq_true.1 h.1 _ (List.getElem_mem hj)
theorem fsrc_zero (xs : List Evt) (k i : Int) : fsrc xs [] 0 k i = none := by
  have h := idxS_lt xs 0 k i
  unfold fsrc
  rw [if_neg (by omega)]
set_option maxRecDepth 100000 in
set_option maxHeartbeats 8000000 in
theorem clocksI (w : World) (xs : List Evt) (v : Value) (h : Reads w w.heap.size (evts xs) v) (hm : xs.length ≤ 1048576) :
    Calls Try.prog 15 #[v] w fun e w' => rowP w w' (rws (clocksX xs)) e := by
  have HR := hide h
  obtain ⟨a1, c1, e1, _⟩ := h.shape
  subst e1
  clear h
  have hmm := @run_makeMap Try.prog
  go_enter Try.func15, Try.ntmps15
  go_wp2_with fail
  refine (eventsOkI w xs _ HR.out hm).mono ?_
  rintro e x1 ⟨rfl, b1⟩
  have HB1 := hide b1
  clear b1
  cases c : evB xs with
  | false =>
    have HX : Hid (clocksX xs = []) := hide (by unfold clocksX; rw [c]; rfl)
    go_wp2
    go_ret
    refine ⟨_, rfl, ?_, HB1.out⟩
    rw [HX.out]
    exact ownD_nil _ _ _ _ _
  | true =>
    have HX : Hid (clocksX xs = clkN xs xs.length) := hide (by unfold clocksX; rw [if_pos c])
    have hx := (evB_in c).1
    have HEv := hide (evB_in c).2
    have hs1 := HB1.out.size
    have HK := hide (KnM.made x1)
    have HB := hide (HB1.out.trans (((Below.refl x1.heap.size x1).alloc (Nat.le_refl _) (.map #[] 0)).mono hs1))
    have hB1 : (x1.alloc (.map #[] 0)).heap.size = x1.heap.size + 1 := by simp
    go_upto_region 5 with fail
    obtain ⟨g, hg⟩ : ∃ g, x1.heap.size = g := ⟨_, rfl⟩
    rw [hg] at HK hB1 hs1 ⊢
    clear hg HB1
    generalize x1.alloc (.map #[] 0) = W1 at *
    obtain ⟨B, hBe⟩ : ∃ B, W1.heap.size = B := ⟨_, rfl⟩
    have hgB : g < B := by omega
    have hBr : B ≤ W1.heap.size := by omega
    clear hB1 hBe
    have HO := hide (outNone W1 B W1.heap.size hBr)
    go_wp2
    go_loopw [3, 13] (fun r i wr => ∃ (j : Nat) (us : List Value) (va : Option Addr) (vc : Nat), j ≤ xs.length ∧ i = .int .i64 (j : Int) ∧ r = .slice va j vc ∧ Hid (Out wr B wr.heap.size (clkN xs j) (.slice va j vc) us) ∧ Hid (KnM wr g (2 * j) (fsrc xs us j)) ∧ Hid (Below w.heap.size w wr) ∧ B ≤ wr.heap.size) (fun _ i _ => xs.length - (intOf i).toNat)
    case atStart => exact ⟨0, [], _, _, Nat.zero_le _, rfl, rfl, HO, hide (HK.out.congr (fun k i _ _ => fsrc_zero xs k i)), HB, hBr⟩
    case round =>
      clear HO HK HB hBr
      obtain ⟨j, us, va, vc, hj, rfl, rfl, HO, HK, HB, hBr⟩ := hrel
      by_cases hlt : j < xs.length
      · obtain ⟨a', cap', ea, hcap, _, hc⟩ := event_at (HR.out.at HB.out)
        cases ea
        obtain ⟨b, o, rfl, hbb, hcell⟩ := hc (by omega)
        obtain ⟨d0, d1, d2, d3⟩ := hcell j hlt
        clear hc hcell
        obtain ⟨y, hy⟩ : ∃ y, xs.getD j default = y := ⟨_, rfl⟩
        rw [hy] at d0 d1 d2 d3
        have HYo : Hid (evAt y = true) := hide (by rw [← hy]; exact HEv.out j hlt)
        have HNX : Hid (nextC xs (clkN xs j) j = (tickX ((aheadC (fsrc xs us j 0 y.w).isSome (fcl xs j) y).foldl joinK []) y.w)) := hide (by unfold nextC; rw [← ahead_fold (us := us) hy, hy])
        have HY := hide hy
        clear hy
        have hltI : (j : Int) < (xs.length : Int) := by omega
        go_upto_region 8 with fail
        clear d0 d1 d2 d3
        have b1 := (Below.refl wr.heap.size wr).alloc (Nat.le_refl _) (.cells #[.int .i64 y.w, .int .i64 y.k, .int .i64 y.i, .int .i64 y.a] 40)
        have EF := hide (heap_alloc_new wr (.cells #[.int .i64 y.w, .int .i64 y.k, .int .i64 y.i, .int .i64 y.a] 40))
        replace HO := hide ((HO.out.below b1).up b1.size)
        replace HK := hide (HK.out.below b1)
        replace HB := hide (HB.out.trans (b1.mono HB.out.size))
        have hBr2 : B ≤ (wr.alloc (.cells #[.int .i64 y.w, .int .i64 y.k, .int .i64 y.i, .int .i64 y.a] 40)).heap.size := Nat.le_trans hBr b1.size
        clear b1 hbb hBr
        obtain ⟨gf, hgf⟩ : ∃ g, wr.heap.size = g := ⟨_, rfl⟩
        rw [hgf] at EF ⊢
        clear hgf
        generalize wr.alloc (.cells #[.int .i64 y.w, .int .i64 y.k, .int .i64 y.i, .int .i64 y.a] 40) = W2 at *
        have k0 := (box_of EF.out).1 0 _ rfl
        have k1 := (box_of EF.out).1 1 _ rfl
        have k2 := (box_of EF.out).1 2 _ rfl
        have k3 := (box_of EF.out).1 3 _ rfl
        have HFR := hide (out_known HO.out)
        have HGD := hide (fun k i (_ : 0 ≤ k ∧ k ≤ 6) (_ : 0 ≤ i ∧ i ≤ 1000000) => atC_good (clkN_good xs j hj) (idxS xs j k i))
        have hsx := HB.out.size
        go_wp2_with (first
          | (go_at_call 40; refine (goesOnI _ xs g (2 * j) (fsrc xs us j) (fcl xs j) y HK.out (by omega) HFR.out HGD.out hx HYo.out).mono ?_; rintro e Z1 ⟨u9, rfl, o9, q9, k9⟩; obtain ⟨u9a, u9c, u9e⟩ := o9.shape; subst u9e; have hz1 := q9.size; have HXa := hide ((Below.refl Z1.heap.size Z1).alloc (Nat.le_refl _) (.cells #[.slice u9a (tickX ((aheadC (fsrc xs us j 0 y.w).isSome (fcl xs j) y).foldl joinK []) y.w).length u9c] 44)); have hsX := HXa.out.size; have HD := hide ((o9.below HXa.out).up HXa.out.size); have HO9 := hide ((HO.out.grownP q9 hgB).below HXa.out); have HK9 := hide (k9.below HXa.out); have HBz := hide ((HB.out.grown q9 hsx (fun q hq => by injection hq with hq; omega)).trans (HXa.out.mono (by omega))); have hbx := hide (box_of (heap_alloc_new Z1 (.cells #[.slice u9a (tickX ((aheadC (fsrc xs us j 0 y.w).isSome (fcl xs j) y).foldl joinK []) y.w).length u9c] 44))).1; clear o9 q9 k9 HXa)
          | (at_builtin; refine Out.app rfl _ _ rfl B _ _ j (clkN xs j) (clkN_len xs j) _ us rfl HO9.out _ _ _ (tickX ((aheadC (fsrc xs us j 0 y.w).isSome (fcl xs j) y).foldl joinK []) y.w) rfl hbx.out HD.out (by omega) (Nat.le_refl _) hBr2 (by omega) ?_; intro g9 vc9 w9 o9 gr9 hq9; have HOE := hide o9; have HKE := hide (HK9.out.grown gr9 (fun e => by have := (hq9 _ e).1; omega)); have HBE := hide (HBz.out.grown gr9 (by omega) (fun q hq => by have := (hq9 q hq).1; omega)); have hB9 := gr9.size; clear o9 gr9 hq9)
          | fail)
        refine ⟨⟨j + 1, us ++ [.slice u9a (tickX ((aheadC (fsrc xs us j 0 y.w).isSome (fcl xs j) y).foldl joinK []) y.w).length u9c], some ⟨g9, 0, none⟩, vc9, by omega, by go_num, rfl, hide ?_, hide ?_, HBE, by omega⟩, by simp [intOf]; omega⟩
        · rw [clkN_succ, HNX.out]
          exact HOE.out
        · have h := HKE.out.congr (f' := fsrc xs (us ++ [.slice u9a (tickX ((aheadC (fsrc xs us j 0 y.w).isSome (fcl xs j) y).foldl joinK []) y.w).length u9c]) (j + 1)) (fun k i h1 h2 => fsrc_next HY.out (by rw [HO.out.1, clkN_len]) h1 h2)
          exact h
      · obtain rfl : j = xs.length := by omega
        have hnl : ¬ (xs.length : Int) < (xs.length : Int) := by omega
        have HD := hide HO.out.done
        go_wp2
        go_ret
        refine ⟨_, rfl, ?_, HB.out⟩
        rw [HX.out]
        exact HD.out.mono (by omega)
end Go.Proofs.Ytllghgcancennaa
/-
  Rows of clocks: compared, marked, what is held.
-/
namespace Go.Proofs.Ytllghgcancennaa
open Go.RowKit

def rwsG (cs : List (List Smp)) : Prop := cs.length ≤ 1048576 ∧ ∀ c ∈ cs, smpsG c
theorem rwsG_at {cs : List (List Smp)} (h : rwsG cs) {j : Nat} (hj : j < cs.length) : smpsG (cs.getD j []) := by
  rw [List.getD_eq_getElem?_getD, List.getElem?_eq_getElem hj]
  exact h.2 _ (List.getElem_mem hj)
def cntRws (cs : List (List Smp)) : Nat := tot cntSmps cs
def mkRws : Nat → List (List Smp) → List (List Smp)
  | _, [] => []
  | k, c :: cs => mkSmps k c :: mkRws (k + cntSmps c) cs
theorem mkRws_len : ∀ (k : Nat) (cs : List (List Smp)), (mkRws k cs).length = cs.length
  | _, [] => rfl
  | k, c :: cs => by simp [mkRws, mkRws_len _ cs]
theorem mkRws_get : ∀ (k : Nat) (cs : List (List Smp)) (j : Nat), j < cs.length → (mkRws k cs).getD j [] = mkSmps (k + tot cntSmps (cs.take j)) (cs.getD j [])
  | k, [], j, h => by simp at h
  | k, c :: cs, 0, h => by simp [mkRws, tot]
  | k, c :: cs, j + 1, h => by
    rw [mkRws, List.getD_cons_succ, mkRws_get _ cs j (by simpa using h), List.getD_cons_succ]
    congr 1
    unfold tot
    rw [List.take_succ_cons, List.map_cons, List.sum_cons]; omega
def mixC (k : Nat) (cs : List (List Smp)) (j : Nat) : List (List Smp) := (mkRws k cs).take j ++ cs.drop j
theorem mixC_len (k : Nat) (cs : List (List Smp)) {j : Nat} (h : j ≤ cs.length) : (mixC k cs j).length = cs.length := by
  unfold mixC
  rw [List.length_append, List.length_take, List.length_drop, mkRws_len]
  omega
theorem mixC_at (k : Nat) (cs : List (List Smp)) {j : Nat} (h : j < cs.length) : mixC k cs j = (mkRws k cs).take j ++ cs.getD j [] :: cs.drop (j + 1) := by
  unfold mixC
  rw [List.drop_eq_getElem_cons h, List.getD_eq_getElem?_getD, List.getElem?_eq_getElem h]
  rfl
theorem mixC_next (k : Nat) (cs : List (List Smp)) {j : Nat} (h : j < cs.length) : mixC k cs (j + 1) = (mkRws k cs).take j ++ mkSmps (k + tot cntSmps (cs.take j)) (cs.getD j []) :: cs.drop (j + 1) := by
  unfold mixC
  have hl : j < (mkRws k cs).length := by rw [mkRws_len]; exact h
  rw [List.take_succ_eq_append_getElem hl, List.append_assoc, ← mkRws_get k cs j h, List.getD_eq_getElem?_getD, List.getElem?_eq_getElem hl]
  rfl
theorem OwnDL.chg {w : World} {b hi : Nat} {c : Dt} {c1 c2 : List Dt} {v : Value} {v1 v2 : List Value} (h : OwnDL w b hi (c1 ++ c :: c2) (v1 ++ v :: v2)) (hl : v1.length = c1.length) :
    ∃ F', Owns w b c v F' ∧ F'.Nodup ∧ (∀ q ∈ F', b ≤ q ∧ q < hi) ∧ ∀ (c' : Dt) (w' : World), Owns w' b c' v F' → (∀ q, q < w.heap.size → q ∉ F' → w'.heap[q]? = w.heap[q]?) → OwnDL w' b hi (c1 ++ c' :: c2) (v1 ++ v :: v2) := by
  obtain ⟨F, h1, h2, h3⟩ := h
  obtain ⟨u1, u2, F1, F2, e, rfl, h4, h5⟩ := OwnsL.app h1
  obtain ⟨rfl, rfl⟩ := List.append_inj e (by rw [h4.len, hl])
  obtain ⟨y, us, G1, G2, e2, rfl, h6, h7⟩ := ownsL_cons h5
  cases e2
  have l1 := OwnsL.lt _ _ _ h4
  have l2 := OwnsL.lt _ _ _ h7
  have l3 := Owns.lt _ _ _ h6
  have nd := List.nodup_append.1 h2
  have nd2 := List.nodup_append.1 nd.2.1
  refine ⟨G1, h6, nd2.1, fun q hq => ⟨(l3 q hq).1, h3 q (by simp [hq])⟩, fun c' w' ho hs => ?_⟩
  have k1 := h4.same (fun q hq => hs q (l1 q hq).2 (fun hm => nd.2.2 q hq q (by simp [hm]) rfl))
  have k2 := h7.same (fun q hq => hs q (l2 q hq).2 (fun hm => nd2.2.2 q hm q hq rfl))
  exact ⟨F1 ++ (G1 ++ G2), k1.join (ownsL_mk ho k2), h2, h3⟩
theorem Out.of {w : World} {b hi : Nat} {cs : List (List Smp)} {v : Value} (h : OwnD w b hi (rws cs) v) : ∃ us, Out w b hi cs v us := by
  obtain ⟨F, h1, h2, h3⟩ := h
  have h4 : OwnDL w b hi [rws cs] [v] := ⟨F ++ [], ownsL_mk h1 ownsL_nil, by rw [List.append_nil]; exact h2, by rw [List.append_nil]; exact h3⟩
  unfold rws at h4
  obtain ⟨us, l1, _, h5⟩ := OwnDL.flat h4
  rw [List.append_nil, List.append_nil] at h5
  exact ⟨us, by rw [l1, List.length_map], h5⟩
/-- One clock of a row gives way to another in the same blocks. -/
theorem Out.chg {w : World} {b hi : Nat} {A B : List (List Smp)} {c : List Smp} {v : Value} {us : List Value} (h : Out w b hi (A ++ c :: B) v us) :
    ∃ F', Owns w b (smps c) (us.getD A.length undef) F' ∧ F'.Nodup ∧ (∀ q ∈ F', b ≤ q ∧ q < hi) ∧ ∀ (c' : List Smp) (w' : World), Owns w' b (smps c') (us.getD A.length undef) F' → (∀ q, q < w.heap.size → q ∉ F' → w'.heap[q]? = w.heap[q]?) → Out w' b hi (A ++ c' :: B) v us := by
  obtain ⟨hl, h2⟩ := h
  rw [List.length_append, List.length_cons] at hl
  have hlt : A.length < us.length := by omega
  have eu : us = us.take A.length ++ us.getD A.length undef :: us.drop (A.length + 1) := by
    rw [List.getD_eq_getElem?_getD, List.getElem?_eq_getElem hlt, Option.getD_some, ← List.drop_eq_getElem_cons hlt, List.take_append_drop]
  unfold outD at h2
  rw [List.map_append, List.map_cons] at h2
  have h3 : OwnDL w b hi ((.row 44 1 (A ++ c :: B).length (us.map .val) :: A.map smps) ++ smps c :: B.map smps) ((v :: us.take A.length) ++ us.getD A.length undef :: us.drop (A.length + 1)) := by
    rw [List.cons_append, List.cons_append, ← eu]
    exact h2
  obtain ⟨F', f1, f2, f3, f4⟩ := h3.chg (by simp; omega)
  refine ⟨F', f1, f2, f3, fun c' w' ho hs => ⟨by rw [List.length_append, List.length_cons]; omega, ?_⟩⟩
  have h5 := f4 (smps c') w' ho hs
  rw [List.cons_append, List.cons_append, ← eu] at h5
  unfold outD
  rw [List.map_append, List.map_cons]
  rw [show (A ++ c' :: B).length = (A ++ c :: B).length by simp]
  exact h5
theorem cntRws_le : ∀ {cs : List (List Smp)}, (∀ c ∈ cs, c.length ≤ 3000) → cntRws cs ≤ cs.length * 24000
  | [], _ => by simp [cntRws, tot]
  | c :: cs, h => by
    have h1 := cntRws_le (cs := cs) (fun d hd => h d (by simp [hd]))
    have h2 := h c (by simp)
    have h3 := cntSmps_le c
    unfold smpsW at h3
    unfold cntRws tot at h1 ⊢
    rw [List.map_cons, List.sum_cons, List.length_cons, Nat.succ_mul]
    omega
theorem clocksX_len (xs : List Evt) : (clocksX xs).length ≤ 3000 ∧ ∀ c ∈ clocksX xs, c.length ≤ 3000 ∧ smpsG c := by
  unfold clocksX
  split
  · rename_i h
    unfold evB at h
    rw [Bool.and_eq_true] at h
    have hx : xs.length ≤ 3000 := of_decide_eq_true h.2
    refine ⟨by rw [clkN_len]; exact hx, fun c hc => ?_⟩
    have hg := clkN_good xs _ (Nat.le_refl _) c hc
    exact ⟨Nat.le_trans hg.len hx, hg.g hx⟩
  · exact ⟨by simp, fun c hc => by cases hc⟩
theorem clocksX_ok (xs : List Evt) : rwsG (clocksX xs) := ⟨by have := (clocksX_len xs).1; omega, fun c hc => ((clocksX_len xs).2 c hc).2⟩
theorem clocksX_cnt (xs : List Evt) : cntRws (clocksX xs) ≤ 72000000 := by
  have h1 := clocksX_len xs
  have h2 := cntRws_le (fun c hc => (h1.2 c hc).1)
  have h3 := Nat.mul_le_mul_right 24000 h1.1
  omega
set_option maxRecDepth 100000 in
set_option maxHeartbeats 4000000 in
theorem eqRws (w : World) (v1 v2 : Value) (cs : List (List Smp)) (h1 : Reads w w.heap.size (rws cs) v1) (h2 : Reads w w.heap.size (rws cs) v2) (hg : rwsG cs) :
    Calls Try.prog 16 #[v1, v2] w fun e w' => e = .returned (.bool true) ∧ Below w.heap.size w w' := by
  have hm := hg.1
  have HX1 : Hid (∀ wr, Below w.heap.size w wr → _) := hide (fun wr hb => rws_at (h1.at hb))
  have HX2 : Hid (∀ wr, Below w.heap.size w wr → _) := hide (fun wr hb => rws_at (h2.at hb))
  have HG : Hid (∀ j, j < cs.length → smpsG (cs.getD j [])) := hide (fun j hj => rwsG_at hg hj)
  clear hg
  obtain ⟨a1, cap1, rfl, _⟩ := rws_at h1
  obtain ⟨a2, cap2, rfl, _⟩ := rws_at h2
  clear h1 h2
  generalize hn : cs.length = n at *
  have hne : ((n : Int) != (n : Int)) = false := by simp
  go_enter Try.func16, Try.ntmps16
  go_wp2
  go_loopw [5] (fun i wr => ∃ j : Nat, j ≤ n ∧ i = .int .i64 (j : Int) ∧ Hid (Below w.heap.size w wr)) (fun i _ => n - (intOf i).toNat)
  case atStart => exact ⟨0, Nat.zero_le _, rfl, hide (Below.refl _ _)⟩
  case round =>
    obtain ⟨j, hj, rfl, HB⟩ := hrel
    by_cases hlt : j < n
    · obtain ⟨a1', cap1', ea1, _, hx1⟩ := HX1.out wr HB.out
      cases ea1
      obtain ⟨b1, o1, rfl, hb1, hc1⟩ := hx1 (by omega)
      obtain ⟨a2', cap2', ea2, _, hx2⟩ := HX2.out wr HB.out
      cases ea2
      obtain ⟨b2, o2, rfl, hb2, hc2⟩ := hx2 (by omega)
      obtain ⟨u1, e1, r1⟩ := hc1 j (by omega)
      obtain ⟨u2, e2, r2⟩ := hc2 j (by omega)
      have HGc := hide (HG.out j hlt)
      clear hx1 hx2 hc1 hc2
      generalize cs.getD j [] = c at *
      obtain ⟨p1, q1, s1, _⟩ := r1.shape
      obtain ⟨p2, q2, s2, _⟩ := r2.shape
      subst s1 s2
      have R1 := hide r1
      have R2 := hide r2
      clear r1 r2
      have hltI : (j : Int) < (n : Int) := by omega
      go_upto_region 6 with fail
      have HS : Hid (∀ w', Below wr.heap.size wr w' → w'.cell? ⟨b1, o1 + j, none⟩ = some (.slice p1 c.length q1) ∧ w'.cell? ⟨b2, o2 + j, none⟩ = some (.slice p2 c.length q2)) := hide (fun w' hb => ⟨(hb.cell (p := ⟨b1, o1 + j, none⟩) hb1).trans e1, (hb.cell (p := ⟨b2, o2 + j, none⟩) hb2).trans e2⟩)
      have HD : Hid (Below wr.heap.size wr wr.drew) := hide (Below.refl wr.heap.size wr).drew
      clear e1 e2
      refine wp_region_held_drew (S := fun w' => w'.cell? ⟨b1, o1 + j, none⟩ = some (.slice p1 c.length q1) ∧ w'.cell? ⟨b2, o2 + j, none⟩ = some (.slice p2 c.length q2)) (by kernel_rfl) (HS.out _ HD.out) (fun hHeld => ?_)
      generalize wr.drew = x0 at HD hHeld ⊢
      refine wpAnyH_take (i := 0) (v := ?_) rfl (by kernel_rfl) (by kernel_rfl) (by kernel_rfl) (fun _ _ _ h => h) (Or.inl ⟨by rfl, ?_⟩) (by assumption) ?_
      rotate_left
      · intro w' hSw
        try dsimp only at hSw
        go_simp; try rfl
      simp only [List.getElem_toArray, List.getElem_cons_zero, Act.put, List.setIfInBounds_toArray, List.set_cons_zero, List.set_cons_succ]
      refine wpAnyH_take (i := 1) (v := ?_) rfl (by kernel_rfl) (by kernel_rfl) (by kernel_rfl) (fun _ _ _ h => h) (Or.inl ⟨by rfl, ?_⟩) (by assumption) ?_
      rotate_left
      · intro w' hSw
        try dsimp only at hSw
        go_simp; try rfl
      simp only [List.getElem_toArray, List.getElem_cons_succ, List.getElem_cons_zero, Act.put, List.setIfInBounds_toArray, List.set_cons_zero, List.set_cons_succ]
      refine wpAnyH_take (i := 2) (v := ?_) rfl (by kernel_rfl) (by kernel_rfl) (by kernel_rfl) (fun _ _ _ h => h) (Or.inl ⟨by rfl, ?_⟩) (by assumption) ?_
      rotate_left
      · intro w' hSw
        try dsimp only at hSw
        go_simp; try rfl
      simp only [List.getElem_toArray, List.getElem_cons_succ, List.getElem_cons_zero, Act.put, List.setIfInBounds_toArray, List.set_cons_zero, List.set_cons_succ]
      refine wpAnyH_take (i := 3) (v := ?_) rfl (by kernel_rfl) (by kernel_rfl) (by kernel_rfl) (fun _ _ _ h => h) (Or.inl ⟨by rfl, ?_⟩) (by assumption) ?_
      rotate_left
      · intro w' hSw
        try dsimp only at hSw
        go_simp; try rfl
      simp only [List.getElem_toArray, List.getElem_cons_succ, List.getElem_cons_zero, Act.put, List.setIfInBounds_toArray, List.set_cons_zero, List.set_cons_succ]
      refine wpAnyH_take (i := 4) (v := ?_) rfl (by kernel_rfl) (by kernel_rfl) (by kernel_rfl) (fun _ _ _ h => h) (Or.inl ⟨by rfl, ?_⟩) (by assumption) ?_
      rotate_left
      · intro w' hSw
        try dsimp only at hSw
        go_simp; try rfl
      simp only [List.getElem_toArray, List.getElem_cons_succ, List.getElem_cons_zero, Act.put, List.setIfInBounds_toArray, List.set_cons_zero, List.set_cons_succ]
      refine wpAnyH_take (i := 5) (v := ?_) rfl (by kernel_rfl) (by kernel_rfl) (by kernel_rfl) (fun _ _ _ h => h) (Or.inl ⟨by rfl, ?_⟩) (by assumption) ?_
      rotate_left
      · intro w' hSw
        try dsimp only at hSw
        go_simp; try rfl
      simp only [List.getElem_toArray, List.getElem_cons_succ, List.getElem_cons_zero, Act.put, List.setIfInBounds_toArray, List.set_cons_zero, List.set_cons_succ]
      refine wpAnyH_take (i := 6) (v := ?_) rfl (by kernel_rfl) (by kernel_rfl) (by kernel_rfl) (fun _ _ _ h => h) (Or.inl ⟨by rfl, ?_⟩) (by assumption) ?_
      rotate_left
      · intro w' hSw
        try dsimp only at hSw
        go_simp; try rfl
      simp only [List.getElem_toArray, List.getElem_cons_succ, List.getElem_cons_zero, Act.put, List.setIfInBounds_toArray, List.set_cons_zero, List.set_cons_succ]
      refine wpAnyH_take (i := 7) (v := ?_) rfl (by kernel_rfl) (by kernel_rfl) (by kernel_rfl) (fun _ _ _ h => h) (Or.inl ⟨by rfl, ?_⟩) (by assumption) ?_
      rotate_left
      · intro w' hSw
        try dsimp only at hSw
        go_simp; try rfl
      simp only [List.getElem_toArray, List.getElem_cons_succ, List.getElem_cons_zero, Act.put, List.setIfInBounds_toArray, List.set_cons_zero, List.set_cons_succ]
      refine wpAnyH_ready (rs := [8]) (by kernel_rfl) (by simp) (AllReadyH.cons rfl (fun K hK => ?_) AllReadyH.nil)
      refine step_callW (some 25) rfl (by kernel_rfl) 41 _ _ rfl #[.slice p1 c.length q1, .slice p2 c.length q2] (by kernel_rfl) (eqSmps _ _ _ c (R1.out.at HD.out) (R2.out.at HD.out) HGc.out) ?_
      rintro e x1 ⟨rfl, b1⟩
      refine ⟨_, rfl, ?_⟩
      replace HD := hide (HD.out.trans (b1.mono HD.out.size))
      clear b1
      refine hK.out _ _ (HS.out _ HD.out) (fun hHeld => ?_)
      clear hK K
      simp only [Act.put, List.setIfInBounds_toArray, List.set_cons_zero, List.set_cons_succ]
      refine wpAnyH_take (i := 9) (v := ?_) rfl (by kernel_rfl) (by kernel_rfl) (by kernel_rfl) (fun _ _ _ h => h) (Or.inl ⟨by rfl, ?_⟩) (by assumption) ?_
      rotate_left
      · intro w' hSw
        try dsimp only at hSw
        go_simp; try rfl
      simp only [List.getElem_toArray, List.getElem_cons_succ, List.getElem_cons_zero, Act.put, List.setIfInBounds_toArray, List.set_cons_zero, List.set_cons_succ]
      refine wpAnyH_done (by kernel_rfl) ?_ _
      have HB2 := hide (HB.out.trans (HD.out.mono HB.out.size))
      go_wp2
      exact ⟨⟨j + 1, hlt, by go_num, HB2⟩, by simp [intOf]; omega⟩
    · obtain rfl : j = n := by omega
      go_wp2
      go_ret
      exact ⟨rfl, HB.out⟩
set_option maxRecDepth 100000 in
set_option maxHeartbeats 4000000 in
theorem mkRwsI (w : World) (b hi K : Nat) (m : Int) (hmK : m = (K : Int)) (v : Value) (cs : List (List Smp)) (h : OwnD w b hi (rws cs) v) (hK : 0 < K) (hm : K + cntRws cs ≤ 100000000) (hn : cs.length ≤ 1048576 := by omega) :
    Calls Try.prog 18 #[v, .int .i64 m] w fun e w' => e = .returned (.int .i64 ((K + cntRws cs : Nat) : Int)) ∧ OwnD w' b hi (rws (mkRws K cs)) v ∧ ChgI b hi w w' := by
  subst hmK
  obtain ⟨us, ho⟩ := Out.of h
  have HCN : Hid (cntRws cs = tot cntSmps cs) := hide rfl
  rw [HCN.out] at hm
  have HO0 : Hid (Out w b hi (mixC K cs 0) v us) := hide (by unfold mixC; exact ho)
  have HTS : Hid (∀ j, j < cs.length → tot cntSmps (cs.take (j + 1)) = tot cntSmps (cs.take j) + cntSmps (cs.getD j [])) := hide (fun j hj => tot_step _ cs j hj)
  have HTL : Hid (∀ j, tot cntSmps (cs.take j) ≤ tot cntSmps cs) := hide (tot_le _ cs)
  have HTE : Hid (tot cntSmps (cs.take cs.length) = tot cntSmps cs) := hide (by rw [List.take_length])
  have HEN : Hid (mixC K cs cs.length = mkRws K cs) := hide (by unfold mixC; rw [List.drop_length, List.append_nil, ← mkRws_len K cs, List.take_length])
  obtain ⟨a, cap, rfl⟩ := ho.shape
  clear h ho
  generalize hn' : cs.length = n at *
  have HN := hide hn'
  clear hn'
  go_enter Try.func18, Try.ntmps18
  go_wp2
  go_loopw [1, 5] (fun q i wr => ∃ j : Nat, j ≤ n ∧ q = .int .i64 ((K + tot cntSmps (cs.take j) : Nat) : Int) ∧ i = .int .i64 (j : Int) ∧ Hid (Out wr b hi (mixC K cs j) (.slice a n cap) us) ∧ Hid (ChgI b hi w wr)) (fun _ i _ => n - (intOf i).toNat)
  case atStart => exact ⟨0, Nat.zero_le _, by simp [tot], rfl, HO0, hide ⟨rfl, rfl, rfl, Nat.le_refl _, fun _ _ _ => rfl⟩⟩
  case round =>
    clear HO0
    obtain ⟨j, hj, rfl, rfl, HO, HC⟩ := hrel
    by_cases hlt : j < n
    · have hlt' : j < cs.length := by have := HN.out; omega
      have hts := HTS.out j hlt
      have htl := HTL.out (j + 1)
      have HMN := hide (mixC_next K cs hlt')
      have hml := mixC_len K cs (Nat.le_of_lt hlt')
      obtain ⟨g3, o3, c3, e3, hc3⟩ := HO.out.cell (j := j) (by omega)
      rw [hml, HN.out] at e3
      cases e3
      have hO := HO.out
      rw [mixC_at K cs hlt'] at hO
      obtain ⟨F', f1, f2, f3, f4⟩ := hO.chg
      have hA : ((mkRws K cs).take j).length = j := by rw [List.length_take, mkRws_len]; omega
      rw [hA] at f1 f4
      obtain ⟨q, hq⟩ : ∃ q, K + tot cntSmps (cs.take j) = q := ⟨_, rfl⟩
      rw [hq] at HMN ⊢
      obtain ⟨c, hc⟩ : ∃ c, cs.getD j [] = c := ⟨_, rfl⟩
      rw [hc] at hts HMN f1
      obtain ⟨u, hu⟩ : ∃ u, us.getD j undef = u := ⟨_, rfl⟩
      rw [hu] at hc3 f1 f4
      have HF4 := hide f4
      have HF3 := hide f3
      have hq0 : 0 < q := by omega
      have hqm : q + cntSmps c ≤ 100000000 := by omega
      have HEND : Hid (K + tot cntSmps (cs.take (j + 1)) = q + cntSmps c) := hide (by omega)
      have hltI : (j : Int) < (n : Int) := by omega
      clear f3 f4 hts htl hml hO hA hc hu
      have HCL := hide (mkSmpsR wr b q (q : Int) rfl u c F' f1 f2 hq0 hqm)
      clear f1 f2
      go_wp2_with fail
      refine HCL.out.mono ?_
      rintro e w1 ⟨rfl, o1, c1⟩
      have HO1 : Hid (Out w1 b hi (mixC K cs (j + 1)) (.slice (some ⟨g3, o3, none⟩) n cap) us) := hide (by rw [HMN.out]; exact HF4.out _ w1 o1 c1.block)
      have HC1 : Hid (ChgI b hi w w1) := hide (by
        have k := c1.int HF3.out
        have h0 := HC.out
        exact ⟨k.os.trans h0.os, k.tape.trans h0.tape, k.output.trans h0.output, Nat.le_trans h0.size k.size, fun q hq hr => (k.block q (Nat.lt_of_lt_of_le hq h0.size) hr).trans (h0.block q hq hr)⟩)
      clear o1 c1 HO HC hc3
      go_wp2
      exact ⟨⟨j + 1, hlt, by rw [HEND.out]; first | rfl | exact congrArg (Value.int .i64) (by omega), by go_num, HO1, HC1⟩, by simp [intOf]; omega⟩
    · obtain rfl : j = n := by omega
      have HE9 : Hid (K + tot cntSmps (cs.take j) = K + cntRws cs) := hide (by rw [HCN.out, HTE.out])
      have HD9 := hide HO.out.done
      go_wp2
      go_ret
      refine ⟨by rw [HE9.out]; rfl, ?_, HC.out⟩
      rw [← HEN.out]
      exact HD9.out
set_option maxRecDepth 100000 in
set_option maxHeartbeats 4000000 in
theorem heldRwsR (w : World) (K : Nat) (m : Int) (hmK : m = (K : Int)) (v : Value) (cs : List (List Smp)) (h : Reads w w.heap.size (rws (mkRws K cs)) v) (hK : 0 < K) (hm : K + cntRws cs ≤ 100000000) (hn : cs.length ≤ 1048576 := by omega) :
    Calls Try.prog 19 #[v, .int .i64 m] w fun e w' => e = .returned (.int .i64 ((K + cntRws cs : Nat) : Int)) ∧ Below w.heap.size w w' := by
  subst hmK
  have HCN : Hid (cntRws cs = tot cntSmps cs) := hide rfl
  rw [HCN.out] at hm ⊢
  have HX : Hid (∀ wr, Below w.heap.size w wr → _) := hide (fun wr hb => rws_at (h.at hb))
  have HTS : Hid (∀ j, j < cs.length → tot cntSmps (cs.take (j + 1)) = tot cntSmps (cs.take j) + cntSmps (cs.getD j [])) := hide (fun j hj => tot_step _ cs j hj)
  have HTL : Hid (∀ j, tot cntSmps (cs.take j) ≤ tot cntSmps cs) := hide (fun j => tot_le _ cs j)
  have HGt : Hid (∀ j, j < cs.length → (mkRws K cs).getD j [] = mkSmps (K + tot cntSmps (cs.take j)) (cs.getD j [])) := hide (fun j hj => mkRws_get K cs j hj)
  have HTE : Hid (tot cntSmps (cs.take cs.length) = tot cntSmps cs) := hide (by rw [List.take_length])
  have HLe := hide (mkRws_len K cs)
  obtain ⟨a, cap, rfl, hlc, _⟩ := rws_at h
  rw [mkRws_len] at hlc ⊢
  clear h
  obtain ⟨n, hn'⟩ : ∃ n, cs.length = n := ⟨_, rfl⟩
  rw [hn'] at hlc hn ⊢
  have HLn := hide hn'
  clear hn'
  go_enter Try.func19, Try.ntmps19
  go_wp2
  go_loopw [1, 5] (fun q i wr => ∃ j : Nat, j ≤ n ∧ q = .int .i64 ((K + tot cntSmps (cs.take j) : Nat) : Int) ∧ i = .int .i64 (j : Int) ∧ Hid (Below w.heap.size w wr)) (fun _ i _ => n - (intOf i).toNat)
  case atStart => exact ⟨0, Nat.zero_le _, by simp [tot], rfl, hide (Below.refl _ _)⟩
  case round =>
    obtain ⟨j, hj, rfl, rfl, HB⟩ := hrel
    by_cases hlt : j < n
    · have hlt' : j < cs.length := by have := HLn.out; omega
      have hts := HTS.out j hlt'
      have htl := HTL.out (j + 1)
      have hgt := HGt.out j hlt'
      obtain ⟨q, hq⟩ : ∃ q, K + tot cntSmps (cs.take j) = q := ⟨_, rfl⟩
      obtain ⟨c, hc⟩ : ∃ c, cs.getD j [] = c := ⟨_, rfl⟩
      rw [hc] at hts hgt
      rw [hq] at hgt ⊢
      have hq0 : 0 < q := by omega
      have hqm : q + cntSmps c ≤ 100000000 := by omega
      have HEND : Hid (K + tot cntSmps (cs.take (j + 1)) = q + cntSmps c) := hide (by omega)
      obtain ⟨a', cap', ea, _, hx⟩ := HX.out wr HB.out
      rw [HLe.out, HLn.out] at ea hx
      cases ea
      obtain ⟨b, o, rfl, hbb, hcc⟩ := hx (by omega)
      obtain ⟨u, hcu, hru⟩ := hcc j (by omega)
      rw [hgt] at hru
      have HCL := hide (heldSmpsR wr q (q : Int) rfl u c hru hq0 hqm)
      have hltI : (j : Int) < (n : Int) := by omega
      have hnn : ¬ ((q + cntSmps c : Nat) : Int) < 0 := by omega
      clear hx hcc hru hts htl hgt hc
      go_wp2_with fail
      refine HCL.out.mono ?_
      rintro e w1 ⟨rfl, b1⟩
      have HB1 := hide (HB.out.trans (b1.mono HB.out.size))
      clear b1 HB hcu
      go_wp2
      exact ⟨⟨j + 1, hlt, by rw [HEND.out]; first | rfl | exact congrArg (Value.int .i64) (by omega), by go_num, HB1⟩, by simp [intOf]; omega⟩
    · obtain rfl : j = n := by omega
      have HE9 : Hid (K + tot cntSmps (cs.take j) = K + tot cntSmps cs) := hide (by rw [← HLn.out, HTE.out])
      go_wp2
      go_ret
      exact ⟨by rw [HE9.out]; rfl, HB.out⟩
end Go.Proofs.Ytllghgcancennaa
