/-
  Joined: PrgF, MakP.
-/
import Derived.Test.YtelpdlhgjepgbaaGreatJ6
import Derived.Test.YtelpdlhgjepgbaaGreatJ24
import Derived.Test.YtelpdlhgjepgbaaGreatJ32
import Derived.Test.YtelpdlhgjepgbaaGreatKInsR
import Derived.Deep.RegionWith
/-
  What is looked up in a program by its name: what it is, and what the model and the program do.
-/
namespace Go.Proofs.YtelpdlhgjepgbaaGreat
open Go.RowKit

/-- The first of a row that is so; -1. -/
def atFst {α : Type} (f : α → Bool) (xs : List α) : Int := match xs.findIdx? f with | some i => (i : Int) | none => -1
theorem atFst_hit {α : Type} [Inhabited α] {f : α → Bool} {xs : List α} {j : Nat} (hj : j < xs.length) (h : f (xs.getD j default) = true) (h0 : ∀ i, i < j → f (xs.getD i default) = false) : atFst f xs = (j : Int) := by
  have e : xs.findIdx? f = some j := by
    rw [List.findIdx?_eq_some_iff_getElem]
    refine ⟨hj, ?_, fun i hi => ?_⟩
    · simpa [hj] using h
    · have := h0 i hi
      have hi' : i < xs.length := by omega
      simpa [hi'] using this
  unfold atFst
  rw [e]
theorem atFst_no {α : Type} [Inhabited α] {f : α → Bool} {xs : List α} (h0 : ∀ i, i < xs.length → f (xs.getD i default) = false) : atFst f xs = -1 := by
  have e : xs.findIdx? f = none := by
    rw [List.findIdx?_eq_none_iff]
    exact fun y hy => all_of_getD (Q := fun y => f y = false) h0 y hy
  unfold atFst
  rw [e]
theorem atFst_le {α : Type} (f : α → Bool) (xs : List α) : -1 ≤ atFst f xs ∧ atFst f xs < xs.length := by
  unfold atFst
  split
  · rename_i i h
    obtain ⟨h, _⟩ := List.findIdx?_eq_some_iff_getElem.1 h
    omega
  · omega
def kindX (ks : List Kd) (s : ByteArray) : Int := atFst (fun y => y.n.toList == s.toList) ks
def fieldX (fs : List Fd) (s : ByteArray) : Int := atFst (fun y => y.n.toList == s.toList) fs
def methX (ms : List Co) (s : ByteArray) : Int := atFst (fun y => y.n.toList == s.toList) ms
def fieldOfX (ks : List Kd) (k : Int) (s : ByteArray) : Int := if inB k 0 ((ks.length : Int) - 1) then fieldX (ks.getD k.toNat default).f s else -1
def methOfX (ks : List Kd) (k : Int) (s : ByteArray) : Int := if inB k 0 ((ks.length : Int) - 1) then methX (ks.getD k.toNat default).m s else -1
/-- From a up to b in n steps. -/
def subL (ks : List Kd) (b : Int) : Nat → Int → Bool
  | 0, _ => false
  | n + 1, a => if inB a 0 ((ks.length : Int) - 1) then (if a = b then true else subL ks b n (ks.getD a.toNat default).s) else false
def subX (ks : List Kd) (a b : Int) : Bool := subL ks b 7 a
theorem subL_no {ks : List Kd} {b : Int} (h : inB b 0 ((ks.length : Int) - 1) = false) : ∀ (n : Nat) (a : Int), subL ks b n a = false
  | 0, _ => rfl
  | n + 1, a => by
    unfold subL
    split
    · rename_i h1
      split
      · rename_i h2
        subst h2
        rw [h] at h1
        cases h1
      · exact subL_no h n _
    · rfl
end Go.Proofs.YtelpdlhgjepgbaaGreat
/-
  One memory in the program: an element put in order.
-/
namespace Go.Proofs.YtelpdlhgjepgbaaGreat
open Go.RowKit

theorem step_callV {P : Program} {ops : Array Oper} {o : Oper} {a : Act} {w : World} {K : Act → World → Prop} {Q : Exit → Act → World → Prop} {E : Prop} {R : Ending → World → Prop} (d : Option Tmp) (hd : o.dst = d) (hw : Region.wanted o (yielded ops a.tmps) = true)
    (f : FuncId) (args : Array Value) (hrun : (execOp a.eval o).run P w = .ok (.enter f args) w) (hc : Calls P f args w R) (h : ∀ e w', R e w' → ∃ v, e = .returned v ∧ K (a.put d v) w') :
    if Region.wanted o (yielded ops a.tmps) = true then Oper.wp P o a w K Q else E := by
  subst hd
  rw [if_pos hw]
  unfold Oper.wp
  rw [hrun, Oper.upon_enter]
  refine hc.mono fun e w' hh => ?_
  obtain ⟨v, rfl, hk⟩ := h e w' hh
  exact hk
theorem below_grown {w w' : World} (hb : Below w.heap.size w w') (row : Option Nat) : w.grownBy w' row := ⟨hb.os, hb.tape, hb.output, hb.size, fun k hk _ => hb.block k hk⟩
def gtB (q : Int) (y : Ob) : Bool := decide (q < y.i)
theorem gtAt (o : Ob) (xs : List Ob) : ∃ K : Nat, K ≤ xs.length ∧ insO o xs = xs.take K ++ o :: xs.drop K ∧ ((K < xs.length ∧ atFst (gtB o.i) xs = (K : Int)) ∨ (K = xs.length ∧ atFst (gtB o.i) xs = -1)) := by
  unfold atFst
  cases h : xs.findIdx? (gtB o.i) with
  | none =>
    rw [List.findIdx?_eq_none_iff] at h
    refine ⟨xs.length, Nat.le_refl _, ?_, .inr ⟨rfl, rfl⟩⟩
    rw [List.take_length, List.drop_length]
    exact insO_all (fun y hy hlt => by have := h y hy; unfold gtB at this; simp at this; omega)
  | some i =>
    obtain ⟨hi, h1, h2⟩ := List.findIdx?_eq_some_iff_getElem.1 h
    refine ⟨i, Nat.le_of_lt hi, insO_split (Nat.le_of_lt hi) (fun k hk hlt => ?_) (fun _ => ?_), .inl ⟨hi, rfl⟩⟩
    · have := h2 k hk
      have hk' : k < xs.length := by omega
      rw [List.getD_eq_getElem?_getD, List.getElem?_eq_getElem hk', Option.getD_some] at hlt
      unfold gtB at this
      simp at this
      omega
    · rw [List.getD_eq_getElem?_getD, List.getElem?_eq_getElem hi, Option.getD_some]
      unfold gtB at h1
      simpa using h1
set_option maxRecDepth 100000 in
set_option maxHeartbeats 4000000 in
theorem numI (w : World) (a b : Int) (u : Value) :
    Calls Tryz.prog 49 #[.agg #[.int .i64 a, .int .i64 b, u]] w fun e w' => e = .returned (.int .i64 a) ∧ Below w.heap.size w w' := by
  go_enter Tryz.func49, Tryz.ntmps49
  go_wp2
  go_ret
  exact ⟨rfl, (Below.refl _ _).alloc (Nat.le_refl _) _⟩
set_option maxRecDepth 100000 in
set_option maxHeartbeats 8000000 in
theorem gtC (w : World) (a b : Int) (u : Value) (pn px : Nat) (q c : Int) (v : Value) (hn : w.cell? ⟨pn, 0, none⟩ = some (.func (.func 49) #[] #[])) (h0 : w.cell? ⟨px, 0, none⟩ = some (.int .i64 q)) (h1 : w.cell? ⟨px, 1, none⟩ = some (.int .i64 c)) (h2 : w.cell? ⟨px, 2, none⟩ = some v) (hl1 : pn < w.heap.size) (hl2 : px < w.heap.size) :
    Calls Tryz.prog 71 #[.agg #[.int .i64 a, .int .i64 b, u], .pointer (some ⟨pn, 0, none⟩), .pointer (some ⟨px, 0, none⟩)] w fun e w' => e = .returned (.bool (decide (q < a))) ∧ Below w.heap.size w w' := by
  have HN := hide hn
  have HZ0 := hide h0
  have HZ1 := hide h1
  have HZ2 := hide h2
  have bA := ((Below.refl w.heap.size w).alloc (Nat.le_refl _) (.cells #[.int .i64 a, .int .i64 b, u] 54))
  have G0 := heap_alloc_new w (.cells #[.int .i64 a, .int .i64 b, u] 54)
  have E0 := hide (G0)
  have HB := hide bA
  replace HN := hide ((bA.cell (p := ⟨pn, 0, none⟩) hl1).trans HN.out)
  replace HZ0 := hide ((bA.cell (p := ⟨px, 0, none⟩) hl2).trans HZ0.out)
  replace HZ1 := hide ((bA.cell (p := ⟨px, 1, none⟩) hl2).trans HZ1.out)
  replace HZ2 := hide ((bA.cell (p := ⟨px, 2, none⟩) hl2).trans HZ2.out)
  clear bA G0 hn h0 h1 h2
  go_enter Tryz.func71, Tryz.ntmps71
  go_upto_region 1 with fail
  generalize (w.alloc (.cells #[.int .i64 a, .int .i64 b, u] 54)) = W at *
  have hsB := HB.out.size
  have hE0 := (Array.getElem?_eq_some_iff.1 E0.out).1
  have HCL : Hid (∀ w', Below W.heap.size W w' → w'.cell? ⟨pn, 0, none⟩ = some (.func (.func 49) #[] #[]) ∧ w'.cell? ⟨w.heap.size, 0, none⟩ = some (.int .i64 a) ∧ w'.cell? ⟨w.heap.size, 1, none⟩ = some (.int .i64 b) ∧ w'.cell? ⟨w.heap.size, 2, none⟩ = some u ∧ w'.cell? ⟨px, 0, none⟩ = some (.int .i64 q) ∧ w'.cell? ⟨px, 1, none⟩ = some (.int .i64 c) ∧ w'.cell? ⟨px, 2, none⟩ = some v) := hide (fun w' hb => ⟨(hb.cell (p := ⟨pn, 0, none⟩) (by dsimp only; omega)).trans HN.out, (box_of ((hb.block _ hE0).trans E0.out)).1 0 _ rfl, (box_of ((hb.block _ hE0).trans E0.out)).1 1 _ rfl, (box_of ((hb.block _ hE0).trans E0.out)).1 2 _ rfl, (hb.cell (p := ⟨px, 0, none⟩) (by dsimp only; omega)).trans HZ0.out, (hb.cell (p := ⟨px, 1, none⟩) (by dsimp only; omega)).trans HZ1.out, (hb.cell (p := ⟨px, 2, none⟩) (by dsimp only; omega)).trans HZ2.out⟩)
  clear HN HZ0 HZ1 HZ2
  have HW := hide (Below.refl W.heap.size W).drew
  refine wp_region_held_drew (S := fun w' => w'.cell? ⟨pn, 0, none⟩ = some (.func (.func 49) #[] #[]) ∧ w'.cell? ⟨w.heap.size, 0, none⟩ = some (.int .i64 a) ∧ w'.cell? ⟨w.heap.size, 1, none⟩ = some (.int .i64 b) ∧ w'.cell? ⟨w.heap.size, 2, none⟩ = some u ∧ w'.cell? ⟨px, 0, none⟩ = some (.int .i64 q) ∧ w'.cell? ⟨px, 1, none⟩ = some (.int .i64 c) ∧ w'.cell? ⟨px, 2, none⟩ = some v) (by kernel_rfl) (HCL.out _ HW.out) (fun hHeld => ?_)
  generalize W.drew = Z0 at *
  refine wpAnyH_take (i := 0) (v := ?_) rfl (by kernel_rfl) (by kernel_rfl) (by kernel_rfl) (fun _ _ _ h => h) (Or.inl ⟨by rfl, ?_⟩) (by assumption) ?_
  rotate_left
  · intro w' hSw
    try dsimp only at hSw
    go_simp; try rfl
  simp only [List.getElem_toArray, List.getElem_cons_zero, Act.put, List.setIfInBounds_toArray, List.set_cons_zero, List.set_cons_succ]
  refine wpAnyH_take (i := 1) (v := ?_) rfl (by kernel_rfl) (by kernel_rfl) (by kernel_rfl) (fun _ _ _ h => h) (Or.inl ⟨by rfl, ?_⟩) (by assumption) ?_
  rotate_left
  · intro w' hSw
    try dsimp only at hSw
    go_simp; try rfl
  simp only [List.getElem_toArray, List.getElem_cons_succ, List.getElem_cons_zero, Act.put, List.setIfInBounds_toArray, List.set_cons_zero, List.set_cons_succ]
  refine wpAnyH_take (i := 3) (v := ?_) rfl (by kernel_rfl) (by kernel_rfl) (by kernel_rfl) (fun _ _ _ h => h) (Or.inl ⟨by rfl, ?_⟩) (by assumption) ?_
  rotate_left
  · intro w' hSw
    try dsimp only at hSw
    go_simp; try rfl
  simp only [List.getElem_toArray, List.getElem_cons_succ, List.getElem_cons_zero, Act.put, List.setIfInBounds_toArray, List.set_cons_zero, List.set_cons_succ]
  refine wpAnyH_take (i := 4) (v := ?_) rfl (by kernel_rfl) (by kernel_rfl) (by kernel_rfl) (fun _ _ _ h => h) (Or.inl ⟨by rfl, ?_⟩) (by assumption) ?_
  rotate_left
  · intro w' hSw
    try dsimp only at hSw
    go_simp; try rfl
  simp only [List.getElem_toArray, List.getElem_cons_succ, List.getElem_cons_zero, Act.put, List.setIfInBounds_toArray, List.set_cons_zero, List.set_cons_succ]
  refine wpAnyH_ready (rs := [2]) (by kernel_rfl) (by simp) (AllReadyH.cons rfl (fun K hK => ?_) AllReadyH.nil)
  refine step_callV (some 7) (by kernel_rfl) (by kernel_rfl) 49 #[.agg #[.int .i64 a, .int .i64 b, u]] (by kernel_rfl) (numI _ _ _ _) ?_
  rintro e Z1 ⟨rfl, b9⟩
  replace HW := hide (HW.out.trans (b9.mono HW.out.size))
  clear b9
  refine ⟨_, rfl, ?_⟩
  refine hK.out _ _ (HCL.out _ HW.out) (fun hHeld => ?_)
  clear hK K
  simp only [Act.put, List.setIfInBounds_toArray, List.set_cons_zero, List.set_cons_succ]
  refine wpAnyH_ready (rs := [5]) (by kernel_rfl) (by simp) (AllReadyH.cons rfl (fun K hK => ?_) AllReadyH.nil)
  refine step_callV (some 10) (by kernel_rfl) (by kernel_rfl) 49 #[.agg #[.int .i64 q, .int .i64 c, v]] (by kernel_rfl) (numI _ _ _ _) ?_
  rintro e Z2 ⟨rfl, b9⟩
  replace HW := hide (HW.out.trans (b9.mono HW.out.size))
  clear b9
  refine ⟨_, rfl, ?_⟩
  refine hK.out _ _ (HCL.out _ HW.out) (fun hHeld => ?_)
  clear hK K
  simp only [Act.put, List.setIfInBounds_toArray, List.set_cons_zero, List.set_cons_succ]
  refine wpAnyH_take (i := 6) (v := ?_) rfl (by kernel_rfl) (by kernel_rfl) (by kernel_rfl) (fun _ _ _ h => h) (Or.inl ⟨by rfl, ?_⟩) (by assumption) ?_
  rotate_left
  · intro w' hSw
    try dsimp only at hSw
    go_simp; try rfl
  simp only [List.getElem_toArray, List.getElem_cons_succ, List.getElem_cons_zero, Act.put, List.setIfInBounds_toArray, List.set_cons_zero, List.set_cons_succ]
  refine wpAnyH_take (i := 7) (v := ?_) rfl (by kernel_rfl) (by kernel_rfl) (by kernel_rfl) (fun _ _ _ h => h) (Or.inl ⟨by rfl, ?_⟩) (by assumption) ?_
  rotate_left
  · intro w' hSw
    try dsimp only at hSw
    go_simp; try rfl
  simp only [List.getElem_toArray, List.getElem_cons_succ, List.getElem_cons_zero, Act.put, List.setIfInBounds_toArray, List.set_cons_zero, List.set_cons_succ]
  refine wpAnyH_done (by kernel_rfl) ?_ _
  go_wp2
  go_ret
  exact ⟨rfl, HB.out.trans (HW.out.mono hsB)⟩
set_option maxRecDepth 100000 in
set_option maxHeartbeats 8000000 in
theorem idxGt (w : World) (v : Value) (xs : List Ob) (pn px : Nat) (q c : Int) (v9 : Value) (h : Reads w w.heap.size (obs xs) v) (hm : xs.length ≤ 2000000) (hn0 : w.cell? ⟨pn, 0, none⟩ = some (.func (.func 49) #[] #[])) (h0 : w.cell? ⟨px, 0, none⟩ = some (.int .i64 q)) (h1 : w.cell? ⟨px, 1, none⟩ = some (.int .i64 c)) (h2 : w.cell? ⟨px, 2, none⟩ = some v9) (hl1 : pn < w.heap.size) (hl2 : px < w.heap.size) :
    Calls Tryz.prog 70 #[v, .func (.func 71) #[] #[.pointer (some ⟨pn, 0, none⟩), .pointer (some ⟨px, 0, none⟩)]] w fun e w' => e = .returned (.int .i64 (atFst (gtB q) xs)) ∧ Below w.heap.size w w' := by
  have HX : Hid (∀ wr, Below w.heap.size w wr → _) := hide (fun wr hb => object_at (h.at hb))
  have HY : Hid (∀ j, j < xs.length → gtB q (xs.getD j default) = true → (∀ i, i < j → gtB q (xs.getD i default) = false) → atFst (gtB q) xs = (j : Int)) := hide (fun j hj h h0 => atFst_hit hj h h0)
  have HN : Hid ((∀ i, i < xs.length → gtB q (xs.getD i default) = false) → atFst (gtB q) xs = -1) := hide (fun h0 => atFst_no h0)
  have HQ := hide (And.intro hn0 (And.intro h0 (And.intro h1 h2)))
  obtain ⟨a, cap, rfl, _⟩ := object_at h
  clear h hn0 h0 h1 h2
  generalize hn : xs.length = n at *
  generalize atFst (gtB q) xs = V at *
  go_enter Tryz.func70, Tryz.ntmps70
  go_wp2
  go_loopw [8] (fun i wr => ∃ j : Nat, j ≤ n ∧ i = .int .i64 (j : Int) ∧ Hid (∀ i, i < j → gtB q (xs.getD i default) = false) ∧ Hid (Below w.heap.size w wr)) (fun i _ => n - (intOf i).toNat)
  case atStart => exact ⟨0, Nat.zero_le _, rfl, hide (fun i hi => by omega), hide (Below.refl _ _)⟩
  case round =>
    obtain ⟨j, hj, rfl, HR, HB⟩ := hrel
    by_cases hlt : j < n
    · obtain ⟨a', cap', ea, _, _, hc⟩ := HX.out wr HB.out
      cases ea
      obtain ⟨b, o, rfl, _, hcell⟩ := hc (by omega)
      obtain ⟨pv1, e0, e1, e2, r1⟩ := hcell j hlt
      clear hcell hc
      obtain ⟨x, hx⟩ : ∃ x, xs.getD j default = x := ⟨_, rfl⟩
      rw [hx] at e0 e1 r1
      obtain ⟨aa1, cc1, ea1, _⟩ := r1.shape
      subst ea1
      clear r1
      have HX9 := hide hx
      have hsz := HB.out.size
      clear hx
      go_wp2_with fail
      refine (gtC _ _ _ _ pn px q c v9 ((HB.out.cell (p := ⟨pn, 0, none⟩) hl1).trans HQ.out.1) ((HB.out.cell (p := ⟨px, 0, none⟩) hl2).trans HQ.out.2.1) ((HB.out.cell (p := ⟨px, 1, none⟩) hl2).trans HQ.out.2.2.1) ((HB.out.cell (p := ⟨px, 2, none⟩) hl2).trans HQ.out.2.2.2) (by omega) (by omega)).mono ?_
      rintro e w1 ⟨rfl, b1⟩
      replace HB := hide (HB.out.trans (b1.mono HB.out.size))
      clear b1 hsz
      have HGX : Hid (gtB q x = decide (q < x.i)) := hide rfl
      cases c9 : decide (q < x.i) with
      | true =>
        have HF : Hid (V = (j : Int)) := hide (HY.out j hlt (by rw [HX9.out, HGX.out]; exact c9) HR.out)
        go_wp2
        go_ret
        exact ⟨by rw [HF.out]; rfl, HB.out⟩
      | false =>
        have HR2 : Hid (∀ i, i < j + 1 → gtB q (xs.getD i default) = false) := hide (fun i hi => by
          rcases Nat.lt_succ_iff_lt_or_eq.1 hi with h | rfl
          · exact HR.out i h
          · rw [HX9.out, HGX.out]; exact c9)
        go_wp2
        exact ⟨⟨j + 1, by omega, by go_num, HR2, HB⟩, by simp [intOf]; omega⟩
    · obtain rfl : j = n := by omega
      have HF : Hid (V = -1) := hide (HN.out HR.out)
      go_wp2
      go_ret
      exact ⟨by rw [HF.out]; rfl, HB.out⟩
set_option maxRecDepth 100000 in
set_option maxHeartbeats 8000000 in
theorem putO (w : World) (b hi m0 : Nat) (c1 c2 : List Dt) (v1 v2 : List Value) (v : Value) (xs : List Ob) (o : Ob) (ua : Option Addr) (uc : Nat) (hown : OwnDL w b hi (c1 ++ obs xs :: c2) (v1 ++ v :: v2)) (hl : v1.length = c1.length) (hds : OwnDL w m0 w.heap.size (obD o) [.int .i64 o.i, .int .i64 o.c, .slice ua o.f.length uc]) (hm : hi ≤ m0) (hbm : b ≤ m0) (hms : m0 ≤ w.heap.size) (hx : xs.length ≤ 1500000) :
    Calls Tryz.prog 47 #[v, .agg #[.int .i64 o.i, .int .i64 o.c, .slice ua o.f.length uc], .func (.func 49) #[] #[]] w fun e w' => ∃ v', e = .returned v' ∧ OwnDL w' b w'.heap.size (c1 ++ obs (insO o xs) :: c2) (v1 ++ v' :: v2) ∧ w.grownBy w' v.ownBlock ∧ (∀ q, v.ownBlock = some q → b ≤ q ∧ q < hi) := by
  obtain ⟨K, hK, hins, hat⟩ := gtAt o xs
  have HINS := hide hins
  have HO := hide hown
  have HD := hide hds
  have HRd := hide (OwnD.rd (hown.mid hl) (Nat.le_refl _))
  have hsh : ∃ a cp, v = .slice a xs.length cp := by
    obtain ⟨a, cp, e, _⟩ := HRd.out.shape
    exact ⟨a, cp, e⟩
  obtain ⟨va, vc, rfl⟩ := hsh
  clear hins hown hds
  have bA := (((Below.refl w.heap.size w).alloc (Nat.le_refl _) (.cells #[.int .i64 o.i, .int .i64 o.c, .slice ua o.f.length uc] 54)).alloc (by simp) (.cells #[.func (.func 49) #[] #[]] 99))
  have G0 := heap_alloc_new w (.cells #[.int .i64 o.i, .int .i64 o.c, .slice ua o.f.length uc] 54)
  have G1 := heap_alloc_new (w.alloc (.cells #[.int .i64 o.i, .int .i64 o.c, .slice ua o.f.length uc] 54)) (.cells #[.func (.func 49) #[] #[]] 99)
  simp only [World.size_alloc] at G1
  have E0 := hide ((Below.heap_alloc _ (.cells #[.func (.func 49) #[] #[]] 99) _ (by simp)).trans (G0))
  have E1 := hide (G1)
  have HB := hide bA
  replace HRd := hide (HRd.out.at bA)
  replace HO := hide (HO.out.below bA)
  replace HD := hide ((HD.out.below bA).up bA.size)
  clear bA G0 G1
  go_enter Tryz.func47, Tryz.ntmps47
  go_upto_region 1 with fail
  generalize ((w.alloc (.cells #[.int .i64 o.i, .int .i64 o.c, .slice ua o.f.length uc] 54)).alloc (.cells #[.func (.func 49) #[] #[]] 99)) = W at *
  have hsB := HB.out.size
  have hE0 := (Array.getElem?_eq_some_iff.1 E0.out).1
  have hE1 := (Array.getElem?_eq_some_iff.1 E1.out).1
  go_wp2_with fail
  refine (idxGt _ _ xs (w.heap.size + 1) w.heap.size o.i o.c (.slice ua o.f.length uc) HRd.out (by omega) ((box_of E1.out).1 0 _ rfl) ((box_of E0.out).1 0 _ rfl) ((box_of E0.out).1 1 _ rfl) ((box_of E0.out).1 2 _ rfl) hE1 hE0).mono ?_
  rintro e w1 ⟨rfl, b1⟩
  replace E0 := hide ((b1.block _ hE0).trans E0.out)
  replace HO := hide (HO.out.below b1)
  have hz1 := b1.size
  replace HD := hide ((HD.out.below b1).up b1.size)
  replace HB := hide (HB.out.trans (b1.mono hsB))
  clear b1 HRd E1 hE1
  obtain ⟨V, hV⟩ : ∃ V, atFst (gtB o.i) xs = V := ⟨_, rfl⟩
  rw [hV] at hat ⊢
  clear hV
  have q0 := (box_of E0.out).1 0 _ rfl
  have q1 := (box_of E0.out).1 1 _ rfl
  have q2 := (box_of E0.out).1 2 _ rfl
  rcases hat with ⟨hlt, rfl⟩ | ⟨rfl, rfl⟩
  · have hK0 : ¬ ((K : Int) < 0) := by omega
    go_wp2_with (fail)
    clear q0 q1 q2
    have bA := (Below.refl w1.heap.size w1).alloc (Nat.le_refl _) (.cells #[.int .i64 o.i, .int .i64 o.c, .slice ua o.f.length uc] 54)
    have EX := hide (heap_alloc_new w1 (.cells #[.int .i64 o.i, .int .i64 o.c, .slice ua o.f.length uc] 54))
    replace HO := hide (HO.out.below bA)
    replace HD := hide ((HD.out.below bA).up bA.size)
    replace HB := hide (HB.out.trans (bA.mono HB.out.size))
    have hz2 := bA.size
    clear bA
    obtain ⟨vb, hvb⟩ : ∃ g, w1.heap.size = g := ⟨_, rfl⟩
    rw [hvb] at EX hz2 hz1 ⊢
    generalize w1.alloc (.cells #[.int .i64 o.i, .int .i64 o.c, .slice ua o.f.length uc] 54) = w2 at *
    clear hvb
    obtain ⟨vs1, vs2, hvl, hrow, hrd, hvq, hnew⟩ := OwnDL.rowI (cs1 := (xs.take K).flatMap obD) (cs2 := (xs.drop K).flatMap obD) (T := 54) (k := 3) (n := xs.length) (by
      have h := HO.out
      unfold obs at h
      rw [← List.flatMap_append, List.take_append_drop]
      exact h) hl (xs.length + 1)
    have hvl3 : vs1.length = K * 3 := by rw [hvl, flatD_len (k := 3) (fun _ => rfl), List.length_take, Nat.min_eq_left hK]
    have HIN := hide (insOb w2 b _ xs.length K (vs1 ++ vs2) hrow vb [.int .i64 o.i, .int .i64 o.c, .slice ua o.f.length uc] rfl EX.out (fun q hq => by have := (hvq q hq).2; omega) hK (by omega) (one_all (fun d hd u hu => by
      rcases List.mem_append.1 hd with hd | hd
      all_goals
        obtain ⟨y, _, hy⟩ := List.mem_flatMap.1 hd
        subst hu
        unfold obD at hy
        simp [vls] at hy
        rcases hy with rfl | rfl <;> rfl) hrd) (by simp [Value.oneCell']) (by omega))
    have HNW := hide hnew
    have HVQ := hide hvq
    clear hrow hrd hvl hnew hvq
    refine (unhide HIN).mono ?_
    rintro e w3 ⟨v', rfl, ho', hg', hat'⟩
    rw [List.take_left' hvl3, List.drop_left' hvl3] at ho'
    have HN := hide (HNW.out [.int .i64 o.i, .int .i64 o.c, .slice ua o.f.length uc] (obD o) m0 HD.out hm hbm v' w3 ho' hg' hat')
    have HG := hide ((below_grown (HB.out.mono (Nat.le_refl _)) _).trans hg')
    clear ho' hg' hat' HNW HIN hvl3
    go_wp2
    go_ret
    refine ⟨v', rfl, ?_, HG.out, HVQ.out⟩
    have h := HN.out
    rw [HINS.out]
    unfold obs
    rw [List.flatMap_append, List.flatMap_cons, ← List.append_assoc, List.length_append, List.length_cons, List.length_take, List.length_drop, Nat.min_eq_left hK, show K + (xs.length - K + 1) = xs.length + 1 by omega]
    exact h
  · go_wp2_with (fail)
    clear q0 q1 q2
    have bA := (Below.refl w1.heap.size w1).alloc (Nat.le_refl _) (.cells #[.int .i64 o.i, .int .i64 o.c, .slice ua o.f.length uc] 54)
    have EX := hide (heap_alloc_new w1 (.cells #[.int .i64 o.i, .int .i64 o.c, .slice ua o.f.length uc] 54))
    replace HO := hide (HO.out.below bA)
    replace HD := hide ((HD.out.below bA).up bA.size)
    replace HB := hide (HB.out.trans (bA.mono HB.out.size))
    have hz2 := bA.size
    clear bA
    obtain ⟨vb, hvb⟩ : ∃ g, w1.heap.size = g := ⟨_, rfl⟩
    rw [hvb] at EX hz2 hz1 ⊢
    generalize w1.alloc (.cells #[.int .i64 o.i, .int .i64 o.c, .slice ua o.f.length uc] 54) = w2 at *
    clear hvb
    obtain ⟨vs1, vs2, hvl, hrow, hrd, hvq, hnew⟩ := OwnDL.rowI (cs1 := (xs.take xs.length).flatMap obD) (cs2 := (xs.drop xs.length).flatMap obD) (T := 54) (k := 3) (n := xs.length) (by
      have h := HO.out
      unfold obs at h
      rw [← List.flatMap_append, List.take_append_drop]
      exact h) hl (xs.length + 1)
    have hvl3 : vs1.length = xs.length * 3 := by rw [hvl, flatD_len (k := 3) (fun _ => rfl), List.length_take, Nat.min_eq_left hK]
    have HIN := hide (insOb w2 b _ xs.length xs.length (vs1 ++ vs2) hrow vb [.int .i64 o.i, .int .i64 o.c, .slice ua o.f.length uc] rfl EX.out (fun q hq => by have := (hvq q hq).2; omega) hK (by omega) (one_all (fun d hd u hu => by
      rcases List.mem_append.1 hd with hd | hd
      all_goals
        obtain ⟨y, _, hy⟩ := List.mem_flatMap.1 hd
        subst hu
        unfold obD at hy
        simp [vls] at hy
        rcases hy with rfl | rfl <;> rfl) hrd) (by simp [Value.oneCell']) (by omega))
    have HNW := hide hnew
    have HVQ := hide hvq
    clear hrow hrd hvl hnew hvq
    refine (unhide HIN).mono ?_
    rintro e w3 ⟨v', rfl, ho', hg', hat'⟩
    rw [List.take_left' hvl3, List.drop_left' hvl3] at ho'
    have HN := hide (HNW.out [.int .i64 o.i, .int .i64 o.c, .slice ua o.f.length uc] (obD o) m0 HD.out hm hbm v' w3 ho' hg' hat')
    have HG := hide ((below_grown (HB.out.mono (Nat.le_refl _)) _).trans hg')
    clear ho' hg' hat' HNW HIN hvl3
    go_wp2
    go_ret
    refine ⟨v', rfl, ?_, HG.out, HVQ.out⟩
    have h := HN.out
    rw [HINS.out]
    unfold obs
    rw [List.flatMap_append, List.flatMap_cons, ← List.append_assoc, List.length_append, List.length_cons, List.length_take, List.length_drop, Nat.min_eq_left hK, show xs.length + (xs.length - xs.length + 1) = xs.length + 1 by omega]
    exact h
end Go.Proofs.YtelpdlhgjepgbaaGreat
