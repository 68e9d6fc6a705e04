/-
  Joined: ClcQ, DrawB.
-/
import Derived.Test.YtllghgcancennaaJ11
import Derived.Test.YtllghgcancennaaJ32
import Derived.Test.YtllghgcancennaaJ14
import Derived.Deep.RegionHeld
import Derived.OwnWalk
/-
  What is guarded by one monitor never races.
-/
namespace Go.Proofs.Ytllghgcancennaa
open Go.RowKit

def gdD (x : Int × Int) : List Evt := [⟨x.1, 3, 9, 0⟩, ⟨x.1, x.2, 4, 1⟩, ⟨x.1, 4, 9, 0⟩]
def gd (l : List (Int × Int)) : List Evt := l.flatMap gdD
def gdOk (l : List (Int × Int)) : Prop := ∀ x ∈ l, (1 ≤ x.1 ∧ x.1 ≤ 3) ∧ (1 ≤ x.2 ∧ x.2 ≤ 2)
theorem gd_len : ∀ (l : List (Int × Int)), (gd l).length = 3 * l.length
  | [] => rfl
  | x :: l => by
    unfold gd
    rw [List.flatMap_cons, List.length_append, List.length_cons]
    have := gd_len l
    unfold gd at this
    rw [this]
    show 3 + _ = _
    omega
theorem gd_get : ∀ (l : List (Int × Int)) (b r : Nat), b < l.length → r < 3 → (gd l).getD (3 * b + r) default = (gdD (l.getD b default)).getD r default
  | [], b, r, h, _ => by simp at h
  | x :: l, 0, r, _, hr => by
    unfold gd
    rw [List.flatMap_cons, List.getD_cons_zero, List.getD_eq_getElem?_getD, List.getElem?_append_left (by show _ < 3; omega), ← List.getD_eq_getElem?_getD]
    simp
  | x :: l, b + 1, r, h, hr => by
    have ih := gd_get l b r (by simpa using h) hr
    unfold gd at ih ⊢
    rw [List.flatMap_cons, List.getD_cons_succ, ← ih, List.getD_eq_getElem?_getD, List.getElem?_append_right (by show 3 ≤ _; omega), ← List.getD_eq_getElem?_getD]
    congr 1
    show 3 * (b + 1) + r - 3 = _
    omega
theorem gd_ev {l : List (Int × Int)} (h : gdOk l) (hl : l.length ≤ 1000) : evB (gd l) = true := by
  unfold evB
  rw [Bool.and_eq_true]
  refine ⟨List.all_eq_true.2 (fun y hy => ?_), decide_eq_true (by rw [gd_len]; omega)⟩
  unfold gd at hy
  obtain ⟨x, hx, hy⟩ := List.mem_flatMap.1 hy
  have h1 := h x hx
  unfold gdD at hy
  simp at hy
  rcases hy with rfl | rfl | rfl
  · unfold evAt inB; simp; omega
  · unfold evAt inB; simp; omega
  · unfold evAt inB; simp; omega
theorem gd_at {l : List (Int × Int)} {b : Nat} (h : b < l.length) : ∃ x k, (l.getD b default) = (x, k) ∧ (gd l).getD (3 * b) default = ⟨x, 3, 9, 0⟩ ∧ (gd l).getD (3 * b + 1) default = ⟨x, k, 4, 1⟩ ∧ (gd l).getD (3 * b + 2) default = ⟨x, 4, 9, 0⟩ := by
  obtain ⟨⟨x, k⟩, hx⟩ : ∃ z, l.getD b default = z := ⟨_, rfl⟩
  exact ⟨x, k, hx, by have := gd_get l b 0 h (by omega); rw [hx] at this; exact this, by have := gd_get l b 1 h (by omega); rw [hx] at this; exact this, by have := gd_get l b 2 h (by omega); rw [hx] at this; exact this⟩
/-- Each access knows all that are ahead. -/
theorem gd_knows {l : List (Int × Int)} (h : gdOk l) (hl : l.length ≤ 1000) {a : Nat} : ∀ b, a ≤ b → b < l.length → ∀ q, cntX (clk (gd l) (3 * a + 1)) q ≤ cntX (clk (gd l) (3 * b + 1)) q
  | 0, hab, _, q => by
    have : a = 0 := by omega
    subst this
    exact Int.le_refl _
  | b + 1, hab, hb, q => by
    by_cases e : a = b + 1
    · subst e
      exact Int.le_refl _
    · have ih := gd_knows h hl (a := a) b (by omega) (by omega) q
      have he := gd_ev h hl
      have hlen := gd_len l
      obtain ⟨x, k, _, x0, x1, x2⟩ := gd_at (l := l) (b := b) (by omega)
      obtain ⟨y, m, _, y0, y1, y2⟩ := gd_at (l := l) (b := b + 1) hb
      have s1 := thread_mono he (i := 3 * b + 1) (3 * b + 2) (by omega) (by omega) (by unfold who; rw [x1, x2]) q
      have s3 := thread_mono he (i := 3 * (b + 1)) (3 * (b + 1) + 1) (by omega) (by omega) (by unfold who; rw [y0, y1]) q
      have hoth : othI (gd l) (3 * (b + 1)) = ((3 * b + 2 : Nat) : Int) := by
        unfold othI
        rw [y0]
        show lastI (gd l) 4 9 (-1) (3 * (b + 1)) = _
        rw [show 3 * (b + 1) = (3 * b + 2) + 1 by omega, lastI, x2]
        rfl
      have s2 := cnt_eq he (j := 3 * (b + 1)) (by omega) q
      rw [hoth] at s2
      have s4 : atC (clkN (gd l) (3 * (b + 1))) ((3 * b + 2 : Nat) : Int) = clk (gd l) (3 * b + 2) := by
        rcases atC_clk (gd l) (j := 3 * (b + 1)) (k := ((3 * b + 2 : Nat) : Int)) (by omega) with ⟨_, e2⟩ | ⟨c, _⟩
        · rw [e2, Int.toNat_natCast]
        · omega
      rw [s4] at s2
      have s5 : cntX (clk (gd l) (3 * b + 2)) q ≤ cntX (clk (gd l) (3 * (b + 1))) q := by
        rw [s2]
        split <;> omega
      omega
theorem gd_rw {l : List (Int × Int)} {j : Nat} (hj : j < 3 * l.length) (hr : rwB ((gd l).getD j default).k = true) : ∃ b, b < l.length ∧ j = 3 * b + 1 := by
  have hb : j / 3 < l.length := by omega
  obtain ⟨x, k, _, x0, x1, x2⟩ := gd_at (l := l) hb
  have : j % 3 = 0 ∨ j % 3 = 1 ∨ j % 3 = 2 := by omega
  rcases this with c | c | c
  · rw [show j = 3 * (j / 3) by omega, x0] at hr
    cases hr
  · exact ⟨j / 3, hb, by omega⟩
  · rw [show j = 3 * (j / 3) + 2 by omega, x2] at hr
    cases hr
theorem gd_race {l : List (Int × Int)} (h : gdOk l) (hl : l.length ≤ 1000) : raceX (gd l) = -1 := by
  have hlen := gd_len l
  refine raceX_none (fun j hj => racesAt_no (fun i hi => ?_))
  unfold raceB
  cases c : clashB ((gd l).getD i default) ((gd l).getD j default) with
  | false => rfl
  | true =>
    have hc := (clash_iff _ _).1 c
    obtain ⟨a, ha, rfl⟩ := gd_rw (l := l) (j := i) (by omega) hc.2.2.2.1
    obtain ⟨b, hb, rfl⟩ := gd_rw (l := l) (j := j) (by omega) hc.2.2.2.2.1
    have hk := gd_knows h hl (a := a) b (by omega) hb (who (gd l) (3 * a + 1))
    rw [Bool.true_and, decide_eq_false_iff_not]
    omega
theorem gd_clocks {l : List (Int × Int)} (h : gdOk l) (hl : l.length ≤ 1000) : (clocksX (gd l)).length = (gd l).length := by
  unfold clocksX
  rw [if_pos (gd_ev h hl), clkN_len]
end Go.Proofs.Ytllghgcancennaa
/-
  Draws of two places in a list of events, of a list, of two events.
-/
namespace Go.Proofs.Ytllghgcancennaa
open Go.RowKit

set_option maxRecDepth 100000 in
set_option maxHeartbeats 8000000 in
theorem drawBeforeE (w : World) (a : Option Addr) (len cap : Nat) (zs : List Int) (hin : In w w.heap.size a len zs) :
    Calls Try.prog 28 #[.slice a len cap] w fun e w' => ∃ xs v i j, e = .returned (.tuple #[v, .int .i64 i, .int .i64 j]) ∧ Reads w' w'.heap.size (evts xs) v ∧ xs.length ≤ 15 ∧ Below w.heap.size w w' := by
  go_enter Try.func28, Try.ntmps28
  go_wp2_with fail
  refine (newDraw _ a len cap zs hin).mono ?_
  rintro e w1 ⟨rfl, hc1, b1⟩
  go_wp2_with fail
  refine (drawEv _ _ hc1).mono ?_
  rintro e w2 ⟨xs, v, rfl, o2, hl, hc2, hg2⟩
  obtain ⟨va, vc, ev⟩ := o2.shape
  subst ev
  have hgl := hc2.lt
  have HO := hide o2
  have HC := hide hc2
  have HB := hide (b1.grown hg2 b1.size (fun k hk => by cases hk; exact Nat.le_refl _))
  have hsz := hg2.size
  clear o2 hc2 hg2
  have hw1 : IntKind.i64.wrap ((xs.length : Int) + 1) = (xs.length : Int) + 1 := by rw [IntKind.wrap_i64]; omega
  have hw2 : IntKind.i64.wrap ((xs.length : Int) + 2) = (xs.length : Int) + 2 := by rw [IntKind.wrap_i64]; omega
  go_wp2_with fail
  refine (belowDraw _ w.heap.size ((xs.length : Int) + 1) (by omega) (by omega) HC.out).mono ?_
  rintro e w3 ⟨x1, rfl, h10, h11, hc3, hg3⟩
  replace HC := hide hc3
  replace HO := hide (HO.out.grownP hg3 hc1.lt)
  replace HB := hide (HB.out.grown hg3 HB.out.size (fun k hk => by cases hk; exact Nat.le_refl _))
  have hs3 := hg3.size
  clear hc3 hg3
  go_wp2_with fail
  refine (belowDraw _ w.heap.size 9 (by decide) (by decide) HC.out).mono ?_
  rintro e w4 ⟨x2, rfl, h20, h21, hc3, hg3⟩
  replace HC := hide hc3
  replace HO := hide (HO.out.grownP hg3 (Nat.lt_of_lt_of_le hc1.lt (by omega)))
  replace HB := hide (HB.out.grown hg3 HB.out.size (fun k hk => by cases hk; exact Nat.le_refl _))
  have hs4 := hg3.size
  clear hc3 hg3
  go_wp2_with fail
  refine (belowDraw _ w.heap.size ((xs.length : Int) + 2) (by omega) (by omega) HC.out).mono ?_
  rintro e w5 ⟨x3, rfl, h30, h31, hc3, hg3⟩
  replace HO := hide (HO.out.grownP hg3 (Nat.lt_of_lt_of_le hc1.lt (by omega)))
  replace HB := hide (HB.out.grown hg3 HB.out.size (fun k hk => by cases hk; exact Nat.le_refl _))
  have hs5 := hg3.size
  clear hc3 hg3 HC
  go_wp2
  go_ret3
  exact ⟨xs, _, _, _, rfl, HO.out.rd (by omega), hl, HB.out⟩
set_option maxRecDepth 100000 in
set_option maxHeartbeats 8000000 in
theorem drawRaceE (w : World) (a : Option Addr) (len cap : Nat) (zs : List Int) (hin : In w w.heap.size a len zs) :
    Calls Try.prog 30 #[.slice a len cap] w fun e w' => ∃ xs v, e = .returned v ∧ Reads w' w'.heap.size (evts xs) v ∧ xs.length ≤ 15 ∧ Below w.heap.size w w' := by
  go_enter Try.func30, Try.ntmps30
  go_wp2_with fail
  refine (newDraw _ a len cap zs hin).mono ?_
  rintro e w1 ⟨rfl, hc1, b1⟩
  go_wp2_with fail
  refine (drawEv _ _ hc1).mono ?_
  rintro e w2 ⟨xs, v, rfl, o2, hl, hc2, hg2⟩
  obtain ⟨va, vc, ev⟩ := o2.shape
  subst ev
  have HO := hide (o2.rd (Nat.le_refl _))
  have HB := hide (b1.grown hg2 b1.size (fun k hk => by cases hk; exact Nat.le_refl _))
  clear o2 hc2 hg2 hc1 b1
  go_wp2
  go_ret
  exact ⟨xs, _, rfl, HO.out, hl, HB.out⟩
theorem results_ccE {fn : Func} {p0 p1 : Tmp} {t0 t1 : TypeId} {v0 v1 : Value} {g0 g1 : Addr} (h : fn.results = #[.cell p0 t0, .cell p1 t1]) (tmps : Array Value) (P : Program) (w : World)
    (hg0 : tmps.getD p0 undef = .pointer (some g0)) (hg1 : tmps.getD p1 undef = .pointer (some g1)) (hl0 : (loadVar t0 g0).run P w = .ok v0 w) (hl1 : (loadVar t1 g1).run P w = .ok v1 w) :
    (results fn tmps).run P w = .ok (.tuple #[v0, v1]) w := by
  have h' : ((asAddr (tmps.getD p0 undef)).run P w).andThen (fun a w₁ => ((loadVar t0 a).run P w₁).andThen fun x w₂ => ((asAddr (tmps.getD p1 undef)).run P w₂).andThen (fun a w₃ => ((loadVar t1 a).run P w₃).andThen fun y w₄ => Result.ok (Value.tuple #[x, y]) w₄)) = Result.ok (Value.tuple #[v0, v1]) w := by
    rw [hg0, hg1]
    simp [asAddr, Result.andThen, hl0, hl1]
  simp only [results, h]
  simpa [Sem.run_bind, Result.andThen] using h'
theorem loadEvtD {w : World} {g : Nat} {a0 a1 a2 a3 : Value} (h : w.heap[g]? = some (.cells #[a0, a1, a2, a3] 40 (0, 0))) : (loadVar 40 ⟨g, 0, none⟩).run Try.prog w = .ok (.agg #[a0, a1, a2, a3]) w :=
  run_loadVar_row w g 40 40 #[a0, a1, a2, a3] (0, 0) _ h Try.underlying40 rfl (by kernel_rfl)
set_option maxRecDepth 100000 in
set_option maxHeartbeats 8000000 in
theorem drawClashE (w : World) (a : Option Addr) (len cap : Nat) (zs : List Int) (hin : In w w.heap.size a len zs) :
    Calls Try.prog 29 #[.slice a len cap] w fun e w' => ∃ x y : Evt, e = .returned (.tuple #[evtV x, evtV y]) ∧ Below w.heap.size w w' := by
  have bA := (((Below.refl w.heap.size w).alloc (Nat.le_refl _) (.cells #[.int .i64 0, .int .i64 0, .int .i64 0, .int .i64 0] 40)).alloc (by simp) (.cells #[.int .i64 0, .int .i64 0, .int .i64 0, .int .i64 0] 40))
  have G0 := heap_alloc_new w (.cells #[.int .i64 0, .int .i64 0, .int .i64 0, .int .i64 0] 40)
  have G1 := heap_alloc_new (w.alloc (.cells #[.int .i64 0, .int .i64 0, .int .i64 0, .int .i64 0] 40)) (.cells #[.int .i64 0, .int .i64 0, .int .i64 0, .int .i64 0] 40)
  simp only [World.size_alloc] at G1
  have E0 := hide ((Below.heap_alloc _ (.cells #[.int .i64 0, .int .i64 0, .int .i64 0, .int .i64 0] 40) _ (by simp)).trans (G0))
  have E1 := hide (G1)
  have HB := hide bA
  have HIN := hide (hin.at bA)
  clear bA G0 G1 hin
  go_enter Try.func29, Try.ntmps29
  go_upto_region 1 with fail
  generalize ((w.alloc (.cells #[.int .i64 0, .int .i64 0, .int .i64 0, .int .i64 0] 40)).alloc (.cells #[.int .i64 0, .int .i64 0, .int .i64 0, .int .i64 0] 40)) = W at *
  have hsW := (Array.getElem?_eq_some_iff.1 E1.out).1
  go_wp2_with fail
  refine (newDraw _ a len cap zs HIN.out).mono ?_
  rintro e y1 ⟨rfl, hc1, b1⟩
  replace E0 := hide ((b1.block _ (Array.getElem?_eq_some_iff.1 E0.out).1).trans E0.out)
  replace E1 := hide ((b1.block _ (Array.getElem?_eq_some_iff.1 E1.out).1).trans E1.out)
  have HC := hide hc1
  replace HB := hide (HB.out.trans (b1.mono HB.out.size))
  have hszg := hc1.lt
  obtain ⟨g, hg⟩ : ∃ g, W.heap.size = g := ⟨_, rfl⟩
  rw [hg] at HC hszg ⊢
  have hgg : w.heap.size ≤ g := by omega
  have hgg1 : w.heap.size + 1 < g := by omega
  clear b1 hc1 hg
  go_wp2_with fail
  refine (belowDraw _ g 2 (by decide) (by decide) HC.out).mono ?_
  rintro e zp0 ⟨p0, rfl, _, _, hc3, hg3⟩
  replace E0 := hide ((hg3.block _ (Array.getElem?_eq_some_iff.1 E0.out).1 (fun e => by have := Option.some.inj e; omega)).trans E0.out)
  replace E1 := hide ((hg3.block _ (Array.getElem?_eq_some_iff.1 E1.out).1 (fun e => by have := Option.some.inj e; omega)).trans E1.out)
  replace HC := hide hc3
  replace HB := hide (HB.out.grown hg3 HB.out.size (fun k hk => by cases hk; exact hgg))
  replace hszg := Nat.le_trans hszg hg3.size
  clear hc3 hg3
  go_wp2_with fail
  refine (belowDraw _ g 4 (by decide) (by decide) HC.out).mono ?_
  rintro e zp1 ⟨p1, rfl, _, _, hc3, hg3⟩
  replace E0 := hide ((hg3.block _ (Array.getElem?_eq_some_iff.1 E0.out).1 (fun e => by have := Option.some.inj e; omega)).trans E0.out)
  replace E1 := hide ((hg3.block _ (Array.getElem?_eq_some_iff.1 E1.out).1 (fun e => by have := Option.some.inj e; omega)).trans E1.out)
  replace HC := hide hc3
  replace HB := hide (HB.out.grown hg3 HB.out.size (fun k hk => by cases hk; exact hgg))
  replace hszg := Nat.le_trans hszg hg3.size
  clear hc3 hg3
  go_wp2_with fail
  refine (belowDraw _ g 2 (by decide) (by decide) HC.out).mono ?_
  rintro e zp2 ⟨p2, rfl, _, _, hc3, hg3⟩
  replace E0 := hide ((hg3.block _ (Array.getElem?_eq_some_iff.1 E0.out).1 (fun e => by have := Option.some.inj e; omega)).trans E0.out)
  replace E1 := hide ((hg3.block _ (Array.getElem?_eq_some_iff.1 E1.out).1 (fun e => by have := Option.some.inj e; omega)).trans E1.out)
  replace HC := hide hc3
  replace HB := hide (HB.out.grown hg3 HB.out.size (fun k hk => by cases hk; exact hgg))
  replace hszg := Nat.le_trans hszg hg3.size
  clear hc3 hg3
  go_wp2_with fail
  refine (belowDraw _ g 2 (by decide) (by decide) HC.out).mono ?_
  rintro e zp3 ⟨p3, rfl, _, _, hc3, hg3⟩
  replace E0 := hide ((hg3.block _ (Array.getElem?_eq_some_iff.1 E0.out).1 (fun e => by have := Option.some.inj e; omega)).trans E0.out)
  replace E1 := hide ((hg3.block _ (Array.getElem?_eq_some_iff.1 E1.out).1 (fun e => by have := Option.some.inj e; omega)).trans E1.out)
  replace HC := hide hc3
  replace HB := hide (HB.out.grown hg3 HB.out.size (fun k hk => by cases hk; exact hgg))
  replace hszg := Nat.le_trans hszg hg3.size
  clear hc3 hg3
  go_upto_region 3 with fail
  have bA := (Below.refl zp3.heap.size zp3).alloc (Nat.le_refl _) (.cells #[.int .i64 p0, .int .i64 p1, .int .i64 p2, .int .i64 p3] 40)
  have E2 := hide (heap_alloc_new zp3 (.cells #[.int .i64 p0, .int .i64 p1, .int .i64 p2, .int .i64 p3] 40))
  replace E0 := hide ((bA.block _ (Array.getElem?_eq_some_iff.1 E0.out).1).trans E0.out)
  replace E1 := hide ((bA.block _ (Array.getElem?_eq_some_iff.1 E1.out).1).trans E1.out)
  replace HC := hide (HC.out.alloc (.cells #[.int .i64 p0, .int .i64 p1, .int .i64 p2, .int .i64 p3] 40))
  replace HB := hide (HB.out.trans (bA.mono HB.out.size))
  obtain ⟨ga, hga⟩ : ∃ q, zp3.heap.size = q := ⟨_, rfl⟩
  have hga9 : g < ga := by omega
  have hga8 : ga < (zp3.alloc (.cells #[.int .i64 p0, .int .i64 p1, .int .i64 p2, .int .i64 p3] 40)).heap.size := by rw [← hga]; simp
  replace hszg : g < (zp3.alloc (.cells #[.int .i64 p0, .int .i64 p1, .int .i64 p2, .int .i64 p3] 40)).heap.size := by omega
  rw [hga] at E2 ⊢
  clear bA hga
  generalize zp3.alloc (.cells #[.int .i64 p0, .int .i64 p1, .int .i64 p2, .int .i64 p3] 40) = Nga at *
  go_wp2_with fail
  refine (belowDraw _ g 2 (by decide) (by decide) HC.out).mono ?_
  rintro e zq0 ⟨q0, rfl, _, _, hc3, hg3⟩
  replace E0 := hide ((hg3.block _ (Array.getElem?_eq_some_iff.1 E0.out).1 (fun e => by have := Option.some.inj e; omega)).trans E0.out)
  replace E1 := hide ((hg3.block _ (Array.getElem?_eq_some_iff.1 E1.out).1 (fun e => by have := Option.some.inj e; omega)).trans E1.out)
  replace E2 := hide ((hg3.block _ (Array.getElem?_eq_some_iff.1 E2.out).1 (fun e => by have := Option.some.inj e; omega)).trans E2.out)
  replace HC := hide hc3
  replace HB := hide (HB.out.grown hg3 HB.out.size (fun k hk => by cases hk; exact hgg))
  replace hszg := Nat.le_trans hszg hg3.size
  clear hc3 hg3
  go_wp2_with fail
  refine (belowDraw _ g 4 (by decide) (by decide) HC.out).mono ?_
  rintro e zq1 ⟨q1, rfl, _, _, hc3, hg3⟩
  replace E0 := hide ((hg3.block _ (Array.getElem?_eq_some_iff.1 E0.out).1 (fun e => by have := Option.some.inj e; omega)).trans E0.out)
  replace E1 := hide ((hg3.block _ (Array.getElem?_eq_some_iff.1 E1.out).1 (fun e => by have := Option.some.inj e; omega)).trans E1.out)
  replace E2 := hide ((hg3.block _ (Array.getElem?_eq_some_iff.1 E2.out).1 (fun e => by have := Option.some.inj e; omega)).trans E2.out)
  replace HC := hide hc3
  replace HB := hide (HB.out.grown hg3 HB.out.size (fun k hk => by cases hk; exact hgg))
  replace hszg := Nat.le_trans hszg hg3.size
  clear hc3 hg3
  go_wp2_with fail
  refine (belowDraw _ g 2 (by decide) (by decide) HC.out).mono ?_
  rintro e zq2 ⟨q2, rfl, _, _, hc3, hg3⟩
  replace E0 := hide ((hg3.block _ (Array.getElem?_eq_some_iff.1 E0.out).1 (fun e => by have := Option.some.inj e; omega)).trans E0.out)
  replace E1 := hide ((hg3.block _ (Array.getElem?_eq_some_iff.1 E1.out).1 (fun e => by have := Option.some.inj e; omega)).trans E1.out)
  replace E2 := hide ((hg3.block _ (Array.getElem?_eq_some_iff.1 E2.out).1 (fun e => by have := Option.some.inj e; omega)).trans E2.out)
  replace HC := hide hc3
  replace HB := hide (HB.out.grown hg3 HB.out.size (fun k hk => by cases hk; exact hgg))
  replace hszg := Nat.le_trans hszg hg3.size
  clear hc3 hg3
  go_wp2_with fail
  refine (belowDraw _ g 2 (by decide) (by decide) HC.out).mono ?_
  rintro e zq3 ⟨q3, rfl, _, _, hc3, hg3⟩
  replace E0 := hide ((hg3.block _ (Array.getElem?_eq_some_iff.1 E0.out).1 (fun e => by have := Option.some.inj e; omega)).trans E0.out)
  replace E1 := hide ((hg3.block _ (Array.getElem?_eq_some_iff.1 E1.out).1 (fun e => by have := Option.some.inj e; omega)).trans E1.out)
  replace E2 := hide ((hg3.block _ (Array.getElem?_eq_some_iff.1 E2.out).1 (fun e => by have := Option.some.inj e; omega)).trans E2.out)
  replace HC := hide hc3
  replace HB := hide (HB.out.grown hg3 HB.out.size (fun k hk => by cases hk; exact hgg))
  replace hszg := Nat.le_trans hszg hg3.size
  clear hc3 hg3
  go_upto_region 4 with fail
  have hlt2 := (Array.getElem?_eq_some_iff.1 E2.out).1
  have bA := (Below.refl zq3.heap.size zq3).alloc (Nat.le_refl _) (.cells #[.int .i64 q0, .int .i64 q1, .int .i64 q2, .int .i64 q3] 40)
  have E3 := hide (heap_alloc_new zq3 (.cells #[.int .i64 q0, .int .i64 q1, .int .i64 q2, .int .i64 q3] 40))
  replace E0 := hide ((bA.block _ (Array.getElem?_eq_some_iff.1 E0.out).1).trans E0.out)
  replace E1 := hide ((bA.block _ (Array.getElem?_eq_some_iff.1 E1.out).1).trans E1.out)
  replace E2 := hide ((bA.block _ (Array.getElem?_eq_some_iff.1 E2.out).1).trans E2.out)
  replace HC := hide (HC.out.alloc (.cells #[.int .i64 q0, .int .i64 q1, .int .i64 q2, .int .i64 q3] 40))
  replace HB := hide (HB.out.trans (bA.mono HB.out.size))
  obtain ⟨gb, hgb⟩ : ∃ q, zq3.heap.size = q := ⟨_, rfl⟩
  have hab : ga < gb := by omega
  have hgb9 : g < gb := by omega
  have hgb8 : gb < (zq3.alloc (.cells #[.int .i64 q0, .int .i64 q1, .int .i64 q2, .int .i64 q3] 40)).heap.size := by rw [← hgb]; simp
  replace hszg : g < (zq3.alloc (.cells #[.int .i64 q0, .int .i64 q1, .int .i64 q2, .int .i64 q3] 40)).heap.size := by omega
  rw [hgb] at E3 ⊢
  clear bA hgb
  generalize zq3.alloc (.cells #[.int .i64 q0, .int .i64 q1, .int .i64 q2, .int .i64 q3] 40) = Ngb at *
  go_wp2_with fail
  refine (onceDraw _ g 2 (by decide) (by decide) HC.out).mono ?_
  rintro e WW ⟨x, rfl, hc3, hg3⟩
  replace E0 := hide ((hg3.block _ (Array.getElem?_eq_some_iff.1 E0.out).1 (fun e => by have := Option.some.inj e; omega)).trans E0.out)
  replace E1 := hide ((hg3.block _ (Array.getElem?_eq_some_iff.1 E1.out).1 (fun e => by have := Option.some.inj e; omega)).trans E1.out)
  replace E2 := hide ((hg3.block _ (Array.getElem?_eq_some_iff.1 E2.out).1 (fun e => by have := Option.some.inj e; omega)).trans E2.out)
  replace E3 := hide ((hg3.block _ (Array.getElem?_eq_some_iff.1 E3.out).1 (fun e => by have := Option.some.inj e; omega)).trans E3.out)
  replace HC := hide hc3
  replace HB := hide (HB.out.grown hg3 HB.out.size (fun k hk => by cases hk; exact hgg))
  replace hszg := Nat.le_trans hszg hg3.size
  clear hc3 hg3
  clear HC
  cases x with
  | false =>
    go_upto_region 7 with fail
    refine wp_region_held_drew (S := fun w' => w'.cell? ⟨ga, 0, none⟩ = some (.int .i64 p0) ∧ w'.cell? ⟨ga, 1, none⟩ = some (.int .i64 p1) ∧ w'.cell? ⟨ga, 2, none⟩ = some (.int .i64 p2) ∧ w'.cell? ⟨ga, 3, none⟩ = some (.int .i64 p3) ∧ w'.cell? ⟨gb, 0, none⟩ = some (.int .i64 q0) ∧ w'.cell? ⟨gb, 1, none⟩ = some (.int .i64 q1) ∧ w'.cell? ⟨gb, 2, none⟩ = some (.int .i64 q2) ∧ w'.cell? ⟨gb, 3, none⟩ = some (.int .i64 q3)) (by kernel_rfl) ⟨(box_of E2.out).1 0 _ rfl, (box_of E2.out).1 1 _ rfl, (box_of E2.out).1 2 _ rfl, (box_of E2.out).1 3 _ rfl, (box_of E3.out).1 0 _ rfl, (box_of E3.out).1 1 _ rfl, (box_of E3.out).1 2 _ rfl, (box_of E3.out).1 3 _ rfl⟩ (fun hHeld => ?_)
    have HW := hide (Below.refl WW.heap.size WW).drew
    replace E0 := hide ((HW.out.block _ (Array.getElem?_eq_some_iff.1 E0.out).1).trans E0.out)
    replace E1 := hide ((HW.out.block _ (Array.getElem?_eq_some_iff.1 E1.out).1).trans E1.out)
    replace E2 := hide ((HW.out.block _ (Array.getElem?_eq_some_iff.1 E2.out).1).trans E2.out)
    replace E3 := hide ((HW.out.block _ (Array.getElem?_eq_some_iff.1 E3.out).1).trans E3.out)
    replace HB := hide (HB.out.trans (HW.out.mono HB.out.size))
    clear HW
    generalize WW.drew = Z0 at *
    refine wpAnyH_take (i := 0) (v := ?_) rfl (by kernel_rfl) (by kernel_rfl) (by kernel_rfl) (fun _ _ _ h => h) (Or.inl ⟨by rfl, ?_⟩) (by assumption) ?_
    rotate_left
    · intro w' hSw
      try dsimp only at hSw
      go_simp; try rfl
    simp only [List.getElem_toArray, List.getElem_cons_zero, Act.put, List.setIfInBounds_toArray, List.set_cons_zero, List.set_cons_succ]
    refine wpAnyH_take (i := 1) (v := ?_) rfl (by kernel_rfl) (by kernel_rfl) (by kernel_rfl) (fun _ _ _ h => h) (Or.inl ⟨by rfl, ?_⟩) (by assumption) ?_
    rotate_left
    · intro w' hSw
      try dsimp only at hSw
      go_simp; try rfl
    simp only [List.getElem_toArray, List.getElem_cons_succ, List.getElem_cons_zero, Act.put, List.setIfInBounds_toArray, List.set_cons_zero, List.set_cons_succ]
    refine wpAnyH_ready (rs := [2]) (by kernel_rfl) (by simp) (AllReadyH.cons rfl (fun K hK => ?_) AllReadyH.nil)
    refine step_storeX (by kernel_rfl) (by kernel_rfl) 40 _ _ rfl (w.heap.size) #[.int .i64 p0, .int .i64 p1, .int .i64 p2, .int .i64 p3] (by kernel_rfl) (by kernel_rfl) _ _ E0.out (by kernel_rfl) (by rfl) (by simp [Value.oneCell']) ?_
    replace E1 := hide ((setRow_other Z0 (w.heap.size) (_) #[.int .i64 p0, .int .i64 p1, .int .i64 p2, .int .i64 p3] (by omega)).trans E1.out)
    replace E2 := hide ((setRow_other Z0 (w.heap.size) (_) #[.int .i64 p0, .int .i64 p1, .int .i64 p2, .int .i64 p3] (by omega)).trans E2.out)
    replace E3 := hide ((setRow_other Z0 (w.heap.size) (_) #[.int .i64 p0, .int .i64 p1, .int .i64 p2, .int .i64 p3] (by omega)).trans E3.out)
    replace E0 := hide (setRow_heap Z0 (w.heap.size) _ #[.int .i64 p0, .int .i64 p1, .int .i64 p2, .int .i64 p3] _ _ E0.out)
    replace HB := hide (below_setRow HB.out (show w.heap.size ≤ w.heap.size by omega) #[.int .i64 p0, .int .i64 p1, .int .i64 p2, .int .i64 p3])
    refine hK.out _ _ ⟨(box_of E2.out).1 0 _ rfl, (box_of E2.out).1 1 _ rfl, (box_of E2.out).1 2 _ rfl, (box_of E2.out).1 3 _ rfl, (box_of E3.out).1 0 _ rfl, (box_of E3.out).1 1 _ rfl, (box_of E3.out).1 2 _ rfl, (box_of E3.out).1 3 _ rfl⟩ (fun hHeld => ?_)
    clear hK K
    try simp only [Act.put, List.setIfInBounds_toArray, List.set_cons_zero, List.set_cons_succ]
    generalize Z0.setRow (w.heap.size) #[.int .i64 p0, .int .i64 p1, .int .i64 p2, .int .i64 p3] = Z1 at *
    refine wpAnyH_ready (rs := [3]) (by kernel_rfl) (by simp) (AllReadyH.cons rfl (fun K hK => ?_) AllReadyH.nil)
    refine step_storeX (by kernel_rfl) (by kernel_rfl) 40 _ _ rfl (w.heap.size + 1) #[.int .i64 q0, .int .i64 q1, .int .i64 q2, .int .i64 q3] (by kernel_rfl) (by kernel_rfl) _ _ E1.out (by kernel_rfl) (by rfl) (by simp [Value.oneCell']) ?_
    replace E0 := hide ((setRow_other Z1 (w.heap.size + 1) (_) #[.int .i64 q0, .int .i64 q1, .int .i64 q2, .int .i64 q3] (by omega)).trans E0.out)
    replace E2 := hide ((setRow_other Z1 (w.heap.size + 1) (_) #[.int .i64 q0, .int .i64 q1, .int .i64 q2, .int .i64 q3] (by omega)).trans E2.out)
    replace E3 := hide ((setRow_other Z1 (w.heap.size + 1) (_) #[.int .i64 q0, .int .i64 q1, .int .i64 q2, .int .i64 q3] (by omega)).trans E3.out)
    replace E1 := hide (setRow_heap Z1 (w.heap.size + 1) _ #[.int .i64 q0, .int .i64 q1, .int .i64 q2, .int .i64 q3] _ _ E1.out)
    replace HB := hide (below_setRow HB.out (show w.heap.size ≤ w.heap.size + 1 by omega) #[.int .i64 q0, .int .i64 q1, .int .i64 q2, .int .i64 q3])
    refine hK.out _ _ ⟨(box_of E2.out).1 0 _ rfl, (box_of E2.out).1 1 _ rfl, (box_of E2.out).1 2 _ rfl, (box_of E2.out).1 3 _ rfl, (box_of E3.out).1 0 _ rfl, (box_of E3.out).1 1 _ rfl, (box_of E3.out).1 2 _ rfl, (box_of E3.out).1 3 _ rfl⟩ (fun hHeld => ?_)
    clear hK K
    try simp only [Act.put, List.setIfInBounds_toArray, List.set_cons_zero, List.set_cons_succ]
    generalize Z1.setRow (w.heap.size + 1) #[.int .i64 q0, .int .i64 q1, .int .i64 q2, .int .i64 q3] = Z2 at *
    refine wpAnyH_done (by kernel_rfl) ?_ _
    go_wp2
    refine bodyPost_ret (v := .tuple #[.agg #[.int .i64 p0, .int .i64 p1, .int .i64 p2, .int .i64 p3], .agg #[.int .i64 q0, .int .i64 q1, .int .i64 q2, .int .i64 q3]]) (results_ccE Try.results29 _ _ _ rfl rfl (loadEvtD E0.out) (loadEvtD E1.out)) rfl ?_
    exact ⟨⟨p0, p1, p2, p3⟩, ⟨q0, q1, q2, q3⟩, rfl, HB.out⟩
  | true =>
    have f0 := (box_of E2.out).1 2 _ rfl
    have f1 := (box_of E3.out).1 2 _ rfl
    have f9 := (box_of E3.out).2
    go_upto_region 6 with fail
    clear f0 f1
    replace E0 := hide ((heap_setCell_other WW ⟨gb, 2, none⟩ _ (.int .i64 p2) (by dsimp only; omega)).trans E0.out)
    replace E1 := hide ((heap_setCell_other WW ⟨gb, 2, none⟩ _ (.int .i64 p2) (by dsimp only; omega)).trans E1.out)
    replace E2 := hide ((heap_setCell_other WW ⟨gb, 2, none⟩ _ (.int .i64 p2) (by dsimp only; omega)).trans E2.out)
    replace E3 := hide (heap_setCell_same WW gb 2 _ _ (.int .i64 p2) E3.out)
    replace HB := hide (HB.out.setCell (p := ⟨gb, 2, none⟩) (by dsimp only; omega) (.int .i64 p2))
    clear f9
    generalize WW.setCell ⟨gb, 2, none⟩ (.int .i64 p2) = W8 at *
    have f0 := (box_of E2.out).1 3 _ rfl
    have f1 := (box_of E3.out).1 3 _ rfl
    have f9 := (box_of E3.out).2
    go_upto_region 7 with fail
    clear f0 f1
    replace E0 := hide ((heap_setCell_other W8 ⟨gb, 3, none⟩ _ (.int .i64 p3) (by dsimp only; omega)).trans E0.out)
    replace E1 := hide ((heap_setCell_other W8 ⟨gb, 3, none⟩ _ (.int .i64 p3) (by dsimp only; omega)).trans E1.out)
    replace E2 := hide ((heap_setCell_other W8 ⟨gb, 3, none⟩ _ (.int .i64 p3) (by dsimp only; omega)).trans E2.out)
    replace E3 := hide (heap_setCell_same W8 gb 3 _ _ (.int .i64 p3) E3.out)
    replace HB := hide (HB.out.setCell (p := ⟨gb, 3, none⟩) (by dsimp only; omega) (.int .i64 p3))
    clear f9
    generalize W8.setCell ⟨gb, 3, none⟩ (.int .i64 p3) = W9 at *
    refine wp_region_held_drew (S := fun w' => w'.cell? ⟨ga, 0, none⟩ = some (.int .i64 p0) ∧ w'.cell? ⟨ga, 1, none⟩ = some (.int .i64 p1) ∧ w'.cell? ⟨ga, 2, none⟩ = some (.int .i64 p2) ∧ w'.cell? ⟨ga, 3, none⟩ = some (.int .i64 p3) ∧ w'.cell? ⟨gb, 0, none⟩ = some (.int .i64 q0) ∧ w'.cell? ⟨gb, 1, none⟩ = some (.int .i64 q1) ∧ w'.cell? ⟨gb, 2, none⟩ = some (.int .i64 p2) ∧ w'.cell? ⟨gb, 3, none⟩ = some (.int .i64 p3)) (by kernel_rfl) ⟨(box_of E2.out).1 0 _ rfl, (box_of E2.out).1 1 _ rfl, (box_of E2.out).1 2 _ rfl, (box_of E2.out).1 3 _ rfl, (box_of E3.out).1 0 _ rfl, (box_of E3.out).1 1 _ rfl, (box_of E3.out).1 2 _ rfl, (box_of E3.out).1 3 _ rfl⟩ (fun hHeld => ?_)
    have HW := hide (Below.refl W9.heap.size W9).drew
    replace E0 := hide ((HW.out.block _ (Array.getElem?_eq_some_iff.1 E0.out).1).trans E0.out)
    replace E1 := hide ((HW.out.block _ (Array.getElem?_eq_some_iff.1 E1.out).1).trans E1.out)
    replace E2 := hide ((HW.out.block _ (Array.getElem?_eq_some_iff.1 E2.out).1).trans E2.out)
    replace E3 := hide ((HW.out.block _ (Array.getElem?_eq_some_iff.1 E3.out).1).trans E3.out)
    replace HB := hide (HB.out.trans (HW.out.mono HB.out.size))
    clear HW
    generalize W9.drew = Z0 at *
    refine wpAnyH_take (i := 0) (v := ?_) rfl (by kernel_rfl) (by kernel_rfl) (by kernel_rfl) (fun _ _ _ h => h) (Or.inl ⟨by rfl, ?_⟩) (by assumption) ?_
    rotate_left
    · intro w' hSw
      try dsimp only at hSw
      go_simp; try rfl
    simp only [List.getElem_toArray, List.getElem_cons_zero, Act.put, List.setIfInBounds_toArray, List.set_cons_zero, List.set_cons_succ]
    refine wpAnyH_take (i := 1) (v := ?_) rfl (by kernel_rfl) (by kernel_rfl) (by kernel_rfl) (fun _ _ _ h => h) (Or.inl ⟨by rfl, ?_⟩) (by assumption) ?_
    rotate_left
    · intro w' hSw
      try dsimp only at hSw
      go_simp; try rfl
    simp only [List.getElem_toArray, List.getElem_cons_succ, List.getElem_cons_zero, Act.put, List.setIfInBounds_toArray, List.set_cons_zero, List.set_cons_succ]
    refine wpAnyH_ready (rs := [2]) (by kernel_rfl) (by simp) (AllReadyH.cons rfl (fun K hK => ?_) AllReadyH.nil)
    refine step_storeX (by kernel_rfl) (by kernel_rfl) 40 _ _ rfl (w.heap.size) #[.int .i64 p0, .int .i64 p1, .int .i64 p2, .int .i64 p3] (by kernel_rfl) (by kernel_rfl) _ _ E0.out (by kernel_rfl) (by rfl) (by simp [Value.oneCell']) ?_
    replace E1 := hide ((setRow_other Z0 (w.heap.size) (_) #[.int .i64 p0, .int .i64 p1, .int .i64 p2, .int .i64 p3] (by omega)).trans E1.out)
    replace E2 := hide ((setRow_other Z0 (w.heap.size) (_) #[.int .i64 p0, .int .i64 p1, .int .i64 p2, .int .i64 p3] (by omega)).trans E2.out)
    replace E3 := hide ((setRow_other Z0 (w.heap.size) (_) #[.int .i64 p0, .int .i64 p1, .int .i64 p2, .int .i64 p3] (by omega)).trans E3.out)
    replace E0 := hide (setRow_heap Z0 (w.heap.size) _ #[.int .i64 p0, .int .i64 p1, .int .i64 p2, .int .i64 p3] _ _ E0.out)
    replace HB := hide (below_setRow HB.out (show w.heap.size ≤ w.heap.size by omega) #[.int .i64 p0, .int .i64 p1, .int .i64 p2, .int .i64 p3])
    refine hK.out _ _ ⟨(box_of E2.out).1 0 _ rfl, (box_of E2.out).1 1 _ rfl, (box_of E2.out).1 2 _ rfl, (box_of E2.out).1 3 _ rfl, (box_of E3.out).1 0 _ rfl, (box_of E3.out).1 1 _ rfl, (box_of E3.out).1 2 _ rfl, (box_of E3.out).1 3 _ rfl⟩ (fun hHeld => ?_)
    clear hK K
    try simp only [Act.put, List.setIfInBounds_toArray, List.set_cons_zero, List.set_cons_succ]
    generalize Z0.setRow (w.heap.size) #[.int .i64 p0, .int .i64 p1, .int .i64 p2, .int .i64 p3] = Z1 at *
    refine wpAnyH_ready (rs := [3]) (by kernel_rfl) (by simp) (AllReadyH.cons rfl (fun K hK => ?_) AllReadyH.nil)
    refine step_storeX (by kernel_rfl) (by kernel_rfl) 40 _ _ rfl (w.heap.size + 1) #[.int .i64 q0, .int .i64 q1, .int .i64 p2, .int .i64 p3] (by kernel_rfl) (by kernel_rfl) _ _ E1.out (by kernel_rfl) (by rfl) (by simp [Value.oneCell']) ?_
    replace E0 := hide ((setRow_other Z1 (w.heap.size + 1) (_) #[.int .i64 q0, .int .i64 q1, .int .i64 p2, .int .i64 p3] (by omega)).trans E0.out)
    replace E2 := hide ((setRow_other Z1 (w.heap.size + 1) (_) #[.int .i64 q0, .int .i64 q1, .int .i64 p2, .int .i64 p3] (by omega)).trans E2.out)
    replace E3 := hide ((setRow_other Z1 (w.heap.size + 1) (_) #[.int .i64 q0, .int .i64 q1, .int .i64 p2, .int .i64 p3] (by omega)).trans E3.out)
    replace E1 := hide (setRow_heap Z1 (w.heap.size + 1) _ #[.int .i64 q0, .int .i64 q1, .int .i64 p2, .int .i64 p3] _ _ E1.out)
    replace HB := hide (below_setRow HB.out (show w.heap.size ≤ w.heap.size + 1 by omega) #[.int .i64 q0, .int .i64 q1, .int .i64 p2, .int .i64 p3])
    refine hK.out _ _ ⟨(box_of E2.out).1 0 _ rfl, (box_of E2.out).1 1 _ rfl, (box_of E2.out).1 2 _ rfl, (box_of E2.out).1 3 _ rfl, (box_of E3.out).1 0 _ rfl, (box_of E3.out).1 1 _ rfl, (box_of E3.out).1 2 _ rfl, (box_of E3.out).1 3 _ rfl⟩ (fun hHeld => ?_)
    clear hK K
    try simp only [Act.put, List.setIfInBounds_toArray, List.set_cons_zero, List.set_cons_succ]
    generalize Z1.setRow (w.heap.size + 1) #[.int .i64 q0, .int .i64 q1, .int .i64 p2, .int .i64 p3] = Z2 at *
    refine wpAnyH_done (by kernel_rfl) ?_ _
    go_wp2
    refine bodyPost_ret (v := .tuple #[.agg #[.int .i64 p0, .int .i64 p1, .int .i64 p2, .int .i64 p3], .agg #[.int .i64 q0, .int .i64 q1, .int .i64 p2, .int .i64 p3]]) (results_ccE Try.results29 _ _ _ rfl rfl (loadEvtD E0.out) (loadEvtD E1.out)) rfl ?_
    exact ⟨⟨p0, p1, p2, p3⟩, ⟨q0, q1, p2, p3⟩, rfl, HB.out⟩
end Go.Proofs.Ytllghgcancennaa
