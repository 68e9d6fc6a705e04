/-
  Lines: how they come in, how great they are, copied, held against each other, marked; whether something may be sent; what is sealed in a packet.
-/
import Derived.Test.YtoaenoakdbieaabSndW
import Derived.Test.YtoaenoakdbieaabSndMark
import Derived.Test.YtoaenoakdbieaabMsgBS
import Derived.Test.YtoaenoakdbieaabSealW
import Derived.Test.YtoaenoakdbieaabStepB
namespace Go.Proofs.Ytoaenoakdbieaab
open Go.ChangeShapes Go.WideShapes Go.RowKit

/-- A line as a value. -/
def lnV (base got : Int) (lv : Value) : Value := .agg #[.int .i64 base, lv, .int .i64 got]
theorem loadL {w : World} {g : Nat} {a0 a1 a2 : Value} (h : w.heap[g]? = some (.cells #[a0, a1, a2] 43 (0, 0))) : (loadVar 43 ⟨g, 0, none⟩).run Try.prog w = .ok (.agg #[a0, a1, a2]) w :=
  run_loadVar_row w g 43 43 #[a0, a1, a2] (0, 0) _ h Try.underlying43 rfl (by kernel_rfl)
theorem put3 {w : World} {g : Nat} {T : TypeId} {a0 a1 a2 : Value} (h : w.heap[g]? = some (.cells #[a0, a1, a2] T (0, 0))) (b0 b1 b2 : Value) :
    (((w.setCell ⟨g, 0, none⟩ b0).setCell ⟨g, 1, none⟩ b1).setCell ⟨g, 2, none⟩ b2).heap[g]? = some (.cells #[b0, b1, b2] T (0, 0)) := by
  have h0 : (w.setCell ⟨g, 0, none⟩ b0).heap[g]? = some (.cells #[b0, a1, a2] T (0, 0)) := heap_setCell_same _ g 0 _ T b0 h
  have h1 : ((w.setCell ⟨g, 0, none⟩ b0).setCell ⟨g, 1, none⟩ b1).heap[g]? = some (.cells #[b0, b1, a2] T (0, 0)) := heap_setCell_same _ g 1 _ T b1 h0
  exact heap_setCell_same _ g 2 _ T b2 h1

def IsLine (W : World) (v : Value) : Prop := ∃ (base got : Int) (lv : Value) (xs : List MsX), v = .agg #[.int .i64 base, lv, .int .i64 got] ∧ Rd W W.heap.size 7 lv xs.length (xs.flatMap msC) ∧ xs.length ≤ maxLen ∧ ∀ x ∈ xs, RawM W x
set_option maxRecDepth 100000 in
theorem openLine {H : Type} {enc : TypeId × Value → H} {W : World} {r : Reach} {base : Nat} {v : Value} {d : DataW H} {p : List MemPlace}
    (hv : Value.okWide Try.prog W r base 35 v) (h : DataW.Trod enc Try.prog W 0 (fun _ => true) true 35 v d p) : IsLine W v := by
  have c0 : Try.prog.cellsOf 35 = 3 := by kernel_rfl
  have c1 : Try.prog.cellsOf 24 = 2 := by kernel_rfl
  have c3 : Try.prog.cellsOf 3 = 1 := by kernel_rfl
  obtain ⟨cs, rfl, _⟩ := okWide_struct Try.underlying35 hv
  obtain ⟨fuel, h⟩ := h
  obtain ⟨xs, n, rfl, hd, hlen, hxl, hf⟩ := DataW.trod_struct Try.underlying35 h
  rw [c0] at hlen
  have hcs : (Value.agg cs).cells.toList = cs.toList := rfl
  rw [hcs] at hlen hf
  obtain ⟨l⟩ := cs
  match xs, hxl, l, hlen with
  | [y0, y1], _, [v0, v1, v2], _ =>
    have g0 := hf 0 _ rfl
    have g1 := hf 1 _ rfl
    simp [c3, c1] at g0 g1
    obtain ⟨b, lv, ys, e0, _, h1, h2, h3⟩ := snd_cells g0
    obtain ⟨k, e1, _⟩ := DataW.trod_int Try.underlying3 g1
    simp at e0 e1
    obtain ⟨rfl, rfl⟩ := e0
    subst e1
    exact ⟨b, k, v1, ys, rfl, h1, h2, h3⟩

/-- Of a line that came in: how great it is; if not too great, it may be read. -/
theorem szLn (w : World) (base got : Int) (v : Value) (xs : List MsX) (h : Rd w w.heap.size 7 v xs.length (xs.flatMap msC)) (hr : ∀ x ∈ xs, RawM w x) (hm : xs.length ≤ maxLen) :
    Calls Try.prog 13 #[lnV base got v, .int .i64 1048576] w fun e w' => ∃ r : Int, e = .returned (.int .i64 r) ∧ (0 ≤ r → r = 1048576 - (totS (xs.map Prod.fst) : Int) ∧ RdS w w.heap.size v (xs.map Prod.fst)) ∧ Below w.heap.size w w' := by
  have HR : Hid (RdS w w.heap.size v (xs.map Prod.fst)) := hide ⟨xs, rfl, h, fun x hx => (hr x hx).1⟩
  have HX := hide (And.intro h hr)
  obtain ⟨_, a, cap, rfl, _⟩ := h
  clear hr
  unfold lnV
  have HB := hide ((Below.refl w.heap.size w).alloc (Nat.le_refl _) (.cells #[.int .i64 base, .slice a xs.length cap, .int .i64 got] 35))
  go_enter Try.func13, Try.ntmps13
  go_wp2_with fail
  refine (szSnd _ base _ xs (HX.out.1.at HB.out) (fun x hx => (HX.out.2 x hx).below HB.out) hm).mono ?_
  rintro e w1 ⟨r, rfl, hr, b1⟩
  replace HB := hide (HB.out.trans (b1.mono HB.out.size))
  clear b1
  have HQ : Hid (0 ≤ r → r = 1048576 - (totS (xs.map Prod.fst) : Int)) := hide (fun h => (hr h).1)
  clear hr
  by_cases hr0 : r < 0
  · go_wp2
    go_ret
    exact ⟨_, rfl, fun h => by omega, HB.out⟩
  · go_wp2
    go_ret
    exact ⟨_, rfl, fun h => ⟨HQ.out h, HR.out⟩, HB.out⟩

set_option maxRecDepth 100000 in
set_option maxHeartbeats 2000000 in
theorem toLn (w : World) (base got : Int) (v : Value) (ms : List Ms) (h : RdS w w.heap.size v ms) (hm : ms.length ≤ 1048576) (hgd : GoodS ms) :
    Calls Try.prog 15 #[lnV base got v] w fun e w' => ∃ v', e = .returned (lnV base got v') ∧ OwnS w' w.heap.size w'.heap.size v' ms ∧ Below w.heap.size w w' := by
  have HR := hide h
  obtain ⟨a, cap, rfl, _⟩ := ms_at h
  clear h
  unfold lnV
  go_enter Try.func15, Try.ntmps15
  go_wp2_with fail
  have G0 := heap_alloc_new w (.cells #[.int .i64 base, .slice a ms.length cap, .int .i64 got] 35)
  have G1 := heap_alloc_new (w.alloc (.cells #[.int .i64 base, .slice a ms.length cap, .int .i64 got] 35)) (.cells #[.int .i64 0, .slice none 0 0, .int .i64 0] 43)
  have G2 := heap_alloc_new ((w.alloc (.cells #[.int .i64 base, .slice a ms.length cap, .int .i64 got] 35)).alloc (.cells #[.int .i64 0, .slice none 0 0, .int .i64 0] 43)) (.cells #[.int .i64 0, .slice none 0 0, .int .i64 0] 43)
  simp only [World.size_alloc] at G1 G2
  have bA := (((Below.refl w.heap.size w).alloc (Nat.le_refl _) (.cells #[.int .i64 base, .slice a ms.length cap, .int .i64 got] 35)).alloc (by simp) (.cells #[.int .i64 0, .slice none 0 0, .int .i64 0] 43)).alloc (by simp; omega) (.cells #[.int .i64 0, .slice none 0 0, .int .i64 0] 43)
  refine (toSnd _ base _ _ (HR.out.at bA) hm hgd).mono ?_
  rintro e w1 ⟨v1, rfl, o1, b1⟩
  have HO := hide o1
  obtain ⟨a1, c1, rfl⟩ := o1.shape
  have E0 := (b1.block w.heap.size (by simp; omega)).trans ((Below.heap_alloc _ _ _ (by simp; omega)).trans ((Below.heap_alloc _ _ _ (by simp)).trans G0))
  have E1 := (b1.block (w.heap.size + 1) (by simp)).trans ((Below.heap_alloc _ _ _ (by simp)).trans G1)
  have E2 := (b1.block (w.heap.size + 1 + 1) (by simp)).trans G2
  have HB := hide (bA.trans (b1.mono (by simp; omega)))
  have hs1 := b1.size
  simp only [World.size_alloc] at hs1
  clear b1 o1 G0 G1 G2 bA
  have X0 := box_of E0
  have X2 := box_of E2
  have X1 := box_of E1
  have f2 := X0.1 2 _ rfl
  have g0 := X2.1 0 _ rfl
  have g1 := X2.1 1 _ rfl
  have g2 := X2.1 2 _ rfl
  have z2 := X2.2
  have r0 := X1.1 0 _ rfl
  have r1 := X1.1 1 _ rfl
  have r2 := X1.1 2 _ rfl
  have z1 := X1.2
  have H1 := hide E1
  simp only [World.size_alloc] at HO
  clear X0 X1 X2 E0 E1 E2
  unfold sndV
  go_wp2
  refine bodyPost_ret (v := .agg #[.int .i64 base, .slice a1 ms.length c1, .int .i64 got]) (results_one Try.results15 _ _ _ rfl (loadL (put3 ((heap_setCell_other _ _ _ _ (by simp)).trans ((heap_setCell_other _ _ _ _ (by simp)).trans ((heap_setCell_other _ _ _ _ (by simp)).trans H1.out))) _ _ _))) rfl ⟨_, rfl, ?_, ?_⟩
  · refine ((OwnS.same HO.out (fun q hq _ _ => ?_)).mono (by omega)).up (by simp)
    rw [heap_setCell_other _ _ _ _ (by simp; omega), heap_setCell_other _ _ _ _ (by simp; omega), heap_setCell_other _ _ _ _ (by simp; omega), heap_setCell_other _ _ _ _ (by simp; omega), heap_setCell_other _ _ _ _ (by simp; omega), heap_setCell_other _ _ _ _ (by simp; omega)]
  · exact (((((HB.out.setCell (by simp; omega) _).setCell (by simp; omega) _).setCell (by simp; omega) _).setCell (by simp) _).setCell (by simp) _).setCell (by simp) _

set_option maxRecDepth 100000 in
set_option maxHeartbeats 1000000 in
theorem eqLn (w : World) (base got : Int) (v1 v2 : Value) (ms : List Ms) (B1 B2 : Nat) (h1 : RdS w B1 v1 ms) (h2 : RdS w B2 v2 ms) (hB1 : B1 ≤ w.heap.size) (hB2 : B2 ≤ w.heap.size) (hm : ms.length ≤ 1048576) (hgd : GoodS ms) :
    Calls Try.prog 18 #[lnV base got v1, lnV base got v2] w fun e w' => e = .returned (.bool true) ∧ Below w.heap.size w w' := by
  have H1 := hide h1
  have H2 := hide h2
  obtain ⟨a1, cap1, rfl, _⟩ := ms_at h1
  obtain ⟨a2, cap2, rfl, _⟩ := ms_at h2
  clear h1 h2
  have n0 : (got != got) = false := by simp
  unfold lnV
  have G0 := heap_alloc_new w (.cells #[.int .i64 base, .slice a1 ms.length cap1, .int .i64 got] 43)
  have G1 := heap_alloc_new (w.alloc (.cells #[.int .i64 base, .slice a1 ms.length cap1, .int .i64 got] 43)) (.cells #[.int .i64 base, .slice a2 ms.length cap2, .int .i64 got] 43)
  simp only [World.size_alloc] at G1
  have H3 := hide G0
  have H4 := hide G1
  clear G0 G1
  go_enter Try.func18, Try.ntmps18
  go_wp2_with fail
  have bA := ((Below.refl w.heap.size w).alloc (Nat.le_refl _) (.cells #[.int .i64 base, .slice a1 ms.length cap1, .int .i64 got] 43)).alloc (by simp) (.cells #[.int .i64 base, .slice a2 ms.length cap2, .int .i64 got] 43)
  refine (eqSnd _ base _ _ _ _ _ (H1.out.low bA hB1) (H2.out.low bA hB2) (Nat.le_trans hB1 bA.size) (Nat.le_trans hB2 bA.size) hm hgd).mono ?_
  rintro e w1 ⟨rfl, b1⟩
  have HB := hide (bA.trans (b1.mono bA.size))
  have E0 := (b1.block w.heap.size (by simp; omega)).trans ((Below.heap_alloc _ _ _ (by simp)).trans H3.out)
  have E1 := (b1.block (w.heap.size + 1) (by simp)).trans H4.out
  have f2 := (box_of E0).1 2 _ rfl
  have g2 := (box_of E1).1 2 _ rfl
  clear bA b1 E0 E1 H3 H4
  go_wp2
  go_ret
  exact ⟨rfl, HB.out⟩

set_option maxRecDepth 100000 in
set_option maxHeartbeats 1000000 in
theorem markLn1 (w : World) (b hi : Nat) (base got : Int) (v : Value) (ms : List Ms) (h : OwnS w b hi v ms) (hgd : GoodS ms) (hk : 1 + 5 * totS ms ≤ 50000000) :
    Calls Try.prog 19 #[lnV base got v, .int .i64 1] w fun e w' => e = .returned (.int .i64 ((endS 1 ms : Nat) : Int)) ∧ OwnS w' b hi v (marksS 1 ms) ∧ Out b hi w w' := by
  have HO := hide h
  obtain ⟨a, c, rfl⟩ := h.shape
  clear h
  unfold lnV
  have bA := (Below.refl w.heap.size w).alloc (Nat.le_refl _) (.cells #[.int .i64 base, .slice a ms.length c, .int .i64 got] 43)
  have HA := hide bA
  replace HO := hide (HO.out.below bA)
  clear bA
  go_enter Try.func19, Try.ntmps19
  go_wp2_with fail
  refine (markSnd1 _ b hi base _ ms HO.out hgd hk).mono ?_
  rintro e w1 ⟨rfl, o1, g1⟩
  have H1 := hide o1
  have HG := hide ((Out.of_below HA.out).trans g1)
  clear o1 g1 HA HO
  go_wp2
  go_ret
  exact ⟨rfl, H1.out, HG.out⟩

/-- Whether something may be sent. -/
def lnOk (f t base got : Int) (ms : List Ms) : Bool := inB f 0 3 && inB t 0 3 && inB got 0 16777215 && sOk base ms
theorem lnOk_all {f t base got : Int} {ms : List Ms} (h : lnOk f t base got ms = true) : (0 ≤ got ∧ got ≤ 16777215) ∧ sOk base ms = true := by
  unfold lnOk at h
  simp only [Bool.and_eq_true] at h
  exact ⟨inB_yes h.1.2, h.2⟩

set_option maxRecDepth 100000 in
set_option maxHeartbeats 2000000 in
theorem endsSpec (w : World) (f t base got : Int) (v : Value) (ms : List Ms) (B : Nat) (h : RdS w B v ms) (hB : B ≤ w.heap.size) (hm : ms.length ≤ 2000000) (hgd : GoodS ms) :
    Calls Try.prog 37 #[.int .i64 f, .int .i64 t, lnV base got v] w fun e w' => e = .returned (.bool (lnOk f t base got ms)) ∧ Below w.heap.size w w' := by
  have HR := hide h
  obtain ⟨a, cap, rfl, _⟩ := ms_at h
  clear h
  unfold lnV lnOk
  have HB := hide ((Below.refl w.heap.size w).alloc (Nat.le_refl _) (.cells #[.int .i64 base, .slice a ms.length cap, .int .i64 got] 43))
  cases h1 : inB f 0 3 with
  | false =>
    go_enter Try.func37, Try.ntmps37
    go_wp2_with (go_at_call 38; refine (inSpec _ _ _ _).mono ?_; rintro e w' ⟨rfl, rfl⟩; simp only [h1])
    go_ret
    exact ⟨rfl, HB.out⟩
  | true =>
    cases h2 : inB t 0 3 with
    | false =>
      go_enter Try.func37, Try.ntmps37
      go_wp2_with (go_at_call 38; refine (inSpec _ _ _ _).mono ?_; rintro e w' ⟨rfl, rfl⟩; simp only [h1, h2])
      go_ret
      exact ⟨rfl, HB.out⟩
    | true =>
      cases h3 : inB got 0 16777215 with
      | false =>
        go_enter Try.func37, Try.ntmps37
        go_wp2_with (go_at_call 38; refine (inSpec _ _ _ _).mono ?_; rintro e w' ⟨rfl, rfl⟩; simp only [h1, h2, h3])
        go_ret
        exact ⟨rfl, HB.out⟩
      | true =>
        go_enter Try.func37, Try.ntmps37
        go_wp2_with (first | (go_at_call 38; refine (inSpec _ _ _ _).mono ?_; rintro e w' ⟨rfl, rfl⟩; simp only [h1, h2, h3]) | fail)
        refine (sndSpec _ base _ ms _ (HR.out.low HB.out hB) (Nat.le_trans hB HB.out.size) hm hgd).mono ?_
        rintro e w1 ⟨rfl, b1⟩
        replace HB := hide (HB.out.trans (b1.mono HB.out.size))
        clear b1
        go_wp2
        go_ret
        exact ⟨rfl, HB.out⟩
set_option maxRecDepth 100000 in
set_option maxHeartbeats 2000000 in
theorem endsImpl (w : World) (f t base got : Int) (v : Value) (ms : List Ms) (B : Nat) (h : RdS w B v ms) (hB : B ≤ w.heap.size) (hm : ms.length ≤ 2000000) (hgd : GoodS ms) :
    Calls Try.prog 42 #[.int .i64 f, .int .i64 t, lnV base got v] w fun e w' => e = .returned (.bool (lnOk f t base got ms)) ∧ Below w.heap.size w w' := by
  have HR := hide h
  obtain ⟨a, cap, rfl, _⟩ := ms_at h
  clear h
  unfold lnV lnOk
  have HB := hide ((Below.refl w.heap.size w).alloc (Nat.le_refl _) (.cells #[.int .i64 base, .slice a ms.length cap, .int .i64 got] 43))
  cases h1 : inB f 0 3 with
  | false =>
    go_enter Try.func42, Try.ntmps42
    go_wp2_with (go_at_call 53; refine (inImpl _ _ _ _).mono ?_; rintro e w' ⟨rfl, rfl⟩; simp only [h1])
    go_ret
    exact ⟨rfl, HB.out⟩
  | true =>
    cases h2 : inB t 0 3 with
    | false =>
      go_enter Try.func42, Try.ntmps42
      go_wp2_with (go_at_call 53; refine (inImpl _ _ _ _).mono ?_; rintro e w' ⟨rfl, rfl⟩; simp only [h1, h2])
      go_ret
      exact ⟨rfl, HB.out⟩
    | true =>
      cases h3 : inB got 0 16777215 with
      | false =>
        go_enter Try.func42, Try.ntmps42
        go_wp2_with (go_at_call 53; refine (inImpl _ _ _ _).mono ?_; rintro e w' ⟨rfl, rfl⟩; simp only [h1, h2, h3])
        go_ret
        exact ⟨rfl, HB.out⟩
      | true =>
        go_enter Try.func42, Try.ntmps42
        go_wp2_with (first | (go_at_call 53; refine (inImpl _ _ _ _).mono ?_; rintro e w' ⟨rfl, rfl⟩; simp only [h1, h2, h3]) | fail)
        refine (sndImpl _ base _ ms _ (HR.out.low HB.out hB) (Nat.le_trans hB HB.out.size) hm hgd).mono ?_
        rintro e w1 ⟨rfl, b1⟩
        replace HB := hide (HB.out.trans (b1.mono HB.out.size))
        clear b1
        go_wp2
        go_ret
        exact ⟨rfl, HB.out⟩
end Go.Proofs.Ytoaenoakdbieaab
