/-
  Proved: at every code what FnSpoilt says of the packet of a drawn line with one bit turned holds (it returns true), where the program's own error value holds what its text lays (the card ties it), without any other condition.
-/
import Derived.Test.YtkfnpijljpbiaaaDoorRows
import Derived.Test.YtkfnpijljpbiaaaDoorCards
import Derived.Test.YtkfnpijljpbiaaaDoorTie
import Derived.Test.YtkfnpijljpbiaaaDoorJ1
import Derived.Test.YtkfnpijljpbiaaaDoorJ3
import Derived.Test.YtkfnpijljpbiaaaDoorJ18
import Derived.Test.YtkfnpijljpbiaaaDoorKDrawLn
import Derived.Test.YtkfnpijljpbiaaaDoorJ27
import Derived.Test.YtkfnpijljpbiaaaDoorJ28
import Derived.Test.YtkfnpijljpbiaaaDoorJ24
import Derived.Deep.CutRange
import Derived.Deep.RegionHeldLaw
import Derived.WalkKit
import Derived.ProofKit
import Derived.OpenShut
import Derived.ShutString
import Derived.ChangeOld
import Derived.Below
import Derived.SevenTiedAt
namespace Go.Proofs.YtkfnpijljpbiaaaDoor.fnSpoilt
open Go.ChangeShapes Go.WideShapes Go.ChangeAt Go.RowKit
set_option linter.unusedVariables false
theorem step_run {P : Program} {ops : Array Oper} {o : Oper} {a : Act} {w w' : World} {K : Act → World → Prop} {Q : Exit → Act → World → Prop} {E : Prop} {v : Value} (d : Option Tmp) (hd : o.dst = d) (hw : Region.wanted o (yielded ops a.tmps) = true)
    (hrun : (execOp a.eval o).run P w = .ok (.value v) w') (h : K (a.put d v) w') : if Region.wanted o (yielded ops a.tmps) = true then Oper.wp P o a w K Q else E := by
  subst hd
  rw [if_pos hw]
  unfold Oper.wp
  rw [hrun, Oper.upon_value]
  exact h
theorem step_store {P : Program} {ops : Array Oper} {o : Oper} {a : Act} {w : World} {K : Act → World → Prop} {Q : Exit → Act → World → Prop} {E : Prop} (hgd : o.guard = none) (hd : o.dst = none) (ty : TypeId) (x y : Operand) (ho : o.op = .store ty x y)
    (g : Nat) (cells : Array Value) (hx : a.eval x = .pointer (some ⟨g, 0, none⟩)) (hy : a.eval y = .agg cells) (t : TypeId) (old : Array Value) (hg : w.heap[g]? = some (.cells old t (0, 0))) (hi : (P.info? ty).map (·.size) = some cells.size)
    (hold : old.size = cells.size) (h1 : cells.all (·.oneCell') = true) (h : K a (w.setRow g cells)) : if Region.wanted o (yielded ops a.tmps) = true then Oper.wp P o a w K Q else E := by
  have hw : Region.wanted o (yielded ops a.tmps) = true := by simp [Region.wanted, hgd]
  rw [if_pos hw]
  refine wp_store_row ty x y ho g cells hx hy t old hg hi hold h1 ?_
  rw [hd]
  exact h
theorem alloc2_new (w : World) (o1 o2 : Obj) : ((w.alloc o1).alloc o2).heap[w.heap.size + 1]? = some o2 := by
  have := heap_alloc_new (w.alloc o1) o2
  simp only [World.size_alloc] at this
  exact this
theorem alloc2_old (w : World) (o1 o2 : Obj) : ((w.alloc o1).alloc o2).heap[w.heap.size]? = some o1 := (Below.heap_alloc (w.alloc o1) o2 w.heap.size (by simp)).trans (heap_alloc_new w o1)
theorem bel_alloc {w w' : World} (h : Below w.heap.size w w') (o : Obj) : Below w.heap.size w (w'.alloc o) := h.alloc h.size o
theorem bel_set {w w' : World} (h : Below w.heap.size w w') {p : Addr} (hp : w.heap.size ≤ p.block) (v : Value) : Below w.heap.size w (w'.setCell p v) := h.setCell hp v
/-- What came lies at a block that is told: the line as it was. -/
def SFin (W : World) (rb x : Int) (s1 s2 : Value) (w : World) : Prop := ∃ kb : Nat, s1 = .pointer (some ⟨kb, 0, none⟩) ∧ w.cell? ⟨kb, 0, none⟩ = some (.int .i64 rb) ∧ w.cell? ⟨kb, 2, none⟩ = some (.int .i64 x) ∧ s2 = .bool false ∧ Below W.heap.size W w
/-- A line of a drawn sender lies at the block that is told. -/
def RLn (W : World) (x : Int) (s : Value) (w : World) : Prop := ∃ (lb : Nat) (rb : Int) (ra : Option Addr) (rc : Nat) (rs : List MsX), s = .pointer (some ⟨lb, 0, none⟩) ∧ w.heap[lb]? = some (.cells #[.int .i64 rb, .slice ra rs.length rc, .int .i64 x] 28 (0, 0)) ∧ (-1 ≤ rb ∧ rb ≤ 16777216) ∧ RdS w w.heap.size (.slice ra rs.length rc) (rs.map Prod.fst) ∧ Sh rs ∧ Below W.heap.size W w
set_option maxRecDepth 100000 in
set_option maxHeartbeats 8000000 in
theorem walk (a0 : Option Addr) (len0 cap0 : Nat) (z0 : List Int) (t9 : TypeId) (v9 : Value) (w : World) (w0 : IsRow .u8 w a0 len0 cap0 z0) (hE : Err w t9 v9) (hp : 0 < w.heap.size) :
    Calls Tryd.prog 4 #[.slice a0 len0 cap0] w fun e w' => e = .returned (.bool true) ∧ Below w.heap.size w w' := by
  clear hE
  by_cases hbig : (1048576 : Int) < (len0 : Int)
  · clear w0
    go_enter Tryd.func4, Tryd.ntmps4
    go_wp2_with fail
    refine (bigYes _ _ _ _ hbig).mono ?_
    rintro e w1 ⟨rfl, rfl⟩
    go_wp2
    go_ret
    exact ⟨rfl, Below.refl _ _⟩
  · have hin := in_of w0 (by omega)
    clear w0
    generalize z0.take len0 = zs at hin
    have HI := hide hin
    clear hin
    go_enter Tryd.func4, Tryd.ntmps4
    go_wp2_with fail
    refine (bigNo _ _ _ _ (by omega)).mono ?_
    rintro e x ⟨rfl, hx⟩
    rw [hx]
    clear hx x hbig
    go_wp2_with fail
    refine (drawWrap _ _ _ _ _ HI.out).mono ?_
    rintro e w1 ⟨f, t, base, got, i, v, xs, rfl, hft, hbb, hgo, hi, ho, hsh, b1⟩
    obtain ⟨av, cv, rfl⟩ := ho.shape
    unfold lnV
    have HSH := hide hsh
    have hxl := hsh.2
    have bD := (Below.refl w1.heap.size w1).alloc (Nat.le_refl _) (.cells #[.int .i64 base, .slice av xs.length cv, .int .i64 got] 28)
    have E3 := hide (heap_alloc_new w1 (.cells #[.int .i64 base, .slice av xs.length cv, .int .i64 got] 28))
    have HR := hide ((ho.rd (Nat.le_refl _)).at bD)
    have HB := hide (b1.trans (bD.mono b1.size))
    clear bD b1 ho hsh
    have p0 := (box_of E3.out).1 0 _ rfl
    have p1 := (box_of E3.out).1 1 _ rfl
    have p2 := (box_of E3.out).1 2 _ rfl
    go_wp2_with fail
    clear p0 p1 p2
    generalize w1.alloc (.cells #[.int .i64 base, .slice av xs.length cv, .int .i64 got] 28) = W1 at *
    generalize w1.heap.size = L3 at *
    refine (wrapImpl _ f t base got i _ (xs.map Prod.fst) HR.out (by simp; omega) HSH.out.good).mono ?_
    rintro e w2 ha
    cases hok : wrOk f t base got i (xs.map Prod.fst) with
    | false =>
      have HK : Hid (wrapK f t base got i (xs.map Prod.fst) = noK) := hide (by unfold wrapK; rw [hok]; rfl)
      clear hok
      rw [HK.out] at ha
      unfold noK at ha
      obtain ⟨v7, rfl, o7, b2⟩ := ha
      simp only at o7
      obtain ⟨a7, c7, rfl⟩ := own_shape o7
      simp only [List.length_nil] at o7
      simp only [List.length_nil]
      unfold pkV
      simp only
      have bD := (Below.refl w2.heap.size w2).alloc (Nat.le_refl _) (.cells #[.int .i64 0, .int .i64 0, .slice a7 0 c7, .bool false] 32)
      have E7 := hide (heap_alloc_new w2 (.cells #[.int .i64 0, .int .i64 0, .slice a7 0 c7, .bool false] 32))
      have bE := b2.trans (bD.mono b2.size)
      replace E3 := hide ((bE.block L3 (Array.getElem?_eq_some_iff.1 E3.out).1).trans E3.out)
      replace HR := hide (HR.out.at bE)
      replace HB := hide (HB.out.trans (bE.mono HB.out.size))
      clear bD bE b2 o7
      have p0 := (box_of E3.out).1 0 _ rfl
      have p1 := (box_of E3.out).1 1 _ rfl
      have p2 := (box_of E3.out).1 2 _ rfl
      go_wp2_with fail
      clear p0 p1 p2
      generalize w2.alloc (.cells #[.int .i64 0, .int .i64 0, .slice a7 0 c7, .bool false] 32) = W2 at *
      generalize w2.heap.size = L7 at *
      refine (wrapSpec _ f t base got _ _ (xs.map Prod.fst) HR.out (by simp; omega) HSH.out.good).mono ?_
      rintro e w3 ha
      rw [HK.out] at ha
      unfold noK at ha
      obtain ⟨v8, rfl, o8, b3⟩ := ha
      simp only at o8
      obtain ⟨a8, c8, rfl⟩ := own_shape o8
      simp only [List.length_nil] at o8
      simp only [List.length_nil]
      unfold pkV
      simp only
      have bD := (Below.refl w3.heap.size w3).alloc (Nat.le_refl _) (.cells #[.int .i64 0, .int .i64 0, .slice a8 0 c8, .bool false] 32)
      have bE := b3.trans (bD.mono b3.size)
      replace E3 := hide ((bE.block L3 (Array.getElem?_eq_some_iff.1 E3.out).1).trans E3.out)
      replace E7 := hide ((bE.block L7 (Array.getElem?_eq_some_iff.1 E7.out).1).trans E7.out)
      replace HB := hide (HB.out.trans (bE.mono HB.out.size))
      clear bD bE b3 o8 HR
      have q2 := (box_of E7.out).1 2 _ rfl
      go_wp2
      go_ret
      exact ⟨rfl, HB.out⟩
    | true =>
      obtain ⟨j, rfl, hj, hgt, hbs, hmo⟩ := wrOk_at hok
      have HKK : Hid (∃ bs, Byt bs ∧ bs.length ≤ 1300 ∧ wrapK f t base got (j : Int) (xs.map Prod.fst) = (⟨f, t, sealed bs, false⟩, true)) := hide ⟨_, wrapB_byt _ _ _, wrapB_len _ _ _, by unfold wrapK; rw [hok]; rfl⟩
      obtain ⟨bs, hbb2, hbl, hk⟩ := HKK.out
      have HBY := hide hbb2
      have HOT : Hid (∀ n : Nat, n / 8 < (sealed bs).length → opened (turned (sealed bs) (n : Int)) = none) := hide (fun n hn => opened_turned bs hbb2 n (by rw [sealed_len] at hn; exact hn))
      have hsl : 4 ≤ (sealed bs).length ∧ (sealed bs).length ≤ 1304 := by rw [sealed_len]; omega
      have HSB := hide (sealed_byt _ hbb2)
      generalize sealed bs = sl at *
      have HK := hide hk
      clear hok hmo hk hbb2 HKK HBY hbl bs
      rw [HK.out] at ha
      obtain ⟨v7, rfl, o7, b2⟩ := ha
      simp only at o7
      obtain ⟨a7, c7, rfl⟩ := own_shape o7
      unfold pkV
      simp only
      have bD := (Below.refl w2.heap.size w2).alloc (Nat.le_refl _) (.cells #[.int .i64 f, .int .i64 t, .slice a7 sl.length c7, .bool false] 32)
      have E7 := hide (heap_alloc_new w2 (.cells #[.int .i64 f, .int .i64 t, .slice a7 sl.length c7, .bool false] 32))
      have bE := b2.trans (bD.mono b2.size)
      replace E3 := hide ((bE.block L3 (Array.getElem?_eq_some_iff.1 E3.out).1).trans E3.out)
      replace HR := hide (HR.out.at bE)
      replace HB := hide (HB.out.trans (bE.mono HB.out.size))
      have HU := hide ((o7.below bD).mono (Nat.zero_le _))
      clear bD bE b2 o7
      have p0 := (box_of E3.out).1 0 _ rfl
      have p1 := (box_of E3.out).1 1 _ rfl
      have p2 := (box_of E3.out).1 2 _ rfl
      go_wp2_with fail
      clear p0 p1 p2
      generalize w2.alloc (.cells #[.int .i64 f, .int .i64 t, .slice a7 sl.length c7, .bool false] 32) = W2 at *
      generalize w2.heap.size = L7 at *
      refine (wrapSpec _ f t base got _ _ (xs.map Prod.fst) HR.out (by simp; omega) HSH.out.good).mono ?_
      rintro e w3 ha
      rw [HK.out] at ha
      obtain ⟨v8, rfl, o8, b3⟩ := ha
      simp only at o8
      obtain ⟨a8, c8, rfl⟩ := own_shape o8
      unfold pkV
      simp only
      have bD := (Below.refl w3.heap.size w3).alloc (Nat.le_refl _) (.cells #[.int .i64 f, .int .i64 t, .slice a8 sl.length c8, .bool false] 32)
      have bE := b3.trans (bD.mono b3.size)
      replace E3 := hide ((bE.block L3 (Array.getElem?_eq_some_iff.1 E3.out).1).trans E3.out)
      replace E7 := hide ((bE.block L7 (Array.getElem?_eq_some_iff.1 E7.out).1).trans E7.out)
      replace HB := hide (HB.out.trans (bE.mono HB.out.size))
      replace HU := hide (HU.out.below bE)
      clear bD bE b3 o8 HR
      go_upto_region 10 with fail
      generalize w3.alloc (.cells #[.int .i64 f, .int .i64 t, .slice a8 sl.length c8, .bool false] 32) = W3 at *
      replace HI := hide (HI.out.at HB.out)
      have HID : Hid (In W3.drew W3.drew.heap.size a0 len0 zs) := HI
      have e0 : W3.drew.cell? ⟨L3, 0, none⟩ = some (.int .i64 base) := (box_of E3.out).1 0 _ rfl
      have hL3 := (Array.getElem?_eq_some_iff.1 E3.out).1
      have e0a : (W3.alloc (.cells #[.int .i64 0, .slice none 0 0, .int .i64 0] 28)).drew.cell? ⟨L3, 0, none⟩ = some (.int .i64 base) := (box_of ((Below.heap_alloc W3 (.cells #[.int .i64 0, .slice none 0 0, .int .i64 0] 28) L3 hL3).trans E3.out)).1 0 _ rfl
      have e0b : (W3.alloc (.cells #[.int .i64 0, .slice none 0 0, .int .i64 0] 28)).cell? ⟨L3, 0, none⟩ = some (.int .i64 base) := e0a
      have bZ := ((Below.refl W3.heap.size W3).alloc (Nat.le_refl _) (.cells #[.int .i64 0, .slice none 0 0, .int .i64 0] 28)).drew
      have HBZ := hide bZ
      have HIDB := hide (HI.out.at bZ)
      have HZN : Hid ((W3.alloc (.cells #[.int .i64 0, .slice none 0 0, .int .i64 0] 28)).drew.heap[W3.heap.size]? = some (.cells #[.int .i64 0, .slice none 0 0, .int .i64 0] 28 (0, 0))) := hide (heap_alloc_new W3 (.cells #[.int .i64 0, .slice none 0 0, .int .i64 0] 28))
      have hwr : IntKind.i64.wrap (base + (j : Int)) = base + (j : Int) := by rw [IntKind.wrap_i64]; omega
      clear bZ
      go_cut [11] from 11 to 56 (fun s wq => RLn W3 (base + (j : Int)) s wq)
      case first =>
        go_region_law
          (first
            | (refine step_callN rfl 9 _ _ rfl #[.slice a0 len0 cap0] (by kernel_rfl) (drawSenderOk W3.drew _ _ _ _ HID.out) ?_; rintro e y1 ⟨rb, rv, rs, rfl, hrb, hro, hrs, b4⟩; refine ⟨_, rfl, ?_⟩; obtain ⟨ra, rc, rfl⟩ := hro.shape; have HB4 := hide (below_of_drew b4); have HRO := hide hro; have HRS := hide hrs; have e1 := (box_of ((b4.block L3 hL3).trans E3.out)).1 0 _ rfl;
                have e2 := (box_of ((Below.heap_alloc y1 (.cells #[.int .i64 0, .slice none 0 0, .int .i64 0] 28) L3 (Nat.lt_of_lt_of_le hL3 b4.size)).trans ((b4.block L3 hL3).trans E3.out))).1 0 _ rfl; have HLY := hide (heap_alloc_new y1 (.cells #[.int .i64 0, .slice none 0 0, .int .i64 0] 28)); have l0 := (box_of HLY.out).1 0 _ rfl; have l1 := (box_of HLY.out).1 1 _ rfl; have l2 := (box_of HLY.out).1 2 _ rfl; have lz := (box_of HLY.out).2; clear b4 hro; unfold sndV)
            | (refine step_callN rfl 9 _ _ rfl #[.slice a0 len0 cap0] (by kernel_rfl) (drawSenderOk (W3.alloc (.cells #[.int .i64 0, .slice none 0 0, .int .i64 0] 28)).drew _ _ _ _ HIDB.out) ?_; rintro e y2 ⟨rb, rv, rs, rfl, hrb, hro, hrs, b4⟩; refine ⟨_, rfl, ?_⟩; obtain ⟨ra, rc, rfl⟩ := hro.shape; have HB4 := hide (HBZ.out.trans (b4.mono HBZ.out.size)); have HRO := hide hro; have HRS := hide hrs; have e1 := (box_of ((HB4.out.block L3 hL3).trans E3.out)).1 0 _ rfl;
                have HLY := hide ((b4.block W3.heap.size (by simp)).trans HZN.out); have l0 := (box_of HLY.out).1 0 _ rfl; have l1 := (box_of HLY.out).1 1 _ rfl; have l2 := (box_of HLY.out).1 2 _ rfl; have lz := (box_of HLY.out).2; clear b4 hro; unfold sndV)
            | fail)
        all_goals (
          go_wp2_with fail
          go_meet
          first
          | exact ⟨_, rb, ra, rc, rs, rfl, heap_alloc_new y1 _, hrb, (HRO.out.rd (Nat.le_refl _)).at ((Below.refl y1.heap.size y1).alloc (Nat.le_refl _) _), HRS.out, HB4.out.alloc HB4.out.size _⟩
          | (refine ⟨_, rb, ra, rc, rs, rfl, put3 HLY.out _ _ _, hrb, ?_, HRS.out, ((HB4.out.setCell (Nat.le_refl _) _).setCell (Nat.le_refl _) _).setCell (Nat.le_refl _) _⟩
             refine (HRO.out.same (fun q hq _ _ => ?_)).rd (Nat.le_refl _)
             have hq2 : W3.heap.size + 1 ≤ q := by simpa using hq
             rw [heap_setCell_other _ _ _ _ (by simp; omega), heap_setCell_other _ _ _ _ (by simp; omega), heap_setCell_other _ _ _ _ (by simp; omega)]))
      case rest =>
        obtain ⟨lb, rb, ra, rc, rs, rfl, hlb, hrb, hrd, hrs, hbw⟩ := hcut
        replace HI := hide (HI.out.at hbw)
        replace HU := hide (HU.out.below hbw)
        replace E7 := hide ((hbw.block L7 (Array.getElem?_eq_some_iff.1 E7.out).1).trans E7.out)
        replace HB := hide (HB.out.trans (hbw.mono HB.out.size))
        have HLB := hide hlb
        have HRD := hide hrd
        have HRG := hide hrs.good
        have hrl := hrs.2
        have hcap := (in_slice HU.out (by omega) HSB.out (Nat.le_refl _)).2
        have hcz := HU.out.cap0
        have HUI := hide (in_slice HU.out (by omega) HSB.out (Nat.le_refl _)).1
        clear hlb hrd hrs hbw HID HIDB HBZ HZN e0 e0a e0b hL3 E3 HSH hxl hft hj hgt hi HK
        obtain ⟨hA0, hA1⟩ := atF_bd zs (byt_of_in HI.out) 3
        obtain ⟨al, hal⟩ : ∃ al : Nat, atF zs 3 = (al : Int) := Int.eq_ofNat_of_zero_le hA0
        have hal2 : al ≤ 255 := by omega
        have hm1 : al * 8 * sl.length ≤ 2040 * sl.length := Nat.mul_le_mul_right _ (by omega)
        have hw1 : IntKind.i64.wrap ((al : Int) * 8) = (al : Int) * 8 := by rw [IntKind.wrap_i64]; omega
        have ecast : ((al : Int) * 8 * (sl.length : Int)) = ((al * 8 * sl.length : Nat) : Int) := by simp
        have hw2 : IntKind.i64.wrap ((al : Int) * 8 * (sl.length : Int)) = (al : Int) * 8 * (sl.length : Int) := by
          rw [ecast, IntKind.wrap_i64]; omega
        have hbit : ((al : Int) * 8 * (sl.length : Int)).tdiv 256 = ((al * 8 * sl.length / 256 : Nat) : Int) := by
          rw [ecast, Int.tdiv_eq_ediv_of_nonneg (by omega)]; simp
        clear ecast
        have hlt8 : al * 8 * sl.length / 256 / 8 < sl.length := by
          rw [Nat.div_div_eq_div_mul]
          refine Nat.div_lt_of_lt_mul ?_
          have h1 : 2040 * sl.length < 256 * 8 * sl.length := by omega
          omega
        have HNO := hide (HOT.out _ hlt8)
        have hbd : ((al * 8 * sl.length / 256 : Nat) : Int) ≤ 9223372036854775807 := by
          have : al * 8 * sl.length / 256 ≤ al * 8 * sl.length := Nat.div_le_self _ _
          omega
        generalize al * 8 * sl.length / 256 = bit at *
        have hwb : IntKind.i64.wrap (bit : Int) = (bit : Int) := by rw [IntKind.wrap_i64]; omega
        have HCL : Hid (∀ w', Below wc.heap.size wc w' → w'.cell? ⟨lb, 0, none⟩ = some (.int .i64 rb) ∧ w'.cell? ⟨lb, 1, none⟩ = some (.slice ra rs.length rc) ∧ w'.cell? ⟨lb, 2, none⟩ = some (.int .i64 (base + (j : Int))) ∧ w'.cell? ⟨L7, 2, none⟩ = some (.slice a7 sl.length c7)) := hide (fun w' hb =>
          have x := (box_of ((hb.block lb (Array.getElem?_eq_some_iff.1 HLB.out).1).trans HLB.out)).1
          have y := (box_of ((hb.block L7 (Array.getElem?_eq_some_iff.1 E7.out).1).trans E7.out)).1
          ⟨x 0 _ rfl, x 1 _ rfl, x 2 _ rfl, y 2 _ rfl⟩)
        have HIN : Hid (∀ w', Below wc.heap.size wc w' → In w' w'.heap.size a0 len0 zs ∧ In w' w'.heap.size a7 sl.length sl ∧ RdS w' w'.heap.size (.slice ra rs.length rc) (rs.map Prod.fst)) := hide (fun w' hb => ⟨HI.out.at hb, HUI.out.at hb, HRD.out.at hb⟩)
        have HD := hide (Below.refl wc.heap.size wc).drew
        have HAL := hide hal
        clear hal hA0 hA1
        go_upto_region 11 with fail
        go_cut [12, 14] from 12 to 73 (fun s1 s2 wq => SFin wc rb (base + (j : Int)) s1 s2 wq)
        case first =>
          have hi3 : ((Tryd.prog.info? 28).map (·.size)) = some 3 := by kernel_rfl
          have hi7 : ((Tryd.prog.info? 39).map (·.size)) = some 7 := by kernel_rfl
          refine wp_region_held_drew (S := (fun w' => w'.cell? ⟨lb, 0, none⟩ = some (.int .i64 rb) ∧ w'.cell? ⟨lb, 1, none⟩ = some (.slice ra rs.length rc) ∧ w'.cell? ⟨lb, 2, none⟩ = some (.int .i64 (base + (j : Int))) ∧ w'.cell? ⟨L7, 2, none⟩ = some (.slice a7 sl.length c7))) (by kernel_rfl) (HCL.out _ HD.out) (fun hHeld => ?_)
          have HW := HD
          clear HD
          generalize wc.drew = V0 at *
          refine wpAnyH_take (i := 0) (v := .agg #[.int .i64 rb, .slice ra rs.length rc, .int .i64 (base + (j : Int))]) rfl (by kernel_rfl) (by kernel_rfl) (by kernel_rfl) (fun _ _ _ h => h) (Or.inl ⟨by rfl, ?_⟩) (by assumption) ?_
          · intro w' hSw
            try dsimp only at hSw
            go_simp; try rfl
          simp only [List.getElem_toArray, List.getElem_cons_zero, Act.put, List.setIfInBounds_toArray, List.set_cons_zero, List.set_cons_succ]
          refine wpAnyH_take (i := 1) (v := ?_) rfl (by kernel_rfl) (by kernel_rfl) (by kernel_rfl) (fun _ _ _ h => h) (Or.inl ⟨by rfl, ?_⟩) (by assumption) ?_
          rotate_left
          · intro w' hSw
            try dsimp only at hSw
            go_simp; try rfl
          simp only [List.getElem_toArray, List.getElem_cons_succ, List.getElem_cons_zero, Act.put, List.setIfInBounds_toArray, List.set_cons_zero, List.set_cons_succ]
          refine wpAnyH_take (i := 2) (v := ?_) rfl (by kernel_rfl) (by kernel_rfl) (by kernel_rfl) (fun _ _ _ h => h) (Or.inl ⟨by rfl, ?_⟩) (by assumption) ?_
          rotate_left
          · intro w' hSw
            try dsimp only at hSw
            go_simp; try rfl
          simp only [List.getElem_toArray, List.getElem_cons_succ, List.getElem_cons_zero, Act.put, List.setIfInBounds_toArray, List.set_cons_zero, List.set_cons_succ]
          refine wpAnyH_take (i := 3) (v := ?_) rfl (by kernel_rfl) (by kernel_rfl) (by kernel_rfl) (fun _ _ _ h => h) (Or.inl ⟨by rfl, ?_⟩) (by assumption) ?_
          rotate_left
          · intro w' hSw
            try dsimp only at hSw
            go_simp; try rfl
          simp only [List.getElem_toArray, List.getElem_cons_succ, List.getElem_cons_zero, Act.put, List.setIfInBounds_toArray, List.set_cons_zero, List.set_cons_succ]
          refine wpAnyH_take (i := 6) (v := ?_) rfl (by kernel_rfl) (by kernel_rfl) (by kernel_rfl) (fun _ _ _ h => h) (Or.inl ⟨by rfl, ?_⟩) (by assumption) ?_
          rotate_left
          · intro w' hSw
            try dsimp only at hSw
            go_simp; try rfl
          simp only [List.getElem_toArray, List.getElem_cons_succ, List.getElem_cons_zero, Act.put, List.setIfInBounds_toArray, List.set_cons_zero, List.set_cons_succ]
          refine wpAnyH_take (i := 7) (v := ?_) rfl (by kernel_rfl) (by kernel_rfl) (by kernel_rfl) (fun _ _ _ h => h) (Or.inl ⟨by rfl, ?_⟩) (by assumption) ?_
          rotate_left
          · intro w' hSw
            try dsimp only at hSw
            go_simp; try rfl
          simp only [List.getElem_toArray, List.getElem_cons_succ, List.getElem_cons_zero, Act.put, List.setIfInBounds_toArray, List.set_cons_zero, List.set_cons_succ]
          refine wpAnyH_take (i := 8) (v := ?_) rfl (by kernel_rfl) (by kernel_rfl) (by kernel_rfl) (fun _ _ _ h => h) (Or.inl ⟨by rfl, ?_⟩) (by assumption) ?_
          rotate_left
          · intro w' hSw
            try dsimp only at hSw
            go_simp; try rfl
          simp only [List.getElem_toArray, List.getElem_cons_succ, List.getElem_cons_zero, Act.put, List.setIfInBounds_toArray, List.set_cons_zero, List.set_cons_succ]
          refine wpAnyH_ready (rs := [4, 17, 18]) (by kernel_rfl) (by simp) (AllReadyH.cons (o := { dst := some 62, op := Op.call { callee := Callee.value (Operand.func 16), args := #[Operand.tmp 61, Operand.const (Value.int IntKind.i64 3)], argTypes := #[22, 3] }, type := 3, pos := "laws.go:1887", after := #[{ on := 3, ground := Ground.data }], guard := none }) rfl (fun K hK => ?_) (AllReadyH.cons (o := { dst := some 12, op := Op.alloc 28, type := 0, pos := "laws.go:1887", after := #[], guard := none }) rfl (fun K hK => ?_) (AllReadyH.cons (o := { dst := some 13, op := Op.alloc 39, type := 0, pos := "laws.go:1887", after := #[], guard := none }) rfl (fun K hK => ?_) AllReadyH.nil)))
          · skip
            refine step_callW (some 62) (by kernel_rfl) (by kernel_rfl) 16 #[.tmp 61, .const (.int .i64 3)] #[22, 3] (by kernel_rfl) #[.slice a0 len0 cap0, .int .i64 ((3 : Nat) : Int)] (by kernel_rfl) (atB _ _ a0 len0 cap0 zs 3 (by omega) (HIN.out _ HW.out).1) ?_
            rintro e y ⟨rfl, hy⟩
            rw [hy, HAL.out]
            clear hy y
            refine ⟨_, rfl, ?_⟩
            refine hK.out _ _ (HCL.out _ HW.out) (fun hHeld => ?_)
            clear hK K
            simp only [Act.put, List.setIfInBounds_toArray, List.set_cons_zero, List.set_cons_succ]
            refine wpAnyH_take (i := 5) (v := .int .i64 ((al : Int) * 8)) rfl (by kernel_rfl) (by kernel_rfl) (by kernel_rfl) (fun _ _ _ h => h) (Or.inl ⟨by rfl, ?_⟩) (by assumption) ?_
            · intro w' hSw
              try dsimp only at hSw
              go_simp; try rfl
            simp only [List.getElem_toArray, List.getElem_cons_succ, List.getElem_cons_zero, Act.put, List.setIfInBounds_toArray, List.set_cons_zero, List.set_cons_succ]
            refine wpAnyH_take (i := 9) (v := .int .i64 ((al : Int) * 8 * (sl.length : Int))) rfl (by kernel_rfl) (by kernel_rfl) (by kernel_rfl) (fun _ _ _ h => h) (Or.inl ⟨by rfl, ?_⟩) (by assumption) ?_
            · intro w' hSw
              try dsimp only at hSw
              go_simp; try rfl
            simp only [List.getElem_toArray, List.getElem_cons_succ, List.getElem_cons_zero, Act.put, List.setIfInBounds_toArray, List.set_cons_zero, List.set_cons_succ]
            refine wpAnyH_take (i := 10) (v := .int .i64 (bit : Int)) rfl (by kernel_rfl) (by kernel_rfl) (by kernel_rfl) (fun _ _ _ h => h) (Or.inl ⟨by rfl, ?_⟩) (by assumption) ?_
            · intro w' hSw
              try dsimp only at hSw
              go_simp; try rfl
            simp only [List.getElem_toArray, List.getElem_cons_succ, List.getElem_cons_zero, Act.put, List.setIfInBounds_toArray, List.set_cons_zero, List.set_cons_succ]
            refine wpAnyH_ready (rs := [11, 17, 18]) (by kernel_rfl) (by simp) (AllReadyH.cons (o := { dst := some 69, op := Op.call { callee := Callee.value (Operand.func 15), args := #[Operand.tmp 60, Operand.tmp 68], argTypes := #[22, 3] }, type := 22, pos := "laws.go:1887", after := #[{ on := 2, ground := Ground.data }, { on := 10, ground := Ground.data }, { on := 4, ground := Ground.chain }], guard := none }) rfl (fun K hK => ?_) (AllReadyH.cons (o := { dst := some 12, op := Op.alloc 28, type := 0, pos := "laws.go:1887", after := #[], guard := none }) rfl (fun K hK => ?_) (AllReadyH.cons (o := { dst := some 13, op := Op.alloc 39, type := 0, pos := "laws.go:1887", after := #[], guard := none }) rfl (fun K hK => ?_) AllReadyH.nil)))
            · skip
              refine step_callW (some 69) (by kernel_rfl) (by kernel_rfl) 15 #[.tmp 60, .tmp 68] #[22, 3] (by kernel_rfl) #[.slice a7 sl.length c7, .int .i64 (bit : Int)] (by kernel_rfl) (turnImpl _ _ _ _ sl _ (HIN.out _ HW.out).2.1 hcz ⟨by omega, hbd⟩) ?_
              rintro e V2 ⟨tv, rfl, ot, bt⟩
              obtain ⟨ta, tc, rfl⟩ := own_shape ot
              have htl : (turned sl (bit : Int)).length = sl.length := turned_len _ _
              have hti := in_slice ot (by rw [htl]; omega) (turned_byt _ _ HSB.out) (Nat.le_refl _)
              rw [htl] at hti
              rw [htl]
              have HTI := hide hti.1
              have htc := hti.2
              clear hti htl ot
              replace HW : Hid (Below wc.heap.size wc V2) := hide (HW.out.trans (bt.mono HW.out.size))
              clear bt
              refine ⟨_, rfl, ?_⟩
              refine hK.out _ _ (HCL.out _ HW.out) (fun hHeld => ?_)
              clear hK K
              simp only [Act.put, List.setIfInBounds_toArray, List.set_cons_zero, List.set_cons_succ]
              refine wpAnyH_ready (rs := [12, 17, 18]) (by kernel_rfl) (by simp) (AllReadyH.cons (o := { dst := some 70, op := Op.call { callee := Callee.value (Operand.func 10), args := #[Operand.tmp 58, Operand.tmp 69], argTypes := #[28, 22] }, type := 40, pos := "laws.go:1887", after := #[{ on := 0, ground := Ground.data }, { on := 11, ground := Ground.data }, { on := 11, ground := Ground.chain }], guard := none }) rfl (fun K hK => ?_) (AllReadyH.cons (o := { dst := some 12, op := Op.alloc 28, type := 0, pos := "laws.go:1887", after := #[], guard := none }) rfl (fun K hK => ?_) (AllReadyH.cons (o := { dst := some 13, op := Op.alloc 39, type := 0, pos := "laws.go:1887", after := #[], guard := none }) rfl (fun K hK => ?_) AllReadyH.nil)))
              · skip
                refine step_callW (some 70) (by kernel_rfl) (by kernel_rfl) 10 #[.tmp 58, .tmp 69] #[28, 22] (by kernel_rfl) #[lnV rb (base + (j : Int)) (.slice ra rs.length rc), .slice ta sl.length tc] (by kernel_rfl) (arriveNo _ rb (base + (j : Int)) _ (rs.map Prod.fst) (HIN.out _ HW.out).2.2 (by simp; omega) HRG.out ta sl.length tc (turned sl (bit : Int)) HTI.out htc HNO.out) ?_
                rintro e V3 ⟨kv, rfl, ok, bt⟩
                obtain ⟨ka, kc, ek⟩ := ok.shape
                generalize (rs.map Prod.fst).length = kn at ek
                subst ek
                clear ok HTI
                unfold lnV
                replace HW : Hid (Below wc.heap.size wc V3) := hide (HW.out.trans (bt.mono HW.out.size))
                clear bt
                refine ⟨_, rfl, ?_⟩
                refine hK.out _ _ (HCL.out _ HW.out) (fun hHeld => ?_)
                clear hK K
                simp only [Act.put, List.setIfInBounds_toArray, List.set_cons_zero, List.set_cons_succ]
                refine wpAnyH_take (i := 13) (v := ?_) rfl (by kernel_rfl) (by kernel_rfl) (by kernel_rfl) (fun _ _ _ h => h) (Or.inl ⟨by rfl, ?_⟩) (by assumption) ?_
                rotate_left
                · intro w' hSw
                  try dsimp only at hSw
                  go_simp; try rfl
                simp only [List.getElem_toArray, List.getElem_cons_succ, List.getElem_cons_zero, Act.put, List.setIfInBounds_toArray, List.set_cons_zero, List.set_cons_succ]
                refine wpAnyH_take (i := 14) (v := ?_) rfl (by kernel_rfl) (by kernel_rfl) (by kernel_rfl) (fun _ _ _ h => h) (Or.inl ⟨by rfl, ?_⟩) (by assumption) ?_
                rotate_left
                · intro w' hSw
                  try dsimp only at hSw
                  go_simp; try rfl
                simp only [List.getElem_toArray, List.getElem_cons_succ, List.getElem_cons_zero, Act.put, List.setIfInBounds_toArray, List.set_cons_zero, List.set_cons_succ]
                refine wpAnyH_take (i := 15) (v := ?_) rfl (by kernel_rfl) (by kernel_rfl) (by kernel_rfl) (fun _ _ _ h => h) (Or.inl ⟨by rfl, ?_⟩) (by assumption) ?_
                rotate_left
                · intro w' hSw
                  try dsimp only at hSw
                  go_simp; try rfl
                simp only [List.getElem_toArray, List.getElem_cons_succ, List.getElem_cons_zero, Act.put, List.setIfInBounds_toArray, List.set_cons_zero, List.set_cons_succ]
                refine wpAnyH_take (i := 16) (v := ?_) rfl (by kernel_rfl) (by kernel_rfl) (by kernel_rfl) (fun _ _ _ h => h) (Or.inl ⟨by rfl, ?_⟩) (by assumption) ?_
                rotate_left
                · intro w' hSw
                  try dsimp only at hSw
                  go_simp; try rfl
                simp only [List.getElem_toArray, List.getElem_cons_succ, List.getElem_cons_zero, Act.put, List.setIfInBounds_toArray, List.set_cons_zero, List.set_cons_succ]
                refine wpAnyH_ready (rs := [17, 18]) (by kernel_rfl) (by simp) (AllReadyH.cons (o := { dst := some 12, op := Op.alloc 28, type := 0, pos := "laws.go:1887", after := #[], guard := none }) rfl (fun K hK => ?_) (AllReadyH.cons (o := { dst := some 13, op := Op.alloc 39, type := 0, pos := "laws.go:1887", after := #[], guard := none }) rfl (fun K hK => ?_) AllReadyH.nil))
                · skip
                  refine step_run (some 12) (by kernel_rfl) (by kernel_rfl) (v := .pointer (some ⟨V3.heap.size, 0, none⟩)) (w' := V3.alloc (.cells #[.int .i64 0, .slice none 0 0, .int .i64 0] 28)) (by go_simp; try rfl) ?_
                  have HN := hide (bel_alloc HW.out (.cells #[.int .i64 0, .slice none 0 0, .int .i64 0] 28))
                  refine hK.out _ _ (HCL.out _ HN.out) (fun hHeld => ?_)
                  clear hK K
                  simp only [Act.put, List.setIfInBounds_toArray, List.set_cons_zero, List.set_cons_succ]
                  have k12 := HW.out.size
                  have g12 : Hid ((V3.alloc (.cells #[.int .i64 0, .slice none 0 0, .int .i64 0] 28)).heap[V3.heap.size]? = some (.cells #[.int .i64 0, .slice none 0 0, .int .i64 0] 28 (0, 0))) := hide (heap_alloc_new V3 (.cells #[.int .i64 0, .slice none 0 0, .int .i64 0] 28))
                  clear HW
                  have HW := HN
                  clear HN
                  generalize V3.alloc (.cells #[.int .i64 0, .slice none 0 0, .int .i64 0] 28) = V4 at *
                  generalize V3.heap.size = b12 at *
                  refine wpAnyH_ready (rs := [18]) (by kernel_rfl) (by simp) (AllReadyH.cons (o := { dst := some 13, op := Op.alloc 39, type := 0, pos := "laws.go:1887", after := #[], guard := none }) rfl (fun K hK => ?_) AllReadyH.nil)
                  refine step_run (some 13) (by kernel_rfl) (by kernel_rfl) (v := .pointer (some ⟨V4.heap.size, 0, none⟩)) (w' := V4.alloc (.cells #[.int .i64 0, .int .i64 0, .int .i64 0, .int .i64 0, .int .i64 0, .slice none 0 0, .slice none 0 0] 39)) (by go_simp; try rfl) ?_
                  have HN := hide (bel_alloc HW.out (.cells #[.int .i64 0, .int .i64 0, .int .i64 0, .int .i64 0, .int .i64 0, .slice none 0 0, .slice none 0 0] 39))
                  refine hK.out _ _ (HCL.out _ HN.out) (fun hHeld => ?_)
                  clear hK K
                  simp only [Act.put, List.setIfInBounds_toArray, List.set_cons_zero, List.set_cons_succ]
                  have k13 := HW.out.size
                  have g13 : Hid ((V4.alloc (.cells #[.int .i64 0, .int .i64 0, .int .i64 0, .int .i64 0, .int .i64 0, .slice none 0 0, .slice none 0 0] 39)).heap[V4.heap.size]? = some (.cells #[.int .i64 0, .int .i64 0, .int .i64 0, .int .i64 0, .int .i64 0, .slice none 0 0, .slice none 0 0] 39 (0, 0))) := hide (heap_alloc_new V4 (.cells #[.int .i64 0, .int .i64 0, .int .i64 0, .int .i64 0, .int .i64 0, .slice none 0 0, .slice none 0 0] 39))
                  have lo := (Array.getElem?_eq_some_iff.1 g12.out).1
                  replace g12 := hide ((Below.heap_alloc V4 (.cells #[.int .i64 0, .int .i64 0, .int .i64 0, .int .i64 0, .int .i64 0, .slice none 0 0, .slice none 0 0] 39) b12 lo).trans g12.out)
                  clear HW
                  have HW := HN
                  clear HN
                  generalize V4.alloc (.cells #[.int .i64 0, .int .i64 0, .int .i64 0, .int .i64 0, .int .i64 0, .slice none 0 0, .slice none 0 0] 39) = V5 at *
                  generalize V4.heap.size = b13 at *
                  refine wpAnyH_ready (rs := [19]) (by kernel_rfl) (by simp) (AllReadyH.cons (o := { dst := none, op := Op.store 28 (Operand.tmp 12) (Operand.tmp 71), type := 0, pos := "laws.go:1887", after := #[{ on := 17, ground := Ground.data }, { on := 14, ground := Ground.data }, { on := 12, ground := Ground.chain }, { on := 0, ground := Ground.phase }, { on := 1, ground := Ground.phase }, { on := 2, ground := Ground.phase }, { on := 3, ground := Ground.phase }, { on := 4, ground := Ground.phase }, { on := 5, ground := Ground.phase }, { on := 6, ground := Ground.phase }, { on := 7, ground := Ground.phase }, { on := 8, ground := Ground.phase }, { on := 9, ground := Ground.phase }, { on := 10, ground := Ground.phase }, { on := 11, ground := Ground.phase }, { on := 12, ground := Ground.phase }, { on := 13, ground := Ground.phase }, { on := 14, ground := Ground.phase }, { on := 15, ground := Ground.textOnly Departure.lateStores }, { on := 16, ground := Ground.textOnly Departure.lateStores }, { on := 17, ground := Ground.phase }, { on := 18, ground := Ground.phase }], guard := none }) rfl (fun K hK => ?_) AllReadyH.nil)
                  refine step_store (by kernel_rfl) (by kernel_rfl) 28 (.tmp 12) (.tmp 71) (by kernel_rfl) b12 #[.int .i64 rb, .slice ka kn kc, .int .i64 (base + (j : Int))] (by kernel_rfl) (by kernel_rfl) _ _ g12.out hi3 (by rfl) (by simp [Value.oneCell']) ?_
                  have HN : Hid (Below wc.heap.size wc (V5.setRow b12 #[.int .i64 rb, .slice ka kn kc, .int .i64 (base + (j : Int))])) := hide (below_setRow HW.out k12 _)
                  refine hK.out _ _ (HCL.out _ HN.out) (fun hHeld => ?_)
                  clear hK K
                  try simp only [Act.put, List.setIfInBounds_toArray, List.set_cons_zero, List.set_cons_succ]
                  have g12n := hide (setRow_heap V5 b12 _ #[.int .i64 rb, .slice ka kn kc, .int .i64 (base + (j : Int))] _ _ g12.out)
                  have g13n := hide ((setRow_other V5 b12 b13 #[.int .i64 rb, .slice ka kn kc, .int .i64 (base + (j : Int))] (by omega)).trans g13.out)
                  clear HW g12 g13
                  generalize V5.setRow b12 #[.int .i64 rb, .slice ka kn kc, .int .i64 (base + (j : Int))] = V6 at *
                  refine wpAnyH_ready (rs := [20]) (by kernel_rfl) (by simp) (AllReadyH.cons (o := { dst := none, op := Op.store 39 (Operand.tmp 13) (Operand.tmp 72), type := 0, pos := "laws.go:1887", after := #[{ on := 18, ground := Ground.data }, { on := 15, ground := Ground.data }, { on := 19, ground := Ground.chain }, { on := 0, ground := Ground.phase }, { on := 1, ground := Ground.phase }, { on := 2, ground := Ground.phase }, { on := 3, ground := Ground.phase }, { on := 4, ground := Ground.phase }, { on := 5, ground := Ground.phase }, { on := 6, ground := Ground.phase }, { on := 7, ground := Ground.phase }, { on := 8, ground := Ground.phase }, { on := 9, ground := Ground.phase }, { on := 10, ground := Ground.phase }, { on := 11, ground := Ground.phase }, { on := 12, ground := Ground.phase }, { on := 13, ground := Ground.phase }, { on := 14, ground := Ground.phase }, { on := 15, ground := Ground.phase }, { on := 16, ground := Ground.textOnly Departure.lateStores }, { on := 17, ground := Ground.phase }, { on := 18, ground := Ground.phase }, { on := 19, ground := Ground.phase }], guard := none }) rfl (fun K hK => ?_) AllReadyH.nil)
                  refine step_store (by kernel_rfl) (by kernel_rfl) 39 (.tmp 13) (.tmp 72) (by kernel_rfl) b13 #[.int .i64 0, .int .i64 0, .int .i64 0, .int .i64 0, .int .i64 0, .slice none 0 0, .slice none 0 0] (by kernel_rfl) (by kernel_rfl) _ _ g13n.out hi7 (by rfl) (by simp [Value.oneCell']) ?_
                  have HM := hide (below_setRow HN.out k13 #[.int .i64 0, .int .i64 0, .int .i64 0, .int .i64 0, .int .i64 0, .slice none 0 0, .slice none 0 0])
                  refine hK.out _ _ (HCL.out _ HM.out) (fun hHeld => ?_)
                  clear hK K
                  try simp only [Act.put, List.setIfInBounds_toArray, List.set_cons_zero, List.set_cons_succ]
                  have g12m := hide ((setRow_other V6 b13 b12 #[.int .i64 0, .int .i64 0, .int .i64 0, .int .i64 0, .int .i64 0, .slice none 0 0, .slice none 0 0] (by omega)).trans g12n.out)
                  clear HN g12n g13n
                  generalize V6.setRow b13 #[.int .i64 0, .int .i64 0, .int .i64 0, .int .i64 0, .int .i64 0, .slice none 0 0, .slice none 0 0] = V7 at *
                  refine wpAnyH_take (i := 21) (v := ?_) rfl (by kernel_rfl) (by kernel_rfl) (by kernel_rfl) (fun _ _ _ h => h) (Or.inl ⟨by rfl, ?_⟩) (by assumption) ?_
                  rotate_left
                  · intro w' hSw
                    try dsimp only at hSw
                    go_simp; try rfl
                  simp only [List.getElem_toArray, List.getElem_cons_succ, List.getElem_cons_zero, Act.put, List.setIfInBounds_toArray, List.set_cons_zero, List.set_cons_succ]
                  refine wpAnyH_done (by kernel_rfl) ?_ _
                  go_wp2_with fail
                  go_meet
                  exact ⟨b12, rfl, (box_of g12m.out).1 0 _ rfl, (box_of g12m.out).1 2 _ rfl, rfl, HM.out⟩
                · skip
                  refine step_run (some 13) (by kernel_rfl) (by kernel_rfl) (v := .pointer (some ⟨V3.heap.size, 0, none⟩)) (w' := V3.alloc (.cells #[.int .i64 0, .int .i64 0, .int .i64 0, .int .i64 0, .int .i64 0, .slice none 0 0, .slice none 0 0] 39)) (by go_simp; try rfl) ?_
                  have HN := hide (bel_alloc HW.out (.cells #[.int .i64 0, .int .i64 0, .int .i64 0, .int .i64 0, .int .i64 0, .slice none 0 0, .slice none 0 0] 39))
                  refine hK.out _ _ (HCL.out _ HN.out) (fun hHeld => ?_)
                  clear hK K
                  simp only [Act.put, List.setIfInBounds_toArray, List.set_cons_zero, List.set_cons_succ]
                  have k13 := HW.out.size
                  have g13 : Hid ((V3.alloc (.cells #[.int .i64 0, .int .i64 0, .int .i64 0, .int .i64 0, .int .i64 0, .slice none 0 0, .slice none 0 0] 39)).heap[V3.heap.size]? = some (.cells #[.int .i64 0, .int .i64 0, .int .i64 0, .int .i64 0, .int .i64 0, .slice none 0 0, .slice none 0 0] 39 (0, 0))) := hide (heap_alloc_new V3 (.cells #[.int .i64 0, .int .i64 0, .int .i64 0, .int .i64 0, .int .i64 0, .slice none 0 0, .slice none 0 0] 39))
                  clear HW
                  have HW := HN
                  clear HN
                  generalize V3.alloc (.cells #[.int .i64 0, .int .i64 0, .int .i64 0, .int .i64 0, .int .i64 0, .slice none 0 0, .slice none 0 0] 39) = V8 at *
                  generalize V3.heap.size = b13 at *
                  refine wpAnyH_ready (rs := [17]) (by kernel_rfl) (by simp) (AllReadyH.cons (o := { dst := some 12, op := Op.alloc 28, type := 0, pos := "laws.go:1887", after := #[], guard := none }) rfl (fun K hK => ?_) AllReadyH.nil)
                  refine step_run (some 12) (by kernel_rfl) (by kernel_rfl) (v := .pointer (some ⟨V8.heap.size, 0, none⟩)) (w' := V8.alloc (.cells #[.int .i64 0, .slice none 0 0, .int .i64 0] 28)) (by go_simp; try rfl) ?_
                  have HN := hide (bel_alloc HW.out (.cells #[.int .i64 0, .slice none 0 0, .int .i64 0] 28))
                  refine hK.out _ _ (HCL.out _ HN.out) (fun hHeld => ?_)
                  clear hK K
                  simp only [Act.put, List.setIfInBounds_toArray, List.set_cons_zero, List.set_cons_succ]
                  have k12 := HW.out.size
                  have g12 : Hid ((V8.alloc (.cells #[.int .i64 0, .slice none 0 0, .int .i64 0] 28)).heap[V8.heap.size]? = some (.cells #[.int .i64 0, .slice none 0 0, .int .i64 0] 28 (0, 0))) := hide (heap_alloc_new V8 (.cells #[.int .i64 0, .slice none 0 0, .int .i64 0] 28))
                  have lo := (Array.getElem?_eq_some_iff.1 g13.out).1
                  replace g13 := hide ((Below.heap_alloc V8 (.cells #[.int .i64 0, .slice none 0 0, .int .i64 0] 28) b13 lo).trans g13.out)
                  clear HW
                  have HW := HN
                  clear HN
                  generalize V8.alloc (.cells #[.int .i64 0, .slice none 0 0, .int .i64 0] 28) = V9 at *
                  generalize V8.heap.size = b12 at *
                  refine wpAnyH_ready (rs := [19]) (by kernel_rfl) (by simp) (AllReadyH.cons (o := { dst := none, op := Op.store 28 (Operand.tmp 12) (Operand.tmp 71), type := 0, pos := "laws.go:1887", after := #[{ on := 17, ground := Ground.data }, { on := 14, ground := Ground.data }, { on := 12, ground := Ground.chain }, { on := 0, ground := Ground.phase }, { on := 1, ground := Ground.phase }, { on := 2, ground := Ground.phase }, { on := 3, ground := Ground.phase }, { on := 4, ground := Ground.phase }, { on := 5, ground := Ground.phase }, { on := 6, ground := Ground.phase }, { on := 7, ground := Ground.phase }, { on := 8, ground := Ground.phase }, { on := 9, ground := Ground.phase }, { on := 10, ground := Ground.phase }, { on := 11, ground := Ground.phase }, { on := 12, ground := Ground.phase }, { on := 13, ground := Ground.phase }, { on := 14, ground := Ground.phase }, { on := 15, ground := Ground.textOnly Departure.lateStores }, { on := 16, ground := Ground.textOnly Departure.lateStores }, { on := 17, ground := Ground.phase }, { on := 18, ground := Ground.phase }], guard := none }) rfl (fun K hK => ?_) AllReadyH.nil)
                  refine step_store (by kernel_rfl) (by kernel_rfl) 28 (.tmp 12) (.tmp 71) (by kernel_rfl) b12 #[.int .i64 rb, .slice ka kn kc, .int .i64 (base + (j : Int))] (by kernel_rfl) (by kernel_rfl) _ _ g12.out hi3 (by rfl) (by simp [Value.oneCell']) ?_
                  have HN : Hid (Below wc.heap.size wc (V9.setRow b12 #[.int .i64 rb, .slice ka kn kc, .int .i64 (base + (j : Int))])) := hide (below_setRow HW.out k12 _)
                  refine hK.out _ _ (HCL.out _ HN.out) (fun hHeld => ?_)
                  clear hK K
                  try simp only [Act.put, List.setIfInBounds_toArray, List.set_cons_zero, List.set_cons_succ]
                  have g12n := hide (setRow_heap V9 b12 _ #[.int .i64 rb, .slice ka kn kc, .int .i64 (base + (j : Int))] _ _ g12.out)
                  have g13n := hide ((setRow_other V9 b12 b13 #[.int .i64 rb, .slice ka kn kc, .int .i64 (base + (j : Int))] (by omega)).trans g13.out)
                  clear HW g12 g13
                  generalize V9.setRow b12 #[.int .i64 rb, .slice ka kn kc, .int .i64 (base + (j : Int))] = V10 at *
                  refine wpAnyH_ready (rs := [20]) (by kernel_rfl) (by simp) (AllReadyH.cons (o := { dst := none, op := Op.store 39 (Operand.tmp 13) (Operand.tmp 72), type := 0, pos := "laws.go:1887", after := #[{ on := 18, ground := Ground.data }, { on := 15, ground := Ground.data }, { on := 19, ground := Ground.chain }, { on := 0, ground := Ground.phase }, { on := 1, ground := Ground.phase }, { on := 2, ground := Ground.phase }, { on := 3, ground := Ground.phase }, { on := 4, ground := Ground.phase }, { on := 5, ground := Ground.phase }, { on := 6, ground := Ground.phase }, { on := 7, ground := Ground.phase }, { on := 8, ground := Ground.phase }, { on := 9, ground := Ground.phase }, { on := 10, ground := Ground.phase }, { on := 11, ground := Ground.phase }, { on := 12, ground := Ground.phase }, { on := 13, ground := Ground.phase }, { on := 14, ground := Ground.phase }, { on := 15, ground := Ground.phase }, { on := 16, ground := Ground.textOnly Departure.lateStores }, { on := 17, ground := Ground.phase }, { on := 18, ground := Ground.phase }, { on := 19, ground := Ground.phase }], guard := none }) rfl (fun K hK => ?_) AllReadyH.nil)
                  refine step_store (by kernel_rfl) (by kernel_rfl) 39 (.tmp 13) (.tmp 72) (by kernel_rfl) b13 #[.int .i64 0, .int .i64 0, .int .i64 0, .int .i64 0, .int .i64 0, .slice none 0 0, .slice none 0 0] (by kernel_rfl) (by kernel_rfl) _ _ g13n.out hi7 (by rfl) (by simp [Value.oneCell']) ?_
                  have HM := hide (below_setRow HN.out k13 #[.int .i64 0, .int .i64 0, .int .i64 0, .int .i64 0, .int .i64 0, .slice none 0 0, .slice none 0 0])
                  refine hK.out _ _ (HCL.out _ HM.out) (fun hHeld => ?_)
                  clear hK K
                  try simp only [Act.put, List.setIfInBounds_toArray, List.set_cons_zero, List.set_cons_succ]
                  have g12m := hide ((setRow_other V10 b13 b12 #[.int .i64 0, .int .i64 0, .int .i64 0, .int .i64 0, .int .i64 0, .slice none 0 0, .slice none 0 0] (by omega)).trans g12n.out)
                  clear HN g12n g13n
                  generalize V10.setRow b13 #[.int .i64 0, .int .i64 0, .int .i64 0, .int .i64 0, .int .i64 0, .slice none 0 0, .slice none 0 0] = V11 at *
                  refine wpAnyH_take (i := 21) (v := ?_) rfl (by kernel_rfl) (by kernel_rfl) (by kernel_rfl) (fun _ _ _ h => h) (Or.inl ⟨by rfl, ?_⟩) (by assumption) ?_
                  rotate_left
                  · intro w' hSw
                    try dsimp only at hSw
                    go_simp; try rfl
                  simp only [List.getElem_toArray, List.getElem_cons_succ, List.getElem_cons_zero, Act.put, List.setIfInBounds_toArray, List.set_cons_zero, List.set_cons_succ]
                  refine wpAnyH_done (by kernel_rfl) ?_ _
                  go_wp2_with fail
                  go_meet
                  exact ⟨b12, rfl, (box_of g12m.out).1 0 _ rfl, (box_of g12m.out).1 2 _ rfl, rfl, HM.out⟩
              · skip
                refine step_run (some 12) (by kernel_rfl) (by kernel_rfl) (v := .pointer (some ⟨V2.heap.size, 0, none⟩)) (w' := V2.alloc (.cells #[.int .i64 0, .slice none 0 0, .int .i64 0] 28)) (by go_simp; try rfl) ?_
                have HN := hide (bel_alloc HW.out (.cells #[.int .i64 0, .slice none 0 0, .int .i64 0] 28))
                refine hK.out _ _ (HCL.out _ HN.out) (fun hHeld => ?_)
                clear hK K
                simp only [Act.put, List.setIfInBounds_toArray, List.set_cons_zero, List.set_cons_succ]
                have k12 := HW.out.size
                have g12 : Hid ((V2.alloc (.cells #[.int .i64 0, .slice none 0 0, .int .i64 0] 28)).heap[V2.heap.size]? = some (.cells #[.int .i64 0, .slice none 0 0, .int .i64 0] 28 (0, 0))) := hide (heap_alloc_new V2 (.cells #[.int .i64 0, .slice none 0 0, .int .i64 0] 28))
                replace HTI := hide (HTI.out.at ((Below.refl V2.heap.size V2).alloc (Nat.le_refl _) (.cells #[.int .i64 0, .slice none 0 0, .int .i64 0] 28)))
                clear HW
                have HW := HN
                clear HN
                generalize V2.alloc (.cells #[.int .i64 0, .slice none 0 0, .int .i64 0] 28) = V12 at *
                generalize V2.heap.size = b12 at *
                refine wpAnyH_ready (rs := [12, 18]) (by kernel_rfl) (by simp) (AllReadyH.cons (o := { dst := some 70, op := Op.call { callee := Callee.value (Operand.func 10), args := #[Operand.tmp 58, Operand.tmp 69], argTypes := #[28, 22] }, type := 40, pos := "laws.go:1887", after := #[{ on := 0, ground := Ground.data }, { on := 11, ground := Ground.data }, { on := 11, ground := Ground.chain }], guard := none }) rfl (fun K hK => ?_) (AllReadyH.cons (o := { dst := some 13, op := Op.alloc 39, type := 0, pos := "laws.go:1887", after := #[], guard := none }) rfl (fun K hK => ?_) AllReadyH.nil))
                · skip
                  refine step_callW (some 70) (by kernel_rfl) (by kernel_rfl) 10 #[.tmp 58, .tmp 69] #[28, 22] (by kernel_rfl) #[lnV rb (base + (j : Int)) (.slice ra rs.length rc), .slice ta sl.length tc] (by kernel_rfl) (arriveNo _ rb (base + (j : Int)) _ (rs.map Prod.fst) (HIN.out _ HW.out).2.2 (by simp; omega) HRG.out ta sl.length tc (turned sl (bit : Int)) HTI.out htc HNO.out) ?_
                  rintro e V13 ⟨kv, rfl, ok, bt⟩
                  obtain ⟨ka, kc, ek⟩ := ok.shape
                  generalize (rs.map Prod.fst).length = kn at ek
                  subst ek
                  clear ok HTI
                  unfold lnV
                  replace g12 := hide ((bt.block b12 (Array.getElem?_eq_some_iff.1 g12.out).1).trans g12.out)
                  replace HW : Hid (Below wc.heap.size wc V13) := hide (HW.out.trans (bt.mono HW.out.size))
                  clear bt
                  refine ⟨_, rfl, ?_⟩
                  refine hK.out _ _ (HCL.out _ HW.out) (fun hHeld => ?_)
                  clear hK K
                  simp only [Act.put, List.setIfInBounds_toArray, List.set_cons_zero, List.set_cons_succ]
                  refine wpAnyH_take (i := 13) (v := ?_) rfl (by kernel_rfl) (by kernel_rfl) (by kernel_rfl) (fun _ _ _ h => h) (Or.inl ⟨by rfl, ?_⟩) (by assumption) ?_
                  rotate_left
                  · intro w' hSw
                    try dsimp only at hSw
                    go_simp; try rfl
                  simp only [List.getElem_toArray, List.getElem_cons_succ, List.getElem_cons_zero, Act.put, List.setIfInBounds_toArray, List.set_cons_zero, List.set_cons_succ]
                  refine wpAnyH_take (i := 14) (v := ?_) rfl (by kernel_rfl) (by kernel_rfl) (by kernel_rfl) (fun _ _ _ h => h) (Or.inl ⟨by rfl, ?_⟩) (by assumption) ?_
                  rotate_left
                  · intro w' hSw
                    try dsimp only at hSw
                    go_simp; try rfl
                  simp only [List.getElem_toArray, List.getElem_cons_succ, List.getElem_cons_zero, Act.put, List.setIfInBounds_toArray, List.set_cons_zero, List.set_cons_succ]
                  refine wpAnyH_take (i := 15) (v := ?_) rfl (by kernel_rfl) (by kernel_rfl) (by kernel_rfl) (fun _ _ _ h => h) (Or.inl ⟨by rfl, ?_⟩) (by assumption) ?_
                  rotate_left
                  · intro w' hSw
                    try dsimp only at hSw
                    go_simp; try rfl
                  simp only [List.getElem_toArray, List.getElem_cons_succ, List.getElem_cons_zero, Act.put, List.setIfInBounds_toArray, List.set_cons_zero, List.set_cons_succ]
                  refine wpAnyH_take (i := 16) (v := ?_) rfl (by kernel_rfl) (by kernel_rfl) (by kernel_rfl) (fun _ _ _ h => h) (Or.inl ⟨by rfl, ?_⟩) (by assumption) ?_
                  rotate_left
                  · intro w' hSw
                    try dsimp only at hSw
                    go_simp; try rfl
                  simp only [List.getElem_toArray, List.getElem_cons_succ, List.getElem_cons_zero, Act.put, List.setIfInBounds_toArray, List.set_cons_zero, List.set_cons_succ]
                  refine wpAnyH_ready (rs := [18]) (by kernel_rfl) (by simp) (AllReadyH.cons (o := { dst := some 13, op := Op.alloc 39, type := 0, pos := "laws.go:1887", after := #[], guard := none }) rfl (fun K hK => ?_) AllReadyH.nil)
                  refine step_run (some 13) (by kernel_rfl) (by kernel_rfl) (v := .pointer (some ⟨V13.heap.size, 0, none⟩)) (w' := V13.alloc (.cells #[.int .i64 0, .int .i64 0, .int .i64 0, .int .i64 0, .int .i64 0, .slice none 0 0, .slice none 0 0] 39)) (by go_simp; try rfl) ?_
                  have HN := hide (bel_alloc HW.out (.cells #[.int .i64 0, .int .i64 0, .int .i64 0, .int .i64 0, .int .i64 0, .slice none 0 0, .slice none 0 0] 39))
                  refine hK.out _ _ (HCL.out _ HN.out) (fun hHeld => ?_)
                  clear hK K
                  simp only [Act.put, List.setIfInBounds_toArray, List.set_cons_zero, List.set_cons_succ]
                  have k13 := HW.out.size
                  have g13 : Hid ((V13.alloc (.cells #[.int .i64 0, .int .i64 0, .int .i64 0, .int .i64 0, .int .i64 0, .slice none 0 0, .slice none 0 0] 39)).heap[V13.heap.size]? = some (.cells #[.int .i64 0, .int .i64 0, .int .i64 0, .int .i64 0, .int .i64 0, .slice none 0 0, .slice none 0 0] 39 (0, 0))) := hide (heap_alloc_new V13 (.cells #[.int .i64 0, .int .i64 0, .int .i64 0, .int .i64 0, .int .i64 0, .slice none 0 0, .slice none 0 0] 39))
                  have lo := (Array.getElem?_eq_some_iff.1 g12.out).1
                  replace g12 := hide ((Below.heap_alloc V13 (.cells #[.int .i64 0, .int .i64 0, .int .i64 0, .int .i64 0, .int .i64 0, .slice none 0 0, .slice none 0 0] 39) b12 lo).trans g12.out)
                  clear HW
                  have HW := HN
                  clear HN
                  generalize V13.alloc (.cells #[.int .i64 0, .int .i64 0, .int .i64 0, .int .i64 0, .int .i64 0, .slice none 0 0, .slice none 0 0] 39) = V14 at *
                  generalize V13.heap.size = b13 at *
                  refine wpAnyH_ready (rs := [19]) (by kernel_rfl) (by simp) (AllReadyH.cons (o := { dst := none, op := Op.store 28 (Operand.tmp 12) (Operand.tmp 71), type := 0, pos := "laws.go:1887", after := #[{ on := 17, ground := Ground.data }, { on := 14, ground := Ground.data }, { on := 12, ground := Ground.chain }, { on := 0, ground := Ground.phase }, { on := 1, ground := Ground.phase }, { on := 2, ground := Ground.phase }, { on := 3, ground := Ground.phase }, { on := 4, ground := Ground.phase }, { on := 5, ground := Ground.phase }, { on := 6, ground := Ground.phase }, { on := 7, ground := Ground.phase }, { on := 8, ground := Ground.phase }, { on := 9, ground := Ground.phase }, { on := 10, ground := Ground.phase }, { on := 11, ground := Ground.phase }, { on := 12, ground := Ground.phase }, { on := 13, ground := Ground.phase }, { on := 14, ground := Ground.phase }, { on := 15, ground := Ground.textOnly Departure.lateStores }, { on := 16, ground := Ground.textOnly Departure.lateStores }, { on := 17, ground := Ground.phase }, { on := 18, ground := Ground.phase }], guard := none }) rfl (fun K hK => ?_) AllReadyH.nil)
                  refine step_store (by kernel_rfl) (by kernel_rfl) 28 (.tmp 12) (.tmp 71) (by kernel_rfl) b12 #[.int .i64 rb, .slice ka kn kc, .int .i64 (base + (j : Int))] (by kernel_rfl) (by kernel_rfl) _ _ g12.out hi3 (by rfl) (by simp [Value.oneCell']) ?_
                  have HN : Hid (Below wc.heap.size wc (V14.setRow b12 #[.int .i64 rb, .slice ka kn kc, .int .i64 (base + (j : Int))])) := hide (below_setRow HW.out k12 _)
                  refine hK.out _ _ (HCL.out _ HN.out) (fun hHeld => ?_)
                  clear hK K
                  try simp only [Act.put, List.setIfInBounds_toArray, List.set_cons_zero, List.set_cons_succ]
                  have g12n := hide (setRow_heap V14 b12 _ #[.int .i64 rb, .slice ka kn kc, .int .i64 (base + (j : Int))] _ _ g12.out)
                  have g13n := hide ((setRow_other V14 b12 b13 #[.int .i64 rb, .slice ka kn kc, .int .i64 (base + (j : Int))] (by omega)).trans g13.out)
                  clear HW g12 g13
                  generalize V14.setRow b12 #[.int .i64 rb, .slice ka kn kc, .int .i64 (base + (j : Int))] = V15 at *
                  refine wpAnyH_ready (rs := [20]) (by kernel_rfl) (by simp) (AllReadyH.cons (o := { dst := none, op := Op.store 39 (Operand.tmp 13) (Operand.tmp 72), type := 0, pos := "laws.go:1887", after := #[{ on := 18, ground := Ground.data }, { on := 15, ground := Ground.data }, { on := 19, ground := Ground.chain }, { on := 0, ground := Ground.phase }, { on := 1, ground := Ground.phase }, { on := 2, ground := Ground.phase }, { on := 3, ground := Ground.phase }, { on := 4, ground := Ground.phase }, { on := 5, ground := Ground.phase }, { on := 6, ground := Ground.phase }, { on := 7, ground := Ground.phase }, { on := 8, ground := Ground.phase }, { on := 9, ground := Ground.phase }, { on := 10, ground := Ground.phase }, { on := 11, ground := Ground.phase }, { on := 12, ground := Ground.phase }, { on := 13, ground := Ground.phase }, { on := 14, ground := Ground.phase }, { on := 15, ground := Ground.phase }, { on := 16, ground := Ground.textOnly Departure.lateStores }, { on := 17, ground := Ground.phase }, { on := 18, ground := Ground.phase }, { on := 19, ground := Ground.phase }], guard := none }) rfl (fun K hK => ?_) AllReadyH.nil)
                  refine step_store (by kernel_rfl) (by kernel_rfl) 39 (.tmp 13) (.tmp 72) (by kernel_rfl) b13 #[.int .i64 0, .int .i64 0, .int .i64 0, .int .i64 0, .int .i64 0, .slice none 0 0, .slice none 0 0] (by kernel_rfl) (by kernel_rfl) _ _ g13n.out hi7 (by rfl) (by simp [Value.oneCell']) ?_
                  have HM := hide (below_setRow HN.out k13 #[.int .i64 0, .int .i64 0, .int .i64 0, .int .i64 0, .int .i64 0, .slice none 0 0, .slice none 0 0])
                  refine hK.out _ _ (HCL.out _ HM.out) (fun hHeld => ?_)
                  clear hK K
                  try simp only [Act.put, List.setIfInBounds_toArray, List.set_cons_zero, List.set_cons_succ]
                  have g12m := hide ((setRow_other V15 b13 b12 #[.int .i64 0, .int .i64 0, .int .i64 0, .int .i64 0, .int .i64 0, .slice none 0 0, .slice none 0 0] (by omega)).trans g12n.out)
                  clear HN g12n g13n
                  generalize V15.setRow b13 #[.int .i64 0, .int .i64 0, .int .i64 0, .int .i64 0, .int .i64 0, .slice none 0 0, .slice none 0 0] = V16 at *
                  refine wpAnyH_take (i := 21) (v := ?_) rfl (by kernel_rfl) (by kernel_rfl) (by kernel_rfl) (fun _ _ _ h => h) (Or.inl ⟨by rfl, ?_⟩) (by assumption) ?_
                  rotate_left
                  · intro w' hSw
                    try dsimp only at hSw
                    go_simp; try rfl
                  simp only [List.getElem_toArray, List.getElem_cons_succ, List.getElem_cons_zero, Act.put, List.setIfInBounds_toArray, List.set_cons_zero, List.set_cons_succ]
                  refine wpAnyH_done (by kernel_rfl) ?_ _
                  go_wp2_with fail
                  go_meet
                  exact ⟨b12, rfl, (box_of g12m.out).1 0 _ rfl, (box_of g12m.out).1 2 _ rfl, rfl, HM.out⟩
                · skip
                  refine step_run (some 13) (by kernel_rfl) (by kernel_rfl) (v := .pointer (some ⟨V12.heap.size, 0, none⟩)) (w' := V12.alloc (.cells #[.int .i64 0, .int .i64 0, .int .i64 0, .int .i64 0, .int .i64 0, .slice none 0 0, .slice none 0 0] 39)) (by go_simp; try rfl) ?_
                  have HN := hide (bel_alloc HW.out (.cells #[.int .i64 0, .int .i64 0, .int .i64 0, .int .i64 0, .int .i64 0, .slice none 0 0, .slice none 0 0] 39))
                  refine hK.out _ _ (HCL.out _ HN.out) (fun hHeld => ?_)
                  clear hK K
                  simp only [Act.put, List.setIfInBounds_toArray, List.set_cons_zero, List.set_cons_succ]
                  have k13 := HW.out.size
                  have g13 : Hid ((V12.alloc (.cells #[.int .i64 0, .int .i64 0, .int .i64 0, .int .i64 0, .int .i64 0, .slice none 0 0, .slice none 0 0] 39)).heap[V12.heap.size]? = some (.cells #[.int .i64 0, .int .i64 0, .int .i64 0, .int .i64 0, .int .i64 0, .slice none 0 0, .slice none 0 0] 39 (0, 0))) := hide (heap_alloc_new V12 (.cells #[.int .i64 0, .int .i64 0, .int .i64 0, .int .i64 0, .int .i64 0, .slice none 0 0, .slice none 0 0] 39))
                  have lo := (Array.getElem?_eq_some_iff.1 g12.out).1
                  replace g12 := hide ((Below.heap_alloc V12 (.cells #[.int .i64 0, .int .i64 0, .int .i64 0, .int .i64 0, .int .i64 0, .slice none 0 0, .slice none 0 0] 39) b12 lo).trans g12.out)
                  replace HTI := hide (HTI.out.at ((Below.refl V12.heap.size V12).alloc (Nat.le_refl _) (.cells #[.int .i64 0, .int .i64 0, .int .i64 0, .int .i64 0, .int .i64 0, .slice none 0 0, .slice none 0 0] 39)))
                  clear HW
                  have HW := HN
                  clear HN
                  generalize V12.alloc (.cells #[.int .i64 0, .int .i64 0, .int .i64 0, .int .i64 0, .int .i64 0, .slice none 0 0, .slice none 0 0] 39) = V17 at *
                  generalize V12.heap.size = b13 at *
                  refine wpAnyH_ready (rs := [12]) (by kernel_rfl) (by simp) (AllReadyH.cons (o := { dst := some 70, op := Op.call { callee := Callee.value (Operand.func 10), args := #[Operand.tmp 58, Operand.tmp 69], argTypes := #[28, 22] }, type := 40, pos := "laws.go:1887", after := #[{ on := 0, ground := Ground.data }, { on := 11, ground := Ground.data }, { on := 11, ground := Ground.chain }], guard := none }) rfl (fun K hK => ?_) AllReadyH.nil)
                  refine step_callW (some 70) (by kernel_rfl) (by kernel_rfl) 10 #[.tmp 58, .tmp 69] #[28, 22] (by kernel_rfl) #[lnV rb (base + (j : Int)) (.slice ra rs.length rc), .slice ta sl.length tc] (by kernel_rfl) (arriveNo _ rb (base + (j : Int)) _ (rs.map Prod.fst) (HIN.out _ HW.out).2.2 (by simp; omega) HRG.out ta sl.length tc (turned sl (bit : Int)) HTI.out htc HNO.out) ?_
                  rintro e V18 ⟨kv, rfl, ok, bt⟩
                  obtain ⟨ka, kc, ek⟩ := ok.shape
                  generalize (rs.map Prod.fst).length = kn at ek
                  subst ek
                  clear ok HTI
                  unfold lnV
                  replace g12 := hide ((bt.block b12 (Array.getElem?_eq_some_iff.1 g12.out).1).trans g12.out)
                  replace g13 := hide ((bt.block b13 (Array.getElem?_eq_some_iff.1 g13.out).1).trans g13.out)
                  replace HW : Hid (Below wc.heap.size wc V18) := hide (HW.out.trans (bt.mono HW.out.size))
                  clear bt
                  refine ⟨_, rfl, ?_⟩
                  refine hK.out _ _ (HCL.out _ HW.out) (fun hHeld => ?_)
                  clear hK K
                  simp only [Act.put, List.setIfInBounds_toArray, List.set_cons_zero, List.set_cons_succ]
                  refine wpAnyH_take (i := 13) (v := ?_) rfl (by kernel_rfl) (by kernel_rfl) (by kernel_rfl) (fun _ _ _ h => h) (Or.inl ⟨by rfl, ?_⟩) (by assumption) ?_
                  rotate_left
                  · intro w' hSw
                    try dsimp only at hSw
                    go_simp; try rfl
                  simp only [List.getElem_toArray, List.getElem_cons_succ, List.getElem_cons_zero, Act.put, List.setIfInBounds_toArray, List.set_cons_zero, List.set_cons_succ]
                  refine wpAnyH_take (i := 14) (v := ?_) rfl (by kernel_rfl) (by kernel_rfl) (by kernel_rfl) (fun _ _ _ h => h) (Or.inl ⟨by rfl, ?_⟩) (by assumption) ?_
                  rotate_left
                  · intro w' hSw
                    try dsimp only at hSw
                    go_simp; try rfl
                  simp only [List.getElem_toArray, List.getElem_cons_succ, List.getElem_cons_zero, Act.put, List.setIfInBounds_toArray, List.set_cons_zero, List.set_cons_succ]
                  refine wpAnyH_take (i := 15) (v := ?_) rfl (by kernel_rfl) (by kernel_rfl) (by kernel_rfl) (fun _ _ _ h => h) (Or.inl ⟨by rfl, ?_⟩) (by assumption) ?_
                  rotate_left
                  · intro w' hSw
                    try dsimp only at hSw
                    go_simp; try rfl
                  simp only [List.getElem_toArray, List.getElem_cons_succ, List.getElem_cons_zero, Act.put, List.setIfInBounds_toArray, List.set_cons_zero, List.set_cons_succ]
                  refine wpAnyH_take (i := 16) (v := ?_) rfl (by kernel_rfl) (by kernel_rfl) (by kernel_rfl) (fun _ _ _ h => h) (Or.inl ⟨by rfl, ?_⟩) (by assumption) ?_
                  rotate_left
                  · intro w' hSw
                    try dsimp only at hSw
                    go_simp; try rfl
                  simp only [List.getElem_toArray, List.getElem_cons_succ, List.getElem_cons_zero, Act.put, List.setIfInBounds_toArray, List.set_cons_zero, List.set_cons_succ]
                  refine wpAnyH_ready (rs := [19]) (by kernel_rfl) (by simp) (AllReadyH.cons (o := { dst := none, op := Op.store 28 (Operand.tmp 12) (Operand.tmp 71), type := 0, pos := "laws.go:1887", after := #[{ on := 17, ground := Ground.data }, { on := 14, ground := Ground.data }, { on := 12, ground := Ground.chain }, { on := 0, ground := Ground.phase }, { on := 1, ground := Ground.phase }, { on := 2, ground := Ground.phase }, { on := 3, ground := Ground.phase }, { on := 4, ground := Ground.phase }, { on := 5, ground := Ground.phase }, { on := 6, ground := Ground.phase }, { on := 7, ground := Ground.phase }, { on := 8, ground := Ground.phase }, { on := 9, ground := Ground.phase }, { on := 10, ground := Ground.phase }, { on := 11, ground := Ground.phase }, { on := 12, ground := Ground.phase }, { on := 13, ground := Ground.phase }, { on := 14, ground := Ground.phase }, { on := 15, ground := Ground.textOnly Departure.lateStores }, { on := 16, ground := Ground.textOnly Departure.lateStores }, { on := 17, ground := Ground.phase }, { on := 18, ground := Ground.phase }], guard := none }) rfl (fun K hK => ?_) AllReadyH.nil)
                  refine step_store (by kernel_rfl) (by kernel_rfl) 28 (.tmp 12) (.tmp 71) (by kernel_rfl) b12 #[.int .i64 rb, .slice ka kn kc, .int .i64 (base + (j : Int))] (by kernel_rfl) (by kernel_rfl) _ _ g12.out hi3 (by rfl) (by simp [Value.oneCell']) ?_
                  have HN : Hid (Below wc.heap.size wc (V18.setRow b12 #[.int .i64 rb, .slice ka kn kc, .int .i64 (base + (j : Int))])) := hide (below_setRow HW.out k12 _)
                  refine hK.out _ _ (HCL.out _ HN.out) (fun hHeld => ?_)
                  clear hK K
                  try simp only [Act.put, List.setIfInBounds_toArray, List.set_cons_zero, List.set_cons_succ]
                  have g12n := hide (setRow_heap V18 b12 _ #[.int .i64 rb, .slice ka kn kc, .int .i64 (base + (j : Int))] _ _ g12.out)
                  have g13n := hide ((setRow_other V18 b12 b13 #[.int .i64 rb, .slice ka kn kc, .int .i64 (base + (j : Int))] (by omega)).trans g13.out)
                  clear HW g12 g13
                  generalize V18.setRow b12 #[.int .i64 rb, .slice ka kn kc, .int .i64 (base + (j : Int))] = V19 at *
                  refine wpAnyH_ready (rs := [20]) (by kernel_rfl) (by simp) (AllReadyH.cons (o := { dst := none, op := Op.store 39 (Operand.tmp 13) (Operand.tmp 72), type := 0, pos := "laws.go:1887", after := #[{ on := 18, ground := Ground.data }, { on := 15, ground := Ground.data }, { on := 19, ground := Ground.chain }, { on := 0, ground := Ground.phase }, { on := 1, ground := Ground.phase }, { on := 2, ground := Ground.phase }, { on := 3, ground := Ground.phase }, { on := 4, ground := Ground.phase }, { on := 5, ground := Ground.phase }, { on := 6, ground := Ground.phase }, { on := 7, ground := Ground.phase }, { on := 8, ground := Ground.phase }, { on := 9, ground := Ground.phase }, { on := 10, ground := Ground.phase }, { on := 11, ground := Ground.phase }, { on := 12, ground := Ground.phase }, { on := 13, ground := Ground.phase }, { on := 14, ground := Ground.phase }, { on := 15, ground := Ground.phase }, { on := 16, ground := Ground.textOnly Departure.lateStores }, { on := 17, ground := Ground.phase }, { on := 18, ground := Ground.phase }, { on := 19, ground := Ground.phase }], guard := none }) rfl (fun K hK => ?_) AllReadyH.nil)
                  refine step_store (by kernel_rfl) (by kernel_rfl) 39 (.tmp 13) (.tmp 72) (by kernel_rfl) b13 #[.int .i64 0, .int .i64 0, .int .i64 0, .int .i64 0, .int .i64 0, .slice none 0 0, .slice none 0 0] (by kernel_rfl) (by kernel_rfl) _ _ g13n.out hi7 (by rfl) (by simp [Value.oneCell']) ?_
                  have HM := hide (below_setRow HN.out k13 #[.int .i64 0, .int .i64 0, .int .i64 0, .int .i64 0, .int .i64 0, .slice none 0 0, .slice none 0 0])
                  refine hK.out _ _ (HCL.out _ HM.out) (fun hHeld => ?_)
                  clear hK K
                  try simp only [Act.put, List.setIfInBounds_toArray, List.set_cons_zero, List.set_cons_succ]
                  have g12m := hide ((setRow_other V19 b13 b12 #[.int .i64 0, .int .i64 0, .int .i64 0, .int .i64 0, .int .i64 0, .slice none 0 0, .slice none 0 0] (by omega)).trans g12n.out)
                  clear HN g12n g13n
                  generalize V19.setRow b13 #[.int .i64 0, .int .i64 0, .int .i64 0, .int .i64 0, .int .i64 0, .slice none 0 0, .slice none 0 0] = V20 at *
                  refine wpAnyH_take (i := 21) (v := ?_) rfl (by kernel_rfl) (by kernel_rfl) (by kernel_rfl) (fun _ _ _ h => h) (Or.inl ⟨by rfl, ?_⟩) (by assumption) ?_
                  rotate_left
                  · intro w' hSw
                    try dsimp only at hSw
                    go_simp; try rfl
                  simp only [List.getElem_toArray, List.getElem_cons_succ, List.getElem_cons_zero, Act.put, List.setIfInBounds_toArray, List.set_cons_zero, List.set_cons_succ]
                  refine wpAnyH_done (by kernel_rfl) ?_ _
                  go_wp2_with fail
                  go_meet
                  exact ⟨b12, rfl, (box_of g12m.out).1 0 _ rfl, (box_of g12m.out).1 2 _ rfl, rfl, HM.out⟩
              · skip
                refine step_run (some 13) (by kernel_rfl) (by kernel_rfl) (v := .pointer (some ⟨V2.heap.size, 0, none⟩)) (w' := V2.alloc (.cells #[.int .i64 0, .int .i64 0, .int .i64 0, .int .i64 0, .int .i64 0, .slice none 0 0, .slice none 0 0] 39)) (by go_simp; try rfl) ?_
                have HN := hide (bel_alloc HW.out (.cells #[.int .i64 0, .int .i64 0, .int .i64 0, .int .i64 0, .int .i64 0, .slice none 0 0, .slice none 0 0] 39))
                refine hK.out _ _ (HCL.out _ HN.out) (fun hHeld => ?_)
                clear hK K
                simp only [Act.put, List.setIfInBounds_toArray, List.set_cons_zero, List.set_cons_succ]
                have k13 := HW.out.size
                have g13 : Hid ((V2.alloc (.cells #[.int .i64 0, .int .i64 0, .int .i64 0, .int .i64 0, .int .i64 0, .slice none 0 0, .slice none 0 0] 39)).heap[V2.heap.size]? = some (.cells #[.int .i64 0, .int .i64 0, .int .i64 0, .int .i64 0, .int .i64 0, .slice none 0 0, .slice none 0 0] 39 (0, 0))) := hide (heap_alloc_new V2 (.cells #[.int .i64 0, .int .i64 0, .int .i64 0, .int .i64 0, .int .i64 0, .slice none 0 0, .slice none 0 0] 39))
                replace HTI := hide (HTI.out.at ((Below.refl V2.heap.size V2).alloc (Nat.le_refl _) (.cells #[.int .i64 0, .int .i64 0, .int .i64 0, .int .i64 0, .int .i64 0, .slice none 0 0, .slice none 0 0] 39)))
                clear HW
                have HW := HN
                clear HN
                generalize V2.alloc (.cells #[.int .i64 0, .int .i64 0, .int .i64 0, .int .i64 0, .int .i64 0, .slice none 0 0, .slice none 0 0] 39) = V21 at *
                generalize V2.heap.size = b13 at *
                refine wpAnyH_ready (rs := [12, 17]) (by kernel_rfl) (by simp) (AllReadyH.cons (o := { dst := some 70, op := Op.call { callee := Callee.value (Operand.func 10), args := #[Operand.tmp 58, Operand.tmp 69], argTypes := #[28, 22] }, type := 40, pos := "laws.go:1887", after := #[{ on := 0, ground := Ground.data }, { on := 11, ground := Ground.data }, { on := 11, ground := Ground.chain }], guard := none }) rfl (fun K hK => ?_) (AllReadyH.cons (o := { dst := some 12, op := Op.alloc 28, type := 0, pos := "laws.go:1887", after := #[], guard := none }) rfl (fun K hK => ?_) AllReadyH.nil))
                · skip
                  refine step_callW (some 70) (by kernel_rfl) (by kernel_rfl) 10 #[.tmp 58, .tmp 69] #[28, 22] (by kernel_rfl) #[lnV rb (base + (j : Int)) (.slice ra rs.length rc), .slice ta sl.length tc] (by kernel_rfl) (arriveNo _ rb (base + (j : Int)) _ (rs.map Prod.fst) (HIN.out _ HW.out).2.2 (by simp; omega) HRG.out ta sl.length tc (turned sl (bit : Int)) HTI.out htc HNO.out) ?_
                  rintro e V22 ⟨kv, rfl, ok, bt⟩
                  obtain ⟨ka, kc, ek⟩ := ok.shape
                  generalize (rs.map Prod.fst).length = kn at ek
                  subst ek
                  clear ok HTI
                  unfold lnV
                  replace g13 := hide ((bt.block b13 (Array.getElem?_eq_some_iff.1 g13.out).1).trans g13.out)
                  replace HW : Hid (Below wc.heap.size wc V22) := hide (HW.out.trans (bt.mono HW.out.size))
                  clear bt
                  refine ⟨_, rfl, ?_⟩
                  refine hK.out _ _ (HCL.out _ HW.out) (fun hHeld => ?_)
                  clear hK K
                  simp only [Act.put, List.setIfInBounds_toArray, List.set_cons_zero, List.set_cons_succ]
                  refine wpAnyH_take (i := 13) (v := ?_) rfl (by kernel_rfl) (by kernel_rfl) (by kernel_rfl) (fun _ _ _ h => h) (Or.inl ⟨by rfl, ?_⟩) (by assumption) ?_
                  rotate_left
                  · intro w' hSw
                    try dsimp only at hSw
                    go_simp; try rfl
                  simp only [List.getElem_toArray, List.getElem_cons_succ, List.getElem_cons_zero, Act.put, List.setIfInBounds_toArray, List.set_cons_zero, List.set_cons_succ]
                  refine wpAnyH_take (i := 14) (v := ?_) rfl (by kernel_rfl) (by kernel_rfl) (by kernel_rfl) (fun _ _ _ h => h) (Or.inl ⟨by rfl, ?_⟩) (by assumption) ?_
                  rotate_left
                  · intro w' hSw
                    try dsimp only at hSw
                    go_simp; try rfl
                  simp only [List.getElem_toArray, List.getElem_cons_succ, List.getElem_cons_zero, Act.put, List.setIfInBounds_toArray, List.set_cons_zero, List.set_cons_succ]
                  refine wpAnyH_take (i := 15) (v := ?_) rfl (by kernel_rfl) (by kernel_rfl) (by kernel_rfl) (fun _ _ _ h => h) (Or.inl ⟨by rfl, ?_⟩) (by assumption) ?_
                  rotate_left
                  · intro w' hSw
                    try dsimp only at hSw
                    go_simp; try rfl
                  simp only [List.getElem_toArray, List.getElem_cons_succ, List.getElem_cons_zero, Act.put, List.setIfInBounds_toArray, List.set_cons_zero, List.set_cons_succ]
                  refine wpAnyH_take (i := 16) (v := ?_) rfl (by kernel_rfl) (by kernel_rfl) (by kernel_rfl) (fun _ _ _ h => h) (Or.inl ⟨by rfl, ?_⟩) (by assumption) ?_
                  rotate_left
                  · intro w' hSw
                    try dsimp only at hSw
                    go_simp; try rfl
                  simp only [List.getElem_toArray, List.getElem_cons_succ, List.getElem_cons_zero, Act.put, List.setIfInBounds_toArray, List.set_cons_zero, List.set_cons_succ]
                  refine wpAnyH_ready (rs := [17]) (by kernel_rfl) (by simp) (AllReadyH.cons (o := { dst := some 12, op := Op.alloc 28, type := 0, pos := "laws.go:1887", after := #[], guard := none }) rfl (fun K hK => ?_) AllReadyH.nil)
                  refine step_run (some 12) (by kernel_rfl) (by kernel_rfl) (v := .pointer (some ⟨V22.heap.size, 0, none⟩)) (w' := V22.alloc (.cells #[.int .i64 0, .slice none 0 0, .int .i64 0] 28)) (by go_simp; try rfl) ?_
                  have HN := hide (bel_alloc HW.out (.cells #[.int .i64 0, .slice none 0 0, .int .i64 0] 28))
                  refine hK.out _ _ (HCL.out _ HN.out) (fun hHeld => ?_)
                  clear hK K
                  simp only [Act.put, List.setIfInBounds_toArray, List.set_cons_zero, List.set_cons_succ]
                  have k12 := HW.out.size
                  have g12 : Hid ((V22.alloc (.cells #[.int .i64 0, .slice none 0 0, .int .i64 0] 28)).heap[V22.heap.size]? = some (.cells #[.int .i64 0, .slice none 0 0, .int .i64 0] 28 (0, 0))) := hide (heap_alloc_new V22 (.cells #[.int .i64 0, .slice none 0 0, .int .i64 0] 28))
                  have lo := (Array.getElem?_eq_some_iff.1 g13.out).1
                  replace g13 := hide ((Below.heap_alloc V22 (.cells #[.int .i64 0, .slice none 0 0, .int .i64 0] 28) b13 lo).trans g13.out)
                  clear HW
                  have HW := HN
                  clear HN
                  generalize V22.alloc (.cells #[.int .i64 0, .slice none 0 0, .int .i64 0] 28) = V23 at *
                  generalize V22.heap.size = b12 at *
                  refine wpAnyH_ready (rs := [19]) (by kernel_rfl) (by simp) (AllReadyH.cons (o := { dst := none, op := Op.store 28 (Operand.tmp 12) (Operand.tmp 71), type := 0, pos := "laws.go:1887", after := #[{ on := 17, ground := Ground.data }, { on := 14, ground := Ground.data }, { on := 12, ground := Ground.chain }, { on := 0, ground := Ground.phase }, { on := 1, ground := Ground.phase }, { on := 2, ground := Ground.phase }, { on := 3, ground := Ground.phase }, { on := 4, ground := Ground.phase }, { on := 5, ground := Ground.phase }, { on := 6, ground := Ground.phase }, { on := 7, ground := Ground.phase }, { on := 8, ground := Ground.phase }, { on := 9, ground := Ground.phase }, { on := 10, ground := Ground.phase }, { on := 11, ground := Ground.phase }, { on := 12, ground := Ground.phase }, { on := 13, ground := Ground.phase }, { on := 14, ground := Ground.phase }, { on := 15, ground := Ground.textOnly Departure.lateStores }, { on := 16, ground := Ground.textOnly Departure.lateStores }, { on := 17, ground := Ground.phase }, { on := 18, ground := Ground.phase }], guard := none }) rfl (fun K hK => ?_) AllReadyH.nil)
                  refine step_store (by kernel_rfl) (by kernel_rfl) 28 (.tmp 12) (.tmp 71) (by kernel_rfl) b12 #[.int .i64 rb, .slice ka kn kc, .int .i64 (base + (j : Int))] (by kernel_rfl) (by kernel_rfl) _ _ g12.out hi3 (by rfl) (by simp [Value.oneCell']) ?_
                  have HN : Hid (Below wc.heap.size wc (V23.setRow b12 #[.int .i64 rb, .slice ka kn kc, .int .i64 (base + (j : Int))])) := hide (below_setRow HW.out k12 _)
                  refine hK.out _ _ (HCL.out _ HN.out) (fun hHeld => ?_)
                  clear hK K
                  try simp only [Act.put, List.setIfInBounds_toArray, List.set_cons_zero, List.set_cons_succ]
                  have g12n := hide (setRow_heap V23 b12 _ #[.int .i64 rb, .slice ka kn kc, .int .i64 (base + (j : Int))] _ _ g12.out)
                  have g13n := hide ((setRow_other V23 b12 b13 #[.int .i64 rb, .slice ka kn kc, .int .i64 (base + (j : Int))] (by omega)).trans g13.out)
                  clear HW g12 g13
                  generalize V23.setRow b12 #[.int .i64 rb, .slice ka kn kc, .int .i64 (base + (j : Int))] = V24 at *
                  refine wpAnyH_ready (rs := [20]) (by kernel_rfl) (by simp) (AllReadyH.cons (o := { dst := none, op := Op.store 39 (Operand.tmp 13) (Operand.tmp 72), type := 0, pos := "laws.go:1887", after := #[{ on := 18, ground := Ground.data }, { on := 15, ground := Ground.data }, { on := 19, ground := Ground.chain }, { on := 0, ground := Ground.phase }, { on := 1, ground := Ground.phase }, { on := 2, ground := Ground.phase }, { on := 3, ground := Ground.phase }, { on := 4, ground := Ground.phase }, { on := 5, ground := Ground.phase }, { on := 6, ground := Ground.phase }, { on := 7, ground := Ground.phase }, { on := 8, ground := Ground.phase }, { on := 9, ground := Ground.phase }, { on := 10, ground := Ground.phase }, { on := 11, ground := Ground.phase }, { on := 12, ground := Ground.phase }, { on := 13, ground := Ground.phase }, { on := 14, ground := Ground.phase }, { on := 15, ground := Ground.phase }, { on := 16, ground := Ground.textOnly Departure.lateStores }, { on := 17, ground := Ground.phase }, { on := 18, ground := Ground.phase }, { on := 19, ground := Ground.phase }], guard := none }) rfl (fun K hK => ?_) AllReadyH.nil)
                  refine step_store (by kernel_rfl) (by kernel_rfl) 39 (.tmp 13) (.tmp 72) (by kernel_rfl) b13 #[.int .i64 0, .int .i64 0, .int .i64 0, .int .i64 0, .int .i64 0, .slice none 0 0, .slice none 0 0] (by kernel_rfl) (by kernel_rfl) _ _ g13n.out hi7 (by rfl) (by simp [Value.oneCell']) ?_
                  have HM := hide (below_setRow HN.out k13 #[.int .i64 0, .int .i64 0, .int .i64 0, .int .i64 0, .int .i64 0, .slice none 0 0, .slice none 0 0])
                  refine hK.out _ _ (HCL.out _ HM.out) (fun hHeld => ?_)
                  clear hK K
                  try simp only [Act.put, List.setIfInBounds_toArray, List.set_cons_zero, List.set_cons_succ]
                  have g12m := hide ((setRow_other V24 b13 b12 #[.int .i64 0, .int .i64 0, .int .i64 0, .int .i64 0, .int .i64 0, .slice none 0 0, .slice none 0 0] (by omega)).trans g12n.out)
                  clear HN g12n g13n
                  generalize V24.setRow b13 #[.int .i64 0, .int .i64 0, .int .i64 0, .int .i64 0, .int .i64 0, .slice none 0 0, .slice none 0 0] = V25 at *
                  refine wpAnyH_take (i := 21) (v := ?_) rfl (by kernel_rfl) (by kernel_rfl) (by kernel_rfl) (fun _ _ _ h => h) (Or.inl ⟨by rfl, ?_⟩) (by assumption) ?_
                  rotate_left
                  · intro w' hSw
                    try dsimp only at hSw
                    go_simp; try rfl
                  simp only [List.getElem_toArray, List.getElem_cons_succ, List.getElem_cons_zero, Act.put, List.setIfInBounds_toArray, List.set_cons_zero, List.set_cons_succ]
                  refine wpAnyH_done (by kernel_rfl) ?_ _
                  go_wp2_with fail
                  go_meet
                  exact ⟨b12, rfl, (box_of g12m.out).1 0 _ rfl, (box_of g12m.out).1 2 _ rfl, rfl, HM.out⟩
                · skip
                  refine step_run (some 12) (by kernel_rfl) (by kernel_rfl) (v := .pointer (some ⟨V21.heap.size, 0, none⟩)) (w' := V21.alloc (.cells #[.int .i64 0, .slice none 0 0, .int .i64 0] 28)) (by go_simp; try rfl) ?_
                  have HN := hide (bel_alloc HW.out (.cells #[.int .i64 0, .slice none 0 0, .int .i64 0] 28))
                  refine hK.out _ _ (HCL.out _ HN.out) (fun hHeld => ?_)
                  clear hK K
                  simp only [Act.put, List.setIfInBounds_toArray, List.set_cons_zero, List.set_cons_succ]
                  have k12 := HW.out.size
                  have g12 : Hid ((V21.alloc (.cells #[.int .i64 0, .slice none 0 0, .int .i64 0] 28)).heap[V21.heap.size]? = some (.cells #[.int .i64 0, .slice none 0 0, .int .i64 0] 28 (0, 0))) := hide (heap_alloc_new V21 (.cells #[.int .i64 0, .slice none 0 0, .int .i64 0] 28))
                  have lo := (Array.getElem?_eq_some_iff.1 g13.out).1
                  replace g13 := hide ((Below.heap_alloc V21 (.cells #[.int .i64 0, .slice none 0 0, .int .i64 0] 28) b13 lo).trans g13.out)
                  replace HTI := hide (HTI.out.at ((Below.refl V21.heap.size V21).alloc (Nat.le_refl _) (.cells #[.int .i64 0, .slice none 0 0, .int .i64 0] 28)))
                  clear HW
                  have HW := HN
                  clear HN
                  generalize V21.alloc (.cells #[.int .i64 0, .slice none 0 0, .int .i64 0] 28) = V26 at *
                  generalize V21.heap.size = b12 at *
                  refine wpAnyH_ready (rs := [12]) (by kernel_rfl) (by simp) (AllReadyH.cons (o := { dst := some 70, op := Op.call { callee := Callee.value (Operand.func 10), args := #[Operand.tmp 58, Operand.tmp 69], argTypes := #[28, 22] }, type := 40, pos := "laws.go:1887", after := #[{ on := 0, ground := Ground.data }, { on := 11, ground := Ground.data }, { on := 11, ground := Ground.chain }], guard := none }) rfl (fun K hK => ?_) AllReadyH.nil)
                  refine step_callW (some 70) (by kernel_rfl) (by kernel_rfl) 10 #[.tmp 58, .tmp 69] #[28, 22] (by kernel_rfl) #[lnV rb (base + (j : Int)) (.slice ra rs.length rc), .slice ta sl.length tc] (by kernel_rfl) (arriveNo _ rb (base + (j : Int)) _ (rs.map Prod.fst) (HIN.out _ HW.out).2.2 (by simp; omega) HRG.out ta sl.length tc (turned sl (bit : Int)) HTI.out htc HNO.out) ?_
                  rintro e V27 ⟨kv, rfl, ok, bt⟩
                  obtain ⟨ka, kc, ek⟩ := ok.shape
                  generalize (rs.map Prod.fst).length = kn at ek
                  subst ek
                  clear ok HTI
                  unfold lnV
                  replace g12 := hide ((bt.block b12 (Array.getElem?_eq_some_iff.1 g12.out).1).trans g12.out)
                  replace g13 := hide ((bt.block b13 (Array.getElem?_eq_some_iff.1 g13.out).1).trans g13.out)
                  replace HW : Hid (Below wc.heap.size wc V27) := hide (HW.out.trans (bt.mono HW.out.size))
                  clear bt
                  refine ⟨_, rfl, ?_⟩
                  refine hK.out _ _ (HCL.out _ HW.out) (fun hHeld => ?_)
                  clear hK K
                  simp only [Act.put, List.setIfInBounds_toArray, List.set_cons_zero, List.set_cons_succ]
                  refine wpAnyH_take (i := 13) (v := ?_) rfl (by kernel_rfl) (by kernel_rfl) (by kernel_rfl) (fun _ _ _ h => h) (Or.inl ⟨by rfl, ?_⟩) (by assumption) ?_
                  rotate_left
                  · intro w' hSw
                    try dsimp only at hSw
                    go_simp; try rfl
                  simp only [List.getElem_toArray, List.getElem_cons_succ, List.getElem_cons_zero, Act.put, List.setIfInBounds_toArray, List.set_cons_zero, List.set_cons_succ]
                  refine wpAnyH_take (i := 14) (v := ?_) rfl (by kernel_rfl) (by kernel_rfl) (by kernel_rfl) (fun _ _ _ h => h) (Or.inl ⟨by rfl, ?_⟩) (by assumption) ?_
                  rotate_left
                  · intro w' hSw
                    try dsimp only at hSw
                    go_simp; try rfl
                  simp only [List.getElem_toArray, List.getElem_cons_succ, List.getElem_cons_zero, Act.put, List.setIfInBounds_toArray, List.set_cons_zero, List.set_cons_succ]
                  refine wpAnyH_take (i := 15) (v := ?_) rfl (by kernel_rfl) (by kernel_rfl) (by kernel_rfl) (fun _ _ _ h => h) (Or.inl ⟨by rfl, ?_⟩) (by assumption) ?_
                  rotate_left
                  · intro w' hSw
                    try dsimp only at hSw
                    go_simp; try rfl
                  simp only [List.getElem_toArray, List.getElem_cons_succ, List.getElem_cons_zero, Act.put, List.setIfInBounds_toArray, List.set_cons_zero, List.set_cons_succ]
                  refine wpAnyH_take (i := 16) (v := ?_) rfl (by kernel_rfl) (by kernel_rfl) (by kernel_rfl) (fun _ _ _ h => h) (Or.inl ⟨by rfl, ?_⟩) (by assumption) ?_
                  rotate_left
                  · intro w' hSw
                    try dsimp only at hSw
                    go_simp; try rfl
                  simp only [List.getElem_toArray, List.getElem_cons_succ, List.getElem_cons_zero, Act.put, List.setIfInBounds_toArray, List.set_cons_zero, List.set_cons_succ]
                  refine wpAnyH_ready (rs := [19]) (by kernel_rfl) (by simp) (AllReadyH.cons (o := { dst := none, op := Op.store 28 (Operand.tmp 12) (Operand.tmp 71), type := 0, pos := "laws.go:1887", after := #[{ on := 17, ground := Ground.data }, { on := 14, ground := Ground.data }, { on := 12, ground := Ground.chain }, { on := 0, ground := Ground.phase }, { on := 1, ground := Ground.phase }, { on := 2, ground := Ground.phase }, { on := 3, ground := Ground.phase }, { on := 4, ground := Ground.phase }, { on := 5, ground := Ground.phase }, { on := 6, ground := Ground.phase }, { on := 7, ground := Ground.phase }, { on := 8, ground := Ground.phase }, { on := 9, ground := Ground.phase }, { on := 10, ground := Ground.phase }, { on := 11, ground := Ground.phase }, { on := 12, ground := Ground.phase }, { on := 13, ground := Ground.phase }, { on := 14, ground := Ground.phase }, { on := 15, ground := Ground.textOnly Departure.lateStores }, { on := 16, ground := Ground.textOnly Departure.lateStores }, { on := 17, ground := Ground.phase }, { on := 18, ground := Ground.phase }], guard := none }) rfl (fun K hK => ?_) AllReadyH.nil)
                  refine step_store (by kernel_rfl) (by kernel_rfl) 28 (.tmp 12) (.tmp 71) (by kernel_rfl) b12 #[.int .i64 rb, .slice ka kn kc, .int .i64 (base + (j : Int))] (by kernel_rfl) (by kernel_rfl) _ _ g12.out hi3 (by rfl) (by simp [Value.oneCell']) ?_
                  have HN : Hid (Below wc.heap.size wc (V27.setRow b12 #[.int .i64 rb, .slice ka kn kc, .int .i64 (base + (j : Int))])) := hide (below_setRow HW.out k12 _)
                  refine hK.out _ _ (HCL.out _ HN.out) (fun hHeld => ?_)
                  clear hK K
                  try simp only [Act.put, List.setIfInBounds_toArray, List.set_cons_zero, List.set_cons_succ]
                  have g12n := hide (setRow_heap V27 b12 _ #[.int .i64 rb, .slice ka kn kc, .int .i64 (base + (j : Int))] _ _ g12.out)
                  have g13n := hide ((setRow_other V27 b12 b13 #[.int .i64 rb, .slice ka kn kc, .int .i64 (base + (j : Int))] (by omega)).trans g13.out)
                  clear HW g12 g13
                  generalize V27.setRow b12 #[.int .i64 rb, .slice ka kn kc, .int .i64 (base + (j : Int))] = V28 at *
                  refine wpAnyH_ready (rs := [20]) (by kernel_rfl) (by simp) (AllReadyH.cons (o := { dst := none, op := Op.store 39 (Operand.tmp 13) (Operand.tmp 72), type := 0, pos := "laws.go:1887", after := #[{ on := 18, ground := Ground.data }, { on := 15, ground := Ground.data }, { on := 19, ground := Ground.chain }, { on := 0, ground := Ground.phase }, { on := 1, ground := Ground.phase }, { on := 2, ground := Ground.phase }, { on := 3, ground := Ground.phase }, { on := 4, ground := Ground.phase }, { on := 5, ground := Ground.phase }, { on := 6, ground := Ground.phase }, { on := 7, ground := Ground.phase }, { on := 8, ground := Ground.phase }, { on := 9, ground := Ground.phase }, { on := 10, ground := Ground.phase }, { on := 11, ground := Ground.phase }, { on := 12, ground := Ground.phase }, { on := 13, ground := Ground.phase }, { on := 14, ground := Ground.phase }, { on := 15, ground := Ground.phase }, { on := 16, ground := Ground.textOnly Departure.lateStores }, { on := 17, ground := Ground.phase }, { on := 18, ground := Ground.phase }, { on := 19, ground := Ground.phase }], guard := none }) rfl (fun K hK => ?_) AllReadyH.nil)
                  refine step_store (by kernel_rfl) (by kernel_rfl) 39 (.tmp 13) (.tmp 72) (by kernel_rfl) b13 #[.int .i64 0, .int .i64 0, .int .i64 0, .int .i64 0, .int .i64 0, .slice none 0 0, .slice none 0 0] (by kernel_rfl) (by kernel_rfl) _ _ g13n.out hi7 (by rfl) (by simp [Value.oneCell']) ?_
                  have HM := hide (below_setRow HN.out k13 #[.int .i64 0, .int .i64 0, .int .i64 0, .int .i64 0, .int .i64 0, .slice none 0 0, .slice none 0 0])
                  refine hK.out _ _ (HCL.out _ HM.out) (fun hHeld => ?_)
                  clear hK K
                  try simp only [Act.put, List.setIfInBounds_toArray, List.set_cons_zero, List.set_cons_succ]
                  have g12m := hide ((setRow_other V28 b13 b12 #[.int .i64 0, .int .i64 0, .int .i64 0, .int .i64 0, .int .i64 0, .slice none 0 0, .slice none 0 0] (by omega)).trans g12n.out)
                  clear HN g12n g13n
                  generalize V28.setRow b13 #[.int .i64 0, .int .i64 0, .int .i64 0, .int .i64 0, .int .i64 0, .slice none 0 0, .slice none 0 0] = V29 at *
                  refine wpAnyH_take (i := 21) (v := ?_) rfl (by kernel_rfl) (by kernel_rfl) (by kernel_rfl) (fun _ _ _ h => h) (Or.inl ⟨by rfl, ?_⟩) (by assumption) ?_
                  rotate_left
                  · intro w' hSw
                    try dsimp only at hSw
                    go_simp; try rfl
                  simp only [List.getElem_toArray, List.getElem_cons_succ, List.getElem_cons_zero, Act.put, List.setIfInBounds_toArray, List.set_cons_zero, List.set_cons_succ]
                  refine wpAnyH_done (by kernel_rfl) ?_ _
                  go_wp2_with fail
                  go_meet
                  exact ⟨b12, rfl, (box_of g12m.out).1 0 _ rfl, (box_of g12m.out).1 2 _ rfl, rfl, HM.out⟩
            · skip
              refine step_run (some 12) (by kernel_rfl) (by kernel_rfl) (v := .pointer (some ⟨V0.heap.size, 0, none⟩)) (w' := V0.alloc (.cells #[.int .i64 0, .slice none 0 0, .int .i64 0] 28)) (by go_simp; try rfl) ?_
              have HN := hide (bel_alloc HW.out (.cells #[.int .i64 0, .slice none 0 0, .int .i64 0] 28))
              refine hK.out _ _ (HCL.out _ HN.out) (fun hHeld => ?_)
              clear hK K
              simp only [Act.put, List.setIfInBounds_toArray, List.set_cons_zero, List.set_cons_succ]
              have k12 := HW.out.size
              have g12 : Hid ((V0.alloc (.cells #[.int .i64 0, .slice none 0 0, .int .i64 0] 28)).heap[V0.heap.size]? = some (.cells #[.int .i64 0, .slice none 0 0, .int .i64 0] 28 (0, 0))) := hide (heap_alloc_new V0 (.cells #[.int .i64 0, .slice none 0 0, .int .i64 0] 28))
              clear HW
              have HW := HN
              clear HN
              generalize V0.alloc (.cells #[.int .i64 0, .slice none 0 0, .int .i64 0] 28) = V30 at *
              generalize V0.heap.size = b12 at *
              refine wpAnyH_ready (rs := [11, 18]) (by kernel_rfl) (by simp) (AllReadyH.cons (o := { dst := some 69, op := Op.call { callee := Callee.value (Operand.func 15), args := #[Operand.tmp 60, Operand.tmp 68], argTypes := #[22, 3] }, type := 22, pos := "laws.go:1887", after := #[{ on := 2, ground := Ground.data }, { on := 10, ground := Ground.data }, { on := 4, ground := Ground.chain }], guard := none }) rfl (fun K hK => ?_) (AllReadyH.cons (o := { dst := some 13, op := Op.alloc 39, type := 0, pos := "laws.go:1887", after := #[], guard := none }) rfl (fun K hK => ?_) AllReadyH.nil))
              · skip
                refine step_callW (some 69) (by kernel_rfl) (by kernel_rfl) 15 #[.tmp 60, .tmp 68] #[22, 3] (by kernel_rfl) #[.slice a7 sl.length c7, .int .i64 (bit : Int)] (by kernel_rfl) (turnImpl _ _ _ _ sl _ (HIN.out _ HW.out).2.1 hcz ⟨by omega, hbd⟩) ?_
                rintro e V31 ⟨tv, rfl, ot, bt⟩
                obtain ⟨ta, tc, rfl⟩ := own_shape ot
                have htl : (turned sl (bit : Int)).length = sl.length := turned_len _ _
                have hti := in_slice ot (by rw [htl]; omega) (turned_byt _ _ HSB.out) (Nat.le_refl _)
                rw [htl] at hti
                rw [htl]
                have HTI := hide hti.1
                have htc := hti.2
                clear hti htl ot
                replace g12 := hide ((bt.block b12 (Array.getElem?_eq_some_iff.1 g12.out).1).trans g12.out)
                replace HW : Hid (Below wc.heap.size wc V31) := hide (HW.out.trans (bt.mono HW.out.size))
                clear bt
                refine ⟨_, rfl, ?_⟩
                refine hK.out _ _ (HCL.out _ HW.out) (fun hHeld => ?_)
                clear hK K
                simp only [Act.put, List.setIfInBounds_toArray, List.set_cons_zero, List.set_cons_succ]
                refine wpAnyH_ready (rs := [12, 18]) (by kernel_rfl) (by simp) (AllReadyH.cons (o := { dst := some 70, op := Op.call { callee := Callee.value (Operand.func 10), args := #[Operand.tmp 58, Operand.tmp 69], argTypes := #[28, 22] }, type := 40, pos := "laws.go:1887", after := #[{ on := 0, ground := Ground.data }, { on := 11, ground := Ground.data }, { on := 11, ground := Ground.chain }], guard := none }) rfl (fun K hK => ?_) (AllReadyH.cons (o := { dst := some 13, op := Op.alloc 39, type := 0, pos := "laws.go:1887", after := #[], guard := none }) rfl (fun K hK => ?_) AllReadyH.nil))
                · skip
                  refine step_callW (some 70) (by kernel_rfl) (by kernel_rfl) 10 #[.tmp 58, .tmp 69] #[28, 22] (by kernel_rfl) #[lnV rb (base + (j : Int)) (.slice ra rs.length rc), .slice ta sl.length tc] (by kernel_rfl) (arriveNo _ rb (base + (j : Int)) _ (rs.map Prod.fst) (HIN.out _ HW.out).2.2 (by simp; omega) HRG.out ta sl.length tc (turned sl (bit : Int)) HTI.out htc HNO.out) ?_
                  rintro e V32 ⟨kv, rfl, ok, bt⟩
                  obtain ⟨ka, kc, ek⟩ := ok.shape
                  generalize (rs.map Prod.fst).length = kn at ek
                  subst ek
                  clear ok HTI
                  unfold lnV
                  replace g12 := hide ((bt.block b12 (Array.getElem?_eq_some_iff.1 g12.out).1).trans g12.out)
                  replace HW : Hid (Below wc.heap.size wc V32) := hide (HW.out.trans (bt.mono HW.out.size))
                  clear bt
                  refine ⟨_, rfl, ?_⟩
                  refine hK.out _ _ (HCL.out _ HW.out) (fun hHeld => ?_)
                  clear hK K
                  simp only [Act.put, List.setIfInBounds_toArray, List.set_cons_zero, List.set_cons_succ]
                  refine wpAnyH_take (i := 13) (v := ?_) rfl (by kernel_rfl) (by kernel_rfl) (by kernel_rfl) (fun _ _ _ h => h) (Or.inl ⟨by rfl, ?_⟩) (by assumption) ?_
                  rotate_left
                  · intro w' hSw
                    try dsimp only at hSw
                    go_simp; try rfl
                  simp only [List.getElem_toArray, List.getElem_cons_succ, List.getElem_cons_zero, Act.put, List.setIfInBounds_toArray, List.set_cons_zero, List.set_cons_succ]
                  refine wpAnyH_take (i := 14) (v := ?_) rfl (by kernel_rfl) (by kernel_rfl) (by kernel_rfl) (fun _ _ _ h => h) (Or.inl ⟨by rfl, ?_⟩) (by assumption) ?_
                  rotate_left
                  · intro w' hSw
                    try dsimp only at hSw
                    go_simp; try rfl
                  simp only [List.getElem_toArray, List.getElem_cons_succ, List.getElem_cons_zero, Act.put, List.setIfInBounds_toArray, List.set_cons_zero, List.set_cons_succ]
                  refine wpAnyH_take (i := 15) (v := ?_) rfl (by kernel_rfl) (by kernel_rfl) (by kernel_rfl) (fun _ _ _ h => h) (Or.inl ⟨by rfl, ?_⟩) (by assumption) ?_
                  rotate_left
                  · intro w' hSw
                    try dsimp only at hSw
                    go_simp; try rfl
                  simp only [List.getElem_toArray, List.getElem_cons_succ, List.getElem_cons_zero, Act.put, List.setIfInBounds_toArray, List.set_cons_zero, List.set_cons_succ]
                  refine wpAnyH_take (i := 16) (v := ?_) rfl (by kernel_rfl) (by kernel_rfl) (by kernel_rfl) (fun _ _ _ h => h) (Or.inl ⟨by rfl, ?_⟩) (by assumption) ?_
                  rotate_left
                  · intro w' hSw
                    try dsimp only at hSw
                    go_simp; try rfl
                  simp only [List.getElem_toArray, List.getElem_cons_succ, List.getElem_cons_zero, Act.put, List.setIfInBounds_toArray, List.set_cons_zero, List.set_cons_succ]
                  refine wpAnyH_ready (rs := [18]) (by kernel_rfl) (by simp) (AllReadyH.cons (o := { dst := some 13, op := Op.alloc 39, type := 0, pos := "laws.go:1887", after := #[], guard := none }) rfl (fun K hK => ?_) AllReadyH.nil)
                  refine step_run (some 13) (by kernel_rfl) (by kernel_rfl) (v := .pointer (some ⟨V32.heap.size, 0, none⟩)) (w' := V32.alloc (.cells #[.int .i64 0, .int .i64 0, .int .i64 0, .int .i64 0, .int .i64 0, .slice none 0 0, .slice none 0 0] 39)) (by go_simp; try rfl) ?_
                  have HN := hide (bel_alloc HW.out (.cells #[.int .i64 0, .int .i64 0, .int .i64 0, .int .i64 0, .int .i64 0, .slice none 0 0, .slice none 0 0] 39))
                  refine hK.out _ _ (HCL.out _ HN.out) (fun hHeld => ?_)
                  clear hK K
                  simp only [Act.put, List.setIfInBounds_toArray, List.set_cons_zero, List.set_cons_succ]
                  have k13 := HW.out.size
                  have g13 : Hid ((V32.alloc (.cells #[.int .i64 0, .int .i64 0, .int .i64 0, .int .i64 0, .int .i64 0, .slice none 0 0, .slice none 0 0] 39)).heap[V32.heap.size]? = some (.cells #[.int .i64 0, .int .i64 0, .int .i64 0, .int .i64 0, .int .i64 0, .slice none 0 0, .slice none 0 0] 39 (0, 0))) := hide (heap_alloc_new V32 (.cells #[.int .i64 0, .int .i64 0, .int .i64 0, .int .i64 0, .int .i64 0, .slice none 0 0, .slice none 0 0] 39))
                  have lo := (Array.getElem?_eq_some_iff.1 g12.out).1
                  replace g12 := hide ((Below.heap_alloc V32 (.cells #[.int .i64 0, .int .i64 0, .int .i64 0, .int .i64 0, .int .i64 0, .slice none 0 0, .slice none 0 0] 39) b12 lo).trans g12.out)
                  clear HW
                  have HW := HN
                  clear HN
                  generalize V32.alloc (.cells #[.int .i64 0, .int .i64 0, .int .i64 0, .int .i64 0, .int .i64 0, .slice none 0 0, .slice none 0 0] 39) = V33 at *
                  generalize V32.heap.size = b13 at *
                  refine wpAnyH_ready (rs := [19]) (by kernel_rfl) (by simp) (AllReadyH.cons (o := { dst := none, op := Op.store 28 (Operand.tmp 12) (Operand.tmp 71), type := 0, pos := "laws.go:1887", after := #[{ on := 17, ground := Ground.data }, { on := 14, ground := Ground.data }, { on := 12, ground := Ground.chain }, { on := 0, ground := Ground.phase }, { on := 1, ground := Ground.phase }, { on := 2, ground := Ground.phase }, { on := 3, ground := Ground.phase }, { on := 4, ground := Ground.phase }, { on := 5, ground := Ground.phase }, { on := 6, ground := Ground.phase }, { on := 7, ground := Ground.phase }, { on := 8, ground := Ground.phase }, { on := 9, ground := Ground.phase }, { on := 10, ground := Ground.phase }, { on := 11, ground := Ground.phase }, { on := 12, ground := Ground.phase }, { on := 13, ground := Ground.phase }, { on := 14, ground := Ground.phase }, { on := 15, ground := Ground.textOnly Departure.lateStores }, { on := 16, ground := Ground.textOnly Departure.lateStores }, { on := 17, ground := Ground.phase }, { on := 18, ground := Ground.phase }], guard := none }) rfl (fun K hK => ?_) AllReadyH.nil)
                  refine step_store (by kernel_rfl) (by kernel_rfl) 28 (.tmp 12) (.tmp 71) (by kernel_rfl) b12 #[.int .i64 rb, .slice ka kn kc, .int .i64 (base + (j : Int))] (by kernel_rfl) (by kernel_rfl) _ _ g12.out hi3 (by rfl) (by simp [Value.oneCell']) ?_
                  have HN : Hid (Below wc.heap.size wc (V33.setRow b12 #[.int .i64 rb, .slice ka kn kc, .int .i64 (base + (j : Int))])) := hide (below_setRow HW.out k12 _)
                  refine hK.out _ _ (HCL.out _ HN.out) (fun hHeld => ?_)
                  clear hK K
                  try simp only [Act.put, List.setIfInBounds_toArray, List.set_cons_zero, List.set_cons_succ]
                  have g12n := hide (setRow_heap V33 b12 _ #[.int .i64 rb, .slice ka kn kc, .int .i64 (base + (j : Int))] _ _ g12.out)
                  have g13n := hide ((setRow_other V33 b12 b13 #[.int .i64 rb, .slice ka kn kc, .int .i64 (base + (j : Int))] (by omega)).trans g13.out)
                  clear HW g12 g13
                  generalize V33.setRow b12 #[.int .i64 rb, .slice ka kn kc, .int .i64 (base + (j : Int))] = V34 at *
                  refine wpAnyH_ready (rs := [20]) (by kernel_rfl) (by simp) (AllReadyH.cons (o := { dst := none, op := Op.store 39 (Operand.tmp 13) (Operand.tmp 72), type := 0, pos := "laws.go:1887", after := #[{ on := 18, ground := Ground.data }, { on := 15, ground := Ground.data }, { on := 19, ground := Ground.chain }, { on := 0, ground := Ground.phase }, { on := 1, ground := Ground.phase }, { on := 2, ground := Ground.phase }, { on := 3, ground := Ground.phase }, { on := 4, ground := Ground.phase }, { on := 5, ground := Ground.phase }, { on := 6, ground := Ground.phase }, { on := 7, ground := Ground.phase }, { on := 8, ground := Ground.phase }, { on := 9, ground := Ground.phase }, { on := 10, ground := Ground.phase }, { on := 11, ground := Ground.phase }, { on := 12, ground := Ground.phase }, { on := 13, ground := Ground.phase }, { on := 14, ground := Ground.phase }, { on := 15, ground := Ground.phase }, { on := 16, ground := Ground.textOnly Departure.lateStores }, { on := 17, ground := Ground.phase }, { on := 18, ground := Ground.phase }, { on := 19, ground := Ground.phase }], guard := none }) rfl (fun K hK => ?_) AllReadyH.nil)
                  refine step_store (by kernel_rfl) (by kernel_rfl) 39 (.tmp 13) (.tmp 72) (by kernel_rfl) b13 #[.int .i64 0, .int .i64 0, .int .i64 0, .int .i64 0, .int .i64 0, .slice none 0 0, .slice none 0 0] (by kernel_rfl) (by kernel_rfl) _ _ g13n.out hi7 (by rfl) (by simp [Value.oneCell']) ?_
                  have HM := hide (below_setRow HN.out k13 #[.int .i64 0, .int .i64 0, .int .i64 0, .int .i64 0, .int .i64 0, .slice none 0 0, .slice none 0 0])
                  refine hK.out _ _ (HCL.out _ HM.out) (fun hHeld => ?_)
                  clear hK K
                  try simp only [Act.put, List.setIfInBounds_toArray, List.set_cons_zero, List.set_cons_succ]
                  have g12m := hide ((setRow_other V34 b13 b12 #[.int .i64 0, .int .i64 0, .int .i64 0, .int .i64 0, .int .i64 0, .slice none 0 0, .slice none 0 0] (by omega)).trans g12n.out)
                  clear HN g12n g13n
                  generalize V34.setRow b13 #[.int .i64 0, .int .i64 0, .int .i64 0, .int .i64 0, .int .i64 0, .slice none 0 0, .slice none 0 0] = V35 at *
                  refine wpAnyH_take (i := 21) (v := ?_) rfl (by kernel_rfl) (by kernel_rfl) (by kernel_rfl) (fun _ _ _ h => h) (Or.inl ⟨by rfl, ?_⟩) (by assumption) ?_
                  rotate_left
                  · intro w' hSw
                    try dsimp only at hSw
                    go_simp; try rfl
                  simp only [List.getElem_toArray, List.getElem_cons_succ, List.getElem_cons_zero, Act.put, List.setIfInBounds_toArray, List.set_cons_zero, List.set_cons_succ]
                  refine wpAnyH_done (by kernel_rfl) ?_ _
                  go_wp2_with fail
                  go_meet
                  exact ⟨b12, rfl, (box_of g12m.out).1 0 _ rfl, (box_of g12m.out).1 2 _ rfl, rfl, HM.out⟩
                · skip
                  refine step_run (some 13) (by kernel_rfl) (by kernel_rfl) (v := .pointer (some ⟨V31.heap.size, 0, none⟩)) (w' := V31.alloc (.cells #[.int .i64 0, .int .i64 0, .int .i64 0, .int .i64 0, .int .i64 0, .slice none 0 0, .slice none 0 0] 39)) (by go_simp; try rfl) ?_
                  have HN := hide (bel_alloc HW.out (.cells #[.int .i64 0, .int .i64 0, .int .i64 0, .int .i64 0, .int .i64 0, .slice none 0 0, .slice none 0 0] 39))
                  refine hK.out _ _ (HCL.out _ HN.out) (fun hHeld => ?_)
                  clear hK K
                  simp only [Act.put, List.setIfInBounds_toArray, List.set_cons_zero, List.set_cons_succ]
                  have k13 := HW.out.size
                  have g13 : Hid ((V31.alloc (.cells #[.int .i64 0, .int .i64 0, .int .i64 0, .int .i64 0, .int .i64 0, .slice none 0 0, .slice none 0 0] 39)).heap[V31.heap.size]? = some (.cells #[.int .i64 0, .int .i64 0, .int .i64 0, .int .i64 0, .int .i64 0, .slice none 0 0, .slice none 0 0] 39 (0, 0))) := hide (heap_alloc_new V31 (.cells #[.int .i64 0, .int .i64 0, .int .i64 0, .int .i64 0, .int .i64 0, .slice none 0 0, .slice none 0 0] 39))
                  have lo := (Array.getElem?_eq_some_iff.1 g12.out).1
                  replace g12 := hide ((Below.heap_alloc V31 (.cells #[.int .i64 0, .int .i64 0, .int .i64 0, .int .i64 0, .int .i64 0, .slice none 0 0, .slice none 0 0] 39) b12 lo).trans g12.out)
                  replace HTI := hide (HTI.out.at ((Below.refl V31.heap.size V31).alloc (Nat.le_refl _) (.cells #[.int .i64 0, .int .i64 0, .int .i64 0, .int .i64 0, .int .i64 0, .slice none 0 0, .slice none 0 0] 39)))
                  clear HW
                  have HW := HN
                  clear HN
                  generalize V31.alloc (.cells #[.int .i64 0, .int .i64 0, .int .i64 0, .int .i64 0, .int .i64 0, .slice none 0 0, .slice none 0 0] 39) = V36 at *
                  generalize V31.heap.size = b13 at *
                  refine wpAnyH_ready (rs := [12]) (by kernel_rfl) (by simp) (AllReadyH.cons (o := { dst := some 70, op := Op.call { callee := Callee.value (Operand.func 10), args := #[Operand.tmp 58, Operand.tmp 69], argTypes := #[28, 22] }, type := 40, pos := "laws.go:1887", after := #[{ on := 0, ground := Ground.data }, { on := 11, ground := Ground.data }, { on := 11, ground := Ground.chain }], guard := none }) rfl (fun K hK => ?_) AllReadyH.nil)
                  refine step_callW (some 70) (by kernel_rfl) (by kernel_rfl) 10 #[.tmp 58, .tmp 69] #[28, 22] (by kernel_rfl) #[lnV rb (base + (j : Int)) (.slice ra rs.length rc), .slice ta sl.length tc] (by kernel_rfl) (arriveNo _ rb (base + (j : Int)) _ (rs.map Prod.fst) (HIN.out _ HW.out).2.2 (by simp; omega) HRG.out ta sl.length tc (turned sl (bit : Int)) HTI.out htc HNO.out) ?_
                  rintro e V37 ⟨kv, rfl, ok, bt⟩
                  obtain ⟨ka, kc, ek⟩ := ok.shape
                  generalize (rs.map Prod.fst).length = kn at ek
                  subst ek
                  clear ok HTI
                  unfold lnV
                  replace g12 := hide ((bt.block b12 (Array.getElem?_eq_some_iff.1 g12.out).1).trans g12.out)
                  replace g13 := hide ((bt.block b13 (Array.getElem?_eq_some_iff.1 g13.out).1).trans g13.out)
                  replace HW : Hid (Below wc.heap.size wc V37) := hide (HW.out.trans (bt.mono HW.out.size))
                  clear bt
                  refine ⟨_, rfl, ?_⟩
                  refine hK.out _ _ (HCL.out _ HW.out) (fun hHeld => ?_)
                  clear hK K
                  simp only [Act.put, List.setIfInBounds_toArray, List.set_cons_zero, List.set_cons_succ]
                  refine wpAnyH_take (i := 13) (v := ?_) rfl (by kernel_rfl) (by kernel_rfl) (by kernel_rfl) (fun _ _ _ h => h) (Or.inl ⟨by rfl, ?_⟩) (by assumption) ?_
                  rotate_left
                  · intro w' hSw
                    try dsimp only at hSw
                    go_simp; try rfl
                  simp only [List.getElem_toArray, List.getElem_cons_succ, List.getElem_cons_zero, Act.put, List.setIfInBounds_toArray, List.set_cons_zero, List.set_cons_succ]
                  refine wpAnyH_take (i := 14) (v := ?_) rfl (by kernel_rfl) (by kernel_rfl) (by kernel_rfl) (fun _ _ _ h => h) (Or.inl ⟨by rfl, ?_⟩) (by assumption) ?_
                  rotate_left
                  · intro w' hSw
                    try dsimp only at hSw
                    go_simp; try rfl
                  simp only [List.getElem_toArray, List.getElem_cons_succ, List.getElem_cons_zero, Act.put, List.setIfInBounds_toArray, List.set_cons_zero, List.set_cons_succ]
                  refine wpAnyH_take (i := 15) (v := ?_) rfl (by kernel_rfl) (by kernel_rfl) (by kernel_rfl) (fun _ _ _ h => h) (Or.inl ⟨by rfl, ?_⟩) (by assumption) ?_
                  rotate_left
                  · intro w' hSw
                    try dsimp only at hSw
                    go_simp; try rfl
                  simp only [List.getElem_toArray, List.getElem_cons_succ, List.getElem_cons_zero, Act.put, List.setIfInBounds_toArray, List.set_cons_zero, List.set_cons_succ]
                  refine wpAnyH_take (i := 16) (v := ?_) rfl (by kernel_rfl) (by kernel_rfl) (by kernel_rfl) (fun _ _ _ h => h) (Or.inl ⟨by rfl, ?_⟩) (by assumption) ?_
                  rotate_left
                  · intro w' hSw
                    try dsimp only at hSw
                    go_simp; try rfl
                  simp only [List.getElem_toArray, List.getElem_cons_succ, List.getElem_cons_zero, Act.put, List.setIfInBounds_toArray, List.set_cons_zero, List.set_cons_succ]
                  refine wpAnyH_ready (rs := [19]) (by kernel_rfl) (by simp) (AllReadyH.cons (o := { dst := none, op := Op.store 28 (Operand.tmp 12) (Operand.tmp 71), type := 0, pos := "laws.go:1887", after := #[{ on := 17, ground := Ground.data }, { on := 14, ground := Ground.data }, { on := 12, ground := Ground.chain }, { on := 0, ground := Ground.phase }, { on := 1, ground := Ground.phase }, { on := 2, ground := Ground.phase }, { on := 3, ground := Ground.phase }, { on := 4, ground := Ground.phase }, { on := 5, ground := Ground.phase }, { on := 6, ground := Ground.phase }, { on := 7, ground := Ground.phase }, { on := 8, ground := Ground.phase }, { on := 9, ground := Ground.phase }, { on := 10, ground := Ground.phase }, { on := 11, ground := Ground.phase }, { on := 12, ground := Ground.phase }, { on := 13, ground := Ground.phase }, { on := 14, ground := Ground.phase }, { on := 15, ground := Ground.textOnly Departure.lateStores }, { on := 16, ground := Ground.textOnly Departure.lateStores }, { on := 17, ground := Ground.phase }, { on := 18, ground := Ground.phase }], guard := none }) rfl (fun K hK => ?_) AllReadyH.nil)
                  refine step_store (by kernel_rfl) (by kernel_rfl) 28 (.tmp 12) (.tmp 71) (by kernel_rfl) b12 #[.int .i64 rb, .slice ka kn kc, .int .i64 (base + (j : Int))] (by kernel_rfl) (by kernel_rfl) _ _ g12.out hi3 (by rfl) (by simp [Value.oneCell']) ?_
                  have HN : Hid (Below wc.heap.size wc (V37.setRow b12 #[.int .i64 rb, .slice ka kn kc, .int .i64 (base + (j : Int))])) := hide (below_setRow HW.out k12 _)
                  refine hK.out _ _ (HCL.out _ HN.out) (fun hHeld => ?_)
                  clear hK K
                  try simp only [Act.put, List.setIfInBounds_toArray, List.set_cons_zero, List.set_cons_succ]
                  have g12n := hide (setRow_heap V37 b12 _ #[.int .i64 rb, .slice ka kn kc, .int .i64 (base + (j : Int))] _ _ g12.out)
                  have g13n := hide ((setRow_other V37 b12 b13 #[.int .i64 rb, .slice ka kn kc, .int .i64 (base + (j : Int))] (by omega)).trans g13.out)
                  clear HW g12 g13
                  generalize V37.setRow b12 #[.int .i64 rb, .slice ka kn kc, .int .i64 (base + (j : Int))] = V38 at *
                  refine wpAnyH_ready (rs := [20]) (by kernel_rfl) (by simp) (AllReadyH.cons (o := { dst := none, op := Op.store 39 (Operand.tmp 13) (Operand.tmp 72), type := 0, pos := "laws.go:1887", after := #[{ on := 18, ground := Ground.data }, { on := 15, ground := Ground.data }, { on := 19, ground := Ground.chain }, { on := 0, ground := Ground.phase }, { on := 1, ground := Ground.phase }, { on := 2, ground := Ground.phase }, { on := 3, ground := Ground.phase }, { on := 4, ground := Ground.phase }, { on := 5, ground := Ground.phase }, { on := 6, ground := Ground.phase }, { on := 7, ground := Ground.phase }, { on := 8, ground := Ground.phase }, { on := 9, ground := Ground.phase }, { on := 10, ground := Ground.phase }, { on := 11, ground := Ground.phase }, { on := 12, ground := Ground.phase }, { on := 13, ground := Ground.phase }, { on := 14, ground := Ground.phase }, { on := 15, ground := Ground.phase }, { on := 16, ground := Ground.textOnly Departure.lateStores }, { on := 17, ground := Ground.phase }, { on := 18, ground := Ground.phase }, { on := 19, ground := Ground.phase }], guard := none }) rfl (fun K hK => ?_) AllReadyH.nil)
                  refine step_store (by kernel_rfl) (by kernel_rfl) 39 (.tmp 13) (.tmp 72) (by kernel_rfl) b13 #[.int .i64 0, .int .i64 0, .int .i64 0, .int .i64 0, .int .i64 0, .slice none 0 0, .slice none 0 0] (by kernel_rfl) (by kernel_rfl) _ _ g13n.out hi7 (by rfl) (by simp [Value.oneCell']) ?_
                  have HM := hide (below_setRow HN.out k13 #[.int .i64 0, .int .i64 0, .int .i64 0, .int .i64 0, .int .i64 0, .slice none 0 0, .slice none 0 0])
                  refine hK.out _ _ (HCL.out _ HM.out) (fun hHeld => ?_)
                  clear hK K
                  try simp only [Act.put, List.setIfInBounds_toArray, List.set_cons_zero, List.set_cons_succ]
                  have g12m := hide ((setRow_other V38 b13 b12 #[.int .i64 0, .int .i64 0, .int .i64 0, .int .i64 0, .int .i64 0, .slice none 0 0, .slice none 0 0] (by omega)).trans g12n.out)
                  clear HN g12n g13n
                  generalize V38.setRow b13 #[.int .i64 0, .int .i64 0, .int .i64 0, .int .i64 0, .int .i64 0, .slice none 0 0, .slice none 0 0] = V39 at *
                  refine wpAnyH_take (i := 21) (v := ?_) rfl (by kernel_rfl) (by kernel_rfl) (by kernel_rfl) (fun _ _ _ h => h) (Or.inl ⟨by rfl, ?_⟩) (by assumption) ?_
                  rotate_left
                  · intro w' hSw
                    try dsimp only at hSw
                    go_simp; try rfl
                  simp only [List.getElem_toArray, List.getElem_cons_succ, List.getElem_cons_zero, Act.put, List.setIfInBounds_toArray, List.set_cons_zero, List.set_cons_succ]
                  refine wpAnyH_done (by kernel_rfl) ?_ _
                  go_wp2_with fail
                  go_meet
                  exact ⟨b12, rfl, (box_of g12m.out).1 0 _ rfl, (box_of g12m.out).1 2 _ rfl, rfl, HM.out⟩
              · skip
                refine step_run (some 13) (by kernel_rfl) (by kernel_rfl) (v := .pointer (some ⟨V30.heap.size, 0, none⟩)) (w' := V30.alloc (.cells #[.int .i64 0, .int .i64 0, .int .i64 0, .int .i64 0, .int .i64 0, .slice none 0 0, .slice none 0 0] 39)) (by go_simp; try rfl) ?_
                have HN := hide (bel_alloc HW.out (.cells #[.int .i64 0, .int .i64 0, .int .i64 0, .int .i64 0, .int .i64 0, .slice none 0 0, .slice none 0 0] 39))
                refine hK.out _ _ (HCL.out _ HN.out) (fun hHeld => ?_)
                clear hK K
                simp only [Act.put, List.setIfInBounds_toArray, List.set_cons_zero, List.set_cons_succ]
                have k13 := HW.out.size
                have g13 : Hid ((V30.alloc (.cells #[.int .i64 0, .int .i64 0, .int .i64 0, .int .i64 0, .int .i64 0, .slice none 0 0, .slice none 0 0] 39)).heap[V30.heap.size]? = some (.cells #[.int .i64 0, .int .i64 0, .int .i64 0, .int .i64 0, .int .i64 0, .slice none 0 0, .slice none 0 0] 39 (0, 0))) := hide (heap_alloc_new V30 (.cells #[.int .i64 0, .int .i64 0, .int .i64 0, .int .i64 0, .int .i64 0, .slice none 0 0, .slice none 0 0] 39))
                have lo := (Array.getElem?_eq_some_iff.1 g12.out).1
                replace g12 := hide ((Below.heap_alloc V30 (.cells #[.int .i64 0, .int .i64 0, .int .i64 0, .int .i64 0, .int .i64 0, .slice none 0 0, .slice none 0 0] 39) b12 lo).trans g12.out)
                clear HW
                have HW := HN
                clear HN
                generalize V30.alloc (.cells #[.int .i64 0, .int .i64 0, .int .i64 0, .int .i64 0, .int .i64 0, .slice none 0 0, .slice none 0 0] 39) = V40 at *
                generalize V30.heap.size = b13 at *
                refine wpAnyH_ready (rs := [11]) (by kernel_rfl) (by simp) (AllReadyH.cons (o := { dst := some 69, op := Op.call { callee := Callee.value (Operand.func 15), args := #[Operand.tmp 60, Operand.tmp 68], argTypes := #[22, 3] }, type := 22, pos := "laws.go:1887", after := #[{ on := 2, ground := Ground.data }, { on := 10, ground := Ground.data }, { on := 4, ground := Ground.chain }], guard := none }) rfl (fun K hK => ?_) AllReadyH.nil)
                refine step_callW (some 69) (by kernel_rfl) (by kernel_rfl) 15 #[.tmp 60, .tmp 68] #[22, 3] (by kernel_rfl) #[.slice a7 sl.length c7, .int .i64 (bit : Int)] (by kernel_rfl) (turnImpl _ _ _ _ sl _ (HIN.out _ HW.out).2.1 hcz ⟨by omega, hbd⟩) ?_
                rintro e V41 ⟨tv, rfl, ot, bt⟩
                obtain ⟨ta, tc, rfl⟩ := own_shape ot
                have htl : (turned sl (bit : Int)).length = sl.length := turned_len _ _
                have hti := in_slice ot (by rw [htl]; omega) (turned_byt _ _ HSB.out) (Nat.le_refl _)
                rw [htl] at hti
                rw [htl]
                have HTI := hide hti.1
                have htc := hti.2
                clear hti htl ot
                replace g12 := hide ((bt.block b12 (Array.getElem?_eq_some_iff.1 g12.out).1).trans g12.out)
                replace g13 := hide ((bt.block b13 (Array.getElem?_eq_some_iff.1 g13.out).1).trans g13.out)
                replace HW : Hid (Below wc.heap.size wc V41) := hide (HW.out.trans (bt.mono HW.out.size))
                clear bt
                refine ⟨_, rfl, ?_⟩
                refine hK.out _ _ (HCL.out _ HW.out) (fun hHeld => ?_)
                clear hK K
                simp only [Act.put, List.setIfInBounds_toArray, List.set_cons_zero, List.set_cons_succ]
                refine wpAnyH_ready (rs := [12]) (by kernel_rfl) (by simp) (AllReadyH.cons (o := { dst := some 70, op := Op.call { callee := Callee.value (Operand.func 10), args := #[Operand.tmp 58, Operand.tmp 69], argTypes := #[28, 22] }, type := 40, pos := "laws.go:1887", after := #[{ on := 0, ground := Ground.data }, { on := 11, ground := Ground.data }, { on := 11, ground := Ground.chain }], guard := none }) rfl (fun K hK => ?_) AllReadyH.nil)
                refine step_callW (some 70) (by kernel_rfl) (by kernel_rfl) 10 #[.tmp 58, .tmp 69] #[28, 22] (by kernel_rfl) #[lnV rb (base + (j : Int)) (.slice ra rs.length rc), .slice ta sl.length tc] (by kernel_rfl) (arriveNo _ rb (base + (j : Int)) _ (rs.map Prod.fst) (HIN.out _ HW.out).2.2 (by simp; omega) HRG.out ta sl.length tc (turned sl (bit : Int)) HTI.out htc HNO.out) ?_
                rintro e V42 ⟨kv, rfl, ok, bt⟩
                obtain ⟨ka, kc, ek⟩ := ok.shape
                generalize (rs.map Prod.fst).length = kn at ek
                subst ek
                clear ok HTI
                unfold lnV
                replace g12 := hide ((bt.block b12 (Array.getElem?_eq_some_iff.1 g12.out).1).trans g12.out)
                replace g13 := hide ((bt.block b13 (Array.getElem?_eq_some_iff.1 g13.out).1).trans g13.out)
                replace HW : Hid (Below wc.heap.size wc V42) := hide (HW.out.trans (bt.mono HW.out.size))
                clear bt
                refine ⟨_, rfl, ?_⟩
                refine hK.out _ _ (HCL.out _ HW.out) (fun hHeld => ?_)
                clear hK K
                simp only [Act.put, List.setIfInBounds_toArray, List.set_cons_zero, List.set_cons_succ]
                refine wpAnyH_take (i := 13) (v := ?_) rfl (by kernel_rfl) (by kernel_rfl) (by kernel_rfl) (fun _ _ _ h => h) (Or.inl ⟨by rfl, ?_⟩) (by assumption) ?_
                rotate_left
                · intro w' hSw
                  try dsimp only at hSw
                  go_simp; try rfl
                simp only [List.getElem_toArray, List.getElem_cons_succ, List.getElem_cons_zero, Act.put, List.setIfInBounds_toArray, List.set_cons_zero, List.set_cons_succ]
                refine wpAnyH_take (i := 14) (v := ?_) rfl (by kernel_rfl) (by kernel_rfl) (by kernel_rfl) (fun _ _ _ h => h) (Or.inl ⟨by rfl, ?_⟩) (by assumption) ?_
                rotate_left
                · intro w' hSw
                  try dsimp only at hSw
                  go_simp; try rfl
                simp only [List.getElem_toArray, List.getElem_cons_succ, List.getElem_cons_zero, Act.put, List.setIfInBounds_toArray, List.set_cons_zero, List.set_cons_succ]
                refine wpAnyH_take (i := 15) (v := ?_) rfl (by kernel_rfl) (by kernel_rfl) (by kernel_rfl) (fun _ _ _ h => h) (Or.inl ⟨by rfl, ?_⟩) (by assumption) ?_
                rotate_left
                · intro w' hSw
                  try dsimp only at hSw
                  go_simp; try rfl
                simp only [List.getElem_toArray, List.getElem_cons_succ, List.getElem_cons_zero, Act.put, List.setIfInBounds_toArray, List.set_cons_zero, List.set_cons_succ]
                refine wpAnyH_take (i := 16) (v := ?_) rfl (by kernel_rfl) (by kernel_rfl) (by kernel_rfl) (fun _ _ _ h => h) (Or.inl ⟨by rfl, ?_⟩) (by assumption) ?_
                rotate_left
                · intro w' hSw
                  try dsimp only at hSw
                  go_simp; try rfl
                simp only [List.getElem_toArray, List.getElem_cons_succ, List.getElem_cons_zero, Act.put, List.setIfInBounds_toArray, List.set_cons_zero, List.set_cons_succ]
                refine wpAnyH_ready (rs := [19]) (by kernel_rfl) (by simp) (AllReadyH.cons (o := { dst := none, op := Op.store 28 (Operand.tmp 12) (Operand.tmp 71), type := 0, pos := "laws.go:1887", after := #[{ on := 17, ground := Ground.data }, { on := 14, ground := Ground.data }, { on := 12, ground := Ground.chain }, { on := 0, ground := Ground.phase }, { on := 1, ground := Ground.phase }, { on := 2, ground := Ground.phase }, { on := 3, ground := Ground.phase }, { on := 4, ground := Ground.phase }, { on := 5, ground := Ground.phase }, { on := 6, ground := Ground.phase }, { on := 7, ground := Ground.phase }, { on := 8, ground := Ground.phase }, { on := 9, ground := Ground.phase }, { on := 10, ground := Ground.phase }, { on := 11, ground := Ground.phase }, { on := 12, ground := Ground.phase }, { on := 13, ground := Ground.phase }, { on := 14, ground := Ground.phase }, { on := 15, ground := Ground.textOnly Departure.lateStores }, { on := 16, ground := Ground.textOnly Departure.lateStores }, { on := 17, ground := Ground.phase }, { on := 18, ground := Ground.phase }], guard := none }) rfl (fun K hK => ?_) AllReadyH.nil)
                refine step_store (by kernel_rfl) (by kernel_rfl) 28 (.tmp 12) (.tmp 71) (by kernel_rfl) b12 #[.int .i64 rb, .slice ka kn kc, .int .i64 (base + (j : Int))] (by kernel_rfl) (by kernel_rfl) _ _ g12.out hi3 (by rfl) (by simp [Value.oneCell']) ?_
                have HN : Hid (Below wc.heap.size wc (V42.setRow b12 #[.int .i64 rb, .slice ka kn kc, .int .i64 (base + (j : Int))])) := hide (below_setRow HW.out k12 _)
                refine hK.out _ _ (HCL.out _ HN.out) (fun hHeld => ?_)
                clear hK K
                try simp only [Act.put, List.setIfInBounds_toArray, List.set_cons_zero, List.set_cons_succ]
                have g12n := hide (setRow_heap V42 b12 _ #[.int .i64 rb, .slice ka kn kc, .int .i64 (base + (j : Int))] _ _ g12.out)
                have g13n := hide ((setRow_other V42 b12 b13 #[.int .i64 rb, .slice ka kn kc, .int .i64 (base + (j : Int))] (by omega)).trans g13.out)
                clear HW g12 g13
                generalize V42.setRow b12 #[.int .i64 rb, .slice ka kn kc, .int .i64 (base + (j : Int))] = V43 at *
                refine wpAnyH_ready (rs := [20]) (by kernel_rfl) (by simp) (AllReadyH.cons (o := { dst := none, op := Op.store 39 (Operand.tmp 13) (Operand.tmp 72), type := 0, pos := "laws.go:1887", after := #[{ on := 18, ground := Ground.data }, { on := 15, ground := Ground.data }, { on := 19, ground := Ground.chain }, { on := 0, ground := Ground.phase }, { on := 1, ground := Ground.phase }, { on := 2, ground := Ground.phase }, { on := 3, ground := Ground.phase }, { on := 4, ground := Ground.phase }, { on := 5, ground := Ground.phase }, { on := 6, ground := Ground.phase }, { on := 7, ground := Ground.phase }, { on := 8, ground := Ground.phase }, { on := 9, ground := Ground.phase }, { on := 10, ground := Ground.phase }, { on := 11, ground := Ground.phase }, { on := 12, ground := Ground.phase }, { on := 13, ground := Ground.phase }, { on := 14, ground := Ground.phase }, { on := 15, ground := Ground.phase }, { on := 16, ground := Ground.textOnly Departure.lateStores }, { on := 17, ground := Ground.phase }, { on := 18, ground := Ground.phase }, { on := 19, ground := Ground.phase }], guard := none }) rfl (fun K hK => ?_) AllReadyH.nil)
                refine step_store (by kernel_rfl) (by kernel_rfl) 39 (.tmp 13) (.tmp 72) (by kernel_rfl) b13 #[.int .i64 0, .int .i64 0, .int .i64 0, .int .i64 0, .int .i64 0, .slice none 0 0, .slice none 0 0] (by kernel_rfl) (by kernel_rfl) _ _ g13n.out hi7 (by rfl) (by simp [Value.oneCell']) ?_
                have HM := hide (below_setRow HN.out k13 #[.int .i64 0, .int .i64 0, .int .i64 0, .int .i64 0, .int .i64 0, .slice none 0 0, .slice none 0 0])
                refine hK.out _ _ (HCL.out _ HM.out) (fun hHeld => ?_)
                clear hK K
                try simp only [Act.put, List.setIfInBounds_toArray, List.set_cons_zero, List.set_cons_succ]
                have g12m := hide ((setRow_other V43 b13 b12 #[.int .i64 0, .int .i64 0, .int .i64 0, .int .i64 0, .int .i64 0, .slice none 0 0, .slice none 0 0] (by omega)).trans g12n.out)
                clear HN g12n g13n
                generalize V43.setRow b13 #[.int .i64 0, .int .i64 0, .int .i64 0, .int .i64 0, .int .i64 0, .slice none 0 0, .slice none 0 0] = V44 at *
                refine wpAnyH_take (i := 21) (v := ?_) rfl (by kernel_rfl) (by kernel_rfl) (by kernel_rfl) (fun _ _ _ h => h) (Or.inl ⟨by rfl, ?_⟩) (by assumption) ?_
                rotate_left
                · intro w' hSw
                  try dsimp only at hSw
                  go_simp; try rfl
                simp only [List.getElem_toArray, List.getElem_cons_succ, List.getElem_cons_zero, Act.put, List.setIfInBounds_toArray, List.set_cons_zero, List.set_cons_succ]
                refine wpAnyH_done (by kernel_rfl) ?_ _
                go_wp2_with fail
                go_meet
                exact ⟨b12, rfl, (box_of g12m.out).1 0 _ rfl, (box_of g12m.out).1 2 _ rfl, rfl, HM.out⟩
            · skip
              refine step_run (some 13) (by kernel_rfl) (by kernel_rfl) (v := .pointer (some ⟨V0.heap.size, 0, none⟩)) (w' := V0.alloc (.cells #[.int .i64 0, .int .i64 0, .int .i64 0, .int .i64 0, .int .i64 0, .slice none 0 0, .slice none 0 0] 39)) (by go_simp; try rfl) ?_
              have HN := hide (bel_alloc HW.out (.cells #[.int .i64 0, .int .i64 0, .int .i64 0, .int .i64 0, .int .i64 0, .slice none 0 0, .slice none 0 0] 39))
              refine hK.out _ _ (HCL.out _ HN.out) (fun hHeld => ?_)
              clear hK K
              simp only [Act.put, List.setIfInBounds_toArray, List.set_cons_zero, List.set_cons_succ]
              have k13 := HW.out.size
              have g13 : Hid ((V0.alloc (.cells #[.int .i64 0, .int .i64 0, .int .i64 0, .int .i64 0, .int .i64 0, .slice none 0 0, .slice none 0 0] 39)).heap[V0.heap.size]? = some (.cells #[.int .i64 0, .int .i64 0, .int .i64 0, .int .i64 0, .int .i64 0, .slice none 0 0, .slice none 0 0] 39 (0, 0))) := hide (heap_alloc_new V0 (.cells #[.int .i64 0, .int .i64 0, .int .i64 0, .int .i64 0, .int .i64 0, .slice none 0 0, .slice none 0 0] 39))
              clear HW
              have HW := HN
              clear HN
              generalize V0.alloc (.cells #[.int .i64 0, .int .i64 0, .int .i64 0, .int .i64 0, .int .i64 0, .slice none 0 0, .slice none 0 0] 39) = V45 at *
              generalize V0.heap.size = b13 at *
              refine wpAnyH_ready (rs := [11, 17]) (by kernel_rfl) (by simp) (AllReadyH.cons (o := { dst := some 69, op := Op.call { callee := Callee.value (Operand.func 15), args := #[Operand.tmp 60, Operand.tmp 68], argTypes := #[22, 3] }, type := 22, pos := "laws.go:1887", after := #[{ on := 2, ground := Ground.data }, { on := 10, ground := Ground.data }, { on := 4, ground := Ground.chain }], guard := none }) rfl (fun K hK => ?_) (AllReadyH.cons (o := { dst := some 12, op := Op.alloc 28, type := 0, pos := "laws.go:1887", after := #[], guard := none }) rfl (fun K hK => ?_) AllReadyH.nil))
              · skip
                refine step_callW (some 69) (by kernel_rfl) (by kernel_rfl) 15 #[.tmp 60, .tmp 68] #[22, 3] (by kernel_rfl) #[.slice a7 sl.length c7, .int .i64 (bit : Int)] (by kernel_rfl) (turnImpl _ _ _ _ sl _ (HIN.out _ HW.out).2.1 hcz ⟨by omega, hbd⟩) ?_
                rintro e V46 ⟨tv, rfl, ot, bt⟩
                obtain ⟨ta, tc, rfl⟩ := own_shape ot
                have htl : (turned sl (bit : Int)).length = sl.length := turned_len _ _
                have hti := in_slice ot (by rw [htl]; omega) (turned_byt _ _ HSB.out) (Nat.le_refl _)
                rw [htl] at hti
                rw [htl]
                have HTI := hide hti.1
                have htc := hti.2
                clear hti htl ot
                replace g13 := hide ((bt.block b13 (Array.getElem?_eq_some_iff.1 g13.out).1).trans g13.out)
                replace HW : Hid (Below wc.heap.size wc V46) := hide (HW.out.trans (bt.mono HW.out.size))
                clear bt
                refine ⟨_, rfl, ?_⟩
                refine hK.out _ _ (HCL.out _ HW.out) (fun hHeld => ?_)
                clear hK K
                simp only [Act.put, List.setIfInBounds_toArray, List.set_cons_zero, List.set_cons_succ]
                refine wpAnyH_ready (rs := [12, 17]) (by kernel_rfl) (by simp) (AllReadyH.cons (o := { dst := some 70, op := Op.call { callee := Callee.value (Operand.func 10), args := #[Operand.tmp 58, Operand.tmp 69], argTypes := #[28, 22] }, type := 40, pos := "laws.go:1887", after := #[{ on := 0, ground := Ground.data }, { on := 11, ground := Ground.data }, { on := 11, ground := Ground.chain }], guard := none }) rfl (fun K hK => ?_) (AllReadyH.cons (o := { dst := some 12, op := Op.alloc 28, type := 0, pos := "laws.go:1887", after := #[], guard := none }) rfl (fun K hK => ?_) AllReadyH.nil))
                · skip
                  refine step_callW (some 70) (by kernel_rfl) (by kernel_rfl) 10 #[.tmp 58, .tmp 69] #[28, 22] (by kernel_rfl) #[lnV rb (base + (j : Int)) (.slice ra rs.length rc), .slice ta sl.length tc] (by kernel_rfl) (arriveNo _ rb (base + (j : Int)) _ (rs.map Prod.fst) (HIN.out _ HW.out).2.2 (by simp; omega) HRG.out ta sl.length tc (turned sl (bit : Int)) HTI.out htc HNO.out) ?_
                  rintro e V47 ⟨kv, rfl, ok, bt⟩
                  obtain ⟨ka, kc, ek⟩ := ok.shape
                  generalize (rs.map Prod.fst).length = kn at ek
                  subst ek
                  clear ok HTI
                  unfold lnV
                  replace g13 := hide ((bt.block b13 (Array.getElem?_eq_some_iff.1 g13.out).1).trans g13.out)
                  replace HW : Hid (Below wc.heap.size wc V47) := hide (HW.out.trans (bt.mono HW.out.size))
                  clear bt
                  refine ⟨_, rfl, ?_⟩
                  refine hK.out _ _ (HCL.out _ HW.out) (fun hHeld => ?_)
                  clear hK K
                  simp only [Act.put, List.setIfInBounds_toArray, List.set_cons_zero, List.set_cons_succ]
                  refine wpAnyH_take (i := 13) (v := ?_) rfl (by kernel_rfl) (by kernel_rfl) (by kernel_rfl) (fun _ _ _ h => h) (Or.inl ⟨by rfl, ?_⟩) (by assumption) ?_
                  rotate_left
                  · intro w' hSw
                    try dsimp only at hSw
                    go_simp; try rfl
                  simp only [List.getElem_toArray, List.getElem_cons_succ, List.getElem_cons_zero, Act.put, List.setIfInBounds_toArray, List.set_cons_zero, List.set_cons_succ]
                  refine wpAnyH_take (i := 14) (v := ?_) rfl (by kernel_rfl) (by kernel_rfl) (by kernel_rfl) (fun _ _ _ h => h) (Or.inl ⟨by rfl, ?_⟩) (by assumption) ?_
                  rotate_left
                  · intro w' hSw
                    try dsimp only at hSw
                    go_simp; try rfl
                  simp only [List.getElem_toArray, List.getElem_cons_succ, List.getElem_cons_zero, Act.put, List.setIfInBounds_toArray, List.set_cons_zero, List.set_cons_succ]
                  refine wpAnyH_take (i := 15) (v := ?_) rfl (by kernel_rfl) (by kernel_rfl) (by kernel_rfl) (fun _ _ _ h => h) (Or.inl ⟨by rfl, ?_⟩) (by assumption) ?_
                  rotate_left
                  · intro w' hSw
                    try dsimp only at hSw
                    go_simp; try rfl
                  simp only [List.getElem_toArray, List.getElem_cons_succ, List.getElem_cons_zero, Act.put, List.setIfInBounds_toArray, List.set_cons_zero, List.set_cons_succ]
                  refine wpAnyH_take (i := 16) (v := ?_) rfl (by kernel_rfl) (by kernel_rfl) (by kernel_rfl) (fun _ _ _ h => h) (Or.inl ⟨by rfl, ?_⟩) (by assumption) ?_
                  rotate_left
                  · intro w' hSw
                    try dsimp only at hSw
                    go_simp; try rfl
                  simp only [List.getElem_toArray, List.getElem_cons_succ, List.getElem_cons_zero, Act.put, List.setIfInBounds_toArray, List.set_cons_zero, List.set_cons_succ]
                  refine wpAnyH_ready (rs := [17]) (by kernel_rfl) (by simp) (AllReadyH.cons (o := { dst := some 12, op := Op.alloc 28, type := 0, pos := "laws.go:1887", after := #[], guard := none }) rfl (fun K hK => ?_) AllReadyH.nil)
                  refine step_run (some 12) (by kernel_rfl) (by kernel_rfl) (v := .pointer (some ⟨V47.heap.size, 0, none⟩)) (w' := V47.alloc (.cells #[.int .i64 0, .slice none 0 0, .int .i64 0] 28)) (by go_simp; try rfl) ?_
                  have HN := hide (bel_alloc HW.out (.cells #[.int .i64 0, .slice none 0 0, .int .i64 0] 28))
                  refine hK.out _ _ (HCL.out _ HN.out) (fun hHeld => ?_)
                  clear hK K
                  simp only [Act.put, List.setIfInBounds_toArray, List.set_cons_zero, List.set_cons_succ]
                  have k12 := HW.out.size
                  have g12 : Hid ((V47.alloc (.cells #[.int .i64 0, .slice none 0 0, .int .i64 0] 28)).heap[V47.heap.size]? = some (.cells #[.int .i64 0, .slice none 0 0, .int .i64 0] 28 (0, 0))) := hide (heap_alloc_new V47 (.cells #[.int .i64 0, .slice none 0 0, .int .i64 0] 28))
                  have lo := (Array.getElem?_eq_some_iff.1 g13.out).1
                  replace g13 := hide ((Below.heap_alloc V47 (.cells #[.int .i64 0, .slice none 0 0, .int .i64 0] 28) b13 lo).trans g13.out)
                  clear HW
                  have HW := HN
                  clear HN
                  generalize V47.alloc (.cells #[.int .i64 0, .slice none 0 0, .int .i64 0] 28) = V48 at *
                  generalize V47.heap.size = b12 at *
                  refine wpAnyH_ready (rs := [19]) (by kernel_rfl) (by simp) (AllReadyH.cons (o := { dst := none, op := Op.store 28 (Operand.tmp 12) (Operand.tmp 71), type := 0, pos := "laws.go:1887", after := #[{ on := 17, ground := Ground.data }, { on := 14, ground := Ground.data }, { on := 12, ground := Ground.chain }, { on := 0, ground := Ground.phase }, { on := 1, ground := Ground.phase }, { on := 2, ground := Ground.phase }, { on := 3, ground := Ground.phase }, { on := 4, ground := Ground.phase }, { on := 5, ground := Ground.phase }, { on := 6, ground := Ground.phase }, { on := 7, ground := Ground.phase }, { on := 8, ground := Ground.phase }, { on := 9, ground := Ground.phase }, { on := 10, ground := Ground.phase }, { on := 11, ground := Ground.phase }, { on := 12, ground := Ground.phase }, { on := 13, ground := Ground.phase }, { on := 14, ground := Ground.phase }, { on := 15, ground := Ground.textOnly Departure.lateStores }, { on := 16, ground := Ground.textOnly Departure.lateStores }, { on := 17, ground := Ground.phase }, { on := 18, ground := Ground.phase }], guard := none }) rfl (fun K hK => ?_) AllReadyH.nil)
                  refine step_store (by kernel_rfl) (by kernel_rfl) 28 (.tmp 12) (.tmp 71) (by kernel_rfl) b12 #[.int .i64 rb, .slice ka kn kc, .int .i64 (base + (j : Int))] (by kernel_rfl) (by kernel_rfl) _ _ g12.out hi3 (by rfl) (by simp [Value.oneCell']) ?_
                  have HN : Hid (Below wc.heap.size wc (V48.setRow b12 #[.int .i64 rb, .slice ka kn kc, .int .i64 (base + (j : Int))])) := hide (below_setRow HW.out k12 _)
                  refine hK.out _ _ (HCL.out _ HN.out) (fun hHeld => ?_)
                  clear hK K
                  try simp only [Act.put, List.setIfInBounds_toArray, List.set_cons_zero, List.set_cons_succ]
                  have g12n := hide (setRow_heap V48 b12 _ #[.int .i64 rb, .slice ka kn kc, .int .i64 (base + (j : Int))] _ _ g12.out)
                  have g13n := hide ((setRow_other V48 b12 b13 #[.int .i64 rb, .slice ka kn kc, .int .i64 (base + (j : Int))] (by omega)).trans g13.out)
                  clear HW g12 g13
                  generalize V48.setRow b12 #[.int .i64 rb, .slice ka kn kc, .int .i64 (base + (j : Int))] = V49 at *
                  refine wpAnyH_ready (rs := [20]) (by kernel_rfl) (by simp) (AllReadyH.cons (o := { dst := none, op := Op.store 39 (Operand.tmp 13) (Operand.tmp 72), type := 0, pos := "laws.go:1887", after := #[{ on := 18, ground := Ground.data }, { on := 15, ground := Ground.data }, { on := 19, ground := Ground.chain }, { on := 0, ground := Ground.phase }, { on := 1, ground := Ground.phase }, { on := 2, ground := Ground.phase }, { on := 3, ground := Ground.phase }, { on := 4, ground := Ground.phase }, { on := 5, ground := Ground.phase }, { on := 6, ground := Ground.phase }, { on := 7, ground := Ground.phase }, { on := 8, ground := Ground.phase }, { on := 9, ground := Ground.phase }, { on := 10, ground := Ground.phase }, { on := 11, ground := Ground.phase }, { on := 12, ground := Ground.phase }, { on := 13, ground := Ground.phase }, { on := 14, ground := Ground.phase }, { on := 15, ground := Ground.phase }, { on := 16, ground := Ground.textOnly Departure.lateStores }, { on := 17, ground := Ground.phase }, { on := 18, ground := Ground.phase }, { on := 19, ground := Ground.phase }], guard := none }) rfl (fun K hK => ?_) AllReadyH.nil)
                  refine step_store (by kernel_rfl) (by kernel_rfl) 39 (.tmp 13) (.tmp 72) (by kernel_rfl) b13 #[.int .i64 0, .int .i64 0, .int .i64 0, .int .i64 0, .int .i64 0, .slice none 0 0, .slice none 0 0] (by kernel_rfl) (by kernel_rfl) _ _ g13n.out hi7 (by rfl) (by simp [Value.oneCell']) ?_
                  have HM := hide (below_setRow HN.out k13 #[.int .i64 0, .int .i64 0, .int .i64 0, .int .i64 0, .int .i64 0, .slice none 0 0, .slice none 0 0])
                  refine hK.out _ _ (HCL.out _ HM.out) (fun hHeld => ?_)
                  clear hK K
                  try simp only [Act.put, List.setIfInBounds_toArray, List.set_cons_zero, List.set_cons_succ]
                  have g12m := hide ((setRow_other V49 b13 b12 #[.int .i64 0, .int .i64 0, .int .i64 0, .int .i64 0, .int .i64 0, .slice none 0 0, .slice none 0 0] (by omega)).trans g12n.out)
                  clear HN g12n g13n
                  generalize V49.setRow b13 #[.int .i64 0, .int .i64 0, .int .i64 0, .int .i64 0, .int .i64 0, .slice none 0 0, .slice none 0 0] = V50 at *
                  refine wpAnyH_take (i := 21) (v := ?_) rfl (by kernel_rfl) (by kernel_rfl) (by kernel_rfl) (fun _ _ _ h => h) (Or.inl ⟨by rfl, ?_⟩) (by assumption) ?_
                  rotate_left
                  · intro w' hSw
                    try dsimp only at hSw
                    go_simp; try rfl
                  simp only [List.getElem_toArray, List.getElem_cons_succ, List.getElem_cons_zero, Act.put, List.setIfInBounds_toArray, List.set_cons_zero, List.set_cons_succ]
                  refine wpAnyH_done (by kernel_rfl) ?_ _
                  go_wp2_with fail
                  go_meet
                  exact ⟨b12, rfl, (box_of g12m.out).1 0 _ rfl, (box_of g12m.out).1 2 _ rfl, rfl, HM.out⟩
                · skip
                  refine step_run (some 12) (by kernel_rfl) (by kernel_rfl) (v := .pointer (some ⟨V46.heap.size, 0, none⟩)) (w' := V46.alloc (.cells #[.int .i64 0, .slice none 0 0, .int .i64 0] 28)) (by go_simp; try rfl) ?_
                  have HN := hide (bel_alloc HW.out (.cells #[.int .i64 0, .slice none 0 0, .int .i64 0] 28))
                  refine hK.out _ _ (HCL.out _ HN.out) (fun hHeld => ?_)
                  clear hK K
                  simp only [Act.put, List.setIfInBounds_toArray, List.set_cons_zero, List.set_cons_succ]
                  have k12 := HW.out.size
                  have g12 : Hid ((V46.alloc (.cells #[.int .i64 0, .slice none 0 0, .int .i64 0] 28)).heap[V46.heap.size]? = some (.cells #[.int .i64 0, .slice none 0 0, .int .i64 0] 28 (0, 0))) := hide (heap_alloc_new V46 (.cells #[.int .i64 0, .slice none 0 0, .int .i64 0] 28))
                  have lo := (Array.getElem?_eq_some_iff.1 g13.out).1
                  replace g13 := hide ((Below.heap_alloc V46 (.cells #[.int .i64 0, .slice none 0 0, .int .i64 0] 28) b13 lo).trans g13.out)
                  replace HTI := hide (HTI.out.at ((Below.refl V46.heap.size V46).alloc (Nat.le_refl _) (.cells #[.int .i64 0, .slice none 0 0, .int .i64 0] 28)))
                  clear HW
                  have HW := HN
                  clear HN
                  generalize V46.alloc (.cells #[.int .i64 0, .slice none 0 0, .int .i64 0] 28) = V51 at *
                  generalize V46.heap.size = b12 at *
                  refine wpAnyH_ready (rs := [12]) (by kernel_rfl) (by simp) (AllReadyH.cons (o := { dst := some 70, op := Op.call { callee := Callee.value (Operand.func 10), args := #[Operand.tmp 58, Operand.tmp 69], argTypes := #[28, 22] }, type := 40, pos := "laws.go:1887", after := #[{ on := 0, ground := Ground.data }, { on := 11, ground := Ground.data }, { on := 11, ground := Ground.chain }], guard := none }) rfl (fun K hK => ?_) AllReadyH.nil)
                  refine step_callW (some 70) (by kernel_rfl) (by kernel_rfl) 10 #[.tmp 58, .tmp 69] #[28, 22] (by kernel_rfl) #[lnV rb (base + (j : Int)) (.slice ra rs.length rc), .slice ta sl.length tc] (by kernel_rfl) (arriveNo _ rb (base + (j : Int)) _ (rs.map Prod.fst) (HIN.out _ HW.out).2.2 (by simp; omega) HRG.out ta sl.length tc (turned sl (bit : Int)) HTI.out htc HNO.out) ?_
                  rintro e V52 ⟨kv, rfl, ok, bt⟩
                  obtain ⟨ka, kc, ek⟩ := ok.shape
                  generalize (rs.map Prod.fst).length = kn at ek
                  subst ek
                  clear ok HTI
                  unfold lnV
                  replace g12 := hide ((bt.block b12 (Array.getElem?_eq_some_iff.1 g12.out).1).trans g12.out)
                  replace g13 := hide ((bt.block b13 (Array.getElem?_eq_some_iff.1 g13.out).1).trans g13.out)
                  replace HW : Hid (Below wc.heap.size wc V52) := hide (HW.out.trans (bt.mono HW.out.size))
                  clear bt
                  refine ⟨_, rfl, ?_⟩
                  refine hK.out _ _ (HCL.out _ HW.out) (fun hHeld => ?_)
                  clear hK K
                  simp only [Act.put, List.setIfInBounds_toArray, List.set_cons_zero, List.set_cons_succ]
                  refine wpAnyH_take (i := 13) (v := ?_) rfl (by kernel_rfl) (by kernel_rfl) (by kernel_rfl) (fun _ _ _ h => h) (Or.inl ⟨by rfl, ?_⟩) (by assumption) ?_
                  rotate_left
                  · intro w' hSw
                    try dsimp only at hSw
                    go_simp; try rfl
                  simp only [List.getElem_toArray, List.getElem_cons_succ, List.getElem_cons_zero, Act.put, List.setIfInBounds_toArray, List.set_cons_zero, List.set_cons_succ]
                  refine wpAnyH_take (i := 14) (v := ?_) rfl (by kernel_rfl) (by kernel_rfl) (by kernel_rfl) (fun _ _ _ h => h) (Or.inl ⟨by rfl, ?_⟩) (by assumption) ?_
                  rotate_left
                  · intro w' hSw
                    try dsimp only at hSw
                    go_simp; try rfl
                  simp only [List.getElem_toArray, List.getElem_cons_succ, List.getElem_cons_zero, Act.put, List.setIfInBounds_toArray, List.set_cons_zero, List.set_cons_succ]
                  refine wpAnyH_take (i := 15) (v := ?_) rfl (by kernel_rfl) (by kernel_rfl) (by kernel_rfl) (fun _ _ _ h => h) (Or.inl ⟨by rfl, ?_⟩) (by assumption) ?_
                  rotate_left
                  · intro w' hSw
                    try dsimp only at hSw
                    go_simp; try rfl
                  simp only [List.getElem_toArray, List.getElem_cons_succ, List.getElem_cons_zero, Act.put, List.setIfInBounds_toArray, List.set_cons_zero, List.set_cons_succ]
                  refine wpAnyH_take (i := 16) (v := ?_) rfl (by kernel_rfl) (by kernel_rfl) (by kernel_rfl) (fun _ _ _ h => h) (Or.inl ⟨by rfl, ?_⟩) (by assumption) ?_
                  rotate_left
                  · intro w' hSw
                    try dsimp only at hSw
                    go_simp; try rfl
                  simp only [List.getElem_toArray, List.getElem_cons_succ, List.getElem_cons_zero, Act.put, List.setIfInBounds_toArray, List.set_cons_zero, List.set_cons_succ]
                  refine wpAnyH_ready (rs := [19]) (by kernel_rfl) (by simp) (AllReadyH.cons (o := { dst := none, op := Op.store 28 (Operand.tmp 12) (Operand.tmp 71), type := 0, pos := "laws.go:1887", after := #[{ on := 17, ground := Ground.data }, { on := 14, ground := Ground.data }, { on := 12, ground := Ground.chain }, { on := 0, ground := Ground.phase }, { on := 1, ground := Ground.phase }, { on := 2, ground := Ground.phase }, { on := 3, ground := Ground.phase }, { on := 4, ground := Ground.phase }, { on := 5, ground := Ground.phase }, { on := 6, ground := Ground.phase }, { on := 7, ground := Ground.phase }, { on := 8, ground := Ground.phase }, { on := 9, ground := Ground.phase }, { on := 10, ground := Ground.phase }, { on := 11, ground := Ground.phase }, { on := 12, ground := Ground.phase }, { on := 13, ground := Ground.phase }, { on := 14, ground := Ground.phase }, { on := 15, ground := Ground.textOnly Departure.lateStores }, { on := 16, ground := Ground.textOnly Departure.lateStores }, { on := 17, ground := Ground.phase }, { on := 18, ground := Ground.phase }], guard := none }) rfl (fun K hK => ?_) AllReadyH.nil)
                  refine step_store (by kernel_rfl) (by kernel_rfl) 28 (.tmp 12) (.tmp 71) (by kernel_rfl) b12 #[.int .i64 rb, .slice ka kn kc, .int .i64 (base + (j : Int))] (by kernel_rfl) (by kernel_rfl) _ _ g12.out hi3 (by rfl) (by simp [Value.oneCell']) ?_
                  have HN : Hid (Below wc.heap.size wc (V52.setRow b12 #[.int .i64 rb, .slice ka kn kc, .int .i64 (base + (j : Int))])) := hide (below_setRow HW.out k12 _)
                  refine hK.out _ _ (HCL.out _ HN.out) (fun hHeld => ?_)
                  clear hK K
                  try simp only [Act.put, List.setIfInBounds_toArray, List.set_cons_zero, List.set_cons_succ]
                  have g12n := hide (setRow_heap V52 b12 _ #[.int .i64 rb, .slice ka kn kc, .int .i64 (base + (j : Int))] _ _ g12.out)
                  have g13n := hide ((setRow_other V52 b12 b13 #[.int .i64 rb, .slice ka kn kc, .int .i64 (base + (j : Int))] (by omega)).trans g13.out)
                  clear HW g12 g13
                  generalize V52.setRow b12 #[.int .i64 rb, .slice ka kn kc, .int .i64 (base + (j : Int))] = V53 at *
                  refine wpAnyH_ready (rs := [20]) (by kernel_rfl) (by simp) (AllReadyH.cons (o := { dst := none, op := Op.store 39 (Operand.tmp 13) (Operand.tmp 72), type := 0, pos := "laws.go:1887", after := #[{ on := 18, ground := Ground.data }, { on := 15, ground := Ground.data }, { on := 19, ground := Ground.chain }, { on := 0, ground := Ground.phase }, { on := 1, ground := Ground.phase }, { on := 2, ground := Ground.phase }, { on := 3, ground := Ground.phase }, { on := 4, ground := Ground.phase }, { on := 5, ground := Ground.phase }, { on := 6, ground := Ground.phase }, { on := 7, ground := Ground.phase }, { on := 8, ground := Ground.phase }, { on := 9, ground := Ground.phase }, { on := 10, ground := Ground.phase }, { on := 11, ground := Ground.phase }, { on := 12, ground := Ground.phase }, { on := 13, ground := Ground.phase }, { on := 14, ground := Ground.phase }, { on := 15, ground := Ground.phase }, { on := 16, ground := Ground.textOnly Departure.lateStores }, { on := 17, ground := Ground.phase }, { on := 18, ground := Ground.phase }, { on := 19, ground := Ground.phase }], guard := none }) rfl (fun K hK => ?_) AllReadyH.nil)
                  refine step_store (by kernel_rfl) (by kernel_rfl) 39 (.tmp 13) (.tmp 72) (by kernel_rfl) b13 #[.int .i64 0, .int .i64 0, .int .i64 0, .int .i64 0, .int .i64 0, .slice none 0 0, .slice none 0 0] (by kernel_rfl) (by kernel_rfl) _ _ g13n.out hi7 (by rfl) (by simp [Value.oneCell']) ?_
                  have HM := hide (below_setRow HN.out k13 #[.int .i64 0, .int .i64 0, .int .i64 0, .int .i64 0, .int .i64 0, .slice none 0 0, .slice none 0 0])
                  refine hK.out _ _ (HCL.out _ HM.out) (fun hHeld => ?_)
                  clear hK K
                  try simp only [Act.put, List.setIfInBounds_toArray, List.set_cons_zero, List.set_cons_succ]
                  have g12m := hide ((setRow_other V53 b13 b12 #[.int .i64 0, .int .i64 0, .int .i64 0, .int .i64 0, .int .i64 0, .slice none 0 0, .slice none 0 0] (by omega)).trans g12n.out)
                  clear HN g12n g13n
                  generalize V53.setRow b13 #[.int .i64 0, .int .i64 0, .int .i64 0, .int .i64 0, .int .i64 0, .slice none 0 0, .slice none 0 0] = V54 at *
                  refine wpAnyH_take (i := 21) (v := ?_) rfl (by kernel_rfl) (by kernel_rfl) (by kernel_rfl) (fun _ _ _ h => h) (Or.inl ⟨by rfl, ?_⟩) (by assumption) ?_
                  rotate_left
                  · intro w' hSw
                    try dsimp only at hSw
                    go_simp; try rfl
                  simp only [List.getElem_toArray, List.getElem_cons_succ, List.getElem_cons_zero, Act.put, List.setIfInBounds_toArray, List.set_cons_zero, List.set_cons_succ]
                  refine wpAnyH_done (by kernel_rfl) ?_ _
                  go_wp2_with fail
                  go_meet
                  exact ⟨b12, rfl, (box_of g12m.out).1 0 _ rfl, (box_of g12m.out).1 2 _ rfl, rfl, HM.out⟩
              · skip
                refine step_run (some 12) (by kernel_rfl) (by kernel_rfl) (v := .pointer (some ⟨V45.heap.size, 0, none⟩)) (w' := V45.alloc (.cells #[.int .i64 0, .slice none 0 0, .int .i64 0] 28)) (by go_simp; try rfl) ?_
                have HN := hide (bel_alloc HW.out (.cells #[.int .i64 0, .slice none 0 0, .int .i64 0] 28))
                refine hK.out _ _ (HCL.out _ HN.out) (fun hHeld => ?_)
                clear hK K
                simp only [Act.put, List.setIfInBounds_toArray, List.set_cons_zero, List.set_cons_succ]
                have k12 := HW.out.size
                have g12 : Hid ((V45.alloc (.cells #[.int .i64 0, .slice none 0 0, .int .i64 0] 28)).heap[V45.heap.size]? = some (.cells #[.int .i64 0, .slice none 0 0, .int .i64 0] 28 (0, 0))) := hide (heap_alloc_new V45 (.cells #[.int .i64 0, .slice none 0 0, .int .i64 0] 28))
                have lo := (Array.getElem?_eq_some_iff.1 g13.out).1
                replace g13 := hide ((Below.heap_alloc V45 (.cells #[.int .i64 0, .slice none 0 0, .int .i64 0] 28) b13 lo).trans g13.out)
                clear HW
                have HW := HN
                clear HN
                generalize V45.alloc (.cells #[.int .i64 0, .slice none 0 0, .int .i64 0] 28) = V55 at *
                generalize V45.heap.size = b12 at *
                refine wpAnyH_ready (rs := [11]) (by kernel_rfl) (by simp) (AllReadyH.cons (o := { dst := some 69, op := Op.call { callee := Callee.value (Operand.func 15), args := #[Operand.tmp 60, Operand.tmp 68], argTypes := #[22, 3] }, type := 22, pos := "laws.go:1887", after := #[{ on := 2, ground := Ground.data }, { on := 10, ground := Ground.data }, { on := 4, ground := Ground.chain }], guard := none }) rfl (fun K hK => ?_) AllReadyH.nil)
                refine step_callW (some 69) (by kernel_rfl) (by kernel_rfl) 15 #[.tmp 60, .tmp 68] #[22, 3] (by kernel_rfl) #[.slice a7 sl.length c7, .int .i64 (bit : Int)] (by kernel_rfl) (turnImpl _ _ _ _ sl _ (HIN.out _ HW.out).2.1 hcz ⟨by omega, hbd⟩) ?_
                rintro e V56 ⟨tv, rfl, ot, bt⟩
                obtain ⟨ta, tc, rfl⟩ := own_shape ot
                have htl : (turned sl (bit : Int)).length = sl.length := turned_len _ _
                have hti := in_slice ot (by rw [htl]; omega) (turned_byt _ _ HSB.out) (Nat.le_refl _)
                rw [htl] at hti
                rw [htl]
                have HTI := hide hti.1
                have htc := hti.2
                clear hti htl ot
                replace g12 := hide ((bt.block b12 (Array.getElem?_eq_some_iff.1 g12.out).1).trans g12.out)
                replace g13 := hide ((bt.block b13 (Array.getElem?_eq_some_iff.1 g13.out).1).trans g13.out)
                replace HW : Hid (Below wc.heap.size wc V56) := hide (HW.out.trans (bt.mono HW.out.size))
                clear bt
                refine ⟨_, rfl, ?_⟩
                refine hK.out _ _ (HCL.out _ HW.out) (fun hHeld => ?_)
                clear hK K
                simp only [Act.put, List.setIfInBounds_toArray, List.set_cons_zero, List.set_cons_succ]
                refine wpAnyH_ready (rs := [12]) (by kernel_rfl) (by simp) (AllReadyH.cons (o := { dst := some 70, op := Op.call { callee := Callee.value (Operand.func 10), args := #[Operand.tmp 58, Operand.tmp 69], argTypes := #[28, 22] }, type := 40, pos := "laws.go:1887", after := #[{ on := 0, ground := Ground.data }, { on := 11, ground := Ground.data }, { on := 11, ground := Ground.chain }], guard := none }) rfl (fun K hK => ?_) AllReadyH.nil)
                refine step_callW (some 70) (by kernel_rfl) (by kernel_rfl) 10 #[.tmp 58, .tmp 69] #[28, 22] (by kernel_rfl) #[lnV rb (base + (j : Int)) (.slice ra rs.length rc), .slice ta sl.length tc] (by kernel_rfl) (arriveNo _ rb (base + (j : Int)) _ (rs.map Prod.fst) (HIN.out _ HW.out).2.2 (by simp; omega) HRG.out ta sl.length tc (turned sl (bit : Int)) HTI.out htc HNO.out) ?_
                rintro e V57 ⟨kv, rfl, ok, bt⟩
                obtain ⟨ka, kc, ek⟩ := ok.shape
                generalize (rs.map Prod.fst).length = kn at ek
                subst ek
                clear ok HTI
                unfold lnV
                replace g12 := hide ((bt.block b12 (Array.getElem?_eq_some_iff.1 g12.out).1).trans g12.out)
                replace g13 := hide ((bt.block b13 (Array.getElem?_eq_some_iff.1 g13.out).1).trans g13.out)
                replace HW : Hid (Below wc.heap.size wc V57) := hide (HW.out.trans (bt.mono HW.out.size))
                clear bt
                refine ⟨_, rfl, ?_⟩
                refine hK.out _ _ (HCL.out _ HW.out) (fun hHeld => ?_)
                clear hK K
                simp only [Act.put, List.setIfInBounds_toArray, List.set_cons_zero, List.set_cons_succ]
                refine wpAnyH_take (i := 13) (v := ?_) rfl (by kernel_rfl) (by kernel_rfl) (by kernel_rfl) (fun _ _ _ h => h) (Or.inl ⟨by rfl, ?_⟩) (by assumption) ?_
                rotate_left
                · intro w' hSw
                  try dsimp only at hSw
                  go_simp; try rfl
                simp only [List.getElem_toArray, List.getElem_cons_succ, List.getElem_cons_zero, Act.put, List.setIfInBounds_toArray, List.set_cons_zero, List.set_cons_succ]
                refine wpAnyH_take (i := 14) (v := ?_) rfl (by kernel_rfl) (by kernel_rfl) (by kernel_rfl) (fun _ _ _ h => h) (Or.inl ⟨by rfl, ?_⟩) (by assumption) ?_
                rotate_left
                · intro w' hSw
                  try dsimp only at hSw
                  go_simp; try rfl
                simp only [List.getElem_toArray, List.getElem_cons_succ, List.getElem_cons_zero, Act.put, List.setIfInBounds_toArray, List.set_cons_zero, List.set_cons_succ]
                refine wpAnyH_take (i := 15) (v := ?_) rfl (by kernel_rfl) (by kernel_rfl) (by kernel_rfl) (fun _ _ _ h => h) (Or.inl ⟨by rfl, ?_⟩) (by assumption) ?_
                rotate_left
                · intro w' hSw
                  try dsimp only at hSw
                  go_simp; try rfl
                simp only [List.getElem_toArray, List.getElem_cons_succ, List.getElem_cons_zero, Act.put, List.setIfInBounds_toArray, List.set_cons_zero, List.set_cons_succ]
                refine wpAnyH_take (i := 16) (v := ?_) rfl (by kernel_rfl) (by kernel_rfl) (by kernel_rfl) (fun _ _ _ h => h) (Or.inl ⟨by rfl, ?_⟩) (by assumption) ?_
                rotate_left
                · intro w' hSw
                  try dsimp only at hSw
                  go_simp; try rfl
                simp only [List.getElem_toArray, List.getElem_cons_succ, List.getElem_cons_zero, Act.put, List.setIfInBounds_toArray, List.set_cons_zero, List.set_cons_succ]
                refine wpAnyH_ready (rs := [19]) (by kernel_rfl) (by simp) (AllReadyH.cons (o := { dst := none, op := Op.store 28 (Operand.tmp 12) (Operand.tmp 71), type := 0, pos := "laws.go:1887", after := #[{ on := 17, ground := Ground.data }, { on := 14, ground := Ground.data }, { on := 12, ground := Ground.chain }, { on := 0, ground := Ground.phase }, { on := 1, ground := Ground.phase }, { on := 2, ground := Ground.phase }, { on := 3, ground := Ground.phase }, { on := 4, ground := Ground.phase }, { on := 5, ground := Ground.phase }, { on := 6, ground := Ground.phase }, { on := 7, ground := Ground.phase }, { on := 8, ground := Ground.phase }, { on := 9, ground := Ground.phase }, { on := 10, ground := Ground.phase }, { on := 11, ground := Ground.phase }, { on := 12, ground := Ground.phase }, { on := 13, ground := Ground.phase }, { on := 14, ground := Ground.phase }, { on := 15, ground := Ground.textOnly Departure.lateStores }, { on := 16, ground := Ground.textOnly Departure.lateStores }, { on := 17, ground := Ground.phase }, { on := 18, ground := Ground.phase }], guard := none }) rfl (fun K hK => ?_) AllReadyH.nil)
                refine step_store (by kernel_rfl) (by kernel_rfl) 28 (.tmp 12) (.tmp 71) (by kernel_rfl) b12 #[.int .i64 rb, .slice ka kn kc, .int .i64 (base + (j : Int))] (by kernel_rfl) (by kernel_rfl) _ _ g12.out hi3 (by rfl) (by simp [Value.oneCell']) ?_
                have HN : Hid (Below wc.heap.size wc (V57.setRow b12 #[.int .i64 rb, .slice ka kn kc, .int .i64 (base + (j : Int))])) := hide (below_setRow HW.out k12 _)
                refine hK.out _ _ (HCL.out _ HN.out) (fun hHeld => ?_)
                clear hK K
                try simp only [Act.put, List.setIfInBounds_toArray, List.set_cons_zero, List.set_cons_succ]
                have g12n := hide (setRow_heap V57 b12 _ #[.int .i64 rb, .slice ka kn kc, .int .i64 (base + (j : Int))] _ _ g12.out)
                have g13n := hide ((setRow_other V57 b12 b13 #[.int .i64 rb, .slice ka kn kc, .int .i64 (base + (j : Int))] (by omega)).trans g13.out)
                clear HW g12 g13
                generalize V57.setRow b12 #[.int .i64 rb, .slice ka kn kc, .int .i64 (base + (j : Int))] = V58 at *
                refine wpAnyH_ready (rs := [20]) (by kernel_rfl) (by simp) (AllReadyH.cons (o := { dst := none, op := Op.store 39 (Operand.tmp 13) (Operand.tmp 72), type := 0, pos := "laws.go:1887", after := #[{ on := 18, ground := Ground.data }, { on := 15, ground := Ground.data }, { on := 19, ground := Ground.chain }, { on := 0, ground := Ground.phase }, { on := 1, ground := Ground.phase }, { on := 2, ground := Ground.phase }, { on := 3, ground := Ground.phase }, { on := 4, ground := Ground.phase }, { on := 5, ground := Ground.phase }, { on := 6, ground := Ground.phase }, { on := 7, ground := Ground.phase }, { on := 8, ground := Ground.phase }, { on := 9, ground := Ground.phase }, { on := 10, ground := Ground.phase }, { on := 11, ground := Ground.phase }, { on := 12, ground := Ground.phase }, { on := 13, ground := Ground.phase }, { on := 14, ground := Ground.phase }, { on := 15, ground := Ground.phase }, { on := 16, ground := Ground.textOnly Departure.lateStores }, { on := 17, ground := Ground.phase }, { on := 18, ground := Ground.phase }, { on := 19, ground := Ground.phase }], guard := none }) rfl (fun K hK => ?_) AllReadyH.nil)
                refine step_store (by kernel_rfl) (by kernel_rfl) 39 (.tmp 13) (.tmp 72) (by kernel_rfl) b13 #[.int .i64 0, .int .i64 0, .int .i64 0, .int .i64 0, .int .i64 0, .slice none 0 0, .slice none 0 0] (by kernel_rfl) (by kernel_rfl) _ _ g13n.out hi7 (by rfl) (by simp [Value.oneCell']) ?_
                have HM := hide (below_setRow HN.out k13 #[.int .i64 0, .int .i64 0, .int .i64 0, .int .i64 0, .int .i64 0, .slice none 0 0, .slice none 0 0])
                refine hK.out _ _ (HCL.out _ HM.out) (fun hHeld => ?_)
                clear hK K
                try simp only [Act.put, List.setIfInBounds_toArray, List.set_cons_zero, List.set_cons_succ]
                have g12m := hide ((setRow_other V58 b13 b12 #[.int .i64 0, .int .i64 0, .int .i64 0, .int .i64 0, .int .i64 0, .slice none 0 0, .slice none 0 0] (by omega)).trans g12n.out)
                clear HN g12n g13n
                generalize V58.setRow b13 #[.int .i64 0, .int .i64 0, .int .i64 0, .int .i64 0, .int .i64 0, .slice none 0 0, .slice none 0 0] = V59 at *
                refine wpAnyH_take (i := 21) (v := ?_) rfl (by kernel_rfl) (by kernel_rfl) (by kernel_rfl) (fun _ _ _ h => h) (Or.inl ⟨by rfl, ?_⟩) (by assumption) ?_
                rotate_left
                · intro w' hSw
                  try dsimp only at hSw
                  go_simp; try rfl
                simp only [List.getElem_toArray, List.getElem_cons_succ, List.getElem_cons_zero, Act.put, List.setIfInBounds_toArray, List.set_cons_zero, List.set_cons_succ]
                refine wpAnyH_done (by kernel_rfl) ?_ _
                go_wp2_with fail
                go_meet
                exact ⟨b12, rfl, (box_of g12m.out).1 0 _ rfl, (box_of g12m.out).1 2 _ rfl, rfl, HM.out⟩
          · skip
            refine step_run (some 12) (by kernel_rfl) (by kernel_rfl) (v := .pointer (some ⟨V0.heap.size, 0, none⟩)) (w' := V0.alloc (.cells #[.int .i64 0, .slice none 0 0, .int .i64 0] 28)) (by go_simp; try rfl) ?_
            have HN := hide (bel_alloc HW.out (.cells #[.int .i64 0, .slice none 0 0, .int .i64 0] 28))
            refine hK.out _ _ (HCL.out _ HN.out) (fun hHeld => ?_)
            clear hK K
            simp only [Act.put, List.setIfInBounds_toArray, List.set_cons_zero, List.set_cons_succ]
            have k12 := HW.out.size
            have g12 : Hid ((V0.alloc (.cells #[.int .i64 0, .slice none 0 0, .int .i64 0] 28)).heap[V0.heap.size]? = some (.cells #[.int .i64 0, .slice none 0 0, .int .i64 0] 28 (0, 0))) := hide (heap_alloc_new V0 (.cells #[.int .i64 0, .slice none 0 0, .int .i64 0] 28))
            clear HW
            have HW := HN
            clear HN
            generalize V0.alloc (.cells #[.int .i64 0, .slice none 0 0, .int .i64 0] 28) = V60 at *
            generalize V0.heap.size = b12 at *
            refine wpAnyH_ready (rs := [4, 18]) (by kernel_rfl) (by simp) (AllReadyH.cons (o := { dst := some 62, op := Op.call { callee := Callee.value (Operand.func 16), args := #[Operand.tmp 61, Operand.const (Value.int IntKind.i64 3)], argTypes := #[22, 3] }, type := 3, pos := "laws.go:1887", after := #[{ on := 3, ground := Ground.data }], guard := none }) rfl (fun K hK => ?_) (AllReadyH.cons (o := { dst := some 13, op := Op.alloc 39, type := 0, pos := "laws.go:1887", after := #[], guard := none }) rfl (fun K hK => ?_) AllReadyH.nil))
            · skip
              refine step_callW (some 62) (by kernel_rfl) (by kernel_rfl) 16 #[.tmp 61, .const (.int .i64 3)] #[22, 3] (by kernel_rfl) #[.slice a0 len0 cap0, .int .i64 ((3 : Nat) : Int)] (by kernel_rfl) (atB _ _ a0 len0 cap0 zs 3 (by omega) (HIN.out _ HW.out).1) ?_
              rintro e y ⟨rfl, hy⟩
              rw [hy, HAL.out]
              clear hy y
              refine ⟨_, rfl, ?_⟩
              refine hK.out _ _ (HCL.out _ HW.out) (fun hHeld => ?_)
              clear hK K
              simp only [Act.put, List.setIfInBounds_toArray, List.set_cons_zero, List.set_cons_succ]
              refine wpAnyH_take (i := 5) (v := .int .i64 ((al : Int) * 8)) rfl (by kernel_rfl) (by kernel_rfl) (by kernel_rfl) (fun _ _ _ h => h) (Or.inl ⟨by rfl, ?_⟩) (by assumption) ?_
              · intro w' hSw
                try dsimp only at hSw
                go_simp; try rfl
              simp only [List.getElem_toArray, List.getElem_cons_succ, List.getElem_cons_zero, Act.put, List.setIfInBounds_toArray, List.set_cons_zero, List.set_cons_succ]
              refine wpAnyH_take (i := 9) (v := .int .i64 ((al : Int) * 8 * (sl.length : Int))) rfl (by kernel_rfl) (by kernel_rfl) (by kernel_rfl) (fun _ _ _ h => h) (Or.inl ⟨by rfl, ?_⟩) (by assumption) ?_
              · intro w' hSw
                try dsimp only at hSw
                go_simp; try rfl
              simp only [List.getElem_toArray, List.getElem_cons_succ, List.getElem_cons_zero, Act.put, List.setIfInBounds_toArray, List.set_cons_zero, List.set_cons_succ]
              refine wpAnyH_take (i := 10) (v := .int .i64 (bit : Int)) rfl (by kernel_rfl) (by kernel_rfl) (by kernel_rfl) (fun _ _ _ h => h) (Or.inl ⟨by rfl, ?_⟩) (by assumption) ?_
              · intro w' hSw
                try dsimp only at hSw
                go_simp; try rfl
              simp only [List.getElem_toArray, List.getElem_cons_succ, List.getElem_cons_zero, Act.put, List.setIfInBounds_toArray, List.set_cons_zero, List.set_cons_succ]
              refine wpAnyH_ready (rs := [11, 18]) (by kernel_rfl) (by simp) (AllReadyH.cons (o := { dst := some 69, op := Op.call { callee := Callee.value (Operand.func 15), args := #[Operand.tmp 60, Operand.tmp 68], argTypes := #[22, 3] }, type := 22, pos := "laws.go:1887", after := #[{ on := 2, ground := Ground.data }, { on := 10, ground := Ground.data }, { on := 4, ground := Ground.chain }], guard := none }) rfl (fun K hK => ?_) (AllReadyH.cons (o := { dst := some 13, op := Op.alloc 39, type := 0, pos := "laws.go:1887", after := #[], guard := none }) rfl (fun K hK => ?_) AllReadyH.nil))
              · skip
                refine step_callW (some 69) (by kernel_rfl) (by kernel_rfl) 15 #[.tmp 60, .tmp 68] #[22, 3] (by kernel_rfl) #[.slice a7 sl.length c7, .int .i64 (bit : Int)] (by kernel_rfl) (turnImpl _ _ _ _ sl _ (HIN.out _ HW.out).2.1 hcz ⟨by omega, hbd⟩) ?_
                rintro e V62 ⟨tv, rfl, ot, bt⟩
                obtain ⟨ta, tc, rfl⟩ := own_shape ot
                have htl : (turned sl (bit : Int)).length = sl.length := turned_len _ _
                have hti := in_slice ot (by rw [htl]; omega) (turned_byt _ _ HSB.out) (Nat.le_refl _)
                rw [htl] at hti
                rw [htl]
                have HTI := hide hti.1
                have htc := hti.2
                clear hti htl ot
                replace g12 := hide ((bt.block b12 (Array.getElem?_eq_some_iff.1 g12.out).1).trans g12.out)
                replace HW : Hid (Below wc.heap.size wc V62) := hide (HW.out.trans (bt.mono HW.out.size))
                clear bt
                refine ⟨_, rfl, ?_⟩
                refine hK.out _ _ (HCL.out _ HW.out) (fun hHeld => ?_)
                clear hK K
                simp only [Act.put, List.setIfInBounds_toArray, List.set_cons_zero, List.set_cons_succ]
                refine wpAnyH_ready (rs := [12, 18]) (by kernel_rfl) (by simp) (AllReadyH.cons (o := { dst := some 70, op := Op.call { callee := Callee.value (Operand.func 10), args := #[Operand.tmp 58, Operand.tmp 69], argTypes := #[28, 22] }, type := 40, pos := "laws.go:1887", after := #[{ on := 0, ground := Ground.data }, { on := 11, ground := Ground.data }, { on := 11, ground := Ground.chain }], guard := none }) rfl (fun K hK => ?_) (AllReadyH.cons (o := { dst := some 13, op := Op.alloc 39, type := 0, pos := "laws.go:1887", after := #[], guard := none }) rfl (fun K hK => ?_) AllReadyH.nil))
                · skip
                  refine step_callW (some 70) (by kernel_rfl) (by kernel_rfl) 10 #[.tmp 58, .tmp 69] #[28, 22] (by kernel_rfl) #[lnV rb (base + (j : Int)) (.slice ra rs.length rc), .slice ta sl.length tc] (by kernel_rfl) (arriveNo _ rb (base + (j : Int)) _ (rs.map Prod.fst) (HIN.out _ HW.out).2.2 (by simp; omega) HRG.out ta sl.length tc (turned sl (bit : Int)) HTI.out htc HNO.out) ?_
                  rintro e V63 ⟨kv, rfl, ok, bt⟩
                  obtain ⟨ka, kc, ek⟩ := ok.shape
                  generalize (rs.map Prod.fst).length = kn at ek
                  subst ek
                  clear ok HTI
                  unfold lnV
                  replace g12 := hide ((bt.block b12 (Array.getElem?_eq_some_iff.1 g12.out).1).trans g12.out)
                  replace HW : Hid (Below wc.heap.size wc V63) := hide (HW.out.trans (bt.mono HW.out.size))
                  clear bt
                  refine ⟨_, rfl, ?_⟩
                  refine hK.out _ _ (HCL.out _ HW.out) (fun hHeld => ?_)
                  clear hK K
                  simp only [Act.put, List.setIfInBounds_toArray, List.set_cons_zero, List.set_cons_succ]
                  refine wpAnyH_take (i := 13) (v := ?_) rfl (by kernel_rfl) (by kernel_rfl) (by kernel_rfl) (fun _ _ _ h => h) (Or.inl ⟨by rfl, ?_⟩) (by assumption) ?_
                  rotate_left
                  · intro w' hSw
                    try dsimp only at hSw
                    go_simp; try rfl
                  simp only [List.getElem_toArray, List.getElem_cons_succ, List.getElem_cons_zero, Act.put, List.setIfInBounds_toArray, List.set_cons_zero, List.set_cons_succ]
                  refine wpAnyH_take (i := 14) (v := ?_) rfl (by kernel_rfl) (by kernel_rfl) (by kernel_rfl) (fun _ _ _ h => h) (Or.inl ⟨by rfl, ?_⟩) (by assumption) ?_
                  rotate_left
                  · intro w' hSw
                    try dsimp only at hSw
                    go_simp; try rfl
                  simp only [List.getElem_toArray, List.getElem_cons_succ, List.getElem_cons_zero, Act.put, List.setIfInBounds_toArray, List.set_cons_zero, List.set_cons_succ]
                  refine wpAnyH_take (i := 15) (v := ?_) rfl (by kernel_rfl) (by kernel_rfl) (by kernel_rfl) (fun _ _ _ h => h) (Or.inl ⟨by rfl, ?_⟩) (by assumption) ?_
                  rotate_left
                  · intro w' hSw
                    try dsimp only at hSw
                    go_simp; try rfl
                  simp only [List.getElem_toArray, List.getElem_cons_succ, List.getElem_cons_zero, Act.put, List.setIfInBounds_toArray, List.set_cons_zero, List.set_cons_succ]
                  refine wpAnyH_take (i := 16) (v := ?_) rfl (by kernel_rfl) (by kernel_rfl) (by kernel_rfl) (fun _ _ _ h => h) (Or.inl ⟨by rfl, ?_⟩) (by assumption) ?_
                  rotate_left
                  · intro w' hSw
                    try dsimp only at hSw
                    go_simp; try rfl
                  simp only [List.getElem_toArray, List.getElem_cons_succ, List.getElem_cons_zero, Act.put, List.setIfInBounds_toArray, List.set_cons_zero, List.set_cons_succ]
                  refine wpAnyH_ready (rs := [18]) (by kernel_rfl) (by simp) (AllReadyH.cons (o := { dst := some 13, op := Op.alloc 39, type := 0, pos := "laws.go:1887", after := #[], guard := none }) rfl (fun K hK => ?_) AllReadyH.nil)
                  refine step_run (some 13) (by kernel_rfl) (by kernel_rfl) (v := .pointer (some ⟨V63.heap.size, 0, none⟩)) (w' := V63.alloc (.cells #[.int .i64 0, .int .i64 0, .int .i64 0, .int .i64 0, .int .i64 0, .slice none 0 0, .slice none 0 0] 39)) (by go_simp; try rfl) ?_
                  have HN := hide (bel_alloc HW.out (.cells #[.int .i64 0, .int .i64 0, .int .i64 0, .int .i64 0, .int .i64 0, .slice none 0 0, .slice none 0 0] 39))
                  refine hK.out _ _ (HCL.out _ HN.out) (fun hHeld => ?_)
                  clear hK K
                  simp only [Act.put, List.setIfInBounds_toArray, List.set_cons_zero, List.set_cons_succ]
                  have k13 := HW.out.size
                  have g13 : Hid ((V63.alloc (.cells #[.int .i64 0, .int .i64 0, .int .i64 0, .int .i64 0, .int .i64 0, .slice none 0 0, .slice none 0 0] 39)).heap[V63.heap.size]? = some (.cells #[.int .i64 0, .int .i64 0, .int .i64 0, .int .i64 0, .int .i64 0, .slice none 0 0, .slice none 0 0] 39 (0, 0))) := hide (heap_alloc_new V63 (.cells #[.int .i64 0, .int .i64 0, .int .i64 0, .int .i64 0, .int .i64 0, .slice none 0 0, .slice none 0 0] 39))
                  have lo := (Array.getElem?_eq_some_iff.1 g12.out).1
                  replace g12 := hide ((Below.heap_alloc V63 (.cells #[.int .i64 0, .int .i64 0, .int .i64 0, .int .i64 0, .int .i64 0, .slice none 0 0, .slice none 0 0] 39) b12 lo).trans g12.out)
                  clear HW
                  have HW := HN
                  clear HN
                  generalize V63.alloc (.cells #[.int .i64 0, .int .i64 0, .int .i64 0, .int .i64 0, .int .i64 0, .slice none 0 0, .slice none 0 0] 39) = V64 at *
                  generalize V63.heap.size = b13 at *
                  refine wpAnyH_ready (rs := [19]) (by kernel_rfl) (by simp) (AllReadyH.cons (o := { dst := none, op := Op.store 28 (Operand.tmp 12) (Operand.tmp 71), type := 0, pos := "laws.go:1887", after := #[{ on := 17, ground := Ground.data }, { on := 14, ground := Ground.data }, { on := 12, ground := Ground.chain }, { on := 0, ground := Ground.phase }, { on := 1, ground := Ground.phase }, { on := 2, ground := Ground.phase }, { on := 3, ground := Ground.phase }, { on := 4, ground := Ground.phase }, { on := 5, ground := Ground.phase }, { on := 6, ground := Ground.phase }, { on := 7, ground := Ground.phase }, { on := 8, ground := Ground.phase }, { on := 9, ground := Ground.phase }, { on := 10, ground := Ground.phase }, { on := 11, ground := Ground.phase }, { on := 12, ground := Ground.phase }, { on := 13, ground := Ground.phase }, { on := 14, ground := Ground.phase }, { on := 15, ground := Ground.textOnly Departure.lateStores }, { on := 16, ground := Ground.textOnly Departure.lateStores }, { on := 17, ground := Ground.phase }, { on := 18, ground := Ground.phase }], guard := none }) rfl (fun K hK => ?_) AllReadyH.nil)
                  refine step_store (by kernel_rfl) (by kernel_rfl) 28 (.tmp 12) (.tmp 71) (by kernel_rfl) b12 #[.int .i64 rb, .slice ka kn kc, .int .i64 (base + (j : Int))] (by kernel_rfl) (by kernel_rfl) _ _ g12.out hi3 (by rfl) (by simp [Value.oneCell']) ?_
                  have HN : Hid (Below wc.heap.size wc (V64.setRow b12 #[.int .i64 rb, .slice ka kn kc, .int .i64 (base + (j : Int))])) := hide (below_setRow HW.out k12 _)
                  refine hK.out _ _ (HCL.out _ HN.out) (fun hHeld => ?_)
                  clear hK K
                  try simp only [Act.put, List.setIfInBounds_toArray, List.set_cons_zero, List.set_cons_succ]
                  have g12n := hide (setRow_heap V64 b12 _ #[.int .i64 rb, .slice ka kn kc, .int .i64 (base + (j : Int))] _ _ g12.out)
                  have g13n := hide ((setRow_other V64 b12 b13 #[.int .i64 rb, .slice ka kn kc, .int .i64 (base + (j : Int))] (by omega)).trans g13.out)
                  clear HW g12 g13
                  generalize V64.setRow b12 #[.int .i64 rb, .slice ka kn kc, .int .i64 (base + (j : Int))] = V65 at *
                  refine wpAnyH_ready (rs := [20]) (by kernel_rfl) (by simp) (AllReadyH.cons (o := { dst := none, op := Op.store 39 (Operand.tmp 13) (Operand.tmp 72), type := 0, pos := "laws.go:1887", after := #[{ on := 18, ground := Ground.data }, { on := 15, ground := Ground.data }, { on := 19, ground := Ground.chain }, { on := 0, ground := Ground.phase }, { on := 1, ground := Ground.phase }, { on := 2, ground := Ground.phase }, { on := 3, ground := Ground.phase }, { on := 4, ground := Ground.phase }, { on := 5, ground := Ground.phase }, { on := 6, ground := Ground.phase }, { on := 7, ground := Ground.phase }, { on := 8, ground := Ground.phase }, { on := 9, ground := Ground.phase }, { on := 10, ground := Ground.phase }, { on := 11, ground := Ground.phase }, { on := 12, ground := Ground.phase }, { on := 13, ground := Ground.phase }, { on := 14, ground := Ground.phase }, { on := 15, ground := Ground.phase }, { on := 16, ground := Ground.textOnly Departure.lateStores }, { on := 17, ground := Ground.phase }, { on := 18, ground := Ground.phase }, { on := 19, ground := Ground.phase }], guard := none }) rfl (fun K hK => ?_) AllReadyH.nil)
                  refine step_store (by kernel_rfl) (by kernel_rfl) 39 (.tmp 13) (.tmp 72) (by kernel_rfl) b13 #[.int .i64 0, .int .i64 0, .int .i64 0, .int .i64 0, .int .i64 0, .slice none 0 0, .slice none 0 0] (by kernel_rfl) (by kernel_rfl) _ _ g13n.out hi7 (by rfl) (by simp [Value.oneCell']) ?_
                  have HM := hide (below_setRow HN.out k13 #[.int .i64 0, .int .i64 0, .int .i64 0, .int .i64 0, .int .i64 0, .slice none 0 0, .slice none 0 0])
                  refine hK.out _ _ (HCL.out _ HM.out) (fun hHeld => ?_)
                  clear hK K
                  try simp only [Act.put, List.setIfInBounds_toArray, List.set_cons_zero, List.set_cons_succ]
                  have g12m := hide ((setRow_other V65 b13 b12 #[.int .i64 0, .int .i64 0, .int .i64 0, .int .i64 0, .int .i64 0, .slice none 0 0, .slice none 0 0] (by omega)).trans g12n.out)
                  clear HN g12n g13n
                  generalize V65.setRow b13 #[.int .i64 0, .int .i64 0, .int .i64 0, .int .i64 0, .int .i64 0, .slice none 0 0, .slice none 0 0] = V66 at *
                  refine wpAnyH_take (i := 21) (v := ?_) rfl (by kernel_rfl) (by kernel_rfl) (by kernel_rfl) (fun _ _ _ h => h) (Or.inl ⟨by rfl, ?_⟩) (by assumption) ?_
                  rotate_left
                  · intro w' hSw
                    try dsimp only at hSw
                    go_simp; try rfl
                  simp only [List.getElem_toArray, List.getElem_cons_succ, List.getElem_cons_zero, Act.put, List.setIfInBounds_toArray, List.set_cons_zero, List.set_cons_succ]
                  refine wpAnyH_done (by kernel_rfl) ?_ _
                  go_wp2_with fail
                  go_meet
                  exact ⟨b12, rfl, (box_of g12m.out).1 0 _ rfl, (box_of g12m.out).1 2 _ rfl, rfl, HM.out⟩
                · skip
                  refine step_run (some 13) (by kernel_rfl) (by kernel_rfl) (v := .pointer (some ⟨V62.heap.size, 0, none⟩)) (w' := V62.alloc (.cells #[.int .i64 0, .int .i64 0, .int .i64 0, .int .i64 0, .int .i64 0, .slice none 0 0, .slice none 0 0] 39)) (by go_simp; try rfl) ?_
                  have HN := hide (bel_alloc HW.out (.cells #[.int .i64 0, .int .i64 0, .int .i64 0, .int .i64 0, .int .i64 0, .slice none 0 0, .slice none 0 0] 39))
                  refine hK.out _ _ (HCL.out _ HN.out) (fun hHeld => ?_)
                  clear hK K
                  simp only [Act.put, List.setIfInBounds_toArray, List.set_cons_zero, List.set_cons_succ]
                  have k13 := HW.out.size
                  have g13 : Hid ((V62.alloc (.cells #[.int .i64 0, .int .i64 0, .int .i64 0, .int .i64 0, .int .i64 0, .slice none 0 0, .slice none 0 0] 39)).heap[V62.heap.size]? = some (.cells #[.int .i64 0, .int .i64 0, .int .i64 0, .int .i64 0, .int .i64 0, .slice none 0 0, .slice none 0 0] 39 (0, 0))) := hide (heap_alloc_new V62 (.cells #[.int .i64 0, .int .i64 0, .int .i64 0, .int .i64 0, .int .i64 0, .slice none 0 0, .slice none 0 0] 39))
                  have lo := (Array.getElem?_eq_some_iff.1 g12.out).1
                  replace g12 := hide ((Below.heap_alloc V62 (.cells #[.int .i64 0, .int .i64 0, .int .i64 0, .int .i64 0, .int .i64 0, .slice none 0 0, .slice none 0 0] 39) b12 lo).trans g12.out)
                  replace HTI := hide (HTI.out.at ((Below.refl V62.heap.size V62).alloc (Nat.le_refl _) (.cells #[.int .i64 0, .int .i64 0, .int .i64 0, .int .i64 0, .int .i64 0, .slice none 0 0, .slice none 0 0] 39)))
                  clear HW
                  have HW := HN
                  clear HN
                  generalize V62.alloc (.cells #[.int .i64 0, .int .i64 0, .int .i64 0, .int .i64 0, .int .i64 0, .slice none 0 0, .slice none 0 0] 39) = V67 at *
                  generalize V62.heap.size = b13 at *
                  refine wpAnyH_ready (rs := [12]) (by kernel_rfl) (by simp) (AllReadyH.cons (o := { dst := some 70, op := Op.call { callee := Callee.value (Operand.func 10), args := #[Operand.tmp 58, Operand.tmp 69], argTypes := #[28, 22] }, type := 40, pos := "laws.go:1887", after := #[{ on := 0, ground := Ground.data }, { on := 11, ground := Ground.data }, { on := 11, ground := Ground.chain }], guard := none }) rfl (fun K hK => ?_) AllReadyH.nil)
                  refine step_callW (some 70) (by kernel_rfl) (by kernel_rfl) 10 #[.tmp 58, .tmp 69] #[28, 22] (by kernel_rfl) #[lnV rb (base + (j : Int)) (.slice ra rs.length rc), .slice ta sl.length tc] (by kernel_rfl) (arriveNo _ rb (base + (j : Int)) _ (rs.map Prod.fst) (HIN.out _ HW.out).2.2 (by simp; omega) HRG.out ta sl.length tc (turned sl (bit : Int)) HTI.out htc HNO.out) ?_
                  rintro e V68 ⟨kv, rfl, ok, bt⟩
                  obtain ⟨ka, kc, ek⟩ := ok.shape
                  generalize (rs.map Prod.fst).length = kn at ek
                  subst ek
                  clear ok HTI
                  unfold lnV
                  replace g12 := hide ((bt.block b12 (Array.getElem?_eq_some_iff.1 g12.out).1).trans g12.out)
                  replace g13 := hide ((bt.block b13 (Array.getElem?_eq_some_iff.1 g13.out).1).trans g13.out)
                  replace HW : Hid (Below wc.heap.size wc V68) := hide (HW.out.trans (bt.mono HW.out.size))
                  clear bt
                  refine ⟨_, rfl, ?_⟩
                  refine hK.out _ _ (HCL.out _ HW.out) (fun hHeld => ?_)
                  clear hK K
                  simp only [Act.put, List.setIfInBounds_toArray, List.set_cons_zero, List.set_cons_succ]
                  refine wpAnyH_take (i := 13) (v := ?_) rfl (by kernel_rfl) (by kernel_rfl) (by kernel_rfl) (fun _ _ _ h => h) (Or.inl ⟨by rfl, ?_⟩) (by assumption) ?_
                  rotate_left
                  · intro w' hSw
                    try dsimp only at hSw
                    go_simp; try rfl
                  simp only [List.getElem_toArray, List.getElem_cons_succ, List.getElem_cons_zero, Act.put, List.setIfInBounds_toArray, List.set_cons_zero, List.set_cons_succ]
                  refine wpAnyH_take (i := 14) (v := ?_) rfl (by kernel_rfl) (by kernel_rfl) (by kernel_rfl) (fun _ _ _ h => h) (Or.inl ⟨by rfl, ?_⟩) (by assumption) ?_
                  rotate_left
                  · intro w' hSw
                    try dsimp only at hSw
                    go_simp; try rfl
                  simp only [List.getElem_toArray, List.getElem_cons_succ, List.getElem_cons_zero, Act.put, List.setIfInBounds_toArray, List.set_cons_zero, List.set_cons_succ]
                  refine wpAnyH_take (i := 15) (v := ?_) rfl (by kernel_rfl) (by kernel_rfl) (by kernel_rfl) (fun _ _ _ h => h) (Or.inl ⟨by rfl, ?_⟩) (by assumption) ?_
                  rotate_left
                  · intro w' hSw
                    try dsimp only at hSw
                    go_simp; try rfl
                  simp only [List.getElem_toArray, List.getElem_cons_succ, List.getElem_cons_zero, Act.put, List.setIfInBounds_toArray, List.set_cons_zero, List.set_cons_succ]
                  refine wpAnyH_take (i := 16) (v := ?_) rfl (by kernel_rfl) (by kernel_rfl) (by kernel_rfl) (fun _ _ _ h => h) (Or.inl ⟨by rfl, ?_⟩) (by assumption) ?_
                  rotate_left
                  · intro w' hSw
                    try dsimp only at hSw
                    go_simp; try rfl
                  simp only [List.getElem_toArray, List.getElem_cons_succ, List.getElem_cons_zero, Act.put, List.setIfInBounds_toArray, List.set_cons_zero, List.set_cons_succ]
                  refine wpAnyH_ready (rs := [19]) (by kernel_rfl) (by simp) (AllReadyH.cons (o := { dst := none, op := Op.store 28 (Operand.tmp 12) (Operand.tmp 71), type := 0, pos := "laws.go:1887", after := #[{ on := 17, ground := Ground.data }, { on := 14, ground := Ground.data }, { on := 12, ground := Ground.chain }, { on := 0, ground := Ground.phase }, { on := 1, ground := Ground.phase }, { on := 2, ground := Ground.phase }, { on := 3, ground := Ground.phase }, { on := 4, ground := Ground.phase }, { on := 5, ground := Ground.phase }, { on := 6, ground := Ground.phase }, { on := 7, ground := Ground.phase }, { on := 8, ground := Ground.phase }, { on := 9, ground := Ground.phase }, { on := 10, ground := Ground.phase }, { on := 11, ground := Ground.phase }, { on := 12, ground := Ground.phase }, { on := 13, ground := Ground.phase }, { on := 14, ground := Ground.phase }, { on := 15, ground := Ground.textOnly Departure.lateStores }, { on := 16, ground := Ground.textOnly Departure.lateStores }, { on := 17, ground := Ground.phase }, { on := 18, ground := Ground.phase }], guard := none }) rfl (fun K hK => ?_) AllReadyH.nil)
                  refine step_store (by kernel_rfl) (by kernel_rfl) 28 (.tmp 12) (.tmp 71) (by kernel_rfl) b12 #[.int .i64 rb, .slice ka kn kc, .int .i64 (base + (j : Int))] (by kernel_rfl) (by kernel_rfl) _ _ g12.out hi3 (by rfl) (by simp [Value.oneCell']) ?_
                  have HN : Hid (Below wc.heap.size wc (V68.setRow b12 #[.int .i64 rb, .slice ka kn kc, .int .i64 (base + (j : Int))])) := hide (below_setRow HW.out k12 _)
                  refine hK.out _ _ (HCL.out _ HN.out) (fun hHeld => ?_)
                  clear hK K
                  try simp only [Act.put, List.setIfInBounds_toArray, List.set_cons_zero, List.set_cons_succ]
                  have g12n := hide (setRow_heap V68 b12 _ #[.int .i64 rb, .slice ka kn kc, .int .i64 (base + (j : Int))] _ _ g12.out)
                  have g13n := hide ((setRow_other V68 b12 b13 #[.int .i64 rb, .slice ka kn kc, .int .i64 (base + (j : Int))] (by omega)).trans g13.out)
                  clear HW g12 g13
                  generalize V68.setRow b12 #[.int .i64 rb, .slice ka kn kc, .int .i64 (base + (j : Int))] = V69 at *
                  refine wpAnyH_ready (rs := [20]) (by kernel_rfl) (by simp) (AllReadyH.cons (o := { dst := none, op := Op.store 39 (Operand.tmp 13) (Operand.tmp 72), type := 0, pos := "laws.go:1887", after := #[{ on := 18, ground := Ground.data }, { on := 15, ground := Ground.data }, { on := 19, ground := Ground.chain }, { on := 0, ground := Ground.phase }, { on := 1, ground := Ground.phase }, { on := 2, ground := Ground.phase }, { on := 3, ground := Ground.phase }, { on := 4, ground := Ground.phase }, { on := 5, ground := Ground.phase }, { on := 6, ground := Ground.phase }, { on := 7, ground := Ground.phase }, { on := 8, ground := Ground.phase }, { on := 9, ground := Ground.phase }, { on := 10, ground := Ground.phase }, { on := 11, ground := Ground.phase }, { on := 12, ground := Ground.phase }, { on := 13, ground := Ground.phase }, { on := 14, ground := Ground.phase }, { on := 15, ground := Ground.phase }, { on := 16, ground := Ground.textOnly Departure.lateStores }, { on := 17, ground := Ground.phase }, { on := 18, ground := Ground.phase }, { on := 19, ground := Ground.phase }], guard := none }) rfl (fun K hK => ?_) AllReadyH.nil)
                  refine step_store (by kernel_rfl) (by kernel_rfl) 39 (.tmp 13) (.tmp 72) (by kernel_rfl) b13 #[.int .i64 0, .int .i64 0, .int .i64 0, .int .i64 0, .int .i64 0, .slice none 0 0, .slice none 0 0] (by kernel_rfl) (by kernel_rfl) _ _ g13n.out hi7 (by rfl) (by simp [Value.oneCell']) ?_
                  have HM := hide (below_setRow HN.out k13 #[.int .i64 0, .int .i64 0, .int .i64 0, .int .i64 0, .int .i64 0, .slice none 0 0, .slice none 0 0])
                  refine hK.out _ _ (HCL.out _ HM.out) (fun hHeld => ?_)
                  clear hK K
                  try simp only [Act.put, List.setIfInBounds_toArray, List.set_cons_zero, List.set_cons_succ]
                  have g12m := hide ((setRow_other V69 b13 b12 #[.int .i64 0, .int .i64 0, .int .i64 0, .int .i64 0, .int .i64 0, .slice none 0 0, .slice none 0 0] (by omega)).trans g12n.out)
                  clear HN g12n g13n
                  generalize V69.setRow b13 #[.int .i64 0, .int .i64 0, .int .i64 0, .int .i64 0, .int .i64 0, .slice none 0 0, .slice none 0 0] = V70 at *
                  refine wpAnyH_take (i := 21) (v := ?_) rfl (by kernel_rfl) (by kernel_rfl) (by kernel_rfl) (fun _ _ _ h => h) (Or.inl ⟨by rfl, ?_⟩) (by assumption) ?_
                  rotate_left
                  · intro w' hSw
                    try dsimp only at hSw
                    go_simp; try rfl
                  simp only [List.getElem_toArray, List.getElem_cons_succ, List.getElem_cons_zero, Act.put, List.setIfInBounds_toArray, List.set_cons_zero, List.set_cons_succ]
                  refine wpAnyH_done (by kernel_rfl) ?_ _
                  go_wp2_with fail
                  go_meet
                  exact ⟨b12, rfl, (box_of g12m.out).1 0 _ rfl, (box_of g12m.out).1 2 _ rfl, rfl, HM.out⟩
              · skip
                refine step_run (some 13) (by kernel_rfl) (by kernel_rfl) (v := .pointer (some ⟨V60.heap.size, 0, none⟩)) (w' := V60.alloc (.cells #[.int .i64 0, .int .i64 0, .int .i64 0, .int .i64 0, .int .i64 0, .slice none 0 0, .slice none 0 0] 39)) (by go_simp; try rfl) ?_
                have HN := hide (bel_alloc HW.out (.cells #[.int .i64 0, .int .i64 0, .int .i64 0, .int .i64 0, .int .i64 0, .slice none 0 0, .slice none 0 0] 39))
                refine hK.out _ _ (HCL.out _ HN.out) (fun hHeld => ?_)
                clear hK K
                simp only [Act.put, List.setIfInBounds_toArray, List.set_cons_zero, List.set_cons_succ]
                have k13 := HW.out.size
                have g13 : Hid ((V60.alloc (.cells #[.int .i64 0, .int .i64 0, .int .i64 0, .int .i64 0, .int .i64 0, .slice none 0 0, .slice none 0 0] 39)).heap[V60.heap.size]? = some (.cells #[.int .i64 0, .int .i64 0, .int .i64 0, .int .i64 0, .int .i64 0, .slice none 0 0, .slice none 0 0] 39 (0, 0))) := hide (heap_alloc_new V60 (.cells #[.int .i64 0, .int .i64 0, .int .i64 0, .int .i64 0, .int .i64 0, .slice none 0 0, .slice none 0 0] 39))
                have lo := (Array.getElem?_eq_some_iff.1 g12.out).1
                replace g12 := hide ((Below.heap_alloc V60 (.cells #[.int .i64 0, .int .i64 0, .int .i64 0, .int .i64 0, .int .i64 0, .slice none 0 0, .slice none 0 0] 39) b12 lo).trans g12.out)
                clear HW
                have HW := HN
                clear HN
                generalize V60.alloc (.cells #[.int .i64 0, .int .i64 0, .int .i64 0, .int .i64 0, .int .i64 0, .slice none 0 0, .slice none 0 0] 39) = V71 at *
                generalize V60.heap.size = b13 at *
                refine wpAnyH_ready (rs := [11]) (by kernel_rfl) (by simp) (AllReadyH.cons (o := { dst := some 69, op := Op.call { callee := Callee.value (Operand.func 15), args := #[Operand.tmp 60, Operand.tmp 68], argTypes := #[22, 3] }, type := 22, pos := "laws.go:1887", after := #[{ on := 2, ground := Ground.data }, { on := 10, ground := Ground.data }, { on := 4, ground := Ground.chain }], guard := none }) rfl (fun K hK => ?_) AllReadyH.nil)
                refine step_callW (some 69) (by kernel_rfl) (by kernel_rfl) 15 #[.tmp 60, .tmp 68] #[22, 3] (by kernel_rfl) #[.slice a7 sl.length c7, .int .i64 (bit : Int)] (by kernel_rfl) (turnImpl _ _ _ _ sl _ (HIN.out _ HW.out).2.1 hcz ⟨by omega, hbd⟩) ?_
                rintro e V72 ⟨tv, rfl, ot, bt⟩
                obtain ⟨ta, tc, rfl⟩ := own_shape ot
                have htl : (turned sl (bit : Int)).length = sl.length := turned_len _ _
                have hti := in_slice ot (by rw [htl]; omega) (turned_byt _ _ HSB.out) (Nat.le_refl _)
                rw [htl] at hti
                rw [htl]
                have HTI := hide hti.1
                have htc := hti.2
                clear hti htl ot
                replace g12 := hide ((bt.block b12 (Array.getElem?_eq_some_iff.1 g12.out).1).trans g12.out)
                replace g13 := hide ((bt.block b13 (Array.getElem?_eq_some_iff.1 g13.out).1).trans g13.out)
                replace HW : Hid (Below wc.heap.size wc V72) := hide (HW.out.trans (bt.mono HW.out.size))
                clear bt
                refine ⟨_, rfl, ?_⟩
                refine hK.out _ _ (HCL.out _ HW.out) (fun hHeld => ?_)
                clear hK K
                simp only [Act.put, List.setIfInBounds_toArray, List.set_cons_zero, List.set_cons_succ]
                refine wpAnyH_ready (rs := [12]) (by kernel_rfl) (by simp) (AllReadyH.cons (o := { dst := some 70, op := Op.call { callee := Callee.value (Operand.func 10), args := #[Operand.tmp 58, Operand.tmp 69], argTypes := #[28, 22] }, type := 40, pos := "laws.go:1887", after := #[{ on := 0, ground := Ground.data }, { on := 11, ground := Ground.data }, { on := 11, ground := Ground.chain }], guard := none }) rfl (fun K hK => ?_) AllReadyH.nil)
                refine step_callW (some 70) (by kernel_rfl) (by kernel_rfl) 10 #[.tmp 58, .tmp 69] #[28, 22] (by kernel_rfl) #[lnV rb (base + (j : Int)) (.slice ra rs.length rc), .slice ta sl.length tc] (by kernel_rfl) (arriveNo _ rb (base + (j : Int)) _ (rs.map Prod.fst) (HIN.out _ HW.out).2.2 (by simp; omega) HRG.out ta sl.length tc (turned sl (bit : Int)) HTI.out htc HNO.out) ?_
                rintro e V73 ⟨kv, rfl, ok, bt⟩
                obtain ⟨ka, kc, ek⟩ := ok.shape
                generalize (rs.map Prod.fst).length = kn at ek
                subst ek
                clear ok HTI
                unfold lnV
                replace g12 := hide ((bt.block b12 (Array.getElem?_eq_some_iff.1 g12.out).1).trans g12.out)
                replace g13 := hide ((bt.block b13 (Array.getElem?_eq_some_iff.1 g13.out).1).trans g13.out)
                replace HW : Hid (Below wc.heap.size wc V73) := hide (HW.out.trans (bt.mono HW.out.size))
                clear bt
                refine ⟨_, rfl, ?_⟩
                refine hK.out _ _ (HCL.out _ HW.out) (fun hHeld => ?_)
                clear hK K
                simp only [Act.put, List.setIfInBounds_toArray, List.set_cons_zero, List.set_cons_succ]
                refine wpAnyH_take (i := 13) (v := ?_) rfl (by kernel_rfl) (by kernel_rfl) (by kernel_rfl) (fun _ _ _ h => h) (Or.inl ⟨by rfl, ?_⟩) (by assumption) ?_
                rotate_left
                · intro w' hSw
                  try dsimp only at hSw
                  go_simp; try rfl
                simp only [List.getElem_toArray, List.getElem_cons_succ, List.getElem_cons_zero, Act.put, List.setIfInBounds_toArray, List.set_cons_zero, List.set_cons_succ]
                refine wpAnyH_take (i := 14) (v := ?_) rfl (by kernel_rfl) (by kernel_rfl) (by kernel_rfl) (fun _ _ _ h => h) (Or.inl ⟨by rfl, ?_⟩) (by assumption) ?_
                rotate_left
                · intro w' hSw
                  try dsimp only at hSw
                  go_simp; try rfl
                simp only [List.getElem_toArray, List.getElem_cons_succ, List.getElem_cons_zero, Act.put, List.setIfInBounds_toArray, List.set_cons_zero, List.set_cons_succ]
                refine wpAnyH_take (i := 15) (v := ?_) rfl (by kernel_rfl) (by kernel_rfl) (by kernel_rfl) (fun _ _ _ h => h) (Or.inl ⟨by rfl, ?_⟩) (by assumption) ?_
                rotate_left
                · intro w' hSw
                  try dsimp only at hSw
                  go_simp; try rfl
                simp only [List.getElem_toArray, List.getElem_cons_succ, List.getElem_cons_zero, Act.put, List.setIfInBounds_toArray, List.set_cons_zero, List.set_cons_succ]
                refine wpAnyH_take (i := 16) (v := ?_) rfl (by kernel_rfl) (by kernel_rfl) (by kernel_rfl) (fun _ _ _ h => h) (Or.inl ⟨by rfl, ?_⟩) (by assumption) ?_
                rotate_left
                · intro w' hSw
                  try dsimp only at hSw
                  go_simp; try rfl
                simp only [List.getElem_toArray, List.getElem_cons_succ, List.getElem_cons_zero, Act.put, List.setIfInBounds_toArray, List.set_cons_zero, List.set_cons_succ]
                refine wpAnyH_ready (rs := [19]) (by kernel_rfl) (by simp) (AllReadyH.cons (o := { dst := none, op := Op.store 28 (Operand.tmp 12) (Operand.tmp 71), type := 0, pos := "laws.go:1887", after := #[{ on := 17, ground := Ground.data }, { on := 14, ground := Ground.data }, { on := 12, ground := Ground.chain }, { on := 0, ground := Ground.phase }, { on := 1, ground := Ground.phase }, { on := 2, ground := Ground.phase }, { on := 3, ground := Ground.phase }, { on := 4, ground := Ground.phase }, { on := 5, ground := Ground.phase }, { on := 6, ground := Ground.phase }, { on := 7, ground := Ground.phase }, { on := 8, ground := Ground.phase }, { on := 9, ground := Ground.phase }, { on := 10, ground := Ground.phase }, { on := 11, ground := Ground.phase }, { on := 12, ground := Ground.phase }, { on := 13, ground := Ground.phase }, { on := 14, ground := Ground.phase }, { on := 15, ground := Ground.textOnly Departure.lateStores }, { on := 16, ground := Ground.textOnly Departure.lateStores }, { on := 17, ground := Ground.phase }, { on := 18, ground := Ground.phase }], guard := none }) rfl (fun K hK => ?_) AllReadyH.nil)
                refine step_store (by kernel_rfl) (by kernel_rfl) 28 (.tmp 12) (.tmp 71) (by kernel_rfl) b12 #[.int .i64 rb, .slice ka kn kc, .int .i64 (base + (j : Int))] (by kernel_rfl) (by kernel_rfl) _ _ g12.out hi3 (by rfl) (by simp [Value.oneCell']) ?_
                have HN : Hid (Below wc.heap.size wc (V73.setRow b12 #[.int .i64 rb, .slice ka kn kc, .int .i64 (base + (j : Int))])) := hide (below_setRow HW.out k12 _)
                refine hK.out _ _ (HCL.out _ HN.out) (fun hHeld => ?_)
                clear hK K
                try simp only [Act.put, List.setIfInBounds_toArray, List.set_cons_zero, List.set_cons_succ]
                have g12n := hide (setRow_heap V73 b12 _ #[.int .i64 rb, .slice ka kn kc, .int .i64 (base + (j : Int))] _ _ g12.out)
                have g13n := hide ((setRow_other V73 b12 b13 #[.int .i64 rb, .slice ka kn kc, .int .i64 (base + (j : Int))] (by omega)).trans g13.out)
                clear HW g12 g13
                generalize V73.setRow b12 #[.int .i64 rb, .slice ka kn kc, .int .i64 (base + (j : Int))] = V74 at *
                refine wpAnyH_ready (rs := [20]) (by kernel_rfl) (by simp) (AllReadyH.cons (o := { dst := none, op := Op.store 39 (Operand.tmp 13) (Operand.tmp 72), type := 0, pos := "laws.go:1887", after := #[{ on := 18, ground := Ground.data }, { on := 15, ground := Ground.data }, { on := 19, ground := Ground.chain }, { on := 0, ground := Ground.phase }, { on := 1, ground := Ground.phase }, { on := 2, ground := Ground.phase }, { on := 3, ground := Ground.phase }, { on := 4, ground := Ground.phase }, { on := 5, ground := Ground.phase }, { on := 6, ground := Ground.phase }, { on := 7, ground := Ground.phase }, { on := 8, ground := Ground.phase }, { on := 9, ground := Ground.phase }, { on := 10, ground := Ground.phase }, { on := 11, ground := Ground.phase }, { on := 12, ground := Ground.phase }, { on := 13, ground := Ground.phase }, { on := 14, ground := Ground.phase }, { on := 15, ground := Ground.phase }, { on := 16, ground := Ground.textOnly Departure.lateStores }, { on := 17, ground := Ground.phase }, { on := 18, ground := Ground.phase }, { on := 19, ground := Ground.phase }], guard := none }) rfl (fun K hK => ?_) AllReadyH.nil)
                refine step_store (by kernel_rfl) (by kernel_rfl) 39 (.tmp 13) (.tmp 72) (by kernel_rfl) b13 #[.int .i64 0, .int .i64 0, .int .i64 0, .int .i64 0, .int .i64 0, .slice none 0 0, .slice none 0 0] (by kernel_rfl) (by kernel_rfl) _ _ g13n.out hi7 (by rfl) (by simp [Value.oneCell']) ?_
                have HM := hide (below_setRow HN.out k13 #[.int .i64 0, .int .i64 0, .int .i64 0, .int .i64 0, .int .i64 0, .slice none 0 0, .slice none 0 0])
                refine hK.out _ _ (HCL.out _ HM.out) (fun hHeld => ?_)
                clear hK K
                try simp only [Act.put, List.setIfInBounds_toArray, List.set_cons_zero, List.set_cons_succ]
                have g12m := hide ((setRow_other V74 b13 b12 #[.int .i64 0, .int .i64 0, .int .i64 0, .int .i64 0, .int .i64 0, .slice none 0 0, .slice none 0 0] (by omega)).trans g12n.out)
                clear HN g12n g13n
                generalize V74.setRow b13 #[.int .i64 0, .int .i64 0, .int .i64 0, .int .i64 0, .int .i64 0, .slice none 0 0, .slice none 0 0] = V75 at *
                refine wpAnyH_take (i := 21) (v := ?_) rfl (by kernel_rfl) (by kernel_rfl) (by kernel_rfl) (fun _ _ _ h => h) (Or.inl ⟨by rfl, ?_⟩) (by assumption) ?_
                rotate_left
                · intro w' hSw
                  try dsimp only at hSw
                  go_simp; try rfl
                simp only [List.getElem_toArray, List.getElem_cons_succ, List.getElem_cons_zero, Act.put, List.setIfInBounds_toArray, List.set_cons_zero, List.set_cons_succ]
                refine wpAnyH_done (by kernel_rfl) ?_ _
                go_wp2_with fail
                go_meet
                exact ⟨b12, rfl, (box_of g12m.out).1 0 _ rfl, (box_of g12m.out).1 2 _ rfl, rfl, HM.out⟩
            · skip
              refine step_run (some 13) (by kernel_rfl) (by kernel_rfl) (v := .pointer (some ⟨V60.heap.size, 0, none⟩)) (w' := V60.alloc (.cells #[.int .i64 0, .int .i64 0, .int .i64 0, .int .i64 0, .int .i64 0, .slice none 0 0, .slice none 0 0] 39)) (by go_simp; try rfl) ?_
              have HN := hide (bel_alloc HW.out (.cells #[.int .i64 0, .int .i64 0, .int .i64 0, .int .i64 0, .int .i64 0, .slice none 0 0, .slice none 0 0] 39))
              refine hK.out _ _ (HCL.out _ HN.out) (fun hHeld => ?_)
              clear hK K
              simp only [Act.put, List.setIfInBounds_toArray, List.set_cons_zero, List.set_cons_succ]
              have k13 := HW.out.size
              have g13 : Hid ((V60.alloc (.cells #[.int .i64 0, .int .i64 0, .int .i64 0, .int .i64 0, .int .i64 0, .slice none 0 0, .slice none 0 0] 39)).heap[V60.heap.size]? = some (.cells #[.int .i64 0, .int .i64 0, .int .i64 0, .int .i64 0, .int .i64 0, .slice none 0 0, .slice none 0 0] 39 (0, 0))) := hide (heap_alloc_new V60 (.cells #[.int .i64 0, .int .i64 0, .int .i64 0, .int .i64 0, .int .i64 0, .slice none 0 0, .slice none 0 0] 39))
              have lo := (Array.getElem?_eq_some_iff.1 g12.out).1
              replace g12 := hide ((Below.heap_alloc V60 (.cells #[.int .i64 0, .int .i64 0, .int .i64 0, .int .i64 0, .int .i64 0, .slice none 0 0, .slice none 0 0] 39) b12 lo).trans g12.out)
              clear HW
              have HW := HN
              clear HN
              generalize V60.alloc (.cells #[.int .i64 0, .int .i64 0, .int .i64 0, .int .i64 0, .int .i64 0, .slice none 0 0, .slice none 0 0] 39) = V76 at *
              generalize V60.heap.size = b13 at *
              refine wpAnyH_ready (rs := [4]) (by kernel_rfl) (by simp) (AllReadyH.cons (o := { dst := some 62, op := Op.call { callee := Callee.value (Operand.func 16), args := #[Operand.tmp 61, Operand.const (Value.int IntKind.i64 3)], argTypes := #[22, 3] }, type := 3, pos := "laws.go:1887", after := #[{ on := 3, ground := Ground.data }], guard := none }) rfl (fun K hK => ?_) AllReadyH.nil)
              refine step_callW (some 62) (by kernel_rfl) (by kernel_rfl) 16 #[.tmp 61, .const (.int .i64 3)] #[22, 3] (by kernel_rfl) #[.slice a0 len0 cap0, .int .i64 ((3 : Nat) : Int)] (by kernel_rfl) (atB _ _ a0 len0 cap0 zs 3 (by omega) (HIN.out _ HW.out).1) ?_
              rintro e y ⟨rfl, hy⟩
              rw [hy, HAL.out]
              clear hy y
              refine ⟨_, rfl, ?_⟩
              refine hK.out _ _ (HCL.out _ HW.out) (fun hHeld => ?_)
              clear hK K
              simp only [Act.put, List.setIfInBounds_toArray, List.set_cons_zero, List.set_cons_succ]
              refine wpAnyH_take (i := 5) (v := .int .i64 ((al : Int) * 8)) rfl (by kernel_rfl) (by kernel_rfl) (by kernel_rfl) (fun _ _ _ h => h) (Or.inl ⟨by rfl, ?_⟩) (by assumption) ?_
              · intro w' hSw
                try dsimp only at hSw
                go_simp; try rfl
              simp only [List.getElem_toArray, List.getElem_cons_succ, List.getElem_cons_zero, Act.put, List.setIfInBounds_toArray, List.set_cons_zero, List.set_cons_succ]
              refine wpAnyH_take (i := 9) (v := .int .i64 ((al : Int) * 8 * (sl.length : Int))) rfl (by kernel_rfl) (by kernel_rfl) (by kernel_rfl) (fun _ _ _ h => h) (Or.inl ⟨by rfl, ?_⟩) (by assumption) ?_
              · intro w' hSw
                try dsimp only at hSw
                go_simp; try rfl
              simp only [List.getElem_toArray, List.getElem_cons_succ, List.getElem_cons_zero, Act.put, List.setIfInBounds_toArray, List.set_cons_zero, List.set_cons_succ]
              refine wpAnyH_take (i := 10) (v := .int .i64 (bit : Int)) rfl (by kernel_rfl) (by kernel_rfl) (by kernel_rfl) (fun _ _ _ h => h) (Or.inl ⟨by rfl, ?_⟩) (by assumption) ?_
              · intro w' hSw
                try dsimp only at hSw
                go_simp; try rfl
              simp only [List.getElem_toArray, List.getElem_cons_succ, List.getElem_cons_zero, Act.put, List.setIfInBounds_toArray, List.set_cons_zero, List.set_cons_succ]
              refine wpAnyH_ready (rs := [11]) (by kernel_rfl) (by simp) (AllReadyH.cons (o := { dst := some 69, op := Op.call { callee := Callee.value (Operand.func 15), args := #[Operand.tmp 60, Operand.tmp 68], argTypes := #[22, 3] }, type := 22, pos := "laws.go:1887", after := #[{ on := 2, ground := Ground.data }, { on := 10, ground := Ground.data }, { on := 4, ground := Ground.chain }], guard := none }) rfl (fun K hK => ?_) AllReadyH.nil)
              refine step_callW (some 69) (by kernel_rfl) (by kernel_rfl) 15 #[.tmp 60, .tmp 68] #[22, 3] (by kernel_rfl) #[.slice a7 sl.length c7, .int .i64 (bit : Int)] (by kernel_rfl) (turnImpl _ _ _ _ sl _ (HIN.out _ HW.out).2.1 hcz ⟨by omega, hbd⟩) ?_
              rintro e V78 ⟨tv, rfl, ot, bt⟩
              obtain ⟨ta, tc, rfl⟩ := own_shape ot
              have htl : (turned sl (bit : Int)).length = sl.length := turned_len _ _
              have hti := in_slice ot (by rw [htl]; omega) (turned_byt _ _ HSB.out) (Nat.le_refl _)
              rw [htl] at hti
              rw [htl]
              have HTI := hide hti.1
              have htc := hti.2
              clear hti htl ot
              replace g12 := hide ((bt.block b12 (Array.getElem?_eq_some_iff.1 g12.out).1).trans g12.out)
              replace g13 := hide ((bt.block b13 (Array.getElem?_eq_some_iff.1 g13.out).1).trans g13.out)
              replace HW : Hid (Below wc.heap.size wc V78) := hide (HW.out.trans (bt.mono HW.out.size))
              clear bt
              refine ⟨_, rfl, ?_⟩
              refine hK.out _ _ (HCL.out _ HW.out) (fun hHeld => ?_)
              clear hK K
              simp only [Act.put, List.setIfInBounds_toArray, List.set_cons_zero, List.set_cons_succ]
              refine wpAnyH_ready (rs := [12]) (by kernel_rfl) (by simp) (AllReadyH.cons (o := { dst := some 70, op := Op.call { callee := Callee.value (Operand.func 10), args := #[Operand.tmp 58, Operand.tmp 69], argTypes := #[28, 22] }, type := 40, pos := "laws.go:1887", after := #[{ on := 0, ground := Ground.data }, { on := 11, ground := Ground.data }, { on := 11, ground := Ground.chain }], guard := none }) rfl (fun K hK => ?_) AllReadyH.nil)
              refine step_callW (some 70) (by kernel_rfl) (by kernel_rfl) 10 #[.tmp 58, .tmp 69] #[28, 22] (by kernel_rfl) #[lnV rb (base + (j : Int)) (.slice ra rs.length rc), .slice ta sl.length tc] (by kernel_rfl) (arriveNo _ rb (base + (j : Int)) _ (rs.map Prod.fst) (HIN.out _ HW.out).2.2 (by simp; omega) HRG.out ta sl.length tc (turned sl (bit : Int)) HTI.out htc HNO.out) ?_
              rintro e V79 ⟨kv, rfl, ok, bt⟩
              obtain ⟨ka, kc, ek⟩ := ok.shape
              generalize (rs.map Prod.fst).length = kn at ek
              subst ek
              clear ok HTI
              unfold lnV
              replace g12 := hide ((bt.block b12 (Array.getElem?_eq_some_iff.1 g12.out).1).trans g12.out)
              replace g13 := hide ((bt.block b13 (Array.getElem?_eq_some_iff.1 g13.out).1).trans g13.out)
              replace HW : Hid (Below wc.heap.size wc V79) := hide (HW.out.trans (bt.mono HW.out.size))
              clear bt
              refine ⟨_, rfl, ?_⟩
              refine hK.out _ _ (HCL.out _ HW.out) (fun hHeld => ?_)
              clear hK K
              simp only [Act.put, List.setIfInBounds_toArray, List.set_cons_zero, List.set_cons_succ]
              refine wpAnyH_take (i := 13) (v := ?_) rfl (by kernel_rfl) (by kernel_rfl) (by kernel_rfl) (fun _ _ _ h => h) (Or.inl ⟨by rfl, ?_⟩) (by assumption) ?_
              rotate_left
              · intro w' hSw
                try dsimp only at hSw
                go_simp; try rfl
              simp only [List.getElem_toArray, List.getElem_cons_succ, List.getElem_cons_zero, Act.put, List.setIfInBounds_toArray, List.set_cons_zero, List.set_cons_succ]
              refine wpAnyH_take (i := 14) (v := ?_) rfl (by kernel_rfl) (by kernel_rfl) (by kernel_rfl) (fun _ _ _ h => h) (Or.inl ⟨by rfl, ?_⟩) (by assumption) ?_
              rotate_left
              · intro w' hSw
                try dsimp only at hSw
                go_simp; try rfl
              simp only [List.getElem_toArray, List.getElem_cons_succ, List.getElem_cons_zero, Act.put, List.setIfInBounds_toArray, List.set_cons_zero, List.set_cons_succ]
              refine wpAnyH_take (i := 15) (v := ?_) rfl (by kernel_rfl) (by kernel_rfl) (by kernel_rfl) (fun _ _ _ h => h) (Or.inl ⟨by rfl, ?_⟩) (by assumption) ?_
              rotate_left
              · intro w' hSw
                try dsimp only at hSw
                go_simp; try rfl
              simp only [List.getElem_toArray, List.getElem_cons_succ, List.getElem_cons_zero, Act.put, List.setIfInBounds_toArray, List.set_cons_zero, List.set_cons_succ]
              refine wpAnyH_take (i := 16) (v := ?_) rfl (by kernel_rfl) (by kernel_rfl) (by kernel_rfl) (fun _ _ _ h => h) (Or.inl ⟨by rfl, ?_⟩) (by assumption) ?_
              rotate_left
              · intro w' hSw
                try dsimp only at hSw
                go_simp; try rfl
              simp only [List.getElem_toArray, List.getElem_cons_succ, List.getElem_cons_zero, Act.put, List.setIfInBounds_toArray, List.set_cons_zero, List.set_cons_succ]
              refine wpAnyH_ready (rs := [19]) (by kernel_rfl) (by simp) (AllReadyH.cons (o := { dst := none, op := Op.store 28 (Operand.tmp 12) (Operand.tmp 71), type := 0, pos := "laws.go:1887", after := #[{ on := 17, ground := Ground.data }, { on := 14, ground := Ground.data }, { on := 12, ground := Ground.chain }, { on := 0, ground := Ground.phase }, { on := 1, ground := Ground.phase }, { on := 2, ground := Ground.phase }, { on := 3, ground := Ground.phase }, { on := 4, ground := Ground.phase }, { on := 5, ground := Ground.phase }, { on := 6, ground := Ground.phase }, { on := 7, ground := Ground.phase }, { on := 8, ground := Ground.phase }, { on := 9, ground := Ground.phase }, { on := 10, ground := Ground.phase }, { on := 11, ground := Ground.phase }, { on := 12, ground := Ground.phase }, { on := 13, ground := Ground.phase }, { on := 14, ground := Ground.phase }, { on := 15, ground := Ground.textOnly Departure.lateStores }, { on := 16, ground := Ground.textOnly Departure.lateStores }, { on := 17, ground := Ground.phase }, { on := 18, ground := Ground.phase }], guard := none }) rfl (fun K hK => ?_) AllReadyH.nil)
              refine step_store (by kernel_rfl) (by kernel_rfl) 28 (.tmp 12) (.tmp 71) (by kernel_rfl) b12 #[.int .i64 rb, .slice ka kn kc, .int .i64 (base + (j : Int))] (by kernel_rfl) (by kernel_rfl) _ _ g12.out hi3 (by rfl) (by simp [Value.oneCell']) ?_
              have HN : Hid (Below wc.heap.size wc (V79.setRow b12 #[.int .i64 rb, .slice ka kn kc, .int .i64 (base + (j : Int))])) := hide (below_setRow HW.out k12 _)
              refine hK.out _ _ (HCL.out _ HN.out) (fun hHeld => ?_)
              clear hK K
              try simp only [Act.put, List.setIfInBounds_toArray, List.set_cons_zero, List.set_cons_succ]
              have g12n := hide (setRow_heap V79 b12 _ #[.int .i64 rb, .slice ka kn kc, .int .i64 (base + (j : Int))] _ _ g12.out)
              have g13n := hide ((setRow_other V79 b12 b13 #[.int .i64 rb, .slice ka kn kc, .int .i64 (base + (j : Int))] (by omega)).trans g13.out)
              clear HW g12 g13
              generalize V79.setRow b12 #[.int .i64 rb, .slice ka kn kc, .int .i64 (base + (j : Int))] = V80 at *
              refine wpAnyH_ready (rs := [20]) (by kernel_rfl) (by simp) (AllReadyH.cons (o := { dst := none, op := Op.store 39 (Operand.tmp 13) (Operand.tmp 72), type := 0, pos := "laws.go:1887", after := #[{ on := 18, ground := Ground.data }, { on := 15, ground := Ground.data }, { on := 19, ground := Ground.chain }, { on := 0, ground := Ground.phase }, { on := 1, ground := Ground.phase }, { on := 2, ground := Ground.phase }, { on := 3, ground := Ground.phase }, { on := 4, ground := Ground.phase }, { on := 5, ground := Ground.phase }, { on := 6, ground := Ground.phase }, { on := 7, ground := Ground.phase }, { on := 8, ground := Ground.phase }, { on := 9, ground := Ground.phase }, { on := 10, ground := Ground.phase }, { on := 11, ground := Ground.phase }, { on := 12, ground := Ground.phase }, { on := 13, ground := Ground.phase }, { on := 14, ground := Ground.phase }, { on := 15, ground := Ground.phase }, { on := 16, ground := Ground.textOnly Departure.lateStores }, { on := 17, ground := Ground.phase }, { on := 18, ground := Ground.phase }, { on := 19, ground := Ground.phase }], guard := none }) rfl (fun K hK => ?_) AllReadyH.nil)
              refine step_store (by kernel_rfl) (by kernel_rfl) 39 (.tmp 13) (.tmp 72) (by kernel_rfl) b13 #[.int .i64 0, .int .i64 0, .int .i64 0, .int .i64 0, .int .i64 0, .slice none 0 0, .slice none 0 0] (by kernel_rfl) (by kernel_rfl) _ _ g13n.out hi7 (by rfl) (by simp [Value.oneCell']) ?_
              have HM := hide (below_setRow HN.out k13 #[.int .i64 0, .int .i64 0, .int .i64 0, .int .i64 0, .int .i64 0, .slice none 0 0, .slice none 0 0])
              refine hK.out _ _ (HCL.out _ HM.out) (fun hHeld => ?_)
              clear hK K
              try simp only [Act.put, List.setIfInBounds_toArray, List.set_cons_zero, List.set_cons_succ]
              have g12m := hide ((setRow_other V80 b13 b12 #[.int .i64 0, .int .i64 0, .int .i64 0, .int .i64 0, .int .i64 0, .slice none 0 0, .slice none 0 0] (by omega)).trans g12n.out)
              clear HN g12n g13n
              generalize V80.setRow b13 #[.int .i64 0, .int .i64 0, .int .i64 0, .int .i64 0, .int .i64 0, .slice none 0 0, .slice none 0 0] = V81 at *
              refine wpAnyH_take (i := 21) (v := ?_) rfl (by kernel_rfl) (by kernel_rfl) (by kernel_rfl) (fun _ _ _ h => h) (Or.inl ⟨by rfl, ?_⟩) (by assumption) ?_
              rotate_left
              · intro w' hSw
                try dsimp only at hSw
                go_simp; try rfl
              simp only [List.getElem_toArray, List.getElem_cons_succ, List.getElem_cons_zero, Act.put, List.setIfInBounds_toArray, List.set_cons_zero, List.set_cons_succ]
              refine wpAnyH_done (by kernel_rfl) ?_ _
              go_wp2_with fail
              go_meet
              exact ⟨b12, rfl, (box_of g12m.out).1 0 _ rfl, (box_of g12m.out).1 2 _ rfl, rfl, HM.out⟩
          · skip
            refine step_run (some 13) (by kernel_rfl) (by kernel_rfl) (v := .pointer (some ⟨V0.heap.size, 0, none⟩)) (w' := V0.alloc (.cells #[.int .i64 0, .int .i64 0, .int .i64 0, .int .i64 0, .int .i64 0, .slice none 0 0, .slice none 0 0] 39)) (by go_simp; try rfl) ?_
            have HN := hide (bel_alloc HW.out (.cells #[.int .i64 0, .int .i64 0, .int .i64 0, .int .i64 0, .int .i64 0, .slice none 0 0, .slice none 0 0] 39))
            refine hK.out _ _ (HCL.out _ HN.out) (fun hHeld => ?_)
            clear hK K
            simp only [Act.put, List.setIfInBounds_toArray, List.set_cons_zero, List.set_cons_succ]
            have k13 := HW.out.size
            have g13 : Hid ((V0.alloc (.cells #[.int .i64 0, .int .i64 0, .int .i64 0, .int .i64 0, .int .i64 0, .slice none 0 0, .slice none 0 0] 39)).heap[V0.heap.size]? = some (.cells #[.int .i64 0, .int .i64 0, .int .i64 0, .int .i64 0, .int .i64 0, .slice none 0 0, .slice none 0 0] 39 (0, 0))) := hide (heap_alloc_new V0 (.cells #[.int .i64 0, .int .i64 0, .int .i64 0, .int .i64 0, .int .i64 0, .slice none 0 0, .slice none 0 0] 39))
            clear HW
            have HW := HN
            clear HN
            generalize V0.alloc (.cells #[.int .i64 0, .int .i64 0, .int .i64 0, .int .i64 0, .int .i64 0, .slice none 0 0, .slice none 0 0] 39) = V82 at *
            generalize V0.heap.size = b13 at *
            refine wpAnyH_ready (rs := [4, 17]) (by kernel_rfl) (by simp) (AllReadyH.cons (o := { dst := some 62, op := Op.call { callee := Callee.value (Operand.func 16), args := #[Operand.tmp 61, Operand.const (Value.int IntKind.i64 3)], argTypes := #[22, 3] }, type := 3, pos := "laws.go:1887", after := #[{ on := 3, ground := Ground.data }], guard := none }) rfl (fun K hK => ?_) (AllReadyH.cons (o := { dst := some 12, op := Op.alloc 28, type := 0, pos := "laws.go:1887", after := #[], guard := none }) rfl (fun K hK => ?_) AllReadyH.nil))
            · skip
              refine step_callW (some 62) (by kernel_rfl) (by kernel_rfl) 16 #[.tmp 61, .const (.int .i64 3)] #[22, 3] (by kernel_rfl) #[.slice a0 len0 cap0, .int .i64 ((3 : Nat) : Int)] (by kernel_rfl) (atB _ _ a0 len0 cap0 zs 3 (by omega) (HIN.out _ HW.out).1) ?_
              rintro e y ⟨rfl, hy⟩
              rw [hy, HAL.out]
              clear hy y
              refine ⟨_, rfl, ?_⟩
              refine hK.out _ _ (HCL.out _ HW.out) (fun hHeld => ?_)
              clear hK K
              simp only [Act.put, List.setIfInBounds_toArray, List.set_cons_zero, List.set_cons_succ]
              refine wpAnyH_take (i := 5) (v := .int .i64 ((al : Int) * 8)) rfl (by kernel_rfl) (by kernel_rfl) (by kernel_rfl) (fun _ _ _ h => h) (Or.inl ⟨by rfl, ?_⟩) (by assumption) ?_
              · intro w' hSw
                try dsimp only at hSw
                go_simp; try rfl
              simp only [List.getElem_toArray, List.getElem_cons_succ, List.getElem_cons_zero, Act.put, List.setIfInBounds_toArray, List.set_cons_zero, List.set_cons_succ]
              refine wpAnyH_take (i := 9) (v := .int .i64 ((al : Int) * 8 * (sl.length : Int))) rfl (by kernel_rfl) (by kernel_rfl) (by kernel_rfl) (fun _ _ _ h => h) (Or.inl ⟨by rfl, ?_⟩) (by assumption) ?_
              · intro w' hSw
                try dsimp only at hSw
                go_simp; try rfl
              simp only [List.getElem_toArray, List.getElem_cons_succ, List.getElem_cons_zero, Act.put, List.setIfInBounds_toArray, List.set_cons_zero, List.set_cons_succ]
              refine wpAnyH_take (i := 10) (v := .int .i64 (bit : Int)) rfl (by kernel_rfl) (by kernel_rfl) (by kernel_rfl) (fun _ _ _ h => h) (Or.inl ⟨by rfl, ?_⟩) (by assumption) ?_
              · intro w' hSw
                try dsimp only at hSw
                go_simp; try rfl
              simp only [List.getElem_toArray, List.getElem_cons_succ, List.getElem_cons_zero, Act.put, List.setIfInBounds_toArray, List.set_cons_zero, List.set_cons_succ]
              refine wpAnyH_ready (rs := [11, 17]) (by kernel_rfl) (by simp) (AllReadyH.cons (o := { dst := some 69, op := Op.call { callee := Callee.value (Operand.func 15), args := #[Operand.tmp 60, Operand.tmp 68], argTypes := #[22, 3] }, type := 22, pos := "laws.go:1887", after := #[{ on := 2, ground := Ground.data }, { on := 10, ground := Ground.data }, { on := 4, ground := Ground.chain }], guard := none }) rfl (fun K hK => ?_) (AllReadyH.cons (o := { dst := some 12, op := Op.alloc 28, type := 0, pos := "laws.go:1887", after := #[], guard := none }) rfl (fun K hK => ?_) AllReadyH.nil))
              · skip
                refine step_callW (some 69) (by kernel_rfl) (by kernel_rfl) 15 #[.tmp 60, .tmp 68] #[22, 3] (by kernel_rfl) #[.slice a7 sl.length c7, .int .i64 (bit : Int)] (by kernel_rfl) (turnImpl _ _ _ _ sl _ (HIN.out _ HW.out).2.1 hcz ⟨by omega, hbd⟩) ?_
                rintro e V84 ⟨tv, rfl, ot, bt⟩
                obtain ⟨ta, tc, rfl⟩ := own_shape ot
                have htl : (turned sl (bit : Int)).length = sl.length := turned_len _ _
                have hti := in_slice ot (by rw [htl]; omega) (turned_byt _ _ HSB.out) (Nat.le_refl _)
                rw [htl] at hti
                rw [htl]
                have HTI := hide hti.1
                have htc := hti.2
                clear hti htl ot
                replace g13 := hide ((bt.block b13 (Array.getElem?_eq_some_iff.1 g13.out).1).trans g13.out)
                replace HW : Hid (Below wc.heap.size wc V84) := hide (HW.out.trans (bt.mono HW.out.size))
                clear bt
                refine ⟨_, rfl, ?_⟩
                refine hK.out _ _ (HCL.out _ HW.out) (fun hHeld => ?_)
                clear hK K
                simp only [Act.put, List.setIfInBounds_toArray, List.set_cons_zero, List.set_cons_succ]
                refine wpAnyH_ready (rs := [12, 17]) (by kernel_rfl) (by simp) (AllReadyH.cons (o := { dst := some 70, op := Op.call { callee := Callee.value (Operand.func 10), args := #[Operand.tmp 58, Operand.tmp 69], argTypes := #[28, 22] }, type := 40, pos := "laws.go:1887", after := #[{ on := 0, ground := Ground.data }, { on := 11, ground := Ground.data }, { on := 11, ground := Ground.chain }], guard := none }) rfl (fun K hK => ?_) (AllReadyH.cons (o := { dst := some 12, op := Op.alloc 28, type := 0, pos := "laws.go:1887", after := #[], guard := none }) rfl (fun K hK => ?_) AllReadyH.nil))
                · skip
                  refine step_callW (some 70) (by kernel_rfl) (by kernel_rfl) 10 #[.tmp 58, .tmp 69] #[28, 22] (by kernel_rfl) #[lnV rb (base + (j : Int)) (.slice ra rs.length rc), .slice ta sl.length tc] (by kernel_rfl) (arriveNo _ rb (base + (j : Int)) _ (rs.map Prod.fst) (HIN.out _ HW.out).2.2 (by simp; omega) HRG.out ta sl.length tc (turned sl (bit : Int)) HTI.out htc HNO.out) ?_
                  rintro e V85 ⟨kv, rfl, ok, bt⟩
                  obtain ⟨ka, kc, ek⟩ := ok.shape
                  generalize (rs.map Prod.fst).length = kn at ek
                  subst ek
                  clear ok HTI
                  unfold lnV
                  replace g13 := hide ((bt.block b13 (Array.getElem?_eq_some_iff.1 g13.out).1).trans g13.out)
                  replace HW : Hid (Below wc.heap.size wc V85) := hide (HW.out.trans (bt.mono HW.out.size))
                  clear bt
                  refine ⟨_, rfl, ?_⟩
                  refine hK.out _ _ (HCL.out _ HW.out) (fun hHeld => ?_)
                  clear hK K
                  simp only [Act.put, List.setIfInBounds_toArray, List.set_cons_zero, List.set_cons_succ]
                  refine wpAnyH_take (i := 13) (v := ?_) rfl (by kernel_rfl) (by kernel_rfl) (by kernel_rfl) (fun _ _ _ h => h) (Or.inl ⟨by rfl, ?_⟩) (by assumption) ?_
                  rotate_left
                  · intro w' hSw
                    try dsimp only at hSw
                    go_simp; try rfl
                  simp only [List.getElem_toArray, List.getElem_cons_succ, List.getElem_cons_zero, Act.put, List.setIfInBounds_toArray, List.set_cons_zero, List.set_cons_succ]
                  refine wpAnyH_take (i := 14) (v := ?_) rfl (by kernel_rfl) (by kernel_rfl) (by kernel_rfl) (fun _ _ _ h => h) (Or.inl ⟨by rfl, ?_⟩) (by assumption) ?_
                  rotate_left
                  · intro w' hSw
                    try dsimp only at hSw
                    go_simp; try rfl
                  simp only [List.getElem_toArray, List.getElem_cons_succ, List.getElem_cons_zero, Act.put, List.setIfInBounds_toArray, List.set_cons_zero, List.set_cons_succ]
                  refine wpAnyH_take (i := 15) (v := ?_) rfl (by kernel_rfl) (by kernel_rfl) (by kernel_rfl) (fun _ _ _ h => h) (Or.inl ⟨by rfl, ?_⟩) (by assumption) ?_
                  rotate_left
                  · intro w' hSw
                    try dsimp only at hSw
                    go_simp; try rfl
                  simp only [List.getElem_toArray, List.getElem_cons_succ, List.getElem_cons_zero, Act.put, List.setIfInBounds_toArray, List.set_cons_zero, List.set_cons_succ]
                  refine wpAnyH_take (i := 16) (v := ?_) rfl (by kernel_rfl) (by kernel_rfl) (by kernel_rfl) (fun _ _ _ h => h) (Or.inl ⟨by rfl, ?_⟩) (by assumption) ?_
                  rotate_left
                  · intro w' hSw
                    try dsimp only at hSw
                    go_simp; try rfl
                  simp only [List.getElem_toArray, List.getElem_cons_succ, List.getElem_cons_zero, Act.put, List.setIfInBounds_toArray, List.set_cons_zero, List.set_cons_succ]
                  refine wpAnyH_ready (rs := [17]) (by kernel_rfl) (by simp) (AllReadyH.cons (o := { dst := some 12, op := Op.alloc 28, type := 0, pos := "laws.go:1887", after := #[], guard := none }) rfl (fun K hK => ?_) AllReadyH.nil)
                  refine step_run (some 12) (by kernel_rfl) (by kernel_rfl) (v := .pointer (some ⟨V85.heap.size, 0, none⟩)) (w' := V85.alloc (.cells #[.int .i64 0, .slice none 0 0, .int .i64 0] 28)) (by go_simp; try rfl) ?_
                  have HN := hide (bel_alloc HW.out (.cells #[.int .i64 0, .slice none 0 0, .int .i64 0] 28))
                  refine hK.out _ _ (HCL.out _ HN.out) (fun hHeld => ?_)
                  clear hK K
                  simp only [Act.put, List.setIfInBounds_toArray, List.set_cons_zero, List.set_cons_succ]
                  have k12 := HW.out.size
                  have g12 : Hid ((V85.alloc (.cells #[.int .i64 0, .slice none 0 0, .int .i64 0] 28)).heap[V85.heap.size]? = some (.cells #[.int .i64 0, .slice none 0 0, .int .i64 0] 28 (0, 0))) := hide (heap_alloc_new V85 (.cells #[.int .i64 0, .slice none 0 0, .int .i64 0] 28))
                  have lo := (Array.getElem?_eq_some_iff.1 g13.out).1
                  replace g13 := hide ((Below.heap_alloc V85 (.cells #[.int .i64 0, .slice none 0 0, .int .i64 0] 28) b13 lo).trans g13.out)
                  clear HW
                  have HW := HN
                  clear HN
                  generalize V85.alloc (.cells #[.int .i64 0, .slice none 0 0, .int .i64 0] 28) = V86 at *
                  generalize V85.heap.size = b12 at *
                  refine wpAnyH_ready (rs := [19]) (by kernel_rfl) (by simp) (AllReadyH.cons (o := { dst := none, op := Op.store 28 (Operand.tmp 12) (Operand.tmp 71), type := 0, pos := "laws.go:1887", after := #[{ on := 17, ground := Ground.data }, { on := 14, ground := Ground.data }, { on := 12, ground := Ground.chain }, { on := 0, ground := Ground.phase }, { on := 1, ground := Ground.phase }, { on := 2, ground := Ground.phase }, { on := 3, ground := Ground.phase }, { on := 4, ground := Ground.phase }, { on := 5, ground := Ground.phase }, { on := 6, ground := Ground.phase }, { on := 7, ground := Ground.phase }, { on := 8, ground := Ground.phase }, { on := 9, ground := Ground.phase }, { on := 10, ground := Ground.phase }, { on := 11, ground := Ground.phase }, { on := 12, ground := Ground.phase }, { on := 13, ground := Ground.phase }, { on := 14, ground := Ground.phase }, { on := 15, ground := Ground.textOnly Departure.lateStores }, { on := 16, ground := Ground.textOnly Departure.lateStores }, { on := 17, ground := Ground.phase }, { on := 18, ground := Ground.phase }], guard := none }) rfl (fun K hK => ?_) AllReadyH.nil)
                  refine step_store (by kernel_rfl) (by kernel_rfl) 28 (.tmp 12) (.tmp 71) (by kernel_rfl) b12 #[.int .i64 rb, .slice ka kn kc, .int .i64 (base + (j : Int))] (by kernel_rfl) (by kernel_rfl) _ _ g12.out hi3 (by rfl) (by simp [Value.oneCell']) ?_
                  have HN : Hid (Below wc.heap.size wc (V86.setRow b12 #[.int .i64 rb, .slice ka kn kc, .int .i64 (base + (j : Int))])) := hide (below_setRow HW.out k12 _)
                  refine hK.out _ _ (HCL.out _ HN.out) (fun hHeld => ?_)
                  clear hK K
                  try simp only [Act.put, List.setIfInBounds_toArray, List.set_cons_zero, List.set_cons_succ]
                  have g12n := hide (setRow_heap V86 b12 _ #[.int .i64 rb, .slice ka kn kc, .int .i64 (base + (j : Int))] _ _ g12.out)
                  have g13n := hide ((setRow_other V86 b12 b13 #[.int .i64 rb, .slice ka kn kc, .int .i64 (base + (j : Int))] (by omega)).trans g13.out)
                  clear HW g12 g13
                  generalize V86.setRow b12 #[.int .i64 rb, .slice ka kn kc, .int .i64 (base + (j : Int))] = V87 at *
                  refine wpAnyH_ready (rs := [20]) (by kernel_rfl) (by simp) (AllReadyH.cons (o := { dst := none, op := Op.store 39 (Operand.tmp 13) (Operand.tmp 72), type := 0, pos := "laws.go:1887", after := #[{ on := 18, ground := Ground.data }, { on := 15, ground := Ground.data }, { on := 19, ground := Ground.chain }, { on := 0, ground := Ground.phase }, { on := 1, ground := Ground.phase }, { on := 2, ground := Ground.phase }, { on := 3, ground := Ground.phase }, { on := 4, ground := Ground.phase }, { on := 5, ground := Ground.phase }, { on := 6, ground := Ground.phase }, { on := 7, ground := Ground.phase }, { on := 8, ground := Ground.phase }, { on := 9, ground := Ground.phase }, { on := 10, ground := Ground.phase }, { on := 11, ground := Ground.phase }, { on := 12, ground := Ground.phase }, { on := 13, ground := Ground.phase }, { on := 14, ground := Ground.phase }, { on := 15, ground := Ground.phase }, { on := 16, ground := Ground.textOnly Departure.lateStores }, { on := 17, ground := Ground.phase }, { on := 18, ground := Ground.phase }, { on := 19, ground := Ground.phase }], guard := none }) rfl (fun K hK => ?_) AllReadyH.nil)
                  refine step_store (by kernel_rfl) (by kernel_rfl) 39 (.tmp 13) (.tmp 72) (by kernel_rfl) b13 #[.int .i64 0, .int .i64 0, .int .i64 0, .int .i64 0, .int .i64 0, .slice none 0 0, .slice none 0 0] (by kernel_rfl) (by kernel_rfl) _ _ g13n.out hi7 (by rfl) (by simp [Value.oneCell']) ?_
                  have HM := hide (below_setRow HN.out k13 #[.int .i64 0, .int .i64 0, .int .i64 0, .int .i64 0, .int .i64 0, .slice none 0 0, .slice none 0 0])
                  refine hK.out _ _ (HCL.out _ HM.out) (fun hHeld => ?_)
                  clear hK K
                  try simp only [Act.put, List.setIfInBounds_toArray, List.set_cons_zero, List.set_cons_succ]
                  have g12m := hide ((setRow_other V87 b13 b12 #[.int .i64 0, .int .i64 0, .int .i64 0, .int .i64 0, .int .i64 0, .slice none 0 0, .slice none 0 0] (by omega)).trans g12n.out)
                  clear HN g12n g13n
                  generalize V87.setRow b13 #[.int .i64 0, .int .i64 0, .int .i64 0, .int .i64 0, .int .i64 0, .slice none 0 0, .slice none 0 0] = V88 at *
                  refine wpAnyH_take (i := 21) (v := ?_) rfl (by kernel_rfl) (by kernel_rfl) (by kernel_rfl) (fun _ _ _ h => h) (Or.inl ⟨by rfl, ?_⟩) (by assumption) ?_
                  rotate_left
                  · intro w' hSw
                    try dsimp only at hSw
                    go_simp; try rfl
                  simp only [List.getElem_toArray, List.getElem_cons_succ, List.getElem_cons_zero, Act.put, List.setIfInBounds_toArray, List.set_cons_zero, List.set_cons_succ]
                  refine wpAnyH_done (by kernel_rfl) ?_ _
                  go_wp2_with fail
                  go_meet
                  exact ⟨b12, rfl, (box_of g12m.out).1 0 _ rfl, (box_of g12m.out).1 2 _ rfl, rfl, HM.out⟩
                · skip
                  refine step_run (some 12) (by kernel_rfl) (by kernel_rfl) (v := .pointer (some ⟨V84.heap.size, 0, none⟩)) (w' := V84.alloc (.cells #[.int .i64 0, .slice none 0 0, .int .i64 0] 28)) (by go_simp; try rfl) ?_
                  have HN := hide (bel_alloc HW.out (.cells #[.int .i64 0, .slice none 0 0, .int .i64 0] 28))
                  refine hK.out _ _ (HCL.out _ HN.out) (fun hHeld => ?_)
                  clear hK K
                  simp only [Act.put, List.setIfInBounds_toArray, List.set_cons_zero, List.set_cons_succ]
                  have k12 := HW.out.size
                  have g12 : Hid ((V84.alloc (.cells #[.int .i64 0, .slice none 0 0, .int .i64 0] 28)).heap[V84.heap.size]? = some (.cells #[.int .i64 0, .slice none 0 0, .int .i64 0] 28 (0, 0))) := hide (heap_alloc_new V84 (.cells #[.int .i64 0, .slice none 0 0, .int .i64 0] 28))
                  have lo := (Array.getElem?_eq_some_iff.1 g13.out).1
                  replace g13 := hide ((Below.heap_alloc V84 (.cells #[.int .i64 0, .slice none 0 0, .int .i64 0] 28) b13 lo).trans g13.out)
                  replace HTI := hide (HTI.out.at ((Below.refl V84.heap.size V84).alloc (Nat.le_refl _) (.cells #[.int .i64 0, .slice none 0 0, .int .i64 0] 28)))
                  clear HW
                  have HW := HN
                  clear HN
                  generalize V84.alloc (.cells #[.int .i64 0, .slice none 0 0, .int .i64 0] 28) = V89 at *
                  generalize V84.heap.size = b12 at *
                  refine wpAnyH_ready (rs := [12]) (by kernel_rfl) (by simp) (AllReadyH.cons (o := { dst := some 70, op := Op.call { callee := Callee.value (Operand.func 10), args := #[Operand.tmp 58, Operand.tmp 69], argTypes := #[28, 22] }, type := 40, pos := "laws.go:1887", after := #[{ on := 0, ground := Ground.data }, { on := 11, ground := Ground.data }, { on := 11, ground := Ground.chain }], guard := none }) rfl (fun K hK => ?_) AllReadyH.nil)
                  refine step_callW (some 70) (by kernel_rfl) (by kernel_rfl) 10 #[.tmp 58, .tmp 69] #[28, 22] (by kernel_rfl) #[lnV rb (base + (j : Int)) (.slice ra rs.length rc), .slice ta sl.length tc] (by kernel_rfl) (arriveNo _ rb (base + (j : Int)) _ (rs.map Prod.fst) (HIN.out _ HW.out).2.2 (by simp; omega) HRG.out ta sl.length tc (turned sl (bit : Int)) HTI.out htc HNO.out) ?_
                  rintro e V90 ⟨kv, rfl, ok, bt⟩
                  obtain ⟨ka, kc, ek⟩ := ok.shape
                  generalize (rs.map Prod.fst).length = kn at ek
                  subst ek
                  clear ok HTI
                  unfold lnV
                  replace g12 := hide ((bt.block b12 (Array.getElem?_eq_some_iff.1 g12.out).1).trans g12.out)
                  replace g13 := hide ((bt.block b13 (Array.getElem?_eq_some_iff.1 g13.out).1).trans g13.out)
                  replace HW : Hid (Below wc.heap.size wc V90) := hide (HW.out.trans (bt.mono HW.out.size))
                  clear bt
                  refine ⟨_, rfl, ?_⟩
                  refine hK.out _ _ (HCL.out _ HW.out) (fun hHeld => ?_)
                  clear hK K
                  simp only [Act.put, List.setIfInBounds_toArray, List.set_cons_zero, List.set_cons_succ]
                  refine wpAnyH_take (i := 13) (v := ?_) rfl (by kernel_rfl) (by kernel_rfl) (by kernel_rfl) (fun _ _ _ h => h) (Or.inl ⟨by rfl, ?_⟩) (by assumption) ?_
                  rotate_left
                  · intro w' hSw
                    try dsimp only at hSw
                    go_simp; try rfl
                  simp only [List.getElem_toArray, List.getElem_cons_succ, List.getElem_cons_zero, Act.put, List.setIfInBounds_toArray, List.set_cons_zero, List.set_cons_succ]
                  refine wpAnyH_take (i := 14) (v := ?_) rfl (by kernel_rfl) (by kernel_rfl) (by kernel_rfl) (fun _ _ _ h => h) (Or.inl ⟨by rfl, ?_⟩) (by assumption) ?_
                  rotate_left
                  · intro w' hSw
                    try dsimp only at hSw
                    go_simp; try rfl
                  simp only [List.getElem_toArray, List.getElem_cons_succ, List.getElem_cons_zero, Act.put, List.setIfInBounds_toArray, List.set_cons_zero, List.set_cons_succ]
                  refine wpAnyH_take (i := 15) (v := ?_) rfl (by kernel_rfl) (by kernel_rfl) (by kernel_rfl) (fun _ _ _ h => h) (Or.inl ⟨by rfl, ?_⟩) (by assumption) ?_
                  rotate_left
                  · intro w' hSw
                    try dsimp only at hSw
                    go_simp; try rfl
                  simp only [List.getElem_toArray, List.getElem_cons_succ, List.getElem_cons_zero, Act.put, List.setIfInBounds_toArray, List.set_cons_zero, List.set_cons_succ]
                  refine wpAnyH_take (i := 16) (v := ?_) rfl (by kernel_rfl) (by kernel_rfl) (by kernel_rfl) (fun _ _ _ h => h) (Or.inl ⟨by rfl, ?_⟩) (by assumption) ?_
                  rotate_left
                  · intro w' hSw
                    try dsimp only at hSw
                    go_simp; try rfl
                  simp only [List.getElem_toArray, List.getElem_cons_succ, List.getElem_cons_zero, Act.put, List.setIfInBounds_toArray, List.set_cons_zero, List.set_cons_succ]
                  refine wpAnyH_ready (rs := [19]) (by kernel_rfl) (by simp) (AllReadyH.cons (o := { dst := none, op := Op.store 28 (Operand.tmp 12) (Operand.tmp 71), type := 0, pos := "laws.go:1887", after := #[{ on := 17, ground := Ground.data }, { on := 14, ground := Ground.data }, { on := 12, ground := Ground.chain }, { on := 0, ground := Ground.phase }, { on := 1, ground := Ground.phase }, { on := 2, ground := Ground.phase }, { on := 3, ground := Ground.phase }, { on := 4, ground := Ground.phase }, { on := 5, ground := Ground.phase }, { on := 6, ground := Ground.phase }, { on := 7, ground := Ground.phase }, { on := 8, ground := Ground.phase }, { on := 9, ground := Ground.phase }, { on := 10, ground := Ground.phase }, { on := 11, ground := Ground.phase }, { on := 12, ground := Ground.phase }, { on := 13, ground := Ground.phase }, { on := 14, ground := Ground.phase }, { on := 15, ground := Ground.textOnly Departure.lateStores }, { on := 16, ground := Ground.textOnly Departure.lateStores }, { on := 17, ground := Ground.phase }, { on := 18, ground := Ground.phase }], guard := none }) rfl (fun K hK => ?_) AllReadyH.nil)
                  refine step_store (by kernel_rfl) (by kernel_rfl) 28 (.tmp 12) (.tmp 71) (by kernel_rfl) b12 #[.int .i64 rb, .slice ka kn kc, .int .i64 (base + (j : Int))] (by kernel_rfl) (by kernel_rfl) _ _ g12.out hi3 (by rfl) (by simp [Value.oneCell']) ?_
                  have HN : Hid (Below wc.heap.size wc (V90.setRow b12 #[.int .i64 rb, .slice ka kn kc, .int .i64 (base + (j : Int))])) := hide (below_setRow HW.out k12 _)
                  refine hK.out _ _ (HCL.out _ HN.out) (fun hHeld => ?_)
                  clear hK K
                  try simp only [Act.put, List.setIfInBounds_toArray, List.set_cons_zero, List.set_cons_succ]
                  have g12n := hide (setRow_heap V90 b12 _ #[.int .i64 rb, .slice ka kn kc, .int .i64 (base + (j : Int))] _ _ g12.out)
                  have g13n := hide ((setRow_other V90 b12 b13 #[.int .i64 rb, .slice ka kn kc, .int .i64 (base + (j : Int))] (by omega)).trans g13.out)
                  clear HW g12 g13
                  generalize V90.setRow b12 #[.int .i64 rb, .slice ka kn kc, .int .i64 (base + (j : Int))] = V91 at *
                  refine wpAnyH_ready (rs := [20]) (by kernel_rfl) (by simp) (AllReadyH.cons (o := { dst := none, op := Op.store 39 (Operand.tmp 13) (Operand.tmp 72), type := 0, pos := "laws.go:1887", after := #[{ on := 18, ground := Ground.data }, { on := 15, ground := Ground.data }, { on := 19, ground := Ground.chain }, { on := 0, ground := Ground.phase }, { on := 1, ground := Ground.phase }, { on := 2, ground := Ground.phase }, { on := 3, ground := Ground.phase }, { on := 4, ground := Ground.phase }, { on := 5, ground := Ground.phase }, { on := 6, ground := Ground.phase }, { on := 7, ground := Ground.phase }, { on := 8, ground := Ground.phase }, { on := 9, ground := Ground.phase }, { on := 10, ground := Ground.phase }, { on := 11, ground := Ground.phase }, { on := 12, ground := Ground.phase }, { on := 13, ground := Ground.phase }, { on := 14, ground := Ground.phase }, { on := 15, ground := Ground.phase }, { on := 16, ground := Ground.textOnly Departure.lateStores }, { on := 17, ground := Ground.phase }, { on := 18, ground := Ground.phase }, { on := 19, ground := Ground.phase }], guard := none }) rfl (fun K hK => ?_) AllReadyH.nil)
                  refine step_store (by kernel_rfl) (by kernel_rfl) 39 (.tmp 13) (.tmp 72) (by kernel_rfl) b13 #[.int .i64 0, .int .i64 0, .int .i64 0, .int .i64 0, .int .i64 0, .slice none 0 0, .slice none 0 0] (by kernel_rfl) (by kernel_rfl) _ _ g13n.out hi7 (by rfl) (by simp [Value.oneCell']) ?_
                  have HM := hide (below_setRow HN.out k13 #[.int .i64 0, .int .i64 0, .int .i64 0, .int .i64 0, .int .i64 0, .slice none 0 0, .slice none 0 0])
                  refine hK.out _ _ (HCL.out _ HM.out) (fun hHeld => ?_)
                  clear hK K
                  try simp only [Act.put, List.setIfInBounds_toArray, List.set_cons_zero, List.set_cons_succ]
                  have g12m := hide ((setRow_other V91 b13 b12 #[.int .i64 0, .int .i64 0, .int .i64 0, .int .i64 0, .int .i64 0, .slice none 0 0, .slice none 0 0] (by omega)).trans g12n.out)
                  clear HN g12n g13n
                  generalize V91.setRow b13 #[.int .i64 0, .int .i64 0, .int .i64 0, .int .i64 0, .int .i64 0, .slice none 0 0, .slice none 0 0] = V92 at *
                  refine wpAnyH_take (i := 21) (v := ?_) rfl (by kernel_rfl) (by kernel_rfl) (by kernel_rfl) (fun _ _ _ h => h) (Or.inl ⟨by rfl, ?_⟩) (by assumption) ?_
                  rotate_left
                  · intro w' hSw
                    try dsimp only at hSw
                    go_simp; try rfl
                  simp only [List.getElem_toArray, List.getElem_cons_succ, List.getElem_cons_zero, Act.put, List.setIfInBounds_toArray, List.set_cons_zero, List.set_cons_succ]
                  refine wpAnyH_done (by kernel_rfl) ?_ _
                  go_wp2_with fail
                  go_meet
                  exact ⟨b12, rfl, (box_of g12m.out).1 0 _ rfl, (box_of g12m.out).1 2 _ rfl, rfl, HM.out⟩
              · skip
                refine step_run (some 12) (by kernel_rfl) (by kernel_rfl) (v := .pointer (some ⟨V82.heap.size, 0, none⟩)) (w' := V82.alloc (.cells #[.int .i64 0, .slice none 0 0, .int .i64 0] 28)) (by go_simp; try rfl) ?_
                have HN := hide (bel_alloc HW.out (.cells #[.int .i64 0, .slice none 0 0, .int .i64 0] 28))
                refine hK.out _ _ (HCL.out _ HN.out) (fun hHeld => ?_)
                clear hK K
                simp only [Act.put, List.setIfInBounds_toArray, List.set_cons_zero, List.set_cons_succ]
                have k12 := HW.out.size
                have g12 : Hid ((V82.alloc (.cells #[.int .i64 0, .slice none 0 0, .int .i64 0] 28)).heap[V82.heap.size]? = some (.cells #[.int .i64 0, .slice none 0 0, .int .i64 0] 28 (0, 0))) := hide (heap_alloc_new V82 (.cells #[.int .i64 0, .slice none 0 0, .int .i64 0] 28))
                have lo := (Array.getElem?_eq_some_iff.1 g13.out).1
                replace g13 := hide ((Below.heap_alloc V82 (.cells #[.int .i64 0, .slice none 0 0, .int .i64 0] 28) b13 lo).trans g13.out)
                clear HW
                have HW := HN
                clear HN
                generalize V82.alloc (.cells #[.int .i64 0, .slice none 0 0, .int .i64 0] 28) = V93 at *
                generalize V82.heap.size = b12 at *
                refine wpAnyH_ready (rs := [11]) (by kernel_rfl) (by simp) (AllReadyH.cons (o := { dst := some 69, op := Op.call { callee := Callee.value (Operand.func 15), args := #[Operand.tmp 60, Operand.tmp 68], argTypes := #[22, 3] }, type := 22, pos := "laws.go:1887", after := #[{ on := 2, ground := Ground.data }, { on := 10, ground := Ground.data }, { on := 4, ground := Ground.chain }], guard := none }) rfl (fun K hK => ?_) AllReadyH.nil)
                refine step_callW (some 69) (by kernel_rfl) (by kernel_rfl) 15 #[.tmp 60, .tmp 68] #[22, 3] (by kernel_rfl) #[.slice a7 sl.length c7, .int .i64 (bit : Int)] (by kernel_rfl) (turnImpl _ _ _ _ sl _ (HIN.out _ HW.out).2.1 hcz ⟨by omega, hbd⟩) ?_
                rintro e V94 ⟨tv, rfl, ot, bt⟩
                obtain ⟨ta, tc, rfl⟩ := own_shape ot
                have htl : (turned sl (bit : Int)).length = sl.length := turned_len _ _
                have hti := in_slice ot (by rw [htl]; omega) (turned_byt _ _ HSB.out) (Nat.le_refl _)
                rw [htl] at hti
                rw [htl]
                have HTI := hide hti.1
                have htc := hti.2
                clear hti htl ot
                replace g12 := hide ((bt.block b12 (Array.getElem?_eq_some_iff.1 g12.out).1).trans g12.out)
                replace g13 := hide ((bt.block b13 (Array.getElem?_eq_some_iff.1 g13.out).1).trans g13.out)
                replace HW : Hid (Below wc.heap.size wc V94) := hide (HW.out.trans (bt.mono HW.out.size))
                clear bt
                refine ⟨_, rfl, ?_⟩
                refine hK.out _ _ (HCL.out _ HW.out) (fun hHeld => ?_)
                clear hK K
                simp only [Act.put, List.setIfInBounds_toArray, List.set_cons_zero, List.set_cons_succ]
                refine wpAnyH_ready (rs := [12]) (by kernel_rfl) (by simp) (AllReadyH.cons (o := { dst := some 70, op := Op.call { callee := Callee.value (Operand.func 10), args := #[Operand.tmp 58, Operand.tmp 69], argTypes := #[28, 22] }, type := 40, pos := "laws.go:1887", after := #[{ on := 0, ground := Ground.data }, { on := 11, ground := Ground.data }, { on := 11, ground := Ground.chain }], guard := none }) rfl (fun K hK => ?_) AllReadyH.nil)
                refine step_callW (some 70) (by kernel_rfl) (by kernel_rfl) 10 #[.tmp 58, .tmp 69] #[28, 22] (by kernel_rfl) #[lnV rb (base + (j : Int)) (.slice ra rs.length rc), .slice ta sl.length tc] (by kernel_rfl) (arriveNo _ rb (base + (j : Int)) _ (rs.map Prod.fst) (HIN.out _ HW.out).2.2 (by simp; omega) HRG.out ta sl.length tc (turned sl (bit : Int)) HTI.out htc HNO.out) ?_
                rintro e V95 ⟨kv, rfl, ok, bt⟩
                obtain ⟨ka, kc, ek⟩ := ok.shape
                generalize (rs.map Prod.fst).length = kn at ek
                subst ek
                clear ok HTI
                unfold lnV
                replace g12 := hide ((bt.block b12 (Array.getElem?_eq_some_iff.1 g12.out).1).trans g12.out)
                replace g13 := hide ((bt.block b13 (Array.getElem?_eq_some_iff.1 g13.out).1).trans g13.out)
                replace HW : Hid (Below wc.heap.size wc V95) := hide (HW.out.trans (bt.mono HW.out.size))
                clear bt
                refine ⟨_, rfl, ?_⟩
                refine hK.out _ _ (HCL.out _ HW.out) (fun hHeld => ?_)
                clear hK K
                simp only [Act.put, List.setIfInBounds_toArray, List.set_cons_zero, List.set_cons_succ]
                refine wpAnyH_take (i := 13) (v := ?_) rfl (by kernel_rfl) (by kernel_rfl) (by kernel_rfl) (fun _ _ _ h => h) (Or.inl ⟨by rfl, ?_⟩) (by assumption) ?_
                rotate_left
                · intro w' hSw
                  try dsimp only at hSw
                  go_simp; try rfl
                simp only [List.getElem_toArray, List.getElem_cons_succ, List.getElem_cons_zero, Act.put, List.setIfInBounds_toArray, List.set_cons_zero, List.set_cons_succ]
                refine wpAnyH_take (i := 14) (v := ?_) rfl (by kernel_rfl) (by kernel_rfl) (by kernel_rfl) (fun _ _ _ h => h) (Or.inl ⟨by rfl, ?_⟩) (by assumption) ?_
                rotate_left
                · intro w' hSw
                  try dsimp only at hSw
                  go_simp; try rfl
                simp only [List.getElem_toArray, List.getElem_cons_succ, List.getElem_cons_zero, Act.put, List.setIfInBounds_toArray, List.set_cons_zero, List.set_cons_succ]
                refine wpAnyH_take (i := 15) (v := ?_) rfl (by kernel_rfl) (by kernel_rfl) (by kernel_rfl) (fun _ _ _ h => h) (Or.inl ⟨by rfl, ?_⟩) (by assumption) ?_
                rotate_left
                · intro w' hSw
                  try dsimp only at hSw
                  go_simp; try rfl
                simp only [List.getElem_toArray, List.getElem_cons_succ, List.getElem_cons_zero, Act.put, List.setIfInBounds_toArray, List.set_cons_zero, List.set_cons_succ]
                refine wpAnyH_take (i := 16) (v := ?_) rfl (by kernel_rfl) (by kernel_rfl) (by kernel_rfl) (fun _ _ _ h => h) (Or.inl ⟨by rfl, ?_⟩) (by assumption) ?_
                rotate_left
                · intro w' hSw
                  try dsimp only at hSw
                  go_simp; try rfl
                simp only [List.getElem_toArray, List.getElem_cons_succ, List.getElem_cons_zero, Act.put, List.setIfInBounds_toArray, List.set_cons_zero, List.set_cons_succ]
                refine wpAnyH_ready (rs := [19]) (by kernel_rfl) (by simp) (AllReadyH.cons (o := { dst := none, op := Op.store 28 (Operand.tmp 12) (Operand.tmp 71), type := 0, pos := "laws.go:1887", after := #[{ on := 17, ground := Ground.data }, { on := 14, ground := Ground.data }, { on := 12, ground := Ground.chain }, { on := 0, ground := Ground.phase }, { on := 1, ground := Ground.phase }, { on := 2, ground := Ground.phase }, { on := 3, ground := Ground.phase }, { on := 4, ground := Ground.phase }, { on := 5, ground := Ground.phase }, { on := 6, ground := Ground.phase }, { on := 7, ground := Ground.phase }, { on := 8, ground := Ground.phase }, { on := 9, ground := Ground.phase }, { on := 10, ground := Ground.phase }, { on := 11, ground := Ground.phase }, { on := 12, ground := Ground.phase }, { on := 13, ground := Ground.phase }, { on := 14, ground := Ground.phase }, { on := 15, ground := Ground.textOnly Departure.lateStores }, { on := 16, ground := Ground.textOnly Departure.lateStores }, { on := 17, ground := Ground.phase }, { on := 18, ground := Ground.phase }], guard := none }) rfl (fun K hK => ?_) AllReadyH.nil)
                refine step_store (by kernel_rfl) (by kernel_rfl) 28 (.tmp 12) (.tmp 71) (by kernel_rfl) b12 #[.int .i64 rb, .slice ka kn kc, .int .i64 (base + (j : Int))] (by kernel_rfl) (by kernel_rfl) _ _ g12.out hi3 (by rfl) (by simp [Value.oneCell']) ?_
                have HN : Hid (Below wc.heap.size wc (V95.setRow b12 #[.int .i64 rb, .slice ka kn kc, .int .i64 (base + (j : Int))])) := hide (below_setRow HW.out k12 _)
                refine hK.out _ _ (HCL.out _ HN.out) (fun hHeld => ?_)
                clear hK K
                try simp only [Act.put, List.setIfInBounds_toArray, List.set_cons_zero, List.set_cons_succ]
                have g12n := hide (setRow_heap V95 b12 _ #[.int .i64 rb, .slice ka kn kc, .int .i64 (base + (j : Int))] _ _ g12.out)
                have g13n := hide ((setRow_other V95 b12 b13 #[.int .i64 rb, .slice ka kn kc, .int .i64 (base + (j : Int))] (by omega)).trans g13.out)
                clear HW g12 g13
                generalize V95.setRow b12 #[.int .i64 rb, .slice ka kn kc, .int .i64 (base + (j : Int))] = V96 at *
                refine wpAnyH_ready (rs := [20]) (by kernel_rfl) (by simp) (AllReadyH.cons (o := { dst := none, op := Op.store 39 (Operand.tmp 13) (Operand.tmp 72), type := 0, pos := "laws.go:1887", after := #[{ on := 18, ground := Ground.data }, { on := 15, ground := Ground.data }, { on := 19, ground := Ground.chain }, { on := 0, ground := Ground.phase }, { on := 1, ground := Ground.phase }, { on := 2, ground := Ground.phase }, { on := 3, ground := Ground.phase }, { on := 4, ground := Ground.phase }, { on := 5, ground := Ground.phase }, { on := 6, ground := Ground.phase }, { on := 7, ground := Ground.phase }, { on := 8, ground := Ground.phase }, { on := 9, ground := Ground.phase }, { on := 10, ground := Ground.phase }, { on := 11, ground := Ground.phase }, { on := 12, ground := Ground.phase }, { on := 13, ground := Ground.phase }, { on := 14, ground := Ground.phase }, { on := 15, ground := Ground.phase }, { on := 16, ground := Ground.textOnly Departure.lateStores }, { on := 17, ground := Ground.phase }, { on := 18, ground := Ground.phase }, { on := 19, ground := Ground.phase }], guard := none }) rfl (fun K hK => ?_) AllReadyH.nil)
                refine step_store (by kernel_rfl) (by kernel_rfl) 39 (.tmp 13) (.tmp 72) (by kernel_rfl) b13 #[.int .i64 0, .int .i64 0, .int .i64 0, .int .i64 0, .int .i64 0, .slice none 0 0, .slice none 0 0] (by kernel_rfl) (by kernel_rfl) _ _ g13n.out hi7 (by rfl) (by simp [Value.oneCell']) ?_
                have HM := hide (below_setRow HN.out k13 #[.int .i64 0, .int .i64 0, .int .i64 0, .int .i64 0, .int .i64 0, .slice none 0 0, .slice none 0 0])
                refine hK.out _ _ (HCL.out _ HM.out) (fun hHeld => ?_)
                clear hK K
                try simp only [Act.put, List.setIfInBounds_toArray, List.set_cons_zero, List.set_cons_succ]
                have g12m := hide ((setRow_other V96 b13 b12 #[.int .i64 0, .int .i64 0, .int .i64 0, .int .i64 0, .int .i64 0, .slice none 0 0, .slice none 0 0] (by omega)).trans g12n.out)
                clear HN g12n g13n
                generalize V96.setRow b13 #[.int .i64 0, .int .i64 0, .int .i64 0, .int .i64 0, .int .i64 0, .slice none 0 0, .slice none 0 0] = V97 at *
                refine wpAnyH_take (i := 21) (v := ?_) rfl (by kernel_rfl) (by kernel_rfl) (by kernel_rfl) (fun _ _ _ h => h) (Or.inl ⟨by rfl, ?_⟩) (by assumption) ?_
                rotate_left
                · intro w' hSw
                  try dsimp only at hSw
                  go_simp; try rfl
                simp only [List.getElem_toArray, List.getElem_cons_succ, List.getElem_cons_zero, Act.put, List.setIfInBounds_toArray, List.set_cons_zero, List.set_cons_succ]
                refine wpAnyH_done (by kernel_rfl) ?_ _
                go_wp2_with fail
                go_meet
                exact ⟨b12, rfl, (box_of g12m.out).1 0 _ rfl, (box_of g12m.out).1 2 _ rfl, rfl, HM.out⟩
            · skip
              refine step_run (some 12) (by kernel_rfl) (by kernel_rfl) (v := .pointer (some ⟨V82.heap.size, 0, none⟩)) (w' := V82.alloc (.cells #[.int .i64 0, .slice none 0 0, .int .i64 0] 28)) (by go_simp; try rfl) ?_
              have HN := hide (bel_alloc HW.out (.cells #[.int .i64 0, .slice none 0 0, .int .i64 0] 28))
              refine hK.out _ _ (HCL.out _ HN.out) (fun hHeld => ?_)
              clear hK K
              simp only [Act.put, List.setIfInBounds_toArray, List.set_cons_zero, List.set_cons_succ]
              have k12 := HW.out.size
              have g12 : Hid ((V82.alloc (.cells #[.int .i64 0, .slice none 0 0, .int .i64 0] 28)).heap[V82.heap.size]? = some (.cells #[.int .i64 0, .slice none 0 0, .int .i64 0] 28 (0, 0))) := hide (heap_alloc_new V82 (.cells #[.int .i64 0, .slice none 0 0, .int .i64 0] 28))
              have lo := (Array.getElem?_eq_some_iff.1 g13.out).1
              replace g13 := hide ((Below.heap_alloc V82 (.cells #[.int .i64 0, .slice none 0 0, .int .i64 0] 28) b13 lo).trans g13.out)
              clear HW
              have HW := HN
              clear HN
              generalize V82.alloc (.cells #[.int .i64 0, .slice none 0 0, .int .i64 0] 28) = V98 at *
              generalize V82.heap.size = b12 at *
              refine wpAnyH_ready (rs := [4]) (by kernel_rfl) (by simp) (AllReadyH.cons (o := { dst := some 62, op := Op.call { callee := Callee.value (Operand.func 16), args := #[Operand.tmp 61, Operand.const (Value.int IntKind.i64 3)], argTypes := #[22, 3] }, type := 3, pos := "laws.go:1887", after := #[{ on := 3, ground := Ground.data }], guard := none }) rfl (fun K hK => ?_) AllReadyH.nil)
              refine step_callW (some 62) (by kernel_rfl) (by kernel_rfl) 16 #[.tmp 61, .const (.int .i64 3)] #[22, 3] (by kernel_rfl) #[.slice a0 len0 cap0, .int .i64 ((3 : Nat) : Int)] (by kernel_rfl) (atB _ _ a0 len0 cap0 zs 3 (by omega) (HIN.out _ HW.out).1) ?_
              rintro e y ⟨rfl, hy⟩
              rw [hy, HAL.out]
              clear hy y
              refine ⟨_, rfl, ?_⟩
              refine hK.out _ _ (HCL.out _ HW.out) (fun hHeld => ?_)
              clear hK K
              simp only [Act.put, List.setIfInBounds_toArray, List.set_cons_zero, List.set_cons_succ]
              refine wpAnyH_take (i := 5) (v := .int .i64 ((al : Int) * 8)) rfl (by kernel_rfl) (by kernel_rfl) (by kernel_rfl) (fun _ _ _ h => h) (Or.inl ⟨by rfl, ?_⟩) (by assumption) ?_
              · intro w' hSw
                try dsimp only at hSw
                go_simp; try rfl
              simp only [List.getElem_toArray, List.getElem_cons_succ, List.getElem_cons_zero, Act.put, List.setIfInBounds_toArray, List.set_cons_zero, List.set_cons_succ]
              refine wpAnyH_take (i := 9) (v := .int .i64 ((al : Int) * 8 * (sl.length : Int))) rfl (by kernel_rfl) (by kernel_rfl) (by kernel_rfl) (fun _ _ _ h => h) (Or.inl ⟨by rfl, ?_⟩) (by assumption) ?_
              · intro w' hSw
                try dsimp only at hSw
                go_simp; try rfl
              simp only [List.getElem_toArray, List.getElem_cons_succ, List.getElem_cons_zero, Act.put, List.setIfInBounds_toArray, List.set_cons_zero, List.set_cons_succ]
              refine wpAnyH_take (i := 10) (v := .int .i64 (bit : Int)) rfl (by kernel_rfl) (by kernel_rfl) (by kernel_rfl) (fun _ _ _ h => h) (Or.inl ⟨by rfl, ?_⟩) (by assumption) ?_
              · intro w' hSw
                try dsimp only at hSw
                go_simp; try rfl
              simp only [List.getElem_toArray, List.getElem_cons_succ, List.getElem_cons_zero, Act.put, List.setIfInBounds_toArray, List.set_cons_zero, List.set_cons_succ]
              refine wpAnyH_ready (rs := [11]) (by kernel_rfl) (by simp) (AllReadyH.cons (o := { dst := some 69, op := Op.call { callee := Callee.value (Operand.func 15), args := #[Operand.tmp 60, Operand.tmp 68], argTypes := #[22, 3] }, type := 22, pos := "laws.go:1887", after := #[{ on := 2, ground := Ground.data }, { on := 10, ground := Ground.data }, { on := 4, ground := Ground.chain }], guard := none }) rfl (fun K hK => ?_) AllReadyH.nil)
              refine step_callW (some 69) (by kernel_rfl) (by kernel_rfl) 15 #[.tmp 60, .tmp 68] #[22, 3] (by kernel_rfl) #[.slice a7 sl.length c7, .int .i64 (bit : Int)] (by kernel_rfl) (turnImpl _ _ _ _ sl _ (HIN.out _ HW.out).2.1 hcz ⟨by omega, hbd⟩) ?_
              rintro e V100 ⟨tv, rfl, ot, bt⟩
              obtain ⟨ta, tc, rfl⟩ := own_shape ot
              have htl : (turned sl (bit : Int)).length = sl.length := turned_len _ _
              have hti := in_slice ot (by rw [htl]; omega) (turned_byt _ _ HSB.out) (Nat.le_refl _)
              rw [htl] at hti
              rw [htl]
              have HTI := hide hti.1
              have htc := hti.2
              clear hti htl ot
              replace g12 := hide ((bt.block b12 (Array.getElem?_eq_some_iff.1 g12.out).1).trans g12.out)
              replace g13 := hide ((bt.block b13 (Array.getElem?_eq_some_iff.1 g13.out).1).trans g13.out)
              replace HW : Hid (Below wc.heap.size wc V100) := hide (HW.out.trans (bt.mono HW.out.size))
              clear bt
              refine ⟨_, rfl, ?_⟩
              refine hK.out _ _ (HCL.out _ HW.out) (fun hHeld => ?_)
              clear hK K
              simp only [Act.put, List.setIfInBounds_toArray, List.set_cons_zero, List.set_cons_succ]
              refine wpAnyH_ready (rs := [12]) (by kernel_rfl) (by simp) (AllReadyH.cons (o := { dst := some 70, op := Op.call { callee := Callee.value (Operand.func 10), args := #[Operand.tmp 58, Operand.tmp 69], argTypes := #[28, 22] }, type := 40, pos := "laws.go:1887", after := #[{ on := 0, ground := Ground.data }, { on := 11, ground := Ground.data }, { on := 11, ground := Ground.chain }], guard := none }) rfl (fun K hK => ?_) AllReadyH.nil)
              refine step_callW (some 70) (by kernel_rfl) (by kernel_rfl) 10 #[.tmp 58, .tmp 69] #[28, 22] (by kernel_rfl) #[lnV rb (base + (j : Int)) (.slice ra rs.length rc), .slice ta sl.length tc] (by kernel_rfl) (arriveNo _ rb (base + (j : Int)) _ (rs.map Prod.fst) (HIN.out _ HW.out).2.2 (by simp; omega) HRG.out ta sl.length tc (turned sl (bit : Int)) HTI.out htc HNO.out) ?_
              rintro e V101 ⟨kv, rfl, ok, bt⟩
              obtain ⟨ka, kc, ek⟩ := ok.shape
              generalize (rs.map Prod.fst).length = kn at ek
              subst ek
              clear ok HTI
              unfold lnV
              replace g12 := hide ((bt.block b12 (Array.getElem?_eq_some_iff.1 g12.out).1).trans g12.out)
              replace g13 := hide ((bt.block b13 (Array.getElem?_eq_some_iff.1 g13.out).1).trans g13.out)
              replace HW : Hid (Below wc.heap.size wc V101) := hide (HW.out.trans (bt.mono HW.out.size))
              clear bt
              refine ⟨_, rfl, ?_⟩
              refine hK.out _ _ (HCL.out _ HW.out) (fun hHeld => ?_)
              clear hK K
              simp only [Act.put, List.setIfInBounds_toArray, List.set_cons_zero, List.set_cons_succ]
              refine wpAnyH_take (i := 13) (v := ?_) rfl (by kernel_rfl) (by kernel_rfl) (by kernel_rfl) (fun _ _ _ h => h) (Or.inl ⟨by rfl, ?_⟩) (by assumption) ?_
              rotate_left
              · intro w' hSw
                try dsimp only at hSw
                go_simp; try rfl
              simp only [List.getElem_toArray, List.getElem_cons_succ, List.getElem_cons_zero, Act.put, List.setIfInBounds_toArray, List.set_cons_zero, List.set_cons_succ]
              refine wpAnyH_take (i := 14) (v := ?_) rfl (by kernel_rfl) (by kernel_rfl) (by kernel_rfl) (fun _ _ _ h => h) (Or.inl ⟨by rfl, ?_⟩) (by assumption) ?_
              rotate_left
              · intro w' hSw
                try dsimp only at hSw
                go_simp; try rfl
              simp only [List.getElem_toArray, List.getElem_cons_succ, List.getElem_cons_zero, Act.put, List.setIfInBounds_toArray, List.set_cons_zero, List.set_cons_succ]
              refine wpAnyH_take (i := 15) (v := ?_) rfl (by kernel_rfl) (by kernel_rfl) (by kernel_rfl) (fun _ _ _ h => h) (Or.inl ⟨by rfl, ?_⟩) (by assumption) ?_
              rotate_left
              · intro w' hSw
                try dsimp only at hSw
                go_simp; try rfl
              simp only [List.getElem_toArray, List.getElem_cons_succ, List.getElem_cons_zero, Act.put, List.setIfInBounds_toArray, List.set_cons_zero, List.set_cons_succ]
              refine wpAnyH_take (i := 16) (v := ?_) rfl (by kernel_rfl) (by kernel_rfl) (by kernel_rfl) (fun _ _ _ h => h) (Or.inl ⟨by rfl, ?_⟩) (by assumption) ?_
              rotate_left
              · intro w' hSw
                try dsimp only at hSw
                go_simp; try rfl
              simp only [List.getElem_toArray, List.getElem_cons_succ, List.getElem_cons_zero, Act.put, List.setIfInBounds_toArray, List.set_cons_zero, List.set_cons_succ]
              refine wpAnyH_ready (rs := [19]) (by kernel_rfl) (by simp) (AllReadyH.cons (o := { dst := none, op := Op.store 28 (Operand.tmp 12) (Operand.tmp 71), type := 0, pos := "laws.go:1887", after := #[{ on := 17, ground := Ground.data }, { on := 14, ground := Ground.data }, { on := 12, ground := Ground.chain }, { on := 0, ground := Ground.phase }, { on := 1, ground := Ground.phase }, { on := 2, ground := Ground.phase }, { on := 3, ground := Ground.phase }, { on := 4, ground := Ground.phase }, { on := 5, ground := Ground.phase }, { on := 6, ground := Ground.phase }, { on := 7, ground := Ground.phase }, { on := 8, ground := Ground.phase }, { on := 9, ground := Ground.phase }, { on := 10, ground := Ground.phase }, { on := 11, ground := Ground.phase }, { on := 12, ground := Ground.phase }, { on := 13, ground := Ground.phase }, { on := 14, ground := Ground.phase }, { on := 15, ground := Ground.textOnly Departure.lateStores }, { on := 16, ground := Ground.textOnly Departure.lateStores }, { on := 17, ground := Ground.phase }, { on := 18, ground := Ground.phase }], guard := none }) rfl (fun K hK => ?_) AllReadyH.nil)
              refine step_store (by kernel_rfl) (by kernel_rfl) 28 (.tmp 12) (.tmp 71) (by kernel_rfl) b12 #[.int .i64 rb, .slice ka kn kc, .int .i64 (base + (j : Int))] (by kernel_rfl) (by kernel_rfl) _ _ g12.out hi3 (by rfl) (by simp [Value.oneCell']) ?_
              have HN : Hid (Below wc.heap.size wc (V101.setRow b12 #[.int .i64 rb, .slice ka kn kc, .int .i64 (base + (j : Int))])) := hide (below_setRow HW.out k12 _)
              refine hK.out _ _ (HCL.out _ HN.out) (fun hHeld => ?_)
              clear hK K
              try simp only [Act.put, List.setIfInBounds_toArray, List.set_cons_zero, List.set_cons_succ]
              have g12n := hide (setRow_heap V101 b12 _ #[.int .i64 rb, .slice ka kn kc, .int .i64 (base + (j : Int))] _ _ g12.out)
              have g13n := hide ((setRow_other V101 b12 b13 #[.int .i64 rb, .slice ka kn kc, .int .i64 (base + (j : Int))] (by omega)).trans g13.out)
              clear HW g12 g13
              generalize V101.setRow b12 #[.int .i64 rb, .slice ka kn kc, .int .i64 (base + (j : Int))] = V102 at *
              refine wpAnyH_ready (rs := [20]) (by kernel_rfl) (by simp) (AllReadyH.cons (o := { dst := none, op := Op.store 39 (Operand.tmp 13) (Operand.tmp 72), type := 0, pos := "laws.go:1887", after := #[{ on := 18, ground := Ground.data }, { on := 15, ground := Ground.data }, { on := 19, ground := Ground.chain }, { on := 0, ground := Ground.phase }, { on := 1, ground := Ground.phase }, { on := 2, ground := Ground.phase }, { on := 3, ground := Ground.phase }, { on := 4, ground := Ground.phase }, { on := 5, ground := Ground.phase }, { on := 6, ground := Ground.phase }, { on := 7, ground := Ground.phase }, { on := 8, ground := Ground.phase }, { on := 9, ground := Ground.phase }, { on := 10, ground := Ground.phase }, { on := 11, ground := Ground.phase }, { on := 12, ground := Ground.phase }, { on := 13, ground := Ground.phase }, { on := 14, ground := Ground.phase }, { on := 15, ground := Ground.phase }, { on := 16, ground := Ground.textOnly Departure.lateStores }, { on := 17, ground := Ground.phase }, { on := 18, ground := Ground.phase }, { on := 19, ground := Ground.phase }], guard := none }) rfl (fun K hK => ?_) AllReadyH.nil)
              refine step_store (by kernel_rfl) (by kernel_rfl) 39 (.tmp 13) (.tmp 72) (by kernel_rfl) b13 #[.int .i64 0, .int .i64 0, .int .i64 0, .int .i64 0, .int .i64 0, .slice none 0 0, .slice none 0 0] (by kernel_rfl) (by kernel_rfl) _ _ g13n.out hi7 (by rfl) (by simp [Value.oneCell']) ?_
              have HM := hide (below_setRow HN.out k13 #[.int .i64 0, .int .i64 0, .int .i64 0, .int .i64 0, .int .i64 0, .slice none 0 0, .slice none 0 0])
              refine hK.out _ _ (HCL.out _ HM.out) (fun hHeld => ?_)
              clear hK K
              try simp only [Act.put, List.setIfInBounds_toArray, List.set_cons_zero, List.set_cons_succ]
              have g12m := hide ((setRow_other V102 b13 b12 #[.int .i64 0, .int .i64 0, .int .i64 0, .int .i64 0, .int .i64 0, .slice none 0 0, .slice none 0 0] (by omega)).trans g12n.out)
              clear HN g12n g13n
              generalize V102.setRow b13 #[.int .i64 0, .int .i64 0, .int .i64 0, .int .i64 0, .int .i64 0, .slice none 0 0, .slice none 0 0] = V103 at *
              refine wpAnyH_take (i := 21) (v := ?_) rfl (by kernel_rfl) (by kernel_rfl) (by kernel_rfl) (fun _ _ _ h => h) (Or.inl ⟨by rfl, ?_⟩) (by assumption) ?_
              rotate_left
              · intro w' hSw
                try dsimp only at hSw
                go_simp; try rfl
              simp only [List.getElem_toArray, List.getElem_cons_succ, List.getElem_cons_zero, Act.put, List.setIfInBounds_toArray, List.set_cons_zero, List.set_cons_succ]
              refine wpAnyH_done (by kernel_rfl) ?_ _
              go_wp2_with fail
              go_meet
              exact ⟨b12, rfl, (box_of g12m.out).1 0 _ rfl, (box_of g12m.out).1 2 _ rfl, rfl, HM.out⟩
        case rest =>
          obtain ⟨kb, rfl, k0, k2, rfl, hbk⟩ := hcut
          obtain ⟨x0, _, x2, _⟩ := HCL.out _ hbk
          have HBF := hide (HB.out.trans (hbk.mono HB.out.size))
          clear hbk HCL HIN HB
          go_wp2
          go_ret
          exact ⟨rfl, HBF.out⟩

set_option maxRecDepth 100000 in
set_option maxHeartbeats 1000000 in
theorem lifted (os : Os) (started : os.Started) (H : Type) (enc : TypeId × Value → H) :
    ReturnsInHanded {} Tryd.checked os 4 .any (fun w args => (Rows.fnSpoiltSpec.pre enc Tryd.prog Tryd.f4 [] false w args ∧ laidMetH Tryd.prog laidL w) ∧ sizedMet enc Tryd.prog Tryd.f4 (OpenSpec.ofChange Rows.fnSpoiltSpec) false w args)
      (Rows.fnSpoiltSpec.post enc Tryd.prog Tryd.f4 false true false false) := by
  refine returnsInHanded_of_change_and (C := Tryd.checked) (X := fun w _ => laidMetH Tryd.prog laidL w) (fun _ _ _ hh h => h.of_heap hh) Tryd.own started (by kernel_rfl) Tryd.func4
    (ChangeSpec.witness_shaped (enc := enc) (C := Tryd.checked) (os := os) (X := fun w _ => laidMetH Tryd.prog laidL w) false (World.doorLaid Tryd.prog 28 os) #[.slice none 0 0] 8 rfl (World.shaped_of_RefB (by kernel_rfl) (by kernel_rfl)) (by kernel_rfl) (by kernel_rfl) (by kernel_rfl) (door_met os _)) ?_
  intro W base args ds gs before hval0 hW _ _ hL _
  have hval : ∀ (j : Nat) t v, Tryd.f4.params[j]? = some t → args[j]? = some v → Value.okWide Tryd.prog W .any base t v := hval0
  have hW' := hW
  obtain ⟨p, q, hA0, hV0, rfl, hfz, hnd⟩ := hW
  have hA : DataW.TrodAll enc Tryd.prog W 0 (fun _ => true) true Tryd.f4.params.toList args.toList ds p := hA0
  have hV : DataW.TrodVars enc Tryd.prog W (fun _ => true) ["loop.example/g00283/impl.errNone"] gs q := hV0
  rw [Tryd.params4] at hA hval
  obtain ⟨v0, vs0, d0, ds0, p0, q0, hargs, rfl, rfl, h0, r0⟩ := trodAll_cons hA
  obtain ⟨rfl, rfl, rfl⟩ := trodAll_nil r0
  obtain rfl : args = #[v0] := by cases args; simp_all
  obtain ⟨u, x, hv⟩ := err_of_laid hL
  obtain ⟨hE, hp⟩ := err_cell hv
  obtain ⟨rfl, rfl⟩ := hV.unique (vars_read enc hv _)
  obtain ⟨a0, len0, cap0, rfl⟩ := okWide_slice Tryd.underlying22 (hval 0 22 v0 rfl rfl)
  have k0 := h0
  have lt0 : ∀ x ∈ p0, x.block < W.heap.size := by obtain ⟨m, hm⟩ := k0; exact DataW.trod_lt m _ _ _ hm
  obtain ⟨z0, w0⟩ : ∃ zs, IsRow .u8 W a0 len0 cap0 zs := by
    obtain ⟨fuel, hf⟩ := h0
    rcases open_ints Tryd.underlying22 Tryd.underlying5 (by kernel_rfl) hf with ⟨hcs, _⟩ | ⟨x, l, c, zs, hcs, _, hl, hm, hz, _, hcell, hwz⟩
    · simp [Value.cells] at hcs
      obtain ⟨rfl, rfl, rfl⟩ := hcs
      exact ⟨[], .inl ⟨rfl, rfl, rfl, rfl⟩⟩
    · simp [Value.cells] at hcs
      obtain ⟨rfl, rfl, rfl⟩ := hcs
      exact ⟨zs, .inr ⟨_, rfl, hl, hm, by simpa using hz, hcell, hwz⟩⟩
  clear hA0 hval0 hV0
  refine (walk a0 len0 cap0 z0 u x W w0 hE hp).mono fun e W' ⟨he, bel⟩ => ?_
  subst he
  refine ⟨_, rfl, _, _, _, [], _, [.cell 0 0], hW', trodAll_mk1 (shut_bool Tryd.underlying4 _), (trodAll_cons_mk (Below.trod Tryd.laidOut (by kernel_rfl) (of_decide_eq_true (by kernel_rfl)) k0 bel lt0) trodAll_mk0), ?_, bel.frame _, fun h => by cases h⟩
  exact vars_read enc (var?_below bel gErr hp hv) _

theorem row : Rows.FnSpoiltSaid :=
  OpenClaim.holds_of_wide 4 Tryd.f4 rfl rfl rfl rfl rfl rfl rfl ⟨rfl, rfl, rfl, rfl, rfl⟩ rfl rfl rfl rfl rfl (by kernel_rfl) Tryd.func4 (by kernel_rfl)
    (of_decide_eq_true (by kernel_rfl)) (by unfold Func.isWrapper; first | (rw [if_pos (by decide +kernel)]; kernel_rfl) | (rw [if_neg (by decide +kernel)]; exact ⟨rfl, rfl⟩))
    (fun os started H enc _ => lifted os started H enc)

theorem card : Rows.FnSpoiltCardSaid :=
  Claim7.holds_tied_plain_at .later [] [.sentinel] true (true, "321c7c7b6567801377e1c5f5a81712305a62eeef62ee5176db2f66f0b0dd7ce0") true
    row (fun _ h => by cases h) (by kernel_rfl) (fun _ h => by cases h) fnSpoilt_row_tie rfl ⟨rfl, rfl⟩ (by kernel_rfl) rfl
    (fun f fn hf hfn => by
      obtain rfl : f = 4 := Option.some.inj ((show Tryd.prog.funcNamed "loop.example/g00283/laws.FnSpoilt" = some 4 by kernel_rfl).symm.trans hf) |>.symm
      obtain rfl : fn = Tryd.f4 := (Option.some.inj (Tryd.func4.symm.trans hfn)).symm
      exact ⟨by kernel_rfl, fun j t ht => by
        rw [Tryd.params4] at ht
        have hm : t ∈ [22] := by simpa using Array.mem_of_getElem? ht
        have hall : ([22].all fun u => !Tryd.prog.wantsStandIn u) = true := by kernel_rfl
        exact (show Tryd.prog.wantsStandIn t = false by simpa using List.all_eq_true.1 hall t hm)⟩)
    (by kernel_rfl)
end Go.Proofs.YtkfnpijljpbiaaaDoor.fnSpoilt
namespace Go.Proofs.YtkfnpijljpbiaaaDoor
theorem fnSpoilt_holds : Rows.FnSpoiltCardSaid := fnSpoilt.card
#print axioms fnSpoilt_holds
end Go.Proofs.YtkfnpijljpbiaaaDoor
