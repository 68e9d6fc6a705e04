/-
  What Spoil does in the program.
-/
import Derived.Test.YtmlbemcblgnbjaaNetTake
import Derived.Test.YtmlbemcblgnbjaaNetMark
import Derived.Test.YtmlbemcblgnbjaaFlMath
import Derived.Test.YtmlbemcblgnbjaaStrW
import Derived.Laws.StructEq
namespace Go.Proofs.Ytmlbemcblgnbjaa
open Go.RowKit

/-- There is such a bit of packet i, and it is not spoilt. -/
def mayN (size : Int) (ps : List Pk) (i bit : Int) : Bool := hasN size ps i && (!(ps.getD i.toNat default).s && decide (0 ≤ bit ∧ bit / 8 < ((ps.getD i.toNat default).b.length : Int)))
def spoilt (p : Pk) (bit : Int) : Pk := ⟨p.f, p.t, turned p.b bit, true⟩
/-- What Spoil answers. -/
def spoilN (size : Int) (ps : List Pk) (i bit : Int) : (Int × List Pk) × Bool := bif mayN size ps i bit then ((size, ps.set i.toNat (spoilt (ps.getD i.toNat default) bit)), true) else (asN size ps, false)
theorem spoilN_yes {size : Int} {ps : List Pk} {i bit : Int} (h : mayN size ps i bit = true) : spoilN size ps i bit = ((size, ps.set i.toNat (spoilt (ps.getD i.toNat default) bit)), true) := by unfold spoilN; rw [h]; rfl
theorem spoilN_no {size : Int} {ps : List Pk} {i bit : Int} (h : mayN size ps i bit = false) : spoilN size ps i bit = (asN size ps, false) := by unfold spoilN; rw [h]; rfl
theorem asN_idem (size : Int) (ps : List Pk) (i : Int) : (netOk (asN size ps).1 (asN size ps).2 && inB i 0 (((asN size ps).2.length : Int) - 1)) = hasN size ps i := by
  unfold hasN
  cases h : netOk size ps
  · rw [asN_no h]; rfl
  · rw [asN_yes h, h]

def pvV (p : Pk) : Value := .agg #[.int .i64 p.f, .int .i64 p.t, .string (strOfNums p.b), .bool p.s]
theorem load4v {w : World} {g : Nat} {a0 a1 a2 a3 : Value} (h : w.heap[g]? = some (.cells #[a0, a1, a2, a3] 59 (0, 0))) : (loadVar 59 ⟨g, 0, none⟩).run Try.prog w = .ok (.agg #[a0, a1, a2, a3]) w :=
  run_loadVar_row w g 59 59 #[a0, a1, a2, a3] (0, 0) _ h Try.underlying59 rfl (by kernel_rfl)

set_option maxRecDepth 100000 in
set_option maxHeartbeats 2000000 in
theorem valPk (w : World) (b : Nat) (p : Pk) (v : Value) (h : Own w b v p.b) :
    Calls Try.prog 38 #[pkV p v] w fun e w' => e = .returned (pvV p) ∧ Below w.heap.size w w' := by
  obtain ⟨a, c, rfl⟩ := own_shape h
  obtain ⟨f, t, zs, s⟩ := p
  simp only at h
  unfold pkV pvV
  simp only
  have bA := ((Below.refl w.heap.size w).alloc (Nat.le_refl _) (.cells #[.int .i64 f, .int .i64 t, .slice a zs.length c, .bool s] 28)).alloc (by simp) (.cells #[.int .i64 0, .int .i64 0, .string ⟨#[]⟩, .bool false] 59)
  have hcv := own_str (h.below bA)
  have HB := hide bA
  clear bA h
  go_enter Try.func38, Try.ntmps38
  go_wp2
  exact bodyPost_ret (v := .agg #[.int .i64 f, .int .i64 t, .string (strOfNums zs), .bool s]) (results_one Try.results38 _ _ _ rfl (load4v (by have := heap_alloc_new (w.alloc (.cells #[.int .i64 f, .int .i64 t, .slice a zs.length c, .bool s] 28)) (.cells #[.int .i64 f, .int .i64 t, .string (strOfNums zs), .bool s] 59); simpa only [World.size_alloc] using this))) rfl ⟨rfl, ((Below.refl w.heap.size w).alloc (Nat.le_refl _) _).alloc (by simp) _⟩

attribute [local go_sem ↓] Go.wp_at_zero Go.wp_at_succ
set_option maxRecDepth 100000 in
set_option maxHeartbeats 4000000 in
theorem spoilImplNo (w : World) (size : Int) (v : Value) (ps : List Pk) (i bit : Int) (h : RdP w w.heap.size v ps) (hm : ps.length ≤ 1048576) (hno : hasN size ps i = false) :
    Calls Try.prog 17 #[netV size v, .int .i64 i, .int .i64 bit] w (ansN w (asN size ps, false)) := by
  have HR := hide h
  have HGD := hide h.good
  obtain ⟨a, cap, rfl, _⟩ := pk_at h
  clear h
  unfold netV
  have bA := ((Below.refl w.heap.size w).alloc (Nat.le_refl _) (.cells #[.int .i64 size, .slice a ps.length cap] 26)).alloc (by simp) (.cells #[.int .i64 0, .slice none 0 0] 26)
  have HE1 := hide (heap_alloc_new (w.alloc (.cells #[.int .i64 size, .slice a ps.length cap] 26)) (.cells #[.int .i64 0, .slice none 0 0] 26))
  simp only [World.size_alloc] at HE1
  have HB := hide bA
  clear bA
  go_enter Try.func17, Try.ntmps17
  go_wp2_with fail
  refine (asWas _ size _ ps _ (HR.out.at HB.out) (Nat.le_refl _) hm).mono ?_
  rintro e w1 ⟨v1, rfl, o1, b1⟩
  obtain ⟨a1, c1, rfl⟩ := o1.shape
  have hs1 : w.heap.size + 1 + 1 ≤ w1.heap.size := by have := b1.size; simp at this; omega
  have HO := hide (o1.mono (b' := w.heap.size + 1 + 1) (by simp))
  have E1 := (b1.block (w.heap.size + 1) (by simp)).trans HE1.out
  replace HB := hide (HB.out.trans (b1.mono HB.out.size))
  clear b1 o1 HE1
  unfold netV
  have bD := (Below.refl w1.heap.size w1).alloc (Nat.le_refl _) (.cells #[.int .i64 (asN size ps).1, .slice a1 (asN size ps).2.length c1] 26)
  have H8 := hide (heap_alloc_new w1 (.cells #[.int .i64 (asN size ps).1, .slice a1 (asN size ps).2.length c1] 26))
  replace HO := hide (HO.out.below bD)
  have H1 := hide ((bD.block (w.heap.size + 1) (by omega)).trans E1)
  have hs2 : (w1.alloc (.cells #[.int .i64 (asN size ps).1, .slice a1 (asN size ps).2.length c1] 26)).heap.size = w1.heap.size + 1 := by simp
  replace HB := hide (HB.out.trans (bD.mono HB.out.size))
  clear bD E1
  go_wp2_with fail
  generalize w1.alloc (.cells #[.int .i64 (asN size ps).1, .slice a1 (asN size ps).2.length c1] 26) = w2 at *
  refine (hasPk _ (asN size ps).1 _ (asN size ps).2 i _ (HO.out.rd (asN_good HGD.out) (Nat.le_refl _)) (Nat.le_refl _) (by have := asN_len size ps; omega)).mono ?_
  rw [asN_idem, hno]
  rintro e w3 ⟨rfl, b3⟩
  replace H8 := hide ((b3.block w1.heap.size (by omega)).trans H8.out)
  replace H1 := hide ((b3.block (w.heap.size + 1) (by omega)).trans H1.out)
  replace HO := hide (HO.out.below b3)
  have hs3 := b3.size
  replace HB := hide (HB.out.trans (b3.mono HB.out.size))
  clear b3
  have f0 := (box_of H8.out).1 0 _ rfl
  have f1 := (box_of H8.out).1 1 _ rfl
  have r0 := (box_of H1.out).1 0 _ rfl
  have r1 := (box_of H1.out).1 1 _ rfl
  have z1 := (box_of H1.out).2
  go_wp2
  refine bodyPost_ret (v := .tuple #[.agg #[.int .i64 (asN size ps).1, .slice a1 (asN size ps).2.length c1], .bool false]) (results_ct Try.results17 _ _ _ rfl (load2 (put2 H1.out _ _))) rfl ⟨_, rfl, ?_, (HB.out.setCell (by simp) _).setCell (by simp) _⟩
  refine ((OwnP.same HO.out (fun q hq _ _ => ?_)).mono (by omega)).up (by simp; omega)
  rw [heap_setCell_other _ _ _ _ (by simp; omega), heap_setCell_other _ _ _ _ (by simp; omega)]

set_option maxRecDepth 100000 in
set_option maxHeartbeats 8000000 in
theorem spoilImplYes (w : World) (size : Int) (v : Value) (ps : List Pk) (j : Nat) (bit : Int) (h : RdP w w.heap.size v ps) (hb : -9223372036854775808 ≤ bit ∧ bit ≤ 9223372036854775807) (hm : ps.length ≤ 1048576) (hyes : hasN size ps (j : Int) = true) (hj : j < ps.length) (hnet : netOk size ps = true) :
    Calls Try.prog 17 #[netV size v, .int .i64 (j : Int), .int .i64 bit] w (ansN w (spoilN size ps (j : Int) bit)) := by
  have HR := hide h
  have HGD := hide h.good
  obtain ⟨a, cap, rfl, _⟩ := pk_at h
  clear h
  unfold netV
  have bA := ((Below.refl w.heap.size w).alloc (Nat.le_refl _) (.cells #[.int .i64 size, .slice a ps.length cap] 26)).alloc (by simp) (.cells #[.int .i64 0, .slice none 0 0] 26)
  have HE1 := hide (heap_alloc_new (w.alloc (.cells #[.int .i64 size, .slice a ps.length cap] 26)) (.cells #[.int .i64 0, .slice none 0 0] 26))
  simp only [World.size_alloc] at HE1
  have HB := hide bA
  clear bA
  go_enter Try.func17, Try.ntmps17
  go_wp2_with fail
  refine (asWas _ size _ ps _ (HR.out.at HB.out) (Nat.le_refl _) hm).mono ?_
  rw [asN_yes hnet]
  rintro e w1 ⟨v1, rfl, o1, b1⟩
  obtain ⟨xs, hxs, hox⟩ := o1
  simp only at hxs
  have hxl : xs.length = ps.length := by rw [← hxs]; simp
  obtain ⟨g, c1, rfl⟩ : ∃ g c1, v1 = .slice (some ⟨g, 0, none⟩) ps.length c1 := by
    rcases hox.1.2 with ⟨_, h1⟩ | ⟨g, c', _, e, _⟩
    · omega
    · exact ⟨g, c', by rw [e, hxl]⟩
  have hs1 : w.heap.size + 1 + 1 ≤ w1.heap.size := by have := b1.size; simp at this; omega
  have HOX := hide (hox.mono (b' := w.heap.size + 1 + 1) (by simp))
  have HXS := hide hxs
  have HXL := hide hxl
  have E1 := (b1.block (w.heap.size + 1) (by simp)).trans HE1.out
  replace HB := hide (HB.out.trans (b1.mono HB.out.size))
  clear b1 hox HE1 hxs hxl
  unfold netV
  simp only
  have bD := (Below.refl w1.heap.size w1).alloc (Nat.le_refl _) (.cells #[.int .i64 size, .slice (some ⟨g, 0, none⟩) ps.length c1] 26)
  have H8 := hide (heap_alloc_new w1 (.cells #[.int .i64 size, .slice (some ⟨g, 0, none⟩) ps.length c1] 26))
  have hhi : Hid (∀ u ∈ xs.map Prod.snd, ∀ q, u.ownBlock = some q → q < w1.heap.size) := hide HOX.out.2.2.2.2
  have hgl : w.heap.size + 1 + 1 ≤ g ∧ g < w1.heap.size := ⟨(World.ownsRow.lt HOX.out.1 g rfl).1, HOX.out.2.2.2.1 g rfl⟩
  replace HOX := hide (HOX.out.below bD)
  have H1 := hide ((bD.block (w.heap.size + 1) (by omega)).trans E1)
  have hs2 : (w1.alloc (.cells #[.int .i64 size, .slice (some ⟨g, 0, none⟩) ps.length c1] 26)).heap.size = w1.heap.size + 1 := by simp
  replace HB := hide (HB.out.trans (bD.mono HB.out.size))
  clear bD E1
  go_wp2_with fail
  generalize w1.alloc (.cells #[.int .i64 size, .slice (some ⟨g, 0, none⟩) ps.length c1] 26) = w2 at *
  refine (hasPk _ size _ ps (j : Int) _ (by have := HOX.out.rd (by rw [HXS.out]; exact HGD.out) (Nat.le_refl _); rw [HXS.out] at this; exact this) (Nat.le_refl _) hm).mono ?_
  rw [show (netOk size ps && inB (j : Int) 0 ((ps.length : Int) - 1)) = true from hyes]
  rintro e w3 ⟨rfl, b3⟩
  replace H8 := hide ((b3.block w1.heap.size (by omega)).trans H8.out)
  replace H1 := hide ((b3.block (w.heap.size + 1) (by omega)).trans H1.out)
  replace HOX := hide (HOX.out.below b3)
  have hs3 := b3.size
  replace HB := hide (HB.out.trans (b3.mono HB.out.size))
  clear b3
  have hrow := HOX.out.1
  rw [HXL.out] at hrow
  have fc : ∀ r, r < 4 → w3.cell? ⟨g, j * 4 + r, none⟩ = (pkC (xs.getD j default))[r]? := fun r hr => by
    rw [World.ownsRow.cellAt hrow _ (by omega), flat_get pkC 4 pkC_len _ default j r (by rw [HXL.out]; exact hj) hr]
  have hxj : xs.getD j default ∈ xs := getD_mem xs j (by rw [HXL.out]; exact hj)
  have hpj : (xs.getD j default).1 = ps.getD j default := by
    rw [← HXS.out]
    simp [List.getD, show j < xs.length by rw [HXL.out]; exact hj]
  have ou := HOX.out.2.1 _ hxj
  obtain ⟨au, cu, eu⟩ := own_shape ou
  have HGP := hide (HGD.out _ (getD_mem ps j hj))
  have HSN : Hid (spoilN size ps (j : Int) bit = bif (!(ps.getD j default).s && decide (0 ≤ bit ∧ bit / 8 < ((ps.getD j default).b.length : Int))) then ((size, ps.set j (spoilt (ps.getD j default) bit)), true) else ((size, ps), false)) := hide (by
    unfold spoilN mayN; rw [hyes, asN_yes hnet]; rfl)
  generalize hxe : xs.getD j default = x at *
  have HXE := hide hxe
  clear hxe
  obtain ⟨p, u⟩ := x
  simp only at hpj ou eu
  subst eu
  rw [← hpj] at HGP HSN
  clear hpj
  have HOU := hide ou
  have d0 := fc 0 (by omega)
  have d1 := fc 1 (by omega)
  have d2 := fc 2 (by omega)
  have d3 := fc 3 (by omega)
  rw [Nat.add_zero] at d0
  unfold pkC at d0 d1 d2 d3
  simp only [List.getElem?_cons_zero, List.getElem?_cons_succ] at d0 d1 d2 d3
  clear fc hrow ou
  have f0 := (box_of H8.out).1 0 _ rfl
  have f1 := (box_of H8.out).1 1 _ rfl
  have r0 := (box_of H1.out).1 0 _ rfl
  have r1 := (box_of H1.out).1 1 _ rfl
  have z1 := (box_of H1.out).2
  obtain ⟨f, t, zs, sp⟩ := p
  simp only at *
  cases sp with
  | true =>
    go_wp2
    refine bodyPost_ret (v := .tuple #[.agg #[.int .i64 size, .slice (some ⟨g, 0, none⟩) ps.length c1], .bool false]) (results_ct Try.results17 _ _ _ rfl (load2 (put2 H1.out _ _))) rfl (show ansN w (spoilN size ps (j : Int) bit) _ _ from by
      rw [HSN.out]
      refine ⟨_, rfl, ⟨xs, HXS.out, ?_⟩, (HB.out.setCell (by simp) _).setCell (by simp) _⟩
      refine ((OwnX.same HOX.out (fun q hq _ _ => ?_)).mono (by omega)).up (by simp; omega)
      rw [heap_setCell_other _ _ _ _ (by simp; omega), heap_setCell_other _ _ _ _ (by simp; omega)])
  | false =>
    have HUL : Hid (∀ q, (Value.slice au zs.length cu).ownBlock = some q → q < w3.heap.size) := hide (fun q hq => (HOU.out.lt q hq).2)
    have bP := (Below.refl w3.heap.size w3).alloc (Nat.le_refl _) (.cells #[.int .i64 f, .int .i64 t, .slice au zs.length cu, .bool false] 28)
    have H9 := hide (heap_alloc_new w3 (.cells #[.int .i64 f, .int .i64 t, .slice au zs.length cu, .bool false] 28))
    have hs4 : (w3.alloc (.cells #[.int .i64 f, .int .i64 t, .slice au zs.length cu, .bool false] 28)).heap.size = w3.heap.size + 1 := by simp
    replace HOX := hide (HOX.out.below bP)
    have H8' := hide ((bP.block w1.heap.size (by omega)).trans H8.out)
    have H1' := hide ((bP.block (w.heap.size + 1) (by omega)).trans H1.out)
    replace HOU := hide (HOU.out.below bP)
    replace HB := hide (HB.out.trans (bP.mono HB.out.size))
    clear bP
    go_wp2_with fail
    clear H8 H1 f0 f1 r0 r1 z1 d0 d1 d2 d3
    generalize w3.alloc (.cells #[.int .i64 f, .int .i64 t, .slice au zs.length cu, .bool false] 28) = w4 at *
    refine (turnImpl _ _ _ _ _ _ (in_slice HOU.out HGP.out.1 HGP.out.2 (Nat.le_refl _)).1 HOU.out.cap0 hb).mono ?_
    rintro e w5 ⟨v5, rfl, o5, b5⟩
    obtain ⟨a5, c5, e5⟩ := own_shape o5
    rw [turned_len] at e5
    subst e5
    have hs5 := b5.size
    replace HOX := hide (HOX.out.below b5)
    replace HOU := hide (HOU.out.below b5)
    have H8 := hide ((b5.block w1.heap.size (by omega)).trans H8'.out)
    have H1 := hide ((b5.block (w.heap.size + 1) (by omega)).trans H1'.out)
    replace H9 := hide ((b5.block w3.heap.size (by omega)).trans H9.out)
    replace HB := hide (HB.out.trans (b5.mono HB.out.size))
    clear b5 H8' H1'
    have hk6 : ∀ q, q ≠ w3.heap.size → (w5.setCell ⟨w3.heap.size, 2, none⟩ (.slice a5 zs.length c5)).heap[q]? = w5.heap[q]? := fun q hq => heap_setCell_other _ _ _ _ (by simpa using hq)
    have hs6 : (w5.setCell ⟨w3.heap.size, 2, none⟩ (.slice a5 zs.length c5)).heap.size = w5.heap.size := by simp
    have K9 : Hid ((w5.setCell ⟨w3.heap.size, 2, none⟩ (.slice a5 zs.length c5)).heap[w3.heap.size]? = some (.cells #[.int .i64 f, .int .i64 t, .slice a5 zs.length c5, .bool false] 28 (0, 0))) := hide (heap_setCell_same _ w3.heap.size 2 _ 28 (.slice a5 zs.length c5) H9.out)
    have K8 := hide ((hk6 w1.heap.size (by omega)).trans H8.out)
    have K1 := hide ((hk6 (w.heap.size + 1) (by omega)).trans H1.out)
    have KX := hide (OwnX.same HOX.out (fun q _ hq2 _ => hk6 q (by omega)))
    have KU := hide (HOU.out.same (fun q hq => hk6 q (by have := HUL.out q hq; omega)))
    have K5 := hide (o5.same (fun q hq => hk6 q (by have := (o5.lt q hq).1; omega)))
    have KB : Hid (Below w.heap.size w (w5.setCell ⟨w3.heap.size, 2, none⟩ (.slice a5 zs.length c5))) := hide (HB.out.setCell (by simp; omega) _)
    have e2 := (box_of H9.out).1 2 _ rfl
    have ez := (box_of H9.out).2
    clear hk6 o5
    go_wp2_with fail
    clear e2 ez H9 H8 H1 HOX HOU HB
    generalize w5.setCell ⟨w3.heap.size, 2, none⟩ (.slice a5 zs.length c5) = w6 at *
    have hc : ∀ r, r < 4 → w6.cell? ⟨g, j * 4 + r, none⟩ = (pkC (xs.getD j default))[r]? := fun r hr => by
      have hrow := KX.out.1
      rw [HXL.out] at hrow
      rw [World.ownsRow.cellAt hrow _ (by omega), flat_get pkC 4 pkC_len _ default j r (by rw [HXL.out]; exact hj) hr]
    rw [HXE.out] at hc
    have d0 := hc 0 (by omega)
    have d1 := hc 1 (by omega)
    have d2 := hc 2 (by omega)
    have d3 := hc 3 (by omega)
    rw [Nat.add_zero] at d0
    unfold pkC at d0 d1 d2 d3
    simp only [List.getElem?_cons_zero, List.getElem?_cons_succ] at d0 d1 d2 d3
    have HS : Hid (∀ w', Below w6.heap.size w6 w' → w'.cell? ⟨w3.heap.size, 0, none⟩ = some (.int .i64 f) ∧ w'.cell? ⟨w3.heap.size, 1, none⟩ = some (.int .i64 t) ∧ w'.cell? ⟨w3.heap.size, 2, none⟩ = some (.slice a5 zs.length c5) ∧ w'.cell? ⟨w3.heap.size, 3, none⟩ = some (.bool false) ∧ w'.cell? ⟨w1.heap.size, 1, none⟩ = some (.slice (some ⟨g, 0, none⟩) ps.length c1) ∧ w'.cell? ⟨g, j * 4, none⟩ = some (.int .i64 f) ∧ w'.cell? ⟨g, j * 4 + 1, none⟩ = some (.int .i64 t) ∧ w'.cell? ⟨g, j * 4 + 2, none⟩ = some (.slice au zs.length cu) ∧ w'.cell? ⟨g, j * 4 + 3, none⟩ = some (.bool false)) := hide (fun w' hw => ⟨(hw.cell (p := ⟨w3.heap.size, 0, none⟩) (by dsimp only; omega)).trans ((box_of K9.out).1 0 _ rfl), (hw.cell (p := ⟨w3.heap.size, 1, none⟩) (by dsimp only; omega)).trans ((box_of K9.out).1 1 _ rfl), (hw.cell (p := ⟨w3.heap.size, 2, none⟩) (by dsimp only; omega)).trans ((box_of K9.out).1 2 _ rfl), (hw.cell (p := ⟨w3.heap.size, 3, none⟩) (by dsimp only; omega)).trans ((box_of K9.out).1 3 _ rfl), (hw.cell (p := ⟨w1.heap.size, 1, none⟩) (by dsimp only; omega)).trans ((box_of K8.out).1 1 _ rfl),
      (hw.cell (p := ⟨g, j * 4, none⟩) (by dsimp only; omega)).trans d0, (hw.cell (p := ⟨g, j * 4 + 1, none⟩) (by dsimp only; omega)).trans d1, (hw.cell (p := ⟨g, j * 4 + 2, none⟩) (by dsimp only; omega)).trans d2, (hw.cell (p := ⟨g, j * 4 + 3, none⟩) (by dsimp only; omega)).trans d3⟩)
    clear hc d0 d1 d2 d3
    have HD0 : Hid (Below w6.heap.size w6 w6.drew) := hide (Below.refl w6.heap.size w6).drew
    by_cases hin : 0 ≤ bit ∧ bit / 8 < (zs.length : Int)
    · have hse : ((strOfNums (turned zs bit)).toList == (strOfNums zs).toList) = false := by rw [str_eq _ _ (turned_byt _ _ HGP.out.2) HGP.out.2]; exact decide_eq_false (turned_ne _ _ HGP.out.2 hin.1 hin.2)
      have HIN := hide hin
      clear hin
      go_region_held_law (fun w' => w'.cell? ⟨w3.heap.size, 0, none⟩ = some (.int .i64 f) ∧ w'.cell? ⟨w3.heap.size, 1, none⟩ = some (.int .i64 t) ∧ w'.cell? ⟨w3.heap.size, 2, none⟩ = some (.slice a5 zs.length c5) ∧ w'.cell? ⟨w3.heap.size, 3, none⟩ = some (.bool false) ∧ w'.cell? ⟨w1.heap.size, 1, none⟩ = some (.slice (some ⟨g, 0, none⟩) ps.length c1) ∧ w'.cell? ⟨g, j * 4, none⟩ = some (.int .i64 f) ∧ w'.cell? ⟨g, j * 4 + 1, none⟩ = some (.int .i64 t) ∧ w'.cell? ⟨g, j * 4 + 2, none⟩ = some (.slice au zs.length cu) ∧ w'.cell? ⟨g, j * 4 + 3, none⟩ = some (.bool false))
        (first | exact HS.out _ HD2.out | exact HS.out _ HD1.out | exact HS.out _ HD0.out)
        (first
          | (refine step_callTo (some 36) rfl rfl 38 _ _ rfl #[pkV ⟨f, t, turned zs bit, false⟩ (.slice a5 zs.length c5)] (by kernel_rfl) (valPk _ w4.heap.size ⟨f, t, turned zs bit, false⟩ _ (K5.out.below HD0.out)) ?_; rintro e x1 ⟨rfl, b1⟩; refine ⟨_, rfl, ?_⟩; have HD1 : Hid (Below w6.heap.size w6 x1) := hide (HD0.out.trans (b1.mono HD0.out.size)); clear b1; unfold pvV)
          | (refine step_callTo (some 42) rfl rfl 38 _ _ rfl #[pkV ⟨f, t, zs, false⟩ (.slice au zs.length cu)] (by kernel_rfl) (valPk _ (w.heap.size + 1 + 1) ⟨f, t, zs, false⟩ _ (KU.out.below HD1.out)) ?_; rintro e x2 ⟨rfl, b2⟩; refine ⟨_, rfl, ?_⟩; have HD2 : Hid (Below w6.heap.size w6 x2) := hide (HD1.out.trans (b2.mono HD1.out.size)); clear b2; unfold pvV)
          | fail)
      have E8 := hide ((HD2.out.block w1.heap.size (by omega)).trans K8.out)
      have E1 := hide ((HD2.out.block (w.heap.size + 1) (by omega)).trans K1.out)
      have EX := hide (KX.out.below HD2.out)
      have EB := hide (KB.out.trans (HD2.out.mono KB.out.size))
      have hs7 := HD2.out.size
      have f0 := (box_of E8.out).1 0 _ rfl
      have f1 := (box_of E8.out).1 1 _ rfl
      have r0 := (box_of E1.out).1 0 _ rfl
      have r1 := (box_of E1.out).1 1 _ rfl
      have z1 := (box_of E1.out).2
      have HV : Hid (spoilN size ps (j : Int) bit = ((size, ps.set j ⟨f, t, turned zs bit, true⟩), true)) := hide (by
        rw [HSN.out]
        show (bif (!false && decide (0 ≤ bit ∧ bit / 8 < (zs.length : Int))) then _ else _) = _
        rw [decide_eq_true HIN.out]; rfl)
      have E9 := hide ((HD2.out.block w3.heap.size (by omega)).trans K9.out)
      have hk7 : ∀ q, q ≠ w3.heap.size → (x2.setCell ⟨w3.heap.size, 3, none⟩ (.bool true)).heap[q]? = x2.heap[q]? := fun q hq => heap_setCell_other _ _ _ _ (by simpa using hq)
      have L5 : Own (x2.setCell ⟨w3.heap.size, 3, none⟩ (.bool true)) w4.heap.size (.slice a5 zs.length c5) (turned zs bit) := (K5.out.below HD2.out).same (fun q hq => hk7 q (by have := (K5.out.lt q hq).1; omega))
      have LX : OwnX (x2.setCell ⟨w3.heap.size, 3, none⟩ (.bool true)) _ _ _ xs := (OwnX.same EX.out (fun q _ hq2 _ => hk7 q (by omega))).up (hi' := x2.heap.size) (by omega)
      obtain ⟨_, q2, q3⟩ := OwnX.put LX HXL.out j hj ⟨f, t, turned zs bit, true⟩ (.slice a5 zs.length c5) (L5.mono (by omega)) (fun q hq => by
        have h5 := L5.lt q hq
        simp only [World.size_setCell] at h5
        refine ⟨by omega, fun x hx hxq => ?_, by omega⟩
        have := hhi.out x hx q hxq
        omega)
      have Q3 := hide q3
      clear q3 L5 LX hk7
      obtain ⟨s0, s1, s2, s3, _, d0, d1, d2, d3⟩ := HS.out x2 HD2.out
      have sz := (box_of E9.out).2
      have zg : ∀ r, x2.frozen? ⟨g, r, none⟩ = false := fun r => by
        have hr := EX.out.1
        rw [HXL.out] at hr
        exact World.ownsRow.frozenAt hr r
      have n1 : w1.heap.size ≠ w3.heap.size := by omega
      have n2 : g ≠ w3.heap.size := by omega
      have n3 : w3.heap.size ≠ g := by omega
      have n4 : w1.heap.size ≠ g := by omega
      have n5 : g ≠ w1.heap.size := by omega
      have n6 : w.heap.size + 1 ≠ g := by omega
      have n7 : w.heap.size + 1 ≠ w3.heap.size := by omega
      have n8 : w.heap.size + 1 ≠ w1.heap.size := by omega
      clear HD0 HD1 HS hse q2
      go_wp2
      refine bodyPost_ret (v := .tuple #[.agg #[.int .i64 size, .slice (some ⟨g, 0, none⟩) ps.length c1], .bool true]) (results_ct Try.results17 _ _ _ rfl (load2 (put2 (a0 := .int .i64 0) (a1 := .slice none 0 0) ?_ _ _))) rfl (show ansN w (spoilN size ps (j : Int) bit) _ _ from by
        rw [HV.out]
        refine ⟨_, rfl, ⟨xs.set j (⟨f, t, turned zs bit, true⟩, .slice a5 zs.length c5), by rw [List.map_set, HXS.out], ?_⟩, ((((((EB.out.setCell (by dsimp only; omega) _).setCell (by dsimp only; omega) _).setCell (by dsimp only; omega) _).setCell (by dsimp only; omega) _).setCell (by dsimp only; omega) _).setCell (by dsimp only; omega) _).setCell (by dsimp only; omega) _⟩
        refine ((OwnX.same Q3.out (fun q hq _ _ => ?_)).mono (by omega)).up (by simp)
        rw [heap_setCell_other _ _ _ _ (by simp; omega), heap_setCell_other _ _ _ _ (by simp; omega)])
      rw [heap_setCell_other _ _ _ _ (by dsimp only; omega), heap_setCell_other _ _ _ _ (by dsimp only; omega), heap_setCell_other _ _ _ _ (by dsimp only; omega), heap_setCell_other _ _ _ _ (by dsimp only; omega), heap_setCell_other _ _ _ _ (by dsimp only; omega)]
      exact E1.out
    · have hse : ((strOfNums (turned zs bit)).toList == (strOfNums zs).toList) = true := by rw [str_eq _ _ (turned_byt _ _ HGP.out.2) HGP.out.2]; exact decide_eq_true (turned_out _ _ (by omega))
      have HIN := hide hin
      clear hin
      go_region_held_law (fun w' => w'.cell? ⟨w3.heap.size, 0, none⟩ = some (.int .i64 f) ∧ w'.cell? ⟨w3.heap.size, 1, none⟩ = some (.int .i64 t) ∧ w'.cell? ⟨w3.heap.size, 2, none⟩ = some (.slice a5 zs.length c5) ∧ w'.cell? ⟨w3.heap.size, 3, none⟩ = some (.bool false) ∧ w'.cell? ⟨w1.heap.size, 1, none⟩ = some (.slice (some ⟨g, 0, none⟩) ps.length c1) ∧ w'.cell? ⟨g, j * 4, none⟩ = some (.int .i64 f) ∧ w'.cell? ⟨g, j * 4 + 1, none⟩ = some (.int .i64 t) ∧ w'.cell? ⟨g, j * 4 + 2, none⟩ = some (.slice au zs.length cu) ∧ w'.cell? ⟨g, j * 4 + 3, none⟩ = some (.bool false))
        (first | exact HS.out _ HD2.out | exact HS.out _ HD1.out | exact HS.out _ HD0.out)
        (first
          | (refine step_callTo (some 36) rfl rfl 38 _ _ rfl #[pkV ⟨f, t, turned zs bit, false⟩ (.slice a5 zs.length c5)] (by kernel_rfl) (valPk _ w4.heap.size ⟨f, t, turned zs bit, false⟩ _ (K5.out.below HD0.out)) ?_; rintro e x1 ⟨rfl, b1⟩; refine ⟨_, rfl, ?_⟩; have HD1 : Hid (Below w6.heap.size w6 x1) := hide (HD0.out.trans (b1.mono HD0.out.size)); clear b1; unfold pvV)
          | (refine step_callTo (some 42) rfl rfl 38 _ _ rfl #[pkV ⟨f, t, zs, false⟩ (.slice au zs.length cu)] (by kernel_rfl) (valPk _ (w.heap.size + 1 + 1) ⟨f, t, zs, false⟩ _ (KU.out.below HD1.out)) ?_; rintro e x2 ⟨rfl, b2⟩; refine ⟨_, rfl, ?_⟩; have HD2 : Hid (Below w6.heap.size w6 x2) := hide (HD1.out.trans (b2.mono HD1.out.size)); clear b2; unfold pvV)
          | fail)
      have E8 := hide ((HD2.out.block w1.heap.size (by omega)).trans K8.out)
      have E1 := hide ((HD2.out.block (w.heap.size + 1) (by omega)).trans K1.out)
      have EX := hide (KX.out.below HD2.out)
      have EB := hide (KB.out.trans (HD2.out.mono KB.out.size))
      have hs7 := HD2.out.size
      have f0 := (box_of E8.out).1 0 _ rfl
      have f1 := (box_of E8.out).1 1 _ rfl
      have r0 := (box_of E1.out).1 0 _ rfl
      have r1 := (box_of E1.out).1 1 _ rfl
      have z1 := (box_of E1.out).2
      have HV : Hid (spoilN size ps (j : Int) bit = ((size, ps), false)) := hide (by
        rw [HSN.out]
        show (bif (!false && decide (0 ≤ bit ∧ bit / 8 < (zs.length : Int))) then _ else _) = _
        rw [decide_eq_false HIN.out]; rfl)
      clear HD0 HD1 HS hse
      go_wp2
      refine bodyPost_ret (v := .tuple #[.agg #[.int .i64 size, .slice (some ⟨g, 0, none⟩) ps.length c1], .bool false]) (results_ct Try.results17 _ _ _ rfl (load2 (put2 E1.out _ _))) rfl (show ansN w (spoilN size ps (j : Int) bit) _ _ from by
        rw [HV.out]
        refine ⟨_, rfl, ⟨xs, HXS.out, ?_⟩, (EB.out.setCell (by simp) _).setCell (by simp) _⟩
        refine ((OwnX.same EX.out (fun q hq _ _ => ?_)).mono (by omega)).up (by simp; omega)
        rw [heap_setCell_other _ _ _ _ (by simp; omega), heap_setCell_other _ _ _ _ (by simp; omega)])
end Go.Proofs.Ytmlbemcblgnbjaa
