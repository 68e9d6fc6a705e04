/-
  What Take does in the program.
-/
import Derived.Test.YtmlbemcblgnbjaaNetTwoS
namespace Go.Proofs.Ytmlbemcblgnbjaa
open Go.RowKit

def zeroP : Pk := ⟨0, 0, [], false⟩
/-- What Take answers. -/
def takeN (size : Int) (ps : List Pk) (i : Int) : ((Int × List Pk) × Pk) × Bool :=
  bif hasN size ps i then (((size, ps.take i.toNat ++ ps.drop (i.toNat + 1)), ps.getD i.toNat default), true) else ((asN size ps, zeroP), false)
theorem takeN_yes {size : Int} {ps : List Pk} {i : Int} (h : hasN size ps i = true) : takeN size ps i = (((size, ps.take i.toNat ++ ps.drop (i.toNat + 1)), ps.getD i.toNat default), true) := by unfold takeN; rw [h]; rfl
theorem takeN_no {size : Int} {ps : List Pk} {i : Int} (h : hasN size ps i = false) : takeN size ps i = ((asN size ps, zeroP), false) := by unfold takeN; rw [h]; rfl

/-- An answer: a net and a packet, each of its own, apart. -/
def ansT (w : World) (r : ((Int × List Pk) × Pk) × Bool) (e : Ending) (w' : World) : Prop := ∃ v u b hi, e = .returned (.tuple #[netV r.1.1.1 v, pkV r.1.2 u, .bool r.2]) ∧ w.heap.size ≤ b ∧ hi ≤ w'.heap.size ∧ OwnP w' b hi v r.1.1.2 ∧ Own w' w.heap.size u r.1.2.b ∧
  (∀ q, u.ownBlock = some q → q < b ∨ hi ≤ q) ∧ Below w.heap.size w w'

theorem cell_setNe {w : World} {a p : Addr} {v : Value} (h : p.block ≠ a.block) : (w.setCell a v).cell? p = w.cell? p := World.cell?_of_block (w := w) (heap_setCell_other _ _ _ _ h)
theorem heap_set6 {w : World} {g g' q : Nat} {y0 y1 z0 z1 z2 z3 : Value} (hne : q ≠ g) (hne' : q ≠ g') :
    ((((((w.setCell ⟨g, 0, none⟩ y0).setCell ⟨g, 1, none⟩ y1).setCell ⟨g', 0, none⟩ z0).setCell ⟨g', 1, none⟩ z1).setCell ⟨g', 2, none⟩ z2).setCell ⟨g', 3, none⟩ z3).heap[q]? = w.heap[q]? :=
  (heap_setCell_other _ _ _ _ hne').trans ((heap_setCell_other _ _ _ _ hne').trans ((heap_setCell_other _ _ _ _ hne').trans ((heap_setCell_other _ _ _ _ hne').trans ((heap_setCell_other _ _ _ _ hne).trans (heap_setCell_other _ _ _ _ hne)))))
theorem below_set6 {B : Nat} {w0 w : World} (h : Below B w0 w) {g g' : Nat} {y0 y1 z0 z1 z2 z3 : Value} (h1 : B ≤ g) (h2 : B ≤ g') :
    Below B w0 ((((((w.setCell ⟨g, 0, none⟩ y0).setCell ⟨g, 1, none⟩ y1).setCell ⟨g', 0, none⟩ z0).setCell ⟨g', 1, none⟩ z1).setCell ⟨g', 2, none⟩ z2).setCell ⟨g', 3, none⟩ z3) :=
  (((((h.setCell (p := ⟨g, 0, none⟩) h1 _).setCell (p := ⟨g, 1, none⟩) h1 _).setCell (p := ⟨g', 0, none⟩) h2 _).setCell (p := ⟨g', 1, none⟩) h2 _).setCell (p := ⟨g', 2, none⟩) h2 _).setCell (p := ⟨g', 3, none⟩) h2 _
/-- A net and a packet stored into two variables. -/
theorem res6 {w : World} {g g' : Nat} {T T' : TypeId} {a0 a1 c0 c1 c2 c3 : Value} (h : w.heap[g]? = some (.cells #[a0, a1] T (0, 0))) (h' : w.heap[g']? = some (.cells #[c0, c1, c2, c3] T' (0, 0))) (hne : g ≠ g') (y0 y1 z0 z1 z2 z3 : Value) :
    ((((((w.setCell ⟨g, 0, none⟩ y0).setCell ⟨g, 1, none⟩ y1).setCell ⟨g', 0, none⟩ z0).setCell ⟨g', 1, none⟩ z1).setCell ⟨g', 2, none⟩ z2).setCell ⟨g', 3, none⟩ z3).heap[g]? = some (.cells #[y0, y1] T (0, 0)) ∧
    ((((((w.setCell ⟨g, 0, none⟩ y0).setCell ⟨g, 1, none⟩ y1).setCell ⟨g', 0, none⟩ z0).setCell ⟨g', 1, none⟩ z1).setCell ⟨g', 2, none⟩ z2).setCell ⟨g', 3, none⟩ z3).heap[g']? = some (.cells #[z0, z1, z2, z3] T' (0, 0)) := by
  constructor
  · rw [heap_setCell_other _ _ _ _ hne, heap_setCell_other _ _ _ _ hne, heap_setCell_other _ _ _ _ hne, heap_setCell_other _ _ _ _ hne]
    exact put2 h _ _
  · exact put4 (((heap_setCell_other _ _ _ _ hne.symm).trans (heap_setCell_other _ _ _ _ hne.symm)).trans h') _ _ _ _

theorem step_callTo {P : Program} {ops : Array Oper} {o : Oper} {a : Act} {w : World} {K : Act → World → Prop} {Q : Exit → Act → World → Prop} {E : Prop} {R : Ending → World → Prop} (d : Option Tmp) (hd : o.dst = d) (hgd : o.guard = none)
    (f : FuncId) (xs : Array Operand) (ts : Array TypeId) (ho : o.op = .call { callee := .value (.func f), args := xs, argTypes := ts }) (args : Array Value) (hrun : (execOp a.eval o).run P w = .ok (.enter f args) w) (hc : Calls P f args w R) (h : ∀ e w', R e w' → ∃ v, e = .returned v ∧ K (a.put d v) w') :
    if Region.wanted o (yielded ops a.tmps) = true then Oper.wp P o a w K Q else E := by
  subst hd
  exact step_call hgd f xs ts ho args hrun hc h
theorem step_catTo {w : World} {ops : Array Oper} {o : Oper} {act : Act} {K : Act → World → Prop} {Q : Exit → Act → World → Prop} {E : Prop} (d : Option Tmp) (hd : o.dst = d) (hgd : o.guard = none) (s x : Operand)
    (ho : o.op = .call { callee := .builtin .append, args := #[s, x], argTypes := #[24, 24] }) (B2 B n m c : Nat) (a : Option Addr) (ad : Addr) (ps qs : List Pk) (hs : act.eval s = .slice a n n) (hx : act.eval x = .slice (some ad) m c)
    (h1 : RdP w B (.slice a n n) ps) (h2 : RdQ w B2 B (.slice (some ad) m c) qs) (hB : B ≤ w.heap.size) (hl : ps.length + qs.length ≤ 3000000) (N : Nat) (hN : ps.length + qs.length = N)
    (h : ∀ a' c' w', Lasts w' B w.heap.size (.slice a' N c') (ps ++ qs) → Below w.heap.size w w' → K (act.put d (.slice a' N c')) w') :
    if Region.wanted o (yielded ops act.tmps) = true then Oper.wp Try.prog o act w K Q else E := by
  subst hd
  exact step_cat hgd s x ho B2 B n m c a ad ps qs hs hx h1 h2 hB hl N hN h

attribute [local go_sem ↓] Go.wp_at_zero Go.wp_at_succ
set_option maxRecDepth 100000 in
set_option maxHeartbeats 8000000 in
theorem takeImpl (w : World) (size : Int) (v : Value) (ps : List Pk) (i : Int) (h : RdP w w.heap.size v ps) (hm : ps.length ≤ 1048576) :
    Calls Try.prog 10 #[netV size v, .int .i64 i] w (ansT w (takeN size ps i)) := by
  have HR := hide h
  obtain ⟨a, cap, rfl, hcap, hca, _⟩ := pk_at h
  clear h
  unfold netV
  have HB := hide ((((Below.refl w.heap.size w).alloc (Nat.le_refl _) (.cells #[.int .i64 size, .slice a ps.length cap] 26)).alloc (by simp) (.cells #[.int .i64 0, .slice none 0 0] 26)).alloc (by simp; omega) (.cells #[.int .i64 0, .int .i64 0, .slice none 0 0, .bool false] 28))
  have HE0 := hide ((Below.heap_alloc ((w.alloc (.cells #[.int .i64 size, .slice a ps.length cap] 26)).alloc (.cells #[.int .i64 0, .slice none 0 0] 26)) (.cells #[.int .i64 0, .int .i64 0, .slice none 0 0, .bool false] 28) w.heap.size (by simp; omega)).trans ((Below.heap_alloc (w.alloc (.cells #[.int .i64 size, .slice a ps.length cap] 26)) (.cells #[.int .i64 0, .slice none 0 0] 26) w.heap.size (by simp)).trans (heap_alloc_new w (.cells #[.int .i64 size, .slice a ps.length cap] 26))))
  have HE1 := hide ((Below.heap_alloc ((w.alloc (.cells #[.int .i64 size, .slice a ps.length cap] 26)).alloc (.cells #[.int .i64 0, .slice none 0 0] 26)) (.cells #[.int .i64 0, .int .i64 0, .slice none 0 0, .bool false] 28) (w.heap.size + 1) (by simp)).trans (by have := heap_alloc_new (w.alloc (.cells #[.int .i64 size, .slice a ps.length cap] 26)) (.cells #[.int .i64 0, .slice none 0 0] 26); simp only [World.size_alloc] at this; exact this))
  have HE2 := hide (heap_alloc_new ((w.alloc (.cells #[.int .i64 size, .slice a ps.length cap] 26)).alloc (.cells #[.int .i64 0, .slice none 0 0] 26)) (.cells #[.int .i64 0, .int .i64 0, .slice none 0 0, .bool false] 28))
  have hsz : (((w.alloc (.cells #[.int .i64 size, .slice a ps.length cap] 26)).alloc (.cells #[.int .i64 0, .slice none 0 0] 26)).alloc (.cells #[.int .i64 0, .int .i64 0, .slice none 0 0, .bool false] 28)).heap.size = w.heap.size + 1 + 1 + 1 := by simp
  simp only [World.size_alloc] at HE2
  have HS := hide hsz
  clear hsz
  go_enter Try.func10, Try.ntmps10
  go_wp2_with fail
  generalize ((w.alloc (.cells #[.int .i64 size, .slice a ps.length cap] 26)).alloc (.cells #[.int .i64 0, .slice none 0 0] 26)).alloc (.cells #[.int .i64 0, .int .i64 0, .slice none 0 0, .bool false] 28) = w0 at *
  refine (hasPk _ size _ ps i _ (HR.out.at HB.out) (Nat.le_refl _) hm).mono ?_
  rintro e w1 ⟨rfl, b1⟩
  have E0 := (b1.block w.heap.size (by have := HS.out; omega)).trans HE0.out
  have E1 := (b1.block (w.heap.size + 1) (by have := HS.out; omega)).trans HE1.out
  have E2 := (b1.block (w.heap.size + 1 + 1) (by have := HS.out; omega)).trans HE2.out
  have hs1 : w.heap.size + 1 + 1 + 1 ≤ w1.heap.size := by have := HS.out; have := b1.size; omega
  replace HB := hide (HB.out.trans (b1.mono HB.out.size))
  clear b1 HE0 HE1 HE2 HS
  have f0 := (box_of E0).1 0 _ rfl
  have f1 := (box_of E0).1 1 _ rfl
  have H1 := hide E1
  have H2 := hide E2
  clear E0 E1 E2
  cases hok : (netOk size ps && inB i 0 ((ps.length : Int) - 1)) with
  | false =>
    have hok2 : hasN size ps i = false := hok
    go_wp2_with fail
    refine (asWas _ size _ ps _ (HR.out.at HB.out) (Nat.le_refl _) hm).mono ?_
    rintro e w2 ⟨v2, rfl, o2, b2⟩
    obtain ⟨a2, c2, rfl⟩ := o2.shape
    have HO := hide o2
    have E1 := (b2.block (w.heap.size + 1) (by omega)).trans H1.out
    have E2 := (b2.block (w.heap.size + 1 + 1) (by omega)).trans H2.out
    have hs2 := b2.size
    replace HB := hide (HB.out.trans (b2.mono HB.out.size))
    clear b2 o2 H1 H2 f0 f1
    have r0 := (box_of E1).1 0 _ rfl
    have r1 := (box_of E1).1 1 _ rfl
    have z1 := (box_of E1).2
    have k0 := (box_of E2).1 0 _ rfl
    have k1 := (box_of E2).1 1 _ rfl
    have k2 := (box_of E2).1 2 _ rfl
    have k3 := (box_of E2).1 3 _ rfl
    have z2 := (box_of E2).2
    have HE := hide (res6 E1 E2 (by omega))
    clear E1 E2
    unfold netV
    go_wp2
    refine bodyPost_ret (v := .tuple #[.agg #[.int .i64 (asN size ps).1, .slice a2 (asN size ps).2.length c2], .agg #[.int .i64 0, .int .i64 0, .slice none 0 0, .bool false], .bool false]) (results_cct Try.results10 _ _ _ rfl rfl (load2 (HE.out _ _ _ _ _ _).1) (load4 (HE.out _ _ _ _ _ _).2)) rfl (show ansT w (takeN size ps i) _ _ from by
      rw [takeN_no hok2]
      refine ⟨_, .slice none 0 0, w1.heap.size, w2.heap.size, rfl, by omega, by simp, ?_, World.ownsRow_nil _ _ _ _, fun q hq => (by cases hq), below_set6 HB.out (by omega) (by omega)⟩
      exact OwnP.same HO.out (fun q hq _ _ => heap_set6 (by omega) (by omega)))
  | true =>
    have hok2 : hasN size ps i = true := hok
    obtain ⟨j, rfl, hj, hnet⟩ := hasN_at hok2
    obtain ⟨a', cap', ea, _, _, hx⟩ := pk_at (HR.out.low HB.out (Nat.le_refl _))
    cases ea
    obtain ⟨b, o, rfl, hb, hc⟩ := hx (by omega)
    obtain ⟨a2, c2, e0, e1, e2, e3, hc0, hin⟩ := hc j hj
    have HGJ : Hid (takeN size ps (j : Int) = (((size, ps.take j ++ ps.drop (j + 1)), ps.getD j default), true)) := hide (by rw [takeN_yes hok2]; rfl)
    have HBT := hide (show Bt w1 w1.heap.size (.slice a2 (ps.getD j default).b.length c2) (ps.getD j default).b from ⟨a2, c2, rfl, hc0, hin.up (by omega)⟩)
    have HT1 := hide (show RdP w1.drew w1.heap.size (.slice (some ⟨b, o, none⟩) j j) (ps.take j) from ((HR.out.at HB.out).take (i := j) (m := j) (by omega) (Nat.le_refl _) (by omega)).drewN 1)
    have HT2 := hide (show RdQ w1.drew w1.heap.size w1.heap.size (.slice (some (if cap = j + 1 then ⟨b, o, none⟩ else ⟨b, o + (j + 1) * 4, none⟩)) (ps.length - (j + 1)) (cap - (j + 1))) (ps.drop (j + 1)) from ((HR.out.at HB.out).drop (i := j + 1) (by omega)).drewN 1)
    obtain ⟨qs, hqs⟩ : ∃ qs, ps.take j ++ ps.drop (j + 1) = qs := ⟨_, rfl⟩
    have hl1 : Hid ((ps.take j).length + (ps.drop (j + 1)).length = qs.length) := hide (by rw [← hqs, List.length_append])
    have hql : qs.length ≤ 1048576 := by rw [← hqs]; simp; omega
    have HQS := hide hqs
    rw [hqs] at HGJ
    clear hqs
    clear hc hx hin hc0
    generalize ps.getD j default = p at *
    have hj1 : (j : Int) + 1 ≤ (ps.length : Int) := by omega
    have hw1 : IntKind.i64.wrap ((j : Int) + 1) = (j : Int) + 1 := by rw [IntKind.wrap_i64]; omega
    have ht1 : ((j : Int) + 1).toNat = j + 1 := by omega
    go_wp2_with fail
    go_cut [7] from 15 to 24 (fun s wq => ∃ a3 c3, s = .slice a3 qs.length c3 ∧ Hid (RdP wq wq.heap.size (.slice a3 qs.length c3) qs) ∧ Hid (Below w1.heap.size w1 wq))
    case first =>
      by_cases hcj : cap = j + 1
      · subst hcj
        rw [if_pos rfl, Nat.sub_self, show ps.length - (j + 1) = 0 from by omega] at HT2
        go_region_held_law (fun w' => w'.cell? ⟨w.heap.size, 1, none⟩ = some (.slice (some ⟨b, o, none⟩) ps.length (j + 1))) (go_keep)
          (first
            | (refine step_callTo (some 18) rfl rfl 24 _ _ rfl #[.slice (some ⟨b, o, none⟩) ps.length (j + 1), .int .i64 (j : Int)] (by kernel_rfl) (firstPks _ (some ⟨b, o, none⟩) ps.length _ j (by omega) (by simp)) ?_; rintro e w9 ⟨rfl, hw9⟩; subst w9; refine ⟨_, rfl, ?_⟩)
            | (refine step_catTo (w := w1.drew) (some 24) rfl rfl _ _ rfl w1.heap.size w1.heap.size j 0 0 (some ⟨b, o, none⟩) ⟨b, o, none⟩ (ps.take j) (ps.drop (j + 1)) (by rfl) (by rfl) HT1.out HT2.out (Nat.le_refl _) (by rw [hl1.out]; omega) qs.length hl1.out ?_; intro a3 c3 w3 r3 b3; rw [HQS.out] at r3; have bB := below_of_drew b3; have q1 := (bB.cell (p := ⟨w.heap.size, 1, none⟩) (by simp; omega)).trans f1; have F2 := hide (r3 w3 (Nat.le_refl _) (fun _ _ _ => rfl)); have F3 := hide bB; clear r3 b3 bB))
        all_goals (go_wp2_with fail; go_meet; exact ⟨a3, c3, rfl, F2, F3⟩)
      · rw [if_neg hcj] at HT2
        go_region_held_law (fun w' => w'.cell? ⟨w.heap.size, 1, none⟩ = some (.slice (some ⟨b, o, none⟩) ps.length cap)) (go_keep)
          (first
            | (refine step_callTo (some 18) rfl rfl 24 _ _ rfl #[.slice (some ⟨b, o, none⟩) ps.length cap, .int .i64 (j : Int)] (by kernel_rfl) (firstPks _ (some ⟨b, o, none⟩) ps.length _ j (by omega) (by simp)) ?_; rintro e w9 ⟨rfl, hw9⟩; subst w9; refine ⟨_, rfl, ?_⟩)
            | (refine step_catTo (w := w1.drew) (some 24) rfl rfl _ _ rfl w1.heap.size w1.heap.size j (ps.length - (j + 1)) (cap - (j + 1)) (some ⟨b, o, none⟩) ⟨b, o + (j + 1) * 4, none⟩ (ps.take j) (ps.drop (j + 1)) (by rfl) (by rfl) HT1.out HT2.out (Nat.le_refl _) (by rw [hl1.out]; omega) qs.length hl1.out ?_; intro a3 c3 w3 r3 b3; rw [HQS.out] at r3; have bB := below_of_drew b3; have q1 := (bB.cell (p := ⟨w.heap.size, 1, none⟩) (by simp; omega)).trans f1; have F2 := hide (r3 w3 (Nat.le_refl _) (fun _ _ _ => rfl)); have F3 := hide bB; clear r3 b3 bB))
        all_goals (go_wp2_with fail; go_meet; exact ⟨a3, c3, rfl, F2, F3⟩)
    case rest =>
      obtain ⟨a3, c3, rfl, HQ, HW⟩ := hcut
      have hw2 := HW.out.size
      have HB2 := hide (HB.out.trans (HW.out.mono HB.out.size))
      have K0 := (HW.out.cell (p := ⟨w.heap.size, 0, none⟩) (by simp; omega)).trans f0
      have K1 := (HW.out.cell (p := ⟨w.heap.size, 1, none⟩) (by simp; omega)).trans f1
      have K2 := (HW.out.cell (p := ⟨b, o + j * 4, none⟩) (by simp; omega)).trans e0
      have K3 := (HW.out.cell (p := ⟨b, o + j * 4 + 1, none⟩) (by simp; omega)).trans e1
      have K4 := (HW.out.cell (p := ⟨b, o + j * 4 + 2, none⟩) (by simp; omega)).trans e2
      have K5 := (HW.out.cell (p := ⟨b, o + j * 4 + 3, none⟩) (by simp; omega)).trans e3
      have G1 := hide ((HW.out.block (w.heap.size + 1) (by omega)).trans H1.out)
      have G2 := hide ((HW.out.block (w.heap.size + 1 + 1) (by omega)).trans H2.out)
      replace HBT := hide (HBT.out.at HW.out)
      clear f0 f1 e0 e1 e2 e3 H1 H2 HT1 HT2
      have HQD := hide (HQ.out.drewN 1)
      have n1 : b ≠ w.heap.size + 1 := by omega
      have n2 : b ≠ w.heap.size + 1 + 1 := by omega
      go_wp2_with fail
      go_region_held_law (fun w' => w'.cell? ⟨w.heap.size, 0, none⟩ = some (.int .i64 size) ∧ w'.cell? ⟨w.heap.size, 1, none⟩ = some (.slice (some ⟨b, o, none⟩) ps.length cap) ∧ w'.cell? ⟨b, o + j * 4, none⟩ = some (.int .i64 p.f) ∧ w'.cell? ⟨b, o + j * 4 + 1, none⟩ = some (.int .i64 p.t) ∧ w'.cell? ⟨b, o + j * 4 + 2, none⟩ = some (.slice a2 p.b.length c2) ∧ w'.cell? ⟨b, o + j * 4 + 3, none⟩ = some (.bool p.s))
        (first | (refine ⟨?_, ?_, ?_, ?_, ?_, ?_⟩ <;> ((repeat rw [cell_setNe (by dsimp only; omega)]) <;> assumption)) | (go_keep; done))
        (first
          | (refine step_callTo (w := wc.drew) (some 29) rfl rfl 26 _ _ rfl #[netV size (.slice a3 qs.length c3)] (by kernel_rfl) (copyNetI wc.drew size _ qs _ HQD.out (Nat.le_refl _) hql) ?_; rintro e w4 ⟨v4, rfl, o4, b4⟩; refine ⟨_, rfl, ?_⟩; obtain ⟨av, cv, rfl⟩ := o4.shape; have bB := below_of_drew b4; have hs4 := bB.size; have HO4 : Hid (OwnP w4 wc.heap.size w4.heap.size (.slice av qs.length cv) qs) := o4; have HT4 := hide (HBT.out.at bB);
              have k0 := (bB.cell (p := ⟨w.heap.size, 0, none⟩) (by simp; omega)).trans K0; have k1 := (bB.cell (p := ⟨w.heap.size, 1, none⟩) (by simp; omega)).trans K1; have k2 := (bB.cell (p := ⟨b, o + j * 4, none⟩) (by simp; omega)).trans K2; have k3 := (bB.cell (p := ⟨b, o + j * 4 + 1, none⟩) (by simp; omega)).trans K3; have k4 := (bB.cell (p := ⟨b, o + j * 4 + 2, none⟩) (by simp; omega)).trans K4; have k5 := (bB.cell (p := ⟨b, o + j * 4 + 3, none⟩) (by simp; omega)).trans K5;
              have HB4 := hide (HB2.out.trans (bB.mono HB2.out.size)); have G14 := hide ((bB.block (w.heap.size + 1) (by omega)).trans G1.out); have G24 := hide ((bB.block (w.heap.size + 1 + 1) (by omega)).trans G2.out); clear o4 b4 bB; unfold netV)
          | (refine step_callTo (w := w4) (some 35) rfl rfl 34 _ _ rfl #[pkV p (.slice a2 p.b.length c2)] (by kernel_rfl) (copyPkI w4 p _ HT4.out) ?_; rintro e w5 ⟨u5, rfl, o5, b5⟩; refine ⟨_, rfl, ?_⟩; obtain ⟨au, cu, rfl⟩ := own_shape o5; have hs5 := b5.size; have HU5 := hide o5;
              have l0 := (b5.cell (p := ⟨w.heap.size, 0, none⟩) (by simp; omega)).trans k0; have l1 := (b5.cell (p := ⟨w.heap.size, 1, none⟩) (by simp; omega)).trans k1; have l2 := (b5.cell (p := ⟨b, o + j * 4, none⟩) (by simp; omega)).trans k2; have l3 := (b5.cell (p := ⟨b, o + j * 4 + 1, none⟩) (by simp; omega)).trans k3; have l4 := (b5.cell (p := ⟨b, o + j * 4 + 2, none⟩) (by simp; omega)).trans k4; have l5 := (b5.cell (p := ⟨b, o + j * 4 + 3, none⟩) (by simp; omega)).trans k5;
              have F1 : Hid (∃ bb hh, w.heap.size + 1 + 1 + 1 ≤ bb ∧ hh ≤ w5.heap.size ∧ OwnP w5 bb hh (.slice av qs.length cv) qs ∧ Own w5 (w.heap.size + 1 + 1 + 1) (.slice au p.b.length cu) p.b ∧ ∀ q, (Value.slice au p.b.length cu).ownBlock = some q → q < bb ∨ hh ≤ q) := hide ⟨wc.heap.size, w4.heap.size, by omega, hs5, HO4.out.below b5, o5.mono (by omega), fun q hq => .inr (o5.lt q hq).1⟩;
              have F2 := hide (HB4.out.trans (b5.mono HB4.out.size)); have G15 := hide ((b5.block (w.heap.size + 1) (by omega)).trans G14.out); have G25 := hide ((b5.block (w.heap.size + 1 + 1) (by omega)).trans G24.out);
              have r0 := (box_of G15.out).1 0 _ rfl; have r1 := (box_of G15.out).1 1 _ rfl; have rz := (box_of G15.out).2; have t0 := (box_of G25.out).1 0 _ rfl; have t1 := (box_of G25.out).1 1 _ rfl; have t2 := (box_of G25.out).1 2 _ rfl; have t3 := (box_of G25.out).1 3 _ rfl; have tz := (box_of G25.out).2; clear o5 b5; unfold pkV)
          | fail)
      all_goals (
        have HE := hide (res6 G15.out G25.out (by omega))
        clear K0 K1 K2 K3 K4 K5 k0 k1 k2 k3 k4 k5 l0 l1 l2 l3 l4 l5 r0 r1 rz t0 t1 t2 t3 tz
        go_wp2
        refine bodyPost_ret (v := .tuple #[.agg #[.int .i64 size, .slice av qs.length cv], .agg #[.int .i64 p.f, .int .i64 p.t, .slice au p.b.length cu, .bool p.s], .bool true]) (results_cct Try.results10 _ _ _ rfl rfl (load2 (HE.out _ _ _ _ _ _).1) (load4 (HE.out _ _ _ _ _ _).2)) rfl (show ansT w (takeN size ps (j : Int)) _ _ from by
          rw [HGJ.out]
          obtain ⟨bb, hh, h1, h2, h3, h4, h5⟩ := F1.out
          refine ⟨_, _, bb, hh, rfl, by omega, by simp; omega, OwnP.same h3 (fun q hq _ _ => heap_set6 (by omega) (by omega)), ?_, h5, below_set6 F2.out (by omega) (by omega)⟩
          exact (h4.same (fun q hq => heap_set6 (by have := (h4.lt q hq).1; omega) (by have := (h4.lt q hq).1; omega))).mono (by omega)))
end Go.Proofs.Ytmlbemcblgnbjaa
