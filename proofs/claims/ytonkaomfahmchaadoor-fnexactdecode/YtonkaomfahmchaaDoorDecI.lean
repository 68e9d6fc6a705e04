/-
  What takeIns does.
-/
import Derived.Test.YtonkaomfahmchaaDoorRdrB
import Derived.Test.YtonkaomfahmchaaDoorDecM
import Derived.Test.YtonkaomfahmchaaDoorInsOkJ
import Derived.Test.YtonkaomfahmchaaDoorDeepTo
import Derived.Deep.RegionLaw
import Derived.Deep.RegionHeldLaw
namespace Go.Proofs.YtonkaomfahmchaaDoor
open Go.RowKit

theorem loadIn {w : World} {g : Nat} {x y : Value} (h : w.heap[g]? = some (.cells #[x, y] 33 (0, 0))) : (loadVar 33 ⟨g, 0, none⟩).run Tryd.prog w = .ok (.agg #[x, y]) w :=
  run_loadVar_row w g 33 33 #[x, y] (0, 0) _ h Tryd.underlying33 rfl (by kernel_rfl)
theorem grown_newI {w wr : World} {p g : Nat} (h : w.grownBy wr (some p)) (hg : w.heap.size ≤ g) (o : Nat) (v : Value) : w.grownBy (wr.setCell ⟨g, o, none⟩ v) (some p) :=
  grown_step h (grown_set (World.grownBy.refl wr _) o v) (fun k e => by cases e; exact .inr hg)
theorem set_placeI {w : World} {g p : Nat} (h : p < g) (o : Nat) (u : Value) : (w.setCell ⟨g, o, none⟩ u).heap[p]? = w.heap[p]? := heap_setCell_other w ⟨g, o, none⟩ p u (by simp; omega)
def rByte (zs : List Int) (k : Nat) : Option (Int × Nat) := if k < zs.length then some (zs.getD k 0, k + 1) else none
theorem rIns_eq (zs : List Int) (k : Nat) : rIns zs k = (rByte zs k).bind fun b => if hasB b.1 then (rByte zs b.2).bind fun c => some (⟨b.1, low8 b.1 + c.1⟩, c.2) else some (⟨b.1, 0⟩, b.2) := by
  unfold rIns rByte
  split
  · simp only [Option.bind_some]
    split
    · split
      · rfl
      · rfl
    · rfl
  · rfl
theorem step_callC9 {P : Program} {ops : Array Oper} {o : Oper} {a : Act} {w : World} {K : Act → World → Prop} {Q : Exit → Act → World → Prop} {E : Prop} {R : Ending → World → Prop} (d : Option Tmp) (hd : o.dst = d) (hgd : o.guard = none) (f : FuncId) (xs : Array Operand) (ts : Array TypeId) (_ho : o.op = .call { callee := .value (.func f), args := xs, argTypes := ts })
    (args : Array Value) (hrun : (execOp a.eval o).run P w = .ok (.enter f args) w) (hc : Calls P f args w R) (h : ∀ e w', R e w' → ∃ v, e = .returned v ∧ K (a.put d v) w') :
    if Region.wanted o (yielded ops a.tmps) = true then Oper.wp P o a w K Q else E := by
  subst hd
  have hw : Region.wanted o (yielded ops a.tmps) = true := by simp [Region.wanted, hgd]
  rw [if_pos hw]
  unfold Oper.wp
  rw [hrun, Oper.upon_enter]
  refine hc.mono fun e w' hh => ?_
  obtain ⟨v, rfl, hk⟩ := h e w' hh
  exact hk
theorem step_panic {P : Program} {ops : Array Oper} {o : Oper} {a : Act} {w : World} {K : Act → World → Prop} {Q : Exit → Act → World → Prop} {E : Prop} {R : Ending → World → Prop} (hgd : o.guard = none) (f : FuncId) (xs : Array Operand) (ts : Array TypeId) (_ho : o.op = .call { callee := .value (.func f), args := xs, argTypes := ts })
    (args : Array Value) (hrun : (execOp a.eval o).run P w = .ok (.enter f args) w) (hc : Calls P f args w R) (h : ∀ e w', R e w' → ∃ c, e = .panicked c ∧ Q (.panic c) a w') :
    if Region.wanted o (yielded ops a.tmps) = true then Oper.wp P o a w K Q else E := by
  have hw : Region.wanted o (yielded ops a.tmps) = true := by simp [Region.wanted, hgd]
  rw [if_pos hw]
  unfold Oper.wp
  rw [hrun, Oper.upon_enter]
  refine hc.mono fun e w' hh => ?_
  obtain ⟨v, rfl, hk⟩ := h e w' hh
  exact hk
theorem below_any {w w' : World} (h : Below w.heap.size w w') (row : Option Nat) : w.grownBy w' row := ⟨h.os, h.tape, h.output, h.size, fun k hk _ => h.block k hk⟩
theorem rdByte {w : World} {B : Nat} {a : Option Addr} {len : Nat} {zs : List Int} {p k : Nat} {t : TypeId} {v : Value} (cap : Nat) (h : Rdr w B a len zs p k t v) :
    Calls Tryd.prog 29 #[.slice a len cap, .pointer (some ⟨p, 0, none⟩)] w (tookG (fun z => .int .i64 z) w p t v (rByte zs k)) := by
  have hl := h.inp.1
  unfold rByte
  by_cases hk : k < len
  · rw [if_pos (by omega)]
    refine (takeByteYes w a len cap zs B p k h.inp h.pl hk).mono ?_
    rintro e w' ⟨rfl, rfl⟩
    refine ⟨.inl ⟨_, _, rfl, rfl, ?_⟩, grown_set (World.grownBy.refl w _) 0 _⟩
    exact heap_setCell_same w p 0 _ 3 _ h.pl
  · rw [if_neg (by omega)]
    refine (takeByteNo w a len cap p (k : Int) t v h.pl (.inr (by omega)) h.err).mono ?_
    rintro e w' ⟨rfl, rfl⟩
    exact ⟨.inr ⟨rfl, rfl⟩, World.grownBy.refl _ _⟩
theorem byte_bd {w : World} {B : Nat} {a : Option Addr} {len : Nat} {zs : List Int} {p k : Nat} {t : TypeId} {v : Value} (h : Rdr w B a len zs p k t v) {x : Int} {k1 : Nat} (hr : rByte zs k = some (x, k1)) : 0 ≤ x ∧ x ≤ 255 ∧ k1 = k + 1 ∧ k < len := by
  unfold rByte at hr
  have hl := h.inp.1
  split at hr
  · rename_i hk
    cases hr
    have := (byt_of_in h.inp).at k hk
    exact ⟨this.1, this.2, rfl, by omega⟩
  · cases hr
set_option maxRecDepth 100000 in
set_option maxHeartbeats 4000000 in
theorem rdIns {w : World} {B : Nat} {a : Option Addr} {len : Nat} {zs : List Int} {p k : Nat} {t : TypeId} {v : Value} (cap : Nat) (h : Rdr w B a len zs p k t v) :
    Calls Tryd.prog 24 #[.slice a len cap, .pointer (some ⟨p, 0, none⟩)] w (tookG inV w p t v (rIns zs k)) := by
  have hlt := h.lt
  have HR := hide (h.alloc (.cells #[.int .i64 0, .int .i64 0] 33))
  have HA := hide (World.grownBy_alloc w (.cells #[.int .i64 0, .int .i64 0] 33) (some p))
  have HE := hide (heap_alloc_new w (.cells #[.int .i64 0, .int .i64 0] 33))
  have HRI := hide (rIns_eq zs k)
  clear h
  generalize rIns zs k = G at *
  go_enter Tryd.func24, Tryd.ntmps24
  go_wp2_with fail
  refine (rdByte cap HR.out).mono ?_
  rintro e w1 ⟨hres, g1⟩
  have HG := hide (grownBy_trans HA.out g1)
  rcases hres with ⟨x, k1, hr1, rfl, hp1⟩ | ⟨hr1, rfl⟩
  · have HR1 := hide (HR.out.next g1 hp1)
    have HE1 := hide ((g1.block w.heap.size (by simp) (fun e => by cases e; omega)).trans HE.out)
    obtain ⟨hx0, hx1, hxa, hxb⟩ := byte_bd HR.out hr1
    clear hxa hxb
    rw [hr1] at HRI
    simp only [Option.bind_some] at HRI
    have hs1 : w.heap.size < w1.heap.size := (Array.getElem?_eq_some_iff.1 HE1.out).1
    clear g1 hp1 hr1 HR HE HA
    have HE2 := hide (heap_alloc_new w1 (.cells #[.int .i64 x, .int .i64 0] 33))
    have HR2 := hide (HR1.out.alloc (.cells #[.int .i64 x, .int .i64 0] 33))
    have HG2 := hide (grownBy_trans HG.out (World.grownBy_alloc w1 (.cells #[.int .i64 x, .int .i64 0] 33) (some p)))
    have HE02 := hide ((Below.heap_alloc w1 (.cells #[.int .i64 x, .int .i64 0] 33) w.heap.size hs1).trans HE1.out)
    have hs2 : w1.heap.size < (w1.alloc (.cells #[.int .i64 x, .int .i64 0] 33)).heap.size := by simp
    clear HR1 HG HE1
    go_upto_region 2 with fail
    generalize w1.alloc (.cells #[.int .i64 x, .int .i64 0] 33) = W2 at *
    have f0 := (box_of HE2.out).1 0 _ rfl
    have f1 := (box_of HE2.out).1 1 _ rfl
    have z0 := (box_of HE2.out).2
    by_cases kx : x = 1
    · subst kx
      have HE3 : Hid ((W2.setCell ⟨w1.heap.size, 1, none⟩ (.int .i64 (-128))).heap[w1.heap.size]? = some (.cells #[.int .i64 1, .int .i64 (-128)] 33 (0, 0))) := hide (heap_setCell_same W2 w1.heap.size 1 _ _ _ HE2.out)
      have HR3 := hide (HR2.out.set (g := w1.heap.size) (by omega) 1 (.int .i64 (-128)))
      have HG3 := hide (grown_newI HG2.out (by omega) 1 (.int .i64 (-128)) (g := w1.heap.size))
      have HE03 := hide ((heap_setCell_other W2 ⟨w1.heap.size, 1, none⟩ w.heap.size (.int .i64 (-128)) (by simp; omega)).trans HE02.out)
      have hs3 : w1.heap.size < (W2.setCell ⟨w1.heap.size, 1, none⟩ (.int .i64 (-128))).heap.size := by simpa using hs2
      have HRI2 : Hid (G = (rByte zs k1).bind fun c => some (⟨1, -128 + c.1⟩, c.2)) := hide (by rw [HRI.out]; rfl)
      go_upto_region 5 with fail
      clear HR2 HG2 HE2 HE02 f0 f1 z0 HRI
      generalize W2.setCell ⟨w1.heap.size, 1, none⟩ (.int .i64 (-128)) = W3 at *
      have HRd : Hid (Rdr W3.drew B a len zs p k1 t v) := hide ⟨HR3.out.inp.kept (fun _ _ => rfl), HR3.out.hB, HR3.out.hp0, HR3.out.err, HR3.out.pl⟩
      have q0 : W3.drew.cell? ⟨w1.heap.size, 1, none⟩ = some (.int .i64 (-128)) := (box_of HE3.out).1 1 _ rfl
      have hlt3 : p < w1.heap.size := by omega
      cases hr2 : rByte zs k1 with
      | none =>
        have HN : Hid (G = none) := hide (by rw [HRI2.out, hr2]; rfl)
        have HC : Hid (Calls Tryd.prog 29 #[.slice a len cap, .pointer (some ⟨p, 0, none⟩)] W3.drew fun e w' => e = .panicked [{ v := .iface t v, recovered := false }] ∧ w' = W3.drew) := hide (by
          unfold rByte at hr2
          have hl := HRd.out.inp.1
          split at hr2
          · cases hr2
          · exact takeByteNo W3.drew a len cap p (k1 : Int) t v HRd.out.pl (.inr (by omega)) HRd.out.err)
        clear hr2 HRd
        have HGd : Hid (w.grownBy W3.drew (some p)) := hide (grownBy_trans HG3.out (below_any (Below.refl W3.heap.size W3).drew _))
        refine wp_region_held_drew (S := fun w' => w'.cell? ⟨w1.heap.size, 1, none⟩ = some (.int .i64 (-128))) (by kernel_rfl) q0 (fun hHeld => ?_)
        refine wpAnyH_take (i := 0) (v := ?_) rfl (by kernel_rfl) (by kernel_rfl) (by kernel_rfl) (fun _ _ _ h => h) (Or.inl ⟨by rfl, ?_⟩) (by assumption) ?_
        rotate_left
        · intro w' hSw
          try dsimp only at hSw
          go_simp; try rfl
        simp only [List.getElem_toArray, List.getElem_cons_zero, Act.put, List.setIfInBounds_toArray, List.set_cons_zero, List.set_cons_succ]
        refine wpAnyH_take (i := 1) (v := ?_) rfl (by kernel_rfl) (by kernel_rfl) (by kernel_rfl) (fun _ _ _ h => h) (Or.inl ⟨by rfl, ?_⟩) (by assumption) ?_
        rotate_left
        · intro w' hSw
          try dsimp only at hSw
          go_simp; try rfl
        simp only [List.getElem_toArray, List.getElem_cons_succ, List.getElem_cons_zero, Act.put, List.setIfInBounds_toArray, List.set_cons_zero, List.set_cons_succ]
        refine wpAnyH_take (i := 2) (v := ?_) rfl (by kernel_rfl) (by kernel_rfl) (by kernel_rfl) (fun _ _ _ h => h) (Or.inl ⟨by rfl, ?_⟩) (by assumption) ?_
        rotate_left
        · intro w' hSw
          try dsimp only at hSw
          go_simp; try rfl
        simp only [List.getElem_toArray, List.getElem_cons_succ, List.getElem_cons_zero, Act.put, List.setIfInBounds_toArray, List.set_cons_zero, List.set_cons_succ]
        refine wpAnyH_take (i := 3) (v := ?_) rfl (by kernel_rfl) (by kernel_rfl) (by kernel_rfl) (fun _ _ _ h => h) (Or.inl ⟨by rfl, ?_⟩) (by assumption) ?_
        rotate_left
        · intro w' hSw
          try dsimp only at hSw
          go_simp; try rfl
        simp only [List.getElem_toArray, List.getElem_cons_succ, List.getElem_cons_zero, Act.put, List.setIfInBounds_toArray, List.set_cons_zero, List.set_cons_succ]
        refine wpAnyH_ready (rs := [4]) (by kernel_rfl) (by simp) (AllReadyH.cons rfl (fun K hK => ?_) AllReadyH.nil)
        refine step_panic rfl 29 _ _ rfl #[.slice a len cap, .pointer (some ⟨p, 0, none⟩)] (by kernel_rfl) HC.out ?_
        rintro e y ⟨rfl, rfl⟩
        exact ⟨_, rfl, rfl, .inr ⟨HN.out, rfl⟩, HGd.out⟩
      | some r =>
        obtain ⟨y, k2⟩ := r
        have HN : Hid (G = some (⟨1, -128 + y⟩, k2)) := hide (by rw [HRI2.out, hr2]; rfl)
        obtain ⟨hy0, hy1, hk2, hkl⟩ := byte_bd HRd.out hr2
        have hyv : zs.getD k1 0 = y := by unfold rByte at hr2; split at hr2 <;> cases hr2; rfl
        have HC : Hid (Calls Tryd.prog 29 #[.slice a len cap, .pointer (some ⟨p, 0, none⟩)] W3.drew fun e w' => e = .returned (.int .i64 y) ∧ w' = W3.drew.setCell ⟨p, 0, none⟩ (.int .i64 ((k2 : Nat) : Int))) := hide (by
          have := takeByteYes W3.drew a len cap zs B p k1 HRd.out.inp HRd.out.pl hkl
          rw [hyv] at this
          rw [hk2]
          exact this)
        have HP4 : Hid ((W3.setCell ⟨p, 0, none⟩ (.int .i64 ((k2 : Nat) : Int))).heap[p]? = some (.cells #[.int .i64 ((k2 : Nat) : Int)] 3 (0, 0))) := hide (heap_setCell_same W3 p 0 _ 3 _ HR3.out.pl)
        have HE4 : Hid ((W3.setCell ⟨p, 0, none⟩ (.int .i64 ((k2 : Nat) : Int))).heap[w1.heap.size]? = some (.cells #[.int .i64 1, .int .i64 (-128)] 33 (0, 0))) := hide ((heap_setCell_other W3 ⟨p, 0, none⟩ w1.heap.size _ (by simp; omega)).trans HE3.out)
        have HE04 : Hid ((W3.setCell ⟨p, 0, none⟩ (.int .i64 ((k2 : Nat) : Int))).heap[w.heap.size]? = some (.cells #[.int .i64 0, .int .i64 0] 33 (0, 0))) := hide ((heap_setCell_other W3 ⟨p, 0, none⟩ w.heap.size _ (by simp; omega)).trans HE03.out)
        have HG4 : Hid (w.grownBy (W3.setCell ⟨p, 0, none⟩ (.int .i64 ((k2 : Nat) : Int))) (some p)) := hide (grown_set HG3.out 0 _)
        have q5 : W3.cell? ⟨w1.heap.size, 1, none⟩ = some (.int .i64 (-128)) := q0
        have q6 : W3.frozen? ⟨w1.heap.size, 1, none⟩ = false := (box_of HE3.out).2 1
        obtain ⟨nv, hnv⟩ : ∃ nv, -128 + y = nv := ⟨_, rfl⟩
        have hwr : IntKind.i64.wrap (-128 + y) = nv := by rw [IntWalk.i64_in _ (by omega)]; exact hnv
        rw [hnv] at HN
        have HWR := hide hwr
        clear hr2 HRd hyv hk2 hnv hwr
        go_region_law
          (first
            | (refine step_callC9 (some 23) rfl rfl 29 _ _ rfl #[.slice a len cap, .pointer (some ⟨p, 0, none⟩)] (by kernel_rfl) HC.out ?_; rintro e y9 ⟨rfl, rfl⟩; refine ⟨_, rfl, ?_⟩)
            | fail)
        all_goals (
          clear q0 q5 q6
          try rw [HWR.out]
          try rw [Int.zero_add] at HWR
          try rw [HWR.out]
          try simp only [HWR.out]
          have HE5 : Hid ((W3.setCell ⟨p, 0, none⟩ (.int .i64 ((k2 : Nat) : Int))).setCell ⟨w1.heap.size, 1, none⟩ (.int .i64 nv) |>.heap[w1.heap.size]? = some (.cells #[.int .i64 1, .int .i64 nv] 33 (0, 0))) := hide (heap_setCell_same _ w1.heap.size 1 _ _ _ HE4.out)
          generalize W3.setCell ⟨p, 0, none⟩ (.int .i64 ((k2 : Nat) : Int)) = W4 at *
          have HE05 := hide ((heap_setCell_other W4 ⟨w1.heap.size, 1, none⟩ w.heap.size (.int .i64 nv) (by simp; omega)).trans HE04.out)
          have HP5 := hide ((heap_setCell_other W4 ⟨w1.heap.size, 1, none⟩ p (.int .i64 nv) (by simp; omega)).trans HP4.out)
          have HG5 := hide (grown_newI HG4.out (by omega) 1 (.int .i64 nv) (g := w1.heap.size))
          generalize W4.setCell ⟨w1.heap.size, 1, none⟩ (.int .i64 nv) = W5 at *
          have HE6 : Hid (W5.drew.heap[w1.heap.size]? = some (.cells #[.int .i64 1, .int .i64 nv] 33 (0, 0))) := hide HE5.out
          have HE06 : Hid (W5.drew.heap[w.heap.size]? = some (.cells #[.int .i64 0, .int .i64 0] 33 (0, 0))) := hide HE05.out
          have HP6 : Hid (W5.drew.heap[p]? = some (.cells #[.int .i64 ((k2 : Nat) : Int)] 3 (0, 0))) := hide HP5.out
          have HG6 := hide (grownBy_trans HG5.out (below_any (Below.refl W5.heap.size W5).drew _))
          clear HE5 HE05 HP5 HG5 HE4 HE04 HP4 HG4
          generalize W5.drew = W6 at *
          have u0 := (box_of HE6.out).1 0 _ rfl
          have u1 := (box_of HE6.out).1 1 _ rfl
          have u2 := (box_of HE06.out).1 0 _ rfl
          have u3 := (box_of HE06.out).1 1 _ rfl
          have u4 := (box_of HE06.out).2
          go_wp2_with fail
          refine bodyPost_ret (v := .agg #[.int .i64 1, .int .i64 nv]) (results_one Tryd.results24 _ _ _ rfl (loadIn (putN2 HE06.out _ _))) rfl ⟨.inl ⟨_, _, HN.out, rfl, ?_⟩, grown_newI (grown_newI HG6.out (Nat.le_refl _) _ _) (Nat.le_refl _) _ _⟩
          rw [set_placeI (by omega), set_placeI (by omega)]
          exact HP6.out)
    · have kx' : (x == 1) = false := by simp [kx]
      have hl0 : low8 x = 0 := by unfold low8; rw [if_neg kx]
      rw [hl0] at HRI
      clear kx hl0
      go_wp2_with fail
      refine (hasImpl _ x).mono ?_
      rintro e W3 ⟨rfl, b3⟩
      have HR3 : Hid (Rdr W3 B a len zs p k1 t v) := hide ⟨HR2.out.inp.kept (fun q hq => b3.block q (by have := HR2.out.hB; have := HR2.out.lt; omega)), HR2.out.hB, HR2.out.hp0, (b3.cell (p := ⟨0, 0, none⟩) (show 0 < W2.heap.size by have := HR2.out.lt; omega)).trans HR2.out.err, (b3.block p HR2.out.lt).trans HR2.out.pl⟩
      have HE3 := hide ((b3.block w1.heap.size hs2).trans HE2.out)
      have HE03 := hide ((b3.block w.heap.size (by omega)).trans HE02.out)
      have HG3 := hide (grownBy_trans HG2.out (below_any b3 (some p)))
      have hs3 : w1.heap.size < W3.heap.size := Nat.lt_of_lt_of_le hs2 b3.size
      clear b3 HR2 HG2 HE2 HE02 f0 f1 z0
      cases kh : hasB x with
      | true =>
        have HRI2 : Hid (G = (rByte zs k1).bind fun c => some (⟨x, 0 + c.1⟩, c.2)) := hide (by rw [HRI.out, kh]; rfl)
        go_upto_region 5 with fail
        have HRd : Hid (Rdr W3.drew B a len zs p k1 t v) := hide ⟨HR3.out.inp.kept (fun _ _ => rfl), HR3.out.hB, HR3.out.hp0, HR3.out.err, HR3.out.pl⟩
        have q0 : W3.drew.cell? ⟨w1.heap.size, 1, none⟩ = some (.int .i64 (0)) := (box_of HE3.out).1 1 _ rfl
        have hlt3 : p < w1.heap.size := by omega
        cases hr2 : rByte zs k1 with
        | none =>
          have HN : Hid (G = none) := hide (by rw [HRI2.out, hr2]; rfl)
          have HC : Hid (Calls Tryd.prog 29 #[.slice a len cap, .pointer (some ⟨p, 0, none⟩)] W3.drew fun e w' => e = .panicked [{ v := .iface t v, recovered := false }] ∧ w' = W3.drew) := hide (by
            unfold rByte at hr2
            have hl := HRd.out.inp.1
            split at hr2
            · cases hr2
            · exact takeByteNo W3.drew a len cap p (k1 : Int) t v HRd.out.pl (.inr (by omega)) HRd.out.err)
          clear hr2 HRd
          have HGd : Hid (w.grownBy W3.drew (some p)) := hide (grownBy_trans HG3.out (below_any (Below.refl W3.heap.size W3).drew _))
          refine wp_region_held_drew (S := fun w' => w'.cell? ⟨w1.heap.size, 1, none⟩ = some (.int .i64 (0))) (by kernel_rfl) q0 (fun hHeld => ?_)
          refine wpAnyH_take (i := 0) (v := ?_) rfl (by kernel_rfl) (by kernel_rfl) (by kernel_rfl) (fun _ _ _ h => h) (Or.inl ⟨by rfl, ?_⟩) (by assumption) ?_
          rotate_left
          · intro w' hSw
            try dsimp only at hSw
            go_simp; try rfl
          simp only [List.getElem_toArray, List.getElem_cons_zero, Act.put, List.setIfInBounds_toArray, List.set_cons_zero, List.set_cons_succ]
          refine wpAnyH_take (i := 1) (v := ?_) rfl (by kernel_rfl) (by kernel_rfl) (by kernel_rfl) (fun _ _ _ h => h) (Or.inl ⟨by rfl, ?_⟩) (by assumption) ?_
          rotate_left
          · intro w' hSw
            try dsimp only at hSw
            go_simp; try rfl
          simp only [List.getElem_toArray, List.getElem_cons_succ, List.getElem_cons_zero, Act.put, List.setIfInBounds_toArray, List.set_cons_zero, List.set_cons_succ]
          refine wpAnyH_take (i := 2) (v := ?_) rfl (by kernel_rfl) (by kernel_rfl) (by kernel_rfl) (fun _ _ _ h => h) (Or.inl ⟨by rfl, ?_⟩) (by assumption) ?_
          rotate_left
          · intro w' hSw
            try dsimp only at hSw
            go_simp; try rfl
          simp only [List.getElem_toArray, List.getElem_cons_succ, List.getElem_cons_zero, Act.put, List.setIfInBounds_toArray, List.set_cons_zero, List.set_cons_succ]
          refine wpAnyH_take (i := 3) (v := ?_) rfl (by kernel_rfl) (by kernel_rfl) (by kernel_rfl) (fun _ _ _ h => h) (Or.inl ⟨by rfl, ?_⟩) (by assumption) ?_
          rotate_left
          · intro w' hSw
            try dsimp only at hSw
            go_simp; try rfl
          simp only [List.getElem_toArray, List.getElem_cons_succ, List.getElem_cons_zero, Act.put, List.setIfInBounds_toArray, List.set_cons_zero, List.set_cons_succ]
          refine wpAnyH_ready (rs := [4]) (by kernel_rfl) (by simp) (AllReadyH.cons rfl (fun K hK => ?_) AllReadyH.nil)
          refine step_panic rfl 29 _ _ rfl #[.slice a len cap, .pointer (some ⟨p, 0, none⟩)] (by kernel_rfl) HC.out ?_
          rintro e y ⟨rfl, rfl⟩
          exact ⟨_, rfl, rfl, .inr ⟨HN.out, rfl⟩, HGd.out⟩
        | some r =>
          obtain ⟨y, k2⟩ := r
          have HN : Hid (G = some (⟨x, 0 + y⟩, k2)) := hide (by rw [HRI2.out, hr2]; rfl)
          obtain ⟨hy0, hy1, hk2, hkl⟩ := byte_bd HRd.out hr2
          have hyv : zs.getD k1 0 = y := by unfold rByte at hr2; split at hr2 <;> cases hr2; rfl
          have HC : Hid (Calls Tryd.prog 29 #[.slice a len cap, .pointer (some ⟨p, 0, none⟩)] W3.drew fun e w' => e = .returned (.int .i64 y) ∧ w' = W3.drew.setCell ⟨p, 0, none⟩ (.int .i64 ((k2 : Nat) : Int))) := hide (by
            have := takeByteYes W3.drew a len cap zs B p k1 HRd.out.inp HRd.out.pl hkl
            rw [hyv] at this
            rw [hk2]
            exact this)
          have HP4 : Hid ((W3.setCell ⟨p, 0, none⟩ (.int .i64 ((k2 : Nat) : Int))).heap[p]? = some (.cells #[.int .i64 ((k2 : Nat) : Int)] 3 (0, 0))) := hide (heap_setCell_same W3 p 0 _ 3 _ HR3.out.pl)
          have HE4 : Hid ((W3.setCell ⟨p, 0, none⟩ (.int .i64 ((k2 : Nat) : Int))).heap[w1.heap.size]? = some (.cells #[.int .i64 x, .int .i64 (0)] 33 (0, 0))) := hide ((heap_setCell_other W3 ⟨p, 0, none⟩ w1.heap.size _ (by simp; omega)).trans HE3.out)
          have HE04 : Hid ((W3.setCell ⟨p, 0, none⟩ (.int .i64 ((k2 : Nat) : Int))).heap[w.heap.size]? = some (.cells #[.int .i64 0, .int .i64 0] 33 (0, 0))) := hide ((heap_setCell_other W3 ⟨p, 0, none⟩ w.heap.size _ (by simp; omega)).trans HE03.out)
          have HG4 : Hid (w.grownBy (W3.setCell ⟨p, 0, none⟩ (.int .i64 ((k2 : Nat) : Int))) (some p)) := hide (grown_set HG3.out 0 _)
          have q5 : W3.cell? ⟨w1.heap.size, 1, none⟩ = some (.int .i64 (0)) := q0
          have q6 : W3.frozen? ⟨w1.heap.size, 1, none⟩ = false := (box_of HE3.out).2 1
          obtain ⟨nv, hnv⟩ : ∃ nv, 0 + y = nv := ⟨_, rfl⟩
          have hwr : IntKind.i64.wrap (0 + y) = nv := by rw [IntWalk.i64_in _ (by omega)]; exact hnv
          rw [hnv] at HN
          have HWR := hide hwr
          clear hr2 HRd hyv hk2 hnv hwr
          go_region_law
            (first
              | (refine step_callC9 (some 23) rfl rfl 29 _ _ rfl #[.slice a len cap, .pointer (some ⟨p, 0, none⟩)] (by kernel_rfl) HC.out ?_; rintro e y9 ⟨rfl, rfl⟩; refine ⟨_, rfl, ?_⟩)
              | fail)
          all_goals (
            clear q0 q5 q6
            try rw [HWR.out]
            try rw [Int.zero_add] at HWR
            try rw [HWR.out]
            try simp only [HWR.out]
            have HE5 : Hid ((W3.setCell ⟨p, 0, none⟩ (.int .i64 ((k2 : Nat) : Int))).setCell ⟨w1.heap.size, 1, none⟩ (.int .i64 nv) |>.heap[w1.heap.size]? = some (.cells #[.int .i64 x, .int .i64 nv] 33 (0, 0))) := hide (heap_setCell_same _ w1.heap.size 1 _ _ _ HE4.out)
            generalize W3.setCell ⟨p, 0, none⟩ (.int .i64 ((k2 : Nat) : Int)) = W4 at *
            have HE05 := hide ((heap_setCell_other W4 ⟨w1.heap.size, 1, none⟩ w.heap.size (.int .i64 nv) (by simp; omega)).trans HE04.out)
            have HP5 := hide ((heap_setCell_other W4 ⟨w1.heap.size, 1, none⟩ p (.int .i64 nv) (by simp; omega)).trans HP4.out)
            have HG5 := hide (grown_newI HG4.out (by omega) 1 (.int .i64 nv) (g := w1.heap.size))
            generalize W4.setCell ⟨w1.heap.size, 1, none⟩ (.int .i64 nv) = W5 at *
            have HE6 : Hid (W5.drew.heap[w1.heap.size]? = some (.cells #[.int .i64 x, .int .i64 nv] 33 (0, 0))) := hide HE5.out
            have HE06 : Hid (W5.drew.heap[w.heap.size]? = some (.cells #[.int .i64 0, .int .i64 0] 33 (0, 0))) := hide HE05.out
            have HP6 : Hid (W5.drew.heap[p]? = some (.cells #[.int .i64 ((k2 : Nat) : Int)] 3 (0, 0))) := hide HP5.out
            have HG6 := hide (grownBy_trans HG5.out (below_any (Below.refl W5.heap.size W5).drew _))
            clear HE5 HE05 HP5 HG5 HE4 HE04 HP4 HG4
            generalize W5.drew = W6 at *
            have u0 := (box_of HE6.out).1 0 _ rfl
            have u1 := (box_of HE6.out).1 1 _ rfl
            have u2 := (box_of HE06.out).1 0 _ rfl
            have u3 := (box_of HE06.out).1 1 _ rfl
            have u4 := (box_of HE06.out).2
            go_wp2_with fail
            refine bodyPost_ret (v := .agg #[.int .i64 x, .int .i64 nv]) (results_one Tryd.results24 _ _ _ rfl (loadIn (putN2 HE06.out _ _))) rfl ⟨.inl ⟨_, _, HN.out, rfl, ?_⟩, grown_newI (grown_newI HG6.out (Nat.le_refl _) _ _) (Nat.le_refl _) _ _⟩
            rw [set_placeI (by omega), set_placeI (by omega)]
            exact HP6.out)
      | false =>
        have HN : Hid (G = some (⟨x, 0⟩, k1)) := hide (by rw [HRI.out, kh]; rfl)
        have u0 := (box_of HE3.out).1 0 _ rfl
        have u1 := (box_of HE3.out).1 1 _ rfl
        have u2 := (box_of HE03.out).1 0 _ rfl
        have u3 := (box_of HE03.out).1 1 _ rfl
        have u4 := (box_of HE03.out).2
        have HP3 := hide HR3.out.pl
        go_wp2_with fail
        refine bodyPost_ret (v := .agg #[.int .i64 x, .int .i64 0]) (results_one Tryd.results24 _ _ _ rfl (loadIn (putN2 HE03.out _ _))) rfl ⟨.inl ⟨_, _, HN.out, rfl, ?_⟩, grown_newI (grown_newI HG3.out (Nat.le_refl _) _ _) (Nat.le_refl _) _ _⟩
        rw [set_placeI (by omega), set_placeI (by omega)]
        exact HP3.out
  · have HN : Hid (G = none) := hide (by rw [HRI.out, hr1]; rfl)
    clear g1 hr1
    go_wp2
    exact ⟨rfl, .inr ⟨HN.out, rfl⟩, HG.out⟩
end Go.Proofs.YtonkaomfahmchaaDoor
