/-
  Copies at a node in the model: where one stands, one of one's own, what is found and read.
-/
import Derived.Test.YtofnpgheppgcaaaJ17
import Derived.Test.YtofnpgheppgcaaaJ28
import Derived.Test.YtofnpgheppgcaaaJ29
import Derived.Test.YtofnpgheppgcaaaJ21
import Derived.Test.YtofnpgheppgcaaaJ16
namespace Go.Proofs.Ytofnpgheppgcaaa
open Go.RowKit

/-- A copy of one's own as an answer. -/
def cpyP (w w' : World) (x : Cpy) (e : Ending) : Prop := ∃ u1 u2, e = .returned (cpyV x u1 u2) ∧ OwnDL w' w.heap.size w'.heap.size (cpyD x) [.int .i64 x.i, .int .i64 x.c, .int .i64 x.n, .bool x.v, u1, u2] ∧ Below w.heap.size w w'
def cpyP2 (w w' : World) (x : Cpy) (c : Bool) (e : Ending) : Prop := ∃ u1 u2, e = .returned (.tuple #[cpyV x u1 u2, .bool c]) ∧ OwnDL w' w.heap.size w'.heap.size (cpyD x) [.int .i64 x.i, .int .i64 x.c, .int .i64 x.n, .bool x.v, u1, u2] ∧ Below w.heap.size w w'
theorem ownD_addr {w : World} {b hi T k n : Nat} {cs : List Dt} {v : Value} (h : OwnD w b hi (.row T k n cs) v) (hn : 0 < n) : ∃ g c, v = .slice (some ⟨g, 0, none⟩) n c := by
  obtain ⟨F, h1, _⟩ := h
  unfold Owns at h1
  obtain ⟨us, G, h2, _⟩ := h1
  rcases h2.2 with ⟨_, h0⟩ | ⟨g, c, cur, e, _⟩
  · omega
  · exact ⟨g, c, e⟩
set_option maxRecDepth 100000 in
set_option maxHeartbeats 4000000 in
theorem atCS (w : World) (xs : List Cpy) (v : Value) (q : Int) (h : Reads w w.heap.size (cpys xs) v) (hm : xs.length ≤ 1048576) :
    Calls Try.prog 49 #[v, .int .i64 q] w fun e w' => e = .returned (.int .i64 (atC xs q)) ∧ w' = w := by
  have HR := hide h
  obtain ⟨a1, c1, e1, _⟩ := h.shape
  subst e1
  clear h
  have HY : Hid (∀ j, j < xs.length → isC q (xs.getD j default) = true → (∀ i, i < j → isC q (xs.getD i default) = false) → atC xs q = (j : Int)) := hide (fun j h1 h2 h3 => atFst_hit h1 h2 h3)
  have HN : Hid ((∀ i, i < xs.length → isC q (xs.getD i default) = false) → atC xs q = -1) := hide (fun h => atFst_no h)
  generalize atC xs q = V at *
  go_enter Try.func49, Try.ntmps49
  go_wp2
  go_loopw [5] (fun i wr => ∃ j : Nat, j ≤ xs.length ∧ i = .int .i64 (j : Int) ∧ wr = w ∧ Hid (∀ i, i < j → isC q (xs.getD i default) = false)) (fun i _ => xs.length - (intOf i).toNat)
  case atStart => exact ⟨0, Nat.zero_le _, rfl, rfl, hide (fun i hi => by omega)⟩
  case round =>
    obtain ⟨j, hj, rfl, rfl, HQ⟩ := hrel
    by_cases hlt : j < xs.length
    · obtain ⟨a', cap', ea, hcap, _, hc⟩ := copy_at HR.out
      cases ea
      obtain ⟨b, o, rfl, hbb, hcell⟩ := hc (by omega)
      obtain ⟨pv1, pv2, d0, d1, d2, d3, d4, d5, r1, r2⟩ := hcell j hlt
      clear hcell hc d1 d2 d3 d4 d5 r1 r2
      obtain ⟨y, hy⟩ : ∃ y, xs.getD j default = y := ⟨_, rfl⟩
      rw [hy] at d0
      have HX := hide hy
      clear hy
      cases k : (y.i == q) with
      | true =>
        have HF : Hid (V = (j : Int)) := hide (HY.out j hlt (by rw [HX.out]; exact k) HQ.out)
        go_wp2
        go_ret
        exact ⟨by rw [HF.out]; rfl, rfl⟩
      | false =>
        have HQ2 : Hid (∀ i, i < j + 1 → isC q (xs.getD i default) = false) := hide (fun i hi => by
          rcases Nat.lt_succ_iff_lt_or_eq.1 hi with h | rfl
          · exact HQ.out i h
          · rw [HX.out]; exact k)
        go_wp2
        exact ⟨⟨j + 1, by omega, by go_num, by first | rfl | trivial, HQ2⟩, by simp [intOf]; omega⟩
    · obtain rfl : j = xs.length := by omega
      have HF : Hid (V = -1) := hide (HN.out HQ.out)
      go_wp2
      go_ret
      exact ⟨by rw [HF.out]; rfl, rfl⟩
theorem putN6c {w : World} {g : Nat} {T : TypeId} {a0 a1 a2 a3 a4 a5 : Value} (h : w.heap[g]? = some (.cells #[a0, a1, a2, a3, a4, a5] T (0, 0))) (b0 b1 b2 b3 b4 b5 : Value) :
    ((((((w.setCell ⟨g, 0, none⟩ b0).setCell ⟨g, 1, none⟩ b1).setCell ⟨g, 2, none⟩ b2).setCell ⟨g, 3, none⟩ b3).setCell ⟨g, 4, none⟩ b4).setCell ⟨g, 5, none⟩ b5).heap[g]? = some (.cells #[b0, b1, b2, b3, b4, b5] T (0, 0)) := by
  exact heap_setCell_same _ g 5 _ T b5 (heap_setCell_same _ g 4 _ T b4 (heap_setCell_same _ g 3 _ T b3 (heap_setCell_same _ g 2 _ T b2 (heap_setCell_same _ g 1 _ T b1 (heap_setCell_same _ g 0 _ T b0 h)))))
set_option maxRecDepth 100000 in
set_option maxHeartbeats 8000000 in
theorem cpyOneS (w : World) (x : Cpy) (u1 u2 : Value) (h1 : Reads w w.heap.size (vls x.f) u1) (h2 : Reads w w.heap.size (vls x.t) u2) (hl1 : x.f.length ≤ 1048576) (hl2 : x.t.length ≤ 1048576) :
    Calls Try.prog 50 #[cpyV x u1 u2] w fun e w' => cpyP w w' x e := by
  have HF := hide h1
  have HT := hide h2
  obtain ⟨af, cf, e1, _⟩ := h1.shape
  obtain ⟨at9, ct, e2, _⟩ := h2.shape
  subst e1 e2
  clear h1 h2
  obtain ⟨i0, hi, hz0, hz1, hz2⟩ := info_parts Try.infoVl
  have HI := hide (And.intro hi (And.intro hz0 (And.intro hz1 hz2)))
  clear hi hz0 hz1 hz2
  have bA := (((Below.refl w.heap.size w).alloc (Nat.le_refl _) (.cells #[.int .i64 x.i, .int .i64 x.c, .int .i64 x.n, .bool x.v, .slice af x.f.length cf, .slice at9 x.t.length ct] 40)).alloc (by simp) (.cells #[.int .i64 0, .int .i64 0, .int .i64 0, .bool false, .slice none 0 0, .slice none 0 0] 40))
  have G0 := heap_alloc_new w (.cells #[.int .i64 x.i, .int .i64 x.c, .int .i64 x.n, .bool x.v, .slice af x.f.length cf, .slice at9 x.t.length ct] 40)
  have G1 := heap_alloc_new (w.alloc (.cells #[.int .i64 x.i, .int .i64 x.c, .int .i64 x.n, .bool x.v, .slice af x.f.length cf, .slice at9 x.t.length ct] 40)) (.cells #[.int .i64 0, .int .i64 0, .int .i64 0, .bool false, .slice none 0 0, .slice none 0 0] 40)
  simp only [World.size_alloc] at G1
  have E0 := hide ((Below.heap_alloc _ (.cells #[.int .i64 0, .int .i64 0, .int .i64 0, .bool false, .slice none 0 0, .slice none 0 0] 40) _ (by simp)).trans (G0))
  have E1 := hide (G1)
  have HB := hide bA
  replace HF := hide (HF.out.at bA)
  have hsB := bA.size
  clear bA G0 G1
  unfold cpyV
  go_enter Try.func50, Try.ntmps50
  go_upto_region 1 with fail
  generalize ((w.alloc (.cells #[.int .i64 x.i, .int .i64 x.c, .int .i64 x.n, .bool x.v, .slice af x.f.length cf, .slice at9 x.t.length ct] 40)).alloc (.cells #[.int .i64 0, .int .i64 0, .int .i64 0, .bool false, .slice none 0 0, .slice none 0 0] 40)) = W at *
  have hsW := (Array.getElem?_eq_some_iff.1 E1.out).1
  have HZ1 := hide (ownD_zero W 48 2)
  have HX1 := hide ((Below.refl W.heap.size W).alloc (Nat.le_refl _) (.cells #[] 48))
  have hX1 := HX1.out.size
  have HL1 := hide (HF.out.at HX1.out)
  have qf := (box_of ((HX1.out.block _ (Array.getElem?_eq_some_iff.1 E0.out).1).trans E0.out)).1 4 _ rfl
  go_upto_region 2 with (first
    | (at_builtin; refine appM rfl _ _ 38 rfl W.heap.size _ 48 i0 (.agg #[.bool false, .int .i64 0]) 2 16 Try.underlying38 HI.out.1 HI.out.2.1 HI.out.2.2.1 HI.out.2.2.2 rfl (by decide) _ 0 [] rfl HZ1.out _ rfl x.f.length 48 (x.f.flatMap vlD) HL1.out (flat_vl x.f) (by omega) (by decide) hX1 ?_; intro v1 w1 o1 g1 hb1; rw [Nat.zero_add, List.nil_append] at o1; obtain ⟨a1, c1, e1⟩ := o1.shape; subst e1; have HO1 := hide o1; have HB1 := hide (HX1.out.grown g1 hX1 (fun q hq => (hb1 q hq).1)); have E0n := hide ((HB1.out.block _ (Array.getElem?_eq_some_iff.1 E0.out).1).trans E0.out); have kf := (box_of E0n.out).1 4 _ rfl; have kz := (box_of E0n.out).2; clear o1 g1 hb1)
    | fail)
  clear qf kf kz HZ1 HX1 HL1
  have hs1 := HB1.out.size
  replace E1 := hide ((heap_setCell_other w1 ⟨w.heap.size, 4, none⟩ (w.heap.size + 1) (.slice a1 x.f.length c1) (by dsimp only; omega)).trans ((HB1.out.block _ (Array.getElem?_eq_some_iff.1 E1.out).1).trans E1.out))
  replace E0 : Hid ((w1.setCell ⟨w.heap.size, 4, none⟩ (.slice a1 x.f.length c1)).heap[w.heap.size]? = some (.cells #[.int .i64 x.i, .int .i64 x.c, .int .i64 x.n, .bool x.v, .slice a1 x.f.length c1, .slice at9 x.t.length ct] 40 (0, 0))) := hide (heap_setCell_same w1 (w.heap.size) 4 _ _ (.slice a1 x.f.length c1) E0n.out)
  clear E0n
  replace HO1 := hide (HO1.out.same (w' := w1.setCell ⟨w.heap.size, 4, none⟩ (.slice a1 x.f.length c1)) (fun q hq _ _ => heap_setCell_other _ _ _ _ (by dsimp only; omega)))
  replace HB := hide ((HB.out.trans (HB1.out.mono HB.out.size)).setCell (p := ⟨w.heap.size, 4, none⟩) (by dsimp only; omega) (.slice a1 x.f.length c1))
  obtain ⟨M1, hM1⟩ : ∃ M, w1.heap.size = M := ⟨_, rfl⟩
  rw [hM1] at HO1 hs1
  have hW1 : (w1.setCell ⟨w.heap.size, 4, none⟩ (.slice a1 x.f.length c1)).heap.size ≤ M1 := by rw [← hM1]; simp
  have hV1 : M1 ≤ (w1.setCell ⟨w.heap.size, 4, none⟩ (.slice a1 x.f.length c1)).heap.size := by rw [← hM1]; simp
  clear hM1
  generalize w1.setCell ⟨w.heap.size, 4, none⟩ (.slice a1 x.f.length c1) = W1 at *
  replace HT := hide (HT.out.at HB.out)
  have HZ2 := hide (ownD_zero W1 48 2)
  have HX2 := hide ((Below.refl W1.heap.size W1).alloc (Nat.le_refl _) (.cells #[] 48))
  have hX2 := HX2.out.size
  have HL2 := hide (HT.out.at HX2.out)
  have qf := (box_of ((HX2.out.block _ (Array.getElem?_eq_some_iff.1 E0.out).1).trans E0.out)).1 5 _ rfl
  go_upto_region 3 with (first
    | (at_builtin; refine appM rfl _ _ 38 rfl W1.heap.size _ 48 i0 (.agg #[.bool false, .int .i64 0]) 2 16 Try.underlying38 HI.out.1 HI.out.2.1 HI.out.2.2.1 HI.out.2.2.2 rfl (by decide) _ 0 [] rfl HZ2.out _ rfl x.t.length 48 (x.t.flatMap vlD) HL2.out (flat_vl x.t) (by omega) (by decide) hX2 ?_; intro v2 w2 o2 g2 hb2; rw [Nat.zero_add, List.nil_append] at o2; obtain ⟨a2, c2, e2⟩ := o2.shape; subst e2; have HO2 := hide o2; have HB2 := hide (HX2.out.grown g2 hX2 (fun q hq => (hb2 q hq).1)); have E0n := hide ((HB2.out.block _ (Array.getElem?_eq_some_iff.1 E0.out).1).trans E0.out); have kf := (box_of E0n.out).1 5 _ rfl; have kz := (box_of E0n.out).2; clear o2 g2 hb2)
    | fail)
  clear qf kf kz HZ2 HX2 HL2
  have hs2 := HB2.out.size
  replace E1 := hide ((heap_setCell_other w2 ⟨w.heap.size, 5, none⟩ (w.heap.size + 1) (.slice a2 x.t.length c2) (by dsimp only; omega)).trans ((HB2.out.block _ (Array.getElem?_eq_some_iff.1 E1.out).1).trans E1.out))
  replace E0 : Hid ((w2.setCell ⟨w.heap.size, 5, none⟩ (.slice a2 x.t.length c2)).heap[w.heap.size]? = some (.cells #[.int .i64 x.i, .int .i64 x.c, .int .i64 x.n, .bool x.v, .slice a1 x.f.length c1, .slice a2 x.t.length c2] 40 (0, 0))) := hide (heap_setCell_same w2 (w.heap.size) 5 _ _ (.slice a2 x.t.length c2) E0n.out)
  clear E0n
  replace HO2 := hide (HO2.out.same (w' := w2.setCell ⟨w.heap.size, 5, none⟩ (.slice a2 x.t.length c2)) (fun q hq _ _ => heap_setCell_other _ _ _ _ (by dsimp only; omega)))
  replace HO1 := hide ((HO1.out.below (w' := w2) (HB2.out)).same (w' := w2.setCell ⟨w.heap.size, 5, none⟩ (.slice a2 x.t.length c2)) (fun q hq _ _ => heap_setCell_other _ _ _ _ (by dsimp only; omega)))
  replace HB := hide ((HB.out.trans (HB2.out.mono HB.out.size)).setCell (p := ⟨w.heap.size, 5, none⟩) (by dsimp only; omega) (.slice a2 x.t.length c2))
  obtain ⟨M2, hM2⟩ : ∃ M, w2.heap.size = M := ⟨_, rfl⟩
  rw [hM2] at HO2 hs2
  have hW2 : (w2.setCell ⟨w.heap.size, 5, none⟩ (.slice a2 x.t.length c2)).heap.size ≤ M2 := by rw [← hM2]; simp
  have hV2 : M2 ≤ (w2.setCell ⟨w.heap.size, 5, none⟩ (.slice a2 x.t.length c2)).heap.size := by rw [← hM2]; simp
  clear hM2
  generalize w2.setCell ⟨w.heap.size, 5, none⟩ (.slice a2 x.t.length c2) = W2 at *
  have k0 := (box_of E0.out).1 0 _ rfl
  have k1 := (box_of E0.out).1 1 _ rfl
  have k2 := (box_of E0.out).1 2 _ rfl
  have k3 := (box_of E0.out).1 3 _ rfl
  have k4 := (box_of E0.out).1 4 _ rfl
  have k5 := (box_of E0.out).1 5 _ rfl
  have l0 := (box_of E1.out).1 0 _ rfl
  have l1 := (box_of E1.out).1 1 _ rfl
  have l2 := (box_of E1.out).1 2 _ rfl
  have l3 := (box_of E1.out).1 3 _ rfl
  have l4 := (box_of E1.out).1 4 _ rfl
  have l5 := (box_of E1.out).1 5 _ rfl
  have lz := (box_of E1.out).2
  go_wp2
  refine bodyPost_ret (v := .agg #[.int .i64 x.i, .int .i64 x.c, .int .i64 x.n, .bool x.v, .slice a1 x.f.length c1, .slice a2 x.t.length c2]) (results_one Try.results50 _ _ _ rfl (loadCpy (putN6c E1.out _ _ _ _ _ _))) rfl ?_
  refine ⟨_, _, rfl, ?_, (((((HB.out.setCell (by dsimp only; omega) _).setCell (by dsimp only; omega) _).setCell (by dsimp only; omega) _).setCell (by dsimp only; omega) _).setCell (by dsimp only; omega) _).setCell (by dsimp only; omega) _⟩
  refine ((OwnDL.same (b := W.heap.size) (OwnDL.val (OwnDL.val (OwnDL.val (OwnDL.val (OwnDL.cons (m := M1) HO1.out (OwnDL.cons (m := M2) (HO2.out.mono (by omega)) (ownDL_nil _ M2 _) (by omega) (Nat.le_refl _)) (by omega) (by omega)))))) (fun q hq _ _ => ?_)).mono (by omega)).up (by simp only [World.size_setCell]; omega)
  rw [heap_setCell_other _ _ _ _ (by dsimp only; omega), heap_setCell_other _ _ _ _ (by dsimp only; omega), heap_setCell_other _ _ _ _ (by dsimp only; omega), heap_setCell_other _ _ _ _ (by dsimp only; omega), heap_setCell_other _ _ _ _ (by dsimp only; omega), heap_setCell_other _ _ _ _ (by dsimp only; omega)]
set_option maxRecDepth 100000 in
set_option maxHeartbeats 8000000 in
theorem copyOfS (w : World) (xs : List Cpy) (v : Value) (q : Int) (h : Reads w w.heap.size (cpys xs) v) (hg : cpysG xs) :
    Calls Try.prog 17 #[v, .int .i64 q] w fun e w' => cpyP2 w w' (copyC xs q) (foundC xs q) e := by
  have HR := hide h
  have hm := hg.1
  have HGf : Hid (∀ j, j < xs.length → CpyG (xs.getD j default)) := hide (fun j hj => getD_mem hg.2 j hj)
  obtain ⟨a1, c1, e1, _⟩ := h.shape
  subst e1
  clear h hg
  have HV1 : Hid (atC xs q < 0 → copyC xs q = noCpy ∧ foundC xs q = false) := hide (fun h => ⟨if_neg (by omega), decide_eq_false (by omega)⟩)
  have HV2 : Hid (∀ j : Nat, atC xs q = (j : Int) → copyC xs q = xs.getD j default ∧ foundC xs q = true) := hide (fun j hj => ⟨by unfold copyC; rw [if_pos (by omega), hj, Int.toNat_natCast], decide_eq_true (by omega)⟩)
  have hat := atC_lt xs q
  obtain ⟨C, hC⟩ : ∃ C, foundC xs q = C := ⟨_, rfl⟩
  obtain ⟨V, hV⟩ : ∃ V, copyC xs q = V := ⟨_, rfl⟩
  rw [hC, hV] at HV1
  rw [hC, hV]
  simp only [hC, hV] at HV2
  clear hC hV
  have bA := ((Below.refl w.heap.size w).alloc (Nat.le_refl _) (.cells #[.int .i64 0, .int .i64 0, .int .i64 0, .bool false, .slice none 0 0, .slice none 0 0] 40))
  have G0 := heap_alloc_new w (.cells #[.int .i64 0, .int .i64 0, .int .i64 0, .bool false, .slice none 0 0, .slice none 0 0] 40)
  have E0 := hide (G0)
  have HB := hide bA
  replace HR := hide (HR.out.at bA)
  clear bA G0
  go_enter Try.func17, Try.ntmps17
  go_wp2_with fail
  generalize (w.alloc (.cells #[.int .i64 0, .int .i64 0, .int .i64 0, .bool false, .slice none 0 0, .slice none 0 0] 40)) = W at *
  refine (atCS _ xs _ q HR.out hm).mono ?_
  rintro e x1 ⟨rfl, hx1⟩
  rw [hx1]
  clear hx1 x1
  generalize atC xs q = K at *
  have hs1 := (Array.getElem?_eq_some_iff.1 E0.out).1
  have hsB := HB.out.size
  by_cases k0 : K < 0
  · have HF := hide (HV1.out k0)
    clear HV1 HV2 hat
    have s0 := (box_of E0.out).1 0 _ rfl
    have s1 := (box_of E0.out).1 1 _ rfl
    have s2 := (box_of E0.out).1 2 _ rfl
    have s3 := (box_of E0.out).1 3 _ rfl
    have s4 := (box_of E0.out).1 4 _ rfl
    have s5 := (box_of E0.out).1 5 _ rfl
    have sz := (box_of E0.out).2
    go_wp2
    refine bodyPost_ret (v := .tuple #[.agg #[.int .i64 0, .int .i64 0, .int .i64 0, .bool false, .slice none 0 0, .slice none 0 0], .bool false]) (results_ct Try.results17 _ _ _ rfl (loadCpy (putN6c E0.out _ _ _ _ _ _))) rfl ?_
    rw [HF.out.1, HF.out.2]
    exact ⟨_, _, rfl, OwnDL.val (OwnDL.val (OwnDL.val (OwnDL.val (OwnDL.cons (m := w.heap.size) (ownD_nil _ _ _ _ _) (OwnDL.cons (m := w.heap.size) (ownD_nil _ _ _ _ _) (ownDL_nil _ _ _) (Nat.le_refl _) (by simp only [World.size_setCell]; omega)) (Nat.le_refl _) (by simp only [World.size_setCell]; omega))))), (((((HB.out.setCell (by dsimp only; omega) _).setCell (by dsimp only; omega) _).setCell (by dsimp only; omega) _).setCell (by dsimp only; omega) _).setCell (by dsimp only; omega) _).setCell (by dsimp only; omega) _⟩
  · obtain ⟨j, hj⟩ : ∃ j : Nat, K = (j : Int) := ⟨K.toNat, by omega⟩
    subst hj
    have hlt : j < xs.length := by omega
    have hltI : (j : Int) < (xs.length : Int) := by omega
    have HF := hide (HV2.out j rfl)
    clear hat HV1 HV2
    obtain ⟨a', cap', ea, hcap, _, hc⟩ := copy_at HR.out
    cases ea
    obtain ⟨b, o, rfl, hbb, hcell⟩ := hc (by omega)
    obtain ⟨pv1, pv2, d0, d1, d2, d3, d4, d5, r1, r2⟩ := hcell j hlt
    have HGy := hide (HGf.out j hlt)
    clear hcell hc
    obtain ⟨y, hy⟩ : ∃ y, xs.getD j default = y := ⟨_, rfl⟩
    rw [hy] at d0 d1 d2 d3 r1 r2 HGy HF
    clear hy
    obtain ⟨fa, fc, fe, _⟩ := r1.shape
    obtain ⟨ta, tc, te, _⟩ := r2.shape
    subst fe te
    go_wp2_with fail
    refine (cpyOneS _ y _ _ r1 r2 HGy.out.f.1 HGy.out.t.1).mono ?_
    rintro e w2 ⟨v1, v2, rfl, o9, b9⟩
    have hz2 := b9.size
    obtain ⟨pa, pc, pe, _⟩ := (cpyD_own o9).1.shape
    obtain ⟨qa, qc, qe, _⟩ := (cpyD_own o9).2.shape
    subst pe qe
    have HO := hide o9
    clear o9 d0 d1 d2 d3 d4 d5 r1 r2
    replace E0 := hide ((b9.block _ hs1).trans E0.out)
    replace HB := hide (HB.out.trans (b9.mono HB.out.size))
    clear b9
    unfold cpyV
    have s0 := (box_of E0.out).1 0 _ rfl
    have s1 := (box_of E0.out).1 1 _ rfl
    have s2 := (box_of E0.out).1 2 _ rfl
    have s3 := (box_of E0.out).1 3 _ rfl
    have s4 := (box_of E0.out).1 4 _ rfl
    have s5 := (box_of E0.out).1 5 _ rfl
    have sz := (box_of E0.out).2
    go_wp2
    refine bodyPost_ret (v := .tuple #[.agg #[.int .i64 y.i, .int .i64 y.c, .int .i64 y.n, .bool y.v, .slice pa y.f.length pc, .slice qa y.t.length qc], .bool true]) (results_ct Try.results17 _ _ _ rfl (loadCpy (putN6c E0.out _ _ _ _ _ _))) rfl ?_
    rw [HF.out.1, HF.out.2]
    refine ⟨_, _, rfl, ?_, (((((HB.out.setCell (by dsimp only; omega) _).setCell (by dsimp only; omega) _).setCell (by dsimp only; omega) _).setCell (by dsimp only; omega) _).setCell (by dsimp only; omega) _).setCell (by dsimp only; omega) _⟩
    refine ((HO.out.same (fun q hq _ _ => ?_)).mono (by omega)).up (by simp only [World.size_setCell]; omega)
    rw [heap_setCell_other _ _ _ _ (by dsimp only; omega), heap_setCell_other _ _ _ _ (by dsimp only; omega), heap_setCell_other _ _ _ _ (by dsimp only; omega), heap_setCell_other _ _ _ _ (by dsimp only; omega), heap_setCell_other _ _ _ _ (by dsimp only; omega), heap_setCell_other _ _ _ _ (by dsimp only; omega)]
theorem cpys_snoc (xs : List Cpy) (y : Cpy) : cpys (xs ++ [y]) = .row 40 6 (xs.length + 1) (xs.flatMap cpyD ++ cpyD y) := by
  unfold cpys
  rw [List.length_append, List.flatMap_append]
  simp
theorem take_snocC {xs : List Cpy} {j : Nat} (h : j < xs.length) : xs.take (j + 1) = xs.take j ++ [xs.getD j default] := by
  rw [List.take_add_one, List.getElem?_eq_getElem h, List.getD_eq_getElem?_getD, List.getElem?_eq_getElem h]
  rfl
set_option maxRecDepth 100000 in
set_option maxHeartbeats 8000000 in
theorem copyCS (w : World) (xs : List Cpy) (v : Value) (h : Reads w w.heap.size (cpys xs) v) (hg : cpysG xs) :
    Calls Try.prog 57 #[v] w fun e w' => rowP w w' (cpys xs) e := by
  have HR := hide h
  have hm := hg.1
  have HGf : Hid (∀ j, j < xs.length → CpyG (xs.getD j default)) := hide (fun j hj => getD_mem hg.2 j hj)
  obtain ⟨a1, c1, e1, _⟩ := h.shape
  subst e1
  clear h hg
  obtain ⟨i0, hi, hz0, hz1, hz2⟩ := info_parts Try.infoCpy
  have HI := hide (And.intro hi (And.intro hz0 (And.intro hz1 hz2)))
  clear hi hz0 hz1 hz2
  have HO := hide (ownD_zero w 40 6)
  have HBX := hide ((Below.refl w.heap.size w).alloc (Nat.le_refl _) (.cells #[] 40))
  have hbX := HBX.out.size
  go_enter Try.func57, Try.ntmps57
  go_upto_region 2 with fail
  obtain ⟨gA, hgA⟩ : ∃ g, w.heap.size = g := ⟨_, rfl⟩
  rw [hgA] at HO hbX ⊢
  have HGA := hide hgA
  clear hgA
  generalize w.alloc (.cells #[] 40) = W1 at *
  go_wp2
  go_loopw [3, 4] (fun r i wr => ∃ ys : List Cpy, ys.length ≤ xs.length ∧ Hid (ys = xs.take ys.length) ∧ i = .int .i64 (ys.length : Int) ∧ ∃ (va : Option Addr) (vc : Nat), r = .slice va ys.length vc ∧ Hid (OwnD wr gA wr.heap.size (cpys ys) (.slice va ys.length vc)) ∧ Hid (Below gA W1 wr)) (fun _ i _ => xs.length - (intOf i).toNat)
  case atStart => exact ⟨[], Nat.zero_le _, hide (by simp), rfl, _, _, rfl, HO, hide (Below.refl _ _)⟩
  case round =>
    obtain ⟨ys, hyl, HYS, rfl, va, vc, rfl, HOr, HL⟩ := hrel
    have HBr : Hid (Below w.heap.size w wr) := hide (HBX.out.trans (HL.out.mono (by have := HGA.out; omega)))
    have hgw : gA ≤ wr.heap.size := Nat.le_trans (by omega) HL.out.size
    by_cases hlt : ys.length < xs.length
    · obtain ⟨a', cap', ea, hcap, _, hc⟩ := copy_at (HR.out.at HBr.out)
      cases ea
      obtain ⟨b, o, rfl, hbb, hcell⟩ := hc (by omega)
      obtain ⟨pv1, pv2, d0, d1, d2, d3, d4, d5, r1, r2⟩ := hcell ys.length hlt
      have HGy := hide (HGf.out ys.length hlt)
      have HYS2 : Hid (ys ++ [xs.getD ys.length default] = xs.take (ys ++ [xs.getD ys.length default]).length) := hide (by
        rw [List.length_append]
        show _ = xs.take (ys.length + 1)
        rw [take_snocC hlt, ← HYS.out])
      clear hcell hc
      obtain ⟨y, hy⟩ : ∃ y, xs.getD ys.length default = y := ⟨_, rfl⟩
      rw [hy] at d0 d1 d2 d3 r1 r2 HGy HYS2
      clear hy
      obtain ⟨fa, fc, fe, _⟩ := r1.shape
      obtain ⟨ta, tc, te, _⟩ := r2.shape
      subst fe te
      have hltI : (ys.length : Int) < (xs.length : Int) := by omega
      clear HYS
      go_wp2_with (first
        | (go_at_call 50; refine (cpyOneS _ y _ _ r1 r2 HGy.out.f.1 HGy.out.t.1).mono ?_; rintro e Z1 ⟨v1, v2, rfl, o9, b9⟩; obtain ⟨pa, pc, pe, _⟩ := (cpyD_own o9).1.shape; obtain ⟨qa, qc, qe, _⟩ := (cpyD_own o9).2.shape; subst pe qe; have HD := hide o9; have hz1 := b9.size; have HB9 := hide b9; clear o9 b9 d0 d1 d2 d3 d4 d5 r1 r2; unfold cpyV; have HXa := hide ((Below.refl Z1.heap.size Z1).alloc (Nat.le_refl _) (.cells #[.int .i64 y.i, .int .i64 y.c, .int .i64 y.n, .bool y.v, .slice pa y.f.length pc, .slice qa y.t.length qc] 40)); have hsX := HXa.out.size; have HDx := hide ((HD.out.below HXa.out).up HXa.out.size); have hown := hide (OwnDL.cons ((HOr.out.below HB9.out).below HXa.out) (ownDL_nil _ wr.heap.size wr.heap.size) hgw (Nat.le_refl _)); have hbx := hide (box_of (heap_alloc_new Z1 (.cells #[.int .i64 y.i, .int .i64 y.c, .int .i64 y.n, .bool y.v, .slice pa y.f.length pc, .slice qa y.t.length qc] 40))).1; have HLx := hide ((HL.out.trans (HB9.out.mono hgw)).trans (HXa.out.mono (by omega))); clear HOr HD HB9 HXa)
        | (at_builtin; refine appL rfl _ _ 33 rfl gA wr.heap.size wr.heap.size 40 i0 (.agg #[.int .i64 0, .int .i64 0, .int .i64 0, .bool false, .slice none 0 0, .slice none 0 0]) 6 80 Try.underlying33 HI.out.1 HI.out.2.1 HI.out.2.2.1 HI.out.2.2.2 rfl (by decide) (.slice va ys.length vc) ys.length (ys.flatMap cpyD) [] [] [] [] rfl hown.out rfl _ _ [.int .i64 y.i, .int .i64 y.c, .int .i64 y.n, .bool y.v, .slice pa y.f.length pc, .slice qa y.t.length qc] (cpyD y) rfl hbx.out HDx.out rfl (by simp [Value.oneCell']) (by omega) (by decide) (Nat.le_refl _) hgw (by omega) ?_; intro g9 vc9 w9 o9 gr9 hq9; have HO9 := hide (OwnDL.mid (c1 := []) (v1 := []) o9 rfl); have HB9 := hide (HLx.out.grown gr9 (by omega) (fun q hq => (hq9 q hq).1)); clear o9 gr9 hq9)
        | fail)
      refine ⟨⟨ys ++ [y], ?_, HYS2, ?_, some ⟨g9, 0, none⟩, vc9, ?_, hide ?_, HB9⟩, ?_⟩
      · rw [List.length_append]; simp only [List.length_cons, List.length_nil]; omega
      · rw [List.length_append]; simp only [List.length_cons, List.length_nil]; go_num
      · rw [List.length_append]; rfl
      · rw [cpys_snoc, List.length_append]
        exact HO9.out
      · simp [intOf]; omega
    · have hxe : ys = xs := by
        have h1 := HYS.out
        have h2 : ys.length = xs.length := by omega
        rw [h2, List.take_length] at h1
        exact h1
      have HXE := hide hxe
      clear hxe
      go_wp2
      go_ret
      refine ⟨_, rfl, ?_, HBr.out⟩
      rw [← HXE.out]
      exact HOr.out.mono (by have := HGA.out; omega)
set_option maxRecDepth 100000 in
set_option maxHeartbeats 8000000 in
theorem readCS (w : World) (xs : List Cpy) (v : Value) (q p : Int) (h : Reads w w.heap.size (cpys xs) v) (hg : cpysG xs) :
    Calls Try.prog 23 #[v, .int .i64 q, .int .i64 p] w fun e w' => e = .returned (.tuple #[vlV (readC xs q p), .bool (hasC xs q p)]) ∧ Below w.heap.size w w' := by
  have HR := hide h
  have hm := hg.1
  have HGf : Hid (∀ j, j < xs.length → CpyG (xs.getD j default)) := hide (fun j hj => getD_mem hg.2 j hj)
  obtain ⟨a1, c1, e1, _⟩ := h.shape
  subst e1
  clear h hg
  have HV0 : Hid (hasC xs q p = false → readC xs q p = ⟨false, 0⟩ ∧ hasC xs q p = false) := hide (fun h => ⟨by unfold readC; rw [if_neg (by rw [h]; simp)], h⟩)
  have HV1 : Hid (atC xs q < 0 → hasC xs q p = false) := hide (fun h => by unfold hasC foundC; rw [decide_eq_false (by omega)]; rfl)
  have HV2 : Hid (∀ j : Nat, atC xs q = (j : Int) → hasC xs q p = ((xs.getD j default).v && inB p 0 (((xs.getD j default).f.length : Int) - 1))) := hide (fun j hj => by unfold hasC foundC copyC; rw [decide_eq_true (by omega), if_pos (by omega), hj, Int.toNat_natCast, Bool.true_and])
  have HV3 : Hid (∀ j : Nat, atC xs q = (j : Int) → hasC xs q p = true → readC xs q p = (xs.getD j default).f.getD p.toNat default ∧ hasC xs q p = true) := hide (fun j hj h => ⟨by unfold readC copyC; rw [if_pos h, if_pos (by omega), hj, Int.toNat_natCast], h⟩)
  have hat := atC_lt xs q
  obtain ⟨C, hC⟩ : ∃ C, hasC xs q p = C := ⟨_, rfl⟩
  obtain ⟨V, hV⟩ : ∃ V, readC xs q p = V := ⟨_, rfl⟩
  rw [hC, hV] at HV0
  rw [hC] at HV1
  simp only [hC, hV] at HV2 HV3
  rw [hC, hV]
  clear hC hV
  have bA := ((Below.refl w.heap.size w).alloc (Nat.le_refl _) (.cells #[.bool false, .int .i64 0] 48))
  have G0 := heap_alloc_new w (.cells #[.bool false, .int .i64 0] 48)
  have E0 := hide (G0)
  have HB := hide bA
  replace HR := hide (HR.out.at bA)
  clear bA G0
  go_enter Try.func23, Try.ntmps23
  go_wp2_with fail
  generalize (w.alloc (.cells #[.bool false, .int .i64 0] 48)) = W at *
  refine (atCS _ xs _ q HR.out hm).mono ?_
  rintro e x1 ⟨rfl, hx1⟩
  rw [hx1]
  clear hx1 x1
  generalize atC xs q = K at *
  have s0 := (box_of E0.out).1 0 _ rfl
  have s1 := (box_of E0.out).1 1 _ rfl
  have sz := (box_of E0.out).2
  by_cases k0 : K < 0
  · have HF := hide (HV0.out (HV1.out k0))
    clear HV0 HV1 HV2 HV3 hat
    go_wp2
    refine bodyPost_ret (v := .tuple #[.agg #[.bool false, .int .i64 0], .bool false]) (results_ct Try.results23 _ _ _ rfl (loadVl (putN2 E0.out _ _))) rfl ⟨by rw [HF.out.1, HF.out.2]; rfl, ?_⟩
    exact (HB.out.setCell (by simp <;> omega) _).setCell (by simp <;> omega) _
  · obtain ⟨j, hj⟩ : ∃ j : Nat, K = (j : Int) := ⟨K.toNat, by omega⟩
    subst hj
    have hlt : j < xs.length := by omega
    have hltI : (j : Int) < (xs.length : Int) := by omega
    have HF := hide (HV2.out j rfl)
    have HW3 := hide (HV3.out j rfl)
    clear hat HV1 HV2 HV3
    obtain ⟨a', cap', ea, hcap, _, hc⟩ := copy_at HR.out
    cases ea
    obtain ⟨b, o, rfl, hbb, hcell⟩ := hc (by omega)
    obtain ⟨pv1, pv2, d0, d1, d2, d3, d4, d5, r1, r2⟩ := hcell j hlt
    have hfl := (HGf.out j hlt).f.1
    clear hcell hc d0 d1 d2 d5 r2
    obtain ⟨y, hy⟩ : ∃ y, xs.getD j default = y := ⟨_, rfl⟩
    rw [hy] at d3 r1 hfl HF HW3
    clear hy
    obtain ⟨fa, fc, fe, _⟩ := r1.shape
    subst fe
    have hw : IntKind.i64.wrap ((y.f.length : Int) - 1) = (y.f.length : Int) - 1 := by rw [IntKind.wrap_i64]; omega
    cases cv : y.v with
    | false =>
      rw [cv] at d3
      have HF0 := hide (HV0.out (by rw [HF.out, cv]; rfl))
      clear HV0 HW3 HF cv
      have HF := HF0
      go_wp2
      refine bodyPost_ret (v := .tuple #[.agg #[.bool false, .int .i64 0], .bool false]) (results_ct Try.results23 _ _ _ rfl (loadVl (putN2 E0.out _ _))) rfl ⟨by rw [HF.out.1, HF.out.2]; rfl, ?_⟩
      exact (HB.out.setCell (by simp <;> omega) _).setCell (by simp <;> omega) _
    | true =>
      rw [cv] at d3
      go_wp2_with fail
      refine (inSpec _ _ _ _).mono ?_
      rintro e w2 ⟨rfl, hw2⟩
      rw [hw2]
      clear hw2 w2
      cases ci : inB p 0 ((y.f.length : Int) - 1) with
      | false =>
        have HF0 := hide (HV0.out (by rw [HF.out, cv, ci]; rfl))
        clear HV0 HW3 HF cv
        have HF := HF0
        go_wp2
        refine bodyPost_ret (v := .tuple #[.agg #[.bool false, .int .i64 0], .bool false]) (results_ct Try.results23 _ _ _ rfl (loadVl (putN2 E0.out _ _))) rfl ⟨by rw [HF.out.1, HF.out.2]; rfl, ?_⟩
        exact (HB.out.setCell (by simp <;> omega) _).setCell (by simp <;> omega) _
      | true =>
        obtain ⟨hv, hc'⟩ := HW3.out (by rw [HF.out, cv, ci]; rfl)
        have HF1 := hide hv
        have HF2 := hide hc'
        have hin := inB_yes ci
        obtain ⟨t, ht⟩ : ∃ t : Nat, p = (t : Int) := ⟨p.toNat, by omega⟩
        subst ht
        have htl : t < y.f.length := by omega
        have htI : (t : Int) < (y.f.length : Int) := by omega
        obtain ⟨_, _, ea, _, _, hc2⟩ := val_at r1
        cases ea
        obtain ⟨b2, o2, rfl, hbb2, hcell2⟩ := hc2 (by omega)
        obtain ⟨f0, f1⟩ := hcell2 t htl
        rw [Int.toNat_natCast] at HF1
        generalize y.f.getD t default = z at *
        clear HV0 HW3 HF hv hc' hcell2 hc2 hin ci cv
        go_wp2
        refine bodyPost_ret (v := .tuple #[.agg #[.bool z.r, .int .i64 z.n], .bool true]) (results_ct Try.results23 _ _ _ rfl (loadVl (putN2 E0.out _ _))) rfl ⟨by rw [HF1.out, HF2.out]; rfl, ?_⟩
        exact (HB.out.setCell (by simp <;> omega) _).setCell (by simp <;> omega) _
theorem ints_snoc (xs : List Int) (y : Int) : ints (xs ++ [y]) = .row 3 1 (xs.length + 1) (xs.flatMap niD ++ niD y) := by
  unfold ints
  rw [List.length_append, List.flatMap_append]
  simp
theorem take_snocC2 {xs : List Cpy} {j : Nat} (h : j < xs.length) : xs.take (j + 1) = xs.take j ++ [xs.getD j default] := by
  rw [List.take_add_one, List.getElem?_eq_getElem h, List.getD_eq_getElem?_getD, List.getElem?_eq_getElem h]
  rfl
theorem dirty_len (xs : List Cpy) : (dirtyC xs).length ≤ xs.length := by
  unfold dirtyC
  rw [List.length_map]
  exact List.length_filter_le _ _
theorem dirty_yes {xs : List Cpy} {j : Nat} {y : Cpy} (h : j < xs.length) (hy : xs.getD j default = y) (hd : dirtB y = true) : dirtyC (xs.take (j + 1)) = dirtyC (xs.take j) ++ [y.i] := by
  unfold dirtyC
  rw [take_snocC2 h, hy, List.filter_append, List.map_append]
  simp [hd]
theorem dirty_no {xs : List Cpy} {j : Nat} {y : Cpy} (h : j < xs.length) (hy : xs.getD j default = y) (hd : dirtB y = false) : dirtyC (xs.take (j + 1)) = dirtyC (xs.take j) := by
  unfold dirtyC
  rw [take_snocC2 h, hy, List.filter_append, List.map_append]
  simp [hd]
set_option maxRecDepth 100000 in
set_option maxHeartbeats 8000000 in
theorem dirtyS (w : World) (xs : List Cpy) (v : Value) (h : Reads w w.heap.size (cpys xs) v) (hg : cpysG xs) :
    Calls Try.prog 30 #[v] w fun e w' => rowP w w' (ints (dirtyC xs)) e := by
  have HR := hide h
  have hm := hg.1
  have HGf : Hid (∀ j, j < xs.length → CpyG (xs.getD j default)) := hide (fun j hj => getD_mem hg.2 j hj)
  obtain ⟨a1, c1, e1, _⟩ := h.shape
  subst e1
  clear h hg
  clear HGf
  have hdl := dirty_len
  obtain ⟨i0, hi, hz0, hz1, hz2⟩ := info_parts Try.infoNi
  have HI := hide (And.intro hi (And.intro hz0 (And.intro hz1 hz2)))
  clear hi hz0 hz1 hz2
  have HO := hide (ownD_zero w 3 1)
  have HBX := hide ((Below.refl w.heap.size w).alloc (Nat.le_refl _) (.cells #[] 3))
  have hbX := HBX.out.size
  go_enter Try.func30, Try.ntmps30
  go_upto_region 2 with fail
  obtain ⟨gA, hgA⟩ : ∃ g, w.heap.size = g := ⟨_, rfl⟩
  rw [hgA] at HO hbX ⊢
  have HGA := hide hgA
  clear hgA
  generalize w.alloc (.cells #[] 3) = W1 at *
  go_wp2
  go_loopw [3, 4] (fun r i wr => ∃ (j : Nat) (ys : List Int), j ≤ xs.length ∧ Hid (ys = dirtyC (xs.take j)) ∧ i = .int .i64 (j : Int) ∧ ∃ (va : Option Addr) (vc : Nat), r = .slice va ys.length vc ∧ Hid (OwnD wr gA wr.heap.size (ints ys) (.slice va ys.length vc)) ∧ Hid (Below gA W1 wr)) (fun _ i _ => xs.length - (intOf i).toNat)
  case atStart => exact ⟨0, [], Nat.zero_le _, hide (by simp [dirtyC]), rfl, _, _, rfl, HO, hide (Below.refl _ _)⟩
  case round =>
    obtain ⟨j, ys, hj, HYS, rfl, va, vc, rfl, HOr, HL⟩ := hrel
    have HBr : Hid (Below w.heap.size w wr) := hide (HBX.out.trans (HL.out.mono (by have := HGA.out; omega)))
    have hgw : gA ≤ wr.heap.size := Nat.le_trans (by omega) HL.out.size
    have hyl : ys.length ≤ 1048576 := by
      have h1 := hdl (xs.take j)
      rw [← HYS.out, List.length_take] at h1
      omega
    by_cases hlt : j < xs.length
    · obtain ⟨a', cap', ea, hcap, _, hc⟩ := copy_at (HR.out.at HBr.out)
      cases ea
      obtain ⟨b, o, rfl, hbb, hcell⟩ := hc (by omega)
      obtain ⟨pv1, pv2, d0, d1, d2, d3, d4, d5, r1, r2⟩ := hcell j hlt
      clear hcell hc d1 d2 d3 d4 r1
      obtain ⟨y, hy⟩ : ∃ y, xs.getD j default = y := ⟨_, rfl⟩
      have HY := hide hy
      rw [hy] at d0 r2
      clear hy
      obtain ⟨ta, tc, te, _⟩ := r2.shape
      subst te
      have hltI : (j : Int) < (xs.length : Int) := by omega
      by_cases k : 0 < y.t.length
      · have HYS2 : Hid (ys ++ [y.i] = dirtyC (xs.take (j + 1))) := hide (by rw [dirty_yes hlt HY.out (decide_eq_true k), ← HYS.out])
        have k' : (0 : Int) < (y.t.length : Int) := by omega
        clear HYS k
        have HXa := hide ((Below.refl wr.heap.size wr).alloc (Nat.le_refl _) (.cells #[.int .i64 y.i] 3))
        have hsX := HXa.out.size
        have hown := hide (OwnDL.cons (HOr.out.below HXa.out) (ownDL_nil _ wr.heap.size wr.heap.size) hgw (Nat.le_refl _))
        have hbx := hide (box_of (heap_alloc_new wr (.cells #[.int .i64 y.i] 3))).1
        have HLx := hide (HL.out.trans (HXa.out.mono hgw))
        go_wp2_with (first
          | (at_builtin; refine appL rfl _ _ 58 rfl gA wr.heap.size wr.heap.size 3 i0 (.int .i64 0) 1 8 Try.underlying58 HI.out.1 HI.out.2.1 HI.out.2.2.1 HI.out.2.2.2 rfl (by decide) (.slice va ys.length vc) ys.length (ys.flatMap niD) [] [] [] [] rfl hown.out rfl _ _ [.int .i64 y.i] (niD y.i) rfl hbx.out (ownDL_vals _ _ _ [.int .i64 y.i]) rfl (by simp [Value.oneCell']) (by omega) (by decide) (Nat.le_refl _) hgw (by omega) ?_; intro g9 vc9 w9 o9 gr9 hq9; have HO9 := hide (OwnDL.mid (c1 := []) (v1 := []) o9 rfl); have HB9 := hide (HLx.out.grown gr9 (by omega) (fun q hq => (hq9 q hq).1)); clear o9 gr9 hq9)
          | fail)
        refine ⟨⟨j + 1, ys ++ [y.i], by omega, HYS2, by go_num, some ⟨g9, 0, none⟩, vc9, ?_, hide ?_, HB9⟩, ?_⟩
        · rw [List.length_append]; rfl
        · rw [ints_snoc, List.length_append]
          exact HO9.out
        · simp [intOf]; omega
      · have HYS2 : Hid (ys = dirtyC (xs.take (j + 1))) := hide (by rw [dirty_no hlt HY.out (decide_eq_false k), ← HYS.out])
        have k' : ¬ ((0 : Int) < (y.t.length : Int)) := by omega
        clear HYS k
        go_wp2
        exact ⟨⟨j + 1, ys, by omega, HYS2, by go_num, va, vc, rfl, HOr, HL⟩, by simp [intOf]; omega⟩
    · have hje : j = xs.length := by omega
      have HXE : Hid (ys = dirtyC xs) := hide (by rw [HYS.out, hje, List.take_length])
      have hnI : ¬ ((j : Int) < (xs.length : Int)) := by omega
      clear hje
      go_wp2
      go_ret
      refine ⟨_, rfl, ?_, HBr.out⟩
      rw [← HXE.out]
      exact HOr.out.mono (by have := HGA.out; omega)
end Go.Proofs.Ytofnpgheppgcaaa
