/-
  What Arrive does at a nod: the line forgets what was told.
-/
import Derived.Test.YtkfnpijljpbiaaaDoorXLetNod
import Derived.Test.YtkfnpijljpbiaaaDoorXSndForg
namespace Go.Proofs.YtkfnpijljpbiaaaDoor
open Go.RowKit

set_option maxRecDepth 100000 in
set_option maxHeartbeats 4000000 in
theorem arriveNod (w : World) (base got : Int) (v : Value) (ms : List Ms) (h : RdS w w.heap.size v ms) (hm : ms.length ≤ 1048576) (hgd : GoodS ms) (a : Option Addr) (len cap : Nat) (zs bs : List Int) (t : TypeId) (vv : Value) (k1 : Nat) (n : Int) (h0 : 0 < w.heap.size) (hin : In w w.heap.size a len zs) (hcap : len ≤ cap) (hE : Err w t vv)
    (hop : opened zs = some bs) (hby : Byt bs) (hbl : bs.length ≤ 1000) (hf : rFlag bs 0 = some (false, k1)) (hn : gnF bs 4 k1 0 1 = some (n, bs.length)) (hn2 : 0 ≤ n ∧ n ≤ 16777215) :
    Calls Tryd.prog 10 #[lnV base got v, .slice a len cap] w fun e w' => ∃ v', e = .returned (.tuple #[lnV (fgR base n ms).1 got v', .agg #[.int .i64 0, .int .i64 0, .int .i64 0, .int .i64 0, .int .i64 0, .slice none 0 0, .slice none 0 0], .bool false]) ∧ OwnS w' w.heap.size w'.heap.size v' (fgR base n ms).2 ∧ Below w.heap.size w w' := by
  have HR := hide h
  obtain ⟨a0, cap0, rfl, _⟩ := ms_at h
  clear h
  unfold lnV
  have b1 := (Below.refl w.heap.size w).alloc (Nat.le_refl _) (.cells #[.int .i64 base, .slice a0 ms.length cap0, .int .i64 got] 28)
  have b2 := b1.alloc b1.size (.cells #[.int .i64 0, .slice none 0 0, .int .i64 0] 28)
  have b3 := b2.alloc b2.size (.cells #[.int .i64 0, .int .i64 0, .int .i64 0, .int .i64 0, .int .i64 0, .slice none 0 0, .slice none 0 0] 39)
  have HE0 := hide ((Below.heap_alloc ((w.alloc (.cells #[.int .i64 base, .slice a0 ms.length cap0, .int .i64 got] 28)).alloc (.cells #[.int .i64 0, .slice none 0 0, .int .i64 0] 28)) (.cells #[.int .i64 0, .int .i64 0, .int .i64 0, .int .i64 0, .int .i64 0, .slice none 0 0, .slice none 0 0] 39) w.heap.size (by simp; omega)).trans ((Below.heap_alloc (w.alloc (.cells #[.int .i64 base, .slice a0 ms.length cap0, .int .i64 got] 28)) (.cells #[.int .i64 0, .slice none 0 0, .int .i64 0] 28) w.heap.size (by simp)).trans (heap_alloc_new w (.cells #[.int .i64 base, .slice a0 ms.length cap0, .int .i64 got] 28))))
  have HE1 := hide ((Below.heap_alloc ((w.alloc (.cells #[.int .i64 base, .slice a0 ms.length cap0, .int .i64 got] 28)).alloc (.cells #[.int .i64 0, .slice none 0 0, .int .i64 0] 28)) (.cells #[.int .i64 0, .int .i64 0, .int .i64 0, .int .i64 0, .int .i64 0, .slice none 0 0, .slice none 0 0] 39) (w.heap.size + 1) (by simp)).trans (by have := heap_alloc_new (w.alloc (.cells #[.int .i64 base, .slice a0 ms.length cap0, .int .i64 got] 28)) (.cells #[.int .i64 0, .slice none 0 0, .int .i64 0] 28); simp only [World.size_alloc] at this; exact this))
  have HE2 := hide (heap_alloc_new ((w.alloc (.cells #[.int .i64 base, .slice a0 ms.length cap0, .int .i64 got] 28)).alloc (.cells #[.int .i64 0, .slice none 0 0, .int .i64 0] 28)) (.cells #[.int .i64 0, .int .i64 0, .int .i64 0, .int .i64 0, .int .i64 0, .slice none 0 0, .slice none 0 0] 39))
  simp only [World.size_alloc] at HE2
  have HB := hide b3
  have HI := hide (hin.at HB.out)
  have hs0 : (((w.alloc (.cells #[.int .i64 base, .slice a0 ms.length cap0, .int .i64 got] 28)).alloc (.cells #[.int .i64 0, .slice none 0 0, .int .i64 0] 28)).alloc (.cells #[.int .i64 0, .int .i64 0, .int .i64 0, .int .i64 0, .int .i64 0, .slice none 0 0, .slice none 0 0] 39)).heap.size = w.heap.size + 1 + 1 + 1 := by simp
  have HER := hide hE
  clear hin b1 b2 b3 hE
  go_enter Tryd.func10, Tryd.ntmps10
  go_wp2_with fail
  generalize ((w.alloc (.cells #[.int .i64 base, .slice a0 ms.length cap0, .int .i64 got] 28)).alloc (.cells #[.int .i64 0, .slice none 0 0, .int .i64 0] 28)).alloc (.cells #[.int .i64 0, .int .i64 0, .int .i64 0, .int .i64 0, .int .i64 0, .slice none 0 0, .slice none 0 0] 39) = W0 at *
  refine (letterNodR _ _ _ _ _ bs t vv k1 n (by omega) HI.out hcap (HER.out.low HB.out h0) hop hby hbl hf hn).mono ?_
  rintro e w1 ⟨rfl, b1⟩
  unfold nodV
  have bA := b1.alloc b1.size (.cells #[.bool false, .int .i64 0, .int .i64 n, .int .i64 0, .int .i64 0, .int .i64 0, .int .i64 0, .int .i64 0, .slice none 0 0, .slice none 0 0] 52)
  have HW1 := hide (HB.out.trans (bA.mono HB.out.size))
  have F0 := (bA.block w.heap.size (by omega)).trans HE0.out
  have F1 := (bA.block (w.heap.size + 1) (by omega)).trans HE1.out
  have F2 := (bA.block (w.heap.size + 1 + 1) (by omega)).trans HE2.out
  have hs1 : w.heap.size + 1 + 1 + 1 ≤ (w1.alloc (.cells #[.bool false, .int .i64 0, .int .i64 n, .int .i64 0, .int .i64 0, .int .i64 0, .int .i64 0, .int .i64 0, .slice none 0 0, .slice none 0 0] 52)).heap.size := by have := bA.size; omega
  have HL := hide (heap_alloc_new w1 (.cells #[.bool false, .int .i64 0, .int .i64 n, .int .i64 0, .int .i64 0, .int .i64 0, .int .i64 0, .int .i64 0, .slice none 0 0, .slice none 0 0] 52))
  have H0 := hide F0
  have H1 := hide F1
  have H2 := hide F2
  have c0 := (box_of F0).1 0 _ rfl
  have c1 := (box_of F0).1 1 _ rfl
  have l2 := (box_of HL.out).1 2 _ rfl
  clear bA b1 F0 F1 F2 HE0 HE1 HE2 HI HB hs0 hf hn HER
  go_wp2_with fail
  clear c0 c1 l2
  generalize w1.alloc (.cells #[.bool false, .int .i64 0, .int .i64 n, .int .i64 0, .int .i64 0, .int .i64 0, .int .i64 0, .int .i64 0, .slice none 0 0, .slice none 0 0] 52) = W1 at *
  have hLs : w1.heap.size < W1.heap.size := (Array.getElem?_eq_some_iff.1 HL.out).1
  generalize w1.heap.size = L at *
  obtain ⟨FB, FM, hfg⟩ : ∃ FB FM, fgR base n ms = (FB, FM) := ⟨_, _, rfl⟩
  refine (forgetImpl _ base n _ ms (HR.out.at HW1.out) (by omega) hm hgd).mono ?_
  rintro e w2 ha
  rw [hfg] at ha
  obtain ⟨v2, rfl, o2, b2⟩ := ha
  obtain ⟨a2, c2, rfl⟩ := o2.shape
  unfold sndV
  simp only at o2 ⊢
  have HFG := hide hfg
  have bD := (Below.refl w2.heap.size w2).alloc (Nat.le_refl _) (.cells #[.int .i64 FB, .slice a2 FM.length c2] 26)
  have bE := b2.trans (bD.mono b2.size)
  have HM := hide (heap_alloc_new w2 (.cells #[.int .i64 FB, .slice a2 FM.length c2] 26))
  have HO := hide (o2.below bD)
  have hs2 := b2.size
  replace H0 := hide ((bE.block w.heap.size (by omega)).trans H0.out)
  replace H1 := hide ((bE.block (w.heap.size + 1) (by omega)).trans H1.out)
  replace H2 := hide ((bE.block (w.heap.size + 1 + 1) (by omega)).trans H2.out)
  replace HL := hide ((bE.block L hLs).trans HL.out)
  have HW2 := hide (HW1.out.trans (bE.mono HW1.out.size))
  clear bD bE b2 o2 hfg
  have l0 := (box_of HL.out).1 0 _ rfl
  have g2 := (box_of H0.out).1 2 _ rfl
  have s0 := (box_of HM.out).1 0 _ rfl
  have s1 := (box_of HM.out).1 1 _ rfl
  have r0 := (box_of H1.out).1 0 _ rfl
  have r1 := (box_of H1.out).1 1 _ rfl
  have r2 := (box_of H1.out).1 2 _ rfl
  have rz := (box_of H1.out).2
  have HX := hide (box_of H2.out).1
  have m0 := HX.out 0 _ rfl
  have m1 := HX.out 1 _ rfl
  have m2 := HX.out 2 _ rfl
  have m3 := HX.out 3 _ rfl
  have m4 := HX.out 4 _ rfl
  have m5 := HX.out 5 _ rfl
  have m6 := HX.out 6 _ rfl
  have mz := (box_of H2.out).2
  go_upto_region 6 with fail
  generalize w2.alloc (.cells #[.int .i64 FB, .slice a2 FM.length c2] 26) = W2 at *
  generalize w2.heap.size = M at *
  go_wp2
  have P := put10 H1.out H2.out (.int .i64 FB) (.slice a2 FM.length c2) (.int .i64 got) (.int .i64 0) (.int .i64 0) (.int .i64 0) (.int .i64 0) (.int .i64 0) (.slice none 0 0) (.slice none 0 0)
  dsimp only at P
  have HBG := hide ((((((((((HW2.out.setCell (p := ⟨w.heap.size + 1, 0, none⟩) (by simp) (.int .i64 FB)).setCell (p := ⟨w.heap.size + 1, 1, none⟩) (by simp) (.slice a2 FM.length c2)).setCell (p := ⟨w.heap.size + 1, 2, none⟩) (by simp) (.int .i64 got)).setCell (p := ⟨w.heap.size + 1 + 1, 0, none⟩) (by simp; omega) (.int .i64 0)).setCell (p := ⟨w.heap.size + 1 + 1, 1, none⟩) (by simp; omega) (.int .i64 0)).setCell (p := ⟨w.heap.size + 1 + 1, 2, none⟩) (by simp; omega) (.int .i64 0)).setCell (p := ⟨w.heap.size + 1 + 1, 3, none⟩) (by simp; omega) (.int .i64 0)).setCell (p := ⟨w.heap.size + 1 + 1, 4, none⟩) (by simp; omega) (.int .i64 0)).setCell (p := ⟨w.heap.size + 1 + 1, 5, none⟩) (by simp; omega) (.slice none 0 0)).setCell (p := ⟨w.heap.size + 1 + 1, 6, none⟩) (by simp; omega) (.slice none 0 0))
  have HOF := hide (((HO.out.same (fun q hq _ _ => P.2.2.1 q (by omega) (by omega))).mono HW1.out.size).up (hi' := W2.heap.size) (by have := (Array.getElem?_eq_some_iff.1 HM.out).1; omega))
  exact bodyPost_ret (v := .tuple #[.agg #[.int .i64 FB, .slice a2 FM.length c2, .int .i64 got], .agg #[.int .i64 0, .int .i64 0, .int .i64 0, .int .i64 0, .int .i64 0, .slice none 0 0, .slice none 0 0], .bool false]) (results_cct Tryd.results10 _ _ _ rfl rfl (loadL P.1) (load7 P.2.1)) rfl ⟨_, by rw [HFG.out], by rw [HFG.out]; exact HOF.out.up (by rw [P.2.2.2]; exact Nat.le_refl _), HBG.out⟩
end Go.Proofs.YtkfnpijljpbiaaaDoor
