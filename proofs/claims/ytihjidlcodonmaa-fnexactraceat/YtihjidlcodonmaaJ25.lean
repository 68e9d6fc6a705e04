/-
  Joined: ClcA, CopyG.
-/
import Derived.Test.YtihjidlcodonmaaJ24
import Derived.Test.YtihjidlcodonmaaJ13
import Derived.Test.YtihjidlcodonmaaJ3
import Derived.Laws.CopyRow
import Derived.Laws.IdiomCopy
import Derived.Laws.CopyOwn
/-
  The program's known.ahead: the clocks that come together in an event.
-/
namespace Go.Proofs.Ytihjidlcodonmaa
open Go.RowKit

theorem vals_rws {w : World} {b hi : Nat} {cs : List (List Smp)} {v : Value} {vs : List Value} {ds : List Dt} {n : Nat} (h : OwnD w b hi (.row 47 1 n ds) v) (he : ds = vs.map .val) (hn : n = cs.length) (hr : ReadsL w w.heap.size (cs.map smps) vs) : Reads w w.heap.size (rws cs) v := by
  subst he hn
  have h1 := h.rd (Nat.le_refl _)
  unfold Reads at h1
  obtain ⟨us, h2, h3⟩ := h1
  obtain rfl := vals_reads h3
  unfold rws Reads
  exact ⟨_, h2, hr⟩
set_option maxRecDepth 100000 in
set_option maxHeartbeats 16000000 in
theorem aheadI (w : World) (g n : Nat) (f : Int → Int → Option Value) (fc : Int → Int → List Smp) (y : Evt) (hk : KnM w g n f)
    (hf : ∀ k i, (0 ≤ k ∧ k ≤ 6) → (0 ≤ i ∧ i ≤ 1000000) → Reads w w.heap.size (smps (fc k i)) ((f k i).getD (.slice none 0 0))) (hy : evAt y = true) :
    Calls Try.prog 65 #[.map (some g), .agg #[.int .i64 y.w, .int .i64 y.k, .int .i64 y.i, .int .i64 y.a]] w fun e w' => ∃ u, e = .returned u ∧ Reads w' w'.heap.size (rws (aheadC (f 0 y.w).isSome fc y)) u ∧ Below w.heap.size w w' := by
  have HK := hide hk
  have HF := hide hf
  have HE := hide (evAt_in hy)
  have hyw : 0 ≤ y.w ∧ y.w ≤ 1000000 := by have := HE.out.1; omega
  clear hk hf hy
  obtain ⟨i0, hi, hz0, hz1, hz2⟩ := info_parts Try.infoClc
  have HI := hide (And.intro hi (And.intro hz0 (And.intro hz1 hz2)))
  clear hi hz0 hz1 hz2
  have HB := hide ((Below.refl w.heap.size w).alloc (Nat.le_refl _) (.cells #[.int .i64 y.w, .int .i64 y.k, .int .i64 y.i, .int .i64 y.a] 41))
  have EF := hide (heap_alloc_new w (.cells #[.int .i64 y.w, .int .i64 y.k, .int .i64 y.i, .int .i64 y.a] 41))
  have hB1 : w.heap.size + 1 ≤ (w.alloc (.cells #[.int .i64 y.w, .int .i64 y.k, .int .i64 y.i, .int .i64 y.a] 41)).heap.size := by simp
  go_enter Try.func65, Try.ntmps65
  go_upto_region 1 with fail
  generalize w.alloc (.cells #[.int .i64 y.w, .int .i64 y.k, .int .i64 y.i, .int .i64 y.a] 41) = W at *
  have k0 := (box_of EF.out).1 0 _ rfl
  have k1 := (box_of EF.out).1 1 _ rfl
  have k2 := (box_of EF.out).1 2 _ rfl
  have lp := (HK.out.below HB.out).lookB (k := 0) (i := y.w) (by omega) hyw
  unfold srcV at lp
  obtain ⟨pa, pc, pe, _⟩ := (HF.out 0 y.w (by omega) hyw).shape
  rw [pe] at lp
  have Rp : Hid (Reads w w.heap.size (smps (fc 0 y.w)) (.slice pa (fc 0 y.w).length pc)) := hide (by have h := HF.out 0 y.w (by omega) hyw; rw [pe] at h; exact h)
  clear pe
  cases hf0 : (f 0 y.w).isSome with
  | true =>
    rw [hf0] at lp
    go_upto_region 3 with fail
    have bX := (Below.refl W.heap.size W).alloc (Nat.le_refl _) (.cells #[.slice pa (fc (0) (y.w)).length pc] 47)
    have HO : Hid (OwnDL (W.alloc (.cells #[.slice pa (fc (0) (y.w)).length pc] 47)) (w.heap.size + 1) (W.alloc (.cells #[.slice pa (fc (0) (y.w)).length pc] 47)).heap.size [.row 47 1 1 [.val (.slice pa (fc (0) (y.w)).length pc)]] [.slice (some ⟨W.heap.size, 0, none⟩) 1 1]) := hide (OwnDL.cons (m := W.heap.size + 1) (((ownD_box (heap_alloc_new W (.cells #[.slice pa (fc (0) (y.w)).length pc] 47)) (by simp)).mono (by have := hB1; omega)).up (by simp)) (ownDL_nil _ _ _) (by have := hB1; omega) (by simp))
    replace EF := hide ((bX.block _ (Array.getElem?_eq_some_iff.1 EF.out).1).trans EF.out)
    replace HB := hide (HB.out.trans (bX.mono HB.out.size))
    replace hB1 : w.heap.size + 1 ≤ (W.alloc (.cells #[.slice pa (fc (0) (y.w)).length pc] 47)).heap.size := by have := bX.size; omega
    clear bX
    obtain ⟨g7, hg7⟩ : ∃ g, W.heap.size = g := ⟨_, rfl⟩
    rw [hg7] at HO ⊢
    clear hg7
    generalize W.alloc (.cells #[.slice pa (fc (0) (y.w)).length pc] 47) = W4 at *
    cases c3 : (y.k == 3) with
    | true =>
      have k3e : y.k = 3 := eq_of_beq c3
      have HAC : Hid (aheadC true fc y = [fc 0 y.w, fc 4 y.i]) := hide (by unfold aheadC; rw [if_pos k3e]; rfl)
      clear k3e
      have k0 := (box_of EF.out).1 0 _ rfl
      have k1 := (box_of EF.out).1 1 _ rfl
      have k2 := (box_of EF.out).1 2 _ rfl
      have lq := (HK.out.below HB.out).look (k := 4) (i := y.i) (by omega) HE.out.2.2
      unfold srcV at lq
      obtain ⟨qa, qc, qe, _⟩ := (HF.out 4 y.i (by omega) HE.out.2.2).shape
      rw [qe] at lq
      have Rq : Hid (Reads w w.heap.size (smps (fc (4) (y.i))) (.slice qa (fc (4) (y.i)).length qc)) := hide (by have h := HF.out 4 y.i (by omega) HE.out.2.2; rw [qe] at h; exact h)
      clear qe
      have bX := (Below.refl W4.heap.size W4).alloc (Nat.le_refl _) (.cells #[.slice qa (fc (4) (y.i)).length qc] 47)
      have hbx := hide (box_of (heap_alloc_new W4 (.cells #[.slice qa (fc (4) (y.i)).length qc] 47))).1
      have hsX := bX.size
      have hsW := HB.out.size
      have HOx := hide ((HO.out.below bX).up bX.size)
      have EFx := hide ((bX.block _ (Array.getElem?_eq_some_iff.1 EF.out).1).trans EF.out)
      have HBx := hide (HB.out.trans (bX.mono HB.out.size))
      clear bX HO EF HB
      go_upto_region 10 with (first
        | (at_builtin; refine appL rfl _ _ 29 rfl (w.heap.size + 1) _ _ 47 i0 (.slice none 0 0) 1 24 Try.underlying29 HI.out.1 HI.out.2.1 HI.out.2.2.1 HI.out.2.2.2 rfl (by decide) _ 1 [.val (.slice pa (fc (0) (y.w)).length pc)] [] [] [] [] rfl HOx.out rfl _ _ [.slice qa (fc (4) (y.i)).length qc] [.val (.slice qa (fc (4) (y.i)).length qc)] rfl hbx.out (OwnDL.val (ownDL_nil _ _ _)) rfl (by simp [Value.oneCell']) (by omega) (by decide) (Nat.le_refl _) (by have := hB1; omega) (Nat.le_refl _) ?_; intro g9 c9 W8 o9 gr9 hq9; have HO : Hid (OwnDL W8 (w.heap.size + 1) W8.heap.size [.row 47 1 2 [.val (.slice pa (fc (0) (y.w)).length pc), .val (.slice qa (fc (4) (y.i)).length qc)]] [.slice (some ⟨g9, 0, none⟩) 2 c9]) := hide o9; have HB := hide (HBx.out.grown gr9 (by omega) (fun q hq => (by have := (hq9 q hq).1; omega))); have EF := hide ((gr9.block _ (Array.getElem?_eq_some_iff.1 EFx.out).1 (fun e => by have := (hq9 _ e.symm).1; omega)).trans EFx.out); clear o9 gr9 hq9)
        | fail)
      clear lq hbx hsX HOx EFx HBx
      have HFIN := hide (vals_rws (cs := [fc 0 y.w, fc 4 y.i]) (OwnDL.mid (c1 := []) (v1 := []) HO.out rfl) (vs := [.slice pa (fc (0) (y.w)).length pc, .slice qa (fc (4) (y.i)).length qc]) rfl rfl (readsL_mk (Rp.out.at HB.out) (readsL_mk (Rq.out.at HB.out) (readsL_none))))
      go_wp2
      go_ret
      refine ⟨_, rfl, ?_, HB.out⟩
      rw [hf0, HAC.out]
      exact HFIN.out
    | false =>
      have k3e : ¬ y.k = 3 := fun e => by rw [e] at c3; simp at c3
      cases c6 : (y.k == 6) with
      | true =>
        have k6e : y.k = 6 := eq_of_beq c6
        have HAC : Hid (aheadC true fc y = [fc 0 y.w, fc 0 y.i]) := hide (by unfold aheadC; rw [if_neg k3e, if_pos k6e]; rfl)
        clear k3e k6e
        have k0 := (box_of EF.out).1 0 _ rfl
        have k1 := (box_of EF.out).1 1 _ rfl
        have k2 := (box_of EF.out).1 2 _ rfl
        have lq := (HK.out.below HB.out).look (k := 0) (i := y.i) (by omega) HE.out.2.2
        unfold srcV at lq
        obtain ⟨qa, qc, qe, _⟩ := (HF.out 0 y.i (by omega) HE.out.2.2).shape
        rw [qe] at lq
        have Rq : Hid (Reads w w.heap.size (smps (fc (0) (y.i))) (.slice qa (fc (0) (y.i)).length qc)) := hide (by have h := HF.out 0 y.i (by omega) HE.out.2.2; rw [qe] at h; exact h)
        clear qe
        have bX := (Below.refl W4.heap.size W4).alloc (Nat.le_refl _) (.cells #[.slice qa (fc (0) (y.i)).length qc] 47)
        have hbx := hide (box_of (heap_alloc_new W4 (.cells #[.slice qa (fc (0) (y.i)).length qc] 47))).1
        have hsX := bX.size
        have hsW := HB.out.size
        have HOx := hide ((HO.out.below bX).up bX.size)
        have EFx := hide ((bX.block _ (Array.getElem?_eq_some_iff.1 EF.out).1).trans EF.out)
        have HBx := hide (HB.out.trans (bX.mono HB.out.size))
        clear bX HO EF HB
        go_upto_region 10 with (first
          | (at_builtin; refine appL rfl _ _ 29 rfl (w.heap.size + 1) _ _ 47 i0 (.slice none 0 0) 1 24 Try.underlying29 HI.out.1 HI.out.2.1 HI.out.2.2.1 HI.out.2.2.2 rfl (by decide) _ 1 [.val (.slice pa (fc (0) (y.w)).length pc)] [] [] [] [] rfl HOx.out rfl _ _ [.slice qa (fc (0) (y.i)).length qc] [.val (.slice qa (fc (0) (y.i)).length qc)] rfl hbx.out (OwnDL.val (ownDL_nil _ _ _)) rfl (by simp [Value.oneCell']) (by omega) (by decide) (Nat.le_refl _) (by have := hB1; omega) (Nat.le_refl _) ?_; intro g9 c9 W8 o9 gr9 hq9; have HO : Hid (OwnDL W8 (w.heap.size + 1) W8.heap.size [.row 47 1 2 [.val (.slice pa (fc (0) (y.w)).length pc), .val (.slice qa (fc (0) (y.i)).length qc)]] [.slice (some ⟨g9, 0, none⟩) 2 c9]) := hide o9; have HB := hide (HBx.out.grown gr9 (by omega) (fun q hq => (by have := (hq9 q hq).1; omega))); have EF := hide ((gr9.block _ (Array.getElem?_eq_some_iff.1 EFx.out).1 (fun e => by have := (hq9 _ e.symm).1; omega)).trans EFx.out); clear o9 gr9 hq9)
          | fail)
        clear lq hbx hsX HOx EFx HBx
        have HFIN := hide (vals_rws (cs := [fc 0 y.w, fc 0 y.i]) (OwnDL.mid (c1 := []) (v1 := []) HO.out rfl) (vs := [.slice pa (fc (0) (y.w)).length pc, .slice qa (fc (0) (y.i)).length qc]) rfl rfl (readsL_mk (Rp.out.at HB.out) (readsL_mk (Rq.out.at HB.out) (readsL_none))))
        go_wp2
        go_ret
        refine ⟨_, rfl, ?_, HB.out⟩
        rw [hf0, HAC.out]
        exact HFIN.out
      | false =>
        have k6e : ¬ y.k = 6 := fun e => by rw [e] at c6; simp at c6
        have HAC : Hid (aheadC true fc y = [fc 0 y.w]) := hide (by unfold aheadC; rw [if_neg k3e, if_neg k6e]; rfl)
        clear k3e k6e
        have k0 := (box_of EF.out).1 0 _ rfl
        have k1 := (box_of EF.out).1 1 _ rfl
        have k2 := (box_of EF.out).1 2 _ rfl
        have HFIN := hide (vals_rws (cs := [fc 0 y.w]) (OwnDL.mid (c1 := []) (v1 := []) HO.out rfl) (vs := [.slice pa (fc (0) (y.w)).length pc]) rfl rfl (readsL_mk (Rp.out.at HB.out) (readsL_none)))
        go_wp2
        go_ret
        refine ⟨_, rfl, ?_, HB.out⟩
        rw [hf0, HAC.out]
        exact HFIN.out
  | false =>
    rw [hf0] at lp
    go_upto_region 3 with fail
    have bX := (Below.refl W.heap.size W).alloc (Nat.le_refl _) (.cells #[.slice pa (fc (0) (y.w)).length pc] 47)
    have HO : Hid (OwnDL (W.alloc (.cells #[.slice pa (fc (0) (y.w)).length pc] 47)) (w.heap.size + 1) (W.alloc (.cells #[.slice pa (fc (0) (y.w)).length pc] 47)).heap.size [.row 47 1 1 [.val (.slice pa (fc (0) (y.w)).length pc)]] [.slice (some ⟨W.heap.size, 0, none⟩) 1 1]) := hide (OwnDL.cons (m := W.heap.size + 1) (((ownD_box (heap_alloc_new W (.cells #[.slice pa (fc (0) (y.w)).length pc] 47)) (by simp)).mono (by have := hB1; omega)).up (by simp)) (ownDL_nil _ _ _) (by have := hB1; omega) (by simp))
    replace EF := hide ((bX.block _ (Array.getElem?_eq_some_iff.1 EF.out).1).trans EF.out)
    replace HB := hide (HB.out.trans (bX.mono HB.out.size))
    replace hB1 : w.heap.size + 1 ≤ (W.alloc (.cells #[.slice pa (fc (0) (y.w)).length pc] 47)).heap.size := by have := bX.size; omega
    clear bX
    obtain ⟨g7, hg7⟩ : ∃ g, W.heap.size = g := ⟨_, rfl⟩
    rw [hg7] at HO ⊢
    clear hg7
    generalize W.alloc (.cells #[.slice pa (fc (0) (y.w)).length pc] 47) = W4 at *
    have k0 := (box_of EF.out).1 0 _ rfl
    have k1 := (box_of EF.out).1 1 _ rfl
    have k2 := (box_of EF.out).1 2 _ rfl
    have ls := (HK.out.below HB.out).look (k := 5) (i := y.w) (by omega) hyw
    unfold srcV at ls
    obtain ⟨sa, sc, se, _⟩ := (HF.out 5 y.w (by omega) hyw).shape
    rw [se] at ls
    have Rs : Hid (Reads w w.heap.size (smps (fc (5) (y.w))) (.slice sa (fc (5) (y.w)).length sc)) := hide (by have h := HF.out 5 y.w (by omega) hyw; rw [se] at h; exact h)
    clear se
    have bX := (Below.refl W4.heap.size W4).alloc (Nat.le_refl _) (.cells #[.slice sa (fc (5) (y.w)).length sc] 47)
    have hbx := hide (box_of (heap_alloc_new W4 (.cells #[.slice sa (fc (5) (y.w)).length sc] 47))).1
    have hsX := bX.size
    have hsW := HB.out.size
    have HOx := hide ((HO.out.below bX).up bX.size)
    have EFx := hide ((bX.block _ (Array.getElem?_eq_some_iff.1 EF.out).1).trans EF.out)
    have HBx := hide (HB.out.trans (bX.mono HB.out.size))
    clear bX HO EF HB
    go_upto_region 5 with (first
      | (at_builtin; refine appL rfl _ _ 29 rfl (w.heap.size + 1) _ _ 47 i0 (.slice none 0 0) 1 24 Try.underlying29 HI.out.1 HI.out.2.1 HI.out.2.2.1 HI.out.2.2.2 rfl (by decide) _ 1 [.val (.slice pa (fc (0) (y.w)).length pc)] [] [] [] [] rfl HOx.out rfl _ _ [.slice sa (fc (5) (y.w)).length sc] [.val (.slice sa (fc (5) (y.w)).length sc)] rfl hbx.out (OwnDL.val (ownDL_nil _ _ _)) rfl (by simp [Value.oneCell']) (by omega) (by decide) (Nat.le_refl _) (by have := hB1; omega) (Nat.le_refl _) ?_; intro g9 c9 W5 o9 gr9 hq9; have HO : Hid (OwnDL W5 (w.heap.size + 1) W5.heap.size [.row 47 1 2 [.val (.slice pa (fc (0) (y.w)).length pc), .val (.slice sa (fc (5) (y.w)).length sc)]] [.slice (some ⟨g9, 0, none⟩) 2 c9]) := hide o9; have HB := hide (HBx.out.grown gr9 (by omega) (fun q hq => (by have := (hq9 q hq).1; omega))); have EF := hide ((gr9.block _ (Array.getElem?_eq_some_iff.1 EFx.out).1 (fun e => by have := (hq9 _ e.symm).1; omega)).trans EFx.out); clear o9 gr9 hq9)
      | fail)
    clear ls hbx hsX HOx EFx HBx
    have hB1 : w.heap.size + 1 ≤ W5.heap.size := by have := HB.out.size; have := (Array.getElem?_eq_some_iff.1 EF.out).1; omega
    cases c3 : (y.k == 3) with
    | true =>
      have k3e : y.k = 3 := eq_of_beq c3
      have HAC : Hid (aheadC false fc y = [fc 0 y.w, fc 5 y.w, fc 4 y.i]) := hide (by unfold aheadC; rw [if_pos k3e]; rfl)
      clear k3e
      have k0 := (box_of EF.out).1 0 _ rfl
      have k1 := (box_of EF.out).1 1 _ rfl
      have k2 := (box_of EF.out).1 2 _ rfl
      have lq := (HK.out.below HB.out).look (k := 4) (i := y.i) (by omega) HE.out.2.2
      unfold srcV at lq
      obtain ⟨qa, qc, qe, _⟩ := (HF.out 4 y.i (by omega) HE.out.2.2).shape
      rw [qe] at lq
      have Rq : Hid (Reads w w.heap.size (smps (fc (4) (y.i))) (.slice qa (fc (4) (y.i)).length qc)) := hide (by have h := HF.out 4 y.i (by omega) HE.out.2.2; rw [qe] at h; exact h)
      clear qe
      have bX := (Below.refl W5.heap.size W5).alloc (Nat.le_refl _) (.cells #[.slice qa (fc (4) (y.i)).length qc] 47)
      have hbx := hide (box_of (heap_alloc_new W5 (.cells #[.slice qa (fc (4) (y.i)).length qc] 47))).1
      have hsX := bX.size
      have hsW := HB.out.size
      have HOx := hide ((HO.out.below bX).up bX.size)
      have EFx := hide ((bX.block _ (Array.getElem?_eq_some_iff.1 EF.out).1).trans EF.out)
      have HBx := hide (HB.out.trans (bX.mono HB.out.size))
      clear bX HO EF HB
      go_upto_region 10 with (first
        | (at_builtin; refine appL rfl _ _ 29 rfl (w.heap.size + 1) _ _ 47 i0 (.slice none 0 0) 1 24 Try.underlying29 HI.out.1 HI.out.2.1 HI.out.2.2.1 HI.out.2.2.2 rfl (by decide) _ 2 [.val (.slice pa (fc (0) (y.w)).length pc), .val (.slice sa (fc (5) (y.w)).length sc)] [] [] [] [] rfl HOx.out rfl _ _ [.slice qa (fc (4) (y.i)).length qc] [.val (.slice qa (fc (4) (y.i)).length qc)] rfl hbx.out (OwnDL.val (ownDL_nil _ _ _)) rfl (by simp [Value.oneCell']) (by omega) (by decide) (Nat.le_refl _) (by have := hB1; omega) (Nat.le_refl _) ?_; intro g9 c9 W8 o9 gr9 hq9; have HO : Hid (OwnDL W8 (w.heap.size + 1) W8.heap.size [.row 47 1 3 [.val (.slice pa (fc (0) (y.w)).length pc), .val (.slice sa (fc (5) (y.w)).length sc), .val (.slice qa (fc (4) (y.i)).length qc)]] [.slice (some ⟨g9, 0, none⟩) 3 c9]) := hide o9; have HB := hide (HBx.out.grown gr9 (by omega) (fun q hq => (by have := (hq9 q hq).1; omega))); have EF := hide ((gr9.block _ (Array.getElem?_eq_some_iff.1 EFx.out).1 (fun e => by have := (hq9 _ e.symm).1; omega)).trans EFx.out); clear o9 gr9 hq9)
        | fail)
      clear lq hbx hsX HOx EFx HBx
      have HFIN := hide (vals_rws (cs := [fc 0 y.w, fc 5 y.w, fc 4 y.i]) (OwnDL.mid (c1 := []) (v1 := []) HO.out rfl) (vs := [.slice pa (fc (0) (y.w)).length pc, .slice sa (fc (5) (y.w)).length sc, .slice qa (fc (4) (y.i)).length qc]) rfl rfl (readsL_mk (Rp.out.at HB.out) (readsL_mk (Rs.out.at HB.out) (readsL_mk (Rq.out.at HB.out) (readsL_none)))))
      go_wp2
      go_ret
      refine ⟨_, rfl, ?_, HB.out⟩
      rw [hf0, HAC.out]
      exact HFIN.out
    | false =>
      have k3e : ¬ y.k = 3 := fun e => by rw [e] at c3; simp at c3
      cases c6 : (y.k == 6) with
      | true =>
        have k6e : y.k = 6 := eq_of_beq c6
        have HAC : Hid (aheadC false fc y = [fc 0 y.w, fc 5 y.w, fc 0 y.i]) := hide (by unfold aheadC; rw [if_neg k3e, if_pos k6e]; rfl)
        clear k3e k6e
        have k0 := (box_of EF.out).1 0 _ rfl
        have k1 := (box_of EF.out).1 1 _ rfl
        have k2 := (box_of EF.out).1 2 _ rfl
        have lq := (HK.out.below HB.out).look (k := 0) (i := y.i) (by omega) HE.out.2.2
        unfold srcV at lq
        obtain ⟨qa, qc, qe, _⟩ := (HF.out 0 y.i (by omega) HE.out.2.2).shape
        rw [qe] at lq
        have Rq : Hid (Reads w w.heap.size (smps (fc (0) (y.i))) (.slice qa (fc (0) (y.i)).length qc)) := hide (by have h := HF.out 0 y.i (by omega) HE.out.2.2; rw [qe] at h; exact h)
        clear qe
        have bX := (Below.refl W5.heap.size W5).alloc (Nat.le_refl _) (.cells #[.slice qa (fc (0) (y.i)).length qc] 47)
        have hbx := hide (box_of (heap_alloc_new W5 (.cells #[.slice qa (fc (0) (y.i)).length qc] 47))).1
        have hsX := bX.size
        have hsW := HB.out.size
        have HOx := hide ((HO.out.below bX).up bX.size)
        have EFx := hide ((bX.block _ (Array.getElem?_eq_some_iff.1 EF.out).1).trans EF.out)
        have HBx := hide (HB.out.trans (bX.mono HB.out.size))
        clear bX HO EF HB
        go_upto_region 10 with (first
          | (at_builtin; refine appL rfl _ _ 29 rfl (w.heap.size + 1) _ _ 47 i0 (.slice none 0 0) 1 24 Try.underlying29 HI.out.1 HI.out.2.1 HI.out.2.2.1 HI.out.2.2.2 rfl (by decide) _ 2 [.val (.slice pa (fc (0) (y.w)).length pc), .val (.slice sa (fc (5) (y.w)).length sc)] [] [] [] [] rfl HOx.out rfl _ _ [.slice qa (fc (0) (y.i)).length qc] [.val (.slice qa (fc (0) (y.i)).length qc)] rfl hbx.out (OwnDL.val (ownDL_nil _ _ _)) rfl (by simp [Value.oneCell']) (by omega) (by decide) (Nat.le_refl _) (by have := hB1; omega) (Nat.le_refl _) ?_; intro g9 c9 W8 o9 gr9 hq9; have HO : Hid (OwnDL W8 (w.heap.size + 1) W8.heap.size [.row 47 1 3 [.val (.slice pa (fc (0) (y.w)).length pc), .val (.slice sa (fc (5) (y.w)).length sc), .val (.slice qa (fc (0) (y.i)).length qc)]] [.slice (some ⟨g9, 0, none⟩) 3 c9]) := hide o9; have HB := hide (HBx.out.grown gr9 (by omega) (fun q hq => (by have := (hq9 q hq).1; omega))); have EF := hide ((gr9.block _ (Array.getElem?_eq_some_iff.1 EFx.out).1 (fun e => by have := (hq9 _ e.symm).1; omega)).trans EFx.out); clear o9 gr9 hq9)
          | fail)
        clear lq hbx hsX HOx EFx HBx
        have HFIN := hide (vals_rws (cs := [fc 0 y.w, fc 5 y.w, fc 0 y.i]) (OwnDL.mid (c1 := []) (v1 := []) HO.out rfl) (vs := [.slice pa (fc (0) (y.w)).length pc, .slice sa (fc (5) (y.w)).length sc, .slice qa (fc (0) (y.i)).length qc]) rfl rfl (readsL_mk (Rp.out.at HB.out) (readsL_mk (Rs.out.at HB.out) (readsL_mk (Rq.out.at HB.out) (readsL_none)))))
        go_wp2
        go_ret
        refine ⟨_, rfl, ?_, HB.out⟩
        rw [hf0, HAC.out]
        exact HFIN.out
      | false =>
        have k6e : ¬ y.k = 6 := fun e => by rw [e] at c6; simp at c6
        have HAC : Hid (aheadC false fc y = [fc 0 y.w, fc 5 y.w]) := hide (by unfold aheadC; rw [if_neg k3e, if_neg k6e]; rfl)
        clear k3e k6e
        have k0 := (box_of EF.out).1 0 _ rfl
        have k1 := (box_of EF.out).1 1 _ rfl
        have k2 := (box_of EF.out).1 2 _ rfl
        have HFIN := hide (vals_rws (cs := [fc 0 y.w, fc 5 y.w]) (OwnDL.mid (c1 := []) (v1 := []) HO.out rfl) (vs := [.slice pa (fc (0) (y.w)).length pc, .slice sa (fc (5) (y.w)).length sc]) rfl rfl (readsL_mk (Rp.out.at HB.out) (readsL_mk (Rs.out.at HB.out) (readsL_none))))
        go_wp2
        go_ret
        refine ⟨_, rfl, ?_, HB.out⟩
        rw [hf0, HAC.out]
        exact HFIN.out
end Go.Proofs.Ytihjidlcodonmaa
/-
  'copy' on rows of elements of several cells.
-/
namespace Go.Proofs.Ytihjidlcodonmaa
open Go.RowKit

theorem run_copy_rowN {P : Program} (w : World) (dT sT ty elem : TypeId) (g dLen dCap : Nat) (a : Addr) (sLen sCap sz : Nat) (cur : Array Value) (t : TypeId) (cs : List Value)
    (hu : P.underlying dT = some (.slice elem)) (hs : (P.info? elem).map (·.size) = some sz)
    (hg : w.heap[g]? = some (.cells cur t (0, 0))) (hm : Nat.min sLen dLen = sLen) (hn : cs.length = sLen * sz)
    (hsrc : ∀ j v, cs[j]? = some v → w.cell? (a.add j) = some v) (hfit : cs.length ≤ cur.size) (h1 : ∀ v ∈ cs, v.oneCell' = true) :
    (Builtin.copy_ #[dT, sT] ty #[.slice (some ⟨g, 0, none⟩) dLen dCap, .slice (some a) sLen sCap]).run P w =
      .ok (goInt sLen) (w.setRow g (cur.toList.take 0 ++ cs ++ cur.toList.drop (0 + cs.length)).toArray) := by
  have hl := run_loadCells_list (P := P) w a cs hsrc
  have hst := run_storeCells_at P g 0 t cs 0 cur w hg (by simpa using hfit) h1
  cases hq : P.info? elem with
  | none => simp [hq] at hs
  | some i =>
    have hi : i.size = sz := by simpa [hq] using hs
    have hmm : min sLen dLen = sLen := hm
    rw [hn] at hl
    simp [Builtin.copy_, run_underlying hu, Builtin.lenOf, Builtin.firstCells, sizeOf, typeInfo, hq, hi, hmm, hl, hst]

theorem own_copied {w : World} {base e sz g n c : Nat} {xs cs : List Value} {cur : Array Value} (h : w.ownsRow base e sz (.slice (some ⟨g, 0, none⟩) n c) n xs) (hg : w.heap[g]? = some (.cells cur e (0, 0))) (hl : cs.length ≤ n * sz) :
    (w.setRow g (cur.toList.take 0 ++ cs ++ cur.toList.drop (0 + cs.length)).toArray).ownsRow base e sz (.slice (some ⟨g, 0, none⟩) n c) n (cs ++ xs.drop cs.length) := by
  obtain ⟨hx, hr⟩ := h
  rcases hr with ⟨e0, _⟩ | ⟨g', cap, cur', e0, hb, hgg, h2, h3, h4, h5⟩
  · cases e0
  · cases e0
    rw [hg] at hgg
    cases hgg
    refine ⟨by rw [List.length_append, List.length_drop, hx]; omega, .inr ⟨g, c, _, rfl, hb, setRow_heap w g _ _ e _ hg, h2, h3, ?_, ?_⟩⟩
    · have hcs : cs.length ≤ c * sz := Nat.le_trans hl (Nat.mul_le_mul_right _ h2)
      simp
      omega
    · simp only [List.take_zero, List.nil_append, Nat.zero_add]
      rw [List.take_append, List.take_of_length_le hl, ← h5, List.drop_take]

theorem grown_setRow {w : World} {g : Nat} (cs : Array Value) : w.grownBy (w.setRow g cs) (some g) :=
  ⟨rfl, rfl, rfl, by simp [World.setRow], fun k _ hk => setRow_other w g k cs (fun e => hk (by rw [e]))⟩

/-- 'copy(dst, src)', dst a row of one's own, src no longer than it. -/
theorem wpList_copy_rows {P : Program} {w : World} {ops : Array Oper} {rest : List Oper} {o : Oper} {act : Act} {Q : Exit → Act → World → Prop} (hgd : o.guard = none) (d s : Operand) (dT sT : TypeId)
    (ho : o.op = .call { callee := .builtin .copy, args := #[d, s], argTypes := #[dT, sT] }) (elem : TypeId) (hu : P.underlying dT = some (.slice elem)) (sz : Nat) (hsz : (P.info? elem).map (·.size) = some sz)
    (base g n c : Nat) (xs : List Value) (hd : act.eval d = .slice (some ⟨g, 0, none⟩) n c) (hown : w.ownsRow base elem sz (.slice (some ⟨g, 0, none⟩) n c) n xs)
    (ad : Addr) (m sCap : Nat) (hs : act.eval s = .slice (some ad) m sCap) (hmn : m ≤ n) (cs : List Value) (hn : cs.length = m * sz) (hsrc : ∀ j v, cs[j]? = some v → w.cell? (ad.add j) = some v) (h1 : ∀ v ∈ cs, v.oneCell' = true)
    (h : ∀ w', w'.ownsRow base elem sz (.slice (some ⟨g, 0, none⟩) n c) n (cs ++ xs.drop cs.length) → w.grownBy w' (some g) → wpList P ops Q rest (act.put o.dst (goInt m)) w') :
    wpList P ops Q (o :: rest) act w := by
  have hle : cs.length ≤ n * sz := by rw [hn]; exact Nat.mul_le_mul_right _ hmn
  obtain ⟨cur, hg, hcz⟩ : ∃ cur, w.heap[g]? = some (.cells cur elem (0, 0)) ∧ n * sz ≤ cur.size := by
    rcases hown.2 with ⟨e0, _⟩ | ⟨g', cap, cur, e0, hb, hgg, h2, h3, h4, h5⟩
    · cases e0
    · cases e0
      exact ⟨cur, hgg, by rw [h4]; exact Nat.mul_le_mul_right _ h2⟩
  refine wpList_plain hgd fun K hK => ?_
  have hrun := run_copy_rowN (P := P) w dT sT o.type elem g n c ad m sCap sz cur elem cs hu hsz hg (Nat.min_eq_left hmn) hn hsrc (Nat.le_trans hle hcz) h1
  unfold Oper.wp
  simp only [execOp, ho, resolve, invoke, builtin, Sem.run_bind, Sem.run_pure, Result.andThen_ok, List.map_toArray, List.map_cons, List.map_nil, hd, hs, hrun]
  exact hK _ _ (h _ (own_copied hown hg hle) (grown_setRow _))

/-- Nothing goes over where src has no element. -/
theorem wpList_copy_zero {P : Program} {w : World} {ops : Array Oper} {rest : List Oper} {o : Oper} {act : Act} {Q : Exit → Act → World → Prop} (hgd : o.guard = none) (d s : Operand) (dT sT : TypeId)
    (ho : o.op = .call { callee := .builtin .copy, args := #[d, s], argTypes := #[dT, sT] }) (elem : TypeId) (hu : P.underlying dT = some (.slice elem)) (hsz : ((P.info? elem).map (·.size)).isSome = true)
    (x : Addr) (n c : Nat) (hd : act.eval d = .slice (some x) n c) (sp : Option Addr) (sCap : Nat) (hs : act.eval s = .slice sp 0 sCap)
    (h : wpList P ops Q rest (act.put o.dst (goInt 0)) w) :
    wpList P ops Q (o :: rest) act w := by
  refine wpList_plain hgd fun K hK => ?_
  have hrun : (Builtin.copy_ #[dT, sT] o.type #[.slice (some x) n c, .slice sp 0 sCap]).run P w = .ok (goInt 0) w := by
    cases hq : P.info? elem with
    | none => simp [hq] at hsz
    | some i =>
      have hl : ∀ (x : Addr), (loadCells x 0).run P w = .ok #[] w := fun x => by simpa using run_loadCells_list (P := P) w x [] (by simp)
      cases sp <;> simp [Builtin.copy_, run_underlying hu, Builtin.lenOf, Builtin.firstCells, sizeOf, typeInfo, hq, storeCells, hl]
  unfold Oper.wp
  simp only [execOp, ho, resolve, invoke, builtin, Sem.run_bind, Sem.run_pure, Result.andThen_ok, List.map_toArray, List.map_cons, List.map_nil, hd, hs, hrun]
  exact hK _ _ h

theorem rd_src {w : World} {B sz n c : Nat} {a : Option Addr} {cs : List Value} (h : Rd w B sz (.slice a n c) n cs) (hp : 0 < n) : ∃ ad, a = some ad ∧ ∀ j v, cs[j]? = some v → w.cell? (ad.add j) = some v := by
  obtain ⟨h0, a', cap, e, _, _, hx⟩ := h
  cases e
  obtain ⟨b, o, rfl, _, hc⟩ := hx hp
  refine ⟨_, rfl, fun j v hv => ?_⟩
  have hj : j < n * sz := by rw [← h0]; exact (List.getElem?_eq_some_iff.1 hv).1
  rw [Addr.add_lit, hc j hj]; exact hv

end Go.Proofs.Ytihjidlcodonmaa
