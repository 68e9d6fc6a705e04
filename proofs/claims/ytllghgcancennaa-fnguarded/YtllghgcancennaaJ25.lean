/-
  Joined: ClcJ, ClcA.
-/
import Derived.Test.YtllghgcancennaaJ19
import Derived.Test.YtllghgcancennaaJ21
import Derived.Test.YtllghgcancennaaJ24
import Derived.Test.YtllghgcancennaaJ13
/-
  The program's joinClocks of a row of clocks, however many.
-/
namespace Go.Proofs.Ytllghgcancennaa
open Go.RowKit

theorem take_fold {cs : List (List Smp)} {j : Nat} (h : j < cs.length) : (cs.take (j + 1)).foldl joinK [] = joinK ((cs.take j).foldl joinK []) (cs.getD j []) := by
  rw [List.take_succ_eq_append_getElem h, List.foldl_append, List.getD_eq_getElem?_getD, List.getElem?_eq_getElem h]
  rfl
set_option maxRecDepth 100000 in
set_option maxHeartbeats 4000000 in
theorem joinAllI (w : World) (xs : List Evt) (cs : List (List Smp)) (v : Value) (h : Reads w w.heap.size (rws cs) v) (hg : ∀ c ∈ cs, GoodC xs c) (hx : xs.length ≤ 3000) (hlen : cs.length ≤ 1000) :
    Calls Try.prog 55 #[v] w fun e w' => rowP w w' (smps (cs.foldl joinK [])) e := by
  obtain ⟨ra, rc, re, _, hrw⟩ := rws_at h
  subst re
  clear h
  have HF : Hid (∀ j, j ≤ cs.length → ((cs.take j).foldl joinK []).length ≤ 3000) := hide (fun j hj => by
    have := (foldJ_good (cs := cs.take j) (GoodC.nil xs) (fun c hc => hg c (List.mem_of_mem_take hc))).len
    omega)
  have HC : Hid (∀ j, j < cs.length → (cs.getD j []).length ≤ 3000) := hide (fun j hj => by
    have := (hg (cs.getD j []) (by rw [List.getD_eq_getElem?_getD, List.getElem?_eq_getElem hj]; exact List.getElem_mem hj)).len
    omega)
  have HS : Hid (∀ j, j < cs.length → (cs.take (j + 1)).foldl joinK [] = joinK ((cs.take j).foldl joinK []) (cs.getD j [])) := hide (fun j hj => take_fold hj)
  have HE : Hid ((cs.take cs.length).foldl joinK [] = cs.foldl joinK []) := hide (by rw [List.take_length])
  have H0 : Hid ((cs.take 0).foldl joinK [] = []) := hide rfl
  clear hg
  generalize hP : (fun j : Nat => (cs.take j).foldl joinK []) = P at *
  have hPj : ∀ j, (cs.take j).foldl joinK [] = P j := fun j => by rw [← hP]
  have HP := hide hPj
  clear hPj hP
  have HRW := hide hrw
  clear hrw
  generalize hn : cs.length = n at *
  go_enter Try.func55, Try.ntmps55
  go_wp2
  go_loopw [3, 8] (fun v i wr => ∃ j : Nat, j ≤ n ∧ i = .int .i64 (j : Int) ∧ Hid (OwnD wr w.heap.size wr.heap.size (smps (P j)) v) ∧ Hid (Below w.heap.size w wr)) (fun _ i _ => n - (intOf i).toNat)
  case atStart => exact ⟨0, Nat.zero_le _, rfl, hide (by rw [← HP.out, H0.out]; exact ownD_nil _ _ _ _ _), hide (Below.refl _ _)⟩
  case round =>
    obtain ⟨j, hj, rfl, HO, HBr⟩ := hrel
    have hsz := HBr.out.size
    obtain ⟨ax, cx, ex⟩ := (HO.out).shape
    subst ex
    by_cases hlt : j < n
    · obtain ⟨b, o, rfl, hb, hc⟩ := HRW.out (by omega)
      obtain ⟨u, d0, hr⟩ := hc j hlt
      have p0 := (HBr.out.cell (p := ⟨b, o + j, none⟩) hb).trans d0
      clear d0 hc
      obtain ⟨ua, uc, ue, _⟩ := hr.shape
      subst ue
      have HR := hide hr
      clear hr
      have hltI : (j : Int) < (n : Int) := by omega
      have hl := HF.out j (by omega)
      rw [HP.out] at hl
      have hl2 := HC.out j hlt
      have HJ := hide (HS.out j hlt)
      generalize cs.getD j [] = cj at *
      go_wp2_with fail
      refine (mergeK _ (P j) cj _ _ (HO.out.rd (Nat.le_refl _)) (HR.out.at HBr.out) (by omega)).mono ?_
      rintro e w9 ⟨r, rfl, o9, b9⟩
      have HO9 : Hid (OwnD w9 w.heap.size w9.heap.size (smps (P (j + 1))) r) := hide (by
        have h9 := o9.mono hsz
        rw [← HP.out, HJ.out, HP.out]
        exact h9)
      have HB9 := hide (HBr.out.trans (b9.mono hsz))
      clear o9 b9 HO HBr p0 hl hl2 HJ
      go_wp2
      exact ⟨⟨j + 1, by omega, by go_num, HO9, HB9⟩, by simp [intOf]; omega⟩
    · obtain rfl : j = n := by omega
      have hnl : ¬ (j : Int) < (j : Int) := by omega
      have HO2 : Hid (OwnD wr w.heap.size wr.heap.size (smps (cs.foldl joinK [])) (.slice ax (P j).length cx)) := hide (by rw [← HE.out, HP.out]; exact HO.out)
      go_wp2
      go_ret
      exact ⟨_, rfl, HO2.out, HBr.out⟩
end Go.Proofs.Ytllghgcancennaa
/-
  The program's known.ahead: the clocks that come together in an event.
-/
namespace Go.Proofs.Ytllghgcancennaa
open Go.RowKit

theorem vals_rws {w : World} {b hi : Nat} {cs : List (List Smp)} {v : Value} {vs : List Value} {ds : List Dt} {n : Nat} (h : OwnD w b hi (.row 44 1 n ds) v) (he : ds = vs.map .val) (hn : n = cs.length) (hr : ReadsL w w.heap.size (cs.map smps) vs) : Reads w w.heap.size (rws cs) v := by
  subst he hn
  have h1 := h.rd (Nat.le_refl _)
  unfold Reads at h1
  obtain ⟨us, h2, h3⟩ := h1
  obtain rfl := vals_reads h3
  unfold rws Reads
  exact ⟨_, h2, hr⟩
set_option maxRecDepth 100000 in
set_option maxHeartbeats 16000000 in
theorem aheadI (w : World) (g n : Nat) (f : Int → Int → Option Value) (fc : Int → Int → List Smp) (y : Evt) (hk : KnM w g n f)
    (hf : ∀ k i, (0 ≤ k ∧ k ≤ 6) → (0 ≤ i ∧ i ≤ 1000000) → Reads w w.heap.size (smps (fc k i)) ((f k i).getD (.slice none 0 0))) (hy : evAt y = true) :
    Calls Try.prog 65 #[.map (some g), .agg #[.int .i64 y.w, .int .i64 y.k, .int .i64 y.i, .int .i64 y.a]] w fun e w' => ∃ u, e = .returned u ∧ Reads w' w'.heap.size (rws (aheadC (f 0 y.w).isSome fc y)) u ∧ Below w.heap.size w w' := by
  have HK := hide hk
  have HF := hide hf
  have HE := hide (evAt_in hy)
  have hyw : 0 ≤ y.w ∧ y.w ≤ 1000000 := by have := HE.out.1; omega
  clear hk hf hy
  obtain ⟨i0, hi, hz0, hz1, hz2⟩ := info_parts Try.infoClc
  have HI := hide (And.intro hi (And.intro hz0 (And.intro hz1 hz2)))
  clear hi hz0 hz1 hz2
  have HB := hide ((Below.refl w.heap.size w).alloc (Nat.le_refl _) (.cells #[.int .i64 y.w, .int .i64 y.k, .int .i64 y.i, .int .i64 y.a] 40))
  have EF := hide (heap_alloc_new w (.cells #[.int .i64 y.w, .int .i64 y.k, .int .i64 y.i, .int .i64 y.a] 40))
  have hB1 : w.heap.size + 1 ≤ (w.alloc (.cells #[.int .i64 y.w, .int .i64 y.k, .int .i64 y.i, .int .i64 y.a] 40)).heap.size := by simp
  go_enter Try.func65, Try.ntmps65
  go_upto_region 1 with fail
  generalize w.alloc (.cells #[.int .i64 y.w, .int .i64 y.k, .int .i64 y.i, .int .i64 y.a] 40) = W at *
  have k0 := (box_of EF.out).1 0 _ rfl
  have k1 := (box_of EF.out).1 1 _ rfl
  have k2 := (box_of EF.out).1 2 _ rfl
  have lp := (HK.out.below HB.out).lookB (k := 0) (i := y.w) (by omega) hyw
  unfold srcV at lp
  obtain ⟨pa, pc, pe, _⟩ := (HF.out 0 y.w (by omega) hyw).shape
  rw [pe] at lp
  have Rp : Hid (Reads w w.heap.size (smps (fc 0 y.w)) (.slice pa (fc 0 y.w).length pc)) := hide (by have h := HF.out 0 y.w (by omega) hyw; rw [pe] at h; exact h)
  clear pe
  cases hf0 : (f 0 y.w).isSome with
  | true =>
    rw [hf0] at lp
    go_upto_region 3 with fail
    have bX := (Below.refl W.heap.size W).alloc (Nat.le_refl _) (.cells #[.slice pa (fc (0) (y.w)).length pc] 44)
    have HO : Hid (OwnDL (W.alloc (.cells #[.slice pa (fc (0) (y.w)).length pc] 44)) (w.heap.size + 1) (W.alloc (.cells #[.slice pa (fc (0) (y.w)).length pc] 44)).heap.size [.row 44 1 1 [.val (.slice pa (fc (0) (y.w)).length pc)]] [.slice (some ⟨W.heap.size, 0, none⟩) 1 1]) := hide (OwnDL.cons (m := W.heap.size + 1) (((ownD_box (heap_alloc_new W (.cells #[.slice pa (fc (0) (y.w)).length pc] 44)) (by simp)).mono (by have := hB1; omega)).up (by simp)) (ownDL_nil _ _ _) (by have := hB1; omega) (by simp))
    replace EF := hide ((bX.block _ (Array.getElem?_eq_some_iff.1 EF.out).1).trans EF.out)
    replace HB := hide (HB.out.trans (bX.mono HB.out.size))
    replace hB1 : w.heap.size + 1 ≤ (W.alloc (.cells #[.slice pa (fc (0) (y.w)).length pc] 44)).heap.size := by have := bX.size; omega
    clear bX
    obtain ⟨g7, hg7⟩ : ∃ g, W.heap.size = g := ⟨_, rfl⟩
    rw [hg7] at HO ⊢
    clear hg7
    generalize W.alloc (.cells #[.slice pa (fc (0) (y.w)).length pc] 44) = W4 at *
    cases c3 : (y.k == 3) with
    | true =>
      have k3e : y.k = 3 := eq_of_beq c3
      have HAC : Hid (aheadC true fc y = [fc 0 y.w, fc 4 y.i]) := hide (by unfold aheadC; rw [if_pos k3e]; rfl)
      clear k3e
      have k0 := (box_of EF.out).1 0 _ rfl
      have k1 := (box_of EF.out).1 1 _ rfl
      have k2 := (box_of EF.out).1 2 _ rfl
      have lq := (HK.out.below HB.out).look (k := 4) (i := y.i) (by omega) HE.out.2.2
      unfold srcV at lq
      obtain ⟨qa, qc, qe, _⟩ := (HF.out 4 y.i (by omega) HE.out.2.2).shape
      rw [qe] at lq
      have Rq : Hid (Reads w w.heap.size (smps (fc (4) (y.i))) (.slice qa (fc (4) (y.i)).length qc)) := hide (by have h := HF.out 4 y.i (by omega) HE.out.2.2; rw [qe] at h; exact h)
      clear qe
      have bX := (Below.refl W4.heap.size W4).alloc (Nat.le_refl _) (.cells #[.slice qa (fc (4) (y.i)).length qc] 44)
      have hbx := hide (box_of (heap_alloc_new W4 (.cells #[.slice qa (fc (4) (y.i)).length qc] 44))).1
      have hsX := bX.size
      have hsW := HB.out.size
      have HOx := hide ((HO.out.below bX).up bX.size)
      have EFx := hide ((bX.block _ (Array.getElem?_eq_some_iff.1 EF.out).1).trans EF.out)
      have HBx := hide (HB.out.trans (bX.mono HB.out.size))
      clear bX HO EF HB
      go_upto_region 10 with (first
        | (at_builtin; refine appL rfl _ _ 29 rfl (w.heap.size + 1) _ _ 44 i0 (.slice none 0 0) 1 24 Try.underlying29 HI.out.1 HI.out.2.1 HI.out.2.2.1 HI.out.2.2.2 rfl (by decide) _ 1 [.val (.slice pa (fc (0) (y.w)).length pc)] [] [] [] [] rfl HOx.out rfl _ _ [.slice qa (fc (4) (y.i)).length qc] [.val (.slice qa (fc (4) (y.i)).length qc)] rfl hbx.out (OwnDL.val (ownDL_nil _ _ _)) rfl (by simp [Value.oneCell']) (by omega) (by decide) (Nat.le_refl _) (by have := hB1; omega) (Nat.le_refl _) ?_; intro g9 c9 W8 o9 gr9 hq9; have HO : Hid (OwnDL W8 (w.heap.size + 1) W8.heap.size [.row 44 1 2 [.val (.slice pa (fc (0) (y.w)).length pc), .val (.slice qa (fc (4) (y.i)).length qc)]] [.slice (some ⟨g9, 0, none⟩) 2 c9]) := hide o9; have HB := hide (HBx.out.grown gr9 (by omega) (fun q hq => (by have := (hq9 q hq).1; omega))); have EF := hide ((gr9.block _ (Array.getElem?_eq_some_iff.1 EFx.out).1 (fun e => by have := (hq9 _ e.symm).1; omega)).trans EFx.out); clear o9 gr9 hq9)
        | fail)
      clear lq hbx hsX HOx EFx HBx
      have HFIN := hide (vals_rws (cs := [fc 0 y.w, fc 4 y.i]) (OwnDL.mid (c1 := []) (v1 := []) HO.out rfl) (vs := [.slice pa (fc (0) (y.w)).length pc, .slice qa (fc (4) (y.i)).length qc]) rfl rfl (readsL_mk (Rp.out.at HB.out) (readsL_mk (Rq.out.at HB.out) (readsL_none))))
      go_wp2
      go_ret
      refine ⟨_, rfl, ?_, HB.out⟩
      rw [hf0, HAC.out]
      exact HFIN.out
    | false =>
      have k3e : ¬ y.k = 3 := fun e => by rw [e] at c3; simp at c3
      cases c6 : (y.k == 6) with
      | true =>
        have k6e : y.k = 6 := eq_of_beq c6
        have HAC : Hid (aheadC true fc y = [fc 0 y.w, fc 0 y.i]) := hide (by unfold aheadC; rw [if_neg k3e, if_pos k6e]; rfl)
        clear k3e k6e
        have k0 := (box_of EF.out).1 0 _ rfl
        have k1 := (box_of EF.out).1 1 _ rfl
        have k2 := (box_of EF.out).1 2 _ rfl
        have lq := (HK.out.below HB.out).look (k := 0) (i := y.i) (by omega) HE.out.2.2
        unfold srcV at lq
        obtain ⟨qa, qc, qe, _⟩ := (HF.out 0 y.i (by omega) HE.out.2.2).shape
        rw [qe] at lq
        have Rq : Hid (Reads w w.heap.size (smps (fc (0) (y.i))) (.slice qa (fc (0) (y.i)).length qc)) := hide (by have h := HF.out 0 y.i (by omega) HE.out.2.2; rw [qe] at h; exact h)
        clear qe
        have bX := (Below.refl W4.heap.size W4).alloc (Nat.le_refl _) (.cells #[.slice qa (fc (0) (y.i)).length qc] 44)
        have hbx := hide (box_of (heap_alloc_new W4 (.cells #[.slice qa (fc (0) (y.i)).length qc] 44))).1
        have hsX := bX.size
        have hsW := HB.out.size
        have HOx := hide ((HO.out.below bX).up bX.size)
        have EFx := hide ((bX.block _ (Array.getElem?_eq_some_iff.1 EF.out).1).trans EF.out)
        have HBx := hide (HB.out.trans (bX.mono HB.out.size))
        clear bX HO EF HB
        go_upto_region 10 with (first
          | (at_builtin; refine appL rfl _ _ 29 rfl (w.heap.size + 1) _ _ 44 i0 (.slice none 0 0) 1 24 Try.underlying29 HI.out.1 HI.out.2.1 HI.out.2.2.1 HI.out.2.2.2 rfl (by decide) _ 1 [.val (.slice pa (fc (0) (y.w)).length pc)] [] [] [] [] rfl HOx.out rfl _ _ [.slice qa (fc (0) (y.i)).length qc] [.val (.slice qa (fc (0) (y.i)).length qc)] rfl hbx.out (OwnDL.val (ownDL_nil _ _ _)) rfl (by simp [Value.oneCell']) (by omega) (by decide) (Nat.le_refl _) (by have := hB1; omega) (Nat.le_refl _) ?_; intro g9 c9 W8 o9 gr9 hq9; have HO : Hid (OwnDL W8 (w.heap.size + 1) W8.heap.size [.row 44 1 2 [.val (.slice pa (fc (0) (y.w)).length pc), .val (.slice qa (fc (0) (y.i)).length qc)]] [.slice (some ⟨g9, 0, none⟩) 2 c9]) := hide o9; have HB := hide (HBx.out.grown gr9 (by omega) (fun q hq => (by have := (hq9 q hq).1; omega))); have EF := hide ((gr9.block _ (Array.getElem?_eq_some_iff.1 EFx.out).1 (fun e => by have := (hq9 _ e.symm).1; omega)).trans EFx.out); clear o9 gr9 hq9)
          | fail)
        clear lq hbx hsX HOx EFx HBx
        have HFIN := hide (vals_rws (cs := [fc 0 y.w, fc 0 y.i]) (OwnDL.mid (c1 := []) (v1 := []) HO.out rfl) (vs := [.slice pa (fc (0) (y.w)).length pc, .slice qa (fc (0) (y.i)).length qc]) rfl rfl (readsL_mk (Rp.out.at HB.out) (readsL_mk (Rq.out.at HB.out) (readsL_none))))
        go_wp2
        go_ret
        refine ⟨_, rfl, ?_, HB.out⟩
        rw [hf0, HAC.out]
        exact HFIN.out
      | false =>
        have k6e : ¬ y.k = 6 := fun e => by rw [e] at c6; simp at c6
        have HAC : Hid (aheadC true fc y = [fc 0 y.w]) := hide (by unfold aheadC; rw [if_neg k3e, if_neg k6e]; rfl)
        clear k3e k6e
        have k0 := (box_of EF.out).1 0 _ rfl
        have k1 := (box_of EF.out).1 1 _ rfl
        have k2 := (box_of EF.out).1 2 _ rfl
        have HFIN := hide (vals_rws (cs := [fc 0 y.w]) (OwnDL.mid (c1 := []) (v1 := []) HO.out rfl) (vs := [.slice pa (fc (0) (y.w)).length pc]) rfl rfl (readsL_mk (Rp.out.at HB.out) (readsL_none)))
        go_wp2
        go_ret
        refine ⟨_, rfl, ?_, HB.out⟩
        rw [hf0, HAC.out]
        exact HFIN.out
  | false =>
    rw [hf0] at lp
    go_upto_region 3 with fail
    have bX := (Below.refl W.heap.size W).alloc (Nat.le_refl _) (.cells #[.slice pa (fc (0) (y.w)).length pc] 44)
    have HO : Hid (OwnDL (W.alloc (.cells #[.slice pa (fc (0) (y.w)).length pc] 44)) (w.heap.size + 1) (W.alloc (.cells #[.slice pa (fc (0) (y.w)).length pc] 44)).heap.size [.row 44 1 1 [.val (.slice pa (fc (0) (y.w)).length pc)]] [.slice (some ⟨W.heap.size, 0, none⟩) 1 1]) := hide (OwnDL.cons (m := W.heap.size + 1) (((ownD_box (heap_alloc_new W (.cells #[.slice pa (fc (0) (y.w)).length pc] 44)) (by simp)).mono (by have := hB1; omega)).up (by simp)) (ownDL_nil _ _ _) (by have := hB1; omega) (by simp))
    replace EF := hide ((bX.block _ (Array.getElem?_eq_some_iff.1 EF.out).1).trans EF.out)
    replace HB := hide (HB.out.trans (bX.mono HB.out.size))
    replace hB1 : w.heap.size + 1 ≤ (W.alloc (.cells #[.slice pa (fc (0) (y.w)).length pc] 44)).heap.size := by have := bX.size; omega
    clear bX
    obtain ⟨g7, hg7⟩ : ∃ g, W.heap.size = g := ⟨_, rfl⟩
    rw [hg7] at HO ⊢
    clear hg7
    generalize W.alloc (.cells #[.slice pa (fc (0) (y.w)).length pc] 44) = W4 at *
    have k0 := (box_of EF.out).1 0 _ rfl
    have k1 := (box_of EF.out).1 1 _ rfl
    have k2 := (box_of EF.out).1 2 _ rfl
    have ls := (HK.out.below HB.out).look (k := 5) (i := y.w) (by omega) hyw
    unfold srcV at ls
    obtain ⟨sa, sc, se, _⟩ := (HF.out 5 y.w (by omega) hyw).shape
    rw [se] at ls
    have Rs : Hid (Reads w w.heap.size (smps (fc (5) (y.w))) (.slice sa (fc (5) (y.w)).length sc)) := hide (by have h := HF.out 5 y.w (by omega) hyw; rw [se] at h; exact h)
    clear se
    have bX := (Below.refl W4.heap.size W4).alloc (Nat.le_refl _) (.cells #[.slice sa (fc (5) (y.w)).length sc] 44)
    have hbx := hide (box_of (heap_alloc_new W4 (.cells #[.slice sa (fc (5) (y.w)).length sc] 44))).1
    have hsX := bX.size
    have hsW := HB.out.size
    have HOx := hide ((HO.out.below bX).up bX.size)
    have EFx := hide ((bX.block _ (Array.getElem?_eq_some_iff.1 EF.out).1).trans EF.out)
    have HBx := hide (HB.out.trans (bX.mono HB.out.size))
    clear bX HO EF HB
    go_upto_region 5 with (first
      | (at_builtin; refine appL rfl _ _ 29 rfl (w.heap.size + 1) _ _ 44 i0 (.slice none 0 0) 1 24 Try.underlying29 HI.out.1 HI.out.2.1 HI.out.2.2.1 HI.out.2.2.2 rfl (by decide) _ 1 [.val (.slice pa (fc (0) (y.w)).length pc)] [] [] [] [] rfl HOx.out rfl _ _ [.slice sa (fc (5) (y.w)).length sc] [.val (.slice sa (fc (5) (y.w)).length sc)] rfl hbx.out (OwnDL.val (ownDL_nil _ _ _)) rfl (by simp [Value.oneCell']) (by omega) (by decide) (Nat.le_refl _) (by have := hB1; omega) (Nat.le_refl _) ?_; intro g9 c9 W5 o9 gr9 hq9; have HO : Hid (OwnDL W5 (w.heap.size + 1) W5.heap.size [.row 44 1 2 [.val (.slice pa (fc (0) (y.w)).length pc), .val (.slice sa (fc (5) (y.w)).length sc)]] [.slice (some ⟨g9, 0, none⟩) 2 c9]) := hide o9; have HB := hide (HBx.out.grown gr9 (by omega) (fun q hq => (by have := (hq9 q hq).1; omega))); have EF := hide ((gr9.block _ (Array.getElem?_eq_some_iff.1 EFx.out).1 (fun e => by have := (hq9 _ e.symm).1; omega)).trans EFx.out); clear o9 gr9 hq9)
      | fail)
    clear ls hbx hsX HOx EFx HBx
    have hB1 : w.heap.size + 1 ≤ W5.heap.size := by have := HB.out.size; have := (Array.getElem?_eq_some_iff.1 EF.out).1; omega
    cases c3 : (y.k == 3) with
    | true =>
      have k3e : y.k = 3 := eq_of_beq c3
      have HAC : Hid (aheadC false fc y = [fc 0 y.w, fc 5 y.w, fc 4 y.i]) := hide (by unfold aheadC; rw [if_pos k3e]; rfl)
      clear k3e
      have k0 := (box_of EF.out).1 0 _ rfl
      have k1 := (box_of EF.out).1 1 _ rfl
      have k2 := (box_of EF.out).1 2 _ rfl
      have lq := (HK.out.below HB.out).look (k := 4) (i := y.i) (by omega) HE.out.2.2
      unfold srcV at lq
      obtain ⟨qa, qc, qe, _⟩ := (HF.out 4 y.i (by omega) HE.out.2.2).shape
      rw [qe] at lq
      have Rq : Hid (Reads w w.heap.size (smps (fc (4) (y.i))) (.slice qa (fc (4) (y.i)).length qc)) := hide (by have h := HF.out 4 y.i (by omega) HE.out.2.2; rw [qe] at h; exact h)
      clear qe
      have bX := (Below.refl W5.heap.size W5).alloc (Nat.le_refl _) (.cells #[.slice qa (fc (4) (y.i)).length qc] 44)
      have hbx := hide (box_of (heap_alloc_new W5 (.cells #[.slice qa (fc (4) (y.i)).length qc] 44))).1
      have hsX := bX.size
      have hsW := HB.out.size
      have HOx := hide ((HO.out.below bX).up bX.size)
      have EFx := hide ((bX.block _ (Array.getElem?_eq_some_iff.1 EF.out).1).trans EF.out)
      have HBx := hide (HB.out.trans (bX.mono HB.out.size))
      clear bX HO EF HB
      go_upto_region 10 with (first
        | (at_builtin; refine appL rfl _ _ 29 rfl (w.heap.size + 1) _ _ 44 i0 (.slice none 0 0) 1 24 Try.underlying29 HI.out.1 HI.out.2.1 HI.out.2.2.1 HI.out.2.2.2 rfl (by decide) _ 2 [.val (.slice pa (fc (0) (y.w)).length pc), .val (.slice sa (fc (5) (y.w)).length sc)] [] [] [] [] rfl HOx.out rfl _ _ [.slice qa (fc (4) (y.i)).length qc] [.val (.slice qa (fc (4) (y.i)).length qc)] rfl hbx.out (OwnDL.val (ownDL_nil _ _ _)) rfl (by simp [Value.oneCell']) (by omega) (by decide) (Nat.le_refl _) (by have := hB1; omega) (Nat.le_refl _) ?_; intro g9 c9 W8 o9 gr9 hq9; have HO : Hid (OwnDL W8 (w.heap.size + 1) W8.heap.size [.row 44 1 3 [.val (.slice pa (fc (0) (y.w)).length pc), .val (.slice sa (fc (5) (y.w)).length sc), .val (.slice qa (fc (4) (y.i)).length qc)]] [.slice (some ⟨g9, 0, none⟩) 3 c9]) := hide o9; have HB := hide (HBx.out.grown gr9 (by omega) (fun q hq => (by have := (hq9 q hq).1; omega))); have EF := hide ((gr9.block _ (Array.getElem?_eq_some_iff.1 EFx.out).1 (fun e => by have := (hq9 _ e.symm).1; omega)).trans EFx.out); clear o9 gr9 hq9)
        | fail)
      clear lq hbx hsX HOx EFx HBx
      have HFIN := hide (vals_rws (cs := [fc 0 y.w, fc 5 y.w, fc 4 y.i]) (OwnDL.mid (c1 := []) (v1 := []) HO.out rfl) (vs := [.slice pa (fc (0) (y.w)).length pc, .slice sa (fc (5) (y.w)).length sc, .slice qa (fc (4) (y.i)).length qc]) rfl rfl (readsL_mk (Rp.out.at HB.out) (readsL_mk (Rs.out.at HB.out) (readsL_mk (Rq.out.at HB.out) (readsL_none)))))
      go_wp2
      go_ret
      refine ⟨_, rfl, ?_, HB.out⟩
      rw [hf0, HAC.out]
      exact HFIN.out
    | false =>
      have k3e : ¬ y.k = 3 := fun e => by rw [e] at c3; simp at c3
      cases c6 : (y.k == 6) with
      | true =>
        have k6e : y.k = 6 := eq_of_beq c6
        have HAC : Hid (aheadC false fc y = [fc 0 y.w, fc 5 y.w, fc 0 y.i]) := hide (by unfold aheadC; rw [if_neg k3e, if_pos k6e]; rfl)
        clear k3e k6e
        have k0 := (box_of EF.out).1 0 _ rfl
        have k1 := (box_of EF.out).1 1 _ rfl
        have k2 := (box_of EF.out).1 2 _ rfl
        have lq := (HK.out.below HB.out).look (k := 0) (i := y.i) (by omega) HE.out.2.2
        unfold srcV at lq
        obtain ⟨qa, qc, qe, _⟩ := (HF.out 0 y.i (by omega) HE.out.2.2).shape
        rw [qe] at lq
        have Rq : Hid (Reads w w.heap.size (smps (fc (0) (y.i))) (.slice qa (fc (0) (y.i)).length qc)) := hide (by have h := HF.out 0 y.i (by omega) HE.out.2.2; rw [qe] at h; exact h)
        clear qe
        have bX := (Below.refl W5.heap.size W5).alloc (Nat.le_refl _) (.cells #[.slice qa (fc (0) (y.i)).length qc] 44)
        have hbx := hide (box_of (heap_alloc_new W5 (.cells #[.slice qa (fc (0) (y.i)).length qc] 44))).1
        have hsX := bX.size
        have hsW := HB.out.size
        have HOx := hide ((HO.out.below bX).up bX.size)
        have EFx := hide ((bX.block _ (Array.getElem?_eq_some_iff.1 EF.out).1).trans EF.out)
        have HBx := hide (HB.out.trans (bX.mono HB.out.size))
        clear bX HO EF HB
        go_upto_region 10 with (first
          | (at_builtin; refine appL rfl _ _ 29 rfl (w.heap.size + 1) _ _ 44 i0 (.slice none 0 0) 1 24 Try.underlying29 HI.out.1 HI.out.2.1 HI.out.2.2.1 HI.out.2.2.2 rfl (by decide) _ 2 [.val (.slice pa (fc (0) (y.w)).length pc), .val (.slice sa (fc (5) (y.w)).length sc)] [] [] [] [] rfl HOx.out rfl _ _ [.slice qa (fc (0) (y.i)).length qc] [.val (.slice qa (fc (0) (y.i)).length qc)] rfl hbx.out (OwnDL.val (ownDL_nil _ _ _)) rfl (by simp [Value.oneCell']) (by omega) (by decide) (Nat.le_refl _) (by have := hB1; omega) (Nat.le_refl _) ?_; intro g9 c9 W8 o9 gr9 hq9; have HO : Hid (OwnDL W8 (w.heap.size + 1) W8.heap.size [.row 44 1 3 [.val (.slice pa (fc (0) (y.w)).length pc), .val (.slice sa (fc (5) (y.w)).length sc), .val (.slice qa (fc (0) (y.i)).length qc)]] [.slice (some ⟨g9, 0, none⟩) 3 c9]) := hide o9; have HB := hide (HBx.out.grown gr9 (by omega) (fun q hq => (by have := (hq9 q hq).1; omega))); have EF := hide ((gr9.block _ (Array.getElem?_eq_some_iff.1 EFx.out).1 (fun e => by have := (hq9 _ e.symm).1; omega)).trans EFx.out); clear o9 gr9 hq9)
          | fail)
        clear lq hbx hsX HOx EFx HBx
        have HFIN := hide (vals_rws (cs := [fc 0 y.w, fc 5 y.w, fc 0 y.i]) (OwnDL.mid (c1 := []) (v1 := []) HO.out rfl) (vs := [.slice pa (fc (0) (y.w)).length pc, .slice sa (fc (5) (y.w)).length sc, .slice qa (fc (0) (y.i)).length qc]) rfl rfl (readsL_mk (Rp.out.at HB.out) (readsL_mk (Rs.out.at HB.out) (readsL_mk (Rq.out.at HB.out) (readsL_none)))))
        go_wp2
        go_ret
        refine ⟨_, rfl, ?_, HB.out⟩
        rw [hf0, HAC.out]
        exact HFIN.out
      | false =>
        have k6e : ¬ y.k = 6 := fun e => by rw [e] at c6; simp at c6
        have HAC : Hid (aheadC false fc y = [fc 0 y.w, fc 5 y.w]) := hide (by unfold aheadC; rw [if_neg k3e, if_neg k6e]; rfl)
        clear k3e k6e
        have k0 := (box_of EF.out).1 0 _ rfl
        have k1 := (box_of EF.out).1 1 _ rfl
        have k2 := (box_of EF.out).1 2 _ rfl
        have HFIN := hide (vals_rws (cs := [fc 0 y.w, fc 5 y.w]) (OwnDL.mid (c1 := []) (v1 := []) HO.out rfl) (vs := [.slice pa (fc (0) (y.w)).length pc, .slice sa (fc (5) (y.w)).length sc]) rfl rfl (readsL_mk (Rp.out.at HB.out) (readsL_mk (Rs.out.at HB.out) (readsL_none))))
        go_wp2
        go_ret
        refine ⟨_, rfl, ?_, HB.out⟩
        rw [hf0, HAC.out]
        exact HFIN.out
end Go.Proofs.Ytllghgcancennaa
