/-
  Threads in the model: a copy, and a value on the stack of the last frame.
-/
import Derived.Test.YtgkglebgpbehbaaGivM
import Derived.Test.YtgkglebgpbehbaaBldW
import Derived.Test.YtgkglebgpbehbaaAppM
import Derived.Test.YtgkglebgpbehbaaStepX
import Derived.Test.YtgkglebgpbehbaaFlatV
import Derived.Deep.RegionHeld
namespace Go.Proofs.Ytgkglebgpbehbaa
open Go.RowKit

theorem frs_snoc (xs : List Fr) (y : Fr) : frs (xs ++ [y]) = .row 54 5 (xs.length + 1) (xs.flatMap frD ++ frD y) := by
  unfold frs
  rw [List.length_append, List.flatMap_append]
  simp
theorem take_snoc {α : Type} [Inhabited α] {xs : List α} {j : Nat} (h : j < xs.length) : xs.take (j + 1) = xs.take j ++ [xs.getD j default] := by
  rw [List.take_add_one, List.getElem?_eq_getElem h, List.getD_eq_getElem?_getD, List.getElem?_eq_getElem h]
  rfl
def thP (w w' : World) (t : Th) (e : Ending) : Prop := ∃ u, e = .returned (thV t u) ∧ OwnDL w' w.heap.size w'.heap.size (thD t) [.int .i64 t.i, u, .int .i64 t.s, .int .i64 t.d] ∧ Below w.heap.size w w'
set_option maxRecDepth 100000 in
set_option maxHeartbeats 8000000 in
theorem copyThS (w : World) (t : Th) (u : Value) (h : Reads w w.heap.size (frs t.f) u) (hg : ThG t) :
    Calls Try.prog 30 #[thV t u] w fun e w' => thP w w' t e := by
  have HR := hide h
  have hl := hg.f.1
  have HG2 := hide hg.f.2
  obtain ⟨a2, c2, e2, _⟩ := h.shape
  subst e2
  clear h hg
  obtain ⟨i0, hi, hz0, hz1, hz2⟩ := info_parts Try.infoVl
  have HI := hide (And.intro hi (And.intro hz0 (And.intro hz1 hz2)))
  clear hi hz0 hz1 hz2
  obtain ⟨i1, hi, hz0, hz1, hz2⟩ := info_parts Try.infoFr
  have HJ := hide (And.intro hi (And.intro hz0 (And.intro hz1 hz2)))
  clear hi hz0 hz1 hz2
  have bA := ((((Below.refl w.heap.size w).alloc (Nat.le_refl _) (.cells #[.int .i64 t.i, .slice a2 t.f.length c2, .int .i64 t.s, .int .i64 t.d] 37)).alloc (by simp) (.cells #[.int .i64 0, .slice none 0 0, .int .i64 0, .int .i64 0] 37)).alloc (by simp <;> omega) (.cells #[.int .i64 t.i, .slice none 0 0, .int .i64 t.s, .int .i64 t.d] 37))
  have G0 := heap_alloc_new w (.cells #[.int .i64 t.i, .slice a2 t.f.length c2, .int .i64 t.s, .int .i64 t.d] 37)
  have G1 := heap_alloc_new (w.alloc (.cells #[.int .i64 t.i, .slice a2 t.f.length c2, .int .i64 t.s, .int .i64 t.d] 37)) (.cells #[.int .i64 0, .slice none 0 0, .int .i64 0, .int .i64 0] 37)
  have G2 := heap_alloc_new ((w.alloc (.cells #[.int .i64 t.i, .slice a2 t.f.length c2, .int .i64 t.s, .int .i64 t.d] 37)).alloc (.cells #[.int .i64 0, .slice none 0 0, .int .i64 0, .int .i64 0] 37)) (.cells #[.int .i64 t.i, .slice none 0 0, .int .i64 t.s, .int .i64 t.d] 37)
  simp only [World.size_alloc] at G1 G2
  have E0 := hide ((Below.heap_alloc _ (.cells #[.int .i64 t.i, .slice none 0 0, .int .i64 t.s, .int .i64 t.d] 37) _ (by simp <;> omega)).trans ((Below.heap_alloc _ (.cells #[.int .i64 0, .slice none 0 0, .int .i64 0, .int .i64 0] 37) _ (by simp)).trans (G0)))
  have E1 := hide ((Below.heap_alloc _ (.cells #[.int .i64 t.i, .slice none 0 0, .int .i64 t.s, .int .i64 t.d] 37) _ (by simp)).trans (G1))
  have E2 := hide (G2)
  have HB := hide bA
  have hW2 : w.heap.size + 1 + 1 + 1 = (((w.alloc (.cells #[.int .i64 t.i, .slice a2 t.f.length c2, .int .i64 t.s, .int .i64 t.d] 37)).alloc (.cells #[.int .i64 0, .slice none 0 0, .int .i64 0, .int .i64 0] 37)).alloc (.cells #[.int .i64 t.i, .slice none 0 0, .int .i64 t.s, .int .i64 t.d] 37)).heap.size := by simp
  clear bA G0 G1 G2
  unfold thV
  go_enter Try.func30, Try.ntmps30
  go_wp2
  generalize (((w.alloc (.cells #[.int .i64 t.i, .slice a2 t.f.length c2, .int .i64 t.s, .int .i64 t.d] 37)).alloc (.cells #[.int .i64 0, .slice none 0 0, .int .i64 0, .int .i64 0] 37)).alloc (.cells #[.int .i64 t.i, .slice none 0 0, .int .i64 t.s, .int .i64 t.d] 37)) = W at *
  have BO : Hid (Bv W W (w.heap.size + 1 + 1) 37 (thD ⟨t.i, t.f.take 0, t.s, t.d⟩) [.int .i64 t.i, .slice none 0 0, .int .i64 t.s, .int .i64 t.d]) := hide ⟨E2.out, OwnDL.val (OwnDL.cons (m := W.heap.size) (by rw [List.take_zero]; exact ownD_nil _ _ _ _ _) (OwnDL.val (OwnDL.val (ownDL_nil _ _ _))) (by omega) (Nat.le_refl _)), Below.refl _ _⟩
  go_loopw [4] (fun i wr => ∃ xs : List Fr, xs.length ≤ t.f.length ∧ Hid (xs = t.f.take xs.length) ∧ i = .int .i64 (xs.length : Int) ∧ ∃ (va : Option Addr) (vc : Nat), Hid (Bv W wr (w.heap.size + 1 + 1) 37 (thD ⟨t.i, xs, t.s, t.d⟩) [.int .i64 t.i, .slice va xs.length vc, .int .i64 t.s, .int .i64 t.d])) (fun i _ => t.f.length - (intOf i).toNat)
  case atStart => exact ⟨[], Nat.zero_le _, hide (by simp), rfl, none, 0, BO⟩
  case round =>
    obtain ⟨xs, hj, HXS, rfl, va, vc, BOr⟩ := hrel
    have HBr := hide (HB.out.trans (BOr.out.bel.mono (by omega)))
    have E0r := hide ((BOr.out.bel.block _ (by omega)).trans E0.out)
    have E1r := hide ((BOr.out.bel.block _ (by omega)).trans E1.out)
    have q1 := (box_of E0r.out).1 1 _ rfl
    by_cases hlt : xs.length < t.f.length
    · obtain ⟨a', cap', ea, hcap, _, hc⟩ := frame_at (HR.out.at HBr.out)
      cases ea
      obtain ⟨b, o, rfl, hbb, hcell⟩ := hc (by omega)
      obtain ⟨pv1, pv2, d0, d1, d2, d3, d4, r1, r2⟩ := hcell xs.length hlt
      have HGy := hide (HG2.out (t.f.getD xs.length default) (by rw [List.getD_eq_getElem?_getD, List.getElem?_eq_getElem hlt]; exact List.getElem_mem hlt))
      have HT := hide (take_snoc hlt)
      have HXS2 : Hid (xs ++ [t.f.getD xs.length default] = t.f.take (xs ++ [t.f.getD xs.length default]).length) := hide (by
        rw [List.length_append]
        show _ = t.f.take (xs.length + 1)
        rw [HT.out, ← HXS.out])
      clear HT
      clear hcell hc
      obtain ⟨y, hy⟩ : ∃ y, t.f.getD xs.length default = y := ⟨_, rfl⟩
      rw [hy] at d0 d1 d2 r1 r2 HGy HXS2
      clear hy
      obtain ⟨fa1, fc1, fe1, _⟩ := r1.shape
      obtain ⟨fa2, fc2, fe2, _⟩ := r2.shape
      subst fe1 fe2
      have P0 := hide r2
      have hyl := HGy.out.l.1
      have hys := HGy.out.s.1
      go_upto_region 6 with fail
      have bA := (Below.refl wr.heap.size wr).alloc (Nat.le_refl _) (.cells #[.int .i64 y.k, .int .i64 y.m, .int .i64 y.p, .slice fa1 y.l.length fc1, .slice fa2 y.s.length fc2] 54)
      have P1 := hide (r1.at bA)
      have P2 := hide (r2.at bA)
      have BF : Hid (Bv wr (wr.alloc (.cells #[.int .i64 y.k, .int .i64 y.m, .int .i64 y.p, .slice fa1 y.l.length fc1, .slice fa2 y.s.length fc2] 54)) wr.heap.size 54 [.val (.int .i64 y.k), .val (.int .i64 y.m), .val (.int .i64 y.p), .val (.slice fa1 y.l.length fc1), .val (.slice fa2 y.s.length fc2)] [.int .i64 y.k, .int .i64 y.m, .int .i64 y.p, .slice fa1 y.l.length fc1, .slice fa2 y.s.length fc2]) := hide (Bv.new wr 54 (ownDL_vals _ _ _ [.int .i64 y.k, .int .i64 y.m, .int .i64 y.p, .slice fa1 y.l.length fc1, .slice fa2 y.s.length fc2]))
      clear d0 d1 d2 d3 d4 r1 r2 bA q1 hbb
      obtain ⟨gf, hgf⟩ : ∃ g, wr.heap.size = g := ⟨_, rfl⟩
      rw [hgf] at BF ⊢
      have HGF := hide hgf
      clear hgf
      generalize wr.alloc (.cells #[.int .i64 y.k, .int .i64 y.m, .int .i64 y.p, .slice fa1 y.l.length fc1, .slice fa2 y.s.length fc2] 54) = W2 at *
      have HZ := hide (ownD_zero W2 45 2)
      have HXb := hide ((Below.refl W2.heap.size W2).alloc (Nat.le_refl _) (.cells #[] 45))
      have hsX := HXb.out.size
      have P1X := hide (P1.out.at HXb.out)
      have BFl := BF.out.lt
      have k3 := (box_of ((HXb.out.block _ BFl).trans BF.out.box)).1 3 _ rfl
      go_upto_region 7 with (first
        | (at_builtin; refine appM rfl _ _ 52 rfl W2.heap.size _ 45 i0 (.agg #[.bool false, .int .i64 0]) 2 16 Try.underlying52 HI.out.1 HI.out.2.1 HI.out.2.2.1 HI.out.2.2.2 rfl (by decide) _ 0 [] rfl HZ.out _ rfl y.l.length 45 (y.l.flatMap vlD) P1X.out (flat_vl y.l) (by omega) (by decide) hsX ?_; intro v9 w9 o9 g9 hb9; rw [Nat.zero_add, List.nil_append] at o9; obtain ⟨a9, c9, e9⟩ := o9.shape; subst e9; have HO9 := hide o9; have HB9 := hide ((Below.refl W2.heap.size W2).trans (HXb.out.grown g9 HXb.out.size (fun q hq => (hb9 q hq).1))); have f9 := hide ((HB9.out.block _ BFl).trans BF.out.box); have k9 := (box_of f9.out).1 3 _ rfl; have z9 := (box_of f9.out).2; clear o9 g9 hb9)
        | fail)
      have BG := hide (Bv.fresh (c1 := [.val (.int .i64 y.k), .val (.int .i64 y.m), .val (.int .i64 y.p)]) (c2 := [.val (.slice fa2 y.s.length fc2)]) (v1 := [.int .i64 y.k, .int .i64 y.m, .int .i64 y.p]) (v2 := [.slice fa2 y.s.length fc2]) BF.out 3 rfl rfl HB9.out HO9.out (Nat.le_refl _))
      have HB8 := hide (HB9.out.trans ((Below.refl w9.heap.size w9).mono HB9.out.size))
      clear k3 k9 z9 f9 HZ HXb hsX P1X BF BFl HO9
      have P2n : Hid (Reads (w9.setCell ⟨gf, 3, none⟩ (.slice a9 y.l.length c9)) (w9.setCell ⟨gf, 3, none⟩ (.slice a9 y.l.length c9)).heap.size (vls y.s) (.slice fa2 y.s.length fc2)) := hide (P0.out.at (by rw [HGF.out]; exact BG.out.bel))
      clear P2
      have P2 := P2n
      clear P2n
      clear HB9 HB8
      generalize w9.setCell ⟨gf, 3, none⟩ (.slice a9 y.l.length c9) = W3 at *
      have BF := hide BG.out
      clear BG
      generalize a9 = a8 at *
      generalize c9 = c8 at *
      have HZ := hide (ownD_zero W3 45 2)
      have HXb := hide ((Below.refl W3.heap.size W3).alloc (Nat.le_refl _) (.cells #[] 45))
      have hsX := HXb.out.size
      have P2X := hide (P2.out.at HXb.out)
      have BFl := BF.out.lt
      have k4 := (box_of ((HXb.out.block _ BFl).trans BF.out.box)).1 4 _ rfl
      go_upto_region 8 with (first
        | (at_builtin; refine appM rfl _ _ 52 rfl W3.heap.size _ 45 i0 (.agg #[.bool false, .int .i64 0]) 2 16 Try.underlying52 HI.out.1 HI.out.2.1 HI.out.2.2.1 HI.out.2.2.2 rfl (by decide) _ 0 [] rfl HZ.out _ rfl y.s.length 45 (y.s.flatMap vlD) P2X.out (flat_vl y.s) (by omega) (by decide) hsX ?_; intro v9 w9 o9 g9 hb9; rw [Nat.zero_add, List.nil_append] at o9; obtain ⟨a9, c9, e9⟩ := o9.shape; subst e9; have HO9 := hide o9; have HB9 := hide ((Below.refl W3.heap.size W3).trans (HXb.out.grown g9 HXb.out.size (fun q hq => (hb9 q hq).1))); have f9 := hide ((HB9.out.block _ BFl).trans BF.out.box); have k9 := (box_of f9.out).1 4 _ rfl; have z9 := (box_of f9.out).2; clear o9 g9 hb9)
        | fail)
      have BG := hide (Bv.fresh (c1 := [.val (.int .i64 y.k), .val (.int .i64 y.m), .val (.int .i64 y.p), vls y.l]) (c2 := []) (v1 := [.int .i64 y.k, .int .i64 y.m, .int .i64 y.p, .slice a8 y.l.length c8]) (v2 := []) BF.out 4 rfl rfl HB9.out HO9.out (Nat.le_refl _))
      have HB8 := hide (HB9.out.trans ((Below.refl w9.heap.size w9).mono HB9.out.size))
      clear k4 k9 z9 f9 HZ HXb hsX P2X BF BFl HO9
      clear HB9 HB8
      generalize w9.setCell ⟨gf, 4, none⟩ (.slice a9 y.s.length c9) = W4 at *
      have BF := hide BG.out
      clear BG
      have Bb := hide (show Below wr.heap.size wr W4 by rw [HGF.out]; exact BF.out.bel)
      have HXa := hide ((Below.refl W4.heap.size W4).alloc (Nat.le_refl _) (.cells #[.int .i64 y.k, .int .i64 y.m, .int .i64 y.p, .slice a8 y.l.length c8, .slice a9 y.s.length c9] 54))
      have HXb := hide (Bb.out.trans (HXa.out.mono Bb.out.size))
      have hsX := HXa.out.size
      have hL := BOr.out.lt
      have hg4 := BF.out.lt
      have hown := hide (BOr.out.own.below HXb.out)
      have hds := hide ((BF.out.own.below HXa.out).up HXa.out.size)
      have hbx := hide (box_of (heap_alloc_new W4 (.cells #[.int .i64 y.k, .int .i64 y.m, .int .i64 y.p, .slice a8 y.l.length c8, .slice a9 y.s.length c9] 54))).1
      have q1 := (box_of ((Bb.out.block _ hL).trans BOr.out.box)).1 1 _ rfl
      have f0 := (box_of BF.out.box).1 0 _ rfl
      have f1 := (box_of BF.out.box).1 1 _ rfl
      have f2 := (box_of BF.out.box).1 2 _ rfl
      have f3 := (box_of BF.out.box).1 3 _ rfl
      have f4 := (box_of BF.out.box).1 4 _ rfl
      have hgw := HGF.out
      have hgw1 : wr.heap.size ≤ gf + 1 := by omega
      have hgw2 : w.heap.size + 1 + 1 + 1 ≤ gf + 1 := by omega
      have hgw3 : gf + 1 ≤ (W4.alloc (.cells #[.int .i64 y.k, .int .i64 y.m, .int .i64 y.p, .slice a8 y.l.length c8, .slice a9 y.s.length c9] 54)).heap.size := by omega
      clear hgw
      go_wp2_with (first
        | (at_builtin; refine appL rfl _ _ 35 rfl (w.heap.size + 1 + 1 + 1) wr.heap.size (gf + 1) 54 i1 (.agg #[.int .i64 0, .int .i64 0, .int .i64 0, .slice none 0 0, .slice none 0 0]) 5 72 Try.underlying35 HJ.out.1 HJ.out.2.1 HJ.out.2.2.1 HJ.out.2.2.2 rfl (by decide) (.slice va xs.length vc) xs.length (xs.flatMap frD) [.val (.int .i64 t.i)] [.val (.int .i64 t.s), .val (.int .i64 t.d)] [.int .i64 t.i] [.int .i64 t.s, .int .i64 t.d] rfl hown.out rfl _ _ [.int .i64 y.k, .int .i64 y.m, .int .i64 y.p, .slice a8 y.l.length c8, .slice a9 y.s.length c9] (frD y) rfl hbx.out hds.out rfl (by simp [Value.oneCell']) (by omega) (by decide) hgw1 hgw2 hgw3 ?_; intro g9 c9' w9' o9 gr9 hq9; obtain ⟨hb9, bn9⟩ := Bv.app (v1 := [.int .i64 t.i]) (v2 := [.int .i64 t.s, .int .i64 t.d]) (BOr.out.call HXb.out) 1 rfl o9 gr9 (fun q hq => (hq9 q hq).1); have BN := hide bn9; have k9 := (box_of hb9).1 1 _ rfl; have z9 := (box_of hb9).2; clear o9 gr9 hq9 hb9 bn9)
        | fail)
      refine ⟨⟨xs ++ [y], ?_, HXS2, ?_, some ⟨g9, 0, none⟩, c9', hide ?_⟩, ?_⟩
      · rw [List.length_append]; simp only [List.length_cons, List.length_nil]; omega
      · rw [List.length_append]; simp only [List.length_cons, List.length_nil]; go_num
      · have h := BN.out
        unfold thD
        rw [frs_snoc, List.length_append]
        exact h
      · simp [intOf]; omega
    · have hxe : xs = t.f := by
        have h1 := HXS.out
        have h2 : xs.length = t.f.length := by omega
        rw [h2, List.take_length] at h1
        exact h1
      subst hxe
      have k0 := (box_of BOr.out.box).1 0 _ rfl
      have k1 := (box_of BOr.out.box).1 1 _ rfl
      have k2 := (box_of BOr.out.box).1 2 _ rfl
      have k3 := (box_of BOr.out.box).1 3 _ rfl
      have l0 := (box_of E1r.out).1 0 _ rfl
      have l1 := (box_of E1r.out).1 1 _ rfl
      have l2 := (box_of E1r.out).1 2 _ rfl
      have l3 := (box_of E1r.out).1 3 _ rfl
      have lz := (box_of E1r.out).2
      have hwr := HBr.out.size
      have hL := BOr.out.lt
      go_wp2
      refine bodyPost_ret (v := .agg #[.int .i64 t.i, .slice va t.f.length vc, .int .i64 t.s, .int .i64 t.d]) (results_one Try.results30 _ _ _ rfl (loadTh (putN4 E1r.out _ _ _ _))) rfl ?_
      refine ⟨_, rfl, ?_, (((HBr.out.setCell (by simp) _).setCell (by simp) _).setCell (by simp) _).setCell (by simp) _⟩
      refine ((BOr.out.own.same (fun q hq _ _ => ?_)).mono (by omega)).up (by simp)
      rw [heap_setCell_other _ _ _ _ (by simp <;> omega), heap_setCell_other _ _ _ _ (by simp <;> omega), heap_setCell_other _ _ _ _ (by simp <;> omega), heap_setCell_other _ _ _ _ (by simp <;> omega)]
end Go.Proofs.Ytgkglebgpbehbaa
