/-
  What is patched, in the model.
-/
import Derived.Test.YtabeeppfgkeahaaDifS
import Derived.Test.YtabeeppfgkeahaaAppM
import Derived.Test.YtabeeppfgkeahaaFlatV
import Derived.Test.YtabeeppfgkeahaaStepM
import Derived.Test.YtabeeppfgkeahaaDeepN
namespace Go.Proofs.Ytabeeppfgkeahaa
open Go.RowKit

theorem vlsetP : ∀ (xs : List Vl) (t : Nat) (v : Vl), t < xs.length → (((xs.flatMap vlD).set (t * 2) (.val (.bool v.r))).set (t * 2 + 1) (.val (.int .i64 v.n))) = (xs.set t v).flatMap vlD
  | [], t, _, h => by simp at h
  | x :: xs, 0, v, _ => by simp [vlD]
  | x :: xs, t + 1, v, h => by
    have ih := vlsetP xs t v (by simpa using h)
    have e : (t + 1) * 2 = t * 2 + 1 + 1 := by omega
    rw [List.set_cons_succ, List.flatMap_cons, List.flatMap_cons, ← ih, e]
    show (([.val (.bool x.r), .val (.int .i64 x.n)] ++ xs.flatMap vlD : List Dt).set _ _).set _ _ = _
    rfl
theorem vlgetP : ∀ (xs : List Vl) (t : Nat), t < xs.length → (xs.flatMap vlD)[t * 2]? = some (.val (.bool (xs.getD t default).r)) ∧ (xs.flatMap vlD)[t * 2 + 1]? = some (.val (.int .i64 (xs.getD t default).n))
  | [], t, h => by simp at h
  | x :: xs, 0, _ => ⟨rfl, rfl⟩
  | x :: xs, t + 1, h => by
    have ih := vlgetP xs t (by simpa using h)
    have e : (t + 1) * 2 = t * 2 + 1 + 1 := by omega
    rw [e, List.flatMap_cons, List.getD_cons_succ]
    exact ih
/-- Where a field's value lies in a row of copies of one's own, and the world behind its writing. -/
theorem ownD_oneP {w : World} {b hi : Nat} {d : Dt} {v : Value} (h : OwnD w b hi d v) : OwnDL w b hi [d] [v] := by
  obtain ⟨F, h1, h2, h3⟩ := h
  refine ⟨F ++ [], ownsL_mk h1 ownsL_nil, by simpa using h2, fun q hq => h3 q (by simpa using hq)⟩
theorem vlSetOwn {w : World} {b hi g n c t : Nat} {xs : List Vl} (h : OwnD w b hi (vls xs) (.slice (some ⟨g, 0, none⟩) n c)) (hn : xs.length = n) (ht : t < n) (v : Vl) :
    (w.cell? ⟨g, t * 2, none⟩).isSome = true ∧ w.frozen? ⟨g, t * 2, none⟩ = false ∧ (w.cell? ⟨g, t * 2 + 1, none⟩).isSome = true ∧ w.frozen? ⟨g, t * 2 + 1, none⟩ = false ∧ b ≤ g ∧ g < hi ∧
      OwnD ((w.setCell ⟨g, t * 2, none⟩ (.bool v.r)).setCell ⟨g, t * 2 + 1, none⟩ (.int .i64 v.n)) b hi (vls (xs.set t v)) (.slice (some ⟨g, 0, none⟩) n c) := by
  subst hn
  have hgb := h.blk g rfl
  obtain ⟨q0, q1⟩ := vlgetP xs t ht
  obtain ⟨e0, f0, _, o1⟩ := OwnDL.cell (c1 := []) (v1 := []) (ownD_oneP h) rfl (i := t * 2) q0 (.bool v.r)
  obtain ⟨e1, f1, _, _⟩ := OwnDL.cell (c1 := []) (v1 := []) (ownD_oneP h) rfl (i := t * 2 + 1) q1 (.int .i64 v.n)
  obtain ⟨_, _, _, o2⟩ := OwnDL.cell (c1 := []) (v1 := []) o1 rfl (i := t * 2 + 1) (z := .int .i64 (xs.getD t default).n) (by rw [List.getElem?_set_ne (by omega)]; exact q1) (.int .i64 v.n)
  refine ⟨by rw [e0]; rfl, f0, by rw [e1]; rfl, f1, hgb.1, hgb.2, ?_⟩
  have o3 := OwnDL.mid (c1 := []) (v1 := []) o2 rfl
  rw [vlsetP xs t v ht] at o3
  unfold vls
  rw [List.length_set]
  exact o3
theorem rowAddrP {w : World} {b hi T k n : Nat} {cs : List Dt} {v : Value} (h : OwnD w b hi (.row T k n cs) v) (hn : 0 < n) : ∃ g c, v = .slice (some ⟨g, 0, none⟩) n c := by
  obtain ⟨F, h1, _⟩ := h
  unfold Owns at h1
  obtain ⟨us, G, h2, _⟩ := h1
  rcases h2.2 with ⟨_, h0⟩ | ⟨g, c, cur, e, _⟩
  · omega
  · exact ⟨g, c, e⟩
set_option maxRecDepth 100000 in
set_option maxHeartbeats 8000000 in
theorem patchS (w : World) (f : List Vl) (cs : List Cel) (v1 v2 : Value) (h1 : Reads w w.heap.size (vls f) v1) (h2 : Reads w w.heap.size (cels cs) v2) (hf : vlsG f) (hc : cs.length ≤ 1048576) :
    Calls Try.prog 17 #[v1, v2] w fun e w' => rowP w w' (vls (patX f cs)) e := by
  have H2 := hide h2
  have hlf := hf.1
  obtain ⟨a1, c1, e1, _⟩ := h1.shape
  obtain ⟨a2, c2, e2, _⟩ := h2.shape
  subst e1 e2
  obtain ⟨i0, hi, hz0, hz1, hz2⟩ := info_parts Try.infoVl
  have HI := hide (And.intro hi (And.intro hz0 (And.intro hz1 hz2)))
  clear hi hz0 hz1 hz2
  have HZ1 := hide (ownD_zero w 48 2)
  have HX1 := hide ((Below.refl w.heap.size w).alloc (Nat.le_refl _) (.cells #[] 48))
  have hX1 := HX1.out.size
  have HL1 := hide (h1.at HX1.out)
  have hpl := patX_len
  clear h1 h2
  go_enter Try.func17, Try.ntmps17
  go_upto_region 2 with (first
    | (at_builtin; refine appM rfl _ _ 26 rfl w.heap.size _ 48 i0 (.agg #[.bool false, .int .i64 0]) 2 16 Try.underlying26 HI.out.1 HI.out.2.1 HI.out.2.2.1 HI.out.2.2.2 rfl (by decide) _ 0 [] rfl HZ1.out _ rfl f.length 48 (f.flatMap vlD) HL1.out (flat_vl f) (by omega) (by decide) hX1 ?_; intro r1 w1 o1 g1 hb1; rw [Nat.zero_add, List.nil_append] at o1; obtain ⟨oa, oc, eo⟩ := o1.shape; subst eo; have HO1 := hide o1; have HB1 := hide (HX1.out.grown g1 hX1 (fun q hq => (hb1 q hq).1)); clear o1 g1 hb1)
    | fail)
  clear HZ1 HX1 HL1 hX1
  obtain ⟨hi9, hhi⟩ : ∃ q, w1.heap.size = q := ⟨_, rfl⟩
  rw [hhi] at HO1
  have hhi2 : hi9 ≤ w1.heap.size := by omega
  clear hhi
  go_wp2
  go_loopw [6] (fun k wr => ∃ (j : Nat) (xs : List Vl), j ≤ cs.length ∧ xs.length = f.length ∧ Hid (xs = patX f (cs.take j)) ∧ k = .int .i64 (j : Int) ∧ Hid (OwnD wr w.heap.size hi9 (vls xs) (.slice oa f.length oc)) ∧ Hid (Below w.heap.size w wr) ∧ hi9 ≤ wr.heap.size) (fun k _ => cs.length - (intOf k).toNat)
  case atStart => exact ⟨0, f, Nat.zero_le _, rfl, hide rfl, rfl, HO1, HB1, hhi2⟩
  case round =>
    clear HO1 HB1 hhi2
    obtain ⟨j, xs, hj, hxl, HXS, rfl, HO, HB, hhr⟩ := hrel
    by_cases hlt : j < cs.length
    · have hltI : (j : Int) < (cs.length : Int) := by omega
      obtain ⟨_, _, eb, _, _, hcw⟩ := cel_at (H2.out)
      cases eb
      obtain ⟨b2, o2, rfl, hb2w, hcell2⟩ := hcw (by omega)
      obtain ⟨k0, k1, k2⟩ := hcell2 j hlt
      have f0 := (HB.out.cell (p := ⟨b2, o2 + j * 3, none⟩) hb2w).trans k0
      have f1 := (HB.out.cell (p := ⟨b2, o2 + j * 3 + 1, none⟩) hb2w).trans k1
      have f2 := (HB.out.cell (p := ⟨b2, o2 + j * 3 + 2, none⟩) hb2w).trans k2
      have hb2 := Nat.lt_of_lt_of_le hb2w HB.out.size
      clear hcell2 hcw k0 k1 k2
      have HST : Hid (patX f (cs.take (j + 1)) = pat1 (patX f (cs.take j)) (cs.getD j default)) := hide (patX_snoc hlt)
      obtain ⟨y, hy⟩ : ∃ y, cs.getD j default = y := ⟨_, rfl⟩
      rw [hy] at f0 f1 f2 HST
      rw [← HXS.out] at HST
      clear hy
      have hw : IntKind.i64.wrap ((f.length : Int) - 1) = (f.length : Int) - 1 := by rw [IntKind.wrap_i64]; omega
      go_wp2_with fail
      refine (inSpec _ _ _ _).mono ?_
      rintro e w2 ⟨rfl, hw2⟩
      rw [hw2]
      clear hw2 w2
      cases ci : inB y.a 0 ((f.length : Int) - 1) with
      | false =>
        have HS2 : Hid (xs = patX f (cs.take (j + 1))) := hide (by rw [HST.out]; unfold pat1; rw [hxl, ci]; rfl)
        go_wp2
        exact ⟨⟨j + 1, xs, by omega, hxl, HS2, by go_num, HO, HB, hhr⟩, by simp [intOf]; omega⟩
      | true =>
        have hin := inB_yes ci
        obtain ⟨t, ht⟩ : ∃ t : Nat, y.a = (t : Int) := ⟨y.a.toNat, by omega⟩
        have htn : t < f.length := by omega
        have htI : (t : Int) < (f.length : Int) := by omega
        have HS2 : Hid (xs.set t ⟨y.r, y.n⟩ = patX f (cs.take (j + 1))) := hide (by rw [HST.out]; unfold pat1; rw [hxl, ci, if_pos rfl, ht, Int.toNat_natCast])
        have HO8 : Hid (OwnD wr w.heap.size hi9 (.row 48 2 f.length (xs.flatMap vlD)) (.slice oa f.length oc)) := hide (by
          have h := HO.out
          unfold vls at h
          rwa [hxl] at h)
        obtain ⟨g, cg, eg⟩ := rowAddrP HO8.out (by omega)
        cases eg
        rw [ht] at f0
        have HTT := hide ht
        clear HO8 ci ht hin
        go_upto_region 6 with fail
        have HS : Hid (∀ w', Below wr.heap.size wr w' → w'.cell? ⟨b2, o2 + j * 3, none⟩ = some (.int .i64 (t : Int)) ∧ w'.cell? ⟨b2, o2 + j * 3 + 1, none⟩ = some (.bool y.r) ∧ w'.cell? ⟨b2, o2 + j * 3 + 2, none⟩ = some (.int .i64 y.n)) := hide (fun w' hb => ⟨(hb.cell (p := ⟨b2, o2 + j * 3, none⟩) hb2).trans f0, (hb.cell (p := ⟨b2, o2 + j * 3 + 1, none⟩) hb2).trans f1, (hb.cell (p := ⟨b2, o2 + j * 3 + 2, none⟩) hb2).trans f2⟩)
        have HD : Hid (Below wr.heap.size wr wr.drew) := hide (Below.refl wr.heap.size wr).drew
        refine wp_region_held_drew (S := fun w' => w'.cell? ⟨b2, o2 + j * 3, none⟩ = some (.int .i64 (t : Int)) ∧ w'.cell? ⟨b2, o2 + j * 3 + 1, none⟩ = some (.bool y.r) ∧ w'.cell? ⟨b2, o2 + j * 3 + 2, none⟩ = some (.int .i64 y.n)) (by kernel_rfl) (HS.out _ HD.out) (fun hHeld => ?_)
        generalize wr.drew = x0 at HD hHeld ⊢
        have HO9 := hide (HO.out.below HD.out)
        have hz9 := HD.out.size
        refine wpAnyH_take (i := 0) (v := ?_) rfl (by kernel_rfl) (by kernel_rfl) (by kernel_rfl) (fun _ _ _ h => h) (Or.inl ⟨by rfl, ?_⟩) (by assumption) ?_
        rotate_left
        · intro w' hSw
          try dsimp only at hSw
          go_simp; try rfl
        simp only [List.getElem_toArray, List.getElem_cons_zero, Act.put, List.setIfInBounds_toArray, List.set_cons_zero, List.set_cons_succ]
        refine wpAnyH_take (i := 1) (v := ?_) rfl (by kernel_rfl) (by kernel_rfl) (by kernel_rfl) (fun _ _ _ h => h) (Or.inl ⟨by rfl, ?_⟩) (by assumption) ?_
        rotate_left
        · intro w' hSw
          try dsimp only at hSw
          go_simp; try rfl
        simp only [List.getElem_toArray, List.getElem_cons_succ, List.getElem_cons_zero, Act.put, List.setIfInBounds_toArray, List.set_cons_zero, List.set_cons_succ]
        refine wpAnyH_take (i := 2) (v := ?_) rfl (by kernel_rfl) (by kernel_rfl) (by kernel_rfl) (fun _ _ _ h => h) (Or.inl ⟨by rfl, ?_⟩) (by assumption) ?_
        rotate_left
        · intro w' hSw
          try dsimp only at hSw
          go_simp; try rfl
        simp only [List.getElem_toArray, List.getElem_cons_succ, List.getElem_cons_zero, Act.put, List.setIfInBounds_toArray, List.set_cons_zero, List.set_cons_succ]
        refine wpAnyH_take (i := 3) (v := ?_) rfl (by kernel_rfl) (by kernel_rfl) (by kernel_rfl) (fun _ _ _ h => h) (Or.inl ⟨by rfl, ?_⟩) (by assumption) ?_
        rotate_left
        · intro w' hSw
          try dsimp only at hSw
          go_simp; try rfl
        simp only [List.getElem_toArray, List.getElem_cons_succ, List.getElem_cons_zero, Act.put, List.setIfInBounds_toArray, List.set_cons_zero, List.set_cons_succ]
        refine wpAnyH_take (i := 4) (v := ?_) rfl (by kernel_rfl) (by kernel_rfl) (by kernel_rfl) (fun _ _ _ h => h) (Or.inl ⟨by rfl, ?_⟩) (by assumption) ?_
        rotate_left
        · intro w' hSw
          try dsimp only at hSw
          go_simp; try rfl
        simp only [List.getElem_toArray, List.getElem_cons_succ, List.getElem_cons_zero, Act.put, List.setIfInBounds_toArray, List.set_cons_zero, List.set_cons_succ]
        refine wpAnyH_take (i := 5) (v := ?_) rfl (by kernel_rfl) (by kernel_rfl) (by kernel_rfl) (fun _ _ _ h => h) (Or.inl ⟨by rfl, ?_⟩) (by assumption) ?_
        rotate_left
        · intro w' hSw
          try dsimp only at hSw
          go_simp; try rfl
        simp only [List.getElem_toArray, List.getElem_cons_succ, List.getElem_cons_zero, Act.put, List.setIfInBounds_toArray, List.set_cons_zero, List.set_cons_succ]
        refine wpAnyH_take (i := 6) (v := ?_) rfl (by kernel_rfl) (by kernel_rfl) (by kernel_rfl) (fun _ _ _ h => h) (Or.inl ⟨by rfl, ?_⟩) (by assumption) ?_
        rotate_left
        · intro w' hSw
          try dsimp only at hSw
          go_simp; try rfl
        simp only [List.getElem_toArray, List.getElem_cons_succ, List.getElem_cons_zero, Act.put, List.setIfInBounds_toArray, List.set_cons_zero, List.set_cons_succ]
        refine wpAnyH_take (i := 7) (v := ?_) rfl (by kernel_rfl) (by kernel_rfl) (by kernel_rfl) (fun _ _ _ h => h) (Or.inl ⟨by rfl, ?_⟩) (by assumption) ?_
        rotate_left
        · intro w' hSw
          try dsimp only at hSw
          go_simp; try rfl
        simp only [List.getElem_toArray, List.getElem_cons_succ, List.getElem_cons_zero, Act.put, List.setIfInBounds_toArray, List.set_cons_zero, List.set_cons_succ]
        refine wpAnyH_take (i := 8) (v := ?_) rfl (by kernel_rfl) (by kernel_rfl) (by kernel_rfl) (fun _ _ _ h => h) (Or.inl ⟨by rfl, ?_⟩) (by assumption) ?_
        rotate_left
        · intro w' hSw
          try dsimp only at hSw
          go_simp; try rfl
        simp only [List.getElem_toArray, List.getElem_cons_succ, List.getElem_cons_zero, Act.put, List.setIfInBounds_toArray, List.set_cons_zero, List.set_cons_succ]
        refine wpAnyH_take (i := 9) (v := ?_) rfl (by kernel_rfl) (by kernel_rfl) (by kernel_rfl) (fun _ _ _ h => h) (Or.inl ⟨by rfl, ?_⟩) (by assumption) ?_
        rotate_left
        · intro w' hSw
          try dsimp only at hSw
          go_simp; try rfl
        simp only [List.getElem_toArray, List.getElem_cons_succ, List.getElem_cons_zero, Act.put, List.setIfInBounds_toArray, List.set_cons_zero, List.set_cons_succ]
        refine wpAnyH_take (i := 10) (v := ?_) rfl (by kernel_rfl) (by kernel_rfl) (by kernel_rfl) (fun _ _ _ h => h) (Or.inl ⟨by rfl, ?_⟩) (by assumption) ?_
        rotate_left
        · intro w' hSw
          try dsimp only at hSw
          go_simp; try rfl
        simp only [List.getElem_toArray, List.getElem_cons_succ, List.getElem_cons_zero, Act.put, List.setIfInBounds_toArray, List.set_cons_zero, List.set_cons_succ]
        refine wpAnyH_take (i := 11) (v := ?_) rfl (by kernel_rfl) (by kernel_rfl) (by kernel_rfl) (fun _ _ _ h => h) (Or.inl ⟨by rfl, ?_⟩) (by assumption) ?_
        rotate_left
        · intro w' hSw
          try dsimp only at hSw
          go_simp; try rfl
        simp only [List.getElem_toArray, List.getElem_cons_succ, List.getElem_cons_zero, Act.put, List.setIfInBounds_toArray, List.set_cons_zero, List.set_cons_succ]
        obtain ⟨x1, x2, x3, x4, x5, x6, HN⟩ := vlSetOwn HO9.out hxl htn ⟨y.r, y.n⟩
        have HN2 := hide HN
        clear HN HO9
        refine wpAnyH_ready (rs := [12]) (by kernel_rfl) (by simp) (AllReadyH.cons rfl (fun K hK => ?_) AllReadyH.nil)
        refine step_storeMid (by kernel_rfl) (by kernel_rfl) 48 _ _ rfl g (t * 2) #[.bool y.r, .int .i64 y.n] (by kernel_rfl) (by kernel_rfl) (fun q hq => by
          have hq2 : q = 0 ∨ q = 1 := by simp at hq; omega
          rcases hq2 with rfl | rfl
          · exact ⟨x1, x2⟩
          · exact ⟨x3, x4⟩) (by kernel_rfl) (by simp [Value.oneCell']) ?_
        show K _ ((x0.setCell ⟨g, t * 2, none⟩ (.bool y.r)).setCell ⟨g, t * 2 + 1, none⟩ (.int .i64 y.n))
        have HE := hide (((HD.out.mono HB.out.size).setCell (p := ⟨g, t * 2, none⟩) (by dsimp only; omega) (.bool y.r)).setCell (p := ⟨g, t * 2 + 1, none⟩) (by dsimp only; omega) (.int .i64 y.n))
        refine hK.out _ _ ⟨(World.cell?_setCell_far _ _ _ _ (by dsimp only; omega)).trans ((World.cell?_setCell_far _ _ _ _ (by dsimp only; omega)).trans hHeld.1), (World.cell?_setCell_far _ _ _ _ (by dsimp only; omega)).trans ((World.cell?_setCell_far _ _ _ _ (by dsimp only; omega)).trans hHeld.2.1), (World.cell?_setCell_far _ _ _ _ (by dsimp only; omega)).trans ((World.cell?_setCell_far _ _ _ _ (by dsimp only; omega)).trans hHeld.2.2)⟩ (fun hHeld2 => ?_)
        clear hK K
        try simp only [Act.put, List.setIfInBounds_toArray, List.set_cons_zero, List.set_cons_succ]
        clear hHeld hHeld2 HS
        have hz8 : x0.heap.size ≤ ((x0.setCell ⟨g, t * 2, none⟩ (.bool y.r)).setCell ⟨g, t * 2 + 1, none⟩ (.int .i64 y.n)).heap.size := by simp
        generalize ((x0.setCell ⟨g, t * 2, none⟩ (.bool y.r)).setCell ⟨g, t * 2 + 1, none⟩ (.int .i64 y.n)) = X9 at *
        refine wpAnyH_done (by kernel_rfl) ?_ _
        go_wp2
        exact ⟨⟨j + 1, xs.set t ⟨y.r, y.n⟩, by omega, by rw [List.length_set]; exact hxl, HS2, by go_num, HN2, hide (HB.out.trans HE.out), by omega⟩, by simp [intOf]; omega⟩
    · obtain rfl : j = cs.length := by omega
      have hnl : ¬ (cs.length : Int) < (cs.length : Int) := by omega
      have HF : Hid (xs = patX f cs) := hide (by have h := HXS.out; rwa [List.take_length] at h)
      go_wp2
      go_ret
      refine ⟨_, rfl, ?_, HB.out⟩
      rw [← HF.out]
      exact HO.out.up hhr
end Go.Proofs.Ytabeeppfgkeahaa
