/-
  What is patched, in the program.
-/
import Derived.Test.YtabeeppfgkeahaaDifP
import Derived.Test.YtabeeppfgkeahaaDeepTo
import Derived.Test.YtabeeppfgkeahaaCopyG
import Derived.Deep.RegionHeld
namespace Go.Proofs.Ytabeeppfgkeahaa
open Go.RowKit

set_option maxRecDepth 100000 in
set_option maxHeartbeats 4000000 in
theorem copyListVd (w : World) (v : Value) (xs : List Vl) (h : Reads w w.heap.size (vls xs) v) (hm : xs.length ≤ 2000000) :
    Calls Try.prog 36 #[v] w fun e w' => rowP w w' (vls xs) e := by
  have HF1 := hide (flat_vl xs)
  obtain ⟨i0, hi, hz0, hz1, hz2⟩ := info_parts Try.infoVl
  have HSZ : Hid ((Try.prog.info? 48).map (·.size) = some 2) := hide (by rw [hi]; simp [hz1])
  unfold vls Reads at h
  obtain ⟨us, hrd, hds⟩ := h
  have HDS := hide hds
  have H1 := hide (one_flat HF1.out hds)
  have HR := hide hrd
  obtain ⟨hfl, a, cap, rfl, _⟩ := hrd
  clear hds
  by_cases h0 : xs.length = 0
  · have hnil := List.eq_nil_of_length_eq_zero h0
    subst hnil
    go_enter Try.func36, Try.ntmps36
    go_wp2
    go_ret
    exact ⟨_, rfl, ownD_nil _ _ _ _ _, Below.refl _ _⟩
  · obtain ⟨ad, rfl, hsrc⟩ := rd_src HR.out (by omega)
    have HSR := hide hsrc
    have HFL := hide hfl
    have hne : ¬ ((xs.length : Int) = 0) := by omega
    clear hsrc hfl HR
    obtain ⟨n, hn⟩ : ∃ n, xs.length = n := ⟨_, rfl⟩
    have HNN := hide hn
    rw [hn] at hm h0 hne HFL ⊢
    clear hn
    go_enter Try.func36, Try.ntmps36
    go_wp2_with (first
      | (at_make; refine wpList_make_full _ rfl _ _ 26 rfl w.heap.size 48 i0 (.agg #[.bool false, .int .i64 0]) 2 Try.underlying26 hi hz0 hz1 _ _ _ _ n rfl rfl rfl rfl (by rw [hz2]; omega) (by unfold maxLen; omega) (Nat.le_refl _) ?_; intro w1 ho1 hg1; have HO1 := hide ho1; have HG1 := hide hg1; have HSR1 : Hid (∀ (j : Nat) (u : Value), us[j]? = some u → w1.cell? (ad.add j) = some u) := hide (fun j u hu => (((Below.refl w.heap.size w).grown HG1.out (Nat.le_refl _) (fun k hk => by cases hk)).cell (World.block_lt_of_cell? w _ (HSR.out j u hu))).trans (HSR.out j u hu)); clear ho1 hg1)
      | (refine wpList_copy_rows rfl _ _ 26 26 rfl 48 Try.underlying26 2 HSZ.out w.heap.size w.heap.size n n _ rfl HO1.out ad n cap rfl (Nat.le_refl _) us HFL.out HSR1.out H1.out ?_; intro w2 ho2 hg2; have HO2 := hide ho2; have HG2 := hide hg2; clear ho2 hg2))
    have HF : Hid (w2.ownsRow w.heap.size 48 2 (.slice (some ⟨w.heap.size, 0, none⟩) n n) n us) := hide (by
      have h2 := HO2.out
      rwa [List.drop_eq_nil_of_le (by rw [HO1.out.1, HFL.out]; exact Nat.le_refl _), List.append_nil] at h2)
    have HB : Hid (Below w.heap.size w w2) := hide (((Below.refl w.heap.size w).grown HG1.out (Nat.le_refl _) (fun k hk => by cases hk)).grown HG2.out ((Below.refl w.heap.size w).grown HG1.out (Nat.le_refl _) (fun k hk => by cases hk)).size (fun k hk => by cases hk; exact Nat.le_refl _))
    clear HO1 HO2 HG1 HG2
    go_ret
    refine ⟨_, rfl, ⟨[w.heap.size], ?_, by simp, fun q hq => ?_⟩, HB.out⟩
    · unfold vls Owns
      rw [HNN.out]
      exact ⟨us, [], HF.out, ownsL_flat (fun d hd => by obtain ⟨u, hu, _⟩ := HF1.out d hd; exact ⟨u, hu⟩) (ReadsL.low HDS.out HB.out (Nat.le_refl _)), rfl⟩
    · have hq' : q = w.heap.size := by simpa using hq
      subst hq'
      exact (World.ownsRow.lt HF.out _ rfl).2
set_option maxRecDepth 100000 in
set_option maxHeartbeats 8000000 in
theorem patchI (w : World) (f : List Vl) (cs : List Cel) (v1 v2 : Value) (h1 : Reads w w.heap.size (vls f) v1) (h2 : Reads w w.heap.size (cels cs) v2) (hf : vlsG f) (hc : cs.length ≤ 1048576) :
    Calls Try.prog 19 #[v1, v2] w fun e w' => rowP w w' (vls (patX f cs)) e := by
  have H1 := hide h1
  have H2 := hide h2
  have hlf := hf.1
  obtain ⟨a1, c1, e1, _⟩ := h1.shape
  obtain ⟨a2, c2, e2, _⟩ := h2.shape
  subst e1 e2
  clear h1 h2
  go_enter Try.func19, Try.ntmps19
  go_wp2_with fail
  refine (copyListVd _ _ f H1.out (by omega)).mono ?_
  rintro e x0 ⟨u, rfl, o9, b9⟩
  obtain ⟨pa, pc, pe⟩ := o9.shape
  subst pe
  have HO1 := hide o9
  have HB1 := hide b9
  clear o9 b9 H1
  obtain ⟨hi9, hhi⟩ : ∃ q, x0.heap.size = q := ⟨_, rfl⟩
  rw [hhi] at HO1
  have hhi2 : hi9 ≤ x0.heap.size := by omega
  clear hhi
  go_wp2
  go_loopw [12] (fun k wr => ∃ (j : Nat) (xs : List Vl), j ≤ cs.length ∧ xs.length = f.length ∧ Hid (xs = patX f (cs.take j)) ∧ k = .int .i64 (j : Int) ∧ Hid (OwnD wr w.heap.size hi9 (vls xs) (.slice pa f.length pc)) ∧ Hid (Below w.heap.size w wr) ∧ hi9 ≤ wr.heap.size) (fun k _ => cs.length - (intOf k).toNat)
  case atStart => exact ⟨0, f, Nat.zero_le _, rfl, hide rfl, rfl, HO1, HB1, hhi2⟩
  case round =>
    clear HO1 HB1 hhi2
    obtain ⟨j, xs, hj, hxl, HXS, rfl, HO, HB, hhr⟩ := hrel
    by_cases hlt : j < cs.length
    · have hltI : (j : Int) < (cs.length : Int) := by omega
      obtain ⟨_, _, eb, _, _, hcw⟩ := cel_at (H2.out)
      cases eb
      obtain ⟨b2, o2, rfl, hb2w, hcell2⟩ := hcw (by omega)
      obtain ⟨k0, k1, k2⟩ := hcell2 j hlt
      have f0 := (HB.out.cell (p := ⟨b2, o2 + j * 3, none⟩) hb2w).trans k0
      have f1 := (HB.out.cell (p := ⟨b2, o2 + j * 3 + 1, none⟩) hb2w).trans k1
      have f2 := (HB.out.cell (p := ⟨b2, o2 + j * 3 + 2, none⟩) hb2w).trans k2
      clear hcell2 hcw k0 k1 k2
      have HST : Hid (patX f (cs.take (j + 1)) = pat1 (patX f (cs.take j)) (cs.getD j default)) := hide (patX_snoc hlt)
      obtain ⟨y, hy⟩ : ∃ y, cs.getD j default = y := ⟨_, rfl⟩
      rw [hy] at f0 f1 f2 HST
      rw [← HXS.out] at HST
      clear hy
      have hw : IntKind.i64.wrap ((f.length : Int) - 1) = (f.length : Int) - 1 := by rw [IntKind.wrap_i64]; omega
      have bA := (Below.refl wr.heap.size wr).alloc (Nat.le_refl _) (.cells #[.int .i64 y.a, .bool y.r, .int .i64 y.n] 50)
      have E0 := hide (heap_alloc_new wr (.cells #[.int .i64 y.a, .bool y.r, .int .i64 y.n] 50))
      have HBA := hide bA
      have hsA : wr.heap.size < (wr.alloc (.cells #[.int .i64 y.a, .bool y.r, .int .i64 y.n] 50)).heap.size := by simp
      clear bA
      go_upto_region 5 with fail
      obtain ⟨g0, hg0⟩ : ∃ g, wr.heap.size = g := ⟨_, rfl⟩
      have HO2 := hide (HO.out.below HBA.out)
      have HB2 := hide (HB.out.trans (HBA.out.mono HB.out.size))
      have hwg := HB.out.size
      rw [hg0] at E0 hsA hhr hwg ⊢
      clear HBA hg0 HB HO f0 f1 f2
      generalize wr.alloc (.cells #[.int .i64 y.a, .bool y.r, .int .i64 y.n] 50) = X at *
      have s0 := (box_of E0.out).1 0 _ rfl
      have s1 := (box_of E0.out).1 1 _ rfl
      have s2 := (box_of E0.out).1 2 _ rfl
      go_wp2_with fail
      refine (inImpl _ _ _ _).mono ?_
      rintro e w2 ⟨rfl, hw2⟩
      rw [hw2]
      clear hw2 w2
      cases ci : inB y.a 0 ((f.length : Int) - 1) with
      | false =>
        have HS2 : Hid (xs = patX f (cs.take (j + 1))) := hide (by rw [HST.out]; unfold pat1; rw [hxl, ci]; rfl)
        go_wp2
        exact ⟨⟨j + 1, xs, by omega, hxl, HS2, by go_num, HO2, HB2, by omega⟩, by simp [intOf]; omega⟩
      | true =>
        have hin := inB_yes ci
        obtain ⟨t, ht⟩ : ∃ t : Nat, y.a = (t : Int) := ⟨y.a.toNat, by omega⟩
        have htn : t < f.length := by omega
        have htI : (t : Int) < (f.length : Int) := by omega
        have HS2 : Hid (xs.set t ⟨y.r, y.n⟩ = patX f (cs.take (j + 1))) := hide (by rw [HST.out]; unfold pat1; rw [hxl, ci, if_pos rfl, ht, Int.toNat_natCast])
        have HO8 : Hid (OwnD X w.heap.size hi9 (.row 48 2 f.length (xs.flatMap vlD)) (.slice pa f.length pc)) := hide (by
          have h := HO2.out
          unfold vls at h
          rwa [hxl] at h)
        obtain ⟨g, cg, eg⟩ := rowAddrP HO8.out (by omega)
        cases eg
        rw [ht] at s0
        clear HO8 ci ht hin
        obtain ⟨x1, x2, x3, x4, x5, x6, HN⟩ := vlSetOwn HO2.out hxl htn ⟨y.r, y.n⟩
        obtain ⟨o0, p0⟩ := Option.isSome_iff_exists.1 x1
        obtain ⟨o1, p1⟩ := Option.isSome_iff_exists.1 x3
        have HN2 := hide HN
        have HE := hide (((Below.refl w.heap.size X).setCell (p := ⟨g, t * 2, none⟩) (by dsimp only; omega) (.bool y.r)).setCell (p := ⟨g, t * 2 + 1, none⟩) (by dsimp only; omega) (.int .i64 y.n))
        clear HN HO2 x1 x3
        go_wp2
        exact ⟨⟨j + 1, xs.set t ⟨y.r, y.n⟩, by omega, by rw [List.length_set]; exact hxl, HS2, by go_num, HN2, hide (HB2.out.trans HE.out), by simp only [World.size_setCell]; omega⟩, by simp [intOf]; omega⟩
    · obtain rfl : j = cs.length := by omega
      have hnl : ¬ (cs.length : Int) < (cs.length : Int) := by omega
      have HF : Hid (xs = patX f cs) := hide (by have h := HXS.out; rwa [List.take_length] at h)
      go_wp2
      go_ret
      refine ⟨_, rfl, ?_, HB.out⟩
      rw [← HF.out]
      exact HO.out.up hhr
end Go.Proofs.Ytabeeppfgkeahaa
