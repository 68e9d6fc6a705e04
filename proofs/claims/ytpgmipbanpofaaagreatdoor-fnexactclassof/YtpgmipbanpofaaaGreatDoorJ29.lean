/-
  Joined: HeldC, HeldD.
-/
import Derived.Test.YtpgmipbanpofaaaGreatDoorJ28
import Derived.Test.YtpgmipbanpofaaaGreatDoorJ22
import Derived.Deep.CutRange
import Derived.Deep.RegionWith
/-
  What heldClass answers of a class that is marked.
-/
namespace Go.Proofs.YtpgmipbanpofaaaGreatDoor
open Go.RowKit

end Go.Proofs.YtpgmipbanpofaaaGreatDoor
/-
  What heldClass answers of a class that is marked: methods, classes.
-/
namespace Go.Proofs.YtpgmipbanpofaaaGreatDoor
open Go.RowKit

theorem marks_byt (k n : Nat) : Byt (marks k n) := by
  intro z hz
  unfold marks at hz
  obtain ⟨i, _, rfl⟩ := List.mem_map.1 hz
  constructor <;> omega
theorem heldStI (w : World) (K n : Nat) (m : Int) (hmK : m = (K : Int)) (v : Value) (h : Reads w w.heap.size (strs (mkSs K n)) v) (hK : 0 < K) (hm : K + n ≤ 100000000) :
    Calls Tryz.prog 51 #[v, .int .i64 m] w fun e w' => e = .returned (.int .i64 ((K + n : Nat) : Int)) ∧ Below w.heap.size w w' := by
  subst hmK
  have := heldSt w K n v h hK (by omega)
  rwa [Nat.one_mul] at this
set_option maxRecDepth 100000 in
set_option maxHeartbeats 1000000 in
theorem heldBy (w : World) (K n : Nat) (m : Int) (hmK : m = (K : Int)) (v : Value) (h : Reads w w.heap.size (byts (marks K n)) v) (hn : n ≤ 1048576) (hm : K + n ≤ 100000000) :
    Calls Tryz.prog 52 #[v, .int .i64 m] w fun e w' => e = .returned (.int .i64 ((K + n : Nat) : Int)) ∧ Below w.heap.size w w' := by
  subst hmK
  obtain ⟨a, cap, rfl, hc, _, hi⟩ := byts_in h (by rw [marks_len]; exact hn) (marks_byt K n)
  rw [marks_len] at hi hc ⊢
  have HI := hide hi
  clear h hi
  go_enter Tryz.func52, Tryz.ntmps52
  go_wp2
  go_loopw [1, 5] (fun q i wr => ∃ j : Nat, j ≤ n ∧ q = .int .i64 ((K + j : Nat) : Int) ∧ i = .int .i64 (j : Int) ∧ wr = w) (fun _ i _ => n - (intOf i).toNat)
  case atStart => exact ⟨0, Nat.zero_le _, rfl, rfl, rfl⟩
  case round =>
    obtain ⟨j, hj, rfl, rfl, rfl⟩ := hrel
    by_cases hlt : j < n
    · obtain ⟨b, o, rfl, _, hcell⟩ := HI.out.2.2.2 (by omega)
      have e1 := hcell j hlt
      rw [marks_get K n j hlt] at e1
      clear hcell
      go_wp2
      exact ⟨⟨j + 1, by omega, by go_num, by go_num, trivial⟩, by simp [intOf]; omega⟩
    · have hjn : j = n := by omega
      subst hjn
      go_wp2
      go_ret
      exact ⟨rfl, Below.refl _ _⟩
set_option maxRecDepth 100000 in
set_option maxHeartbeats 8000000 in
theorem heldMes (w : World) (K : Nat) (xs : List Me) (v : Value) (h : Reads w w.heap.size (mets (mkMs K xs)) v) (hK : 0 < K) (hm : K + tot cntM xs ≤ 100000000) (hg : ∀ y ∈ xs, y.ps.length ≤ 1048576 ∧ y.c.length ≤ 1048576) :
    Calls Tryz.prog 28 #[v, .int .i64 (K : Int)] w fun e w' => e = .returned (.int .i64 ((K + tot cntM xs : Nat) : Int)) ∧ Below w.heap.size w w' := by
  have HX : Hid (∀ wr, Below w.heap.size w wr → _) := hide (fun wr hb => meth_at (h.at hb))
  have HTS : Hid (∀ j, j < xs.length → tot cntM (xs.take (j + 1)) = tot cntM (xs.take j) + cntM (xs.getD j default)) := hide (fun j hj => tot_step _ xs j hj)
  have HTL : Hid (∀ j, tot cntM (xs.take j) ≤ tot cntM xs) := hide (fun j => tot_le _ xs j)
  have HGt : Hid (∀ j, j < xs.length → (mkMs K xs).getD j default = mkMe (K + tot cntM (xs.take j)) (xs.getD j default)) := hide (fun j hj => mkMs_get K xs j hj)
  have HGD : Hid (∀ j, j < xs.length → (xs.getD j default).ps.length ≤ 1048576 ∧ (xs.getD j default).c.length ≤ 1048576) := hide (fun j hj => hg _ (by simp [hj]))
  have HTE : Hid (tot cntM (xs.take xs.length) = tot cntM xs) := hide (by rw [List.take_length])
  have HLe := hide (mkMs_len K xs)
  obtain ⟨a, cap, rfl, hlc, _⟩ := meth_at h
  rw [mkMs_len] at hlc ⊢
  have hxl := tot_len xs
  clear h hg
  obtain ⟨n, hn⟩ : ∃ n, xs.length = n := ⟨_, rfl⟩
  rw [hn] at hlc hxl ⊢
  have HLn := hide hn
  clear hn
  go_enter Tryz.func28, Tryz.ntmps28
  go_wp2
  go_loopw [1, 5] (fun q i wr => ∃ j : Nat, j ≤ n ∧ q = .int .i64 ((K + tot cntM (xs.take j) : Nat) : Int) ∧ i = .int .i64 (j : Int) ∧ Hid (Below w.heap.size w wr)) (fun _ i _ => n - (intOf i).toNat)
  case atStart => exact ⟨0, Nat.zero_le _, by simp [tot], rfl, hide (Below.refl _ _)⟩
  case round =>
    obtain ⟨j, hj, rfl, rfl, HB⟩ := hrel
    by_cases hlt : j < n
    · have hlt' : j < xs.length := by have := HLn.out; omega
      have hts := HTS.out j hlt'
      have htl := HTL.out (j + 1)
      have hgd := HGD.out j hlt'
      have hgt := HGt.out j hlt'
      obtain ⟨q, hq⟩ : ∃ q, K + tot cntM (xs.take j) = q := ⟨_, rfl⟩
      obtain ⟨y, hy⟩ : ∃ y, xs.getD j default = y := ⟨_, rfl⟩
      rw [hy] at hts hgd hgt
      rw [hq] at hgt ⊢
      have hcm : cntM y = y.ps.length + y.c.length + 3 := rfl
      have hq0 : 0 < q := by omega
      have hqm : q + (y.ps.length + y.c.length + 3) ≤ 100000000 := by omega
      have HEND : Hid (K + tot cntM (xs.take (j + 1)) = q + (y.ps.length + y.c.length + 3)) := hide (by omega)
      obtain ⟨b, o, ha, hbb, pv, cv, f0, f1, f2, f3, f4, r1, r4⟩ : ∃ b o, a = some ⟨b, o, none⟩ ∧ b < wr.heap.size ∧ ∃ pv cv, wr.cell? ⟨b, o + j * 5, none⟩ = some (.string (mtx q)) ∧ wr.cell? ⟨b, o + j * 5 + 1, none⟩ = some pv ∧ wr.cell? ⟨b, o + j * 5 + 2, none⟩ = some (.string (mtx (q + 1 + y.ps.length))) ∧ wr.cell? ⟨b, o + j * 5 + 3, none⟩ = some (.int .i64 (((q + 1 + y.ps.length : Nat) : Int) + 1)) ∧ wr.cell? ⟨b, o + j * 5 + 4, none⟩ = some cv ∧ Reads wr wr.heap.size (strs (mkSs (q + 1) y.ps.length)) pv ∧ Reads wr wr.heap.size (byts (marks (q + 1 + y.ps.length + 2) y.c.length)) cv := by
        obtain ⟨a', cap', e, _, _, hx⟩ := HX.out wr HB.out
        cases e
        obtain ⟨b, o, e, hb, hc⟩ := hx (by rw [HLe.out]; omega)
        obtain ⟨pv, cv, c0, c1, c2, c3, c4, r1, r4⟩ := hc j (by rw [HLe.out]; exact hlt')
        rw [hgt] at c0 c2 c3 r1 r4
        exact ⟨b, o, e, hb, pv, cv, c0, c1, c2, c3, c4, r1, r4⟩
      subst ha
      obtain ⟨pa, pc, e1, _⟩ := r1.shape
      obtain ⟨ca, cc, e4, _⟩ := r4.shape
      subst e1 e4
      have HD : Hid (∀ wq, Below wr.heap.size wr wq → wq.cell? ⟨b, o + j * 5, none⟩ = some (.string (mtx q)) ∧ wq.cell? ⟨b, o + j * 5 + 1, none⟩ = some (.slice pa (mkSs (q + 1) y.ps.length).length pc) ∧ wq.cell? ⟨b, o + j * 5 + 2, none⟩ = some (.string (mtx (q + 1 + y.ps.length))) ∧ wq.cell? ⟨b, o + j * 5 + 3, none⟩ = some (.int .i64 (((q + 1 + y.ps.length : Nat) : Int) + 1)) ∧ wq.cell? ⟨b, o + j * 5 + 4, none⟩ = some (.slice ca (marks (q + 1 + y.ps.length + 2) y.c.length).length cc) ∧ Reads wq wq.heap.size (strs (mkSs (q + 1) y.ps.length)) (.slice pa (mkSs (q + 1) y.ps.length).length pc) ∧ Reads wq wq.heap.size (byts (marks (q + 1 + y.ps.length + 2) y.c.length)) (.slice ca (marks (q + 1 + y.ps.length + 2) y.c.length).length cc)) := hide (fun wq hb =>
        ⟨(hb.cell (p := ⟨b, o + j * 5, none⟩) hbb).trans f0, (hb.cell (p := ⟨b, o + j * 5 + 1, none⟩) hbb).trans f1, (hb.cell (p := ⟨b, o + j * 5 + 2, none⟩) hbb).trans f2, (hb.cell (p := ⟨b, o + j * 5 + 3, none⟩) hbb).trans f3, (hb.cell (p := ⟨b, o + j * 5 + 4, none⟩) hbb).trans f4, r1.at hb, r4.at hb⟩)
      have HR := hide (Below.refl wr.heap.size wr)
      clear f0 f1 f2 f3 f4 r1 r4 hts htl hgt hcm
      rw [mkSs_len, marks_len] at HD
      generalize y.ps.length = P at *
      generalize y.c.length = C at *
      have hT : ((mtx q).toList == (mtx q).toList) = true := by simp
      go_upto_region 4 with fail
      go_cut [19] from 6 to 58 (fun s wq => s = .bool false ∧ Hid (Below wr.heap.size wr wq))
      case first =>
        have d0 := (HD.out wr HR.out).1
        go_region_with (go_at_call 49; refine (markTextI _ _ q (by omega) (by omega) (by omega)).mono ?_; rintro e w1 ⟨rfl, b1⟩; have HB1 := hide (below_of_drew b1); have k1 := (HD.out w1 HB1.out).1; clear b1)
        all_goals (go_wp2_with fail; go_meet; exact ⟨rfl, HB1⟩)
      case rest =>
        obtain ⟨rfl, HR2⟩ := hcut
        clear hT HR
        have d1 := (HD.out wc HR2.out).2.1
        go_wp2_with fail
        clear d1
        refine (heldStI _ (q + 1) P _ (by omega) _ (HD.out wc HR2.out).2.2.2.2.2.1 (by omega) (by omega)).mono ?_
        rintro e w2 ⟨rfl, b2⟩
        have HR3 := hide (HR2.out.trans (b2.mono HR2.out.size))
        clear b2 HR2
        have hT : ((mtx (q + 1 + P)).toList == (mtx (q + 1 + P)).toList) = true := by simp
        have hnn : ¬ (((q + 1 + P : Nat) : Int) < 0) := by omega
        go_upto_region 10 with fail
        go_cut [38] from 6 to 58 (fun s wq => s = .bool false ∧ Hid (Below wr.heap.size wr wq))
        case first =>
          have d0 := (HD.out w2 HR3.out).2.2.1
          have hs3 := HR3.out.size
          go_region_with (go_at_call 49; refine (markTextI _ _ (q + 1 + P) (by omega) (by omega) (by omega)).mono ?_; rintro e w1 ⟨rfl, b1⟩; have HB1 := hide (HR3.out.trans (below_of_drew b1 |>.mono hs3)); have k1 := (HD.out w1 HB1.out).2.2.1; clear b1)
          all_goals (go_wp2_with fail; go_meet; exact ⟨rfl, HB1⟩)
        case rest =>
          obtain ⟨rfl, HR4⟩ := hcut
          clear hT HR3
          have d3 := (HD.out wc HR4.out).2.2.2.1
          have d4 := (HD.out wc HR4.out).2.2.2.2.1
          have hnl : ((((q + 1 + P : Nat) : Int) + 1) != (((q + 1 + P : Nat) : Int) + 1)) = false := by simp
          go_wp2_with fail
          clear d3 d4
          refine (heldBy _ (q + 1 + P + 2) C _ (by omega) _ (HD.out wc HR4.out).2.2.2.2.2.2 (by omega) (by omega)).mono ?_
          rintro e w3 ⟨rfl, b3⟩
          have HR5 := hide (HB.out.trans ((HR4.out.trans (b3.mono HR4.out.size)).mono HB.out.size))
          clear b3 HR4
          have hnn2 : ¬ (((q + 1 + P + 2 + C : Nat) : Int) < 0) := by omega
          go_wp2
          exact ⟨⟨j + 1, hlt, by rw [HEND.out]; exact congrArg (Value.int .i64) (by omega), by go_num, HR5⟩, by simp [intOf]; omega⟩
    · obtain rfl : j = n := by omega
      have HE9 : Hid (K + tot cntM (xs.take j) = K + tot cntM xs) := hide (by rw [← HLn.out, HTE.out])
      go_wp2
      go_ret
      exact ⟨by rw [HE9.out]; rfl, HB.out⟩
set_option maxRecDepth 100000 in
set_option maxHeartbeats 4000000 in
theorem heldCls (w : World) (K : Nat) (x : Cl) (n s : ByteArray) (u1 u2 u3 : Value) (h1 : Reads w w.heap.size (pool (mkKs K x.p.length)) u1) (h2 : Reads w w.heap.size (flds (mkFs (K + 4 * x.p.length) x.f.length)) u2) (h3 : Reads w w.heap.size (mets (mkMs (K + 4 * x.p.length + 2 * x.f.length) x.m)) u3) (hK : 0 < K) (hm : K + cntC x ≤ 100000000) (hg : ∀ y ∈ x.m, y.ps.length ≤ 1048576 ∧ y.c.length ≤ 1048576) :
    Calls Tryz.prog 11 #[.agg #[.string n, .string s, u1, u2, u3], .int .i64 (K : Int)] w fun e w' => e = .returned (.int .i64 ((K + cntC x : Nat) : Int)) ∧ Below w.heap.size w w' := by
  obtain ⟨a1, k1, e1, _⟩ := h1.shape
  obtain ⟨a2, k2, e2, _⟩ := h2.shape
  obtain ⟨a3, k3, e3, _⟩ := h3.shape
  subst e1 e2 e3
  rw [mkKs_len] at h1 ⊢
  rw [mkFs_len] at h2 ⊢
  rw [mkMs_len] at h3 ⊢
  have hc : cntC x = 4 * x.p.length + 2 * x.f.length + tot cntM x.m := rfl
  have HC : Hid (K + cntC x = K + 4 * x.p.length + 2 * x.f.length + tot cntM x.m) := hide (by omega)
  have hb3 : K + 4 * x.p.length + 2 * x.f.length + tot cntM x.m ≤ 100000000 := by omega
  have bA := (Below.refl w.heap.size w).alloc (Nat.le_refl _) (.cells #[.string n, .string s, .slice a1 x.p.length k1, .slice a2 x.f.length k2, .slice a3 x.m.length k3] 27)
  have HX := hide (Box.new w #[.string n, .string s, .slice a1 x.p.length k1, .slice a2 x.f.length k2, .slice a3 x.m.length k3] 27)
  have HB := hide bA
  have H1 := hide (h1.at bA)
  have H2 := hide h2
  have H3 := hide h3
  have HGm := hide hg
  have hw0 : w.heap.size < (w.alloc (.cells #[.string n, .string s, .slice a1 x.p.length k1, .slice a2 x.f.length k2, .slice a3 x.m.length k3] 27)).heap.size := by simp
  clear h1 h2 h3 bA hg hm hc
  go_enter Tryz.func11, Tryz.ntmps11
  go_wp2_with fail
  generalize w.alloc (.cells #[.string n, .string s, .slice a1 x.p.length k1, .slice a2 x.f.length k2, .slice a3 x.m.length k3] 27) = W0 at *
  refine (heldKcs _ K x.p.length _ H1.out hK (by omega)).mono ?_
  rintro e w1 ⟨rfl, b1⟩
  have f3 := (HX.out.below hw0 b1) 3 _ rfl
  have HX1 := hide (HX.out.below hw0 b1)
  have hs1 := b1.size
  replace HB := hide (HB.out.trans (b1.mono HB.out.size))
  have n1 : ¬ (((K + 4 * x.p.length : Nat) : Int) < 0) := by omega
  clear b1
  go_wp2_with fail
  clear f3
  refine (heldFds _ (K + 4 * x.p.length) x.f.length _ (H2.out.at HB.out) (by omega) (by omega)).mono ?_
  rintro e w2 ⟨rfl, b2⟩
  have f4 := (HX1.out.below (by omega) b2) 4 _ rfl
  replace HB := hide (HB.out.trans (b2.mono HB.out.size))
  have n2 : ¬ (((K + 4 * x.p.length + 2 * x.f.length : Nat) : Int) < 0) := by omega
  clear b2
  go_wp2_with fail
  clear f4
  refine (heldMes _ (K + 4 * x.p.length + 2 * x.f.length) x.m _ (H3.out.at HB.out) (by omega) hb3 HGm.out).mono ?_
  rintro e w3 ⟨rfl, b3⟩
  replace HB := hide (HB.out.trans (b3.mono HB.out.size))
  have n3 : ¬ (((K + 4 * x.p.length + 2 * x.f.length + tot cntM x.m : Nat) : Int) < 0) := by omega
  clear b3
  go_wp2
  go_ret
  exact ⟨by rw [HC.out]; rfl, HB.out⟩
end Go.Proofs.YtpgmipbanpofaaaGreatDoor
