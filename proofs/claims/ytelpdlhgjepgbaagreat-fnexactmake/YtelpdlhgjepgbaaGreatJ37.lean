/-
  Joined: PrgG, MemP.
-/
import Derived.Test.YtelpdlhgjepgbaaGreatJ34
import Derived.Test.YtelpdlhgjepgbaaGreatJ24
/-
  KindOf, FieldOf, MethodOf and Sub, in the program and in its model.
-/
namespace Go.Proofs.YtelpdlhgjepgbaaGreat
open Go.RowKit

set_option maxRecDepth 100000 in
set_option maxHeartbeats 4000000 in
theorem hasImpl (w : World) (x : Pg) (a : Option Addr) (n c : Nat) (k : Int) (hn : n ≤ 1048576) :
    Calls Tryz.prog 45 #[pgV x (.slice a n c), .int .i64 k] w fun e w' => e = .returned (.bool (inB k 0 ((n : Int) - 1))) ∧ Below w.heap.size w w' := by
  have hw : IntKind.i64.wrap ((n : Int) - 1) = (n : Int) - 1 := by rw [IntKind.wrap_i64]; omega
  unfold pgV
  go_enter Tryz.func45, Tryz.ntmps45
  go_wp2_with fail
  refine (inImpl _ _ _ _).mono ?_
  rintro e w1 ⟨rfl, rfl⟩
  go_wp2
  go_ret
  exact ⟨rfl, (Below.refl _ _).alloc (Nat.le_refl _) _⟩
end Go.Proofs.YtelpdlhgjepgbaaGreat
/-
  One memory in the program: what is fresh.
-/
namespace Go.Proofs.YtelpdlhgjepgbaaGreat
open Go.RowKit

theorem loadKdP {w : World} {g : Nat} {a0 a1 a2 a3 a4 : Value} (h : w.heap[g]? = some (.cells #[a0, a1, a2, a3, a4] 81 (0, 0))) : (loadVar 81 ⟨g, 0, none⟩).run Tryz.prog w = .ok (.agg #[a0, a1, a2, a3, a4]) w :=
  run_loadVar_row w g 81 81 #[a0, a1, a2, a3, a4] (0, 0) _ h Tryz.underlying81 rfl (by kernel_rfl)
/-- The class of that number, or none. -/
def kdX (ks : List Kd) (c : Int) : Kd := if inB c 0 ((ks.length : Int) - 1) = true then ks.getD c.toNat default else ⟨ByteArray.empty, 0, [], [], []⟩
theorem freshX_kd (ks : List Kd) (c : Int) : freshX ks c = (kdX ks c).f.map frv := by
  unfold freshX kdX
  split <;> rfl
theorem reads_nilK {w : World} {B : Nat} {T : TypeId} {k : Nat} : Reads w B (.row T k 0 []) (.slice none 0 0) := by
  unfold Reads
  exact ⟨[], ⟨by simp, none, 0, rfl, Nat.zero_le _, fun _ => rfl, fun h => absurd h (by decide)⟩, by unfold ReadsL; rfl⟩
def kdP (w w' : World) (K : Kd) (e : Ending) : Prop := Below w.heap.size w w' ∧ ∃ p1 p2 p3, e = .returned (kdV K p1 p2 p3) ∧ Reads w w.heap.size (pool K.p) p1 ∧ Reads w w.heap.size (flds K.f) p2 ∧ Reads w w.heap.size (cods K.m) p3
set_option maxRecDepth 100000 in
set_option maxHeartbeats 8000000 in
theorem kindI (w : World) (x : Pg) (u : Value) (c : Int) (h : Reads w w.heap.size (kins x.k) u) (hg : kinsG x.k) :
    Calls Tryz.prog 73 #[pgV x u, .int .i64 c] w fun e w' => kdP w w' (kdX x.k c) e := by
  have HR := hide h
  have HR0 := hide h
  have hm := hg.1
  obtain ⟨a1, c1, e1, _⟩ := h.shape
  subst e1
  clear h hg
  unfold kdP
  obtain ⟨K, hK⟩ : ∃ K, kdX x.k c = K := ⟨_, rfl⟩
  have HV0 : Hid (inB c 0 ((x.k.length : Int) - 1) = false → K = ⟨ByteArray.empty, 0, [], [], []⟩) := hide (fun h => by rw [← hK]; unfold kdX; rw [if_neg (by rw [h]; simp)])
  have HV1 : Hid (∀ j : Nat, c = (j : Int) → inB c 0 ((x.k.length : Int) - 1) = true → K = x.k.getD j default) := hide (fun j hj h => by rw [← hK]; unfold kdX; rw [if_pos h, hj, Int.toNat_natCast])
  rw [hK]
  clear hK
  have bA := (((Below.refl w.heap.size w).alloc (Nat.le_refl _) (.cells #[.slice a1 x.k.length c1] 39)).alloc (by simp) (.cells #[.string ⟨#[]⟩, .int .i64 0, .slice none 0 0, .slice none 0 0, .slice none 0 0] 81))
  have G0 := heap_alloc_new w (.cells #[.slice a1 x.k.length c1] 39)
  have G1 := heap_alloc_new (w.alloc (.cells #[.slice a1 x.k.length c1] 39)) (.cells #[.string ⟨#[]⟩, .int .i64 0, .slice none 0 0, .slice none 0 0, .slice none 0 0] 81)
  simp only [World.size_alloc] at G1
  have E0 := hide ((Below.heap_alloc _ (.cells #[.string ⟨#[]⟩, .int .i64 0, .slice none 0 0, .slice none 0 0, .slice none 0 0] 81) _ (by simp)).trans (G0))
  have E1 := hide (G1)
  have HB := hide bA
  replace HR := hide (HR.out.at bA)
  clear bA G0 G1
  unfold pgV
  go_enter Tryz.func73, Tryz.ntmps73
  go_wp2_with fail
  generalize ((w.alloc (.cells #[.slice a1 x.k.length c1] 39)).alloc (.cells #[.string ⟨#[]⟩, .int .i64 0, .slice none 0 0, .slice none 0 0, .slice none 0 0] 81)) = W at *
  refine (hasImpl _ x _ _ _ c hm).mono ?_
  rintro e w1 ⟨rfl, b1⟩
  replace E0 := hide ((b1.block _ (Array.getElem?_eq_some_iff.1 E0.out).1).trans E0.out)
  replace E1 := hide ((b1.block _ (Array.getElem?_eq_some_iff.1 E1.out).1).trans E1.out)
  replace HR := hide (HR.out.at b1)
  replace HB := hide (HB.out.trans (b1.mono HB.out.size))
  clear b1
  have hsB := HB.out.size
  have q0 := (box_of E0.out).1 0 _ rfl
  have s0 := (box_of E1.out).1 0 _ rfl
  have s1 := (box_of E1.out).1 1 _ rfl
  have s2 := (box_of E1.out).1 2 _ rfl
  have s3 := (box_of E1.out).1 3 _ rfl
  have s4 := (box_of E1.out).1 4 _ rfl
  have sz := (box_of E1.out).2
  cases ci : inB c 0 ((x.k.length : Int) - 1) with
  | false =>
    have HF := hide (HV0.out ci)
    clear HV0 HV1
    go_wp2
    refine bodyPost_ret (v := .agg #[.string ⟨#[]⟩, .int .i64 0, .slice none 0 0, .slice none 0 0, .slice none 0 0]) (results_one Tryz.results73 _ _ _ rfl (loadKdP (putN5 E1.out _ _ _ _ _))) rfl ?_
    rw [HF.out]
    exact ⟨((((HB.out.setCell (by simp <;> omega) _).setCell (by simp <;> omega) _).setCell (by simp <;> omega) _).setCell (by simp <;> omega) _).setCell (by simp <;> omega) _, _, _, _, rfl, reads_nilK, reads_nilK, reads_nilK⟩
  | true =>
    have hin := inB_yes ci
    obtain ⟨j, hj⟩ : ∃ j : Nat, c = (j : Int) := ⟨c.toNat, by omega⟩
    have HF := hide (HV1.out j hj ci)
    subst hj
    have hlt : j < x.k.length := by omega
    have hltI : (j : Int) < (x.k.length : Int) := by omega
    clear HV0 HV1 hin ci
    obtain ⟨a', cap', ea, hcap, _, hc⟩ := kind_at HR0.out
    cases ea
    obtain ⟨b, o, rfl, hbb, hcell⟩ := hc (by omega)
    obtain ⟨pv1, pv2, pv3, d0, d1, d2, d3, d4, r1, r2, r3⟩ := hcell j hlt
    have hz := HB.out
    replace d0 := (hz.cell (p := ⟨b, o + j * 5, none⟩) hbb).trans d0
    replace d1 := (hz.cell (p := ⟨b, o + j * 5 + 1, none⟩) hbb).trans d1
    replace d2 := (hz.cell (p := ⟨b, o + j * 5 + 2, none⟩) hbb).trans d2
    replace d3 := (hz.cell (p := ⟨b, o + j * 5 + 3, none⟩) hbb).trans d3
    replace d4 := (hz.cell (p := ⟨b, o + j * 5 + 4, none⟩) hbb).trans d4
    clear hcell hc hz
    obtain ⟨y, hy⟩ : ∃ y, x.k.getD j default = y := ⟨_, rfl⟩
    rw [hy] at d0 d1 r1 r2 r3 HF
    clear hy
    obtain ⟨f1, g1, e1, _⟩ := r1.shape
    obtain ⟨f2, g2, e2, _⟩ := r2.shape
    obtain ⟨f3, g3, e3, _⟩ := r3.shape
    subst e1 e2 e3
    have R1 := hide r1
    have R2 := hide r2
    have R3 := hide r3
    clear r1 r2 r3
    go_wp2
    refine bodyPost_ret (v := .agg #[.string y.n, .int .i64 y.s, .slice f1 y.p.length g1, .slice f2 y.f.length g2, .slice f3 y.m.length g3]) (results_one Tryz.results73 _ _ _ rfl (loadKdP (putN5 E1.out _ _ _ _ _))) rfl ?_
    rw [HF.out]
    exact ⟨((((HB.out.setCell (by simp <;> omega) _).setCell (by simp <;> omega) _).setCell (by simp <;> omega) _).setCell (by simp <;> omega) _).setCell (by simp <;> omega) _, _, _, _, rfl, R1.out, R2.out, R3.out⟩
set_option maxRecDepth 100000 in
set_option maxHeartbeats 4000000 in
theorem isRefI (w : World) (d : Fd) :
    Calls Tryz.prog 74 #[fdV d] w fun e w' => e = .returned (.bool (frv d).r) ∧ Below w.heap.size w w' := by
  obtain ⟨bb, hbv⟩ : ∃ bb, (d.t.toList == [73]) = bb := ⟨_, rfl⟩
  have hfv : (frv d).r = !bb := by unfold frv; rw [hbv]
  rw [hfv]
  clear hfv
  unfold fdV
  go_enter Tryz.func74, Tryz.ntmps74
  go_wp2
  go_ret
  exact ⟨rfl, (Below.refl _ _).alloc (Nat.le_refl _) _⟩
set_option maxRecDepth 100000 in
set_option maxHeartbeats 8000000 in
theorem freshI (w : World) (x : Pg) (u : Value) (c : Int) (h : Reads w w.heap.size (kins x.k) u) (hg : kinsG x.k) :
    Calls Tryz.prog 48 #[pgV x u, .int .i64 c] w fun e w' => rowP w w' (vls (freshX x.k c)) e := by
  have HR := hide h
  have HG := hide hg
  have hflK : (kdX x.k c).f.length ≤ 1048576 := by
    unfold kdX
    split
    · rename_i h
      have hin := inB_yes h
      exact (getD_mem hg.2 c.toNat (by omega)).f.1
    · exact Nat.zero_le _
  obtain ⟨a1, c1, e1, _⟩ := h.shape
  subst e1
  clear h hg
  obtain ⟨i0, hi, hz0, hz1, hz2⟩ := info_parts Tryz.infoVl
  have HI := hide (And.intro hi (And.intro hz0 (And.intro hz1 hz2)))
  clear hi hz0 hz1 hz2
  rw [freshX_kd]
  obtain ⟨K, hK⟩ : ∃ K, kdX x.k c = K := ⟨_, rfl⟩
  rw [hK] at hflK ⊢
  have HK := hide hK
  clear hK
  have bA := ((Below.refl w.heap.size w).alloc (Nat.le_refl _) (.cells #[.slice a1 x.k.length c1] 39))
  have G0 := heap_alloc_new w (.cells #[.slice a1 x.k.length c1] 39)
  have E0 := hide (G0)
  have HB := hide bA
  replace HR := hide (HR.out.at bA)
  clear bA G0
  unfold pgV
  go_enter Tryz.func48, Tryz.ntmps48
  go_wp2_with fail
  generalize (w.alloc (.cells #[.slice a1 x.k.length c1] 39)) = W at *
  refine (kindI _ x _ c HR.out HG.out).mono ?_
  rintro e w1 ⟨b1, p1, p2, p3, rfl, r1, r2, r3⟩
  rw [HK.out] at r1 r2 r3 ⊢
  have HRF := hide (r2.at b1)
  replace HB := hide (HB.out.trans (b1.mono HB.out.size))
  obtain ⟨f1, g1, e1, _⟩ := r1.shape
  obtain ⟨f2, g2, e2, _⟩ := r2.shape
  obtain ⟨f3, g3, e3, _⟩ := r3.shape
  subst e1 e2 e3
  clear b1 r1 r2 r3 HR
  obtain ⟨fs, hfs⟩ : ∃ fs, K.f = fs := ⟨_, rfl⟩
  unfold kdV
  rw [hfs] at HRF hflK ⊢
  have HFS := hide hfs
  clear hfs
  have hsB := HB.out.size
  have hfd : ∀ w : World, (Instr.field 81 (.agg #[.string K.n, .int .i64 K.s, .slice f1 K.p.length g1, .slice f2 fs.length g2, .slice f3 K.m.length g3]) 3).run Tryz.prog w = .ok (.slice f2 fs.length g2) w := fun _ => by kernel_rfl
  go_wp2
  clear hfd
  go_loopw [5, 13] (fun r i wr => ∃ xs : List Vl, xs.length ≤ fs.length ∧ Hid (xs = (fs.take xs.length).map frv) ∧ i = .int .i64 (xs.length : Int) ∧ ∃ (va : Option Addr) (vc : Nat), r = .slice va xs.length vc ∧ Hid (OwnD wr w1.heap.size wr.heap.size (vls xs) (.slice va xs.length vc)) ∧ Hid (Below w.heap.size w wr) ∧ Hid (Below w1.heap.size w1 wr)) (fun _ i _ => fs.length - (intOf i).toNat)
  case atStart => exact ⟨[], Nat.zero_le _, hide (by simp), rfl, none, 0, rfl, hide (ownD_nil _ _ _ _ _), HB, hide (Below.refl _ _)⟩
  case round =>
    obtain ⟨xs, hxl, HXS, rfl, va, vc, rfl, HOr, HBr, HLr⟩ := hrel
    by_cases hft : xs.length < fs.length
    · obtain ⟨_, _, ef, _, _, hcf⟩ := field_at (HRF.out.at HLr.out)
      cases ef
      obtain ⟨b2, o2, rfl, hbb2, hcell2⟩ := hcf (by omega)
      obtain ⟨f0, f1'⟩ := hcell2 xs.length hft
      have HXS2 : Hid (xs ++ [frv (fs.getD xs.length default)] = (fs.take (xs ++ [frv (fs.getD xs.length default)]).length).map frv) := hide (by
        rw [List.length_append]
        show _ = (fs.take (xs.length + 1)).map frv
        rw [take_snocM frv hft, ← HXS.out])
      clear hcell2 hcf
      obtain ⟨d, hd⟩ : ∃ d, fs.getD xs.length default = d := ⟨_, rfl⟩
      rw [hd] at f0 f1' HXS2
      clear hd
      go_upto_region 5 with fail
      clear f0 f1'
      have bA := (Below.refl wr.heap.size wr).alloc (Nat.le_refl _) (.cells #[.string d.n, .string d.t] 83)
      have EF := hide (heap_alloc_new wr (.cells #[.string d.n, .string d.t] 83))
      have HBw := hide bA
      clear bA hbb2
      obtain ⟨gf, hgf⟩ : ∃ g, wr.heap.size = g := ⟨_, rfl⟩
      rw [hgf] at EF ⊢
      have HGF := hide hgf
      clear hgf
      generalize wr.alloc (.cells #[.string d.n, .string d.t] 83) = W2 at *
      have f0 := (box_of EF.out).1 0 _ rfl
      have f1' := (box_of EF.out).1 1 _ rfl
      go_wp2_with fail
      refine (isRefI _ d).mono ?_
      rintro e W3 ⟨rfl, b9⟩
      replace HBw := hide (HBw.out.trans (b9.mono HBw.out.size))
      clear b9 f0 f1' EF
      have hfv : frv d = ⟨(frv d).r, 0⟩ := rfl
      rw [hfv] at HXS2
      clear hfv
      generalize (frv d).r = bb at *
      have HXa := hide ((Below.refl W3.heap.size W3).alloc (Nat.le_refl _) (.cells #[.bool bb, .int .i64 0] 85))
      have hsX := HXa.out.size
      have HXb := hide (HBw.out.trans (HXa.out.mono HBw.out.size))
      have hgw := HBr.out.size
      have hw1 := HLr.out.size
      have hww := HBw.out.size
      have hown := hide (OwnDL.cons (HOr.out.below HXb.out) (ownDL_nil _ wr.heap.size wr.heap.size) hw1 (Nat.le_refl _))
      have hbx := hide (box_of (heap_alloc_new W3 (.cells #[.bool bb, .int .i64 0] 85))).1
      have HBx := hide (HBr.out.trans (HXb.out.mono hgw))
      have HLx := hide (HLr.out.trans (HXb.out.mono hw1))
      clear HXS
      go_wp2_with (first
        | (at_builtin; refine appL rfl _ _ 52 rfl w1.heap.size wr.heap.size W3.heap.size 85 i0 (.agg #[.bool false, .int .i64 0]) 2 16 Tryz.underlying52 HI.out.1 HI.out.2.1 HI.out.2.2.1 HI.out.2.2.2 rfl (by decide) (.slice va xs.length vc) xs.length (xs.flatMap vlD) [] [] [] [] rfl hown.out rfl _ _ [.bool bb, .int .i64 0] (vlD ⟨bb, 0⟩) rfl hbx.out (ownDL_vals _ _ _ [.bool bb, .int .i64 0]) rfl (by simp [Value.oneCell']) (by omega) (by decide) (by omega) (by omega) (by omega) ?_; intro g9 vc9 w9 o9 gr9 hq9; have HB9 := hide (HBx.out.grown gr9 HBx.out.size (fun q hq => Nat.le_trans hsB (hq9 q hq).1)); have HL9 := hide (HLx.out.grown gr9 HLx.out.size (fun q hq => (hq9 q hq).1)); have HO9 := hide (OwnDL.mid (c1 := []) (v1 := []) o9 rfl); clear o9 gr9 hq9)
        | fail)
      refine ⟨⟨xs ++ [⟨bb, 0⟩], ?_, HXS2, ?_, some ⟨g9, 0, none⟩, vc9, ?_, hide ?_, HB9, HL9⟩, ?_⟩
      · rw [List.length_append]; simp only [List.length_cons, List.length_nil]; omega
      · rw [List.length_append]; simp only [List.length_cons, List.length_nil]; go_num
      · rw [List.length_append]; rfl
      · rw [vls_snoc, List.length_append]
        exact HO9.out
      · simp [intOf]; omega
    · have hxe : xs = fs.map frv := by
        have h1 := HXS.out
        have h2 : xs.length = fs.length := by omega
        rw [h2, List.take_length] at h1
        exact h1
      have HXE := hide hxe
      clear hxe
      go_wp2
      go_ret
      refine ⟨_, rfl, ?_, HBr.out⟩
      rw [HFS.out, ← HXE.out]
      exact HOr.out.mono hsB
end Go.Proofs.YtelpdlhgjepgbaaGreat
