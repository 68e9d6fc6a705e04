/-
  Joined: InB, MemF.
-/
import Derived.Test.YtelpdlhgjepgbaaGreatRows
import Derived.Test.YtelpdlhgjepgbaaGreatJ1
import Derived.Test.YtelpdlhgjepgbaaGreatJ17
import Derived.Test.YtelpdlhgjepgbaaGreatJ6
import Derived.Test.YtelpdlhgjepgbaaGreatJ23
/-
  Whether a number lies from one to another, asked by the program and by its model.
-/
namespace Go.Proofs.YtelpdlhgjepgbaaGreat
open Go.RowKit

/-- n lies from a to b. -/
def inB (n a b : Int) : Bool := decide (a ≤ n ∧ n ≤ b)
theorem inB_yes {n a b : Int} (h : inB n a b = true) : a ≤ n ∧ n ≤ b := of_decide_eq_true h
theorem inB_no {n a b : Int} (h : inB n a b = false) : n < a ∨ b < n := by
  have := of_decide_eq_false h
  omega
theorem inB_mk {n a b : Int} (h1 : a ≤ n) (h2 : n ≤ b) : inB n a b = true := decide_eq_true ⟨h1, h2⟩
theorem inB_not {n a b : Int} (h : n < a ∨ b < n) : inB n a b = false := decide_eq_false (by omega)

theorem inYes (x lo hi : Int) (w : World) (h1 : lo ≤ x) (h2 : x ≤ hi) :
    Calls Tryz.prog 18 #[.int .i64 x, .int .i64 lo, .int .i64 hi] w fun e w' => e = .returned (.bool true) ∧ w' = w := by
  go_enter Tryz.func18, Tryz.ntmps18
  go_wp2
  go_ret
  exact ⟨ret_bool (by simp), rfl⟩

theorem inNo (x lo hi : Int) (w : World) (h : x < lo ∨ hi < x) :
    Calls Tryz.prog 18 #[.int .i64 x, .int .i64 lo, .int .i64 hi] w fun e w' => e = .returned (.bool false) ∧ w' = w := by
  by_cases h1 : lo ≤ x
  · have h2 : hi < x := by omega
    clear h
    go_enter Tryz.func18, Tryz.ntmps18
    go_wp2
    go_ret
    exact ⟨ret_bool (by simp [h2]), rfl⟩
  · clear h
    go_enter Tryz.func18, Tryz.ntmps18
    go_wp2
    go_ret
    exact ⟨ret_bool (by simp), rfl⟩

theorem inSpec (n a b : Int) (w : World) :
    Calls Tryz.prog 18 #[.int .i64 n, .int .i64 a, .int .i64 b] w fun e w' => e = .returned (.bool (inB n a b)) ∧ w' = w := by
  cases h : inB n a b with
  | true => have := inB_yes h; exact inYes n a b w this.1 this.2
  | false => exact inNo n a b w (inB_no h)
theorem inImpl (n a b : Int) (w : World) :
    Calls Tryz.prog 69 #[.int .i64 n, .int .i64 a, .int .i64 b] w fun e w' => e = .returned (.bool (inB n a b)) ∧ w' = w := by
  by_cases h1 : a ≤ n
  · by_cases h2 : n ≤ b
    · rw [inB_mk h1 h2]
      go_enter Tryz.func69, Tryz.ntmps69
      go_wp2
      go_ret
      exact ⟨ret_bool (by simp), rfl⟩
    · rw [inB_not (.inr (by omega))]
      go_enter Tryz.func69, Tryz.ntmps69
      go_wp2
      go_ret
      exact ⟨ret_bool (by simp), rfl⟩
  · rw [inB_not (.inl (by omega))]
    go_enter Tryz.func69, Tryz.ntmps69
    go_wp2
    go_ret
    exact ⟨ret_bool (by simp), rfl⟩
end Go.Proofs.YtelpdlhgjepgbaaGreat
/-
  One memory in the model: what a new object has.
-/
namespace Go.Proofs.YtelpdlhgjepgbaaGreat
open Go.RowKit

def frv (d : Fd) : Vl := ⟨!(d.t.toList == [73]), 0⟩
def freshX (ks : List Kd) (c : Int) : List Vl := if inB c 0 ((ks.length : Int) - 1) = true then (ks.getD c.toNat default).f.map frv else []
theorem take_snocM {α β : Type} [Inhabited α] (f : α → β) {xs : List α} {j : Nat} (h : j < xs.length) : (xs.take (j + 1)).map f = (xs.take j).map f ++ [f (xs.getD j default)] := by
  rw [List.take_add_one, List.getElem?_eq_getElem h, List.getD_eq_getElem?_getD, List.getElem?_eq_getElem h, List.map_append]
  rfl
theorem vls_snoc (xs : List Vl) (y : Vl) : vls (xs ++ [y]) = .row 85 2 (xs.length + 1) (xs.flatMap vlD ++ vlD y) := by
  unfold vls
  rw [List.length_append, List.flatMap_append]
  simp
set_option maxRecDepth 100000 in
set_option maxHeartbeats 8000000 in
theorem freshS (w : World) (x : Pg) (u : Value) (c : Int) (h : Reads w w.heap.size (kins x.k) u) (hg : kinsG x.k) :
    Calls Tryz.prog 21 #[pgV x u, .int .i64 c] w fun e w' => rowP w w' (vls (freshX x.k c)) e := by
  have HR := hide h
  have hm := hg.1
  have HG := hide hg
  obtain ⟨a1, c1, e1, _⟩ := h.shape
  subst e1
  clear h hg
  obtain ⟨i0, hi, hz0, hz1, hz2⟩ := info_parts Tryz.infoVl
  have HI := hide (And.intro hi (And.intro hz0 (And.intro hz1 hz2)))
  clear hi hz0 hz1 hz2
  have HV0 : Hid (inB c 0 ((x.k.length : Int) - 1) = false → freshX x.k c = []) := hide (fun h => by unfold freshX; rw [if_neg (by rw [h]; simp)])
  have HV1 : Hid (∀ j : Nat, c = (j : Int) → inB c 0 ((x.k.length : Int) - 1) = true → freshX x.k c = (x.k.getD j default).f.map frv) := hide (fun j hj h => by unfold freshX; rw [if_pos h, hj, Int.toNat_natCast])
  obtain ⟨V, hV⟩ : ∃ V, freshX x.k c = V := ⟨_, rfl⟩
  rw [hV] at HV0 HV1 ⊢
  clear hV
  have bA := ((Below.refl w.heap.size w).alloc (Nat.le_refl _) (.cells #[.slice a1 x.k.length c1] 39))
  have G0 := heap_alloc_new w (.cells #[.slice a1 x.k.length c1] 39)
  have E0 := hide (G0)
  have HB := hide bA
  have HR0 := HR
  replace HR := hide (HR.out.at bA)
  clear bA G0
  have hw : IntKind.i64.wrap ((x.k.length : Int) - 1) = (x.k.length : Int) - 1 := by rw [IntKind.wrap_i64]; omega
  unfold pgV
  go_enter Tryz.func21, Tryz.ntmps21
  go_upto_region 1 with fail
  generalize (w.alloc (.cells #[.slice a1 x.k.length c1] 39)) = W at *
  have HO := hide (ownD_zero W 85 2)
  have bX := (Below.refl W.heap.size W).alloc (Nat.le_refl _) (.cells #[] 85)
  have E0X := hide ((bX.block _ (Array.getElem?_eq_some_iff.1 E0.out).1).trans E0.out)
  have HBX := hide (HB.out.trans (bX.mono HB.out.size))
  have HRX := hide (HR.out.at bX)
  have hzW := HB.out.size
  have hbX := bX.size
  clear bX
  have q0 := (box_of E0X.out).1 0 _ rfl
  go_wp2_with fail
  refine (inSpec _ _ _ _).mono ?_
  rintro e w2 ⟨rfl, hw2⟩
  rw [hw2]
  clear hw2 w2
  obtain ⟨gA, hgA⟩ : ∃ g, W.heap.size = g := ⟨_, rfl⟩
  rw [hgA] at HO hzW hbX ⊢
  have HGA := hide hgA
  clear hgA
  generalize W.alloc (.cells #[] 85) = W1 at *
  cases ci : inB c 0 ((x.k.length : Int) - 1) with
  | false =>
    have HF := hide (HV0.out ci)
    clear HV0 HV1
    go_wp2
    go_ret
    refine ⟨_, rfl, ?_, HBX.out⟩
    rw [HF.out]
    exact (HO.out.mono hzW)
  | true =>
    have hin := inB_yes ci
    obtain ⟨j, hj⟩ : ∃ j : Nat, c = (j : Int) := ⟨c.toNat, by omega⟩
    have HF := hide (HV1.out j hj ci)
    subst hj
    have hlt : j < x.k.length := by omega
    have hltI : (j : Int) < (x.k.length : Int) := by omega
    clear HV0 HV1 hin ci
    go_wp2
    go_loopw [5, 6] (fun r i wr => ∃ xs : List Vl, xs.length ≤ (x.k.getD j default).f.length ∧ Hid (xs = ((x.k.getD j default).f.take xs.length).map frv) ∧ i = .int .i64 (xs.length : Int) ∧ ∃ (va : Option Addr) (vc : Nat), r = .slice va xs.length vc ∧ Hid (OwnD wr gA wr.heap.size (vls xs) (.slice va xs.length vc)) ∧ Hid (Below gA W1 wr)) (fun _ i _ => (x.k.getD j default).f.length - (intOf i).toNat)
    case atStart => exact ⟨[], Nat.zero_le _, hide (by simp), rfl, _, _, rfl, HO, hide (Below.refl _ _)⟩
    case round =>
      obtain ⟨xs, hxl, HXS, rfl, va, vc, rfl, HOr, HL⟩ := hrel
      have E0r := hide ((HL.out.block _ (by have := (Array.getElem?_eq_some_iff.1 E0.out).1; have := HGA.out; omega)).trans E0X.out)
      have HBr := hide (HBX.out.trans (HL.out.mono hzW))
      have HRr : Hid (Reads wr wr.heap.size (kins x.k) (.slice a1 x.k.length c1)) := hide ((HR0.out).at HBr.out)
      have q0 := (box_of E0r.out).1 0 _ rfl
      obtain ⟨a', cap', ea, hcap, _, hc⟩ := kind_at HRr.out
      cases ea
      obtain ⟨b, o, rfl, hbb, hcell⟩ := hc (by omega)
      obtain ⟨pv1, pv2, pv3, d0, d1, d2, d3, d4, r1, r2, r3⟩ := hcell j hlt
      have hfl := (getD_mem HG.out.2 j hlt).f.1
      clear hcell hc d0 d1 d2 d4 r1 r3
      obtain ⟨fs, hfs⟩ : ∃ fs, (x.k.getD j default).f = fs := ⟨_, rfl⟩
      rw [hfs] at r2 hfl hxl HXS HF ⊢
      clear hfs
      obtain ⟨fa, fc, fe, _⟩ := r2.shape
      subst fe
      by_cases hft : xs.length < fs.length
      · obtain ⟨_, _, ef, _, _, hcf⟩ := field_at r2
        cases ef
        obtain ⟨b2, o2, rfl, hbb2, hcell2⟩ := hcf (by omega)
        obtain ⟨f0, f1⟩ := hcell2 xs.length hft
        have HXS2 : Hid (xs ++ [frv (fs.getD xs.length default)] = (fs.take (xs ++ [frv (fs.getD xs.length default)]).length).map frv) := hide (by
          rw [List.length_append]
          show _ = (fs.take (xs.length + 1)).map frv
          rw [take_snocM frv hft, ← HXS.out])
        clear hcell2 hcf f0
        obtain ⟨d, hd⟩ : ∃ d, fs.getD xs.length default = d := ⟨_, rfl⟩
        rw [hd] at f1 HXS2
        clear hd
        obtain ⟨bb, hbv⟩ : ∃ bb, (d.t.toList == [73]) = bb := ⟨_, rfl⟩
        have hfv : frv d = ⟨!bb, 0⟩ := by unfold frv; rw [hbv]
        rw [hfv] at HXS2
        have HXa := hide ((Below.refl wr.heap.size wr).alloc (Nat.le_refl _) (.cells #[.bool (!bb), .int .i64 0] 85))
        have hsX := HXa.out.size
        have hown := hide (OwnDL.cons (HOr.out.below HXa.out) (ownDL_nil _ wr.heap.size wr.heap.size) (Nat.le_trans hbX HL.out.size) (Nat.le_refl _))
        have hbx := hide (box_of (heap_alloc_new wr (.cells #[.bool (!bb), .int .i64 0] 85))).1
        have hgw : gA ≤ wr.heap.size := Nat.le_trans hbX HL.out.size
        have HLx := hide (HL.out.trans (HXa.out.mono hgw))
        clear HXS
        go_wp2_with (first
          | (at_builtin; refine appL rfl _ _ 52 rfl gA wr.heap.size wr.heap.size 85 i0 (.agg #[.bool false, .int .i64 0]) 2 16 Tryz.underlying52 HI.out.1 HI.out.2.1 HI.out.2.2.1 HI.out.2.2.2 rfl (by decide) (.slice va xs.length vc) xs.length (xs.flatMap vlD) [] [] [] [] rfl hown.out rfl _ _ [.bool (!bb), .int .i64 0] (vlD ⟨!bb, 0⟩) rfl hbx.out (ownDL_vals _ _ _ [.bool (!bb), .int .i64 0]) rfl (by simp [Value.oneCell']) (by omega) (by decide) (Nat.le_refl _) hgw hsX ?_; intro g9 vc9 w9 o9 gr9 hq9; have HB9 := hide (HLx.out.grown gr9 (Nat.le_trans hgw hsX) (fun q hq => (hq9 q hq).1)); have HO9 := hide (OwnDL.mid (c1 := []) (v1 := []) o9 rfl); clear o9 gr9 hq9)
          | fail)
        refine ⟨⟨xs ++ [⟨!bb, 0⟩], ?_, HXS2, ?_, some ⟨g9, 0, none⟩, vc9, ?_, hide ?_, HB9⟩, ?_⟩
        · rw [List.length_append]; simp only [List.length_cons, List.length_nil]; omega
        · rw [List.length_append]; simp only [List.length_cons, List.length_nil]; go_num
        · rw [List.length_append]; rfl
        · rw [vls_snoc, List.length_append]
          exact HO9.out
        · simp [intOf]; omega
      · have hxe : xs = V := by
          have h1 := HXS.out
          have h2 : xs.length = fs.length := by omega
          rw [h2, List.take_length] at h1
          rw [h1, HF.out]
        have HXE := hide hxe
        clear hxe
        go_wp2
        go_ret
        refine ⟨_, rfl, ?_, HBr.out⟩
        rw [← HXE.out]
        exact HOr.out.mono hzW
end Go.Proofs.YtelpdlhgjepgbaaGreat
