/-
  Copies at a node: what is right of them; the model's fields of a class.
-/
import Derived.Test.YtofnpgheppgcaaaJ17
import Derived.Test.YtofnpgheppgcaaaJ26
import Derived.Test.YtofnpgheppgcaaaJ27
import Derived.Test.YtofnpgheppgcaaaJ21
import Derived.Deep.RegionHeld
namespace Go.Proofs.Ytofnpgheppgcaaa
open Go.RowKit

def fitV (f : List Vl) (fs : List Fd) (i : Nat) : Bool := !((f.getD i default).r == ((fs.getD i default).t.toList == [73]))
theorem rangeNo {p : Nat → Bool} {n j : Nat} (hj : j < n) (h : p j = false) : (List.range n).all p = false := by
  cases c : (List.range n).all p with
  | false => rfl
  | true =>
    rw [List.all_eq_true] at c
    have := c j (List.mem_range.2 hj)
    rw [h] at this
    cases this
theorem rangeYes {p : Nat → Bool} {n : Nat} (h : ∀ i, i < n → p i = true) : (List.range n).all p = true := by
  rw [List.all_eq_true]
  exact fun i hi => h i (List.mem_range.1 hi)
theorem asc_iff {α : Type} [Inhabited α] (f : α → Int) : ∀ (xs : List α) (l : Int), ascB (xs.map f) l = true ↔ (∀ j, j < xs.length → l ≤ f (xs.getD j default) ∧ f (xs.getD j default) ≤ 1000000) ∧ (∀ j, j + 1 < xs.length → f (xs.getD j default) < f (xs.getD (j + 1) default))
  | [], l => ⟨fun _ => ⟨fun j hj => by simp at hj, fun j hj => by simp at hj⟩, fun _ => rfl⟩
  | x :: xs, l => by
    rw [List.map_cons]
    unfold ascB
    rw [Bool.and_eq_true, asc_iff f xs (f x + 1)]
    constructor
    · rintro ⟨h0, h1, h2⟩
      have hin := inB_yes h0
      refine ⟨fun j hj => ?_, fun j hj => ?_⟩
      · cases j with
        | zero => exact hin
        | succ j => rw [List.getD_cons_succ]; have := h1 j (by simpa using hj); omega
      · cases j with
        | zero => rw [List.getD_cons_zero, List.getD_cons_succ]; have := h1 0 (by simpa using hj); omega
        | succ j => rw [List.getD_cons_succ, List.getD_cons_succ]; exact h2 j (by simpa using hj)
    · rintro ⟨h1, h2⟩
      have h0 := h1 0 (by simp)
      rw [List.getD_cons_zero] at h0
      have h3 : ∀ j, j + 1 < xs.length → f (xs.getD j default) < f (xs.getD (j + 1) default) := fun j hj => by
        have := h2 (j + 1) (by simpa using hj)
        rwa [List.getD_cons_succ, List.getD_cons_succ] at this
      refine ⟨inB_mk h0.1 h0.2, fun j hj => ⟨?_, ?_⟩, h3⟩
      · induction j with
        | zero => have := h2 0 (by simpa using hj); rw [List.getD_cons_zero, List.getD_cons_succ] at this; omega
        | succ j ih => have := ih (by omega); have := h3 j hj; omega
      · have := h1 (j + 1) (by simpa using hj); rw [List.getD_cons_succ] at this; exact this.2
theorem asc_lt {α : Type} [Inhabited α] {f : α → Int} {xs : List α} (h : ∀ j, j + 1 < xs.length → f (xs.getD j default) < f (xs.getD (j + 1) default)) : ∀ i j, i < j → j < xs.length → f (xs.getD i default) < f (xs.getD j default) := fun i j hij hj => by
  obtain ⟨d, rfl⟩ : ∃ d, j = i + 1 + d := ⟨j - i - 1, by omega⟩
  clear hij
  induction d with
  | zero => exact h i hj
  | succ d ih => have := ih (by omega); have := h (i + 1 + d) (by omega); rw [show i + 1 + (d + 1) = i + 1 + d + 1 from rfl]; omega
theorem all_getD {α : Type} [Inhabited α] {xs : List α} {p : α → Bool} : xs.all p = true ↔ ∀ j, j < xs.length → p (xs.getD j default) = true := by
  rw [List.all_eq_true]
  constructor
  · exact fun h j hj => h _ (by rw [List.getD_eq_getElem?_getD, List.getElem?_eq_getElem hj]; exact List.getElem_mem hj)
  · intro h y hy
    obtain ⟨i, hi, rfl⟩ := List.mem_iff_getElem.1 hy
    have := h i hi
    rwa [List.getD_eq_getElem?_getD, List.getElem?_eq_getElem hi] at this
theorem range_all {n : Nat} {p : Nat → Bool} : (List.range n).all p = true ↔ ∀ i, i < n → p i = true := by
  rw [List.all_eq_true]
  exact ⟨fun h i hi => h i (List.mem_range.2 hi), fun h i hi => h i (List.mem_range.1 hi)⟩
theorem fits_eq (fs : List Fd) (vs : List Vl) : fitsT fs vs = (decide (vs.length = fs.length) && (vs.all vlB && (List.range vs.length).all (fitV vs fs))) := by
  rw [Bool.eq_iff_iff]
  unfold fitsT
  simp only [Bool.and_eq_true, decide_eq_true_eq, range_all]
  rw [all_getD (xs := vs)]
  constructor
  · rintro ⟨h1, h2⟩
    refine ⟨h1.symm, fun j hj => ?_, fun j hj => ?_⟩
    · have := h2 j (by omega)
      unfold fitT at this
      rw [Bool.and_eq_true] at this
      exact this.1
    · have := h2 j (by omega)
      unfold fitT frv at this
      rw [Bool.and_eq_true] at this
      unfold fitV
      have h9 := this.2
      dsimp only at h9
      revert h9
      generalize (vs.getD j default).r = a
      generalize ((fs.getD j default).t.toList == [73]) = b
      cases a <;> cases b <;> simp
  · rintro ⟨h1, h2, h3⟩
    refine ⟨h1.symm, fun j hj => ?_⟩
    unfold fitT frv
    rw [Bool.and_eq_true]
    refine ⟨h2 j (by omega), ?_⟩
    have h9 := h3 j (by omega)
    unfold fitV at h9
    dsimp only
    revert h9
    generalize (vs.getD j default).r = a
    generalize ((fs.getD j default).t.toList == [73]) = b
    cases a <;> cases b <;> simp

def fldB (ks : List Kd) (c : Int) (f : List Vl) : Bool := inB c 0 ((ks.length : Int) - 1) && (decide (f.length = (ks.getD c.toNat default).f.length) && (f.all vlB && (List.range f.length).all (fitV f (ks.getD c.toNat default).f)))
theorem fldB_eq (ks : List Kd) (c : Int) (f : List Vl) : fldB ks c f = (inB c 0 ((ks.length : Int) - 1) && fitsT (ks.getD c.toNat default).f f) := by
  unfold fldB
  rw [fits_eq]
/-- What is right of the j-th copy. -/
def cpRt (ks : List Kd) (y : Cpy) : Bool := inB y.n 0 16777215 && (fldB ks y.c y.f && (!dirtB y || fldB ks y.c y.t))
def cpAt (ks : List Kd) (xs : List Cpy) (j : Nat) : Bool := inB (xs.getD j default).i 1 1000000 && (!(decide (0 < j) && decide ((xs.getD j default).i ≤ (xs.getD (j - 1) default).i)) && cpRt ks (xs.getD j default))
def csM (ks : List Kd) (xs : List Cpy) : Bool := (List.range xs.length).all (cpAt ks xs)
def csB (ks : List Kd) (xs : List Cpy) : Bool := ascB (xs.map (·.i)) 1 && xs.all (cpRt ks)
theorem csM_eq (ks : List Kd) (xs : List Cpy) : csM ks xs = csB ks xs := by
  rw [Bool.eq_iff_iff]
  unfold csM csB
  rw [range_all, Bool.and_eq_true, asc_iff, all_getD]
  constructor
  · intro h
    have h1 : ∀ j, j < xs.length → inB (xs.getD j default).i 1 1000000 = true ∧ cpRt ks (xs.getD j default) = true := fun j hj => by
      have := h j hj
      unfold cpAt at this
      simp only [Bool.and_eq_true] at this
      exact ⟨this.1, this.2.2⟩
    have h2 : ∀ j, j + 1 < xs.length → (xs.getD j default).i < (xs.getD (j + 1) default).i := fun j hj => by
      have := h (j + 1) hj
      unfold cpAt at this
      simp only [Bool.and_eq_true, Nat.add_sub_cancel] at this
      have h3 := this.2.1
      rw [decide_eq_true (Nat.succ_pos j), Bool.true_and] at h3
      by_cases h4 : (xs.getD (j + 1) default).i ≤ (xs.getD j default).i
      · rw [decide_eq_true h4] at h3
        simp at h3
      · omega
    exact ⟨⟨fun j hj => inB_yes (h1 j hj).1, h2⟩, fun j hj => (h1 j hj).2⟩
  · rintro ⟨⟨h1, h2⟩, h3⟩ j hj
    unfold cpAt
    rw [inB_mk (h1 j hj).1 (h1 j hj).2, h3 j hj, Bool.true_and, Bool.and_true]
    cases j with
    | zero => rfl
    | succ j =>
      have := h2 j hj
      rw [Nat.add_sub_cancel, decide_eq_false (p := (xs.getD (j + 1) default).i ≤ (xs.getD j default).i) (by omega), Bool.and_false]
      rfl
set_option maxRecDepth 100000 in
set_option maxHeartbeats 8000000 in
theorem fieldsS (w : World) (x : Pg) (u : Value) (c : Int) (f : List Vl) (v1 : Value) (h : Reads w w.heap.size (kins x.k) u) (h1 : Reads w w.heap.size (vls f) v1) (hg : kinsG x.k) (hy : f.length ≤ 1048576) :
    Calls Try.prog 40 #[pgV x u, .int .i64 c, v1] w fun e w' => e = .returned (.bool (fldB x.k c f)) ∧ Below w.heap.size w w' := by
  have HR := hide h
  have HF1 := hide h1
  have hm := hg.1
  have HG := hide hg
  obtain ⟨a1, c1, e1, _⟩ := h.shape
  obtain ⟨a2, c2, e2, _⟩ := h1.shape
  subst e1 e2
  clear h h1 hg
  have EX : fldB x.k c f = (inB c 0 ((x.k.length : Int) - 1) && (decide (f.length = (x.k.getD c.toNat default).f.length) && (f.all vlB && (List.range f.length).all (fitV f (x.k.getD c.toNat default).f)))) := rfl
  generalize fldB x.k c f = V at *
  have bA := ((Below.refl w.heap.size w).alloc (Nat.le_refl _) (.cells #[.slice a1 x.k.length c1] 31))
  have E0 := hide (heap_alloc_new w (.cells #[.slice a1 x.k.length c1] 31))
  have HB := hide bA
  replace HR := hide (HR.out.at bA)
  replace HF1 := hide (HF1.out.at bA)
  clear bA
  have hw : IntKind.i64.wrap ((x.k.length : Int) - 1) = (x.k.length : Int) - 1 := by rw [IntKind.wrap_i64]; omega
  unfold pgV
  go_enter Try.func40, Try.ntmps40
  go_upto_region 1 with fail
  generalize (w.alloc (.cells #[.slice a1 x.k.length c1] 31)) = W at *
  have q0 := (box_of E0.out).1 0 _ rfl
  go_wp2_with fail
  refine (inSpec _ _ _ _).mono ?_
  rintro e w2 ⟨rfl, hw2⟩
  rw [hw2]
  clear hw2 w2
  cases k1 : inB c 0 ((x.k.length : Int) - 1) with
  | false =>
    have HF : Hid (V = false) := hide (EX.trans (by rw [k1]; rfl))
    clear EX
    go_wp2
    go_ret
    exact ⟨by rw [HF.out]; rfl, HB.out⟩
  | true =>
    rw [k1, Bool.true_and] at EX
    have hin := inB_yes k1
    obtain ⟨j, hj⟩ : ∃ j : Nat, c = (j : Int) := ⟨c.toNat, by omega⟩
    subst hj
    have hlt : j < x.k.length := by omega
    have hltI : (j : Int) < (x.k.length : Int) := by omega
    rw [Int.toNat_natCast] at EX
    obtain ⟨a', cap', ea, hcap, _, hc⟩ := kind_at HR.out
    cases ea
    obtain ⟨b, o, rfl, hbb, hcell⟩ := hc (by omega)
    obtain ⟨pv1, pv2, pv3, d0, d1, d2, d3, d4, r1, r2, r3⟩ := hcell j hlt
    have hfl := (getD_mem HG.out.2 j hlt).f.1
    clear hcell hc d0 d1 d2 d4 r1 r3
    obtain ⟨fs, hfs⟩ : ∃ fs, (x.k.getD j default).f = fs := ⟨_, rfl⟩
    rw [hfs] at r2 hfl EX
    clear hfs
    obtain ⟨fa, fc, fe, _⟩ := r2.shape
    subst fe
    by_cases k2 : f.length = fs.length
    · have k2' : ((f.length : Int) != (fs.length : Int)) = false := by
        rw [k2]
        simp
      rw [decide_eq_true k2, Bool.true_and] at EX
      replace k2 := hide k2
      go_wp2_with fail
      refine (valsS _ f _ HF1.out hy).mono ?_
      rintro e Z3 ⟨rfl, b9⟩
      replace E0 := hide ((b9.block _ (Array.getElem?_eq_some_iff.1 E0.out).1).trans E0.out)
      replace HF1 := hide (HF1.out.at b9)
      replace HB := hide (HB.out.trans (b9.mono HB.out.size))
      replace d3 := (b9.cell (p := ⟨b, o + j * 5 + 3, none⟩) hbb).trans d3
      have R2 := hide (r2.at b9)
      have hbZ := Nat.lt_of_lt_of_le hbb b9.size
      clear r2 b9 q0
      cases k3 : f.all vlB with
      | false =>
        have HF : Hid (V = false) := hide (EX.trans (by rw [k3]; rfl))
        clear EX
        go_wp2
        go_ret
        exact ⟨by rw [HF.out]; rfl, HB.out⟩
      | true =>
        rw [k3, Bool.true_and] at EX
        replace EX := hide EX
        go_wp2
        go_loopw [7] (fun i wr => ∃ i' : Nat, i' ≤ f.length ∧ i = .int .i64 (i' : Int) ∧ Hid (Below Z3.heap.size Z3 wr) ∧ Hid (∀ q, q < i' → fitV f fs q = true)) (fun i _ => f.length - (intOf i).toNat)
        case atStart => exact ⟨0, Nat.zero_le _, rfl, hide (Below.refl _ _), hide (fun q hq => by omega)⟩
        case round =>
          obtain ⟨i, hi, rfl, HL, HQ⟩ := hrel
          have E0r := hide ((HL.out.block _ (Array.getElem?_eq_some_iff.1 E0.out).1).trans E0.out)
          have HBr := hide (HB.out.trans (HL.out.mono HB.out.size))
          by_cases hil : i < f.length
          · have hil2 : i < fs.length := by have := k2.out; omega
            have hilI : (i : Int) < (f.length : Int) := by omega
            have hilF : (i : Int) < (fs.length : Int) := by omega
            obtain ⟨_, _, ev, _, _, hcv⟩ := val_at (HF1.out.at HL.out)
            cases ev
            obtain ⟨vb, vo, rfl, hvb, hcellv⟩ := hcv (by omega)
            obtain ⟨v0, _⟩ := hcellv i hil
            obtain ⟨_, _, ef, _, _, hcf⟩ := field_at (R2.out.at HL.out)
            cases ef
            obtain ⟨fb, fo, rfl, hfb, hcellf⟩ := hcf (by omega)
            obtain ⟨_, f1⟩ := hcellf i hil2
            have d3r := (HL.out.cell (p := ⟨b, o + j * 5 + 3, none⟩) hbZ).trans d3
            have hbw := Nat.lt_of_lt_of_le hbZ HL.out.size
            have HV : Hid (fitV f fs i = !((f.getD i default).r == ((fs.getD i default).t.toList == [73]))) := hide rfl
            clear hcellv hcellf hcv hcf
            obtain ⟨rr, hrr⟩ : ∃ r, (f.getD i default).r = r := ⟨_, rfl⟩
            obtain ⟨tt, htt⟩ : ∃ t, (fs.getD i default).t = t := ⟨_, rfl⟩
            rw [hrr] at v0
            rw [htt] at f1
            rw [hrr, htt] at HV
            clear hrr htt
            obtain ⟨bb, hbv⟩ : ∃ bb, (tt.toList == [73]) = bb := ⟨_, rfl⟩
            rw [hbv] at HV
            have hbv2 := hbv
            go_upto_region 6 with fail
            have HCL : Hid (∀ w', Below wr.heap.size wr w' → w'.cell? ⟨w.heap.size, 0, none⟩ = some (.slice (some ⟨b, o, none⟩) x.k.length c1) ∧ w'.cell? ⟨b, o + j * 5 + 3, none⟩ = some (.slice (some ⟨fb, fo, none⟩) fs.length fc) ∧ w'.cell? ⟨vb, vo + i * 2, none⟩ = some (.bool rr) ∧ w'.cell? ⟨fb, fo + i * 2 + 1, none⟩ = some (.string tt)) := hide (fun w' hb => ⟨(box_of ((hb.block _ (Array.getElem?_eq_some_iff.1 E0r.out).1).trans E0r.out)).1 0 _ rfl, (hb.cell (p := ⟨b, o + j * 5 + 3, none⟩) hbw).trans d3r, (hb.cell (p := ⟨vb, vo + i * 2, none⟩) hvb).trans v0, (hb.cell (p := ⟨fb, fo + i * 2 + 1, none⟩) hfb).trans f1⟩)
            have HW := hide (Below.refl wr.heap.size wr).drew
            refine wp_region_held_drew (S := fun w' => w'.cell? ⟨w.heap.size, 0, none⟩ = some (.slice (some ⟨b, o, none⟩) x.k.length c1) ∧ w'.cell? ⟨b, o + j * 5 + 3, none⟩ = some (.slice (some ⟨fb, fo, none⟩) fs.length fc) ∧ w'.cell? ⟨vb, vo + i * 2, none⟩ = some (.bool rr) ∧ w'.cell? ⟨fb, fo + i * 2 + 1, none⟩ = some (.string tt)) (by kernel_rfl) (HCL.out _ HW.out) (fun hHeld => ?_)
            generalize wr.drew = Z9 at *
            refine wpAnyH_take (i := 0) (v := ?_) rfl (by kernel_rfl) (by kernel_rfl) (by kernel_rfl) (fun _ _ _ h => h) (Or.inl ⟨by rfl, ?_⟩) (by assumption) ?_
            rotate_left
            · intro w' hSw
              try dsimp only at hSw
              go_simp; try rfl
            simp only [List.getElem_toArray, List.getElem_cons_zero, Act.put, List.setIfInBounds_toArray, List.set_cons_zero, List.set_cons_succ]
            refine wpAnyH_take (i := 1) (v := ?_) rfl (by kernel_rfl) (by kernel_rfl) (by kernel_rfl) (fun _ _ _ h => h) (Or.inl ⟨by rfl, ?_⟩) (by assumption) ?_
            rotate_left
            · intro w' hSw
              try dsimp only at hSw
              go_simp; try rfl
            simp only [List.getElem_toArray, List.getElem_cons_succ, List.getElem_cons_zero, Act.put, List.setIfInBounds_toArray, List.set_cons_zero, List.set_cons_succ]
            refine wpAnyH_take (i := 2) (v := ?_) rfl (by kernel_rfl) (by kernel_rfl) (by kernel_rfl) (fun _ _ _ h => h) (Or.inl ⟨by rfl, ?_⟩) (by assumption) ?_
            rotate_left
            · intro w' hSw
              try dsimp only at hSw
              go_simp; try rfl
            simp only [List.getElem_toArray, List.getElem_cons_succ, List.getElem_cons_zero, Act.put, List.setIfInBounds_toArray, List.set_cons_zero, List.set_cons_succ]
            refine wpAnyH_take (i := 3) (v := ?_) rfl (by kernel_rfl) (by kernel_rfl) (by kernel_rfl) (fun _ _ _ h => h) (Or.inl ⟨by rfl, ?_⟩) (by assumption) ?_
            rotate_left
            · intro w' hSw
              try dsimp only at hSw
              go_simp; try rfl
            simp only [List.getElem_toArray, List.getElem_cons_succ, List.getElem_cons_zero, Act.put, List.setIfInBounds_toArray, List.set_cons_zero, List.set_cons_succ]
            refine wpAnyH_take (i := 4) (v := ?_) rfl (by kernel_rfl) (by kernel_rfl) (by kernel_rfl) (fun _ _ _ h => h) (Or.inl ⟨by rfl, ?_⟩) (by assumption) ?_
            rotate_left
            · intro w' hSw
              try dsimp only at hSw
              go_simp; try rfl
            simp only [List.getElem_toArray, List.getElem_cons_succ, List.getElem_cons_zero, Act.put, List.setIfInBounds_toArray, List.set_cons_zero, List.set_cons_succ]
            refine wpAnyH_take (i := 5) (v := ?_) rfl (by kernel_rfl) (by kernel_rfl) (by kernel_rfl) (fun _ _ _ h => h) (Or.inl ⟨by rfl, ?_⟩) (by assumption) ?_
            rotate_left
            · intro w' hSw
              try dsimp only at hSw
              go_simp; try rfl
            simp only [List.getElem_toArray, List.getElem_cons_succ, List.getElem_cons_zero, Act.put, List.setIfInBounds_toArray, List.set_cons_zero, List.set_cons_succ]
            refine wpAnyH_take (i := 6) (v := ?_) rfl (by kernel_rfl) (by kernel_rfl) (by kernel_rfl) (fun _ _ _ h => h) (Or.inl ⟨by rfl, ?_⟩) (by assumption) ?_
            rotate_left
            · intro w' hSw
              try dsimp only at hSw
              go_simp; try rfl
            simp only [List.getElem_toArray, List.getElem_cons_succ, List.getElem_cons_zero, Act.put, List.setIfInBounds_toArray, List.set_cons_zero, List.set_cons_succ]
            refine wpAnyH_take (i := 7) (v := ?_) rfl (by kernel_rfl) (by kernel_rfl) (by kernel_rfl) (fun _ _ _ h => h) (Or.inl ⟨by rfl, ?_⟩) (by assumption) ?_
            rotate_left
            · intro w' hSw
              try dsimp only at hSw
              go_simp; try rfl
            simp only [List.getElem_toArray, List.getElem_cons_succ, List.getElem_cons_zero, Act.put, List.setIfInBounds_toArray, List.set_cons_zero, List.set_cons_succ]
            refine wpAnyH_take (i := 8) (v := ?_) rfl (by kernel_rfl) (by kernel_rfl) (by kernel_rfl) (fun _ _ _ h => h) (Or.inl ⟨by rfl, ?_⟩) (by assumption) ?_
            rotate_left
            · intro w' hSw
              try dsimp only at hSw
              go_simp; try rfl
            simp only [List.getElem_toArray, List.getElem_cons_succ, List.getElem_cons_zero, Act.put, List.setIfInBounds_toArray, List.set_cons_zero, List.set_cons_succ]
            refine wpAnyH_take (i := 9) (v := ?_) rfl (by kernel_rfl) (by kernel_rfl) (by kernel_rfl) (fun _ _ _ h => h) (Or.inl ⟨by rfl, ?_⟩) (by assumption) ?_
            rotate_left
            · intro w' hSw
              try dsimp only at hSw
              go_simp; try rfl
            simp only [List.getElem_toArray, List.getElem_cons_succ, List.getElem_cons_zero, Act.put, List.setIfInBounds_toArray, List.set_cons_zero, List.set_cons_succ]
            refine wpAnyH_take (i := 10) (v := ?_) rfl (by kernel_rfl) (by kernel_rfl) (by kernel_rfl) (fun _ _ _ h => h) (Or.inl ⟨by rfl, ?_⟩) (by assumption) ?_
            rotate_left
            · intro w' hSw
              try dsimp only at hSw
              go_simp; try rfl
            simp only [List.getElem_toArray, List.getElem_cons_succ, List.getElem_cons_zero, Act.put, List.setIfInBounds_toArray, List.set_cons_zero, List.set_cons_succ]
            refine wpAnyH_take (i := 11) (v := ?_) rfl (by kernel_rfl) (by kernel_rfl) (by kernel_rfl) (fun _ _ _ h => h) (Or.inl ⟨by rfl, ?_⟩) (by assumption) ?_
            rotate_left
            · intro w' hSw
              try dsimp only at hSw
              go_simp; try rfl
            simp only [List.getElem_toArray, List.getElem_cons_succ, List.getElem_cons_zero, Act.put, List.setIfInBounds_toArray, List.set_cons_zero, List.set_cons_succ]
            refine wpAnyH_take (i := 12) (v := ?_) rfl (by kernel_rfl) (by kernel_rfl) (by kernel_rfl) (fun _ _ _ h => h) (Or.inl ⟨by rfl, ?_⟩) (by assumption) ?_
            rotate_left
            · intro w' hSw
              try dsimp only at hSw
              go_simp; try rfl
            simp only [List.getElem_toArray, List.getElem_cons_succ, List.getElem_cons_zero, Act.put, List.setIfInBounds_toArray, List.set_cons_zero, List.set_cons_succ]
            refine wpAnyH_take (i := 13) (v := ?_) rfl (by kernel_rfl) (by kernel_rfl) (by kernel_rfl) (fun _ _ _ h => h) (Or.inl ⟨by rfl, ?_⟩) (by assumption) ?_
            rotate_left
            · intro w' hSw
              try dsimp only at hSw
              go_simp; try rfl
            simp only [List.getElem_toArray, List.getElem_cons_succ, List.getElem_cons_zero, Act.put, List.setIfInBounds_toArray, List.set_cons_zero, List.set_cons_succ]
            refine wpAnyH_take (i := 14) (v := ?_) rfl (by kernel_rfl) (by kernel_rfl) (by kernel_rfl) (fun _ _ _ h => h) (Or.inl ⟨by rfl, ?_⟩) (by assumption) ?_
            rotate_left
            · intro w' hSw
              try dsimp only at hSw
              go_simp; try rfl
            simp only [List.getElem_toArray, List.getElem_cons_succ, List.getElem_cons_zero, Act.put, List.setIfInBounds_toArray, List.set_cons_zero, List.set_cons_succ]
            refine wpAnyH_take (i := 15) (v := ?_) rfl (by kernel_rfl) (by kernel_rfl) (by kernel_rfl) (fun _ _ _ h => h) (Or.inl ⟨by rfl, ?_⟩) (by assumption) ?_
            rotate_left
            · intro w' hSw
              try dsimp only at hSw
              go_simp; try rfl
            simp only [List.getElem_toArray, List.getElem_cons_succ, List.getElem_cons_zero, Act.put, List.setIfInBounds_toArray, List.set_cons_zero, List.set_cons_succ]
            refine wpAnyH_take (i := 16) (v := ?_) rfl (by kernel_rfl) (by kernel_rfl) (by kernel_rfl) (fun _ _ _ h => h) (Or.inl ⟨by rfl, ?_⟩) (by assumption) ?_
            rotate_left
            · intro w' hSw
              try dsimp only at hSw
              go_simp; try rfl
            simp only [List.getElem_toArray, List.getElem_cons_succ, List.getElem_cons_zero, Act.put, List.setIfInBounds_toArray, List.set_cons_zero, List.set_cons_succ]
            refine wpAnyH_done (by kernel_rfl) ?_ _
            clear v0 f1 d3r hHeld
            have HX := hide (HBr.out.trans (HW.out.mono HBr.out.size))
            have HX2 := hide (HL.out.trans (HW.out.mono HL.out.size))
            clear HW HCL
            cases rr <;> cases bb
            · have HF : Hid (V = false) := hide (EX.out.trans (rangeNo hil HV.out))
              go_wp2
              go_ret
              exact ⟨by rw [HF.out]; rfl, HX.out⟩
            · have HQ2 : Hid (∀ q, q < i + 1 → fitV f fs q = true) := hide (fun q hq => by
                rcases Nat.lt_succ_iff_lt_or_eq.1 hq with h | rfl
                · exact HQ.out q h
                · exact HV.out)
              go_wp2
              exact ⟨⟨i + 1, by omega, by go_num, HX2, HQ2⟩, by simp [intOf]; omega⟩
            · have HQ2 : Hid (∀ q, q < i + 1 → fitV f fs q = true) := hide (fun q hq => by
                rcases Nat.lt_succ_iff_lt_or_eq.1 hq with h | rfl
                · exact HQ.out q h
                · exact HV.out)
              go_wp2
              exact ⟨⟨i + 1, by omega, by go_num, HX2, HQ2⟩, by simp [intOf]; omega⟩
            · have HF : Hid (V = false) := hide (EX.out.trans (rangeNo hil HV.out))
              go_wp2
              go_ret
              exact ⟨by rw [HF.out]; rfl, HX.out⟩
          · obtain rfl : i = f.length := by omega
            have HF := hide (EX.out.trans (rangeYes HQ.out))
            clear HQ EX
            go_wp2
            go_ret
            exact ⟨by rw [HF.out]; rfl, HBr.out⟩
    · have k2' : ((f.length : Int) != (fs.length : Int)) = true := by
        cases e : ((f.length : Int) != (fs.length : Int)) with
        | true => rfl
        | false =>
          have := bne_eq_false_iff_eq.1 e
          omega
      have HF : Hid (V = false) := hide (EX.trans (by rw [decide_eq_false k2]; rfl))
      clear EX k2
      go_wp2
      go_ret
      exact ⟨by rw [HF.out]; rfl, HB.out⟩
end Go.Proofs.Ytofnpgheppgcaaa
