/-
  Joined: MemT, MemU.
-/
import Derived.Test.YthlaihkpffddcaaJ24
import Derived.Test.YthlaihkpffddcaaJ25
import Derived.Test.YthlaihkpffddcaaJ21
/-
  One memory in the model: an object of one's own, what is found.
-/
namespace Go.Proofs.Ythlaihkpffddcaa
open Go.RowKit

/-- An object of one's own as an answer. -/
def obP (w w' : World) (x : Ob) (e : Ending) : Prop := ∃ u1, e = .returned (obV x u1) ∧ OwnDL w' w.heap.size w'.heap.size (obD x) [.int .i64 x.i, .int .i64 x.c, u1] ∧ Below w.heap.size w w'
set_option maxRecDepth 100000 in
set_option maxHeartbeats 8000000 in
theorem oneS (w : World) (x : Ob) (u : Value) (h : Reads w w.heap.size (vls x.f) u) (hl : x.f.length ≤ 1048576) :
    Calls Try.prog 56 #[obV x u] w fun e w' => obP w w' x e := by
  have HR := hide h
  obtain ⟨a1, c1, e1, _⟩ := h.shape
  subst e1
  clear h
  have bA := (((Below.refl w.heap.size w).alloc (Nat.le_refl _) (.cells #[.int .i64 x.i, .int .i64 x.c, .slice a1 x.f.length c1] 51)).alloc (by simp) (.cells #[.int .i64 0, .int .i64 0, .slice none 0 0] 51))
  have G0 := heap_alloc_new w (.cells #[.int .i64 x.i, .int .i64 x.c, .slice a1 x.f.length c1] 51)
  have G1 := heap_alloc_new (w.alloc (.cells #[.int .i64 x.i, .int .i64 x.c, .slice a1 x.f.length c1] 51)) (.cells #[.int .i64 0, .int .i64 0, .slice none 0 0] 51)
  simp only [World.size_alloc] at G1
  have E0 := hide ((Below.heap_alloc _ (.cells #[.int .i64 0, .int .i64 0, .slice none 0 0] 51) _ (by simp)).trans (G0))
  have E1 := hide (G1)
  have HB := hide bA
  replace HR := hide (HR.out.at bA)
  have hW2 : w.heap.size + 1 < ((w.alloc (.cells #[.int .i64 x.i, .int .i64 x.c, .slice a1 x.f.length c1] 51)).alloc (.cells #[.int .i64 0, .int .i64 0, .slice none 0 0] 51)).heap.size := by simp
  clear bA G0 G1
  obtain ⟨i0, hi, hz0, hz1, hz2⟩ := info_parts Try.infoVl
  have HI := hide (And.intro hi (And.intro hz0 (And.intro hz1 hz2)))
  clear hi hz0 hz1 hz2
  unfold obV
  go_enter Try.func56, Try.ntmps56
  go_upto_region 1 with fail
  generalize ((w.alloc (.cells #[.int .i64 x.i, .int .i64 x.c, .slice a1 x.f.length c1] 51)).alloc (.cells #[.int .i64 0, .int .i64 0, .slice none 0 0] 51)) = W at *
  have HZ := hide (OwnDL.snoc (ownDL_nil W W.heap.size W.heap.size) (Nat.le_refl _) 59 2 0 #[] (by decide) rfl)
  have bX := (Below.refl W.heap.size W).alloc (Nat.le_refl _) (.cells #[] 59)
  have E0X := hide ((bX.block _ (Array.getElem?_eq_some_iff.1 E0.out).1).trans E0.out)
  have E1X := hide ((bX.block _ (Array.getElem?_eq_some_iff.1 E1.out).1).trans E1.out)
  have HBX := hide (HB.out.trans (bX.mono HB.out.size))
  have HRX := hide (HR.out.at bX)
  have hsX := HBX.out.size
  have hs2 := bX.size
  have y2 := (box_of E0X.out).1 2 _ rfl
  clear bX
  go_wp2_with (first
    | (at_builtin; refine appN rfl _ _ 44 rfl W.heap.size _ 59 i0 (.agg #[.bool false, .int .i64 0]) 2 16 Try.underlying44 HI.out.1 HI.out.2.1 HI.out.2.2.1 HI.out.2.2.2 rfl (by decide) W.heap.size 0 0 [] [] [] [] [] rfl HZ.out rfl _ rfl x.f.length 59 (x.f.flatMap vlD) HRX.out (flat_vl x.f) (by omega) (by decide) (Nat.le_refl _) hs2 ?_; intro v9 w9 o9 g9 hb9; obtain ⟨a9, c9, e9⟩ := (OwnDL.mid (c1 := []) (v1 := []) o9 rfl).shape; subst e9; have HO9 := hide o9; have HB9 := hide (HBX.out.grown g9 hsX (fun q hq => by cases hq; omega)); have E09 := hide ((g9.block _ (Array.getElem?_eq_some_iff.1 E0X.out).1 (fun e => by have e2 := Option.some.inj e; omega)).trans E0X.out); have E19 := hide ((g9.block _ (Array.getElem?_eq_some_iff.1 E1X.out).1 (fun e => by have e2 := Option.some.inj e; omega)).trans E1X.out); have k0 := (box_of E09.out).1 0 _ rfl; have k1 := (box_of E09.out).1 1 _ rfl; have k2 := (box_of E09.out).1 2 _ rfl; have kz := (box_of E09.out).2; have l0 := (box_of E19.out).1 0 _ rfl; have l1 := (box_of E19.out).1 1 _ rfl; have l2 := (box_of E19.out).1 2 _ rfl; have lz := (box_of E19.out).2; have hs9 := g9.size; clear o9 g9)
    | fail)
  have G9 : Hid ((w9.setCell ⟨w.heap.size, 2, none⟩ (.slice a9 x.f.length c9)).heap[w.heap.size + 1]? = some (.cells #[.int .i64 0, .int .i64 0, .slice none 0 0] 51 (0, 0))) := hide ((heap_setCell_other _ _ _ _ (by simp)).trans E19.out)
  refine bodyPost_ret (v := .agg #[.int .i64 x.i, .int .i64 x.c, .slice a9 x.f.length c9]) (results_one Try.results56 _ _ _ rfl (loadOb (putN3 G9.out _ _ _))) rfl ?_
  refine ⟨_, rfl, ?_, (((HB9.out.setCell (by simp) _).setCell (by simp <;> omega) _).setCell (by simp <;> omega) _).setCell (by simp <;> omega) _⟩
  have h9 := OwnDL.mid (c1 := []) (v1 := []) HO9.out rfl
  rw [Nat.zero_add, List.nil_append] at h9
  refine ((OwnDL.same (b := W.heap.size) (OwnDL.val (OwnDL.val (OwnDL.cons (m := w9.heap.size) h9 (ownDL_nil _ _ _) (by omega) (Nat.le_refl _)))) (fun q hq _ _ => ?_)).mono (by omega)).up (by simp)
  rw [heap_setCell_other _ _ _ _ (by simp <;> omega), heap_setCell_other _ _ _ _ (by simp <;> omega), heap_setCell_other _ _ _ _ (by simp <;> omega), heap_setCell_other _ _ _ _ (by simp <;> omega)]
end Go.Proofs.Ythlaihkpffddcaa
/-
  One memory in the model: what is found.
-/
namespace Go.Proofs.Ythlaihkpffddcaa
open Go.RowKit

def foundB (m : Mm) (q : Int) : Bool := decide (0 ≤ atM m q)
def findX (m : Mm) (q : Int) : Ob := if 0 ≤ atM m q then m.o.getD (atM m q).toNat default else ⟨0, 0, []⟩
def obP2 (w w' : World) (x : Ob) (c : Bool) (e : Ending) : Prop := ∃ u1, e = .returned (.tuple #[obV x u1, .bool c]) ∧ OwnDL w' w.heap.size w'.heap.size (obD x) [.int .i64 x.i, .int .i64 x.c, u1] ∧ Below w.heap.size w w'
set_option maxRecDepth 100000 in
set_option maxHeartbeats 8000000 in
theorem findS (w : World) (m : Mm) (u1 u2 : Value) (q : Int) (h1 : Reads w w.heap.size (obs m.o) u1) (h2 : Reads w w.heap.size (lks m.l) u2) (hg : obsG m.o) :
    Calls Try.prog 22 #[mmV m u1 u2, .int .i64 q] w fun e w' => obP2 w w' (findX m q) (foundB m q) e := by
  have HR := hide h1
  have HL := hide h2
  have hm := hg.1
  have HGf : Hid (∀ j, j < m.o.length → ObG (m.o.getD j default)) := hide (fun j hj => getD_mem hg.2 j hj)
  obtain ⟨a1, c1, e1, _⟩ := h1.shape
  obtain ⟨a2, c2, e2, _⟩ := h2.shape
  subst e1 e2
  clear h1 h2 hg
  have HV1 : Hid (atM m q < 0 → findX m q = ⟨0, 0, []⟩ ∧ foundB m q = false) := hide (fun h => ⟨if_neg (by omega), decide_eq_false (by omega)⟩)
  have HV2 : Hid (∀ j : Nat, atM m q = (j : Int) → findX m q = m.o.getD j default ∧ foundB m q = true) := hide (fun j hj => ⟨by unfold findX; rw [if_pos (by omega), hj, Int.toNat_natCast], decide_eq_true (by omega)⟩)
  have hat := obAt_lt (q := q) (xs := m.o) (n := 0)
  replace hat : atM m q = -1 ∨ (((0 : Nat) : Int) ≤ atM m q ∧ atM m q < ((0 + m.o.length : Nat) : Int)) := hat
  obtain ⟨C, hC⟩ : ∃ C, foundB m q = C := ⟨_, rfl⟩
  obtain ⟨V, hV⟩ : ∃ V, findX m q = V := ⟨_, rfl⟩
  rw [hC, hV] at HV1
  rw [hC, hV]
  simp only [hC, hV] at HV2
  clear hC hV
  have bA := (((Below.refl w.heap.size w).alloc (Nat.le_refl _) (.cells #[.slice a1 m.o.length c1, .slice a2 m.l.length c2] 39)).alloc (by simp) (.cells #[.int .i64 0, .int .i64 0, .slice none 0 0] 51))
  have G0 := heap_alloc_new w (.cells #[.slice a1 m.o.length c1, .slice a2 m.l.length c2] 39)
  have G1 := heap_alloc_new (w.alloc (.cells #[.slice a1 m.o.length c1, .slice a2 m.l.length c2] 39)) (.cells #[.int .i64 0, .int .i64 0, .slice none 0 0] 51)
  simp only [World.size_alloc] at G1
  have E0 := hide ((Below.heap_alloc _ (.cells #[.int .i64 0, .int .i64 0, .slice none 0 0] 51) _ (by simp)).trans (G0))
  have E1 := hide (G1)
  have HB := hide bA
  replace HR := hide (HR.out.at bA)
  replace HL := hide (HL.out.at bA)
  clear bA G0 G1
  unfold mmV
  go_enter Try.func22, Try.ntmps22
  go_wp2_with fail
  generalize ((w.alloc (.cells #[.slice a1 m.o.length c1, .slice a2 m.l.length c2] 39)).alloc (.cells #[.int .i64 0, .int .i64 0, .slice none 0 0] 51)) = W at *
  refine (atS _ m _ _ q HR.out HL.out hm).mono ?_
  rintro e w1 ⟨rfl, b1⟩
  replace E0 := hide ((b1.block _ (Array.getElem?_eq_some_iff.1 E0.out).1).trans E0.out)
  replace E1 := hide ((b1.block _ (Array.getElem?_eq_some_iff.1 E1.out).1).trans E1.out)
  replace HR := hide (HR.out.at b1)
  replace HB := hide (HB.out.trans (b1.mono HB.out.size))
  clear b1
  generalize atM m q = K at *
  have hs1 := (Array.getElem?_eq_some_iff.1 E1.out).1
  by_cases k0 : K < 0
  · have HF := hide (HV1.out k0)
    clear HV1 HV2 hat
    have s0 := (box_of E1.out).1 0 _ rfl
    have s1 := (box_of E1.out).1 1 _ rfl
    have s2 := (box_of E1.out).1 2 _ rfl
    have sz := (box_of E1.out).2
    go_wp2
    refine bodyPost_ret (v := .tuple #[.agg #[.int .i64 0, .int .i64 0, .slice none 0 0], .bool false]) (results_ct Try.results22 _ _ _ rfl (loadOb (putN3 E1.out _ _ _))) rfl ?_
    rw [HF.out.1, HF.out.2]
    exact ⟨_, rfl, OwnDL.val (OwnDL.val (OwnDL.cons (m := w.heap.size) (ownD_nil _ _ _ _ _) (ownDL_nil _ _ _) (Nat.le_refl _) (by simp only [World.size_setCell]; omega))), ((HB.out.setCell (by dsimp only; omega) _).setCell (by dsimp only; omega) _).setCell (by dsimp only; omega) _⟩
  · obtain ⟨j, hj⟩ : ∃ j : Nat, K = (j : Int) := ⟨K.toNat, by omega⟩
    subst hj
    have hlt : j < m.o.length := by omega
    have hltI : (j : Int) < (m.o.length : Int) := by omega
    have HF := hide (HV2.out j rfl)
    clear hat HV1 HV2
    obtain ⟨a', cap', ea, hcap, _, hc⟩ := object_at HR.out
    cases ea
    obtain ⟨b, o, rfl, hbb, hcell⟩ := hc (by omega)
    obtain ⟨pv1, d0, d1, d2, r1⟩ := hcell j hlt
    have HGy := hide (HGf.out j hlt)
    clear hcell hc
    obtain ⟨y, hy⟩ : ∃ y, m.o.getD j default = y := ⟨_, rfl⟩
    rw [hy] at d0 d1 r1 HGy HF
    clear hy
    obtain ⟨fa, fc, fe, _⟩ := r1.shape
    subst fe
    have q0 := (box_of E0.out).1 0 _ rfl
    go_wp2_with fail
    refine (oneS _ y _ r1 HGy.out.f.1).mono ?_
    rintro e w2 ⟨v1, rfl, o9, b9⟩
    have hz2 := b9.size
    obtain ⟨pa, pc, pe, _⟩ := (obD_own o9).shape
    subst pe
    have HO := hide o9
    clear o9 q0 d0 d1 d2 r1
    replace E1 := hide ((b9.block _ hs1).trans E1.out)
    replace HB := hide (HB.out.trans (b9.mono HB.out.size))
    have hzB := HB.out.size
    clear b9
    unfold obV
    have s0 := (box_of E1.out).1 0 _ rfl
    have s1 := (box_of E1.out).1 1 _ rfl
    have s2 := (box_of E1.out).1 2 _ rfl
    have sz := (box_of E1.out).2
    go_wp2
    refine bodyPost_ret (v := .tuple #[.agg #[.int .i64 y.i, .int .i64 y.c, .slice pa y.f.length pc], .bool true]) (results_ct Try.results22 _ _ _ rfl (loadOb (putN3 E1.out _ _ _))) rfl ?_
    rw [HF.out.1, HF.out.2]
    refine ⟨_, rfl, ?_, ((HB.out.setCell (by dsimp only; omega) _).setCell (by dsimp only; omega) _).setCell (by dsimp only; omega) _⟩
    refine ((HO.out.same (fun q hq _ _ => ?_)).mono (by omega)).up (by simp only [World.size_setCell]; omega)
    rw [heap_setCell_other _ _ _ _ (by dsimp only; omega), heap_setCell_other _ _ _ _ (by dsimp only; omega), heap_setCell_other _ _ _ _ (by dsimp only; omega)]
end Go.Proofs.Ythlaihkpffddcaa
