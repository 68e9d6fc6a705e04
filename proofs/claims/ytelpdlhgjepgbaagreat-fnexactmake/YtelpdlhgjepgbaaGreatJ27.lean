/-
  Joined: MemT, MemU.
-/
import Derived.Test.YtelpdlhgjepgbaaGreatJ25
import Derived.Test.YtelpdlhgjepgbaaGreatJ26
import Derived.Test.YtelpdlhgjepgbaaGreatJ23
/-
  One memory in the model: an object of one's own, what is found.
-/
namespace Go.Proofs.YtelpdlhgjepgbaaGreat
open Go.RowKit

/-- An object of one's own as an answer. -/
def obP (w w' : World) (x : Ob) (e : Ending) : Prop := ∃ u1, e = .returned (obV x u1) ∧ OwnDL w' w.heap.size w'.heap.size (obD x) [.int .i64 x.i, .int .i64 x.c, u1] ∧ Below w.heap.size w w'
set_option maxRecDepth 100000 in
set_option maxHeartbeats 8000000 in
theorem oneS (w : World) (x : Ob) (u : Value) (h : Reads w w.heap.size (vls x.f) u) (hl : x.f.length ≤ 1048576) :
    Calls Tryz.prog 22 #[obV x u] w fun e w' => obP w w' x e := by
  have HR := hide h
  obtain ⟨a1, c1, e1, _⟩ := h.shape
  subst e1
  clear h
  have bA := (((Below.refl w.heap.size w).alloc (Nat.le_refl _) (.cells #[.int .i64 x.i, .int .i64 x.c, .slice a1 x.f.length c1] 54)).alloc (by simp) (.cells #[.int .i64 0, .int .i64 0, .slice none 0 0] 54))
  have G0 := heap_alloc_new w (.cells #[.int .i64 x.i, .int .i64 x.c, .slice a1 x.f.length c1] 54)
  have G1 := heap_alloc_new (w.alloc (.cells #[.int .i64 x.i, .int .i64 x.c, .slice a1 x.f.length c1] 54)) (.cells #[.int .i64 0, .int .i64 0, .slice none 0 0] 54)
  simp only [World.size_alloc] at G1
  have E0 := hide ((Below.heap_alloc _ (.cells #[.int .i64 0, .int .i64 0, .slice none 0 0] 54) _ (by simp)).trans (G0))
  have E1 := hide (G1)
  have HB := hide bA
  replace HR := hide (HR.out.at bA)
  have hW2 : w.heap.size + 1 < ((w.alloc (.cells #[.int .i64 x.i, .int .i64 x.c, .slice a1 x.f.length c1] 54)).alloc (.cells #[.int .i64 0, .int .i64 0, .slice none 0 0] 54)).heap.size := by simp
  clear bA G0 G1
  obtain ⟨i0, hi, hz0, hz1, hz2⟩ := info_parts Tryz.infoVl
  have HI := hide (And.intro hi (And.intro hz0 (And.intro hz1 hz2)))
  clear hi hz0 hz1 hz2
  unfold obV
  go_enter Tryz.func22, Tryz.ntmps22
  go_upto_region 1 with fail
  generalize ((w.alloc (.cells #[.int .i64 x.i, .int .i64 x.c, .slice a1 x.f.length c1] 54)).alloc (.cells #[.int .i64 0, .int .i64 0, .slice none 0 0] 54)) = W at *
  have HZ := hide (OwnDL.snoc (ownDL_nil W W.heap.size W.heap.size) (Nat.le_refl _) 85 2 0 #[] (by decide) rfl)
  have bX := (Below.refl W.heap.size W).alloc (Nat.le_refl _) (.cells #[] 85)
  have E0X := hide ((bX.block _ (Array.getElem?_eq_some_iff.1 E0.out).1).trans E0.out)
  have E1X := hide ((bX.block _ (Array.getElem?_eq_some_iff.1 E1.out).1).trans E1.out)
  have HBX := hide (HB.out.trans (bX.mono HB.out.size))
  have HRX := hide (HR.out.at bX)
  have hsX := HBX.out.size
  have hs2 := bX.size
  have y2 := (box_of E0X.out).1 2 _ rfl
  clear bX
  go_wp2_with (first
    | (at_builtin; refine appN rfl _ _ 52 rfl W.heap.size _ 85 i0 (.agg #[.bool false, .int .i64 0]) 2 16 Tryz.underlying52 HI.out.1 HI.out.2.1 HI.out.2.2.1 HI.out.2.2.2 rfl (by decide) W.heap.size 0 0 [] [] [] [] [] rfl HZ.out rfl _ rfl x.f.length 85 (x.f.flatMap vlD) HRX.out (flat_vl x.f) (by omega) (by decide) (Nat.le_refl _) hs2 ?_; intro v9 w9 o9 g9 hb9; obtain ⟨a9, c9, e9⟩ := (OwnDL.mid (c1 := []) (v1 := []) o9 rfl).shape; subst e9; have HO9 := hide o9; have HB9 := hide (HBX.out.grown g9 hsX (fun q hq => by cases hq; omega)); have E09 := hide ((g9.block _ (Array.getElem?_eq_some_iff.1 E0X.out).1 (fun e => by have e2 := Option.some.inj e; omega)).trans E0X.out); have E19 := hide ((g9.block _ (Array.getElem?_eq_some_iff.1 E1X.out).1 (fun e => by have e2 := Option.some.inj e; omega)).trans E1X.out); have k0 := (box_of E09.out).1 0 _ rfl; have k1 := (box_of E09.out).1 1 _ rfl; have k2 := (box_of E09.out).1 2 _ rfl; have kz := (box_of E09.out).2; have l0 := (box_of E19.out).1 0 _ rfl; have l1 := (box_of E19.out).1 1 _ rfl; have l2 := (box_of E19.out).1 2 _ rfl; have lz := (box_of E19.out).2; have hs9 := g9.size; clear o9 g9)
    | fail)
  have G9 : Hid ((w9.setCell ⟨w.heap.size, 2, none⟩ (.slice a9 x.f.length c9)).heap[w.heap.size + 1]? = some (.cells #[.int .i64 0, .int .i64 0, .slice none 0 0] 54 (0, 0))) := hide ((heap_setCell_other _ _ _ _ (by simp)).trans E19.out)
  refine bodyPost_ret (v := .agg #[.int .i64 x.i, .int .i64 x.c, .slice a9 x.f.length c9]) (results_one Tryz.results22 _ _ _ rfl (loadOb (putN3 G9.out _ _ _))) rfl ?_
  refine ⟨_, rfl, ?_, (((HB9.out.setCell (by simp) _).setCell (by simp <;> omega) _).setCell (by simp <;> omega) _).setCell (by simp <;> omega) _⟩
  have h9 := OwnDL.mid (c1 := []) (v1 := []) HO9.out rfl
  rw [Nat.zero_add, List.nil_append] at h9
  refine ((OwnDL.same (b := W.heap.size) (OwnDL.val (OwnDL.val (OwnDL.cons (m := w9.heap.size) h9 (ownDL_nil _ _ _) (by omega) (Nat.le_refl _)))) (fun q hq _ _ => ?_)).mono (by omega)).up (by simp)
  rw [heap_setCell_other _ _ _ _ (by simp <;> omega), heap_setCell_other _ _ _ _ (by simp <;> omega), heap_setCell_other _ _ _ _ (by simp <;> omega), heap_setCell_other _ _ _ _ (by simp <;> omega)]
end Go.Proofs.YtelpdlhgjepgbaaGreat
/-
  One memory in the model: what is found.
-/
namespace Go.Proofs.YtelpdlhgjepgbaaGreat
open Go.RowKit

def foundB (m : Mm) (q : Int) : Bool := decide (0 ≤ atM m q)
def findX (m : Mm) (q : Int) : Ob := if 0 ≤ atM m q then m.o.getD (atM m q).toNat default else ⟨0, 0, []⟩
def obP2 (w w' : World) (x : Ob) (c : Bool) (e : Ending) : Prop := ∃ u1, e = .returned (.tuple #[obV x u1, .bool c]) ∧ OwnDL w' w.heap.size w'.heap.size (obD x) [.int .i64 x.i, .int .i64 x.c, u1] ∧ Below w.heap.size w w'
end Go.Proofs.YtelpdlhgjepgbaaGreat
