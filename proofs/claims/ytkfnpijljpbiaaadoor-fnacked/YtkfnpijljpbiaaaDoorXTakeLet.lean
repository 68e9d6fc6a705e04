/-
  What takeLetter does at a nod, and what readAt makes of it.
-/
import Derived.Test.YtkfnpijljpbiaaaDoorJ22
import Derived.Test.YtkfnpijljpbiaaaDoorJ19
import Derived.Test.YtkfnpijljpbiaaaDoorJ27
import Derived.Great.BuildSlice
import Derived.Laws.Tables
import Derived.Laws.CopyOwn
namespace Go.Proofs.YtkfnpijljpbiaaaDoor
open Go.RowKit

theorem grown_rowN {w w1 : World} {p L : Nat} (h : w.grownBy w1 (some p)) (hL : w.heap.size ≤ L) (cs : Array Value) : w.grownBy (w1.setRow L cs) (some p) :=
  ⟨h.os, h.tape, h.output, by simpa using h.size, fun q hq hne => (setRow_other w1 L q cs (by omega)).trans (h.block q hq hne)⟩
/-- A nod, read. -/
def nodV (n : Int) : Value := .agg #[.bool false, .int .i64 0, .int .i64 n, .int .i64 0, .int .i64 0, .int .i64 0, .int .i64 0, .int .i64 0, .slice none 0 0, .slice none 0 0]
set_option maxRecDepth 100000 in
set_option maxHeartbeats 2000000 in
theorem rdNod {w : World} {B : Nat} {a : Option Addr} {len : Nat} {zs : List Int} {p k : Nat} {t : TypeId} {v : Value} (cap : Nat) (h : Rdr w B a len zs p k t v) (k1 nx : Nat) (n : Int) (hf : rFlag zs k = some (false, k1)) (hn : gnF zs 4 k1 0 1 = some (n, nx)) :
    Calls Tryd.prog 51 #[.slice a len cap, .pointer (some ⟨p, 0, none⟩)] w fun e w' => e = .returned (nodV n) ∧ w'.heap[p]? = some (.cells #[.int .i64 ((nx : Nat) : Int)] 3 (0, 0)) ∧ w.grownBy w' (some p) := by
  have hlt := h.lt
  have HR := hide (h.alloc (.cells #[.bool false, .int .i64 0, .int .i64 0, .int .i64 0, .int .i64 0, .int .i64 0, .int .i64 0, .int .i64 0, .slice none 0 0, .slice none 0 0] 52))
  have HA := hide (World.grownBy_alloc w (.cells #[.bool false, .int .i64 0, .int .i64 0, .int .i64 0, .int .i64 0, .int .i64 0, .int .i64 0, .int .i64 0, .slice none 0 0, .slice none 0 0] 52) (some p))
  have HE := hide (heap_alloc_new w (.cells #[.bool false, .int .i64 0, .int .i64 0, .int .i64 0, .int .i64 0, .int .i64 0, .int .i64 0, .int .i64 0, .slice none 0 0, .slice none 0 0] 52))
  have hi : ((Tryd.prog.info? 52).map (·.size)) = some 10 := by kernel_rfl
  clear h
  go_enter Tryd.func51, Tryd.ntmps51
  go_wp2_with fail
  refine (rdFlag cap HR.out).mono ?_
  rintro e w1 ⟨hres, g1⟩
  rw [hf] at hres
  rcases hres with ⟨x, kk, hx, rfl, hp1⟩ | ⟨hx, _⟩
  case inr => cases hx
  cases hx
  have HG := hide (grownBy_trans HA.out g1)
  have HR1 := hide (HR.out.next g1 hp1)
  have HE1 := hide ((g1.block w.heap.size (by simp) (fun e => by cases e; omega)).trans HE.out)
  clear g1 hp1 HR HE HA
  go_wp2_with fail
  refine (rdNum cap HR1.out).mono ?_
  rintro e w2 ⟨hres, g2⟩
  rw [hn] at hres
  rcases hres with ⟨y, k2, hy, rfl, hp2⟩ | ⟨hy, _⟩
  case inr => cases hy
  cases hy
  have hs1 : w.heap.size < w1.heap.size := (Array.getElem?_eq_some_iff.1 HE1.out).1
  replace HG := hide (grownBy_trans HG.out g2)
  have HE2 := hide ((g2.block w.heap.size hs1 (fun e => by cases e; omega)).trans HE1.out)
  have HP := hide hp2
  clear g2 hp2 HE1 HR1
  go_wp2_with (refine wpList_store_rowTo rfl 52 (.tmp 4) (.tmp 13) rfl rfl w.heap.size #[.bool false, .int .i64 0, .int .i64 n, .int .i64 0, .int .i64 0, .int .i64 0, .int .i64 0, .int .i64 0, .slice none 0 0, .slice none 0 0] rfl rfl _ _ HE2.out hi rfl (by simp [Value.oneCell']) ?_)
  exact bodyPost_ret (v := .agg #[.bool false, .int .i64 0, .int .i64 n, .int .i64 0, .int .i64 0, .int .i64 0, .int .i64 0, .int .i64 0, .slice none 0 0, .slice none 0 0]) (results_one Tryd.results51 _ _ _ rfl (loadLet (setRow_heap _ _ _ _ _ _ HE2.out))) rfl ⟨rfl, (setRow_other w2 w.heap.size p _ (by omega)).trans HP.out, grown_rowN HG.out (Nat.le_refl _) _⟩
end Go.Proofs.YtkfnpijljpbiaaaDoor
