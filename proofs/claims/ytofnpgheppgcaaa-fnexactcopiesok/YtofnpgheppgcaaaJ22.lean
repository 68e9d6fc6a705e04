/-
  Joined: MemF, MemP.
-/
import Derived.Test.YtofnpgheppgcaaaJ15
import Derived.Test.YtofnpgheppgcaaaJ6
import Derived.Test.YtofnpgheppgcaaaJ21
import Derived.Test.YtofnpgheppgcaaaJ16
import Derived.Test.YtofnpgheppgcaaaJ18
/-
  One memory in the model: what a new object has.
-/
namespace Go.Proofs.Ytofnpgheppgcaaa
open Go.RowKit

def frv (d : Fd) : Vl := ⟨!(d.t.toList == [73]), 0⟩
def freshX (ks : List Kd) (c : Int) : List Vl := if inB c 0 ((ks.length : Int) - 1) = true then (ks.getD c.toNat default).f.map frv else []
theorem take_snocM {α β : Type} [Inhabited α] (f : α → β) {xs : List α} {j : Nat} (h : j < xs.length) : (xs.take (j + 1)).map f = (xs.take j).map f ++ [f (xs.getD j default)] := by
  rw [List.take_add_one, List.getElem?_eq_getElem h, List.getD_eq_getElem?_getD, List.getElem?_eq_getElem h, List.map_append]
  rfl
theorem vls_snoc (xs : List Vl) (y : Vl) : vls (xs ++ [y]) = .row 48 2 (xs.length + 1) (xs.flatMap vlD ++ vlD y) := by
  unfold vls
  rw [List.length_append, List.flatMap_append]
  simp
end Go.Proofs.Ytofnpgheppgcaaa
/-
  One memory in the program: what is fresh.
-/
namespace Go.Proofs.Ytofnpgheppgcaaa
open Go.RowKit

theorem loadKdP {w : World} {g : Nat} {a0 a1 a2 a3 a4 : Value} (h : w.heap[g]? = some (.cells #[a0, a1, a2, a3, a4] 98 (0, 0))) : (loadVar 98 ⟨g, 0, none⟩).run Try.prog w = .ok (.agg #[a0, a1, a2, a3, a4]) w :=
  run_loadVar_row w g 98 98 #[a0, a1, a2, a3, a4] (0, 0) _ h Try.underlying98 rfl (by kernel_rfl)
/-- The class of that number, or none. -/
def kdX (ks : List Kd) (c : Int) : Kd := if inB c 0 ((ks.length : Int) - 1) = true then ks.getD c.toNat default else ⟨ByteArray.empty, 0, [], [], []⟩
theorem freshX_kd (ks : List Kd) (c : Int) : freshX ks c = (kdX ks c).f.map frv := by
  unfold freshX kdX
  split <;> rfl
theorem reads_nilK {w : World} {B : Nat} {T : TypeId} {k : Nat} : Reads w B (.row T k 0 []) (.slice none 0 0) := by
  unfold Reads
  exact ⟨[], ⟨by simp, none, 0, rfl, Nat.zero_le _, fun _ => rfl, fun h => absurd h (by decide)⟩, by unfold ReadsL; rfl⟩
def kdP (w w' : World) (K : Kd) (e : Ending) : Prop := Below w.heap.size w w' ∧ ∃ p1 p2 p3, e = .returned (kdV K p1 p2 p3) ∧ Reads w w.heap.size (pool K.p) p1 ∧ Reads w w.heap.size (flds K.f) p2 ∧ Reads w w.heap.size (cods K.m) p3
set_option maxRecDepth 100000 in
set_option maxHeartbeats 4000000 in
theorem isRefI (w : World) (d : Fd) :
    Calls Try.prog 93 #[fdV d] w fun e w' => e = .returned (.bool (frv d).r) ∧ Below w.heap.size w w' := by
  obtain ⟨bb, hbv⟩ : ∃ bb, (d.t.toList == [73]) = bb := ⟨_, rfl⟩
  have hfv : (frv d).r = !bb := by unfold frv; rw [hbv]
  rw [hfv]
  clear hfv
  unfold fdV
  go_enter Try.func93, Try.ntmps93
  go_wp2
  go_ret
  exact ⟨rfl, (Below.refl _ _).alloc (Nat.le_refl _) _⟩
end Go.Proofs.Ytofnpgheppgcaaa
