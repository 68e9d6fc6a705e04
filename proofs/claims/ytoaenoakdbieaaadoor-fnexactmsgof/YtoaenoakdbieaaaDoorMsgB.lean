/-
  The bytes of a message.
-/
import Derived.Test.YtoaenoakdbieaaaDoorPnB
import Derived.Test.YtoaenoakdbieaaaDoorPutWordW
namespace Go.Proofs.YtoaenoakdbieaaaDoor
open Go.RowKit

def cellB (x : Int × Bool × Int) : List Int := bif x.2.1 then pn x.1 ++ pn 1 ++ pn x.2.2 else pn x.1 ++ pn 0 ++ pw x.2.2
def noteB (x : Int × Int) : List Int := pn x.1 ++ pn x.2
/-- The numbers that a message's bytes begin with. -/
def headB (k i u c n : Int) : List Int := pn k ++ pn i ++ pn u ++ pn c ++ pn n
def msgB (k i u c n : Int) (cs : List (Int × Bool × Int)) (ns : List (Int × Int)) : List Int :=
  headB k i u c n ++ pn cs.length ++ cs.flatMap cellB ++ pn ns.length ++ ns.flatMap noteB

theorem cellB_len (x : Int × Bool × Int) : (cellB x).length ≤ 12 := by
  have h1 := pn_len x.1
  have h2 := pn_len x.2.2
  have h3 := pw_len x.2.2
  have h4 := pn_len 1
  have h5 := pn_len 0
  unfold cellB
  cases x.2.1 <;> simp <;> omega
theorem noteB_len (x : Int × Int) : (noteB x).length ≤ 8 := by
  have h1 := pn_len x.1
  have h2 := pn_len x.2
  unfold noteB
  simp; omega
theorem headB_len (k i u c n : Int) : (headB k i u c n).length ≤ 20 := by
  have h1 := pn_len k
  have h2 := pn_len i
  have h3 := pn_len u
  have h4 := pn_len c
  have h5 := pn_len n
  unfold headB
  simp; omega
theorem flatB_len {α : Type} (f : α → List Int) (m : Nat) (hf : ∀ x, (f x).length ≤ m) : ∀ (xs : List α), (xs.flatMap f).length ≤ xs.length * m
  | [] => by simp
  | x :: xs => by
    have := flatB_len f m hf xs
    have := hf x
    rw [List.flatMap_cons, List.length_append, List.length_cons, Nat.succ_mul]; omega
theorem flatB_snoc {α : Type} (f : α → List Int) (xs : List α) (d : α) (j : Nat) (h : j < xs.length) : (xs.take (j + 1)).flatMap f = (xs.take j).flatMap f ++ f (xs.getD j d) := by
  rw [List.take_succ_eq_append_getElem h, List.flatMap_append]; simp [h]
theorem cellB_byt (x : Int × Bool × Int) : Byt (cellB x) := by
  unfold cellB
  cases x.2.1
  · exact ((pn_byt _).append (pn_byt _)).append (pw_byt _)
  · exact ((pn_byt _).append (pn_byt _)).append (pn_byt _)
theorem noteB_byt (x : Int × Int) : Byt (noteB x) := (pn_byt _).append (pn_byt _)
theorem flatB_byt {α : Type} (f : α → List Int) (hf : ∀ x, Byt (f x)) (xs : List α) : Byt (xs.flatMap f) := by
  intro z hz
  obtain ⟨x, _, hx⟩ := List.mem_flatMap.1 hz
  exact hf x z hx
theorem msgB_byt (k i u c n : Int) (cs : List (Int × Bool × Int)) (ns : List (Int × Int)) : Byt (msgB k i u c n cs ns) := by
  unfold msgB headB
  exact ((((((((pn_byt _).append (pn_byt _)).append (pn_byt _)).append (pn_byt _)).append (pn_byt _)).append (pn_byt _)).append (flatB_byt _ cellB_byt _)).append (pn_byt _)).append (flatB_byt _ noteB_byt _)
theorem msgB_len (k i u c n : Int) (cs : List (Int × Bool × Int)) (ns : List (Int × Int)) (h1 : cs.length ≤ 8) (h2 : ns.length ≤ 130) : (msgB k i u c n cs ns).length ≤ 1200 := by
  have h3 := headB_len k i u c n
  have h4 := pn_len cs.length
  have h5 := flatB_len cellB 12 cellB_len cs
  have h6 := pn_len ns.length
  have h7 := flatB_len noteB 8 noteB_len ns
  unfold msgB
  simp only [List.length_append]; omega
end Go.Proofs.YtoaenoakdbieaaaDoor
