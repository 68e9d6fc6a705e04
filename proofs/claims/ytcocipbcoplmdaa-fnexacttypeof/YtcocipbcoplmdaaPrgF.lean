/-
  What is looked up in a program by its name: what it is, and what the model and the program do.
-/
import Derived.Test.YtcocipbcoplmdaaPrgD
import Derived.Test.YtcocipbcoplmdaaInB
namespace Go.Proofs.Ytcocipbcoplmdaa
open Go.RowKit

/-- The first of a row that is so; -1. -/
def atFst {α : Type} (f : α → Bool) (xs : List α) : Int := match xs.findIdx? f with | some i => (i : Int) | none => -1
theorem atFst_hit {α : Type} [Inhabited α] {f : α → Bool} {xs : List α} {j : Nat} (hj : j < xs.length) (h : f (xs.getD j default) = true) (h0 : ∀ i, i < j → f (xs.getD i default) = false) : atFst f xs = (j : Int) := by
  have e : xs.findIdx? f = some j := by
    rw [List.findIdx?_eq_some_iff_getElem]
    refine ⟨hj, ?_, fun i hi => ?_⟩
    · simpa [hj] using h
    · have := h0 i hi
      have hi' : i < xs.length := by omega
      simpa [hi'] using this
  unfold atFst
  rw [e]
theorem atFst_no {α : Type} [Inhabited α] {f : α → Bool} {xs : List α} (h0 : ∀ i, i < xs.length → f (xs.getD i default) = false) : atFst f xs = -1 := by
  have e : xs.findIdx? f = none := by
    rw [List.findIdx?_eq_none_iff]
    exact fun y hy => all_of_getD (Q := fun y => f y = false) h0 y hy
  unfold atFst
  rw [e]
theorem atFst_le {α : Type} (f : α → Bool) (xs : List α) : -1 ≤ atFst f xs ∧ atFst f xs < xs.length := by
  unfold atFst
  split
  · rename_i i h
    obtain ⟨h, _⟩ := List.findIdx?_eq_some_iff_getElem.1 h
    omega
  · omega
def kindX (ks : List Kd) (s : ByteArray) : Int := atFst (fun y => y.n.toList == s.toList) ks
def fieldX (fs : List Fd) (s : ByteArray) : Int := atFst (fun y => y.n.toList == s.toList) fs
def methX (ms : List Co) (s : ByteArray) : Int := atFst (fun y => y.n.toList == s.toList) ms
def fieldOfX (ks : List Kd) (k : Int) (s : ByteArray) : Int := if inB k 0 ((ks.length : Int) - 1) then fieldX (ks.getD k.toNat default).f s else -1
def methOfX (ks : List Kd) (k : Int) (s : ByteArray) : Int := if inB k 0 ((ks.length : Int) - 1) then methX (ks.getD k.toNat default).m s else -1
/-- From a up to b in n steps. -/
def subL (ks : List Kd) (b : Int) : Nat → Int → Bool
  | 0, _ => false
  | n + 1, a => if inB a 0 ((ks.length : Int) - 1) then (if a = b then true else subL ks b n (ks.getD a.toNat default).s) else false
def subX (ks : List Kd) (a b : Int) : Bool := subL ks b 7 a
theorem subL_no {ks : List Kd} {b : Int} (h : inB b 0 ((ks.length : Int) - 1) = false) : ∀ (n : Nat) (a : Int), subL ks b n a = false
  | 0, _ => rfl
  | n + 1, a => by
    unfold subL
    split
    · rename_i h1
      split
      · rename_i h2
        subst h2
        rw [h] at h1
        cases h1
      · exact subL_no h n _
    · rfl
set_option maxRecDepth 100000 in
set_option maxHeartbeats 4000000 in
theorem kindC (w : World) (x : Kd) (u1 u2 u3 : Value) (p : Nat) (s : ByteArray) (hp : w.cell? ⟨p, 0, none⟩ = some (.string s)) (hlt : p < w.heap.size) :
    Calls Try.prog 36 #[kdV x u1 u2 u3, .pointer (some ⟨p, 0, none⟩)] w fun e w' => e = .returned (.bool (x.n.toList == s.toList)) ∧ Below w.heap.size w w' := by
  unfold kdV
  go_enter Try.func36, Try.ntmps36
  go_wp2
  go_ret
  exact ⟨rfl, (Below.refl _ _).alloc (Nat.le_refl _) _⟩
set_option maxRecDepth 100000 in
set_option maxHeartbeats 4000000 in
theorem idxKind (w : World) (v : Value) (xs : List Kd) (p : Nat) (s : ByteArray) (h : Reads w w.heap.size (kins xs) v) (hm : xs.length ≤ 1048576) (hp : w.cell? ⟨p, 0, none⟩ = some (.string s)) (hlt0 : p < w.heap.size) :
    Calls Try.prog 35 #[v, .func (.func 36) #[] #[.pointer (some ⟨p, 0, none⟩)]] w fun e w' => e = .returned (.int .i64 (atFst (fun y => y.n.toList == s.toList) xs)) ∧ Below w.heap.size w w' := by
  have HX : Hid (∀ wr, Below w.heap.size w wr → _) := hide (fun wr hb => kind_at (h.at hb))
  have HY : Hid (∀ j, j < xs.length → ((xs.getD j default).n.toList == s.toList) = true → (∀ i, i < j → ((xs.getD i default).n.toList == s.toList) = false) → atFst (fun y => y.n.toList == s.toList) xs = (j : Int)) := hide (fun j hj h h0 => atFst_hit hj h h0)
  have HN : Hid ((∀ i, i < xs.length → ((xs.getD i default).n.toList == s.toList) = false) → atFst (fun y => y.n.toList == s.toList) xs = -1) := hide (fun h0 => atFst_no h0)
  obtain ⟨a, cap, rfl, _⟩ := kind_at h
  clear h
  generalize hn : xs.length = n at *
  generalize atFst (fun y => y.n.toList == s.toList) xs = V at *
  go_enter Try.func35, Try.ntmps35
  go_wp2
  go_loopw [8] (fun i wr => ∃ j : Nat, j ≤ n ∧ i = .int .i64 (j : Int) ∧ Hid (∀ i, i < j → ((xs.getD i default).n.toList == s.toList) = false) ∧ Hid (Below w.heap.size w wr)) (fun i _ => n - (intOf i).toNat)
  case atStart => exact ⟨0, Nat.zero_le _, rfl, hide (fun i hi => by omega), hide (Below.refl _ _)⟩
  case round =>
    obtain ⟨j, hj, rfl, HR, HB⟩ := hrel
    by_cases hlt : j < n
    · obtain ⟨a', cap', ea, _, _, hc⟩ := HX.out wr HB.out
      cases ea
      obtain ⟨b, o, rfl, _, hcell⟩ := hc (by omega)
      obtain ⟨pv1, pv2, pv3, e0, e1, e2, e3, e4, r1, r2, r3⟩ := hcell j hlt
      clear hcell hc
      obtain ⟨x, hx⟩ : ∃ x, xs.getD j default = x := ⟨_, rfl⟩
      rw [hx] at e0 e1 r1 r2 r3
      obtain ⟨aa1, cc1, ea1, _⟩ := r1.shape
      obtain ⟨aa2, cc2, ea2, _⟩ := r2.shape
      obtain ⟨aa3, cc3, ea3, _⟩ := r3.shape
      subst ea1 ea2 ea3
      clear r1 r2 r3
      have HX9 := hide hx
      clear hx
      go_wp2_with fail
      refine (kindC _ x _ _ _ p s ((HB.out.cell (p := ⟨p, 0, none⟩) hlt0).trans hp) (Nat.lt_of_lt_of_le hlt0 HB.out.size)).mono ?_
      rintro e w1 ⟨rfl, b1⟩
      replace HB := hide (HB.out.trans (b1.mono HB.out.size))
      clear b1
      cases c : (x.n.toList == s.toList) with
      | true =>
        have HF : Hid (V = (j : Int)) := hide (HY.out j hlt (by rw [HX9.out]; exact c) HR.out)
        go_wp2
        go_ret
        exact ⟨by rw [HF.out]; rfl, HB.out⟩
      | false =>
        have HR2 : Hid (∀ i, i < j + 1 → ((xs.getD i default).n.toList == s.toList) = false) := hide (fun i hi => by
          rcases Nat.lt_succ_iff_lt_or_eq.1 hi with h | rfl
          · exact HR.out i h
          · rw [HX9.out]; exact c)
        go_wp2
        exact ⟨⟨j + 1, by omega, by go_num, HR2, HB⟩, by simp [intOf]; omega⟩
    · obtain rfl : j = n := by omega
      have HF : Hid (V = -1) := hide (HN.out HR.out)
      go_wp2
      go_ret
      exact ⟨by rw [HF.out]; rfl, HB.out⟩
end Go.Proofs.Ytcocipbcoplmdaa
