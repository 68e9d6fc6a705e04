/-
  What MsgOf does, in the program.
-/
import Derived.Test.YtoaenoakdbieaaaDoorReadO
namespace Go.Proofs.YtoaenoakdbieaaaDoor
open Go.RowKit

def M0 : M := ⟨0, 0, 0, 0, 0, [], []⟩
/-- What MsgOf answers. -/
def ansOf (b : Nat) (r : Option M) (e : Ending) (w' : World) : Prop := ∃ u, e = .returned (.tuple #[u, .bool r.isSome]) ∧ RowM b w' u (r.getD M0)

theorem rowM_zero (b : Nat) (w : World) : RowM b w zeroM M0 := ⟨_, _, rfl, World.ownsRow_nil _ _ _ _, World.ownsRow_nil _ _ _ _, fun q hq => by cases hq⟩
theorem RowM.mono {b b' : Nat} {w : World} {u : Value} {m : M} (h : RowM b w u m) (hb : b' ≤ b) : RowM b' w u m := by
  obtain ⟨v5, v6, rfl, h5, h6, hn⟩ := h
  exact ⟨v5, v6, rfl, h5.mono hb, h6.mono hb, hn⟩

theorem mOf_none {zs : List Int} (h : rMsg zs 0 = none) : mOf zs = none := by unfold mOf; rw [h]; rfl
theorem mOf_end {zs : List Int} {m : M} {e : Nat} (h : rMsg zs 0 = some (m, e)) (he : e ≠ zs.length) : mOf zs = none := by
  unfold mOf; rw [h]; simp only [Option.bind_some]; rw [if_neg (fun hc => he hc.1)]
theorem mOf_bad {zs : List Int} {m : M} {e : Nat} (h : rMsg zs 0 = some (m, e)) (hb : m.ok = false) : mOf zs = none := by
  unfold mOf; rw [h]; simp only [Option.bind_some]; rw [if_neg (fun hc => by rw [hb] at hc; cases hc.2)]
theorem mOf_some {zs : List Int} {m : M} (h : rMsg zs 0 = some (m, zs.length)) (hb : m.ok = true) : mOf zs = some m := by
  unfold mOf; rw [h]; simp [hb]

theorem readMsgOf (w : World) (a : Option Addr) (len cap : Nat) (zs : List Int) (t : TypeId) (v : Value) (h0 : 0 < w.heap.size) (hin : In w w.heap.size a len zs) (hE : Err w t v) :
    Calls Tryd.prog 56 #[.slice a len cap, .int .i64 0, .func (.func 57) #[] #[]] w fun e w' => ansM w.heap.size (rMsg zs 0) e w' ∧ Below w.heap.size w w' :=
  readMsg w a len cap t v (rMsg zs 0) (fun W hb hp => rdMsg cap ⟨hin.low hb (Nat.le_refl _), Nat.le_add_right _ 3, by omega, hE.low hb h0, hp⟩)

theorem list_lens {α : Type} {f : Nat → Option (α × Nat)} : ∀ (n k e : Nat) (xs : List α), rList f n k = some (xs, e) → xs.length = n
  | 0, k, e, xs, h => by
    simp only [rList, Option.some.injEq, Prod.mk.injEq] at h
    rw [← h.1]; rfl
  | n + 1, k, e, xs, h => by
    rw [rList] at h
    obtain ⟨⟨x, kx⟩, hx, h⟩ := Option.bind_eq_some_iff.1 h
    obtain ⟨⟨ys, ky⟩, hy, h⟩ := Option.bind_eq_some_iff.1 h
    simp only [Option.some.injEq, Prod.mk.injEq] at h
    rw [← h.1, List.length_cons, list_lens n kx ky ys hy]
theorem rMsg_lens {zs : List Int} {m : M} {p e : Nat} (h : rMsg zs p = some (m, e)) : m.cs.length ≤ 1048576 ∧ m.ns.length ≤ 1048576 := by
  unfold rMsg at h
  obtain ⟨_, _, h⟩ := Option.bind_eq_some_iff.1 h
  obtain ⟨_, _, h⟩ := Option.bind_eq_some_iff.1 h
  obtain ⟨_, _, h⟩ := Option.bind_eq_some_iff.1 h
  obtain ⟨_, _, h⟩ := Option.bind_eq_some_iff.1 h
  obtain ⟨_, _, h⟩ := Option.bind_eq_some_iff.1 h
  obtain ⟨⟨cs, k5⟩, h5, h⟩ := Option.bind_eq_some_iff.1 h
  obtain ⟨⟨ns, k6⟩, h6, h⟩ := Option.bind_eq_some_iff.1 h
  simp only [Option.some.injEq, Prod.mk.injEq] at h
  obtain ⟨rfl, rfl⟩ := h
  unfold rMany at h5 h6
  obtain ⟨⟨n5, _⟩, _, h5⟩ := Option.bind_eq_some_iff.1 h5
  obtain ⟨⟨n6, _⟩, _, h6⟩ := Option.bind_eq_some_iff.1 h6
  simp only at h5 h6 ⊢
  split at h5
  · cases h5
  · split at h6
    · cases h6
    · have e5 := list_lens _ _ _ _ h5
      have e6 := list_lens _ _ _ _ h6
      exact ⟨by omega, by omega⟩

end Go.Proofs.YtoaenoakdbieaaaDoor
