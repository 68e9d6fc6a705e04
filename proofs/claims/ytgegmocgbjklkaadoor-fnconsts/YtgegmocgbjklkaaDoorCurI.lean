/-
  What the model's readers of numbers, words and texts do with a cursor that may stand anywhere.
-/
import Derived.Test.YtgegmocgbjklkaaDoorKMath
import Derived.Test.YtgegmocgbjklkaaDoorWordSpec
import Derived.RegionTactic
import Derived.BigRegion
import Derived.Deep.QuietTactic
import Derived.BigQuiet
namespace Go.Proofs.YtgegmocgbjklkaaDoor
open Go.RowKit

/-- The model's cursor. -/
structure CuI (w : World) (B : Nat) (a : Option Addr) (len cap : Nat) (zs : List Int) (g : Nat) (k : Int) (ok : Bool) : Prop where
  inp : In w B a len zs
  hB : B ≤ g
  pl : w.heap[g]? = some (.cells #[.slice a len cap, .int .i64 k, .bool ok] 60 (0, 0))
theorem CuI.lt {w : World} {B : Nat} {a : Option Addr} {len cap : Nat} {zs : List Int} {g : Nat} {k : Int} {ok : Bool} (h : CuI w B a len cap zs g k ok) : g < w.heap.size := (Array.getElem?_eq_some_iff.1 h.pl).1
theorem CuI.set {w : World} {B : Nat} {a : Option Addr} {len cap : Nat} {zs : List Int} {g : Nat} {k : Int} {ok : Bool} (h : CuI w B a len cap zs g k ok) (o : Nat) (u : Value) (k' : Int) (ok' : Bool) (hs : (#[.slice a len cap, .int .i64 k, .bool ok] : Array Value).setIfInBounds o u = #[.slice a len cap, .int .i64 k', .bool ok']) :
    CuI (w.setCell ⟨g, o, none⟩ u) B a len cap zs g k' ok' ∧ w.grownBy (w.setCell ⟨g, o, none⟩ u) (some g) := by
  have hg := grown_set (World.grownBy.refl w (some g)) o u
  refine ⟨⟨h.inp.out hg h.hB h.lt, h.hB, ?_⟩, hg⟩
  rw [heap_setCell_same w g o _ _ u h.pl, hs]
theorem CuI.fail {w : World} {B : Nat} {a : Option Addr} {len cap : Nat} {zs : List Int} {g : Nat} {k : Int} {ok : Bool} (h : CuI w B a len cap zs g k ok) :
    CuI (w.setCell ⟨g, 2, none⟩ (.bool false)) B a len cap zs g k false ∧ w.grownBy (w.setCell ⟨g, 2, none⟩ (.bool false)) (some g) := h.set 2 _ k false rfl
theorem CuI.okay {w : World} {B : Nat} {a : Option Addr} {len cap : Nat} {zs : List Int} {g : Nat} {k : Int} {ok : Bool} (h : CuI w B a len cap zs g k ok) (b : Bool) :
    CuI (w.setCell ⟨g, 2, none⟩ (.bool b)) B a len cap zs g k b ∧ w.grownBy (w.setCell ⟨g, 2, none⟩ (.bool b)) (some g) := h.set 2 _ k b rfl
theorem CuI.next {w : World} {B : Nat} {a : Option Addr} {len cap : Nat} {zs : List Int} {g : Nat} {k : Int} {ok : Bool} (h : CuI w B a len cap zs g k ok) (k' : Nat) :
    CuI (w.setCell ⟨g, 1, none⟩ (.int .i64 (k' : Int))) B a len cap zs g (k' : Int) ok ∧ w.grownBy (w.setCell ⟨g, 1, none⟩ (.int .i64 (k' : Int))) (some g) := h.set 1 _ k' ok rfl
theorem CuI.drewN {w w' : World} {B : Nat} {a : Option Addr} {len cap : Nat} {zs : List Int} {g : Nat} {k : Int} {ok : Bool} (h : CuI w' B a len cap zs g k ok ∧ w.grownBy w' (some g)) (q : Nat) : CuI (w'.drewN q) B a len cap zs g k ok ∧ w.grownBy (w'.drewN q) (some g) :=
  ⟨⟨h.1.inp, h.1.hB, h.1.pl⟩, ⟨h.2.os, h.2.tape, h.2.output, h.2.size, h.2.block⟩⟩
theorem CuI.far {w w' : World} {B : Nat} {a : Option Addr} {len cap : Nat} {zs : List Int} {g : Nat} {k : Int} {ok : Bool} {row : Option Nat} (h : CuI w B a len cap zs g k ok) (hg : w.grownBy w' row) (hne : ∀ q, row = some q → g < q) : CuI w' B a len cap zs g k ok := by
  have hl := h.lt
  have hB := h.hB
  exact ⟨h.inp.kept (fun q hq => hg.block q (by omega) (fun e => by have := hne q e.symm; omega)), hB, (hg.block g hl (fun e => by have := hne g e.symm; omega)).trans h.pl⟩

set_option maxRecDepth 100000 in
set_option maxHeartbeats 2000000 in
theorem l3NumI {w : World} {B : Nat} {a : Option Addr} {len cap : Nat} {zs : List Int} {g : Nat} {k : Int} {ok : Bool} (h : CuI w B a len cap zs g k ok) :
    Calls Tryd.prog 50 #[.pointer (some ⟨g, 0, none⟩)] w fun e w' => ((∃ n nx, ok = true ∧ gn zs k = some (n, nx) ∧ e = .returned (.int .i64 n) ∧ CuI w' B a len cap zs g (nx : Int) true) ∨ ((ok = false ∨ gn zs k = none) ∧ e = .returned (.int .i64 0) ∧ CuI w' B a len cap zs g k false)) ∧ w.grownBy w' (some g) := by
  have hget := fun q : Nat => getNumModel (w.drewN q) a len cap zs k B (h.inp.drewN q)
  have HC := hide h
  have X := box_of h.pl
  have HX := hide X.1
  have z1 := X.2 1
  have z2 := X.2 2
  have f0 := HX.out 0 _ rfl
  have f1 := HX.out 1 _ rfl
  have f2 := HX.out 2 _ rfl
  clear X h
  cases hr : gn zs k with
  | none =>
    rw [hr] at hget
    clear hr
    unfold ans at hget
    have HG := hide hget
    have HF := hide (HC.out.fail)
    clear hget
    cases ok with
    | true =>
      go_enter Tryd.func50, Tryd.ntmps50
      go_wp2
      go_quiet ((go_at_call 58; exact Calls.quiet_of_same (HG.out _)))
      go_wp2
      go_ret
      exact ⟨.inr ⟨.inr (by first | trivial | rfl), rfl, (CuI.drewN HF.out nq).1⟩, (CuI.drewN HF.out nq).2⟩
    | false =>
      go_enter Tryd.func50, Tryd.ntmps50
      go_wp2
      go_quiet ((go_at_call 58; exact Calls.quiet_of_same (HG.out _)))
      go_wp2
      go_ret
      exact ⟨.inr ⟨.inl (by first | trivial | rfl), rfl, (CuI.drewN HF.out nq).1⟩, (CuI.drewN HF.out nq).2⟩
  | some r =>
    obtain ⟨n, nx⟩ := r
    rw [hr] at hget
    clear hr
    unfold ans at hget
    have HG := hide hget
    clear hget
    cases ok with
    | true =>
      have HF := hide (HC.out.next nx)
      go_enter Tryd.func50, Tryd.ntmps50
      go_wp2
      go_quiet ((go_at_call 58; exact Calls.quiet_of_same (HG.out _)))
      go_wp2
      go_ret
      exact ⟨.inl ⟨n, nx, by first | trivial | rfl, by first | trivial | rfl, rfl, (CuI.drewN HF.out nq).1⟩, (CuI.drewN HF.out nq).2⟩
    | false =>
      have HF := hide (HC.out.fail)
      go_enter Tryd.func50, Tryd.ntmps50
      go_wp2
      go_quiet ((go_at_call 58; exact Calls.quiet_of_same (HG.out _)))
      go_wp2
      go_ret
      exact ⟨.inr ⟨.inl (by first | trivial | rfl), rfl, (CuI.drewN HF.out nq).1⟩, (CuI.drewN HF.out nq).2⟩

set_option maxRecDepth 100000 in
set_option maxHeartbeats 2000000 in
theorem l3WordI {w : World} {B : Nat} {a : Option Addr} {len cap : Nat} {zs : List Int} {g : Nat} {k : Int} {ok : Bool} (h : CuI w B a len cap zs g k ok) :
    Calls Tryd.prog 51 #[.pointer (some ⟨g, 0, none⟩)] w fun e w' => ((∃ n nx, ok = true ∧ gw zs k = some (n, nx) ∧ e = .returned (.int .i64 n) ∧ CuI w' B a len cap zs g (nx : Int) true) ∨ ((ok = false ∨ gw zs k = none) ∧ e = .returned (.int .i64 0) ∧ CuI w' B a len cap zs g k false)) ∧ w.grownBy w' (some g) := by
  have hget := fun q : Nat => getWordModel (w.drewN q) a len cap zs k B (h.inp.drewN q)
  have HC := hide h
  have X := box_of h.pl
  have HX := hide X.1
  have z1 := X.2 1
  have z2 := X.2 2
  have f0 := HX.out 0 _ rfl
  have f1 := HX.out 1 _ rfl
  have f2 := HX.out 2 _ rfl
  clear X h
  cases hr : gw zs k with
  | none =>
    rw [hr] at hget
    clear hr
    unfold ans at hget
    have HG := hide hget
    have HF := hide (HC.out.fail)
    clear hget
    cases ok with
    | true =>
      go_enter Tryd.func51, Tryd.ntmps51
      go_wp2
      go_quiet ((go_at_call 59; exact Calls.quiet_of (HG.out _)))
      go_wp2
      go_ret
      exact ⟨.inr ⟨.inr (by first | trivial | rfl), rfl, (CuI.drewN HF.out nq).1⟩, (CuI.drewN HF.out nq).2⟩
    | false =>
      go_enter Tryd.func51, Tryd.ntmps51
      go_wp2
      go_quiet ((go_at_call 59; exact Calls.quiet_of (HG.out _)))
      go_wp2
      go_ret
      exact ⟨.inr ⟨.inl (by first | trivial | rfl), rfl, (CuI.drewN HF.out nq).1⟩, (CuI.drewN HF.out nq).2⟩
  | some r =>
    obtain ⟨n, nx⟩ := r
    rw [hr] at hget
    clear hr
    unfold ans at hget
    have HG := hide hget
    clear hget
    cases ok with
    | true =>
      have HF := hide (HC.out.next nx)
      go_enter Tryd.func51, Tryd.ntmps51
      go_wp2
      go_quiet ((go_at_call 59; exact Calls.quiet_of (HG.out _)))
      go_wp2
      go_ret
      exact ⟨.inl ⟨n, nx, by first | trivial | rfl, by first | trivial | rfl, rfl, (CuI.drewN HF.out nq).1⟩, (CuI.drewN HF.out nq).2⟩
    | false =>
      have HF := hide (HC.out.fail)
      go_enter Tryd.func51, Tryd.ntmps51
      go_wp2
      go_quiet ((go_at_call 59; exact Calls.quiet_of (HG.out _)))
      go_wp2
      go_ret
      exact ⟨.inr ⟨.inl (by first | trivial | rfl), rfl, (CuI.drewN HF.out nq).1⟩, (CuI.drewN HF.out nq).2⟩

set_option maxRecDepth 100000 in
set_option maxHeartbeats 2000000 in
theorem l6TextI {w : World} {B : Nat} {a : Option Addr} {len cap : Nat} {zs : List Int} {g : Nat} {k : Int} {ok : Bool} (h : CuI w B a len cap zs g k ok) (hcap : len ≤ cap) :
    Calls Tryd.prog 52 #[.pointer (some ⟨g, 0, none⟩)] w fun e w' => ((∃ n nx, ok = true ∧ gtOf zs (gn zs k) = some (n, nx) ∧ e = .returned (.string n) ∧ CuI w' B a len cap zs g (nx : Int) true) ∨ ((ok = false ∨ gtOf zs (gn zs k) = none) ∧ e = .returned (.string noS) ∧ CuI w' B a len cap zs g k false)) ∧ w.grownBy w' (some g) := by
  have hget := fun q : Nat => getTextModel (w.drewN q) a len cap zs k B (h.inp.drewN q) hcap
  have HC := hide h
  have X := box_of h.pl
  have HX := hide X.1
  have z1 := X.2 1
  have z2 := X.2 2
  have f0 := HX.out 0 _ rfl
  have f1 := HX.out 1 _ rfl
  have f2 := HX.out 2 _ rfl
  clear X h
  cases hr : gtOf zs (gn zs k) with
  | none =>
    rw [hr] at hget
    clear hr
    unfold ansT at hget
    have HG := hide hget
    have HF := hide (HC.out.fail)
    clear hget
    cases ok with
    | true =>
      go_enter Tryd.func52, Tryd.ntmps52
      go_wp2
      go_quiet ((go_at_call 60; exact Calls.quiet_of_same (HG.out _)))
      go_wp2
      go_ret
      exact ⟨.inr ⟨.inr (by first | trivial | rfl), rfl, (CuI.drewN HF.out nq).1⟩, (CuI.drewN HF.out nq).2⟩
    | false =>
      go_enter Tryd.func52, Tryd.ntmps52
      go_wp2
      go_quiet ((go_at_call 60; exact Calls.quiet_of_same (HG.out _)))
      go_wp2
      go_ret
      exact ⟨.inr ⟨.inl (by first | trivial | rfl), rfl, (CuI.drewN HF.out nq).1⟩, (CuI.drewN HF.out nq).2⟩
  | some r =>
    obtain ⟨n, nx⟩ := r
    rw [hr] at hget
    clear hr
    unfold ansT at hget
    have HG := hide hget
    clear hget
    cases ok with
    | true =>
      have HF := hide (HC.out.next nx)
      go_enter Tryd.func52, Tryd.ntmps52
      go_wp2
      go_quiet ((go_at_call 60; exact Calls.quiet_of_same (HG.out _)))
      go_wp2
      go_ret
      exact ⟨.inl ⟨n, nx, by first | trivial | rfl, by first | trivial | rfl, rfl, (CuI.drewN HF.out nq).1⟩, (CuI.drewN HF.out nq).2⟩
    | false =>
      have HF := hide (HC.out.fail)
      go_enter Tryd.func52, Tryd.ntmps52
      go_wp2
      go_quiet ((go_at_call 60; exact Calls.quiet_of_same (HG.out _)))
      go_wp2
      go_ret
      exact ⟨.inr ⟨.inl (by first | trivial | rfl), rfl, (CuI.drewN HF.out nq).1⟩, (CuI.drewN HF.out nq).2⟩
end Go.Proofs.YtgegmocgbjklkaaDoor
