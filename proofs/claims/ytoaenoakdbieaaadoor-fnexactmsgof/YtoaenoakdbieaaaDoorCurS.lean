/-
  What l3Num and l3Word do: they go through bytes by a cursor, and say once that something was none.
-/
import Derived.Test.YtoaenoakdbieaaaDoorMsgOfJ
import Derived.Test.YtoaenoakdbieaaaDoorWordSpec
namespace Go.Proofs.YtoaenoakdbieaaaDoor
open Go.RowKit

/-- The model's cursor. -/
structure Cu (w : World) (B : Nat) (a : Option Addr) (len cap : Nat) (zs : List Int) (g k : Nat) (ok : Bool) : Prop where
  inp : In w B a len zs
  hB : B ≤ g
  pl : w.heap[g]? = some (.cells #[.slice a len cap, .int .i64 (k : Int), .bool ok] 94 (0, 0))
theorem Cu.lt {w : World} {B : Nat} {a : Option Addr} {len cap : Nat} {zs : List Int} {g k : Nat} {ok : Bool} (h : Cu w B a len cap zs g k ok) : g < w.heap.size := (Array.getElem?_eq_some_iff.1 h.pl).1
theorem Cu.set {w : World} {B : Nat} {a : Option Addr} {len cap : Nat} {zs : List Int} {g k : Nat} {ok : Bool} (h : Cu w B a len cap zs g k ok) (o : Nat) (u : Value) (k' : Nat) (ok' : Bool) (hs : (#[.slice a len cap, .int .i64 (k : Int), .bool ok] : Array Value).setIfInBounds o u = #[.slice a len cap, .int .i64 (k' : Int), .bool ok']) :
    Cu (w.setCell ⟨g, o, none⟩ u) B a len cap zs g k' ok' ∧ w.grownBy (w.setCell ⟨g, o, none⟩ u) (some g) := by
  have hg := grown_set (World.grownBy.refl w (some g)) o u
  refine ⟨⟨h.inp.out hg h.hB h.lt, h.hB, ?_⟩, hg⟩
  rw [heap_setCell_same w g o _ _ u h.pl, hs]
theorem Cu.fail {w : World} {B : Nat} {a : Option Addr} {len cap : Nat} {zs : List Int} {g k : Nat} {ok : Bool} (h : Cu w B a len cap zs g k ok) :
    Cu (w.setCell ⟨g, 2, none⟩ (.bool false)) B a len cap zs g k false ∧ w.grownBy (w.setCell ⟨g, 2, none⟩ (.bool false)) (some g) := h.set 2 _ k false rfl
theorem Cu.next {w : World} {B : Nat} {a : Option Addr} {len cap : Nat} {zs : List Int} {g k : Nat} {ok : Bool} (h : Cu w B a len cap zs g k ok) (k' : Nat) :
    Cu (w.setCell ⟨g, 1, none⟩ (.int .i64 (k' : Int))) B a len cap zs g k' ok ∧ w.grownBy (w.setCell ⟨g, 1, none⟩ (.int .i64 (k' : Int))) (some g) := h.set 1 _ k' ok rfl
theorem Cu.drewN {w w' : World} {B : Nat} {a : Option Addr} {len cap : Nat} {zs : List Int} {g k : Nat} {ok : Bool} (h : Cu w' B a len cap zs g k ok ∧ w.grownBy w' (some g)) (q : Nat) : Cu (w'.drewN q) B a len cap zs g k ok ∧ w.grownBy (w'.drewN q) (some g) :=
  ⟨⟨h.1.inp, h.1.hB, h.1.pl⟩, ⟨h.2.os, h.2.tape, h.2.output, h.2.size, h.2.block⟩⟩
theorem Cu.far {w w' : World} {B : Nat} {a : Option Addr} {len cap : Nat} {zs : List Int} {g k : Nat} {ok : Bool} {row : Option Nat} (h : Cu w B a len cap zs g k ok) (hg : w.grownBy w' row) (hne : ∀ q, row = some q → g < q) : Cu w' B a len cap zs g k ok := by
  have hl := h.lt
  have hB := h.hB
  exact ⟨h.inp.kept (fun q hq => hg.block q (by omega) (fun e => by have := hne q e.symm; omega)), hB, (hg.block g hl (fun e => by have := hne g e.symm; omega)).trans h.pl⟩

set_option maxRecDepth 100000 in
set_option maxHeartbeats 2000000 in
theorem l3Num {w : World} {B : Nat} {a : Option Addr} {len cap : Nat} {zs : List Int} {g k : Nat} {ok : Bool} (h : Cu w B a len cap zs g k ok) :
    Calls Tryd.prog 63 #[.pointer (some ⟨g, 0, none⟩)] w fun e w' => ∃ (n : Int) (k' : Nat) (ok' : Bool), e = .returned (.int .i64 n) ∧ Cu w' B a len cap zs g k' ok' ∧ w.grownBy w' (some g) ∧ ((ok' = true ∧ ok = true ∧ gnF zs 4 k 0 1 = some (n, k')) ∨ (ok' = false ∧ n = 0 ∧ k' = k ∧ (ok = false ∨ gnF zs 4 k 0 1 = none))) := by
  have hget : ∀ q, Calls Tryd.prog 110 #[.slice a len cap, .int .i64 (k : Int)] (w.drewN q) fun e w' => e = .returned (ans (gnF zs 4 k 0 1)) ∧ w' = w.drewN q := fun q => getNumSpec (w.drewN q) a len cap zs k B (h.inp.drewN q)
  have HC := hide h
  have X := box_of h.pl
  have HX := hide X.1
  have z1 := X.2 1
  have z2 := X.2 2
  have f0 := HX.out 0 _ rfl
  have f1 := HX.out 1 _ rfl
  have f2 := HX.out 2 _ rfl
  clear X h
  cases hr : gnF zs 4 k 0 1 with
  | none =>
    have HR := hide hr
    rw [hr] at hget
    clear hr
    unfold ans at hget
    have HG := hide hget
    have HF := hide (HC.out.fail)
    clear hget
    cases ok with
    | true =>
      go_enter Tryd.func63, Tryd.ntmps63
      go_wp2
      go_quiet ((go_at_call 110; exact Calls.quiet_of_same (HG.out _)))
      go_wp2
      go_ret
      exact ⟨_, k, false, rfl, (Cu.drewN HF.out nq).1, (Cu.drewN HF.out nq).2, by have := HR.out; simp_all⟩
    | false =>
      go_enter Tryd.func63, Tryd.ntmps63
      go_wp2
      go_quiet ((go_at_call 110; exact Calls.quiet_of_same (HG.out _)))
      go_wp2
      go_ret
      exact ⟨_, k, false, rfl, (Cu.drewN HF.out nq).1, (Cu.drewN HF.out nq).2, by have := HR.out; simp_all⟩
  | some r =>
    obtain ⟨n, nx⟩ := r
    have HR := hide hr
    rw [hr] at hget
    clear hr
    unfold ans at hget
    have HG := hide hget
    clear hget
    cases ok with
    | true =>
      have HF := hide (HC.out.next nx)
      go_enter Tryd.func63, Tryd.ntmps63
      go_wp2
      go_quiet ((go_at_call 110; exact Calls.quiet_of_same (HG.out _)))
      go_wp2
      go_ret
      exact ⟨_, nx, true, rfl, (Cu.drewN HF.out nq).1, (Cu.drewN HF.out nq).2, by have := HR.out; simp_all⟩
    | false =>
      have HF := hide (HC.out.fail)
      go_enter Tryd.func63, Tryd.ntmps63
      go_wp2
      go_quiet ((go_at_call 110; exact Calls.quiet_of_same (HG.out _)))
      go_wp2
      go_ret
      exact ⟨_, k, false, rfl, (Cu.drewN HF.out nq).1, (Cu.drewN HF.out nq).2, by have := HR.out; simp_all⟩

set_option maxRecDepth 100000 in
set_option maxHeartbeats 2000000 in
theorem l3Word {w : World} {B : Nat} {a : Option Addr} {len cap : Nat} {zs : List Int} {g k : Nat} {ok : Bool} (h : Cu w B a len cap zs g k ok) :
    Calls Tryd.prog 64 #[.pointer (some ⟨g, 0, none⟩)] w fun e w' => ∃ (n : Int) (k' : Nat) (ok' : Bool), e = .returned (.int .i64 n) ∧ Cu w' B a len cap zs g k' ok' ∧ w.grownBy w' (some g) ∧ ((ok' = true ∧ ok = true ∧ gw zs (k : Int) = some (n, k')) ∨ (ok' = false ∧ n = 0 ∧ k' = k ∧ (ok = false ∨ gw zs (k : Int) = none))) := by
  have hget : ∀ q, Calls Tryd.prog 111 #[.slice a len cap, .int .i64 (k : Int)] (w.drewN q) fun e w' => e = .returned (ans (gw zs (k : Int))) ∧ ∃ q', w' = (w.drewN q).drewN q' := fun q => getWordModel (w.drewN q) a len cap zs (k : Int) B (h.inp.drewN q)
  have HC := hide h
  have X := box_of h.pl
  have HX := hide X.1
  have z1 := X.2 1
  have z2 := X.2 2
  have f0 := HX.out 0 _ rfl
  have f1 := HX.out 1 _ rfl
  have f2 := HX.out 2 _ rfl
  clear X h
  cases hr : gw zs (k : Int) with
  | none =>
    have HR := hide hr
    rw [hr] at hget
    clear hr
    unfold ans at hget
    have HG := hide hget
    have HF := hide (HC.out.fail)
    clear hget
    cases ok with
    | true =>
      go_enter Tryd.func64, Tryd.ntmps64
      go_wp2
      go_quiet ((go_at_call 111; exact Calls.quiet_of (HG.out _)))
      go_wp2
      go_ret
      exact ⟨_, k, false, rfl, (Cu.drewN HF.out nq).1, (Cu.drewN HF.out nq).2, by have := HR.out; simp_all⟩
    | false =>
      go_enter Tryd.func64, Tryd.ntmps64
      go_wp2
      go_quiet ((go_at_call 111; exact Calls.quiet_of (HG.out _)))
      go_wp2
      go_ret
      exact ⟨_, k, false, rfl, (Cu.drewN HF.out nq).1, (Cu.drewN HF.out nq).2, by have := HR.out; simp_all⟩
  | some r =>
    obtain ⟨n, nx⟩ := r
    have HR := hide hr
    rw [hr] at hget
    clear hr
    unfold ans at hget
    have HG := hide hget
    clear hget
    cases ok with
    | true =>
      have HF := hide (HC.out.next nx)
      go_enter Tryd.func64, Tryd.ntmps64
      go_wp2
      go_quiet ((go_at_call 111; exact Calls.quiet_of (HG.out _)))
      go_wp2
      go_ret
      exact ⟨_, nx, true, rfl, (Cu.drewN HF.out nq).1, (Cu.drewN HF.out nq).2, by have := HR.out; simp_all⟩
    | false =>
      have HF := hide (HC.out.fail)
      go_enter Tryd.func64, Tryd.ntmps64
      go_wp2
      go_quiet ((go_at_call 111; exact Calls.quiet_of (HG.out _)))
      go_wp2
      go_ret
      exact ⟨_, k, false, rfl, (Cu.drewN HF.out nq).1, (Cu.drewN HF.out nq).2, by have := HR.out; simp_all⟩
end Go.Proofs.YtoaenoakdbieaaaDoor
