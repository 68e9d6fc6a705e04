/-
  Joined: CurI, ConstOfS, CurU.
-/
import Derived.Test.YtpgmipbanpofaaaGreatDoorJ13
import Derived.Test.YtpgmipbanpofaaaGreatDoorJ23
import Derived.RegionTactic
import Derived.BigRegion
import Derived.Deep.QuietTactic
import Derived.BigQuiet
import Derived.Deep.CutRange
import Derived.Test.YtpgmipbanpofaaaGreatDoorJ21
/-
  What the model's readers of numbers, words and texts do with a cursor that may stand anywhere.
-/
namespace Go.Proofs.YtpgmipbanpofaaaGreatDoor
open Go.RowKit

/-- The model's cursor. -/
structure CuI (w : World) (B : Nat) (a : Option Addr) (len cap : Nat) (zs : List Int) (g : Nat) (k : Int) (ok : Bool) : Prop where
  inp : In w B a len zs
  hB : B ≤ g
  pl : w.heap[g]? = some (.cells #[.slice a len cap, .int .i64 k, .bool ok] 38 (0, 0))
theorem CuI.lt {w : World} {B : Nat} {a : Option Addr} {len cap : Nat} {zs : List Int} {g : Nat} {k : Int} {ok : Bool} (h : CuI w B a len cap zs g k ok) : g < w.heap.size := (Array.getElem?_eq_some_iff.1 h.pl).1
theorem CuI.set {w : World} {B : Nat} {a : Option Addr} {len cap : Nat} {zs : List Int} {g : Nat} {k : Int} {ok : Bool} (h : CuI w B a len cap zs g k ok) (o : Nat) (u : Value) (k' : Int) (ok' : Bool) (hs : (#[.slice a len cap, .int .i64 k, .bool ok] : Array Value).setIfInBounds o u = #[.slice a len cap, .int .i64 k', .bool ok']) :
    CuI (w.setCell ⟨g, o, none⟩ u) B a len cap zs g k' ok' ∧ w.grownBy (w.setCell ⟨g, o, none⟩ u) (some g) := by
  have hg := grown_set (World.grownBy.refl w (some g)) o u
  refine ⟨⟨h.inp.out hg h.hB h.lt, h.hB, ?_⟩, hg⟩
  rw [heap_setCell_same w g o _ _ u h.pl, hs]
theorem CuI.fail {w : World} {B : Nat} {a : Option Addr} {len cap : Nat} {zs : List Int} {g : Nat} {k : Int} {ok : Bool} (h : CuI w B a len cap zs g k ok) :
    CuI (w.setCell ⟨g, 2, none⟩ (.bool false)) B a len cap zs g k false ∧ w.grownBy (w.setCell ⟨g, 2, none⟩ (.bool false)) (some g) := h.set 2 _ k false rfl
theorem CuI.okay {w : World} {B : Nat} {a : Option Addr} {len cap : Nat} {zs : List Int} {g : Nat} {k : Int} {ok : Bool} (h : CuI w B a len cap zs g k ok) (b : Bool) :
    CuI (w.setCell ⟨g, 2, none⟩ (.bool b)) B a len cap zs g k b ∧ w.grownBy (w.setCell ⟨g, 2, none⟩ (.bool b)) (some g) := h.set 2 _ k b rfl
theorem CuI.next {w : World} {B : Nat} {a : Option Addr} {len cap : Nat} {zs : List Int} {g : Nat} {k : Int} {ok : Bool} (h : CuI w B a len cap zs g k ok) (k' : Nat) :
    CuI (w.setCell ⟨g, 1, none⟩ (.int .i64 (k' : Int))) B a len cap zs g (k' : Int) ok ∧ w.grownBy (w.setCell ⟨g, 1, none⟩ (.int .i64 (k' : Int))) (some g) := h.set 1 _ k' ok rfl
theorem CuI.drewN {w w' : World} {B : Nat} {a : Option Addr} {len cap : Nat} {zs : List Int} {g : Nat} {k : Int} {ok : Bool} (h : CuI w' B a len cap zs g k ok ∧ w.grownBy w' (some g)) (q : Nat) : CuI (w'.drewN q) B a len cap zs g k ok ∧ w.grownBy (w'.drewN q) (some g) :=
  ⟨⟨h.1.inp, h.1.hB, h.1.pl⟩, ⟨h.2.os, h.2.tape, h.2.output, h.2.size, h.2.block⟩⟩
theorem CuI.far {w w' : World} {B : Nat} {a : Option Addr} {len cap : Nat} {zs : List Int} {g : Nat} {k : Int} {ok : Bool} {row : Option Nat} (h : CuI w B a len cap zs g k ok) (hg : w.grownBy w' row) (hne : ∀ q, row = some q → g < q) : CuI w' B a len cap zs g k ok := by
  have hl := h.lt
  have hB := h.hB
  exact ⟨h.inp.kept (fun q hq => hg.block q (by omega) (fun e => by have := hne q e.symm; omega)), hB, (hg.block g hl (fun e => by have := hne g e.symm; omega)).trans h.pl⟩

set_option maxRecDepth 100000 in
set_option maxHeartbeats 2000000 in
theorem l3NumI {w : World} {B : Nat} {a : Option Addr} {len cap : Nat} {zs : List Int} {g : Nat} {k : Int} {ok : Bool} (h : CuI w B a len cap zs g k ok) :
    Calls Tryz.prog 13 #[.pointer (some ⟨g, 0, none⟩)] w fun e w' => ((∃ n nx, ok = true ∧ gn zs k = some (n, nx) ∧ e = .returned (.int .i64 n) ∧ CuI w' B a len cap zs g (nx : Int) true) ∨ ((ok = false ∨ gn zs k = none) ∧ e = .returned (.int .i64 0) ∧ CuI w' B a len cap zs g k false)) ∧ w.grownBy w' (some g) := by
  have hget := fun q : Nat => getNumModel (w.drewN q) a len cap zs k B (h.inp.drewN q)
  have HC := hide h
  have X := box_of h.pl
  have HX := hide X.1
  have z1 := X.2 1
  have z2 := X.2 2
  have f0 := HX.out 0 _ rfl
  have f1 := HX.out 1 _ rfl
  have f2 := HX.out 2 _ rfl
  clear X h
  cases hr : gn zs k with
  | none =>
    rw [hr] at hget
    clear hr
    unfold ans at hget
    have HG := hide hget
    have HF := hide (HC.out.fail)
    clear hget
    cases ok with
    | true =>
      go_enter Tryz.func13, Tryz.ntmps13
      go_wp2
      go_quiet ((go_at_call 30; exact Calls.quiet_of_same (HG.out _)))
      go_wp2
      go_ret
      exact ⟨.inr ⟨.inr (by first | trivial | rfl), rfl, (CuI.drewN HF.out nq).1⟩, (CuI.drewN HF.out nq).2⟩
    | false =>
      go_enter Tryz.func13, Tryz.ntmps13
      go_wp2
      go_quiet ((go_at_call 30; exact Calls.quiet_of_same (HG.out _)))
      go_wp2
      go_ret
      exact ⟨.inr ⟨.inl (by first | trivial | rfl), rfl, (CuI.drewN HF.out nq).1⟩, (CuI.drewN HF.out nq).2⟩
  | some r =>
    obtain ⟨n, nx⟩ := r
    rw [hr] at hget
    clear hr
    unfold ans at hget
    have HG := hide hget
    clear hget
    cases ok with
    | true =>
      have HF := hide (HC.out.next nx)
      go_enter Tryz.func13, Tryz.ntmps13
      go_wp2
      go_quiet ((go_at_call 30; exact Calls.quiet_of_same (HG.out _)))
      go_wp2
      go_ret
      exact ⟨.inl ⟨n, nx, by first | trivial | rfl, by first | trivial | rfl, rfl, (CuI.drewN HF.out nq).1⟩, (CuI.drewN HF.out nq).2⟩
    | false =>
      have HF := hide (HC.out.fail)
      go_enter Tryz.func13, Tryz.ntmps13
      go_wp2
      go_quiet ((go_at_call 30; exact Calls.quiet_of_same (HG.out _)))
      go_wp2
      go_ret
      exact ⟨.inr ⟨.inl (by first | trivial | rfl), rfl, (CuI.drewN HF.out nq).1⟩, (CuI.drewN HF.out nq).2⟩

set_option maxRecDepth 100000 in
set_option maxHeartbeats 2000000 in
theorem l3WordI {w : World} {B : Nat} {a : Option Addr} {len cap : Nat} {zs : List Int} {g : Nat} {k : Int} {ok : Bool} (h : CuI w B a len cap zs g k ok) :
    Calls Tryz.prog 31 #[.pointer (some ⟨g, 0, none⟩)] w fun e w' => ((∃ n nx, ok = true ∧ gw zs k = some (n, nx) ∧ e = .returned (.int .i64 n) ∧ CuI w' B a len cap zs g (nx : Int) true) ∨ ((ok = false ∨ gw zs k = none) ∧ e = .returned (.int .i64 0) ∧ CuI w' B a len cap zs g k false)) ∧ w.grownBy w' (some g) := by
  have hget := fun q : Nat => getWordModel (w.drewN q) a len cap zs k B (h.inp.drewN q)
  have HC := hide h
  have X := box_of h.pl
  have HX := hide X.1
  have z1 := X.2 1
  have z2 := X.2 2
  have f0 := HX.out 0 _ rfl
  have f1 := HX.out 1 _ rfl
  have f2 := HX.out 2 _ rfl
  clear X h
  cases hr : gw zs k with
  | none =>
    rw [hr] at hget
    clear hr
    unfold ans at hget
    have HG := hide hget
    have HF := hide (HC.out.fail)
    clear hget
    cases ok with
    | true =>
      go_enter Tryz.func31, Tryz.ntmps31
      go_wp2
      go_quiet ((go_at_call 53; exact Calls.quiet_of (HG.out _)))
      go_wp2
      go_ret
      exact ⟨.inr ⟨.inr (by first | trivial | rfl), rfl, (CuI.drewN HF.out nq).1⟩, (CuI.drewN HF.out nq).2⟩
    | false =>
      go_enter Tryz.func31, Tryz.ntmps31
      go_wp2
      go_quiet ((go_at_call 53; exact Calls.quiet_of (HG.out _)))
      go_wp2
      go_ret
      exact ⟨.inr ⟨.inl (by first | trivial | rfl), rfl, (CuI.drewN HF.out nq).1⟩, (CuI.drewN HF.out nq).2⟩
  | some r =>
    obtain ⟨n, nx⟩ := r
    rw [hr] at hget
    clear hr
    unfold ans at hget
    have HG := hide hget
    clear hget
    cases ok with
    | true =>
      have HF := hide (HC.out.next nx)
      go_enter Tryz.func31, Tryz.ntmps31
      go_wp2
      go_quiet ((go_at_call 53; exact Calls.quiet_of (HG.out _)))
      go_wp2
      go_ret
      exact ⟨.inl ⟨n, nx, by first | trivial | rfl, by first | trivial | rfl, rfl, (CuI.drewN HF.out nq).1⟩, (CuI.drewN HF.out nq).2⟩
    | false =>
      have HF := hide (HC.out.fail)
      go_enter Tryz.func31, Tryz.ntmps31
      go_wp2
      go_quiet ((go_at_call 53; exact Calls.quiet_of (HG.out _)))
      go_wp2
      go_ret
      exact ⟨.inr ⟨.inl (by first | trivial | rfl), rfl, (CuI.drewN HF.out nq).1⟩, (CuI.drewN HF.out nq).2⟩

set_option maxRecDepth 100000 in
set_option maxHeartbeats 2000000 in
theorem l6TextI {w : World} {B : Nat} {a : Option Addr} {len cap : Nat} {zs : List Int} {g : Nat} {k : Int} {ok : Bool} (h : CuI w B a len cap zs g k ok) (hcap : len ≤ cap) :
    Calls Tryz.prog 12 #[.pointer (some ⟨g, 0, none⟩)] w fun e w' => ((∃ n nx, ok = true ∧ gtOf zs (gn zs k) = some (n, nx) ∧ e = .returned (.string n) ∧ CuI w' B a len cap zs g (nx : Int) true) ∨ ((ok = false ∨ gtOf zs (gn zs k) = none) ∧ e = .returned (.string noS) ∧ CuI w' B a len cap zs g k false)) ∧ w.grownBy w' (some g) := by
  have hget := fun q : Nat => getTextModel (w.drewN q) a len cap zs k B (h.inp.drewN q) hcap
  have HC := hide h
  have X := box_of h.pl
  have HX := hide X.1
  have z1 := X.2 1
  have z2 := X.2 2
  have f0 := HX.out 0 _ rfl
  have f1 := HX.out 1 _ rfl
  have f2 := HX.out 2 _ rfl
  clear X h
  cases hr : gtOf zs (gn zs k) with
  | none =>
    rw [hr] at hget
    clear hr
    unfold ansT at hget
    have HG := hide hget
    have HF := hide (HC.out.fail)
    clear hget
    cases ok with
    | true =>
      go_enter Tryz.func12, Tryz.ntmps12
      go_wp2
      go_quiet ((go_at_call 29; exact Calls.quiet_of_same (HG.out _)))
      go_wp2
      go_ret
      exact ⟨.inr ⟨.inr (by first | trivial | rfl), rfl, (CuI.drewN HF.out nq).1⟩, (CuI.drewN HF.out nq).2⟩
    | false =>
      go_enter Tryz.func12, Tryz.ntmps12
      go_wp2
      go_quiet ((go_at_call 29; exact Calls.quiet_of_same (HG.out _)))
      go_wp2
      go_ret
      exact ⟨.inr ⟨.inl (by first | trivial | rfl), rfl, (CuI.drewN HF.out nq).1⟩, (CuI.drewN HF.out nq).2⟩
  | some r =>
    obtain ⟨n, nx⟩ := r
    rw [hr] at hget
    clear hr
    unfold ansT at hget
    have HG := hide hget
    clear hget
    cases ok with
    | true =>
      have HF := hide (HC.out.next nx)
      go_enter Tryz.func12, Tryz.ntmps12
      go_wp2
      go_quiet ((go_at_call 29; exact Calls.quiet_of_same (HG.out _)))
      go_wp2
      go_ret
      exact ⟨.inl ⟨n, nx, by first | trivial | rfl, by first | trivial | rfl, rfl, (CuI.drewN HF.out nq).1⟩, (CuI.drewN HF.out nq).2⟩
    | false =>
      have HF := hide (HC.out.fail)
      go_enter Tryz.func12, Tryz.ntmps12
      go_wp2
      go_quiet ((go_at_call 29; exact Calls.quiet_of_same (HG.out _)))
      go_wp2
      go_ret
      exact ⟨.inr ⟨.inl (by first | trivial | rfl), rfl, (CuI.drewN HF.out nq).1⟩, (CuI.drewN HF.out nq).2⟩
end Go.Proofs.YtpgmipbanpofaaaGreatDoor
/-
  What l6Const does: the const that begins at the cursor's place, by the model.
-/
namespace Go.Proofs.YtpgmipbanpofaaaGreatDoor
open Go.RowKit Go.Maps

theorem CuI.mine {w : World} {B : Nat} {a : Option Addr} {len cap : Nat} {zs : List Int} {g l : Nat} {k : Int} {ok : Bool} (h : CuI w B a len cap zs g k ok) (hl : g < l) (o : Nat) (u : Value) : CuI (w.setCell ⟨l, o, none⟩ u) B a len cap zs g k ok :=
  h.far (grown_set (g := l) (World.grownBy.refl w (some l)) o u) (fun q hq => by cases hq; exact hl)
theorem put4at {w : World} {g : Nat} {T : TypeId} {xs : Array Value} (h : w.heap[g]? = some (.cells xs T (0, 0))) (o : Nat) (v : Value) : (w.setCell ⟨g, o, none⟩ v).heap[g]? = some (.cells (xs.setIfInBounds o v) T (0, 0)) := heap_setCell_same w g o _ T v h
theorem cOf_gn {zs : List Int} {k : Int} {kd : Int} {k1 : Nat} (h : gn zs k = some (kd, k1)) : cOf zs k = (rKk zs kd k1).bind fun q => if cOk q.1 = true then some q else none := by
  unfold cOf
  rw [rK0_eq, h]
  rfl
theorem cOf_gn0 {zs : List Int} {k : Int} (h : gn zs k = none) : cOf zs k = none := by
  unfold cOf
  rw [rK0_eq, h]
  rfl
theorem kOk_other {kd n : Int} {a b : ByteArray} (h1 : ¬ kd = 1) (h2 : ¬ kd = 2) (h3 : ¬ (kd = 3 ∨ kd = 4)) : kOk kd n a b = false := by simp [kOk, h1, h2, h3]
theorem rK_1 {zs : List Int} {k : Nat} {n : Int} {nx : Nat} (h : gw zs k = some (n, nx)) : rKk zs 1 k = some ((1, n, noS, noS), nx) := by unfold rKk; rw [if_pos rfl, h]; rfl
theorem rK_1n {zs : List Int} {k : Nat} (h : gw zs k = none) : rKk zs 1 k = none := by unfold rKk; rw [if_pos rfl, h]; rfl
theorem rK_2 {zs : List Int} {k : Nat} {s : ByteArray} {nx : Nat} (h : gtOf zs (gn zs k) = some (s, nx)) : rKk zs 2 k = some ((2, 0, s, noS), nx) := by unfold rKk gtx; rw [if_neg (by decide), if_pos rfl, h]; rfl
theorem rK_2n {zs : List Int} {k : Nat} (h : gtOf zs (gn zs k) = none) : rKk zs 2 k = none := by unfold rKk gtx; rw [if_neg (by decide), if_pos rfl, h]; rfl
/-- Two texts read, of a kind that is neither a word's nor a class's. -/
theorem rK_3 {zs : List Int} {kd : Int} {k : Nat} {s u : ByteArray} {nx ny : Nat} (h1 : ¬ kd = 1) (h2 : ¬ kd = 2) (h : gtOf zs (gn zs k) = some (s, nx)) (h' : gtOf zs (gn zs nx) = some (u, ny)) (b : Bool) (hb : kOk kd 0 s u = b) :
    ((rKk zs kd k).bind fun q => if cOk q.1 = true then some q else none) = bif b then some ((kd, 0, s, u), ny) else none := by
  by_cases h3 : kd = 3 ∨ kd = 4
  · unfold rKk gtx
    rw [if_neg h1, if_neg h2, if_pos h3, h, Option.bind_some, h', Option.map_some, Option.bind_some]
    unfold cOk
    simp only [hb]
    cases b <;> rfl
  · rw [kOk_other h1 h2 h3] at hb
    subst hb
    unfold rKk
    rw [if_neg h1, if_neg h2, if_neg h3, Option.bind_some]
    unfold cOk
    simp only [kOk_other h1 h2 h3]
    rfl
theorem rK_3n {zs : List Int} {kd : Int} {k : Nat} (h1 : ¬ kd = 1) (h2 : ¬ kd = 2) (h : gtOf zs (gn zs k) = none ∨ ∃ s nx, gtOf zs (gn zs k) = some (s, nx) ∧ gtOf zs (gn zs (nx : Nat)) = none) :
    ((rKk zs kd k).bind fun q => if cOk q.1 = true then some q else none) = none := by
  by_cases h3 : kd = 3 ∨ kd = 4
  · unfold rKk gtx
    rw [if_neg h1, if_neg h2, if_pos h3]
    rcases h with h | ⟨s, nx, h, h'⟩
    · rw [h]; rfl
    · rw [h, Option.bind_some, h']; rfl
  · unfold rKk
    rw [if_neg h1, if_neg h2, if_neg h3, Option.bind_some]
    unfold cOk
    simp only [kOk_other h1 h2 h3]
    rfl
theorem gt_small {zs : List Int} {k : Int} {s : ByteArray} {nx : Nat} (h : gtOf zs (gn zs k) = some (s, nx)) : s.size ≤ maxLen := by
  have := gtx_size h
  unfold maxLen
  omega
def endK (B : Nat) (a : Option Addr) (len cap : Nat) (zs : List Int) (g : Nat) (k : Int) (e : Ending) (w' : World) : Prop :=
  (∃ c nx, cOf zs k = some (c, nx) ∧ e = .returned (cV c) ∧ CuI w' B a len cap zs g (nx : Nat) true) ∨ (cOf zs k = none ∧ ∃ c k', e = .returned (cV c) ∧ CuI w' B a len cap zs g k' false)
theorem noS_small : noS.size ≤ maxLen := by simp [maxLen, ByteArray.size]

set_option maxRecDepth 100000 in
set_option maxHeartbeats 8000000 in
theorem l6ConstI (w : World) (B : Nat) (a : Option Addr) (len cap : Nat) (zs : List Int) (g : Nat) (k : Int) (h : CuI w B a len cap zs g k true) (hcap : len ≤ cap) :
    Calls Tryz.prog 14 #[.pointer (some ⟨g, 0, none⟩)] w fun e w' => endK B a len cap zs g k e w' ∧ w.grownBy w' (some g) := by
  have hgl := h.lt
  have hgA := World.grownBy_alloc w (.cells #[.int .i64 0, .int .i64 0, .string noS, .string noS] 42) (some g)
  have E0 := hide (heap_alloc_new w (.cells #[.int .i64 0, .int .i64 0, .string noS, .string noS] 42))
  have HC := hide (h.far (World.grownBy_alloc w (.cells #[.int .i64 0, .int .i64 0, .string noS, .string noS] 42) none) (fun q hq => by cases hq))
  have HG := hide hgA
  clear h hgA
  go_enter Tryz.func14, Tryz.ntmps14
  go_wp2_with fail
  refine (l3NumI HC.out).mono ?_
  rintro e w1 ⟨h1, g1⟩
  replace HG := hide (grown_step HG.out g1 (fun k hk => by cases hk; exact .inl rfl))
  replace E0 := hide ((g1.block w.heap.size (Array.getElem?_eq_some_iff.1 E0.out).1 (by simp; omega)).trans E0.out)
  have hs1 : w.heap.size < w1.heap.size := by have := g1.size; simp at this; omega
  clear g1 HC
  rcases h1 with ⟨kd, k1, _, hr, rfl, hc1⟩ | ⟨hr, rfl, hc1⟩
  · have HC := hide hc1
    clear hc1
    by_cases e1 : kd = 1
    · subst e1
      have E1 := hide (heap_alloc_new w1 (.cells #[.int .i64 1, .int .i64 0, .string noS, .string noS] 42))
      replace HC := hide (HC.out.far (World.grownBy_alloc w1 (.cells #[.int .i64 1, .int .i64 0, .string noS, .string noS] 42) none) (fun q hq => by cases hq))
      replace HG := hide (grown_step HG.out (World.grownBy_alloc w1 (.cells #[.int .i64 1, .int .i64 0, .string noS, .string noS] 42) none) (fun k hk => by cases hk))
      replace E0 := hide ((World.grownBy_alloc w1 (.cells #[.int .i64 1, .int .i64 0, .string noS, .string noS] 42) none).block w.heap.size hs1 (by simp) |>.trans E0.out)
      go_upto_region 2 with fail
      generalize w1.alloc (.cells #[.int .i64 1, .int .i64 0, .string noS, .string noS] 42) = W1 at *
      have HXa := hide (box_of E1.out).1
      have a0 := HXa.out 0 _ rfl
      have a1 := HXa.out 1 _ rfl
      have a2 := HXa.out 2 _ rfl
      have a3 := HXa.out 3 _ rfl
      go_wp2_with fail
      clear a0 a1 a2 a3 HXa
      refine (l3WordI HC.out).mono ?_
      rintro e w2 ⟨h2, g2⟩
      replace HG := hide (grown_step HG.out g2 (fun k hk => by cases hk; exact .inl rfl))
      replace E0 := hide ((g2.block w.heap.size (Array.getElem?_eq_some_iff.1 E0.out).1 (by simp; omega)).trans E0.out)
      replace E1 := hide ((g2.block w1.heap.size (Array.getElem?_eq_some_iff.1 E1.out).1 (by simp; omega)).trans E1.out)
      clear g2 HC
      rcases h2 with ⟨n, k2, _, hr2, rfl, hc2⟩ | ⟨hr2, rfl, hc2⟩
      · have HC := hide hc2
        clear hc2
        have HXa := hide (box_of E1.out).1
        have za := (box_of E1.out).2
        have a0 := HXa.out 0 _ rfl
        have a1 := HXa.out 1 _ rfl
        have a2 := HXa.out 2 _ rfl
        have a3 := HXa.out 3 _ rfl
        go_upto_region 7 with fail
        clear a0 a1 a2 a3 za HXa
        replace HC := hide (HC.out.mine (l := w1.heap.size) (by omega) 1 (.int .i64 n))
        replace HG := hide (grownSet HG.out (l := w1.heap.size) (by omega) 1 (.int .i64 n))
        replace E0 := hide (placeSet (o := 1) (l := w1.heap.size) E0.out (by omega) (.int .i64 n))
        replace E1 : Hid ((w2.setCell ⟨w1.heap.size, 1, none⟩ (.int .i64 n)).heap[w1.heap.size]? = some (.cells #[.int .i64 1, .int .i64 n, .string noS, .string noS] 42 (0, 0))) := hide (put4at E1.out 1 (.int .i64 n))
        generalize w2.setCell ⟨w1.heap.size, 1, none⟩ (.int .i64 n) = W2 at *
        have HXc := hide (box_of HC.out.pl).1
        have zc := (box_of HC.out.pl).2 2
        have f0 := HXc.out 0 _ rfl
        have f1 := HXc.out 1 _ rfl
        have f2 := HXc.out 2 _ rfl
        have HXa := hide (box_of E1.out).1
        have a0 := HXa.out 0 _ rfl
        have a1 := HXa.out 1 _ rfl
        have a2 := HXa.out 2 _ rfl
        have a3 := HXa.out 3 _ rfl
        go_wp2_with fail
        clear f0 f1 f2 zc HXc a0 a1 a2 a3 HXa
        refine (constOkSpec 1 n noS noS _ noS_small noS_small).mono ?_
        rintro e w5 ⟨rfl, b5⟩
        replace HC := hide (HC.out.far (grown_of_below b5) (fun q hq => by cases hq))
        replace HG := hide (grown_step HG.out (grown_of_below b5) (fun k hk => by cases hk))
        replace E0 := hide ((b5.block w.heap.size (Array.getElem?_eq_some_iff.1 E0.out).1).trans E0.out)
        replace E1 := hide ((b5.block w1.heap.size (Array.getElem?_eq_some_iff.1 E1.out).1).trans E1.out)
        clear b5
        have HXc := hide (box_of HC.out.pl).1
        have zc := (box_of HC.out.pl).2 2
        have f0 := HXc.out 0 _ rfl
        have f1 := HXc.out 1 _ rfl
        have f2 := HXc.out 2 _ rfl
        cases hk : kOk 1 n noS noS with
        | false =>
          have HN : Hid (cOf zs k = none) := hide ((cOf_gn hr).trans (by rw [rK_1 hr2, Option.bind_some]; unfold cOk; simp [hk]))
          go_upto_region 8 with fail
          have HF := hide (HC.out.okay false)
          replace HG := hide (grown_step HG.out HF.out.2 (fun k hk => by cases hk; exact .inl rfl))
          replace E0 := hide ((HF.out.2.block w.heap.size (Array.getElem?_eq_some_iff.1 E0.out).1 (by simp; omega)).trans E0.out)
          replace E1 := hide ((HF.out.2.block w1.heap.size (Array.getElem?_eq_some_iff.1 E1.out).1 (by simp; omega)).trans E1.out)
          replace HC := hide HF.out.1
          clear f0 f1 f2 zc HXc HF
          generalize World.setCell _ ⟨g, 2, none⟩ (Value.bool false) = W3 at *
          have HXa := hide (box_of E1.out).1
          have HXb := hide (box_of E0.out).1
          have zb := (box_of E0.out).2
          have a0 := HXa.out 0 _ rfl
          have a1 := HXa.out 1 _ rfl
          have a2 := HXa.out 2 _ rfl
          have a3 := HXa.out 3 _ rfl
          have b0 := HXb.out 0 _ rfl
          have b1 := HXb.out 1 _ rfl
          have b2 := HXb.out 2 _ rfl
          have b3 := HXb.out 3 _ rfl
          go_wp2
          exact bodyPost_ret (v := constV 1 n noS noS) (results_one Tryz.results14 _ _ _ rfl (loadK (put4 E0.out _ _ _ _))) rfl ⟨.inr ⟨HN.out, (1, n, noS, noS), _, rfl, (((HC.out.mine hgl _ _).mine hgl _ _).mine hgl _ _).mine hgl _ _⟩, grownSet (grownSet (grownSet (grownSet HG.out (Nat.le_refl _) _ _) (Nat.le_refl _) _ _) (Nat.le_refl _) _ _) (Nat.le_refl _) _ _⟩
        | true =>
          have HN : Hid (cOf zs k = some ((1, n, noS, noS), k2)) := hide ((cOf_gn hr).trans (by rw [rK_1 hr2, Option.bind_some]; unfold cOk; simp only [hk, if_true]))
          go_upto_region 8 with fail
          have HF := hide (HC.out.okay true)
          replace HG := hide (grown_step HG.out HF.out.2 (fun k hk => by cases hk; exact .inl rfl))
          replace E0 := hide ((HF.out.2.block w.heap.size (Array.getElem?_eq_some_iff.1 E0.out).1 (by simp; omega)).trans E0.out)
          replace E1 := hide ((HF.out.2.block w1.heap.size (Array.getElem?_eq_some_iff.1 E1.out).1 (by simp; omega)).trans E1.out)
          replace HC := hide HF.out.1
          clear f0 f1 f2 zc HXc HF
          generalize World.setCell _ ⟨g, 2, none⟩ (Value.bool true) = W3 at *
          have HXa := hide (box_of E1.out).1
          have HXb := hide (box_of E0.out).1
          have zb := (box_of E0.out).2
          have a0 := HXa.out 0 _ rfl
          have a1 := HXa.out 1 _ rfl
          have a2 := HXa.out 2 _ rfl
          have a3 := HXa.out 3 _ rfl
          have b0 := HXb.out 0 _ rfl
          have b1 := HXb.out 1 _ rfl
          have b2 := HXb.out 2 _ rfl
          have b3 := HXb.out 3 _ rfl
          go_wp2
          exact bodyPost_ret (v := constV 1 n noS noS) (results_one Tryz.results14 _ _ _ rfl (loadK (put4 E0.out _ _ _ _))) rfl ⟨.inl ⟨(1, n, noS, noS), _, HN.out, rfl, (((HC.out.mine hgl _ _).mine hgl _ _).mine hgl _ _).mine hgl _ _⟩, grownSet (grownSet (grownSet (grownSet HG.out (Nat.le_refl _) _ _) (Nat.le_refl _) _ _) (Nat.le_refl _) _ _) (Nat.le_refl _) _ _⟩
      · have HN : Hid (cOf zs k = none) := hide ((cOf_gn hr).trans (by rw [rK_1n (by simpa using hr2)]; rfl))
        have HC := hide hc2
        clear hc2
        have HXa := hide (box_of E1.out).1
        have za := (box_of E1.out).2
        have a0 := HXa.out 0 _ rfl
        have a1 := HXa.out 1 _ rfl
        have a2 := HXa.out 2 _ rfl
        have a3 := HXa.out 3 _ rfl
        go_upto_region 7 with fail
        clear a0 a1 a2 a3 za HXa
        replace HC := hide (HC.out.mine (l := w1.heap.size) (by omega) 1 (.int .i64 0))
        replace HG := hide (grownSet HG.out (l := w1.heap.size) (by omega) 1 (.int .i64 0))
        replace E0 := hide (placeSet (o := 1) (l := w1.heap.size) E0.out (by omega) (.int .i64 0))
        replace E1 : Hid ((w2.setCell ⟨w1.heap.size, 1, none⟩ (.int .i64 0)).heap[w1.heap.size]? = some (.cells #[.int .i64 1, .int .i64 0, .string noS, .string noS] 42 (0, 0))) := hide (put4at E1.out 1 (.int .i64 0))
        generalize w2.setCell ⟨w1.heap.size, 1, none⟩ (.int .i64 0) = W2 at *
        have HXc := hide (box_of HC.out.pl).1
        have zc := (box_of HC.out.pl).2 2
        have f0 := HXc.out 0 _ rfl
        have f1 := HXc.out 1 _ rfl
        have f2 := HXc.out 2 _ rfl
        go_upto_region 8 with fail
        have HF := hide (HC.out.okay false)
        replace HG := hide (grown_step HG.out HF.out.2 (fun k hk => by cases hk; exact .inl rfl))
        replace E0 := hide ((HF.out.2.block w.heap.size (Array.getElem?_eq_some_iff.1 E0.out).1 (by simp; omega)).trans E0.out)
        replace E1 := hide ((HF.out.2.block w1.heap.size (Array.getElem?_eq_some_iff.1 E1.out).1 (by simp; omega)).trans E1.out)
        replace HC := hide HF.out.1
        clear f0 f1 f2 zc HXc HF
        generalize World.setCell _ ⟨g, 2, none⟩ (Value.bool false) = W3 at *
        have HXa := hide (box_of E1.out).1
        have HXb := hide (box_of E0.out).1
        have zb := (box_of E0.out).2
        have a0 := HXa.out 0 _ rfl
        have a1 := HXa.out 1 _ rfl
        have a2 := HXa.out 2 _ rfl
        have a3 := HXa.out 3 _ rfl
        have b0 := HXb.out 0 _ rfl
        have b1 := HXb.out 1 _ rfl
        have b2 := HXb.out 2 _ rfl
        have b3 := HXb.out 3 _ rfl
        go_wp2
        exact bodyPost_ret (v := constV 1 0 noS noS) (results_one Tryz.results14 _ _ _ rfl (loadK (put4 E0.out _ _ _ _))) rfl ⟨.inr ⟨HN.out, (1, 0, noS, noS), _, rfl, (((HC.out.mine hgl _ _).mine hgl _ _).mine hgl _ _).mine hgl _ _⟩, grownSet (grownSet (grownSet (grownSet HG.out (Nat.le_refl _) _ _) (Nat.le_refl _) _ _) (Nat.le_refl _) _ _) (Nat.le_refl _) _ _⟩
    · have f1 : (kd == 1) = false := by simpa using e1
      by_cases e2 : kd = 2
      · subst e2
        have E1 := hide (heap_alloc_new w1 (.cells #[.int .i64 2, .int .i64 0, .string noS, .string noS] 42))
        replace HC := hide (HC.out.far (World.grownBy_alloc w1 (.cells #[.int .i64 2, .int .i64 0, .string noS, .string noS] 42) none) (fun q hq => by cases hq))
        replace HG := hide (grown_step HG.out (World.grownBy_alloc w1 (.cells #[.int .i64 2, .int .i64 0, .string noS, .string noS] 42) none) (fun k hk => by cases hk))
        replace E0 := hide ((World.grownBy_alloc w1 (.cells #[.int .i64 2, .int .i64 0, .string noS, .string noS] 42) none).block w.heap.size hs1 (by simp) |>.trans E0.out)
        go_upto_region 2 with fail
        generalize w1.alloc (.cells #[.int .i64 2, .int .i64 0, .string noS, .string noS] 42) = W1 at *
        have HXa := hide (box_of E1.out).1
        have a0 := HXa.out 0 _ rfl
        have a1 := HXa.out 1 _ rfl
        have a2 := HXa.out 2 _ rfl
        have a3 := HXa.out 3 _ rfl
        go_wp2_with fail
        clear a0 a1 a2 a3 HXa
        refine (l6TextI HC.out hcap).mono ?_
        rintro e w2 ⟨h2, g2⟩
        replace HG := hide (grown_step HG.out g2 (fun k hk => by cases hk; exact .inl rfl))
        replace E0 := hide ((g2.block w.heap.size (Array.getElem?_eq_some_iff.1 E0.out).1 (by simp; omega)).trans E0.out)
        replace E1 := hide ((g2.block w1.heap.size (Array.getElem?_eq_some_iff.1 E1.out).1 (by simp; omega)).trans E1.out)
        clear g2 HC
        rcases h2 with ⟨s, k2, _, hr2, rfl, hc2⟩ | ⟨hr2, rfl, hc2⟩
        · have HC := hide hc2
          clear hc2
          have HXa := hide (box_of E1.out).1
          have za := (box_of E1.out).2
          have a0 := HXa.out 0 _ rfl
          have a1 := HXa.out 1 _ rfl
          have a2 := HXa.out 2 _ rfl
          have a3 := HXa.out 3 _ rfl
          go_upto_region 5 with fail
          clear a0 a1 a2 a3 za HXa
          replace HC := hide (HC.out.mine (l := w1.heap.size) (by omega) 2 (.string s))
          replace HG := hide (grownSet HG.out (l := w1.heap.size) (by omega) 2 (.string s))
          replace E0 := hide (placeSet (o := 2) (l := w1.heap.size) E0.out (by omega) (.string s))
          replace E1 : Hid ((w2.setCell ⟨w1.heap.size, 2, none⟩ (.string s)).heap[w1.heap.size]? = some (.cells #[.int .i64 2, .int .i64 0, .string s, .string noS] 42 (0, 0))) := hide (put4at E1.out 2 (.string s))
          generalize w2.setCell ⟨w1.heap.size, 2, none⟩ (.string s) = W2 at *
          have HXa := hide (box_of E1.out).1
          have a0 := HXa.out 0 _ rfl
          have a1 := HXa.out 1 _ rfl
          have a2 := HXa.out 2 _ rfl
          have a3 := HXa.out 3 _ rfl
          go_upto_region 7 with fail
          clear a0 a1 a2 a3 HXa
          have HXc := hide (box_of HC.out.pl).1
          have zc := (box_of HC.out.pl).2 2
          have f0 := HXc.out 0 _ rfl
          have f1 := HXc.out 1 _ rfl
          have f2 := HXc.out 2 _ rfl
          have HXa := hide (box_of E1.out).1
          have a0 := HXa.out 0 _ rfl
          have a1 := HXa.out 1 _ rfl
          have a2 := HXa.out 2 _ rfl
          have a3 := HXa.out 3 _ rfl
          go_wp2_with fail
          clear f0 f1 f2 zc HXc a0 a1 a2 a3 HXa
          refine (constOkSpec 2 0 s noS _ (gt_small hr2) noS_small).mono ?_
          rintro e w5 ⟨rfl, b5⟩
          replace HC := hide (HC.out.far (grown_of_below b5) (fun q hq => by cases hq))
          replace HG := hide (grown_step HG.out (grown_of_below b5) (fun k hk => by cases hk))
          replace E0 := hide ((b5.block w.heap.size (Array.getElem?_eq_some_iff.1 E0.out).1).trans E0.out)
          replace E1 := hide ((b5.block w1.heap.size (Array.getElem?_eq_some_iff.1 E1.out).1).trans E1.out)
          clear b5
          have HXc := hide (box_of HC.out.pl).1
          have zc := (box_of HC.out.pl).2 2
          have f0 := HXc.out 0 _ rfl
          have f1 := HXc.out 1 _ rfl
          have f2 := HXc.out 2 _ rfl
          cases hk : kOk 2 0 s noS with
          | false =>
            have HN : Hid (cOf zs k = none) := hide ((cOf_gn hr).trans (by rw [rK_2 hr2, Option.bind_some]; unfold cOk; simp [hk]))
            go_upto_region 8 with fail
            have HF := hide (HC.out.okay false)
            replace HG := hide (grown_step HG.out HF.out.2 (fun k hk => by cases hk; exact .inl rfl))
            replace E0 := hide ((HF.out.2.block w.heap.size (Array.getElem?_eq_some_iff.1 E0.out).1 (by simp; omega)).trans E0.out)
            replace E1 := hide ((HF.out.2.block w1.heap.size (Array.getElem?_eq_some_iff.1 E1.out).1 (by simp; omega)).trans E1.out)
            replace HC := hide HF.out.1
            clear f0 f1 f2 zc HXc HF
            generalize World.setCell _ ⟨g, 2, none⟩ (Value.bool false) = W3 at *
            have HXa := hide (box_of E1.out).1
            have HXb := hide (box_of E0.out).1
            have zb := (box_of E0.out).2
            have a0 := HXa.out 0 _ rfl
            have a1 := HXa.out 1 _ rfl
            have a2 := HXa.out 2 _ rfl
            have a3 := HXa.out 3 _ rfl
            have b0 := HXb.out 0 _ rfl
            have b1 := HXb.out 1 _ rfl
            have b2 := HXb.out 2 _ rfl
            have b3 := HXb.out 3 _ rfl
            go_wp2
            exact bodyPost_ret (v := constV 2 0 s noS) (results_one Tryz.results14 _ _ _ rfl (loadK (put4 E0.out _ _ _ _))) rfl ⟨.inr ⟨HN.out, (2, 0, s, noS), _, rfl, (((HC.out.mine hgl _ _).mine hgl _ _).mine hgl _ _).mine hgl _ _⟩, grownSet (grownSet (grownSet (grownSet HG.out (Nat.le_refl _) _ _) (Nat.le_refl _) _ _) (Nat.le_refl _) _ _) (Nat.le_refl _) _ _⟩
          | true =>
            have HN : Hid (cOf zs k = some ((2, 0, s, noS), k2)) := hide ((cOf_gn hr).trans (by rw [rK_2 hr2, Option.bind_some]; unfold cOk; simp only [hk, if_true]))
            go_upto_region 8 with fail
            have HF := hide (HC.out.okay true)
            replace HG := hide (grown_step HG.out HF.out.2 (fun k hk => by cases hk; exact .inl rfl))
            replace E0 := hide ((HF.out.2.block w.heap.size (Array.getElem?_eq_some_iff.1 E0.out).1 (by simp; omega)).trans E0.out)
            replace E1 := hide ((HF.out.2.block w1.heap.size (Array.getElem?_eq_some_iff.1 E1.out).1 (by simp; omega)).trans E1.out)
            replace HC := hide HF.out.1
            clear f0 f1 f2 zc HXc HF
            generalize World.setCell _ ⟨g, 2, none⟩ (Value.bool true) = W3 at *
            have HXa := hide (box_of E1.out).1
            have HXb := hide (box_of E0.out).1
            have zb := (box_of E0.out).2
            have a0 := HXa.out 0 _ rfl
            have a1 := HXa.out 1 _ rfl
            have a2 := HXa.out 2 _ rfl
            have a3 := HXa.out 3 _ rfl
            have b0 := HXb.out 0 _ rfl
            have b1 := HXb.out 1 _ rfl
            have b2 := HXb.out 2 _ rfl
            have b3 := HXb.out 3 _ rfl
            go_wp2
            exact bodyPost_ret (v := constV 2 0 s noS) (results_one Tryz.results14 _ _ _ rfl (loadK (put4 E0.out _ _ _ _))) rfl ⟨.inl ⟨(2, 0, s, noS), _, HN.out, rfl, (((HC.out.mine hgl _ _).mine hgl _ _).mine hgl _ _).mine hgl _ _⟩, grownSet (grownSet (grownSet (grownSet HG.out (Nat.le_refl _) _ _) (Nat.le_refl _) _ _) (Nat.le_refl _) _ _) (Nat.le_refl _) _ _⟩
        · have HN : Hid (cOf zs k = none) := hide ((cOf_gn hr).trans (by rw [rK_2n (by simpa using hr2)]; rfl))
          have HC := hide hc2
          clear hc2
          have HXa := hide (box_of E1.out).1
          have za := (box_of E1.out).2
          have a0 := HXa.out 0 _ rfl
          have a1 := HXa.out 1 _ rfl
          have a2 := HXa.out 2 _ rfl
          have a3 := HXa.out 3 _ rfl
          go_upto_region 5 with fail
          clear a0 a1 a2 a3 za HXa
          replace HC := hide (HC.out.mine (l := w1.heap.size) (by omega) 2 (.string noS))
          replace HG := hide (grownSet HG.out (l := w1.heap.size) (by omega) 2 (.string noS))
          replace E0 := hide (placeSet (o := 2) (l := w1.heap.size) E0.out (by omega) (.string noS))
          replace E1 : Hid ((w2.setCell ⟨w1.heap.size, 2, none⟩ (.string noS)).heap[w1.heap.size]? = some (.cells #[.int .i64 2, .int .i64 0, .string noS, .string noS] 42 (0, 0))) := hide (put4at E1.out 2 (.string noS))
          generalize w2.setCell ⟨w1.heap.size, 2, none⟩ (.string noS) = W2 at *
          have HXa := hide (box_of E1.out).1
          have a0 := HXa.out 0 _ rfl
          have a1 := HXa.out 1 _ rfl
          have a2 := HXa.out 2 _ rfl
          have a3 := HXa.out 3 _ rfl
          go_upto_region 7 with fail
          clear a0 a1 a2 a3 HXa
          have HXc := hide (box_of HC.out.pl).1
          have zc := (box_of HC.out.pl).2 2
          have f0 := HXc.out 0 _ rfl
          have f1 := HXc.out 1 _ rfl
          have f2 := HXc.out 2 _ rfl
          go_upto_region 8 with fail
          have HF := hide (HC.out.okay false)
          replace HG := hide (grown_step HG.out HF.out.2 (fun k hk => by cases hk; exact .inl rfl))
          replace E0 := hide ((HF.out.2.block w.heap.size (Array.getElem?_eq_some_iff.1 E0.out).1 (by simp; omega)).trans E0.out)
          replace E1 := hide ((HF.out.2.block w1.heap.size (Array.getElem?_eq_some_iff.1 E1.out).1 (by simp; omega)).trans E1.out)
          replace HC := hide HF.out.1
          clear f0 f1 f2 zc HXc HF
          generalize World.setCell _ ⟨g, 2, none⟩ (Value.bool false) = W3 at *
          have HXa := hide (box_of E1.out).1
          have HXb := hide (box_of E0.out).1
          have zb := (box_of E0.out).2
          have a0 := HXa.out 0 _ rfl
          have a1 := HXa.out 1 _ rfl
          have a2 := HXa.out 2 _ rfl
          have a3 := HXa.out 3 _ rfl
          have b0 := HXb.out 0 _ rfl
          have b1 := HXb.out 1 _ rfl
          have b2 := HXb.out 2 _ rfl
          have b3 := HXb.out 3 _ rfl
          go_wp2
          exact bodyPost_ret (v := constV 2 0 noS noS) (results_one Tryz.results14 _ _ _ rfl (loadK (put4 E0.out _ _ _ _))) rfl ⟨.inr ⟨HN.out, (2, 0, noS, noS), _, rfl, (((HC.out.mine hgl _ _).mine hgl _ _).mine hgl _ _).mine hgl _ _⟩, grownSet (grownSet (grownSet (grownSet HG.out (Nat.le_refl _) _ _) (Nat.le_refl _) _ _) (Nat.le_refl _) _ _) (Nat.le_refl _) _ _⟩
      · have f2' : (kd != 2) = true := by simpa using e2
        have E1 := hide (heap_alloc_new w1 (.cells #[.int .i64 kd, .int .i64 0, .string noS, .string noS] 42))
        replace HC := hide (HC.out.far (World.grownBy_alloc w1 (.cells #[.int .i64 kd, .int .i64 0, .string noS, .string noS] 42) none) (fun q hq => by cases hq))
        replace HG := hide (grown_step HG.out (World.grownBy_alloc w1 (.cells #[.int .i64 kd, .int .i64 0, .string noS, .string noS] 42) none) (fun k hk => by cases hk))
        replace E0 := hide ((World.grownBy_alloc w1 (.cells #[.int .i64 kd, .int .i64 0, .string noS, .string noS] 42) none).block w.heap.size hs1 (by simp) |>.trans E0.out)
        go_upto_region 2 with fail
        generalize w1.alloc (.cells #[.int .i64 kd, .int .i64 0, .string noS, .string noS] 42) = W1 at *
        have HXa := hide (box_of E1.out).1
        have a0 := HXa.out 0 _ rfl
        have a1 := HXa.out 1 _ rfl
        have a2 := HXa.out 2 _ rfl
        have a3 := HXa.out 3 _ rfl
        go_wp2_with fail
        clear a0 a1 a2 a3 HXa
        refine (l6TextI HC.out hcap).mono ?_
        rintro e w2 ⟨h2, g2⟩
        replace HG := hide (grown_step HG.out g2 (fun k hk => by cases hk; exact .inl rfl))
        replace E0 := hide ((g2.block w.heap.size (Array.getElem?_eq_some_iff.1 E0.out).1 (by simp; omega)).trans E0.out)
        replace E1 := hide ((g2.block w1.heap.size (Array.getElem?_eq_some_iff.1 E1.out).1 (by simp; omega)).trans E1.out)
        clear g2 HC
        rcases h2 with ⟨s, k2, _, hr2, rfl, hc2⟩ | ⟨hr2, rfl, hc2⟩
        · have HC := hide hc2
          clear hc2
          have HXa := hide (box_of E1.out).1
          have za := (box_of E1.out).2
          have a0 := HXa.out 0 _ rfl
          have a1 := HXa.out 1 _ rfl
          have a2 := HXa.out 2 _ rfl
          have a3 := HXa.out 3 _ rfl
          go_upto_region 5 with fail
          clear a0 a1 a2 a3 za HXa
          replace HC := hide (HC.out.mine (l := w1.heap.size) (by omega) 2 (.string s))
          replace HG := hide (grownSet HG.out (l := w1.heap.size) (by omega) 2 (.string s))
          replace E0 := hide (placeSet (o := 2) (l := w1.heap.size) E0.out (by omega) (.string s))
          replace E1 : Hid ((w2.setCell ⟨w1.heap.size, 2, none⟩ (.string s)).heap[w1.heap.size]? = some (.cells #[.int .i64 kd, .int .i64 0, .string s, .string noS] 42 (0, 0))) := hide (put4at E1.out 2 (.string s))
          generalize w2.setCell ⟨w1.heap.size, 2, none⟩ (.string s) = W2 at *
          have HXa := hide (box_of E1.out).1
          have a0 := HXa.out 0 _ rfl
          have a1 := HXa.out 1 _ rfl
          have a2 := HXa.out 2 _ rfl
          have a3 := HXa.out 3 _ rfl
          go_wp2_with fail
          clear a0 a1 a2 a3 HXa
          refine (l6TextI HC.out hcap).mono ?_
          rintro e w4 ⟨h4, g4⟩
          replace HG := hide (grown_step HG.out g4 (fun k hk => by cases hk; exact .inl rfl))
          replace E0 := hide ((g4.block w.heap.size (Array.getElem?_eq_some_iff.1 E0.out).1 (by simp; omega)).trans E0.out)
          replace E1 := hide ((g4.block w1.heap.size (Array.getElem?_eq_some_iff.1 E1.out).1 (by simp; omega)).trans E1.out)
          clear g4 HC
          rcases h4 with ⟨u, k4, _, hr4, rfl, hc4⟩ | ⟨hr4, rfl, hc4⟩
          · have HC := hide hc4
            clear hc4
            have HXa := hide (box_of E1.out).1
            have za := (box_of E1.out).2
            have a0 := HXa.out 0 _ rfl
            have a1 := HXa.out 1 _ rfl
            have a2 := HXa.out 2 _ rfl
            have a3 := HXa.out 3 _ rfl
            go_upto_region 7 with fail
            clear a0 a1 a2 a3 za HXa
            replace HC := hide (HC.out.mine (l := w1.heap.size) (by omega) 3 (.string u))
            replace HG := hide (grownSet HG.out (l := w1.heap.size) (by omega) 3 (.string u))
            replace E0 := hide (placeSet (o := 3) (l := w1.heap.size) E0.out (by omega) (.string u))
            replace E1 : Hid ((w4.setCell ⟨w1.heap.size, 3, none⟩ (.string u)).heap[w1.heap.size]? = some (.cells #[.int .i64 kd, .int .i64 0, .string s, .string u] 42 (0, 0))) := hide (put4at E1.out 3 (.string u))
            generalize w4.setCell ⟨w1.heap.size, 3, none⟩ (.string u) = W4 at *
            have HXc := hide (box_of HC.out.pl).1
            have zc := (box_of HC.out.pl).2 2
            have f0 := HXc.out 0 _ rfl
            have f1 := HXc.out 1 _ rfl
            have f2 := HXc.out 2 _ rfl
            have HXa := hide (box_of E1.out).1
            have a0 := HXa.out 0 _ rfl
            have a1 := HXa.out 1 _ rfl
            have a2 := HXa.out 2 _ rfl
            have a3 := HXa.out 3 _ rfl
            go_wp2_with fail
            clear f0 f1 f2 zc HXc a0 a1 a2 a3 HXa
            refine (constOkSpec kd 0 s u _ (gt_small hr2) (gt_small hr4)).mono ?_
            rintro e w5 ⟨rfl, b5⟩
            replace HC := hide (HC.out.far (grown_of_below b5) (fun q hq => by cases hq))
            replace HG := hide (grown_step HG.out (grown_of_below b5) (fun k hk => by cases hk))
            replace E0 := hide ((b5.block w.heap.size (Array.getElem?_eq_some_iff.1 E0.out).1).trans E0.out)
            replace E1 := hide ((b5.block w1.heap.size (Array.getElem?_eq_some_iff.1 E1.out).1).trans E1.out)
            clear b5
            have HXc := hide (box_of HC.out.pl).1
            have zc := (box_of HC.out.pl).2 2
            have f0 := HXc.out 0 _ rfl
            have f1 := HXc.out 1 _ rfl
            have f2 := HXc.out 2 _ rfl
            cases hk : kOk kd 0 s u with
            | false =>
              have HN : Hid (cOf zs k = none) := hide ((cOf_gn hr).trans (rK_3 e1 e2 hr2 hr4 false hk))
              go_upto_region 8 with fail
              have HF := hide (HC.out.okay false)
              replace HG := hide (grown_step HG.out HF.out.2 (fun k hk => by cases hk; exact .inl rfl))
              replace E0 := hide ((HF.out.2.block w.heap.size (Array.getElem?_eq_some_iff.1 E0.out).1 (by simp; omega)).trans E0.out)
              replace E1 := hide ((HF.out.2.block w1.heap.size (Array.getElem?_eq_some_iff.1 E1.out).1 (by simp; omega)).trans E1.out)
              replace HC := hide HF.out.1
              clear f0 f1 f2 zc HXc HF
              generalize World.setCell _ ⟨g, 2, none⟩ (Value.bool false) = W3 at *
              have HXa := hide (box_of E1.out).1
              have HXb := hide (box_of E0.out).1
              have zb := (box_of E0.out).2
              have a0 := HXa.out 0 _ rfl
              have a1 := HXa.out 1 _ rfl
              have a2 := HXa.out 2 _ rfl
              have a3 := HXa.out 3 _ rfl
              have b0 := HXb.out 0 _ rfl
              have b1 := HXb.out 1 _ rfl
              have b2 := HXb.out 2 _ rfl
              have b3 := HXb.out 3 _ rfl
              go_wp2
              exact bodyPost_ret (v := constV kd 0 s u) (results_one Tryz.results14 _ _ _ rfl (loadK (put4 E0.out _ _ _ _))) rfl ⟨.inr ⟨HN.out, (kd, 0, s, u), _, rfl, (((HC.out.mine hgl _ _).mine hgl _ _).mine hgl _ _).mine hgl _ _⟩, grownSet (grownSet (grownSet (grownSet HG.out (Nat.le_refl _) _ _) (Nat.le_refl _) _ _) (Nat.le_refl _) _ _) (Nat.le_refl _) _ _⟩
            | true =>
              have HN : Hid (cOf zs k = some ((kd, 0, s, u), k4)) := hide ((cOf_gn hr).trans (rK_3 e1 e2 hr2 hr4 true hk))
              go_upto_region 8 with fail
              have HF := hide (HC.out.okay true)
              replace HG := hide (grown_step HG.out HF.out.2 (fun k hk => by cases hk; exact .inl rfl))
              replace E0 := hide ((HF.out.2.block w.heap.size (Array.getElem?_eq_some_iff.1 E0.out).1 (by simp; omega)).trans E0.out)
              replace E1 := hide ((HF.out.2.block w1.heap.size (Array.getElem?_eq_some_iff.1 E1.out).1 (by simp; omega)).trans E1.out)
              replace HC := hide HF.out.1
              clear f0 f1 f2 zc HXc HF
              generalize World.setCell _ ⟨g, 2, none⟩ (Value.bool true) = W3 at *
              have HXa := hide (box_of E1.out).1
              have HXb := hide (box_of E0.out).1
              have zb := (box_of E0.out).2
              have a0 := HXa.out 0 _ rfl
              have a1 := HXa.out 1 _ rfl
              have a2 := HXa.out 2 _ rfl
              have a3 := HXa.out 3 _ rfl
              have b0 := HXb.out 0 _ rfl
              have b1 := HXb.out 1 _ rfl
              have b2 := HXb.out 2 _ rfl
              have b3 := HXb.out 3 _ rfl
              go_wp2
              exact bodyPost_ret (v := constV kd 0 s u) (results_one Tryz.results14 _ _ _ rfl (loadK (put4 E0.out _ _ _ _))) rfl ⟨.inl ⟨(kd, 0, s, u), _, HN.out, rfl, (((HC.out.mine hgl _ _).mine hgl _ _).mine hgl _ _).mine hgl _ _⟩, grownSet (grownSet (grownSet (grownSet HG.out (Nat.le_refl _) _ _) (Nat.le_refl _) _ _) (Nat.le_refl _) _ _) (Nat.le_refl _) _ _⟩
          · have HN := hide ((cOf_gn hr).trans (rK_3n e1 e2 (.inr ⟨s, k2, hr2, by simpa using hr4⟩)))
            have HC := hide hc4
            clear hc4
            have HXa := hide (box_of E1.out).1
            have za := (box_of E1.out).2
            have a0 := HXa.out 0 _ rfl
            have a1 := HXa.out 1 _ rfl
            have a2 := HXa.out 2 _ rfl
            have a3 := HXa.out 3 _ rfl
            go_upto_region 7 with fail
            clear a0 a1 a2 a3 za HXa
            replace HC := hide (HC.out.mine (l := w1.heap.size) (by omega) 3 (.string noS))
            replace HG := hide (grownSet HG.out (l := w1.heap.size) (by omega) 3 (.string noS))
            replace E0 := hide (placeSet (o := 3) (l := w1.heap.size) E0.out (by omega) (.string noS))
            replace E1 : Hid ((w4.setCell ⟨w1.heap.size, 3, none⟩ (.string noS)).heap[w1.heap.size]? = some (.cells #[.int .i64 kd, .int .i64 0, .string s, .string noS] 42 (0, 0))) := hide (put4at E1.out 3 (.string noS))
            generalize w4.setCell ⟨w1.heap.size, 3, none⟩ (.string noS) = W4 at *
            have HXc := hide (box_of HC.out.pl).1
            have zc := (box_of HC.out.pl).2 2
            have f0 := HXc.out 0 _ rfl
            have f1 := HXc.out 1 _ rfl
            have f2 := HXc.out 2 _ rfl
            go_upto_region 8 with fail
            have HF := hide (HC.out.okay false)
            replace HG := hide (grown_step HG.out HF.out.2 (fun k hk => by cases hk; exact .inl rfl))
            replace E0 := hide ((HF.out.2.block w.heap.size (Array.getElem?_eq_some_iff.1 E0.out).1 (by simp; omega)).trans E0.out)
            replace E1 := hide ((HF.out.2.block w1.heap.size (Array.getElem?_eq_some_iff.1 E1.out).1 (by simp; omega)).trans E1.out)
            replace HC := hide HF.out.1
            clear f0 f1 f2 zc HXc HF
            generalize World.setCell _ ⟨g, 2, none⟩ (Value.bool false) = W3 at *
            have HXa := hide (box_of E1.out).1
            have HXb := hide (box_of E0.out).1
            have zb := (box_of E0.out).2
            have a0 := HXa.out 0 _ rfl
            have a1 := HXa.out 1 _ rfl
            have a2 := HXa.out 2 _ rfl
            have a3 := HXa.out 3 _ rfl
            have b0 := HXb.out 0 _ rfl
            have b1 := HXb.out 1 _ rfl
            have b2 := HXb.out 2 _ rfl
            have b3 := HXb.out 3 _ rfl
            go_wp2
            exact bodyPost_ret (v := constV kd 0 s noS) (results_one Tryz.results14 _ _ _ rfl (loadK (put4 E0.out _ _ _ _))) rfl ⟨.inr ⟨HN.out, (kd, 0, s, noS), _, rfl, (((HC.out.mine hgl _ _).mine hgl _ _).mine hgl _ _).mine hgl _ _⟩, grownSet (grownSet (grownSet (grownSet HG.out (Nat.le_refl _) _ _) (Nat.le_refl _) _ _) (Nat.le_refl _) _ _) (Nat.le_refl _) _ _⟩
        · have HN := hide ((cOf_gn hr).trans (rK_3n e1 e2 (.inl (by simpa using hr2))))
          have HC := hide hc2
          clear hc2
          have HXa := hide (box_of E1.out).1
          have za := (box_of E1.out).2
          have a0 := HXa.out 0 _ rfl
          have a1 := HXa.out 1 _ rfl
          have a2 := HXa.out 2 _ rfl
          have a3 := HXa.out 3 _ rfl
          go_upto_region 5 with fail
          clear a0 a1 a2 a3 za HXa
          replace HC := hide (HC.out.mine (l := w1.heap.size) (by omega) 2 (.string noS))
          replace HG := hide (grownSet HG.out (l := w1.heap.size) (by omega) 2 (.string noS))
          replace E0 := hide (placeSet (o := 2) (l := w1.heap.size) E0.out (by omega) (.string noS))
          replace E1 : Hid ((w2.setCell ⟨w1.heap.size, 2, none⟩ (.string noS)).heap[w1.heap.size]? = some (.cells #[.int .i64 kd, .int .i64 0, .string noS, .string noS] 42 (0, 0))) := hide (put4at E1.out 2 (.string noS))
          generalize w2.setCell ⟨w1.heap.size, 2, none⟩ (.string noS) = W2 at *
          have HXa := hide (box_of E1.out).1
          have a0 := HXa.out 0 _ rfl
          have a1 := HXa.out 1 _ rfl
          have a2 := HXa.out 2 _ rfl
          have a3 := HXa.out 3 _ rfl
          go_wp2_with fail
          clear a0 a1 a2 a3 HXa
          refine (l6TextI HC.out hcap).mono ?_
          rintro e w4 ⟨h4, g4⟩
          replace HG := hide (grown_step HG.out g4 (fun k hk => by cases hk; exact .inl rfl))
          replace E0 := hide ((g4.block w.heap.size (Array.getElem?_eq_some_iff.1 E0.out).1 (by simp; omega)).trans E0.out)
          replace E1 := hide ((g4.block w1.heap.size (Array.getElem?_eq_some_iff.1 E1.out).1 (by simp; omega)).trans E1.out)
          clear g4 HC
          rcases h4 with ⟨u, k4, ho4, _⟩ | ⟨_, rfl, hc4⟩
          · cases ho4
          · have HC := hide hc4
            clear hc4
            have HXa := hide (box_of E1.out).1
            have za := (box_of E1.out).2
            have a0 := HXa.out 0 _ rfl
            have a1 := HXa.out 1 _ rfl
            have a2 := HXa.out 2 _ rfl
            have a3 := HXa.out 3 _ rfl
            go_upto_region 7 with fail
            clear a0 a1 a2 a3 za HXa
            replace HC := hide (HC.out.mine (l := w1.heap.size) (by omega) 3 (.string noS))
            replace HG := hide (grownSet HG.out (l := w1.heap.size) (by omega) 3 (.string noS))
            replace E0 := hide (placeSet (o := 3) (l := w1.heap.size) E0.out (by omega) (.string noS))
            replace E1 : Hid ((w4.setCell ⟨w1.heap.size, 3, none⟩ (.string noS)).heap[w1.heap.size]? = some (.cells #[.int .i64 kd, .int .i64 0, .string noS, .string noS] 42 (0, 0))) := hide (put4at E1.out 3 (.string noS))
            generalize w4.setCell ⟨w1.heap.size, 3, none⟩ (.string noS) = W4 at *
            have HXc := hide (box_of HC.out.pl).1
            have zc := (box_of HC.out.pl).2 2
            have f0 := HXc.out 0 _ rfl
            have f1 := HXc.out 1 _ rfl
            have f2 := HXc.out 2 _ rfl
            go_upto_region 8 with fail
            have HF := hide (HC.out.okay false)
            replace HG := hide (grown_step HG.out HF.out.2 (fun k hk => by cases hk; exact .inl rfl))
            replace E0 := hide ((HF.out.2.block w.heap.size (Array.getElem?_eq_some_iff.1 E0.out).1 (by simp; omega)).trans E0.out)
            replace E1 := hide ((HF.out.2.block w1.heap.size (Array.getElem?_eq_some_iff.1 E1.out).1 (by simp; omega)).trans E1.out)
            replace HC := hide HF.out.1
            clear f0 f1 f2 zc HXc HF
            generalize World.setCell _ ⟨g, 2, none⟩ (Value.bool false) = W3 at *
            have HXa := hide (box_of E1.out).1
            have HXb := hide (box_of E0.out).1
            have zb := (box_of E0.out).2
            have a0 := HXa.out 0 _ rfl
            have a1 := HXa.out 1 _ rfl
            have a2 := HXa.out 2 _ rfl
            have a3 := HXa.out 3 _ rfl
            have b0 := HXb.out 0 _ rfl
            have b1 := HXb.out 1 _ rfl
            have b2 := HXb.out 2 _ rfl
            have b3 := HXb.out 3 _ rfl
            go_wp2
            exact bodyPost_ret (v := constV kd 0 noS noS) (results_one Tryz.results14 _ _ _ rfl (loadK (put4 E0.out _ _ _ _))) rfl ⟨.inr ⟨HN.out, (kd, 0, noS, noS), _, rfl, (((HC.out.mine hgl _ _).mine hgl _ _).mine hgl _ _).mine hgl _ _⟩, grownSet (grownSet (grownSet (grownSet HG.out (Nat.le_refl _) _ _) (Nat.le_refl _) _ _) (Nat.le_refl _) _ _) (Nat.le_refl _) _ _⟩
  · have HC := hide hc1
    clear hc1
    have HN := hide (cOf_gn0 (by simpa using hr))
    have E1 := hide (heap_alloc_new w1 (.cells #[.int .i64 0, .int .i64 0, .string noS, .string noS] 42))
    replace HC := hide (HC.out.far (World.grownBy_alloc w1 (.cells #[.int .i64 0, .int .i64 0, .string noS, .string noS] 42) none) (fun q hq => by cases hq))
    replace HG := hide (grown_step HG.out (World.grownBy_alloc w1 (.cells #[.int .i64 0, .int .i64 0, .string noS, .string noS] 42) none) (fun k hk => by cases hk))
    replace E0 := hide ((World.grownBy_alloc w1 (.cells #[.int .i64 0, .int .i64 0, .string noS, .string noS] 42) none).block w.heap.size hs1 (by simp) |>.trans E0.out)
    go_upto_region 2 with fail
    generalize w1.alloc (.cells #[.int .i64 0, .int .i64 0, .string noS, .string noS] 42) = W1 at *
    have HXa := hide (box_of E1.out).1
    have a0 := HXa.out 0 _ rfl
    have a1 := HXa.out 1 _ rfl
    have a2 := HXa.out 2 _ rfl
    have a3 := HXa.out 3 _ rfl
    go_wp2_with fail
    clear a0 a1 a2 a3 HXa
    refine (l6TextI HC.out hcap).mono ?_
    rintro e w2 ⟨h2, g2⟩
    replace HG := hide (grown_step HG.out g2 (fun k hk => by cases hk; exact .inl rfl))
    replace E0 := hide ((g2.block w.heap.size (Array.getElem?_eq_some_iff.1 E0.out).1 (by simp; omega)).trans E0.out)
    replace E1 := hide ((g2.block w1.heap.size (Array.getElem?_eq_some_iff.1 E1.out).1 (by simp; omega)).trans E1.out)
    clear g2 HC
    rcases h2 with ⟨s, k2, ho2, _⟩ | ⟨_, rfl, hc2⟩
    · cases ho2
    · have HC := hide hc2
      clear hc2
      have HXa := hide (box_of E1.out).1
      have za := (box_of E1.out).2
      have a0 := HXa.out 0 _ rfl
      have a1 := HXa.out 1 _ rfl
      have a2 := HXa.out 2 _ rfl
      have a3 := HXa.out 3 _ rfl
      go_upto_region 5 with fail
      clear a0 a1 a2 a3 za HXa
      replace HC := hide (HC.out.mine (l := w1.heap.size) (by omega) 2 (.string noS))
      replace HG := hide (grownSet HG.out (l := w1.heap.size) (by omega) 2 (.string noS))
      replace E0 := hide (placeSet (o := 2) (l := w1.heap.size) E0.out (by omega) (.string noS))
      replace E1 : Hid ((w2.setCell ⟨w1.heap.size, 2, none⟩ (.string noS)).heap[w1.heap.size]? = some (.cells #[.int .i64 0, .int .i64 0, .string noS, .string noS] 42 (0, 0))) := hide (put4at E1.out 2 (.string noS))
      generalize w2.setCell ⟨w1.heap.size, 2, none⟩ (.string noS) = W2 at *
      have HXa := hide (box_of E1.out).1
      have a0 := HXa.out 0 _ rfl
      have a1 := HXa.out 1 _ rfl
      have a2 := HXa.out 2 _ rfl
      have a3 := HXa.out 3 _ rfl
      go_wp2_with fail
      clear a0 a1 a2 a3 HXa
      refine (l6TextI HC.out hcap).mono ?_
      rintro e w4 ⟨h4, g4⟩
      replace HG := hide (grown_step HG.out g4 (fun k hk => by cases hk; exact .inl rfl))
      replace E0 := hide ((g4.block w.heap.size (Array.getElem?_eq_some_iff.1 E0.out).1 (by simp; omega)).trans E0.out)
      replace E1 := hide ((g4.block w1.heap.size (Array.getElem?_eq_some_iff.1 E1.out).1 (by simp; omega)).trans E1.out)
      clear g4 HC
      rcases h4 with ⟨u, k4, ho4, _⟩ | ⟨_, rfl, hc4⟩
      · cases ho4
      · have HC := hide hc4
        clear hc4
        have HXa := hide (box_of E1.out).1
        have za := (box_of E1.out).2
        have a0 := HXa.out 0 _ rfl
        have a1 := HXa.out 1 _ rfl
        have a2 := HXa.out 2 _ rfl
        have a3 := HXa.out 3 _ rfl
        go_upto_region 7 with fail
        clear a0 a1 a2 a3 za HXa
        replace HC := hide (HC.out.mine (l := w1.heap.size) (by omega) 3 (.string noS))
        replace HG := hide (grownSet HG.out (l := w1.heap.size) (by omega) 3 (.string noS))
        replace E0 := hide (placeSet (o := 3) (l := w1.heap.size) E0.out (by omega) (.string noS))
        replace E1 : Hid ((w4.setCell ⟨w1.heap.size, 3, none⟩ (.string noS)).heap[w1.heap.size]? = some (.cells #[.int .i64 0, .int .i64 0, .string noS, .string noS] 42 (0, 0))) := hide (put4at E1.out 3 (.string noS))
        generalize w4.setCell ⟨w1.heap.size, 3, none⟩ (.string noS) = W4 at *
        have HXc := hide (box_of HC.out.pl).1
        have zc := (box_of HC.out.pl).2 2
        have f0 := HXc.out 0 _ rfl
        have f1 := HXc.out 1 _ rfl
        have f2 := HXc.out 2 _ rfl
        go_upto_region 8 with fail
        have HF := hide (HC.out.okay false)
        replace HG := hide (grown_step HG.out HF.out.2 (fun k hk => by cases hk; exact .inl rfl))
        replace E0 := hide ((HF.out.2.block w.heap.size (Array.getElem?_eq_some_iff.1 E0.out).1 (by simp; omega)).trans E0.out)
        replace E1 := hide ((HF.out.2.block w1.heap.size (Array.getElem?_eq_some_iff.1 E1.out).1 (by simp; omega)).trans E1.out)
        replace HC := hide HF.out.1
        clear f0 f1 f2 zc HXc HF
        generalize World.setCell _ ⟨g, 2, none⟩ (Value.bool false) = W3 at *
        have HXa := hide (box_of E1.out).1
        have HXb := hide (box_of E0.out).1
        have zb := (box_of E0.out).2
        have a0 := HXa.out 0 _ rfl
        have a1 := HXa.out 1 _ rfl
        have a2 := HXa.out 2 _ rfl
        have a3 := HXa.out 3 _ rfl
        have b0 := HXb.out 0 _ rfl
        have b1 := HXb.out 1 _ rfl
        have b2 := HXb.out 2 _ rfl
        have b3 := HXb.out 3 _ rfl
        go_wp2
        exact bodyPost_ret (v := constV 0 0 noS noS) (results_one Tryz.results14 _ _ _ rfl (loadK (put4 E0.out _ _ _ _))) rfl ⟨.inr ⟨HN.out, (0, 0, noS, noS), _, rfl, (((HC.out.mine hgl _ _).mine hgl _ _).mine hgl _ _).mine hgl _ _⟩, grownSet (grownSet (grownSet (grownSet HG.out (Nat.le_refl _) _ _) (Nat.le_refl _) _ _) (Nat.le_refl _) _ _) (Nat.le_refl _) _ _⟩
end Go.Proofs.YtpgmipbanpofaaaGreatDoor
/-
  The model's cursor, whether it has failed or not; a variable of one's own that is read into.
-/
namespace Go.Proofs.YtpgmipbanpofaaaGreatDoor
open Go.RowKit

def rNu (zs : List Int) (k : Nat) : Option (Int × Nat) := gnF zs 4 k 0 1
/-- The cursor stands at a place, or has failed. -/
def CuS (w : World) (B : Nat) (a : Option Addr) (len cap : Nat) (zs : List Int) (g : Nat) (st : Option Nat) : Prop := ∃ k : Int, CuI w B a len cap zs g k st.isSome ∧ ∀ n, st = some n → k = (n : Int)
theorem CuS.at {w : World} {B : Nat} {a : Option Addr} {len cap : Nat} {zs : List Int} {g n : Nat} (h : CuS w B a len cap zs g (some n)) : CuI w B a len cap zs g (n : Int) true := by
  obtain ⟨k, h1, h2⟩ := h
  rw [← h2 n rfl]
  exact h1
theorem CuS.mk {w : World} {B : Nat} {a : Option Addr} {len cap : Nat} {zs : List Int} {g n : Nat} (h : CuI w B a len cap zs g (n : Int) true) : CuS w B a len cap zs g (some n) := ⟨n, h, fun m e => by cases e; rfl⟩
theorem CuS.fail {w : World} {B : Nat} {a : Option Addr} {len cap : Nat} {zs : List Int} {g : Nat} {k : Int} (h : CuI w B a len cap zs g k false) : CuS w B a len cap zs g none := ⟨k, h, fun m e => by cases e⟩
theorem CuS.far {w w' : World} {B : Nat} {a : Option Addr} {len cap : Nat} {zs : List Int} {g : Nat} {st : Option Nat} {row : Option Nat} (h : CuS w B a len cap zs g st) (hg : w.grownBy w' row) (hne : ∀ q, row = some q → g < q) : CuS w' B a len cap zs g st := by
  obtain ⟨k, h1, h2⟩ := h
  exact ⟨k, h1.far hg hne, h2⟩
theorem CuS.lt {w : World} {B : Nat} {a : Option Addr} {len cap : Nat} {zs : List Int} {g : Nat} {st : Option Nat} (h : CuS w B a len cap zs g st) : g < w.heap.size := by
  obtain ⟨k, h1, _⟩ := h
  exact h1.lt
theorem stepU {α β : Type} {st : Option Nat} {f : Nat → Option (α × Nat)} {rest : α → Nat → Option β} {x : α} (h : ∀ q, st.bind f = some q → x = q.1) : (st.bind fun k => (f k).bind fun q => rest q.1 q.2) = ((st.bind f).map (·.2)).bind fun k => rest x k := by
  cases st with
  | none => rfl
  | some k =>
    simp only [Option.bind_some] at h ⊢
    cases hf : f k with
    | none => rfl
    | some q => rw [h q hf]; rfl
theorem numU {w : World} {B : Nat} {a : Option Addr} {len cap : Nat} {zs : List Int} {g : Nat} {st : Option Nat} (h : CuS w B a len cap zs g st) (hB : Byt zs) :
    Calls Tryz.prog 13 #[.pointer (some ⟨g, 0, none⟩)] w fun e w' => ∃ n : Nat, e = .returned (.int .i64 (n : Int)) ∧ n ≤ 16777215 ∧ (∀ q, st.bind (rNu zs) = some q → (n : Int) = q.1) ∧ CuS w' B a len cap zs g ((st.bind (rNu zs)).map (·.2)) ∧ w.grownBy w' (some g) := by
  cases st with
  | some k =>
    refine (l3NumI h.at).mono ?_
    rintro e w' ⟨h1, h2⟩
    rw [gn_nat] at h1
    rcases h1 with ⟨n, nx, _, hr, rfl, hc⟩ | ⟨hr, rfl, hc⟩
    · obtain ⟨n0, n1, _⟩ := num_back hB hr
      obtain ⟨m, rfl⟩ := Int.eq_ofNat_of_zero_le n0
      refine ⟨m, rfl, by omega, fun q hq => ?_, ?_, h2⟩
      · have : rNu zs k = some q := hq
        unfold rNu at this
        rw [hr] at this
        cases this
        rfl
      · have : (Option.map (fun x => x.snd) ((some k).bind (rNu zs))) = some nx := by show Option.map _ (rNu zs k) = _; unfold rNu; rw [hr]; rfl
        rw [this]
        exact CuS.mk hc
    · have hr : gnF zs 4 k 0 1 = none := by rcases hr with h | h; (· cases h); exact h
      have e0 : (some k).bind (rNu zs) = none := hr
      refine ⟨0, rfl, by omega, fun q hq => ?_, ?_, h2⟩
      · rw [e0] at hq; cases hq
      · rw [e0]; exact CuS.fail hc
  | none =>
    obtain ⟨k, h1, _⟩ := h
    refine (l3NumI h1).mono ?_
    rintro e w' ⟨h1, h2⟩
    rcases h1 with ⟨n, nx, e, _⟩ | ⟨hr, rfl, hc⟩
    · cases e
    · exact ⟨0, rfl, by omega, fun q hq => (by cases hq), CuS.fail hc, h2⟩
theorem textU {w : World} {B : Nat} {a : Option Addr} {len cap : Nat} {zs : List Int} {g : Nat} {st : Option Nat} (h : CuS w B a len cap zs g st) (hcap : len ≤ cap) :
    Calls Tryz.prog 12 #[.pointer (some ⟨g, 0, none⟩)] w fun e w' => ∃ s, e = .returned (.string s) ∧ (∀ q, st.bind (rTx zs) = some q → s = q.1) ∧ CuS w' B a len cap zs g ((st.bind (rTx zs)).map (·.2)) ∧ w.grownBy w' (some g) := by
  cases st with
  | some k =>
    refine (l6TextI h.at hcap).mono ?_
    rintro e w' ⟨h1, h2⟩
    rcases h1 with ⟨n, nx, _, hr, rfl, hc⟩ | ⟨hr, rfl, hc⟩
    · have e0 : (some k).bind (rTx zs) = some (n, nx) := hr
      refine ⟨n, rfl, fun q hq => ?_, ?_, h2⟩
      · rw [e0] at hq; cases hq; rfl
      · rw [e0]; exact CuS.mk hc
    · have hr : gtOf zs (gn zs k) = none := by rcases hr with h | h; (· cases h); exact h
      have e0 : (some k).bind (rTx zs) = none := hr
      refine ⟨noS, rfl, fun q hq => ?_, ?_, h2⟩
      · rw [e0] at hq; cases hq
      · rw [e0]; exact CuS.fail hc
  | none =>
    obtain ⟨k, h1, _⟩ := h
    refine (l6TextI h1 hcap).mono ?_
    rintro e w' ⟨h1, h2⟩
    rcases h1 with ⟨n, nx, e, _⟩ | ⟨hr, rfl, hc⟩
    · cases e
    · exact ⟨noS, rfl, fun q hq => (by cases hq), CuS.fail hc, h2⟩
theorem constU {w : World} {B : Nat} {a : Option Addr} {len cap : Nat} {zs : List Int} {g k : Nat} (h : CuS w B a len cap zs g (some k)) (hcap : len ≤ cap) :
    Calls Tryz.prog 14 #[.pointer (some ⟨g, 0, none⟩)] w fun e w' => ∃ c, e = .returned (kcV c) ∧ (∀ q, sKc zs k = some q → c = q.1) ∧ CuS w' B a len cap zs g ((sKc zs k).map (·.2)) ∧ w.grownBy w' (some g) := by
  refine (l6ConstI w B a len cap zs g k h.at hcap).mono ?_
  rintro e w' ⟨h1, h2⟩
  rcases h1 with ⟨c, nx, hr, rfl, hc⟩ | ⟨hr, c, k', rfl, hc⟩
  · have e0 : sKc zs k = some (kcOf c, nx) := by unfold sKc; rw [hr]; rfl
    refine ⟨kcOf c, rfl, fun q hq => ?_, ?_, h2⟩
    · rw [e0] at hq; cases hq; rfl
    · rw [e0]; exact CuS.mk hc
  · have e0 : sKc zs k = none := by unfold sKc; rw [hr]; rfl
    refine ⟨kcOf c, rfl, fun q hq => ?_, ?_, h2⟩
    · rw [e0] at hq; cases hq
    · rw [e0]; exact CuS.fail hc
/-- A variable of one's own that is read into, and the cursor. -/
structure Sx (w wr : World) (B : Nat) (a : Option Addr) (len cap : Nat) (zs : List Int) (g L : Nat) (T : TypeId) (ds : List Dt) (vs : List Value) (st : Option Nat) : Prop where
  box : wr.heap[L]? = some (.cells vs.toArray T (0, 0))
  own : OwnDL wr (L + 1) wr.heap.size ds vs
  cur : CuS wr B a len cap zs g st
  grown : w.grownBy wr (some g)
  hL : w.heap.size ≤ L
  hg : g < w.heap.size
theorem Sx.lt {w wr : World} {B : Nat} {a : Option Addr} {len cap : Nat} {zs : List Int} {g L : Nat} {T : TypeId} {ds : List Dt} {vs : List Value} {st : Option Nat} (h : Sx w wr B a len cap zs g L T ds vs st) : L < wr.heap.size := (Array.getElem?_eq_some_iff.1 h.box).1
theorem Sx.call {w wr w' : World} {B : Nat} {a : Option Addr} {len cap : Nat} {zs : List Int} {g L : Nat} {T : TypeId} {ds : List Dt} {vs : List Value} {st st' : Option Nat} (h : Sx w wr B a len cap zs g L T ds vs st) (hc : CuS w' B a len cap zs g st') (hg : wr.grownBy w' (some g)) : Sx w w' B a len cap zs g L T ds vs st' := by
  have h1 := h.hL
  have h2 := h.hg
  have h3 := h.lt
  exact ⟨(hg.block L h3 (fun e => by cases e; omega)).trans h.box, (h.own.grownP hg (by omega)).up hg.size, hc, grownBy_trans h.grown hg, h1, h2⟩
theorem Sx.below {w wr w' : World} {B : Nat} {a : Option Addr} {len cap : Nat} {zs : List Int} {g L : Nat} {T : TypeId} {ds : List Dt} {vs : List Value} {st : Option Nat} (h : Sx w wr B a len cap zs g L T ds vs st) (hb : Below wr.heap.size wr w') : Sx w w' B a len cap zs g L T ds vs st := by
  have hg := grown_of_below hb
  exact ⟨(hb.block L h.lt).trans h.box, (h.own.below hb).up hb.size, h.cur.far hg (fun q e => by cases e), grown_step h.grown hg (fun k hk => by cases hk), h.hL, h.hg⟩
theorem Sx.set {w wr : World} {B : Nat} {a : Option Addr} {len cap : Nat} {zs : List Int} {g L : Nat} {T : TypeId} {c1 c2 : List Dt} {v1 v2 : List Value} {u x : Value} {st : Option Nat} (h : Sx w wr B a len cap zs g L T (c1 ++ .val u :: c2) (v1 ++ x :: v2) st) (i : Nat) (hi : v1.length = i) (hl : v1.length = c1.length) (u' : Value) :
    Sx w (wr.setCell ⟨L, i, none⟩ u') B a len cap zs g L T (c1 ++ .val u' :: c2) (v1 ++ u' :: v2) st := by
  have h1 := h.hL
  have h2 := h.hg
  subst hi
  refine ⟨?_, ?_, h.cur.far (grown_set (g := L) (World.grownBy.refl wr (some L)) _ _) (fun q e => by cases e; omega), grownNew h.grown h1 _ _, h1, h2⟩
  · rw [heap_setCell_same wr L v1.length _ _ _ h.box]
    simp
  · exact ((h.own.setVal hl u').same (fun q hq _ _ => heap_setCell_other _ _ _ _ (by simp; omega))).up (by simp)
/-- Behind an append into a cell of the variable: the slice is stored. -/
theorem Sx.app {w wr w' : World} {B : Nat} {a : Option Addr} {len cap : Nat} {zs : List Int} {g L : Nat} {T : TypeId} {ds ds' : List Dt} {v1 v2 : List Value} {x v' : Value} {st : Option Nat} {own : Option Nat} (h : Sx w wr B a len cap zs g L T ds (v1 ++ x :: v2) st) (i : Nat) (hi : v1.length = i) (ho : OwnDL w' (L + 1) w'.heap.size ds' (v1 ++ v' :: v2)) (hg : wr.grownBy w' own) (hq : ∀ q, own = some q → L + 1 ≤ q) :
    w'.heap[L]? = some (.cells (v1 ++ x :: v2).toArray T (0, 0)) ∧ Sx w (w'.setCell ⟨L, i, none⟩ v') B a len cap zs g L T ds' (v1 ++ v' :: v2) st := by
  have h1 := h.hL
  have h2 := h.hg
  have h3 := h.lt
  subst hi
  have hb := (hg.block L h3 (fun e => by have := hq L e.symm; omega)).trans h.box
  have hc := h.cur.far hg (fun q e => by have := hq q e; omega)
  refine ⟨hb, ?_, ?_, hc.far (grown_set (g := L) (World.grownBy.refl w' (some L)) _ _) (fun q e => by cases e; omega), grownNew (grown_step h.grown hg (fun q e => .inr (by have := hq q e; omega))) h1 _ _, h1, h2⟩
  · rw [heap_setCell_same w' L v1.length _ _ _ hb]
    simp
  · exact (ho.same (fun q hq _ _ => heap_setCell_other _ _ _ _ (by simp; omega))).up (by simp)
theorem tx_adv {zs : List Int} (hB : Byt zs) {k nx : Nat} {s : ByteArray} (h : rTx zs k = some (s, nx)) : k < nx ∧ nx ≤ zs.length := by
  have h3 := (text_back hB h).2.2
  unfold rTx gtx at h
  rw [gn_nat] at h
  cases hn : gnF zs 4 k 0 1 with
  | none => rw [hn] at h; cases h
  | some q =>
    obtain ⟨n, m⟩ := q
    rw [hn] at h
    obtain ⟨a1, a2, _, a4, a5⟩ := num_back hB hn
    have hp := pn_posK a1 a2
    simp only [gtOf] at h
    split at h
    · cases h; exact ⟨by omega, h3⟩
    · cases h
theorem kc_adv {zs : List Int} (hB : Byt zs) {k nx : Nat} {x : Kc} (h : sKc zs k = some (x, nx)) : k < nx ∧ nx ≤ zs.length := by
  unfold sKc at h
  obtain ⟨⟨c, e⟩, hc, h⟩ := Option.map_eq_some_iff.1 h
  cases h
  obtain ⟨_, ok, _, h2, h3⟩ := const_back hB hc
  rw [Int.toNat_natCast] at h2
  have e : kB c.1 c.2.1 c.2.2.1 c.2.2.2 = kB0 c.1 c.2.1 c.2.2.1 c.2.2.2 := by
    unfold cOk at ok
    simp [kB, ok]
  have hk := kOk_kind ok
  have hp := pn_posK (x := c.1) (by omega) (by omega)
  rw [e] at h2
  unfold kB0 at h2
  rw [List.length_append] at h2
  exact ⟨by omega, h3⟩
theorem fd_adv {zs : List Int} (hB : Byt zs) {k nx : Nat} {x : Fd} (h : rFd zs k = some (x, nx)) : k < nx ∧ nx ≤ zs.length := by
  unfold rFd at h
  obtain ⟨⟨a, k1⟩, h1, h⟩ := Option.bind_eq_some_iff.1 h
  obtain ⟨⟨b, k2⟩, h2, h⟩ := Option.bind_eq_some_iff.1 h
  simp only [Option.some.injEq, Prod.mk.injEq] at h
  obtain ⟨rfl, rfl⟩ := h
  have a1 := tx_adv hB h1
  have a2 := tx_adv hB h2
  exact ⟨by simp only at a2; omega, a2.2⟩
theorem num_adv {zs : List Int} (hB : Byt zs) {k nx : Nat} {x : Int} (h : gnF zs 4 k 0 1 = some (x, nx)) : k < nx ∧ nx ≤ zs.length := by
  obtain ⟨a1, a2, _, a4, a5⟩ := num_back hB h
  have hp := pn_posK a1 a2
  exact ⟨by omega, a5⟩
theorem list_adv {α : Type} {zs : List Int} {f : Nat → Option (α × Nat)} (hf : ∀ k x nx, f k = some (x, nx) → k < nx ∧ nx ≤ zs.length) : ∀ (n k e : Nat) (xs : List α), k ≤ zs.length → rList f n k = some (xs, e) → k + n ≤ e ∧ e ≤ zs.length
  | 0, k, e, xs, hk, h => by
    simp only [rList, Option.some.injEq, Prod.mk.injEq] at h
    omega
  | n + 1, k, e, xs, hk, h => by
    rw [rList] at h
    obtain ⟨⟨x, kx⟩, hx, h⟩ := Option.bind_eq_some_iff.1 h
    obtain ⟨⟨ys, ky⟩, hy, h⟩ := Option.bind_eq_some_iff.1 h
    simp only [Option.some.injEq, Prod.mk.injEq] at h
    obtain ⟨rfl, rfl⟩ := h
    have h1 := hf _ _ _ hx
    have h2 := list_adv hf n kx ky ys h1.2 hy
    omega
theorem me_adv {zs : List Int} (hB : Byt zs) {k nx : Nat} {x : Me} (h : sMe zs k = some (x, nx)) : k < nx ∧ nx ≤ zs.length := by
  unfold sMe sMany sCode at h
  obtain ⟨⟨n, k1⟩, h1, h⟩ := Option.bind_eq_some_iff.1 h
  obtain ⟨⟨ps, k2⟩, h2, h⟩ := Option.bind_eq_some_iff.1 h
  obtain ⟨⟨c, k2'⟩, h2', h2⟩ := Option.bind_eq_some_iff.1 h2
  obtain ⟨⟨r, k3⟩, h3, h⟩ := Option.bind_eq_some_iff.1 h
  obtain ⟨⟨l, k4⟩, h4, h⟩ := Option.bind_eq_some_iff.1 h
  obtain ⟨⟨c, k5⟩, h5, h⟩ := Option.bind_eq_some_iff.1 h
  obtain ⟨⟨cn, k5'⟩, h5', h5⟩ := Option.bind_eq_some_iff.1 h5
  simp only [Option.some.injEq, Prod.mk.injEq] at h
  obtain ⟨rfl, rfl⟩ := h
  have a1 := tx_adv hB h1
  have a2 := num_adv hB h2'
  have a3 := list_adv (fun k x nx h => tx_adv hB h) _ _ _ _ a2.2 h2
  have a4 := tx_adv hB h3
  have a5 := num_adv hB h4
  have a6 := num_adv hB h5'
  simp only at h5 a2 a3 a4 a5 a6
  split at h5
  · cases h5
    omega
  · cases h5
end Go.Proofs.YtpgmipbanpofaaaGreatDoor
