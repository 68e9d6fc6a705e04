/-
  Joined: WordSpec, CurS, MsgOfL, AppAt, MsgBS, StepW, BelC.
-/
import Derived.Test.YtbkhlaiifbdfoaaDoorJ2
import Derived.Deep.QuietTactic
import Derived.BigQuiet
import Derived.Test.YtbkhlaiifbdfoaaDoorJ6
import Derived.Laws.BytesArg
import Derived.Lib.Bytes
import Derived.Test.YtbkhlaiifbdfoaaDoorJ5
import Derived.Test.YtbkhlaiifbdfoaaDoorJ1
import Derived.Deep.RegionHeldLaw
import Derived.Deep.RegionLaw
import Derived.Deep.DrawnRows
/-
  What the model's GetWord does: it answers as the readers of the program do.
-/
namespace Go.Proofs.YtbkhlaiifbdfoaaDoor
open Go.RowKit

set_option maxHeartbeats 2000000 in
theorem getWordModel (w : World) (a : Option Addr) (len cap : Nat) (zs : List Int) (k : Int) (B : Nat) (hin : In w B a len zs) :
    Calls Tryd.prog 74 #[.slice a len cap, .int .i64 k] w fun e w' => e = .returned (ans (gw zs k)) ∧ ∃ q, w' = w.drewN q := by
  have hlen := hin.1
  have hl := hin.2.1
  by_cases hneg : k < 0
  · have e1 : gw zs k = none := by unfold gw; rw [if_neg (by omega)]
    rw [e1]
    clear hin
    go_enter Tryd.func74, Tryd.ntmps74
    go_wp2
    go_ret3
    exact ⟨rfl, 0, rfl⟩
  · obtain ⟨k0, rfl⟩ := Int.eq_ofNat_of_zero_le (show 0 ≤ k by omega)
    by_cases hr : k0 + 4 ≤ len
    · have e1 : gw zs (k0 : Int) = some (rnd (ws zs k0 4), k0 + 4) := by unfold gw; rw [if_pos (by simp; omega)]; simp
      obtain ⟨b, o, rfl, hbB, hcell⟩ := hin.2.2.2 (by omega)
      have z0 := hcell k0 (by omega)
      have z1 := hcell (k0 + 1) (by omega)
      have z2 := hcell (k0 + 2) (by omega)
      have z3 := hcell (k0 + 3) (by omega)
      have r0 := hin.2.2.1 k0 (by omega)
      have r1 := hin.2.2.1 (k0 + 1) (by omega)
      have r2 := hin.2.2.1 (k0 + 2) (by omega)
      have r3 := hin.2.2.1 (k0 + 3) (by omega)
      rw [e1]
      unfold ws
      clear hin hcell hbB e1
      generalize zs.getD k0 0 = x0 at *
      generalize zs.getD (k0 + 1) 0 = x1 at *
      generalize zs.getD (k0 + 2) 0 = x2 at *
      generalize zs.getD (k0 + 3) 0 = x3 at *
      have h1 : bits .or .i64 x0 (x1 * 256) = x0 + x1 * 256 := or_low 8 (by omega) _ _ (by omega) (by omega) (by omega) (by omega) (by omega)
      have h2 : bits .or .i64 (x0 + x1 * 256) (x2 * 65536) = x0 + x1 * 256 + x2 * 65536 := or_low 16 (by omega) _ _ (by omega) (by omega) (by omega) (by omega) (by omega)
      have h3 : bits .or .i64 (x0 + x1 * 256 + x2 * 65536) (x3 * 16777216) = x0 + x1 * 256 + x2 * 65536 + x3 * 16777216 := or_low 24 (by omega) _ _ (by omega) (by omega) (by omega) (by omega) (by omega)
      have b1 : (k0 : Int) + 3 < (len : Int) := by omega
      go_enter Tryd.func74, Tryd.ntmps74
      go_wp2
      go_quiet (fail)
      go_wp2_with (go_at_call 81; refine (roundSpec _ _).mono ?_; rintro e w' ⟨rfl, rfl⟩)
      go_ret3
      exact ⟨ret_ans rfl rfl (by omega), _, rfl⟩
    · have e1 : gw zs (k0 : Int) = none := by unfold gw; rw [if_neg (by simp; omega)]
      rw [e1]
      clear hin
      go_enter Tryd.func74, Tryd.ntmps74
      go_wp2
      go_ret3
      exact ⟨rfl, 0, rfl⟩
end Go.Proofs.YtbkhlaiifbdfoaaDoor
/-
  What l3Num and l3Word do: they go through bytes by a cursor, and say once that something was none.
-/
namespace Go.Proofs.YtbkhlaiifbdfoaaDoor
open Go.RowKit

/-- The model's cursor. -/
structure Cu (w : World) (B : Nat) (a : Option Addr) (len cap : Nat) (zs : List Int) (g k : Nat) (ok : Bool) : Prop where
  inp : In w B a len zs
  hB : B ≤ g
  pl : w.heap[g]? = some (.cells #[.slice a len cap, .int .i64 (k : Int), .bool ok] 71 (0, 0))
theorem Cu.lt {w : World} {B : Nat} {a : Option Addr} {len cap : Nat} {zs : List Int} {g k : Nat} {ok : Bool} (h : Cu w B a len cap zs g k ok) : g < w.heap.size := (Array.getElem?_eq_some_iff.1 h.pl).1
theorem Cu.set {w : World} {B : Nat} {a : Option Addr} {len cap : Nat} {zs : List Int} {g k : Nat} {ok : Bool} (h : Cu w B a len cap zs g k ok) (o : Nat) (u : Value) (k' : Nat) (ok' : Bool) (hs : (#[.slice a len cap, .int .i64 (k : Int), .bool ok] : Array Value).setIfInBounds o u = #[.slice a len cap, .int .i64 (k' : Int), .bool ok']) :
    Cu (w.setCell ⟨g, o, none⟩ u) B a len cap zs g k' ok' ∧ w.grownBy (w.setCell ⟨g, o, none⟩ u) (some g) := by
  have hg := grown_set (World.grownBy.refl w (some g)) o u
  refine ⟨⟨h.inp.out hg h.hB h.lt, h.hB, ?_⟩, hg⟩
  rw [heap_setCell_same w g o _ _ u h.pl, hs]
theorem Cu.fail {w : World} {B : Nat} {a : Option Addr} {len cap : Nat} {zs : List Int} {g k : Nat} {ok : Bool} (h : Cu w B a len cap zs g k ok) :
    Cu (w.setCell ⟨g, 2, none⟩ (.bool false)) B a len cap zs g k false ∧ w.grownBy (w.setCell ⟨g, 2, none⟩ (.bool false)) (some g) := h.set 2 _ k false rfl
theorem Cu.next {w : World} {B : Nat} {a : Option Addr} {len cap : Nat} {zs : List Int} {g k : Nat} {ok : Bool} (h : Cu w B a len cap zs g k ok) (k' : Nat) :
    Cu (w.setCell ⟨g, 1, none⟩ (.int .i64 (k' : Int))) B a len cap zs g k' ok ∧ w.grownBy (w.setCell ⟨g, 1, none⟩ (.int .i64 (k' : Int))) (some g) := h.set 1 _ k' ok rfl
theorem Cu.drewN {w w' : World} {B : Nat} {a : Option Addr} {len cap : Nat} {zs : List Int} {g k : Nat} {ok : Bool} (h : Cu w' B a len cap zs g k ok ∧ w.grownBy w' (some g)) (q : Nat) : Cu (w'.drewN q) B a len cap zs g k ok ∧ w.grownBy (w'.drewN q) (some g) :=
  ⟨⟨h.1.inp, h.1.hB, h.1.pl⟩, ⟨h.2.os, h.2.tape, h.2.output, h.2.size, h.2.block⟩⟩
theorem Cu.far {w w' : World} {B : Nat} {a : Option Addr} {len cap : Nat} {zs : List Int} {g k : Nat} {ok : Bool} {row : Option Nat} (h : Cu w B a len cap zs g k ok) (hg : w.grownBy w' row) (hne : ∀ q, row = some q → g < q) : Cu w' B a len cap zs g k ok := by
  have hl := h.lt
  have hB := h.hB
  exact ⟨h.inp.kept (fun q hq => hg.block q (by omega) (fun e => by have := hne q e.symm; omega)), hB, (hg.block g hl (fun e => by have := hne g e.symm; omega)).trans h.pl⟩

set_option maxRecDepth 100000 in
set_option maxHeartbeats 2000000 in
theorem l3Num {w : World} {B : Nat} {a : Option Addr} {len cap : Nat} {zs : List Int} {g k : Nat} {ok : Bool} (h : Cu w B a len cap zs g k ok) :
    Calls Tryd.prog 46 #[.pointer (some ⟨g, 0, none⟩)] w fun e w' => ∃ (n : Int) (k' : Nat) (ok' : Bool), e = .returned (.int .i64 n) ∧ Cu w' B a len cap zs g k' ok' ∧ w.grownBy w' (some g) ∧ ((ok' = true ∧ ok = true ∧ gnF zs 4 k 0 1 = some (n, k')) ∨ (ok' = false ∧ n = 0 ∧ k' = k ∧ (ok = false ∨ gnF zs 4 k 0 1 = none))) := by
  have hget : ∀ q, Calls Tryd.prog 73 #[.slice a len cap, .int .i64 (k : Int)] (w.drewN q) fun e w' => e = .returned (ans (gnF zs 4 k 0 1)) ∧ w' = w.drewN q := fun q => getNumSpec (w.drewN q) a len cap zs k B (h.inp.drewN q)
  have HC := hide h
  have X := box_of h.pl
  have HX := hide X.1
  have z1 := X.2 1
  have z2 := X.2 2
  have f0 := HX.out 0 _ rfl
  have f1 := HX.out 1 _ rfl
  have f2 := HX.out 2 _ rfl
  clear X h
  cases hr : gnF zs 4 k 0 1 with
  | none =>
    have HR := hide hr
    rw [hr] at hget
    clear hr
    unfold ans at hget
    have HG := hide hget
    have HF := hide (HC.out.fail)
    clear hget
    cases ok with
    | true =>
      go_enter Tryd.func46, Tryd.ntmps46
      go_wp2
      go_quiet ((go_at_call 73; exact Calls.quiet_of_same (HG.out _)))
      go_wp2
      go_ret
      exact ⟨_, k, false, rfl, (Cu.drewN HF.out nq).1, (Cu.drewN HF.out nq).2, by have := HR.out; simp_all⟩
    | false =>
      go_enter Tryd.func46, Tryd.ntmps46
      go_wp2
      go_quiet ((go_at_call 73; exact Calls.quiet_of_same (HG.out _)))
      go_wp2
      go_ret
      exact ⟨_, k, false, rfl, (Cu.drewN HF.out nq).1, (Cu.drewN HF.out nq).2, by have := HR.out; simp_all⟩
  | some r =>
    obtain ⟨n, nx⟩ := r
    have HR := hide hr
    rw [hr] at hget
    clear hr
    unfold ans at hget
    have HG := hide hget
    clear hget
    cases ok with
    | true =>
      have HF := hide (HC.out.next nx)
      go_enter Tryd.func46, Tryd.ntmps46
      go_wp2
      go_quiet ((go_at_call 73; exact Calls.quiet_of_same (HG.out _)))
      go_wp2
      go_ret
      exact ⟨_, nx, true, rfl, (Cu.drewN HF.out nq).1, (Cu.drewN HF.out nq).2, by have := HR.out; simp_all⟩
    | false =>
      have HF := hide (HC.out.fail)
      go_enter Tryd.func46, Tryd.ntmps46
      go_wp2
      go_quiet ((go_at_call 73; exact Calls.quiet_of_same (HG.out _)))
      go_wp2
      go_ret
      exact ⟨_, k, false, rfl, (Cu.drewN HF.out nq).1, (Cu.drewN HF.out nq).2, by have := HR.out; simp_all⟩

set_option maxRecDepth 100000 in
set_option maxHeartbeats 2000000 in
theorem l3Word {w : World} {B : Nat} {a : Option Addr} {len cap : Nat} {zs : List Int} {g k : Nat} {ok : Bool} (h : Cu w B a len cap zs g k ok) :
    Calls Tryd.prog 47 #[.pointer (some ⟨g, 0, none⟩)] w fun e w' => ∃ (n : Int) (k' : Nat) (ok' : Bool), e = .returned (.int .i64 n) ∧ Cu w' B a len cap zs g k' ok' ∧ w.grownBy w' (some g) ∧ ((ok' = true ∧ ok = true ∧ gw zs (k : Int) = some (n, k')) ∨ (ok' = false ∧ n = 0 ∧ k' = k ∧ (ok = false ∨ gw zs (k : Int) = none))) := by
  have hget : ∀ q, Calls Tryd.prog 74 #[.slice a len cap, .int .i64 (k : Int)] (w.drewN q) fun e w' => e = .returned (ans (gw zs (k : Int))) ∧ ∃ q', w' = (w.drewN q).drewN q' := fun q => getWordModel (w.drewN q) a len cap zs (k : Int) B (h.inp.drewN q)
  have HC := hide h
  have X := box_of h.pl
  have HX := hide X.1
  have z1 := X.2 1
  have z2 := X.2 2
  have f0 := HX.out 0 _ rfl
  have f1 := HX.out 1 _ rfl
  have f2 := HX.out 2 _ rfl
  clear X h
  cases hr : gw zs (k : Int) with
  | none =>
    have HR := hide hr
    rw [hr] at hget
    clear hr
    unfold ans at hget
    have HG := hide hget
    have HF := hide (HC.out.fail)
    clear hget
    cases ok with
    | true =>
      go_enter Tryd.func47, Tryd.ntmps47
      go_wp2
      go_quiet ((go_at_call 74; exact Calls.quiet_of (HG.out _)))
      go_wp2
      go_ret
      exact ⟨_, k, false, rfl, (Cu.drewN HF.out nq).1, (Cu.drewN HF.out nq).2, by have := HR.out; simp_all⟩
    | false =>
      go_enter Tryd.func47, Tryd.ntmps47
      go_wp2
      go_quiet ((go_at_call 74; exact Calls.quiet_of (HG.out _)))
      go_wp2
      go_ret
      exact ⟨_, k, false, rfl, (Cu.drewN HF.out nq).1, (Cu.drewN HF.out nq).2, by have := HR.out; simp_all⟩
  | some r =>
    obtain ⟨n, nx⟩ := r
    have HR := hide hr
    rw [hr] at hget
    clear hr
    unfold ans at hget
    have HG := hide hget
    clear hget
    cases ok with
    | true =>
      have HF := hide (HC.out.next nx)
      go_enter Tryd.func47, Tryd.ntmps47
      go_wp2
      go_quiet ((go_at_call 74; exact Calls.quiet_of (HG.out _)))
      go_wp2
      go_ret
      exact ⟨_, nx, true, rfl, (Cu.drewN HF.out nq).1, (Cu.drewN HF.out nq).2, by have := HR.out; simp_all⟩
    | false =>
      have HF := hide (HC.out.fail)
      go_enter Tryd.func47, Tryd.ntmps47
      go_wp2
      go_quiet ((go_at_call 74; exact Calls.quiet_of (HG.out _)))
      go_wp2
      go_ret
      exact ⟨_, k, false, rfl, (Cu.drewN HF.out nq).1, (Cu.drewN HF.out nq).2, by have := HR.out; simp_all⟩
end Go.Proofs.YtbkhlaiifbdfoaaDoor
/-
  How the model goes on where the program does, and what is lost where it does not.
-/
namespace Go.Proofs.YtbkhlaiifbdfoaaDoor
open Go.RowKit

/-- Either it goes on as the program does, or the program reads nothing. -/
def Live {β : Type} (ok : Bool) (X G : Option β) : Prop := (ok = true ∧ X = G) ∨ G = none

theorem Live.num {β : Type} {zs : List Int} {k k' : Nat} {n : Int} {ok ok' : Bool} {F : Int × Nat → Option β} {G : Option β} (h : Live ok ((gnF zs 4 k 0 1).bind F) G)
    (hd : (ok' = true ∧ ok = true ∧ gnF zs 4 k 0 1 = some (n, k')) ∨ (ok' = false ∧ n = 0 ∧ k' = k ∧ (ok = false ∨ gnF zs 4 k 0 1 = none))) : Live ok' (F (n, k')) G := by
  rcases h with ⟨h1, h2⟩ | h
  · rcases hd with ⟨h3, _, h5⟩ | ⟨_, _, _, h6 | h6⟩
    · rw [h5] at h2; exact .inl ⟨h3, h2⟩
    · rw [h1] at h6; cases h6
    · rw [h6] at h2; exact .inr h2.symm
  · exact .inr h
theorem Live.word {β : Type} {zs : List Int} {k k' : Nat} {n : Int} {ok ok' : Bool} {F : Int × Nat → Option β} {G : Option β} (h : Live ok ((gw zs (k : Int)).bind F) G)
    (hd : (ok' = true ∧ ok = true ∧ gw zs (k : Int) = some (n, k')) ∨ (ok' = false ∧ n = 0 ∧ k' = k ∧ (ok = false ∨ gw zs (k : Int) = none))) : Live ok' (F (n, k')) G := by
  rcases h with ⟨h1, h2⟩ | h
  · rcases hd with ⟨h3, _, h5⟩ | ⟨_, _, _, h6 | h6⟩
    · rw [h5] at h2; exact .inl ⟨h3, h2⟩
    · rw [h1] at h6; cases h6
    · rw [h6] at h2; exact .inr h2.symm
  · exact .inr h
theorem Live.eq {β : Type} {ok : Bool} {X Y G : Option β} (h : Live ok X G) (e : X = Y) : Live ok Y G := by subst e; exact h
theorem Live.dead {β : Type} {X G : Option β} (h : Live false X G) : G = none := by
  rcases h with ⟨h1, _⟩ | h
  · cases h1
  · exact h
theorem Live.none_ {β : Type} {ok : Bool} {X Y G : Option β} (h : Live ok X G) (e : X = none) : Live ok Y G := by
  rcases h with ⟨_, h2⟩ | h
  · exact .inr (by rw [← h2, e])
  · exact .inr h
theorem num_on {zs : List Int} (hB : Byt zs) {k k' : Nat} {n : Int} {ok ok' : Bool} (hk : k ≤ zs.length)
    (hd : (ok' = true ∧ ok = true ∧ gnF zs 4 k 0 1 = some (n, k')) ∨ (ok' = false ∧ n = 0 ∧ k' = k ∧ (ok = false ∨ gnF zs 4 k 0 1 = none))) : k ≤ k' ∧ k' ≤ zs.length ∧ (ok' = true → k < k') ∧ 0 ≤ n ∧ n ≤ 16777215 := by
  rcases hd with ⟨_, _, h⟩ | ⟨h, rfl, rfl, _⟩
  · obtain ⟨h1, h2, _, h4, h5⟩ := num_back hB h
    have := pn_pos n h1 h2
    exact ⟨by omega, h5, fun _ => by omega, h1, h2⟩
  · exact ⟨Nat.le_refl _, hk, (fun e => by rw [h] at e; cases e), by omega, by omega⟩
theorem word_on {zs : List Int} (hB : Byt zs) {k k' : Nat} {n : Int} {ok ok' : Bool} (hk : k ≤ zs.length)
    (hd : (ok' = true ∧ ok = true ∧ gw zs (k : Int) = some (n, k')) ∨ (ok' = false ∧ n = 0 ∧ k' = k ∧ (ok = false ∨ gw zs (k : Int) = none))) : k ≤ k' ∧ k' ≤ zs.length ∧ (ok' = true → k < k') := by
  rcases hd with ⟨_, _, h⟩ | ⟨h, _, rfl, _⟩
  · obtain ⟨h1, h2, _, h4, h5⟩ := word_back hB h
    have e := pw_in n h1 h2
    rw [e] at h4
    simp at h4
    exact ⟨by omega, h5, fun _ => by omega⟩
  · exact ⟨Nat.le_refl _, hk, (fun e => by rw [h] at e; cases e)⟩

theorem in_str {w : World} {B len b o : Nat} (c : Nat) {zs : List Int} (h : In w B (some ⟨b, o, none⟩) len zs) : (convert 22 9 (.slice (some ⟨b, o, none⟩) len c)).run Tryd.prog w = .ok (.string (strOfNums zs)) w :=
  run_convert_bytes_arg (P := Tryd.prog) w 22 5 Tryd.underlying22 Tryd.underlying5 b o len c zs h.1 (fun i hi => by
    obtain ⟨b', o', ha, _, hcell⟩ := h.2.2.2 (by omega)
    cases ha
    exact hcell i hi) 9 Tryd.underlying9
theorem own_str {w : World} {b : Nat} {v : Value} {zs : List Int} (h : Own w b v zs) : (convert 22 9 v).run Tryd.prog w = .ok (.string (strOfNums zs)) w := by
  rcases h.2 with ⟨rfl, h0⟩ | ⟨g, c, cur, rfl, _⟩
  · have hn : zs = [] := List.eq_nil_of_length_eq_zero h0
    subst hn
    exact run_convert_bytes_nil (P := Tryd.prog) w 22 5 Tryd.underlying22 Tryd.underlying5 0 0 9 Tryd.underlying9
  · refine run_convert_bytes_arg (P := Tryd.prog) w 22 5 Tryd.underlying22 Tryd.underlying5 g 0 zs.length c zs rfl (fun i hi => ?_) 9 Tryd.underlying9
    have := World.ownsRow.cellAt h i (by omega)
    rw [Nat.zero_add, this]
    simp [hi]
theorem byte_inj : ∀ (xs ys : List Int), Byt xs → Byt ys → xs.map (fun n => UInt8.ofNat n.toNat) = ys.map (fun n => UInt8.ofNat n.toNat) → xs = ys
  | [], [], _, _, _ => rfl
  | [], _ :: _, _, _, h => by simp at h
  | _ :: _, [], _, _, h => by simp at h
  | x :: xs, y :: ys, hx, hy, h => by
    simp only [List.map_cons, List.cons.injEq] at h
    have h1 := hx x (by simp)
    have h2 := hy y (by simp)
    have h3 : x.toNat = y.toNat := by
      have := congrArg UInt8.toNat h.1
      simp at this
      omega
    have h4 := byte_inj xs ys (fun z hz => hx z (by simp [hz])) (fun z hz => hy z (by simp [hz])) h.2
    rw [h4, show x = y from by omega]
theorem str_eq (xs ys : List Int) (hx : Byt xs) (hy : Byt ys) : ((strOfNums xs).toList == (strOfNums ys).toList) = decide (xs = ys) := by
  by_cases h : xs = ys
  · subst h; simp
  · rw [decide_eq_false h, beq_eq_false_iff_ne]
    intro h'
    rw [Go.Lib.strOfNums_toList, Go.Lib.strOfNums_toList] at h'
    exact h (byte_inj xs ys hx hy h')

theorem msgB_pos (m : M) (h : m.ok = true) : 0 < m.b.length := by
  obtain ⟨h1, _⟩ := mOk_parts h
  have := pn_pos m.k (by omega) (by omega)
  unfold M.b msgB headB
  simp only [List.length_append]
  omega
/-- What the model's test says is what the program's does. -/
theorem model_yes {zs : List Int} (hB : Byt zs) {m : M} (hz : 0 < zs.length) (h : mBytes m.k m.i m.u m.c m.n m.cs m.ns = zs) : mOf zs = some m := by
  unfold mBytes at h
  cases hm : mOk m.k m.i m.u m.c m.n m.cs m.ns with
  | false => rw [hm] at h; rw [← h] at hz; simp at hz
  | true => rw [hm] at h; exact (mOf_iff hB m).2 ⟨hm, h.symm⟩
theorem model_no {zs : List Int} (hB : Byt zs) {m : M} {k : Nat} {ok : Bool} (hl : Live ok (some (m, k)) (rMsg zs 0)) (h : mBytes m.k m.i m.u m.c m.n m.cs m.ns ≠ zs) : mOf zs = none := by
  cases hm : mOf zs with
  | none => rfl
  | some m' =>
    obtain ⟨h1, h2⟩ := (mOf_iff hB m').1 hm
    have h3 := msg_put (zs := zs) h1 ⟨[], by rw [List.drop_zero, List.append_nil]; exact h2⟩
    rw [h3] at hl
    rcases hl with ⟨_, hl⟩ | hl
    · simp only [Option.some.injEq, Prod.mk.injEq] at hl
      obtain ⟨rfl, _⟩ := hl
      exfalso
      apply h
      unfold mBytes
      rw [show mOk m.k m.i m.u m.c m.n m.cs m.ns = true from h1]
      exact h2.symm
    · cases hl
theorem model_dead {zs : List Int} (h : rMsg zs 0 = none) : mOf zs = none := mOf_none h
theorem model_empty {zs : List Int} (hB : Byt zs) (h : zs.length = 0) : mOf zs = none := by
  cases hm : mOf zs with
  | none => rfl
  | some m' =>
    obtain ⟨h1, h2⟩ := (mOf_iff hB m').1 hm
    have := msgB_pos m' h1
    rw [← h2] at this
    omega

/-- What follows behind the cells. -/
def F5v (zs : List Int) (k i u c n : Int) (cs : List (Int × Bool × Int) × Nat) : Option (M × Nat) :=
  (gnF zs 4 cs.2 0 1).bind fun n6 => (if 130 < n6.1 then none else rList (rNote zs) n6.1.toNat n6.2).bind fun ns => some (⟨k, i, u, c, n, cs.1, ns.1⟩, ns.2)
section
variable {β : Type} (zs : List Int) (m : Nat)
def cY (H : List (Int × Bool × Int) × Nat → Option β) (x : Int) (r : Bool) (y : Int × Nat) : Option β := (rList (rCell zs) m y.2).bind fun s => H ((x, r, y.1) :: s.1, s.2)
def cF (H : List (Int × Bool × Int) × Nat → Option β) (x : Int) (f : Int × Nat) : Option β := if 1 < f.1 then none else if f.1 = 1 then (gnF zs 4 f.2 0 1).bind (cY zs m H x true) else (gw zs (f.2 : Int)).bind (cY zs m H x false)
def cA (H : List (Int × Bool × Int) × Nat → Option β) (a : Int × Nat) : Option β := (gnF zs 4 a.2 0 1).bind (cF zs m H a.1)
theorem cell_start (H : List (Int × Bool × Int) × Nat → Option β) (k : Nat) : (rList (rCell zs) (m + 1) k).bind H = (gnF zs 4 k 0 1).bind (cA zs m H) := by
  rw [rList, Option.bind_assoc]
  unfold cA cF cY
  generalize rList (rCell zs) m = R
  unfold rCell
  rw [Option.bind_assoc]
  congr 1
  funext a
  rw [Option.bind_assoc]
  congr 1
  funext f
  by_cases h1 : 1 < f.1
  · rw [if_pos h1, if_pos h1]; rfl
  · rw [if_neg h1, if_neg h1]
    by_cases h2 : f.1 = 1
    · rw [if_pos h2, if_pos h2, Option.bind_assoc]
      congr 1
      funext y
      simp [Option.bind_assoc]
    · rw [if_neg h2, if_neg h2, Option.bind_assoc]
      congr 1
      funext y
      simp [Option.bind_assoc]
def nY (H : List (Int × Int) × Nat → Option β) (x : Int) (y : Int × Nat) : Option β := (rList (rNote zs) m y.2).bind fun s => H ((x, y.1) :: s.1, s.2)
def nA (H : List (Int × Int) × Nat → Option β) (a : Int × Nat) : Option β := (gnF zs 4 a.2 0 1).bind (nY zs m H a.1)
theorem note_start (H : List (Int × Int) × Nat → Option β) (k : Nat) : (rList (rNote zs) (m + 1) k).bind H = (gnF zs 4 k 0 1).bind (nA zs m H) := by
  rw [rList, Option.bind_assoc]
  unfold nA nY
  generalize rList (rNote zs) m = R
  unfold rNote
  rw [Option.bind_assoc]
  congr 1
  funext a
  rw [Option.bind_assoc]
  congr 1
  funext f
  simp [Option.bind_assoc]
end
end Go.Proofs.YtbkhlaiifbdfoaaDoor
/-
  Rows of bytes of one's own, one put behind another, and where they lie then.
-/
namespace Go.Proofs.YtbkhlaiifbdfoaaDoor
open Go.RowKit

/-- 'append(v, u...)', both rows of one's own: u's bytes behind v's; v's block, or a new one. -/
theorem app_own_at {w : World} {ops : Array Oper} {rest : List Oper} {o : Oper} {act : Act} {Q : Exit → Act → World → Prop} (hgd : o.guard = none) (s x : Operand)
    (ho : o.op = .call { callee := .builtin .append, args := #[s, x], argTypes := #[22, 22] }) (base b2 : Nat) (v u : Value) (xs zs : List Int) (hs : act.eval s = v) (hown : Own w base v xs)
    (hx : act.eval x = u) (hu : Own w b2 u zs) (hz : Byt zs) (hl : zs.length ≤ 1048576) (hsm : xs.length ≤ 2000000) (hbase : base ≤ w.heap.size)
    (h : ∀ v' w', Own w' base v' (xs ++ zs) → w.grownBy w' v.ownBlock → (v'.ownBlock = v.ownBlock ∨ v'.ownBlock = some w.heap.size) → wpList Tryd.prog ops Q rest (act.put o.dst v') w') :
    wpList Tryd.prog ops Q (o :: rest) act w := by
  obtain ⟨i0, hi, hz0, hz1, hz2⟩ := info_parts Tryd.info5
  obtain ⟨a, c, rfl, hin, _⟩ := in_any hu hl hz (Nat.le_refl _)
  cases a with
  | none =>
    obtain ⟨h0, rfl⟩ := hin.none_len
    obtain rfl := hu.cap0 rfl
    refine wpList_append_own_none hgd s x 22 ho base 5 i0 1 Tryd.underlying22 hi v _ _ hs hown hx (h v w ?_ (World.grownBy.refl _ _) (.inl rfl))
    rw [List.append_nil]; exact hown
  | some ad =>
    refine wpList_append_own_at w hgd s x 22 ho base 5 i0 (.int .u8 0) 1 1 Tryd.underlying22 hi hz0 hz1 hz2 rfl (by decide) v _ _ hs hown ad zs.length c (zs.map (Value.int .u8)) hx (by simp) (cells_in hin) (byt_cells _) (by unfold maxLen; omega) (by omega) hbase ?_
    intro v' w' ho' hg' _ ha'
    exact h v' w' (own_more ho') hg' ha'

theorem ne_at {v v' : Value} {n g : Nat} (h : v'.ownBlock = v.ownBlock ∨ v'.ownBlock = some n) (h0 : v.ownBlock ≠ some g) (hlt : g < n) : v'.ownBlock ≠ some g := by
  rcases h with h | h
  · rw [h]; exact h0
  · rw [h]; intro e; cases e; omega
theorem Own.ne {w : World} {b g : Nat} {v : Value} {zs : List Int} (h : Own w b v zs) (hg : w.heap.size ≤ g) : v.ownBlock ≠ some g := fun e => by
  have := (h.lt g e).2; omega

theorem bitSpec (r : Bool) (w : World) :
    Calls Tryd.prog 33 #[.bool r] w fun e w' => e = .returned (.int .i64 (bif r then 1 else 0)) ∧ w' = w := by
  cases r
  · go_enter Tryd.func33, Tryd.ntmps33
    go_wp2
    go_ret
    exact ⟨rfl, rfl⟩
  · go_enter Tryd.func33, Tryd.ntmps33
    go_wp2
    go_ret
    exact ⟨rfl, rfl⟩
end Go.Proofs.YtbkhlaiifbdfoaaDoor
/-
  What the model's MsgBytes does.
-/
namespace Go.Proofs.YtbkhlaiifbdfoaaDoor
open Go.RowKit

def hdS (k i u c n l : Int) : List Int := [k, i, u, c, n, l]
theorem hdS_all (k i u c n l : Int) : (hdS k i u c n l).flatMap pn = headB k i u c n ++ pn l := by simp [hdS, headB]
theorem hdS_len (k i u c n l : Int) (j : Nat) : (((hdS k i u c n l).take j).flatMap pn).length ≤ 24 := by
  have h1 := flatB_len pn 4 pn_len ((hdS k i u c n l).take j)
  have h2 : ((hdS k i u c n l).take j).length ≤ 6 := by simp [hdS]; omega
  omega

set_option maxRecDepth 100000 in
set_option maxHeartbeats 4000000 in
theorem msgBytesSpec (w : World) (k i u c n : Int) (cv nv : Value) (cs : List (Int × Bool × Int)) (ns : List (Int × Int)) (hc : Rd w w.heap.size 3 cv cs.length (cs.flatMap cellC)) (hn : Rd w w.heap.size 2 nv ns.length (ns.flatMap noteC))
    (hmc : cs.length ≤ 1048576) (hmn : ns.length ≤ 1048576) :
    Calls Tryd.prog 8 #[msgV k i u c n cv nv] w fun e w' => ∃ v, e = .returned v ∧ Own w' w.heap.size v (mBytes k i u c n cs ns) ∧ Below w.heap.size w w' := by
  have HC := hide hc
  have HN := hide hn
  obtain ⟨a5, cap5, rfl, _⟩ := cells_at hc
  obtain ⟨a6, cap6, rfl, _⟩ := notes_at hn
  clear hc hn
  have HX := hide (Box.new w #[.int .i64 k, .int .i64 i, .int .i64 u, .int .i64 c, .int .i64 n, .slice a5 cs.length cap5, .slice a6 ns.length cap6] 27)
  have HW := hide ((Below.refl w.heap.size w).alloc (Nat.le_refl _) (.cells #[.int .i64 k, .int .i64 i, .int .i64 u, .int .i64 c, .int .i64 n, .slice a5 cs.length cap5, .slice a6 ns.length cap6] 27))
  have hg : Hid (w.heap.size < (w.alloc (.cells #[.int .i64 k, .int .i64 i, .int .i64 u, .int .i64 c, .int .i64 n, .slice a5 cs.length cap5, .slice a6 ns.length cap6] 27)).heap.size) := hide (by simp)
  unfold msgV
  go_enter Tryd.func8, Tryd.ntmps8
  go_wp2_with fail
  generalize w.alloc (.cells #[.int .i64 k, .int .i64 i, .int .i64 u, .int .i64 c, .int .i64 n, .slice a5 cs.length cap5, .slice a6 ns.length cap6] 27) = W0 at *
  refine (msgSpec _ k i u c n _ _ cs ns (HC.out.at HW.out) (HN.out.at HW.out) hmc hmn).mono ?_
  rintro e w1 ⟨rfl, b1⟩
  rw [mOk_spec]
  have HP := hide b1
  clear b1
  cases hm : mOk k i u c n cs ns with
  | false =>
    have HM : Hid (mBytes k i u c n cs ns = []) := hide (by unfold mBytes; rw [hm]; rfl)
    go_wp2
    go_ret
    exact ⟨_, rfl, by rw [HM.out]; exact (own_empty _ _ (Nat.le_trans HW.out.size HP.out.size)), HW.out.trans ((HP.out.alloc HP.out.size _).mono HW.out.size)⟩
  | true =>
    have HM : Hid (mBytes k i u c n cs ns = msgB k i u c n cs ns) := hide (by unfold mBytes; rw [hm]; rfl)
    obtain ⟨hl5, hl6⟩ := mOk_lens hm
    clear hm hmc hmn
    have f0 := (HX.out.below hg.out HP.out) 0 _ rfl
    have f1 := (HX.out.below hg.out HP.out) 1 _ rfl
    have f2 := (HX.out.below hg.out HP.out) 2 _ rfl
    have f3 := (HX.out.below hg.out HP.out) 3 _ rfl
    have f4 := (HX.out.below hg.out HP.out) 4 _ rfl
    have f5 := (HX.out.below hg.out HP.out) 5 _ rfl
    have hgl : w.heap.size < w1.heap.size := Nat.lt_of_lt_of_le hg.out HP.out.size
    go_wp2
    clear f0 f1 f2 f3 f4 f5
    have hW2 : Hid (Below W0.heap.size W0 ((w1.alloc (.cells #[] 5)).alloc (.cells #[.int .i64 k, .int .i64 i, .int .i64 u, .int .i64 c, .int .i64 n, .int .i64 (cs.length : Int)] 3))) := hide ((HP.out.alloc HP.out.size _).alloc (Nat.le_trans HP.out.size (by simp)) _)
    have hO2 : Hid (Own ((w1.alloc (.cells #[] 5)).alloc (.cells #[.int .i64 k, .int .i64 i, .int .i64 u, .int .i64 c, .int .i64 n, .int .i64 (cs.length : Int)] 3)) W0.heap.size (.slice (some ⟨w1.heap.size, 0, none⟩) 0 0) []) := hide ((own_empty w1 W0.heap.size HP.out.size).below ((Below.refl _ _).alloc (Nat.le_refl _) _))
    have hH2 : Hid (Box ((w1.alloc (.cells #[] 5)).alloc (.cells #[.int .i64 k, .int .i64 i, .int .i64 u, .int .i64 c, .int .i64 n, .int .i64 (cs.length : Int)] 3)) (w1.heap.size + 1) [.int .i64 k, .int .i64 i, .int .i64 u, .int .i64 c, .int .i64 n, .int .i64 (cs.length : Int)]) := hide (by have := Box.new (w1.alloc (.cells #[] 5)) #[.int .i64 k, .int .i64 i, .int .i64 u, .int .i64 c, .int .i64 n, .int .i64 (cs.length : Int)] 3; simpa using this)
    generalize hgH : w1.heap.size + 1 = gH at *
    go_loopw [3, 5] (fun out x wr => ∃ j : Nat, j ≤ 6 ∧ x = .int .i64 (j : Int) ∧ Hid (Own wr W0.heap.size out (((hdS k i u c n cs.length).take j).flatMap pn)) ∧ Hid (Below W0.heap.size W0 wr) ∧ Hid (Box wr gH [.int .i64 k, .int .i64 i, .int .i64 u, .int .i64 c, .int .i64 n, .int .i64 (cs.length : Int)]) ∧ Hid (gH < wr.heap.size) ∧ Hid (out.ownBlock ≠ some gH)) (fun _ x _ => 6 - (intOf x).toNat)
    case atStart => exact ⟨0, by omega, rfl, hO2, hW2, hH2, hide (by simp; omega), hide (by simp [Value.ownBlock]; omega)⟩
    case round =>
      obtain ⟨j, hj, rfl, HO, HP, HY, hgr, HNE⟩ := hrel
      have hlen := hdS_len k i u c n cs.length j
      clear hW2 hO2 hH2
      by_cases hj6 : j = 6
      · subst hj6
        clear hlen HY hgr HNE hj
        have hh := headB_len k i u c n
        have hp5 := pn_len cs.length
        replace HO : Hid (Own wr W0.heap.size _ (headB k i u c n ++ pn cs.length)) := hide (by have := HO.out; rwa [show (hdS k i u c n cs.length).take 6 = hdS k i u c n cs.length from rfl, hdS_all] at this)
        generalize hA : headB k i u c n ++ pn cs.length = A at *
        have hAl : A.length ≤ 24 := by rw [← hA, List.length_append]; omega
        have HA := hide hA
        clear hA hh hp5
        go_wp2
        go_loopw [3, 6] (fun out x wr => ∃ j : Nat, j ≤ cs.length ∧ x = .int .i64 (j : Int) ∧ Hid (Own wr W0.heap.size out (A ++ (cs.take j).flatMap cellB)) ∧ Hid (Below W0.heap.size W0 wr)) (fun _ x _ => cs.length - (intOf x).toNat)
        case atStart => exact ⟨0, by omega, rfl, hide (by simpa using HO.out), HP⟩
        case round =>
          clear HO HP
          obtain ⟨j, hj, rfl, HO, HP⟩ := hrel
          have f5 := (HX.out.below hg.out HP.out) 5 _ rfl
          have hfl : ((cs.take j).flatMap cellB).length ≤ 96 := by
            have h1 := flatB_len cellB 12 cellB_len (cs.take j)
            have h2 : (cs.take j).length ≤ 8 := by simp; omega
            omega
          by_cases hlt : j < cs.length
          · obtain ⟨a', cap', ea, hx⟩ := cells_at ((HC.out.at HW.out).at HP.out)
            cases ea
            obtain ⟨b, o, rfl, hb, hc⟩ := hx (by omega)
            have e1 := (hc j hlt).1
            have e2 := (hc j hlt).2.1
            have e3 := (hc j hlt).2.2
            have HS := hide (flatB_snoc cellB cs (0, false, 0) j hlt)
            clear hx hc
            generalize cs.getD j (0, false, 0) = z at *
            obtain ⟨x, r, y⟩ := z
            simp only at e1 e2 e3
            have hx4 := pn_len x
            have bA := (Below.refl wr.heap.size wr).alloc (Nat.le_refl _) (.cells #[.int .i64 x, .bool r, .int .i64 y] 50)
            have HY := hide (Box.new wr #[.int .i64 x, .bool r, .int .i64 y] 50)
            have hgr : Hid (wr.heap.size < (wr.alloc (.cells #[.int .i64 x, .bool r, .int .i64 y] 50)).heap.size) := hide (by simp)
            have HNE := hide (HO.out.ne (Nat.le_refl _))
            replace HO := hide (HO.out.below bA)
            replace HP := hide (HP.out.trans (bA.mono HP.out.size))
            clear bA
            cases r with
            | true =>
              rw [cellB_yes] at HS
              have hx5 := pn_len 1
              go_wp2_with fail
              clear e1 e2 e3 f5
              refine (putNumSpec _ _).mono ?_
              rintro e w2 ⟨v2, rfl, o2, b2⟩
              have HU2 := hide o2
              replace HY := hide (HY.out.below hgr.out b2)
              replace hgr := hide (Nat.lt_of_lt_of_le hgr.out b2.size)
              replace HO := hide (HO.out.below b2)
              replace HP := hide (HP.out.trans (b2.mono HP.out.size))
              have s2 := HP.out.size
              clear o2 b2
              go_wp2_with (at_builtin; refine app_own_at rfl _ _ rfl W0.heap.size _ _ _ _ (pn x) rfl HO.out rfl HU2.out (pn_byt _) (Nat.le_trans (pn_len _) (by omega)) (by simp only [List.length_append]; omega) s2 ?_; intro v3 w3 o3 g3 a103; have HP3 := hide (HP.out.grown g3 s2 (fun q hq => (HO.out.lt q hq).1)); have HO3 := hide o3; have HY3 := hide (HY.out.apart hgr.out g3 HNE.out); have HNE3 := hide (ne_at a103 HNE.out hgr.out); have hgr3 := hide (Nat.lt_of_lt_of_le hgr.out g3.size); clear o3 g3 a103; have y1 := HY3.out 1 _ rfl; have y2 := HY3.out 2 _ rfl)
              replace HO := HO3
              replace HP := HP3
              replace HY := HY3
              replace HNE := HNE3
              replace hgr := hgr3
              clear HO3 HP3 HY3 HNE3 hgr3 HU2 s2
              refine (bitSpec _ _).mono ?_
              rintro e w4 ⟨rfl, hw4⟩
              subst hw4
              go_wp2_with fail
              clear y1 y2
              refine (putNumSpec _ _).mono ?_
              rintro e w5 ⟨v5, rfl, o5, b5⟩
              have HU5 := hide o5
              replace HY := hide (HY.out.below hgr.out b5)
              replace hgr := hide (Nat.lt_of_lt_of_le hgr.out b5.size)
              replace HO := hide (HO.out.below b5)
              replace HP := hide (HP.out.trans (b5.mono HP.out.size))
              have s5 := HP.out.size
              clear o5 b5
              go_wp2_with (at_builtin; refine app_own_at rfl _ _ rfl W0.heap.size _ _ _ _ (pn 1) rfl HO.out rfl HU5.out (pn_byt _) (Nat.le_trans (pn_len _) (by omega)) (by simp only [List.length_append]; omega) s5 ?_; intro v6 w6 o6 g6 a106; have HP6 := hide (HP.out.grown g6 s5 (fun q hq => (HO.out.lt q hq).1)); have HO6 := hide o6; have HY6 := hide (HY.out.apart hgr.out g6 HNE.out); have HNE6 := hide (ne_at a106 HNE.out hgr.out); have hgr6 := hide (Nat.lt_of_lt_of_le hgr.out g6.size); clear o6 g6 a106; have y1 := HY6.out 1 _ rfl; have y2 := HY6.out 2 _ rfl)
              clear y1 y2
              replace HO := HO6
              replace HP := HP6
              replace HY := HY6
              replace HNE := HNE6
              replace hgr := hgr6
              clear HO6 HP6 HY6 HNE6 hgr6 HU5 s5
              refine (putNumSpec _ _).mono ?_
              rintro e w7 ⟨v7, rfl, o7, b7⟩
              have HU7 := hide o7
              replace HO := hide (HO.out.below b7)
              replace HP := hide (HP.out.trans (b7.mono HP.out.size))
              have s7 := HP.out.size
              clear o7 b7
              go_wp2_with (at_builtin; refine app_own_at rfl _ _ rfl W0.heap.size _ _ _ _ (pn y) rfl HO.out rfl HU7.out (pn_byt _) (Nat.le_trans (pn_len _) (by omega)) (by simp only [List.length_append]; omega) s7 ?_; intro v8 w8 o8 g8 a108; have HP8 := hide (HP.out.grown g8 s7 (fun q hq => (HO.out.lt q hq).1)); have HO8 := hide o8; clear o8 g8 a108)
              refine ⟨?_, by simp [intOf]; omega⟩
              (repeat apply Exists.intro)
              refine ⟨?_, rfl⟩
              exact ⟨j + 1, by omega, by go_num, hide (by have := HO8.out; rw [HS.out]; simp only [List.append_assoc] at this ⊢; exact this), HP8⟩
            | false =>
              rw [cellB_no] at HS
              have hx5 := pn_len 0
              go_wp2_with fail
              clear e1 e2 e3 f5
              refine (putNumSpec _ _).mono ?_
              rintro e w2 ⟨v2, rfl, o2, b2⟩
              have HU2 := hide o2
              replace HY := hide (HY.out.below hgr.out b2)
              replace hgr := hide (Nat.lt_of_lt_of_le hgr.out b2.size)
              replace HO := hide (HO.out.below b2)
              replace HP := hide (HP.out.trans (b2.mono HP.out.size))
              have s2 := HP.out.size
              clear o2 b2
              go_wp2_with (at_builtin; refine app_own_at rfl _ _ rfl W0.heap.size _ _ _ _ (pn x) rfl HO.out rfl HU2.out (pn_byt _) (Nat.le_trans (pn_len _) (by omega)) (by simp only [List.length_append]; omega) s2 ?_; intro v3 w3 o3 g3 a103; have HP3 := hide (HP.out.grown g3 s2 (fun q hq => (HO.out.lt q hq).1)); have HO3 := hide o3; have HY3 := hide (HY.out.apart hgr.out g3 HNE.out); have HNE3 := hide (ne_at a103 HNE.out hgr.out); have hgr3 := hide (Nat.lt_of_lt_of_le hgr.out g3.size); clear o3 g3 a103; have y1 := HY3.out 1 _ rfl; have y2 := HY3.out 2 _ rfl)
              replace HO := HO3
              replace HP := HP3
              replace HY := HY3
              replace HNE := HNE3
              replace hgr := hgr3
              clear HO3 HP3 HY3 HNE3 hgr3 HU2 s2
              refine (bitSpec _ _).mono ?_
              rintro e w4 ⟨rfl, hw4⟩
              subst hw4
              go_wp2_with fail
              clear y1 y2
              refine (putNumSpec _ _).mono ?_
              rintro e w5 ⟨v5, rfl, o5, b5⟩
              have HU5 := hide o5
              replace HY := hide (HY.out.below hgr.out b5)
              replace hgr := hide (Nat.lt_of_lt_of_le hgr.out b5.size)
              replace HO := hide (HO.out.below b5)
              replace HP := hide (HP.out.trans (b5.mono HP.out.size))
              have s5 := HP.out.size
              clear o5 b5
              go_wp2_with (at_builtin; refine app_own_at rfl _ _ rfl W0.heap.size _ _ _ _ (pn 0) rfl HO.out rfl HU5.out (pn_byt _) (Nat.le_trans (pn_len _) (by omega)) (by simp only [List.length_append]; omega) s5 ?_; intro v6 w6 o6 g6 a106; have HP6 := hide (HP.out.grown g6 s5 (fun q hq => (HO.out.lt q hq).1)); have HO6 := hide o6; have HY6 := hide (HY.out.apart hgr.out g6 HNE.out); have HNE6 := hide (ne_at a106 HNE.out hgr.out); have hgr6 := hide (Nat.lt_of_lt_of_le hgr.out g6.size); clear o6 g6 a106; have y1 := HY6.out 1 _ rfl; have y2 := HY6.out 2 _ rfl)
              clear y1 y2
              replace HO := HO6
              replace HP := HP6
              replace HY := HY6
              replace HNE := HNE6
              replace hgr := hgr6
              clear HO6 HP6 HY6 HNE6 hgr6 HU5 s5
              refine (putWordSpec _ _).mono ?_
              rintro e w7 ⟨v7, rfl, o7, b7⟩
              have HU7 := hide o7
              replace HO := hide (HO.out.below b7)
              replace HP := hide (HP.out.trans (b7.mono HP.out.size))
              have s7 := HP.out.size
              clear o7 b7
              go_wp2_with (at_builtin; refine app_own_at rfl _ _ rfl W0.heap.size _ _ _ _ (pw y) rfl HO.out rfl HU7.out (pw_byt _) (Nat.le_trans (pw_len _) (by omega)) (by simp only [List.length_append]; omega) s7 ?_; intro v8 w8 o8 g8 a108; have HP8 := hide (HP.out.grown g8 s7 (fun q hq => (HO.out.lt q hq).1)); have HO8 := hide o8; clear o8 g8 a108)
              refine ⟨?_, by simp [intOf]; omega⟩
              (repeat apply Exists.intro)
              refine ⟨?_, rfl⟩
              exact ⟨j + 1, by omega, by go_num, hide (by have := HO8.out; rw [HS.out]; simp only [List.append_assoc] at this ⊢; exact this), HP8⟩
          · obtain rfl : j = cs.length := by omega
            replace HO : Hid (Own wr W0.heap.size _ (A ++ cs.flatMap cellB)) := hide (by have := HO.out; rwa [List.take_length] at this)
            rw [List.take_length] at hfl
            have f6 := (HX.out.below hg.out HP.out) 6 _ rfl
            go_wp2_with fail
            clear f5 f6
            refine (putNumSpec _ _).mono ?_
            rintro e w2 ⟨v2, rfl, o2, b2⟩
            have HU2 := hide o2
            replace HO := hide (HO.out.below b2)
            replace HP := hide (HP.out.trans (b2.mono HP.out.size))
            have s2 := HP.out.size
            clear o2 b2
            go_wp2_with (at_builtin; refine app_own_at rfl _ _ rfl W0.heap.size _ _ _ _ (pn ns.length) rfl HO.out rfl HU2.out (pn_byt _) (Nat.le_trans (pn_len _) (by omega)) (by simp only [List.length_append]; omega) s2 ?_; intro v3 w3 o3 g3 a103; have HP3 := hide (HP.out.grown g3 s2 (fun q hq => (HO.out.lt q hq).1)); have HO3 := hide o3; clear o3 g3 a103)
            have hp6 := pn_len ns.length
            generalize hD : A ++ cs.flatMap cellB ++ pn ns.length = D at *
            have hDl : D.length ≤ 124 := by rw [← hD, List.length_append, List.length_append]; omega
            have HD := hide hD
            clear hD hfl hp6 HO HP HU2 s2
            go_loopw [3, 8] (fun out x wr => ∃ j : Nat, j ≤ ns.length ∧ x = .int .i64 (j : Int) ∧ Hid (Own wr W0.heap.size out (D ++ (ns.take j).flatMap noteB)) ∧ Hid (Below W0.heap.size W0 wr)) (fun _ x _ => ns.length - (intOf x).toNat)
            case atStart => exact ⟨0, by omega, rfl, hide (by simpa using HO3.out), HP3⟩
            case round =>
              clear HO3 HP3
              obtain ⟨j, hj, rfl, HO, HP⟩ := hrel
              have f6 := (HX.out.below hg.out HP.out) 6 _ rfl
              have hfl : ((ns.take j).flatMap noteB).length ≤ 1040 := by
                have h1 := flatB_len noteB 8 noteB_len (ns.take j)
                have h2 : (ns.take j).length ≤ 130 := by simp; omega
                omega
              by_cases hlt : j < ns.length
              · obtain ⟨a', cap', ea, hx⟩ := notes_at ((HN.out.at HW.out).at HP.out)
                cases ea
                obtain ⟨b, o, rfl, hb, hc⟩ := hx (by omega)
                have e1 := (hc j hlt).1
                have HS := hide (flatB_snoc noteB ns (0, 0) j hlt)
                have HE : Hid (∀ wq, Below W0.heap.size W0 wq → wq.cell? ⟨b, o + j * 2 + 1, none⟩ = some (.int .i64 (ns.getD j (0, 0)).2)) := hide (fun wq hq => by
                  obtain ⟨a', cap', ea, hx⟩ := notes_at ((HN.out.at HW.out).at hq)
                  cases ea
                  obtain ⟨b', o', eb, _, hc'⟩ := hx (by omega)
                  cases eb
                  exact (hc' j hlt).2)
                clear hx hc
                generalize ns.getD j (0, 0) = z at *
                obtain ⟨x, y⟩ := z
                simp only at e1 HE
                have hx4 := pn_len x
                go_wp2_with fail
                clear e1 f6
                refine (putNumSpec _ _).mono ?_
                rintro e w2 ⟨v2, rfl, o2, b2⟩
                have HU2 := hide o2
                replace HO := hide (HO.out.below b2)
                replace HP := hide (HP.out.trans (b2.mono HP.out.size))
                have s2 := HP.out.size
                clear o2 b2
                go_wp2_with (at_builtin; refine app_own_at rfl _ _ rfl W0.heap.size _ _ _ _ (pn x) rfl HO.out rfl HU2.out (pn_byt _) (Nat.le_trans (pn_len _) (by omega)) (by simp only [List.length_append]; omega) s2 ?_; intro v3 w3 o3 g3 a103; have HP3 := hide (HP.out.grown g3 s2 (fun q hq => (HO.out.lt q hq).1)); have HO3 := hide o3; clear o3 g3 a103; have e2 := HE.out _ HP3.out; have f6 := (HX.out.below hg.out HP3.out) 6 _ rfl)
                clear e2 f6
                replace HO := HO3
                replace HP := HP3
                clear HO3 HP3 HU2 s2
                refine (putNumSpec _ _).mono ?_
                rintro e w4 ⟨v4, rfl, o4, b4⟩
                have HU4 := hide o4
                replace HO := hide (HO.out.below b4)
                replace HP := hide (HP.out.trans (b4.mono HP.out.size))
                have s4 := HP.out.size
                clear o4 b4
                go_wp2_with (at_builtin; refine app_own_at rfl _ _ rfl W0.heap.size _ _ _ _ (pn y) rfl HO.out rfl HU4.out (pn_byt _) (Nat.le_trans (pn_len _) (by omega)) (by simp only [List.length_append]; omega) s4 ?_; intro v5 w5 o5 g5 a105; have HP5 := hide (HP.out.grown g5 s4 (fun q hq => (HO.out.lt q hq).1)); have HO5 := hide o5; clear o5 g5 a105)
                exact ⟨⟨j + 1, by omega, by go_num, hide (by have := HO5.out; rw [HS.out]; rw [List.append_assoc, List.append_assoc] at this; exact this), HP5⟩, by simp [intOf]; omega⟩
              · obtain rfl : j = ns.length := by omega
                have HF : Hid (Own wr W0.heap.size _ (mBytes k i u c n cs ns)) := hide (by
                  have := HO.out
                  rw [List.take_length] at this
                  rw [HM.out]
                  unfold msgB
                  rw [HA.out, HD.out]
                  exact this)
                go_wp2
                go_ret
                exact ⟨_, rfl, HF.out.mono HW.out.size, HW.out.trans (HP.out.mono HW.out.size)⟩
      · have hj5 : j = 0 ∨ j = 1 ∨ j = 2 ∨ j = 3 ∨ j = 4 ∨ j = 5 := by omega
        clear hj6
        rcases hj5 with rfl | rfl | rfl | rfl | rfl | rfl
        · have y0 := HY.out 0 _ rfl
          go_wp2_with fail
          clear y0
          refine (putNumSpec _ _).mono ?_
          rintro e w2 ⟨v2, rfl, o2, b2⟩
          have HU2 := hide o2
          replace HY := hide (HY.out.below hgr.out b2)
          replace hgr := hide (Nat.lt_of_lt_of_le hgr.out b2.size)
          replace HO := hide (HO.out.below b2)
          replace HP := hide (HP.out.trans (b2.mono HP.out.size))
          have s2 := HP.out.size
          clear o2 b2
          go_wp2_with (at_builtin; refine app_own_at rfl _ _ rfl W0.heap.size _ _ _ _ (pn k) rfl HO.out rfl HU2.out (pn_byt _) (Nat.le_trans (pn_len _) (by omega)) (by omega) s2 ?_; intro v3 w3 o3 g3 a103; have HP3 := hide (HP.out.grown g3 s2 (fun q hq => (HO.out.lt q hq).1)); have HO3 := hide o3; have HY3 := hide (HY.out.apart hgr.out g3 HNE.out); have HNE3 := hide (ne_at a103 HNE.out hgr.out); have hgr3 := hide (Nat.lt_of_lt_of_le hgr.out g3.size); clear o3 g3 a103)
          exact ⟨⟨1, by omega, rfl, hide (by simpa [hdS] using HO3.out), HP3, HY3, hgr3, HNE3⟩, by simp [intOf]⟩
        · have y0 := HY.out 1 _ rfl
          go_wp2_with fail
          clear y0
          refine (putNumSpec _ _).mono ?_
          rintro e w2 ⟨v2, rfl, o2, b2⟩
          have HU2 := hide o2
          replace HY := hide (HY.out.below hgr.out b2)
          replace hgr := hide (Nat.lt_of_lt_of_le hgr.out b2.size)
          replace HO := hide (HO.out.below b2)
          replace HP := hide (HP.out.trans (b2.mono HP.out.size))
          have s2 := HP.out.size
          clear o2 b2
          go_wp2_with (at_builtin; refine app_own_at rfl _ _ rfl W0.heap.size _ _ _ _ (pn i) rfl HO.out rfl HU2.out (pn_byt _) (Nat.le_trans (pn_len _) (by omega)) (by omega) s2 ?_; intro v3 w3 o3 g3 a103; have HP3 := hide (HP.out.grown g3 s2 (fun q hq => (HO.out.lt q hq).1)); have HO3 := hide o3; have HY3 := hide (HY.out.apart hgr.out g3 HNE.out); have HNE3 := hide (ne_at a103 HNE.out hgr.out); have hgr3 := hide (Nat.lt_of_lt_of_le hgr.out g3.size); clear o3 g3 a103)
          exact ⟨⟨2, by omega, rfl, hide (by simpa [hdS] using HO3.out), HP3, HY3, hgr3, HNE3⟩, by simp [intOf]⟩
        · have y0 := HY.out 2 _ rfl
          go_wp2_with fail
          clear y0
          refine (putNumSpec _ _).mono ?_
          rintro e w2 ⟨v2, rfl, o2, b2⟩
          have HU2 := hide o2
          replace HY := hide (HY.out.below hgr.out b2)
          replace hgr := hide (Nat.lt_of_lt_of_le hgr.out b2.size)
          replace HO := hide (HO.out.below b2)
          replace HP := hide (HP.out.trans (b2.mono HP.out.size))
          have s2 := HP.out.size
          clear o2 b2
          go_wp2_with (at_builtin; refine app_own_at rfl _ _ rfl W0.heap.size _ _ _ _ (pn u) rfl HO.out rfl HU2.out (pn_byt _) (Nat.le_trans (pn_len _) (by omega)) (by omega) s2 ?_; intro v3 w3 o3 g3 a103; have HP3 := hide (HP.out.grown g3 s2 (fun q hq => (HO.out.lt q hq).1)); have HO3 := hide o3; have HY3 := hide (HY.out.apart hgr.out g3 HNE.out); have HNE3 := hide (ne_at a103 HNE.out hgr.out); have hgr3 := hide (Nat.lt_of_lt_of_le hgr.out g3.size); clear o3 g3 a103)
          exact ⟨⟨3, by omega, rfl, hide (by simpa [hdS] using HO3.out), HP3, HY3, hgr3, HNE3⟩, by simp [intOf]⟩
        · have y0 := HY.out 3 _ rfl
          go_wp2_with fail
          clear y0
          refine (putNumSpec _ _).mono ?_
          rintro e w2 ⟨v2, rfl, o2, b2⟩
          have HU2 := hide o2
          replace HY := hide (HY.out.below hgr.out b2)
          replace hgr := hide (Nat.lt_of_lt_of_le hgr.out b2.size)
          replace HO := hide (HO.out.below b2)
          replace HP := hide (HP.out.trans (b2.mono HP.out.size))
          have s2 := HP.out.size
          clear o2 b2
          go_wp2_with (at_builtin; refine app_own_at rfl _ _ rfl W0.heap.size _ _ _ _ (pn c) rfl HO.out rfl HU2.out (pn_byt _) (Nat.le_trans (pn_len _) (by omega)) (by omega) s2 ?_; intro v3 w3 o3 g3 a103; have HP3 := hide (HP.out.grown g3 s2 (fun q hq => (HO.out.lt q hq).1)); have HO3 := hide o3; have HY3 := hide (HY.out.apart hgr.out g3 HNE.out); have HNE3 := hide (ne_at a103 HNE.out hgr.out); have hgr3 := hide (Nat.lt_of_lt_of_le hgr.out g3.size); clear o3 g3 a103)
          exact ⟨⟨4, by omega, rfl, hide (by simpa [hdS] using HO3.out), HP3, HY3, hgr3, HNE3⟩, by simp [intOf]⟩
        · have y0 := HY.out 4 _ rfl
          go_wp2_with fail
          clear y0
          refine (putNumSpec _ _).mono ?_
          rintro e w2 ⟨v2, rfl, o2, b2⟩
          have HU2 := hide o2
          replace HY := hide (HY.out.below hgr.out b2)
          replace hgr := hide (Nat.lt_of_lt_of_le hgr.out b2.size)
          replace HO := hide (HO.out.below b2)
          replace HP := hide (HP.out.trans (b2.mono HP.out.size))
          have s2 := HP.out.size
          clear o2 b2
          go_wp2_with (at_builtin; refine app_own_at rfl _ _ rfl W0.heap.size _ _ _ _ (pn n) rfl HO.out rfl HU2.out (pn_byt _) (Nat.le_trans (pn_len _) (by omega)) (by omega) s2 ?_; intro v3 w3 o3 g3 a103; have HP3 := hide (HP.out.grown g3 s2 (fun q hq => (HO.out.lt q hq).1)); have HO3 := hide o3; have HY3 := hide (HY.out.apart hgr.out g3 HNE.out); have HNE3 := hide (ne_at a103 HNE.out hgr.out); have hgr3 := hide (Nat.lt_of_lt_of_le hgr.out g3.size); clear o3 g3 a103)
          exact ⟨⟨5, by omega, rfl, hide (by simpa [hdS] using HO3.out), HP3, HY3, hgr3, HNE3⟩, by simp [intOf]⟩
        · have y0 := HY.out 5 _ rfl
          go_wp2_with fail
          clear y0
          refine (putNumSpec _ _).mono ?_
          rintro e w2 ⟨v2, rfl, o2, b2⟩
          have HU2 := hide o2
          replace HY := hide (HY.out.below hgr.out b2)
          replace hgr := hide (Nat.lt_of_lt_of_le hgr.out b2.size)
          replace HO := hide (HO.out.below b2)
          replace HP := hide (HP.out.trans (b2.mono HP.out.size))
          have s2 := HP.out.size
          clear o2 b2
          go_wp2_with (at_builtin; refine app_own_at rfl _ _ rfl W0.heap.size _ _ _ _ (pn (cs.length : Int)) rfl HO.out rfl HU2.out (pn_byt _) (Nat.le_trans (pn_len _) (by omega)) (by omega) s2 ?_; intro v3 w3 o3 g3 a103; have HP3 := hide (HP.out.grown g3 s2 (fun q hq => (HO.out.lt q hq).1)); have HO3 := hide o3; have HY3 := hide (HY.out.apart hgr.out g3 HNE.out); have HNE3 := hide (ne_at a103 HNE.out hgr.out); have hgr3 := hide (Nat.lt_of_lt_of_le hgr.out g3.size); clear o3 g3 a103)
          exact ⟨⟨6, by omega, rfl, hide (by simpa [hdS] using HO3.out), HP3, HY3, hgr3, HNE3⟩, by simp [intOf]⟩
end Go.Proofs.YtbkhlaiifbdfoaaDoor
/-
  A guarded call in a drawn region, by its contract; a row that is owned, in a world that is like it there.
-/
namespace Go.Proofs.YtbkhlaiifbdfoaaDoor
theorem step_callW {P : Program} {ops : Array Oper} {o : Oper} {a : Act} {w : World} {K : Act → World → Prop} {Q : Exit → Act → World → Prop} {E : Prop} {R : Ending → World → Prop} (d : Option Tmp) (hd : o.dst = d) (hw : Region.wanted o (yielded ops a.tmps) = true)
    (f : FuncId) (xs : Array Operand) (ts : Array TypeId) (_ho : o.op = .call { callee := .value (.func f), args := xs, argTypes := ts }) (args : Array Value) (hrun : (execOp a.eval o).run P w = .ok (.enter f args) w) (hc : Calls P f args w R) (h : ∀ e w', R e w' → ∃ v, e = .returned v ∧ K (a.put d v) w') :
    if Region.wanted o (yielded ops a.tmps) = true then Oper.wp P o a w K Q else E := by
  subst hd
  rw [if_pos hw]
  unfold Oper.wp
  rw [hrun, Oper.upon_enter]
  refine hc.mono fun e w' hh => ?_
  obtain ⟨v, rfl, hk⟩ := h e w' hh
  exact hk
theorem own_like {w w' : World} {b e sz n : Nat} {v : Value} {cs : List Value} (h : w.ownsRow b e sz v n cs) (hs : ∀ q, v.ownBlock = some q → w'.heap[q]? = w.heap[q]?) : w'.ownsRow b e sz v n cs := by
  refine ⟨h.1, ?_⟩
  rcases h.2 with hn | ⟨g, cap, cur, rfl, hb, hgg, rest⟩
  · exact .inl hn
  · exact .inr ⟨g, cap, cur, rfl, hb, (hs g rfl).trans hgg, rest⟩
end Go.Proofs.YtbkhlaiifbdfoaaDoor
/-
  What stands below stays, where a cursor goes on.
-/
namespace Go.Proofs.YtbkhlaiifbdfoaaDoor
open Go.RowKit

theorem below_cur {B : Nat} {w w1 w2 : World} {g : Nat} (h : Below B w w1) (hg : w1.grownBy w2 (some g)) (hB : B ≤ g) (hs : B ≤ w1.heap.size) : Below B w w2 := h.grown hg hs (fun q e => by cases e; exact hB)
end Go.Proofs.YtbkhlaiifbdfoaaDoor
