/-
  What takeByte does: the byte at the place, and one place on; or a panic, where there is none.
-/
import Derived.Test.YtonkaomfahmchaaDoorRows
import Derived.Test.YtonkaomfahmchaaDoorBytes
import Derived.Deep.QuietTactic
import Derived.BigQuiet
import Derived.Test.YtonkaomfahmchaaDoorEq
import Derived.Handy
namespace Go.Proofs.YtonkaomfahmchaaDoor
open Go.RowKit

/-- What the readers panic with lies where the program has laid it. -/
def Err (w : World) (t : TypeId) (v : Value) : Prop := w.cell? ⟨0, 0, none⟩ = some (.iface t v)

set_option maxRecDepth 100000 in
set_option maxHeartbeats 400000 in
theorem takeByteYes (w : World) (a : Option Addr) (len cap : Nat) (zs : List Int) (B p k : Nat) (hin : In w B a len zs)
    (hp : w.heap[p]? = some (.cells #[.int .i64 (k : Int)] 3 (0, 0))) (hk : k < len) :
    Calls Tryd.prog 29 #[.slice a len cap, .pointer (some ⟨p, 0, none⟩)] w fun e w' => e = .returned (.int .i64 (zs.getD k 0)) ∧ w' = w.setCell ⟨p, 0, none⟩ (.int .i64 ((k : Int) + 1)) := by
  obtain ⟨b, o, rfl, hb, hc⟩ := hin.2.2.2 (by omega)
  have c0 : w.cell? ⟨p, 0, none⟩ = some (.int .i64 (k : Int)) := by rw [cell_of_row w p 0 _ 3 (0, 0) hp]; rfl
  have f0 : w.frozen? ⟨p, 0, none⟩ = false := frozen_of_row w p 0 _ 3 hp
  have hl := hin.2.1
  have hz := hc k hk
  have hzb := hin.2.2.1 k hk
  clear hin hc hp
  generalize zs.getD k 0 = z at *
  go_enter Tryd.func29, Tryd.ntmps29
  go_wp2
  go_ret
  exact ⟨rfl, rfl⟩

set_option maxRecDepth 100000 in
set_option maxHeartbeats 400000 in
theorem takeByteNo (w : World) (a : Option Addr) (len cap : Nat) (p : Nat) (i : Int) (t : TypeId) (v : Value)
    (hp : w.heap[p]? = some (.cells #[.int .i64 i] 3 (0, 0))) (hi : i < 0 ∨ (len : Int) ≤ i) (hE : Err w t v) :
    Calls Tryd.prog 29 #[.slice a len cap, .pointer (some ⟨p, 0, none⟩)] w fun e w' => e = .panicked [{ v := .iface t v, recovered := false }] ∧ w' = w := by
  have c0 : w.cell? ⟨p, 0, none⟩ = some (.int .i64 i) := by rw [cell_of_row w p 0 _ 3 (0, 0) hp]; rfl
  unfold Err at hE
  clear hp
  by_cases h0 : i < 0
  · clear hi
    go_enter Tryd.func29, Tryd.ntmps29
    go_wp2
    exact ⟨rfl, rfl, rfl⟩
  · have h1 : (len : Int) ≤ i := by omega
    clear hi
    go_enter Tryd.func29, Tryd.ntmps29
    go_wp2
    exact ⟨rfl, rfl, rfl⟩

theorem In.out {w w' : World} {B p : Nat} {a : Option Addr} {len : Nat} {zs : List Int} (h : In w B a len zs) (hg : w.grownBy w' (some p)) (hB : B ≤ p) (hp : p < w.heap.size) : In w' B a len zs :=
  h.kept (fun k hk => hg.block k (by omega) (fun e => by cases e; omega))

theorem Err.out {w w' : World} {p : Nat} {t : TypeId} {v : Value} (h : Err w t v) (hg : w.grownBy w' (some p)) (hp : 0 < p) : Err w' t v :=
  hg.cell h (fun e => by simp at e; omega)

theorem place_put {w w' : World} {p : Nat} {x y : Int} (hg : w.grownBy w' (some p)) (hp : w'.heap[p]? = some (.cells #[.int .i64 x] 3 (0, 0))) :
    (w'.setCell ⟨p, 0, none⟩ (.int .i64 y)).heap[p]? = some (.cells #[.int .i64 y] 3 (0, 0)) ∧ w.grownBy (w'.setCell ⟨p, 0, none⟩ (.int .i64 y)) (some p) :=
  ⟨heap_setCell_same w' p 0 _ 3 _ hp, grownBy_trans hg ⟨rfl, rfl, rfl, by simp, fun k _ hk => heap_setCell_other w' ⟨p, 0, none⟩ k _ (fun e => hk (by rw [e]))⟩⟩

/-- The number that begins at place k, as the readers go: f bytes may still come, n is what there was, wt the weight of the next one. -/
def gnF (zs : List Int) : Nat → Nat → Int → Int → Option (Int × Nat)
  | 0, _, _, _ => none
  | f + 1, k, n, wt =>
    if k < zs.length then
      if zs.getD k 0 < 128 then
        if 16777215 < n + zs.getD k 0 % 128 * wt ∨ (zs.getD k 0 = 0 ∧ 1 < wt) then none else some (n + zs.getD k 0 % 128 * wt, k + 1)
      else gnF zs f (k + 1) (n + zs.getD k 0 % 128 * wt) (wt * 128)
    else none
def gn (zs : List Int) (i : Int) : Option (Int × Nat) := if 0 ≤ i then gnF zs 4 i.toNat 0 1 else none

theorem gnF_end (zs : List Int) (f k : Nat) (n wt : Int) (h : zs.length ≤ k) : gnF zs f k n wt = none := by
  cases f with
  | zero => rfl
  | succ f => simp [gnF, show ¬ k < zs.length from by omega]
theorem gnF_on (zs : List Int) (f k : Nat) (n wt : Int) (h : k < zs.length) (hd : 128 ≤ zs.getD k 0) : gnF zs (f + 1) k n wt = gnF zs f (k + 1) (n + zs.getD k 0 % 128 * wt) (wt * 128) := by
  rw [gnF, if_pos h, if_neg (by omega)]
theorem gnF_no (zs : List Int) (f k : Nat) (n wt : Int) (h : k < zs.length) (hd : zs.getD k 0 < 128) (hb : 16777215 < n + zs.getD k 0 % 128 * wt ∨ (zs.getD k 0 = 0 ∧ 1 < wt)) : gnF zs (f + 1) k n wt = none := by
  rw [gnF, if_pos h, if_pos hd, if_pos hb]
theorem gnF_yes (zs : List Int) (f k : Nat) (n wt : Int) (h : k < zs.length) (hd : zs.getD k 0 < 128) (hb : ¬ (16777215 < n + zs.getD k 0 % 128 * wt ∨ (zs.getD k 0 = 0 ∧ 1 < wt))) : gnF zs (f + 1) k n wt = some (n + zs.getD k 0 % 128 * wt, k + 1) := by
  rw [gnF, if_pos h, if_pos hd, if_neg hb]
end Go.Proofs.YtonkaomfahmchaaDoor
