/-
  What takeText does: the text that begins at the place, and the place behind it; or a panic, where there is none.
-/
import Derived.Test.YtgegmocgbjklkaaDoorGetSpec
import Derived.Laws.BytesArg
namespace Go.Proofs.YtgegmocgbjklkaaDoor
open Go.RowKit

theorem gnF_bd (zs : List Int) (hz : ∀ j, 0 ≤ zs.getD j 0) : ∀ (f k : Nat) (m wt n : Int) (nx : Nat), 0 ≤ m → 0 ≤ wt → gnF zs f k m wt = some (n, nx) → 0 ≤ n ∧ n ≤ 16777215 ∧ k < nx ∧ nx ≤ zs.length
  | 0, _, _, _, _, _, _, _, h => by simp [gnF] at h
  | f + 1, k, m, wt, n, nx, hm, hw, h => by
    have hp : 0 ≤ zs.getD k 0 % 128 * wt := Int.mul_nonneg (by omega) hw
    unfold gnF at h
    split at h
    · split at h
      · split at h
        · cases h
        · rename_i h1 _ h2
          simp only [Option.some.injEq, Prod.mk.injEq] at h
          obtain ⟨rfl, rfl⟩ := h
          exact ⟨by omega, by omega, by omega, by omega⟩
      · have := gnF_bd zs hz f (k + 1) _ _ n nx (by omega) (Int.mul_nonneg hw (by decide)) h
        omega
    · cases h

/-- The text that begins at place k, and the place behind it. -/
def gtOf (zs : List Int) : Option (Int × Nat) → Option (ByteArray × Nat)
  | some (n, nx) => if n ≤ 200 ∧ nx + n.toNat ≤ zs.length then some (strOfNums ((zs.drop nx).take n.toNat), nx + n.toNat) else none
  | none => none

theorem gtOf_no (zs : List Int) (n : Int) (nx : Nat) (h : ¬ (n ≤ 200 ∧ nx + n.toNat ≤ zs.length)) : gtOf zs (some (n, nx)) = none := by
  simp only [gtOf]; rw [if_neg h]
theorem gtOf_yes (zs : List Int) (n : Int) (nx : Nat) (h : n ≤ 200 ∧ nx + n.toNat ≤ zs.length) : gtOf zs (some (n, nx)) = some (strOfNums ((zs.drop nx).take n.toNat), nx + n.toNat) := by
  simp only [gtOf]; rw [if_pos h]

def tookT (w : World) (p : Nat) (t : TypeId) (v : Value) (r : Option (ByteArray × Nat)) (e : Ending) (w' : World) : Prop :=
  ((∃ s nx, r = some (s, nx) ∧ e = .returned (.string s) ∧ w'.heap[p]? = some (.cells #[.int .i64 ((nx : Nat) : Int)] 3 (0, 0))) ∨
   (r = none ∧ e = .panicked [{ v := .iface t v, recovered := false }])) ∧ w.grownBy w' (some p)

theorem text_cells {w : World} {b o : Nat} {zs : List Int} {nx N : Nat} (hc : ∀ j, j < zs.length → w.cell? ⟨b, o + j, none⟩ = some (.int .u8 (zs.getD j 0))) (hN : nx + N ≤ zs.length) :
    ∀ i, i < N → w.cell? ⟨b, o + nx + i, none⟩ = some (.int .u8 (((zs.drop nx).take N).getD i 0)) := by
  intro i hi
  rw [Nat.add_assoc, hc (nx + i) (by omega)]
  simp [List.getD, hi]

set_option maxHeartbeats 1000000 in
theorem takeText (w : World) (a : Option Addr) (len cap : Nat) (zs : List Int) (B p : Nat) (k : Int) (t : TypeId) (v : Value) (r : Option (Int × Nat)) (hin : In w B a len zs) (hcap : len ≤ cap) (hB : B ≤ p) (hp0 : 0 < p) (hE : Err w t v)
    (hp : w.heap[p]? = some (.cells #[.int .i64 k] 3 (0, 0))) (hr : ∀ n nx, r = some (n, nx) → 0 ≤ n ∧ n ≤ 16777215 ∧ 0 < nx ∧ nx ≤ zs.length)
    (hT : Calls Tryd.prog 45 #[.slice a len cap, .pointer (some ⟨p, 0, none⟩)] w (took w p t v r)) :
    Calls Tryd.prog 57 #[.slice a len cap, .pointer (some ⟨p, 0, none⟩)] w (tookT w p t v (gtOf zs r)) := by
  have hlen := hin.1
  have hl := hin.2.1
  have hpw : p < w.heap.size := (Array.getElem?_eq_some_iff.1 hp).1
  have HT := hide hT
  clear hT
  go_enter Tryd.func57, Tryd.ntmps57
  go_wp2_with fail
  refine (unhide HT).mono ?_
  rintro e w1 ⟨h1, hg1⟩
  rcases h1 with ⟨n, nx, rfl, rfl, hp1⟩ | ⟨rfl, rfl⟩
  · obtain ⟨hn0, hn1, hx0, hx1⟩ := hr n nx rfl
    have hE1 := hE.out hg1 hp0
    have hin1 := hin.out hg1 hB hpw
    have HG := hide hg1
    have c0 : w1.cell? ⟨p, 0, none⟩ = some (.int .i64 (nx : Int)) := by rw [cell_of_row _ _ 0 _ 3 (0, 0) hp1]; rfl
    have f0 : w1.frozen? ⟨p, 0, none⟩ = false := frozen_of_row _ _ 0 _ 3 hp1
    obtain ⟨N, rfl⟩ := Int.eq_ofNat_of_zero_le hn0
    obtain ⟨b, o, rfl, hbB, hcell⟩ := hin1.2.2.2 (by omega)
    unfold Err at hE1
    have PP := place_put (y := (nx : Int) + (N : Int)) hg1 hp1
    have HPP := hide PP
    have hin2 := hin.out PP.2 hB hpw
    obtain ⟨b2, o2, e2, _, hcell2⟩ := hin2.2.2.2 (by omega)
    simp only [Option.some.injEq, Addr.mk.injEq, and_true] at e2
    obtain ⟨rfl, rfl⟩ := e2
    rw [← hlen] at hcell2
    clear hin2
    clear hr HT hin hE hp hg1 hp1 PP
    by_cases h2 : (200 : Int) < (N : Int)
    · have HN : Hid (gtOf zs (some ((N : Int), nx)) = none) := gtOf_no _ _ _ (by omega)
      clear hin1 hcell
      go_wp2
      exact ⟨rfl, .inr ⟨HN.out, rfl⟩, HG.out⟩
    · by_cases h3 : nx + N ≤ len
      · have HN : Hid (gtOf zs (some ((N : Int), nx)) = some (strOfNums ((zs.drop nx).take N), nx + N)) := gtOf_yes _ _ _ (by omega)
        have hcv := run_convert_bytes_arg (P := Tryd.prog) (w1.setCell ⟨p, 0, none⟩ (.int .i64 ((nx : Int) + (N : Int)))) 22 5 Tryd.underlying22 Tryd.underlying5 b (o + nx) N (cap - nx) ((zs.drop nx).take N) (by simp; omega) (text_cells hcell2 (by omega)) 9 Tryd.underlying9
        have hcv0 := fun W : World => run_convert_bytes_arg (P := Tryd.prog) W 22 5 Tryd.underlying22 Tryd.underlying5 b o 0 0 [] rfl (fun i hi => by omega) 9 Tryd.underlying9
        clear hin1 hcell hcell2
        by_cases hcn : cap = nx
        · have hN0 : N = 0 := by omega
          subst hN0
          have HP2 : Hid ((w1.setCell ⟨p, 0, none⟩ (.int .i64 (nx : Int))).heap[p]? = some (.cells #[.int .i64 ((nx + 0 : Nat) : Int)] 3 (0, 0)) ∧ w.grownBy (w1.setCell ⟨p, 0, none⟩ (.int .i64 (nx : Int))) (some p)) := by
            have := HPP.out
            show _ ∧ _
            simpa using this
          have HN2 : Hid (gtOf zs (some (((0 : Nat) : Int), nx)) = some (strOfNums [], nx + 0)) := HN.out
          clear HN HPP hcv
          generalize strOfNums [] = S at *
          go_wp2
          go_ret
          exact ⟨.inl ⟨_, _, HN2.out, rfl, HP2.out.1⟩, HP2.out.2⟩
        · generalize strOfNums ((zs.drop nx).take N) = S at *
          clear hcv0
          go_wp2
          go_ret
          exact ⟨.inl ⟨_, _, HN.out, rfl, HPP.out.1⟩, HPP.out.2⟩
      · have HN : Hid (gtOf zs (some ((N : Int), nx)) = none) := gtOf_no _ _ _ (by omega)
        clear hin1 hcell
        go_wp2
        exact ⟨rfl, .inr ⟨HN.out, rfl⟩, HG.out⟩
  · clear hr HT hin hE hp
    have HG := hide hg1
    clear hg1
    go_wp2
    exact ⟨rfl, .inr ⟨rfl, rfl⟩, HG.out⟩
end Go.Proofs.YtgegmocgbjklkaaDoor
