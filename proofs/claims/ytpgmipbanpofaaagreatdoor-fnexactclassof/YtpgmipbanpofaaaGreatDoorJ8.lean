/-
  Joined: Rdr, TakeText, GetText.
-/
import Derived.Test.YtpgmipbanpofaaaGreatDoorJ7
import Derived.Test.YtpgmipbanpofaaaGreatDoorJ3
import Derived.Test.YtpgmipbanpofaaaGreatDoorJ4
import Derived.Laws.BytesArg
import Derived.Defers
import Derived.Recover
import Derived.Laws.Pointers
import Derived.RegionTactic
import Derived.ChangeAlike
/-
  Readers: their bytes, their place, and what they take.
-/
namespace Go.Proofs.YtpgmipbanpofaaaGreatDoor
open Go.RowKit

theorem rdNum {w : World} {B : Nat} {a : Option Addr} {len : Nat} {zs : List Int} {p k : Nat} {t : TypeId} {v : Value} (cap : Nat) (h : Rdr w B a len zs p k t v) :
    Calls Tryz.prog 81 #[.slice a len cap, .pointer (some ⟨p, 0, none⟩)] w (took w p t v (gnF zs 4 k 0 1)) :=
  takeNum w a len cap zs B p k t v h.inp h.hB h.hp0 h.err h.pl
theorem rdWord {w : World} {B : Nat} {a : Option Addr} {len : Nat} {zs : List Int} {p k : Nat} {t : TypeId} {v : Value} (cap : Nat) (h : Rdr w B a len zs p k t v) :
    Calls Tryz.prog 97 #[.slice a len cap, .pointer (some ⟨p, 0, none⟩)] w (took w p t v (gw zs (k : Int))) :=
  takeWord w a len cap zs B p k t v h.inp h.hB h.hp0 h.err h.pl

end Go.Proofs.YtpgmipbanpofaaaGreatDoor
/-
  What takeText does: the text that begins at the place, and the place behind it; or a panic, where there is none.
-/
namespace Go.Proofs.YtpgmipbanpofaaaGreatDoor
open Go.RowKit

theorem gnF_bd (zs : List Int) (hz : ∀ j, 0 ≤ zs.getD j 0) : ∀ (f k : Nat) (m wt n : Int) (nx : Nat), 0 ≤ m → 0 ≤ wt → gnF zs f k m wt = some (n, nx) → 0 ≤ n ∧ n ≤ 16777215 ∧ k < nx ∧ nx ≤ zs.length
  | 0, _, _, _, _, _, _, _, h => by simp [gnF] at h
  | f + 1, k, m, wt, n, nx, hm, hw, h => by
    have hp : 0 ≤ zs.getD k 0 % 128 * wt := Int.mul_nonneg (by omega) hw
    unfold gnF at h
    split at h
    · split at h
      · split at h
        · cases h
        · rename_i h1 _ h2
          simp only [Option.some.injEq, Prod.mk.injEq] at h
          obtain ⟨rfl, rfl⟩ := h
          exact ⟨by omega, by omega, by omega, by omega⟩
      · have := gnF_bd zs hz f (k + 1) _ _ n nx (by omega) (Int.mul_nonneg hw (by decide)) h
        omega
    · cases h

/-- The text that begins at place k, and the place behind it. -/
def gtOf (zs : List Int) : Option (Int × Nat) → Option (ByteArray × Nat)
  | some (n, nx) => if n ≤ 200 ∧ nx + n.toNat ≤ zs.length then some (strOfNums ((zs.drop nx).take n.toNat), nx + n.toNat) else none
  | none => none

theorem gtOf_no (zs : List Int) (n : Int) (nx : Nat) (h : ¬ (n ≤ 200 ∧ nx + n.toNat ≤ zs.length)) : gtOf zs (some (n, nx)) = none := by
  simp only [gtOf]; rw [if_neg h]
theorem gtOf_yes (zs : List Int) (n : Int) (nx : Nat) (h : n ≤ 200 ∧ nx + n.toNat ≤ zs.length) : gtOf zs (some (n, nx)) = some (strOfNums ((zs.drop nx).take n.toNat), nx + n.toNat) := by
  simp only [gtOf]; rw [if_pos h]

def tookT (w : World) (p : Nat) (t : TypeId) (v : Value) (r : Option (ByteArray × Nat)) (e : Ending) (w' : World) : Prop :=
  ((∃ s nx, r = some (s, nx) ∧ e = .returned (.string s) ∧ w'.heap[p]? = some (.cells #[.int .i64 ((nx : Nat) : Int)] 3 (0, 0))) ∨
   (r = none ∧ e = .panicked [{ v := .iface t v, recovered := false }])) ∧ w.grownBy w' (some p)

theorem text_cells {w : World} {b o : Nat} {zs : List Int} {nx N : Nat} (hc : ∀ j, j < zs.length → w.cell? ⟨b, o + j, none⟩ = some (.int .u8 (zs.getD j 0))) (hN : nx + N ≤ zs.length) :
    ∀ i, i < N → w.cell? ⟨b, o + nx + i, none⟩ = some (.int .u8 (((zs.drop nx).take N).getD i 0)) := by
  intro i hi
  rw [Nat.add_assoc, hc (nx + i) (by omega)]
  simp [List.getD, hi]

set_option maxRecDepth 100000 in
set_option maxHeartbeats 1000000 in
theorem takeText (w : World) (a : Option Addr) (len cap : Nat) (zs : List Int) (B p : Nat) (k : Int) (t : TypeId) (v : Value) (r : Option (Int × Nat)) (hin : In w B a len zs) (hcap : len ≤ cap) (hB : B ≤ p) (hp0 : 0 < p) (hE : Err w t v)
    (hp : w.heap[p]? = some (.cells #[.int .i64 k] 3 (0, 0))) (hr : ∀ n nx, r = some (n, nx) → 0 ≤ n ∧ n ≤ 16777215 ∧ 0 < nx ∧ nx ≤ zs.length)
    (hT : Calls Tryz.prog 81 #[.slice a len cap, .pointer (some ⟨p, 0, none⟩)] w (took w p t v r)) :
    Calls Tryz.prog 62 #[.slice a len cap, .pointer (some ⟨p, 0, none⟩)] w (tookT w p t v (gtOf zs r)) := by
  have hlen := hin.1
  have hl := hin.2.1
  have hpw : p < w.heap.size := (Array.getElem?_eq_some_iff.1 hp).1
  have HT := hide hT
  clear hT
  go_enter Tryz.func62, Tryz.ntmps62
  go_wp2_with fail
  refine (unhide HT).mono ?_
  rintro e w1 ⟨h1, hg1⟩
  rcases h1 with ⟨n, nx, rfl, rfl, hp1⟩ | ⟨rfl, rfl⟩
  · obtain ⟨hn0, hn1, hx0, hx1⟩ := hr n nx rfl
    have hE1 := hE.out hg1 hp0
    have hin1 := hin.out hg1 hB hpw
    have HG := hide hg1
    have c0 : w1.cell? ⟨p, 0, none⟩ = some (.int .i64 (nx : Int)) := by rw [cell_of_row _ _ 0 _ 3 (0, 0) hp1]; rfl
    have f0 : w1.frozen? ⟨p, 0, none⟩ = false := frozen_of_row _ _ 0 _ 3 hp1
    obtain ⟨N, rfl⟩ := Int.eq_ofNat_of_zero_le hn0
    obtain ⟨b, o, rfl, hbB, hcell⟩ := hin1.2.2.2 (by omega)
    unfold Err at hE1
    have PP := place_put (y := (nx : Int) + (N : Int)) hg1 hp1
    have HPP := hide PP
    have hin2 := hin.out PP.2 hB hpw
    obtain ⟨b2, o2, e2, _, hcell2⟩ := hin2.2.2.2 (by omega)
    simp only [Option.some.injEq, Addr.mk.injEq, and_true] at e2
    obtain ⟨rfl, rfl⟩ := e2
    rw [← hlen] at hcell2
    clear hin2
    clear hr HT hin hE hp hg1 hp1 PP
    by_cases h2 : (200 : Int) < (N : Int)
    · have HN : Hid (gtOf zs (some ((N : Int), nx)) = none) := gtOf_no _ _ _ (by omega)
      clear hin1 hcell
      go_wp2
      exact ⟨rfl, .inr ⟨HN.out, rfl⟩, HG.out⟩
    · by_cases h3 : nx + N ≤ len
      · have HN : Hid (gtOf zs (some ((N : Int), nx)) = some (strOfNums ((zs.drop nx).take N), nx + N)) := gtOf_yes _ _ _ (by omega)
        have hcv := run_convert_bytes_arg (P := Tryz.prog) (w1.setCell ⟨p, 0, none⟩ (.int .i64 ((nx : Int) + (N : Int)))) 22 5 Tryz.underlying22 Tryz.underlying5 b (o + nx) N (cap - nx) ((zs.drop nx).take N) (by simp; omega) (text_cells hcell2 (by omega)) 9 Tryz.underlying9
        have hcv0 := fun W : World => run_convert_bytes_arg (P := Tryz.prog) W 22 5 Tryz.underlying22 Tryz.underlying5 b o 0 0 [] rfl (fun i hi => by omega) 9 Tryz.underlying9
        clear hin1 hcell hcell2
        by_cases hcn : cap = nx
        · have hN0 : N = 0 := by omega
          subst hN0
          have HP2 : Hid ((w1.setCell ⟨p, 0, none⟩ (.int .i64 (nx : Int))).heap[p]? = some (.cells #[.int .i64 ((nx + 0 : Nat) : Int)] 3 (0, 0)) ∧ w.grownBy (w1.setCell ⟨p, 0, none⟩ (.int .i64 (nx : Int))) (some p)) := by
            have := HPP.out
            show _ ∧ _
            simpa using this
          have HN2 : Hid (gtOf zs (some (((0 : Nat) : Int), nx)) = some (strOfNums [], nx + 0)) := HN.out
          clear HN HPP hcv
          generalize strOfNums [] = S at *
          go_wp2
          go_ret
          exact ⟨.inl ⟨_, _, HN2.out, rfl, HP2.out.1⟩, HP2.out.2⟩
        · generalize strOfNums ((zs.drop nx).take N) = S at *
          clear hcv0
          go_wp2
          go_ret
          exact ⟨.inl ⟨_, _, HN.out, rfl, HPP.out.1⟩, HPP.out.2⟩
      · have HN : Hid (gtOf zs (some ((N : Int), nx)) = none) := gtOf_no _ _ _ (by omega)
        clear hin1 hcell
        go_wp2
        exact ⟨rfl, .inr ⟨HN.out, rfl⟩, HG.out⟩
  · clear hr HT hin hE hp
    have HG := hide hg1
    clear hg1
    go_wp2
    exact ⟨rfl, .inr ⟨rfl, rfl⟩, HG.out⟩
end Go.Proofs.YtpgmipbanpofaaaGreatDoor
/-
  What GetText does, in the program and in its model: the text that begins at the place, the place behind it and true; nothing, 0 and false, where there is none.
-/
namespace Go.Proofs.YtpgmipbanpofaaaGreatDoor
open Go.RowKit

/-- What readAt answers of a text. -/
def ansT (r : Option (ByteArray × Nat)) : Value :=
  match r with
  | some (s, nx) => .tuple #[.string s, .int .i64 (nx : Int), .bool true]
  | none => .tuple #[.string ⟨#[]⟩, .int .i64 0, .bool false]

theorem gn_bd {w : World} {B : Nat} {a : Option Addr} {len : Nat} {zs : List Int} {k n : Int} {nx : Nat} (hin : In w B a len zs) (h : gn zs k = some (n, nx)) : 0 ≤ n ∧ n ≤ 16777215 ∧ 0 < nx ∧ nx ≤ zs.length := by
  have hz : ∀ j, 0 ≤ zs.getD j 0 := fun j => by
    by_cases hj : j < len
    · exact (hin.2.2.1 j hj).1
    · have := hin.1
      simp [List.getD, List.getElem?_eq_none (show zs.length ≤ j by omega)]
  unfold gn at h
  split at h
  · have := gnF_bd zs hz 4 _ _ _ n nx (by omega) (by omega) h
    omega
  · cases h

theorem ret_ansT {r : Option (ByteArray × Nat)} {s s' : ByteArray} {b : Int} {nx : Nat} (hr : r = some (s, nx)) (h1 : s' = s) (h2 : b = (nx : Int)) : Ending.returned (.tuple #[.string s', .int .i64 b, .bool true]) = .returned (ansT r) := by
  subst hr h1 h2; rfl

set_option maxRecDepth 100000 in
set_option maxHeartbeats 1000000 in
theorem getTextModel (w : World) (a : Option Addr) (len cap : Nat) (zs : List Int) (k : Int) (B : Nat) (hin : In w B a len zs) (hcap : len ≤ cap) :
    Calls Tryz.prog 29 #[.slice a len cap, .int .i64 k] w fun e w' => e = .returned (ansT (gtOf zs (gn zs k))) ∧ w' = w := by
  have hlen := hin.1
  have hl := hin.2.1
  have HM := hide (getNumModel w a len cap zs k B hin)
  cases hg : gn zs k with
  | none =>
    rw [hg] at HM
    clear hin
    go_enter Tryz.func29, Tryz.ntmps29
    go_wp2_with fail
    refine (unhide HM).mono ?_
    rintro e w1 ⟨rfl, rfl⟩
    unfold ans
    go_wp2
    go_ret3
    exact ⟨rfl, rfl⟩
  | some q =>
    obtain ⟨n, nx⟩ := q
    obtain ⟨hn0, hn1, hx0, hx1⟩ := gn_bd hin hg
    rw [hg] at HM
    clear hg
    obtain ⟨N, rfl⟩ := Int.eq_ofNat_of_zero_le hn0
    obtain ⟨b, o, rfl, hbB, hcell⟩ := hin.2.2.2 (by omega)
    rw [← hlen] at hcell
    by_cases h2 : (200 : Int) < (N : Int)
    · have HN : Hid (gtOf zs (some ((N : Int), nx)) = none) := gtOf_no _ _ _ (by omega)
      clear hin hcell
      go_enter Tryz.func29, Tryz.ntmps29
      go_wp2_with fail
      refine (unhide HM).mono ?_
      rintro e w1 ⟨rfl, rfl⟩
      unfold ans
      go_wp2
      go_ret3
      exact ⟨by rw [HN.out]; rfl, rfl⟩
    · by_cases h3 : nx + N ≤ len
      · have HN : Hid (gtOf zs (some ((N : Int), nx)) = some (strOfNums ((zs.drop nx).take N), nx + N)) := gtOf_yes _ _ _ (by omega)
        have hcv := run_convert_bytes_arg (P := Tryz.prog) w 22 5 Tryz.underlying22 Tryz.underlying5 b (o + nx) N (cap - nx) ((zs.drop nx).take N) (by simp; omega) (text_cells hcell (by omega)) 9 Tryz.underlying9
        have hcv0 := fun W : World => run_convert_bytes_arg (P := Tryz.prog) W 22 5 Tryz.underlying22 Tryz.underlying5 b o 0 0 [] rfl (fun i hi => by omega) 9 Tryz.underlying9
        clear hin hcell
        by_cases hcn : cap = nx
        · have hN0 : N = 0 := by omega
          subst hN0
          subst hcn
          have HN2 : Hid (gtOf zs (some (((0 : Nat) : Int), cap)) = some (strOfNums [], cap + 0)) := HN.out
          clear HN hcv
          generalize strOfNums [] = S at *
          go_enter Tryz.func29, Tryz.ntmps29
          go_wp2_with fail
          refine (unhide HM).mono ?_
          rintro e w1 ⟨rfl, rfl⟩
          unfold ans
          go_wp2
          go_ret3
          exact ⟨ret_ansT HN2.out rfl (by omega), rfl⟩
        · clear hcv0
          generalize strOfNums ((zs.drop nx).take N) = S at *
          go_enter Tryz.func29, Tryz.ntmps29
          go_wp2_with fail
          refine (unhide HM).mono ?_
          rintro e w1 ⟨rfl, rfl⟩
          unfold ans
          go_wp2
          go_ret3
          exact ⟨ret_ansT HN.out rfl (by omega), rfl⟩
      · have HN : Hid (gtOf zs (some ((N : Int), nx)) = none) := gtOf_no _ _ _ (by omega)
        clear hin hcell
        go_enter Tryz.func29, Tryz.ntmps29
        go_wp2_with fail
        refine (unhide HM).mono ?_
        rintro e w1 ⟨rfl, rfl⟩
        unfold ans
        go_wp2
        go_ret3
        exact ⟨by rw [HN.out]; rfl, rfl⟩

end Go.Proofs.YtpgmipbanpofaaaGreatDoor
