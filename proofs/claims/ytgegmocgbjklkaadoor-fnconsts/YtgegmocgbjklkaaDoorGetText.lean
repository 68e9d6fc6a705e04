/-
  What GetText does, in the program and in its model: the text that begins at the place, the place behind it and true; nothing, 0 and false, where there is none.
-/
import Derived.Test.YtgegmocgbjklkaaDoorTakeText
import Derived.Defers
import Derived.Recover
import Derived.Laws.Pointers
import Derived.RegionTactic
import Derived.ChangeAlike
namespace Go.Proofs.YtgegmocgbjklkaaDoor
open Go.RowKit

/-- What readAt answers of a text. -/
def ansT (r : Option (ByteArray × Nat)) : Value :=
  match r with
  | some (s, nx) => .tuple #[.string s, .int .i64 (nx : Int), .bool true]
  | none => .tuple #[.string ⟨#[]⟩, .int .i64 0, .bool false]

theorem gn_bd {w : World} {B : Nat} {a : Option Addr} {len : Nat} {zs : List Int} {k n : Int} {nx : Nat} (hin : In w B a len zs) (h : gn zs k = some (n, nx)) : 0 ≤ n ∧ n ≤ 16777215 ∧ 0 < nx ∧ nx ≤ zs.length := by
  have hz : ∀ j, 0 ≤ zs.getD j 0 := fun j => by
    by_cases hj : j < len
    · exact (hin.2.2.1 j hj).1
    · have := hin.1
      simp [List.getD, List.getElem?_eq_none (show zs.length ≤ j by omega)]
  unfold gn at h
  split at h
  · have := gnF_bd zs hz 4 _ _ _ n nx (by omega) (by omega) h
    omega
  · cases h

theorem ret_ansT {r : Option (ByteArray × Nat)} {s s' : ByteArray} {b : Int} {nx : Nat} (hr : r = some (s, nx)) (h1 : s' = s) (h2 : b = (nx : Int)) : Ending.returned (.tuple #[.string s', .int .i64 b, .bool true]) = .returned (ansT r) := by
  subst hr h1 h2; rfl

set_option maxHeartbeats 1000000 in
theorem getTextModel (w : World) (a : Option Addr) (len cap : Nat) (zs : List Int) (k : Int) (B : Nat) (hin : In w B a len zs) (hcap : len ≤ cap) :
    Calls Tryd.prog 60 #[.slice a len cap, .int .i64 k] w fun e w' => e = .returned (ansT (gtOf zs (gn zs k))) ∧ w' = w := by
  have hlen := hin.1
  have hl := hin.2.1
  have HM := hide (getNumModel w a len cap zs k B hin)
  cases hg : gn zs k with
  | none =>
    rw [hg] at HM
    clear hin
    go_enter Tryd.func60, Tryd.ntmps60
    go_wp2_with fail
    refine (unhide HM).mono ?_
    rintro e w1 ⟨rfl, rfl⟩
    unfold ans
    go_wp2
    go_ret3
    exact ⟨rfl, rfl⟩
  | some q =>
    obtain ⟨n, nx⟩ := q
    obtain ⟨hn0, hn1, hx0, hx1⟩ := gn_bd hin hg
    rw [hg] at HM
    clear hg
    obtain ⟨N, rfl⟩ := Int.eq_ofNat_of_zero_le hn0
    obtain ⟨b, o, rfl, hbB, hcell⟩ := hin.2.2.2 (by omega)
    rw [← hlen] at hcell
    by_cases h2 : (200 : Int) < (N : Int)
    · have HN : Hid (gtOf zs (some ((N : Int), nx)) = none) := gtOf_no _ _ _ (by omega)
      clear hin hcell
      go_enter Tryd.func60, Tryd.ntmps60
      go_wp2_with fail
      refine (unhide HM).mono ?_
      rintro e w1 ⟨rfl, rfl⟩
      unfold ans
      go_wp2
      go_ret3
      exact ⟨by rw [HN.out]; rfl, rfl⟩
    · by_cases h3 : nx + N ≤ len
      · have HN : Hid (gtOf zs (some ((N : Int), nx)) = some (strOfNums ((zs.drop nx).take N), nx + N)) := gtOf_yes _ _ _ (by omega)
        have hcv := run_convert_bytes_arg (P := Tryd.prog) w 22 5 Tryd.underlying22 Tryd.underlying5 b (o + nx) N (cap - nx) ((zs.drop nx).take N) (by simp; omega) (text_cells hcell (by omega)) 9 Tryd.underlying9
        have hcv0 := fun W : World => run_convert_bytes_arg (P := Tryd.prog) W 22 5 Tryd.underlying22 Tryd.underlying5 b o 0 0 [] rfl (fun i hi => by omega) 9 Tryd.underlying9
        clear hin hcell
        by_cases hcn : cap = nx
        · have hN0 : N = 0 := by omega
          subst hN0
          subst hcn
          have HN2 : Hid (gtOf zs (some (((0 : Nat) : Int), cap)) = some (strOfNums [], cap + 0)) := HN.out
          clear HN hcv
          generalize strOfNums [] = S at *
          go_enter Tryd.func60, Tryd.ntmps60
          go_wp2_with fail
          refine (unhide HM).mono ?_
          rintro e w1 ⟨rfl, rfl⟩
          unfold ans
          go_wp2
          go_ret3
          exact ⟨ret_ansT HN2.out rfl (by omega), rfl⟩
        · clear hcv0
          generalize strOfNums ((zs.drop nx).take N) = S at *
          go_enter Tryd.func60, Tryd.ntmps60
          go_wp2_with fail
          refine (unhide HM).mono ?_
          rintro e w1 ⟨rfl, rfl⟩
          unfold ans
          go_wp2
          go_ret3
          exact ⟨ret_ansT HN.out rfl (by omega), rfl⟩
      · have HN : Hid (gtOf zs (some ((N : Int), nx)) = none) := gtOf_no _ _ _ (by omega)
        clear hin hcell
        go_enter Tryd.func60, Tryd.ntmps60
        go_wp2_with fail
        refine (unhide HM).mono ?_
        rintro e w1 ⟨rfl, rfl⟩
        unfold ans
        go_wp2
        go_ret3
        exact ⟨by rw [HN.out]; rfl, rfl⟩

end Go.Proofs.YtgegmocgbjklkaaDoor
