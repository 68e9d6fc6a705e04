/-
  Joined: GetText, PutTextW, ValW.
-/
import Derived.Test.YtbggcoclfnhbgaaDoorJ7
import Derived.Defers
import Derived.Recover
import Derived.Laws.Pointers
import Derived.RegionTactic
import Derived.ChangeAlike
import Derived.Test.YtbggcoclfnhbgaaDoorJ5
import Derived.Lib.AppendStr
import Derived.Laws.IdiomStrings
import Derived.Test.YtbggcoclfnhbgaaDoorJ6
import Derived.Deep.QuietTactic
import Derived.BigQuiet
/-
  What GetText does, in the program and in its model: the text that begins at the place, the place behind it and true; nothing, 0 and false, where there is none.
-/
namespace Go.Proofs.YtbggcoclfnhbgaaDoor
open Go.RowKit

/-- What readAt answers of a text. -/
def ansT (r : Option (ByteArray × Nat)) : Value :=
  match r with
  | some (s, nx) => .tuple #[.string s, .int .i64 (nx : Int), .bool true]
  | none => .tuple #[.string ⟨#[]⟩, .int .i64 0, .bool false]

theorem gn_bd {w : World} {B : Nat} {a : Option Addr} {len : Nat} {zs : List Int} {k n : Int} {nx : Nat} (hin : In w B a len zs) (h : gn zs k = some (n, nx)) : 0 ≤ n ∧ n ≤ 16777215 ∧ 0 < nx ∧ nx ≤ zs.length := by
  have hz : ∀ j, 0 ≤ zs.getD j 0 := fun j => by
    by_cases hj : j < len
    · exact (hin.2.2.1 j hj).1
    · have := hin.1
      simp [List.getD, List.getElem?_eq_none (show zs.length ≤ j by omega)]
  unfold gn at h
  split at h
  · have := gnF_bd zs hz 4 _ _ _ n nx (by omega) (by omega) h
    omega
  · cases h

theorem ret_ansT {r : Option (ByteArray × Nat)} {s s' : ByteArray} {b : Int} {nx : Nat} (hr : r = some (s, nx)) (h1 : s' = s) (h2 : b = (nx : Int)) : Ending.returned (.tuple #[.string s', .int .i64 b, .bool true]) = .returned (ansT r) := by
  subst hr h1 h2; rfl

set_option maxRecDepth 100000 in
set_option maxHeartbeats 1000000 in
theorem getTextModel (w : World) (a : Option Addr) (len cap : Nat) (zs : List Int) (k : Int) (B : Nat) (hin : In w B a len zs) (hcap : len ≤ cap) :
    Calls Tryd.prog 29 #[.slice a len cap, .int .i64 k] w fun e w' => e = .returned (ansT (gtOf zs (gn zs k))) ∧ w' = w := by
  have hlen := hin.1
  have hl := hin.2.1
  have HM := hide (getNumModel w a len cap zs k B hin)
  cases hg : gn zs k with
  | none =>
    rw [hg] at HM
    clear hin
    go_enter Tryd.func29, Tryd.ntmps29
    go_wp2_with fail
    refine (unhide HM).mono ?_
    rintro e w1 ⟨rfl, rfl⟩
    unfold ans
    go_wp2
    go_ret3
    exact ⟨rfl, rfl⟩
  | some q =>
    obtain ⟨n, nx⟩ := q
    obtain ⟨hn0, hn1, hx0, hx1⟩ := gn_bd hin hg
    rw [hg] at HM
    clear hg
    obtain ⟨N, rfl⟩ := Int.eq_ofNat_of_zero_le hn0
    obtain ⟨b, o, rfl, hbB, hcell⟩ := hin.2.2.2 (by omega)
    rw [← hlen] at hcell
    by_cases h2 : (200 : Int) < (N : Int)
    · have HN : Hid (gtOf zs (some ((N : Int), nx)) = none) := gtOf_no _ _ _ (by omega)
      clear hin hcell
      go_enter Tryd.func29, Tryd.ntmps29
      go_wp2_with fail
      refine (unhide HM).mono ?_
      rintro e w1 ⟨rfl, rfl⟩
      unfold ans
      go_wp2
      go_ret3
      exact ⟨by rw [HN.out]; rfl, rfl⟩
    · by_cases h3 : nx + N ≤ len
      · have HN : Hid (gtOf zs (some ((N : Int), nx)) = some (strOfNums ((zs.drop nx).take N), nx + N)) := gtOf_yes _ _ _ (by omega)
        have hcv := run_convert_bytes_arg (P := Tryd.prog) w 22 5 Tryd.underlying22 Tryd.underlying5 b (o + nx) N (cap - nx) ((zs.drop nx).take N) (by simp; omega) (text_cells hcell (by omega)) 9 Tryd.underlying9
        have hcv0 := fun W : World => run_convert_bytes_arg (P := Tryd.prog) W 22 5 Tryd.underlying22 Tryd.underlying5 b o 0 0 [] rfl (fun i hi => by omega) 9 Tryd.underlying9
        clear hin hcell
        by_cases hcn : cap = nx
        · have hN0 : N = 0 := by omega
          subst hN0
          subst hcn
          have HN2 : Hid (gtOf zs (some (((0 : Nat) : Int), cap)) = some (strOfNums [], cap + 0)) := HN.out
          clear HN hcv
          generalize strOfNums [] = S at *
          go_enter Tryd.func29, Tryd.ntmps29
          go_wp2_with fail
          refine (unhide HM).mono ?_
          rintro e w1 ⟨rfl, rfl⟩
          unfold ans
          go_wp2
          go_ret3
          exact ⟨ret_ansT HN2.out rfl (by omega), rfl⟩
        · clear hcv0
          generalize strOfNums ((zs.drop nx).take N) = S at *
          go_enter Tryd.func29, Tryd.ntmps29
          go_wp2_with fail
          refine (unhide HM).mono ?_
          rintro e w1 ⟨rfl, rfl⟩
          unfold ans
          go_wp2
          go_ret3
          exact ⟨ret_ansT HN.out rfl (by omega), rfl⟩
      · have HN : Hid (gtOf zs (some ((N : Int), nx)) = none) := gtOf_no _ _ _ (by omega)
        clear hin hcell
        go_enter Tryd.func29, Tryd.ntmps29
        go_wp2_with fail
        refine (unhide HM).mono ?_
        rintro e w1 ⟨rfl, rfl⟩
        unfold ans
        go_wp2
        go_ret3
        exact ⟨by rw [HN.out]; rfl, rfl⟩

end Go.Proofs.YtbggcoclfnhbgaaDoor
/-
  What PutText does, in the program and in its model: both answer the length and the bytes of the text (none, where it is too long) in new memory, and touch nothing that was there.
-/
namespace Go.Proofs.YtbggcoclfnhbgaaDoor
open Go.RowKit

/-- The bytes of a text, as numbers. -/
def bts (s : ByteArray) : List Int := s.data.toList.map fun b => (b.toNat : Int)
theorem bts_len (s : ByteArray) : (bts s).length = s.size := by simp [bts]
theorem bts_cells (s : ByteArray) : Lib.strCells s = (bts s).map (Value.int .u8) := by simp [bts, Lib.strCells]

def pt (s : ByteArray) : List Int := if s.size ≤ 200 then pn s.size ++ bts s else []
theorem pt_in (s : ByteArray) (h : s.size ≤ 200) : pt s = pn s.size ++ bts s := by simp [pt, h]
theorem pt_out (s : ByteArray) (h : 200 < s.size) : pt s = [] := by unfold pt; rw [if_neg (by omega)]
theorem pt_len (s : ByteArray) : (pt s).length ≤ 204 := by
  unfold pt
  have := pn_len s.size
  have := bts_len s
  split <;> simp <;> omega

theorem own_text {w : World} {b : Nat} {v : Value} {xs : List Int} {s : ByteArray} (h : w.ownsRow b 5 1 v (xs.length + s.size) (xs.map (Value.int .u8) ++ Lib.strCells s)) : Own w b v (xs ++ bts s) := by
  rw [bts_cells, ← bts_len s] at h
  exact own_more h

theorem bytes_cells (w : World) (s : ByteArray) (cap : Nat) (fz : Nat × Nat) : ∀ j u, (Lib.strCells s)[j]? = some u →
    (w.alloc (.cells (bytesRow s cap) 5 fz)).cell? ((⟨w.heap.size, 0, none⟩ : Addr).add j) = some u := by
  intro j u hu
  have hj : j < s.size := by
    have := (List.getElem?_eq_some_iff.1 hu).1
    rwa [Lib.strCells_length] at this
  rw [Addr.add_lit, Nat.zero_add, cell_of_row _ w.heap.size j (bytesRow s cap) 5 fz (heap_alloc_new w _), ← hu]
  have hj' : j < s.data.size := hj
  have hl : (s.data.map fun b => Value.int .u8 (b.toNat : Int)).size = s.data.size := by simp
  rw [bytesRow, Array.getElem?_append, if_pos (by rw [hl]; exact hj')]
  simp [Lib.strCells]

set_option maxRecDepth 100000 in
set_option maxHeartbeats 400000 in
theorem putTextSpec (s : ByteArray) (w : World) (hs : s.size ≤ maxLen) :
    Calls Tryd.prog 34 #[.string s] w fun e w' => ∃ v, e = .returned v ∧ Own w' w.heap.size v (pt s) ∧ Below w.heap.size w w' := by
  unfold maxLen at hs
  by_cases hn : 200 < s.size
  · rw [pt_out s hn]
    go_enter Tryd.func34, Tryd.ntmps34
    go_wp2
    go_ret
    exact ⟨_, rfl, own_empty _ _ (Nat.le_refl _), (Below.refl _ _).alloc (Nat.le_refl _) _⟩
  · rw [pt_in s (by omega)]
    have hpl := pn_len s.size
    obtain ⟨i0, hi, hz0, hz1, hz2⟩ := info_parts Tryd.info5
    have hcv := fun W : World => run_bytes_of_string (P := Tryd.prog) W 9 22 5 s Tryd.underlying9 Tryd.underlying22 Tryd.underlying5
    go_enter Tryd.func34, Tryd.ntmps34
    go_wp2_with fail
    refine (putNumSpec _ _).mono ?_
    rintro e w1 ⟨v0, rfl, o0, b0⟩
    have hsz := b0.size
    go_wp2_with (first | (at_builtin; refine wpList_append_own _ rfl _ _ 22 rfl w.heap.size 5 i0 (.int .u8 0) 1 1 Tryd.underlying22 hi hz0 hz1 hz2 rfl (by decide) _ _ _ rfl (by exact World.ownsRow.alloc o0 _) ⟨w1.heap.size, 0, none⟩ s.size _ (Lib.strCells s) rfl (by simp [Lib.strCells_length]) (by exact bytes_cells w1.drew s _ _) (Lib.strCells_oneCell s) (by unfold maxLen; omega) (by omega) (by simp; omega) ?_; intro v' w3 hown' hgrow3 hnil3))
    go_ret
    exact ⟨_, rfl, own_text hown', below_app (below_drewN b0 1) hsz (o0.drewN 1) hgrow3⟩

end Go.Proofs.YtbggcoclfnhbgaaDoor
/-
  What a value of a field is, and what ValOk does with it, in the program and in its model.
-/
namespace Go.Proofs.YtbggcoclfnhbgaaDoor
open Go.RowKit

/-- What ValOk says of a value. -/
def vOk (r : Bool) (n : Int) : Bool := bif r then inB n 0 1000000 else inB n (-2147483648) 2147483647

theorem wordSpec (n : Int) (w : World) :
    Calls Tryd.prog 54 #[.int .i64 n] w fun e w' => e = .returned (.bool (inB n (-2147483648) 2147483647)) ∧ w' = w := by
  cases h : inB n (-2147483648) 2147483647 with
  | true => have := inB_yes h; exact wordYes n w this.1 this.2
  | false => exact wordNo n w (inB_no h)

theorem rnd_eq (n : Int) : (rnd n == n) = inB n (-2147483648) 2147483647 := by
  cases h : inB n (-2147483648) 2147483647 with
  | true => have := inB_yes h; simp [rnd]; omega
  | false => have := inB_no h; simp [rnd]; omega

end Go.Proofs.YtbggcoclfnhbgaaDoor
