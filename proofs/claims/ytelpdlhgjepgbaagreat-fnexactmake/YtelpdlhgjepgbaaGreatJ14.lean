/-
  Joined: PrgLaw, StrW.
-/
import Derived.Test.YtelpdlhgjepgbaaGreatJ7
import Derived.Test.YtelpdlhgjepgbaaGreatJ12
import Derived.Test.YtelpdlhgjepgbaaGreatJ13
import Derived.Test.YtelpdlhgjepgbaaGreatJ1
import Derived.Laws.BytesArg
import Derived.Lib.Bytes
/-
  What the laws over programs lean on.
-/
namespace Go.Proofs.YtelpdlhgjepgbaaGreat
open Go.RowKit

theorem pgD_reads {w : World} {B : Nat} {x : Pg} {u1 : Value} (h : ReadsL w B (pgD x) [u1]) : Reads w B (kins x.k) u1 := by
  obtain ⟨_, _, e, h1, h⟩ := readsL_cons h
  cases e
  exact h1
theorem pgD_own {w : World} {b hi : Nat} {x : Pg} {u1 : Value} (h : OwnDL w b hi (pgD x) [u1]) : Reads w w.heap.size (kins x.k) u1 := pgD_reads (h.rd (Nat.le_refl _))
end Go.Proofs.YtelpdlhgjepgbaaGreat
/-
  Bytes as a text.
-/
namespace Go.Proofs.YtelpdlhgjepgbaaGreat
open Go.RowKit

theorem in_str {w : World} {B len b o : Nat} (c : Nat) {zs : List Int} (h : In w B (some ⟨b, o, none⟩) len zs) : (convert 130 9 (.slice (some ⟨b, o, none⟩) len c)).run Tryz.prog w = .ok (.string (strOfNums zs)) w :=
  run_convert_bytes_arg (P := Tryz.prog) w 130 5 Tryz.underlying130 Tryz.underlying5 b o len c zs h.1 (fun i hi => by
    obtain ⟨b', o', ha, _, hcell⟩ := h.2.2.2 (by omega)
    cases ha
    exact hcell i hi) 9 Tryz.underlying9

theorem own_str {w : World} {b : Nat} {v : Value} {zs : List Int} (h : Own w b v zs) : (convert 130 9 v).run Tryz.prog w = .ok (.string (strOfNums zs)) w := by
  rcases h.2 with ⟨rfl, h0⟩ | ⟨g, c, cur, rfl, _⟩
  · have hn : zs = [] := List.eq_nil_of_length_eq_zero h0
    subst hn
    exact run_convert_bytes_nil (P := Tryz.prog) w 130 5 Tryz.underlying130 Tryz.underlying5 0 0 9 Tryz.underlying9
  · refine run_convert_bytes_arg (P := Tryz.prog) w 130 5 Tryz.underlying130 Tryz.underlying5 g 0 zs.length c zs rfl (fun i hi => ?_) 9 Tryz.underlying9
    have := World.ownsRow.cellAt h i (by omega)
    rw [Nat.zero_add, this]
    simp [hi]

theorem in_byt {w : World} {B len : Nat} {a : Option Addr} {zs : List Int} (h : In w B a len zs) : Byt zs := by
  intro z hz
  obtain ⟨j, hj, rfl⟩ := List.getElem_of_mem hz
  have hl := h.1
  have := h.2.2.1 j (by omega)
  simpa [hj] using this

theorem byte_inj : ∀ (xs ys : List Int), Byt xs → Byt ys → xs.map (fun n => UInt8.ofNat n.toNat) = ys.map (fun n => UInt8.ofNat n.toNat) → xs = ys
  | [], [], _, _, _ => rfl
  | [], _ :: _, _, _, h => by simp at h
  | _ :: _, [], _, _, h => by simp at h
  | x :: xs, y :: ys, hx, hy, h => by
    simp only [List.map_cons, List.cons.injEq] at h
    have h1 := hx x (by simp)
    have h2 := hy y (by simp)
    have h3 : x.toNat = y.toNat := by
      have := congrArg UInt8.toNat h.1
      simp at this
      omega
    have h4 := byte_inj xs ys (fun z hz => hx z (by simp [hz])) (fun z hz => hy z (by simp [hz])) h.2
    rw [h4, show x = y from by omega]
theorem str_eq (xs ys : List Int) (hx : Byt xs) (hy : Byt ys) : ((strOfNums xs).toList == (strOfNums ys).toList) = decide (xs = ys) := by
  by_cases h : xs = ys
  · subst h; simp
  · rw [decide_eq_false h, beq_eq_false_iff_ne]
    intro h'
    rw [Go.Lib.strOfNums_toList, Go.Lib.strOfNums_toList] at h'
    exact h (byte_inj xs ys hx hy h')

theorem any_str {w : World} {B len c : Nat} {a : Option Addr} {ys : List Int} (h : In w B a len ys) (hc : a = none → c = 0) (hs : ∀ x, a = some x → x.spot = none) : (convert 130 9 (.slice a len c)).run Tryz.prog w = .ok (.string (strOfNums ys)) w := by
  cases a with
  | none =>
    obtain ⟨rfl, rfl⟩ := h.none_len
    obtain rfl := hc rfl
    exact run_convert_bytes_nil (P := Tryz.prog) w 130 5 Tryz.underlying130 Tryz.underlying5 0 0 9 Tryz.underlying9
  | some x =>
    obtain ⟨b, o, sp⟩ := x
    have := hs _ rfl
    simp only at this
    subst this
    exact in_str c h

end Go.Proofs.YtelpdlhgjepgbaaGreat
