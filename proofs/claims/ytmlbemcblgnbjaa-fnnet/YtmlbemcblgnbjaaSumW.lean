/-
  What the sums of bytes are, and what Check, sumsOf and their model do.
-/
import Derived.Test.YtmlbemcblgnbjaaBytes
import Derived.Test.YtmlbemcblgnbjaaBoxW
import Derived.Deep.QuietTactic
import Derived.BigQuiet
import Derived.Deep.WholeRow
namespace Go.Proofs.Ytmlbemcblgnbjaa
open Go.RowKit

def sstep (p : Int × Int) (z : Int) : Int × Int := ((p.1 + z) % 65521, (p.2 + (p.1 + z) % 65521) % 65521)
/-- Both sums of the bytes. -/
def sums (zs : List Int) : Int × Int := zs.foldl sstep (1, 0)
def chk (zs : List Int) : Int := (sums zs).2 * 65536 + (sums zs).1

theorem sums_bd (zs : List Int) : 0 ≤ (sums zs).1 ∧ (sums zs).1 ≤ 65520 ∧ 0 ≤ (sums zs).2 ∧ (sums zs).2 ≤ 65520 := by
  unfold sums
  suffices ∀ (p : Int × Int), 0 ≤ p.1 ∧ p.1 ≤ 65520 ∧ 0 ≤ p.2 ∧ p.2 ≤ 65520 → let q := zs.foldl sstep p; 0 ≤ q.1 ∧ q.1 ≤ 65520 ∧ 0 ≤ q.2 ∧ q.2 ≤ 65520 from this (1, 0) (by decide)
  induction zs with
  | nil => intro p h; exact h
  | cons z zs ih => intro p h; exact ih (sstep p z) (by simp only [sstep]; omega)

theorem sums_take (zs : List Int) (k : Nat) (h : k < zs.length) : sums (zs.take (k + 1)) = sstep (sums (zs.take k)) (zs.getD k 0) := by
  unfold sums
  rw [List.take_succ_eq_append_getElem h, List.foldl_append]
  simp [h]

set_option maxHeartbeats 1000000 in
theorem checkSpec (w : World) (a : Option Addr) (len cap B : Nat) (zs : List Int) (hin : In w B a len zs) :
    Calls Try.prog 49 #[.slice a len cap] w fun e w' => e = .returned (.int .i64 (chk zs)) ∧ w' = w := by
  have hl := hin.1
  have hm := hin.2.1
  have hb := hin.2.2.1
  have hx := hin.2.2.2
  clear hin
  go_enter Try.func49, Try.ntmps49
  go_wp2
  go_loopw [3, 4, 5] (fun x y i wr => ∃ k : Nat, k ≤ len ∧ x = .int .i64 (sums (zs.take k)).1 ∧ y = .int .i64 (sums (zs.take k)).2 ∧ i = .int .i64 (k : Int) ∧ wr = w) (fun _ _ i _ => len - (intOf i).toNat)
  case atStart => exact ⟨0, Nat.zero_le _, rfl, rfl, rfl, rfl⟩
  case round =>
    obtain ⟨k, hk, rfl, rfl, rfl, rfl⟩ := hrel
    have hs := sums_bd (zs.take k)
    by_cases hlt : k < len
    · obtain ⟨b, o, rfl, hbg, hcell⟩ := hx (by omega)
      have hz := hcell k hlt
      have hzb := hb k hlt
      have HS := hide (sums_take zs k (by omega))
      clear hcell hb hx
      generalize zs.getD k 0 = z at *
      generalize hp : sums (zs.take k) = p at *
      obtain ⟨x, y⟩ := p
      simp only at hs
      obtain ⟨h1, h2, h3, h4⟩ := hs
      have hm2 : (x + z) % 65521 ≤ 65520 := by omega
      have hm3 : 0 ≤ (x + z) % 65521 := by omega
      clear hp
      simp only
      go_wp2
      refine ⟨⟨k + 1, by omega, ?_, ?_, by go_num, trivial⟩, by simp [intOf]; omega⟩
      · rw [HS.out]; rfl
      · rw [HS.out]; rfl
    · have hkl : k = zs.length := by omega
      have HE : Hid (chk zs = (sums (zs.take k)).2 * 65536 + (sums (zs.take k)).1) := by rw [hkl, List.take_length]; rfl
      clear hb hx
      generalize sums (zs.take k) = p at *
      obtain ⟨x, y⟩ := p
      simp only at hs
      obtain ⟨h1, h2, h3, h4⟩ := hs
      simp only
      go_wp2
      go_ret
      exact ⟨ret_int HE.out.symm, rfl⟩

/-- The two sums as the program holds them. -/
def sumsV (p : Int × Int) : Value := .agg #[.int .i64 p.1, .int .i64 p.2]


theorem load_two {w : World} {g : Nat} {x y : Value} (h : w.heap[g]? = some (.cells #[x, y] 62 (0, 0))) : (loadVar 62 ⟨g, 0, none⟩).run Try.prog w = .ok (.agg #[x, y]) w :=
  run_loadVar_row w g 62 62 #[x, y] (0, 0) _ h Try.underlying62 rfl (by kernel_rfl)

theorem put_two {w wr : World} {x y : Int} (hb : Below w.heap.size w wr) (h0 : wr.heap[w.heap.size]? = some (.cells #[.int .i64 0, .int .i64 0] 62 (0, 0))) (h1 : wr.heap[w.heap.size + 1]? = some (.cells #[.int .i64 x, .int .i64 y] 62 (0, 0))) (x' y' : Int) :
    Below w.heap.size w ((wr.setCell ⟨w.heap.size + 1, 0, none⟩ (.int .i64 x')).setCell ⟨w.heap.size + 1, 1, none⟩ (.int .i64 y')) ∧
    ((wr.setCell ⟨w.heap.size + 1, 0, none⟩ (.int .i64 x')).setCell ⟨w.heap.size + 1, 1, none⟩ (.int .i64 y')).heap[w.heap.size]? = some (.cells #[.int .i64 0, .int .i64 0] 62 (0, 0)) ∧
    ((wr.setCell ⟨w.heap.size + 1, 0, none⟩ (.int .i64 x')).setCell ⟨w.heap.size + 1, 1, none⟩ (.int .i64 y')).heap[w.heap.size + 1]? = some (.cells #[.int .i64 x', .int .i64 y'] 62 (0, 0)) := by
  refine ⟨(hb.setCell (by simp) _).setCell (by simp) _, ?_, ?_⟩
  · rw [heap_setCell_other _ _ _ _ (by simp), heap_setCell_other _ _ _ _ (by simp)]; exact h0
  · have e1 : (wr.setCell ⟨w.heap.size + 1, 0, none⟩ (.int .i64 x')).heap[w.heap.size + 1]? = some (.cells #[.int .i64 x', .int .i64 y] 62 (0, 0)) := heap_setCell_same wr (w.heap.size + 1) 0 _ 62 _ h1
    exact heap_setCell_same _ (w.heap.size + 1) 1 _ 62 _ e1

set_option maxHeartbeats 1000000 in
theorem sumsOf (w : World) (a : Option Addr) (len cap : Nat) (zs : List Int) (hin : In w w.heap.size a len zs) :
    Calls Try.prog 40 #[.slice a len cap] w fun e w' => e = .returned (sumsV (sums zs)) ∧ Below w.heap.size w w' := by
  have hl := hin.1
  have hm := hin.2.1
  have hb := hin.2.2.1
  have HIN := hide hin
  clear hin
  go_enter Try.func40, Try.ntmps40
  go_wp2
  go_loopw [9] (fun i wr => ∃ k : Nat, k ≤ len ∧ i = .int .i64 (k : Int) ∧ Below w.heap.size w wr ∧ wr.heap[w.heap.size]? = some (.cells #[.int .i64 0, .int .i64 0] 62 (0, 0)) ∧ wr.heap[w.heap.size + 1]? = some (.cells #[.int .i64 (sums (zs.take k)).1, .int .i64 (sums (zs.take k)).2] 62 (0, 0))) (fun i _ => len - (intOf i).toNat)
  case atStart =>
    refine ⟨0, Nat.zero_le _, rfl, ((Below.refl _ _).alloc (Nat.le_refl _) _).alloc (by simp) _, ?_, ?_⟩
    · rw [Below.heap_alloc _ _ _ (by simp)]; exact heap_alloc_new w _
    · have := heap_alloc_new (w.alloc (.cells #[.int .i64 0, .int .i64 0] 62)) (.cells #[.int .i64 1, .int .i64 0] 62)
      rw [World.size_alloc] at this
      exact this
  case round =>
    obtain ⟨k, hk, rfl, hbel, hg0, hg1⟩ := hrel
    have hs := sums_bd (zs.take k)
    by_cases hlt : k < len
    · obtain ⟨b, o, rfl, hbg, hcell⟩ := (HIN.out.low hbel (Nat.le_refl _)).2.2.2 (by omega)
      have hz := hcell k hlt
      have hzb := hb k hlt
      have HS := hide (sums_take zs k (by omega))
      clear hcell hb
      generalize zs.getD k 0 = z at *
      generalize hp : sums (zs.take k) = p at *
      obtain ⟨x, y⟩ := p
      simp only at hs hg1
      obtain ⟨h1, h2, h3, h4⟩ := hs
      have hm2 : (x + z) % 65521 ≤ 65520 := by omega
      have hm3 : 0 ≤ (x + z) % 65521 := by omega
      clear hp
      have c0 : wr.cell? ⟨w.heap.size + 1, 0, none⟩ = some (.int .i64 x) := by rw [cell_of_row wr _ 0 _ 62 (0, 0) hg1]; rfl
      have c1 : wr.cell? ⟨w.heap.size + 1, 1, none⟩ = some (.int .i64 y) := by rw [cell_of_row wr _ 1 _ 62 (0, 0) hg1]; rfl
      have f0 : wr.frozen? ⟨w.heap.size + 1, 0, none⟩ = false := frozen_of_row wr _ 0 _ 62 hg1
      have f1 : wr.frozen? ⟨w.heap.size + 1, 1, none⟩ = false := frozen_of_row wr _ 1 _ 62 hg1
      have HB := hide hbel
      have HG0 := hide hg0
      have HG1 := hide hg1
      clear hbel hg0 hg1
      go_wp2
      have hend := put_two HB.out HG0.out HG1.out
      refine ⟨⟨k + 1, by omega, by go_num, (hend _ _).1, (hend _ _).2.1, ?_⟩, by simp [intOf]; omega⟩
      rw [HS.out]
      have e : (sstep (x, y) z).2 = (y + (x + z)) % 65521 := by simp only [sstep]; omega
      rw [e]
      exact (hend _ _).2.2
    · have hkl : k = zs.length := by omega
      have c0 : wr.cell? ⟨w.heap.size + 1, 0, none⟩ = some (.int .i64 (sums (zs.take k)).1) := by rw [cell_of_row wr _ 0 _ 62 (0, 0) hg1]; rfl
      have c1 : wr.cell? ⟨w.heap.size + 1, 1, none⟩ = some (.int .i64 (sums (zs.take k)).2) := by rw [cell_of_row wr _ 1 _ 62 (0, 0) hg1]; rfl
      have f0 : wr.frozen? ⟨w.heap.size, 0, none⟩ = false := frozen_of_row wr _ 0 _ 62 hg0
      have f1 : wr.frozen? ⟨w.heap.size, 1, none⟩ = false := frozen_of_row wr _ 1 _ 62 hg0
      have c2 : wr.cell? ⟨w.heap.size, 0, none⟩ = some (.int .i64 0) := by rw [cell_of_row wr _ 0 _ 62 (0, 0) hg0]; rfl
      have c3 : wr.cell? ⟨w.heap.size, 1, none⟩ = some (.int .i64 0) := by rw [cell_of_row wr _ 1 _ 62 (0, 0) hg0]; rfl
      clear hb
      have HB := hide hbel
      clear hbel
      have HE : Hid (sums zs = sums (zs.take len)) := by show _ = _; rw [← hl, List.take_length]
      go_wp2
      refine bodyPost_ret (v := sumsV (sums (zs.take len))) (results_one Try.results40 _ _ _ rfl (load_two ?_)) rfl ⟨by rw [HE.out], (HB.out.setCell (Nat.le_refl _) _).setCell (Nat.le_refl _) _⟩
      have e1 := heap_setCell_same wr w.heap.size 0 _ 62 (.int .i64 (sums (zs.take len)).1) hg0
      exact heap_setCell_same _ w.heap.size 1 _ 62 _ e1
end Go.Proofs.Ytmlbemcblgnbjaa
