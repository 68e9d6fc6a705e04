/-
  Joined: ArrNo, TurnW, FlMath.
-/
import Derived.Test.YtkfnpijljpbiaaaDoorJ17
import Derived.Test.YtkfnpijljpbiaaaDoorJ25
import Derived.Test.YtkfnpijljpbiaaaDoorKOpenW
import Derived.Test.YtkfnpijljpbiaaaDoorJ10
import Derived.Test.YtkfnpijljpbiaaaDoorJ24
import Derived.Great.BuildSlice
import Derived.Laws.Tables
import Derived.Laws.CopyOwn
import Derived.Test.YtkfnpijljpbiaaaDoorJ16
import Derived.Deep.QuietTactic
import Derived.BigQuiet
import Derived.RegionTactic
import Derived.ChangeAlike
/-
  What Arrive does where nothing is opened: the line is copied as it was.
-/
namespace Go.Proofs.YtkfnpijljpbiaaaDoor
open Go.RowKit

theorem loadLet {w : World} {g : Nat} {a0 a1 a2 a3 a4 a5 a6 a7 a8 a9 : Value} (h : w.heap[g]? = some (.cells #[a0, a1, a2, a3, a4, a5, a6, a7, a8, a9] 52 (0, 0))) : (loadVar 52 ⟨g, 0, none⟩).run Tryd.prog w = .ok (.agg #[a0, a1, a2, a3, a4, a5, a6, a7, a8, a9]) w :=
  run_loadVar_row w g 52 52 #[a0, a1, a2, a3, a4, a5, a6, a7, a8, a9] (0, 0) _ h Tryd.underlying52 rfl (by kernel_rfl)
set_option maxRecDepth 100000 in
set_option maxHeartbeats 4000000 in
theorem letterNo (w : World) (a : Option Addr) (len cap : Nat) (zs : List Int) (hin : In w w.heap.size a len zs) (hcap : len ≤ cap) (hno : opened zs = none) :
    Calls Tryd.prog 25 #[.slice a len cap] w fun e w' => e = .returned (.tuple #[.agg #[.bool false, .int .i64 0, .int .i64 0, .int .i64 0, .int .i64 0, .int .i64 0, .int .i64 0, .int .i64 0, .slice none 0 0, .slice none 0 0], .bool false]) ∧ Below w.heap.size w w' := by
  have HE := hide (heap_alloc_new w (.cells #[.bool false, .int .i64 0, .int .i64 0, .int .i64 0, .int .i64 0, .int .i64 0, .int .i64 0, .int .i64 0, .slice none 0 0, .slice none 0 0] 52))
  have HB := hide ((Below.refl w.heap.size w).alloc (Nat.le_refl _) (.cells #[.bool false, .int .i64 0, .int .i64 0, .int .i64 0, .int .i64 0, .int .i64 0, .int .i64 0, .int .i64 0, .slice none 0 0, .slice none 0 0] 52))
  have HI := hide (hin.at HB.out)
  have hi : ((Tryd.prog.info? 52).map (·.size)) = some 10 := by kernel_rfl
  clear hin
  go_enter Tryd.func25, Tryd.ntmps25
  go_wp2_with fail
  refine (openImpl _ _ _ _ _ HI.out hcap).mono ?_
  rintro e w1 ⟨hA, b1⟩
  rw [hno] at hA
  obtain ⟨v, rfl, _⟩ := hA
  have H1 := hide ((b1.block w.heap.size (by simp)).trans HE.out)
  replace HB := hide (HB.out.trans (b1.mono HB.out.size))
  clear b1 HI HE
  generalize w.alloc (.cells #[.bool false, .int .i64 0, .int .i64 0, .int .i64 0, .int .i64 0, .int .i64 0, .int .i64 0, .int .i64 0, .slice none 0 0, .slice none 0 0] 52) = W0 at *
  go_wp2_with (refine wpList_store_rowTo rfl 52 (.tmp 2) (.tmp 15) rfl rfl w.heap.size #[.bool false, .int .i64 0, .int .i64 0, .int .i64 0, .int .i64 0, .int .i64 0, .int .i64 0, .int .i64 0, .slice none 0 0, .slice none 0 0] rfl rfl _ _ H1.out hi rfl (by simp [Value.oneCell']) ?_)
  exact bodyPost_ret (v := .tuple #[.agg #[.bool false, .int .i64 0, .int .i64 0, .int .i64 0, .int .i64 0, .int .i64 0, .int .i64 0, .int .i64 0, .slice none 0 0, .slice none 0 0], .bool false]) (results_ct Tryd.results25 _ _ _ rfl (loadLet (setRow_heap _ _ _ _ _ _ H1.out))) rfl ⟨rfl, below_setRow HB.out (Nat.le_refl _) _⟩
theorem put10 {w : World} {g : Nat} {a0 a1 a2 m0 m1 m2 m3 m4 m5 m6 : Value} (h1 : w.heap[g]? = some (.cells #[a0, a1, a2] 28 (0, 0))) (h2 : w.heap[g + 1]? = some (.cells #[m0, m1, m2, m3, m4, m5, m6] 39 (0, 0))) (b0 b1 b2 c0 c1 c2 c3 c4 c5 c6 : Value) :
    let W := (((((((((w.setCell ⟨g, 0, none⟩ b0).setCell ⟨g, 1, none⟩ b1).setCell ⟨g, 2, none⟩ b2).setCell ⟨g + 1, 0, none⟩ c0).setCell ⟨g + 1, 1, none⟩ c1).setCell ⟨g + 1, 2, none⟩ c2).setCell ⟨g + 1, 3, none⟩ c3).setCell ⟨g + 1, 4, none⟩ c4).setCell ⟨g + 1, 5, none⟩ c5).setCell ⟨g + 1, 6, none⟩ c6
    W.heap[g]? = some (.cells #[b0, b1, b2] 28 (0, 0)) ∧ W.heap[g + 1]? = some (.cells #[c0, c1, c2, c3, c4, c5, c6] 39 (0, 0)) ∧ (∀ q, q ≠ g → q ≠ g + 1 → W.heap[q]? = w.heap[q]?) ∧ W.heap.size = w.heap.size := by
  have p0 := put3 h1 b0 b1 b2
  have oth : ∀ q, q ≠ g → (((w.setCell ⟨g, 0, none⟩ b0).setCell ⟨g, 1, none⟩ b1).setCell ⟨g, 2, none⟩ b2).heap[q]? = w.heap[q]? := fun q hq => by
    rw [heap_setCell_other _ _ _ _ hq, heap_setCell_other _ _ _ _ hq, heap_setCell_other _ _ _ _ hq]
  have p1 := (oth (g + 1) (by omega)).trans h2
  have hs : (((w.setCell ⟨g, 0, none⟩ b0).setCell ⟨g, 1, none⟩ b1).setCell ⟨g, 2, none⟩ b2).heap.size = w.heap.size := by simp
  generalize ((w.setCell ⟨g, 0, none⟩ b0).setCell ⟨g, 1, none⟩ b1).setCell ⟨g, 2, none⟩ b2 = V at p0 p1 oth hs
  have q1 := put7 p1 c0 c1 c2 c3 c4 c5 c6
  have oth2 : ∀ q, q ≠ g + 1 → (((((((V.setCell ⟨g + 1, 0, none⟩ c0).setCell ⟨g + 1, 1, none⟩ c1).setCell ⟨g + 1, 2, none⟩ c2).setCell ⟨g + 1, 3, none⟩ c3).setCell ⟨g + 1, 4, none⟩ c4).setCell ⟨g + 1, 5, none⟩ c5).setCell ⟨g + 1, 6, none⟩ c6).heap[q]? = V.heap[q]? := fun q hq => by
    rw [heap_setCell_other _ _ _ _ hq, heap_setCell_other _ _ _ _ hq, heap_setCell_other _ _ _ _ hq, heap_setCell_other _ _ _ _ hq, heap_setCell_other _ _ _ _ hq, heap_setCell_other _ _ _ _ hq, heap_setCell_other _ _ _ _ hq]
  exact ⟨(oth2 g (by omega)).trans p0, q1, fun q h h' => (oth2 q h').trans (oth q h), by simpa using hs⟩
set_option maxRecDepth 100000 in
set_option maxHeartbeats 4000000 in
theorem arriveNo (w : World) (base got : Int) (v : Value) (ms : List Ms) (h : RdS w w.heap.size v ms) (hm : ms.length ≤ 2000000) (hgd : GoodS ms) (a : Option Addr) (len cap : Nat) (zs : List Int) (hin : In w w.heap.size a len zs) (hcap : len ≤ cap) (hno : opened zs = none) :
    Calls Tryd.prog 10 #[lnV base got v, .slice a len cap] w fun e w' => ∃ v', e = .returned (.tuple #[lnV base got v', .agg #[.int .i64 0, .int .i64 0, .int .i64 0, .int .i64 0, .int .i64 0, .slice none 0 0, .slice none 0 0], .bool false]) ∧ OwnS w' w.heap.size w'.heap.size v' ms ∧ Below w.heap.size w w' := by
  have HR := hide h
  obtain ⟨a0, cap0, rfl, _⟩ := ms_at h
  clear h
  unfold lnV
  have b1 := (Below.refl w.heap.size w).alloc (Nat.le_refl _) (.cells #[.int .i64 base, .slice a0 ms.length cap0, .int .i64 got] 28)
  have b2 := b1.alloc b1.size (.cells #[.int .i64 0, .slice none 0 0, .int .i64 0] 28)
  have b3 := b2.alloc b2.size (.cells #[.int .i64 0, .int .i64 0, .int .i64 0, .int .i64 0, .int .i64 0, .slice none 0 0, .slice none 0 0] 39)
  have HE0 := hide ((Below.heap_alloc ((w.alloc (.cells #[.int .i64 base, .slice a0 ms.length cap0, .int .i64 got] 28)).alloc (.cells #[.int .i64 0, .slice none 0 0, .int .i64 0] 28)) (.cells #[.int .i64 0, .int .i64 0, .int .i64 0, .int .i64 0, .int .i64 0, .slice none 0 0, .slice none 0 0] 39) w.heap.size (by simp; omega)).trans ((Below.heap_alloc (w.alloc (.cells #[.int .i64 base, .slice a0 ms.length cap0, .int .i64 got] 28)) (.cells #[.int .i64 0, .slice none 0 0, .int .i64 0] 28) w.heap.size (by simp)).trans (heap_alloc_new w (.cells #[.int .i64 base, .slice a0 ms.length cap0, .int .i64 got] 28))))
  have HE1 := hide ((Below.heap_alloc ((w.alloc (.cells #[.int .i64 base, .slice a0 ms.length cap0, .int .i64 got] 28)).alloc (.cells #[.int .i64 0, .slice none 0 0, .int .i64 0] 28)) (.cells #[.int .i64 0, .int .i64 0, .int .i64 0, .int .i64 0, .int .i64 0, .slice none 0 0, .slice none 0 0] 39) (w.heap.size + 1) (by simp)).trans (by have := heap_alloc_new (w.alloc (.cells #[.int .i64 base, .slice a0 ms.length cap0, .int .i64 got] 28)) (.cells #[.int .i64 0, .slice none 0 0, .int .i64 0] 28); simp only [World.size_alloc] at this; exact this))
  have HE2 := hide (heap_alloc_new ((w.alloc (.cells #[.int .i64 base, .slice a0 ms.length cap0, .int .i64 got] 28)).alloc (.cells #[.int .i64 0, .slice none 0 0, .int .i64 0] 28)) (.cells #[.int .i64 0, .int .i64 0, .int .i64 0, .int .i64 0, .int .i64 0, .slice none 0 0, .slice none 0 0] 39))
  simp only [World.size_alloc] at HE2
  have HB := hide b3
  have HI := hide (hin.at HB.out)
  have hs0 : (((w.alloc (.cells #[.int .i64 base, .slice a0 ms.length cap0, .int .i64 got] 28)).alloc (.cells #[.int .i64 0, .slice none 0 0, .int .i64 0] 28)).alloc (.cells #[.int .i64 0, .int .i64 0, .int .i64 0, .int .i64 0, .int .i64 0, .slice none 0 0, .slice none 0 0] 39)).heap.size = w.heap.size + 1 + 1 + 1 := by simp
  clear hin b1 b2 b3
  go_enter Tryd.func10, Tryd.ntmps10
  go_wp2_with fail
  generalize ((w.alloc (.cells #[.int .i64 base, .slice a0 ms.length cap0, .int .i64 got] 28)).alloc (.cells #[.int .i64 0, .slice none 0 0, .int .i64 0] 28)).alloc (.cells #[.int .i64 0, .int .i64 0, .int .i64 0, .int .i64 0, .int .i64 0, .slice none 0 0, .slice none 0 0] 39) = W0 at *
  refine (letterNo _ _ _ _ _ HI.out hcap hno).mono ?_
  rintro e w1 ⟨rfl, b1⟩
  have bA := b1.alloc b1.size (.cells #[.bool false, .int .i64 0, .int .i64 0, .int .i64 0, .int .i64 0, .int .i64 0, .int .i64 0, .int .i64 0, .slice none 0 0, .slice none 0 0] 52)
  have HW1 := hide (HB.out.trans (bA.mono HB.out.size))
  have F0 := (bA.block w.heap.size (by omega)).trans HE0.out
  have F1 := (bA.block (w.heap.size + 1) (by omega)).trans HE1.out
  have F2 := (bA.block (w.heap.size + 1 + 1) (by omega)).trans HE2.out
  have hs1 : w.heap.size + 1 + 1 + 1 ≤ (w1.alloc (.cells #[.bool false, .int .i64 0, .int .i64 0, .int .i64 0, .int .i64 0, .int .i64 0, .int .i64 0, .int .i64 0, .slice none 0 0, .slice none 0 0] 52)).heap.size := by have := bA.size; omega
  have H0 := hide F0
  have H1 := hide F1
  have H2 := hide F2
  clear bA b1 F0 F1 F2 HE0 HE1 HE2 HI HB hs0
  go_upto_region 3 with fail
  generalize w1.alloc (.cells #[.bool false, .int .i64 0, .int .i64 0, .int .i64 0, .int .i64 0, .int .i64 0, .int .i64 0, .int .i64 0, .slice none 0 0, .slice none 0 0] 52) = W1 at *
  have HS0 := hide ((HR.out.at HW1.out).drewN 1)
  have HS : Hid (∀ w', Below W1.heap.size W1 w' → w'.cell? ⟨w.heap.size, 0, none⟩ = some (.int .i64 base) ∧ w'.cell? ⟨w.heap.size, 1, none⟩ = some (.slice a0 ms.length cap0) ∧ w'.cell? ⟨w.heap.size, 2, none⟩ = some (.int .i64 got)) := hide (fun w' hw => have e := box_of ((hw.block w.heap.size (by omega)).trans H0.out); ⟨e.1 0 _ rfl, e.1 1 _ rfl, e.1 2 _ rfl⟩)
  have HD0 : Hid (Below W1.heap.size W1 W1.drew) := hide (Below.refl W1.heap.size W1).drew
  obtain ⟨c0, c1, c2⟩ := HS.out _ HD0.out
  go_region_law
    (first
      | (refine step_callW (some 19) rfl (by kernel_rfl) 26 _ _ rfl #[sndV base (.slice a0 ms.length cap0)] (by kernel_rfl) (copySndI _ base _ ms HS0.out hm hgd) ?_; rintro e w2 ⟨v2, rfl, o2, b2⟩; refine ⟨_, rfl, ?_⟩; obtain ⟨a2, c2', rfl⟩ := o2.shape; have HB2 := hide (HD0.out.trans (b2.mono HD0.out.size)); have HO2 := hide o2; clear b2 o2; obtain ⟨c0', c1', c2''⟩ := HS.out _ HB2.out;
          have G1 := (HB2.out.block (w.heap.size + 1) (by omega)).trans H1.out; have G2 := (HB2.out.block (w.heap.size + 1 + 1) (by omega)).trans H2.out; have r0 := (box_of G1).1 0 _ rfl; have r1 := (box_of G1).1 1 _ rfl; have r2 := (box_of G1).1 2 _ rfl; have rz := (box_of G1).2; have m0 := (box_of G2).1 0 _ rfl; have m1 := (box_of G2).1 1 _ rfl; have m2 := (box_of G2).1 2 _ rfl; have m3 := (box_of G2).1 3 _ rfl; have m4 := (box_of G2).1 4 _ rfl; have m5 := (box_of G2).1 5 _ rfl; have m6 := (box_of G2).1 6 _ rfl; have mz := (box_of G2).2; have HG1 := hide G1; have HG2 := hide G2; clear G1 G2; unfold sndV)
      | fail)
  all_goals (
    have P := put10 HG1.out HG2.out (.int .i64 base) (.slice a2 ms.length c2') (.int .i64 got) (.int .i64 0) (.int .i64 0) (.int .i64 0) (.int .i64 0) (.int .i64 0) (.slice none 0 0) (.slice none 0 0)
    dsimp only at P
    have HBF := hide ((HW1.out.trans (HB2.out.mono HW1.out.size)))
    have HBG := hide ((((((((((HBF.out.setCell (p := ⟨w.heap.size + 1, 0, none⟩) (by simp) (.int .i64 base)).setCell (p := ⟨w.heap.size + 1, 1, none⟩) (by simp) (.slice a2 ms.length c2')).setCell (p := ⟨w.heap.size + 1, 2, none⟩) (by simp) (.int .i64 got)).setCell (p := ⟨w.heap.size + 1 + 1, 0, none⟩) (by simp; omega) (.int .i64 0)).setCell (p := ⟨w.heap.size + 1 + 1, 1, none⟩) (by simp; omega) (.int .i64 0)).setCell (p := ⟨w.heap.size + 1 + 1, 2, none⟩) (by simp; omega) (.int .i64 0)).setCell (p := ⟨w.heap.size + 1 + 1, 3, none⟩) (by simp; omega) (.int .i64 0)).setCell (p := ⟨w.heap.size + 1 + 1, 4, none⟩) (by simp; omega) (.int .i64 0)).setCell (p := ⟨w.heap.size + 1 + 1, 5, none⟩) (by simp; omega) (.slice none 0 0)).setCell (p := ⟨w.heap.size + 1 + 1, 6, none⟩) (by simp; omega) (.slice none 0 0))
    have HOF := hide (((HO2.out.same (fun q hq _ _ => P.2.2.1 q (show q ≠ w.heap.size + 1 by have : W1.heap.size ≤ q := hq; omega) (show q ≠ w.heap.size + 1 + 1 by have : W1.heap.size ≤ q := hq; omega))).mono (show w.heap.size ≤ W1.drew.heap.size from HW1.out.size)).up (Nat.le_of_eq P.2.2.2.symm))
    have HP1 := hide P.1
    have HP2 := hide P.2.1
    clear P r0 r1 r2 rz m0 m1 m2 m3 m4 m5 m6 mz
    generalize hWE : ((((((((((w2.setCell ⟨w.heap.size + 1, 0, none⟩ (.int .i64 base)).setCell ⟨w.heap.size + 1, 1, none⟩ (.slice a2 ms.length c2')).setCell ⟨w.heap.size + 1, 2, none⟩ (.int .i64 got)).setCell ⟨w.heap.size + 1 + 1, 0, none⟩ (.int .i64 0)).setCell ⟨w.heap.size + 1 + 1, 1, none⟩ (.int .i64 0)).setCell ⟨w.heap.size + 1 + 1, 2, none⟩ (.int .i64 0)).setCell ⟨w.heap.size + 1 + 1, 3, none⟩ (.int .i64 0)).setCell ⟨w.heap.size + 1 + 1, 4, none⟩ (.int .i64 0)).setCell ⟨w.heap.size + 1 + 1, 5, none⟩ (.slice none 0 0)).setCell ⟨w.heap.size + 1 + 1, 6, none⟩ (.slice none 0 0)) = WE at *
    go_wp2
    exact bodyPost_ret (v := .tuple #[.agg #[.int .i64 base, .slice a2 ms.length c2', .int .i64 got], .agg #[.int .i64 0, .int .i64 0, .int .i64 0, .int .i64 0, .int .i64 0, .slice none 0 0, .slice none 0 0], .bool false]) (results_cct Tryd.results10 _ _ _ rfl rfl (loadL HP1.out) (load7 HP2.out)) rfl ⟨_, rfl, HOF.out, HBG.out⟩)
end Go.Proofs.YtkfnpijljpbiaaaDoor
/-
  What Turn and its model do: the bytes, one bit the other way round, in new memory.
-/
namespace Go.Proofs.YtkfnpijljpbiaaaDoor
open Go.RowKit

/-- One bit of a byte the other way round. -/
def fl (z : Int) (k : Nat) : Int := bits .xor .u8 z (2 ^ k % 256)
/-- One bit of the bytes the other way round. -/
def turned (zs : List Int) (bit : Int) : List Int := if 0 ≤ bit ∧ bit / 8 < zs.length then zs.set (bit / 8).toNat (fl (zs.getD (bit / 8).toNat 0) (bit % 8).toNat) else zs

theorem turned_out (zs : List Int) (bit : Int) (h : bit < 0 ∨ (zs.length : Int) ≤ bit / 8) : turned zs bit = zs := by
  unfold turned; rw [if_neg (by omega)]
theorem turned_in (zs : List Int) (n : Nat) (h : n / 8 < zs.length) : turned zs (n : Int) = zs.set (n / 8) (fl (zs.getD (n / 8) 0) (n % 8)) := by
  have e1 : ((n : Int) / 8).toNat = n / 8 := by omega
  have e2 : ((n : Int) % 8).toNat = n % 8 := by omega
  unfold turned; rw [if_pos (by omega), e1, e2]

theorem Own.put {w : World} {b g c : Nat} {zs : List Int} (h : Own w b (.slice (some ⟨g, 0, none⟩) zs.length c) zs) (j : Nat) (z : Int) :
    Own (w.setCell ⟨g, j, none⟩ (.int .u8 z)) b (.slice (some ⟨g, 0, none⟩) zs.length c) (zs.set j z) ∧ w.grownBy (w.setCell ⟨g, j, none⟩ (.int .u8 z)) (some g) := by
  have HS := World.ownsRow.stored h j (.int .u8 z)
  refine ⟨?_, HS.2⟩
  unfold Own
  rw [List.length_set, List.map_set]
  exact HS.1

set_option maxRecDepth 100000 in
set_option maxHeartbeats 1000000 in
theorem turnImplOut (w : World) (a : Option Addr) (len cap : Nat) (zs : List Int) (bit : Int) (hin : In w w.heap.size a len zs) (hc : a = none → cap = 0) (hi : -9223372036854775808 ≤ bit ∧ bit ≤ 9223372036854775807)
    (hb : bit < 0 ∨ (zs.length : Int) ≤ bit / 8) :
    Calls Tryd.prog 15 #[.slice a len cap, .int .i64 bit] w fun e w' => ∃ v, e = .returned v ∧ Own w' w.heap.size v zs ∧ Below w.heap.size w w' := by
  obtain rfl := hin.1
  have hm := hin.2.1
  go_enter Tryd.func15, Tryd.ntmps15
  go_wp2_with fail
  refine (cloneB _ _ _ _ _ hin hc).mono ?_
  rintro e w1 ⟨v1, rfl, o1, b1, _⟩
  have HB := hide b1
  clear b1 hin
  obtain ⟨a1, c1, rfl⟩ := own_shape o1
  have HO := hide o1
  clear o1
  by_cases hn : bit < 0
  · clear hb
    go_wp2
    go_ret
    exact ⟨_, rfl, HO.out, HB.out⟩
  · have hb' : (zs.length : Int) ≤ bit / 8 := by omega
    have hn' : 0 ≤ bit := by omega
    clear hb hn
    go_wp2
    go_ret
    exact ⟨_, rfl, HO.out, HB.out⟩

set_option maxRecDepth 100000 in
set_option maxHeartbeats 1000000 in
theorem turnImplIn (w : World) (a : Option Addr) (len cap : Nat) (zs : List Int) (n : Nat) (hin : In w w.heap.size a len zs) (hc : a = none → cap = 0) (hi : (n : Int) ≤ 9223372036854775807)
    (hlt : n / 8 < zs.length) :
    Calls Tryd.prog 15 #[.slice a len cap, .int .i64 (n : Int)] w fun e w' => ∃ v, e = .returned v ∧ Own w' w.heap.size v (zs.set (n / 8) (fl (zs.getD (n / 8) 0) (n % 8))) ∧ Below w.heap.size w w' := by
  obtain rfl := hin.1
  have hm := hin.2.1
  have hb := hin.2.2.1 (n / 8) (by omega)
  go_enter Tryd.func15, Tryd.ntmps15
  go_wp2_with fail
  refine (cloneB _ _ _ _ _ hin hc).mono ?_
  rintro e w1 ⟨v1, rfl, o1, b1, _⟩
  have HB := hide b1
  clear b1 hin
  rcases o1.form with ⟨h0, _⟩ | ⟨hp, g, c1, rfl, hbg, hgs, hcell, hfr⟩
  · rw [h0] at hlt; simp at hlt
  have hc0 := hcell (n / 8) hlt
  have hf0 := hfr (n / 8)
  have hlt' : (n : Int) / 8 < (zs.length : Int) := by omega
  have hn0 : (0 : Int) ≤ (n : Int) / 8 := by omega
  have HO := hide o1
  clear o1 hcell hfr
  generalize hz : zs.getD (n / 8) 0 = z at *
  have HZ := hide hz
  clear hz
  go_wp2
  go_region
  have hend := HO.out.put (n / 8) (bits .xor .u8 z (2 ^ (n % 8) % 256))
  have HO' := hide hend.1
  have HB' := hide ((HB.out.grown hend.2 HB.out.size (fun q hq => by cases hq; exact hbg)))
  clear hend HO HB
  go_wp2
  go_ret
  refine ⟨_, rfl, ?_, below_drewN HB'.out 1⟩
  rw [HZ.out]
  exact HO'.out.drewN 1

theorem turnImpl (w : World) (a : Option Addr) (len cap : Nat) (zs : List Int) (bit : Int) (hin : In w w.heap.size a len zs) (hc : a = none → cap = 0) (hi : -9223372036854775808 ≤ bit ∧ bit ≤ 9223372036854775807) :
    Calls Tryd.prog 15 #[.slice a len cap, .int .i64 bit] w fun e w' => ∃ v, e = .returned v ∧ Own w' w.heap.size v (turned zs bit) ∧ Below w.heap.size w w' := by
  by_cases hb : bit < 0 ∨ (zs.length : Int) ≤ bit / 8
  · rw [turned_out _ _ hb]
    exact turnImplOut w a len cap zs bit hin hc hi hb
  · obtain ⟨n, rfl⟩ : ∃ n : Nat, bit = (n : Int) := Int.eq_ofNat_of_zero_le (by omega)
    rw [turned_in _ _ (by omega)]
    exact turnImplIn w a len cap zs n hin hc hi.2 (by omega)
end Go.Proofs.YtkfnpijljpbiaaaDoor
/-
  Bytes with one bit the other way round: still bytes, as many, and others.
-/
namespace Go.Proofs.YtkfnpijljpbiaaaDoor
open Go.RowKit

theorem fl_all : ∀ (z : Fin 256) (k : Fin 8), (fl (z.val : Int) k.val ≠ (z.val : Int)) ∧ 0 ≤ fl (z.val : Int) k.val ∧ fl (z.val : Int) k.val ≤ 255 ∧ fl (fl (z.val : Int) k.val) k.val = (z.val : Int) := by decide +kernel

theorem fl_of (z : Int) (k : Nat) (h0 : 0 ≤ z) (h1 : z ≤ 255) (hk : k < 8) : fl z k ≠ z ∧ 0 ≤ fl z k ∧ fl z k ≤ 255 ∧ fl (fl z k) k = z := by
  obtain ⟨n, rfl⟩ := Int.eq_ofNat_of_zero_le h0
  exact fl_all ⟨n, by omega⟩ ⟨k, hk⟩

theorem turned_len (zs : List Int) (bit : Int) : (turned zs bit).length = zs.length := by
  unfold turned
  split
  · simp
  · rfl
theorem turned_byt (zs : List Int) (bit : Int) (h : Byt zs) : Byt (turned zs bit) := by
  unfold turned
  split
  · rename_i hb
    intro z hz
    rcases List.mem_or_eq_of_mem_set hz with hz | rfl
    · exact h z hz
    · have := h.at (bit / 8).toNat (by omega)
      exact ⟨(fl_of _ _ this.1 this.2 (by omega)).2.1, (fl_of _ _ this.1 this.2 (by omega)).2.2.1⟩
  · exact h
theorem turned_ne (zs : List Int) (bit : Int) (h : Byt zs) (h0 : 0 ≤ bit) (h1 : bit / 8 < zs.length) : turned zs bit ≠ zs := by
  unfold turned
  rw [if_pos ⟨h0, h1⟩]
  intro e
  have hj : (bit / 8).toNat < zs.length := by omega
  have hb := h.at (bit / 8).toNat hj
  have := congrArg (fun l => l.getD (bit / 8).toNat 0) e
  simp only [List.getD_eq_getElem?_getD, List.getElem?_set_self hj, Option.getD_some] at this
  rw [← List.getD_eq_getElem?_getD] at this
  exact (fl_of _ _ hb.1 hb.2 (by omega)).1 this
end Go.Proofs.YtkfnpijljpbiaaaDoor
