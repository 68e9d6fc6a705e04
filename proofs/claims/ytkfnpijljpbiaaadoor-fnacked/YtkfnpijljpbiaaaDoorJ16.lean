/-
  Joined: SumW, CloneW, SealW.
-/
import Derived.Test.YtkfnpijljpbiaaaDoorJ1
import Derived.Test.YtkfnpijljpbiaaaDoorJ4
import Derived.Deep.QuietTactic
import Derived.BigQuiet
import Derived.Deep.WholeRow
import Derived.Lib.LazyBuf
import Derived.Test.YtkfnpijljpbiaaaDoorJ6
/-
  What the sums of bytes are, and what Check, sumsOf and their model do.
-/
namespace Go.Proofs.YtkfnpijljpbiaaaDoor
open Go.RowKit

def sstep (p : Int × Int) (z : Int) : Int × Int := ((p.1 + z) % 65521, (p.2 + (p.1 + z) % 65521) % 65521)
/-- Both sums of the bytes. -/
def sums (zs : List Int) : Int × Int := zs.foldl sstep (1, 0)
def chk (zs : List Int) : Int := (sums zs).2 * 65536 + (sums zs).1

theorem sums_bd (zs : List Int) : 0 ≤ (sums zs).1 ∧ (sums zs).1 ≤ 65520 ∧ 0 ≤ (sums zs).2 ∧ (sums zs).2 ≤ 65520 := by
  unfold sums
  suffices ∀ (p : Int × Int), 0 ≤ p.1 ∧ p.1 ≤ 65520 ∧ 0 ≤ p.2 ∧ p.2 ≤ 65520 → let q := zs.foldl sstep p; 0 ≤ q.1 ∧ q.1 ≤ 65520 ∧ 0 ≤ q.2 ∧ q.2 ≤ 65520 from this (1, 0) (by decide)
  induction zs with
  | nil => intro p h; exact h
  | cons z zs ih => intro p h; exact ih (sstep p z) (by simp only [sstep]; omega)

theorem sums_take (zs : List Int) (k : Nat) (h : k < zs.length) : sums (zs.take (k + 1)) = sstep (sums (zs.take k)) (zs.getD k 0) := by
  unfold sums
  rw [List.take_succ_eq_append_getElem h, List.foldl_append]
  simp [h]

set_option maxRecDepth 100000 in
set_option maxHeartbeats 1000000 in
theorem checkSpec (w : World) (a : Option Addr) (len cap B : Nat) (zs : List Int) (hin : In w B a len zs) :
    Calls Tryd.prog 62 #[.slice a len cap] w fun e w' => e = .returned (.int .i64 (chk zs)) ∧ w' = w := by
  have hl := hin.1
  have hm := hin.2.1
  have hb := hin.2.2.1
  have hx := hin.2.2.2
  clear hin
  go_enter Tryd.func62, Tryd.ntmps62
  go_wp2
  go_loopw [3, 4, 5] (fun x y i wr => ∃ k : Nat, k ≤ len ∧ x = .int .i64 (sums (zs.take k)).1 ∧ y = .int .i64 (sums (zs.take k)).2 ∧ i = .int .i64 (k : Int) ∧ wr = w) (fun _ _ i _ => len - (intOf i).toNat)
  case atStart => exact ⟨0, Nat.zero_le _, rfl, rfl, rfl, rfl⟩
  case round =>
    obtain ⟨k, hk, rfl, rfl, rfl, rfl⟩ := hrel
    have hs := sums_bd (zs.take k)
    by_cases hlt : k < len
    · obtain ⟨b, o, rfl, hbg, hcell⟩ := hx (by omega)
      have hz := hcell k hlt
      have hzb := hb k hlt
      have HS := hide (sums_take zs k (by omega))
      clear hcell hb hx
      generalize zs.getD k 0 = z at *
      generalize hp : sums (zs.take k) = p at *
      obtain ⟨x, y⟩ := p
      simp only at hs
      obtain ⟨h1, h2, h3, h4⟩ := hs
      have hm2 : (x + z) % 65521 ≤ 65520 := by omega
      have hm3 : 0 ≤ (x + z) % 65521 := by omega
      clear hp
      simp only
      go_wp2
      refine ⟨⟨k + 1, by omega, ?_, ?_, by go_num, trivial⟩, by simp [intOf]; omega⟩
      · rw [HS.out]; rfl
      · rw [HS.out]; rfl
    · have hkl : k = zs.length := by omega
      have HE : Hid (chk zs = (sums (zs.take k)).2 * 65536 + (sums (zs.take k)).1) := by rw [hkl, List.take_length]; rfl
      clear hb hx
      generalize sums (zs.take k) = p at *
      obtain ⟨x, y⟩ := p
      simp only at hs
      obtain ⟨h1, h2, h3, h4⟩ := hs
      simp only
      go_wp2
      go_ret
      exact ⟨ret_int HE.out.symm, rfl⟩

/-- The two sums as the program holds them. -/
def sumsV (p : Int × Int) : Value := .agg #[.int .i64 p.1, .int .i64 p.2]


theorem load_two {w : World} {g : Nat} {x y : Value} (h : w.heap[g]? = some (.cells #[x, y] 98 (0, 0))) : (loadVar 98 ⟨g, 0, none⟩).run Tryd.prog w = .ok (.agg #[x, y]) w :=
  run_loadVar_row w g 98 98 #[x, y] (0, 0) _ h Tryd.underlying98 rfl (by kernel_rfl)

theorem put_two {w wr : World} {x y : Int} (hb : Below w.heap.size w wr) (h0 : wr.heap[w.heap.size]? = some (.cells #[.int .i64 0, .int .i64 0] 98 (0, 0))) (h1 : wr.heap[w.heap.size + 1]? = some (.cells #[.int .i64 x, .int .i64 y] 98 (0, 0))) (x' y' : Int) :
    Below w.heap.size w ((wr.setCell ⟨w.heap.size + 1, 0, none⟩ (.int .i64 x')).setCell ⟨w.heap.size + 1, 1, none⟩ (.int .i64 y')) ∧
    ((wr.setCell ⟨w.heap.size + 1, 0, none⟩ (.int .i64 x')).setCell ⟨w.heap.size + 1, 1, none⟩ (.int .i64 y')).heap[w.heap.size]? = some (.cells #[.int .i64 0, .int .i64 0] 98 (0, 0)) ∧
    ((wr.setCell ⟨w.heap.size + 1, 0, none⟩ (.int .i64 x')).setCell ⟨w.heap.size + 1, 1, none⟩ (.int .i64 y')).heap[w.heap.size + 1]? = some (.cells #[.int .i64 x', .int .i64 y'] 98 (0, 0)) := by
  refine ⟨(hb.setCell (by simp) _).setCell (by simp) _, ?_, ?_⟩
  · rw [heap_setCell_other _ _ _ _ (by simp), heap_setCell_other _ _ _ _ (by simp)]; exact h0
  · have e1 : (wr.setCell ⟨w.heap.size + 1, 0, none⟩ (.int .i64 x')).heap[w.heap.size + 1]? = some (.cells #[.int .i64 x', .int .i64 y] 98 (0, 0)) := heap_setCell_same wr (w.heap.size + 1) 0 _ 98 _ h1
    exact heap_setCell_same _ (w.heap.size + 1) 1 _ 98 _ e1

set_option maxRecDepth 100000 in
set_option maxHeartbeats 1000000 in
theorem sumsOf (w : World) (a : Option Addr) (len cap : Nat) (zs : List Int) (hin : In w w.heap.size a len zs) :
    Calls Tryd.prog 60 #[.slice a len cap] w fun e w' => e = .returned (sumsV (sums zs)) ∧ Below w.heap.size w w' := by
  have hl := hin.1
  have hm := hin.2.1
  have hb := hin.2.2.1
  have HIN := hide hin
  clear hin
  go_enter Tryd.func60, Tryd.ntmps60
  go_wp2
  go_loopw [9] (fun i wr => ∃ k : Nat, k ≤ len ∧ i = .int .i64 (k : Int) ∧ Below w.heap.size w wr ∧ wr.heap[w.heap.size]? = some (.cells #[.int .i64 0, .int .i64 0] 98 (0, 0)) ∧ wr.heap[w.heap.size + 1]? = some (.cells #[.int .i64 (sums (zs.take k)).1, .int .i64 (sums (zs.take k)).2] 98 (0, 0))) (fun i _ => len - (intOf i).toNat)
  case atStart =>
    refine ⟨0, Nat.zero_le _, rfl, ((Below.refl _ _).alloc (Nat.le_refl _) _).alloc (by simp) _, ?_, ?_⟩
    · rw [Below.heap_alloc _ _ _ (by simp)]; exact heap_alloc_new w _
    · have := heap_alloc_new (w.alloc (.cells #[.int .i64 0, .int .i64 0] 98)) (.cells #[.int .i64 1, .int .i64 0] 98)
      rw [World.size_alloc] at this
      exact this
  case round =>
    obtain ⟨k, hk, rfl, hbel, hg0, hg1⟩ := hrel
    have hs := sums_bd (zs.take k)
    by_cases hlt : k < len
    · obtain ⟨b, o, rfl, hbg, hcell⟩ := (HIN.out.low hbel (Nat.le_refl _)).2.2.2 (by omega)
      have hz := hcell k hlt
      have hzb := hb k hlt
      have HS := hide (sums_take zs k (by omega))
      clear hcell hb
      generalize zs.getD k 0 = z at *
      generalize hp : sums (zs.take k) = p at *
      obtain ⟨x, y⟩ := p
      simp only at hs hg1
      obtain ⟨h1, h2, h3, h4⟩ := hs
      have hm2 : (x + z) % 65521 ≤ 65520 := by omega
      have hm3 : 0 ≤ (x + z) % 65521 := by omega
      clear hp
      have c0 : wr.cell? ⟨w.heap.size + 1, 0, none⟩ = some (.int .i64 x) := by rw [cell_of_row wr _ 0 _ 98 (0, 0) hg1]; rfl
      have c1 : wr.cell? ⟨w.heap.size + 1, 1, none⟩ = some (.int .i64 y) := by rw [cell_of_row wr _ 1 _ 98 (0, 0) hg1]; rfl
      have f0 : wr.frozen? ⟨w.heap.size + 1, 0, none⟩ = false := frozen_of_row wr _ 0 _ 98 hg1
      have f1 : wr.frozen? ⟨w.heap.size + 1, 1, none⟩ = false := frozen_of_row wr _ 1 _ 98 hg1
      have HB := hide hbel
      have HG0 := hide hg0
      have HG1 := hide hg1
      clear hbel hg0 hg1
      go_wp2
      have hend := put_two HB.out HG0.out HG1.out
      refine ⟨⟨k + 1, by omega, by go_num, (hend _ _).1, (hend _ _).2.1, ?_⟩, by simp [intOf]; omega⟩
      rw [HS.out]
      have e : (sstep (x, y) z).2 = (y + (x + z)) % 65521 := by simp only [sstep]; omega
      rw [e]
      exact (hend _ _).2.2
    · have hkl : k = zs.length := by omega
      have c0 : wr.cell? ⟨w.heap.size + 1, 0, none⟩ = some (.int .i64 (sums (zs.take k)).1) := by rw [cell_of_row wr _ 0 _ 98 (0, 0) hg1]; rfl
      have c1 : wr.cell? ⟨w.heap.size + 1, 1, none⟩ = some (.int .i64 (sums (zs.take k)).2) := by rw [cell_of_row wr _ 1 _ 98 (0, 0) hg1]; rfl
      have f0 : wr.frozen? ⟨w.heap.size, 0, none⟩ = false := frozen_of_row wr _ 0 _ 98 hg0
      have f1 : wr.frozen? ⟨w.heap.size, 1, none⟩ = false := frozen_of_row wr _ 1 _ 98 hg0
      have c2 : wr.cell? ⟨w.heap.size, 0, none⟩ = some (.int .i64 0) := by rw [cell_of_row wr _ 0 _ 98 (0, 0) hg0]; rfl
      have c3 : wr.cell? ⟨w.heap.size, 1, none⟩ = some (.int .i64 0) := by rw [cell_of_row wr _ 1 _ 98 (0, 0) hg0]; rfl
      clear hb
      have HB := hide hbel
      clear hbel
      have HE : Hid (sums zs = sums (zs.take len)) := by show _ = _; rw [← hl, List.take_length]
      go_wp2
      refine bodyPost_ret (v := sumsV (sums (zs.take len))) (results_one Tryd.results60 _ _ _ rfl (load_two ?_)) rfl ⟨by rw [HE.out], (HB.out.setCell (Nat.le_refl _) _).setCell (Nat.le_refl _) _⟩
      have e1 := heap_setCell_same wr w.heap.size 0 _ 98 (.int .i64 (sums (zs.take len)).1) hg0
      exact heap_setCell_same _ w.heap.size 1 _ 98 _ e1
end Go.Proofs.YtkfnpijljpbiaaaDoor
/-
  What bytes.Clone does: a copy of the bytes in new memory.
-/
namespace Go.Proofs.YtkfnpijljpbiaaaDoor
open Go.RowKit

set_option maxRecDepth 100000 in
set_option maxHeartbeats 1000000 in
theorem cloneB (w : World) (a : Option Addr) (len cap : Nat) (zs : List Int) (hin : In w w.heap.size a len zs) (hc : a = none → cap = 0) :
    Calls Tryd.prog 37 #[.slice a len cap] w fun e w' => ∃ v, e = .returned v ∧ Own w' w.heap.size v zs ∧ Below w.heap.size w w' ∧ (v = .slice none 0 0 ↔ a = none) := by
  have hnil : ∀ (w : World) (a : Option Addr) (l c : Nat), (binOp .eql 22 (.slice a l c) (.slice none 0 0)).run Tryd.prog w = .ok (.bool a.isNone) w := fun w a l c => Go.run_eql_slice_nil w 22 5 a l c Tryd.underlying22
  cases a with
  | none =>
    obtain ⟨rfl, rfl⟩ := hin.none_len
    go_enter Tryd.func37, Tryd.ntmps37
    go_wp2
    go_ret
    exact ⟨_, rfl, World.ownsRow_nil _ _ _ _, Below.refl _ _, by simp⟩
  | some x =>
    have HIN := hide (hin.kept (w' := w.alloc (.cells #[] 5)) (fun k hk => Below.heap_alloc w _ k hk))
    have HO := hide (own_empty w w.heap.size (Nat.le_refl _))
    clear hin
    go_enter Tryd.func37, Tryd.ntmps37
    go_wp2_with (at_builtin; refine app_in rfl _ _ rfl w.heap.size w.heap.size _ [] rfl HO.out _ _ _ zs rfl hc HIN.out (by simp) (by simp) ?_; intro v' w' o' g' n')
    have H := hide o'
    have HB := hide (((Below.refl w.heap.size w).alloc (Nat.le_refl _) (.cells #[] 5)).grown g' (by simp) (fun q hq => (HO.out.lt q hq).1))
    have n2 : v' = .slice none 0 0 ↔ Value.slice (some ⟨w.heap.size, 0, none⟩) 0 0 = .slice none 0 0 ∧ len = 0 := n'
    clear o' g' n' HO HIN
    go_wp2
    go_ret
    exact ⟨_, rfl, H.out, HB.out, by simp [n2]⟩

end Go.Proofs.YtkfnpijljpbiaaaDoor
/-
  What Check, Clone, Seal and their models do: the bytes and behind them the four bytes of their sums, in new memory; nothing that was there is touched.
-/
namespace Go.Proofs.YtkfnpijljpbiaaaDoor
open Go.RowKit

/-- The four bytes of a number, the low ones first. -/
def four (n : Int) : List Int := [n % 256, n / 256 % 256, n / 65536 % 256, n / 16777216 % 256]
/-- Bytes, sealed. -/
def sealed (zs : List Int) : List Int := zs ++ four (chk zs)

theorem pw_rnd (n : Int) : pw (rnd n) = four n := by
  have h := rnd_bd n
  rw [pw_in _ h.1 h.2]
  unfold four rnd
  simp only [List.cons.injEq, and_true]
  refine ⟨?_, ?_, ?_, ?_⟩ <;> omega
theorem four_byt (n : Int) : Byt (four n) := by
  intro z hz
  simp [four] at hz
  omega
theorem four_len (n : Int) : (four n).length = 4 := rfl
theorem chk_bd (zs : List Int) : 0 ≤ chk zs ∧ chk zs ≤ 4294967295 := by
  have := sums_bd zs
  unfold chk
  omega

set_option maxRecDepth 100000 in
set_option maxHeartbeats 1000000 in
theorem checkImpl (w : World) (a : Option Addr) (len cap : Nat) (zs : List Int) (hin : In w w.heap.size a len zs) :
    Calls Tryd.prog 41 #[.slice a len cap] w fun e w' => e = .returned (.int .i64 (chk zs)) ∧ Below w.heap.size w w' := by
  have hs := sums_bd zs
  go_enter Tryd.func41, Tryd.ntmps41
  go_wp2_with fail
  refine (sumsOf _ _ _ _ _ hin).mono ?_
  rintro e w1 ⟨rfl, b1⟩
  have HB := hide b1
  have HE : Hid (chk zs = (sums zs).2 * 65536 + (sums zs).1) := hide rfl
  clear b1 hin
  generalize sums zs = p at *
  obtain ⟨x, y⟩ := p
  simp only at hs
  obtain ⟨h1, h2, h3, h4⟩ := hs
  unfold sumsV
  simp only
  go_wp2
  go_ret
  exact ⟨ret_int HE.out.symm, HB.out.alloc HB.out.size _⟩
theorem own_in {w : World} {b B : Nat} {v : Value} {zs : List Int} (h : Own w b v zs) (hm : zs.length ≤ 1048576) (hz : Byt zs) (hB : w.heap.size ≤ B) : ∃ a c, v = .slice a zs.length c ∧ In w B a zs.length zs ∧ (a = none → c = 0) := by
  obtain ⟨a, c, rfl, hi, _⟩ := in_any h hm hz hB
  exact ⟨a, c, rfl, hi, h.cap0⟩

set_option maxRecDepth 100000 in
set_option maxHeartbeats 1000000 in
theorem sealImpl (w : World) (a : Option Addr) (len cap : Nat) (zs : List Int) (hin : In w w.heap.size a len zs) (hc : a = none → cap = 0) :
    Calls Tryd.prog 18 #[.slice a len cap] w fun e w' => ∃ v, e = .returned v ∧ Own w' w.heap.size v (sealed zs) ∧ Below w.heap.size w w' := by
  have hl := hin.1
  have hm := hin.2.1
  go_enter Tryd.func18, Tryd.ntmps18
  go_wp2_with fail
  refine (cloneB _ _ _ _ _ hin hc).mono ?_
  rintro e w1 ⟨v1, rfl, o1, b1, _⟩
  have hin1 := hide ((hin.kept b1.block).up b1.size)
  have HB1 := hide b1
  have HO1 := hide o1
  clear b1 o1 hin
  go_wp2_with fail
  refine (checkImpl _ _ _ _ _ hin1.out).mono ?_
  rintro e w2 ⟨rfl, b2⟩
  have HB2 := hide (HB1.out.trans (b2.mono HB1.out.size))
  have HO2 := hide (HO1.out.below b2)
  clear b2 HB1 HO1 hin1
  go_wp2_with fail
  refine (roundImpl _ _).mono ?_
  rintro e w3 ⟨rfl, rfl⟩
  go_wp2_with fail
  refine (putWordImpl _ _).mono ?_
  rintro e w4 ⟨v4, rfl, o4, b4⟩
  rw [pw_rnd] at o4
  obtain ⟨a4, c4, rfl, i4, hc4⟩ := own_in o4 (by simp [four_len]) (four_byt _) (Nat.le_refl _)
  have HB4 := hide (HB2.out.trans (b4.mono HB2.out.size))
  have HO4 := hide (HO2.out.below b4)
  have HI4 := hide i4
  have hs4 : w.heap.size ≤ w4.heap.size := HB4.out.size
  clear b4 HB2 HO2 i4 o4
  go_wp2_with (at_builtin; refine app_in rfl _ _ rfl w.heap.size w4.heap.size _ zs rfl HO4.out _ _ _ (four (chk zs)) rfl hc4 HI4.out (by omega) hs4 ?_; intro v' w' o' g' n')
  have H := hide o'
  have HB := hide (HB4.out.grown g' hs4 (fun q hq => (HO4.out.lt q hq).1))
  clear o' g' n' HO4 HI4 HB4
  go_wp2
  go_ret
  exact ⟨_, rfl, H.out, HB.out⟩

set_option maxRecDepth 100000 in
set_option maxHeartbeats 1000000 in
theorem l2Sum (w : World) (a : Option Addr) (len cap : Nat) (zs : List Int) (hin : In w w.heap.size a len zs) :
    Calls Tryd.prog 45 #[.slice a len cap] w fun e w' => ∃ v, e = .returned v ∧ Own w' w.heap.size v (four (chk zs)) ∧ Below w.heap.size w w' := by
  have hb := chk_bd zs
  have HE : Hid (four (chk zs) = [chk zs % 256, chk zs / 256 % 256, chk zs / 65536 % 256, chk zs / 16777216]) := by
    show _ = _
    have e : chk zs / 16777216 % 256 = chk zs / 16777216 := by omega
    unfold four
    rw [e]
  go_enter Tryd.func45, Tryd.ntmps45
  go_wp2_with fail
  refine (checkSpec _ _ _ _ _ _ hin).mono ?_
  rintro e w1 ⟨rfl, rfl⟩
  clear hin
  go_wp2
  go_ret
  refine ⟨_, rfl, ?_, (Below.refl _ _).alloc (Nat.le_refl _) _⟩
  rw [HE.out]
  exact own_four _ _ (Nat.le_refl _) _ _ _ _

set_option maxRecDepth 100000 in
set_option maxHeartbeats 1000000 in
theorem sealSpec (w : World) (a : Option Addr) (len cap : Nat) (zs : List Int) (hin : In w w.heap.size a len zs) (hc : a = none → cap = 0) :
    Calls Tryd.prog 21 #[.slice a len cap] w fun e w' => ∃ v, e = .returned v ∧ Own w' w.heap.size v (sealed zs) ∧ Below w.heap.size w w' := by
  have hl := hin.1
  have hm := hin.2.1
  have HIN := hide (hin.kept (w' := w.alloc (.cells #[] 5)) (fun k hk => Below.heap_alloc w _ k hk))
  have HO := hide (own_empty w w.heap.size (Nat.le_refl _))
  clear hin
  go_enter Tryd.func21, Tryd.ntmps21
  go_wp2_with (at_builtin; refine app_in rfl _ _ rfl w.heap.size w.heap.size _ [] rfl HO.out _ _ _ zs rfl hc HIN.out (by simp) (by simp) ?_; intro v1 w1 o1 g1 n1)
  have HB1 := hide (((Below.refl w.heap.size w).alloc (Nat.le_refl _) (.cells #[] 5)).grown g1 (by simp) (fun q hq => (HO.out.lt q hq).1))
  have HO1 := hide o1
  have hin1 := hide ((HIN.out.kept (fun k hk => g1.block k (by simp; omega) (fun e => by have := (HO.out.lt k e.symm).1; omega))).up HB1.out.size)
  clear o1 g1 n1 HO HIN
  go_wp2_with fail
  refine (l2Sum _ _ _ _ _ hin1.out).mono ?_
  rintro e w4 ⟨v4, rfl, o4, b4⟩
  obtain ⟨a4, c4, rfl, i4, hc4⟩ := own_in o4 (by simp [four_len]) (four_byt _) (Nat.le_refl _)
  have HB4 := hide (HB1.out.trans (b4.mono HB1.out.size))
  have HO4 : Hid (Own w4 w.heap.size v1 zs) := hide (HO1.out.below b4)
  have HI4 := hide i4
  have hs4 : w.heap.size ≤ w4.heap.size := HB4.out.size
  clear b4 HB1 HO1 i4 o4 hin1
  go_wp2_with (at_builtin; refine app_in rfl _ _ rfl w.heap.size w4.heap.size _ zs rfl HO4.out _ _ _ (four (chk zs)) rfl hc4 HI4.out (by omega) hs4 ?_; intro v' w' o' g' n')
  have H := hide o'
  have HB := hide (HB4.out.grown g' hs4 (fun q hq => (HO4.out.lt q hq).1))
  clear o' g' n' HO4 HI4 HB4
  go_wp2
  go_ret
  exact ⟨_, rfl, H.out, HB.out⟩

end Go.Proofs.YtkfnpijljpbiaaaDoor
