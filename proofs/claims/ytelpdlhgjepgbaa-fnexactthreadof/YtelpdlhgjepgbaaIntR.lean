/-
  Rows of ints: how they come in, how great they are, copies, comparison, marks.
-/
import Derived.Test.YtelpdlhgjepgbaaDeepCh
import Derived.Test.YtelpdlhgjepgbaaEq
import Derived.Deep.QuietTactic
import Derived.BigQuiet
namespace Go.Proofs.Ytelpdlhgjepgbaa
open Go.ChangeShapes Go.WideShapes Go.RowKit

def niD (z : Int) : List Dt := [.val (.int .i64 z)]
def ints (z : List Int) : Dt := .row 3 1 z.length (z.flatMap niD)
theorem int_at {w : World} {B : Nat} {v : Value} {xs : List Int} (h : Reads w B (ints xs) v) :
    ∃ a cap, v = .slice a xs.length cap ∧ xs.length ≤ cap ∧ (a = none → cap = 0) ∧ (0 < xs.length → ∃ b o, a = some ⟨b, o, none⟩ ∧ b < B ∧ ∀ j, j < xs.length → w.cell? ⟨b, o + j, none⟩ = some (.int .i64 (xs.getD j default))) := by
  obtain ⟨a, cap, rfl, h1, h2, h3⟩ := row_at (f := niD) (k := 1) (fun _ => rfl) rfl h
  refine ⟨a, cap, rfl, h1, h2, fun hp => ?_⟩
  obtain ⟨b, o, rfl, hb, hc⟩ := h3 hp
  refine ⟨b, o, rfl, hb, fun j hj => ?_⟩
  obtain ⟨vs, h4, h5⟩ := hc j hj
  obtain ⟨u0, vs0, rfl, q0, h4⟩ := readsL_cons h4
  obtain rfl := readsL_nil h4
  obtain rfl := reads_val q0
  have c0 := h5 0 (by omega)
  simp only [Nat.mul_one, Nat.add_zero] at c0
  exact c0
def intsR (xs : List Int) : Prop := xs.length ≤ maxLen ∧ ∀ y ∈ xs, -9223372036854775808 ≤ y ∧ y ≤ 9223372036854775807
def intsW (xs : List Int) : Nat := xs.length
def intsG (xs : List Int) : Prop := xs.length ≤ 1048576 ∧ ∀ y ∈ xs, -9223372036854775808 ≤ y ∧ y ≤ 9223372036854775807
theorem intsG_of {xs : List Int} (hr : intsR xs) (hw : intsW xs ≤ 1048576) : intsG xs := ⟨hw, hr.2⟩
theorem ni_reads {w : World} {B : Nat} (x : Int) : ReadsL w B (niD x) [Value.int .i64 x] := readsL_mk reads_val' readsL_none
theorem OwnDL.joinI {w : World} {b hi m : Nat} {c1 c2 : List Dt} {u1 u2 : List Value} (h : OwnDL w b m c1 u1) (h' : OwnDL w m hi c2 u2) (hb : b ≤ m) (hm : m ≤ hi) : OwnDL w b hi (c1 ++ c2) (u1 ++ u2) := by
  obtain ⟨F, h1, h2, h3⟩ := h
  obtain ⟨G, g1, g2, g3⟩ := h'
  refine ⟨F ++ G, OwnsL.join h1 (g1.mono hb), List.nodup_append.2 ⟨h2, g2, fun x hx y hy e => ?_⟩, fun q hq => ?_⟩
  · have a := h3 x hx
    have b := (OwnsL.lt _ _ _ g1 y hy).1
    omega
  · rcases List.mem_append.1 hq with hq | hq
    · exact Nat.lt_of_lt_of_le (h3 q hq) hm
    · exact g3 q hq
theorem ownD_oneI {w : World} {b hi : Nat} {d : Dt} {v : Value} (h : OwnD w b hi d v) : OwnDL w b hi [d] [v] := by
  obtain ⟨F, h1, h2, h3⟩ := h
  refine ⟨F ++ [], ownsL_mk h1 ownsL_nil, by simpa using h2, fun q hq => h3 q (by simpa using hq)⟩
theorem ni_cells {H : Type} {enc : TypeId × Value → H} {W : World} {fuel : Nat} {cs : List Value} {x : DataW H × List MemPlace}
    (h : DataW.trod enc Try.prog W 0 (fun _ => true) true fuel 3 cs = some x) : ∃ y : Int, cs = [Value.int .i64 y] ∧ -9223372036854775808 ≤ y ∧ y ≤ 9223372036854775807 := by
  obtain ⟨a, e2, _, ha⟩ := DataW.trod_int Try.underlying3 h
  exact ⟨a, e2, bounds_i64 ha⟩
theorem Try.infoNi : (Try.prog.info? 3).map (fun i => (i.zero, i.size, i.bytes)) = some (some (.int .i64 0), 1, 8) := by kernel_rfl
set_option maxRecDepth 100000 in
set_option maxHeartbeats 4000000 in
theorem toInts (w : World) (v : Value) (xs : List Int) (h : Reads w w.heap.size (ints xs) v) (hg : intsG xs) :
    Calls Try.prog 16 #[v] w fun e w' => ∃ v', e = .returned v' ∧ OwnD w' w.heap.size w'.heap.size (ints xs) v' ∧ Below w.heap.size w w' := by
  have hm := hg.1
  clear hg
  have HX : Hid (∀ wr, Below w.heap.size w wr → _) := hide (fun wr hb => int_at (h.at hb))
  obtain ⟨a, cap, rfl, _⟩ := int_at h
  have HD : Hid (∀ W hi v, OwnD W w.heap.size hi (.row 3 1 xs.length (upTo niD [.int .i64 0] xs xs.length)) v → OwnD W w.heap.size hi (ints xs) v) := hide (fun W hi v h => by unfold ints; rwa [upTo_all] at h)
  clear h
  obtain ⟨i0, hi, hz0, hz1, hz2⟩ := info_parts Try.infoNi
  generalize hn : xs.length = n at *
  go_enter Try.func16, Try.ntmps16
  go_wp2_with (at_make; refine wpList_make_full _ rfl _ _ 30 rfl w.heap.size 3 i0 (.int .i64 0) 1 Try.underlying30 hi hz0 hz1 _ _ _ _ n rfl rfl rfl rfl (by rw [hz2]; omega) (by unfold maxLen; omega) (Nat.le_refl _) ?_; intro w1 ho1 hg1)
  have o1 : OwnD w1 w.heap.size w1.heap.size (.row 3 1 n (upTo niD [.int .i64 0] xs 0)) (.slice (some ⟨w.heap.size, 0, none⟩) n n) := ownD_made hn rfl (by decide) rfl ho1 (fun q hq => (World.ownsRow.lt ho1 q hq).2)
  have hl1 : w.heap.size < w1.heap.size := (World.ownsRow.lt ho1 _ rfl).2
  have b1 : Below w.heap.size w w1 := (Below.refl _ _).grown hg1 (Nat.le_refl _) (fun k hk => by cases hk)
  clear ho1 hg1 hi hz0 hz1 hz2
  go_loopw [4] (fun i wr => ∃ (j : Nat), j ≤ n ∧ i = .int .i64 (j : Int) ∧ Hid (OwnD wr w.heap.size wr.heap.size (.row 3 1 n (upTo niD [.int .i64 0] xs j)) (.slice (some ⟨w.heap.size, 0, none⟩) n n)) ∧ Hid (Below w.heap.size w wr) ∧ w.heap.size < wr.heap.size) (fun i _ => n - (intOf i).toNat)
  case atStart => exact ⟨0, Nat.zero_le _, rfl, hide o1, hide b1, hl1⟩
  case round =>
    clear o1 b1
    obtain ⟨j, hj, rfl, HO, HB, hlt0⟩ := hrel
    by_cases hlt : j < n
    · obtain ⟨a', cap', ea, _, _, hx⟩ := HX.out wr HB.out
      cases ea
      obtain ⟨b, o, rfl, _, hcell⟩ := hx (by omega)
      obtain e0 := hcell j hlt
      clear hcell hx
      have HL : Hid (xs.getD j default = xs.getD j default) := hide rfl
      generalize hx9 : xs.getD j default = x at *
      have OU : Hid (∀ W : World, OwnDL W W.heap.size W.heap.size (niD (xs.getD j default)) [.int .i64 x]) := hide (fun W => by rw [hx9]; exact OwnDL.val (ownDL_nil _ _ _))
      clear hx9 HL
      obtain ⟨hc, hf, ho2⟩ := OwnD.fill (f := niD) (k := 1) (fun _ => rfl) rfl hn hlt HO.out (OU.out wr) (Nat.le_refl _) (Nat.le_of_lt hlt0) (Nat.le_refl _)
      obtain ⟨y0, d0⟩ := hc 0 (by omega)
      simp only [Nat.mul_one, Nat.add_zero] at d0
      have hb2 := setRow_below [.int .i64 x] wr (j * 1) HB.out (Nat.le_refl _)
      have hs9 : wr.heap.size = (setRow wr w.heap.size (j * 1) [.int .i64 x]).heap.size := by simp [setRow]
      rw [hs9] at ho2
      clear hs9
      simp only [setRow, Nat.mul_one] at ho2 hb2
      replace HO := hide ho2
      have HB2 := hide hb2
      clear ho2 hb2 hc HB OU
      go_wp2
      exact ⟨⟨j + 1, by omega, by go_num, HO, HB2, by simp; omega⟩, by simp [intOf]; omega⟩
    · obtain rfl : j = n := by omega
      have HF := hide (HD.out _ _ _ HO.out)
      go_wp2
      go_ret
      exact ⟨_, rfl, HF.out, HB.out⟩
theorem szInts (w : World) (v : Value) (xs : List Int) (left : Int) (h : Reads w w.heap.size (ints xs) v) (h0 : 0 ≤ left) (h1 : left ≤ 1048576) (hr : intsR xs) :
    Calls Try.prog 12 #[v, .int .i64 left] w fun e w' => e = .returned (.int .i64 (szR left (intsW xs))) ∧ Below w.heap.size w w' := by
  obtain ⟨a, c, e, _⟩ := h.shape
  subst e
  have hm := hr.1
  unfold maxLen at hm
  unfold intsW
  clear h hr
  generalize xs.length = len at *
  have hw : IntKind.i64.wrap (left - (len : Int)) = left - (len : Int) := by rw [IntKind.wrap_i64]; omega
  by_cases h : left - (len : Int) < 0
  · rw [szR_neg (by omega)]
    go_enter Try.func12, Try.ntmps12
    go_wp2
    go_ret
    exact ⟨rfl, Below.refl _ _⟩
  · rw [szR_pos (by omega)]
    go_enter Try.func12, Try.ntmps12
    go_wp2
    go_ret
    exact ⟨by first | rfl | (exact ret_int (by omega)), Below.refl _ _⟩
set_option maxRecDepth 100000 in
set_option maxHeartbeats 1000000 in
theorem eqInts (w : World) (v1 v2 : Value) (xs : List Int) (h1 : Reads w w.heap.size (ints xs) v1) (h2 : Reads w w.heap.size (ints xs) v2) (hg : intsG xs) :
    Calls Try.prog 22 #[v1, v2] w fun e w' => e = .returned (.bool true) ∧ Below w.heap.size w w' := by
  have hm := hg.1
  clear hg
  refine Calls.mono (R := fun e w' => e = .returned (.bool true) ∧ ∃ q, w' = w.drewN q) ?_ (by rintro e w1 ⟨a, q, rfl⟩; exact ⟨a, below_drewN (Below.refl _ _) q⟩)
  obtain ⟨a1, c1, rfl, _, _, hx1⟩ := int_at h1
  obtain ⟨a2, c2, rfl, _, _, hx2⟩ := int_at h2
  have HX1 := hide hx1
  have HX2 := hide hx2
  clear h1 h2 hx1 hx2
  have hne : ((xs.length : Int) != (xs.length : Int)) = false := by simp
  generalize hn : xs.length = n at *
  go_enter Try.func22, Try.ntmps22
  go_wp2
  go_loopw [5] (fun i wr => ∃ k : Nat, k ≤ n ∧ i = .int .i64 k ∧ ∃ q, wr = w.drewN q) (fun i _ => n - (intOf i).toNat)
  case atStart => exact ⟨0, Nat.zero_le _, rfl, 0, rfl⟩
  case round =>
    obtain ⟨k, hk, rfl, q, rfl⟩ := hrel
    by_cases hlt : k < n
    · obtain ⟨b1, o1, rfl, _, hc1⟩ := HX1.out (by omega)
      obtain ⟨b2, o2, rfl, _, hc2⟩ := HX2.out (by omega)
      have e1 := hc1 k hlt
      have e2 := hc2 k hlt
      clear hc1 hc2 HX1 HX2
      have hbe : ((xs.getD k default) != (xs.getD k default)) = false := by simp
      go_wp2
      go_quiet (fail)
      go_wp2
      go_roundw
      case rel => exact ⟨k + 1, by omega, by go_num, q + nq, rfl⟩
      case measure => simp [intOf]; omega
    · go_wp2
      go_ret
      exact ⟨rfl, q, rfl⟩
end Go.Proofs.Ytelpdlhgjepgbaa
