/-
  Joined: Copy, Eq, Take.
-/
import Derived.Test.YtpgmipbanpofaaaGreatDoorJ1
import Derived.Test.YtpgmipbanpofaaaGreatDoorRows
import Derived.Deep.QuietTactic
import Derived.BigQuiet
import Derived.Handy
/-
  What toByteS does: a copy of the bytes in new memory.
-/
namespace Go.Proofs.YtpgmipbanpofaaaGreatDoor
open Go.RowKit

theorem copy_step (zs : List Int) (j : Nat) (h : j < zs.length) :
    ((zs.take j ++ List.replicate (zs.length - j) 0).map (Value.int .u8)).set j (.int .u8 (zs.getD j 0)) = (zs.take (j + 1) ++ List.replicate (zs.length - (j + 1)) 0).map (Value.int .u8) := by
  have e : zs.length - j = (zs.length - (j + 1)) + 1 := by omega
  rw [e, List.replicate_succ]
  simp only [List.map_append, List.map_cons]
  rw [List.set_append_right _ _ (by simp; omega)]
  have e2 : (List.map (Value.int IntKind.u8) (List.take j zs)).length = j := by simp; omega
  rw [e2, Nat.sub_self, List.set_cons_zero]
  have hg : zs.getD j 0 = zs[j] := by simp [h]
  rw [List.take_succ_eq_append_getElem h, hg, List.map_append, List.append_assoc]
  rfl

theorem copy_len (zs : List Int) (j : Nat) (h : j ≤ zs.length) : (zs.take j ++ List.replicate (zs.length - j) 0).length = zs.length := by
  simp; omega

set_option maxRecDepth 100000 in
set_option maxHeartbeats 1000000 in
theorem copyB (w : World) (a : Option Addr) (len cap : Nat) (zs : List Int) (hin : In w w.heap.size a len zs) :
    Calls Tryz.prog 5 #[.slice a len cap] w fun e w' => ∃ c, e = .returned (.slice (some ⟨w.heap.size, 0, none⟩) len c) ∧ Own w' w.heap.size (.slice (some ⟨w.heap.size, 0, none⟩) len c) zs ∧ Below w.heap.size w w' := by
  have hl := hin.2.1
  have hlen := hin.1
  obtain ⟨i0, hi, hz0, hz1, hz2⟩ := info_parts Tryz.info5
  go_enter Tryz.func5, Tryz.ntmps5
  go_wp2_with (at_make; refine wpList_make_full _ rfl _ _ 22 rfl w.heap.size 5 i0 (.int .u8 0) 1 Tryz.underlying22 hi hz0 hz1 _ _ _ _ len rfl rfl rfl rfl (by rw [hz2]; omega) (by unfold maxLen; omega) (Nat.le_refl _) ?_; intro w1 ho1 hg1)
  have o1 : Own w1 w.heap.size (.slice (some ⟨w.heap.size, 0, none⟩) len len) (List.replicate len 0) := by
    unfold Own
    have e1 : (madeCells (Value.int IntKind.u8 0).cells (len * 1)).toList = (List.replicate len (0 : Int)).map (Value.int .u8) := by
      rw [Nat.mul_one, List.map_replicate]; exact toList_madeCells_one _ _
    rw [e1] at ho1
    rw [List.length_replicate]
    exact ho1
  have b1 : Below w.heap.size w w1 := (Below.refl _ _).grown hg1 (Nat.le_refl _) (fun k hk => by cases hk)
  have s1 : w.heap.size < w1.heap.size := (o1.lt _ rfl).2
  clear ho1 hg1 hi hz0 hz1 hz2
  go_loopw [4] (fun i wr => ∃ j : Nat, j ≤ len ∧ i = .int .i64 (j : Int) ∧ Own wr w.heap.size (.slice (some ⟨w.heap.size, 0, none⟩) len len) (zs.take j ++ List.replicate (zs.length - j) 0) ∧ Below w.heap.size w wr) (fun i _ => len - (intOf i).toNat)
  case atStart => exact ⟨0, Nat.zero_le _, rfl, by rw [hlen]; simpa using o1, b1⟩
  case round =>
    obtain ⟨j, hj, rfl, ho, hb⟩ := hrel
    have hml := copy_len zs j (by omega)
    clear o1 b1 s1
    by_cases hlt : j < len
    · have ho' : wr.ownsRow w.heap.size 5 1 (.slice (some ⟨w.heap.size, 0, none⟩) len len) len ((zs.take j ++ List.replicate (zs.length - j) 0).map (Value.int .u8)) := by
        have := ho; unfold Own at this; rw [hml] at this; rw [hlen] at this ⊢; exact this
      have hfz := World.ownsRow.frozenAt ho' j
      have hce := World.ownsRow.cellAt ho' j (by omega)
      obtain ⟨u, hu⟩ : ∃ u, wr.cell? ⟨w.heap.size, j, none⟩ = some u := by
        rw [hce]; exact ⟨_, List.getElem?_eq_getElem (by simp only [List.length_map]; omega)⟩
      obtain ⟨b, o, rfl, hbB, hcell⟩ := (hin.low hb (Nat.le_refl _)).2.2.2 (by omega)
      have hz := hcell j hlt
      have HS := World.ownsRow.stored ho' j (.int .u8 (zs.getD j 0))
      rw [copy_step zs j (by omega)] at HS
      have H2 : Hid (Own (wr.setCell ⟨w.heap.size, j, none⟩ (.int .u8 (zs.getD j 0))) w.heap.size (.slice (some ⟨w.heap.size, 0, none⟩) len len) (zs.take (j + 1) ++ List.replicate (zs.length - (j + 1)) 0) ∧ Below w.heap.size w (wr.setCell ⟨w.heap.size, j, none⟩ (.int .u8 (zs.getD j 0)))) := by
        refine ⟨?_, hb.setCell (Nat.le_refl _) _⟩
        unfold Own
        rw [copy_len zs (j + 1) (by omega), hlen]
        rw [hlen] at HS
        exact HS.1
      have hbw : ¬ b = w.heap.size := by omega
      clear HS hce ho' ho hml hin hcell hb
      generalize zs.getD j 0 = z at *
      go_wp2
      exact ⟨⟨j + 1, hlt, by go_num, H2.out.1, H2.out.2⟩, by simp [intOf]; omega⟩
    · have hjn : j = len := by omega
      have HF : Hid (Own wr w.heap.size (.slice (some ⟨w.heap.size, 0, none⟩) len len) zs) := by
        have := ho; rw [hjn, ← hlen, List.take_length, Nat.sub_self, List.replicate_zero, List.append_nil, hlen] at this; exact this
      have HG := hide hb
      clear ho hb hml hin
      subst hjn
      go_wp2
      go_ret
      exact ⟨_, rfl, HF.out, HG.out⟩
end Go.Proofs.YtpgmipbanpofaaaGreatDoor
/-
  What eqByteS, markByteS and heldByteS do.
-/
namespace Go.Proofs.YtpgmipbanpofaaaGreatDoor
open Go.RowKit

set_option maxRecDepth 100000 in
set_option maxHeartbeats 400000 in
theorem eqB (w : World) (b1 b2 : Nat) (v1 v2 : Value) (zs : List Int) (h1 : Own w b1 v1 zs) (h2 : Own w b2 v2 zs) (hl : zs.length ≤ 1000000000) :
    Calls Tryz.prog 8 #[v1, v2] w fun e w' => e = .returned (.bool true) ∧ ∃ q, w' = w.drewN q := by
  rcases h1.form with ⟨hz, ao1, c1, rfl⟩ | ⟨hz, g1, c1, rfl, _, _, hc1, _⟩
  · rcases h2.form with ⟨_, ao2, c2, rfl⟩ | ⟨hz', _⟩
    · clear h1 h2 hz hl
      go_enter Tryz.func8, Tryz.ntmps8
      go_wp2
      go_loopw [5] (fun i wr => i = .int .i64 0 ∧ wr = w) (fun _ _ => 0)
      case atStart => exact ⟨rfl, rfl⟩
      case round =>
        obtain ⟨rfl, rfl⟩ := hrel
        go_wp2
        go_ret
        exact ⟨rfl, 0, rfl⟩
    · subst hz; simp at hz'
  · rcases h2.form with ⟨hz', _⟩ | ⟨_, g2, c2, rfl, _, _, hc2, _⟩
    · subst hz'; simp at hz
    · clear h1 h2
      have hne : ((zs.length : Int) != (zs.length : Int)) = false := by simp
      generalize hn : zs.length = n at *
      go_enter Tryz.func8, Tryz.ntmps8
      go_wp2
      go_loopw [5] (fun i wr => ∃ k : Nat, k ≤ n ∧ i = .int .i64 k ∧ ∃ q, wr = w.drewN q) (fun i _ => n - (intOf i).toNat)
      case atStart => exact ⟨0, Nat.zero_le _, rfl, 0, rfl⟩
      case round =>
        obtain ⟨k, hk, rfl, q, rfl⟩ := hrel
        by_cases hlt : k < n
        · have e1 := hc1 k hlt
          have e2 := hc2 k hlt
          clear hc1 hc2
          have hbe : ((zs.getD k 0) != (zs.getD k 0)) = false := by simp
          go_wp2
          go_quiet (fail)
          go_wp2
          go_roundw
          case rel => exact ⟨k + 1, by omega, by go_num, q + nq, rfl⟩
          case measure => simp [intOf]; omega
        · go_wp2
          go_ret
          exact ⟨rfl, q, rfl⟩

/-- The bytes that markByteS leaves: from k on, one more each. -/
def marks (k n : Nat) : List Int := (List.range n).map fun i => ((k + i : Nat) : Int) % 256

theorem marks_len (k n : Nat) : (marks k n).length = n := by simp [marks]
theorem marks_get (k n j : Nat) (h : j < n) : (marks k n).getD j 0 = ((k + j : Nat) : Int) % 256 := by simp [marks, h]

set_option maxRecDepth 100000 in
set_option maxHeartbeats 400000 in
theorem heldB (w : World) (b k n : Nat) (v : Value) (h : Own w b v (marks k n)) (hk : k + n ≤ 1000000000) :
    Calls Tryz.prog 52 #[v, .int .i64 (k : Int)] w fun e w' => e = .returned (.int .i64 ((k + n : Nat) : Int)) ∧ w' = w := by
  rcases h.form with ⟨hz, ao, c, rfl⟩ | ⟨hz, g, c, rfl, _, _, hc, _⟩
  · have hn : n = 0 := by have := marks_len k n; rw [hz] at this; simpa using this.symm
    clear h hz
    subst hn
    go_enter Tryz.func52, Tryz.ntmps52
    go_wp2
    go_loopw [1, 5] (fun q i wr => q = .int .i64 (k : Int) ∧ i = .int .i64 0 ∧ wr = w) (fun _ _ _ => 0)
    case atStart => exact ⟨rfl, rfl, rfl⟩
    case round =>
      obtain ⟨rfl, rfl, rfl⟩ := hrel
      go_wp2
      go_ret
      exact ⟨rfl, rfl⟩
  · rw [marks_len] at hz hc ⊢
    clear h
    go_enter Tryz.func52, Tryz.ntmps52
    go_wp2
    go_loopw [1, 5] (fun q i wr => ∃ j : Nat, j ≤ n ∧ q = .int .i64 ((k + j : Nat) : Int) ∧ i = .int .i64 (j : Int) ∧ wr = w) (fun _ i _ => n - (intOf i).toNat)
    case atStart => exact ⟨0, Nat.zero_le _, rfl, rfl, rfl⟩
    case round =>
      obtain ⟨j, hj, rfl, rfl, rfl⟩ := hrel
      by_cases hlt : j < n
      · have e1 := hc j hlt
        rw [marks_get k n j hlt] at e1
        clear hc
        go_wp2
        exact ⟨⟨j + 1, by omega, by go_num, by go_num, trivial⟩, by simp [intOf]; omega⟩
      · have hjn : j = n := by omega
        subst hjn
        go_wp2
        go_ret
        exact ⟨rfl, rfl⟩
theorem marks_step (k j : Nat) (zs : List Int) (h : j < zs.length) :
    ((marks k j ++ zs.drop j).map (Value.int .u8)).set j (.int .u8 (((k + j : Nat) : Int) % 256)) = (marks k (j + 1) ++ zs.drop (j + 1)).map (Value.int .u8) := by
  rw [List.drop_eq_getElem_cons h]
  simp only [List.map_append, List.map_cons]
  rw [List.set_append_right _ _ (by simp [marks_len])]
  simp [marks, List.range_succ]

theorem mark_len (k j : Nat) (zs : List Int) (h : j ≤ zs.length) : (marks k j ++ zs.drop j).length = zs.length := by
  simp [marks_len]; omega

set_option maxRecDepth 100000 in
set_option maxHeartbeats 400000 in
theorem markB (w : World) (b k : Nat) (v : Value) (zs : List Int) (h : Own w b v zs) (hk : k + zs.length ≤ 1000000000) :
    Calls Tryz.prog 9 #[v, .int .i64 (k : Int)] w fun e w' => e = .returned (.int .i64 ((k + zs.length : Nat) : Int)) ∧ Own w' b v (marks k zs.length) ∧ w.grownBy w' v.ownBlock := by
  rcases h.form with ⟨hz, ao, c, rfl⟩ | ⟨hz, g, c, rfl, _, hg, _, _⟩
  · subst hz
    have H : Hid (Own w b (.slice ao 0 c) (marks k 0)) := h
    clear h
    go_enter Tryz.func9, Tryz.ntmps9
    go_wp2
    go_loopw [1, 5] (fun q i wr => q = .int .i64 (k : Int) ∧ i = .int .i64 0 ∧ wr = w) (fun _ _ _ => 0)
    case atStart => exact ⟨rfl, rfl, rfl⟩
    case round =>
      obtain ⟨rfl, rfl, rfl⟩ := hrel
      go_wp2
      go_ret
      exact ⟨rfl, H.out, World.grownBy.refl _ _⟩
  · go_enter Tryz.func9, Tryz.ntmps9
    go_wp2
    go_loopw [1, 5] (fun q i wr => ∃ j : Nat, j ≤ zs.length ∧ q = .int .i64 ((k + j : Nat) : Int) ∧ i = .int .i64 (j : Int) ∧ Own wr b (.slice (some ⟨g, 0, none⟩) zs.length c) (marks k j ++ zs.drop j) ∧ w.grownBy wr (some g)) (fun _ i _ => zs.length - (intOf i).toNat)
    case atStart => exact ⟨0, Nat.zero_le _, rfl, rfl, h, World.grownBy.refl _ _⟩
    case round =>
      obtain ⟨j, hj, rfl, rfl, ho, hgr⟩ := hrel
      have hml := mark_len k j zs hj
      by_cases hlt : j < zs.length
      · have ho' : wr.ownsRow b 5 1 (.slice (some ⟨g, 0, none⟩) zs.length c) zs.length ((marks k j ++ zs.drop j).map (Value.int .u8)) := by have := ho; unfold Own at this; rwa [hml] at this
        have hfz := World.ownsRow.frozenAt ho' j
        have hce := World.ownsRow.cellAt ho' j (by omega)
        obtain ⟨u, hu⟩ : ∃ u, wr.cell? ⟨g, j, none⟩ = some u := by
          rw [hce]; exact ⟨_, List.getElem?_eq_getElem (by simp only [List.length_map]; omega)⟩
        have HS := World.ownsRow.stored ho' j (.int .u8 (((k + j : Nat) : Int) % 256))
        rw [marks_step k j zs hlt, Int.natCast_add] at HS
        have H2 : Hid (Own (wr.setCell ⟨g, j, none⟩ (.int .u8 (((k : Int) + (j : Int)) % 256))) b (.slice (some ⟨g, 0, none⟩) zs.length c) (marks k (j + 1) ++ zs.drop (j + 1)) ∧ wr.grownBy (wr.setCell ⟨g, j, none⟩ (.int .u8 (((k : Int) + (j : Int)) % 256))) (some g)) := by
          refine ⟨?_, HS.2⟩
          unfold Own
          rw [mark_len k (j + 1) zs hlt]
          exact HS.1
        clear HS hce ho' ho hml h
        have HG : Hid (w.grownBy wr (some g)) := hgr
        clear hgr
        go_wp2
        exact ⟨⟨j + 1, hlt, by go_num, by go_num, H2.out.1, grownBy_trans HG.out H2.out.2⟩, by simp [intOf]; omega⟩
      · have hjn : j = zs.length := by omega
        have HF : Hid (Own wr b (.slice (some ⟨g, 0, none⟩) zs.length c) (marks k zs.length)) := by
          have := ho; rw [hjn, List.drop_length, List.append_nil] at this; exact this
        have HG : Hid (w.grownBy wr (some g)) := hgr
        clear ho hgr hml h
        subst hjn
        go_wp2
        go_ret
        exact ⟨rfl, HF.out, HG.out⟩

theorem mark1 (w : World) (b : Nat) (v : Value) (zs : List Int) (h : Own w b v zs) (hk : zs.length ≤ 100000000) :
    Calls Tryz.prog 9 #[v, .int .i64 1] w fun e w' => e = .returned (.int .i64 (1 + (zs.length : Int))) ∧ Own w' b v (marks 1 zs.length) ∧ w.grownBy w' v.ownBlock := by
  have := markB w b 1 v zs h (by omega)
  simpa only [Int.natCast_add, Int.natCast_one] using this

theorem held1 (w : World) (b n : Nat) (v : Value) (h : Own w b v (marks 1 n)) (hk : n ≤ 100000000) :
    Calls Tryz.prog 52 #[v, .int .i64 1] w fun e w' => e = .returned (.int .i64 (1 + (n : Int))) ∧ w' = w := by
  have := heldB w b 1 n v h (by omega)
  simpa only [Int.natCast_add, Int.natCast_one] using this

theorem below_mark {B : Nat} {w w1 w2 : World} {v : Value} {zs : List Int} {b : Nat} (hb : Below B w w1) (hB : B ≤ b) (hB' : B ≤ w1.heap.size) (h : Own w1 b v zs) (hg : w1.grownBy w2 v.ownBlock) : Below B w w2 :=
  hb.grown hg hB' (fun k hk => Nat.le_trans hB (h.lt k hk).1)

end Go.Proofs.YtpgmipbanpofaaaGreatDoor
/-
  What takeByte does: the byte at the place, and one place on; or a panic, where there is none.
-/
namespace Go.Proofs.YtpgmipbanpofaaaGreatDoor
open Go.RowKit

/-- What the readers panic with lies where the program has laid it. -/
def Err (w : World) (t : TypeId) (v : Value) : Prop := w.cell? ⟨0, 0, none⟩ = some (.iface t v)

set_option maxRecDepth 100000 in
set_option maxHeartbeats 400000 in
theorem takeByteYes (w : World) (a : Option Addr) (len cap : Nat) (zs : List Int) (B p k : Nat) (hin : In w B a len zs)
    (hp : w.heap[p]? = some (.cells #[.int .i64 (k : Int)] 3 (0, 0))) (hk : k < len) :
    Calls Tryz.prog 96 #[.slice a len cap, .pointer (some ⟨p, 0, none⟩)] w fun e w' => e = .returned (.int .i64 (zs.getD k 0)) ∧ w' = w.setCell ⟨p, 0, none⟩ (.int .i64 ((k : Int) + 1)) := by
  obtain ⟨b, o, rfl, hb, hc⟩ := hin.2.2.2 (by omega)
  have c0 : w.cell? ⟨p, 0, none⟩ = some (.int .i64 (k : Int)) := by rw [cell_of_row w p 0 _ 3 (0, 0) hp]; rfl
  have f0 : w.frozen? ⟨p, 0, none⟩ = false := frozen_of_row w p 0 _ 3 hp
  have hl := hin.2.1
  have hz := hc k hk
  have hzb := hin.2.2.1 k hk
  clear hin hc hp
  generalize zs.getD k 0 = z at *
  go_enter Tryz.func96, Tryz.ntmps96
  go_wp2
  go_ret
  exact ⟨rfl, rfl⟩

set_option maxRecDepth 100000 in
set_option maxHeartbeats 400000 in
theorem takeByteNo (w : World) (a : Option Addr) (len cap : Nat) (p : Nat) (i : Int) (t : TypeId) (v : Value)
    (hp : w.heap[p]? = some (.cells #[.int .i64 i] 3 (0, 0))) (hi : i < 0 ∨ (len : Int) ≤ i) (hE : Err w t v) :
    Calls Tryz.prog 96 #[.slice a len cap, .pointer (some ⟨p, 0, none⟩)] w fun e w' => e = .panicked [{ v := .iface t v, recovered := false }] ∧ w' = w := by
  have c0 : w.cell? ⟨p, 0, none⟩ = some (.int .i64 i) := by rw [cell_of_row w p 0 _ 3 (0, 0) hp]; rfl
  unfold Err at hE
  clear hp
  by_cases h0 : i < 0
  · clear hi
    go_enter Tryz.func96, Tryz.ntmps96
    go_wp2
    exact ⟨rfl, rfl, rfl⟩
  · have h1 : (len : Int) ≤ i := by omega
    clear hi
    go_enter Tryz.func96, Tryz.ntmps96
    go_wp2
    exact ⟨rfl, rfl, rfl⟩

theorem In.out {w w' : World} {B p : Nat} {a : Option Addr} {len : Nat} {zs : List Int} (h : In w B a len zs) (hg : w.grownBy w' (some p)) (hB : B ≤ p) (hp : p < w.heap.size) : In w' B a len zs :=
  h.kept (fun k hk => hg.block k (by omega) (fun e => by cases e; omega))

theorem Err.out {w w' : World} {p : Nat} {t : TypeId} {v : Value} (h : Err w t v) (hg : w.grownBy w' (some p)) (hp : 0 < p) : Err w' t v :=
  hg.cell h (fun e => by simp at e; omega)

theorem place_put {w w' : World} {p : Nat} {x y : Int} (hg : w.grownBy w' (some p)) (hp : w'.heap[p]? = some (.cells #[.int .i64 x] 3 (0, 0))) :
    (w'.setCell ⟨p, 0, none⟩ (.int .i64 y)).heap[p]? = some (.cells #[.int .i64 y] 3 (0, 0)) ∧ w.grownBy (w'.setCell ⟨p, 0, none⟩ (.int .i64 y)) (some p) :=
  ⟨heap_setCell_same w' p 0 _ 3 _ hp, grownBy_trans hg ⟨rfl, rfl, rfl, by simp, fun k _ hk => heap_setCell_other w' ⟨p, 0, none⟩ k _ (fun e => hk (by rw [e]))⟩⟩

/-- The number that begins at place k, as the readers go: f bytes may still come, n is what there was, wt the weight of the next one. -/
def gnF (zs : List Int) : Nat → Nat → Int → Int → Option (Int × Nat)
  | 0, _, _, _ => none
  | f + 1, k, n, wt =>
    if k < zs.length then
      if zs.getD k 0 < 128 then
        if 16777215 < n + zs.getD k 0 % 128 * wt ∨ (zs.getD k 0 = 0 ∧ 1 < wt) then none else some (n + zs.getD k 0 % 128 * wt, k + 1)
      else gnF zs f (k + 1) (n + zs.getD k 0 % 128 * wt) (wt * 128)
    else none
def gn (zs : List Int) (i : Int) : Option (Int × Nat) := if 0 ≤ i then gnF zs 4 i.toNat 0 1 else none

theorem gnF_end (zs : List Int) (f k : Nat) (n wt : Int) (h : zs.length ≤ k) : gnF zs f k n wt = none := by
  cases f with
  | zero => rfl
  | succ f => simp [gnF, show ¬ k < zs.length from by omega]
theorem gnF_on (zs : List Int) (f k : Nat) (n wt : Int) (h : k < zs.length) (hd : 128 ≤ zs.getD k 0) : gnF zs (f + 1) k n wt = gnF zs f (k + 1) (n + zs.getD k 0 % 128 * wt) (wt * 128) := by
  rw [gnF, if_pos h, if_neg (by omega)]
theorem gnF_no (zs : List Int) (f k : Nat) (n wt : Int) (h : k < zs.length) (hd : zs.getD k 0 < 128) (hb : 16777215 < n + zs.getD k 0 % 128 * wt ∨ (zs.getD k 0 = 0 ∧ 1 < wt)) : gnF zs (f + 1) k n wt = none := by
  rw [gnF, if_pos h, if_pos hd, if_pos hb]
theorem gnF_yes (zs : List Int) (f k : Nat) (n wt : Int) (h : k < zs.length) (hd : zs.getD k 0 < 128) (hb : ¬ (16777215 < n + zs.getD k 0 % 128 * wt ∨ (zs.getD k 0 = 0 ∧ 1 < wt))) : gnF zs (f + 1) k n wt = some (n + zs.getD k 0 % 128 * wt, k + 1) := by
  rw [gnF, if_pos h, if_pos hd, if_neg hb]
end Go.Proofs.YtpgmipbanpofaaaGreatDoor
