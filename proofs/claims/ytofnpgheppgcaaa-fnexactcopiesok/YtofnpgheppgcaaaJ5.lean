/-
  Joined: KfSz, InsD.
-/
import Derived.Test.YtofnpgheppgcaaaJ4
import Derived.Test.YtofnpgheppgcaaaJ3
/-
  How great texts, consts and fields are that come in.
-/
namespace Go.Proofs.Ytofnpgheppgcaaa
open Go.RowKit

def kcW (x : Kc) : Nat := x.a.size + x.b.size
def fdW (x : Fd) : Nat := x.n.size + x.t.size
theorem szKc (x : Kc) (left : Int) (w : World) (h0 : 0 ≤ left) (h1 : left ≤ 1048576) (hr : KcR x) :
    Calls Try.prog 85 #[kcV x, .int .i64 left] w fun e w' => e = .returned (.int .i64 (szR left (kcW x))) ∧ Below w.heap.size w w' := by
  have ha := hr.1
  have hb := hr.2
  unfold maxLen at ha hb
  unfold kcV kcW
  have hw : IntKind.i64.wrap (left - (x.a.size : Int)) = left - (x.a.size : Int) := by rw [IntKind.wrap_i64]; omega
  by_cases g1 : left - (x.a.size : Int) < 0
  · rw [szR_neg (by omega)]
    go_enter Try.func85, Try.ntmps85
    go_wp2
    go_ret
    exact ⟨rfl, (Below.refl _ _).alloc (Nat.le_refl _) _⟩
  · have hw2 : IntKind.i64.wrap (left - (x.a.size : Int) - (x.b.size : Int)) = left - (x.a.size : Int) - (x.b.size : Int) := by rw [IntKind.wrap_i64]; omega
    by_cases g2 : left - (x.a.size : Int) - (x.b.size : Int) < 0
    · rw [szR_neg (by omega)]
      go_enter Try.func85, Try.ntmps85
      go_wp2
      go_ret
      exact ⟨rfl, (Below.refl _ _).alloc (Nat.le_refl _) _⟩
    · rw [szR_pos (by omega)]
      go_enter Try.func85, Try.ntmps85
      go_wp2
      go_ret
      exact ⟨ret_int (by omega), (Below.refl _ _).alloc (Nat.le_refl _) _⟩
theorem szFd (x : Fd) (left : Int) (w : World) (h0 : 0 ≤ left) (h1 : left ≤ 1048576) (hr : FdR x) :
    Calls Try.prog 86 #[fdV x, .int .i64 left] w fun e w' => e = .returned (.int .i64 (szR left (fdW x))) ∧ Below w.heap.size w w' := by
  have ha := hr.1
  have hb := hr.2
  unfold maxLen at ha hb
  unfold fdV fdW
  have hw : IntKind.i64.wrap (left - (x.n.size : Int)) = left - (x.n.size : Int) := by rw [IntKind.wrap_i64]; omega
  by_cases g1 : left - (x.n.size : Int) < 0
  · rw [szR_neg (by omega)]
    go_enter Try.func86, Try.ntmps86
    go_wp2
    go_ret
    exact ⟨rfl, (Below.refl _ _).alloc (Nat.le_refl _) _⟩
  · have hw2 : IntKind.i64.wrap (left - (x.n.size : Int) - (x.t.size : Int)) = left - (x.n.size : Int) - (x.t.size : Int) := by rw [IntKind.wrap_i64]; omega
    by_cases g2 : left - (x.n.size : Int) - (x.t.size : Int) < 0
    · rw [szR_neg (by omega)]
      go_enter Try.func86, Try.ntmps86
      go_wp2
      go_ret
      exact ⟨rfl, (Below.refl _ _).alloc (Nat.le_refl _) _⟩
    · rw [szR_pos (by omega)]
      go_enter Try.func86, Try.ntmps86
      go_wp2
      go_ret
      exact ⟨ret_int (by omega), (Below.refl _ _).alloc (Nat.le_refl _) _⟩
set_option maxRecDepth 100000 in
set_option maxHeartbeats 2000000 in
theorem szSt (w : World) (B : Nat) (v : Value) (xs : List ByteArray) (left : Int) (h : Reads w B (strs xs) v) (h0 : 0 ≤ left) (h1 : left ≤ 1048576) (hx : ∀ x ∈ xs, x.size ≤ maxLen) (hm : xs.length ≤ maxLen) :
    Calls Try.prog 97 #[v, .int .i64 left] w fun e w' => e = .returned (.int .i64 (szR left (xs.length + tot ByteArray.size xs))) ∧ w' = w := by
  have HR : Hid (∀ j, j < xs.length → (xs.getD j default).size ≤ maxLen) := hide (fun j hj => getD_mem hx j hj)
  have HS : Hid (∀ j, j < xs.length → tot ByteArray.size (xs.take (j + 1)) = tot ByteArray.size (xs.take j) + (xs.getD j default).size) := hide (fun j hj => tot_step _ xs j hj)
  have HL : Hid (∀ j, tot ByteArray.size (xs.take j) ≤ tot ByteArray.size xs) := hide (tot_le _ xs)
  have HA : Hid (tot ByteArray.size (xs.take xs.length) = tot ByteArray.size xs) := hide (by rw [List.take_length])
  obtain ⟨a, cap, rfl, _, _, hc⟩ := str_at h
  have HX := hide hc
  clear h hx hc
  generalize hn : xs.length = n at *
  unfold maxLen at hm
  have hw : IntKind.i64.wrap (left - (n : Int)) = left - (n : Int) := by rw [IntKind.wrap_i64]; omega
  by_cases hbig : left - (n : Int) < 0
  · rw [szR_neg (by omega)]
    go_enter Try.func97, Try.ntmps97
    go_wp2
    go_ret
    exact ⟨rfl, rfl⟩
  · go_enter Try.func97, Try.ntmps97
    go_wp2
    go_loopw [1, 5] (fun q i wr => ∃ j : Nat, j ≤ n ∧ q = .int .i64 (left - (n : Int) - (tot ByteArray.size (xs.take j) : Int)) ∧ i = .int .i64 (j : Int) ∧ 0 ≤ left - (n : Int) - (tot ByteArray.size (xs.take j) : Int) ∧ wr = w) (fun _ i _ => n - (intOf i).toNat)
    case atStart => exact ⟨0, Nat.zero_le _, by simp [tot], rfl, by simp [tot]; omega, rfl⟩
    case round =>
      obtain ⟨j, hj, rfl, rfl, hq, rfl⟩ := hrel
      by_cases hlt : j < n
      · obtain ⟨b, o, rfl, _, hcell⟩ := HX.out (by omega)
        have e0 := hcell j hlt
        have hz := HR.out j hlt
        have hs := HS.out j hlt
        have hle := HL.out (j + 1)
        clear hcell
        generalize xs.getD j default = x at *
        unfold maxLen at hz
        have hw2 : IntKind.i64.wrap (left - (n : Int) - (tot ByteArray.size (xs.take j) : Int) - (x.size : Int)) = left - (n : Int) - (tot ByteArray.size (xs.take j) : Int) - (x.size : Int) := by rw [IntKind.wrap_i64]; omega
        have HE : Hid (left - (n : Int) - (tot ByteArray.size (xs.take j) : Int) - (x.size : Int) = left - (n : Int) - (tot ByteArray.size (xs.take (j + 1)) : Int)) := hide (by rw [hs]; omega)
        have HN : Hid (left - (n : Int) - (tot ByteArray.size (xs.take (j + 1)) : Int) < 0 → szR left (n + tot ByteArray.size xs) = -1) := hide (fun h => szR_neg (by omega))
        clear hs hle hz HS HL
        by_cases g : left - (n : Int) - (tot ByteArray.size (xs.take j) : Int) - (x.size : Int) < 0
        · go_wp2
          go_ret
          exact ⟨by rw [HN.out (by rw [← HE.out]; exact g)]; rfl, rfl⟩
        · go_wp2
          exact ⟨⟨j + 1, by omega, by first | rfl | (rw [HE.out]), by go_num, by rw [← HE.out]; omega, by first | rfl | trivial⟩, by simp [intOf]; omega⟩
      · obtain rfl : j = n := by omega
        have HF : Hid (szR left (j + tot ByteArray.size xs) = left - (j : Int) - (tot ByteArray.size (xs.take j) : Int)) := hide (by rw [szR_pos (by rw [← HA.out]; omega), ← HA.out]; omega)
        go_wp2
        go_ret
        exact ⟨by rw [HF.out]; rfl, rfl⟩
set_option maxRecDepth 100000 in
set_option maxHeartbeats 4000000 in
theorem szKcs (w : World) (v : Value) (xs : List Kc) (left : Int) (h : Reads w w.heap.size (pool xs) v) (h0 : 0 ≤ left) (h1 : left ≤ 1048576) (hx : ∀ x ∈ xs, KcR x) (hm : xs.length ≤ maxLen) :
    Calls Try.prog 73 #[v, .int .i64 left] w fun e w' => e = .returned (.int .i64 (szR left (xs.length + tot kcW xs))) ∧ Below w.heap.size w w' := by
  have HX : Hid (∀ wr, Below w.heap.size w wr → _) := hide (fun wr hb => const_at (h.at hb))
  have HR : Hid (∀ j, j < xs.length → KcR (xs.getD j default)) := hide (fun j hj => getD_mem hx j hj)
  have HS : Hid (∀ j, j < xs.length → tot kcW (xs.take (j + 1)) = tot kcW (xs.take j) + kcW (xs.getD j default)) := hide (fun j hj => tot_step _ xs j hj)
  have HL : Hid (∀ j, tot kcW (xs.take j) ≤ tot kcW xs) := hide (tot_le _ xs)
  have HA : Hid (tot kcW (xs.take xs.length) = tot kcW xs) := hide (by rw [List.take_length])
  obtain ⟨a, cap, rfl, _⟩ := const_at h
  clear h hx
  generalize hn : xs.length = n at *
  unfold maxLen at hm
  have hw : IntKind.i64.wrap (left - (n : Int)) = left - (n : Int) := by rw [IntKind.wrap_i64]; omega
  by_cases hbig : left - (n : Int) < 0
  · rw [szR_neg (by omega)]
    go_enter Try.func73, Try.ntmps73
    go_wp2
    go_ret
    exact ⟨rfl, Below.refl _ _⟩
  · go_enter Try.func73, Try.ntmps73
    go_wp2
    go_loopw [1, 5] (fun q i wr => ∃ j : Nat, j ≤ n ∧ q = .int .i64 (left - (n : Int) - (tot kcW (xs.take j) : Int)) ∧ i = .int .i64 (j : Int) ∧ 0 ≤ left - (n : Int) - (tot kcW (xs.take j) : Int) ∧ Hid (Below w.heap.size w wr)) (fun _ i _ => n - (intOf i).toNat)
    case atStart => exact ⟨0, Nat.zero_le _, by simp [tot], rfl, by simp [tot]; omega, hide (Below.refl _ _)⟩
    case round =>
      obtain ⟨j, hj, rfl, rfl, hq, HB⟩ := hrel
      by_cases hlt : j < n
      · obtain ⟨a', cap', ea, _, _, hc⟩ := HX.out wr HB.out
        cases ea
        obtain ⟨b, o, rfl, _, hcell⟩ := hc (by omega)
        obtain ⟨e0, e1, e2, e3⟩ := hcell j hlt
        have hz := hide (HR.out j hlt)
        have hs := HS.out j hlt
        have hle := HL.out (j + 1)
        clear hcell hc
        generalize xs.getD j default = x at *
        have HZ := hide (szKc x _ wr hq (by omega) hz.out)
        generalize kcW x = t at *
        have HE : Hid (left - (n : Int) - (tot kcW (xs.take j) : Int) - (t : Int) = left - (n : Int) - (tot kcW (xs.take (j + 1)) : Int)) := hide (by rw [hs]; omega)
        have HN : Hid (left - (n : Int) - (tot kcW (xs.take (j + 1)) : Int) < 0 → szR left (n + tot kcW xs) = -1) := hide (fun h => szR_neg (by omega))
        clear hs hle hz HS HL
        by_cases g : left - (n : Int) - (tot kcW (xs.take j) : Int) < (t : Int)
        · rw [szR_neg g] at HZ
          go_wp2_with fail
          refine (unhide HZ).mono ?_
          rintro e w1 ⟨rfl, b1⟩
          replace HB := hide (HB.out.trans (b1.mono HB.out.size))
          clear b1
          go_wp2
          go_ret
          exact ⟨by rw [HN.out (by rw [← HE.out]; omega)]; rfl, HB.out⟩
        · rw [szR_pos g] at HZ
          have g' : ¬ left - (n : Int) - (tot kcW (xs.take j) : Int) - (t : Int) < 0 := by omega
          go_wp2_with fail
          refine (unhide HZ).mono ?_
          rintro e w1 ⟨rfl, b1⟩
          replace HB := hide (HB.out.trans (b1.mono HB.out.size))
          clear b1
          go_wp2
          exact ⟨⟨j + 1, by omega, by first | rfl | (rw [HE.out]), by go_num, by rw [← HE.out]; omega, HB⟩, by simp [intOf]; omega⟩
      · obtain rfl : j = n := by omega
        have HF : Hid (szR left (j + tot kcW xs) = left - (j : Int) - (tot kcW (xs.take j) : Int)) := hide (by rw [szR_pos (by rw [← HA.out]; omega), ← HA.out]; omega)
        go_wp2
        go_ret
        exact ⟨by rw [HF.out]; rfl, HB.out⟩
set_option maxRecDepth 100000 in
set_option maxHeartbeats 4000000 in
theorem szFds (w : World) (v : Value) (xs : List Fd) (left : Int) (h : Reads w w.heap.size (flds xs) v) (h0 : 0 ≤ left) (h1 : left ≤ 1048576) (hx : ∀ x ∈ xs, FdR x) (hm : xs.length ≤ maxLen) :
    Calls Try.prog 74 #[v, .int .i64 left] w fun e w' => e = .returned (.int .i64 (szR left (xs.length + tot fdW xs))) ∧ Below w.heap.size w w' := by
  have HX : Hid (∀ wr, Below w.heap.size w wr → _) := hide (fun wr hb => field_at (h.at hb))
  have HR : Hid (∀ j, j < xs.length → FdR (xs.getD j default)) := hide (fun j hj => getD_mem hx j hj)
  have HS : Hid (∀ j, j < xs.length → tot fdW (xs.take (j + 1)) = tot fdW (xs.take j) + fdW (xs.getD j default)) := hide (fun j hj => tot_step _ xs j hj)
  have HL : Hid (∀ j, tot fdW (xs.take j) ≤ tot fdW xs) := hide (tot_le _ xs)
  have HA : Hid (tot fdW (xs.take xs.length) = tot fdW xs) := hide (by rw [List.take_length])
  obtain ⟨a, cap, rfl, _⟩ := field_at h
  clear h hx
  generalize hn : xs.length = n at *
  unfold maxLen at hm
  have hw : IntKind.i64.wrap (left - (n : Int)) = left - (n : Int) := by rw [IntKind.wrap_i64]; omega
  by_cases hbig : left - (n : Int) < 0
  · rw [szR_neg (by omega)]
    go_enter Try.func74, Try.ntmps74
    go_wp2
    go_ret
    exact ⟨rfl, Below.refl _ _⟩
  · go_enter Try.func74, Try.ntmps74
    go_wp2
    go_loopw [1, 5] (fun q i wr => ∃ j : Nat, j ≤ n ∧ q = .int .i64 (left - (n : Int) - (tot fdW (xs.take j) : Int)) ∧ i = .int .i64 (j : Int) ∧ 0 ≤ left - (n : Int) - (tot fdW (xs.take j) : Int) ∧ Hid (Below w.heap.size w wr)) (fun _ i _ => n - (intOf i).toNat)
    case atStart => exact ⟨0, Nat.zero_le _, by simp [tot], rfl, by simp [tot]; omega, hide (Below.refl _ _)⟩
    case round =>
      obtain ⟨j, hj, rfl, rfl, hq, HB⟩ := hrel
      by_cases hlt : j < n
      · obtain ⟨a', cap', ea, _, _, hc⟩ := HX.out wr HB.out
        cases ea
        obtain ⟨b, o, rfl, _, hcell⟩ := hc (by omega)
        obtain ⟨e0, e1⟩ := hcell j hlt
        have hz := hide (HR.out j hlt)
        have hs := HS.out j hlt
        have hle := HL.out (j + 1)
        clear hcell hc
        generalize xs.getD j default = x at *
        have HZ := hide (szFd x _ wr hq (by omega) hz.out)
        generalize fdW x = t at *
        have HE : Hid (left - (n : Int) - (tot fdW (xs.take j) : Int) - (t : Int) = left - (n : Int) - (tot fdW (xs.take (j + 1)) : Int)) := hide (by rw [hs]; omega)
        have HN : Hid (left - (n : Int) - (tot fdW (xs.take (j + 1)) : Int) < 0 → szR left (n + tot fdW xs) = -1) := hide (fun h => szR_neg (by omega))
        clear hs hle hz HS HL
        by_cases g : left - (n : Int) - (tot fdW (xs.take j) : Int) < (t : Int)
        · rw [szR_neg g] at HZ
          go_wp2_with fail
          refine (unhide HZ).mono ?_
          rintro e w1 ⟨rfl, b1⟩
          replace HB := hide (HB.out.trans (b1.mono HB.out.size))
          clear b1
          go_wp2
          go_ret
          exact ⟨by rw [HN.out (by rw [← HE.out]; omega)]; rfl, HB.out⟩
        · rw [szR_pos g] at HZ
          have g' : ¬ left - (n : Int) - (tot fdW (xs.take j) : Int) - (t : Int) < 0 := by omega
          go_wp2_with fail
          refine (unhide HZ).mono ?_
          rintro e w1 ⟨rfl, b1⟩
          replace HB := hide (HB.out.trans (b1.mono HB.out.size))
          clear b1
          go_wp2
          exact ⟨⟨j + 1, by omega, by first | rfl | (rw [HE.out]), by go_num, by rw [← HE.out]; omega, HB⟩, by simp [intOf]; omega⟩
      · obtain rfl : j = n := by omega
        have HF : Hid (szR left (j + tot fdW xs) = left - (j : Int) - (tot fdW (xs.take j) : Int)) := hide (by rw [szR_pos (by rw [← HA.out]; omega), ← HA.out]; omega)
        go_wp2
        go_ret
        exact ⟨by rw [HF.out]; rfl, HB.out⟩
end Go.Proofs.Ytofnpgheppgcaaa
/-
  Places of code: what they are as data, and how they come in.
-/
namespace Go.Proofs.Ytofnpgheppgcaaa
open Go.ChangeShapes Go.WideShapes Go.RowKit

structure Isn where
  o : Int
  n : Int
instance : Inhabited Isn := ⟨⟨0, 0⟩⟩
def inD (x : Isn) : List Dt := [.val (.int .i64 x.o), .val (.int .i64 x.n)]
def inC (x : Isn) : List Value := [.int .i64 x.o, .int .i64 x.n]
def inV (x : Isn) : Value := .agg #[.int .i64 x.o, .int .i64 x.n]
def inss (xs : List Isn) : Dt := .row 148 2 xs.length (xs.flatMap inD)
theorem ins_at {w : World} {B : Nat} {v : Value} {xs : List Isn} (h : Reads w B (inss xs) v) :
    ∃ a cap, v = .slice a xs.length cap ∧ xs.length ≤ cap ∧ (a = none → cap = 0) ∧ (0 < xs.length → ∃ b o, a = some ⟨b, o, none⟩ ∧ b < B ∧ ∀ j, j < xs.length → w.cell? ⟨b, o + j * 2, none⟩ = some (.int .i64 (xs.getD j default).o) ∧ w.cell? ⟨b, o + j * 2 + 1, none⟩ = some (.int .i64 (xs.getD j default).n)) := by
  obtain ⟨a, cap, rfl, h1, h2, h3⟩ := row_at (f := inD) (k := 2) (fun _ => rfl) rfl h
  refine ⟨a, cap, rfl, h1, h2, fun hp => ?_⟩
  obtain ⟨b, o, rfl, hb, hc⟩ := h3 hp
  refine ⟨b, o, rfl, hb, fun j hj => ?_⟩
  obtain ⟨vs, h4, h5⟩ := hc j hj
  obtain ⟨u0, vs0, rfl, q0, h4⟩ := readsL_cons h4
  obtain ⟨u1, vs1, rfl, q1, h4⟩ := readsL_cons h4
  obtain rfl := readsL_nil h4
  obtain rfl := reads_val q0
  obtain rfl := reads_val q1
  have c0 := h5 0 (by omega)
  have c1 := h5 1 (by omega)
  rw [Nat.add_zero] at c0
  exact ⟨c0, c1⟩
theorem in_reads {w : World} {B : Nat} (x : Isn) : ReadsL w B (inD x) (inC x) := readsL_mk reads_val' (readsL_mk reads_val' readsL_none)
/-- Numbers of 64 bits. -/
def InR (x : Isn) : Prop := (-9223372036854775808 ≤ x.o ∧ x.o ≤ 9223372036854775807) ∧ (-9223372036854775808 ≤ x.n ∧ x.n ≤ 9223372036854775807)
set_option maxRecDepth 100000 in
theorem in_cells {H : Type} {enc : TypeId × Value → H} {W : World} {fuel : Nat} {cs : List Value} {x : DataW H × List MemPlace}
    (h : DataW.trod enc Try.prog W 0 (fun _ => true) true fuel 150 cs = some x) : ∃ y, cs = inC y ∧ InR y := by
  have c0 : Try.prog.cellsOf 150 = 2 := by kernel_rfl
  have c3 : Try.prog.cellsOf 3 = 1 := by kernel_rfl
  obtain ⟨xs, n, rfl, rfl, hlen, hxl, hf⟩ := DataW.trod_struct Try.underlying150 h
  rw [c0] at hlen
  match xs, hxl, cs, hlen with
  | [y2, y3], _, [v2, v3], _ =>
    have g2 := hf 0 _ rfl
    have g3 := hf 1 _ rfl
    simp [c3] at g2 g3
    obtain ⟨a, e2, _, ha⟩ := DataW.trod_int Try.underlying3 g2
    obtain ⟨b, e3, _, hb⟩ := DataW.trod_int Try.underlying3 g3
    simp at e2 e3
    exact ⟨⟨a, b⟩, by rw [e2, e3]; rfl, bounds_i64 ha, bounds_i64 hb⟩
def IsInss (W : World) (v : Value) : Prop := ∃ (xs : List Isn), Reads W W.heap.size (inss xs) v ∧ xs.length ≤ maxLen ∧ ∀ x ∈ xs, InR x
set_option maxRecDepth 100000 in
theorem openInss {H : Type} {enc : TypeId × Value → H} {W : World} {r : Reach} {base : Nat} {v : Value} {d : DataW H} {p : List MemPlace}
    (hv : Value.okWide Try.prog W r base 127 v) (h : DataW.Trod enc Try.prog W 0 (fun _ => true) true 127 v d p) : IsInss W v := by
  obtain ⟨a, len, cap, rfl⟩ := okWide_slice Try.underlying127 hv
  obtain ⟨ys, h1, h2, h3⟩ := rd_open (sz := 2) (Q := InR) (f := inC) Try.underlying127 (by kernel_rfl) (by decide) (fun _ => rfl) (fun _ _ _ h => in_cells h) h
  have r1 : Reads W W.heap.size (inss ys) (.slice a len cap) := by
    have := reads_row (T := 148) (f := inD) (m := id) ys h1 (fun y _ => in_reads y)
    rwa [List.map_id] at this
  exact ⟨ys, r1, h2, all_of_getD h3⟩
end Go.Proofs.Ytofnpgheppgcaaa
