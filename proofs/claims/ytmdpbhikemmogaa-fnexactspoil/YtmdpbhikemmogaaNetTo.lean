/-
  Packets and nets: how great they are, and copied into new memory.
-/
import Derived.Test.YtmdpbhikemmogaaNetOpen
import Derived.Test.YtmdpbhikemmogaaCopy
import Derived.Deep.RegionWith
import Derived.Deep.CutRange
import Derived.BigRegion
namespace Go.Proofs.Ytmdpbhikemmogaa
open Go.RowKit

/-- A packet, a net, as values. -/
def pkV (p : Pk) (bv : Value) : Value := .agg #[.int .i64 p.f, .int .i64 p.t, bv, .bool p.s]
def netV (size : Int) (lv : Value) : Value := .agg #[.int .i64 size, lv]

theorem load2 {w : World} {g : Nat} {a0 a1 : Value} (h : w.heap[g]? = some (.cells #[a0, a1] 26 (0, 0))) : (loadVar 26 ⟨g, 0, none⟩).run Try.prog w = .ok (.agg #[a0, a1]) w :=
  run_loadVar_row w g 26 26 #[a0, a1] (0, 0) _ h Try.underlying26 rfl (by kernel_rfl)
theorem load4 {w : World} {g : Nat} {a0 a1 a2 a3 : Value} (h : w.heap[g]? = some (.cells #[a0, a1, a2, a3] 28 (0, 0))) : (loadVar 28 ⟨g, 0, none⟩).run Try.prog w = .ok (.agg #[a0, a1, a2, a3]) w :=
  run_loadVar_row w g 28 28 #[a0, a1, a2, a3] (0, 0) _ h Try.underlying28 rfl (by kernel_rfl)
theorem put4 {w : World} {g : Nat} {T : TypeId} {a0 a1 a2 a3 : Value} (h : w.heap[g]? = some (.cells #[a0, a1, a2, a3] T (0, 0))) (b0 b1 b2 b3 : Value) :
    ((((w.setCell ⟨g, 0, none⟩ b0).setCell ⟨g, 1, none⟩ b1).setCell ⟨g, 2, none⟩ b2).setCell ⟨g, 3, none⟩ b3).heap[g]? = some (.cells #[b0, b1, b2, b3] T (0, 0)) := by
  have h0 : (w.setCell ⟨g, 0, none⟩ b0).heap[g]? = some (.cells #[b0, a1, a2, a3] T (0, 0)) := heap_setCell_same _ g 0 _ T b0 h
  have h1 : ((w.setCell ⟨g, 0, none⟩ b0).setCell ⟨g, 1, none⟩ b1).heap[g]? = some (.cells #[b0, b1, a2, a3] T (0, 0)) := heap_setCell_same _ g 1 _ T b1 h0
  have h2 : (((w.setCell ⟨g, 0, none⟩ b0).setCell ⟨g, 1, none⟩ b1).setCell ⟨g, 2, none⟩ b2).heap[g]? = some (.cells #[b0, b1, b2, a3] T (0, 0)) := heap_setCell_same _ g 2 _ T b2 h1
  exact heap_setCell_same _ g 3 _ T b3 h2
theorem put2 {w : World} {g : Nat} {T : TypeId} {a0 a1 : Value} (h : w.heap[g]? = some (.cells #[a0, a1] T (0, 0))) (b0 b1 : Value) :
    ((w.setCell ⟨g, 0, none⟩ b0).setCell ⟨g, 1, none⟩ b1).heap[g]? = some (.cells #[b0, b1] T (0, 0)) := by
  have h0 : (w.setCell ⟨g, 0, none⟩ b0).heap[g]? = some (.cells #[b0, a1] T (0, 0)) := heap_setCell_same _ g 0 _ T b0 h
  exact heap_setCell_same _ g 1 _ T b1 h0

theorem szBytes (a : Option Addr) (len cap : Nat) (left : Int) (w : World) (h0 : 0 ≤ left) (h1 : left ≤ 1048576) (hl : len ≤ maxLen) :
    Calls Try.prog 62 #[.slice a len cap, .int .i64 left] w fun e w' => e = .returned (.int .i64 (if left < len then -1 else left - len)) ∧ w' = w := by
  unfold maxLen at hl
  by_cases hlt : left < (len : Int)
  · rw [if_pos hlt]
    have hl2 : left - (len : Int) < 0 := by omega
    go_enter Try.func62, Try.ntmps62
    go_wp2
    go_ret
    exact ⟨rfl, rfl⟩
  · rw [if_neg hlt]
    have hl2 : ¬ left - (len : Int) < 0 := by omega
    go_enter Try.func62, Try.ntmps62
    go_wp2
    go_ret
    exact ⟨rfl, rfl⟩

theorem szPk (f t : Int) (s : Bool) (a : Option Addr) (len cap : Nat) (left : Int) (w : World) (h0 : 0 ≤ left) (h1 : left ≤ 1048576) (hl : len ≤ maxLen) :
    Calls Try.prog 29 #[.agg #[.int .i64 f, .int .i64 t, .slice a len cap, .bool s], .int .i64 left] w fun e w' => e = .returned (.int .i64 (if left < len then -1 else left - len)) ∧ Below w.heap.size w w' := by
  have HZ := hide (szBytes a len cap left (w.alloc (.cells #[.int .i64 f, .int .i64 t, .slice a len cap, .bool s] 51)) h0 h1 hl)
  have HB := hide ((Below.refl w.heap.size w).alloc (Nat.le_refl _) (.cells #[.int .i64 f, .int .i64 t, .slice a len cap, .bool s] 51))
  by_cases hlt : left < (len : Int)
  · rw [if_pos hlt] at HZ ⊢
    go_enter Try.func29, Try.ntmps29
    go_wp2_with fail
    refine (unhide HZ).mono ?_
    rintro e w1 ⟨rfl, rfl⟩
    go_wp2
    go_ret
    exact ⟨rfl, HB.out⟩
  · rw [if_neg hlt] at HZ ⊢
    have hl2 : ¬ left - (len : Int) < 0 := by omega
    go_enter Try.func29, Try.ntmps29
    go_wp2_with fail
    refine (unhide HZ).mono ?_
    rintro e w1 ⟨rfl, rfl⟩
    go_wp2
    go_ret
    exact ⟨rfl, HB.out⟩

/-- How many bytes the first j packets have. -/
def upto (ps : List Pk) (j : Nat) : Nat := (ps.take j).foldr (fun p n => p.b.length + n) 0
theorem upto_step (ps : List Pk) (j : Nat) (h : j < ps.length) : upto ps (j + 1) = upto ps j + (ps.getD j default).b.length := by
  unfold upto
  rw [List.take_succ_eq_append_getElem h, List.foldr_append]
  simp only [List.foldr_cons, List.foldr_nil, Nat.add_zero]
  rw [fold_add]
  simp [h]
theorem upto_all (ps : List Pk) : upto ps ps.length = tot ps - ps.length := by
  unfold upto tot
  rw [List.take_length, fold_add ps ps.length]; omega

/-- The cells of packets that came in, one by one. -/
theorem raw_at {w : World} {v : Value} {xs : List (Pk × Value)} (h : Rd w w.heap.size 4 v xs.length (xs.flatMap pkC)) (hr : ∀ x ∈ xs, RawB w x) :
    ∃ a cap, v = .slice a xs.length cap ∧ (0 < xs.length → ∃ b o, a = some ⟨b, o, none⟩ ∧ b < w.heap.size ∧ ∀ j, j < xs.length → ∃ a' cap', ((xs.map Prod.fst).getD j default).b.length ≤ maxLen ∧
      w.cell? ⟨b, o + j * 4, none⟩ = some (.int .i64 ((xs.map Prod.fst).getD j default).f) ∧ w.cell? ⟨b, o + j * 4 + 1, none⟩ = some (.int .i64 ((xs.map Prod.fst).getD j default).t) ∧
      w.cell? ⟨b, o + j * 4 + 2, none⟩ = some (.slice a' ((xs.map Prod.fst).getD j default).b.length cap') ∧ w.cell? ⟨b, o + j * 4 + 3, none⟩ = some (.bool ((xs.map Prod.fst).getD j default).s)) := by
  obtain ⟨_, a, cap, rfl, h2, h3, h4⟩ := h
  refine ⟨a, cap, rfl, fun hp => ?_⟩
  obtain ⟨b, o, rfl, hb, hc⟩ := h4 hp
  refine ⟨b, o, rfl, hb, fun j hj => ?_⟩
  have hg : (xs.map Prod.fst).getD j default = (xs.getD j default).1 := by simp [List.getD, hj]
  have hx : xs.getD j default ∈ xs := by
    have : xs.getD j default = xs[j] := by simp [hj]
    rw [this]; exact List.getElem_mem _
  rw [hg]
  obtain ⟨hm, a', cap', zs, e, _⟩ := hr _ hx
  refine ⟨a', cap', hm, ?_, ?_, ?_, ?_⟩
  · rw [show o + j * 4 = o + (j * 4 + 0) from rfl, hc _ (by omega), flat_get pkC 4 pkC_len xs default j 0 hj (by omega)]; rfl
  · rw [Nat.add_assoc, hc _ (by omega), flat_get pkC 4 pkC_len xs default j 1 hj (by omega)]; rfl
  · rw [Nat.add_assoc, hc _ (by omega), flat_get pkC 4 pkC_len xs default j 2 hj (by omega), ← e]; rfl
  · rw [Nat.add_assoc, hc _ (by omega), flat_get pkC 4 pkC_len xs default j 3 hj (by omega)]; rfl

set_option maxRecDepth 100000 in
set_option maxHeartbeats 2000000 in
theorem szPks (w : World) (v : Value) (xs : List (Pk × Value)) (hx : ∀ wr, Below w.heap.size w wr → Rd wr wr.heap.size 4 v xs.length (xs.flatMap pkC) ∧ ∀ x ∈ xs, RawB wr x) (hm : xs.length ≤ maxLen) :
    Calls Try.prog 59 #[v, .int .i64 1048576] w fun e w' => ∃ r : Int, e = .returned (.int .i64 r) ∧ (r < 0 ∨ r = 1048576 - (tot (xs.map Prod.fst) : Int)) ∧ Below w.heap.size w w' := by
  have HX : Hid (∀ wr, Below w.heap.size w wr → _) := hide (fun wr hb => raw_at (hx wr hb).1 (hx wr hb).2)
  obtain ⟨a, cap, rfl, _⟩ := HX.out w (Below.refl _ _)
  clear hx
  generalize hps : xs.map Prod.fst = ps at *
  have hl : ps.length = xs.length := by rw [← hps]; simp
  generalize hn : xs.length = n at *
  unfold maxLen at hm
  have HA := hide (upto_all ps)
  by_cases hbig : (1048576 : Int) - (n : Int) < 0
  · go_enter Try.func59, Try.ntmps59
    go_wp2
    go_ret
    exact ⟨_, rfl, .inl (by omega), Below.refl _ _⟩
  · go_enter Try.func59, Try.ntmps59
    go_wp2
    go_loopw [1, 5] (fun q i wr => ∃ j : Nat, j ≤ n ∧ q = .int .i64 (1048576 - (n : Int) - (upto ps j : Int)) ∧ i = .int .i64 (j : Int) ∧ 0 ≤ 1048576 - (n : Int) - (upto ps j : Int) ∧ Hid (Below w.heap.size w wr)) (fun _ i _ => n - (intOf i).toNat)
    case atStart => exact ⟨0, Nat.zero_le _, by simp [upto], rfl, by simp [upto]; omega, hide (Below.refl _ _)⟩
    case round =>
      obtain ⟨j, hj, rfl, rfl, h0, HB⟩ := hrel
      by_cases hlt : j < n
      · obtain ⟨a', cap', ea, hx⟩ := HX.out wr HB.out
        cases ea
        obtain ⟨b, o, rfl, hbB, hcell⟩ := hx (by omega)
        obtain ⟨a2, c2, hml, e0, e1, e2, e3⟩ := hcell j hlt
        have HU := hide (upto_step ps j (by omega))
        clear hcell hx
        generalize (ps.getD j default).b.length = l at *
        generalize (ps.getD j default).f = f at *
        generalize (ps.getD j default).t = t at *
        generalize (ps.getD j default).s = s at *
        have HZ := hide (szPk f t s a2 l c2 (1048576 - (n : Int) - (upto ps j : Int)) wr h0 (by omega) hml)
        by_cases hlt2 : 1048576 - (n : Int) - (upto ps j : Int) < (l : Int)
        · rw [if_pos hlt2] at HZ
          go_wp2_with fail
          refine (unhide HZ).mono ?_
          rintro e w1 ⟨rfl, b1⟩
          replace HB := hide (HB.out.trans (b1.mono HB.out.size))
          clear b1
          go_wp2
          go_ret
          exact ⟨_, rfl, .inl (by omega), HB.out⟩
        · rw [if_neg hlt2] at HZ
          have hn2 : ¬ (1048576 - (n : Int) - (upto ps j : Int) - (l : Int)) < 0 := by omega
          go_wp2_with fail
          refine (unhide HZ).mono ?_
          rintro e w1 ⟨rfl, b1⟩
          replace HB := hide (HB.out.trans (b1.mono HB.out.size))
          clear b1
          have e9 : (1048576 : Int) - (n : Int) - (upto ps j : Int) - (l : Int) = 1048576 - (n : Int) - (upto ps (j + 1) : Int) := by rw [HU.out]; omega
          go_wp2
          exact ⟨⟨j + 1, by omega, by first | rfl | (rw [e9]), by go_num, by rw [← e9]; omega, HB⟩, by simp [intOf]; omega⟩
      · obtain rfl : j = n := by omega
        have HF : Hid ((upto ps j : Nat) = tot ps - ps.length) := hide (by rw [← HA.out, hl])
        have HT := hide (tot_len ps)
        go_wp2
        go_ret
        exact ⟨_, rfl, .inr (by have := HF.out; have := HT.out; omega), HB.out⟩

theorem raw_below {w w' : World} {x : Pk × Value} (h : RawB w x) (hb : Below w.heap.size w w') : RawB w' x := by
  obtain ⟨h1, a, cap, zs, e, hr, ht⟩ := h
  refine ⟨h1, a, cap, zs, e, ?_, ht⟩
  rcases hr with hr | ⟨y, hy, h2, h3, h4, h5, h6⟩
  · exact .inl hr
  · exact .inr ⟨y, hy, h2, h3, h4, fun i hi => (hb.cell (World.block_lt_of_cell? w _ (h5 i hi))).trans (h5 i hi), h6⟩

/-- Of a net that came in: how great it is; if not too great, it may be read. -/
theorem szNet (w : World) (size : Int) (v : Value) (xs : List (Pk × Value)) (h : Rd w w.heap.size 4 v xs.length (xs.flatMap pkC)) (hr : ∀ x ∈ xs, RawB w x) (hm : xs.length ≤ maxLen) :
    Calls Try.prog 26 #[netV size v, .int .i64 1048576] w fun e w' => ∃ r : Int, e = .returned (.int .i64 r) ∧ (0 ≤ r → r = 1048576 - (tot (xs.map Prod.fst) : Int) ∧ RdP w w.heap.size v (xs.map Prod.fst)) ∧ Below w.heap.size w w' := by
  have HR : Hid (tot (xs.map Prod.fst) ≤ 1048576 → RdP w w.heap.size v (xs.map Prod.fst)) := hide (fun ht => ⟨xs, rfl, h, fun x hx => (hr x hx).bt (by have := tot_mem (List.mem_map_of_mem (f := Prod.fst) hx); omega)⟩)
  have HX : Hid (∀ wr, Below w.heap.size w wr → Rd wr wr.heap.size 4 v xs.length (xs.flatMap pkC) ∧ ∀ x ∈ xs, RawB wr x) := hide (fun wr hb => ⟨h.at hb, fun x hx => raw_below (hr x hx) hb⟩)
  obtain ⟨_, a, cap, rfl, _⟩ := h
  clear hr
  unfold netV
  have HB := hide ((Below.refl w.heap.size w).alloc (Nat.le_refl _) (.cells #[.int .i64 size, .slice a xs.length cap] 46))
  go_enter Try.func26, Try.ntmps26
  go_wp2_with fail
  refine (szPks _ _ xs (fun wr hb => HX.out wr (HB.out.trans (hb.mono HB.out.size))) hm).mono ?_
  rintro e w1 ⟨r, rfl, hr, b1⟩
  replace HB := hide (HB.out.trans (b1.mono HB.out.size))
  clear b1
  have HQ := hide hr
  clear hr
  by_cases hr0 : r < 0
  · go_wp2
    go_ret
    exact ⟨_, rfl, fun h => by omega, HB.out⟩
  · go_wp2
    go_ret
    exact ⟨_, rfl, fun h => by
      rcases HQ.out with h1 | h1
      · omega
      · exact ⟨h1, HR.out (by omega)⟩, HB.out⟩
set_option maxRecDepth 100000 in
set_option maxHeartbeats 2000000 in
theorem toPk (w : World) (p : Pk) (bv : Value) (h : Bt w w.heap.size bv p.b) :
    Calls Try.prog 30 #[pkV p bv] w fun e w' => ∃ v', e = .returned (pkV p v') ∧ Own w' w.heap.size v' p.b ∧ Below w.heap.size w w' := by
  obtain ⟨a, cap, rfl, _, hin⟩ := h
  have HI := hide hin
  clear hin
  obtain ⟨f, t, zs, s⟩ := p
  simp only at HI
  unfold pkV
  simp only
  go_enter Try.func30, Try.ntmps30
  go_wp2_with fail
  have G0 := heap_alloc_new w (.cells #[.int .i64 f, .int .i64 t, .slice a zs.length cap, .bool s] 51)
  have G1 := heap_alloc_new (w.alloc (.cells #[.int .i64 f, .int .i64 t, .slice a zs.length cap, .bool s] 51)) (.cells #[.int .i64 0, .int .i64 0, .slice none 0 0, .bool false] 28)
  have G2 := heap_alloc_new ((w.alloc (.cells #[.int .i64 f, .int .i64 t, .slice a zs.length cap, .bool s] 51)).alloc (.cells #[.int .i64 0, .int .i64 0, .slice none 0 0, .bool false] 28)) (.cells #[.int .i64 f, .int .i64 t, .slice none 0 0, .bool false] 28)
  simp only [World.size_alloc] at G1 G2
  have bA := (((Below.refl w.heap.size w).alloc (Nat.le_refl _) (.cells #[.int .i64 f, .int .i64 t, .slice a zs.length cap, .bool s] 51)).alloc (by simp) (.cells #[.int .i64 0, .int .i64 0, .slice none 0 0, .bool false] 28)).alloc (by simp; omega) (.cells #[.int .i64 f, .int .i64 t, .slice none 0 0, .bool false] 28)
  refine (copyB _ _ _ _ _ (HI.out.at bA)).mono ?_
  rintro e w1 ⟨c1, rfl, o1, b1⟩
  have HO := hide o1
  have E0 := (b1.block w.heap.size (by simp; omega)).trans ((Below.heap_alloc _ _ _ (by simp; omega)).trans ((Below.heap_alloc _ _ _ (by simp)).trans G0))
  have E1 := (b1.block (w.heap.size + 1) (by simp)).trans ((Below.heap_alloc _ _ _ (by simp)).trans G1)
  have E2 := (b1.block (w.heap.size + 1 + 1) (by simp)).trans G2
  have HB := hide (bA.trans (b1.mono (by simp; omega)))
  clear b1 o1 G0 G1 G2 bA
  have X0 := box_of E0
  have X2 := box_of E2
  have X1 := box_of E1
  have f3 := X0.1 3 _ rfl
  have g0 := X2.1 0 _ rfl
  have g1 := X2.1 1 _ rfl
  have g2 := X2.1 2 _ rfl
  have g3 := X2.1 3 _ rfl
  have z2 := X2.2
  have r0 := X1.1 0 _ rfl
  have r1 := X1.1 1 _ rfl
  have r2 := X1.1 2 _ rfl
  have r3 := X1.1 3 _ rfl
  have z1 := X1.2
  have H1 := hide E1
  simp only [World.size_alloc] at HO
  clear X0 X1 X2 E0 E1 E2
  go_wp2
  refine bodyPost_ret (v := .agg #[.int .i64 f, .int .i64 t, .slice (some ⟨w.heap.size + 1 + 1 + 1, 0, none⟩) zs.length c1, .bool s]) (results_one Try.results30 _ _ _ rfl (load4 (put4 ((heap_setCell_other _ _ _ _ (by simp)).trans ((heap_setCell_other _ _ _ _ (by simp)).trans H1.out)) _ _ _ _))) rfl ⟨_, rfl, ?_, ?_⟩
  · exact Own.mono (b := w.heap.size + 1 + 1 + 1) (own_set (own_set (own_set (own_set (own_set (own_set HO.out (by omega) _ _) (by omega) _ _) (by omega) _ _) (by omega) _ _) (by omega) _ _) (by omega) _ _) (by omega)
  · exact (((((HB.out.setCell (by simp; omega) _).setCell (by simp; omega) _).setCell (by simp) _).setCell (by simp) _).setCell (by simp) _).setCell (by simp) _
end Go.Proofs.Ytmdpbhikemmogaa
