/-
  Rows of messages, senders and lines: how great they are, and copied into new memory.
-/
import Derived.Test.YtoaenoakdbieaaaSndOpen
import Derived.Test.YtoaenoakdbieaaaNetTo
import Derived.Deep.RegionWith
import Derived.Deep.CutRange
import Derived.BigRegion
namespace Go.Proofs.Ytoaenoakdbieaaa
open Go.RowKit

/-- A sender, a line, as values. -/
def sndV (base : Int) (lv : Value) : Value := .agg #[.int .i64 base, lv]

theorem loadS {w : World} {g : Nat} {a0 a1 : Value} (h : w.heap[g]? = some (.cells #[a0, a1] 51 (0, 0))) : (loadVar 51 ⟨g, 0, none⟩).run Try.prog w = .ok (.agg #[a0, a1]) w :=
  run_loadVar_row w g 51 51 #[a0, a1] (0, 0) _ h Try.underlying51 rfl (by kernel_rfl)

/-- What is left behind a message. -/
def szL (left : Int) (l5 l6 : Nat) : Int := if left < l5 then -1 else if left - l5 < l6 then -1 else left - l5 - l6
set_option maxRecDepth 100000 in
theorem szMsgL (k i u c n : Int) (a5 a6 : Option Addr) (l5 c5 l6 c6 : Nat) (left : Int) (w : World) (h0 : 0 ≤ left) (h1 : left ≤ 1048576) (h5 : l5 ≤ maxLen) (h6 : l6 ≤ maxLen) :
    Calls Try.prog 28 #[msgV k i u c n (.slice a5 l5 c5) (.slice a6 l6 c6), .int .i64 left] w fun e w' => e = .returned (.int .i64 (szL left l5 l6)) ∧ Below w.heap.size w w' := by
  have HZ := hide (szCells a5 l5 c5 left (w.alloc (.cells #[.int .i64 k, .int .i64 i, .int .i64 u, .int .i64 c, .int .i64 n, .slice a5 l5 c5, .slice a6 l6 c6] 58)) h0 h1 h5)
  unfold msgV szL
  by_cases hb5 : left < (l5 : Int)
  · rw [if_pos hb5] at HZ ⊢
    go_enter Try.func28, Try.ntmps28
    go_wp2_with fail
    refine (unhide HZ).mono ?_
    rintro e w1 ⟨rfl, rfl⟩
    go_wp2
    go_ret
    exact ⟨rfl, (Below.refl _ _).alloc (Nat.le_refl _) _⟩
  · rw [if_neg hb5] at HZ ⊢
    have hl : ¬ left - (l5 : Int) < 0 := by omega
    have HY := hide (szNotes a6 l6 c6 (left - l5) (w.alloc (.cells #[.int .i64 k, .int .i64 i, .int .i64 u, .int .i64 c, .int .i64 n, .slice a5 l5 c5, .slice a6 l6 c6] 58)) (by omega) (by omega) h6)
    by_cases hb6 : left - l5 < (l6 : Int)
    · rw [if_pos hb6] at HY ⊢
      go_enter Try.func28, Try.ntmps28
      go_wp2_with fail
      refine (unhide HZ).mono ?_
      rintro e w1 ⟨rfl, rfl⟩
      go_wp2_with fail
      refine (unhide HY).mono ?_
      rintro e w2 ⟨rfl, rfl⟩
      go_wp2
      go_ret
      exact ⟨rfl, (Below.refl _ _).alloc (Nat.le_refl _) _⟩
    · rw [if_neg hb6] at HY ⊢
      have hl6 : ¬ left - (l5 : Int) - (l6 : Int) < 0 := by omega
      go_enter Try.func28, Try.ntmps28
      go_wp2_with fail
      refine (unhide HZ).mono ?_
      rintro e w1 ⟨rfl, rfl⟩
      go_wp2_with fail
      refine (unhide HY).mono ?_
      rintro e w2 ⟨rfl, rfl⟩
      go_wp2
      go_ret
      exact ⟨rfl, (Below.refl _ _).alloc (Nat.le_refl _) _⟩
/-- How many cells and notes the first j messages have. -/
def uptoS (ms : List Ms) (j : Nat) : Nat := (ms.take j).foldr (fun m n => m.cs.length + m.ns.length + n) 0
theorem uptoS_step (ms : List Ms) (j : Nat) (h : j < ms.length) : uptoS ms (j + 1) = uptoS ms j + ((ms.getD j default).cs.length + (ms.getD j default).ns.length) := by
  unfold uptoS
  rw [List.take_succ_eq_append_getElem h, List.foldr_append]
  simp only [List.foldr_cons, List.foldr_nil, Nat.add_zero]
  rw [foldS_add]
  simp [h]
theorem uptoS_all (ms : List Ms) : uptoS ms ms.length = totS ms - ms.length := by
  unfold uptoS totS
  rw [List.take_length, foldS_add ms ms.length]; omega

theorem rawM_at {w : World} {v : Value} {xs : List MsX} (h : Rd w w.heap.size 7 v xs.length (xs.flatMap msC)) (hr : ∀ x ∈ xs, RawM w x) :
    ∃ a cap, v = .slice a xs.length cap ∧ (0 < xs.length → ∃ b o, a = some ⟨b, o, none⟩ ∧ b < w.heap.size ∧ ∀ j, j < xs.length → ∃ a5 c5 a6 c6, ((xs.map Prod.fst).getD j default).cs.length ≤ maxLen ∧ ((xs.map Prod.fst).getD j default).ns.length ≤ maxLen ∧
      w.cell? ⟨b, o + j * 7, none⟩ = some (.int .i64 ((xs.map Prod.fst).getD j default).k) ∧ w.cell? ⟨b, o + j * 7 + 1, none⟩ = some (.int .i64 ((xs.map Prod.fst).getD j default).i) ∧
      w.cell? ⟨b, o + j * 7 + 2, none⟩ = some (.int .i64 ((xs.map Prod.fst).getD j default).u) ∧ w.cell? ⟨b, o + j * 7 + 3, none⟩ = some (.int .i64 ((xs.map Prod.fst).getD j default).c) ∧
      w.cell? ⟨b, o + j * 7 + 4, none⟩ = some (.int .i64 ((xs.map Prod.fst).getD j default).n) ∧ w.cell? ⟨b, o + j * 7 + 5, none⟩ = some (.slice a5 ((xs.map Prod.fst).getD j default).cs.length c5) ∧ w.cell? ⟨b, o + j * 7 + 6, none⟩ = some (.slice a6 ((xs.map Prod.fst).getD j default).ns.length c6)) := by
  have hg : ∀ j, j < xs.length → (xs.map Prod.fst).getD j default = (xs.getD j default).1 := fun j hj => by simp [List.getD, hj]
  have hm : ∀ j, j < xs.length → xs.getD j default ∈ xs := fun j hj => by
    have : xs.getD j default = xs[j] := by simp [hj]
    rw [this]; exact List.getElem_mem _
  obtain ⟨a, cap, e, _, _, hx⟩ := ms_at (ms := xs.map Prod.fst) ⟨xs, rfl, h, fun x hx => (hr x hx).1⟩
  rw [List.length_map] at e hx
  refine ⟨a, cap, e, fun hp => ?_⟩
  obtain ⟨b, o, ea, hb, hc⟩ := hx hp
  refine ⟨b, o, ea, hb, fun j hj => ?_⟩
  obtain ⟨cv, nv, e0, e1, e2, e3, e4, e5, e6, hmt⟩ := hc j hj
  obtain ⟨a5, c5, e7, _⟩ := cells_at hmt.1
  obtain ⟨a6, c6, e8, _⟩ := notes_at hmt.2
  have h9 := hr _ (hm j hj)
  refine ⟨a5, c5, a6, c6, by rw [hg j hj]; exact h9.2.1, by rw [hg j hj]; exact h9.2.2, e0, e1, e2, e3, e4, ?_, ?_⟩
  · rw [e5, show cv = _ from e7]
  · rw [e6, show nv = _ from e8]

set_option maxRecDepth 100000 in
set_option maxHeartbeats 4000000 in
theorem szMss (w : World) (v : Value) (xs : List MsX) (hx : ∀ wr, Below w.heap.size w wr → Rd wr wr.heap.size 7 v xs.length (xs.flatMap msC) ∧ ∀ x ∈ xs, RawM wr x) (hm : xs.length ≤ maxLen) :
    Calls Try.prog 59 #[v, .int .i64 1048576] w fun e w' => ∃ r : Int, e = .returned (.int .i64 r) ∧ (r < 0 ∨ (0 ≤ r ∧ r = 1048576 - (totS (xs.map Prod.fst) : Int))) ∧ Below w.heap.size w w' := by
  have HX : Hid (∀ wr, Below w.heap.size w wr → _) := hide (fun wr hb => rawM_at (hx wr hb).1 (hx wr hb).2)
  obtain ⟨a, cap, rfl, _⟩ := HX.out w (Below.refl _ _)
  clear hx
  generalize hps : xs.map Prod.fst = ps at *
  have hl : ps.length = xs.length := by rw [← hps]; simp
  generalize hn : xs.length = n at *
  unfold maxLen at hm
  have HA := hide (uptoS_all ps)
  by_cases hbig : (1048576 : Int) - (n : Int) < 0
  · go_enter Try.func59, Try.ntmps59
    go_wp2
    go_ret
    exact ⟨_, rfl, .inl (by omega), Below.refl _ _⟩
  · go_enter Try.func59, Try.ntmps59
    go_wp2
    go_loopw [1, 5] (fun q i wr => ∃ j : Nat, j ≤ n ∧ q = .int .i64 (1048576 - (n : Int) - (uptoS ps j : Int)) ∧ i = .int .i64 (j : Int) ∧ 0 ≤ 1048576 - (n : Int) - (uptoS ps j : Int) ∧ Hid (Below w.heap.size w wr)) (fun _ i _ => n - (intOf i).toNat)
    case atStart => exact ⟨0, Nat.zero_le _, by simp [uptoS], rfl, by simp [uptoS]; omega, hide (Below.refl _ _)⟩
    case round =>
      obtain ⟨j, hj, rfl, rfl, h0, HB⟩ := hrel
      by_cases hlt : j < n
      · obtain ⟨a', cap', ea, hx⟩ := HX.out wr HB.out
        cases ea
        obtain ⟨b, o, rfl, hbB, hcell⟩ := hx (by omega)
        obtain ⟨a5, c5, a6, c6, hml, hml2, e0, e1, e2, e3, e4, e5, e6⟩ := hcell j hlt
        have HU := hide (uptoS_step ps j (by omega))
        clear hcell hx
        generalize (ps.getD j default).cs.length = l5 at *
        generalize (ps.getD j default).ns.length = l6 at *
        generalize (ps.getD j default).k = mk at *
        generalize (ps.getD j default).i = mi at *
        generalize (ps.getD j default).u = mu at *
        generalize (ps.getD j default).c = mc at *
        generalize (ps.getD j default).n = mn at *
        have HZ := hide (szMsgL mk mi mu mc mn a5 a6 l5 c5 l6 c6 (1048576 - (n : Int) - (uptoS ps j : Int)) wr h0 (by omega) hml hml2)
        unfold szL at HZ
        by_cases hlt2 : 1048576 - (n : Int) - (uptoS ps j : Int) < (l5 : Int)
        · rw [if_pos hlt2] at HZ
          go_wp2_with fail
          refine (unhide HZ).mono ?_
          rintro e w1 ⟨rfl, b1⟩
          replace HB := hide (HB.out.trans (b1.mono HB.out.size))
          clear b1
          go_wp2
          go_ret
          exact ⟨_, rfl, .inl (by omega), HB.out⟩
        · rw [if_neg hlt2] at HZ
          by_cases hlt3 : 1048576 - (n : Int) - (uptoS ps j : Int) - (l5 : Int) < (l6 : Int)
          · rw [if_pos hlt3] at HZ
            go_wp2_with fail
            refine (unhide HZ).mono ?_
            rintro e w1 ⟨rfl, b1⟩
            replace HB := hide (HB.out.trans (b1.mono HB.out.size))
            clear b1
            go_wp2
            go_ret
            exact ⟨_, rfl, .inl (by omega), HB.out⟩
          · rw [if_neg hlt3] at HZ
            have hn2 : ¬ (1048576 - (n : Int) - (uptoS ps j : Int) - (l5 : Int) - (l6 : Int)) < 0 := by omega
            go_wp2_with fail
            refine (unhide HZ).mono ?_
            rintro e w1 ⟨rfl, b1⟩
            replace HB := hide (HB.out.trans (b1.mono HB.out.size))
            clear b1
            have e9 : (1048576 : Int) - (n : Int) - (uptoS ps j : Int) - (l5 : Int) - (l6 : Int) = 1048576 - (n : Int) - (uptoS ps (j + 1) : Int) := by rw [HU.out]; omega
            go_wp2
            exact ⟨⟨j + 1, by omega, by first | rfl | (rw [e9]), by go_num, by rw [← e9]; omega, HB⟩, by simp [intOf]; omega⟩
      · obtain rfl : j = n := by omega
        have HF : Hid ((uptoS ps j : Nat) = totS ps - ps.length) := hide (by rw [← HA.out, hl])
        have HT := hide (totS_len ps)
        go_wp2
        go_ret
        exact ⟨_, rfl, .inr ⟨by omega, by have := HF.out; have := HT.out; omega⟩, HB.out⟩

/-- Of a sender that came in: how great it is; if not too great, it may be read. -/
theorem szSnd (w : World) (base : Int) (v : Value) (xs : List MsX) (h : Rd w w.heap.size 7 v xs.length (xs.flatMap msC)) (hr : ∀ x ∈ xs, RawM w x) (hm : xs.length ≤ maxLen) :
    Calls Try.prog 23 #[sndV base v, .int .i64 1048576] w fun e w' => ∃ r : Int, e = .returned (.int .i64 r) ∧ (0 ≤ r → r = 1048576 - (totS (xs.map Prod.fst) : Int) ∧ RdS w w.heap.size v (xs.map Prod.fst)) ∧ Below w.heap.size w w' := by
  have HR : Hid (RdS w w.heap.size v (xs.map Prod.fst)) := hide ⟨xs, rfl, h, fun x hx => (hr x hx).1⟩
  have HX : Hid (∀ wr, Below w.heap.size w wr → Rd wr wr.heap.size 7 v xs.length (xs.flatMap msC) ∧ ∀ x ∈ xs, RawM wr x) := hide (fun wr hb => ⟨h.at hb, fun x hx => (hr x hx).below hb⟩)
  obtain ⟨_, a, cap, rfl, _⟩ := h
  clear hr
  unfold sndV
  have HB := hide ((Below.refl w.heap.size w).alloc (Nat.le_refl _) (.cells #[.int .i64 base, .slice a xs.length cap] 46))
  go_enter Try.func23, Try.ntmps23
  go_wp2_with fail
  refine (szMss _ _ xs (fun wr hb => HX.out wr (HB.out.trans (hb.mono HB.out.size))) hm).mono ?_
  rintro e w1 ⟨r, rfl, hr, b1⟩
  replace HB := hide (HB.out.trans (b1.mono HB.out.size))
  clear b1
  have HQ := hide hr
  clear hr
  by_cases hr0 : r < 0
  · go_wp2
    go_ret
    exact ⟨_, rfl, fun h => by omega, HB.out⟩
  · go_wp2
    go_ret
    exact ⟨_, rfl, fun h => by
      rcases HQ.out with h1 | h1
      · omega
      · exact ⟨h1.2, HR.out⟩, HB.out⟩
end Go.Proofs.Ytoaenoakdbieaaa
