/-
  Joined: ClcW, ClcR.
-/
import Derived.Test.YtllghgcancennaaJ17
import Derived.Test.YtllghgcancennaaJ11
import Derived.Test.YtllghgcancennaaKClcT
import Derived.Test.YtllghgcancennaaJ13
import Derived.Deep.RegionHeld
/-
  A row of clocks as it is read.
-/
namespace Go.Proofs.Ytllghgcancennaa
open Go.RowKit

theorem rws_at {w : World} {B : Nat} {cs : List (List Smp)} {v : Value} (h : Reads w B (rws cs) v) :
    ∃ a cap, v = .slice a cs.length cap ∧ cs.length ≤ cap ∧ (0 < cs.length → ∃ b o, a = some ⟨b, o, none⟩ ∧ b < B ∧ ∀ j, j < cs.length → ∃ u, w.cell? ⟨b, o + j, none⟩ = some u ∧ Reads w B (smps (cs.getD j [])) u) := by
  unfold rws Reads at h
  obtain ⟨us, ⟨hl, a, cap, rfl, h2, _, h4⟩, h5⟩ := h
  refine ⟨a, cap, rfl, h2, fun hp => ?_⟩
  obtain ⟨b, o, rfl, hb, hc⟩ := h4 hp
  refine ⟨b, o, rfl, hb, fun j hj => ⟨us.getD j undef, ?_, smps_reads h5 hj⟩⟩
  have hlen := h5.len
  rw [hc j (by omega), List.getD_eq_getElem?_getD, List.getElem?_eq_getElem (by rw [hlen, List.length_map]; exact hj)]
  rfl
end Go.Proofs.Ytllghgcancennaa
/-
  RaceAt in the model.
-/
namespace Go.Proofs.Ytllghgcancennaa
open Go.RowKit

theorem countSR (w : World) (xs : List Smp) (v : Value) (q : Int) (h : Reads w w.heap.size (smps xs) v) (hm : xs.length ≤ 1048576) :
    Calls Try.prog 35 #[v, .int .i64 q] w fun e w' => e = .returned (.int .i64 (cntX xs q)) ∧ Below w.heap.size w w' := calls_same (countS w xs v q h hm)
set_option maxRecDepth 100000 in
set_option maxHeartbeats 16000000 in
theorem raceS (w : World) (xs : List Evt) (v : Value) (h : Reads w w.heap.size (evts xs) v) (hm : xs.length ≤ 1048576) :
    Calls Try.prog 20 #[v] w fun e w' => e = .returned (.int .i64 (raceX xs)) ∧ Below w.heap.size w w' := by
  have HR0 := hide h
  obtain ⟨a1, c1, e1, _⟩ := h.shape
  subst e1
  clear h
  go_enter Try.func20, Try.ntmps20
  go_wp2_with fail
  refine (eventsOkS w xs _ HR0.out hm).mono ?_
  rintro e x1 ⟨rfl, b1⟩
  have HB1 := hide b1
  clear b1
  cases he : evB xs with
  | false =>
    have HV := hide (raceX_no he)
    go_wp2
    go_ret
    exact ⟨by rw [HV.out]; rfl, HB1.out⟩
  | true =>
    have hx := evB_len he
    go_wp2_with fail
    refine (clkNS x1 xs _ (HR0.out.at HB1.out) hx).mono ?_
    rintro e x2 ⟨u2, rfl, o2, b2⟩
    have HBw := hide (HB1.out.trans (b2.mono HB1.out.size))
    have HR := hide ((HR0.out.at HB1.out).at b2)
    have HP := hide (o2.rd (Nat.le_refl _))
    obtain ⟨ra, rc, re⟩ := o2.shape
    subst re
    clear o2 b2 HR0 HB1
    have HX : Hid (0 < xs.length → ∃ b o, ra = some ⟨b, o, none⟩ ∧ b < x2.heap.size ∧ ∀ j, j < xs.length → ∃ u, x2.cell? ⟨b, o + j, none⟩ = some u ∧ Reads x2 x2.heap.size (smps (clk xs j)) u) := hide (fun h => by
      obtain ⟨a, c, e, _, h2⟩ := rws_at HP.out
      cases e
      obtain ⟨b, o, e2, h3, h4⟩ := h2 (by rw [clkN_len]; exact h)
      refine ⟨b, o, e2, h3, fun j hj => ?_⟩
      obtain ⟨u, h5, h6⟩ := h4 j (by rw [clkN_len]; exact hj)
      rw [clkN_clk xs hj] at h6
      exact ⟨u, h5, h6⟩)
    clear HP
    rw [clkN_len]
    go_wp2
    go_loopw [4] (fun q wr => ∃ j : Nat, j ≤ xs.length ∧ q = .int .i64 (j : Int) ∧ Hid (Below x2.heap.size x2 wr) ∧ Hid (∀ i, i < j → racesAt xs i = false)) (fun q _ => xs.length - (intOf q).toNat)
    case atStart => exact ⟨0, Nat.zero_le _, rfl, hide (Below.refl _ _), hide (fun i hi => by omega)⟩
    case round =>
      obtain ⟨j, hj, rfl, HB0, HA⟩ := hrel
      by_cases hlt : j < xs.length
      · have hn0 : 0 < xs.length := by omega
        have hltI : (j : Int) < (xs.length : Int) := by omega
        go_wp2
        go_loopw [5] (fun q wr => ∃ i : Nat, i ≤ j ∧ q = .int .i64 (i : Int) ∧ Hid (Below x2.heap.size x2 wr) ∧ Hid (∀ k, k < i → raceB xs k j = false)) (fun q _ => j - (intOf q).toNat)
        case atStart => exact ⟨0, Nat.zero_le _, rfl, HB0, hide (fun k hk => by omega)⟩
        case round =>
          clear HB0
          obtain ⟨i, hi, rfl, HB, HQ⟩ := hrel
          have HB2 := HB
          by_cases hli : i < j
          · obtain ⟨a', cap', ea, hcap, _, hc⟩ := event_at (HR.out.at HB.out)
            cases ea
            obtain ⟨eb, eo, rfl, hbe, hcell⟩ := hc (by omega)
            obtain ⟨d0, d1, d2, d3⟩ := hcell i (by omega)
            obtain ⟨f0, f1, f2, f3⟩ := hcell j hlt
            clear hc hcell
            obtain ⟨gb, go, rfl, hbg', hcc⟩ := HX.out hn0
            obtain ⟨u, hcu', hru⟩ := hcc j hlt
            obtain ⟨t, hct', hrt⟩ := hcc i (by omega)
            clear hcc
            obtain ⟨pu, qu, su, _⟩ := hru.shape
            obtain ⟨pt, qt, st, _⟩ := hrt.shape
            subst su st
            have hcu := (HB2.out.cell (p := ⟨gb, go + j, none⟩) hbg').trans hcu'
            have hct := (HB2.out.cell (p := ⟨gb, go + i, none⟩) hbg').trans hct'
            have hbg : gb < wr.heap.size := Nat.lt_of_lt_of_le hbg' HB2.out.size
            have HU := hide (hru.at HB2.out)
            have HT := hide (hrt.at HB2.out)
            have hcj : (clk xs j).length ≤ 1048576 := by have := (clk_good hlt).len; omega
            have hci : (clk xs i).length ≤ 1048576 := by have := (clk_good (xs := xs) (j := i) (by omega)).len; omega
            have HRB : Hid (raceB xs i j = (clashB (xs.getD i default) (xs.getD j default) && decide (cntX (clk xs j) (xs.getD i default).w < cntX (clk xs i) (xs.getD i default).w))) := hide rfl
            obtain ⟨x, hx'⟩ : ∃ x, xs.getD i default = x := ⟨_, rfl⟩
            obtain ⟨y, hy'⟩ : ∃ y, xs.getD j default = y := ⟨_, rfl⟩
            rw [hx', hy'] at HRB
            rw [hx'] at d0 d1 d2 d3
            rw [hy'] at f0 f1 f2 f3
            clear hcu' hct' hru hrt hx' hy' hbg'
            have hliI : (i : Int) < (j : Int) := by omega
            have hinI : (i : Int) < (xs.length : Int) := by omega
            have hjnI : (j : Int) < (xs.length : Int) := by omega
            have hin : i < xs.length := by omega
            go_upto_region 10 with fail
            have HS : Hid (∀ w', Below wr.heap.size wr w' → w'.cell? ⟨eb, eo + i * 4, none⟩ = some (.int .i64 x.w) ∧ w'.cell? ⟨eb, eo + i * 4 + 1, none⟩ = some (.int .i64 x.k) ∧ w'.cell? ⟨eb, eo + i * 4 + 2, none⟩ = some (.int .i64 x.i) ∧ w'.cell? ⟨eb, eo + i * 4 + 3, none⟩ = some (.int .i64 x.a) ∧ w'.cell? ⟨eb, eo + j * 4, none⟩ = some (.int .i64 y.w) ∧ w'.cell? ⟨eb, eo + j * 4 + 1, none⟩ = some (.int .i64 y.k) ∧ w'.cell? ⟨eb, eo + j * 4 + 2, none⟩ = some (.int .i64 y.i) ∧ w'.cell? ⟨eb, eo + j * 4 + 3, none⟩ = some (.int .i64 y.a) ∧ w'.cell? ⟨gb, go + j, none⟩ = some (.slice pu (clk xs j).length qu) ∧ w'.cell? ⟨gb, go + i, none⟩ = some (.slice pt (clk xs i).length qt)) := hide (fun w' hb => ⟨(hb.cell (p := ⟨eb, eo + i * 4, none⟩) hbe).trans d0, (hb.cell (p := ⟨eb, eo + i * 4 + 1, none⟩) hbe).trans d1, (hb.cell (p := ⟨eb, eo + i * 4 + 2, none⟩) hbe).trans d2, (hb.cell (p := ⟨eb, eo + i * 4 + 3, none⟩) hbe).trans d3, (hb.cell (p := ⟨eb, eo + j * 4, none⟩) hbe).trans f0, (hb.cell (p := ⟨eb, eo + j * 4 + 1, none⟩) hbe).trans f1, (hb.cell (p := ⟨eb, eo + j * 4 + 2, none⟩) hbe).trans f2, (hb.cell (p := ⟨eb, eo + j * 4 + 3, none⟩) hbe).trans f3, (hb.cell (p := ⟨gb, go + j, none⟩) hbg).trans hcu, (hb.cell (p := ⟨gb, go + i, none⟩) hbg).trans hct⟩)
            have HD : Hid (Below wr.heap.size wr wr.drew) := hide (Below.refl wr.heap.size wr).drew
            clear d0 d1 d2 d3 f0 f1 f2 f3 hcu hct
            refine wp_region_held_drew (S := fun w' => w'.cell? ⟨eb, eo + i * 4, none⟩ = some (.int .i64 x.w) ∧ w'.cell? ⟨eb, eo + i * 4 + 1, none⟩ = some (.int .i64 x.k) ∧ w'.cell? ⟨eb, eo + i * 4 + 2, none⟩ = some (.int .i64 x.i) ∧ w'.cell? ⟨eb, eo + i * 4 + 3, none⟩ = some (.int .i64 x.a) ∧ w'.cell? ⟨eb, eo + j * 4, none⟩ = some (.int .i64 y.w) ∧ w'.cell? ⟨eb, eo + j * 4 + 1, none⟩ = some (.int .i64 y.k) ∧ w'.cell? ⟨eb, eo + j * 4 + 2, none⟩ = some (.int .i64 y.i) ∧ w'.cell? ⟨eb, eo + j * 4 + 3, none⟩ = some (.int .i64 y.a) ∧ w'.cell? ⟨gb, go + j, none⟩ = some (.slice pu (clk xs j).length qu) ∧ w'.cell? ⟨gb, go + i, none⟩ = some (.slice pt (clk xs i).length qt)) (by kernel_rfl) (HS.out _ HD.out) (fun hHeld => ?_)
            generalize wr.drew = x0 at HD hHeld ⊢
            cases hcl : clashB x y with
            | false =>
              have HRF : Hid (raceB xs i j = false) := hide (by rw [HRB.out, hcl]; rfl)
              refine wpAnyH_take (i := 0) (v := ?_) rfl (by kernel_rfl) (by kernel_rfl) (by kernel_rfl) (fun _ _ _ h => h) (Or.inl ⟨by rfl, ?_⟩) (by assumption) ?_
              rotate_left
              · intro w' hSw
                try dsimp only at hSw
                go_simp; try rfl
              simp only [List.getElem_toArray, List.getElem_cons_zero, Act.put, List.setIfInBounds_toArray, List.set_cons_zero, List.set_cons_succ]
              refine wpAnyH_take (i := 1) (v := ?_) rfl (by kernel_rfl) (by kernel_rfl) (by kernel_rfl) (fun _ _ _ h => h) (Or.inl ⟨by rfl, ?_⟩) (by assumption) ?_
              rotate_left
              · intro w' hSw
                try dsimp only at hSw
                go_simp; try rfl
              simp only [List.getElem_toArray, List.getElem_cons_succ, List.getElem_cons_zero, Act.put, List.setIfInBounds_toArray, List.set_cons_zero, List.set_cons_succ]
              refine wpAnyH_take (i := 2) (v := ?_) rfl (by kernel_rfl) (by kernel_rfl) (by kernel_rfl) (fun _ _ _ h => h) (Or.inl ⟨by rfl, ?_⟩) (by assumption) ?_
              rotate_left
              · intro w' hSw
                try dsimp only at hSw
                go_simp; try rfl
              simp only [List.getElem_toArray, List.getElem_cons_succ, List.getElem_cons_zero, Act.put, List.setIfInBounds_toArray, List.set_cons_zero, List.set_cons_succ]
              refine wpAnyH_take (i := 3) (v := ?_) rfl (by kernel_rfl) (by kernel_rfl) (by kernel_rfl) (fun _ _ _ h => h) (Or.inl ⟨by rfl, ?_⟩) (by assumption) ?_
              rotate_left
              · intro w' hSw
                try dsimp only at hSw
                go_simp; try rfl
              simp only [List.getElem_toArray, List.getElem_cons_succ, List.getElem_cons_zero, Act.put, List.setIfInBounds_toArray, List.set_cons_zero, List.set_cons_succ]
              refine wpAnyH_take (i := 4) (v := ?_) rfl (by kernel_rfl) (by kernel_rfl) (by kernel_rfl) (fun _ _ _ h => h) (Or.inl ⟨by rfl, ?_⟩) (by assumption) ?_
              rotate_left
              · intro w' hSw
                try dsimp only at hSw
                go_simp; try rfl
              simp only [List.getElem_toArray, List.getElem_cons_succ, List.getElem_cons_zero, Act.put, List.setIfInBounds_toArray, List.set_cons_zero, List.set_cons_succ]
              refine wpAnyH_take (i := 5) (v := ?_) rfl (by kernel_rfl) (by kernel_rfl) (by kernel_rfl) (fun _ _ _ h => h) (Or.inl ⟨by rfl, ?_⟩) (by assumption) ?_
              rotate_left
              · intro w' hSw
                try dsimp only at hSw
                go_simp; try rfl
              simp only [List.getElem_toArray, List.getElem_cons_succ, List.getElem_cons_zero, Act.put, List.setIfInBounds_toArray, List.set_cons_zero, List.set_cons_succ]
              refine wpAnyH_take (i := 6) (v := ?_) rfl (by kernel_rfl) (by kernel_rfl) (by kernel_rfl) (fun _ _ _ h => h) (Or.inl ⟨by rfl, ?_⟩) (by assumption) ?_
              rotate_left
              · intro w' hSw
                try dsimp only at hSw
                go_simp; try rfl
              simp only [List.getElem_toArray, List.getElem_cons_succ, List.getElem_cons_zero, Act.put, List.setIfInBounds_toArray, List.set_cons_zero, List.set_cons_succ]
              refine wpAnyH_take (i := 7) (v := ?_) rfl (by kernel_rfl) (by kernel_rfl) (by kernel_rfl) (fun _ _ _ h => h) (Or.inl ⟨by rfl, ?_⟩) (by assumption) ?_
              rotate_left
              · intro w' hSw
                try dsimp only at hSw
                go_simp; try rfl
              simp only [List.getElem_toArray, List.getElem_cons_succ, List.getElem_cons_zero, Act.put, List.setIfInBounds_toArray, List.set_cons_zero, List.set_cons_succ]
              refine wpAnyH_ready (rs := [8]) (by kernel_rfl) (by simp) (AllReadyH.cons rfl (fun K hK => ?_) AllReadyH.nil)
              refine step_callW (some 30) rfl (by kernel_rfl) 32 _ _ rfl #[.agg #[.int .i64 x.w, .int .i64 x.k, .int .i64 x.i, .int .i64 x.a], .agg #[.int .i64 y.w, .int .i64 y.k, .int .i64 y.i, .int .i64 y.a]] (by kernel_rfl) (clashS _ x y) ?_
              rintro e x30 ⟨he, b1⟩
              rw [hcl] at he
              subst he
              refine ⟨_, rfl, ?_⟩
              replace HD := hide (HD.out.trans (b1.mono HD.out.size))
              clear b1
              refine hK.out _ _ (HS.out _ HD.out) (fun hHeld => ?_)
              clear hK K
              simp only [Act.put, List.setIfInBounds_toArray, List.set_cons_zero, List.set_cons_succ]
              refine wpAnyH_take (i := 9) (v := ?_) rfl (by kernel_rfl) (by kernel_rfl) (by kernel_rfl) (fun _ _ _ h => h) (Or.inl ⟨by rfl, ?_⟩) (by assumption) ?_
              rotate_left
              · intro w' hSw
                try dsimp only at hSw
                go_simp; try rfl
              simp only [List.getElem_toArray, List.getElem_cons_succ, List.getElem_cons_zero, Act.put, List.setIfInBounds_toArray, List.set_cons_zero, List.set_cons_succ]
              refine wpAnyH_take (i := 10) (v := undef) rfl (by kernel_rfl) (by kernel_rfl) (by kernel_rfl) (fun _ _ _ h => h) (Or.inr ⟨by rfl, rfl⟩) (by assumption) ?_
              simp only [List.getElem_toArray, List.getElem_cons_succ, List.getElem_cons_zero, Act.put, List.setIfInBounds_toArray, List.set_cons_zero, List.set_cons_succ]
              refine wpAnyH_take (i := 11) (v := undef) rfl (by kernel_rfl) (by kernel_rfl) (by kernel_rfl) (fun _ _ _ h => h) (Or.inr ⟨by rfl, rfl⟩) (by assumption) ?_
              simp only [List.getElem_toArray, List.getElem_cons_succ, List.getElem_cons_zero, Act.put, List.setIfInBounds_toArray, List.set_cons_zero, List.set_cons_succ]
              refine wpAnyH_take (i := 12) (v := undef) rfl (by kernel_rfl) (by kernel_rfl) (by kernel_rfl) (fun _ _ _ h => h) (Or.inr ⟨by rfl, rfl⟩) (by assumption) ?_
              simp only [List.getElem_toArray, List.getElem_cons_succ, List.getElem_cons_zero, Act.put, List.setIfInBounds_toArray, List.set_cons_zero, List.set_cons_succ]
              refine wpAnyH_take (i := 13) (v := undef) rfl (by kernel_rfl) (by kernel_rfl) (by kernel_rfl) (fun _ _ _ h => h) (Or.inr ⟨by rfl, rfl⟩) (by assumption) ?_
              simp only [List.getElem_toArray, List.getElem_cons_succ, List.getElem_cons_zero, Act.put, List.setIfInBounds_toArray, List.set_cons_zero, List.set_cons_succ]
              refine wpAnyH_take (i := 14) (v := undef) rfl (by kernel_rfl) (by kernel_rfl) (by kernel_rfl) (fun _ _ _ h => h) (Or.inr ⟨by rfl, rfl⟩) (by assumption) ?_
              simp only [List.getElem_toArray, List.getElem_cons_succ, List.getElem_cons_zero, Act.put, List.setIfInBounds_toArray, List.set_cons_zero, List.set_cons_succ]
              refine wpAnyH_take (i := 15) (v := undef) rfl (by kernel_rfl) (by kernel_rfl) (by kernel_rfl) (fun _ _ _ h => h) (Or.inr ⟨by rfl, rfl⟩) (by assumption) ?_
              simp only [List.getElem_toArray, List.getElem_cons_succ, List.getElem_cons_zero, Act.put, List.setIfInBounds_toArray, List.set_cons_zero, List.set_cons_succ]
              refine wpAnyH_take (i := 16) (v := undef) rfl (by kernel_rfl) (by kernel_rfl) (by kernel_rfl) (fun _ _ _ h => h) (Or.inr ⟨by rfl, rfl⟩) (by assumption) ?_
              simp only [List.getElem_toArray, List.getElem_cons_succ, List.getElem_cons_zero, Act.put, List.setIfInBounds_toArray, List.set_cons_zero, List.set_cons_succ]
              refine wpAnyH_take (i := 17) (v := undef) rfl (by kernel_rfl) (by kernel_rfl) (by kernel_rfl) (fun _ _ _ h => h) (Or.inr ⟨by rfl, rfl⟩) (by assumption) ?_
              simp only [List.getElem_toArray, List.getElem_cons_succ, List.getElem_cons_zero, Act.put, List.setIfInBounds_toArray, List.set_cons_zero, List.set_cons_succ]
              refine wpAnyH_take (i := 18) (v := undef) rfl (by kernel_rfl) (by kernel_rfl) (by kernel_rfl) (fun _ _ _ h => h) (Or.inr ⟨by rfl, rfl⟩) (by assumption) ?_
              simp only [List.getElem_toArray, List.getElem_cons_succ, List.getElem_cons_zero, Act.put, List.setIfInBounds_toArray, List.set_cons_zero, List.set_cons_succ]
              refine wpAnyH_take (i := 19) (v := undef) rfl (by kernel_rfl) (by kernel_rfl) (by kernel_rfl) (fun _ _ _ h => h) (Or.inr ⟨by rfl, rfl⟩) (by assumption) ?_
              simp only [List.getElem_toArray, List.getElem_cons_succ, List.getElem_cons_zero, Act.put, List.setIfInBounds_toArray, List.set_cons_zero, List.set_cons_succ]
              refine wpAnyH_take (i := 20) (v := undef) rfl (by kernel_rfl) (by kernel_rfl) (by kernel_rfl) (fun _ _ _ h => h) (Or.inr ⟨by rfl, rfl⟩) (by assumption) ?_
              simp only [List.getElem_toArray, List.getElem_cons_succ, List.getElem_cons_zero, Act.put, List.setIfInBounds_toArray, List.set_cons_zero, List.set_cons_succ]
              refine wpAnyH_take (i := 21) (v := undef) rfl (by kernel_rfl) (by kernel_rfl) (by kernel_rfl) (fun _ _ _ h => h) (Or.inr ⟨by rfl, rfl⟩) (by assumption) ?_
              simp only [List.getElem_toArray, List.getElem_cons_succ, List.getElem_cons_zero, Act.put, List.setIfInBounds_toArray, List.set_cons_zero, List.set_cons_succ]
              refine wpAnyH_take (i := 22) (v := undef) rfl (by kernel_rfl) (by kernel_rfl) (by kernel_rfl) (fun _ _ _ h => h) (Or.inr ⟨by rfl, rfl⟩) (by assumption) ?_
              simp only [List.getElem_toArray, List.getElem_cons_succ, List.getElem_cons_zero, Act.put, List.setIfInBounds_toArray, List.set_cons_zero, List.set_cons_succ]
              refine wpAnyH_take (i := 23) (v := undef) rfl (by kernel_rfl) (by kernel_rfl) (by kernel_rfl) (fun _ _ _ h => h) (Or.inr ⟨by rfl, rfl⟩) (by assumption) ?_
              simp only [List.getElem_toArray, List.getElem_cons_succ, List.getElem_cons_zero, Act.put, List.setIfInBounds_toArray, List.set_cons_zero, List.set_cons_succ]
              refine wpAnyH_take (i := 24) (v := undef) rfl (by kernel_rfl) (by kernel_rfl) (by kernel_rfl) (fun _ _ _ h => h) (Or.inr ⟨by rfl, rfl⟩) (by assumption) ?_
              simp only [List.getElem_toArray, List.getElem_cons_succ, List.getElem_cons_zero, Act.put, List.setIfInBounds_toArray, List.set_cons_zero, List.set_cons_succ]
              refine wpAnyH_take (i := 25) (v := undef) rfl (by kernel_rfl) (by kernel_rfl) (by kernel_rfl) (fun _ _ _ h => h) (Or.inr ⟨by rfl, rfl⟩) (by assumption) ?_
              simp only [List.getElem_toArray, List.getElem_cons_succ, List.getElem_cons_zero, Act.put, List.setIfInBounds_toArray, List.set_cons_zero, List.set_cons_succ]
              refine wpAnyH_take (i := 26) (v := undef) rfl (by kernel_rfl) (by kernel_rfl) (by kernel_rfl) (fun _ _ _ h => h) (Or.inr ⟨by rfl, rfl⟩) (by assumption) ?_
              simp only [List.getElem_toArray, List.getElem_cons_succ, List.getElem_cons_zero, Act.put, List.setIfInBounds_toArray, List.set_cons_zero, List.set_cons_succ]
              refine wpAnyH_take (i := 27) (v := undef) rfl (by kernel_rfl) (by kernel_rfl) (by kernel_rfl) (fun _ _ _ h => h) (Or.inr ⟨by rfl, rfl⟩) (by assumption) ?_
              simp only [List.getElem_toArray, List.getElem_cons_succ, List.getElem_cons_zero, Act.put, List.setIfInBounds_toArray, List.set_cons_zero, List.set_cons_succ]
              refine wpAnyH_take (i := 28) (v := undef) rfl (by kernel_rfl) (by kernel_rfl) (by kernel_rfl) (fun _ _ _ h => h) (Or.inr ⟨by rfl, rfl⟩) (by assumption) ?_
              simp only [List.getElem_toArray, List.getElem_cons_succ, List.getElem_cons_zero, Act.put, List.setIfInBounds_toArray, List.set_cons_zero, List.set_cons_succ]
              refine wpAnyH_take (i := 29) (v := undef) rfl (by kernel_rfl) (by kernel_rfl) (by kernel_rfl) (fun _ _ _ h => h) (Or.inr ⟨by rfl, rfl⟩) (by assumption) ?_
              simp only [List.getElem_toArray, List.getElem_cons_succ, List.getElem_cons_zero, Act.put, List.setIfInBounds_toArray, List.set_cons_zero, List.set_cons_succ]
              refine wpAnyH_take (i := 30) (v := undef) rfl (by kernel_rfl) (by kernel_rfl) (by kernel_rfl) (fun _ _ _ h => h) (Or.inr ⟨by rfl, rfl⟩) (by assumption) ?_
              simp only [List.getElem_toArray, List.getElem_cons_succ, List.getElem_cons_zero, Act.put, List.setIfInBounds_toArray, List.set_cons_zero, List.set_cons_succ]
              refine wpAnyH_take (i := 31) (v := ?_) rfl (by kernel_rfl) (by kernel_rfl) (by kernel_rfl) (fun _ _ _ h => h) (Or.inl ⟨by rfl, ?_⟩) (by assumption) ?_
              rotate_left
              · intro w' hSw
                try dsimp only at hSw
                go_simp; try rfl
              simp only [List.getElem_toArray, List.getElem_cons_succ, List.getElem_cons_zero, Act.put, List.setIfInBounds_toArray, List.set_cons_zero, List.set_cons_succ]
              refine wpAnyH_done (by kernel_rfl) ?_ _
              have HBn := hide (HB2.out.trans (HD.out.mono HB2.out.size))
              have HQn : Hid (∀ k, k < i + 1 → raceB xs k j = false) := hide (fun k hk => by
                rcases Nat.lt_succ_iff_lt_or_eq.1 hk with h | rfl
                · exact HQ.out k h
                · exact HRF.out)
              go_wp2
              exact ⟨⟨i + 1, by omega, by go_num, HBn, HQn⟩, by simp [intOf]; omega⟩
            | true =>
              refine wpAnyH_take (i := 0) (v := ?_) rfl (by kernel_rfl) (by kernel_rfl) (by kernel_rfl) (fun _ _ _ h => h) (Or.inl ⟨by rfl, ?_⟩) (by assumption) ?_
              rotate_left
              · intro w' hSw
                try dsimp only at hSw
                go_simp; try rfl
              simp only [List.getElem_toArray, List.getElem_cons_zero, Act.put, List.setIfInBounds_toArray, List.set_cons_zero, List.set_cons_succ]
              refine wpAnyH_take (i := 1) (v := ?_) rfl (by kernel_rfl) (by kernel_rfl) (by kernel_rfl) (fun _ _ _ h => h) (Or.inl ⟨by rfl, ?_⟩) (by assumption) ?_
              rotate_left
              · intro w' hSw
                try dsimp only at hSw
                go_simp; try rfl
              simp only [List.getElem_toArray, List.getElem_cons_succ, List.getElem_cons_zero, Act.put, List.setIfInBounds_toArray, List.set_cons_zero, List.set_cons_succ]
              refine wpAnyH_take (i := 2) (v := ?_) rfl (by kernel_rfl) (by kernel_rfl) (by kernel_rfl) (fun _ _ _ h => h) (Or.inl ⟨by rfl, ?_⟩) (by assumption) ?_
              rotate_left
              · intro w' hSw
                try dsimp only at hSw
                go_simp; try rfl
              simp only [List.getElem_toArray, List.getElem_cons_succ, List.getElem_cons_zero, Act.put, List.setIfInBounds_toArray, List.set_cons_zero, List.set_cons_succ]
              refine wpAnyH_take (i := 3) (v := ?_) rfl (by kernel_rfl) (by kernel_rfl) (by kernel_rfl) (fun _ _ _ h => h) (Or.inl ⟨by rfl, ?_⟩) (by assumption) ?_
              rotate_left
              · intro w' hSw
                try dsimp only at hSw
                go_simp; try rfl
              simp only [List.getElem_toArray, List.getElem_cons_succ, List.getElem_cons_zero, Act.put, List.setIfInBounds_toArray, List.set_cons_zero, List.set_cons_succ]
              refine wpAnyH_take (i := 4) (v := ?_) rfl (by kernel_rfl) (by kernel_rfl) (by kernel_rfl) (fun _ _ _ h => h) (Or.inl ⟨by rfl, ?_⟩) (by assumption) ?_
              rotate_left
              · intro w' hSw
                try dsimp only at hSw
                go_simp; try rfl
              simp only [List.getElem_toArray, List.getElem_cons_succ, List.getElem_cons_zero, Act.put, List.setIfInBounds_toArray, List.set_cons_zero, List.set_cons_succ]
              refine wpAnyH_take (i := 5) (v := ?_) rfl (by kernel_rfl) (by kernel_rfl) (by kernel_rfl) (fun _ _ _ h => h) (Or.inl ⟨by rfl, ?_⟩) (by assumption) ?_
              rotate_left
              · intro w' hSw
                try dsimp only at hSw
                go_simp; try rfl
              simp only [List.getElem_toArray, List.getElem_cons_succ, List.getElem_cons_zero, Act.put, List.setIfInBounds_toArray, List.set_cons_zero, List.set_cons_succ]
              refine wpAnyH_take (i := 6) (v := ?_) rfl (by kernel_rfl) (by kernel_rfl) (by kernel_rfl) (fun _ _ _ h => h) (Or.inl ⟨by rfl, ?_⟩) (by assumption) ?_
              rotate_left
              · intro w' hSw
                try dsimp only at hSw
                go_simp; try rfl
              simp only [List.getElem_toArray, List.getElem_cons_succ, List.getElem_cons_zero, Act.put, List.setIfInBounds_toArray, List.set_cons_zero, List.set_cons_succ]
              refine wpAnyH_take (i := 7) (v := ?_) rfl (by kernel_rfl) (by kernel_rfl) (by kernel_rfl) (fun _ _ _ h => h) (Or.inl ⟨by rfl, ?_⟩) (by assumption) ?_
              rotate_left
              · intro w' hSw
                try dsimp only at hSw
                go_simp; try rfl
              simp only [List.getElem_toArray, List.getElem_cons_succ, List.getElem_cons_zero, Act.put, List.setIfInBounds_toArray, List.set_cons_zero, List.set_cons_succ]
              refine wpAnyH_ready (rs := [8]) (by kernel_rfl) (by simp) (AllReadyH.cons rfl (fun K hK => ?_) AllReadyH.nil)
              refine step_callW (some 30) rfl (by kernel_rfl) 32 _ _ rfl #[.agg #[.int .i64 x.w, .int .i64 x.k, .int .i64 x.i, .int .i64 x.a], .agg #[.int .i64 y.w, .int .i64 y.k, .int .i64 y.i, .int .i64 y.a]] (by kernel_rfl) (clashS _ x y) ?_
              rintro e x30 ⟨he, b1⟩
              rw [hcl] at he
              subst he
              refine ⟨_, rfl, ?_⟩
              replace HD := hide (HD.out.trans (b1.mono HD.out.size))
              clear b1
              refine hK.out _ _ (HS.out _ HD.out) (fun hHeld => ?_)
              clear hK K
              simp only [Act.put, List.setIfInBounds_toArray, List.set_cons_zero, List.set_cons_succ]
              refine wpAnyH_take (i := 9) (v := ?_) rfl (by kernel_rfl) (by kernel_rfl) (by kernel_rfl) (fun _ _ _ h => h) (Or.inl ⟨by rfl, ?_⟩) (by assumption) ?_
              rotate_left
              · intro w' hSw
                try dsimp only at hSw
                go_simp; try rfl
              simp only [List.getElem_toArray, List.getElem_cons_succ, List.getElem_cons_zero, Act.put, List.setIfInBounds_toArray, List.set_cons_zero, List.set_cons_succ]
              refine wpAnyH_take (i := 10) (v := ?_) rfl (by kernel_rfl) (by kernel_rfl) (by kernel_rfl) (fun _ _ _ h => h) (Or.inl ⟨by rfl, ?_⟩) (by assumption) ?_
              rotate_left
              · intro w' hSw
                try dsimp only at hSw
                go_simp; try rfl
              simp only [List.getElem_toArray, List.getElem_cons_succ, List.getElem_cons_zero, Act.put, List.setIfInBounds_toArray, List.set_cons_zero, List.set_cons_succ]
              refine wpAnyH_take (i := 11) (v := ?_) rfl (by kernel_rfl) (by kernel_rfl) (by kernel_rfl) (fun _ _ _ h => h) (Or.inl ⟨by rfl, ?_⟩) (by assumption) ?_
              rotate_left
              · intro w' hSw
                try dsimp only at hSw
                go_simp; try rfl
              simp only [List.getElem_toArray, List.getElem_cons_succ, List.getElem_cons_zero, Act.put, List.setIfInBounds_toArray, List.set_cons_zero, List.set_cons_succ]
              refine wpAnyH_take (i := 12) (v := ?_) rfl (by kernel_rfl) (by kernel_rfl) (by kernel_rfl) (fun _ _ _ h => h) (Or.inl ⟨by rfl, ?_⟩) (by assumption) ?_
              rotate_left
              · intro w' hSw
                try dsimp only at hSw
                go_simp; try rfl
              simp only [List.getElem_toArray, List.getElem_cons_succ, List.getElem_cons_zero, Act.put, List.setIfInBounds_toArray, List.set_cons_zero, List.set_cons_succ]
              refine wpAnyH_take (i := 13) (v := ?_) rfl (by kernel_rfl) (by kernel_rfl) (by kernel_rfl) (fun _ _ _ h => h) (Or.inl ⟨by rfl, ?_⟩) (by assumption) ?_
              rotate_left
              · intro w' hSw
                try dsimp only at hSw
                go_simp; try rfl
              simp only [List.getElem_toArray, List.getElem_cons_succ, List.getElem_cons_zero, Act.put, List.setIfInBounds_toArray, List.set_cons_zero, List.set_cons_succ]
              refine wpAnyH_take (i := 14) (v := ?_) rfl (by kernel_rfl) (by kernel_rfl) (by kernel_rfl) (fun _ _ _ h => h) (Or.inl ⟨by rfl, ?_⟩) (by assumption) ?_
              rotate_left
              · intro w' hSw
                try dsimp only at hSw
                go_simp; try rfl
              simp only [List.getElem_toArray, List.getElem_cons_succ, List.getElem_cons_zero, Act.put, List.setIfInBounds_toArray, List.set_cons_zero, List.set_cons_succ]
              refine wpAnyH_take (i := 15) (v := ?_) rfl (by kernel_rfl) (by kernel_rfl) (by kernel_rfl) (fun _ _ _ h => h) (Or.inl ⟨by rfl, ?_⟩) (by assumption) ?_
              rotate_left
              · intro w' hSw
                try dsimp only at hSw
                go_simp; try rfl
              simp only [List.getElem_toArray, List.getElem_cons_succ, List.getElem_cons_zero, Act.put, List.setIfInBounds_toArray, List.set_cons_zero, List.set_cons_succ]
              refine wpAnyH_take (i := 16) (v := ?_) rfl (by kernel_rfl) (by kernel_rfl) (by kernel_rfl) (fun _ _ _ h => h) (Or.inl ⟨by rfl, ?_⟩) (by assumption) ?_
              rotate_left
              · intro w' hSw
                try dsimp only at hSw
                go_simp; try rfl
              simp only [List.getElem_toArray, List.getElem_cons_succ, List.getElem_cons_zero, Act.put, List.setIfInBounds_toArray, List.set_cons_zero, List.set_cons_succ]
              refine wpAnyH_take (i := 17) (v := ?_) rfl (by kernel_rfl) (by kernel_rfl) (by kernel_rfl) (fun _ _ _ h => h) (Or.inl ⟨by rfl, ?_⟩) (by assumption) ?_
              rotate_left
              · intro w' hSw
                try dsimp only at hSw
                go_simp; try rfl
              simp only [List.getElem_toArray, List.getElem_cons_succ, List.getElem_cons_zero, Act.put, List.setIfInBounds_toArray, List.set_cons_zero, List.set_cons_succ]
              refine wpAnyH_take (i := 18) (v := ?_) rfl (by kernel_rfl) (by kernel_rfl) (by kernel_rfl) (fun _ _ _ h => h) (Or.inl ⟨by rfl, ?_⟩) (by assumption) ?_
              rotate_left
              · intro w' hSw
                try dsimp only at hSw
                go_simp; try rfl
              simp only [List.getElem_toArray, List.getElem_cons_succ, List.getElem_cons_zero, Act.put, List.setIfInBounds_toArray, List.set_cons_zero, List.set_cons_succ]
              refine wpAnyH_take (i := 20) (v := ?_) rfl (by kernel_rfl) (by kernel_rfl) (by kernel_rfl) (fun _ _ _ h => h) (Or.inl ⟨by rfl, ?_⟩) (by assumption) ?_
              rotate_left
              · intro w' hSw
                try dsimp only at hSw
                go_simp; try rfl
              simp only [List.getElem_toArray, List.getElem_cons_succ, List.getElem_cons_zero, Act.put, List.setIfInBounds_toArray, List.set_cons_zero, List.set_cons_succ]
              refine wpAnyH_take (i := 21) (v := ?_) rfl (by kernel_rfl) (by kernel_rfl) (by kernel_rfl) (fun _ _ _ h => h) (Or.inl ⟨by rfl, ?_⟩) (by assumption) ?_
              rotate_left
              · intro w' hSw
                try dsimp only at hSw
                go_simp; try rfl
              simp only [List.getElem_toArray, List.getElem_cons_succ, List.getElem_cons_zero, Act.put, List.setIfInBounds_toArray, List.set_cons_zero, List.set_cons_succ]
              refine wpAnyH_take (i := 22) (v := ?_) rfl (by kernel_rfl) (by kernel_rfl) (by kernel_rfl) (fun _ _ _ h => h) (Or.inl ⟨by rfl, ?_⟩) (by assumption) ?_
              rotate_left
              · intro w' hSw
                try dsimp only at hSw
                go_simp; try rfl
              simp only [List.getElem_toArray, List.getElem_cons_succ, List.getElem_cons_zero, Act.put, List.setIfInBounds_toArray, List.set_cons_zero, List.set_cons_succ]
              refine wpAnyH_take (i := 23) (v := ?_) rfl (by kernel_rfl) (by kernel_rfl) (by kernel_rfl) (fun _ _ _ h => h) (Or.inl ⟨by rfl, ?_⟩) (by assumption) ?_
              rotate_left
              · intro w' hSw
                try dsimp only at hSw
                go_simp; try rfl
              simp only [List.getElem_toArray, List.getElem_cons_succ, List.getElem_cons_zero, Act.put, List.setIfInBounds_toArray, List.set_cons_zero, List.set_cons_succ]
              refine wpAnyH_take (i := 24) (v := ?_) rfl (by kernel_rfl) (by kernel_rfl) (by kernel_rfl) (fun _ _ _ h => h) (Or.inl ⟨by rfl, ?_⟩) (by assumption) ?_
              rotate_left
              · intro w' hSw
                try dsimp only at hSw
                go_simp; try rfl
              simp only [List.getElem_toArray, List.getElem_cons_succ, List.getElem_cons_zero, Act.put, List.setIfInBounds_toArray, List.set_cons_zero, List.set_cons_succ]
              refine wpAnyH_take (i := 25) (v := ?_) rfl (by kernel_rfl) (by kernel_rfl) (by kernel_rfl) (fun _ _ _ h => h) (Or.inl ⟨by rfl, ?_⟩) (by assumption) ?_
              rotate_left
              · intro w' hSw
                try dsimp only at hSw
                go_simp; try rfl
              simp only [List.getElem_toArray, List.getElem_cons_succ, List.getElem_cons_zero, Act.put, List.setIfInBounds_toArray, List.set_cons_zero, List.set_cons_succ]
              refine wpAnyH_take (i := 26) (v := ?_) rfl (by kernel_rfl) (by kernel_rfl) (by kernel_rfl) (fun _ _ _ h => h) (Or.inl ⟨by rfl, ?_⟩) (by assumption) ?_
              rotate_left
              · intro w' hSw
                try dsimp only at hSw
                go_simp; try rfl
              simp only [List.getElem_toArray, List.getElem_cons_succ, List.getElem_cons_zero, Act.put, List.setIfInBounds_toArray, List.set_cons_zero, List.set_cons_succ]
              refine wpAnyH_take (i := 27) (v := ?_) rfl (by kernel_rfl) (by kernel_rfl) (by kernel_rfl) (fun _ _ _ h => h) (Or.inl ⟨by rfl, ?_⟩) (by assumption) ?_
              rotate_left
              · intro w' hSw
                try dsimp only at hSw
                go_simp; try rfl
              simp only [List.getElem_toArray, List.getElem_cons_succ, List.getElem_cons_zero, Act.put, List.setIfInBounds_toArray, List.set_cons_zero, List.set_cons_succ]
              refine wpAnyH_take (i := 28) (v := ?_) rfl (by kernel_rfl) (by kernel_rfl) (by kernel_rfl) (fun _ _ _ h => h) (Or.inl ⟨by rfl, ?_⟩) (by assumption) ?_
              rotate_left
              · intro w' hSw
                try dsimp only at hSw
                go_simp; try rfl
              simp only [List.getElem_toArray, List.getElem_cons_succ, List.getElem_cons_zero, Act.put, List.setIfInBounds_toArray, List.set_cons_zero, List.set_cons_succ]
              refine wpAnyH_ready (rs := [19]) (by kernel_rfl) (by simp) (AllReadyH.cons rfl (fun K hK => ?_) AllReadyH.nil)
              refine step_callW (some 41) rfl (by kernel_rfl) 35 _ _ rfl #[.slice pu (clk xs j).length qu, .int .i64 x.w] (by kernel_rfl) (countSR _ (clk xs j) _ x.w (HU.out.at HD.out) hcj) ?_
              rintro e x41 ⟨he, b1⟩
              subst he
              refine ⟨_, rfl, ?_⟩
              replace HD := hide (HD.out.trans (b1.mono HD.out.size))
              clear b1
              refine hK.out _ _ (HS.out _ HD.out) (fun hHeld => ?_)
              clear hK K
              simp only [Act.put, List.setIfInBounds_toArray, List.set_cons_zero, List.set_cons_succ]
              refine wpAnyH_ready (rs := [29]) (by kernel_rfl) (by simp) (AllReadyH.cons rfl (fun K hK => ?_) AllReadyH.nil)
              refine step_callW (some 51) rfl (by kernel_rfl) 35 _ _ rfl #[.slice pt (clk xs i).length qt, .int .i64 x.w] (by kernel_rfl) (countSR _ (clk xs i) _ x.w (HT.out.at HD.out) hci) ?_
              rintro e x51 ⟨he, b1⟩
              subst he
              refine ⟨_, rfl, ?_⟩
              replace HD := hide (HD.out.trans (b1.mono HD.out.size))
              clear b1
              refine hK.out _ _ (HS.out _ HD.out) (fun hHeld => ?_)
              clear hK K
              simp only [Act.put, List.setIfInBounds_toArray, List.set_cons_zero, List.set_cons_succ]
              refine wpAnyH_take (i := 30) (v := ?_) rfl (by kernel_rfl) (by kernel_rfl) (by kernel_rfl) (fun _ _ _ h => h) (Or.inl ⟨by rfl, ?_⟩) (by assumption) ?_
              rotate_left
              · intro w' hSw
                try dsimp only at hSw
                go_simp; try rfl
              simp only [List.getElem_toArray, List.getElem_cons_succ, List.getElem_cons_zero, Act.put, List.setIfInBounds_toArray, List.set_cons_zero, List.set_cons_succ]
              refine wpAnyH_take (i := 31) (v := ?_) rfl (by kernel_rfl) (by kernel_rfl) (by kernel_rfl) (fun _ _ _ h => h) (Or.inl ⟨by rfl, ?_⟩) (by assumption) ?_
              rotate_left
              · intro w' hSw
                try dsimp only at hSw
                go_simp; try rfl
              simp only [List.getElem_toArray, List.getElem_cons_succ, List.getElem_cons_zero, Act.put, List.setIfInBounds_toArray, List.set_cons_zero, List.set_cons_succ]
              refine wpAnyH_done (by kernel_rfl) ?_ _
              by_cases hlc : cntX (clk xs j) x.w < cntX (clk xs i) x.w
              · have HRT : Hid (raceB xs i j = true) := hide (by rw [HRB.out, hcl, decide_eq_true hlc]; rfl)
                have HV := hide (raceX_hit he hlt (racesAt_yes hli HRT.out) HA.out)
                have HBn := hide (HB2.out.trans (HD.out.mono HB2.out.size))
                go_wp2
                go_ret
                exact ⟨by rw [HV.out]; rfl, HBw.out.trans (HBn.out.mono HBw.out.size)⟩
              · have HRF : Hid (raceB xs i j = false) := hide (by rw [HRB.out, hcl, decide_eq_false hlc]; rfl)
                have HBn := hide (HB2.out.trans (HD.out.mono HB2.out.size))
                have HQn : Hid (∀ k, k < i + 1 → raceB xs k j = false) := hide (fun k hk => by
                  rcases Nat.lt_succ_iff_lt_or_eq.1 hk with h | rfl
                  · exact HQ.out k h
                  · exact HRF.out)
                go_wp2
                exact ⟨⟨i + 1, by omega, by go_num, HBn, HQn⟩, by simp [intOf]; omega⟩
          · obtain rfl : i = j := by omega
            have hnl : ¬ (i : Int) < (i : Int) := by omega
            have HA2 : Hid (∀ k, k < i + 1 → racesAt xs k = false) := hide (fun k hk => by
              rcases Nat.lt_succ_iff_lt_or_eq.1 hk with h | rfl
              · exact HA.out k h
              · exact racesAt_no HQ.out)
            go_wp2
            exact ⟨⟨i + 1, by omega, by go_num, HB, HA2⟩, by simp [intOf]; omega⟩
      · obtain rfl : j = xs.length := by omega
        have hnl : ¬ (xs.length : Int) < (xs.length : Int) := by omega
        have HV := hide (raceX_none HA.out)
        go_wp2
        go_ret
        exact ⟨by rw [HV.out]; rfl, HBw.out.trans (HB0.out.mono HBw.out.size)⟩
end Go.Proofs.Ytllghgcancennaa
