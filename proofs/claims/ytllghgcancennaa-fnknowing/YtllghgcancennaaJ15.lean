/-
  Joined: ClcS, DeepC.
-/
import Derived.Test.YtllghgcancennaaJ10
import Derived.Test.YtllghgcancennaaJ14
import Derived.Test.YtllghgcancennaaJ13
import Derived.Test.YtllghgcancennaaJ6
/-
  The clocks of events in the model: the last event of a kind.
-/
namespace Go.Proofs.Ytllghgcancennaa
open Go.RowKit

set_option maxRecDepth 100000 in
set_option maxHeartbeats 8000000 in
theorem lastS (w : World) (xs : List Evt) (v : Value) (n : Nat) (k i q : Int) (h : Reads w w.heap.size (evts xs) v) (hm : xs.length ≤ 1048576) (hn : n ≤ xs.length) :
    Calls Try.prog 59 #[v, .int .i64 (n : Int), .int .i64 k, .int .i64 i, .int .i64 q] w fun e w' => e = .returned (.int .i64 (lastI xs k i q n)) ∧ Below w.heap.size w w' := by
  have HR := hide h
  obtain ⟨a1, c1, e1, _⟩ := h.shape
  subst e1
  clear h
  obtain ⟨V, hV⟩ : ∃ V, lastI xs k i q n = V := ⟨_, rfl⟩
  have HV := hide hV
  rw [hV]
  clear hV
  go_enter Try.func59, Try.ntmps59
  go_wp2
  go_loopw [11] (fun x wr => ∃ j : Nat, j ≤ xs.length ∧ x = .int .i64 ((j : Int) - 1) ∧ Hid (Below w.heap.size w wr) ∧ Hid (lastI xs k i q j = V)) (fun x _ => (intOf x + 1).toNat)
  case atStart => exact ⟨n, hn, by go_num, hide (Below.refl _ _), HV⟩
  case round =>
    obtain ⟨j, hj, rfl, HB, HL⟩ := hrel
    cases j with
    | zero =>
      have HF : Hid (V = -1) := hide (by rw [← HL.out, lastI])
      have e0 : ((0 : Nat) : Int) - 1 = -1 := rfl
      rw [e0]
      go_wp2
      go_ret
      exact ⟨by rw [HF.out]; rfl, HB.out⟩
    | succ p =>
      have hlt : p < xs.length := hj
      have hp1 : ((p + 1 : Nat) : Int) - 1 = (p : Int) := by omega
      rw [hp1]
      have hp0 : (0 : Int) ≤ (p : Int) := by omega
      clear hp1
      obtain ⟨a', cap', ea, hcap, _, hc⟩ := event_at (HR.out.at HB.out)
      cases ea
      obtain ⟨b, o, rfl, hbb, hcell⟩ := hc (by omega)
      obtain ⟨d0, d1, d2, d3⟩ := hcell p hlt
      clear hc hcell
      obtain ⟨y, hy⟩ : ∃ y, xs.getD p default = y := ⟨_, rfl⟩
      rw [hy] at d0 d1 d2 d3
      have HY := hide hy
      clear hy
      have hltI : (p : Int) < (xs.length : Int) := by omega
      go_upto_region 5 with fail
      clear d0 d1 d2 d3
      have bA := (Below.refl wr.heap.size wr).alloc (Nat.le_refl _) (.cells #[.int .i64 y.w, .int .i64 y.k, .int .i64 y.i, .int .i64 y.a] 40)
      have EF := hide (heap_alloc_new wr (.cells #[.int .i64 y.w, .int .i64 y.k, .int .i64 y.i, .int .i64 y.a] 40))
      have HBw := hide (HB.out.trans (bA.mono HB.out.size))
      clear bA hbb
      obtain ⟨gf, hgf⟩ : ∃ g, wr.heap.size = g := ⟨_, rfl⟩
      rw [hgf] at EF ⊢
      clear hgf
      generalize wr.alloc (.cells #[.int .i64 y.w, .int .i64 y.k, .int .i64 y.i, .int .i64 y.a] 40) = W2 at *
      have k0 := (box_of EF.out).1 0 _ rfl
      have k1 := (box_of EF.out).1 1 _ rfl
      have k2 := (box_of EF.out).1 2 _ rfl
      by_cases c1 : k < 0
      · by_cases c4 : q < 0
        · have HH : hitE y k i q = true := by unfold hitE; simp [c1, c4]
          have HF : Hid (V = (p : Int)) := hide (by rw [← HL.out, lastI, if_pos (by rw [HY.out]; exact HH)])
          go_wp2
          go_ret
          exact ⟨by rw [HF.out]; rfl, HBw.out⟩
        · cases c5 : (y.w == q) with
          | true =>
            have c5e : y.w = q := eq_of_beq c5
            have HH : hitE y k i q = true := by unfold hitE; simp [c1, c4, c5e]
            have HF : Hid (V = (p : Int)) := hide (by rw [← HL.out, lastI, if_pos (by rw [HY.out]; exact HH)])
            go_wp2
            go_ret
            exact ⟨by rw [HF.out]; rfl, HBw.out⟩
          | false =>
            have c5e : ¬ y.w = q := fun e => by rw [e] at c5; simp at c5
            have HH : hitE y k i q = false := by unfold hitE; simp [c1, c4, c5e]
            have HL2 : Hid (lastI xs k i q p = V) := hide (by rw [← HL.out, lastI, if_neg (by rw [HY.out, HH]; simp)])
            go_wp2
            exact ⟨⟨p, by omega, by go_num, HBw, HL2⟩, by simp [intOf]⟩
      · cases c2 : (y.k == k) with
        | false =>
          have c2e : ¬ y.k = k := fun e => by rw [e] at c2; simp at c2
          have HH : hitE y k i q = false := by unfold hitE; simp [c1, c2e]
          have HL2 : Hid (lastI xs k i q p = V) := hide (by rw [← HL.out, lastI, if_neg (by rw [HY.out, HH]; simp)])
          go_wp2
          exact ⟨⟨p, by omega, by go_num, HBw, HL2⟩, by simp [intOf]⟩
        | true =>
          have c2e : y.k = k := eq_of_beq c2
          cases c3 : (y.i == i) with
          | false =>
            have c3e : ¬ y.i = i := fun e => by rw [e] at c3; simp at c3
            have HH : hitE y k i q = false := by unfold hitE; simp [c1, c3e]
            have HL2 : Hid (lastI xs k i q p = V) := hide (by rw [← HL.out, lastI, if_neg (by rw [HY.out, HH]; simp)])
            go_wp2
            exact ⟨⟨p, by omega, by go_num, HBw, HL2⟩, by simp [intOf]⟩
          | true =>
            have c3e : y.i = i := eq_of_beq c3
            by_cases c4 : q < 0
            · have HH : hitE y k i q = true := by unfold hitE; simp [c2e, c3e, c4]
              have HF : Hid (V = (p : Int)) := hide (by rw [← HL.out, lastI, if_pos (by rw [HY.out]; exact HH)])
              go_wp2
              go_ret
              exact ⟨by rw [HF.out]; rfl, HBw.out⟩
            · cases c5 : (y.w == q) with
              | true =>
                have c5e : y.w = q := eq_of_beq c5
                have HH : hitE y k i q = true := by unfold hitE; simp [c2e, c3e, c4, c5e]
                have HF : Hid (V = (p : Int)) := hide (by rw [← HL.out, lastI, if_pos (by rw [HY.out]; exact HH)])
                go_wp2
                go_ret
                exact ⟨by rw [HF.out]; rfl, HBw.out⟩
              | false =>
                have c5e : ¬ y.w = q := fun e => by rw [e] at c5; simp at c5
                have HH : hitE y k i q = false := by unfold hitE; simp [c2e, c3e, c4, c5e]
                have HL2 : Hid (lastI xs k i q p = V) := hide (by rw [← HL.out, lastI, if_neg (by rw [HY.out, HH]; simp)])
                go_wp2
                exact ⟨⟨p, by omega, by go_num, HBw, HL2⟩, by simp [intOf]⟩
end Go.Proofs.Ytllghgcancennaa
/-
  A cell of one of several rows of one's own is stored into.
-/
namespace Go.Proofs.Ytllghgcancennaa
open Go.RowKit

theorem OwnDL.cell {w : World} {b hi : Nat} {T : TypeId} {k n c g : Nat} {cs c1 c2 : List Dt} {v1 v2 : List Value} (h : OwnDL w b hi (c1 ++ .row T k n cs :: c2) (v1 ++ .slice (some ⟨g, 0, none⟩) n c :: v2)) (hl : v1.length = c1.length) {i : Nat} {z : Value} (hi' : cs[i]? = some (.val z)) (u : Value) :
    w.cell? ⟨g, i, none⟩ = some z ∧ w.frozen? ⟨g, i, none⟩ = false ∧ b ≤ g ∧ OwnDL (w.setCell ⟨g, i, none⟩ u) b hi (c1 ++ .row T k n (cs.set i (.val u)) :: c2) (v1 ++ .slice (some ⟨g, 0, none⟩) n c :: v2) := by
  obtain ⟨F, h1, h2, h3⟩ := h
  obtain ⟨u1, u2, F1, F2, e, rfl, h4, h5⟩ := OwnsL.app h1
  obtain ⟨rfl, rfl⟩ := List.append_inj e (by rw [h4.len, hl])
  obtain ⟨y, us, G1, G2, e2, rfl, h6, h7⟩ := ownsL_cons h5
  cases e2
  have nd := List.nodup_append.1 h2
  have nd2 := List.nodup_append.1 nd.2.1
  obtain ⟨e0, f0, hgF, ho⟩ := h6.cell nd2.1 hi' u
  have keep : ∀ {cs : List Dt} {ws : List Value} {H : List Nat}, OwnsL w b cs ws H → g ∉ H → OwnsL (w.setCell ⟨g, i, none⟩ u) b cs ws H := by
    intro cs ws H ho hm
    exact ho.same (fun q hq => heap_setCell_other w ⟨g, i, none⟩ q u (fun e => hm (by have e2 : q = g := e; rw [← e2]; exact hq)))
  refine ⟨e0, f0, (Owns.lt _ _ _ h6 g hgF).1, F1 ++ (G1 ++ G2), (keep h4 (fun hm => nd.2.2 g hm g (by simp [hgF]) rfl)).join (ownsL_mk ho (keep h7 (fun hm => nd2.2.2 g hgF g hm rfl))), h2, h3⟩
end Go.Proofs.Ytllghgcancennaa
