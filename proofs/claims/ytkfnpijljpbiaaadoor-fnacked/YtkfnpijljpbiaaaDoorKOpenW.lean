/-
  What Open and its model do: what was sealed, in new memory; nothing where the sums are not those.
-/
import Derived.Test.YtkfnpijljpbiaaaDoorJ16
import Derived.Test.YtkfnpijljpbiaaaDoorJ26
import Derived.RegionTactic
import Derived.ChangeAlike
import Derived.BigRegion
import Derived.Deep.RegionWith
import Derived.Deep.CutRange
namespace Go.Proofs.YtkfnpijljpbiaaaDoor
open Go.RowKit

/-- Both sums, as four bytes tell them. -/
def told (q : List Int) : Int × Int := (q.getD 0 0 + q.getD 1 0 * 256, q.getD 2 0 + q.getD 3 0 * 256)

theorem told_iff (p q : List Int) (hq : Byt q) (hl : q.length = 4) : four (chk p) = q ↔ sums p = told q := by
  obtain ⟨a, b, c, d, rfl⟩ : ∃ a b c d, q = [a, b, c, d] := by
    match q, hl with
    | [a, b, c, d], _ => exact ⟨a, b, c, d, rfl⟩
  have ha := hq a (by simp)
  have hb := hq b (by simp)
  have hc := hq c (by simp)
  have hd := hq d (by simp)
  have hs := sums_bd p
  unfold four chk told
  generalize sums p = s at *
  obtain ⟨x, y⟩ := s
  simp only at hs
  simp only [List.cons.injEq, and_true, Prod.mk.injEq, List.getD_cons_zero, List.getD_cons_succ]
  constructor
  · rintro ⟨h1, h2, h3, h4⟩
    constructor <;> omega
  · rintro ⟨h1, h2⟩
    refine ⟨?_, ?_, ?_, ?_⟩ <;> omega

theorem In.take {w : World} {B len : Nat} {a : Option Addr} {zs : List Int} (h : In w B a len zs) (n : Nat) (hn : n ≤ len) : In w B a n (zs.take n) := by
  have hl := h.1
  refine ⟨by simp; omega, by have := h.2.1; omega, fun j hj => ?_, fun hp => ?_⟩
  · have := h.2.2.1 j (by omega)
    simpa [List.getD, hj] using this
  · obtain ⟨b, o, ha, hb, hc⟩ := h.2.2.2 (by omega)
    refine ⟨b, o, ha, hb, fun j hj => ?_⟩
    have := hc j (by omega)
    rw [this]
    simp [List.getD, hj]
theorem In.drop {w : World} {B len : Nat} {b o : Nat} {zs : List Int} (h : In w B (some ⟨b, o, none⟩) len zs) (n : Nat) (hn : n ≤ len) : In w B (some ⟨b, o + n, none⟩) (len - n) (zs.drop n) := by
  have hl := h.1
  refine ⟨by simp; omega, by have := h.2.1; omega, fun j hj => ?_, fun hp => ?_⟩
  · have := h.2.2.1 (n + j) (by omega)
    simpa [List.getD] using this
  · obtain ⟨b', o', ha, hb, hc⟩ := h.2.2.2 (by omega)
    cases ha
    refine ⟨_, _, rfl, hb, fun j hj => ?_⟩
    have := hc (n + j) (by omega)
    rw [Nat.add_assoc, this]
    simp [List.getD]

set_option maxRecDepth 100000 in
set_option maxHeartbeats 1000000 in
theorem sumsTold (w : World) (a : Option Addr) (cap : Nat) (zs : List Int) (hin : In w w.heap.size a 4 zs) :
    Calls Tryd.prog 66 #[.slice a 4 cap] w fun e w' => e = .returned (sumsV (told zs)) ∧ Below w.heap.size w w' := by
  obtain ⟨b, o, rfl, hb, hc⟩ := hin.2.2.2 (by omega)
  have c0 := hc 0 (by omega)
  have c1 := hc 1 (by omega)
  have c2 := hc 2 (by omega)
  have c3 := hc 3 (by omega)
  have z0 := hin.2.2.1 0 (by omega)
  have z1 := hin.2.2.1 1 (by omega)
  have z2 := hin.2.2.1 2 (by omega)
  have z3 := hin.2.2.1 3 (by omega)
  rw [Nat.add_zero] at c0
  have HE : Hid (told zs = (zs.getD 0 0 + zs.getD 1 0 * 256, zs.getD 2 0 + zs.getD 3 0 * 256)) := hide rfl
  clear hin hc
  generalize zs.getD 0 0 = q0 at *
  generalize zs.getD 1 0 = q1 at *
  generalize zs.getD 2 0 = q2 at *
  generalize zs.getD 3 0 = q3 at *
  go_enter Tryd.func66, Tryd.ntmps66
  go_wp2
  go_region
  go_wp2
  refine bodyPost_ret (v := sumsV (told zs)) (results_one Tryd.results66 _ _ _ rfl ?_) rfl ⟨rfl, below_drewN ((Below.refl _ _).alloc (Nat.le_refl _) _) 1⟩
  rw [HE.out]
  exact load_two (heap_alloc_new w _)

/-- What was sealed, if it was. -/
def opened (zs : List Int) : Option (List Int) := if 4 ≤ zs.length ∧ sums (zs.take (zs.length - 4)) = told (zs.drop (zs.length - 4)) then some (zs.take (zs.length - 4)) else none

theorem opened_short (zs : List Int) (h : zs.length < 4) : opened zs = none := by
  unfold opened; rw [if_neg (by omega)]
theorem opened_bad (zs : List Int) (h : ¬ sums (zs.take (zs.length - 4)) = told (zs.drop (zs.length - 4))) : opened zs = none := by
  unfold opened; rw [if_neg (fun h' => h h'.2)]
theorem opened_fine (zs : List Int) (h : 4 ≤ zs.length) (h' : sums (zs.take (zs.length - 4)) = told (zs.drop (zs.length - 4))) : opened zs = some (zs.take (zs.length - 4)) := by
  unfold opened; rw [if_pos ⟨h, h'⟩]

/-- What Open answers. -/
def openA (B : Nat) (r : Option (List Int)) (e : Ending) (w' : World) : Prop :=
  match r with
  | none => ∃ v, e = .returned (.tuple #[v, .bool false]) ∧ Own w' B v []
  | some zs => ∃ v, e = .returned (.tuple #[v, .bool true]) ∧ Own w' B v zs

set_option maxRecDepth 100000 in
set_option maxHeartbeats 8000000 in
theorem openImpl (w : World) (a : Option Addr) (len cap : Nat) (zs : List Int) (hin : In w w.heap.size a len zs) (hcap : len ≤ cap) :
    Calls Tryd.prog 49 #[.slice a len cap] w fun e w' => openA w.heap.size (opened zs) e w' ∧ Below w.heap.size w w' := by
  have hl := hin.1
  have hm := hin.2.1
  by_cases hs : len < 4
  · rw [opened_short zs (by omega)]
    have hs' : (len : Int) < 4 := by omega
    have hd : decide ((len : Int) - 4 < 0) = true := by simp; omega
    clear hin hl
    go_enter Tryd.func49, Tryd.ntmps49
    go_wp2
    go_quiet (fail)
    go_wp2
    go_ret2
    exact ⟨⟨_, rfl, World.ownsRow_nil _ _ _ _⟩, below_drewN (Below.refl _ _) _⟩
  · obtain ⟨n, rfl⟩ : ∃ n, len = n + 4 := ⟨len - 4, by omega⟩
    obtain ⟨b, o, rfl, hb, hc⟩ := hin.2.2.2 (by omega)
    have hn4 : (((n + 4 : Nat) : Int) - 4) = (n : Int) := by omega
    have HT := hide (hin.take n (by omega))
    have HD : Hid (In w w.heap.size (some ⟨b, o + n, none⟩) 4 (zs.drop n)) := hide (by have := hin.drop n (by omega); rwa [show n + 4 - n = 4 from by omega] at this)
    have hd : decide ((n : Int) < 0) = false := by simp
    have HT0 := HT
    have HT : Hid (In w.drew w.drew.heap.size (some ⟨b, o, none⟩) n (zs.take n)) := HT
    have HD : Hid (In w.drew w.drew.heap.size (some ⟨b, o + n, none⟩) 4 (zs.drop n)) := HD
    clear hc hin
    have hne := neq_sums
    have hgu := guard_sums
    have e4 : zs.length - 4 = n := by omega
    go_enter Tryd.func49, Tryd.ntmps49
    go_upto_region 2 with fail
    go_cut [20] from 8 to 20 (fun s wr => s = .bool (!(sums (zs.take n)).1 == (told (zs.drop n)).1 || !(sums (zs.take n)).2 == (told (zs.drop n)).2) ∧ Below w.heap.size w wr)
    case first =>
      go_region_with (first
        | (go_at_call 60; refine (sumsOf _ _ _ _ _ HT.out).mono ?_; rintro e w1 ⟨rfl, b1⟩; have HB1 := hide b1; clear b1)
        | (go_at_call 66; refine (sumsTold _ _ _ _ (HD.out.at HB1.out)).mono ?_; rintro e w2 ⟨rfl, b2⟩; have HB2 := hide (below_of_drew (HB1.out.trans (b2.mono HB1.out.size))); clear b2))
      all_goals (go_wp2_with fail; go_meet; exact ⟨rfl, HB2.out⟩)
    case rest =>
      obtain ⟨rfl, hB⟩ := hcut
      have HB := hide hB
      have HTc := hide ((HT0.out.at hB))
      clear hB hne hgu HT HD
      by_cases heq : sums (zs.take n) = told (zs.drop n)
      · have HF := hide (opened_fine zs (by omega) (by rw [e4]; exact heq))
        rw [e4] at HF
        have hbb : (!(sums (zs.take n)).1 == (told (zs.drop n)).1 || !(sums (zs.take n)).2 == (told (zs.drop n)).2) = false := by rw [heq]; simp
        rw [hbb]
        clear heq hbb
        go_wp2_with fail
        refine (cloneB _ _ _ _ _ HTc.out (by simp)).mono ?_
        rintro e w3 ⟨v3, rfl, o3, b3, _⟩
        have HO := hide (o3.mono HB.out.size)
        replace HB := hide (HB.out.trans (b3.mono HB.out.size))
        clear o3 b3 HTc
        go_wp2
        go_ret2
        refine ⟨?_, HB.out⟩
        rw [HF.out]
        exact ⟨_, rfl, HO.out⟩
      · have HF := hide (opened_bad zs (by rw [e4]; exact heq))
        have hbb : (!(sums (zs.take n)).1 == (told (zs.drop n)).1 || !(sums (zs.take n)).2 == (told (zs.drop n)).2) = true := by
          rw [Bool.or_eq_true]
          by_cases h1 : (sums (zs.take n)).1 = (told (zs.drop n)).1
          · right
            rw [Bool.not_eq_true', beq_eq_false_iff_ne]
            exact fun h2 => heq (Prod.ext h1 h2)
          · left
            rw [Bool.not_eq_true', beq_eq_false_iff_ne]
            exact h1
        rw [hbb]
        clear heq hbb HTc
        go_wp2
        go_ret2
        refine ⟨?_, HB.out⟩
        rw [HF.out]
        exact ⟨_, rfl, World.ownsRow_nil _ _ _ _⟩
end Go.Proofs.YtkfnpijljpbiaaaDoor
