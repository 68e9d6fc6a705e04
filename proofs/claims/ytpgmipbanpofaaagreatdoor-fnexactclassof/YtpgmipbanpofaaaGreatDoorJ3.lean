/-
  Joined: Laid, GnMath, TakeNum.
-/
import Derived.Test.YtpgmipbanpofaaaGreatDoorRows
import Derived.Test.YtpgmipbanpofaaaGreatDoorJ2
import Derived.ChangeSame
import Derived.ChangeVars
import Derived.JoinedOf
import Derived.RowKit
import Derived.RowKitTokens
import Derived.LaidLaws
import Derived.LaidMore
import Derived.Stop.Joined
import Derived.WalkSmall
/-
  What the listed variable gives: it holds an error that is not nil; a start that fits is there.
-/
namespace Go.Proofs.YtpgmipbanpofaaaGreatDoor
open Go.ChangeShapes Go.WideShapes Go.RowKit

theorem Tryz.own : ownKnob Tryz.prog.godebug = none := by kernel_rfl
theorem Tryz.laidOut : laidOutB Tryz.prog = true := by kernel_rfl
theorem gErr : Tryz.prog.globalNamed "loop.example/g00283/impl.errNone" = some 0 := by kernel_rfl
theorem tErr : (Tryz.prog.globals[0]?).map (·.type) = some 102 := by kernel_rfl

def laidL : List (String × DataW Unit) := [("loop.example/g00283/impl.errNone", Rows.laid_loop_example_g00283_impl_errNone)]

theorem door_met (os : Os) (args : Array Value) : laidMetH Tryz.prog laidL ((World.doorLaid Tryz.prog 28 os).forCall (fun _ _ => 0) ⟨#[], args, []⟩).memory :=
  laidMetH_of_parts3 (fuel := 8) (laidMet_of_run' 8 (by kernel_rfl) (by kernel_rfl)) (by kernel_rfl) (by kernel_rfl)

theorem err_of_laid {W : World} (h : laidMetH Tryz.prog laidL W) : ∃ u x, W.var? Tryz.prog "loop.example/g00283/impl.errNone" = some #[.iface u x] := by
  rw [MakeChecks.laidMetH_plain _ _ _ (by kernel_rfl)] at h
  obtain ⟨ps, ⟨g0, t0, cs0, f0, p0, q0, hg0, ht0, hv0, hd0, _, _⟩, _, _⟩ := h
  obtain rfl := Option.some.inj (gErr.symm.trans hg0)
  obtain rfl := Option.some.inj (tErr.symm.trans ht0)
  obtain ⟨f1, u, v, hcs, _, _⟩ := iface_of_trod Tryz.underlying102 hd0
  have hcs' : cs0 = #[.iface u v] := by cases cs0; simp_all
  exact ⟨u, v, by rw [hv0, hcs']⟩

theorem err_cell {W : World} {u : TypeId} {x : Value} (h : W.var? Tryz.prog "loop.example/g00283/impl.errNone" = some #[.iface u x]) : Err W u x ∧ 0 < W.heap.size := by
  have hc : W.cell? ⟨0, 0, none⟩ = some (.iface u x) := by simpa using World.var?_cell gErr h 0
  exact ⟨hc, World.block_lt_of_cell? W _ hc⟩

theorem vars_read {H : Type} (enc : TypeId × Value → H) {W : World} {u : TypeId} {x : Value} (h : W.var? Tryz.prog "loop.example/g00283/impl.errNone" = some #[.iface u x]) (sp : Nat → Bool) :
    DataW.TrodVars enc Tryz.prog W sp ["loop.example/g00283/impl.errNone"] [tok enc (.iface u x)] [.cell 0 0] :=
  have hi : IsIface (.iface u x) := trivial
  ⟨0, 102, #[.iface u x], 1, [], [], gErr, tErr, h, trod_held Tryz.underlying102 hi 0, rfl, rfl⟩
end Go.Proofs.YtpgmipbanpofaaaGreatDoor
/-
  Numbers as bytes: what is put is got; what is got is what was put.
-/
namespace Go.Proofs.YtpgmipbanpofaaaGreatDoor
open Go.RowKit

theorem mul_part (m wt : Int) : m % 128 * wt + m / 128 * (wt * 128) = m * wt := by
  have h : m = 128 * (m / 128) + m % 128 := by omega
  generalize m / 128 = q at *
  generalize m % 128 = r at *
  subst h
  grind

/-- The bytes of a number, wherever they lie, are read as that number. -/
theorem gnF_pnF (zs : List Int) : ∀ (j k : Nat) (m n wt : Int), 0 ≤ m → m ≤ pnB j → 1 ≤ wt → (m ≠ 0 ∨ wt = 1) → n + m * wt ≤ 16777215 →
    k + (pnF j m).length ≤ zs.length → (∀ i, i < (pnF j m).length → zs.getD (k + i) 0 = (pnF j m).getD i 0) →
    gnF zs (j + 1) k n wt = some (n + m * wt, k + (pnF j m).length)
  | 0, k, m, n, wt, h0, h1, hw, hz, hb, hl, hc => by
    simp only [pnB] at h1
    have e := pnF_lo 0 m h1
    rw [e] at hl hc ⊢
    simp only [List.length_cons, List.length_nil] at hl hc ⊢
    have hz0 := hc 0 (by omega)
    simp only [Nat.add_zero, List.getD_cons_zero] at hz0
    have hmod : m % 128 = m := by omega
    rw [gnF_yes zs 0 k n wt (by omega) (by rw [hz0]; omega) (by rw [hz0, hmod]; omega), hz0, hmod]
  | j + 1, k, m, n, wt, h0, h1, hw, hz, hb, hl, hc => by
    by_cases hm : 127 < m
    · have e := pnF_hi j m hm
      rw [e] at hl hc ⊢
      simp only [List.length_cons] at hl hc ⊢
      have hz0 := hc 0 (by omega)
      simp only [Nat.add_zero, List.getD_cons_zero] at hz0
      have hmod : (m % 128 + 128) % 128 = m % 128 := by omega
      rw [gnF_on zs (j + 1) k n wt (by omega) (by rw [hz0]; omega), hz0, hmod]
      have hmul := mul_part m wt
      rw [gnF_pnF zs j (k + 1) (m / 128) (n + m % 128 * wt) (wt * 128) (by omega) (by simp only [pnB] at h1; omega) (by omega) (.inl (by omega)) (by omega) (by omega) (fun i hi => by
        have := hc (i + 1) (by omega)
        rw [List.getD_cons_succ] at this
        rw [show k + 1 + i = k + (i + 1) from by omega]
        exact this)]
      simp only [Option.some.injEq, Prod.mk.injEq]
      omega
    · have e := pnF_lo (j + 1) m (by omega)
      rw [e] at hl hc ⊢
      simp only [List.length_cons, List.length_nil] at hl hc ⊢
      have hz0 := hc 0 (by omega)
      simp only [Nat.add_zero, List.getD_cons_zero] at hz0
      have hmod : m % 128 = m := by omega
      rw [gnF_yes zs (j + 1) k n wt (by omega) (by rw [hz0]; omega) (by rw [hz0, hmod]; omega), hz0, hmod]

/-- What is read as a number are that number's bytes. -/
theorem gnF_back (zs : List Int) (hB : Byt zs) : ∀ (f k : Nat) (n wt r : Int) (nx : Nat), 1 ≤ wt → gnF zs f k n wt = some (r, nx) →
    ∃ (m : Int) (j : Nat), 0 ≤ m ∧ r = n + m * wt ∧ r ≤ 16777215 ∧ (m ≠ 0 ∨ wt = 1) ∧ f = j + 1 ∧ (zs.drop k).take (nx - k) = pnF j m ∧ nx = k + (pnF j m).length ∧ nx ≤ zs.length
  | 0, k, n, wt, r, nx, hw, h => by simp [gnF] at h
  | f + 1, k, n, wt, r, nx, hw, h => by
    by_cases hk : k < zs.length
    · have hz := hB.at k hk
      have hd : zs.drop k = zs.getD k 0 :: zs.drop (k + 1) := by rw [List.drop_eq_getElem_cons hk]; simp [hk]
      generalize hzz : zs.getD k 0 = z at *
      by_cases h128 : z < 128
      · by_cases hb : 16777215 < n + z % 128 * wt ∨ (z = 0 ∧ 1 < wt)
        · rw [gnF_no zs f k n wt hk (by omega) (by rw [hzz]; exact hb)] at h; cases h
        · rw [gnF_yes zs f k n wt hk (by omega) (by rw [hzz]; exact hb)] at h
          simp only [Option.some.injEq, Prod.mk.injEq] at h
          obtain ⟨h1, h2⟩ := h
          have hmod : z % 128 = z := by omega
          rw [hzz, hmod] at h1
          rw [hmod] at hb
          refine ⟨z, f, hz.1, h1.symm, by omega, by omega, rfl, ?_, ?_, by omega⟩
          · rw [pnF_lo f z (by omega), hd, show nx - k = 1 from by omega]; simp
          · rw [pnF_lo f z (by omega)]; simp; omega
      · rw [gnF_on zs f k n wt hk (by omega), hzz] at h
        obtain ⟨m, j, hm0, hr, hr', hm1, hf, ht, hn, hl⟩ := gnF_back zs hB f (k + 1) (n + z % 128 * wt) (wt * 128) r nx (by omega) h
        have hm : m ≠ 0 := by omega
        have hmm : 127 < z % 128 + 128 * m := by omega
        have e1 : (z % 128 + 128 * m) % 128 = z % 128 := by omega
        have e2 : (z % 128 + 128 * m) / 128 = m := by omega
        refine ⟨z % 128 + 128 * m, f, by omega, ?_, hr', .inl (by omega), rfl, ?_, ?_, hl⟩
        · have := mul_part (z % 128 + 128 * m) wt
          rw [e1, e2] at this
          omega
        · subst hf
          rw [pnF_hi j _ hmm, e1, e2, hd, show nx - k = (nx - (k + 1)) + 1 from by omega, List.take_succ_cons, ht, show z % 128 + 128 = z from by omega]
        · subst hf
          rw [pnF_hi j _ hmm, e1, e2]
          simp only [List.length_cons]
          omega
    · rw [gnF_end zs (f + 1) k n wt (by omega)] at h; cases h

/-- What is put is got. -/
theorem gn_pn (zs : List Int) (k : Nat) (x : Int) (h0 : 0 ≤ x) (h1 : x ≤ 16777215) (hl : k + (pn x).length ≤ zs.length) (hc : ∀ i, i < (pn x).length → zs.getD (k + i) 0 = (pn x).getD i 0) :
    gn zs (k : Int) = some (x, k + (pn x).length) := by
  unfold gn
  rw [if_pos (by omega), Int.toNat_natCast]
  rw [pn_in x h0 h1] at hl hc ⊢
  have := gnF_pnF zs 3 k x 0 1 h0 (by simp [pnB]; omega) (by omega) (.inr rfl) (by omega) hl hc
  simpa using this

/-- What is got was put. -/
theorem gn_back (zs : List Int) (hB : Byt zs) (k r : Int) (nx : Nat) (h : gn zs k = some (r, nx)) : 0 ≤ k ∧ 0 ≤ r ∧ r ≤ 16777215 ∧ (zs.drop k.toNat).take (nx - k.toNat) = pn r ∧ nx = k.toNat + (pn r).length ∧ nx ≤ zs.length := by
  unfold gn at h
  by_cases hk : 0 ≤ k
  · rw [if_pos hk] at h
    obtain ⟨m, j, hm0, hr, hr', _, hf, ht, hn, hl⟩ := gnF_back zs hB 4 k.toNat 0 1 r nx (by omega) h
    have e : r = m := by omega
    have hj : j = 3 := by omega
    subst e hj
    refine ⟨hk, hm0, hr', ?_, ?_, hl⟩
    · rw [pn_in r hm0 hr']; exact ht
    · rw [pn_in r hm0 hr']; exact hn
  · rw [if_neg hk] at h; cases h
end Go.Proofs.YtpgmipbanpofaaaGreatDoor
/-
  What takeNum does: the number that begins at the place, and the place behind it; or a panic, where there is none.
-/
namespace Go.Proofs.YtpgmipbanpofaaaGreatDoor
open Go.RowKit

def took (w : World) (p : Nat) (t : TypeId) (v : Value) (r : Option (Int × Nat)) (e : Ending) (w' : World) : Prop :=
  ((∃ n nx, r = some (n, nx) ∧ e = .returned (.int .i64 n) ∧ w'.heap[p]? = some (.cells #[.int .i64 ((nx : Nat) : Int)] 3 (0, 0))) ∨
   (r = none ∧ e = .panicked [{ v := .iface t v, recovered := false }])) ∧ w.grownBy w' (some p)

set_option maxRecDepth 100000 in
set_option maxHeartbeats 1000000 in
theorem takeNum (w : World) (a : Option Addr) (len cap : Nat) (zs : List Int) (B p k0 : Nat) (t : TypeId) (v : Value) (hin : In w B a len zs) (hB : B ≤ p) (hp0 : 0 < p) (hE : Err w t v)
    (hp : w.heap[p]? = some (.cells #[.int .i64 (k0 : Int)] 3 (0, 0))) :
    Calls Tryz.prog 81 #[.slice a len cap, .pointer (some ⟨p, 0, none⟩)] w (took w p t v (gnF zs 4 k0 0 1)) := by
  have hlen := hin.1
  have hl := hin.2.1
  have hpw : p < w.heap.size := (Array.getElem?_eq_some_iff.1 hp).1
  go_enter Tryz.func81, Tryz.ntmps81
  go_wp2
  go_loopw [5, 6, 8] (fun n x i wr => ∃ (j : Nat) (m wt : Int), j ≤ 4 ∧ ((j = 0 ∧ wt = 1) ∨ (j = 1 ∧ wt = 128) ∨ (j = 2 ∧ wt = 16384) ∨ (j = 3 ∧ wt = 2097152) ∨ (j = 4)) ∧ 0 ≤ m ∧ m < wt ∧ n = .int .i64 m ∧ x = .int .i64 wt ∧ i = .int .i64 (j : Int) ∧
      Hid (gnF zs (4 - j) (k0 + j) m wt = gnF zs 4 k0 0 1) ∧ Hid (wr.heap[p]? = some (.cells #[.int .i64 ((k0 + j : Nat) : Int)] 3 (0, 0))) ∧ Hid (w.grownBy wr (some p)))
    (fun _ _ i _ => 4 - (intOf i).toNat)
  case atStart => exact ⟨0, 0, 1, by omega, by omega, by omega, by omega, rfl, rfl, rfl, rfl, hp, World.grownBy.refl _ _⟩
  case round =>
    obtain ⟨j, m, wt, hj, hw, hm0, hm1, rfl, rfl, rfl, HX, HP, HG⟩ := hrel
    have hin' := hin.out HG.out hB hpw
    have hE' := hE.out HG.out hp0
    by_cases hj4 : j = 4
    · subst hj4
      have hE2 : wr.cell? ⟨0, 0, none⟩ = some (.iface t v) := hE'
      clear hw hin hin' hE hE' hp
      go_wp2
      exact ⟨rfl, .inr ⟨by have := HX.out; rw [← this]; rfl, rfl⟩, HG.out⟩
    · have hw3 : (j = 0 ∧ wt = 1) ∨ (j = 1 ∧ wt = 128) ∨ (j = 2 ∧ wt = 16384) ∨ (j = 3 ∧ wt = 2097152) := by omega
      clear hw
      obtain ⟨K, hK⟩ : ∃ K, k0 + j = K := ⟨_, rfl⟩
      rw [hK] at HX HP
      have HK : Hid (k0 + j = K) := hK
      clear hK
      generalize hG : gnF zs 4 k0 0 1 = G at *
      clear hG
      by_cases hr : K < len
      · have hr' : K < zs.length := by omega
        have hzb := hin'.2.2.1 K hr
        have hT := takeByteYes wr a len cap zs B p K hin' HP.out hr
        have PP := place_put (y := (K : Int) + 1) HG.out HP.out
        have hE2 := hE.out PP.2 hp0
        generalize wr.setCell ⟨p, 0, none⟩ (.int .i64 ((K : Int) + 1)) = W1 at hT PP hE2
        unfold Err at hE2
        have HPP : Hid (W1.heap[p]? = some (.cells #[.int .i64 ((K : Int) + 1)] 3 (0, 0)) ∧ w.grownBy W1 (some p)) := PP
        clear PP HG HP hin hin' hE hE' hp
        by_cases hd : zs.getD K 0 < 128
        · by_cases hb : 16777215 < m + zs.getD K 0 % 128 * wt ∨ (zs.getD K 0 = 0 ∧ 1 < wt)
          · have HN : Hid (G = none) := HX.out.symm.trans (by rw [show 4 - j = (3 - j) + 1 from by omega]; exact gnF_no zs _ K m wt hr' hd hb)
            generalize zs.getD K 0 = z at *
            have HT := hide hT
            clear hT HX
            by_cases hb1 : 16777215 < m + z % 128 * wt
            · clear hb
              rcases hw3 with ⟨rfl, rfl⟩ | ⟨rfl, rfl⟩ | ⟨rfl, rfl⟩ | ⟨rfl, rfl⟩
              · omega
              · omega
              · omega
              · go_wp2_with fail
                refine (unhide HT).mono ?_
                rintro e w1 ⟨rfl, rfl⟩
                go_wp2
                exact ⟨rfl, .inr ⟨HN.out, rfl⟩, HPP.out.2⟩
            · have hz0 : (z == 0) = true := by simp; omega
              have hw1 : 1 < wt := by omega
              clear hb
              rcases hw3 with ⟨rfl, rfl⟩ | ⟨rfl, rfl⟩ | ⟨rfl, rfl⟩ | ⟨rfl, rfl⟩
              · omega
              all_goals
                go_wp2_with fail
                refine (unhide HT).mono ?_
                rintro e w1 ⟨rfl, rfl⟩
                go_wp2
                exact ⟨rfl, .inr ⟨HN.out, rfl⟩, HPP.out.2⟩
          · have HN : Hid (G = some (m + zs.getD K 0 % 128 * wt, K + 1)) := HX.out.symm.trans (by rw [show 4 - j = (3 - j) + 1 from by omega]; exact gnF_yes zs _ K m wt hr' hd hb)
            generalize zs.getD K 0 = z at *
            have HT := hide hT
            clear hT HX
            have hb1 : m + z % 128 * wt ≤ 16777215 := by omega
            have hb2 : z = 0 → wt ≤ 1 := by intro h; omega
            clear hb
            by_cases hz : z = 0
            · have hw1 := hb2 hz
              have hz0 : (z == 0) = true := by simp [hz]
              clear hz hb2
              rcases hw3 with ⟨rfl, rfl⟩ | ⟨rfl, rfl⟩ | ⟨rfl, rfl⟩ | ⟨rfl, rfl⟩
              · go_wp2_with fail
                refine (unhide HT).mono ?_
                rintro e w1 ⟨rfl, rfl⟩
                go_wp2
                go_ret
                exact ⟨.inl ⟨_, _, HN.out, ret_int (by omega), HPP.out.1⟩, HPP.out.2⟩
              · omega
              · omega
              · omega
            · have hz0 : (z == 0) = false := by simp [hz]
              clear hz hb2
              rcases hw3 with ⟨rfl, rfl⟩ | ⟨rfl, rfl⟩ | ⟨rfl, rfl⟩ | ⟨rfl, rfl⟩
              all_goals
                go_wp2_with fail
                refine (unhide HT).mono ?_
                rintro e w1 ⟨rfl, rfl⟩
                go_wp2
                go_ret
                exact ⟨.inl ⟨_, _, HN.out, ret_int (by omega), HPP.out.1⟩, HPP.out.2⟩
        · have HN : Hid (gnF zs (3 - j) (K + 1) (m + zs.getD K 0 % 128 * wt) (wt * 128) = G) := (by
            have := HX.out
            rw [show 4 - j = (3 - j) + 1 from by omega, gnF_on zs _ K m wt hr' (by omega)] at this
            exact this)
          generalize zs.getD K 0 = z at *
          have HT := hide hT
          clear hT HX
          rcases hw3 with ⟨rfl, rfl⟩ | ⟨rfl, rfl⟩ | ⟨rfl, rfl⟩ | ⟨rfl, rfl⟩
          · have HN2 : Hid (gnF zs (4 - 1) (k0 + 1) (m + z % 128) 128 = G) := by
              have h1 := HN.out
              have h2 := HK.out
              rw [show k0 + 1 = K + 1 from by omega, ← h1]
              congr 1
              omega
            have HP2 : Hid (W1.heap[p]? = some (.cells #[.int .i64 ((k0 + 1 : Nat) : Int)] 3 (0, 0))) := by
              have h2 := HK.out
              rw [show k0 + 1 = K + 1 from by omega]
              exact HPP.out.1
            go_wp2_with fail
            refine (unhide HT).mono ?_
            rintro e w1 ⟨rfl, rfl⟩
            go_wp2
            exact ⟨⟨1, m + z % 128, 128, by omega, by omega, by omega, by omega, rfl, rfl, rfl, HN2, HP2, HPP.out.2⟩, by simp [intOf]⟩
          · have HN2 : Hid (gnF zs (4 - 2) (k0 + 2) (m + z % 128 * 128) 16384 = G) := by
              have h1 := HN.out
              have h2 := HK.out
              rw [show k0 + 2 = K + 1 from by omega, ← h1]
              congr 1
            have HP2 : Hid (W1.heap[p]? = some (.cells #[.int .i64 ((k0 + 2 : Nat) : Int)] 3 (0, 0))) := by
              have h2 := HK.out
              rw [show k0 + 2 = K + 1 from by omega]
              exact HPP.out.1
            go_wp2_with fail
            refine (unhide HT).mono ?_
            rintro e w1 ⟨rfl, rfl⟩
            go_wp2
            exact ⟨⟨2, m + z % 128 * 128, 16384, by omega, by omega, by omega, by omega, rfl, rfl, rfl, HN2, HP2, HPP.out.2⟩, by simp [intOf]⟩
          · have HN2 : Hid (gnF zs (4 - 3) (k0 + 3) (m + z % 128 * 16384) 2097152 = G) := by
              have h1 := HN.out
              have h2 := HK.out
              rw [show k0 + 3 = K + 1 from by omega, ← h1]
              congr 1
            have HP2 : Hid (W1.heap[p]? = some (.cells #[.int .i64 ((k0 + 3 : Nat) : Int)] 3 (0, 0))) := by
              have h2 := HK.out
              rw [show k0 + 3 = K + 1 from by omega]
              exact HPP.out.1
            go_wp2_with fail
            refine (unhide HT).mono ?_
            rintro e w1 ⟨rfl, rfl⟩
            go_wp2
            exact ⟨⟨3, m + z % 128 * 16384, 2097152, by omega, by omega, by omega, by omega, rfl, rfl, rfl, HN2, HP2, HPP.out.2⟩, by simp [intOf]⟩
          · have HN2 : Hid (gnF zs (4 - 4) (k0 + 4) (m + z % 128 * 2097152) 268435456 = G) := by
              have h1 := HN.out
              have h2 := HK.out
              rw [show k0 + 4 = K + 1 from by omega, ← h1]
              congr 1
            have HP2 : Hid (W1.heap[p]? = some (.cells #[.int .i64 ((k0 + 4 : Nat) : Int)] 3 (0, 0))) := by
              have h2 := HK.out
              rw [show k0 + 4 = K + 1 from by omega]
              exact HPP.out.1
            go_wp2_with fail
            refine (unhide HT).mono ?_
            rintro e w1 ⟨rfl, rfl⟩
            go_wp2
            exact ⟨⟨4, m + z % 128 * 2097152, 268435456, by omega, by omega, by omega, by omega, rfl, rfl, rfl, HN2, HP2, HPP.out.2⟩, by simp [intOf]⟩
      · have hE2 := takeByteNo wr a len cap p K t v HP.out (by omega) hE'
        have HN : Hid (G = none) := HX.out.symm.trans (gnF_end zs _ _ _ _ (by omega))
        clear hin hin' hE hE' hp hl
        rcases hw3 with ⟨rfl, rfl⟩ | ⟨rfl, rfl⟩ | ⟨rfl, rfl⟩ | ⟨rfl, rfl⟩
        all_goals
          go_wp2_with fail
          refine hE2.mono ?_
          rintro e w1 ⟨rfl, rfl⟩
          go_wp2
          exact ⟨rfl, .inr ⟨HN.out, rfl⟩, HG.out⟩

set_option maxRecDepth 100000 in
set_option maxHeartbeats 1000000 in
theorem takeNumNeg (w : World) (a : Option Addr) (len cap : Nat) (p : Nat) (k : Int) (t : TypeId) (v : Value) (hk : k < 0) (hE : Err w t v)
    (hp : w.heap[p]? = some (.cells #[.int .i64 k] 3 (0, 0))) :
    Calls Tryz.prog 81 #[.slice a len cap, .pointer (some ⟨p, 0, none⟩)] w (took w p t v none) := by
  have HT := hide (takeByteNo w a len cap p k t v hp (by omega) hE)
  clear hp hE hk
  go_enter Tryz.func81, Tryz.ntmps81
  go_wp2
  go_loopw [5, 6, 8] (fun n x i wr => n = .int .i64 0 ∧ x = .int .i64 1 ∧ i = .int .i64 0 ∧ wr = w) (fun _ _ _ _ => 0)
  case atStart => exact ⟨rfl, rfl, rfl, rfl⟩
  case round =>
    obtain ⟨rfl, rfl, rfl, rfl⟩ := hrel
    go_wp2_with fail
    refine (unhide HT).mono ?_
    rintro e w1 ⟨rfl, rfl⟩
    go_wp2
    exact ⟨rfl, .inr ⟨rfl, rfl⟩, World.grownBy.refl _ _⟩
end Go.Proofs.YtpgmipbanpofaaaGreatDoor
