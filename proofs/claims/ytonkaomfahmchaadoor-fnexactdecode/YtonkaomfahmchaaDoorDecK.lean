/-
  What takeCode does.
-/
import Derived.Test.YtonkaomfahmchaaDoorDecI
import Derived.Test.YtonkaomfahmchaaDoorDecJ
import Derived.Test.YtonkaomfahmchaaDoorDeepC
import Derived.Test.YtonkaomfahmchaaDoorDeepApp
import Derived.Test.YtonkaomfahmchaaDoorInsCodeI
import Derived.Deep.CutBlock
namespace Go.Proofs.YtonkaomfahmchaaDoor
open Go.RowKit

def slLen : Value → Nat
  | .slice _ n _ => n
  | _ => 0
def fixL (ys : List Isn) (miss : Int) : List Isn := ys.map (fixA ys miss)
theorem fixL_len (ys : List Isn) (miss : Int) : (fixL ys miss).length = ys.length := by simp [fixL]
theorem fixL_get (ys : List Isn) (miss : Int) (j : Nat) (h : j < ys.length) : (fixL ys miss).getD j default = fixA ys miss (ys.getD j default) := by simp [fixL, h]
set_option maxRecDepth 100000 in
set_option maxHeartbeats 4000000 in
theorem rdCode {w : World} {B : Nat} {a : Option Addr} {len : Nat} {zs : List Int} {p k : Nat} {t : TypeId} {v : Value} (cap : Nat) (h : Rdr w B a len zs p k t v) (hk : k ≤ len) (h90 : len ≤ 90) :
    Calls Tryd.prog 17 #[.slice a len cap, .pointer (some ⟨p, 0, none⟩)] w (tookL (fun w' u xs => OwnD w' w.heap.size w'.heap.size (inss xs) u) w p t v ((rA zs k).map fun ys => (fixL ys (-1), len))) := by
  have hlt := h.lt
  have hl := h.inp.1
  have HZ := hide (byt_of_in h.inp)
  have HR := hide h
  clear h
  obtain ⟨G, hGG⟩ : ∃ G, rA zs k = G := ⟨_, rfl⟩
  rw [hGG]
  have HGG : Hid (G = (rA zs k).map fun r => [] ++ r) := hide (by rw [← hGG]; cases rA zs k <;> rfl)
  clear hGG
  obtain ⟨i0, hi, hz0, hz1, hz2⟩ := info_parts Tryd.infoIn
  have HI := hide (And.intro hi (And.intro hz0 (And.intro hz1 hz2)))
  clear hi hz0 hz1 hz2
  go_enter Tryd.func17, Tryd.ntmps17
  go_wp2_with fail
  go_loopw [5] (fun l wr => ∃ (kj : Nat) (ys : List Isn) (ao : Option Addr) (co : Nat), l = .slice ao ys.length co ∧ ys.length ≤ kj ∧ kj ≤ len ∧ Hid (Rdr wr B a len zs p kj t v) ∧ Hid (OwnD wr w.heap.size wr.heap.size (.row 33 2 ys.length (ys.flatMap inD)) (.slice ao ys.length co)) ∧ Hid (G = (rA zs kj).map fun r => ys ++ r) ∧ Hid (w.grownBy wr (some p))) (fun l _ => len - slLen l)
  case atStart => exact ⟨k, [], none, 0, rfl, by simp, hk, HR, hide (ownD_nil _ _ _ _ _), HGG, hide (World.grownBy.refl _ _)⟩
  case round =>
    clear HR HGG
    obtain ⟨kj, ys, ao, co, rfl, hyk, hkl, HR, HO, HN, HG⟩ := hrel
    have c0 := (box_of HR.out.pl).1 0 _ rfl
    have hle := HG.out.size
    by_cases hj : kj < len
    · have hji : (kj : Int) < (len : Int) := by omega
      go_wp2_with fail
      clear c0
      refine (rdIns cap HR.out).mono ?_
      rintro e w2 ⟨hres, g2⟩
      have hst := rA_step (zs := zs) (k := kj) (by omega)
      rcases hres with ⟨z, k2, hr2, rfl, hp2⟩ | ⟨hr2, rfl⟩
      · have ha := rIns_adv hr2
        simp only at ha
        have HR2 := hide (HR.out.next g2 hp2)
        have HO2 := hide ((HO.out.grownP g2 hlt))
        have hs12 := g2.size
        have HG2 := hide (grownBy_trans HG.out g2)
        have HN2 : Hid (G = (rA zs k2).map fun r => ys ++ [z] ++ r) := hide (by
          rw [HN.out, hst, hr2]
          simp only [Option.bind_some]
          cases rA zs k2 <;> simp)
        clear g2 hp2 hr2 HR HO HN HG hst
        unfold inV
        have HB := hide (Box.new w2 #[.int .i64 z.o, .int .i64 z.n] 33)
        have bB := (Below.refl w2.heap.size w2).alloc (Nat.le_refl _) (.cells #[.int .i64 z.o, .int .i64 z.n] 33)
        have HOa := hide (HO2.out.below bB)
        have HDs : Hid (OwnDL (w2.alloc (.cells #[.int .i64 z.o, .int .i64 z.n] 33)) wr.heap.size (w2.alloc (.cells #[.int .i64 z.o, .int .i64 z.n] 33)).heap.size (inD z) [.int .i64 z.o, .int .i64 z.n]) := hide ((OwnDL.val (OwnDL.val (ownDL_nil _ _ _))))
        have hs2 := HG2.out.size
        have hsz : wr.heap.size ≤ (w2.alloc (.cells #[.int .i64 z.o, .int .i64 z.n] 33)).heap.size := by simp; omega
        clear bB
        go_wp2_with (at_builtin; refine appD rfl _ _ 23 rfl w.heap.size wr.heap.size wr.heap.size 33 i0 (.agg #[.int .i64 0, .int .i64 0]) 2 16 Tryd.underlying23 HI.out.1 HI.out.2.1 HI.out.2.2.1 HI.out.2.2.2 rfl (by decide) _ ys.length (ys.flatMap inD) rfl HOa.out w2.heap.size 1 [.int .i64 z.o, .int .i64 z.n] (inD z) rfl HB.out HDs.out rfl (by simp [Value.oneCell']) (by omega) (by decide) (Nat.le_refl _) hle hsz ?_; intro v3 w3 o3 g3 hb3; obtain ⟨a3, c3, hv3⟩ := o3.shape; subst hv3; have HO3 := hide o3; have HR3 := hide ((HR2.out.alloc _).far g3 (fun q hq => by have := (hb3 q hq).1; omega)); have HG3 := hide (grown_step (grownBy_trans HG2.out (World.grownBy_alloc w2 (.cells #[.int .i64 z.o, .int .i64 z.n] 33) (some p))) g3 (fun q hq => .inr (hb3 q hq).1)); clear o3 g3 hb3)
        exact ⟨⟨k2, ys ++ [z], a3, c3, by simp, by simp; omega, by omega, HR3, hide (by rw [List.flatMap_append, List.length_append]; simpa using HO3.out), HN2, HG3⟩, by simp [slLen]; omega⟩
      · have HF : Hid (G = none) := hide (by rw [HN.out, hst, hr2]; rfl)
        have HG2 := hide (grownBy_trans HG.out g2)
        clear g2 hr2
        go_wp2
        exact ⟨rfl, .inr ⟨by rw [HF.out]; rfl, rfl⟩, HG2.out⟩
    · have hji : ¬ (kj : Int) < (len : Int) := by omega
      obtain rfl : len = kj := by omega
      have HF : Hid (G = some ys) := hide (by rw [HN.out, rA_end (by omega)]; simp)
      have hyl : ys.length ≤ 90 := by omega
      clear HN
      go_wp2_with fail
      clear c0
      have HRD : Hid (Reads wr wr.heap.size (inss ys) (.slice ao ys.length co)) := hide (HO.out.rd (Nat.le_refl _))
      have HP := hide HR.out.pl
      clear HR
      refine (beginsImpl _ _ ys HRD.out (by omega)).mono ?_
      rintro e w4 ⟨bv, rfl, o4, b4⟩
      obtain ⟨bA, bC, hbv, _⟩ := int_at (o4.rd (Nat.le_refl _))
      rw [stL_len] at hbv
      subst hbv
      have hML := fixL_len ys (-1)
      have HST : Hid (OwnDL w4 w.heap.size w4.heap.size [.row 33 2 ys.length ((mixR inD (fixL ys (-1)) ys 0).flatten), ints (stL ys ys.length)] [.slice ao ys.length co, .slice bA ys.length bC]) := hide (by rw [mixR_zero]; exact ((ownD_one (HO.out.below b4))).push o4 hle b4.size)
      have HEN : Hid (∀ W a' c', OwnD W w.heap.size W.heap.size (.row 33 2 ys.length ((mixR inD (fixL ys (-1)) ys ys.length).flatten)) (.slice a' ys.length c') → OwnD W w.heap.size W.heap.size (inss (fixL ys (-1))) (.slice a' ys.length c')) := hide (fun W a' c' h => by rw [mixR_end _ hML] at h; unfold inss; rw [hML]; exact h)
      have HGm : Hid (∀ j, j < ys.length → (mixR inD (fixL ys (-1)) ys j).getD j [] = inD (ys.getD j default)) := hide (fun j hj => mixR_get _ hML hj)
      have HSm : Hid (∀ j, j < ys.length → (mixR inD (fixL ys (-1)) ys j).set j (inD (fixA ys (-1) (ys.getD j default))) = mixR inD (fixL ys (-1)) ys (j + 1)) := hide (fun j hj => by rw [← fixL_get ys (-1) j hj]; exact mixR_step _ hML hj)
      have HA : Hid (∀ j, ∀ r ∈ mixR inD (fixL ys (-1)) ys j, r.length = 2) := hide (fun j => mixR_all (f := inD) (k := 2) (fun _ => rfl) _ _ j)
      have HLn : Hid (∀ j, j ≤ ys.length → (mixR inD (fixL ys (-1)) ys j).length = ys.length) := hide (fun j hj => mixR_len _ hML hj)
      have HG4 := hide (grownBy_trans HG.out (below_any b4 (some p)))
      have HP4 := hide ((b4.block p (by omega)).trans HP.out)
      have HIX := hide (fun w v z h => indexImpl w v (stL ys ys.length) z h (by rw [stL_len]; omega))
      have hle4 := HG4.out.size
      have HSL := hide (stL_len ys ys.length)
      have HFIN : Hid (Option.map (fun ys => (fixL ys (-1), len)) G = some (fixL ys (-1), len)) := hide (by rw [HF.out]; rfl)
      clear o4 b4 HO HRD HG HP hML HF
      generalize hn : ys.length = n at *
      go_wp2_with fail
      go_loopw [7, 8, 25] (fun _ _ i wr => ∃ (j : Nat), j ≤ n ∧ i = .int .i64 (j : Int) ∧ Hid (OwnDL wr w.heap.size wr.heap.size [.row 33 2 n ((mixR inD (fixL ys (-1)) ys j).flatten), ints (stL ys n)] [.slice ao n co, .slice bA n bC]) ∧ Hid (w.grownBy wr (some p)) ∧ Hid (wr.heap[p]? = some (.cells #[.int .i64 (len : Int)] 3 (0, 0)))) (fun _ _ i _ => n - (intOf i).toNat)
      case atStart => exact ⟨0, Nat.zero_le _, rfl, HST, HG4, HP4⟩
      case round =>
        clear HST HG4 HP4
        obtain ⟨j, hj, rfl, HO, HG, HP⟩ := hrel
        have hsz := HG.out.size
        by_cases hlt : j < n
        · obtain ⟨g, co', hsl⟩ : ∃ g c, (Value.slice ao n co) = .slice (some ⟨g, 0, none⟩) n c := by
            obtain ⟨vs, h5, _⟩ := (HO.out.row (c1 := []) (v1 := []) rfl)
            obtain ⟨m, rfl⟩ : ∃ m, n = m + 1 := ⟨n - 1, by omega⟩
            exact ownsRow_shape h5
          cases hsl
          have HA1 := hide (HA.out j)
          have HL1 := hide (HLn.out j hj)
          have HG1 := HGm.out j hlt
          have HS1 := HSm.out j hlt
          obtain ⟨y, hy⟩ : ∃ y, ys.getD j default = y := ⟨_, rfl⟩
          rw [hy] at HG1 HS1
          have HG2 := hide HG1
          have HS2 := hide HS1
          clear hy HG1 HS1
          obtain ⟨rs, hrs⟩ : ∃ rs, mixR inD (fixL ys (-1)) ys j = rs := ⟨_, rfl⟩
          rw [hrs] at HO HA1 HL1 HG2 HS2
          clear hrs
          have h0 : ∀ i, i < 2 → rs.flatten[j * 2 + i]? = (inD y)[i]? := fun i hi => by rw [rows_get rs j i HA1.out (by have := HL1.out; omega) hi, HG2.out]
          have e0 := (OwnDL.cell (c1 := []) (v1 := []) HO.out rfl (i := j * 2) (z := .int .i64 y.o) (by rw [show j * 2 = j * 2 + 0 from rfl, h0 0 (by omega)]; rfl) .nilFunc).1
          have e1 := (OwnDL.cell (c1 := []) (v1 := []) HO.out rfl (i := j * 2 + 1) (z := .int .i64 y.n) (by rw [h0 1 (by omega)]; rfl) .nilFunc).1
          have H01 := hide (h0 1 (by omega))
          have hcap : n ≤ co := by
            obtain ⟨vs, h5, _⟩ := (HO.out.row (c1 := []) (v1 := []) rfl)
            obtain ⟨_, a', cap', e, h6, _⟩ := rd_own h5 (Nat.le_refl _)
            cases e
            exact h6
          clear h0
          have bA' := (Below.refl wr.heap.size wr).alloc (Nat.le_refl _) (.cells #[.int .i64 y.o, .int .i64 y.n] 33)
          have HXB := hide (Box.new wr #[.int .i64 y.o, .int .i64 y.n] 33)
          have HOA := hide ((HO.out.below bA').up bA'.size)
          have HGA := hide (grownBy_trans HG.out (below_any bA' (some p)))
          have HPA := hide ((bA'.block p (by omega)).trans HP.out)
          clear bA' HO HG HP
          go_upto_region 8 with fail
          clear e0 e1
          generalize wr.alloc (.cells #[.int .i64 y.o, .int .i64 y.n] 33) = WA at *
          have d0 := HXB.out 0 _ rfl
          have d1 := HXB.out 1 _ rfl
          have hgA := HGA.out.size
          cases c : isJ y.o with
          | true =>
            have hfx : fixA ys (-1) y = ⟨y.o, fixN (stL ys n) (-1) y.n⟩ := by unfold fixA; rw [if_pos c, hn]
            rw [hfx] at HS2
            clear hfx
            obtain ⟨nv, hnv⟩ : ∃ nv, fixN (stL ys n) (-1) y.n = nv := ⟨_, rfl⟩
            rw [hnv] at HS2
            obtain ⟨d2, d3, hgw, ho2⟩ := OwnDL.cell (c1 := []) (v1 := []) HOA.out rfl (i := j * 2 + 1) (z := .int .i64 y.n) H01.out (.int .i64 nv)
            have HO2 := hide ho2
            have HGB := hide (grown_newI HGA.out hgw (j * 2 + 1) (.int .i64 nv))
            have HPB := hide ((set_placeI (w := WA) (show p < g by omega) (j * 2 + 1) (.int .i64 nv)).trans HPA.out)
            clear ho2
            have HZ2 : Hid (rs.flatten.set (j * 2 + 1) (.val (.int .i64 nv)) = (rs.set j (inD ⟨y.o, nv⟩)).flatten) := hide (by
              rw [rows_set rs j 1 _ HA1.out (by have := HL1.out; omega) (by omega), HG2.out]
              rfl)
            rw [HZ2.out, HS2.out] at HO2
            go_wp2_with (first
              | (go_at_call 26; refine (jumpsImpl _ _).mono ?_; rintro e y9 ⟨rfl, hy9⟩; rw [hy9, c]; clear hy9 y9)
              | (go_at_call 27; refine (HIX.out _ _ _ ((HOA.out.mid (c1 := [_]) (v1 := [_]) rfl).rd (Nat.le_refl _))).mono ?_; rintro e y9 ⟨rfl, hy9⟩; rw [hy9, hnv]; clear hy9 y9)
              | fail)
            exact ⟨⟨j + 1, by omega, by go_num, hide (by simpa using HO2.out), HGB, HPB⟩, by simp [intOf]; omega⟩
          | false =>
            have hfx : fixA ys (-1) y = y := by unfold fixA; rw [c]; rfl
            rw [hfx, ← HG2.out] at HS2
            have hrs2 : rs = mixR inD (fixL ys (-1)) ys (j + 1) := by
              rw [← HS2.out]
              have hl9 : j < rs.length := by have := HL1.out; omega
              rw [List.getD_eq_getElem?_getD, List.getElem?_eq_getElem hl9, Option.getD_some, List.set_getElem_self]
            rw [hrs2] at HOA
            clear hfx hrs2
            go_wp2_with (first
              | (go_at_call 26; refine (jumpsImpl _ _).mono ?_; rintro e y9 ⟨rfl, hy9⟩; rw [hy9, c]; clear hy9 y9)
              | fail)
            exact ⟨⟨j + 1, by omega, by go_num, HOA, HGA, HPA⟩, by simp [intOf]; omega⟩
        · obtain rfl : j = n := by omega
          have HF2 := hide (HEN.out _ _ _ (HO.out.mid (c1 := []) (v1 := []) rfl))
          go_wp2_with fail
          go_ret
          exact ⟨.inl ⟨_, _, _, HFIN.out, rfl, HF2.out, HP.out⟩, HG.out⟩
end Go.Proofs.YtonkaomfahmchaaDoor
