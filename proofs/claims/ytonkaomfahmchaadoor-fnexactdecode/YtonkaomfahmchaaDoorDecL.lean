/-
  Decode, by the program.
-/
import Derived.Test.YtonkaomfahmchaaDoorDecK
import Derived.Test.YtonkaomfahmchaaDoorReadI
namespace Go.Proofs.YtonkaomfahmchaaDoor
open Go.RowKit

/-- What Decode answers. -/
def ansD (b : Nat) (r : Option (List Isn)) (e : Ending) (w' : World) : Prop := ∃ u, e = .returned (.tuple #[u, .bool r.isSome]) ∧ OwnD w' b w'.heap.size (inss (r.getD [])) u
theorem decOf_big {zs : List Int} (h : ¬ zs.length ≤ 90) : decOf zs = none := by unfold decOf decX; rw [if_neg h]
theorem decOf_none {zs : List Int} (h : rA zs 0 = none) : decOf zs = none := by unfold decOf decX; rw [h]; split <;> rfl
theorem decOf_bad {zs : List Int} {ys : List Isn} (h : rA zs 0 = some ys) (hc : codeB (fixL ys (-1)) = false) : decOf zs = none := by
  unfold decOf decX fixL at *
  rw [h]
  split
  · simp only [Option.bind_some]; rw [hc]; rfl
  · rfl
theorem decOf_some {zs : List Int} {ys : List Isn} (h : rA zs 0 = some ys) (hl : zs.length ≤ 90) (hc : codeB (fixL ys (-1)) = true) : decOf zs = some (fixL ys (-1)) := by
  unfold decOf decX fixL at *
  rw [h, if_pos hl]
  simp only [Option.bind_some]; rw [hc]; rfl
set_option maxRecDepth 100000 in
set_option maxHeartbeats 4000000 in
theorem decodeImpl (w : World) (a : Option Addr) (len cap : Nat) (zs : List Int) (t : TypeId) (v : Value) (h0 : 0 < w.heap.size) (hin : In w w.heap.size a len zs) (hE : Err w t v) :
    Calls Tryd.prog 6 #[.slice a len cap] w fun e w' => ansD w.heap.size (decOf zs) e w' ∧ Below w.heap.size w w' := by
  have hl := hin.1
  have hm := hin.2.1
  have HB := hide (byt_of_in hin)
  have HB0 := hide (Below.refl w.heap.size w)
  by_cases h90 : len ≤ 90
  · have hC : Calls Tryd.prog 16 #[.slice a len cap, .int .i64 0, .func (.func 17) #[] #[]] w fun e w' => ansI w.heap.size ((rA zs 0).map fun ys => (fixL ys (-1), len)) e w' ∧ Below w.heap.size w w' :=
      readInsL w a len cap 0 t v _ (fun W hb hp => rdCode cap ⟨hin.low hb (Nat.le_refl _), Nat.le_add_right _ 3, by omega, hE.low hb h0, hp⟩ (Nat.zero_le _) h90)
    have HC := hide hC
    have hlen : zs.length ≤ 90 := by omega
    have h90' : ¬ (90 : Int) < (len : Int) := by omega
    clear hC hin hE
    cases hr : rA zs 0 with
    | none =>
      have HD := hide (decOf_none hr)
      rw [hr] at HC
      clear hr
      go_enter Tryd.func6, Tryd.ntmps6
      go_wp2_with fail
      refine HC.out.mono ?_
      rintro e w1 ⟨hA, b1⟩
      have hA' : e = .returned (.tuple #[.slice none 0 0, .int .i64 0, .bool false]) := hA
      subst hA'
      have HB1 := hide b1
      clear hA b1 HC
      go_wp2_with fail
      go_ret2
      exact ⟨⟨_, by rw [HD.out]; rfl, by rw [HD.out]; exact ownD_nil _ _ _ _ _⟩, HB1.out⟩
    | some ys =>
      have hyl := rA_len HB.out hr
      have HX : Hid (codeB (fixL ys (-1)) = false → decOf zs = none) := hide (decOf_bad hr)
      have HY : Hid (codeB (fixL ys (-1)) = true → decOf zs = some (fixL ys (-1))) := hide (decOf_some hr hlen)
      rw [hr] at HC
      clear hr
      have hfl := fixL_len ys (-1)
      go_enter Tryd.func6, Tryd.ntmps6
      go_wp2_with fail
      refine HC.out.mono ?_
      rintro e w1 ⟨⟨u, he, ho⟩, b1⟩
      subst he
      obtain ⟨ua, uc, hu, _⟩ := (ho.rd (Nat.le_refl _)).shape
      have hu' : u = .slice ua ys.length uc := by rw [hu, hfl]
      subst hu'
      have HO := hide ho
      have HB1 := hide b1
      clear ho b1 HC hu
      have HCK := hide (fun w v h => codeOkImpl w v (fixL ys (-1)) h (by rw [hfl]; omega))
      go_wp2_with fail
      refine (HCK.out _ _ (HO.out.rd (Nat.le_refl _))).mono ?_
      rintro e w2 ⟨rfl, b2⟩
      have HO2 := hide ((HO.out.below b2).up b2.size)
      have HB2 := hide (HB1.out.trans (b2.mono HB1.out.size))
      clear b2 HO HB1
      cases c : codeB (fixL ys (-1)) with
      | true =>
        have HD := hide (HY.out c)
        go_wp2_with fail
        go_ret2
        exact ⟨⟨_, by rw [HD.out]; rfl, by rw [HD.out]; exact HO2.out⟩, HB2.out⟩
      | false =>
        have HD := hide (HX.out c)
        go_wp2_with fail
        go_ret2
        exact ⟨⟨_, by rw [HD.out]; rfl, by rw [HD.out]; exact ownD_nil _ _ _ _ _⟩, HB2.out⟩
  · have HD := hide (decOf_big (zs := zs) (by omega))
    have h90' : (90 : Int) < (len : Int) := by omega
    clear hin hE
    go_enter Tryd.func6, Tryd.ntmps6
    go_wp2_with fail
    go_ret2
    exact ⟨⟨_, by rw [HD.out]; rfl, by rw [HD.out]; exact ownD_nil _ _ _ _ _⟩, HB0.out⟩
end Go.Proofs.YtonkaomfahmchaaDoor
