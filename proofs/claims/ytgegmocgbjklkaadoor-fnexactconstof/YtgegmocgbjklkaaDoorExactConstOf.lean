/-
  Proved: at every row of bytes and every place the program's ConstOf answers as its model does, and writes into no argument (the law FnExactConstOf returns true), where the program's own error value holds what its text lays (the card ties it), without any other condition.
-/
import Derived.Test.YtgegmocgbjklkaaDoorRows
import Derived.Test.YtgegmocgbjklkaaDoorCards
import Derived.Test.YtgegmocgbjklkaaDoorTie
import Derived.Test.YtgegmocgbjklkaaDoorRowIn
import Derived.Test.YtgegmocgbjklkaaDoorCopy
import Derived.Test.YtgegmocgbjklkaaDoorLaid
import Derived.Test.YtgegmocgbjklkaaDoorConstOfI
import Derived.Test.YtgegmocgbjklkaaDoorConstOfT
import Derived.Test.YtgegmocgbjklkaaDoorEq
import Derived.WalkKit
import Derived.ProofKit
import Derived.OpenShut
import Derived.ShutString
import Derived.ChangeOld
import Derived.Below
import Derived.SevenTiedAt
namespace Go.Proofs.YtgegmocgbjklkaaDoor.fnExactConstOf
open Go.ChangeShapes Go.WideShapes Go.ChangeAt Go.RowKit
set_option linter.unusedVariables false
def ans3 (c : Int × Int × ByteArray × ByteArray) (m : Int) (ok : Bool) : Value := .tuple #[.agg #[.int .i64 c.1, .int .i64 c.2.1, .string c.2.2.1, .string c.2.2.2], .int .i64 m, .bool ok]
theorem ansK_3 (r : Option ((Int × Int × ByteArray × ByteArray) × Nat)) : ∃ k n a b m ok, ansK r = .tuple #[.agg #[.int .i64 k, .int .i64 n, .string a, .string b], .int .i64 m, .bool ok] := by
  match r with
  | some (c, nx) => exact ⟨_, _, _, _, _, _, rfl⟩
  | none => exact ⟨_, _, _, _, _, _, rfl⟩

set_option maxHeartbeats 1000000 in
theorem eqConst (k n : Int) (a b : ByteArray) (w : World) :
    Calls Tryd.prog 17 #[constV k n a b, constV k n a b] w fun e w' => e = .returned (.bool true) ∧ Below w.heap.size w w' := by
  have e1 : (k != k) = false := by simp
  have e2 : (n != n) = false := by simp
  have e3 : (a.toList != a.toList) = false := by simp
  have e4 : (b.toList != b.toList) = false := by simp
  unfold constV
  go_enter Tryd.func17, Tryd.ntmps17
  go_wp2
  go_ret
  exact ⟨rfl, ((Below.refl _ _).alloc (Nat.le_refl _) _).alloc (by simp) _⟩

set_option maxRecDepth 100000 in
set_option maxHeartbeats 4000000 in
theorem walk (a0 : Option Addr) (len0 cap0 : Nat) (z0 : List Int) (k : Int) (t : TypeId) (v : Value) (w : World) (w0 : IsRow .u8 w a0 len0 cap0 z0) (_hk : -9223372036854775808 ≤ k ∧ k ≤ 9223372036854775807) (hE : Err w t v) (hp : 0 < w.heap.size) :
    Calls Tryd.prog 4 #[.slice a0 len0 cap0, .int .i64 k] w fun e w' => e = .returned (.bool true) ∧ Below w.heap.size w w' := by
  by_cases hbig : (1048576 : Int) < (len0 : Int)
  · clear w0 hE
    go_enter Tryd.func4, Tryd.ntmps4
    go_wp2
    go_ret
    exact ⟨rfl, Below.refl _ _⟩
  · have hin := in_of w0 (by omega)
    clear w0
    generalize z0.take len0 = zs at hin
    have hl := hin.1
    have hm := hin.2.1
    have hz := hide hin.2.2.1
    have HIN := hide hin
    have HE := hide hE
    obtain ⟨kd, n, sa, sb, m, ok, hans⟩ := ansK_3 (cOf zs k)
    have HS : Hid (∀ (W : World) (b g c : Nat), Own W b (.slice (some ⟨g, 0, none⟩) len0 c) zs → Calls Tryd.prog 13 #[.slice (some ⟨g, 0, none⟩) len0 c, .int .i64 k] W fun e w' => e = .returned (.tuple #[.agg #[.int .i64 kd, .int .i64 n, .string sa, .string sb], .int .i64 m, .bool ok]) ∧ Below W.heap.size W w') :=
      hide (fun W b g c h => (constOfT W _ _ _ zs k (in_own h hl hm hz.out (Nat.le_refl _)) (cap_own h hl)).mono (fun e w' h => ⟨by rw [← hans]; exact h.1, h.2⟩))
    have HM : Hid (∀ (W : World) (b g c : Nat), Below w.heap.size w W → Own W b (.slice (some ⟨g, 0, none⟩) len0 c) zs → Calls Tryd.prog 10 #[.slice (some ⟨g, 0, none⟩) len0 c, .int .i64 k] W fun e w' => e = .returned (.tuple #[.agg #[.int .i64 kd, .int .i64 n, .string sa, .string sb], .int .i64 m, .bool ok]) ∧ Below W.heap.size W w') :=
      hide (fun W b g c hb h => (constOfI W _ _ c zs k t v (Nat.lt_of_lt_of_le hp hb.size) (in_own h hl hm hz.out (Nat.le_refl _)) (cap_own h hl) (HE.out.low hb hp)).mono (fun e w' h => ⟨by rw [← hans]; exact h.1, h.2⟩))
    clear hans hin hE HE
    have HB := hide (Below.refl w.heap.size w)
    have hne : (ok != ok) = false := by simp
    have hnm : (m != m) = false := by simp
    go_enter Tryd.func4, Tryd.ntmps4
    go_wp2_with fail
    refine (copyB _ _ _ _ _ HIN.out).mono ?_
    rintro e w1 ⟨c1, rfl, o1, b1⟩
    have HO1 := hide o1
    replace HB := hide (HB.out.trans (b1.mono HB.out.size))
    clear b1 o1
    go_wp2_with fail
    refine (HS.out _ _ _ _ HO1.out).mono ?_
    rintro e w2 ⟨rfl, b2⟩
    replace HB := hide (HB.out.trans (b2.mono HB.out.size))
    clear b2 HO1
    have bD := (Below.refl w2.heap.size w2).alloc (Nat.le_refl _) (.cells #[.int .i64 kd, .int .i64 n, .string sa, .string sb] 25)
    have H3 := hide (heap_alloc_new w2 (.cells #[.int .i64 kd, .int .i64 n, .string sa, .string sb] 25))
    have hs2 : Hid (w2.heap.size < (w2.alloc (.cells #[.int .i64 kd, .int .i64 n, .string sa, .string sb] 25)).heap.size) := hide (by simp)
    replace HB := hide (HB.out.trans (bD.mono HB.out.size))
    clear bD
    go_wp2_with fail
    generalize w2.alloc (.cells #[.int .i64 kd, .int .i64 n, .string sa, .string sb] 25) = w2a at *
    refine (copyB _ _ _ _ _ ((HIN.out.kept HB.out.block).up HB.out.size)).mono ?_
    rintro e w3 ⟨c3, rfl, o3, b3⟩
    have HX := hide o3
    replace H3 := hide ((b3.block _ hs2.out).trans H3.out)
    replace hs2 := hide (Nat.lt_of_lt_of_le hs2.out b3.size)
    replace HB := hide (HB.out.trans (b3.mono HB.out.size))
    clear b3 o3
    go_wp2_with fail
    refine (HM.out _ _ _ _ HB.out HX.out).mono ?_
    rintro e w4 ⟨rfl, b4⟩
    replace H3 := hide ((b4.block _ hs2.out).trans H3.out)
    replace hs2 := hide (Nat.lt_of_lt_of_le hs2.out b4.size)
    replace HB := hide (HB.out.trans (b4.mono HB.out.size))
    replace HX := hide (HX.out.below b4)
    clear b4
    have bD := (Below.refl w4.heap.size w4).alloc (Nat.le_refl _) (.cells #[.int .i64 kd, .int .i64 n, .string sa, .string sb] 25)
    replace H3 := hide ((bD.block _ hs2.out).trans H3.out)
    replace HB := hide (HB.out.trans (bD.mono HB.out.size))
    replace HX := hide (HX.out.below bD)
    clear bD
    have HXa := hide (box_of H3.out).1
    have p0 := HXa.out 0 _ rfl
    have p1 := HXa.out 1 _ rfl
    have p2 := HXa.out 2 _ rfl
    have p3 := HXa.out 3 _ rfl
    go_wp2_with fail
    clear p0 p1 p2 p3 HXa
    generalize w4.alloc (.cells #[.int .i64 kd, .int .i64 n, .string sa, .string sb] 25) = w4a at *
    refine (eqConst kd n sa sb _).mono ?_
    rintro e w5 ⟨rfl, b5⟩
    replace HB := hide (HB.out.trans (b5.mono HB.out.size))
    replace HX := hide (HX.out.below b5)
    clear b5
    go_wp2_with fail
    refine (copyB _ _ _ _ _ ((HIN.out.kept HB.out.block).up HB.out.size)).mono ?_
    rintro e w6 ⟨c6, rfl, o6, b6⟩
    have HO6 := hide o6
    replace HB := hide (HB.out.trans (b6.mono HB.out.size))
    replace HX := hide (HX.out.below b6)
    clear b6 o6
    go_wp2_with fail
    refine (eqB _ _ _ _ _ _ HX.out HO6.out (by omega)).mono ?_
    rintro e w7 ⟨rfl, q7, rfl⟩
    replace HB := hide (below_drewN HB.out q7)
    generalize w6.drewN q7 = w7 at *
    go_wp2
    go_ret
    exact ⟨rfl, HB.out⟩

set_option maxRecDepth 100000 in
set_option maxHeartbeats 1000000 in
theorem lifted (os : Os) (started : os.Started) (H : Type) (enc : TypeId × Value → H) :
    ReturnsInHanded {} Tryd.checked os 4 .any (fun w args => (Rows.fnExactConstOfSpec.pre enc Tryd.prog Tryd.f4 [] false w args ∧ laidMetH Tryd.prog laidL w) ∧ sizedMet enc Tryd.prog Tryd.f4 (OpenSpec.ofChange Rows.fnExactConstOfSpec) false w args)
      (Rows.fnExactConstOfSpec.post enc Tryd.prog Tryd.f4 false true false false) := by
  refine returnsInHanded_of_change_and (C := Tryd.checked) (X := fun w _ => laidMetH Tryd.prog laidL w) (fun _ _ _ hh h => h.of_heap hh) Tryd.own started (by kernel_rfl) Tryd.func4
    (ChangeSpec.witness_shaped (enc := enc) (C := Tryd.checked) (os := os) (X := fun w _ => laidMetH Tryd.prog laidL w) false (World.doorLaid Tryd.prog 28 os) #[.slice none 0 0, .int .i64 0] 8 rfl (World.shaped_of_RefB (by kernel_rfl) (by kernel_rfl)) (by kernel_rfl) (by kernel_rfl) (by kernel_rfl) (door_met os _)) ?_
  intro W base args ds gs before hval0 hW _ _ hL _
  have hval : ∀ (j : Nat) t v, Tryd.f4.params[j]? = some t → args[j]? = some v → Value.okWide Tryd.prog W .any base t v := hval0
  have hW' := hW
  obtain ⟨p, q, hA0, hV0, rfl, hfz, hnd⟩ := hW
  have hA : DataW.TrodAll enc Tryd.prog W 0 (fun _ => true) true Tryd.f4.params.toList args.toList ds p := hA0
  have hV : DataW.TrodVars enc Tryd.prog W (fun _ => true) ["loop.example/g00283/impl.errNone"] gs q := hV0
  rw [Tryd.params4] at hA hval
  obtain ⟨v0, vs0, d0, ds0, p0, q0, hargs, rfl, rfl, h0, r0⟩ := trodAll_cons hA
  obtain ⟨v1, vs1, d1, ds1, p1, q1, rfl, rfl, rfl, h1, r1⟩ := trodAll_cons r0
  obtain ⟨rfl, rfl, rfl⟩ := trodAll_nil r1
  obtain rfl : args = #[v0, v1] := by cases args; simp_all
  obtain ⟨u, x, hv⟩ := err_of_laid hL
  obtain ⟨hE, hp⟩ := err_cell hv
  obtain ⟨rfl, rfl⟩ := hV.unique (vars_read enc hv _)
  obtain ⟨a0, len0, cap0, rfl⟩ := okWide_slice Tryd.underlying22 (hval 0 22 v0 rfl rfl)
  have k0 := h0
  have lt0 : ∀ x ∈ p0, x.block < W.heap.size := by obtain ⟨m, hm⟩ := k0; exact DataW.trod_lt m _ _ _ hm
  obtain ⟨z0, w0⟩ : ∃ zs, IsRow .u8 W a0 len0 cap0 zs := by
    obtain ⟨fuel, hf⟩ := h0
    rcases open_ints Tryd.underlying22 Tryd.underlying5 (by kernel_rfl) hf with ⟨hcs, _⟩ | ⟨x, l, c, zs, hcs, _, hl, hm, hz, _, hcell, hwz⟩
    · simp [Value.cells] at hcs
      obtain ⟨rfl, rfl, rfl⟩ := hcs
      exact ⟨[], .inl ⟨rfl, rfl, rfl, rfl⟩⟩
    · simp [Value.cells] at hcs
      obtain ⟨rfl, rfl, rfl⟩ := hcs
      exact ⟨zs, .inr ⟨_, rfl, hl, hm, by simpa using hz, hcell, hwz⟩⟩
  obtain ⟨a1, rfl, rfl, rfl, w1⟩ := open_int Tryd.underlying3 (hval 1 3 v1 rfl rfl) h1
  clear hA0 hval0 hV0
  refine (walk a0 len0 cap0 z0 a1 u x W w0 (bounds_i64 w1) hE hp).mono fun e W' ⟨he, bel⟩ => ?_
  subst he
  refine ⟨_, rfl, _, _, _, [], _, [.cell 0 0], hW', trodAll_mk1 (shut_bool Tryd.underlying4 _), (trodAll_cons_mk (Below.trod Tryd.laidOut (by kernel_rfl) (of_decide_eq_true (by kernel_rfl)) k0 bel lt0) (trodAll_cons_mk (shut_int Tryd.underlying3 w1) trodAll_mk0)), ?_, bel.frame _, fun h => by cases h⟩
  exact vars_read enc (var?_below bel gErr hp hv) _

theorem row : Rows.FnExactConstOfSaid :=
  OpenClaim.holds_of_wide 4 Tryd.f4 rfl rfl rfl rfl rfl rfl rfl ⟨rfl, rfl, rfl, rfl, rfl⟩ rfl rfl rfl rfl rfl (by kernel_rfl) Tryd.func4 (by kernel_rfl)
    (of_decide_eq_true (by kernel_rfl)) (by unfold Func.isWrapper; first | (rw [if_pos (by decide +kernel)]; kernel_rfl) | (rw [if_neg (by decide +kernel)]; exact ⟨rfl, rfl⟩))
    (fun os started H enc _ => lifted os started H enc)

theorem card : Rows.FnExactConstOfCardSaid :=
  Claim7.holds_tied_plain_at .later [] [.sentinel] true (true, "cbdce714cdd6be1b11c5a8f781d207e035b267704d9b363f13bd77256415f4e5") false
    row (fun _ h => by cases h) (by kernel_rfl) (fun _ h => by cases h) fnExactConstOf_row_tie rfl ⟨rfl, rfl⟩ (by kernel_rfl) rfl
    (fun f fn hf hfn => by
      obtain rfl : f = 4 := Option.some.inj ((show Tryd.prog.funcNamed "loop.example/g00283/laws.FnExactConstOf" = some 4 by kernel_rfl).symm.trans hf) |>.symm
      obtain rfl : fn = Tryd.f4 := (Option.some.inj (Tryd.func4.symm.trans hfn)).symm
      exact ⟨by kernel_rfl, fun j t ht => by
        rw [Tryd.params4] at ht
        have hm : t ∈ [22, 3] := by simpa using Array.mem_of_getElem? ht
        have hall : ([22, 3].all fun u => !Tryd.prog.wantsStandIn u) = true := by kernel_rfl
        exact (show Tryd.prog.wantsStandIn t = false by simpa using List.all_eq_true.1 hall t hm)⟩)
    (by kernel_rfl)
end Go.Proofs.YtgegmocgbjklkaaDoor.fnExactConstOf
namespace Go.Proofs.YtgegmocgbjklkaaDoor
theorem fnExactConstOf_holds : Rows.FnExactConstOfCardSaid := fnExactConstOf.card
#print axioms fnExactConstOf_holds
end Go.Proofs.YtgegmocgbjklkaaDoor
