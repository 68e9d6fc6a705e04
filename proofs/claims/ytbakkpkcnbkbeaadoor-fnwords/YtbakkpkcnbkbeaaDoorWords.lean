/-
  Proved: whatever bytes are drawn from, a drawn word is read from its bytes as it was, and what goes round is a word and goes round to the same (the law FnWords returns true), where the program's own error value holds what its text lays (the card ties it), without any other condition.
-/
import Derived.Test.YtbakkpkcnbkbeaaDoorRows
import Derived.Test.YtbakkpkcnbkbeaaDoorCards
import Derived.Test.YtbakkpkcnbkbeaaDoorTie
import Derived.Test.YtbakkpkcnbkbeaaDoorRowIn
import Derived.Test.YtbakkpkcnbkbeaaDoorWordsW
import Derived.Test.YtbakkpkcnbkbeaaDoorLaid
import Derived.Deep.RegionWith
import Derived.WalkKit
import Derived.ProofKit
import Derived.OpenShut
import Derived.ShutString
import Derived.ChangeOld
import Derived.Below
import Derived.SevenTiedAt
namespace Go.Proofs.YtbakkpkcnbkbeaaDoor.fnWords
open Go.ChangeShapes Go.WideShapes Go.ChangeAt Go.RowKit
set_option linter.unusedVariables false

set_option maxRecDepth 100000 in
set_option maxHeartbeats 2000000 in
theorem walk (a0 : Option Addr) (len0 cap0 : Nat) (z0 : List Int) (t : TypeId) (v : Value) (w : World) (w0 : IsRow .u8 w a0 len0 cap0 z0) (hE : Err w t v) (hp : 0 < w.heap.size) :
    Calls Tryd.prog 4 #[.slice a0 len0 cap0] w fun e w' => e = .returned (.bool true) ∧ Below w.heap.size w w' := by
  by_cases hbig : (1048576 : Int) < (len0 : Int)
  · clear w0 hE
    go_enter Tryd.func4, Tryd.ntmps4
    go_wp2
    go_ret
    exact ⟨rfl, Below.refl _ _⟩
  · have hin := in_of w0 (by omega)
    clear w0
    generalize z0.take len0 = zs at hin
    have HIN := hide hin
    have HE := hide hE
    clear hin hE
    go_enter Tryd.func4, Tryd.ntmps4
    go_wp2_with fail
    refine (bigNo _ _ _ _ (by omega)).mono ?_
    rintro e wb ⟨rfl, rfl⟩
    go_wp2_with fail
    refine (drawPutWord _ _ _ _ _ HIN.out).mono ?_
    rintro e w1 ⟨x, rfl, hx, b1⟩
    have HB1 := hide b1
    clear b1 hbig
    go_wp2_with fail
    refine (putWordImpl _ _).mono ?_
    rintro e w2 ⟨v1, rfl, o1, b2⟩
    obtain ⟨a1, c1, rfl⟩ := own_shape o1
    have HB2 := hide (HB1.out.trans (b2.mono HB1.out.size))
    have HO1 := hide o1
    have hcv1 : (convert 22 9 (.slice a1 (pw x).length c1)).run Tryd.prog w2.drew = .ok (.string (strOfNums (pw x))) w2.drew := own_str o1 (pw_byt x)
    clear o1 b2 HB1
    go_wp2_with fail
    go_region_with (go_at_call 24; refine (putWordSpec _ _).mono ?_; rintro e w3 ⟨v3, rfl, o3, b3⟩; have hcv3 := own_str o3 (pw_byt x); have hcv4 := own_str (HO1.out.below (below_of_drew b3)) (pw_byt x); have HB3 := hide (HB2.out.trans ((below_of_drew b3).mono HB2.out.size)); have HO3 := hide (HO1.out.below (below_of_drew b3)); clear o3 b3)
    all_goals
      clear hcv1 hcv3 hcv4
      have hpl := pw_len x
      have HI1 := hide (in_slice HO3.out (by omega) (pw_byt x) (Nat.le_refl _)).1
      have HE3 := hide (HE.out.low HB3.out hp)
      have hp3 : 0 < w3.heap.size := Nat.lt_of_lt_of_le hp HB3.out.size
      have HIN3 := hide ((HIN.out.kept HB3.out.block).up HB3.out.size)
      clear HO3 HO1 HB2 HE HIN
      by_cases hw : -2147483648 ≤ x ∧ x ≤ 2147483647
      · have HG := hide (gw_word x hw.1 hw.2)
        have hl4 : (pw x).length = 4 := by rw [pw_in x hw.1 hw.2]; rfl
        have hr := rnd_in x hw.1 hw.2
        have hxx : (x != x) = false := by simp
        generalize (pw x).length = n at *
        subst hl4
        go_wp2_with fail
        refine (getWordImpl _ _ _ _ _ _ _ _ hp3 HI1.out HE3.out).mono ?_
        rintro e w4 ⟨rfl, b4⟩
        rw [HG.out]
        have HB4 := hide (HB3.out.trans (b4.mono HB3.out.size))
        have HE4 := hide (HE3.out.low b4 hp3)
        have hp4 : 0 < w4.heap.size := Nat.lt_of_lt_of_le hp3 b4.size
        have HIN4 := hide ((HIN3.out.kept b4.block).up b4.size)
        clear b4 HB3 HE3 HIN3 HI1 HG
        unfold ans
        go_wp2_with fail
        refine (drawGetWord _ _ _ _ _ HIN4.out).mono ?_
        rintro e w5 ⟨a5, c5, ys, k, rfl, hi5, hc5, hk, b5⟩
        have HI5 := hide hi5
        have HB5 := hide (HB4.out.trans (b5.mono HB4.out.size))
        have HE5 := hide (HE4.out.low b5 hp4)
        have hp5 : 0 < w5.heap.size := Nat.lt_of_lt_of_le hp4 b5.size
        have HIN5 := hide ((HIN4.out.kept b5.block).up b5.size)
        clear hi5 b5 HB4 HE4 HIN4 hc5 hk
        go_wp2_with fail
        refine (getWordImpl _ _ _ _ _ _ _ _ hp5 HI5.out HE5.out).mono ?_
        rintro e w6 ⟨rfl, b6⟩
        obtain ⟨n6, nx6, ok6, hans⟩ : ∃ (n nx : Int) (ok : Bool), ans (gw ys k) = .tuple #[.int .i64 n, .int .i64 nx, .bool ok] := by
          cases gw ys k with
          | none => exact ⟨_, _, _, rfl⟩
          | some q => exact ⟨_, _, _, rfl⟩
        have HA := hide hans
        rw [hans]
        have HI6 := hide ((HI5.out.kept b6.block).up b6.size)
        have HB6 := hide (HB5.out.trans (b6.mono HB5.out.size))
        have HIN6 := hide ((HIN5.out.kept b6.block).up b6.size)
        clear hans b6 HI5 HB5 HE5 HIN5
        go_wp2_with fail
        refine (getWordModel _ _ _ _ _ _ _ HI6.out).mono ?_
        rintro e w7 ⟨rfl, q7, rfl⟩
        rw [HA.out]
        have HB7 := hide (below_drewN HB6.out q7)
        have HIN7 : Hid (In (w6.drewN q7) (w6.drewN q7).heap.size a0 len0 zs) := hide (HIN6.out.drewN q7)
        clear HI6 HB6 HIN6 HA
        generalize w6.drewN q7 = w7 at *
        go_wp2_with fail
        refine (drawRound _ _ _ _ _ HIN7.out).mono ?_
        rintro e w8 ⟨m, rfl, hm, b8⟩
        have HB8 := hide (HB7.out.trans (b8.mono HB7.out.size))
        clear hm b8 HB7 HIN7
        have e1 := rnd_twice m
        have e2 : (rnd m == rnd m) = true := by simp
        have e3 : (n6 == n6) = true := by simp
        have e4 : (nx6 == nx6) = true := by simp
        have e5 : (ok6 == ok6) = true := by simp
        have hmb := rnd_bd m
        go_wp2_with (first
          | (go_at_call 29; refine (roundImpl _ _).mono ?_; rintro e w' ⟨rfl, rfl⟩)
          | (go_at_call 30; refine (roundSpec _ _).mono ?_; rintro e w' ⟨rfl, rfl⟩)
          | (go_at_call 23; refine (putWordFour _ _ hmb.1 hmb.2).mono ?_; rintro e w9 ⟨c9, rfl, b9⟩; have HB9 := hide (HB8.out.trans (b9.mono HB8.out.size)); clear b9))
        go_ret
        exact ⟨rfl, HB9.out⟩
      · have HG := hide (gw_none x (by omega))
        have hl4 : (pw x).length = 0 := by rw [pw_out x (by omega)]; rfl
        have hr := rnd_out x (by omega)
        generalize (pw x).length = n at *
        subst hl4
        go_wp2_with fail
        refine (getWordImpl _ _ _ _ _ _ _ _ hp3 HI1.out HE3.out).mono ?_
        rintro e w4 ⟨rfl, b4⟩
        rw [HG.out]
        have HB4 := hide (HB3.out.trans (b4.mono HB3.out.size))
        have HE4 := hide (HE3.out.low b4 hp3)
        have hp4 : 0 < w4.heap.size := Nat.lt_of_lt_of_le hp3 b4.size
        have HIN4 := hide ((HIN3.out.kept b4.block).up b4.size)
        clear b4 HB3 HE3 HIN3 HI1 HG
        unfold ans
        go_wp2_with fail
        refine (drawGetWord _ _ _ _ _ HIN4.out).mono ?_
        rintro e w5 ⟨a5, c5, ys, k, rfl, hi5, hc5, hk, b5⟩
        have HI5 := hide hi5
        have HB5 := hide (HB4.out.trans (b5.mono HB4.out.size))
        have HE5 := hide (HE4.out.low b5 hp4)
        have hp5 : 0 < w5.heap.size := Nat.lt_of_lt_of_le hp4 b5.size
        have HIN5 := hide ((HIN4.out.kept b5.block).up b5.size)
        clear hi5 b5 HB4 HE4 HIN4 hc5 hk
        go_wp2_with fail
        refine (getWordImpl _ _ _ _ _ _ _ _ hp5 HI5.out HE5.out).mono ?_
        rintro e w6 ⟨rfl, b6⟩
        obtain ⟨n6, nx6, ok6, hans⟩ : ∃ (n nx : Int) (ok : Bool), ans (gw ys k) = .tuple #[.int .i64 n, .int .i64 nx, .bool ok] := by
          cases gw ys k with
          | none => exact ⟨_, _, _, rfl⟩
          | some q => exact ⟨_, _, _, rfl⟩
        have HA := hide hans
        rw [hans]
        have HI6 := hide ((HI5.out.kept b6.block).up b6.size)
        have HB6 := hide (HB5.out.trans (b6.mono HB5.out.size))
        have HIN6 := hide ((HIN5.out.kept b6.block).up b6.size)
        clear hans b6 HI5 HB5 HE5 HIN5
        go_wp2_with fail
        refine (getWordModel _ _ _ _ _ _ _ HI6.out).mono ?_
        rintro e w7 ⟨rfl, q7, rfl⟩
        rw [HA.out]
        have HB7 := hide (below_drewN HB6.out q7)
        have HIN7 : Hid (In (w6.drewN q7) (w6.drewN q7).heap.size a0 len0 zs) := hide (HIN6.out.drewN q7)
        clear HI6 HB6 HIN6 HA
        generalize w6.drewN q7 = w7 at *
        go_wp2_with fail
        refine (drawRound _ _ _ _ _ HIN7.out).mono ?_
        rintro e w8 ⟨m, rfl, hm, b8⟩
        have HB8 := hide (HB7.out.trans (b8.mono HB7.out.size))
        clear hm b8 HB7 HIN7
        have e1 := rnd_twice m
        have e2 : (rnd m == rnd m) = true := by simp
        have e3 : (n6 == n6) = true := by simp
        have e4 : (nx6 == nx6) = true := by simp
        have e5 : (ok6 == ok6) = true := by simp
        have hmb := rnd_bd m
        go_wp2_with (first
          | (go_at_call 29; refine (roundImpl _ _).mono ?_; rintro e w' ⟨rfl, rfl⟩)
          | (go_at_call 30; refine (roundSpec _ _).mono ?_; rintro e w' ⟨rfl, rfl⟩)
          | (go_at_call 23; refine (putWordFour _ _ hmb.1 hmb.2).mono ?_; rintro e w9 ⟨c9, rfl, b9⟩; have HB9 := hide (HB8.out.trans (b9.mono HB8.out.size)); clear b9))
        go_ret
        exact ⟨rfl, HB9.out⟩

set_option maxRecDepth 100000 in
theorem lifted (os : Os) (started : os.Started) (H : Type) (enc : TypeId × Value → H) :
    ReturnsInHanded {} Tryd.checked os 4 .any (fun w args => (Rows.fnWordsSpec.pre enc Tryd.prog Tryd.f4 [] false w args ∧ laidMetH Tryd.prog laidL w) ∧ sizedMet enc Tryd.prog Tryd.f4 (OpenSpec.ofChange Rows.fnWordsSpec) false w args)
      (Rows.fnWordsSpec.post enc Tryd.prog Tryd.f4 false true false false) := by
  refine returnsInHanded_of_change_and (C := Tryd.checked) (X := fun w _ => laidMetH Tryd.prog laidL w) (fun _ _ _ hh h => h.of_heap hh) Tryd.own started (by kernel_rfl) Tryd.func4
    (ChangeSpec.witness_shaped (enc := enc) (C := Tryd.checked) (os := os) (X := fun w _ => laidMetH Tryd.prog laidL w) false (World.doorLaid Tryd.prog 28 os) #[.slice none 0 0] 8 rfl (World.shaped_of_RefB (by kernel_rfl) (by kernel_rfl)) (by kernel_rfl) (by kernel_rfl) (by kernel_rfl) (door_met os _)) ?_
  intro W base args ds gs before hval0 hW _ _ hL _
  have hval : ∀ (j : Nat) t v, Tryd.f4.params[j]? = some t → args[j]? = some v → Value.okWide Tryd.prog W .any base t v := hval0
  have hW' := hW
  obtain ⟨p, q, hA0, hV0, rfl, hfz, hnd⟩ := hW
  have hA : DataW.TrodAll enc Tryd.prog W 0 (fun _ => true) true Tryd.f4.params.toList args.toList ds p := hA0
  have hV : DataW.TrodVars enc Tryd.prog W (fun _ => true) ["loop.example/g00283/impl.errNone"] gs q := hV0
  rw [Tryd.params4] at hA hval
  obtain ⟨v0, vs0, d0, ds0, p0, q0, hargs, rfl, rfl, h0, r0⟩ := trodAll_cons hA
  obtain ⟨rfl, rfl, rfl⟩ := trodAll_nil r0
  obtain rfl : args = #[v0] := by cases args; simp_all
  obtain ⟨u, x, hv⟩ := err_of_laid hL
  obtain ⟨hE, hp⟩ := err_cell hv
  obtain ⟨rfl, rfl⟩ := hV.unique (vars_read enc hv _)
  obtain ⟨a0, len0, cap0, rfl⟩ := okWide_slice Tryd.underlying22 (hval 0 22 v0 rfl rfl)
  have k0 := h0
  have lt0 : ∀ x ∈ p0, x.block < W.heap.size := by obtain ⟨m, hm⟩ := k0; exact DataW.trod_lt m _ _ _ hm
  obtain ⟨z0, w0⟩ : ∃ zs, IsRow .u8 W a0 len0 cap0 zs := by
    obtain ⟨fuel, hf⟩ := h0
    rcases open_ints Tryd.underlying22 Tryd.underlying5 (by kernel_rfl) hf with ⟨hcs, _⟩ | ⟨x, l, c, zs, hcs, _, hl, hm, hz, _, hcell, hwz⟩
    · simp [Value.cells] at hcs
      obtain ⟨rfl, rfl, rfl⟩ := hcs
      exact ⟨[], .inl ⟨rfl, rfl, rfl, rfl⟩⟩
    · simp [Value.cells] at hcs
      obtain ⟨rfl, rfl, rfl⟩ := hcs
      exact ⟨zs, .inr ⟨_, rfl, hl, hm, by simpa using hz, hcell, hwz⟩⟩
  clear hA0 hval0 hV0
  refine (walk a0 len0 cap0 z0 u x W w0 hE hp).mono fun e W' ⟨he, bel⟩ => ?_
  subst he
  refine ⟨_, rfl, _, _, _, [], _, [.cell 0 0], hW', trodAll_mk1 (shut_bool Tryd.underlying4 _), (trodAll_cons_mk (Below.trod Tryd.laidOut (by kernel_rfl) (of_decide_eq_true (by kernel_rfl)) k0 bel lt0) trodAll_mk0), ?_, bel.frame _, fun h => by cases h⟩
  exact vars_read enc (var?_below bel gErr hp hv) _

theorem row : Rows.FnWordsSaid :=
  OpenClaim.holds_of_wide 4 Tryd.f4 rfl rfl rfl rfl rfl rfl rfl ⟨rfl, rfl, rfl, rfl, rfl⟩ rfl rfl rfl rfl rfl (by kernel_rfl) Tryd.func4 (by kernel_rfl)
    (of_decide_eq_true (by kernel_rfl)) (by unfold Func.isWrapper; first | (rw [if_pos (by decide +kernel)]; kernel_rfl) | (rw [if_neg (by decide +kernel)]; exact ⟨rfl, rfl⟩))
    (fun os started H enc _ => lifted os started H enc)

theorem card : Rows.FnWordsCardSaid :=
  Claim7.holds_tied_plain_at .later [] [.sentinel] true (true, "9b53c1999329ddecebb11ca33b33e8848649b8666b5a55c9b0a8c56b7ae81600") false
    row (fun _ h => by cases h) (by kernel_rfl) (fun _ h => by cases h) fnWords_row_tie rfl ⟨rfl, rfl⟩ (by kernel_rfl) rfl
    (fun f fn hf hfn => by
      obtain rfl : f = 4 := Option.some.inj ((show Tryd.prog.funcNamed "loop.example/g00283/laws.FnWords" = some 4 by kernel_rfl).symm.trans hf) |>.symm
      obtain rfl : fn = Tryd.f4 := (Option.some.inj (Tryd.func4.symm.trans hfn)).symm
      exact ⟨by kernel_rfl, fun j t ht => by
        rw [Tryd.params4] at ht
        have hm : t ∈ [22] := by simpa using Array.mem_of_getElem? ht
        have hall : ([22].all fun u => !Tryd.prog.wantsStandIn u) = true := by kernel_rfl
        exact (show Tryd.prog.wantsStandIn t = false by simpa using List.all_eq_true.1 hall t hm)⟩)
    (by kernel_rfl)
end Go.Proofs.YtbakkpkcnbkbeaaDoor.fnWords
namespace Go.Proofs.YtbakkpkcnbkbeaaDoor
theorem fnWords_holds : Rows.FnWordsCardSaid := fnWords.card
#print axioms fnWords_holds
end Go.Proofs.YtbakkpkcnbkbeaaDoor
