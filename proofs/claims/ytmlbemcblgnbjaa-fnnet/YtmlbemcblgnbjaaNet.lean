/-
  Proved: what FnNet says of drawn nets holds (it returns true), without any condition.
-/
import Derived.Test.YtmlbemcblgnbjaaRows
import Derived.Test.YtmlbemcblgnbjaaRowIn
import Derived.Test.YtmlbemcblgnbjaaAtW
import Derived.Test.YtmlbemcblgnbjaaDrawNetD
import Derived.Test.YtmlbemcblgnbjaaNetTakS
import Derived.Test.YtmlbemcblgnbjaaStrW
import Derived.Test.YtmlbemcblgnbjaaNetW
import Derived.Test.YtmlbemcblgnbjaaNetSpS
import Derived.Test.YtmlbemcblgnbjaaTurnMath
import Derived.Test.YtmlbemcblgnbjaaOpenW
import Derived.WalkKit
import Derived.ProofKit
import Derived.OpenShut
import Derived.ShutString
import Derived.ChangeOld
import Derived.Below
namespace Go.Proofs.Ytmlbemcblgnbjaa.fnNet
open Go.ChangeShapes Go.WideShapes Go.ChangeAt Go.RowKit
open Go.ChangeMaps (open_string shut_string)
set_option linter.unusedVariables false

theorem own : ownKnob Try.prog.godebug = none := by kernel_rfl
theorem laidOut : laidOutB Try.prog = true := by kernel_rfl
theorem hasN_in {size : Int} {ps : List Pk} {i : Int} (h : hasN size ps i = true) : netOk size ps = true ∧ 0 ≤ i ∧ i < ps.length := by
  unfold hasN at h
  rw [Bool.and_eq_true] at h
  refine ⟨h.1, ?_⟩
  have := h.2
  simp [inB] at this
  omega
theorem taken {size : Int} {ps : List Pk} {i : Int} : ∃ ms mps p ok, takeN size ps i = (((ms, mps), p), ok) ∧ (ok = true → mps.length + 1 = ps.length) := by
  cases h : hasN size ps i with
  | false => rw [takeN_no h]; exact ⟨_, _, _, _, rfl, fun e => by cases e⟩
  | true =>
    rw [takeN_yes h]
    have := (hasN_in h).2
    exact ⟨_, _, _, _, rfl, fun _ => by simp; omega⟩
theorem posted {size ms : Int} {ps mps : List Pk} {p : Pk} (h : postN size ps p = ((ms, mps), true)) : ms = size ∧ mps = ps ++ [p] ∧ netOk size (ps ++ [p]) = true := by
  unfold postN at h
  cases hk : netOk size (ps ++ [p]) with
  | false => rw [hk] at h; simp at h
  | true => rw [hk] at h; simp at h; exact ⟨h.1.symm, h.2.symm, rfl⟩
theorem twiced {size ms : Int} {ps mps : List Pk} {i : Int} (h : twiceN size ps i = ((ms, mps), true)) : mps.length = ps.length + 1 := by
  cases hh : hasN size ps i with
  | false => rw [twiceN_no hh] at h; simp at h
  | true =>
    rw [twiceN_yes hh] at h
    rw [(posted h).2.1]; simp
theorem spoiled {size ms : Int} {ps mps : List Pk} {i bit : Int} (h : spoilN size ps i bit = ((ms, mps), true)) :
    ∃ j n : Nat, i = (j : Int) ∧ bit = (n : Int) ∧ j < ps.length ∧ n / 8 < (ps.getD j default).b.length ∧ mps = ps.set j (spoilt (ps.getD j default) (n : Int)) ∧ spoilN ms mps i bit = (asN ms mps, false) := by
  cases hm : mayN size ps i bit with
  | false => rw [spoilN_no hm] at h; simp at h
  | true =>
    rw [spoilN_yes hm] at h
    simp only [Prod.mk.injEq, and_true] at h
    unfold mayN at hm
    simp only [Bool.and_eq_true, decide_eq_true_eq] at hm
    obtain ⟨hh, _, hb⟩ := hm
    obtain ⟨j, rfl, hj, _⟩ := hasN_at hh
    obtain ⟨n, rfl⟩ := Int.eq_ofNat_of_zero_le hb.1
    simp only [Int.toNat_natCast] at h hb
    obtain ⟨rfl, rfl⟩ := h
    refine ⟨j, n, rfl, rfl, hj, by omega, rfl, spoilN_no ?_⟩
    unfold mayN
    simp [List.getD, hj, spoilt]
theorem opened_sealed_of {zs y : List Int} (hz : Byt zs) (h : opened zs = some y) : zs = sealed y ∧ Byt y := by
  unfold opened at h
  split at h
  · rename_i hc
    simp only [Option.some.injEq] at h
    subst h
    refine ⟨?_, fun z hm => hz z (List.mem_of_mem_take hm)⟩
    have := (told_iff (zs.take (zs.length - 4)) (zs.drop (zs.length - 4)) (fun z hm => hz z (List.mem_of_mem_drop hm)) (by simp; omega)).2 hc.2
    unfold sealed
    rw [this, List.take_append_drop]
  · cases h
theorem open_turn {zs : List Int} (hz : Byt zs) {n : Nat} (hn : n / 8 < zs.length) : ((opened (turned zs (n : Int))).isSome && (opened zs).isSome) = false := by
  cases h : opened zs with
  | none => simp
  | some y =>
    obtain ⟨rfl, hy⟩ := opened_sealed_of hz h
    rw [opened_turned y hy n (by rw [sealed_len] at hn; exact hn)]
    rfl
theorem openA_shape {B : Nat} {r : Option (List Int)} {e : Ending} {w' : World} (h : openA B r e w') : ∃ a l c, e = .returned (.tuple #[.slice a l c, .bool r.isSome]) := by
  unfold openA at h
  cases r with
  | none =>
    obtain ⟨v, rfl, ho⟩ := h
    obtain ⟨a, c, rfl⟩ := own_shape ho
    exact ⟨_, _, _, rfl⟩
  | some zs =>
    obtain ⟨v, rfl, ho⟩ := h
    obtain ⟨a, c, rfl⟩ := own_shape ho
    exact ⟨_, _, _, rfl⟩
theorem pk_own {w : World} {b hi : Nat} {v : Value} {xs : List (Pk × Value)} (h : OwnX w b hi v xs) (hg : Good (xs.map Prod.fst)) {j : Nat} (hj : j < xs.length) :
    ∃ g o c au cu, v = .slice (some ⟨g, o, none⟩) xs.length c ∧ w.cell? ⟨g, o + j * 4 + 2, none⟩ = some (.slice au ((xs.map Prod.fst).getD j default).b.length cu) ∧ In w w.heap.size au ((xs.map Prod.fst).getD j default).b.length ((xs.map Prod.fst).getD j default).b ∧ ((xs.map Prod.fst).getD j default).b.length ≤ cu := by
  have hgd : (xs.map Prod.fst).getD j default = (xs.getD j default).1 := by simp [List.getD, hj]
  have hx : xs.getD j default ∈ xs := by
    have : xs.getD j default = xs[j] := by simp [hj]
    rw [this]; exact List.getElem_mem _
  rw [hgd]
  obtain ⟨_, a, cap, rfl, _, _, h4⟩ := rd_own h.1 (Nat.le_refl _)
  obtain ⟨g, o, rfl, _, hc⟩ := h4 (by omega)
  have hgx := hg _ (List.mem_map_of_mem hx)
  obtain ⟨au, cu, e, hi, hcu⟩ := in_any (h.2.1 _ hx) hgx.1 hgx.2 (Nat.le_refl _)
  refine ⟨g, o, cap, au, cu, rfl, ?_, hi, hcu⟩
  rw [Nat.add_assoc, hc _ (by omega), flat_get pkC 4 pkC_len xs default j 2 hj (by omega), ← e]; rfl
theorem taken_last {size : Int} {ps : List Pk} {p : Pk} {n : Nat} (hn : ps.length = n) (h : netOk size (ps ++ [p]) = true) : takeN size (ps ++ [p]) (n : Int) = (((size, ps), p), true) := by
  subst hn
  have hh : hasN size (ps ++ [p]) (ps.length : Int) = true := by
    unfold hasN
    rw [h]
    simp [inB]
  rw [takeN_yes hh]
  simp
set_option maxRecDepth 100000 in
set_option maxHeartbeats 8000000 in
theorem walk (a0 : Option Addr) (len0 cap0 : Nat) (z0 : List Int) (w : World) (w0 : IsRow .u8 w a0 len0 cap0 z0) :
    Calls Try.prog 3 #[.slice a0 len0 cap0] w fun e w' => e = .returned (.bool true) ∧ Below w.heap.size w w' := by
  by_cases hbig : (1048576 : Int) < (len0 : Int)
  · clear w0
    go_enter Try.func3, Try.ntmps3
    go_wp2_with fail
    refine (bigYes _ _ _ _ hbig).mono ?_
    rintro e wb ⟨rfl, rfl⟩
    go_wp2
    go_ret
    exact ⟨rfl, Below.refl _ _⟩
  · have hin := in_of w0 (by omega)
    clear w0
    generalize z0.take len0 = zs at hin
    have HIN := hide hin
    clear hin
    go_enter Try.func3, Try.ntmps3
    go_wp2_with fail
    refine (bigNo _ _ _ _ (by omega)).mono ?_
    rintro e wb ⟨rfl, hw⟩
    subst wb
    go_wp2_with fail
    refine (drawPost _ _ _ _ _ HIN.out).mono ?_
    rintro e w1 ⟨size, v, xs, f, t, u, qs, rfl, ho, hgo, hl, ou, hub, hul, b1⟩
    obtain ⟨av, cv, rfl⟩ := ho.shape
    obtain ⟨au, cu, rfl⟩ := own_shape ou
    have HB := hide (Below.refl w.heap.size w)
    have HO := hide ho
    have HU := hide ou
    have HGO := hide hgo
    have HUB := hide hub
    clear ho hgo ou hub hbig
    have sz := b1.size
    have bD := (((Below.refl w1.heap.size w1)).alloc (Nat.le_refl _) (.cells #[.int .i64 size, .slice av xs.length cv] 26)).alloc (by simp) (.cells #[.int .i64 f, .int .i64 t, .slice au qs.length cu, .bool false] 28)
    replace HO := hide (HO.out.below bD)
    replace HU := hide (HU.out.below bD)
    replace HB := hide ((HB.out.trans (b1.mono HB.out.size)).trans (bD.mono (Nat.le_trans HB.out.size sz)))
    have E3 := hide ((Below.heap_alloc (w1.alloc (.cells #[.int .i64 size, .slice av xs.length cv] 26)) (.cells #[.int .i64 f, .int .i64 t, .slice au qs.length cu, .bool false] 28) w1.heap.size (by simp)).trans (heap_alloc_new w1 (.cells #[.int .i64 size, .slice av xs.length cv] 26)))
    have E4 : Hid (((w1.alloc (.cells #[.int .i64 size, .slice av xs.length cv] 26)).alloc (.cells #[.int .i64 f, .int .i64 t, .slice au qs.length cu, .bool false] 28)).heap[w1.heap.size + 1]? = some (.cells #[.int .i64 f, .int .i64 t, .slice au qs.length cu, .bool false] 28 (0, 0))) := hide (by have := heap_alloc_new (w1.alloc (.cells #[.int .i64 size, .slice av xs.length cv] 26)) (.cells #[.int .i64 f, .int .i64 t, .slice au qs.length cu, .bool false] 28); simp only [World.size_alloc] at this; exact this)
    clear bD b1 sz
    have e3_0 := (box_of E3.out).1 0 _ rfl
    have e3_1 := (box_of E3.out).1 1 _ rfl
    have e4_0 := (box_of E4.out).1 0 _ rfl
    have e4_1 := (box_of E4.out).1 1 _ rfl
    have e4_2 := (box_of E4.out).1 2 _ rfl
    have e4_3 := (box_of E4.out).1 3 _ rfl
    go_wp2_with fail
    clear e3_0 e3_1 e4_0 e4_1 e4_2 e4_3
    generalize (w1.alloc (.cells #[.int .i64 size, .slice av xs.length cv] 26)).alloc (.cells #[.int .i64 f, .int .i64 t, .slice au qs.length cu, .bool false] 28) = W1 at *
    generalize w1.heap.size = L3 at *
    have HRD := hide (HO.out.rd HGO.out (Nat.le_refl _))
    have HBT : Hid (Bt W1 W1.heap.size (.slice au qs.length cu) qs) := hide (bt_own HU.out (by omega) HUB.out (Nat.le_refl _))
    obtain ⟨ms, mps, ok, hr⟩ : ∃ ms mps ok, postN size (xs.map Prod.fst) ⟨f, t, qs, false⟩ = ((ms, mps), ok) := ⟨_, _, _, rfl⟩
    have HR := hide hr
    clear hr
    refine (postImpl _ size _ (xs.map Prod.fst) ⟨f, t, qs, false⟩ _ HRD.out HBT.out (by simp; omega)).mono ?_
    rintro e w2 ha
    rw [HR.out] at ha
    obtain ⟨v5, rfl, o5, b2⟩ := ha
    obtain ⟨ys, hys, ox5⟩ := o5
    simp only at hys
    obtain ⟨a5, c5, rfl⟩ := ox5.shape
    unfold netV
    simp only
    have HYS := hide hys
    have HO5 := hide ox5
    clear hys ox5
    have sz := b2.size
    have bD := ((Below.refl w2.heap.size w2)).alloc (Nat.le_refl _) (.cells #[.int .i64 ms, .slice a5 ys.length c5] 26)
    replace E3 := hide ((bD.block L3 (by have := (Array.getElem?_eq_some_iff.1 E3.out).1; omega)).trans ((b2.block L3 (Array.getElem?_eq_some_iff.1 E3.out).1).trans E3.out))
    replace E4 := hide ((bD.block (L3 + 1) (by have := (Array.getElem?_eq_some_iff.1 E4.out).1; omega)).trans ((b2.block (L3 + 1) (Array.getElem?_eq_some_iff.1 E4.out).1).trans E4.out))
    replace HO := hide ((HO.out.below b2).below bD)
    replace HU := hide ((HU.out.below b2).below bD)
    replace HO5 := hide (HO5.out.below bD)
    replace HB := hide ((HB.out.trans (b2.mono HB.out.size)).trans (bD.mono (Nat.le_trans HB.out.size sz)))
    have E5 := hide (heap_alloc_new w2 (.cells #[.int .i64 ms, .slice a5 ys.length c5] 26))
    clear bD b2 sz
    have e3_0 := (box_of E3.out).1 0 _ rfl
    have e3_1 := (box_of E3.out).1 1 _ rfl
    have e4_0 := (box_of E4.out).1 0 _ rfl
    have e4_1 := (box_of E4.out).1 1 _ rfl
    have e4_2 := (box_of E4.out).1 2 _ rfl
    have e4_3 := (box_of E4.out).1 3 _ rfl
    go_wp2_with fail
    clear e3_0 e3_1 e4_0 e4_1 e4_2 e4_3
    generalize w2.alloc (.cells #[.int .i64 ms, .slice a5 ys.length c5] 26) = W2 at *
    generalize w2.heap.size = L5 at *
    replace HRD := hide (HO.out.rd HGO.out (Nat.le_refl _))
    have HBT2 : Hid (Bt W2 W2.heap.size (.slice au qs.length cu) qs) := hide (bt_own HU.out (by omega) HUB.out (Nat.le_refl _))
    refine (postSpec _ size _ (xs.map Prod.fst) ⟨f, t, qs, false⟩ _ HRD.out HBT2.out (by simp; omega)).mono ?_
    rintro e w3 ha
    rw [HR.out] at ha
    obtain ⟨v7, rfl, o7, b3⟩ := ha
    obtain ⟨ys7, _, ox7⟩ := o7
    obtain ⟨a7, c7, rfl⟩ := ox7.shape
    unfold netV
    simp only
    clear ox7 HBT HBT2
    have sz := b3.size
    have bD := ((Below.refl w3.heap.size w3)).alloc (Nat.le_refl _) (.cells #[.int .i64 ms, .slice a7 ys7.length c7] 26)
    replace E3 := hide ((bD.block L3 (by have := (Array.getElem?_eq_some_iff.1 E3.out).1; omega)).trans ((b3.block L3 (Array.getElem?_eq_some_iff.1 E3.out).1).trans E3.out))
    replace E4 := hide ((bD.block (L3 + 1) (by have := (Array.getElem?_eq_some_iff.1 E4.out).1; omega)).trans ((b3.block (L3 + 1) (Array.getElem?_eq_some_iff.1 E4.out).1).trans E4.out))
    replace E5 := hide ((bD.block L5 (by have := (Array.getElem?_eq_some_iff.1 E5.out).1; omega)).trans ((b3.block L5 (Array.getElem?_eq_some_iff.1 E5.out).1).trans E5.out))
    replace HO := hide ((HO.out.below b3).below bD)
    replace HU := hide ((HU.out.below b3).below bD)
    replace HO5 := hide ((HO5.out.below b3).below bD)
    replace HB := hide ((HB.out.trans (b3.mono HB.out.size)).trans (bD.mono (Nat.le_trans HB.out.size sz)))
    clear bD b3 sz
    go_upto_region 6 with fail
    generalize w3.alloc (.cells #[.int .i64 ms, .slice a7 ys7.length c7] 26) = W3 at *
    generalize w3.heap.size = L7 at *
    have HD := hide ((Below.refl W3.heap.size W3).drew)
    replace HRD := hide (HO.out.rd HGO.out (Nat.le_refl _))
    have HRD3 : Hid (∀ W', Below W3.heap.size W3 W' → RdP W' W'.heap.size (.slice av xs.length cv) (xs.map Prod.fst)) := hide (fun W' hb => HRD.out.at hb)
    have HC3 : Hid (∀ W', Below W3.heap.size W3 W' → W'.cell? ⟨L3, 0, none⟩ = some (.int .i64 size) ∧ W'.cell? ⟨L3, 1, none⟩ = some (.slice av xs.length cv)) := hide (fun W' hb => by
      have X := (box_of ((hb.block L3 (Array.getElem?_eq_some_iff.1 E3.out).1).trans E3.out)).1
      exact ⟨X 0 _ rfl, X 1 _ rfl⟩)
    obtain ⟨n0, n1⟩ := HC3.out _ HD.out
    generalize hnk : netOk size (xs.map Prod.fst) = nk at *
    have HNK := hide hnk
    clear hnk
    go_cut [67] from 58 to 67 (fun s wr => s = .bool false ∧ Below W3.heap.size W3 wr)
    case first =>
     go_region_law
       (first
         | (refine step_callW (some 63) rfl (by kernel_rfl) 8 _ _ rfl #[.agg #[.int .i64 size, .slice av xs.length cv]] (by kernel_rfl) (netImpl _ size _ (xs.map Prod.fst) _ (HRD3.out W3.drew HD.out) (Nat.le_refl _) (by simp; omega)) ?_; rintro e y1 ⟨rfl, b9⟩; refine ⟨_, rfl, ?_⟩; rw [HNK.out]; have H1 := hide (HD.out.trans (b9.mono HD.out.size)); clear b9; obtain ⟨k0, k1⟩ := HC3.out _ H1.out)
         | (refine step_callW (some 65) rfl (by kernel_rfl) 9 _ _ rfl #[.agg #[.int .i64 size, .slice av xs.length cv]] (by kernel_rfl) (netSpec _ size _ (xs.map Prod.fst) _ (HRD3.out y1 H1.out) (Nat.le_refl _) (by simp; omega)) ?_; rintro e y2 ⟨rfl, b9⟩; refine ⟨_, rfl, ?_⟩; rw [HNK.out]; have H2 := hide (H1.out.trans (b9.mono H1.out.size)); clear b9)
         | fail)
     all_goals (go_wp2_with fail; go_meet; exact ⟨by simp, H2.out⟩)
    case rest =>
     obtain ⟨rfl, hW⟩ := hcut
     replace E3 := hide ((hW.block L3 (Array.getElem?_eq_some_iff.1 E3.out).1).trans E3.out)
     replace E4 := hide ((hW.block (L3 + 1) (Array.getElem?_eq_some_iff.1 E4.out).1).trans E4.out)
     replace E5 := hide ((hW.block L5 (Array.getElem?_eq_some_iff.1 E5.out).1).trans E5.out)
     replace HO := hide (HO.out.below hW)
     replace HU := hide (HU.out.below hW)
     replace HO5 := hide (HO5.out.below hW)
     replace HB := hide (HB.out.trans (hW.mono HB.out.size))
     clear hW HRD HRD3 HC3 n0 n1 HD HNK
     go_upto_if 68 with fail
     go_cut [67] from 9 to 102 (fun _ wr => Below wc.heap.size wc wr)
     case first =>
      cases ok with
      | false =>
        go_wp2_with fail
        go_meet
        exact Below.refl _ _
      | true =>
        obtain ⟨rfl, rfl, hnk⟩ := posted HR.out
        have HYL : Hid (ys.length = xs.length + 1) := hide (by
          have := congrArg List.length HYS.out
          simpa using this)
        have hyl : ys.length ≤ 62 := by have := HYL.out; omega
        have HG5 : Hid (Good (ys.map Prod.fst)) := hide (by
          rw [HYS.out]
          intro q hq
          rcases List.mem_append.1 hq with h | h
          · exact HGO.out q h
          · rw [List.mem_singleton] at h; subst h; exact ⟨by simp only; omega, HUB.out⟩)
        have HRY := hide (HO5.out.rd HG5.out (Nat.le_refl _))
        have HTK : Hid (takeN ms (ys.map Prod.fst) (xs.length : Int) = (((ms, xs.map Prod.fst), ⟨f, t, qs, false⟩), true)) := hide (by rw [HYS.out]; exact taken_last (by simp) hnk)
        have HNK := hide hnk
        clear hnk
        have n31 := (box_of E3.out).1 1 _ rfl
        have n50 := (box_of E5.out).1 0 _ rfl
        have n51 := (box_of E5.out).1 1 _ rfl
        go_wp2_with fail
        refine (takeImpl _ ms _ (ys.map Prod.fst) (xs.length : Int) HRY.out (by simp; omega)).mono ?_
        rintro e w5 ha
        rw [HTK.out] at ha
        obtain ⟨v9, u9, bb, hh, rfl, -, -, o9, ou9, -, b5⟩ := ha
        obtain ⟨y9, hy9, ox9⟩ := o9
        simp only at hy9
        obtain ⟨a9, c9, rfl⟩ := ox9.shape
        obtain ⟨au9, cu9, rfl⟩ := own_shape ou9
        have H9L : Hid (y9.length = xs.length) := hide (by
          have := congrArg List.length hy9
          simpa using this)
        clear hy9
        unfold netV pkV
        simp only
        rw [H9L.out]
        have sz := b5.size
        have bD := ((Below.refl w5.heap.size w5).alloc (Nat.le_refl _) (.cells #[.int .i64 ms, .slice a9 xs.length c9] 26)).alloc (by simp) (.cells #[.int .i64 f, .int .i64 t, .slice au9 qs.length cu9, .bool false] 28)
        have b6 := b5.trans (bD.mono sz)
        have m31 := (box_of ((b6.block L3 (Array.getElem?_eq_some_iff.1 E3.out).1).trans E3.out)).1 1 _ rfl
        have m42 := (box_of ((b6.block (L3 + 1) (Array.getElem?_eq_some_iff.1 E4.out).1).trans E4.out)).1 2 _ rfl
        have X5 := (box_of ((b6.block L5 (Array.getElem?_eq_some_iff.1 E5.out).1).trans E5.out)).1
        have m50 := X5 0 _ rfl
        have m51 := X5 1 _ rfl
        have m91 := (box_of ((Below.heap_alloc (w5.alloc (.cells #[.int .i64 ms, .slice a9 xs.length c9] 26)) (.cells #[.int .i64 f, .int .i64 t, .slice au9 qs.length cu9, .bool false] 28) w5.heap.size (by simp)).trans (heap_alloc_new w5 (.cells #[.int .i64 ms, .slice a9 xs.length c9] 26)))).1 1 _ rfl
        have E10 : ((w5.alloc (.cells #[.int .i64 ms, .slice a9 xs.length c9] 26)).alloc (.cells #[.int .i64 f, .int .i64 t, .slice au9 qs.length cu9, .bool false] 28)).heap[w5.heap.size + 1]? = some (.cells #[.int .i64 f, .int .i64 t, .slice au9 qs.length cu9, .bool false] 28 (0, 0)) := by have := heap_alloc_new (w5.alloc (.cells #[.int .i64 ms, .slice a9 xs.length c9] 26)) (.cells #[.int .i64 f, .int .i64 t, .slice au9 qs.length cu9, .bool false] 28); simp only [World.size_alloc] at this; exact this
        have m102 := (box_of E10).1 2 _ rfl
        have cv10 := own_str (ou9.below bD)
        have cv4 := own_str (HU.out.below b6)
        have H6 := hide b6
        clear X5 E10 bD b5 b6 sz ox9 ou9 n31 n50 n51
        go_wp2_with fail
        generalize (w5.alloc (.cells #[.int .i64 ms, .slice a9 xs.length c9] 26)).alloc (.cells #[.int .i64 f, .int .i64 t, .slice au9 qs.length cu9, .bool false] 28) = w6 at *
        refine (netImpl _ ms _ (ys.map Prod.fst) _ (HRY.out.at H6.out) (Nat.le_refl _) (by simp; omega)).mono ?_
        rintro e w7 ⟨rfl, b7⟩
        rw [HYS.out, HNK.out]
        have H7 := hide (H6.out.trans (b7.mono H6.out.size))
        clear b7
        go_wp2_with fail
        go_meet
        exact H7.out
     case rest =>
     replace HB := hide (HB.out.trans (hcut.mono HB.out.size))
     clear hcut HO HU HO5 E3 E4 E5 HR HYS HGO HUB hl hul
     go_wp2_with fail
     generalize wc = v0 at *
     refine (drawTake _ _ _ _ _ (HIN.out.at HB.out)).mono ?_
     rintro e x1 ⟨s12, vv, x12, i12, rfl, ho, hgo, hlB12, hiB12, b1⟩
     obtain ⟨aB12, cB12, rfl⟩ := ho.shape
     have OB12 := hide ho
     have GB12 := hide hgo
     clear ho hgo
     have sz := b1.size
     have bD := ((Below.refl x1.heap.size x1)).alloc (Nat.le_refl _) (.cells #[.int .i64 s12, .slice aB12 x12.length cB12] 26)
     replace OB12 := hide (OB12.out.below bD)
     replace HB := hide ((HB.out.trans (b1.mono HB.out.size)).trans (bD.mono (Nat.le_trans HB.out.size sz)))
     have E12 := hide (heap_alloc_new x1 (.cells #[.int .i64 s12, .slice aB12 x12.length cB12] 26))
     clear bD b1 sz
     have e12_0 := (box_of E12.out).1 0 _ rfl
     have e12_1 := (box_of E12.out).1 1 _ rfl
     go_wp2_with fail
     clear e12_0 e12_1
     generalize x1.alloc (.cells #[.int .i64 s12, .slice aB12 x12.length cB12] 26) = X1 at *
     generalize x1.heap.size = B12 at *
     have RD := hide (OB12.out.rd GB12.out (Nat.le_refl _))
     obtain ⟨ms1, mps1, p1, ok1, hr1, hcs1⟩ := taken (size := s12) (ps := x12.map Prod.fst) (i := i12)
     have HR1 := hide hr1
     have HCS1 := hide hcs1
     clear hr1 hcs1
     refine (takeImpl _ s12 _ (x12.map Prod.fst) i12 RD.out (by simp; omega)).mono ?_
     rintro e x2 ha
     rw [HR1.out] at ha
     obtain ⟨v2, u2, _, _, rfl, _, _, o2, ou2, _, b2⟩ := ha
     obtain ⟨y1, hy1, ox2⟩ := o2
     obtain ⟨a14, c14, rfl⟩ := ox2.shape
     obtain ⟨au, cu, rfl⟩ := own_shape ou2
     have HY1 := hide (show y1.length = mps1.length from by have := congrArg List.length hy1; simpa using this)
     unfold netV pkV
     simp only
     clear RD hy1 ox2 ou2
     have sz := b2.size
     have bD := (((Below.refl x2.heap.size x2)).alloc (Nat.le_refl _) (.cells #[.int .i64 ms1, .slice a14 y1.length c14] 26)).alloc (by simp) (.cells #[.int .i64 p1.f, .int .i64 p1.t, .slice au p1.b.length cu, .bool p1.s] 28)
     replace E12 := hide ((bD.block B12 (by have := (Array.getElem?_eq_some_iff.1 E12.out).1; omega)).trans ((b2.block B12 (Array.getElem?_eq_some_iff.1 E12.out).1).trans E12.out))
     replace OB12 := hide ((OB12.out.below b2).below bD)
     replace HB := hide ((HB.out.trans (b2.mono HB.out.size)).trans (bD.mono (Nat.le_trans HB.out.size sz)))
     have E14 := hide ((Below.heap_alloc (x2.alloc (.cells #[.int .i64 ms1, .slice a14 y1.length c14] 26)) (.cells #[.int .i64 p1.f, .int .i64 p1.t, .slice au p1.b.length cu, .bool p1.s] 28) x2.heap.size (by simp)).trans (heap_alloc_new x2 (.cells #[.int .i64 ms1, .slice a14 y1.length c14] 26)))
     clear bD b2 sz
     have e12_0 := (box_of E12.out).1 0 _ rfl
     have e12_1 := (box_of E12.out).1 1 _ rfl
     go_wp2_with fail
     clear e12_0 e12_1
     generalize (x2.alloc (.cells #[.int .i64 ms1, .slice a14 y1.length c14] 26)).alloc (.cells #[.int .i64 p1.f, .int .i64 p1.t, .slice au p1.b.length cu, .bool p1.s] 28) = X2 at *
     generalize x2.heap.size = B14 at *
     have RD := hide (OB12.out.rd GB12.out (Nat.le_refl _))
     refine (takeSpec _ s12 _ (x12.map Prod.fst) i12 RD.out (by simp; omega)).mono ?_
     rintro e x3 ha
     rw [HR1.out] at ha
     obtain ⟨v4, u4, rfl, rd4, bt4, b3⟩ := ha
     obtain ⟨a17, c17, rfl, -⟩ := pk_at rd4
     obtain ⟨a18, c18, rfl, -, -⟩ := bt4
     unfold netV pkV
     simp only
     clear RD rd4 HR1
     have sz := b3.size
     have bD := (((Below.refl x3.heap.size x3)).alloc (Nat.le_refl _) (.cells #[.int .i64 ms1, .slice a17 mps1.length c17] 26)).alloc (by simp) (.cells #[.int .i64 p1.f, .int .i64 p1.t, .slice a18 p1.b.length c18, .bool p1.s] 28)
     replace E12 := hide ((bD.block B12 (by have := (Array.getElem?_eq_some_iff.1 E12.out).1; omega)).trans ((b3.block B12 (Array.getElem?_eq_some_iff.1 E12.out).1).trans E12.out))
     replace E14 := hide ((bD.block B14 (by have := (Array.getElem?_eq_some_iff.1 E14.out).1; omega)).trans ((b3.block B14 (Array.getElem?_eq_some_iff.1 E14.out).1).trans E14.out))
     replace OB12 := hide ((OB12.out.below b3).below bD)
     replace HB := hide ((HB.out.trans (b3.mono HB.out.size)).trans (bD.mono (Nat.le_trans HB.out.size sz)))
     clear bD b3 sz
     go_wp2_with fail
     generalize (x3.alloc (.cells #[.int .i64 ms1, .slice a17 mps1.length c17] 26)).alloc (.cells #[.int .i64 p1.f, .int .i64 p1.t, .slice a18 p1.b.length c18, .bool p1.s] 28) = X3 at *
     generalize x3.heap.size = B17 at *
     refine (drawTwice _ _ _ _ _ (HIN.out.at HB.out)).mono ?_
     rintro e x4 ⟨s20, vv, x20, i20, rfl, ho, hgo, hlB20, hiB20, b4⟩
     obtain ⟨aB20, cB20, rfl⟩ := ho.shape
     have OB20 := hide ho
     have GB20 := hide hgo
     clear ho hgo
     have sz := b4.size
     have bD := ((Below.refl x4.heap.size x4)).alloc (Nat.le_refl _) (.cells #[.int .i64 s20, .slice aB20 x20.length cB20] 26)
     replace E12 := hide ((bD.block B12 (by have := (Array.getElem?_eq_some_iff.1 E12.out).1; omega)).trans ((b4.block B12 (Array.getElem?_eq_some_iff.1 E12.out).1).trans E12.out))
     replace E14 := hide ((bD.block B14 (by have := (Array.getElem?_eq_some_iff.1 E14.out).1; omega)).trans ((b4.block B14 (Array.getElem?_eq_some_iff.1 E14.out).1).trans E14.out))
     replace OB12 := hide ((OB12.out.below b4).below bD)
     replace OB20 := hide (OB20.out.below bD)
     replace HB := hide ((HB.out.trans (b4.mono HB.out.size)).trans (bD.mono (Nat.le_trans HB.out.size sz)))
     have E20 := hide (heap_alloc_new x4 (.cells #[.int .i64 s20, .slice aB20 x20.length cB20] 26))
     clear bD b4 sz
     have e20_0 := (box_of E20.out).1 0 _ rfl
     have e20_1 := (box_of E20.out).1 1 _ rfl
     go_wp2_with fail
     clear e20_0 e20_1
     generalize x4.alloc (.cells #[.int .i64 s20, .slice aB20 x20.length cB20] 26) = X4 at *
     generalize x4.heap.size = B20 at *
     have RD := hide (OB20.out.rd GB20.out (Nat.le_refl _))
     obtain ⟨ms2, mps2, ok2, hr2⟩ : ∃ ms mps ok, twiceN s20 (x20.map Prod.fst) i20 = ((ms, mps), ok) := ⟨_, _, _, rfl⟩
     have HR2 := hide hr2
     clear hr2
     refine (twiceImpl _ s20 _ (x20.map Prod.fst) i20 RD.out (by simp; omega)).mono ?_
     rintro e x5 ha
     rw [HR2.out] at ha
     obtain ⟨v5, rfl, o5, b5⟩ := ha
     obtain ⟨y2, hy2, ox5⟩ := o5
     obtain ⟨a22, c22, rfl⟩ := ox5.shape
     have HY2 := hide (show y2.length = mps2.length from by have := congrArg List.length hy2; simpa using this)
     unfold netV
     simp only
     clear RD hy2 ox5
     have sz := b5.size
     have bD := ((Below.refl x5.heap.size x5)).alloc (Nat.le_refl _) (.cells #[.int .i64 ms2, .slice a22 y2.length c22] 26)
     replace E12 := hide ((bD.block B12 (by have := (Array.getElem?_eq_some_iff.1 E12.out).1; omega)).trans ((b5.block B12 (Array.getElem?_eq_some_iff.1 E12.out).1).trans E12.out))
     replace E14 := hide ((bD.block B14 (by have := (Array.getElem?_eq_some_iff.1 E14.out).1; omega)).trans ((b5.block B14 (Array.getElem?_eq_some_iff.1 E14.out).1).trans E14.out))
     replace E20 := hide ((bD.block B20 (by have := (Array.getElem?_eq_some_iff.1 E20.out).1; omega)).trans ((b5.block B20 (Array.getElem?_eq_some_iff.1 E20.out).1).trans E20.out))
     replace OB12 := hide ((OB12.out.below b5).below bD)
     replace OB20 := hide ((OB20.out.below b5).below bD)
     replace HB := hide ((HB.out.trans (b5.mono HB.out.size)).trans (bD.mono (Nat.le_trans HB.out.size sz)))
     have E22 := hide (heap_alloc_new x5 (.cells #[.int .i64 ms2, .slice a22 y2.length c22] 26))
     clear bD b5 sz
     have e20_0 := (box_of E20.out).1 0 _ rfl
     have e20_1 := (box_of E20.out).1 1 _ rfl
     go_wp2_with fail
     clear e20_0 e20_1
     generalize x5.alloc (.cells #[.int .i64 ms2, .slice a22 y2.length c22] 26) = X5 at *
     generalize x5.heap.size = B22 at *
     have RD := hide (OB20.out.rd GB20.out (Nat.le_refl _))
     refine (twiceSpec _ s20 _ (x20.map Prod.fst) i20 RD.out (by simp; omega)).mono ?_
     rintro e x6 ha
     rw [HR2.out] at ha
     obtain ⟨v6, rfl, o6, b6⟩ := ha
     obtain ⟨y6, _, ox6⟩ := o6
     obtain ⟨a24, c24, rfl⟩ := ox6.shape
     unfold netV
     simp only
     clear RD ox6
     have sz := b6.size
     have bD := ((Below.refl x6.heap.size x6)).alloc (Nat.le_refl _) (.cells #[.int .i64 ms2, .slice a24 y6.length c24] 26)
     replace E12 := hide ((bD.block B12 (by have := (Array.getElem?_eq_some_iff.1 E12.out).1; omega)).trans ((b6.block B12 (Array.getElem?_eq_some_iff.1 E12.out).1).trans E12.out))
     replace E14 := hide ((bD.block B14 (by have := (Array.getElem?_eq_some_iff.1 E14.out).1; omega)).trans ((b6.block B14 (Array.getElem?_eq_some_iff.1 E14.out).1).trans E14.out))
     replace E20 := hide ((bD.block B20 (by have := (Array.getElem?_eq_some_iff.1 E20.out).1; omega)).trans ((b6.block B20 (Array.getElem?_eq_some_iff.1 E20.out).1).trans E20.out))
     replace E22 := hide ((bD.block B22 (by have := (Array.getElem?_eq_some_iff.1 E22.out).1; omega)).trans ((b6.block B22 (Array.getElem?_eq_some_iff.1 E22.out).1).trans E22.out))
     replace OB12 := hide ((OB12.out.below b6).below bD)
     replace OB20 := hide ((OB20.out.below b6).below bD)
     replace HB := hide ((HB.out.trans (b6.mono HB.out.size)).trans (bD.mono (Nat.le_trans HB.out.size sz)))
     clear bD b6 sz
     go_wp2_with fail
     generalize x6.alloc (.cells #[.int .i64 ms2, .slice a24 y6.length c24] 26) = X6 at *
     generalize x6.heap.size = B24 at *
     refine (drawSpoil _ _ _ _ _ (HIN.out.at HB.out)).mono ?_
     rintro e x7 ⟨s26, vv, x26, i26, bit, rfl, ho, hgo, hlB26, hiB26, hbit, b7⟩
     obtain ⟨aB26, cB26, rfl⟩ := ho.shape
     have OB26 := hide ho
     have GB26 := hide hgo
     clear ho hgo
     have sz := b7.size
     have bD := ((Below.refl x7.heap.size x7)).alloc (Nat.le_refl _) (.cells #[.int .i64 s26, .slice aB26 x26.length cB26] 26)
     replace E12 := hide ((bD.block B12 (by have := (Array.getElem?_eq_some_iff.1 E12.out).1; omega)).trans ((b7.block B12 (Array.getElem?_eq_some_iff.1 E12.out).1).trans E12.out))
     replace E14 := hide ((bD.block B14 (by have := (Array.getElem?_eq_some_iff.1 E14.out).1; omega)).trans ((b7.block B14 (Array.getElem?_eq_some_iff.1 E14.out).1).trans E14.out))
     replace E20 := hide ((bD.block B20 (by have := (Array.getElem?_eq_some_iff.1 E20.out).1; omega)).trans ((b7.block B20 (Array.getElem?_eq_some_iff.1 E20.out).1).trans E20.out))
     replace E22 := hide ((bD.block B22 (by have := (Array.getElem?_eq_some_iff.1 E22.out).1; omega)).trans ((b7.block B22 (Array.getElem?_eq_some_iff.1 E22.out).1).trans E22.out))
     replace OB12 := hide ((OB12.out.below b7).below bD)
     replace OB20 := hide ((OB20.out.below b7).below bD)
     replace OB26 := hide (OB26.out.below bD)
     replace HB := hide ((HB.out.trans (b7.mono HB.out.size)).trans (bD.mono (Nat.le_trans HB.out.size sz)))
     have E26 := hide (heap_alloc_new x7 (.cells #[.int .i64 s26, .slice aB26 x26.length cB26] 26))
     clear bD b7 sz
     have e26_0 := (box_of E26.out).1 0 _ rfl
     have e26_1 := (box_of E26.out).1 1 _ rfl
     go_wp2_with fail
     clear e26_0 e26_1
     generalize x7.alloc (.cells #[.int .i64 s26, .slice aB26 x26.length cB26] 26) = X7 at *
     generalize x7.heap.size = B26 at *
     have RD := hide (OB26.out.rd GB26.out (Nat.le_refl _))
     obtain ⟨ms3, mps3, ok3, hr3⟩ : ∃ ms mps ok, spoilN s26 (x26.map Prod.fst) i26 bit = ((ms, mps), ok) := ⟨_, _, _, rfl⟩
     have HR3 := hide hr3
     clear hr3
     refine (spoilImpl _ s26 _ (x26.map Prod.fst) i26 bit RD.out (by omega) (by simp; omega)).mono ?_
     rintro e x8 ha
     rw [HR3.out] at ha
     obtain ⟨v8, rfl, o8, b8⟩ := ha
     obtain ⟨y3, hy3, ox8⟩ := o8
     obtain ⟨a28, c28, rfl⟩ := ox8.shape
     simp only at hy3
     have HY3 := hide hy3
     have O28 := hide ox8
     unfold netV
     simp only
     clear RD hy3 ox8
     have sz := b8.size
     have bD := ((Below.refl x8.heap.size x8)).alloc (Nat.le_refl _) (.cells #[.int .i64 ms3, .slice a28 y3.length c28] 26)
     replace E12 := hide ((bD.block B12 (by have := (Array.getElem?_eq_some_iff.1 E12.out).1; omega)).trans ((b8.block B12 (Array.getElem?_eq_some_iff.1 E12.out).1).trans E12.out))
     replace E14 := hide ((bD.block B14 (by have := (Array.getElem?_eq_some_iff.1 E14.out).1; omega)).trans ((b8.block B14 (Array.getElem?_eq_some_iff.1 E14.out).1).trans E14.out))
     replace E20 := hide ((bD.block B20 (by have := (Array.getElem?_eq_some_iff.1 E20.out).1; omega)).trans ((b8.block B20 (Array.getElem?_eq_some_iff.1 E20.out).1).trans E20.out))
     replace E22 := hide ((bD.block B22 (by have := (Array.getElem?_eq_some_iff.1 E22.out).1; omega)).trans ((b8.block B22 (Array.getElem?_eq_some_iff.1 E22.out).1).trans E22.out))
     replace E26 := hide ((bD.block B26 (by have := (Array.getElem?_eq_some_iff.1 E26.out).1; omega)).trans ((b8.block B26 (Array.getElem?_eq_some_iff.1 E26.out).1).trans E26.out))
     replace OB12 := hide ((OB12.out.below b8).below bD)
     replace OB20 := hide ((OB20.out.below b8).below bD)
     replace OB26 := hide ((OB26.out.below b8).below bD)
     replace O28 := hide (O28.out.below bD)
     replace HB := hide ((HB.out.trans (b8.mono HB.out.size)).trans (bD.mono (Nat.le_trans HB.out.size sz)))
     have E28 := hide (heap_alloc_new x8 (.cells #[.int .i64 ms3, .slice a28 y3.length c28] 26))
     clear bD b8 sz
     have e26_0 := (box_of E26.out).1 0 _ rfl
     have e26_1 := (box_of E26.out).1 1 _ rfl
     go_wp2_with fail
     clear e26_0 e26_1
     generalize x8.alloc (.cells #[.int .i64 ms3, .slice a28 y3.length c28] 26) = X8 at *
     generalize x8.heap.size = B28 at *
     have RD := hide (OB26.out.rd GB26.out (Nat.le_refl _))
     refine (spoilSpec _ s26 _ (x26.map Prod.fst) i26 bit RD.out (by omega) (by simp; omega)).mono ?_
     rintro e x9 ha
     rw [HR3.out] at ha
     obtain ⟨v9, rfl, o9, b9⟩ := ha
     obtain ⟨y9, _, ox9⟩ := o9
     obtain ⟨a30, c30, rfl⟩ := ox9.shape
     unfold netV
     simp only
     clear RD ox9
     have sz := b9.size
     have bD := ((Below.refl x9.heap.size x9)).alloc (Nat.le_refl _) (.cells #[.int .i64 ms3, .slice a30 y9.length c30] 26)
     replace E12 := hide ((bD.block B12 (by have := (Array.getElem?_eq_some_iff.1 E12.out).1; omega)).trans ((b9.block B12 (Array.getElem?_eq_some_iff.1 E12.out).1).trans E12.out))
     replace E14 := hide ((bD.block B14 (by have := (Array.getElem?_eq_some_iff.1 E14.out).1; omega)).trans ((b9.block B14 (Array.getElem?_eq_some_iff.1 E14.out).1).trans E14.out))
     replace E20 := hide ((bD.block B20 (by have := (Array.getElem?_eq_some_iff.1 E20.out).1; omega)).trans ((b9.block B20 (Array.getElem?_eq_some_iff.1 E20.out).1).trans E20.out))
     replace E22 := hide ((bD.block B22 (by have := (Array.getElem?_eq_some_iff.1 E22.out).1; omega)).trans ((b9.block B22 (Array.getElem?_eq_some_iff.1 E22.out).1).trans E22.out))
     replace E26 := hide ((bD.block B26 (by have := (Array.getElem?_eq_some_iff.1 E26.out).1; omega)).trans ((b9.block B26 (Array.getElem?_eq_some_iff.1 E26.out).1).trans E26.out))
     replace E28 := hide ((bD.block B28 (by have := (Array.getElem?_eq_some_iff.1 E28.out).1; omega)).trans ((b9.block B28 (Array.getElem?_eq_some_iff.1 E28.out).1).trans E28.out))
     replace OB12 := hide ((OB12.out.below b9).below bD)
     replace OB20 := hide ((OB20.out.below b9).below bD)
     replace OB26 := hide ((OB26.out.below b9).below bD)
     replace O28 := hide ((O28.out.below b9).below bD)
     replace HB := hide ((HB.out.trans (b9.mono HB.out.size)).trans (bD.mono (Nat.le_trans HB.out.size sz)))
     clear bD b9 sz
     have F1 : Hid (ok1 = true → IntKind.i64.wrap ((x12.length : Int) - 1) = (y1.length : Int)) := hide (fun h => by
       have h1 := HCS1.out h
       have h2 := HY1.out
       rw [List.length_map] at h1
       rw [IntKind.wrap_i64]
       omega)
     have F2 : Hid (ok2 = true → IntKind.i64.wrap ((x20.length : Int) + 1) = (y2.length : Int)) := hide (fun h => by
       subst h
       have h1 := twiced HR2.out
       have h2 := HY2.out
       rw [List.length_map] at h1
       rw [IntKind.wrap_i64]
       omega)
     clear HCS1 HY1 HR2 HY2 hlB12 hiB12 hlB20 hiB20 OB12 GB12 OB20 GB20
     go_upto_region 21 with fail
     generalize x9.alloc (.cells #[.int .i64 ms3, .slice a30 y9.length c30] 26) = X9 at *
     generalize x9.heap.size = B30 at *
     have e12_0 := (box_of E12.out).1 0 _ rfl
     have e12_1 := (box_of E12.out).1 1 _ rfl
     have e14_0 := (box_of E14.out).1 0 _ rfl
     have e14_1 := (box_of E14.out).1 1 _ rfl
     have e20_0 := (box_of E20.out).1 0 _ rfl
     have e20_1 := (box_of E20.out).1 1 _ rfl
     have e22_0 := (box_of E22.out).1 0 _ rfl
     have e22_1 := (box_of E22.out).1 1 _ rfl
     have n1 : ((y1.length : Int) != (y1.length : Int)) = false := by simp
     have n2 : ((y2.length : Int) != (y2.length : Int)) = false := by simp
     go_cut [197] from 159 to 197 (fun s wr => s = .bool false ∧ wr = X9)
     case first =>
      cases ok1
      · cases ok2
        · cases ok3 <;> (go_wp2_with fail; go_meet; exact ⟨rfl, rfl⟩)
        · have f2 := F2.out rfl
          cases ok3 <;> (go_wp2_with fail; go_meet; exact ⟨rfl, rfl⟩)
      · have f1 := F1.out rfl
        cases ok2
        · cases ok3 <;> (go_wp2_with fail; go_meet; exact ⟨rfl, rfl⟩)
        · have f2 := F2.out rfl
          cases ok3 <;> (go_wp2_with fail; go_meet; exact ⟨rfl, rfl⟩)
     case rest =>
      obtain ⟨rfl, hwc⟩ := hcut
      subst hwc
      clear e12_0 e12_1 e14_0 e14_1 e20_0 e20_1 e22_0 e22_1 n1 n2 F1 F2 E12 E14 E20 E22
      cases ok3 with
      | false =>
        go_wp2_with fail
        go_ret
        exact ⟨rfl, HB.out⟩
      | true =>
        obtain ⟨j, n, rfl, rfl, hj, hn, rfl, hno⟩ := spoiled HR3.out
        have HNO := hide hno
        rw [List.length_map] at hj
        have HN := hide hn
        clear hno hn HR3
        have hyl : y3.length = x26.length := by
          have := congrArg List.length HY3.out
          simpa using this
        have HYL := hide hyl
        clear hyl
        have G3 : Hid (Good (y3.map Prod.fst)) := hide (by
          rw [HY3.out]
          intro q hq
          rcases List.mem_or_eq_of_mem_set hq with h | rfl
          · exact GB26.out q h
          · have hx : (x26.map Prod.fst).getD j default ∈ x26.map Prod.fst := by
              have : (x26.map Prod.fst).getD j default = (x26.map Prod.fst)[j]'(by simp; exact hj) := by simp [hj]
              rw [this]; exact List.getElem_mem _
            have := GB26.out _ hx
            exact ⟨by simp only [spoilt]; rw [turned_len]; exact this.1, turned_byt _ _ this.2⟩)
        have PJ : Hid (((y3.map Prod.fst).getD j default).b = turned ((x26.map Prod.fst).getD j default).b (n : Int)) := hide (by rw [HY3.out]; simp [List.getD, hj, spoilt])
        have BJ : Hid (Byt ((x26.map Prod.fst).getD j default).b) := hide ((by
            have hx : (x26.map Prod.fst).getD j default ∈ x26.map Prod.fst := by
              have : (x26.map Prod.fst).getD j default = (x26.map Prod.fst)[j]'(by simp; exact hj) := by simp [hj]
              rw [this]; exact List.getElem_mem _
            exact (GB26.out _ hx).2))
        have RD := hide (O28.out.rd G3.out (Nat.le_refl _))
        have e28_0 := (box_of E28.out).1 0 _ rfl
        have e28_1 := (box_of E28.out).1 1 _ rfl
        go_wp2_with fail
        clear e28_0 e28_1
        refine (spoilImpl _ ms3 _ (y3.map Prod.fst) (j : Int) (n : Int) RD.out (by omega) (by simp; have := HYL.out; omega)).mono ?_
        rintro e x10 ha
        rw [HY3.out, HNO.out] at ha
        generalize asN ms3 ((x26.map Prod.fst).set j (spoilt ((x26.map Prod.fst).getD j default) (n : Int))) = r at ha
        obtain ⟨rs, rl⟩ := r
        obtain ⟨v10, rfl, o10, b10⟩ := ha
        obtain ⟨a33, c33, rfl⟩ := o10.shape
        unfold netV
        simp only
        clear RD o10 HNO HY3
        have sz := b10.size
        have bD := ((Below.refl x10.heap.size x10)).alloc (Nat.le_refl _) (.cells #[.int .i64 rs, .slice a33 rl.length c33] 26)
        replace E26 := hide ((bD.block B26 (by have := (Array.getElem?_eq_some_iff.1 E26.out).1; omega)).trans ((b10.block B26 (Array.getElem?_eq_some_iff.1 E26.out).1).trans E26.out))
        replace E28 := hide ((bD.block B28 (by have := (Array.getElem?_eq_some_iff.1 E28.out).1; omega)).trans ((b10.block B28 (Array.getElem?_eq_some_iff.1 E28.out).1).trans E28.out))
        replace OB26 := hide ((OB26.out.below b10).below bD)
        replace O28 := hide ((O28.out.below b10).below bD)
        replace HB := hide ((HB.out.trans (b10.mono HB.out.size)).trans (bD.mono (Nat.le_trans HB.out.size sz)))
        clear bD b10 sz
        obtain ⟨g8, o8, cc8, au8, cu8, ev8, d8, i8, l8⟩ := pk_own O28.out G3.out (show j < y3.length by have := HYL.out; omega)
        obtain ⟨rfl, rfl⟩ : a28 = some ⟨g8, o8, none⟩ ∧ c28 = cc8 := by simpa using ev8
        rw [PJ.out] at d8 i8 l8
        rw [turned_len] at d8 i8 l8
        obtain ⟨g6, o6, cc6, au6, cu6, ev6, d6, i6, l6⟩ := pk_own OB26.out GB26.out hj
        obtain ⟨rfl, rfl⟩ : aB26 = some ⟨g6, o6, none⟩ ∧ cB26 = cc6 := by simpa using ev6
        have hjy : j < y3.length := by have := HYL.out; omega
        have OT := hide (open_turn BJ.out HN.out)
        clear ev8 ev6 PJ BJ HN G3 GB26 O28 OB26 HYL
        generalize ((x26.map Prod.fst).getD j default).b = bj at *
        have hg8 := World.block_lt_of_cell? _ _ d8
        have hg6 := World.block_lt_of_cell? _ _ d6
        have e28_1 := (box_of E28.out).1 1 _ rfl
        go_wp2_with fail
        generalize x10.alloc (.cells #[.int .i64 rs, .slice a33 rl.length c33] 26) = X10 at *
        generalize x10.heap.size = B33 at *
        refine (openImpl _ _ _ cu8 _ i8 l8).mono ?_
        rintro e x11 ⟨ho, b11⟩
        obtain ⟨a35, l35, c35, rfl⟩ := openA_shape ho
        replace d8 := (b11.cell (p := ⟨g8, o8 + j * 4 + 2, none⟩) hg8).trans d8
        replace d6 := (b11.cell (p := ⟨g6, o6 + j * 4 + 2, none⟩) hg6).trans d6
        replace i6 := i6.at b11
        replace E26 := hide ((b11.block B26 (Array.getElem?_eq_some_iff.1 E26.out).1).trans E26.out)
        replace E28 := hide ((b11.block B28 (Array.getElem?_eq_some_iff.1 E28.out).1).trans E28.out)
        replace HB := hide (HB.out.trans (b11.mono HB.out.size))
        replace hg8 := Nat.lt_of_lt_of_le hg8 b11.size
        replace hg6 := Nat.lt_of_lt_of_le hg6 b11.size
        clear ho b11 i8 e28_1
        have e26_1 := (box_of E26.out).1 1 _ rfl
        go_wp2_with fail
        refine (openImpl _ _ _ cu6 _ i6 l6).mono ?_
        rintro e x12 ⟨ho, b12⟩
        obtain ⟨a37, l37, c37, rfl⟩ := openA_shape ho
        replace d8 := (b12.cell (p := ⟨g8, o8 + j * 4 + 2, none⟩) hg8).trans d8
        replace d6 := (b12.cell (p := ⟨g6, o6 + j * 4 + 2, none⟩) hg6).trans d6
        replace E26 := hide ((b12.block B26 (Array.getElem?_eq_some_iff.1 E26.out).1).trans E26.out)
        replace E28 := hide ((b12.block B28 (Array.getElem?_eq_some_iff.1 E28.out).1).trans E28.out)
        replace HB := hide (HB.out.trans (b12.mono HB.out.size))
        clear ho b12 i6 e26_1 hg8 hg6 l6 l8
        generalize (opened (turned bj (n : Int))).isSome = p at *
        generalize (opened bj).isSome = q at *
        go_upto_region 28 with fail
        have e28_1 := (box_of E28.out).1 1 _ rfl
        have e26_1 := (box_of E26.out).1 1 _ rfl
        have ed28 : x12.drew.cell? ⟨B28, 1, none⟩ = _ := e28_1
        have ed26 : x12.drew.cell? ⟨B26, 1, none⟩ = _ := e26_1
        have dd8 : x12.drew.cell? ⟨g8, o8 + j * 4 + 2, none⟩ = _ := d8
        have dd6 : x12.drew.cell? ⟨g6, o6 + j * 4 + 2, none⟩ = _ := d6
        cases q
        · cases p <;> (go_region; go_wp2_with fail; go_ret; first | exact ⟨rfl, HB.out⟩ | exact ⟨rfl, HB.out.drew⟩)
        · cases p
          · go_region
            go_wp2_with fail
            go_ret
            first | exact ⟨rfl, HB.out⟩ | exact ⟨rfl, HB.out.drew⟩
          · exact absurd OT.out (by decide)

set_option maxRecDepth 100000 in
theorem lifted (os : Os) (started : os.Started) (H : Type) (enc : TypeId × Value → H) :
    ReturnsInHanded {} Try.checked os 3 .any (Rows.fnNetSpec.pre6 enc Try.prog Try.f3 Rows.fnNetRow.domain false) (Rows.fnNetSpec.post enc Try.prog Try.f3 false true false false) := by
  refine returnsInHanded_of_change (C := Try.checked) own started (by kernel_rfl) Try.func3
    (ChangeSpec.witness6 (enc := enc) (C := Try.checked) false ⟨#[], #[.slice none 0 0], []⟩ 8 (by kernel_rfl) (by kernel_rfl) (by kernel_rfl) (by kernel_rfl)) ?_
  intro W base args ds gs before hval0 hW hcnd _
  have hval : ∀ (j : Nat) t v, Try.f3.params[j]? = some t → args[j]? = some v → Value.okWide Try.prog W .any base t v := hval0
  have hW' := hW
  obtain ⟨p, q, hA0, hV, rfl, hfz, hnd⟩ := hW
  have hA : DataW.TrodAll enc Try.prog W 0 (fun _ => true) true Try.f3.params.toList args.toList ds p := hA0
  rw [Try.params3] at hA hval
  obtain ⟨v0, vs0, d0, ds0, p0, q0, hargs, rfl, rfl, h0, r0⟩ := trodAll_cons hA
  obtain ⟨rfl, rfl, rfl⟩ := trodAll_nil r0
  obtain rfl : args = #[v0] := by cases args; simp_all
  obtain ⟨rfl, rfl⟩ := trodVars_none hV
  obtain ⟨a0, len0, cap0, rfl⟩ := okWide_slice Try.underlying22 (hval 0 22 v0 rfl rfl)
  have k0 := h0
  have lt0 : ∀ x ∈ p0, x.block < W.heap.size := by obtain ⟨m, hm⟩ := k0; exact DataW.trod_lt m _ _ _ hm
  obtain ⟨z0, w0⟩ : ∃ zs, IsRow .u8 W a0 len0 cap0 zs := by
    obtain ⟨fuel, hf⟩ := h0
    rcases open_ints Try.underlying22 Try.underlying5 (by kernel_rfl) hf with ⟨hcs, _⟩ | ⟨x, l, c, zs, hcs, _, hl, hm, hz, _, hcell, hwz⟩
    · simp [Value.cells] at hcs
      obtain ⟨rfl, rfl, rfl⟩ := hcs
      exact ⟨[], .inl ⟨rfl, rfl, rfl, rfl⟩⟩
    · simp [Value.cells] at hcs
      obtain ⟨rfl, rfl, rfl⟩ := hcs
      exact ⟨zs, .inr ⟨_, rfl, hl, hm, by simpa using hz, hcell, hwz⟩⟩
  clear hA0 hval0
  refine (walk a0 len0 cap0 z0 W w0).mono fun e W' ⟨he, bel⟩ => ?_
  subst he
  exact ⟨_, rfl, _, _, _, [], _, [], hW', trodAll_mk1 (shut_bool Try.underlying4 _), (trodAll_cons_mk (Below.trod laidOut (by kernel_rfl) (of_decide_eq_true (by kernel_rfl)) k0 bel lt0) trodAll_mk0), rfl, bel.frame _, fun h => by cases h⟩

theorem over : Rows.fnNetRow.holds Try.pinned (OpenSpec.ofChange Rows.fnNetSpec) :=
  OpenClaim.holds_of_wide 3 Try.f3 rfl rfl rfl rfl rfl rfl rfl ⟨rfl, rfl, rfl, rfl, rfl⟩ rfl rfl rfl rfl rfl (by kernel_rfl) Try.func3 (by kernel_rfl)
    (of_decide_eq_true (by kernel_rfl)) (by unfold Func.isWrapper; first | (rw [if_pos (by decide +kernel)]; kernel_rfl) | (rw [if_neg (by decide +kernel)]; exact ⟨rfl, rfl⟩))
    (fun os started H enc _ => lifted os started H enc)

end Go.Proofs.Ytmlbemcblgnbjaa.fnNet
namespace Go.Proofs.Ytmlbemcblgnbjaa
theorem fnNet_holds : Rows.FnNetSaid := fnNet.over
#print axioms fnNet_holds
end Go.Proofs.Ytmlbemcblgnbjaa
