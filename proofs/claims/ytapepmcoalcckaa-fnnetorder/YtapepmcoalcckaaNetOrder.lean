/-
  Proved: whatever net is drawn, what is taken out of it is as its model takes it, and what is left stands in its order (the law FnNetOrder returns true), without any condition.
-/
import Derived.Test.YtapepmcoalcckaaRows
import Derived.Test.YtapepmcoalcckaaRowIn
import Derived.Test.YtapepmcoalcckaaAtW
import Derived.Test.YtapepmcoalcckaaDrawNetB
import Derived.Test.YtapepmcoalcckaaNetTakS
import Derived.Test.YtapepmcoalcckaaStrW
import Derived.Test.YtapepmcoalcckaaNetW
import Derived.WalkKit
import Derived.ProofKit
import Derived.OpenShut
import Derived.ShutString
import Derived.ChangeOld
import Derived.Below
namespace Go.Proofs.Ytapepmcoalcckaa.fnNetOrder
open Go.ChangeShapes Go.WideShapes Go.ChangeAt Go.RowKit
open Go.ChangeMaps (open_string shut_string)
set_option linter.unusedVariables false

theorem own : ownKnob Try.prog.godebug = none := by kernel_rfl
theorem laidOut : laidOutB Try.prog = true := by kernel_rfl
theorem bt_str {w : World} {B : Nat} {u : Value} {zs : List Int} (h : Bt w B u zs) : (convert 22 9 u).run Try.prog w = .ok (.string (strOfNums zs)) w := by
  obtain ⟨a, c, rfl, hc, hin⟩ := h
  by_cases hz : 0 < zs.length
  · obtain ⟨b, o, rfl, _⟩ := hin.2.2.2 hz
    exact in_str _ hin
  · cases a with
    | none => exact any_str hin hc (fun x hx => by cases hx)
    | some x =>
      have : zs = [] := List.eq_nil_of_length_eq_zero (by omega)
      subst this
      have hl : (loadCells x 0).run Try.prog w = .ok (([] : List Int).map (Value.int .u8)).toArray w := by simp [loadCells, loadCellsFrom]
      show (convert 22 9 (.slice (some x) 0 c)).run Try.prog w = _
      rw [run_convert_bytes_string w 22 9 5 _ _ c Try.underlying22 Try.underlying5 Try.underlying9, run_bytesToString w _ _ c [] hl, foldl_push_bytes]
      rfl
theorem hasN_at {size : Int} {ps : List Pk} {i : Int} (h : hasN size ps i = true) : netOk size ps = true ∧ 0 ≤ i ∧ i < ps.length := by
  unfold hasN at h
  rw [Bool.and_eq_true] at h
  refine ⟨h.1, ?_⟩
  have := h.2
  simp [inB] at this
  omega
theorem left_lo {ps : List Pk} {j k : Nat} (h : k < j) (hj : j ≤ ps.length) : (ps.take j ++ ps.drop (j + 1)).getD k default = ps.getD k default := by
  simp only [List.getD_eq_getElem?_getD]
  rw [List.getElem?_append_left (by simp; omega), List.getElem?_take_of_lt h]
theorem left_hi {ps : List Pk} {j k : Nat} (h : j ≤ k) (hj : j ≤ ps.length) : (ps.take j ++ ps.drop (j + 1)).getD k default = ps.getD (k + 1) default := by
  simp only [List.getD_eq_getElem?_getD]
  rw [List.getElem?_append_right (by simp; omega), List.getElem?_drop, List.length_take, Nat.min_eq_left hj, show j + 1 + (k - j) = k + 1 from by omega]
theorem taken {size : Int} {ps : List Pk} {i : Int} : ∃ ms mps p ok, takeN size ps i = (((ms, mps), p), ok) ∧
    ((ok = false ∧ (mps.length = 0 ∨ mps.length = ps.length)) ∨ (ok = true ∧ netOk size ps = true ∧ (0 ≤ i ∧ i < ps.length) ∧ ms = size ∧ mps = ps.take i.toNat ++ ps.drop (i.toNat + 1) ∧ p = ps.getD i.toNat default)) := by
  cases h : hasN size ps i with
  | false =>
    rw [takeN_no h]
    refine ⟨_, _, _, _, rfl, .inl ⟨rfl, ?_⟩⟩
    cases h2 : netOk size ps with
    | false => exact .inl rfl
    | true => exact .inr rfl
  | true =>
    rw [takeN_yes h]
    exact ⟨_, _, _, _, rfl, .inr ⟨rfl, (hasN_at h).1, (hasN_at h).2, rfl, rfl, rfl⟩⟩
set_option maxRecDepth 100000 in
set_option maxHeartbeats 8000000 in
theorem walk (a0 : Option Addr) (len0 cap0 : Nat) (z0 : List Int) (w : World) (w0 : IsRow .u8 w a0 len0 cap0 z0) :
    Calls Try.prog 4 #[.slice a0 len0 cap0] w fun e w' => e = .returned (.bool true) ∧ Below w.heap.size w w' := by
  by_cases hbig : (1048576 : Int) < (len0 : Int)
  · clear w0
    go_enter Try.func4, Try.ntmps4
    go_wp2_with fail
    refine (bigYes _ _ _ _ hbig).mono ?_
    rintro e wb ⟨rfl, rfl⟩
    go_wp2
    go_ret
    exact ⟨rfl, Below.refl _ _⟩
  · have hin := in_of w0 (by omega)
    clear w0
    generalize z0.take len0 = zs at hin
    have HIN := hide hin
    clear hin
    go_enter Try.func4, Try.ntmps4
    go_wp2_with fail
    refine (bigNo _ _ _ _ (by omega)).mono ?_
    rintro e wb ⟨rfl, hw⟩
    subst wb
    go_wp2_with fail
    refine (drawTake _ _ _ _ _ HIN.out).mono ?_
    rintro e w1 ⟨size, v, xs, i, rfl, ho, hgo, hl, hi, b1⟩
    obtain ⟨av, cv, rfl⟩ := ho.shape
    have bD := (Below.refl w1.heap.size w1).alloc (Nat.le_refl _) (.cells #[.int .i64 size, .slice av xs.length cv] 26)
    have HO := hide (ho.below bD)
    have E3 := hide (heap_alloc_new w1 (.cells #[.int .i64 size, .slice av xs.length cv] 26))
    have HGO := hide hgo
    have HB := hide (b1.trans (bD.mono b1.size))
    clear hbig ho hgo b1 bD HIN
    have f30 := (box_of E3.out).1 0 _ rfl
    have f31 := (box_of E3.out).1 1 _ rfl
    go_wp2_with fail
    generalize w1.alloc (.cells #[.int .i64 size, .slice av xs.length cv] 26) = W1 at *
    generalize w1.heap.size = L3 at *
    have hL3 := (Array.getElem?_eq_some_iff.1 E3.out).1
    have HRD := hide (HO.out.rd HGO.out (Nat.le_refl _))
    obtain ⟨ms, mps, p, ok, hr, hcase⟩ := taken (size := size) (ps := xs.map Prod.fst) (i := i)
    refine (takeImpl _ size _ (xs.map Prod.fst) i HRD.out (by simp; omega)).mono ?_
    rintro e w2 ha
    rw [hr] at ha
    obtain ⟨v2, u2, b5, hi5, rfl, hb5, hh5, o2, ou2, -, b2⟩ := ha
    obtain ⟨ys, hys, ox2⟩ := o2
    simp only at hys
    obtain ⟨a2, c2, rfl⟩ := ox2.shape
    obtain ⟨au, cu, rfl⟩ := own_shape ou2
    unfold netV pkV
    simp only
    clear f30 f31
    have HCS := hide hcase
    have HYS := hide hys
    have HR := hide hr
    clear hcase hys hr
    have s2 := b2.size
    have bD := ((Below.refl w2.heap.size w2).alloc (Nat.le_refl _) (.cells #[.int .i64 ms, .slice a2 ys.length c2] 26)).alloc (by simp) (.cells #[.int .i64 p.f, .int .i64 p.t, .slice au p.b.length cu, .bool p.s] 28)
    replace E3 := hide ((bD.block L3 (by omega)).trans ((b2.block L3 hL3).trans E3.out))
    have E5 := hide ((Below.heap_alloc (w2.alloc (.cells #[.int .i64 ms, .slice a2 ys.length c2] 26)) (.cells #[.int .i64 p.f, .int .i64 p.t, .slice au p.b.length cu, .bool p.s] 28) w2.heap.size (by simp)).trans (heap_alloc_new w2 (.cells #[.int .i64 ms, .slice a2 ys.length c2] 26)))
    have E6 : Hid (((w2.alloc (.cells #[.int .i64 ms, .slice a2 ys.length c2] 26)).alloc (.cells #[.int .i64 p.f, .int .i64 p.t, .slice au p.b.length cu, .bool p.s] 28)).heap[w2.heap.size + 1]? = some (.cells #[.int .i64 p.f, .int .i64 p.t, .slice au p.b.length cu, .bool p.s] 28 (0, 0))) := hide (by have := heap_alloc_new (w2.alloc (.cells #[.int .i64 ms, .slice a2 ys.length c2] 26)) (.cells #[.int .i64 p.f, .int .i64 p.t, .slice au p.b.length cu, .bool p.s] 28); simp only [World.size_alloc] at this; exact this)
    replace HO := hide ((HO.out.below b2).below bD)
    have HX2 := hide (ox2.below bD)
    have HU2 := hide (ou2.below bD)
    have HRD2 := hide (HRD.out.at (b2.trans (bD.mono s2)))
    replace HB := hide ((HB.out.trans (b2.mono HB.out.size)).trans (bD.mono (Nat.le_trans HB.out.size s2)))
    clear bD b2 ox2 ou2 HRD
    have f30 := (box_of E3.out).1 0 _ rfl
    have f31 := (box_of E3.out).1 1 _ rfl
    go_wp2_with fail
    generalize (w2.alloc (.cells #[.int .i64 ms, .slice a2 ys.length c2] 26)).alloc (.cells #[.int .i64 p.f, .int .i64 p.t, .slice au p.b.length cu, .bool p.s] 28) = W2 at *
    clear f30 f31
    generalize w2.heap.size = L5 at *
    have hL6 := (Array.getElem?_eq_some_iff.1 E6.out).1
    refine (takeSpec _ size _ (xs.map Prod.fst) i HRD2.out (by simp; omega)).mono ?_
    rintro e w3 ha
    rw [HR.out] at ha
    obtain ⟨v4, u4, rfl, rd4, bt4, b3⟩ := ha
    obtain ⟨a4, c4, rfl, -⟩ := pk_at rd4
    obtain ⟨a9, c9, rfl, n9, i9⟩ := bt4
    simp only at i9
    unfold netV pkV
    simp only
    have s3 := b3.size
    have bD := ((Below.refl w3.heap.size w3).alloc (Nat.le_refl _) (.cells #[.int .i64 ms, .slice a4 mps.length c4] 26)).alloc (by simp) (.cells #[.int .i64 p.f, .int .i64 p.t, .slice a9 p.b.length c9, .bool p.s] 28)
    have E9 : Hid (((w3.alloc (.cells #[.int .i64 ms, .slice a4 mps.length c4] 26)).alloc (.cells #[.int .i64 p.f, .int .i64 p.t, .slice a9 p.b.length c9, .bool p.s] 28)).heap[w3.heap.size + 1]? = some (.cells #[.int .i64 p.f, .int .i64 p.t, .slice a9 p.b.length c9, .bool p.s] 28 (0, 0))) := hide (by have := heap_alloc_new (w3.alloc (.cells #[.int .i64 ms, .slice a4 mps.length c4] 26)) (.cells #[.int .i64 p.f, .int .i64 p.t, .slice a9 p.b.length c9, .bool p.s] 28); simp only [World.size_alloc] at this; exact this)
    replace E3 := hide ((bD.block L3 (by omega)).trans ((b3.block L3 (by omega)).trans E3.out))
    replace E5 := hide ((bD.block L5 (by omega)).trans ((b3.block L5 (by omega)).trans E5.out))
    replace E6 := hide ((bD.block (L5 + 1) (by omega)).trans ((b3.block (L5 + 1) (by omega)).trans E6.out))
    replace HO := hide ((HO.out.below b3).below bD)
    replace HX2 := hide ((HX2.out.below b3).below bD)
    replace HU2 := hide ((HU2.out.below b3).below bD)
    have HC9 := hide (bt_str (show Bt ((w3.alloc (.cells #[.int .i64 ms, .slice a4 mps.length c4] 26)).alloc (.cells #[.int .i64 p.f, .int .i64 p.t, .slice a9 p.b.length c9, .bool p.s] 28)) ((w3.alloc (.cells #[.int .i64 ms, .slice a4 mps.length c4] 26)).alloc (.cells #[.int .i64 p.f, .int .i64 p.t, .slice a9 p.b.length c9, .bool p.s] 28)).heap.size (.slice a9 p.b.length c9) p.b from ⟨a9, c9, rfl, n9, i9.at bD⟩))
    replace HB := hide ((HB.out.trans (b3.mono HB.out.size)).trans (bD.mono (Nat.le_trans HB.out.size s3)))
    clear bD b3 HRD2 HR rd4 n9 i9
    have q2 := (box_of E9.out).1 2 _ rfl
    have p2 := (box_of E6.out).1 2 _ rfl
    have cv2 := own_str HU2.out
    have cv9 := HC9.out
    go_upto_region 6 with fail
    generalize (w3.alloc (.cells #[.int .i64 ms, .slice a4 mps.length c4] 26)).alloc (.cells #[.int .i64 p.f, .int .i64 p.t, .slice a9 p.b.length c9, .bool p.s] 28) = W3 at *
    generalize w3.heap.size = L8 at *
    have hL3' := (Array.getElem?_eq_some_iff.1 E3.out).1
    rcases HCS.out with ⟨rfl, hm⟩ | ⟨rfl, hok, hi2, rfl, hmp, hp⟩
    · have g1 := (box_of E5.out).1 1 _ rfl
      have g3 := (box_of E3.out).1 1 _ rfl
      have Hb : Hid ((((ys.length : Int) == 0) || ((ys.length : Int) == (xs.length : Int))) = true) := hide (by
        have e1 : ys.length = mps.length := by rw [← HYS.out]; simp
        rw [e1]
        rcases hm with h | h
        · rw [show ((mps.length : Nat) : Int) = 0 from by omega]; rfl
        · rw [show ((mps.length : Nat) : Int) = (xs.length : Int) from by rw [List.length_map] at h; omega]; simp)
      clear hm
      go_wp2_with fail
      all_goals (
        go_ret
        first
          | exact ⟨rfl, HB.out⟩
          | exact ⟨by rw [Hb.out]; rfl, HB.out⟩)
    · obtain ⟨j0, rfl⟩ : ∃ j0 : Nat, i = (j0 : Int) := ⟨i.toNat, by omega⟩
      simp only [Int.toNat_natCast] at hmp hp
      have hj0 : j0 < xs.length := by have := hi2.2; rw [List.length_map] at this; omega
      have hyl : ys.length + 1 = xs.length := by
        have e1 : ys.length = mps.length := by rw [← HYS.out]; simp
        rw [e1, hmp]
        simp
        omega
      have HGM : Hid (Good (ys.map Prod.fst)) := hide (by
        rw [HYS.out, hmp]
        intro q hq
        refine HGO.out q ?_
        rcases List.mem_append.1 hq with h | h
        · exact List.mem_of_mem_take h
        · exact List.mem_of_mem_drop h)
      have HNK : Hid (netOk ms (ys.map Prod.fst) = true) := hide (by
        rw [HYS.out, hmp]
        obtain ⟨h1, h2, h3⟩ := netOk_all hok
        refine netOk_yes (by simp [inB]; omega) (by rw [List.length_map] at h2; simp; omega) (fun k hk => h3 _ ?_)
        have hm : ((xs.map Prod.fst).take j0 ++ (xs.map Prod.fst).drop (j0 + 1)).getD k default ∈ ((xs.map Prod.fst).take j0 ++ (xs.map Prod.fst).drop (j0 + 1)) := by
          rw [show ∀ l : List Pk, ∀ h : k < l.length, l.getD k default = l[k] from fun l h => by simp [h]]
          · exact List.getElem_mem _
          · exact hk
        rcases List.mem_append.1 hm with h | h
        · exact List.mem_of_mem_take h
        · exact List.mem_of_mem_drop h)
      have HLO : Hid (∀ k, k < j0 → (ys.map Prod.fst).getD k default = (xs.map Prod.fst).getD k default) := hide (fun k hk => by rw [HYS.out, hmp]; exact left_lo hk (by simp; omega))
      have HHI : Hid (∀ k, j0 ≤ k → (ys.map Prod.fst).getD k default = (xs.map Prod.fst).getD (k + 1) default) := hide (fun k hk => by rw [HYS.out, hmp]; exact left_hi hk (by simp; omega))
      have HRX := hide (HO.out.rd HGO.out (Nat.le_refl _))
      have HRY := hide (HX2.out.rd HGM.out (Nat.le_refl _))
      have HP := hide hp
      clear hmp hp hok hi2 HYS HCS HU2
      go_wp2_with fail
      go_loopw [11, 12] (fun k _ wr => ∃ n : Nat, k = .int .i64 (n : Int) ∧ n ≤ ys.length ∧ Hid (Below W3.heap.size W3 wr)) (fun k _ _ => 1000 - (intOf k).toNat)
      case atStart => exact ⟨0, rfl, Nat.zero_le _, hide (Below.refl _ _)⟩
      case round =>
        obtain ⟨n, rfl, hn, HW⟩ := hrel
        have HW2 := hide HW.out.drew
        have HRX2 := HRX.out.at HW2.out
        have HRY2 := hide (HRY.out.at HW2.out)
        have c31 := (box_of ((HW2.out.block L3 hL3').trans E3.out)).1 1 _ rfl
        have Y5 := (box_of ((HW2.out.block L5 (Array.getElem?_eq_some_iff.1 E5.out).1).trans E5.out)).1
        have c50 := Y5 0 _ rfl
        have c51 := Y5 1 _ rfl
        have d51 := (box_of ((HW.out.block L5 (Array.getElem?_eq_some_iff.1 E5.out).1).trans E5.out)).1 1 _ rfl
        have c60 := (box_of ((HW2.out.block (L5 + 1) (Array.getElem?_eq_some_iff.1 E6.out).1).trans E6.out)).1 0 _ rfl
        clear Y5 p2 q2 cv2 cv9
        obtain ⟨a', c', ea, -, -, hx⟩ := pk_at HRX2
        obtain ⟨bx, ox, rfl, -, hx⟩ := hx (by simp; omega)
        injection ea with e1 e2 e3
        subst e1
        subst e3
        clear e2 HRX2
        by_cases hlt : n < ys.length
        · obtain ⟨a', c', ea, -, -, hy⟩ := pk_at HRY2.out
          obtain ⟨by', oy, rfl, -, hy⟩ := hy (by simp; omega)
          injection ea with e1 e2 e3
          subst e1
          subst e3
          clear e2
          by_cases hge : j0 ≤ n
          · have hge' : (j0 : Int) ≤ (n : Int) := by omega
            obtain ⟨ax, cx, x0, x1, x2, x3, nx, ix⟩ := hx (n + 1) (by simp; omega)
            obtain ⟨ay, cy, y0, y1, y2, y3, ny, iy⟩ := hy n (by simp; omega)
            rw [HHI.out n hge] at y1 y2 iy
            generalize (xs.map Prod.fst).getD (n + 1) default = q at *
            have cx9 := bt_str (⟨ax, cx, rfl, nx, ix⟩ : Bt wr.drew wr.drew.heap.size (.slice ax q.b.length cx) q.b)
            have cy9 := bt_str (⟨ay, cy, rfl, ny, iy⟩ : Bt wr.drew wr.drew.heap.size (.slice ay q.b.length cy) q.b)
            clear x0 x3 y0 y3 ix iy nx ny
            go_upto_region 16 with fail
            go_region
            go_wp2_with fail
            exact ⟨⟨n + 1, by go_num, by omega, HW2⟩, by simp [intOf]; omega⟩
          · have hge' : (n : Int) < (j0 : Int) := by omega
            obtain ⟨ax, cx, x0, x1, x2, x3, nx, ix⟩ := hx (n) (by simp; omega)
            obtain ⟨ay, cy, y0, y1, y2, y3, ny, iy⟩ := hy n (by simp; omega)
            rw [HLO.out n (by omega)] at y1 y2 iy
            generalize (xs.map Prod.fst).getD (n) default = q at *
            have cx9 := bt_str (⟨ax, cx, rfl, nx, ix⟩ : Bt wr.drew wr.drew.heap.size (.slice ax q.b.length cx) q.b)
            have cy9 := bt_str (⟨ay, cy, rfl, ny, iy⟩ : Bt wr.drew wr.drew.heap.size (.slice ay q.b.length cy) q.b)
            clear x0 x3 y0 y3 ix iy nx ny
            go_upto_region 16 with fail
            go_region
            go_wp2_with fail
            exact ⟨⟨n + 1, by go_num, by omega, HW2⟩, by simp [intOf]; omega⟩
        · obtain ⟨ax, cx, x0, -, -, -, -, -⟩ := hx j0 (by simp; omega)
          rw [← HP.out] at x0
          go_upto_region 18 with fail
          go_region_law
            (first
              | (refine step_callW (some 115) rfl (by kernel_rfl) 9 _ _ rfl #[.agg #[.int .i64 ms, .slice a2 ys.length c2]] (by kernel_rfl) (netImpl wr.drew ms (.slice a2 ys.length c2) (ys.map Prod.fst) _ HRY2.out (Nat.le_refl _) (by simp; omega)) ?_; rintro e w9 ⟨rfl, b9⟩; refine ⟨_, rfl, ?_⟩; rw [HNK.out]; have H9 := hide b9; clear b9)
              | fail)
          all_goals (
            go_wp2_with fail
            go_ret
            exact ⟨rfl, (HB.out.trans (HW2.out.mono HB.out.size)).trans (H9.out.mono (Nat.le_trans HB.out.size HW2.out.size))⟩)

set_option maxRecDepth 100000 in
theorem lifted (os : Os) (started : os.Started) (H : Type) (enc : TypeId × Value → H) :
    ReturnsInHanded {} Try.checked os 4 .any (Rows.fnNetOrderSpec.pre6 enc Try.prog Try.f4 Rows.fnNetOrderRow.domain false) (Rows.fnNetOrderSpec.post enc Try.prog Try.f4 false true false false) := by
  refine returnsInHanded_of_change (C := Try.checked) own started (by kernel_rfl) Try.func4
    (ChangeSpec.witness6 (enc := enc) (C := Try.checked) false ⟨#[], #[.slice none 0 0], []⟩ 8 (by kernel_rfl) (by kernel_rfl) (by kernel_rfl) (by kernel_rfl)) ?_
  intro W base args ds gs before hval0 hW hcnd _
  have hval : ∀ (j : Nat) t v, Try.f4.params[j]? = some t → args[j]? = some v → Value.okWide Try.prog W .any base t v := hval0
  have hW' := hW
  obtain ⟨p, q, hA0, hV, rfl, hfz, hnd⟩ := hW
  have hA : DataW.TrodAll enc Try.prog W 0 (fun _ => true) true Try.f4.params.toList args.toList ds p := hA0
  rw [Try.params4] at hA hval
  obtain ⟨v0, vs0, d0, ds0, p0, q0, hargs, rfl, rfl, h0, r0⟩ := trodAll_cons hA
  obtain ⟨rfl, rfl, rfl⟩ := trodAll_nil r0
  obtain rfl : args = #[v0] := by cases args; simp_all
  obtain ⟨rfl, rfl⟩ := trodVars_none hV
  obtain ⟨a0, len0, cap0, rfl⟩ := okWide_slice Try.underlying22 (hval 0 22 v0 rfl rfl)
  have k0 := h0
  have lt0 : ∀ x ∈ p0, x.block < W.heap.size := by obtain ⟨m, hm⟩ := k0; exact DataW.trod_lt m _ _ _ hm
  obtain ⟨z0, w0⟩ : ∃ zs, IsRow .u8 W a0 len0 cap0 zs := by
    obtain ⟨fuel, hf⟩ := h0
    rcases open_ints Try.underlying22 Try.underlying5 (by kernel_rfl) hf with ⟨hcs, _⟩ | ⟨x, l, c, zs, hcs, _, hl, hm, hz, _, hcell, hwz⟩
    · simp [Value.cells] at hcs
      obtain ⟨rfl, rfl, rfl⟩ := hcs
      exact ⟨[], .inl ⟨rfl, rfl, rfl, rfl⟩⟩
    · simp [Value.cells] at hcs
      obtain ⟨rfl, rfl, rfl⟩ := hcs
      exact ⟨zs, .inr ⟨_, rfl, hl, hm, by simpa using hz, hcell, hwz⟩⟩
  clear hA0 hval0
  refine (walk a0 len0 cap0 z0 W w0).mono fun e W' ⟨he, bel⟩ => ?_
  subst he
  exact ⟨_, rfl, _, _, _, [], _, [], hW', trodAll_mk1 (shut_bool Try.underlying4 _), (trodAll_cons_mk (Below.trod laidOut (by kernel_rfl) (of_decide_eq_true (by kernel_rfl)) k0 bel lt0) trodAll_mk0), rfl, bel.frame _, fun h => by cases h⟩

theorem over : Rows.fnNetOrderRow.holds Try.pinned (OpenSpec.ofChange Rows.fnNetOrderSpec) :=
  OpenClaim.holds_of_wide 4 Try.f4 rfl rfl rfl rfl rfl rfl rfl ⟨rfl, rfl, rfl, rfl, rfl⟩ rfl rfl rfl rfl rfl (by kernel_rfl) Try.func4 (by kernel_rfl)
    (of_decide_eq_true (by kernel_rfl)) (by unfold Func.isWrapper; first | (rw [if_pos (by decide +kernel)]; kernel_rfl) | (rw [if_neg (by decide +kernel)]; exact ⟨rfl, rfl⟩))
    (fun os started H enc _ => lifted os started H enc)

end Go.Proofs.Ytapepmcoalcckaa.fnNetOrder
namespace Go.Proofs.Ytapepmcoalcckaa
theorem fnNetOrder_holds : Rows.FnNetOrderSaid := fnNetOrder.over
#print axioms fnNetOrder_holds
end Go.Proofs.Ytapepmcoalcckaa
