/-
  Proved: at every net and every packet the program's Post answers as its model does, in memory of its own, and writes into no argument (the law FnExactPost returns true), without any condition.
-/
import Derived.Test.YtmdpbhikemmogaaRows
import Derived.Test.YtmdpbhikemmogaaNetLawP
import Derived.Deep.CutRange
import Derived.Deep.RegionWith
import Derived.BigRegion
import Derived.WalkKit
import Derived.ProofKit
import Derived.OpenShut
import Derived.ShutString
import Derived.ChangeOld
import Derived.Below
namespace Go.Proofs.Ytmdpbhikemmogaa.fnExactPost
open Go.ChangeShapes Go.WideShapes Go.ChangeAt Go.RowKit
open Go.ChangeMaps (open_string shut_string)
set_option linter.unusedVariables false

theorem own : ownKnob Try.prog.godebug = none := by kernel_rfl
theorem laidOut : laidOutB Try.prog = true := by kernel_rfl
attribute [local go_sem ↓] Go.wp_at_zero Go.wp_at_succ
set_option maxRecDepth 100000 in
set_option maxHeartbeats 16000000 in
theorem walk (v0 v1 : Value) (w : World) (h0 : IsNet w v0) (h1 : IsPk w v1) :
    Calls Try.prog 6 #[v0, v1] w fun e w' => e = .returned (.bool true) ∧ Below w.heap.size w w' := by
  obtain ⟨size, lv, xs, rfl, hrd, hml, hraw⟩ := h0
  obtain ⟨⟨p, bv⟩, rfl, hrp⟩ := h1
  have HR := hide (And.intro hrd hraw)
  have HRP := hide hrp
  obtain ⟨_, a, cap, rfl, _⟩ := hrd
  obtain ⟨hpl, pa, pc, _, e, _⟩ := hrp
  simp only at e hpl
  subst e
  clear hraw
  generalize hn : xs.length = n at *
  have HN := hide hn
  clear hn
  simp only
  have bA := ((Below.refl w.heap.size w).alloc (Nat.le_refl _) (.cells #[.int .i64 size, .slice a n cap] 46)).alloc (by simp) (.cells #[.int .i64 p.f, .int .i64 p.t, .slice pa p.b.length pc, .bool p.s] 51)
  have HX : Hid (Bx ((w.alloc (.cells #[.int .i64 size, .slice a n cap] 46)).alloc (.cells #[.int .i64 p.f, .int .i64 p.t, .slice pa p.b.length pc, .bool p.s] 51)) w.heap.size #[.int .i64 size, .slice a n cap] 46) := hide ((Below.heap_alloc _ _ _ (by simp)).trans (heap_alloc_new w _))
  have HV : Hid (Bx ((w.alloc (.cells #[.int .i64 size, .slice a n cap] 46)).alloc (.cells #[.int .i64 p.f, .int .i64 p.t, .slice pa p.b.length pc, .bool p.s] 51)) (w.heap.size + 1) #[.int .i64 p.f, .int .i64 p.t, .slice pa p.b.length pc, .bool p.s] 51) := hide (by have := Bx.new (w.alloc (.cells #[.int .i64 size, .slice a n cap] 46)) #[.int .i64 p.f, .int .i64 p.t, .slice pa p.b.length pc, .bool p.s] 51; simpa only [World.size_alloc] using this)
  have HB := hide bA
  go_enter Try.func6, Try.ntmps6
  go_wp2_with fail
  refine (szNet _ size _ xs (by rw [HN.out]; exact HR.out.1.at bA) (fun x hx => raw_below (HR.out.2 x hx) bA) (by rw [HN.out]; exact hml)).mono ?_
  rintro e w1 ⟨r, rfl, hr, b1⟩
  have HRD : Hid (0 ≤ r → r = 1048576 - (tot (xs.map Prod.fst) : Int) ∧ RdP w w.heap.size (.slice a n cap) (xs.map Prod.fst)) := hide (fun h => ⟨(hr h).1, ⟨xs, rfl, by rw [HN.out]; exact HR.out.1, fun x hx => (HR.out.2 x hx).bt (by have h1 := (hr h).1; have h2 := tot_mem (List.mem_map_of_mem (f := Prod.fst) hx); omega)⟩⟩)
  replace HB := hide (HB.out.trans (b1.mono HB.out.size))
  replace HX := hide (HX.out.below b1)
  replace HV := hide (HV.out.below b1)
  clear b1 bA hr HR
  by_cases hr0 : r < 0
  · go_wp2
    go_ret
    exact ⟨rfl, HB.out⟩
  · obtain ⟨ht, hrd⟩ := HRD.out (by omega)
    have hlen : n = (xs.map Prod.fst).length := by rw [← HN.out]; simp
    have htl := tot_len (xs.map Prod.fst)
    clear HRD HN
    generalize xs.map Prod.fst = ps at *
    subst hlen
    have hr1 : 0 ≤ r := by omega
    have hr2 : r ≤ 1048576 := by omega
    have HTT := hide (And.intro ht htl)
    clear ht htl
    have q0 := (box_of HV.out).1 0 _ rfl
    have q1 := (box_of HV.out).1 1 _ rfl
    have q2 := (box_of HV.out).1 2 _ rfl
    have q3 := (box_of HV.out).1 3 _ rfl
    go_wp2_with fail
    refine (szPk p.f p.t p.s pa p.b.length pc r _ hr1 hr2 hpl).mono ?_
    rintro e w2 ⟨rfl, b2⟩
    replace HB := hide (HB.out.trans (b2.mono HB.out.size))
    replace HX := hide (HX.out.below b2)
    replace HV := hide (HV.out.below b2)
    clear b2 q0 q1 q2 q3
    by_cases hlt : r < (p.b.length : Int)
    · rw [if_pos hlt]
      go_wp2
      go_ret
      exact ⟨rfl, HB.out⟩
    rw [if_neg hlt]
    have hrl : ¬ (r - (p.b.length : Int) < 0) := by omega
    have hm2 : ps.length ≤ 1048576 := by have := HTT.out; omega
    have HT3 : Hid (1 + 3 * tot ps ≤ 10000000) := hide (by have := HTT.out; omega)
    have HPL : Hid (p.b.length ≤ 1048576) := hide (by omega)
    have HP := hide (HRP.out.bt (by simp only; omega))
    simp only at HP
    have HPG := hide HP.out.byt
    have HI := hide hrd
    have HGD := hide hrd.good
    obtain ⟨R, hR⟩ : ∃ R, postN size ps p = R := ⟨_, rfl⟩
    have HS : Hid (∀ (W : World) (V U : Value), RdP W W.heap.size V ps → Bt W W.heap.size U p.b → Calls Try.prog 13 #[netV size V, pkV p U] W (ansN W R)) := hide (fun W V U h h' => hR ▸ postSpec W size V ps p U h h' hm2)
    have HM : Hid (∀ (W : World) (V U : Value), RdP W W.heap.size V ps → Bt W W.heap.size U p.b → Calls Try.prog 12 #[netV size V, pkV p U] W (ansN W R)) := hide (fun W V U h h' => hR ▸ postImpl W size V ps p U h h' hm2)
    have HSM : Hid (Small R.1.2) := hide (hR ▸ postN_small hrd.good HP.out.byt)
    clear hR hrd hml hlt HRP
    obtain ⟨⟨sR, pR⟩, okR⟩ := R
    simp only at HSM
    have hl60 : pR.length ≤ 1048576 := by have := HSM.out.1; omega
    have HTR : Hid (1 + 3 * tot pR ≤ 100000000) := hide (by have := HSM.out.tot; omega)
    have hne : (okR != okR) = false := by simp
    have hlt0 := HX.out.lt
    have hlt1 := HV.out.lt
    go_wp2_with fail
    have u0 := (box_of HX.out).1 0 _ rfl
    have u1 := (box_of HX.out).1 1 _ rfl
    have f0 := u0
    have f1 := u1
    have f2 := (box_of HV.out).1 0 _ rfl
    have f3 := (box_of HV.out).1 1 _ rfl
    have f4 := (box_of HV.out).1 2 _ rfl
    have f5 := (box_of HV.out).1 3 _ rfl
    clear u0 u1
    have HD0 := hide ((Below.refl w2.heap.size w2).drew)
    have HIat : Hid (∀ W, Below w2.heap.size w2 W → RdP W W.heap.size (.slice a ps.length cap) ps) := hide (fun W h => HI.out.at (HB.out.trans (h.mono HB.out.size)))
    have HPat : Hid (∀ W, Below w2.heap.size w2 W → Bt W W.heap.size (.slice pa p.b.length pc) p.b) := hide (fun W h => HP.out.at (HB.out.trans (h.mono HB.out.size)))
    go_cut [6, 7] from 27 to 34 (fun s t wq => ∃ g aW cW b, s = .pointer (some ⟨g, 0, none⟩) ∧ t = .bool okR ∧ Hid (Bx wq g #[.int .i64 sR, .slice aW pR.length cW] 26) ∧ Hid (OwnP wq b wq.heap.size (.slice aW pR.length cW) pR) ∧ Hid (Below w2.heap.size w2 wq) ∧ w2.heap.size ≤ b ∧ w2.heap.size ≤ g ∧ g < wq.heap.size)
    case first =>
      go_region_held_law (fun w' => w'.cell? ⟨w.heap.size, 0, none⟩ = some (.int .i64 size) ∧ w'.cell? ⟨w.heap.size, 1, none⟩ = some (.slice a ps.length cap) ∧ w'.cell? ⟨w.heap.size + 1, 0, none⟩ = some (.int .i64 p.f) ∧ w'.cell? ⟨w.heap.size + 1, 1, none⟩ = some (.int .i64 p.t) ∧ w'.cell? ⟨w.heap.size + 1, 2, none⟩ = some (.slice pa p.b.length pc) ∧ w'.cell? ⟨w.heap.size + 1, 3, none⟩ = some (.bool p.s))
        (first | (refine ⟨?_, ?_, ?_, ?_, ?_, ?_⟩ <;> ((repeat rw [cell_setNe (by dsimp only; omega)]) <;> assumption)) | (go_keep; done))
        (first
          | (refine step_callTo (some 29) rfl rfl 27 _ _ rfl #[netV size (.slice a ps.length cap)] (by kernel_rfl) (toNet _ size _ ps ?_ hm2) ?_; (first | exact HIat.out w2.drew HD0.out | exact HIat.out (w2.drew.alloc (.cells #[.int .i64 0, .slice none 0 0] 26)) (HD0.out.alloc HD0.out.size _)); rintro e x3 ⟨y3, rfl, o3, b3⟩; refine ⟨_, rfl, ?_⟩; obtain ⟨a3, c3, rfl⟩ := o3.shape; have HD3 : Hid (Below w2.heap.size w2 x3) := (by first | exact hide (nxt HD0.out b3) | exact hide (nxtZ (l := w2.drew) (o := (.cells #[.int .i64 0, .slice none 0 0] 26)) HD0.out b3)); have hs3 := HD3.out.size; (first | (have EZ3 : Hid (Bx x3 w2.heap.size #[.int .i64 0, .slice none 0 0] 26) := hide (newZ (l := w2.drew) (vs := #[.int .i64 0, .slice none 0 0]) (T := 26) b3); have HZ3 : Hid (w2.heap.size ≤ w2.heap.size) := hide (Nat.le_refl _)) | skip); have g0 := (HD3.out.cell (p := ⟨w.heap.size, 0, none⟩) (by dsimp only; omega)).trans f0; have g1 := (HD3.out.cell (p := ⟨w.heap.size, 1, none⟩) (by dsimp only; omega)).trans f1; have g2 := (HD3.out.cell (p := ⟨w.heap.size + 1, 0, none⟩) (by dsimp only; omega)).trans f2; have g3 := (HD3.out.cell (p := ⟨w.heap.size + 1, 1, none⟩) (by dsimp only; omega)).trans f3; have g4 := (HD3.out.cell (p := ⟨w.heap.size + 1, 2, none⟩) (by dsimp only; omega)).trans f4; have g5 := (HD3.out.cell (p := ⟨w.heap.size + 1, 3, none⟩) (by dsimp only; omega)).trans f5; have HN3 := hide (o3.rd HGD.out (Nat.le_refl _)); clear o3 b3; unfold netV)
          | (refine step_callTo (some 31) rfl rfl 30 _ _ rfl #[pkV p (.slice pa p.b.length pc)] (by kernel_rfl) (toPk _ p _ ?_) ?_; (first | exact HPat.out x3 HD3.out | exact HPat.out (x3.alloc (.cells #[.int .i64 0, .slice none 0 0] 26)) (HD3.out.alloc HD3.out.size _)); rintro e x4 ⟨y4, rfl, o4, b4⟩; refine ⟨_, rfl, ?_⟩; obtain ⟨a4, c4, rfl⟩ := own_shape o4; have HD4 : Hid (Below w2.heap.size w2 x4) := (by first | exact hide (nxt HD3.out b4) | exact hide (nxtZ (l := x3) (o := (.cells #[.int .i64 0, .slice none 0 0] 26)) HD3.out b4)); have hs4 := HD4.out.size; (first | (have EZ4 := hide (newZ (l := x3) (vs := #[.int .i64 0, .slice none 0 0]) (T := 26) b4); have HZ4 : Hid (w2.heap.size ≤ x3.heap.size) := hide HD3.out.size) | (have EZ4 := hide (EZ3.out.below b4); have HZ4 := HZ3) | skip); have h0 := (HD4.out.cell (p := ⟨w.heap.size, 0, none⟩) (by dsimp only; omega)).trans f0; have h1 := (HD4.out.cell (p := ⟨w.heap.size, 1, none⟩) (by dsimp only; omega)).trans f1; have h2 := (HD4.out.cell (p := ⟨w.heap.size + 1, 0, none⟩) (by dsimp only; omega)).trans f2; have h3 := (HD4.out.cell (p := ⟨w.heap.size + 1, 1, none⟩) (by dsimp only; omega)).trans f3; have h4 := (HD4.out.cell (p := ⟨w.heap.size + 1, 2, none⟩) (by dsimp only; omega)).trans f4; have h5 := (HD4.out.cell (p := ⟨w.heap.size + 1, 3, none⟩) (by dsimp only; omega)).trans f5; have HP4 := hide (bt_own o4 HPG.out.1 HPG.out.2 (Nat.le_refl _)); have HN4 : Hid (RdP x4 x4.heap.size (.slice a3 ps.length c3) ps) := (by first | exact hide (HN3.out.at b4) | exact hide ((HN3.out.at ((Below.refl _ _).alloc (Nat.le_refl _) (.cells #[.int .i64 0, .slice none 0 0] 26))).at b4)); clear o4 b4; unfold pkV)
          | (refine step_callTo (some 32) rfl rfl 13 _ _ rfl #[netV size (.slice a3 ps.length c3), pkV p (.slice a4 p.b.length c4)] (by kernel_rfl) (HS.out _ _ _ ?_ ?_) ?_; (first | exact HN4.out | exact HN4.out.at ((Below.refl x4.heap.size x4).alloc (Nat.le_refl _) (.cells #[.int .i64 0, .slice none 0 0] 26))); (first | exact HP4.out | exact HP4.out.at ((Below.refl x4.heap.size x4).alloc (Nat.le_refl _) (.cells #[.int .i64 0, .slice none 0 0] 26))); rintro e x5 ⟨y5, rfl, o5, b5⟩; refine ⟨_, rfl, ?_⟩; obtain ⟨aW, cW, rfl⟩ := o5.shape; simp only at o5; have HD5 : Hid (Below w2.heap.size w2 x5) := (by first | exact hide (nxt HD4.out b5) | exact hide (nxtZ (l := x4) (o := (.cells #[.int .i64 0, .slice none 0 0] 26)) HD4.out b5)); have hs5 := HD5.out.size; (first | (have EZ5 := hide (newZ (l := x4) (vs := #[.int .i64 0, .slice none 0 0]) (T := 26) b5); have HZ5 : Hid (w2.heap.size ≤ x4.heap.size) := hide HD4.out.size) | (have EZ5 := hide (EZ4.out.below b5); have HZ5 := HZ4) | skip); have j0 := (HD5.out.cell (p := ⟨w.heap.size, 0, none⟩) (by dsimp only; omega)).trans f0; have j1 := (HD5.out.cell (p := ⟨w.heap.size, 1, none⟩) (by dsimp only; omega)).trans f1; have j2 := (HD5.out.cell (p := ⟨w.heap.size + 1, 0, none⟩) (by dsimp only; omega)).trans f2; have j3 := (HD5.out.cell (p := ⟨w.heap.size + 1, 1, none⟩) (by dsimp only; omega)).trans f3; have j4 := (HD5.out.cell (p := ⟨w.heap.size + 1, 2, none⟩) (by dsimp only; omega)).trans f4; have j5 := (HD5.out.cell (p := ⟨w.heap.size + 1, 3, none⟩) (by dsimp only; omega)).trans f5; 
                (first
                  | (have F := hide (finZ EZ5.out HZ5.out HD5.out ⟨x4.heap.size, o5, EZ4.out.lt⟩ sR); have k0 := (box_of EZ5.out).1 0 _ rfl; have k1 := (box_of EZ5.out).1 1 _ rfl; have kz := (box_of EZ5.out).2)
                  | (have F := hide (finZ EZ5.out HZ5.out HD5.out ⟨(x4.alloc (.cells #[.int .i64 0, .slice none 0 0] 26)).heap.size, o5, (by simp)⟩ sR); have k0 := (box_of EZ5.out).1 0 _ rfl; have k1 := (box_of EZ5.out).1 1 _ rfl; have kz := (box_of EZ5.out).2)
                  | (have F := hide (finA HD5.out (show OwnP x5 x4.heap.size x5.heap.size (.slice aW pR.length cW) pR from o5) (HD4.out.size) sR))); clear o5 b5; unfold netV)
          | fail)
      all_goals (go_wp2_with fail; go_meet; obtain ⟨b, hF⟩ := F.out; exact ⟨_, aW, cW, b, rfl, rfl, hide hF.1, hide hF.2.1, hide hF.2.2.1, hF.2.2.2.1, hF.2.2.2.2.1, hF.2.2.2.2.2⟩)
    case rest =>
      obtain ⟨g6, aW, cW, bW, rfl, rfl, H6, HW, HDq, hbW, hg6, hg6'⟩ := hcut
      have hsc := HDq.out.size
      have e3 := HDq.out
      replace HB := hide (HB.out.trans (e3.mono HB.out.size))
      replace HX := hide (HX.out.below e3)
      replace HV := hide (HV.out.below e3)
      clear e3 HDq HIat HPat HD0 f0 f1 f2 f3 f4 f5
      generalize hw3 : wc.heap.size = s3 at *
      have HW3 := hide hw3
      clear hw3
      have f0 := (box_of HX.out).1 0 _ rfl
      have f1 := (box_of HX.out).1 1 _ rfl
      go_wp2_with fail
      clear f0 f1
      refine (toNet _ size _ ps (HI.out.at HB.out) hm2).mono ?_
      rintro e w4 ⟨vX, rfl, oX, b4⟩
      obtain ⟨aX, cX, rfl⟩ := oX.shape
      have hs4 : s3 ≤ w4.heap.size := by have := b4.size; have := HW3.out; omega
      have HXO : Hid (OwnP w4 s3 w4.heap.size (.slice aX ps.length cX) ps) := hide (HW3.out ▸ oX)
      replace HB := hide (HB.out.trans (b4.mono HB.out.size))
      replace HX := hide (HX.out.below b4)
      replace HV := hide (HV.out.below b4)
      replace HW := hide (HW.out.below b4)
      replace H6 := hide (H6.out.below b4)
      clear b4 oX
      unfold netV
      have bD := (Below.refl w4.heap.size w4).alloc (Nat.le_refl _) (.cells #[.int .i64 size, .slice aX ps.length cX] 26)
      have H8 := hide (Bx.new w4 #[.int .i64 size, .slice aX ps.length cX] 26)
      have hsw4' : (w4.alloc (.cells #[.int .i64 size, .slice aX ps.length cX] 26)).heap.size = w4.heap.size + 1 := by simp
      replace HB := hide (HB.out.trans (bD.mono HB.out.size))
      replace HX := hide (HX.out.below bD)
      replace HV := hide (HV.out.below bD)
      replace HW := hide (HW.out.below bD)
      replace H6 := hide (H6.out.below bD)
      replace HXO := hide (HXO.out.below bD)
      clear bD
      have q0 := (box_of HV.out).1 0 _ rfl
      have q1 := (box_of HV.out).1 1 _ rfl
      have q2 := (box_of HV.out).1 2 _ rfl
      have q3 := (box_of HV.out).1 3 _ rfl
      go_wp2_with fail
      clear q0 q1 q2 q3
      generalize w4.alloc (.cells #[.int .i64 size, .slice aX ps.length cX] 26) = w4a at *
      refine (toPk _ p _ (HP.out.at HB.out)).mono ?_
      rintro e w5 ⟨vU, rfl, oU, b5⟩
      obtain ⟨aU, cU, rfl⟩ := own_shape oU
      have HU := hide oU
      have HUL := hide oU.lt
      have hs5 := b5.size
      replace HB := hide (HB.out.trans (b5.mono HB.out.size))
      replace HX := hide (HX.out.below b5)
      replace HV := hide (HV.out.below b5)
      replace HW := hide (HW.out.below b5)
      replace H6 := hide (H6.out.below b5)
      replace HXO := hide (HXO.out.below b5)
      replace H8 := hide (H8.out.below b5)
      clear b5 oU
      unfold pkV
      have bD := (Below.refl w5.heap.size w5).alloc (Nat.le_refl _) (.cells #[.int .i64 p.f, .int .i64 p.t, .slice aU p.b.length cU, .bool p.s] 28)
      have H9 := hide (Bx.new w5 #[.int .i64 p.f, .int .i64 p.t, .slice aU p.b.length cU, .bool p.s] 28)
      have hsw5' : (w5.alloc (.cells #[.int .i64 p.f, .int .i64 p.t, .slice aU p.b.length cU, .bool p.s] 28)).heap.size = w5.heap.size + 1 := by simp
      replace HB := hide (HB.out.trans (bD.mono HB.out.size))
      replace HX := hide (HX.out.below bD)
      replace HV := hide (HV.out.below bD)
      replace HW := hide (HW.out.below bD)
      replace H6 := hide (H6.out.below bD)
      replace HXO := hide (HXO.out.below bD)
      replace H8 := hide (H8.out.below bD)
      replace HU := hide (HU.out.below bD)
      clear bD
      have g0 := (box_of H8.out).1 0 _ rfl
      have g1 := (box_of H8.out).1 1 _ rfl
      go_wp2_with fail
      clear g0 g1
      generalize w5.alloc (.cells #[.int .i64 p.f, .int .i64 p.t, .slice aU p.b.length cU, .bool p.s] 28) = w5a at *
      refine (HM.out _ _ _ (HXO.out.rd HGD.out (Nat.le_refl _)) (bt_own HU.out HPG.out.1 HPG.out.2 (Nat.le_refl _))).mono ?_
      rintro e w6 ⟨vG, rfl, oG, b6⟩
      obtain ⟨aG, cG, rfl⟩ := oG.shape
      have HG := hide oG
      have hs6 := b6.size
      replace HB := hide (HB.out.trans (b6.mono HB.out.size))
      replace HX := hide (HX.out.below b6)
      replace HV := hide (HV.out.below b6)
      replace HW := hide (HW.out.below b6)
      replace H6 := hide (H6.out.below b6)
      replace HXO := hide (HXO.out.below b6)
      replace H8 := hide (H8.out.below b6)
      replace HU := hide (HU.out.below b6)
      replace H9 := hide (H9.out.below b6)
      clear b6 oG
      unfold netV
      simp only at HG ⊢
      have bD := (Below.refl w6.heap.size w6).alloc (Nat.le_refl _) (.cells #[.int .i64 sR, .slice aG pR.length cG] 26)
      have HA := hide (Bx.new w6 #[.int .i64 sR, .slice aG pR.length cG] 26)
      have hsw6' : (w6.alloc (.cells #[.int .i64 sR, .slice aG pR.length cG] 26)).heap.size = w6.heap.size + 1 := by simp
      replace HB := hide (HB.out.trans (bD.mono HB.out.size))
      replace HX := hide (HX.out.below bD)
      replace HV := hide (HV.out.below bD)
      replace HW := hide (HW.out.below bD)
      replace H6 := hide (H6.out.below bD)
      replace HXO := hide (HXO.out.below bD)
      replace H8 := hide (H8.out.below bD)
      replace HU := hide (HU.out.below bD)
      replace H9 := hide (H9.out.below bD)
      replace HG := hide (HG.out.below bD)
      clear bD
      have p0 := (box_of H6.out).1 0 _ rfl
      have p1 := (box_of H6.out).1 1 _ rfl
      go_wp2_with fail
      clear p0 p1
      generalize w6.alloc (.cells #[.int .i64 sR, .slice aG pR.length cG] 26) = w6a at *
      refine (eqNet _ sR _ _ pR _ _ (HG.out.rd HSM.out.2.2 (Nat.le_refl _)) (HW.out.rd HSM.out.2.2 (Nat.le_refl _)) (Nat.le_refl _) (Nat.le_refl _) hl60).mono ?_
      rintro e w7 ⟨rfl, b7⟩
      have hs7 := b7.size
      replace HB := hide (HB.out.trans (b7.mono HB.out.size))
      replace HX := hide (HX.out.below b7)
      replace HV := hide (HV.out.below b7)
      replace HW := hide (HW.out.below b7)
      replace H6 := hide (H6.out.below b7)
      replace HXO := hide (HXO.out.below b7)
      replace H8 := hide (H8.out.below b7)
      replace HU := hide (HU.out.below b7)
      replace H9 := hide (H9.out.below b7)
      replace HG := hide (HG.out.below b7)
      replace HA := hide (HA.out.below b7)
      clear b7
      have f0 := (box_of HX.out).1 0 _ rfl
      have f1 := (box_of HX.out).1 1 _ rfl
      have g0 := (box_of H8.out).1 0 _ rfl
      have g1 := (box_of H8.out).1 1 _ rfl
      go_wp2_with fail
      go_cut [58] from 54 to 58 (fun s wq => s = .bool false ∧ Below w7.heap.size w7 wq)
      case first =>
        have HQ : Hid (RdP w7.drew w7.drew.heap.size (.slice a ps.length cap) ps) := hide ((HI.out.at HB.out).drewN 1)
        go_region_with (first
          | (go_at_call 27; refine (toNet _ size _ ps HQ.out hm2).mono ?_; rintro e w8 ⟨v8, rfl, o8, b8⟩; have HO8 := hide (o8.rd HGD.out (Nat.le_refl _)); have HY8 := hide (H8.out.below (below_of_drew b8)); have y0 := (box_of HY8.out).1 0 _ rfl; have y1 := (box_of HY8.out).1 1 _ rfl; have HB8 := hide (below_of_drew b8); have K8 := hide ((HXO.out.below (below_of_drew b8)).rd HGD.out (Nat.le_refl _)); obtain ⟨a8, c8, rfl⟩ := o8.shape; clear b8 o8; unfold netV)
          | (go_at_call 28; refine (eqNet _ size _ _ ps _ _ K8.out HO8.out (Nat.le_refl _) (Nat.le_refl _) hm2).mono ?_; rintro e w9 ⟨rfl, b9⟩; have HB9 := hide (HB8.out.trans (b9.mono HB8.out.size)); clear b9))
        all_goals (go_wp2_with fail; go_meet; exact ⟨rfl, HB9.out⟩)
      case rest =>
      obtain ⟨rfl, b9⟩ := hcut
      have hs9 := b9.size
      replace HB := hide (HB.out.trans (b9.mono HB.out.size))
      replace HX := hide (HX.out.below b9)
      replace HV := hide (HV.out.below b9)
      replace HW := hide (HW.out.below b9)
      replace H6 := hide (H6.out.below b9)
      replace HXO := hide (HXO.out.below b9)
      replace H8 := hide (H8.out.below b9)
      replace HU := hide (HU.out.below b9)
      replace H9 := hide (H9.out.below b9)
      replace HG := hide (HG.out.below b9)
      replace HA := hide (HA.out.below b9)
      clear b9 f0 f1 g0 g1
      have f0 := (box_of HV.out).1 0 _ rfl
      have f1 := (box_of HV.out).1 1 _ rfl
      have f2 := (box_of HV.out).1 2 _ rfl
      have f3 := (box_of HV.out).1 3 _ rfl
      have g0 := (box_of H9.out).1 0 _ rfl
      have g1 := (box_of H9.out).1 1 _ rfl
      have g2 := (box_of H9.out).1 2 _ rfl
      have g3 := (box_of H9.out).1 3 _ rfl
      go_wp2_with fail
      go_cut [63] from 59 to 63 (fun s wq => s = .bool false ∧ Below wc.heap.size wc wq)
      case first =>
        have HQ : Hid (Bt wc.drew wc.drew.heap.size (.slice pa p.b.length pc) p.b) := hide ((HP.out.at HB.out).drewN 1)
        go_region_with (first
          | (go_at_call 30; refine (toPk _ p _ HQ.out).mono ?_; rintro e x8 ⟨v8, rfl, o8, b8⟩; have HO8 := hide (bt_own o8 HPG.out.1 HPG.out.2 (Nat.le_refl _)); have HY8 := hide (H9.out.below (below_of_drew b8)); have y0 := (box_of HY8.out).1 0 _ rfl; have y1 := (box_of HY8.out).1 1 _ rfl; have y2 := (box_of HY8.out).1 2 _ rfl; have y3 := (box_of HY8.out).1 3 _ rfl; have HB8 := hide (below_of_drew b8); have K8 := hide (bt_own (HU.out.below (below_of_drew b8)) HPG.out.1 HPG.out.2 (Nat.le_refl _)); obtain ⟨a8, c8, rfl⟩ := own_shape o8; clear b8 o8; unfold pkV)
          | (go_at_call 31; refine (eqPk _ p _ _ K8.out HO8.out).mono ?_; rintro e x9 ⟨rfl, b9⟩; have HB9 := hide (HB8.out.trans (b9.mono HB8.out.size)); clear b9))
        all_goals (go_wp2_with fail; go_meet; exact ⟨rfl, HB9.out⟩)
      case rest =>
      obtain ⟨rfl, b9⟩ := hcut
      have hs10 := b9.size
      replace HB := hide (HB.out.trans (b9.mono HB.out.size))
      replace HX := hide (HX.out.below b9)
      replace HV := hide (HV.out.below b9)
      replace HW := hide (HW.out.below b9)
      replace H6 := hide (H6.out.below b9)
      replace HXO := hide (HXO.out.below b9)
      replace H8 := hide (H8.out.below b9)
      replace HU := hide (HU.out.below b9)
      replace H9 := hide (H9.out.below b9)
      replace HG := hide (HG.out.below b9)
      replace HA := hide (HA.out.below b9)
      clear b9 f0 f1 f2 f3 g0 g1 g2 g3
      have g0 := (box_of H8.out).1 0 _ rfl
      have g1 := (box_of H8.out).1 1 _ rfl
      go_wp2_with fail
      refine (markNet1 _ _ _ size _ ps HXO.out (by have := HT3.out; omega)).mono ?_
      rintro e w10 ⟨rfl, _, ob⟩
      have hsB := HB.out.size
      have hsA := ob.size
      have hUr : ∀ q, (Value.slice aU p.b.length cU).ownBlock = some q → w4a.heap.size ≤ q ∧ q < w5.heap.size := fun q hq => HUL.out q hq
      have HUR := hide hUr
      clear hUr
      replace HU := hide (HU.out.out ob (.inr (by omega)))
      replace HB := hide (HB.out.trans (ob.below (by omega) HB.out.size))
      replace HX := hide (HX.out.out ob (by omega))
      replace HV := hide (HV.out.out ob (by omega))
      replace HW := hide (HW.out.out ob (by omega))
      replace H6 := hide (H6.out.out ob (by omega))
      replace H8 := hide (H8.out.out ob (by omega))
      replace H9 := hide (H9.out.out ob (by omega))
      replace HG := hide (HG.out.out ob (by omega))
      replace HA := hide (HA.out.out ob (by omega))
      clear ob g0 g1 HXO H8
      have hk0 : ((endP 1 ps : Nat) : Int) ≤ 20000000 := by have := endP_le 1 ps; have := HT3.out; omega
      have HK0 := hide hk0
      clear hk0
      have g0 := (box_of H9.out).1 0 _ rfl
      have g1 := (box_of H9.out).1 1 _ rfl
      have g2 := (box_of H9.out).1 2 _ rfl
      have g3 := (box_of H9.out).1 3 _ rfl
      go_wp2_with fail
      refine (markPk _ _ (endP 1 ps) p _ HU.out (by have := HK0.out; have := HPL.out; omega)).mono ?_
      rintro e w11 ⟨rfl, _, gb⟩
      have ob : Out w4a.heap.size w5.heap.size w10 w11 := Out.row gb (fun q hq => HUR.out q hq)
      have hsB := HB.out.size
      have hsA := ob.size
      replace HB := hide (HB.out.trans (ob.below (by omega) HB.out.size))
      replace HX := hide (HX.out.out ob (by omega))
      replace HV := hide (HV.out.out ob (by omega))
      replace HW := hide (HW.out.out ob (by omega))
      replace H6 := hide (H6.out.out ob (by omega))
      replace HG := hide (HG.out.out ob (by omega))
      replace HA := hide (HA.out.out ob (by omega))
      clear ob gb g0 g1 g2 g3 HU H9
      have hk0 : ¬ (((endP 1 ps + p.b.length : Nat) : Int) < 0) := by omega
      have p0 := (box_of H6.out).1 0 _ rfl
      have p1 := (box_of H6.out).1 1 _ rfl
      have k0 := (box_of HA.out).1 0 _ rfl
      have k1 := (box_of HA.out).1 1 _ rfl
      go_wp2_with fail
      refine (eqNet _ sR _ _ pR _ _ (HG.out.rd HSM.out.2.2 (Nat.le_refl _)) (HW.out.rd HSM.out.2.2 (Nat.le_refl _)) (Nat.le_refl _) (Nat.le_refl _) hl60).mono ?_
      rintro e w12 ⟨rfl, b12⟩
      have hs12 := b12.size
      replace HB := hide (HB.out.trans (b12.mono HB.out.size))
      replace HX := hide (HX.out.below b12)
      replace HV := hide (HV.out.below b12)
      replace HW := hide (HW.out.below b12)
      replace H6 := hide (H6.out.below b12)
      replace HG := hide (HG.out.below b12)
      replace HA := hide (HA.out.below b12)
      clear b12 p0 p1 k0 k1 hk0
      have k0 := (box_of HA.out).1 0 _ rfl
      have k1 := (box_of HA.out).1 1 _ rfl
      go_wp2_with fail
      refine (markNet1 _ _ _ sR _ pR HG.out HTR.out).mono ?_
      rintro e w13 ⟨rfl, oG, ob⟩
      have hsB := HB.out.size
      have hsC := ob.size
      replace HB := hide (HB.out.trans (ob.below (by omega) HB.out.size))
      replace HX := hide (HX.out.out ob (by omega))
      replace HV := hide (HV.out.out ob (by omega))
      replace HW := hide (HW.out.out ob (by omega))
      replace H6 := hide (H6.out.out ob (by omega))
      replace HA := hide (HA.out.out ob (by omega))
      replace HG := hide oG
      clear ob oG k0 k1
      have hk1 : ¬ (((endP 1 pR : Nat) : Int) < 0) := by omega
      have hk2 : (((endP 1 pR : Nat) : Int) != ((endP 1 pR : Nat) : Int)) = false := by simp
      have k0 := (box_of HA.out).1 0 _ rfl
      have k1 := (box_of HA.out).1 1 _ rfl
      go_wp2_with fail
      refine (heldNet1 _ _ _ sR _ pR HG.out HTR.out).mono ?_
      rintro e w14 ⟨rfl, b14⟩
      have hs14 := b14.size
      replace HB := hide (HB.out.trans (b14.mono HB.out.size))
      replace HX := hide (HX.out.below b14)
      replace HV := hide (HV.out.below b14)
      replace HW := hide (HW.out.below b14)
      replace H6 := hide (H6.out.below b14)
      replace HG := hide (HG.out.below b14)
      replace HA := hide (HA.out.below b14)
      clear b14 k0 k1
      have hlt0 := HX.out.lt
      have hlt1 := HV.out.lt
      go_wp2_with fail
      have f0 := (box_of HX.out).1 0 _ rfl
      have f1 := (box_of HX.out).1 1 _ rfl
      have f2 := (box_of HV.out).1 0 _ rfl
      have f3 := (box_of HV.out).1 1 _ rfl
      have f4 := (box_of HV.out).1 2 _ rfl
      have f5 := (box_of HV.out).1 3 _ rfl
      have HD0 := hide ((Below.refl w14.heap.size w14).drew)
      have HIat : Hid (∀ W, Below w14.heap.size w14 W → RdP W W.heap.size (.slice a ps.length cap) ps) := hide (fun W h => HI.out.at (HB.out.trans (h.mono HB.out.size)))
      have HPat : Hid (∀ W, Below w14.heap.size w14 W → Bt W W.heap.size (.slice pa p.b.length pc) p.b) := hide (fun W h => HP.out.at (HB.out.trans (h.mono HB.out.size)))
      go_cut [15, 16] from 94 to 101 (fun s t wq => ∃ g aH cH b, s = .pointer (some ⟨g, 0, none⟩) ∧ t = .bool okR ∧ Hid (Bx wq g #[.int .i64 sR, .slice aH pR.length cH] 26) ∧ Hid (OwnP wq b wq.heap.size (.slice aH pR.length cH) pR) ∧ Hid (Below w14.heap.size w14 wq) ∧ w14.heap.size ≤ b ∧ w14.heap.size ≤ g ∧ g < wq.heap.size)
      case first =>
        go_region_held_law (fun w' => w'.cell? ⟨w.heap.size, 0, none⟩ = some (.int .i64 size) ∧ w'.cell? ⟨w.heap.size, 1, none⟩ = some (.slice a ps.length cap) ∧ w'.cell? ⟨w.heap.size + 1, 0, none⟩ = some (.int .i64 p.f) ∧ w'.cell? ⟨w.heap.size + 1, 1, none⟩ = some (.int .i64 p.t) ∧ w'.cell? ⟨w.heap.size + 1, 2, none⟩ = some (.slice pa p.b.length pc) ∧ w'.cell? ⟨w.heap.size + 1, 3, none⟩ = some (.bool p.s))
          (first | (refine ⟨?_, ?_, ?_, ?_, ?_, ?_⟩ <;> ((repeat rw [cell_setNe (by dsimp only; omega)]) <;> assumption)) | (go_keep; done))
          (first
            | (refine step_callTo (some 96) rfl rfl 27 _ _ rfl #[netV size (.slice a ps.length cap)] (by kernel_rfl) (toNet _ size _ ps ?_ hm2) ?_; (first | exact HIat.out w14.drew HD0.out | exact HIat.out (w14.drew.alloc (.cells #[.int .i64 0, .slice none 0 0] 26)) (HD0.out.alloc HD0.out.size _)); rintro e x3 ⟨y3, rfl, o3, b3⟩; refine ⟨_, rfl, ?_⟩; obtain ⟨a3, c3, rfl⟩ := o3.shape; have HD3 : Hid (Below w14.heap.size w14 x3) := (by first | exact hide (nxt HD0.out b3) | exact hide (nxtZ (l := w14.drew) (o := (.cells #[.int .i64 0, .slice none 0 0] 26)) HD0.out b3)); have hs3 := HD3.out.size; (first | (have EZ3 : Hid (Bx x3 w14.heap.size #[.int .i64 0, .slice none 0 0] 26) := hide (newZ (l := w14.drew) (vs := #[.int .i64 0, .slice none 0 0]) (T := 26) b3); have HZ3 : Hid (w14.heap.size ≤ w14.heap.size) := hide (Nat.le_refl _)) | skip); have g0 := (HD3.out.cell (p := ⟨w.heap.size, 0, none⟩) (by dsimp only; omega)).trans f0; have g1 := (HD3.out.cell (p := ⟨w.heap.size, 1, none⟩) (by dsimp only; omega)).trans f1; have g2 := (HD3.out.cell (p := ⟨w.heap.size + 1, 0, none⟩) (by dsimp only; omega)).trans f2; have g3 := (HD3.out.cell (p := ⟨w.heap.size + 1, 1, none⟩) (by dsimp only; omega)).trans f3; have g4 := (HD3.out.cell (p := ⟨w.heap.size + 1, 2, none⟩) (by dsimp only; omega)).trans f4; have g5 := (HD3.out.cell (p := ⟨w.heap.size + 1, 3, none⟩) (by dsimp only; omega)).trans f5; have HN3 := hide (o3.rd HGD.out (Nat.le_refl _)); clear o3 b3; unfold netV)
            | (refine step_callTo (some 98) rfl rfl 30 _ _ rfl #[pkV p (.slice pa p.b.length pc)] (by kernel_rfl) (toPk _ p _ ?_) ?_; (first | exact HPat.out x3 HD3.out | exact HPat.out (x3.alloc (.cells #[.int .i64 0, .slice none 0 0] 26)) (HD3.out.alloc HD3.out.size _)); rintro e x4 ⟨y4, rfl, o4, b4⟩; refine ⟨_, rfl, ?_⟩; obtain ⟨a4, c4, rfl⟩ := own_shape o4; have HD4 : Hid (Below w14.heap.size w14 x4) := (by first | exact hide (nxt HD3.out b4) | exact hide (nxtZ (l := x3) (o := (.cells #[.int .i64 0, .slice none 0 0] 26)) HD3.out b4)); have hs4 := HD4.out.size; (first | (have EZ4 := hide (newZ (l := x3) (vs := #[.int .i64 0, .slice none 0 0]) (T := 26) b4); have HZ4 : Hid (w14.heap.size ≤ x3.heap.size) := hide HD3.out.size) | (have EZ4 := hide (EZ3.out.below b4); have HZ4 := HZ3) | skip); have h0 := (HD4.out.cell (p := ⟨w.heap.size, 0, none⟩) (by dsimp only; omega)).trans f0; have h1 := (HD4.out.cell (p := ⟨w.heap.size, 1, none⟩) (by dsimp only; omega)).trans f1; have h2 := (HD4.out.cell (p := ⟨w.heap.size + 1, 0, none⟩) (by dsimp only; omega)).trans f2; have h3 := (HD4.out.cell (p := ⟨w.heap.size + 1, 1, none⟩) (by dsimp only; omega)).trans f3; have h4 := (HD4.out.cell (p := ⟨w.heap.size + 1, 2, none⟩) (by dsimp only; omega)).trans f4; have h5 := (HD4.out.cell (p := ⟨w.heap.size + 1, 3, none⟩) (by dsimp only; omega)).trans f5; have HP4 := hide (bt_own o4 HPG.out.1 HPG.out.2 (Nat.le_refl _)); have HN4 : Hid (RdP x4 x4.heap.size (.slice a3 ps.length c3) ps) := (by first | exact hide (HN3.out.at b4) | exact hide ((HN3.out.at ((Below.refl _ _).alloc (Nat.le_refl _) (.cells #[.int .i64 0, .slice none 0 0] 26))).at b4)); clear o4 b4; unfold pkV)
            | (refine step_callTo (some 99) rfl rfl 12 _ _ rfl #[netV size (.slice a3 ps.length c3), pkV p (.slice a4 p.b.length c4)] (by kernel_rfl) (HM.out _ _ _ ?_ ?_) ?_; (first | exact HN4.out | exact HN4.out.at ((Below.refl x4.heap.size x4).alloc (Nat.le_refl _) (.cells #[.int .i64 0, .slice none 0 0] 26))); (first | exact HP4.out | exact HP4.out.at ((Below.refl x4.heap.size x4).alloc (Nat.le_refl _) (.cells #[.int .i64 0, .slice none 0 0] 26))); rintro e x5 ⟨y5, rfl, o5, b5⟩; refine ⟨_, rfl, ?_⟩; obtain ⟨aH, cH, rfl⟩ := o5.shape; simp only at o5; have HD5 : Hid (Below w14.heap.size w14 x5) := (by first | exact hide (nxt HD4.out b5) | exact hide (nxtZ (l := x4) (o := (.cells #[.int .i64 0, .slice none 0 0] 26)) HD4.out b5)); have hs5 := HD5.out.size; (first | (have EZ5 := hide (newZ (l := x4) (vs := #[.int .i64 0, .slice none 0 0]) (T := 26) b5); have HZ5 : Hid (w14.heap.size ≤ x4.heap.size) := hide HD4.out.size) | (have EZ5 := hide (EZ4.out.below b5); have HZ5 := HZ4) | skip); have j0 := (HD5.out.cell (p := ⟨w.heap.size, 0, none⟩) (by dsimp only; omega)).trans f0; have j1 := (HD5.out.cell (p := ⟨w.heap.size, 1, none⟩) (by dsimp only; omega)).trans f1; have j2 := (HD5.out.cell (p := ⟨w.heap.size + 1, 0, none⟩) (by dsimp only; omega)).trans f2; have j3 := (HD5.out.cell (p := ⟨w.heap.size + 1, 1, none⟩) (by dsimp only; omega)).trans f3; have j4 := (HD5.out.cell (p := ⟨w.heap.size + 1, 2, none⟩) (by dsimp only; omega)).trans f4; have j5 := (HD5.out.cell (p := ⟨w.heap.size + 1, 3, none⟩) (by dsimp only; omega)).trans f5; 
                  (first
                    | (have F := hide (finZ EZ5.out HZ5.out HD5.out ⟨x4.heap.size, o5, EZ4.out.lt⟩ sR); have k0 := (box_of EZ5.out).1 0 _ rfl; have k1 := (box_of EZ5.out).1 1 _ rfl; have kz := (box_of EZ5.out).2)
                    | (have F := hide (finZ EZ5.out HZ5.out HD5.out ⟨(x4.alloc (.cells #[.int .i64 0, .slice none 0 0] 26)).heap.size, o5, (by simp)⟩ sR); have k0 := (box_of EZ5.out).1 0 _ rfl; have k1 := (box_of EZ5.out).1 1 _ rfl; have kz := (box_of EZ5.out).2)
                    | (have F := hide (finA HD5.out (show OwnP x5 x4.heap.size x5.heap.size (.slice aH pR.length cH) pR from o5) (HD4.out.size) sR))); clear o5 b5; unfold netV)
            | fail)
        all_goals (go_wp2_with fail; go_meet; obtain ⟨b, hF⟩ := F.out; exact ⟨_, aH, cH, b, rfl, rfl, hide hF.1, hide hF.2.1, hide hF.2.2.1, hF.2.2.2.1, hF.2.2.2.2.1, hF.2.2.2.2.2⟩)
      case rest =>
      obtain ⟨gH, aH, cH, bH, rfl, rfl, HHB, HH, HDq, _, _, _⟩ := hcut
      have e3 := HDq.out
      replace HB := hide (HB.out.trans (e3.mono HB.out.size))
      replace HW := hide (HW.out.below e3)
      replace H6 := hide (H6.out.below e3)
      replace HG := hide (HG.out.below e3)
      replace HA := hide (HA.out.below e3)
      clear e3 HDq HIat HPat HD0 f0 f1 f2 f3 f4 f5
      have k0 := (box_of HHB.out).1 0 _ rfl
      have k1 := (box_of HHB.out).1 1 _ rfl
      have p0 := (box_of H6.out).1 0 _ rfl
      have p1 := (box_of H6.out).1 1 _ rfl
      go_wp2_with fail
      refine (eqNet _ sR _ _ pR _ _ (HH.out.rd HSM.out.2.2 (Nat.le_refl _)) (HW.out.rd HSM.out.2.2 (Nat.le_refl _)) (Nat.le_refl _) (Nat.le_refl _) hl60).mono ?_
      rintro e w16 ⟨rfl, b16⟩
      replace HB := hide (HB.out.trans (b16.mono HB.out.size))
      replace HG := hide (HG.out.below b16)
      replace HA := hide (HA.out.below b16)
      clear b16 p0 p1 k0 k1
      have k0 := (box_of HA.out).1 0 _ rfl
      have k1 := (box_of HA.out).1 1 _ rfl
      go_wp2_with fail
      refine (heldNet1 _ _ _ sR _ pR HG.out HTR.out).mono ?_
      rintro e w17 ⟨rfl, b17⟩
      replace HB := hide (HB.out.trans (b17.mono HB.out.size))
      clear b17 k0 k1
      go_wp2
      go_ret
      exact ⟨rfl, HB.out⟩

set_option maxRecDepth 100000 in
theorem lifted (os : Os) (started : os.Started) (H : Type) (enc : TypeId × Value → H) :
    ReturnsInHanded {} Try.checked os 6 .any (Rows.fnExactPostSpec.pre6 enc Try.prog Try.f6 Rows.fnExactPostRow.domain false) (Rows.fnExactPostSpec.post enc Try.prog Try.f6 false true false false) := by
  refine returnsInHanded_of_change (C := Try.checked) own started (by kernel_rfl) Try.func6
    (ChangeSpec.witness6 (enc := enc) (C := Try.checked) false ⟨#[], #[.agg #[.int .i64 0, .slice none 0 0], .agg #[.int .i64 0, .int .i64 0, .slice none 0 0, .bool false]], []⟩ 8 (by kernel_rfl) (by kernel_rfl) (by kernel_rfl) (by kernel_rfl)) ?_
  intro W base args ds gs before hval0 hW hcnd _
  have hval : ∀ (j : Nat) t v, Try.f6.params[j]? = some t → args[j]? = some v → Value.okWide Try.prog W .any base t v := hval0
  have hW' := hW
  obtain ⟨p, q, hA0, hV, rfl, hfz, hnd⟩ := hW
  have hA : DataW.TrodAll enc Try.prog W 0 (fun _ => true) true Try.f6.params.toList args.toList ds p := hA0
  rw [Try.params6] at hA hval
  obtain ⟨v0, vs0, d0, ds0, p0, q0, hargs, rfl, rfl, h0, r0⟩ := trodAll_cons hA
  obtain ⟨v1, vs1, d1, ds1, p1, q1, rfl, rfl, rfl, h1, r1⟩ := trodAll_cons r0
  obtain ⟨rfl, rfl, rfl⟩ := trodAll_nil r1
  obtain rfl : args = #[v0, v1] := by cases args; simp_all
  obtain ⟨rfl, rfl⟩ := trodVars_none hV
  have k0 := h0
  have lt0 : ∀ x ∈ p0, x.block < W.heap.size := by obtain ⟨m, hm⟩ := k0; exact DataW.trod_lt m _ _ _ hm
  have w0 := openNet (hval 0 46 v0 rfl rfl) h0
  have k1 := h1
  have lt1 : ∀ x ∈ p1, x.block < W.heap.size := by obtain ⟨m, hm⟩ := k1; exact DataW.trod_lt m _ _ _ hm
  have w1 := openPk (hval 1 51 v1 rfl rfl) h1
  clear hA0 hval0
  refine (walk v0 v1 W w0 w1).mono fun e W' ⟨he, bel⟩ => ?_
  subst he
  exact ⟨_, rfl, _, _, _, [], _, [], hW', trodAll_mk1 (shut_bool Try.underlying4 _), (trodAll_cons_mk (Below.trod laidOut (by kernel_rfl) (of_decide_eq_true (by kernel_rfl)) k0 bel lt0) (trodAll_cons_mk (Below.trod laidOut (by kernel_rfl) (of_decide_eq_true (by kernel_rfl)) k1 bel lt1) trodAll_mk0)), rfl, bel.frame _, fun h => by cases h⟩

theorem over : Rows.fnExactPostRow.holds Try.pinned (OpenSpec.ofChange Rows.fnExactPostSpec) :=
  OpenClaim.holds_of_wide 6 Try.f6 rfl rfl rfl rfl rfl rfl rfl ⟨rfl, rfl, rfl, rfl, rfl⟩ rfl rfl rfl rfl rfl (by kernel_rfl) Try.func6 (by kernel_rfl)
    (of_decide_eq_true (by kernel_rfl)) (by unfold Func.isWrapper; first | (rw [if_pos (by decide +kernel)]; kernel_rfl) | (rw [if_neg (by decide +kernel)]; exact ⟨rfl, rfl⟩))
    (fun os started H enc _ => lifted os started H enc)

end Go.Proofs.Ytmdpbhikemmogaa.fnExactPost
namespace Go.Proofs.Ytmdpbhikemmogaa
theorem fnExactPost_holds : Rows.FnExactPostSaid := fnExactPost.over
#print axioms fnExactPost_holds
end Go.Proofs.Ytmdpbhikemmogaa
