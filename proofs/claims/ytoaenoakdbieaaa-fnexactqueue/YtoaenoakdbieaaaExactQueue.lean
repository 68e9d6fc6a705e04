/-
  Proved: at every sender and every message the program's Queue answers as its model does, in memory of its own, and writes into no argument (the law FnExactQueue returns true), without any condition.
-/
import Derived.Test.YtoaenoakdbieaaaRows
import Derived.Test.YtoaenoakdbieaaaQueLaw
import Derived.Deep.CutRange
import Derived.Deep.RegionWith
import Derived.BigRegion
import Derived.WalkKit
import Derived.ProofKit
import Derived.OpenShut
import Derived.ShutString
import Derived.ChangeOld
import Derived.Below
namespace Go.Proofs.Ytoaenoakdbieaaa.fnExactQueue
open Go.ChangeShapes Go.WideShapes Go.ChangeAt Go.RowKit
open Go.ChangeMaps (open_string shut_string)
set_option linter.unusedVariables false

theorem own : ownKnob Try.prog.godebug = none := by kernel_rfl
theorem laidOut : laidOutB Try.prog = true := by kernel_rfl
attribute [local go_sem ↓] Go.wp_at_zero Go.wp_at_succ
set_option maxRecDepth 100000 in
set_option maxHeartbeats 16000000 in
theorem walk (v0 v1 : Value) (w : World) (h0 : IsSnd w v0) (h1 : IsMsg w v1) :
    Calls Try.prog 6 #[v0, v1] w fun e w' => e = .returned (.bool true) ∧ Below w.heap.size w w' := by
  obtain ⟨size, lv, xs, rfl, _, hrd, hml, hraw⟩ := h0
  obtain ⟨mk, mi, mu, mc, mn, cv, nv, cs, ns, rfl, hcv, hcl, hnv, hnl⟩ := h1
  have HR := hide (And.intro hrd hraw)
  have HRP : Hid (Mt w w.heap.size (⟨mk, mi, mu, mc, mn, cs, ns⟩, cv, nv)) := hide ⟨hcv, hnv⟩
  obtain ⟨_, a, cap, rfl, _⟩ := hrd
  obtain ⟨pa, pc, e1, _⟩ := cells_at hcv
  obtain ⟨pb, pd, e2, _⟩ := notes_at hnv
  subst e1 e2
  clear hraw hcv hnv
  obtain ⟨m, hmE⟩ : ∃ m : Ms, m = ⟨mk, mi, mu, mc, mn, cs, ns⟩ := ⟨_, rfl⟩
  rw [← hmE] at HRP
  obtain ⟨rfl, rfl, rfl, rfl, rfl, rfl, rfl⟩ : mk = m.k ∧ mi = m.i ∧ mu = m.u ∧ mc = m.c ∧ mn = m.n ∧ cs = m.cs ∧ ns = m.ns := by rw [hmE]; exact ⟨rfl, rfl, rfl, rfl, rfl, rfl, rfl⟩
  clear hmE
  generalize hn : xs.length = n at *
  have HN := hide hn
  clear hn
  have bA := ((Below.refl w.heap.size w).alloc (Nat.le_refl _) (.cells #[.int .i64 size, .slice a n cap] 46)).alloc (by simp) (.cells #[.int .i64 m.k, .int .i64 m.i, .int .i64 m.u, .int .i64 m.c, .int .i64 m.n, .slice pa m.cs.length pc, .slice pb m.ns.length pd] 58)
  have HX : Hid (Bx ((w.alloc (.cells #[.int .i64 size, .slice a n cap] 46)).alloc (.cells #[.int .i64 m.k, .int .i64 m.i, .int .i64 m.u, .int .i64 m.c, .int .i64 m.n, .slice pa m.cs.length pc, .slice pb m.ns.length pd] 58)) w.heap.size #[.int .i64 size, .slice a n cap] 46) := hide ((Below.heap_alloc _ _ _ (by simp)).trans (heap_alloc_new w _))
  have HV : Hid (Bx ((w.alloc (.cells #[.int .i64 size, .slice a n cap] 46)).alloc (.cells #[.int .i64 m.k, .int .i64 m.i, .int .i64 m.u, .int .i64 m.c, .int .i64 m.n, .slice pa m.cs.length pc, .slice pb m.ns.length pd] 58)) (w.heap.size + 1) #[.int .i64 m.k, .int .i64 m.i, .int .i64 m.u, .int .i64 m.c, .int .i64 m.n, .slice pa m.cs.length pc, .slice pb m.ns.length pd] 58) := hide (by have := Bx.new (w.alloc (.cells #[.int .i64 size, .slice a n cap] 46)) #[.int .i64 m.k, .int .i64 m.i, .int .i64 m.u, .int .i64 m.c, .int .i64 m.n, .slice pa m.cs.length pc, .slice pb m.ns.length pd] 58; simpa only [World.size_alloc] using this)
  have HB := hide bA
  go_enter Try.func6, Try.ntmps6
  go_wp2_with fail
  refine (szSnd _ size _ xs (by rw [HN.out]; exact HR.out.1.at bA) (fun x hx => (HR.out.2 x hx).below bA) (by rw [HN.out]; exact hml)).mono ?_
  rintro e w1 ⟨r, rfl, hr, b1⟩
  have HRD : Hid (0 ≤ r → r = 1048576 - (totS (xs.map Prod.fst) : Int) ∧ RdS w w.heap.size (.slice a n cap) (xs.map Prod.fst)) := hide (fun h => ⟨(hr h).1, ⟨xs, rfl, by rw [HN.out]; exact HR.out.1, fun x hx => (HR.out.2 x hx).1⟩⟩)
  replace HB := hide (HB.out.trans (b1.mono HB.out.size))
  replace HX := hide (HX.out.below b1)
  replace HV := hide (HV.out.below b1)
  clear b1 bA hr HR
  by_cases hr0 : r < 0
  · go_wp2
    go_ret
    exact ⟨rfl, HB.out⟩
  · obtain ⟨ht, hrd⟩ := HRD.out (by omega)
    have hlen : n = (xs.map Prod.fst).length := by rw [← HN.out]; simp
    have htl := totS_len (xs.map Prod.fst)
    clear HRD HN
    generalize xs.map Prod.fst = ps at *
    subst hlen
    have hr1 : 0 ≤ r := by omega
    have hr2 : r ≤ 1048576 := by omega
    have HTT := hide (And.intro ht htl)
    clear ht htl
    have q0 := (box_of HV.out).1 0 _ rfl
    have q1 := (box_of HV.out).1 1 _ rfl
    have q2 := (box_of HV.out).1 2 _ rfl
    have q3 := (box_of HV.out).1 3 _ rfl
    have q4 := (box_of HV.out).1 4 _ rfl
    have q5 := (box_of HV.out).1 5 _ rfl
    have q6 := (box_of HV.out).1 6 _ rfl
    go_wp2_with fail
    refine (szMsgL m.k m.i m.u m.c m.n pa pb m.cs.length pc m.ns.length pd r _ hr1 hr2 hcl hnl).mono ?_
    rintro e w2 ⟨rfl, b2⟩
    replace HB := hide (HB.out.trans (b2.mono HB.out.size))
    replace HX := hide (HX.out.below b2)
    replace HV := hide (HV.out.below b2)
    clear b2 q0 q1 q2 q3 q4 q5 q6
    by_cases hlt : szL r m.cs.length m.ns.length < 0
    · go_wp2
      go_ret
      exact ⟨rfl, HB.out⟩
    have hml2 : m.cs.length + m.ns.length ≤ 1048576 := by
      unfold szL at hlt
      by_cases h1 : r < (m.cs.length : Int)
      · rw [if_pos h1] at hlt; omega
      · rw [if_neg h1] at hlt
        by_cases h2 : r - (m.cs.length : Int) < (m.ns.length : Int)
        · rw [if_pos h2] at hlt; omega
        · omega
    have hm2 : ps.length ≤ 1048576 := by have := HTT.out; omega
    have HT3 : Hid (1 + 5 * totS ps ≤ 10000000) := hide (by have := HTT.out; omega)
    have HPG : Hid (GoodM m) := hide ⟨by omega, by omega⟩
    have HP := HRP
    have HI := hide hrd
    have HGD : Hid (GoodS ps) := hide (goodS (by have := HTT.out; omega))
    obtain ⟨R, hR⟩ : ∃ R, quR size ps m = R := ⟨_, rfl⟩
    have HS : Hid (∀ (W : World) (V U U' : Value), RdS W W.heap.size V ps → Mt W W.heap.size (m, U, U') → Calls Try.prog 29 #[sndV size V, msV m U U'] W (ansQ W R)) := hide (fun W V U U' h h' => hR ▸ queueSpec W size V ps m U U' h h' hm2 HGD.out HPG.out)
    have HM : Hid (∀ (W : World) (V U U' : Value), RdS W W.heap.size V ps → Mt W W.heap.size (m, U, U') → Calls Try.prog 31 #[sndV size V, msV m U U'] W (ansQ W R)) := hide (fun W V U U' h h' => hR ▸ queueImpl W size V ps m U U' h h' hm2 HGD.out HPG.out)
    have HSM : Hid (GoodS R.1.2 ∧ totS R.1.2 ≤ totS ps + (m.cs.length + m.ns.length + 1) ∧ R.1.2.length ≤ ps.length + 1) := hide (hR ▸ quR_good HGD.out HPG.out)
    have HLR : Hid (R.1.2.length ≤ 1048576) := hide (by
      rw [← hR]
      unfold quR
      cases hq : sOk size (ps ++ [m])
      · exact hm2
      · exact Nat.le_trans (sOk_all hq).2.1 (by omega))
    clear hR hrd hml HRP
    obtain ⟨⟨sR, pR⟩, okR⟩ := R
    simp only at HSM HLR
    have hl60 : pR.length ≤ 1048576 := HLR.out
    have HTR : Hid (1 + 5 * totS pR ≤ 50000000) := hide (by have := HSM.out.2.1; have := HT3.out; omega)
    have hne : (okR != okR) = false := by simp
    have hlt0 := HX.out.lt
    have hlt1 := HV.out.lt
    go_wp2_with fail
    have u0 := (box_of HX.out).1 0 _ rfl
    have u1 := (box_of HX.out).1 1 _ rfl
    have f0 := u0
    have f1 := u1
    have f2 := (box_of HV.out).1 0 _ rfl
    have f3 := (box_of HV.out).1 1 _ rfl
    have f4 := (box_of HV.out).1 2 _ rfl
    have f5 := (box_of HV.out).1 3 _ rfl
    have f6 := (box_of HV.out).1 4 _ rfl
    have f7 := (box_of HV.out).1 5 _ rfl
    have f8 := (box_of HV.out).1 6 _ rfl
    clear u0 u1
    have HD0 := hide ((Below.refl w2.heap.size w2).drew)
    have HIat : Hid (∀ W, Below w2.heap.size w2 W → RdS W W.heap.size (.slice a ps.length cap) ps) := hide (fun W h => HI.out.at (HB.out.trans (h.mono HB.out.size)))
    have HPat : Hid (∀ W, Below w2.heap.size w2 W → Mt W W.heap.size (m, .slice pa m.cs.length pc, .slice pb m.ns.length pd)) := hide (fun W h => HP.out.at (HB.out.trans (h.mono HB.out.size)))
    go_cut [6, 7] from 27 to 34 (fun s t wq => ∃ g aW cW b, s = .pointer (some ⟨g, 0, none⟩) ∧ t = .bool okR ∧ Hid (Bx wq g #[.int .i64 sR, .slice aW pR.length cW] 51) ∧ Hid (OwnS wq b wq.heap.size (.slice aW pR.length cW) pR) ∧ Hid (Below w2.heap.size w2 wq) ∧ w2.heap.size ≤ b ∧ w2.heap.size ≤ g ∧ g < wq.heap.size)
    case first =>
      go_region_held_law (fun w' => w'.cell? ⟨w.heap.size, 0, none⟩ = some (.int .i64 size) ∧ w'.cell? ⟨w.heap.size, 1, none⟩ = some (.slice a ps.length cap) ∧ w'.cell? ⟨w.heap.size + 1, 0, none⟩ = some (.int .i64 m.k) ∧ w'.cell? ⟨w.heap.size + 1, 1, none⟩ = some (.int .i64 m.i) ∧ w'.cell? ⟨w.heap.size + 1, 2, none⟩ = some (.int .i64 m.u) ∧ w'.cell? ⟨w.heap.size + 1, 3, none⟩ = some (.int .i64 m.c) ∧ w'.cell? ⟨w.heap.size + 1, 4, none⟩ = some (.int .i64 m.n) ∧ w'.cell? ⟨w.heap.size + 1, 5, none⟩ = some (.slice pa m.cs.length pc) ∧ w'.cell? ⟨w.heap.size + 1, 6, none⟩ = some (.slice pb m.ns.length pd))
        (first | (refine ⟨?_, ?_, ?_, ?_, ?_, ?_, ?_, ?_, ?_⟩ <;> ((repeat rw [cell_setNe (by dsimp only; omega)]) <;> assumption)) | (go_keep; done))
        (first
          | (refine step_callQ (some 29) rfl rfl 25 _ _ rfl #[sndV size (.slice a ps.length cap)] (by kernel_rfl) (toSnd _ size _ ps ?_ hm2 HGD.out) ?_; (first | exact HIat.out w2.drew HD0.out | exact HIat.out (w2.drew.alloc (.cells #[.int .i64 0, .slice none 0 0] 51)) (HD0.out.alloc HD0.out.size _)); rintro e x3 ⟨y3, rfl, o3, b3⟩; refine ⟨_, rfl, ?_⟩; obtain ⟨a3, c3, rfl⟩ := o3.shape; have HD3 : Hid (Below w2.heap.size w2 x3) := (by first | exact hide (nxt HD0.out b3) | exact hide (nxtZ (l := w2.drew) (o := (.cells #[.int .i64 0, .slice none 0 0] 51)) HD0.out b3)); have hs3 := HD3.out.size; (first | (have EZ3 : Hid (Bx x3 w2.heap.size #[.int .i64 0, .slice none 0 0] 51) := hide (newZ (l := w2.drew) (vs := #[.int .i64 0, .slice none 0 0]) (T := 51) b3); have HZ3 : Hid (w2.heap.size ≤ w2.heap.size) := hide (Nat.le_refl _)) | skip); have g0 := (HD3.out.cell (p := ⟨w.heap.size, 0, none⟩) (by dsimp only; omega)).trans f0; have g1 := (HD3.out.cell (p := ⟨w.heap.size, 1, none⟩) (by dsimp only; omega)).trans f1; have g2 := (HD3.out.cell (p := ⟨w.heap.size + 1, 0, none⟩) (by dsimp only; omega)).trans f2; have g3 := (HD3.out.cell (p := ⟨w.heap.size + 1, 1, none⟩) (by dsimp only; omega)).trans f3; have g4 := (HD3.out.cell (p := ⟨w.heap.size + 1, 2, none⟩) (by dsimp only; omega)).trans f4; have g5 := (HD3.out.cell (p := ⟨w.heap.size + 1, 3, none⟩) (by dsimp only; omega)).trans f5; have g6 := (HD3.out.cell (p := ⟨w.heap.size + 1, 4, none⟩) (by dsimp only; omega)).trans f6; have g7 := (HD3.out.cell (p := ⟨w.heap.size + 1, 5, none⟩) (by dsimp only; omega)).trans f7; have g8 := (HD3.out.cell (p := ⟨w.heap.size + 1, 6, none⟩) (by dsimp only; omega)).trans f8; have HN3 := hide (o3.rd (Nat.le_refl _)); clear o3 b3; unfold sndV)
          | (refine step_callQ (some 31) rfl rfl 30 _ _ rfl #[msV m (.slice pa m.cs.length pc) (.slice pb m.ns.length pd)] (by kernel_rfl) (toMs _ m _ _ ?_ HPG.out) ?_; (first | exact HPat.out x3 HD3.out | exact HPat.out (x3.alloc (.cells #[.int .i64 0, .slice none 0 0] 51)) (HD3.out.alloc HD3.out.size _)); rintro e x4 ⟨a4, c4, a6, c6, rfl, o4, b4⟩; refine ⟨_, rfl, ?_⟩; have HD4 : Hid (Below w2.heap.size w2 x4) := (by first | exact hide (nxt HD3.out b4) | exact hide (nxtZ (l := x3) (o := (.cells #[.int .i64 0, .slice none 0 0] 51)) HD3.out b4)); have hs4 := HD4.out.size; (first | (have EZ4 := hide (newZ (l := x3) (vs := #[.int .i64 0, .slice none 0 0]) (T := 51) b4); have HZ4 : Hid (w2.heap.size ≤ x3.heap.size) := hide HD3.out.size) | (have EZ4 := hide (EZ3.out.below b4); have HZ4 := HZ3) | skip); have h0 := (HD4.out.cell (p := ⟨w.heap.size, 0, none⟩) (by dsimp only; omega)).trans f0; have h1 := (HD4.out.cell (p := ⟨w.heap.size, 1, none⟩) (by dsimp only; omega)).trans f1; have h2 := (HD4.out.cell (p := ⟨w.heap.size + 1, 0, none⟩) (by dsimp only; omega)).trans f2; have h3 := (HD4.out.cell (p := ⟨w.heap.size + 1, 1, none⟩) (by dsimp only; omega)).trans f3; have h4 := (HD4.out.cell (p := ⟨w.heap.size + 1, 2, none⟩) (by dsimp only; omega)).trans f4; have h5 := (HD4.out.cell (p := ⟨w.heap.size + 1, 3, none⟩) (by dsimp only; omega)).trans f5; have h6 := (HD4.out.cell (p := ⟨w.heap.size + 1, 4, none⟩) (by dsimp only; omega)).trans f6; have h7 := (HD4.out.cell (p := ⟨w.heap.size + 1, 5, none⟩) (by dsimp only; omega)).trans f7; have h8 := (HD4.out.cell (p := ⟨w.heap.size + 1, 6, none⟩) (by dsimp only; omega)).trans f8; have HP4 := hide o4.mt; have HN4 : Hid (RdS x4 x4.heap.size (.slice a3 ps.length c3) ps) := (by first | exact hide (HN3.out.at b4) | exact hide ((HN3.out.at ((Below.refl _ _).alloc (Nat.le_refl _) (.cells #[.int .i64 0, .slice none 0 0] 51))).at b4)); clear o4 b4; unfold msV)
          | (refine step_callQ (some 32) rfl rfl 29 _ _ rfl #[sndV size (.slice a3 ps.length c3), msV m (.slice a4 m.cs.length c4) (.slice a6 m.ns.length c6)] (by kernel_rfl) (HS.out _ _ _ _ ?_ ?_) ?_; (first | exact HN4.out | exact HN4.out.at ((Below.refl x4.heap.size x4).alloc (Nat.le_refl _) (.cells #[.int .i64 0, .slice none 0 0] 51))); (first | exact HP4.out | exact HP4.out.at ((Below.refl x4.heap.size x4).alloc (Nat.le_refl _) (.cells #[.int .i64 0, .slice none 0 0] 51))); rintro e x5 ⟨y5, rfl, o5, b5⟩; refine ⟨_, rfl, ?_⟩; obtain ⟨aW, cW, rfl⟩ := o5.shape; simp only at o5; have HD5 : Hid (Below w2.heap.size w2 x5) := (by first | exact hide (nxt HD4.out b5) | exact hide (nxtZ (l := x4) (o := (.cells #[.int .i64 0, .slice none 0 0] 51)) HD4.out b5)); have hs5 := HD5.out.size; (first | (have EZ5 := hide (newZ (l := x4) (vs := #[.int .i64 0, .slice none 0 0]) (T := 51) b5); have HZ5 : Hid (w2.heap.size ≤ x4.heap.size) := hide HD4.out.size) | (have EZ5 := hide (EZ4.out.below b5); have HZ5 := HZ4) | skip); have j0 := (HD5.out.cell (p := ⟨w.heap.size, 0, none⟩) (by dsimp only; omega)).trans f0; have j1 := (HD5.out.cell (p := ⟨w.heap.size, 1, none⟩) (by dsimp only; omega)).trans f1; have j2 := (HD5.out.cell (p := ⟨w.heap.size + 1, 0, none⟩) (by dsimp only; omega)).trans f2; have j3 := (HD5.out.cell (p := ⟨w.heap.size + 1, 1, none⟩) (by dsimp only; omega)).trans f3; have j4 := (HD5.out.cell (p := ⟨w.heap.size + 1, 2, none⟩) (by dsimp only; omega)).trans f4; have j5 := (HD5.out.cell (p := ⟨w.heap.size + 1, 3, none⟩) (by dsimp only; omega)).trans f5; have j6 := (HD5.out.cell (p := ⟨w.heap.size + 1, 4, none⟩) (by dsimp only; omega)).trans f6; have j7 := (HD5.out.cell (p := ⟨w.heap.size + 1, 5, none⟩) (by dsimp only; omega)).trans f7; have j8 := (HD5.out.cell (p := ⟨w.heap.size + 1, 6, none⟩) (by dsimp only; omega)).trans f8; 
                (first
                  | (have F := hide (finZ EZ5.out HZ5.out HD5.out ⟨x4.heap.size, o5, EZ4.out.lt⟩ sR); have k0 := (box_of EZ5.out).1 0 _ rfl; have k1 := (box_of EZ5.out).1 1 _ rfl; have kz := (box_of EZ5.out).2)
                  | (have F := hide (finZ EZ5.out HZ5.out HD5.out ⟨(x4.alloc (.cells #[.int .i64 0, .slice none 0 0] 51)).heap.size, o5, (by simp)⟩ sR); have k0 := (box_of EZ5.out).1 0 _ rfl; have k1 := (box_of EZ5.out).1 1 _ rfl; have kz := (box_of EZ5.out).2)
                  | (have F := hide (finA HD5.out (show OwnS x5 x4.heap.size x5.heap.size (.slice aW pR.length cW) pR from o5) (HD4.out.size) sR))); clear o5 b5; unfold sndV)
          | fail)
      all_goals (go_wp2_with fail; go_meet; obtain ⟨b, hF⟩ := F.out; exact ⟨_, aW, cW, b, rfl, rfl, hide hF.1, hide hF.2.1, hide hF.2.2.1, hF.2.2.2.1, hF.2.2.2.2.1, hF.2.2.2.2.2⟩)
    case rest =>
      obtain ⟨g6, aW, cW, bW, rfl, rfl, H6, HW, HDq, hbW, hg6, hg6'⟩ := hcut
      have hsc := HDq.out.size
      have e3 := HDq.out
      replace HB := hide (HB.out.trans (e3.mono HB.out.size))
      replace HX := hide (HX.out.below e3)
      replace HV := hide (HV.out.below e3)
      clear e3 HDq HIat HPat HD0 f0 f1 f2 f3 f4 f5 f6 f7 f8
      generalize hw3 : wc.heap.size = s3 at *
      have HW3 := hide hw3
      clear hw3
      have f0 := (box_of HX.out).1 0 _ rfl
      have f1 := (box_of HX.out).1 1 _ rfl
      go_wp2_with fail
      clear f0 f1
      refine (toSnd _ size _ ps (HI.out.at HB.out) hm2 HGD.out).mono ?_
      rintro e w4 ⟨vX, rfl, oX, b4⟩
      obtain ⟨aX, cX, rfl⟩ := oX.shape
      have hs4 : s3 ≤ w4.heap.size := by have := b4.size; have := HW3.out; omega
      have HXO : Hid (OwnS w4 s3 w4.heap.size (.slice aX ps.length cX) ps) := hide (HW3.out ▸ oX)
      replace HB := hide (HB.out.trans (b4.mono HB.out.size))
      replace HX := hide (HX.out.below b4)
      replace HV := hide (HV.out.below b4)
      replace HW := hide (HW.out.below b4)
      replace H6 := hide (H6.out.below b4)
      clear b4 oX
      unfold sndV
      have bD := (Below.refl w4.heap.size w4).alloc (Nat.le_refl _) (.cells #[.int .i64 size, .slice aX ps.length cX] 51)
      have H8 := hide (Bx.new w4 #[.int .i64 size, .slice aX ps.length cX] 51)
      have hsw4' : (w4.alloc (.cells #[.int .i64 size, .slice aX ps.length cX] 51)).heap.size = w4.heap.size + 1 := by simp
      replace HB := hide (HB.out.trans (bD.mono HB.out.size))
      replace HX := hide (HX.out.below bD)
      replace HV := hide (HV.out.below bD)
      replace HW := hide (HW.out.below bD)
      replace H6 := hide (H6.out.below bD)
      replace HXO := hide (HXO.out.below bD)
      clear bD
      have q0 := (box_of HV.out).1 0 _ rfl
      have q1 := (box_of HV.out).1 1 _ rfl
      have q2 := (box_of HV.out).1 2 _ rfl
      have q3 := (box_of HV.out).1 3 _ rfl
      have q4 := (box_of HV.out).1 4 _ rfl
      have q5 := (box_of HV.out).1 5 _ rfl
      have q6 := (box_of HV.out).1 6 _ rfl
      go_wp2_with fail
      clear q0 q1 q2 q3 q4 q5 q6
      generalize w4.alloc (.cells #[.int .i64 size, .slice aX ps.length cX] 51) = w4a at *
      refine (toMs _ m _ _ (HP.out.at HB.out) HPG.out).mono ?_
      rintro e w5 ⟨aU, cU, aY, cY, rfl, oU, b5⟩
      have HU := hide oU
      have hs5 := b5.size
      replace HB := hide (HB.out.trans (b5.mono HB.out.size))
      replace HX := hide (HX.out.below b5)
      replace HV := hide (HV.out.below b5)
      replace HW := hide (HW.out.below b5)
      replace H6 := hide (H6.out.below b5)
      replace HXO := hide (HXO.out.below b5)
      replace H8 := hide (H8.out.below b5)
      clear b5 oU
      unfold msV msgV
      have bD := (Below.refl w5.heap.size w5).alloc (Nat.le_refl _) (.cells #[.int .i64 m.k, .int .i64 m.i, .int .i64 m.u, .int .i64 m.c, .int .i64 m.n, .slice aU m.cs.length cU, .slice aY m.ns.length cY] 65)
      have H9 := hide (Bx.new w5 #[.int .i64 m.k, .int .i64 m.i, .int .i64 m.u, .int .i64 m.c, .int .i64 m.n, .slice aU m.cs.length cU, .slice aY m.ns.length cY] 65)
      have hsw5' : (w5.alloc (.cells #[.int .i64 m.k, .int .i64 m.i, .int .i64 m.u, .int .i64 m.c, .int .i64 m.n, .slice aU m.cs.length cU, .slice aY m.ns.length cY] 65)).heap.size = w5.heap.size + 1 := by simp
      replace HB := hide (HB.out.trans (bD.mono HB.out.size))
      replace HX := hide (HX.out.below bD)
      replace HV := hide (HV.out.below bD)
      replace HW := hide (HW.out.below bD)
      replace H6 := hide (H6.out.below bD)
      replace HXO := hide (HXO.out.below bD)
      replace H8 := hide (H8.out.below bD)
      replace HU := hide (HU.out.below bD)
      clear bD
      have g0 := (box_of H8.out).1 0 _ rfl
      have g1 := (box_of H8.out).1 1 _ rfl
      go_wp2_with fail
      clear g0 g1
      generalize w5.alloc (.cells #[.int .i64 m.k, .int .i64 m.i, .int .i64 m.u, .int .i64 m.c, .int .i64 m.n, .slice aU m.cs.length cU, .slice aY m.ns.length cY] 65) = w5a at *
      refine (HM.out _ _ _ _ (HXO.out.rd (Nat.le_refl _)) HU.out.mt).mono ?_
      rintro e w6 ⟨vG, rfl, oG, b6⟩
      obtain ⟨aG, cG, rfl⟩ := oG.shape
      have HG := hide oG
      have hs6 := b6.size
      replace HB := hide (HB.out.trans (b6.mono HB.out.size))
      replace HX := hide (HX.out.below b6)
      replace HV := hide (HV.out.below b6)
      replace HW := hide (HW.out.below b6)
      replace H6 := hide (H6.out.below b6)
      replace HXO := hide (HXO.out.below b6)
      replace H8 := hide (H8.out.below b6)
      replace HU := hide (HU.out.below b6)
      replace H9 := hide (H9.out.below b6)
      clear b6 oG
      unfold sndV
      simp only at HG ⊢
      have bD := (Below.refl w6.heap.size w6).alloc (Nat.le_refl _) (.cells #[.int .i64 sR, .slice aG pR.length cG] 51)
      have HA := hide (Bx.new w6 #[.int .i64 sR, .slice aG pR.length cG] 51)
      have hsw6' : (w6.alloc (.cells #[.int .i64 sR, .slice aG pR.length cG] 51)).heap.size = w6.heap.size + 1 := by simp
      replace HB := hide (HB.out.trans (bD.mono HB.out.size))
      replace HX := hide (HX.out.below bD)
      replace HV := hide (HV.out.below bD)
      replace HW := hide (HW.out.below bD)
      replace H6 := hide (H6.out.below bD)
      replace HXO := hide (HXO.out.below bD)
      replace H8 := hide (H8.out.below bD)
      replace HU := hide (HU.out.below bD)
      replace H9 := hide (H9.out.below bD)
      replace HG := hide (HG.out.below bD)
      clear bD
      have p0 := (box_of H6.out).1 0 _ rfl
      have p1 := (box_of H6.out).1 1 _ rfl
      go_wp2_with fail
      clear p0 p1
      generalize w6.alloc (.cells #[.int .i64 sR, .slice aG pR.length cG] 51) = w6a at *
      refine (eqSnd _ sR _ _ pR _ _ (HG.out.rd (Nat.le_refl _)) (HW.out.rd (Nat.le_refl _)) (Nat.le_refl _) (Nat.le_refl _) hl60 HSM.out.1).mono ?_
      rintro e w7 ⟨rfl, b7⟩
      have hs7 := b7.size
      replace HB := hide (HB.out.trans (b7.mono HB.out.size))
      replace HX := hide (HX.out.below b7)
      replace HV := hide (HV.out.below b7)
      replace HW := hide (HW.out.below b7)
      replace H6 := hide (H6.out.below b7)
      replace HXO := hide (HXO.out.below b7)
      replace H8 := hide (H8.out.below b7)
      replace HU := hide (HU.out.below b7)
      replace H9 := hide (H9.out.below b7)
      replace HG := hide (HG.out.below b7)
      replace HA := hide (HA.out.below b7)
      clear b7
      have f0 := (box_of HX.out).1 0 _ rfl
      have f1 := (box_of HX.out).1 1 _ rfl
      have g0 := (box_of H8.out).1 0 _ rfl
      have g1 := (box_of H8.out).1 1 _ rfl
      go_wp2_with fail
      go_cut [58] from 54 to 58 (fun s wq => s = .bool false ∧ Below w7.heap.size w7 wq)
      case first =>
        have HQ : Hid (RdS w7.drew w7.drew.heap.size (.slice a ps.length cap) ps) := hide ((HI.out.at HB.out).drewN 1)
        go_region_with (first
          | (go_at_call 25; refine (toSnd _ size _ ps HQ.out hm2 HGD.out).mono ?_; rintro e w8 ⟨v8, rfl, o8, b8⟩; have HO8 := hide (o8.rd (Nat.le_refl _)); have HY8 := hide (H8.out.below (below_of_drew b8)); have y0 := (box_of HY8.out).1 0 _ rfl; have y1 := (box_of HY8.out).1 1 _ rfl; have HB8 := hide (below_of_drew b8); have K8 := hide ((HXO.out.below (below_of_drew b8)).rd (Nat.le_refl _)); obtain ⟨a8, c8, rfl⟩ := o8.shape; clear b8 o8; unfold sndV)
          | (go_at_call 27; refine (eqSnd _ size _ _ ps _ _ K8.out HO8.out (Nat.le_refl _) (Nat.le_refl _) hm2 HGD.out).mono ?_; rintro e w9 ⟨rfl, b9⟩; have HB9 := hide (HB8.out.trans (b9.mono HB8.out.size)); clear b9))
        all_goals (go_wp2_with fail; go_meet; exact ⟨rfl, HB9.out⟩)
      case rest =>
      obtain ⟨rfl, b9⟩ := hcut
      have hs9 := b9.size
      replace HB := hide (HB.out.trans (b9.mono HB.out.size))
      replace HX := hide (HX.out.below b9)
      replace HV := hide (HV.out.below b9)
      replace HW := hide (HW.out.below b9)
      replace H6 := hide (H6.out.below b9)
      replace HXO := hide (HXO.out.below b9)
      replace H8 := hide (H8.out.below b9)
      replace HU := hide (HU.out.below b9)
      replace H9 := hide (H9.out.below b9)
      replace HG := hide (HG.out.below b9)
      replace HA := hide (HA.out.below b9)
      clear b9 f0 f1 g0 g1
      have f0 := (box_of HV.out).1 0 _ rfl
      have f1 := (box_of HV.out).1 1 _ rfl
      have f2 := (box_of HV.out).1 2 _ rfl
      have f3 := (box_of HV.out).1 3 _ rfl
      have f4 := (box_of HV.out).1 4 _ rfl
      have f5 := (box_of HV.out).1 5 _ rfl
      have f6 := (box_of HV.out).1 6 _ rfl
      have g0 := (box_of H9.out).1 0 _ rfl
      have g1 := (box_of H9.out).1 1 _ rfl
      have g2 := (box_of H9.out).1 2 _ rfl
      have g3 := (box_of H9.out).1 3 _ rfl
      have g4 := (box_of H9.out).1 4 _ rfl
      have g5 := (box_of H9.out).1 5 _ rfl
      have g6 := (box_of H9.out).1 6 _ rfl
      go_wp2_with fail
      go_cut [63] from 59 to 63 (fun s wq => s = .bool false ∧ Below wc.heap.size wc wq)
      case first =>
        have HQ : Hid (Mt wc.drew wc.drew.heap.size (m, .slice pa m.cs.length pc, .slice pb m.ns.length pd)) := hide ((HP.out.at HB.out).drewN 1)
        go_region_with (first
          | (go_at_call 30; refine (toMs _ m _ _ HQ.out HPG.out).mono ?_; rintro e x8 ⟨a8, c8, d8, e8, rfl, o8, b8⟩; have HO8 := hide o8.mt; have HY8 := hide (H9.out.below (below_of_drew b8)); have y0 := (box_of HY8.out).1 0 _ rfl; have y1 := (box_of HY8.out).1 1 _ rfl; have y2 := (box_of HY8.out).1 2 _ rfl; have y3 := (box_of HY8.out).1 3 _ rfl; have y4 := (box_of HY8.out).1 4 _ rfl; have y5 := (box_of HY8.out).1 5 _ rfl; have y6 := (box_of HY8.out).1 6 _ rfl; have HB8 := hide (below_of_drew b8); have K8 := hide ((HU.out.below (below_of_drew b8)).mt); clear b8 o8; unfold msV msgV)
          | (go_at_call 32; refine (eqMs _ m _ _ _ _ K8.out HO8.out HPG.out).mono ?_; rintro e x9 ⟨rfl, b9⟩; have HB9 := hide (HB8.out.trans (b9.mono HB8.out.size)); clear b9))
        all_goals (go_wp2_with fail; go_meet; exact ⟨rfl, HB9.out⟩)
      case rest =>
      obtain ⟨rfl, b9⟩ := hcut
      have hs10 := b9.size
      replace HB := hide (HB.out.trans (b9.mono HB.out.size))
      replace HX := hide (HX.out.below b9)
      replace HV := hide (HV.out.below b9)
      replace HW := hide (HW.out.below b9)
      replace H6 := hide (H6.out.below b9)
      replace HXO := hide (HXO.out.below b9)
      replace H8 := hide (H8.out.below b9)
      replace HU := hide (HU.out.below b9)
      replace H9 := hide (H9.out.below b9)
      replace HG := hide (HG.out.below b9)
      replace HA := hide (HA.out.below b9)
      clear b9 f0 f1 f2 f3 f4 f5 f6 g0 g1 g2 g3 g4 g5 g6
      have g0 := (box_of H8.out).1 0 _ rfl
      have g1 := (box_of H8.out).1 1 _ rfl
      go_wp2_with fail
      refine (markSnd1 _ _ _ size _ ps HXO.out HGD.out (by have := HT3.out; omega)).mono ?_
      rintro e w10 ⟨rfl, _, ob⟩
      have hsB := HB.out.size
      have hsA := ob.size
      replace HB := hide (HB.out.trans (ob.below (by omega) HB.out.size))
      replace HX := hide (HX.out.out ob (by omega))
      replace HV := hide (HV.out.out ob (by omega))
      replace HW := hide (HW.out.out ob (by omega))
      replace H6 := hide (H6.out.out ob (by omega))
      replace H8 := hide (H8.out.out ob (by omega))
      replace H9 := hide (H9.out.out ob (by omega))
      replace HG := hide (HG.out.out ob (by omega))
      replace HA := hide (HA.out.out ob (by omega))
      replace HU := hide (HU.out.out ob (by omega))
      clear ob g0 g1 HXO H8
      have hk0 : ((endS 1 ps : Nat) : Int) ≤ 20000000 := by have := endS_le 1 ps; have := HT3.out; omega
      have HK0 := hide hk0
      clear hk0
      have g0 := (box_of H9.out).1 0 _ rfl
      have g1 := (box_of H9.out).1 1 _ rfl
      have g2 := (box_of H9.out).1 2 _ rfl
      have g3 := (box_of H9.out).1 3 _ rfl
      have g4 := (box_of H9.out).1 4 _ rfl
      have g5 := (box_of H9.out).1 5 _ rfl
      have g6 := (box_of H9.out).1 6 _ rfl
      go_wp2_with fail
      refine (markMs _ _ _ (endS 1 ps) m _ _ HU.out HPG.out (by have := HK0.out; omega)).mono ?_
      rintro e w11 ⟨rfl, ob⟩
      have hsB := HB.out.size
      have hsA := ob.size
      replace HB := hide (HB.out.trans (ob.below (by omega) HB.out.size))
      replace HX := hide (HX.out.out ob (by omega))
      replace HV := hide (HV.out.out ob (by omega))
      replace HW := hide (HW.out.out ob (by omega))
      replace H6 := hide (H6.out.out ob (by omega))
      replace HG := hide (HG.out.out ob (by omega))
      replace HA := hide (HA.out.out ob (by omega))
      clear ob g0 g1 g2 g3 g4 g5 g6 HU H9
      have hk0 : ¬ (((endS 1 ps : Nat) : Int) + 3 * (m.cs.length : Int) + 2 * (m.ns.length : Int) < 0) := by omega
      have p0 := (box_of H6.out).1 0 _ rfl
      have p1 := (box_of H6.out).1 1 _ rfl
      have k0 := (box_of HA.out).1 0 _ rfl
      have k1 := (box_of HA.out).1 1 _ rfl
      go_wp2_with fail
      refine (eqSnd _ sR _ _ pR _ _ (HG.out.rd (Nat.le_refl _)) (HW.out.rd (Nat.le_refl _)) (Nat.le_refl _) (Nat.le_refl _) hl60 HSM.out.1).mono ?_
      rintro e w12 ⟨rfl, b12⟩
      have hs12 := b12.size
      replace HB := hide (HB.out.trans (b12.mono HB.out.size))
      replace HX := hide (HX.out.below b12)
      replace HV := hide (HV.out.below b12)
      replace HW := hide (HW.out.below b12)
      replace H6 := hide (H6.out.below b12)
      replace HG := hide (HG.out.below b12)
      replace HA := hide (HA.out.below b12)
      clear b12 p0 p1 k0 k1 hk0
      have k0 := (box_of HA.out).1 0 _ rfl
      have k1 := (box_of HA.out).1 1 _ rfl
      go_wp2_with fail
      refine (markSnd1 _ _ _ sR _ pR HG.out HSM.out.1 HTR.out).mono ?_
      rintro e w13 ⟨rfl, oG, ob⟩
      have hsB := HB.out.size
      have hsC := ob.size
      replace HB := hide (HB.out.trans (ob.below (by omega) HB.out.size))
      replace HX := hide (HX.out.out ob (by omega))
      replace HV := hide (HV.out.out ob (by omega))
      replace HW := hide (HW.out.out ob (by omega))
      replace H6 := hide (H6.out.out ob (by omega))
      replace HA := hide (HA.out.out ob (by omega))
      replace HG := hide oG
      clear ob oG k0 k1
      have hk1 : ¬ (((endS 1 pR : Nat) : Int) < 0) := by omega
      have hk2 : (((endS 1 pR : Nat) : Int) != ((endS 1 pR : Nat) : Int)) = false := by simp
      have k0 := (box_of HA.out).1 0 _ rfl
      have k1 := (box_of HA.out).1 1 _ rfl
      go_wp2_with fail
      refine (heldSnd1 _ _ _ sR _ pR HG.out HSM.out.1 HTR.out).mono ?_
      rintro e w14 ⟨rfl, b14⟩
      have hs14 := b14.size
      replace HB := hide (HB.out.trans (b14.mono HB.out.size))
      replace HX := hide (HX.out.below b14)
      replace HV := hide (HV.out.below b14)
      replace HW := hide (HW.out.below b14)
      replace H6 := hide (H6.out.below b14)
      replace HG := hide (HG.out.below b14)
      replace HA := hide (HA.out.below b14)
      clear b14 k0 k1
      have hlt0 := HX.out.lt
      have hlt1 := HV.out.lt
      go_wp2_with fail
      have f0 := (box_of HX.out).1 0 _ rfl
      have f1 := (box_of HX.out).1 1 _ rfl
      have f2 := (box_of HV.out).1 0 _ rfl
      have f3 := (box_of HV.out).1 1 _ rfl
      have f4 := (box_of HV.out).1 2 _ rfl
      have f5 := (box_of HV.out).1 3 _ rfl
      have f6 := (box_of HV.out).1 4 _ rfl
      have f7 := (box_of HV.out).1 5 _ rfl
      have f8 := (box_of HV.out).1 6 _ rfl
      have HD0 := hide ((Below.refl w14.heap.size w14).drew)
      have HIat : Hid (∀ W, Below w14.heap.size w14 W → RdS W W.heap.size (.slice a ps.length cap) ps) := hide (fun W h => HI.out.at (HB.out.trans (h.mono HB.out.size)))
      have HPat : Hid (∀ W, Below w14.heap.size w14 W → Mt W W.heap.size (m, .slice pa m.cs.length pc, .slice pb m.ns.length pd)) := hide (fun W h => HP.out.at (HB.out.trans (h.mono HB.out.size)))
      go_cut [15, 16] from 94 to 101 (fun s t wq => ∃ g aH cH b, s = .pointer (some ⟨g, 0, none⟩) ∧ t = .bool okR ∧ Hid (Bx wq g #[.int .i64 sR, .slice aH pR.length cH] 51) ∧ Hid (OwnS wq b wq.heap.size (.slice aH pR.length cH) pR) ∧ Hid (Below w14.heap.size w14 wq) ∧ w14.heap.size ≤ b ∧ w14.heap.size ≤ g ∧ g < wq.heap.size)
      case first =>
        go_region_held_law (fun w' => w'.cell? ⟨w.heap.size, 0, none⟩ = some (.int .i64 size) ∧ w'.cell? ⟨w.heap.size, 1, none⟩ = some (.slice a ps.length cap) ∧ w'.cell? ⟨w.heap.size + 1, 0, none⟩ = some (.int .i64 m.k) ∧ w'.cell? ⟨w.heap.size + 1, 1, none⟩ = some (.int .i64 m.i) ∧ w'.cell? ⟨w.heap.size + 1, 2, none⟩ = some (.int .i64 m.u) ∧ w'.cell? ⟨w.heap.size + 1, 3, none⟩ = some (.int .i64 m.c) ∧ w'.cell? ⟨w.heap.size + 1, 4, none⟩ = some (.int .i64 m.n) ∧ w'.cell? ⟨w.heap.size + 1, 5, none⟩ = some (.slice pa m.cs.length pc) ∧ w'.cell? ⟨w.heap.size + 1, 6, none⟩ = some (.slice pb m.ns.length pd))
          (first | (refine ⟨?_, ?_, ?_, ?_, ?_, ?_, ?_, ?_, ?_⟩ <;> ((repeat rw [cell_setNe (by dsimp only; omega)]) <;> assumption)) | (go_keep; done))
          (first
            | (refine step_callQ (some 96) rfl rfl 25 _ _ rfl #[sndV size (.slice a ps.length cap)] (by kernel_rfl) (toSnd _ size _ ps ?_ hm2 HGD.out) ?_; (first | exact HIat.out w14.drew HD0.out | exact HIat.out (w14.drew.alloc (.cells #[.int .i64 0, .slice none 0 0] 51)) (HD0.out.alloc HD0.out.size _)); rintro e x3 ⟨y3, rfl, o3, b3⟩; refine ⟨_, rfl, ?_⟩; obtain ⟨a3, c3, rfl⟩ := o3.shape; have HD3 : Hid (Below w14.heap.size w14 x3) := (by first | exact hide (nxt HD0.out b3) | exact hide (nxtZ (l := w14.drew) (o := (.cells #[.int .i64 0, .slice none 0 0] 51)) HD0.out b3)); have hs3 := HD3.out.size; (first | (have EZ3 : Hid (Bx x3 w14.heap.size #[.int .i64 0, .slice none 0 0] 51) := hide (newZ (l := w14.drew) (vs := #[.int .i64 0, .slice none 0 0]) (T := 51) b3); have HZ3 : Hid (w14.heap.size ≤ w14.heap.size) := hide (Nat.le_refl _)) | skip); have g0 := (HD3.out.cell (p := ⟨w.heap.size, 0, none⟩) (by dsimp only; omega)).trans f0; have g1 := (HD3.out.cell (p := ⟨w.heap.size, 1, none⟩) (by dsimp only; omega)).trans f1; have g2 := (HD3.out.cell (p := ⟨w.heap.size + 1, 0, none⟩) (by dsimp only; omega)).trans f2; have g3 := (HD3.out.cell (p := ⟨w.heap.size + 1, 1, none⟩) (by dsimp only; omega)).trans f3; have g4 := (HD3.out.cell (p := ⟨w.heap.size + 1, 2, none⟩) (by dsimp only; omega)).trans f4; have g5 := (HD3.out.cell (p := ⟨w.heap.size + 1, 3, none⟩) (by dsimp only; omega)).trans f5; have g6 := (HD3.out.cell (p := ⟨w.heap.size + 1, 4, none⟩) (by dsimp only; omega)).trans f6; have g7 := (HD3.out.cell (p := ⟨w.heap.size + 1, 5, none⟩) (by dsimp only; omega)).trans f7; have g8 := (HD3.out.cell (p := ⟨w.heap.size + 1, 6, none⟩) (by dsimp only; omega)).trans f8; have HN3 := hide (o3.rd (Nat.le_refl _)); clear o3 b3; unfold sndV)
            | (refine step_callQ (some 98) rfl rfl 30 _ _ rfl #[msV m (.slice pa m.cs.length pc) (.slice pb m.ns.length pd)] (by kernel_rfl) (toMs _ m _ _ ?_ HPG.out) ?_; (first | exact HPat.out x3 HD3.out | exact HPat.out (x3.alloc (.cells #[.int .i64 0, .slice none 0 0] 51)) (HD3.out.alloc HD3.out.size _)); rintro e x4 ⟨a4, c4, a6, c6, rfl, o4, b4⟩; refine ⟨_, rfl, ?_⟩; have HD4 : Hid (Below w14.heap.size w14 x4) := (by first | exact hide (nxt HD3.out b4) | exact hide (nxtZ (l := x3) (o := (.cells #[.int .i64 0, .slice none 0 0] 51)) HD3.out b4)); have hs4 := HD4.out.size; (first | (have EZ4 := hide (newZ (l := x3) (vs := #[.int .i64 0, .slice none 0 0]) (T := 51) b4); have HZ4 : Hid (w14.heap.size ≤ x3.heap.size) := hide HD3.out.size) | (have EZ4 := hide (EZ3.out.below b4); have HZ4 := HZ3) | skip); have h0 := (HD4.out.cell (p := ⟨w.heap.size, 0, none⟩) (by dsimp only; omega)).trans f0; have h1 := (HD4.out.cell (p := ⟨w.heap.size, 1, none⟩) (by dsimp only; omega)).trans f1; have h2 := (HD4.out.cell (p := ⟨w.heap.size + 1, 0, none⟩) (by dsimp only; omega)).trans f2; have h3 := (HD4.out.cell (p := ⟨w.heap.size + 1, 1, none⟩) (by dsimp only; omega)).trans f3; have h4 := (HD4.out.cell (p := ⟨w.heap.size + 1, 2, none⟩) (by dsimp only; omega)).trans f4; have h5 := (HD4.out.cell (p := ⟨w.heap.size + 1, 3, none⟩) (by dsimp only; omega)).trans f5; have h6 := (HD4.out.cell (p := ⟨w.heap.size + 1, 4, none⟩) (by dsimp only; omega)).trans f6; have h7 := (HD4.out.cell (p := ⟨w.heap.size + 1, 5, none⟩) (by dsimp only; omega)).trans f7; have h8 := (HD4.out.cell (p := ⟨w.heap.size + 1, 6, none⟩) (by dsimp only; omega)).trans f8; have HP4 := hide o4.mt; have HN4 : Hid (RdS x4 x4.heap.size (.slice a3 ps.length c3) ps) := (by first | exact hide (HN3.out.at b4) | exact hide ((HN3.out.at ((Below.refl _ _).alloc (Nat.le_refl _) (.cells #[.int .i64 0, .slice none 0 0] 51))).at b4)); clear o4 b4; unfold msV)
            | (refine step_callQ (some 99) rfl rfl 31 _ _ rfl #[sndV size (.slice a3 ps.length c3), msV m (.slice a4 m.cs.length c4) (.slice a6 m.ns.length c6)] (by kernel_rfl) (HM.out _ _ _ _ ?_ ?_) ?_; (first | exact HN4.out | exact HN4.out.at ((Below.refl x4.heap.size x4).alloc (Nat.le_refl _) (.cells #[.int .i64 0, .slice none 0 0] 51))); (first | exact HP4.out | exact HP4.out.at ((Below.refl x4.heap.size x4).alloc (Nat.le_refl _) (.cells #[.int .i64 0, .slice none 0 0] 51))); rintro e x5 ⟨y5, rfl, o5, b5⟩; refine ⟨_, rfl, ?_⟩; obtain ⟨aH, cH, rfl⟩ := o5.shape; simp only at o5; have HD5 : Hid (Below w14.heap.size w14 x5) := (by first | exact hide (nxt HD4.out b5) | exact hide (nxtZ (l := x4) (o := (.cells #[.int .i64 0, .slice none 0 0] 51)) HD4.out b5)); have hs5 := HD5.out.size; (first | (have EZ5 := hide (newZ (l := x4) (vs := #[.int .i64 0, .slice none 0 0]) (T := 51) b5); have HZ5 : Hid (w14.heap.size ≤ x4.heap.size) := hide HD4.out.size) | (have EZ5 := hide (EZ4.out.below b5); have HZ5 := HZ4) | skip); have j0 := (HD5.out.cell (p := ⟨w.heap.size, 0, none⟩) (by dsimp only; omega)).trans f0; have j1 := (HD5.out.cell (p := ⟨w.heap.size, 1, none⟩) (by dsimp only; omega)).trans f1; have j2 := (HD5.out.cell (p := ⟨w.heap.size + 1, 0, none⟩) (by dsimp only; omega)).trans f2; have j3 := (HD5.out.cell (p := ⟨w.heap.size + 1, 1, none⟩) (by dsimp only; omega)).trans f3; have j4 := (HD5.out.cell (p := ⟨w.heap.size + 1, 2, none⟩) (by dsimp only; omega)).trans f4; have j5 := (HD5.out.cell (p := ⟨w.heap.size + 1, 3, none⟩) (by dsimp only; omega)).trans f5; have j6 := (HD5.out.cell (p := ⟨w.heap.size + 1, 4, none⟩) (by dsimp only; omega)).trans f6; have j7 := (HD5.out.cell (p := ⟨w.heap.size + 1, 5, none⟩) (by dsimp only; omega)).trans f7; have j8 := (HD5.out.cell (p := ⟨w.heap.size + 1, 6, none⟩) (by dsimp only; omega)).trans f8; 
                  (first
                    | (have F := hide (finZ EZ5.out HZ5.out HD5.out ⟨x4.heap.size, o5, EZ4.out.lt⟩ sR); have k0 := (box_of EZ5.out).1 0 _ rfl; have k1 := (box_of EZ5.out).1 1 _ rfl; have kz := (box_of EZ5.out).2)
                    | (have F := hide (finZ EZ5.out HZ5.out HD5.out ⟨(x4.alloc (.cells #[.int .i64 0, .slice none 0 0] 51)).heap.size, o5, (by simp)⟩ sR); have k0 := (box_of EZ5.out).1 0 _ rfl; have k1 := (box_of EZ5.out).1 1 _ rfl; have kz := (box_of EZ5.out).2)
                    | (have F := hide (finA HD5.out (show OwnS x5 x4.heap.size x5.heap.size (.slice aH pR.length cH) pR from o5) (HD4.out.size) sR))); clear o5 b5; unfold sndV)
            | fail)
        all_goals (go_wp2_with fail; go_meet; obtain ⟨b, hF⟩ := F.out; exact ⟨_, aH, cH, b, rfl, rfl, hide hF.1, hide hF.2.1, hide hF.2.2.1, hF.2.2.2.1, hF.2.2.2.2.1, hF.2.2.2.2.2⟩)
      case rest =>
      obtain ⟨gH, aH, cH, bH, rfl, rfl, HHB, HH, HDq, _, _, _⟩ := hcut
      have e3 := HDq.out
      replace HB := hide (HB.out.trans (e3.mono HB.out.size))
      replace HW := hide (HW.out.below e3)
      replace H6 := hide (H6.out.below e3)
      replace HG := hide (HG.out.below e3)
      replace HA := hide (HA.out.below e3)
      clear e3 HDq HIat HPat HD0 f0 f1 f2 f3 f4 f5 f6 f7 f8
      have k0 := (box_of HHB.out).1 0 _ rfl
      have k1 := (box_of HHB.out).1 1 _ rfl
      have p0 := (box_of H6.out).1 0 _ rfl
      have p1 := (box_of H6.out).1 1 _ rfl
      go_wp2_with fail
      refine (eqSnd _ sR _ _ pR _ _ (HH.out.rd (Nat.le_refl _)) (HW.out.rd (Nat.le_refl _)) (Nat.le_refl _) (Nat.le_refl _) hl60 HSM.out.1).mono ?_
      rintro e w16 ⟨rfl, b16⟩
      replace HB := hide (HB.out.trans (b16.mono HB.out.size))
      replace HG := hide (HG.out.below b16)
      replace HA := hide (HA.out.below b16)
      clear b16 p0 p1 k0 k1
      have k0 := (box_of HA.out).1 0 _ rfl
      have k1 := (box_of HA.out).1 1 _ rfl
      go_wp2_with fail
      refine (heldSnd1 _ _ _ sR _ pR HG.out HSM.out.1 HTR.out).mono ?_
      rintro e w17 ⟨rfl, b17⟩
      replace HB := hide (HB.out.trans (b17.mono HB.out.size))
      clear b17 k0 k1
      go_wp2
      go_ret
      exact ⟨rfl, HB.out⟩

set_option maxRecDepth 100000 in
theorem lifted (os : Os) (started : os.Started) (H : Type) (enc : TypeId × Value → H) :
    ReturnsInHanded {} Try.checked os 6 .any (Rows.fnExactQueueSpec.pre6 enc Try.prog Try.f6 Rows.fnExactQueueRow.domain false) (Rows.fnExactQueueSpec.post enc Try.prog Try.f6 false true false false) := by
  refine returnsInHanded_of_change (C := Try.checked) own started (by kernel_rfl) Try.func6
    (ChangeSpec.witness6 (enc := enc) (C := Try.checked) false ⟨#[], #[.agg #[.int .i64 0, .slice none 0 0], .agg #[.int .i64 0, .int .i64 0, .int .i64 0, .int .i64 0, .int .i64 0, .slice none 0 0, .slice none 0 0]], []⟩ 8 (by kernel_rfl) (by kernel_rfl) (by kernel_rfl) (by kernel_rfl)) ?_
  intro W base args ds gs before hval0 hW hcnd _
  have hval : ∀ (j : Nat) t v, Try.f6.params[j]? = some t → args[j]? = some v → Value.okWide Try.prog W .any base t v := hval0
  have hW' := hW
  obtain ⟨p, q, hA0, hV, rfl, hfz, hnd⟩ := hW
  have hA : DataW.TrodAll enc Try.prog W 0 (fun _ => true) true Try.f6.params.toList args.toList ds p := hA0
  rw [Try.params6] at hA hval
  obtain ⟨v0, vs0, d0, ds0, p0, q0, hargs, rfl, rfl, h0, r0⟩ := trodAll_cons hA
  obtain ⟨v1, vs1, d1, ds1, p1, q1, rfl, rfl, rfl, h1, r1⟩ := trodAll_cons r0
  obtain ⟨rfl, rfl, rfl⟩ := trodAll_nil r1
  obtain rfl : args = #[v0, v1] := by cases args; simp_all
  obtain ⟨rfl, rfl⟩ := trodVars_none hV
  have k0 := h0
  have lt0 : ∀ x ∈ p0, x.block < W.heap.size := by obtain ⟨m, hm⟩ := k0; exact DataW.trod_lt m _ _ _ hm
  have w0 := openSnd (hval 0 46 v0 rfl rfl) h0
  have k1 := h1
  have lt1 : ∀ x ∈ p1, x.block < W.heap.size := by obtain ⟨m, hm⟩ := k1; exact DataW.trod_lt m _ _ _ hm
  have w1 := openMsg (hval 1 58 v1 rfl rfl) h1
  clear hA0 hval0
  refine (walk v0 v1 W w0 w1).mono fun e W' ⟨he, bel⟩ => ?_
  subst he
  exact ⟨_, rfl, _, _, _, [], _, [], hW', trodAll_mk1 (shut_bool Try.underlying4 _), (trodAll_cons_mk (Below.trod laidOut (by kernel_rfl) (of_decide_eq_true (by kernel_rfl)) k0 bel lt0) (trodAll_cons_mk (Below.trod laidOut (by kernel_rfl) (of_decide_eq_true (by kernel_rfl)) k1 bel lt1) trodAll_mk0)), rfl, bel.frame _, fun h => by cases h⟩

theorem over : Rows.fnExactQueueRow.holds Try.pinned (OpenSpec.ofChange Rows.fnExactQueueSpec) :=
  OpenClaim.holds_of_wide 6 Try.f6 rfl rfl rfl rfl rfl rfl rfl ⟨rfl, rfl, rfl, rfl, rfl⟩ rfl rfl rfl rfl rfl (by kernel_rfl) Try.func6 (by kernel_rfl)
    (of_decide_eq_true (by kernel_rfl)) (by unfold Func.isWrapper; first | (rw [if_pos (by decide +kernel)]; kernel_rfl) | (rw [if_neg (by decide +kernel)]; exact ⟨rfl, rfl⟩))
    (fun os started H enc _ => lifted os started H enc)

end Go.Proofs.Ytoaenoakdbieaaa.fnExactQueue
namespace Go.Proofs.Ytoaenoakdbieaaa
theorem fnExactQueue_holds : Rows.FnExactQueueSaid := fnExactQueue.over
#print axioms fnExactQueue_holds
end Go.Proofs.Ytoaenoakdbieaaa
