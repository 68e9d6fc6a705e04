/-
  What l6Const does: the const that begins at the cursor's place, by the model.
-/
import Derived.Test.YtgegmocgbjklkaaDoorCurI
import Derived.Test.YtgegmocgbjklkaaDoorConstOfI
namespace Go.Proofs.YtgegmocgbjklkaaDoor
open Go.RowKit Go.Maps

theorem CuI.mine {w : World} {B : Nat} {a : Option Addr} {len cap : Nat} {zs : List Int} {g l : Nat} {k : Int} {ok : Bool} (h : CuI w B a len cap zs g k ok) (hl : g < l) (o : Nat) (u : Value) : CuI (w.setCell ⟨l, o, none⟩ u) B a len cap zs g k ok :=
  h.far (grown_set (g := l) (World.grownBy.refl w (some l)) o u) (fun q hq => by cases hq; exact hl)
theorem put4at {w : World} {g : Nat} {T : TypeId} {xs : Array Value} (h : w.heap[g]? = some (.cells xs T (0, 0))) (o : Nat) (v : Value) : (w.setCell ⟨g, o, none⟩ v).heap[g]? = some (.cells (xs.setIfInBounds o v) T (0, 0)) := heap_setCell_same w g o _ T v h
theorem cOf_gn {zs : List Int} {k : Int} {kd : Int} {k1 : Nat} (h : gn zs k = some (kd, k1)) : cOf zs k = (rKk zs kd k1).bind fun q => if cOk q.1 = true then some q else none := by
  unfold cOf
  rw [rK0_eq, h]
  rfl
theorem cOf_gn0 {zs : List Int} {k : Int} (h : gn zs k = none) : cOf zs k = none := by
  unfold cOf
  rw [rK0_eq, h]
  rfl
theorem kOk_other {kd n : Int} {a b : ByteArray} (h1 : ¬ kd = 1) (h2 : ¬ kd = 2) (h3 : ¬ (kd = 3 ∨ kd = 4)) : kOk kd n a b = false := by simp [kOk, h1, h2, h3]
theorem rK_1 {zs : List Int} {k : Nat} {n : Int} {nx : Nat} (h : gw zs k = some (n, nx)) : rKk zs 1 k = some ((1, n, noS, noS), nx) := by unfold rKk; rw [if_pos rfl, h]; rfl
theorem rK_1n {zs : List Int} {k : Nat} (h : gw zs k = none) : rKk zs 1 k = none := by unfold rKk; rw [if_pos rfl, h]; rfl
theorem rK_2 {zs : List Int} {k : Nat} {s : ByteArray} {nx : Nat} (h : gtOf zs (gn zs k) = some (s, nx)) : rKk zs 2 k = some ((2, 0, s, noS), nx) := by unfold rKk gtx; rw [if_neg (by decide), if_pos rfl, h]; rfl
theorem rK_2n {zs : List Int} {k : Nat} (h : gtOf zs (gn zs k) = none) : rKk zs 2 k = none := by unfold rKk gtx; rw [if_neg (by decide), if_pos rfl, h]; rfl
/-- Two texts read, of a kind that is neither a word's nor a class's. -/
theorem rK_3 {zs : List Int} {kd : Int} {k : Nat} {s u : ByteArray} {nx ny : Nat} (h1 : ¬ kd = 1) (h2 : ¬ kd = 2) (h : gtOf zs (gn zs k) = some (s, nx)) (h' : gtOf zs (gn zs nx) = some (u, ny)) (b : Bool) (hb : kOk kd 0 s u = b) :
    ((rKk zs kd k).bind fun q => if cOk q.1 = true then some q else none) = bif b then some ((kd, 0, s, u), ny) else none := by
  by_cases h3 : kd = 3 ∨ kd = 4
  · unfold rKk gtx
    rw [if_neg h1, if_neg h2, if_pos h3, h, Option.bind_some, h', Option.map_some, Option.bind_some]
    unfold cOk
    simp only [hb]
    cases b <;> rfl
  · rw [kOk_other h1 h2 h3] at hb
    subst hb
    unfold rKk
    rw [if_neg h1, if_neg h2, if_neg h3, Option.bind_some]
    unfold cOk
    simp only [kOk_other h1 h2 h3]
    rfl
theorem rK_3n {zs : List Int} {kd : Int} {k : Nat} (h1 : ¬ kd = 1) (h2 : ¬ kd = 2) (h : gtOf zs (gn zs k) = none ∨ ∃ s nx, gtOf zs (gn zs k) = some (s, nx) ∧ gtOf zs (gn zs (nx : Nat)) = none) :
    ((rKk zs kd k).bind fun q => if cOk q.1 = true then some q else none) = none := by
  by_cases h3 : kd = 3 ∨ kd = 4
  · unfold rKk gtx
    rw [if_neg h1, if_neg h2, if_pos h3]
    rcases h with h | ⟨s, nx, h, h'⟩
    · rw [h]; rfl
    · rw [h, Option.bind_some, h']; rfl
  · unfold rKk
    rw [if_neg h1, if_neg h2, if_neg h3, Option.bind_some]
    unfold cOk
    simp only [kOk_other h1 h2 h3]
    rfl
theorem gt_small {zs : List Int} {k : Int} {s : ByteArray} {nx : Nat} (h : gtOf zs (gn zs k) = some (s, nx)) : s.size ≤ maxLen := by
  have := gtx_size h
  unfold maxLen
  omega
def endK (B : Nat) (a : Option Addr) (len cap : Nat) (zs : List Int) (g : Nat) (k : Int) (e : Ending) (w' : World) : Prop :=
  (∃ c nx, cOf zs k = some (c, nx) ∧ e = .returned (cV c) ∧ CuI w' B a len cap zs g (nx : Nat) true) ∨ (cOf zs k = none ∧ ∃ c k', e = .returned (cV c) ∧ CuI w' B a len cap zs g k' false)
theorem noS_small : noS.size ≤ maxLen := by simp [maxLen, ByteArray.size]

set_option maxRecDepth 100000 in
set_option maxHeartbeats 8000000 in
theorem l6ConstI (w : World) (B : Nat) (a : Option Addr) (len cap : Nat) (zs : List Int) (g : Nat) (k : Int) (h : CuI w B a len cap zs g k true) (hcap : len ≤ cap) :
    Calls Tryd.prog 35 #[.pointer (some ⟨g, 0, none⟩)] w fun e w' => endK B a len cap zs g k e w' ∧ w.grownBy w' (some g) := by
  have hgl := h.lt
  have hgA := World.grownBy_alloc w (.cells #[.int .i64 0, .int .i64 0, .string noS, .string noS] 25) (some g)
  have E0 := hide (heap_alloc_new w (.cells #[.int .i64 0, .int .i64 0, .string noS, .string noS] 25))
  have HC := hide (h.far (World.grownBy_alloc w (.cells #[.int .i64 0, .int .i64 0, .string noS, .string noS] 25) none) (fun q hq => by cases hq))
  have HG := hide hgA
  clear h hgA
  go_enter Tryd.func35, Tryd.ntmps35
  go_wp2_with fail
  refine (l3NumI HC.out).mono ?_
  rintro e w1 ⟨h1, g1⟩
  replace HG := hide (grown_step HG.out g1 (fun k hk => by cases hk; exact .inl rfl))
  replace E0 := hide ((g1.block w.heap.size (Array.getElem?_eq_some_iff.1 E0.out).1 (by simp; omega)).trans E0.out)
  have hs1 : w.heap.size < w1.heap.size := by have := g1.size; simp at this; omega
  clear g1 HC
  rcases h1 with ⟨kd, k1, _, hr, rfl, hc1⟩ | ⟨hr, rfl, hc1⟩
  · have HC := hide hc1
    clear hc1
    by_cases e1 : kd = 1
    · subst e1
      have E1 := hide (heap_alloc_new w1 (.cells #[.int .i64 1, .int .i64 0, .string noS, .string noS] 25))
      replace HC := hide (HC.out.far (World.grownBy_alloc w1 (.cells #[.int .i64 1, .int .i64 0, .string noS, .string noS] 25) none) (fun q hq => by cases hq))
      replace HG := hide (grown_step HG.out (World.grownBy_alloc w1 (.cells #[.int .i64 1, .int .i64 0, .string noS, .string noS] 25) none) (fun k hk => by cases hk))
      replace E0 := hide ((World.grownBy_alloc w1 (.cells #[.int .i64 1, .int .i64 0, .string noS, .string noS] 25) none).block w.heap.size hs1 (by simp) |>.trans E0.out)
      go_upto_region 2 with fail
      generalize w1.alloc (.cells #[.int .i64 1, .int .i64 0, .string noS, .string noS] 25) = W1 at *
      have HXa := hide (box_of E1.out).1
      have a0 := HXa.out 0 _ rfl
      have a1 := HXa.out 1 _ rfl
      have a2 := HXa.out 2 _ rfl
      have a3 := HXa.out 3 _ rfl
      go_wp2_with fail
      clear a0 a1 a2 a3 HXa
      refine (l3WordI HC.out).mono ?_
      rintro e w2 ⟨h2, g2⟩
      replace HG := hide (grown_step HG.out g2 (fun k hk => by cases hk; exact .inl rfl))
      replace E0 := hide ((g2.block w.heap.size (Array.getElem?_eq_some_iff.1 E0.out).1 (by simp; omega)).trans E0.out)
      replace E1 := hide ((g2.block w1.heap.size (Array.getElem?_eq_some_iff.1 E1.out).1 (by simp; omega)).trans E1.out)
      clear g2 HC
      rcases h2 with ⟨n, k2, _, hr2, rfl, hc2⟩ | ⟨hr2, rfl, hc2⟩
      · have HC := hide hc2
        clear hc2
        have HXa := hide (box_of E1.out).1
        have za := (box_of E1.out).2
        have a0 := HXa.out 0 _ rfl
        have a1 := HXa.out 1 _ rfl
        have a2 := HXa.out 2 _ rfl
        have a3 := HXa.out 3 _ rfl
        go_upto_region 7 with fail
        clear a0 a1 a2 a3 za HXa
        replace HC := hide (HC.out.mine (l := w1.heap.size) (by omega) 1 (.int .i64 n))
        replace HG := hide (grownSet HG.out (l := w1.heap.size) (by omega) 1 (.int .i64 n))
        replace E0 := hide (placeSet (o := 1) (l := w1.heap.size) E0.out (by omega) (.int .i64 n))
        replace E1 : Hid ((w2.setCell ⟨w1.heap.size, 1, none⟩ (.int .i64 n)).heap[w1.heap.size]? = some (.cells #[.int .i64 1, .int .i64 n, .string noS, .string noS] 25 (0, 0))) := hide (put4at E1.out 1 (.int .i64 n))
        generalize w2.setCell ⟨w1.heap.size, 1, none⟩ (.int .i64 n) = W2 at *
        have HXc := hide (box_of HC.out.pl).1
        have zc := (box_of HC.out.pl).2 2
        have f0 := HXc.out 0 _ rfl
        have f1 := HXc.out 1 _ rfl
        have f2 := HXc.out 2 _ rfl
        have HXa := hide (box_of E1.out).1
        have a0 := HXa.out 0 _ rfl
        have a1 := HXa.out 1 _ rfl
        have a2 := HXa.out 2 _ rfl
        have a3 := HXa.out 3 _ rfl
        go_wp2_with fail
        clear f0 f1 f2 zc HXc a0 a1 a2 a3 HXa
        refine (constOkSpec 1 n noS noS _ noS_small noS_small).mono ?_
        rintro e w5 ⟨rfl, b5⟩
        replace HC := hide (HC.out.far (grown_of_below b5) (fun q hq => by cases hq))
        replace HG := hide (grown_step HG.out (grown_of_below b5) (fun k hk => by cases hk))
        replace E0 := hide ((b5.block w.heap.size (Array.getElem?_eq_some_iff.1 E0.out).1).trans E0.out)
        replace E1 := hide ((b5.block w1.heap.size (Array.getElem?_eq_some_iff.1 E1.out).1).trans E1.out)
        clear b5
        have HXc := hide (box_of HC.out.pl).1
        have zc := (box_of HC.out.pl).2 2
        have f0 := HXc.out 0 _ rfl
        have f1 := HXc.out 1 _ rfl
        have f2 := HXc.out 2 _ rfl
        cases hk : kOk 1 n noS noS with
        | false =>
          have HN : Hid (cOf zs k = none) := hide ((cOf_gn hr).trans (by rw [rK_1 hr2, Option.bind_some]; unfold cOk; simp [hk]))
          go_upto_region 8 with fail
          have HF := hide (HC.out.okay false)
          replace HG := hide (grown_step HG.out HF.out.2 (fun k hk => by cases hk; exact .inl rfl))
          replace E0 := hide ((HF.out.2.block w.heap.size (Array.getElem?_eq_some_iff.1 E0.out).1 (by simp; omega)).trans E0.out)
          replace E1 := hide ((HF.out.2.block w1.heap.size (Array.getElem?_eq_some_iff.1 E1.out).1 (by simp; omega)).trans E1.out)
          replace HC := hide HF.out.1
          clear f0 f1 f2 zc HXc HF
          generalize World.setCell _ ⟨g, 2, none⟩ (Value.bool false) = W3 at *
          have HXa := hide (box_of E1.out).1
          have HXb := hide (box_of E0.out).1
          have zb := (box_of E0.out).2
          have a0 := HXa.out 0 _ rfl
          have a1 := HXa.out 1 _ rfl
          have a2 := HXa.out 2 _ rfl
          have a3 := HXa.out 3 _ rfl
          have b0 := HXb.out 0 _ rfl
          have b1 := HXb.out 1 _ rfl
          have b2 := HXb.out 2 _ rfl
          have b3 := HXb.out 3 _ rfl
          go_wp2
          exact bodyPost_ret (v := constV 1 n noS noS) (results_one Tryd.results35 _ _ _ rfl (loadK (put4 E0.out _ _ _ _))) rfl ⟨.inr ⟨HN.out, (1, n, noS, noS), _, rfl, (((HC.out.mine hgl _ _).mine hgl _ _).mine hgl _ _).mine hgl _ _⟩, grownSet (grownSet (grownSet (grownSet HG.out (Nat.le_refl _) _ _) (Nat.le_refl _) _ _) (Nat.le_refl _) _ _) (Nat.le_refl _) _ _⟩
        | true =>
          have HN : Hid (cOf zs k = some ((1, n, noS, noS), k2)) := hide ((cOf_gn hr).trans (by rw [rK_1 hr2, Option.bind_some]; unfold cOk; simp only [hk, if_true]))
          go_upto_region 8 with fail
          have HF := hide (HC.out.okay true)
          replace HG := hide (grown_step HG.out HF.out.2 (fun k hk => by cases hk; exact .inl rfl))
          replace E0 := hide ((HF.out.2.block w.heap.size (Array.getElem?_eq_some_iff.1 E0.out).1 (by simp; omega)).trans E0.out)
          replace E1 := hide ((HF.out.2.block w1.heap.size (Array.getElem?_eq_some_iff.1 E1.out).1 (by simp; omega)).trans E1.out)
          replace HC := hide HF.out.1
          clear f0 f1 f2 zc HXc HF
          generalize World.setCell _ ⟨g, 2, none⟩ (Value.bool true) = W3 at *
          have HXa := hide (box_of E1.out).1
          have HXb := hide (box_of E0.out).1
          have zb := (box_of E0.out).2
          have a0 := HXa.out 0 _ rfl
          have a1 := HXa.out 1 _ rfl
          have a2 := HXa.out 2 _ rfl
          have a3 := HXa.out 3 _ rfl
          have b0 := HXb.out 0 _ rfl
          have b1 := HXb.out 1 _ rfl
          have b2 := HXb.out 2 _ rfl
          have b3 := HXb.out 3 _ rfl
          go_wp2
          exact bodyPost_ret (v := constV 1 n noS noS) (results_one Tryd.results35 _ _ _ rfl (loadK (put4 E0.out _ _ _ _))) rfl ⟨.inl ⟨(1, n, noS, noS), _, HN.out, rfl, (((HC.out.mine hgl _ _).mine hgl _ _).mine hgl _ _).mine hgl _ _⟩, grownSet (grownSet (grownSet (grownSet HG.out (Nat.le_refl _) _ _) (Nat.le_refl _) _ _) (Nat.le_refl _) _ _) (Nat.le_refl _) _ _⟩
      · have HN : Hid (cOf zs k = none) := hide ((cOf_gn hr).trans (by rw [rK_1n (by simpa using hr2)]; rfl))
        have HC := hide hc2
        clear hc2
        have HXa := hide (box_of E1.out).1
        have za := (box_of E1.out).2
        have a0 := HXa.out 0 _ rfl
        have a1 := HXa.out 1 _ rfl
        have a2 := HXa.out 2 _ rfl
        have a3 := HXa.out 3 _ rfl
        go_upto_region 7 with fail
        clear a0 a1 a2 a3 za HXa
        replace HC := hide (HC.out.mine (l := w1.heap.size) (by omega) 1 (.int .i64 0))
        replace HG := hide (grownSet HG.out (l := w1.heap.size) (by omega) 1 (.int .i64 0))
        replace E0 := hide (placeSet (o := 1) (l := w1.heap.size) E0.out (by omega) (.int .i64 0))
        replace E1 : Hid ((w2.setCell ⟨w1.heap.size, 1, none⟩ (.int .i64 0)).heap[w1.heap.size]? = some (.cells #[.int .i64 1, .int .i64 0, .string noS, .string noS] 25 (0, 0))) := hide (put4at E1.out 1 (.int .i64 0))
        generalize w2.setCell ⟨w1.heap.size, 1, none⟩ (.int .i64 0) = W2 at *
        have HXc := hide (box_of HC.out.pl).1
        have zc := (box_of HC.out.pl).2 2
        have f0 := HXc.out 0 _ rfl
        have f1 := HXc.out 1 _ rfl
        have f2 := HXc.out 2 _ rfl
        go_upto_region 8 with fail
        have HF := hide (HC.out.okay false)
        replace HG := hide (grown_step HG.out HF.out.2 (fun k hk => by cases hk; exact .inl rfl))
        replace E0 := hide ((HF.out.2.block w.heap.size (Array.getElem?_eq_some_iff.1 E0.out).1 (by simp; omega)).trans E0.out)
        replace E1 := hide ((HF.out.2.block w1.heap.size (Array.getElem?_eq_some_iff.1 E1.out).1 (by simp; omega)).trans E1.out)
        replace HC := hide HF.out.1
        clear f0 f1 f2 zc HXc HF
        generalize World.setCell _ ⟨g, 2, none⟩ (Value.bool false) = W3 at *
        have HXa := hide (box_of E1.out).1
        have HXb := hide (box_of E0.out).1
        have zb := (box_of E0.out).2
        have a0 := HXa.out 0 _ rfl
        have a1 := HXa.out 1 _ rfl
        have a2 := HXa.out 2 _ rfl
        have a3 := HXa.out 3 _ rfl
        have b0 := HXb.out 0 _ rfl
        have b1 := HXb.out 1 _ rfl
        have b2 := HXb.out 2 _ rfl
        have b3 := HXb.out 3 _ rfl
        go_wp2
        exact bodyPost_ret (v := constV 1 0 noS noS) (results_one Tryd.results35 _ _ _ rfl (loadK (put4 E0.out _ _ _ _))) rfl ⟨.inr ⟨HN.out, (1, 0, noS, noS), _, rfl, (((HC.out.mine hgl _ _).mine hgl _ _).mine hgl _ _).mine hgl _ _⟩, grownSet (grownSet (grownSet (grownSet HG.out (Nat.le_refl _) _ _) (Nat.le_refl _) _ _) (Nat.le_refl _) _ _) (Nat.le_refl _) _ _⟩
    · have f1 : (kd == 1) = false := by simpa using e1
      by_cases e2 : kd = 2
      · subst e2
        have E1 := hide (heap_alloc_new w1 (.cells #[.int .i64 2, .int .i64 0, .string noS, .string noS] 25))
        replace HC := hide (HC.out.far (World.grownBy_alloc w1 (.cells #[.int .i64 2, .int .i64 0, .string noS, .string noS] 25) none) (fun q hq => by cases hq))
        replace HG := hide (grown_step HG.out (World.grownBy_alloc w1 (.cells #[.int .i64 2, .int .i64 0, .string noS, .string noS] 25) none) (fun k hk => by cases hk))
        replace E0 := hide ((World.grownBy_alloc w1 (.cells #[.int .i64 2, .int .i64 0, .string noS, .string noS] 25) none).block w.heap.size hs1 (by simp) |>.trans E0.out)
        go_upto_region 2 with fail
        generalize w1.alloc (.cells #[.int .i64 2, .int .i64 0, .string noS, .string noS] 25) = W1 at *
        have HXa := hide (box_of E1.out).1
        have a0 := HXa.out 0 _ rfl
        have a1 := HXa.out 1 _ rfl
        have a2 := HXa.out 2 _ rfl
        have a3 := HXa.out 3 _ rfl
        go_wp2_with fail
        clear a0 a1 a2 a3 HXa
        refine (l6TextI HC.out hcap).mono ?_
        rintro e w2 ⟨h2, g2⟩
        replace HG := hide (grown_step HG.out g2 (fun k hk => by cases hk; exact .inl rfl))
        replace E0 := hide ((g2.block w.heap.size (Array.getElem?_eq_some_iff.1 E0.out).1 (by simp; omega)).trans E0.out)
        replace E1 := hide ((g2.block w1.heap.size (Array.getElem?_eq_some_iff.1 E1.out).1 (by simp; omega)).trans E1.out)
        clear g2 HC
        rcases h2 with ⟨s, k2, _, hr2, rfl, hc2⟩ | ⟨hr2, rfl, hc2⟩
        · have HC := hide hc2
          clear hc2
          have HXa := hide (box_of E1.out).1
          have za := (box_of E1.out).2
          have a0 := HXa.out 0 _ rfl
          have a1 := HXa.out 1 _ rfl
          have a2 := HXa.out 2 _ rfl
          have a3 := HXa.out 3 _ rfl
          go_upto_region 5 with fail
          clear a0 a1 a2 a3 za HXa
          replace HC := hide (HC.out.mine (l := w1.heap.size) (by omega) 2 (.string s))
          replace HG := hide (grownSet HG.out (l := w1.heap.size) (by omega) 2 (.string s))
          replace E0 := hide (placeSet (o := 2) (l := w1.heap.size) E0.out (by omega) (.string s))
          replace E1 : Hid ((w2.setCell ⟨w1.heap.size, 2, none⟩ (.string s)).heap[w1.heap.size]? = some (.cells #[.int .i64 2, .int .i64 0, .string s, .string noS] 25 (0, 0))) := hide (put4at E1.out 2 (.string s))
          generalize w2.setCell ⟨w1.heap.size, 2, none⟩ (.string s) = W2 at *
          have HXa := hide (box_of E1.out).1
          have a0 := HXa.out 0 _ rfl
          have a1 := HXa.out 1 _ rfl
          have a2 := HXa.out 2 _ rfl
          have a3 := HXa.out 3 _ rfl
          go_upto_region 7 with fail
          clear a0 a1 a2 a3 HXa
          have HXc := hide (box_of HC.out.pl).1
          have zc := (box_of HC.out.pl).2 2
          have f0 := HXc.out 0 _ rfl
          have f1 := HXc.out 1 _ rfl
          have f2 := HXc.out 2 _ rfl
          have HXa := hide (box_of E1.out).1
          have a0 := HXa.out 0 _ rfl
          have a1 := HXa.out 1 _ rfl
          have a2 := HXa.out 2 _ rfl
          have a3 := HXa.out 3 _ rfl
          go_wp2_with fail
          clear f0 f1 f2 zc HXc a0 a1 a2 a3 HXa
          refine (constOkSpec 2 0 s noS _ (gt_small hr2) noS_small).mono ?_
          rintro e w5 ⟨rfl, b5⟩
          replace HC := hide (HC.out.far (grown_of_below b5) (fun q hq => by cases hq))
          replace HG := hide (grown_step HG.out (grown_of_below b5) (fun k hk => by cases hk))
          replace E0 := hide ((b5.block w.heap.size (Array.getElem?_eq_some_iff.1 E0.out).1).trans E0.out)
          replace E1 := hide ((b5.block w1.heap.size (Array.getElem?_eq_some_iff.1 E1.out).1).trans E1.out)
          clear b5
          have HXc := hide (box_of HC.out.pl).1
          have zc := (box_of HC.out.pl).2 2
          have f0 := HXc.out 0 _ rfl
          have f1 := HXc.out 1 _ rfl
          have f2 := HXc.out 2 _ rfl
          cases hk : kOk 2 0 s noS with
          | false =>
            have HN : Hid (cOf zs k = none) := hide ((cOf_gn hr).trans (by rw [rK_2 hr2, Option.bind_some]; unfold cOk; simp [hk]))
            go_upto_region 8 with fail
            have HF := hide (HC.out.okay false)
            replace HG := hide (grown_step HG.out HF.out.2 (fun k hk => by cases hk; exact .inl rfl))
            replace E0 := hide ((HF.out.2.block w.heap.size (Array.getElem?_eq_some_iff.1 E0.out).1 (by simp; omega)).trans E0.out)
            replace E1 := hide ((HF.out.2.block w1.heap.size (Array.getElem?_eq_some_iff.1 E1.out).1 (by simp; omega)).trans E1.out)
            replace HC := hide HF.out.1
            clear f0 f1 f2 zc HXc HF
            generalize World.setCell _ ⟨g, 2, none⟩ (Value.bool false) = W3 at *
            have HXa := hide (box_of E1.out).1
            have HXb := hide (box_of E0.out).1
            have zb := (box_of E0.out).2
            have a0 := HXa.out 0 _ rfl
            have a1 := HXa.out 1 _ rfl
            have a2 := HXa.out 2 _ rfl
            have a3 := HXa.out 3 _ rfl
            have b0 := HXb.out 0 _ rfl
            have b1 := HXb.out 1 _ rfl
            have b2 := HXb.out 2 _ rfl
            have b3 := HXb.out 3 _ rfl
            go_wp2
            exact bodyPost_ret (v := constV 2 0 s noS) (results_one Tryd.results35 _ _ _ rfl (loadK (put4 E0.out _ _ _ _))) rfl ⟨.inr ⟨HN.out, (2, 0, s, noS), _, rfl, (((HC.out.mine hgl _ _).mine hgl _ _).mine hgl _ _).mine hgl _ _⟩, grownSet (grownSet (grownSet (grownSet HG.out (Nat.le_refl _) _ _) (Nat.le_refl _) _ _) (Nat.le_refl _) _ _) (Nat.le_refl _) _ _⟩
          | true =>
            have HN : Hid (cOf zs k = some ((2, 0, s, noS), k2)) := hide ((cOf_gn hr).trans (by rw [rK_2 hr2, Option.bind_some]; unfold cOk; simp only [hk, if_true]))
            go_upto_region 8 with fail
            have HF := hide (HC.out.okay true)
            replace HG := hide (grown_step HG.out HF.out.2 (fun k hk => by cases hk; exact .inl rfl))
            replace E0 := hide ((HF.out.2.block w.heap.size (Array.getElem?_eq_some_iff.1 E0.out).1 (by simp; omega)).trans E0.out)
            replace E1 := hide ((HF.out.2.block w1.heap.size (Array.getElem?_eq_some_iff.1 E1.out).1 (by simp; omega)).trans E1.out)
            replace HC := hide HF.out.1
            clear f0 f1 f2 zc HXc HF
            generalize World.setCell _ ⟨g, 2, none⟩ (Value.bool true) = W3 at *
            have HXa := hide (box_of E1.out).1
            have HXb := hide (box_of E0.out).1
            have zb := (box_of E0.out).2
            have a0 := HXa.out 0 _ rfl
            have a1 := HXa.out 1 _ rfl
            have a2 := HXa.out 2 _ rfl
            have a3 := HXa.out 3 _ rfl
            have b0 := HXb.out 0 _ rfl
            have b1 := HXb.out 1 _ rfl
            have b2 := HXb.out 2 _ rfl
            have b3 := HXb.out 3 _ rfl
            go_wp2
            exact bodyPost_ret (v := constV 2 0 s noS) (results_one Tryd.results35 _ _ _ rfl (loadK (put4 E0.out _ _ _ _))) rfl ⟨.inl ⟨(2, 0, s, noS), _, HN.out, rfl, (((HC.out.mine hgl _ _).mine hgl _ _).mine hgl _ _).mine hgl _ _⟩, grownSet (grownSet (grownSet (grownSet HG.out (Nat.le_refl _) _ _) (Nat.le_refl _) _ _) (Nat.le_refl _) _ _) (Nat.le_refl _) _ _⟩
        · have HN : Hid (cOf zs k = none) := hide ((cOf_gn hr).trans (by rw [rK_2n (by simpa using hr2)]; rfl))
          have HC := hide hc2
          clear hc2
          have HXa := hide (box_of E1.out).1
          have za := (box_of E1.out).2
          have a0 := HXa.out 0 _ rfl
          have a1 := HXa.out 1 _ rfl
          have a2 := HXa.out 2 _ rfl
          have a3 := HXa.out 3 _ rfl
          go_upto_region 5 with fail
          clear a0 a1 a2 a3 za HXa
          replace HC := hide (HC.out.mine (l := w1.heap.size) (by omega) 2 (.string noS))
          replace HG := hide (grownSet HG.out (l := w1.heap.size) (by omega) 2 (.string noS))
          replace E0 := hide (placeSet (o := 2) (l := w1.heap.size) E0.out (by omega) (.string noS))
          replace E1 : Hid ((w2.setCell ⟨w1.heap.size, 2, none⟩ (.string noS)).heap[w1.heap.size]? = some (.cells #[.int .i64 2, .int .i64 0, .string noS, .string noS] 25 (0, 0))) := hide (put4at E1.out 2 (.string noS))
          generalize w2.setCell ⟨w1.heap.size, 2, none⟩ (.string noS) = W2 at *
          have HXa := hide (box_of E1.out).1
          have a0 := HXa.out 0 _ rfl
          have a1 := HXa.out 1 _ rfl
          have a2 := HXa.out 2 _ rfl
          have a3 := HXa.out 3 _ rfl
          go_upto_region 7 with fail
          clear a0 a1 a2 a3 HXa
          have HXc := hide (box_of HC.out.pl).1
          have zc := (box_of HC.out.pl).2 2
          have f0 := HXc.out 0 _ rfl
          have f1 := HXc.out 1 _ rfl
          have f2 := HXc.out 2 _ rfl
          go_upto_region 8 with fail
          have HF := hide (HC.out.okay false)
          replace HG := hide (grown_step HG.out HF.out.2 (fun k hk => by cases hk; exact .inl rfl))
          replace E0 := hide ((HF.out.2.block w.heap.size (Array.getElem?_eq_some_iff.1 E0.out).1 (by simp; omega)).trans E0.out)
          replace E1 := hide ((HF.out.2.block w1.heap.size (Array.getElem?_eq_some_iff.1 E1.out).1 (by simp; omega)).trans E1.out)
          replace HC := hide HF.out.1
          clear f0 f1 f2 zc HXc HF
          generalize World.setCell _ ⟨g, 2, none⟩ (Value.bool false) = W3 at *
          have HXa := hide (box_of E1.out).1
          have HXb := hide (box_of E0.out).1
          have zb := (box_of E0.out).2
          have a0 := HXa.out 0 _ rfl
          have a1 := HXa.out 1 _ rfl
          have a2 := HXa.out 2 _ rfl
          have a3 := HXa.out 3 _ rfl
          have b0 := HXb.out 0 _ rfl
          have b1 := HXb.out 1 _ rfl
          have b2 := HXb.out 2 _ rfl
          have b3 := HXb.out 3 _ rfl
          go_wp2
          exact bodyPost_ret (v := constV 2 0 noS noS) (results_one Tryd.results35 _ _ _ rfl (loadK (put4 E0.out _ _ _ _))) rfl ⟨.inr ⟨HN.out, (2, 0, noS, noS), _, rfl, (((HC.out.mine hgl _ _).mine hgl _ _).mine hgl _ _).mine hgl _ _⟩, grownSet (grownSet (grownSet (grownSet HG.out (Nat.le_refl _) _ _) (Nat.le_refl _) _ _) (Nat.le_refl _) _ _) (Nat.le_refl _) _ _⟩
      · have f2' : (kd != 2) = true := by simpa using e2
        have E1 := hide (heap_alloc_new w1 (.cells #[.int .i64 kd, .int .i64 0, .string noS, .string noS] 25))
        replace HC := hide (HC.out.far (World.grownBy_alloc w1 (.cells #[.int .i64 kd, .int .i64 0, .string noS, .string noS] 25) none) (fun q hq => by cases hq))
        replace HG := hide (grown_step HG.out (World.grownBy_alloc w1 (.cells #[.int .i64 kd, .int .i64 0, .string noS, .string noS] 25) none) (fun k hk => by cases hk))
        replace E0 := hide ((World.grownBy_alloc w1 (.cells #[.int .i64 kd, .int .i64 0, .string noS, .string noS] 25) none).block w.heap.size hs1 (by simp) |>.trans E0.out)
        go_upto_region 2 with fail
        generalize w1.alloc (.cells #[.int .i64 kd, .int .i64 0, .string noS, .string noS] 25) = W1 at *
        have HXa := hide (box_of E1.out).1
        have a0 := HXa.out 0 _ rfl
        have a1 := HXa.out 1 _ rfl
        have a2 := HXa.out 2 _ rfl
        have a3 := HXa.out 3 _ rfl
        go_wp2_with fail
        clear a0 a1 a2 a3 HXa
        refine (l6TextI HC.out hcap).mono ?_
        rintro e w2 ⟨h2, g2⟩
        replace HG := hide (grown_step HG.out g2 (fun k hk => by cases hk; exact .inl rfl))
        replace E0 := hide ((g2.block w.heap.size (Array.getElem?_eq_some_iff.1 E0.out).1 (by simp; omega)).trans E0.out)
        replace E1 := hide ((g2.block w1.heap.size (Array.getElem?_eq_some_iff.1 E1.out).1 (by simp; omega)).trans E1.out)
        clear g2 HC
        rcases h2 with ⟨s, k2, _, hr2, rfl, hc2⟩ | ⟨hr2, rfl, hc2⟩
        · have HC := hide hc2
          clear hc2
          have HXa := hide (box_of E1.out).1
          have za := (box_of E1.out).2
          have a0 := HXa.out 0 _ rfl
          have a1 := HXa.out 1 _ rfl
          have a2 := HXa.out 2 _ rfl
          have a3 := HXa.out 3 _ rfl
          go_upto_region 5 with fail
          clear a0 a1 a2 a3 za HXa
          replace HC := hide (HC.out.mine (l := w1.heap.size) (by omega) 2 (.string s))
          replace HG := hide (grownSet HG.out (l := w1.heap.size) (by omega) 2 (.string s))
          replace E0 := hide (placeSet (o := 2) (l := w1.heap.size) E0.out (by omega) (.string s))
          replace E1 : Hid ((w2.setCell ⟨w1.heap.size, 2, none⟩ (.string s)).heap[w1.heap.size]? = some (.cells #[.int .i64 kd, .int .i64 0, .string s, .string noS] 25 (0, 0))) := hide (put4at E1.out 2 (.string s))
          generalize w2.setCell ⟨w1.heap.size, 2, none⟩ (.string s) = W2 at *
          have HXa := hide (box_of E1.out).1
          have a0 := HXa.out 0 _ rfl
          have a1 := HXa.out 1 _ rfl
          have a2 := HXa.out 2 _ rfl
          have a3 := HXa.out 3 _ rfl
          go_wp2_with fail
          clear a0 a1 a2 a3 HXa
          refine (l6TextI HC.out hcap).mono ?_
          rintro e w4 ⟨h4, g4⟩
          replace HG := hide (grown_step HG.out g4 (fun k hk => by cases hk; exact .inl rfl))
          replace E0 := hide ((g4.block w.heap.size (Array.getElem?_eq_some_iff.1 E0.out).1 (by simp; omega)).trans E0.out)
          replace E1 := hide ((g4.block w1.heap.size (Array.getElem?_eq_some_iff.1 E1.out).1 (by simp; omega)).trans E1.out)
          clear g4 HC
          rcases h4 with ⟨u, k4, _, hr4, rfl, hc4⟩ | ⟨hr4, rfl, hc4⟩
          · have HC := hide hc4
            clear hc4
            have HXa := hide (box_of E1.out).1
            have za := (box_of E1.out).2
            have a0 := HXa.out 0 _ rfl
            have a1 := HXa.out 1 _ rfl
            have a2 := HXa.out 2 _ rfl
            have a3 := HXa.out 3 _ rfl
            go_upto_region 7 with fail
            clear a0 a1 a2 a3 za HXa
            replace HC := hide (HC.out.mine (l := w1.heap.size) (by omega) 3 (.string u))
            replace HG := hide (grownSet HG.out (l := w1.heap.size) (by omega) 3 (.string u))
            replace E0 := hide (placeSet (o := 3) (l := w1.heap.size) E0.out (by omega) (.string u))
            replace E1 : Hid ((w4.setCell ⟨w1.heap.size, 3, none⟩ (.string u)).heap[w1.heap.size]? = some (.cells #[.int .i64 kd, .int .i64 0, .string s, .string u] 25 (0, 0))) := hide (put4at E1.out 3 (.string u))
            generalize w4.setCell ⟨w1.heap.size, 3, none⟩ (.string u) = W4 at *
            have HXc := hide (box_of HC.out.pl).1
            have zc := (box_of HC.out.pl).2 2
            have f0 := HXc.out 0 _ rfl
            have f1 := HXc.out 1 _ rfl
            have f2 := HXc.out 2 _ rfl
            have HXa := hide (box_of E1.out).1
            have a0 := HXa.out 0 _ rfl
            have a1 := HXa.out 1 _ rfl
            have a2 := HXa.out 2 _ rfl
            have a3 := HXa.out 3 _ rfl
            go_wp2_with fail
            clear f0 f1 f2 zc HXc a0 a1 a2 a3 HXa
            refine (constOkSpec kd 0 s u _ (gt_small hr2) (gt_small hr4)).mono ?_
            rintro e w5 ⟨rfl, b5⟩
            replace HC := hide (HC.out.far (grown_of_below b5) (fun q hq => by cases hq))
            replace HG := hide (grown_step HG.out (grown_of_below b5) (fun k hk => by cases hk))
            replace E0 := hide ((b5.block w.heap.size (Array.getElem?_eq_some_iff.1 E0.out).1).trans E0.out)
            replace E1 := hide ((b5.block w1.heap.size (Array.getElem?_eq_some_iff.1 E1.out).1).trans E1.out)
            clear b5
            have HXc := hide (box_of HC.out.pl).1
            have zc := (box_of HC.out.pl).2 2
            have f0 := HXc.out 0 _ rfl
            have f1 := HXc.out 1 _ rfl
            have f2 := HXc.out 2 _ rfl
            cases hk : kOk kd 0 s u with
            | false =>
              have HN : Hid (cOf zs k = none) := hide ((cOf_gn hr).trans (rK_3 e1 e2 hr2 hr4 false hk))
              go_upto_region 8 with fail
              have HF := hide (HC.out.okay false)
              replace HG := hide (grown_step HG.out HF.out.2 (fun k hk => by cases hk; exact .inl rfl))
              replace E0 := hide ((HF.out.2.block w.heap.size (Array.getElem?_eq_some_iff.1 E0.out).1 (by simp; omega)).trans E0.out)
              replace E1 := hide ((HF.out.2.block w1.heap.size (Array.getElem?_eq_some_iff.1 E1.out).1 (by simp; omega)).trans E1.out)
              replace HC := hide HF.out.1
              clear f0 f1 f2 zc HXc HF
              generalize World.setCell _ ⟨g, 2, none⟩ (Value.bool false) = W3 at *
              have HXa := hide (box_of E1.out).1
              have HXb := hide (box_of E0.out).1
              have zb := (box_of E0.out).2
              have a0 := HXa.out 0 _ rfl
              have a1 := HXa.out 1 _ rfl
              have a2 := HXa.out 2 _ rfl
              have a3 := HXa.out 3 _ rfl
              have b0 := HXb.out 0 _ rfl
              have b1 := HXb.out 1 _ rfl
              have b2 := HXb.out 2 _ rfl
              have b3 := HXb.out 3 _ rfl
              go_wp2
              exact bodyPost_ret (v := constV kd 0 s u) (results_one Tryd.results35 _ _ _ rfl (loadK (put4 E0.out _ _ _ _))) rfl ⟨.inr ⟨HN.out, (kd, 0, s, u), _, rfl, (((HC.out.mine hgl _ _).mine hgl _ _).mine hgl _ _).mine hgl _ _⟩, grownSet (grownSet (grownSet (grownSet HG.out (Nat.le_refl _) _ _) (Nat.le_refl _) _ _) (Nat.le_refl _) _ _) (Nat.le_refl _) _ _⟩
            | true =>
              have HN : Hid (cOf zs k = some ((kd, 0, s, u), k4)) := hide ((cOf_gn hr).trans (rK_3 e1 e2 hr2 hr4 true hk))
              go_upto_region 8 with fail
              have HF := hide (HC.out.okay true)
              replace HG := hide (grown_step HG.out HF.out.2 (fun k hk => by cases hk; exact .inl rfl))
              replace E0 := hide ((HF.out.2.block w.heap.size (Array.getElem?_eq_some_iff.1 E0.out).1 (by simp; omega)).trans E0.out)
              replace E1 := hide ((HF.out.2.block w1.heap.size (Array.getElem?_eq_some_iff.1 E1.out).1 (by simp; omega)).trans E1.out)
              replace HC := hide HF.out.1
              clear f0 f1 f2 zc HXc HF
              generalize World.setCell _ ⟨g, 2, none⟩ (Value.bool true) = W3 at *
              have HXa := hide (box_of E1.out).1
              have HXb := hide (box_of E0.out).1
              have zb := (box_of E0.out).2
              have a0 := HXa.out 0 _ rfl
              have a1 := HXa.out 1 _ rfl
              have a2 := HXa.out 2 _ rfl
              have a3 := HXa.out 3 _ rfl
              have b0 := HXb.out 0 _ rfl
              have b1 := HXb.out 1 _ rfl
              have b2 := HXb.out 2 _ rfl
              have b3 := HXb.out 3 _ rfl
              go_wp2
              exact bodyPost_ret (v := constV kd 0 s u) (results_one Tryd.results35 _ _ _ rfl (loadK (put4 E0.out _ _ _ _))) rfl ⟨.inl ⟨(kd, 0, s, u), _, HN.out, rfl, (((HC.out.mine hgl _ _).mine hgl _ _).mine hgl _ _).mine hgl _ _⟩, grownSet (grownSet (grownSet (grownSet HG.out (Nat.le_refl _) _ _) (Nat.le_refl _) _ _) (Nat.le_refl _) _ _) (Nat.le_refl _) _ _⟩
          · have HN := hide ((cOf_gn hr).trans (rK_3n e1 e2 (.inr ⟨s, k2, hr2, by simpa using hr4⟩)))
            have HC := hide hc4
            clear hc4
            have HXa := hide (box_of E1.out).1
            have za := (box_of E1.out).2
            have a0 := HXa.out 0 _ rfl
            have a1 := HXa.out 1 _ rfl
            have a2 := HXa.out 2 _ rfl
            have a3 := HXa.out 3 _ rfl
            go_upto_region 7 with fail
            clear a0 a1 a2 a3 za HXa
            replace HC := hide (HC.out.mine (l := w1.heap.size) (by omega) 3 (.string noS))
            replace HG := hide (grownSet HG.out (l := w1.heap.size) (by omega) 3 (.string noS))
            replace E0 := hide (placeSet (o := 3) (l := w1.heap.size) E0.out (by omega) (.string noS))
            replace E1 : Hid ((w4.setCell ⟨w1.heap.size, 3, none⟩ (.string noS)).heap[w1.heap.size]? = some (.cells #[.int .i64 kd, .int .i64 0, .string s, .string noS] 25 (0, 0))) := hide (put4at E1.out 3 (.string noS))
            generalize w4.setCell ⟨w1.heap.size, 3, none⟩ (.string noS) = W4 at *
            have HXc := hide (box_of HC.out.pl).1
            have zc := (box_of HC.out.pl).2 2
            have f0 := HXc.out 0 _ rfl
            have f1 := HXc.out 1 _ rfl
            have f2 := HXc.out 2 _ rfl
            go_upto_region 8 with fail
            have HF := hide (HC.out.okay false)
            replace HG := hide (grown_step HG.out HF.out.2 (fun k hk => by cases hk; exact .inl rfl))
            replace E0 := hide ((HF.out.2.block w.heap.size (Array.getElem?_eq_some_iff.1 E0.out).1 (by simp; omega)).trans E0.out)
            replace E1 := hide ((HF.out.2.block w1.heap.size (Array.getElem?_eq_some_iff.1 E1.out).1 (by simp; omega)).trans E1.out)
            replace HC := hide HF.out.1
            clear f0 f1 f2 zc HXc HF
            generalize World.setCell _ ⟨g, 2, none⟩ (Value.bool false) = W3 at *
            have HXa := hide (box_of E1.out).1
            have HXb := hide (box_of E0.out).1
            have zb := (box_of E0.out).2
            have a0 := HXa.out 0 _ rfl
            have a1 := HXa.out 1 _ rfl
            have a2 := HXa.out 2 _ rfl
            have a3 := HXa.out 3 _ rfl
            have b0 := HXb.out 0 _ rfl
            have b1 := HXb.out 1 _ rfl
            have b2 := HXb.out 2 _ rfl
            have b3 := HXb.out 3 _ rfl
            go_wp2
            exact bodyPost_ret (v := constV kd 0 s noS) (results_one Tryd.results35 _ _ _ rfl (loadK (put4 E0.out _ _ _ _))) rfl ⟨.inr ⟨HN.out, (kd, 0, s, noS), _, rfl, (((HC.out.mine hgl _ _).mine hgl _ _).mine hgl _ _).mine hgl _ _⟩, grownSet (grownSet (grownSet (grownSet HG.out (Nat.le_refl _) _ _) (Nat.le_refl _) _ _) (Nat.le_refl _) _ _) (Nat.le_refl _) _ _⟩
        · have HN := hide ((cOf_gn hr).trans (rK_3n e1 e2 (.inl (by simpa using hr2))))
          have HC := hide hc2
          clear hc2
          have HXa := hide (box_of E1.out).1
          have za := (box_of E1.out).2
          have a0 := HXa.out 0 _ rfl
          have a1 := HXa.out 1 _ rfl
          have a2 := HXa.out 2 _ rfl
          have a3 := HXa.out 3 _ rfl
          go_upto_region 5 with fail
          clear a0 a1 a2 a3 za HXa
          replace HC := hide (HC.out.mine (l := w1.heap.size) (by omega) 2 (.string noS))
          replace HG := hide (grownSet HG.out (l := w1.heap.size) (by omega) 2 (.string noS))
          replace E0 := hide (placeSet (o := 2) (l := w1.heap.size) E0.out (by omega) (.string noS))
          replace E1 : Hid ((w2.setCell ⟨w1.heap.size, 2, none⟩ (.string noS)).heap[w1.heap.size]? = some (.cells #[.int .i64 kd, .int .i64 0, .string noS, .string noS] 25 (0, 0))) := hide (put4at E1.out 2 (.string noS))
          generalize w2.setCell ⟨w1.heap.size, 2, none⟩ (.string noS) = W2 at *
          have HXa := hide (box_of E1.out).1
          have a0 := HXa.out 0 _ rfl
          have a1 := HXa.out 1 _ rfl
          have a2 := HXa.out 2 _ rfl
          have a3 := HXa.out 3 _ rfl
          go_wp2_with fail
          clear a0 a1 a2 a3 HXa
          refine (l6TextI HC.out hcap).mono ?_
          rintro e w4 ⟨h4, g4⟩
          replace HG := hide (grown_step HG.out g4 (fun k hk => by cases hk; exact .inl rfl))
          replace E0 := hide ((g4.block w.heap.size (Array.getElem?_eq_some_iff.1 E0.out).1 (by simp; omega)).trans E0.out)
          replace E1 := hide ((g4.block w1.heap.size (Array.getElem?_eq_some_iff.1 E1.out).1 (by simp; omega)).trans E1.out)
          clear g4 HC
          rcases h4 with ⟨u, k4, ho4, _⟩ | ⟨_, rfl, hc4⟩
          · cases ho4
          · have HC := hide hc4
            clear hc4
            have HXa := hide (box_of E1.out).1
            have za := (box_of E1.out).2
            have a0 := HXa.out 0 _ rfl
            have a1 := HXa.out 1 _ rfl
            have a2 := HXa.out 2 _ rfl
            have a3 := HXa.out 3 _ rfl
            go_upto_region 7 with fail
            clear a0 a1 a2 a3 za HXa
            replace HC := hide (HC.out.mine (l := w1.heap.size) (by omega) 3 (.string noS))
            replace HG := hide (grownSet HG.out (l := w1.heap.size) (by omega) 3 (.string noS))
            replace E0 := hide (placeSet (o := 3) (l := w1.heap.size) E0.out (by omega) (.string noS))
            replace E1 : Hid ((w4.setCell ⟨w1.heap.size, 3, none⟩ (.string noS)).heap[w1.heap.size]? = some (.cells #[.int .i64 kd, .int .i64 0, .string noS, .string noS] 25 (0, 0))) := hide (put4at E1.out 3 (.string noS))
            generalize w4.setCell ⟨w1.heap.size, 3, none⟩ (.string noS) = W4 at *
            have HXc := hide (box_of HC.out.pl).1
            have zc := (box_of HC.out.pl).2 2
            have f0 := HXc.out 0 _ rfl
            have f1 := HXc.out 1 _ rfl
            have f2 := HXc.out 2 _ rfl
            go_upto_region 8 with fail
            have HF := hide (HC.out.okay false)
            replace HG := hide (grown_step HG.out HF.out.2 (fun k hk => by cases hk; exact .inl rfl))
            replace E0 := hide ((HF.out.2.block w.heap.size (Array.getElem?_eq_some_iff.1 E0.out).1 (by simp; omega)).trans E0.out)
            replace E1 := hide ((HF.out.2.block w1.heap.size (Array.getElem?_eq_some_iff.1 E1.out).1 (by simp; omega)).trans E1.out)
            replace HC := hide HF.out.1
            clear f0 f1 f2 zc HXc HF
            generalize World.setCell _ ⟨g, 2, none⟩ (Value.bool false) = W3 at *
            have HXa := hide (box_of E1.out).1
            have HXb := hide (box_of E0.out).1
            have zb := (box_of E0.out).2
            have a0 := HXa.out 0 _ rfl
            have a1 := HXa.out 1 _ rfl
            have a2 := HXa.out 2 _ rfl
            have a3 := HXa.out 3 _ rfl
            have b0 := HXb.out 0 _ rfl
            have b1 := HXb.out 1 _ rfl
            have b2 := HXb.out 2 _ rfl
            have b3 := HXb.out 3 _ rfl
            go_wp2
            exact bodyPost_ret (v := constV kd 0 noS noS) (results_one Tryd.results35 _ _ _ rfl (loadK (put4 E0.out _ _ _ _))) rfl ⟨.inr ⟨HN.out, (kd, 0, noS, noS), _, rfl, (((HC.out.mine hgl _ _).mine hgl _ _).mine hgl _ _).mine hgl _ _⟩, grownSet (grownSet (grownSet (grownSet HG.out (Nat.le_refl _) _ _) (Nat.le_refl _) _ _) (Nat.le_refl _) _ _) (Nat.le_refl _) _ _⟩
  · have HC := hide hc1
    clear hc1
    have HN := hide (cOf_gn0 (by simpa using hr))
    have E1 := hide (heap_alloc_new w1 (.cells #[.int .i64 0, .int .i64 0, .string noS, .string noS] 25))
    replace HC := hide (HC.out.far (World.grownBy_alloc w1 (.cells #[.int .i64 0, .int .i64 0, .string noS, .string noS] 25) none) (fun q hq => by cases hq))
    replace HG := hide (grown_step HG.out (World.grownBy_alloc w1 (.cells #[.int .i64 0, .int .i64 0, .string noS, .string noS] 25) none) (fun k hk => by cases hk))
    replace E0 := hide ((World.grownBy_alloc w1 (.cells #[.int .i64 0, .int .i64 0, .string noS, .string noS] 25) none).block w.heap.size hs1 (by simp) |>.trans E0.out)
    go_upto_region 2 with fail
    generalize w1.alloc (.cells #[.int .i64 0, .int .i64 0, .string noS, .string noS] 25) = W1 at *
    have HXa := hide (box_of E1.out).1
    have a0 := HXa.out 0 _ rfl
    have a1 := HXa.out 1 _ rfl
    have a2 := HXa.out 2 _ rfl
    have a3 := HXa.out 3 _ rfl
    go_wp2_with fail
    clear a0 a1 a2 a3 HXa
    refine (l6TextI HC.out hcap).mono ?_
    rintro e w2 ⟨h2, g2⟩
    replace HG := hide (grown_step HG.out g2 (fun k hk => by cases hk; exact .inl rfl))
    replace E0 := hide ((g2.block w.heap.size (Array.getElem?_eq_some_iff.1 E0.out).1 (by simp; omega)).trans E0.out)
    replace E1 := hide ((g2.block w1.heap.size (Array.getElem?_eq_some_iff.1 E1.out).1 (by simp; omega)).trans E1.out)
    clear g2 HC
    rcases h2 with ⟨s, k2, ho2, _⟩ | ⟨_, rfl, hc2⟩
    · cases ho2
    · have HC := hide hc2
      clear hc2
      have HXa := hide (box_of E1.out).1
      have za := (box_of E1.out).2
      have a0 := HXa.out 0 _ rfl
      have a1 := HXa.out 1 _ rfl
      have a2 := HXa.out 2 _ rfl
      have a3 := HXa.out 3 _ rfl
      go_upto_region 5 with fail
      clear a0 a1 a2 a3 za HXa
      replace HC := hide (HC.out.mine (l := w1.heap.size) (by omega) 2 (.string noS))
      replace HG := hide (grownSet HG.out (l := w1.heap.size) (by omega) 2 (.string noS))
      replace E0 := hide (placeSet (o := 2) (l := w1.heap.size) E0.out (by omega) (.string noS))
      replace E1 : Hid ((w2.setCell ⟨w1.heap.size, 2, none⟩ (.string noS)).heap[w1.heap.size]? = some (.cells #[.int .i64 0, .int .i64 0, .string noS, .string noS] 25 (0, 0))) := hide (put4at E1.out 2 (.string noS))
      generalize w2.setCell ⟨w1.heap.size, 2, none⟩ (.string noS) = W2 at *
      have HXa := hide (box_of E1.out).1
      have a0 := HXa.out 0 _ rfl
      have a1 := HXa.out 1 _ rfl
      have a2 := HXa.out 2 _ rfl
      have a3 := HXa.out 3 _ rfl
      go_wp2_with fail
      clear a0 a1 a2 a3 HXa
      refine (l6TextI HC.out hcap).mono ?_
      rintro e w4 ⟨h4, g4⟩
      replace HG := hide (grown_step HG.out g4 (fun k hk => by cases hk; exact .inl rfl))
      replace E0 := hide ((g4.block w.heap.size (Array.getElem?_eq_some_iff.1 E0.out).1 (by simp; omega)).trans E0.out)
      replace E1 := hide ((g4.block w1.heap.size (Array.getElem?_eq_some_iff.1 E1.out).1 (by simp; omega)).trans E1.out)
      clear g4 HC
      rcases h4 with ⟨u, k4, ho4, _⟩ | ⟨_, rfl, hc4⟩
      · cases ho4
      · have HC := hide hc4
        clear hc4
        have HXa := hide (box_of E1.out).1
        have za := (box_of E1.out).2
        have a0 := HXa.out 0 _ rfl
        have a1 := HXa.out 1 _ rfl
        have a2 := HXa.out 2 _ rfl
        have a3 := HXa.out 3 _ rfl
        go_upto_region 7 with fail
        clear a0 a1 a2 a3 za HXa
        replace HC := hide (HC.out.mine (l := w1.heap.size) (by omega) 3 (.string noS))
        replace HG := hide (grownSet HG.out (l := w1.heap.size) (by omega) 3 (.string noS))
        replace E0 := hide (placeSet (o := 3) (l := w1.heap.size) E0.out (by omega) (.string noS))
        replace E1 : Hid ((w4.setCell ⟨w1.heap.size, 3, none⟩ (.string noS)).heap[w1.heap.size]? = some (.cells #[.int .i64 0, .int .i64 0, .string noS, .string noS] 25 (0, 0))) := hide (put4at E1.out 3 (.string noS))
        generalize w4.setCell ⟨w1.heap.size, 3, none⟩ (.string noS) = W4 at *
        have HXc := hide (box_of HC.out.pl).1
        have zc := (box_of HC.out.pl).2 2
        have f0 := HXc.out 0 _ rfl
        have f1 := HXc.out 1 _ rfl
        have f2 := HXc.out 2 _ rfl
        go_upto_region 8 with fail
        have HF := hide (HC.out.okay false)
        replace HG := hide (grown_step HG.out HF.out.2 (fun k hk => by cases hk; exact .inl rfl))
        replace E0 := hide ((HF.out.2.block w.heap.size (Array.getElem?_eq_some_iff.1 E0.out).1 (by simp; omega)).trans E0.out)
        replace E1 := hide ((HF.out.2.block w1.heap.size (Array.getElem?_eq_some_iff.1 E1.out).1 (by simp; omega)).trans E1.out)
        replace HC := hide HF.out.1
        clear f0 f1 f2 zc HXc HF
        generalize World.setCell _ ⟨g, 2, none⟩ (Value.bool false) = W3 at *
        have HXa := hide (box_of E1.out).1
        have HXb := hide (box_of E0.out).1
        have zb := (box_of E0.out).2
        have a0 := HXa.out 0 _ rfl
        have a1 := HXa.out 1 _ rfl
        have a2 := HXa.out 2 _ rfl
        have a3 := HXa.out 3 _ rfl
        have b0 := HXb.out 0 _ rfl
        have b1 := HXb.out 1 _ rfl
        have b2 := HXb.out 2 _ rfl
        have b3 := HXb.out 3 _ rfl
        go_wp2
        exact bodyPost_ret (v := constV 0 0 noS noS) (results_one Tryd.results35 _ _ _ rfl (loadK (put4 E0.out _ _ _ _))) rfl ⟨.inr ⟨HN.out, (0, 0, noS, noS), _, rfl, (((HC.out.mine hgl _ _).mine hgl _ _).mine hgl _ _).mine hgl _ _⟩, grownSet (grownSet (grownSet (grownSet HG.out (Nat.le_refl _) _ _) (Nat.le_refl _) _ _) (Nat.le_refl _) _ _) (Nat.le_refl _) _ _⟩
end Go.Proofs.YtgegmocgbjklkaaDoor
