/-
  Any drawn net: its packets may be read; nothing is turned but the cursor.
-/
import Derived.Test.YtmlbemcblgnbjaaDrawNet
import Derived.Deep.CutBlock
import Derived.Deep.RegionLaw
import Derived.Deep.AppendLies
namespace Go.Proofs.Ytmlbemcblgnbjaa
open Go.RowKit

theorem typ_neN {w : World} {b e e' sz n l : Nat} {v : Value} {cs : List Value} {vs : Array Value} (h : w.ownsRow b e sz v n cs) (hl : w.heap[l]? = some (.cells vs e' (0, 0))) (he : e ≠ e') : v.ownBlock ≠ some l := by
  rcases h.2 with ⟨rfl, _⟩ | ⟨g, c, cur, rfl, _, hg, _⟩
  · intro e; cases e
  · intro e
    cases e
    rw [hg] at hl
    cases hl
    exact he rfl
/-- Block q holds the packets or the bytes of one. -/
def Mine (v : Value) (xs : List (Pk × Value)) (q : Nat) : Prop := v.ownBlock = some q ∨ ∃ x ∈ xs, x.2.ownBlock = some q
theorem OwnX.like {w w' : World} {b hi : Nat} {v : Value} {xs : List (Pk × Value)} (h : OwnX w b hi v xs) (hs : ∀ q, Mine v xs q → w'.heap[q]? = w.heap[q]?) : OwnX w' b hi v xs :=
  ⟨own_like h.1 (fun q hq => hs q (.inl hq)), fun x hx => own_like (h.2.1 x hx) (fun q hq => hs q (.inr ⟨x, hx, hq⟩)), h.2.2⟩
theorem OwnX.at {w : World} {b hi : Nat} {v : Value} {xs : List (Pk × Value)} (h : OwnX w b hi v xs) (q : Nat) (hq : Mine v xs q) : b ≤ q ∧ q < w.heap.size := by
  rcases hq with hq | ⟨x, hx, hq⟩
  · exact World.ownsRow.lt h.1 q hq
  · exact World.ownsRow.lt (h.2.1 x hx) q hq
theorem OwnX.ne {w : World} {b hi l : Nat} {v : Value} {vs : Array Value} {xs : List (Pk × Value)} (h : OwnX w b hi v xs) (hl : w.heap[l]? = some (.cells vs 26 (0, 0))) (q : Nat) (hq : Mine v xs q) : q ≠ l := by
  rintro rfl
  rcases hq with hq | ⟨x, hx, hq⟩
  · exact typ_neN h.1 hl (by decide) hq
  · exact typ_neN (h.2.1 x hx) hl (by decide) hq

/-- A net is drawn at block l, the answer's cells at w0's end. -/
structure NU (w0 : World) (g l : Nat) (size : Int) (v : Value) (xs : List (Pk × Value)) (w : World) : Prop where
  cur : CurW w g
  box : w.heap[l]? = some (.cells #[.int .i64 size, v] 26 (0, 0))
  res : w.heap[w0.heap.size]? = some (.cells #[.int .i64 0, .slice none 0 0] 26 (0, 0))
  own : OwnX w (w0.heap.size + 1) w.heap.size v xs
  good : Good (xs.map Prod.fst)
  len : xs.length ≤ 61
  grown : w0.grownBy w (some g)
  gl : g < w0.heap.size ∧ w0.heap.size < l
theorem NU.lt {w0 w : World} {g l : Nat} {size : Int} {v : Value} {xs : List (Pk × Value)} (h : NU w0 g l size v xs w) : l < w.heap.size := (Array.getElem?_eq_some_iff.1 h.box).1
theorem NU.row {w0 w w' : World} {g l : Nat} {row : Option Nat} {size : Int} {v : Value} {xs : List (Pk × Value)} (h : NU w0 g l size v xs w) (hc : CurW w' g) (hg : w.grownBy w' row) (hr : ∀ k, row = some k → k = g) : NU w0 g l size v xs w' := by
  obtain ⟨h1, h2⟩ := h.gl
  have hl := h.lt
  refine ⟨hc, (hg.block l h.lt (fun e => by have := hr l e.symm; omega)).trans h.box, (hg.block _ (by omega) (fun e => by have := hr _ e.symm; omega)).trans h.res, (h.own.like (fun q hq => hg.block q (h.own.at q hq).2 (fun e => ?_))).up hg.size, h.good, h.len, grown_step h.grown hg (fun k hk => .inl (hr k hk)), h1, h2⟩
  have := hr q e.symm
  have := (h.own.at q hq).1
  omega
theorem NU.call {w0 w w' : World} {g l : Nat} {size : Int} {v : Value} {xs : List (Pk × Value)} (h : NU w0 g l size v xs w) (hc : CurW w' g) (hg : w.grownBy w' (some g)) : NU w0 g l size v xs w' := h.row hc hg (fun k hk => by cases hk; rfl)
theorem NU.below {w0 w w' : World} {g l : Nat} {size : Int} {v : Value} {xs : List (Pk × Value)} (h : NU w0 g l size v xs w) (hb : Below w.heap.size w w') : NU w0 g l size v xs w' := h.row (h.cur.below hb) (grown_of_below hb) (fun k hk => by cases hk)
theorem NU.alloc {w0 w : World} {g l : Nat} {size : Int} {v : Value} {xs : List (Pk × Value)} (h : NU w0 g l size v xs w) (o : Obj) : NU w0 g l size v xs (w.alloc o) := h.below ((Below.refl w.heap.size w).alloc (Nat.le_refl _) o)
theorem NU.kept {w0 w w' : World} {g l : Nat} {size : Int} {v : Value} {xs : List (Pk × Value)} (h : NU w0 g l size v xs w) (hg : w.grownBy w' v.ownBlock) : w'.heap[l]? = some (.cells #[.int .i64 size, v] 26 (0, 0)) :=
  (hg.block l h.lt (fun e => h.own.ne h.box l (.inl e.symm) rfl)).trans h.box
theorem NU.more {w0 w w' : World} {g l : Nat} {size : Int} {v v' : Value} {xs xs' : List (Pk × Value)} (h : NU w0 g l size v xs w) (ho : OwnX w' (w0.heap.size + 1) w'.heap.size v' xs') (hg : w.grownBy w' v.ownBlock) (hgo : Good (xs'.map Prod.fst)) (hn : xs'.length ≤ 61) :
    NU w0 g l size v' xs' (w'.setCell ⟨l, 1, none⟩ v') := by
  obtain ⟨h1, h2⟩ := h.gl
  have hl := h.lt
  have hb := h.kept hg
  have hlo : ∀ q, v.ownBlock = some q → w0.heap.size + 1 ≤ q := fun q hq => (h.own.at q (.inl hq)).1
  have hr : w'.heap[w0.heap.size]? = _ := (hg.block w0.heap.size (by omega) (fun e => by have := hlo _ e.symm; omega)).trans h.res
  refine ⟨(h.cur.row hg (fun k hk => by have := hlo k hk; omega)).mine (by omega) _ _, heap_setCell_same w' l 1 _ _ v' hb, (heap_setCell_other _ _ _ _ (by simp; omega)).trans hr, (ho.like (fun q hq => heap_setCell_other _ _ _ _ (ho.ne hb q hq))).up (by simp), hgo, hn, grown_mine (grown_step h.grown hg (fun k hk => .inr (by have := hlo k hk; omega))) (Nat.le_of_lt h2) _ _, h1, h2⟩
theorem NU.sized {w0 w : World} {g l : Nat} {size : Int} {v : Value} {xs : List (Pk × Value)} (h : NU w0 g l size v xs w) (s' : Int) : NU w0 g l s' v xs (w.setCell ⟨l, 0, none⟩ (.int .i64 s')) := by
  obtain ⟨h1, h2⟩ := h.gl
  exact ⟨h.cur.mine (by omega) _ _, heap_setCell_same w l 0 _ _ _ h.box, (heap_setCell_other _ _ _ _ (by simp; omega)).trans h.res, (h.own.like (fun q hq => heap_setCell_other _ _ _ _ (h.own.ne h.box q hq))).up (by simp), h.good, h.len, grown_mine h.grown (Nat.le_of_lt h2) _ _, h1, h2⟩
theorem NU.fresh {w0 w : World} {g l : Nat} {size : Int} {v : Value} {xs : List (Pk × Value)} (h : NU w0 g l size v xs w) {u : Value} (hu : ∀ q, u.ownBlock = some q → w.heap.size ≤ q) : ∀ q, u.ownBlock = some q → v.ownBlock ≠ some q ∧ ∀ z ∈ xs.map Prod.snd, z.ownBlock ≠ some q := by
  intro q hq
  have := hu q hq
  refine ⟨fun e => ?_, fun z hz e => ?_⟩
  · have := h.own.2.2.2.1 q e; omega
  · have := h.own.2.2.2.2 z hz q e; omega
theorem NU.shape {w0 w : World} {g l : Nat} {size : Int} {v : Value} {xs : List (Pk × Value)} (h : NU w0 g l size v xs w) : ∃ a c, v = .slice a xs.length c := h.own.shape
def lenAt (l : Nat) (w : World) : Nat := match w.cell? ⟨l, 1, none⟩ with
  | some (.slice _ n _) => n
  | _ => 0
theorem NU.lenAt {w0 w : World} {g l : Nat} {size : Int} {v : Value} {xs : List (Pk × Value)} (h : NU w0 g l size v xs w) : lenAt l w = xs.length := by
  obtain ⟨a, c, rfl⟩ := h.shape
  have := (box_of h.box).1 1 _ rfl
  unfold Go.Proofs.Ytmlbemcblgnbjaa.lenAt
  rw [this]

/-- 'make([]byte, n)'. -/
theorem make8 {w : World} (base n : Nat) (L : Int) (hL : L = (n : Int)) (hn : n ≤ 1048576) (hb : base ≤ w.heap.size) :
    ∃ w', (Instr.makeSlice 22 (.int .i64 L) (.int .i64 L)).run Try.prog w = .ok (.slice (some ⟨w.heap.size, 0, none⟩) n n) w' ∧ Own w' base (.slice (some ⟨w.heap.size, 0, none⟩) n n) (List.replicate n 0) ∧ Below w.heap.size w w' := by
  subst hL
  obtain ⟨i0, hi, hz0, hz1, hz2⟩ := info_parts Try.info5
  obtain ⟨w', hrun, r1, r2⟩ := run_make_full (P := Try.prog) w base 22 5 i0 (.int .u8 0) 1 Try.underlying22 hi hz0 hz1 .i64 .i64 n (by rw [hz2]; omega) (by unfold maxLen; omega) hb
  refine ⟨w', hrun, ?_, (Below.refl _ _).grown r2 (Nat.le_refl _) (fun k hk => by cases hk)⟩
  unfold Own
  rw [Nat.mul_one, show (Value.int .u8 0).cells = #[.int .u8 0] from rfl, toList_madeCells_one] at r1
  simpa using r1

def NAny (w0 : World) (g l : Nat) (w : World) : Prop := ∃ size v xs, NU w0 g l size v xs w

set_option maxRecDepth 100000 in
set_option maxHeartbeats 8000000 in
theorem drawN (w : World) (g : Nat) (hc : CurW w g) :
    Calls Try.prog 21 #[.pointer (some ⟨g, 0, none⟩)] w fun e w' => ∃ size v xs, e = .returned (.agg #[.int .i64 size, v]) ∧ OwnX w' w.heap.size w'.heap.size v xs ∧ Good (xs.map Prod.fst) ∧ xs.length ≤ 61 ∧ CurW w' g ∧ w.grownBy w' (some g) := by
  have hgl := hc.lt
  have HC := hide (hc.alloc (.cells #[.int .i64 0, .slice none 0 0] 26))
  have E := hide (heap_alloc_new w (.cells #[.int .i64 0, .slice none 0 0] 26))
  have HG := hide (World.grownBy_alloc w (.cells #[.int .i64 0, .slice none 0 0] 26) (some g))
  have hs0 : (w.alloc (.cells #[.int .i64 0, .slice none 0 0] 26)).heap.size = w.heap.size + 1 := by simp
  clear hc
  go_enter Try.func21, Try.ntmps21
  go_wp2_with fail
  generalize w.alloc (.cells #[.int .i64 0, .slice none 0 0] 26) = W at *
  refine (rightN _ _ HC.out).mono ?_
  rintro e w2 ⟨size, v, xs, rfl, _, ho, hgo, hl, hc2, hg2⟩
  have hsg := hg2.size
  replace E := hide ((hg2.block w.heap.size (by omega) (fun e => by simp only [Option.some.injEq] at e; omega)).trans E.out)
  replace HG := hide (grown_step HG.out hg2 same_g)
  have HI : Hid (NU w g w2.heap.size size v xs (w2.alloc (.cells #[.int .i64 size, v] 26))) :=
    hide (have b := (Below.refl w2.heap.size w2).alloc (Nat.le_refl _) (.cells #[.int .i64 size, v] 26)
      ⟨hc2.alloc _, heap_alloc_new w2 _, (Below.heap_alloc _ _ _ (by omega)).trans E.out, ((ho.mono (by omega)).below b).up (by simp), hgo, by omega, grown_step HG.out (World.grownBy_alloc w2 _ none) (fun k hk => by cases hk), hgl, by omega⟩)
  obtain ⟨a, c, rfl⟩ := ho.shape
  have HL := hide hl
  clear E HG HC ho hgo hl hc2 hg2 hsg hs0
  go_wp2_with fail
  generalize w2.alloc _ = w3 at *
  generalize w2.heap.size = l at *
  refine (belowW _ _ _ (by omega) (by omega) HI.out.cur).mono ?_
  rintro e w4 ⟨x, rfl, x0, x1, hc4, hg4⟩
  replace HI := hide (HI.out.call hc4 hg4)
  clear hc4 hg4
  go_upto_block 0 with fail
  go_cut [8] from 7 to 52 (fun _ wq => NAny w g l wq)
  case first =>
    by_cases h0 : x = 0
    · subst h0
      go_wp2_with fail
      refine (pickW _ _ _ 3 [0, 5, -9223372036854775808] rfl (by omega) (by omega) HI.out.cur.lt (HI.out.cur.alloc _) (heap_alloc_new w4 _)).mono ?_
      rintro e w5 ⟨y, rfl, _, hc5, hg5⟩
      have HJ := hide (HI.out.call hc5 (alloc_grown hg5))
      clear HI hc5 hg5
      have X := box_of HJ.out.box
      have f := X.1 0 _ rfl
      have z := X.2 0
      clear X
      go_wp2_with fail
      go_meet
      exact ⟨_, _, _, HJ.out.sized _⟩
    by_cases h1 : x = 1
    · subst h1
      have HId := hide (HI.out.below (Below.refl w4.heap.size w4).drew)
      have HIe := hide ((HI.out.alloc (.cells #[.int .i64 (-1), .int .i64 4] 3)).below (Below.refl (w4.alloc (.cells #[.int .i64 (-1), .int .i64 4] 3)).heap.size (w4.alloc (.cells #[.int .i64 (-1), .int .i64 4] 3))).drew)
      have HL0 : Hid ((w4.alloc (.cells #[.int .i64 (-1), .int .i64 4] 3)).drew.heap[w4.heap.size]? = some (.cells #[.int .i64 (-1), .int .i64 4] 3 (0, 0))) := hide (heap_alloc_new w4 (.cells #[.int .i64 (-1), .int .i64 4] 3))
      have f6 := (box_of HId.out.box).1 1 _ rfl
      have f7 := (box_of HIe.out.box).1 1 _ rfl
      have hgL : g < w4.heap.size := HI.out.cur.lt
      go_upto_region 6 with fail
      go_region_law
        (first
          | (refine step_call rfl 36 _ _ rfl #[.pointer (some ⟨g, 0, none⟩), .slice (some ⟨w4.heap.size, 0, none⟩) 2 2] (by kernel_rfl) (pickW _ g w4.heap.size 2 [-1, 4] rfl (by omega) (by omega) hgL HIe.out.cur HL0.out) ?_; rintro e y1 ⟨x1, rfl, _, hc, hg⟩; refine ⟨_, rfl, ?_⟩; have HJ := hide (HIe.out.call hc hg); clear hc hg; have f8 := (box_of HJ.out.box).1 1 _ rfl; have HJ1 := hide (HJ.out.alloc (.cells #[.int .i64 x1, .int .i64 0, .slice none 0 0, .bool false] 28)); have f9 := (box_of HJ1.out.box).1 1 _ rfl; have HBx := hide (Box.new y1 #[.int .i64 x1, .int .i64 0, .slice none 0 0, .bool false] 28); have hsJ : Hid (w.heap.size + 1 ≤ (y1.alloc (.cells #[.int .i64 x1, .int .i64 0, .slice none 0 0, .bool false] 28)).heap.size) := hide (by have := HJ1.out.lt; have := HJ1.out.gl; omega))
          | (refine step_app_Pk (by rfl) _ _ (by rfl) (w.heap.size + 1) _ y1.heap.size 1 _ xs (⟨x1, 0, [], false⟩, .slice none 0 0) (by rfl) HJ1.out.own (by rfl) HBx.out (World.ownsRow_nil _ _ _ _) (fun q hq => by cases hq) (by have := HL.out; omega) hsJ.out ?_; intro v7 w7 o7 g7 _; obtain ⟨a7, c7, e7⟩ := o7.shape; rw [List.length_append] at e7; subst e7;
              have H7 := hide (HJ1.out.more o7 g7 (good_more HJ1.out.good (Nat.zero_le _) (by intro z hz; cases hz)) (by have := HL.out; simp; omega)); have X7 := box_of (HJ1.out.kept g7); have p7 := X7.1 1 _ rfl; have z7 := X7.2 1; clear X7 o7 g7)
          | fail)
      all_goals (
        go_wp2_with fail
        go_meet
        exact ⟨_, _, _, H7.out⟩)
    by_cases h2 : x = 2
    · subst h2
      go_wp2_with fail
      have H0 : Hid (NAny w g l w4) := hide ⟨_, _, _, HI.out⟩
      clear HI
      go_loopw [] (fun wr => Hid (NAny w g l wr)) (fun wr => 100 - lenAt l wr)
      case atStart => exact H0
      case round =>
        clear H0
        obtain ⟨size, v, xs, hI⟩ := hrel.out
        obtain ⟨a, c, rfl⟩ := hI.shape
        have HD := hide (hI.below (Below.refl wr.heap.size wr).drew)
        have hlen := hide hI.lenAt
        clear hI hrel
        have f6 := (box_of HD.out.box).1 1 _ rfl
        have hl61 := HD.out.len
        go_upto_region 8 with fail
        go_region_law
          (first
            | (refine step_call rfl 22 _ _ rfl #[.pointer (some ⟨g, 0, none⟩), .int .i64 2] (by kernel_rfl) (belowW wr.drew g 2 (by omega) (by omega) HD.out.cur) ?_; rintro e y1 ⟨k, rfl, k0, k1, hc, hg⟩; refine ⟨_, rfl, ?_⟩; have HJ := hide (HD.out.call hc hg); clear hc hg; have f8 := (box_of HJ.out.box).1 1 _ rfl; have hwr : IntKind.i64.wrap (60 + k) = 60 + k := (by rw [IntKind.wrap_i64]; omega))
            | fail)
        all_goals (
          by_cases hlt : (xs.length : Int) < 60 + k
          · have HJ1 := hide (HJ.out.alloc (.cells #[.int .i64 0, .int .i64 0, .slice none 0 0, .bool false] 28))
            have f9 := (box_of HJ1.out.box).1 1 _ rfl
            have HBx := hide (Box.new y1 #[.int .i64 0, .int .i64 0, .slice none 0 0, .bool false] 28)
            have hsJ : Hid (w.heap.size + 1 ≤ (y1.alloc (.cells #[.int .i64 0, .int .i64 0, .slice none 0 0, .bool false] 28)).heap.size) := hide (by have := HJ1.out.lt; have := HJ1.out.gl; omega)
            go_wp2_with (at_builtin; refine app_Pk rfl _ _ rfl (w.heap.size + 1) _ y1.heap.size 1 _ xs (⟨0, 0, [], false⟩, .slice none 0 0) rfl HJ1.out.own rfl HBx.out (World.ownsRow_nil _ _ _ _) (fun q hq => by cases hq) (by omega) hsJ.out ?_; intro v7 w7 o7 g7 _; obtain ⟨a7, c7, e7⟩ := o7.shape; rw [List.length_append] at e7; subst e7; have H7 := hide (HJ1.out.more o7 g7 (good_more HJ1.out.good (Nat.zero_le _) (by intro z hz; cases hz)) (by simp; omega)); have X7 := box_of (HJ1.out.kept g7); have p7 := X7.1 1 _ rfl; have z7 := X7.2 1; clear X7 o7 g7)
            exact ⟨hide ⟨_, _, _, H7.out⟩, by have e1 : lenAt l (w7.setCell ⟨l, 1, none⟩ (.slice a7 (xs.length + 1) c7)) = xs.length + 1 := H7.out.lenAt.trans (by simp); have e2 := hlen.out; omega⟩
          · go_wp2_with fail
            go_meet
            exact ⟨_, _, _, HJ.out⟩)
    by_cases h3 : x = 3
    · subst h3
      have HId := hide (HI.out.below (Below.refl w4.heap.size w4).drew)
      have f6 := (box_of HId.out.box).1 1 _ rfl
      go_upto_region 11 with fail
      go_region_law
        (first
          | (refine step_call rfl 22 _ _ rfl #[.pointer (some ⟨g, 0, none⟩), .int .i64 2] (by kernel_rfl) (belowW w4.drew g 2 (by omega) (by omega) HId.out.cur) ?_; rintro e y1 ⟨k, rfl, k0, k1, hc, hg⟩; refine ⟨_, rfl, ?_⟩; have HJ := hide (HId.out.call hc hg); clear hc hg; have f8 := (box_of HJ.out.box).1 1 _ rfl; obtain ⟨n8, hn8⟩ : ∃ n8 : Nat, 4000 + k = (n8 : Int) := ⟨(4000 + k).toNat, by omega⟩; have hn9 : n8 ≤ 4001 := (by omega); have hwr : IntKind.i64.wrap (4000 + k) = 4000 + k := (by rw [IntKind.wrap_i64]; omega); have HN8 := hide hn8; clear hn8; have hsJ : Hid (w.heap.size + 1 ≤ y1.heap.size) := hide (by have := HJ.out.lt; have := HJ.out.gl; omega); obtain ⟨y2, hrun, o2, b2⟩ := make8 (w := y1) (w.heap.size + 1) n8 (4000 + k) HN8.out (by omega) hsJ.out; have HJ2 := hide (HJ.out.below b2); have f9 := (box_of HJ2.out.box).1 1 _ rfl; have b3 := (Below.refl y2.heap.size y2).alloc (Nat.le_refl _) (.cells #[.int .i64 0, .int .i64 0, .slice (some ⟨y1.heap.size, 0, none⟩) n8 n8, .bool false] 28); have HJ3 := hide (HJ2.out.below b3); have f10 := (box_of HJ3.out.box).1 1 _ rfl; have HU := hide (o2.below b3); have HBx := hide (Box.new y2 #[.int .i64 0, .int .i64 0, .slice (some ⟨y1.heap.size, 0, none⟩) n8 n8, .bool false] 28); have HF := hide (HJ.out.fresh (u := .slice (some ⟨y1.heap.size, 0, none⟩) n8 n8) (fun q hq => by cases hq; exact Nat.le_refl _)); have hsK : Hid (w.heap.size + 1 ≤ (y2.alloc (.cells #[.int .i64 0, .int .i64 0, .slice (some ⟨y1.heap.size, 0, none⟩) n8 n8, .bool false] 28)).heap.size) := hide (by have := HJ3.out.lt; have := HJ3.out.gl; omega); clear o2 b2 b3)
          | (refine step_app_Pk (by rfl) _ _ (by rfl) (w.heap.size + 1) _ y2.heap.size 1 _ xs (⟨0, 0, List.replicate n8 0, false⟩, .slice (some ⟨y1.heap.size, 0, none⟩) n8 n8) (by rfl) HJ3.out.own (by rfl) HBx.out HU.out HF.out (by have := HL.out; omega) hsK.out ?_; intro v7 w7 o7 g7 _; obtain ⟨a7, c7, e7⟩ := o7.shape; rw [List.length_append] at e7; subst e7;
              have H7 := hide (HJ3.out.more o7 g7 (good_more HJ3.out.good (by simp; omega) (by intro z hz; have := List.eq_of_mem_replicate hz; omega)) (by have := HL.out; simp; omega)); have X7 := box_of (HJ3.out.kept g7); have p7 := X7.1 1 _ rfl; have z7 := X7.2 1; clear X7 o7 g7)
          | fail)
      all_goals (
        go_wp2_with fail
        go_meet
        exact ⟨_, _, _, H7.out⟩)
    go_wp2_with fail
    go_meet
    exact ⟨_, _, _, HI.out⟩
  case rest =>
  clear HI
  obtain ⟨size, v, xs, hI⟩ := hcut
  obtain ⟨a, c, rfl⟩ := hI.shape
  have HI := hide hI
  clear hI
  have X := box_of HI.out.box
  have f0 := X.1 0 _ rfl
  have f1 := X.1 1 _ rfl
  have Y := box_of HI.out.res
  have r0 := Y.1 0 _ rfl
  have r1 := Y.1 1 _ rfl
  have z0 := Y.2
  clear X Y
  go_wp2
  refine bodyPost_ret (v := .agg #[.int .i64 size, .slice a xs.length c]) (results_one Try.results21 _ _ _ rfl (load2 (put2 HI.out.res _ _))) rfl ⟨_, _, xs, rfl, ?_, HI.out.good, HI.out.len, ?_, ?_⟩
  · refine ((HI.out.own.like (fun q hq => ?_)).mono (by omega)).up (by simp)
    have := (HI.out.own.at q hq).1
    rw [heap_setCell_other _ _ _ _ (by simp; omega), heap_setCell_other _ _ _ _ (by simp; omega)]
  · exact (HI.out.cur.mine hgl _ _).mine hgl _ _
  · exact grown_mine (grown_mine HI.out.grown (Nat.le_refl _) _ _) (Nat.le_refl _) _ _
end Go.Proofs.Ytmlbemcblgnbjaa
