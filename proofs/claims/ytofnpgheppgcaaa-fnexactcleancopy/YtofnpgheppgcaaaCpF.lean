/-
  Copies at a node in the model: a field of a row's element gets new data; a copy is made clean.
-/
import Derived.Test.YtofnpgheppgcaaaCpS
import Derived.Test.YtofnpgheppgcaaaDeepC
import Derived.Deep.RegionWith
import Derived.Test.YtofnpgheppgcaaaDeepN
import Derived.Test.YtofnpgheppgcaaaDeepL
namespace Go.Proofs.Ytofnpgheppgcaaa
open Go.RowKit

/-- A field of an element of a row of one's own gets new data, which lies behind all. -/
theorem OwnD.field {w : World} {b hi m hi' T k n c g i : Nat} {cs1 cs2 : List Dt} {d d' : Dt} {v' : Value} (h : OwnD w b hi (.row T k n (cs1 ++ d :: cs2)) (.slice (some ⟨g, 0, none⟩) n c)) (h' : OwnD w m hi' d' v') (hm : hi ≤ m) (hb : b ≤ m) (hh : hi ≤ hi') (hi0 : cs1.length = i) :
    ∃ x, w.cell? ⟨g, i, none⟩ = some x ∧ w.frozen? ⟨g, i, none⟩ = false ∧ b ≤ g ∧ OwnD (w.setCell ⟨g, i, none⟩ v') b hi' (.row T k n (cs1 ++ d' :: cs2)) (.slice (some ⟨g, 0, none⟩) n c) := by
  have hgb := (h.blk g rfl).2
  obtain ⟨us, hl, _, h1⟩ := OwnDL.flat (ownD_oneI h)
  have hlt : i < us.length := by rw [hl, List.length_append, List.length_cons]; omega
  obtain ⟨u1, x, u2, e, hl1⟩ : ∃ u1 x u2, us = u1 ++ x :: u2 ∧ u1.length = i := ⟨us.take i, us[i], us.drop (i + 1), by rw [← List.drop_eq_getElem_cons hlt, List.take_append_drop], by rw [List.length_take]; omega⟩
  subst e
  obtain ⟨e0, f0, gb, h3⟩ := OwnDL.cell (c1 := []) (v1 := []) h1 rfl (i := i) (z := x) (by rw [List.map_append, List.map_cons, List.getElem?_append_right (by rw [List.length_map]; omega), List.length_map, hl1, Nat.sub_self]; rfl) v'
  have h4 : OwnD (w.setCell ⟨g, i, none⟩ v') m hi' d' v' := h'.same (fun q hq _ _ => heap_setCell_other w ⟨g, i, none⟩ q v' (fun e => by have e2 : q = g := e; omega))
  refine ⟨x, e0, f0, gb, ?_⟩
  have e5 : ((u1 ++ x :: u2).map Dt.val).set i (.val v') = (u1 ++ v' :: u2).map .val := by
    rw [List.map_append, List.map_append, List.set_append_right _ _ (by rw [List.length_map]; omega), List.length_map, hl1, Nat.sub_self]
    rfl
  rw [e5] at h3
  have h5 := OwnDL.repl (c1 := .row T k n ((u1 ++ v' :: u2).map .val) :: cs1) (c := d) (c2 := cs2 ++ []) (v1 := .slice (some ⟨g, 0, none⟩) n c :: u1) (v := x) (v2 := u2 ++ []) (by simpa using h3) (by simp; omega) h4 hm hb hh
  have h6 := OwnDL.unflat (us := u1 ++ v' :: u2) (cs := cs1 ++ d' :: cs2) (c2 := []) (v2 := []) (T := T) (k := k) (n := n) (u := .slice (some ⟨g, 0, none⟩) n c) (by simpa using h5) (by simp at hl ⊢; omega)
  exact OwnDL.mid (c1 := []) (v1 := []) h6 rfl
theorem cpy_pre : ∀ (xs : List Cpy) (t : Nat), t ≤ xs.length → ((xs.take t).flatMap cpyD).length = t * 6
  | _, 0, _ => by simp
  | [], t + 1, h => by simp at h
  | x :: xs, t + 1, h => by
    have ih := cpy_pre xs t (by simpa using h)
    rw [List.take_succ_cons, List.flatMap_cons, List.length_append, ih]
    simp [cpyD]
    omega
theorem cpy_mid {xs : List Cpy} {t : Nat} {y : Cpy} (h : t < xs.length) (hy : xs.getD t default = y) : xs.flatMap cpyD = (xs.take t).flatMap cpyD ++ (cpyD y ++ (xs.drop (t + 1)).flatMap cpyD) := by
  have e : xs.drop t = y :: xs.drop (t + 1) := by
    rw [List.drop_eq_getElem_cons h, ← hy, List.getD_eq_getElem?_getD, List.getElem?_eq_getElem h]
    rfl
  rw [← List.flatMap_cons, ← List.flatMap_append, ← e, List.take_append_drop]
theorem cpy_set {xs : List Cpy} {t : Nat} (y : Cpy) (h : t < xs.length) : (xs.set t y).flatMap cpyD = (xs.take t).flatMap cpyD ++ (cpyD y ++ (xs.drop (t + 1)).flatMap cpyD) := by
  have e := cpy_mid (xs := xs.set t y) (t := t) (y := y) (by simpa using h) (by rw [List.getD_eq_getElem?_getD, List.getElem?_set_self h]; rfl)
  rw [e, List.take_set_of_le (Nat.le_refl _), List.drop_set_of_lt (by omega)]
set_option maxRecDepth 100000 in
set_option maxHeartbeats 8000000 in
theorem cleanS (w : World) (xs : List Cpy) (q : Int) (v : Value) (h : Reads w w.heap.size (cpys xs) v) (hg : cpysG xs) :
    Calls Try.prog 35 #[v, .int .i64 q] w fun e w' => rowP w w' (cpys (cleanC xs q)) e := by
  have HR := hide h
  have hm := hg.1
  have HG := hide hg
  obtain ⟨a1, c1, e1, _⟩ := h.shape
  subst e1
  clear h hg
  go_enter Try.func35, Try.ntmps35
  go_wp2_with fail
  refine (copyCS _ xs _ HR.out HG.out).mono ?_
  rintro e Z1 ⟨r1, rfl, o9, b9⟩
  obtain ⟨ra, rc, re⟩ := o9.shape
  subst re
  have HO := hide o9
  have HB := hide b9
  have hz1 := b9.size
  clear o9 b9
  go_wp2_with fail
  refine (atCS _ xs _ q (HR.out.at HB.out) hm).mono ?_
  rintro e x1 ⟨rfl, hx1⟩
  rw [hx1]
  clear hx1 x1
  have hat := atC_lt xs q
  by_cases k0 : atC xs q < 0
  · have HE : Hid (cleanC xs q = xs) := hide (by unfold cleanC; rw [if_neg (by omega)])
    have hnI : ¬ (0 ≤ atC xs q) := by omega
    go_wp2
    go_ret
    refine ⟨_, rfl, ?_, HB.out⟩
    rw [HE.out]
    exact HO.out
  · obtain ⟨j, hj⟩ : ∃ j : Nat, atC xs q = (j : Int) := ⟨(atC xs q).toNat, by omega⟩
    have hlt : j < xs.length := by omega
    have HE : Hid (cleanC xs q = xs.set j (clOne (xs.getD j default))) := hide (by unfold cleanC copyC; rw [if_pos (by omega), if_pos (by omega), hj]; rfl)
    rw [hj]
    obtain ⟨y, hy⟩ : ∃ y, xs.getD j default = y := ⟨_, rfl⟩
    rw [hy] at HE
    obtain ⟨g, cc, eg⟩ := ownD_addr (n := xs.length) HO.out (by omega)
    cases eg
    have HOw : Hid (OwnD (Z1.alloc (.cells #[] 48)) w.heap.size Z1.heap.size (.row 40 6 xs.length (((xs.take j).flatMap cpyD ++ [.val (.int .i64 y.i), .val (.int .i64 y.c), .val (.int .i64 y.n), .val (.bool y.v), vls y.f]) ++ vls y.t :: (xs.drop (j + 1)).flatMap cpyD)) (.slice (some ⟨g, 0, none⟩) xs.length rc)) := hide (by
      have h := HO.out
      unfold cpys at h
      rw [cpy_mid hlt hy] at h
      simp only [cpyD, List.append_assoc, List.cons_append, List.nil_append] at h ⊢
      exact h.below ((Below.refl _ _).alloc (Nat.le_refl _) _))
    obtain ⟨x0, e0, f0, gb, o4⟩ := OwnD.field HOw.out (ownD_zero Z1 48 2) (Nat.le_refl _) hz1 (by simp) (i := j * 6 + 5) (by rw [List.length_append, cpy_pre xs j (Nat.le_of_lt hlt)]; rfl)
    have HO4 := hide o4
    have k0I : ¬ ((j : Int) < 0) := by omega
    have hltI : (j : Int) < (xs.length : Int) := by omega
    clear o4 hat hj
    go_wp2
    go_ret
    refine ⟨_, rfl, ?_, ((HB.out.alloc hz1 _).setCell (p := ⟨g, j * 6 + 5, none⟩) gb _)⟩
    rw [HE.out]
    unfold cpys
    rw [cpy_set _ hlt, List.length_set]
    have h9 := HO4.out
    simp only [cpyD, clOne, List.append_assoc, List.cons_append, List.nil_append] at h9 ⊢
    exact h9.up (by simp)
end Go.Proofs.Ytofnpgheppgcaaa
