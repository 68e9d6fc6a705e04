/-
  What follows of differences: what is different is patched, what is apart in any order.
-/
import Derived.Test.YtabeeppfgkeahaaDifM
namespace Go.Proofs.Ytabeeppfgkeahaa
open Go.RowKit

theorem apX_comm (a b : List Cel) : apX b a = apX a b := by
  rw [Bool.eq_iff_iff]
  unfold apX ap1
  simp only [List.all_eq_true]
  constructor
  · intro h x hx y hy
    have := h y hy x hx
    simp only [Bool.not_eq_true', beq_eq_false_iff_ne] at this ⊢
    exact fun e => this e.symm
  · intro h x hx y hy
    have := h y hy x hx
    simp only [Bool.not_eq_true', beq_eq_false_iff_ne] at this ⊢
    exact fun e => this e.symm
theorem pat1_def (ys : List Vl) (y : Cel) : pat1 ys y = if inB y.a 0 ((ys.length : Int) - 1) = true then ys.set y.a.toNat ⟨y.r, y.n⟩ else ys := rfl
theorem pat1_comm {c d : Cel} (h : c.a ≠ d.a) (xs : List Vl) : pat1 (pat1 xs c) d = pat1 (pat1 xs d) c := by
  have h1 : (pat1 xs c).length = xs.length := pat1_len xs c
  have h2 : (pat1 xs d).length = xs.length := pat1_len xs d
  have e1 : pat1 (pat1 xs c) d = if inB d.a 0 ((xs.length : Int) - 1) = true then (pat1 xs c).set d.a.toNat ⟨d.r, d.n⟩ else pat1 xs c := by
    rw [pat1_def (pat1 xs c) d, h1]
  have e2 : pat1 (pat1 xs d) c = if inB c.a 0 ((xs.length : Int) - 1) = true then (pat1 xs d).set c.a.toNat ⟨c.r, c.n⟩ else pat1 xs d := by
    rw [pat1_def (pat1 xs d) c, h2]
  rw [e1, e2]
  unfold pat1
  split
  · rename_i hd
    split
    · rename_i hc
      have h3 := inB_yes hc
      have h4 := inB_yes hd
      exact List.set_comm _ _ (by omega)
    · rfl
  · split
    · rfl
    · rfl
theorem patX_one {c : Cel} : ∀ {ds : List Cel} (xs : List Vl), (∀ d ∈ ds, c.a ≠ d.a) → patX (pat1 xs c) ds = pat1 (patX xs ds) c
  | [], _, _ => rfl
  | d :: ds, xs, h => by
    show patX (pat1 (pat1 xs c) d) ds = pat1 (patX (pat1 xs d) ds) c
    rw [pat1_comm (h d (by simp)), patX_one _ (fun x hx => h x (by simp [hx]))]
theorem patX_comm : ∀ {cs ds : List Cel} (xs : List Vl), apX cs ds = true → patX (patX xs cs) ds = patX (patX xs ds) cs
  | [], _, _, _ => rfl
  | c :: cs, ds, xs, h => by
    have h1 : ap1 ds c.a = true ∧ apX cs ds = true := by
      unfold apX at h ⊢
      rw [List.all_cons, Bool.and_eq_true] at h
      exact h
    have h2 : ∀ d ∈ ds, c.a ≠ d.a := by
      intro d hd
      have := h1.1
      unfold ap1 at this
      rw [List.all_eq_true] at this
      have := this d hd
      simpa using this
    show patX (patX (pat1 xs c) cs) ds = patX (pat1 (patX xs ds) c) cs
    rw [patX_comm _ h1.2, patX_one _ h2]
theorem difX_self (a : List Vl) : difX a a = [] := by
  have h : ∀ n, difN a a n = [] := by
    intro n
    induction n with
    | zero => rfl
    | succ n ih =>
      unfold difN
      rw [ih, (eqB_iff _ _).2 rfl]
      rfl
  unfold difX
  split
  · exact h _
  · rfl
theorem patX_app (xs : List Vl) (cs ds : List Cel) : patX xs (cs ++ ds) = patX (patX xs cs) ds := by
  unfold patX
  rw [List.foldl_append]
theorem difN_patch {a b : List Vl} (h : a.length = b.length) : ∀ n, n ≤ a.length → patX a (difN a b n) = b.take n ++ a.drop n
  | 0, _ => rfl
  | n + 1, hn => by
    have ih := difN_patch h n (by omega)
    have ea : a.drop n = a.getD n default :: a.drop (n + 1) := by
      rw [List.drop_eq_getElem_cons (by omega), List.getD_eq_getElem?_getD, List.getElem?_eq_getElem (by omega), Option.getD_some]
    have eb : b.take (n + 1) = b.take n ++ [b.getD n default] := by
      rw [List.take_add_one, List.getElem?_eq_getElem (by omega), List.getD_eq_getElem?_getD, List.getElem?_eq_getElem (by omega)]
      rfl
    have hl : (b.take n).length = n := by rw [List.length_take]; omega
    unfold difN
    rw [patX_app, ih, eb]
    by_cases he : eqB (a.getD n default) (b.getD n default) = true
    · rw [if_pos he, ea, (eqB_iff _ _).1 he]
      show b.take n ++ (b.getD n default :: a.drop (n + 1)) = _
      simp
    · rw [if_neg he]
      show pat1 (b.take n ++ a.drop n) (Cel.mk (n : Int) (b.getD n default).r (b.getD n default).n) = _
      unfold pat1
      rw [if_pos (inB_mk (by dsimp only; omega) (by rw [List.length_append, hl, List.length_drop]; dsimp only; omega))]
      dsimp only
      rw [Int.toNat_natCast, List.set_append_right _ _ (by omega), hl, Nat.sub_self, ea]
      simp
theorem dif_patch {a b : List Vl} (h : a.length = b.length) (h8 : a.length ≤ 8) : patX a (difX a b) = b := by
  unfold difX
  rw [if_pos ⟨h, h8⟩, difN_patch h _ (Nat.le_refl _), List.drop_length, h, List.take_length, List.append_nil]
end Go.Proofs.Ytabeeppfgkeahaa
