/-
  Messages read from bytes: what is put is got; what is got was put.
-/
import Derived.Test.YtoaenoakdbieaaaDoorGnMath
import Derived.Test.YtoaenoakdbieaaaDoorGetWord
import Derived.Test.YtoaenoakdbieaaaDoorMsgBI
namespace Go.Proofs.YtoaenoakdbieaaaDoor
open Go.RowKit

/-- From place k on zs begins with bs. -/
def Pre (zs : List Int) (k : Nat) (bs : List Int) : Prop := ∃ r, zs.drop k = bs ++ r

theorem Pre.app {zs : List Int} {k : Nat} {a b : List Int} : Pre zs k (a ++ b) ↔ Pre zs k a ∧ Pre zs (k + a.length) b := by
  constructor
  · rintro ⟨r, h⟩
    refine ⟨⟨b ++ r, by rw [h, List.append_assoc]⟩, ⟨r, ?_⟩⟩
    rw [← List.drop_drop, h, List.append_assoc, List.drop_left]
  · rintro ⟨⟨r, h⟩, ⟨s, h'⟩⟩
    rw [← List.drop_drop, h, List.drop_left] at h'
    exact ⟨s, by rw [h, h', List.append_assoc]⟩
theorem Pre.nil (zs : List Int) (k : Nat) : Pre zs k [] := ⟨zs.drop k, rfl⟩
theorem Pre.len {zs : List Int} {k : Nat} {bs : List Int} (h : Pre zs k bs) (hb : 0 < bs.length) : k + bs.length ≤ zs.length := by
  obtain ⟨r, h⟩ := h
  have := congrArg List.length h
  simp only [List.length_drop, List.length_append] at this
  omega
theorem Pre.get {zs : List Int} {k : Nat} {bs : List Int} (h : Pre zs k bs) (i : Nat) (hi : i < bs.length) : zs.getD (k + i) 0 = bs.getD i 0 := by
  obtain ⟨r, h⟩ := h
  have h1 : (zs.drop k)[i]? = bs[i]? := by rw [h, List.getElem?_append_left hi]
  rw [List.getElem?_drop] at h1
  rw [List.getD_eq_getElem?_getD, List.getD_eq_getElem?_getD, h1]
theorem Pre.of_take {zs : List Int} {k : Nat} {bs : List Int} (h : (zs.drop k).take bs.length = bs) : Pre zs k bs :=
  ⟨(zs.drop k).drop bs.length, by conv => rhs; lhs; rw [← h]
                                  rw [List.take_append_drop]⟩
theorem Pre.all {zs bs : List Int} (h : Pre zs 0 bs) (hl : bs.length = zs.length) : zs = bs := by
  obtain ⟨r, h⟩ := h
  rw [List.drop_zero] at h
  have := congrArg List.length h
  simp only [List.length_append] at this
  have hr : r = [] := List.eq_nil_of_length_eq_zero (by omega)
  rw [h, hr, List.append_nil]

theorem num_put {zs : List Int} {k : Nat} {x : Int} (h0 : 0 ≤ x) (h1 : x ≤ 16777215) (h : Pre zs k (pn x)) : gnF zs 4 k 0 1 = some (x, k + (pn x).length) := by
  have := gn_pn zs k x h0 h1 (h.len (pn_pos x h0 h1)) (fun i hi => h.get i hi)
  unfold gn at this
  rwa [if_pos (by omega), Int.toNat_natCast] at this
theorem num_back {zs : List Int} (hB : Byt zs) {k nx : Nat} {x : Int} (h : gnF zs 4 k 0 1 = some (x, nx)) : 0 ≤ x ∧ x ≤ 16777215 ∧ Pre zs k (pn x) ∧ nx = k + (pn x).length ∧ nx ≤ zs.length := by
  have h' : gn zs (k : Int) = some (x, nx) := by unfold gn; rw [if_pos (by omega), Int.toNat_natCast]; exact h
  obtain ⟨_, h1, h2, h3, h4, h5⟩ := gn_back zs hB k x nx h'
  rw [Int.toNat_natCast] at h3 h4
  refine ⟨h1, h2, Pre.of_take ?_, h4, h5⟩
  rw [show nx - k = (pn x).length from by omega] at h3
  exact h3
theorem word_put {zs : List Int} {k : Nat} {x : Int} (h0 : -2147483648 ≤ x) (h1 : x ≤ 2147483647) (h : Pre zs k (pw x)) : gw zs (k : Int) = some (x, k + (pw x).length) := by
  have e := pw_in x h0 h1
  have hl := h.len (by rw [e]; simp)
  have g := h.get
  rw [e] at hl g ⊢
  have g0 := g 0 (by simp)
  have g1 := g 1 (by simp)
  have g2 := g 2 (by simp)
  have g3 := g 3 (by simp)
  simp at g0 g1 g2 g3 hl
  unfold gw
  rw [if_pos ⟨by omega, by rw [Int.toNat_natCast]; exact hl⟩, Int.toNat_natCast]
  simp [ws]
  rw [g0, g1, g2, g3]
  unfold rnd
  omega
theorem word_back {zs : List Int} (hB : Byt zs) {k nx : Nat} {x : Int} (h : gw zs (k : Int) = some (x, nx)) : -2147483648 ≤ x ∧ x ≤ 2147483647 ∧ Pre zs k (pw x) ∧ nx = k + (pw x).length ∧ nx ≤ zs.length := by
  unfold gw at h
  rw [Int.toNat_natCast] at h
  by_cases hc : 0 ≤ (k : Int) ∧ k + 4 ≤ zs.length
  · rw [if_pos hc] at h
    simp only [Option.some.injEq, Prod.mk.injEq] at h
    obtain ⟨h1, h2⟩ := h
    have hb := rnd_bd (ws zs k 4)
    have z0 := hB.at k (by omega)
    have z1 := hB.at (k + 1) (by omega)
    have z2 := hB.at (k + 2) (by omega)
    have z3 := hB.at (k + 3) (by omega)
    rw [h1] at hb
    have e := pw_in x hb.1 hb.2
    refine ⟨hb.1, hb.2, Pre.of_take ?_, by rw [e]; simp; omega, by omega⟩
    have hd : (zs.drop k).take 4 = [zs.getD k 0, zs.getD (k + 1) 0, zs.getD (k + 2) 0, zs.getD (k + 3) 0] := by
      refine List.ext_getElem (by simp; omega) fun j h1 h2 => ?_
      have hj : j = 0 ∨ j = 1 ∨ j = 2 ∨ j = 3 := by simp at h2; omega
      rcases hj with rfl | rfl | rfl | rfl
      · simp [show k < zs.length from by omega]
      · simp [show k + 1 < zs.length from by omega]
      · simp [show k + 2 < zs.length from by omega]
      · simp [show k + 3 < zs.length from by omega]
    rw [e, show ([x % 256, x / 256 % 256, x / 65536 % 256, x / 16777216 % 256] : List Int).length = 4 from rfl, hd]
    simp only [ws] at h1
    generalize zs.getD k 0 = a at *
    generalize zs.getD (k + 1) 0 = b at *
    generalize zs.getD (k + 2) 0 = c at *
    generalize zs.getD (k + 3) 0 = d at *
    unfold rnd at h1
    simp only [List.cons.injEq, and_true]
    refine ⟨?_, ?_, ?_, ?_⟩ <;> omega
  · rw [if_neg hc] at h; cases h

/-- A cell that is read. -/
def rCell (zs : List Int) (k : Nat) : Option ((Int × Bool × Int) × Nat) :=
  (gnF zs 4 k 0 1).bind fun a => (gnF zs 4 a.2 0 1).bind fun f =>
    if 1 < f.1 then none else if f.1 = 1 then (gnF zs 4 f.2 0 1).bind fun y => some ((a.1, true, y.1), y.2) else (gw zs (f.2 : Int)).bind fun y => some ((a.1, false, y.1), y.2)
/-- A note that is read. -/
def rNote (zs : List Int) (k : Nat) : Option ((Int × Int) × Nat) :=
  (gnF zs 4 k 0 1).bind fun a => (gnF zs 4 a.2 0 1).bind fun b => some ((a.1, b.1), b.2)
/-- So many, one behind the other. -/
def rList {α : Type} (f : Nat → Option (α × Nat)) : Nat → Nat → Option (List α × Nat)
  | 0, k => some ([], k)
  | n + 1, k => (f k).bind fun x => (rList f n x.2).bind fun xs => some (x.1 :: xs.1, xs.2)
def rMany {α : Type} (zs : List Int) (f : Nat → Option (α × Nat)) (most : Int) (k : Nat) : Option (List α × Nat) :=
  (gnF zs 4 k 0 1).bind fun n => if most < n.1 then none else rList f n.1.toNat n.2

structure M where
  k : Int
  i : Int
  u : Int
  c : Int
  n : Int
  cs : List (Int × Bool × Int)
  ns : List (Int × Int)
def rMsg (zs : List Int) (p : Nat) : Option (M × Nat) :=
  (gnF zs 4 p 0 1).bind fun k => (gnF zs 4 k.2 0 1).bind fun i => (gnF zs 4 i.2 0 1).bind fun u => (gnF zs 4 u.2 0 1).bind fun c => (gnF zs 4 c.2 0 1).bind fun n =>
    (rMany zs (rCell zs) 8 n.2).bind fun cs => (rMany zs (rNote zs) 130 cs.2).bind fun ns => some (⟨k.1, i.1, u.1, c.1, n.1, cs.1, ns.1⟩, ns.2)

theorem cell_put {zs : List Int} {k : Nat} {x : Int × Bool × Int} (h1 : inB x.1 0 7 = true) (h2 : vOk x.2.1 x.2.2 = true) (h : Pre zs k (cellB x)) : rCell zs k = some (x, k + (cellB x).length) := by
  obtain ⟨x, r, y⟩ := x
  have hx := inB_yes h1
  simp only at h1 h2 hx
  cases r with
  | true =>
    have hy := inB_yes (show inB y 0 1000000 = true from h2)
    rw [cellB_yes] at h ⊢
    obtain ⟨ha, hc⟩ := Pre.app.1 h
    obtain ⟨ha, hb⟩ := Pre.app.1 ha
    unfold rCell
    rw [num_put hx.1 (by omega) ha]
    simp only [Option.bind_some]
    rw [num_put (by omega) (by omega) hb]
    simp only [Option.bind_some]
    rw [if_neg (by omega), if_pos (by trivial)]
    rw [List.length_append, ← Nat.add_assoc] at hc
    rw [num_put hy.1 (by omega) hc]
    simp [Nat.add_assoc]
  | false =>
    have hy := inB_yes (show inB y (-2147483648) 2147483647 = true from h2)
    rw [cellB_no] at h ⊢
    obtain ⟨ha, hc⟩ := Pre.app.1 h
    obtain ⟨ha, hb⟩ := Pre.app.1 ha
    unfold rCell
    rw [num_put hx.1 (by omega) ha]
    simp only [Option.bind_some]
    rw [num_put (by omega) (by omega) hb]
    simp only [Option.bind_some]
    rw [if_neg (by omega), if_neg (by omega)]
    rw [List.length_append, ← Nat.add_assoc] at hc
    rw [word_put hy.1 hy.2 hc]
    simp [Nat.add_assoc]
theorem cell_back {zs : List Int} (hB : Byt zs) {k nx : Nat} {x : Int × Bool × Int} (h : rCell zs k = some (x, nx)) : Pre zs k (cellB x) ∧ nx = k + (cellB x).length ∧ nx ≤ zs.length := by
  unfold rCell at h
  obtain ⟨⟨a, ka⟩, ha, h⟩ := Option.bind_eq_some_iff.1 h
  obtain ⟨⟨f, kf⟩, hf, h⟩ := Option.bind_eq_some_iff.1 h
  obtain ⟨a0, a1, a2, a3, a4⟩ := num_back hB ha
  obtain ⟨f0, f1, f2, f3, f4⟩ := num_back hB hf
  simp only at h f2 f3
  by_cases hf1 : 1 < f
  · rw [if_pos hf1] at h; cases h
  · rw [if_neg hf1] at h
    by_cases hfe : f = 1
    · rw [if_pos hfe] at h
      obtain ⟨⟨y, ky⟩, hy, h⟩ := Option.bind_eq_some_iff.1 h
      obtain ⟨y0, y1, y2, y3, y4⟩ := num_back hB hy
      simp only [Option.some.injEq, Prod.mk.injEq] at h
      obtain ⟨rfl, rfl⟩ := h
      subst hfe
      rw [cellB_yes]
      subst a3 f3 y3
      refine ⟨Pre.app.2 ⟨Pre.app.2 ⟨a2, f2⟩, ?_⟩, by simp [Nat.add_assoc], y4⟩
      rw [List.length_append, ← Nat.add_assoc]; exact y2
    · rw [if_neg hfe] at h
      obtain ⟨⟨y, ky⟩, hy, h⟩ := Option.bind_eq_some_iff.1 h
      obtain ⟨y0, y1, y2, y3, y4⟩ := word_back hB hy
      simp only [Option.some.injEq, Prod.mk.injEq] at h
      obtain ⟨rfl, rfl⟩ := h
      obtain rfl : f = 0 := by omega
      rw [cellB_no]
      subst a3 f3 y3
      refine ⟨Pre.app.2 ⟨Pre.app.2 ⟨a2, f2⟩, ?_⟩, by simp [Nat.add_assoc], y4⟩
      rw [List.length_append, ← Nat.add_assoc]; exact y2
theorem note_put {zs : List Int} {k : Nat} {x : Int × Int} (h1 : inB x.1 1 1000000 = true) (h2 : inB x.2 1 16777215 = true) (h : Pre zs k (noteB x)) : rNote zs k = some (x, k + (noteB x).length) := by
  have hx := inB_yes h1
  have hy := inB_yes h2
  unfold noteB at h ⊢
  obtain ⟨ha, hb⟩ := Pre.app.1 h
  unfold rNote
  rw [num_put (by omega) (by omega) ha]
  simp only [Option.bind_some]
  rw [num_put (by omega) (by omega) hb]
  simp [Nat.add_assoc]
theorem note_back {zs : List Int} (hB : Byt zs) {k nx : Nat} {x : Int × Int} (h : rNote zs k = some (x, nx)) : Pre zs k (noteB x) ∧ nx = k + (noteB x).length ∧ nx ≤ zs.length := by
  unfold rNote at h
  obtain ⟨⟨a, ka⟩, ha, h⟩ := Option.bind_eq_some_iff.1 h
  obtain ⟨⟨f, kf⟩, hf, h⟩ := Option.bind_eq_some_iff.1 h
  obtain ⟨a0, a1, a2, a3, a4⟩ := num_back hB ha
  obtain ⟨f0, f1, f2, f3, f4⟩ := num_back hB hf
  simp only [Option.some.injEq, Prod.mk.injEq] at h
  obtain ⟨rfl, rfl⟩ := h
  simp only at f2 f3
  subst a3 f3
  unfold noteB
  exact ⟨Pre.app.2 ⟨a2, f2⟩, by simp [Nat.add_assoc], f4⟩

theorem list_put {α : Type} {zs : List Int} {f : Nat → Option (α × Nat)} {B : α → List Int} : ∀ (xs : List α) (k : Nat), (∀ x ∈ xs, ∀ k, Pre zs k (B x) → f k = some (x, k + (B x).length)) → Pre zs k (xs.flatMap B) → rList f xs.length k = some (xs, k + (xs.flatMap B).length)
  | [], k, _, _ => by simp [rList]
  | x :: xs, k, hf, h => by
    rw [List.flatMap_cons] at h ⊢
    obtain ⟨ha, hb⟩ := Pre.app.1 h
    rw [List.length_cons, rList, hf x (by simp) k ha]
    simp only [Option.bind_some]
    rw [list_put xs _ (fun y hy => hf y (by simp [hy])) hb]
    simp [Nat.add_assoc]
theorem list_back {α : Type} {zs : List Int} {f : Nat → Option (α × Nat)} {B : α → List Int} (hf : ∀ k nx x, f k = some (x, nx) → Pre zs k (B x) ∧ nx = k + (B x).length ∧ nx ≤ zs.length) : ∀ (n k e : Nat) (xs : List α), rList f n k = some (xs, e) → xs.length = n ∧ Pre zs k (xs.flatMap B) ∧ e = k + (xs.flatMap B).length
  | 0, k, e, xs, h => by
    simp only [rList, Option.some.injEq, Prod.mk.injEq] at h
    obtain ⟨rfl, rfl⟩ := h
    exact ⟨rfl, Pre.nil _ _, by simp⟩
  | n + 1, k, e, xs, h => by
    rw [rList] at h
    obtain ⟨⟨x, kx⟩, hx, h⟩ := Option.bind_eq_some_iff.1 h
    obtain ⟨⟨ys, ky⟩, hy, h⟩ := Option.bind_eq_some_iff.1 h
    simp only [Option.some.injEq, Prod.mk.injEq] at h
    obtain ⟨rfl, rfl⟩ := h
    obtain ⟨h1, h2, h3⟩ := hf k kx x hx
    obtain ⟨h4, h5, h6⟩ := list_back hf n kx ky ys hy
    subst h2
    rw [List.flatMap_cons]
    exact ⟨by simp [h4], Pre.app.2 ⟨h1, h5⟩, by rw [h6]; simp [Nat.add_assoc]⟩
end Go.Proofs.YtoaenoakdbieaaaDoor
