/-
  Joined: GetSpec, GetWord, RMath.
-/
import Derived.Test.YtkfnpijljpbiaaaDoorJ19
import Derived.Test.YtkfnpijljpbiaaaDoorJ6
import Derived.RegionTactic
import Derived.ChangeAlike
import Derived.Test.YtkfnpijljpbiaaaDoorJ18
import Derived.Test.YtkfnpijljpbiaaaDoorJ14
import Derived.Test.YtkfnpijljpbiaaaDoorJ15
/-
  What the model's GetNum does: it answers as the readers of the program do.
-/
namespace Go.Proofs.YtkfnpijljpbiaaaDoor
open Go.RowKit

theorem or_low (i : Nat) (hi : i ≤ 62) (m x : Int) (h0 : 0 ≤ m) (h1 : m < 2 ^ i) (hx0 : 0 ≤ x) (hx : x % 2 ^ i = 0) (hx1 : x < 2 ^ 62) : bits .or .i64 m x = m + x := by
  have hc : bits .or .i64 m x = bits .or .i64 x m := by simp only [bits, BitVec.or_comm]
  have hp : (2 : Int) ^ i ≤ 2 ^ 62 := by
    have := Nat.pow_le_pow_right (n := 2) (by decide) hi
    exact_mod_cast this
  rw [hc, bits_join .i64 62 (by decide) (fun n a b => by rw [IntKind.wrap_i64]; omega) i x m hx0 hx hx1 h0 h1 (by omega)]
  omega

theorem ret_ans {r : Option (Int × Nat)} {n m b : Int} {nx : Nat} (hr : r = some (n, nx)) (h1 : m = n) (h2 : b = (nx : Int)) : Ending.returned (.tuple #[.int .i64 m, .int .i64 b, .bool true]) = .returned (ans r) := by
  subst hr h1 h2; rfl

end Go.Proofs.YtkfnpijljpbiaaaDoor
/-
  What GetWord does, in the program and in its model: the word that lies at the place as four bytes, the place behind it and true; 0, 0 and false, where there is none.
-/
namespace Go.Proofs.YtkfnpijljpbiaaaDoor
open Go.RowKit

/-- What the first j bytes from place k on come to, the low ones first. -/
def ws (zs : List Int) (k : Nat) : Nat → Int
  | 0 => 0
  | 1 => zs.getD k 0
  | 2 => zs.getD k 0 + zs.getD (k + 1) 0 * 256
  | 3 => zs.getD k 0 + zs.getD (k + 1) 0 * 256 + zs.getD (k + 2) 0 * 65536
  | _ => zs.getD k 0 + zs.getD (k + 1) 0 * 256 + zs.getD (k + 2) 0 * 65536 + zs.getD (k + 3) 0 * 16777216

def gw (zs : List Int) (i : Int) : Option (Int × Nat) := if 0 ≤ i ∧ i.toNat + 4 ≤ zs.length then some (rnd (ws zs i.toNat 4), i.toNat + 4) else none

set_option maxRecDepth 100000 in
set_option maxHeartbeats 1000000 in
theorem takeWord (w : World) (a : Option Addr) (len cap : Nat) (zs : List Int) (B p k0 : Nat) (t : TypeId) (v : Value) (hin : In w B a len zs) (hB : B ≤ p) (hp0 : 0 < p) (hE : Err w t v)
    (hp : w.heap[p]? = some (.cells #[.int .i64 (k0 : Int)] 3 (0, 0))) :
    Calls Tryd.prog 91 #[.slice a len cap, .pointer (some ⟨p, 0, none⟩)] w (took w p t v (gw zs (k0 : Int))) := by
  have hlen := hin.1
  have hl := hin.2.1
  have hpw : p < w.heap.size := (Array.getElem?_eq_some_iff.1 hp).1
  go_enter Tryd.func91, Tryd.ntmps91
  go_wp2
  go_loopw [5, 6, 7] (fun n x i wr => ∃ (j : Nat) (m wt : Int), j ≤ 4 ∧ ((j = 0 ∧ wt = 1) ∨ (j = 1 ∧ wt = 256) ∨ (j = 2 ∧ wt = 65536) ∨ (j = 3 ∧ wt = 16777216) ∨ (j = 4)) ∧ 0 ≤ m ∧ m < wt ∧ n = .int .i64 m ∧ x = .int .i64 wt ∧ i = .int .i64 (j : Int) ∧
      Hid (m = ws zs k0 j) ∧ (j = 0 ∨ k0 + j ≤ len) ∧ Hid (wr.heap[p]? = some (.cells #[.int .i64 ((k0 + j : Nat) : Int)] 3 (0, 0))) ∧ Hid (w.grownBy wr (some p)))
    (fun _ _ i _ => 4 - (intOf i).toNat)
  case atStart => exact ⟨0, 0, 1, by omega, by omega, by omega, by omega, rfl, rfl, rfl, rfl, .inl rfl, hp, World.grownBy.refl _ _⟩
  case round =>
    obtain ⟨j, m, wt, hj, hw, hm0, hm1, rfl, rfl, rfl, HX, hjl, HP, HG⟩ := hrel
    have hin' := hin.out HG.out hB hpw
    have hE' := hE.out HG.out hp0
    by_cases hj4 : j = 4
    · subst hj4
      have hk4 : k0 + 4 ≤ zs.length := by omega
      have HN : Hid (gw zs (k0 : Int) = some (rnd m, k0 + 4)) := by
        show _ = _
        rw [HX.out]; simp [gw, hk4]
      clear hw hin hin' hE hE' hp hjl HX
      go_wp2_with (go_at_call 40; refine (roundImpl _ _).mono ?_; rintro e w' ⟨rfl, rfl⟩)
      go_ret
      exact ⟨.inl ⟨_, _, HN.out, rfl, HP.out⟩, HG.out⟩
    · have hw3 : (j = 0 ∧ wt = 1) ∨ (j = 1 ∧ wt = 256) ∨ (j = 2 ∧ wt = 65536) ∨ (j = 3 ∧ wt = 16777216) := by omega
      clear hw
      by_cases hr : k0 + j < len
      · have hzb := hin'.2.2.1 _ hr
        have hT := takeByteYes wr a len cap zs B p (k0 + j) hin' HP.out hr
        have PP := place_put (y := ((k0 + j : Nat) : Int) + 1) HG.out HP.out
        generalize wr.setCell ⟨p, 0, none⟩ (.int .i64 (((k0 + j : Nat) : Int) + 1)) = W1 at hT PP
        have HPP : Hid (W1.heap[p]? = some (.cells #[.int .i64 (((k0 + j : Nat) : Int) + 1)] 3 (0, 0)) ∧ w.grownBy W1 (some p)) := PP
        clear PP HG HP hin hin' hE hE' hp hjl
        have HZ : Hid (zs.getD (k0 + j) 0 = zs.getD (k0 + j) 0) := rfl
        generalize hz : zs.getD (k0 + j) 0 = z at hT hzb
        have HZ2 := hide hz
        clear hz HZ
        have HT := hide hT
        clear hT
        rcases hw3 with ⟨rfl, rfl⟩ | ⟨rfl, rfl⟩ | ⟨rfl, rfl⟩ | ⟨rfl, rfl⟩
        · have HN2 : Hid (m + z = ws zs k0 1) := by
            have h1 := HX.out
            have h2 := HZ2.out
            show _ = _
            rw [h1, ← h2]
            simp [ws]
          go_wp2_with fail
          refine (unhide HT).mono ?_
          rintro e w1 ⟨rfl, rfl⟩
          go_wp2
          exact ⟨⟨1, m + z, 256, by omega, by omega, by omega, by omega, rfl, rfl, rfl, HN2, by omega, HPP.out.1, HPP.out.2⟩, by simp [intOf]⟩
        · have HN2 : Hid (m + z * 256 = ws zs k0 2) := by
            have h1 := HX.out
            have h2 := HZ2.out
            show _ = _
            rw [h1, ← h2]
            simp [ws]
          go_wp2_with fail
          refine (unhide HT).mono ?_
          rintro e w1 ⟨rfl, rfl⟩
          go_wp2
          exact ⟨⟨2, m + z * 256, 65536, by omega, by omega, by omega, by omega, rfl, rfl, rfl, HN2, by omega, HPP.out.1, HPP.out.2⟩, by simp [intOf]⟩
        · have HN2 : Hid (m + z * 65536 = ws zs k0 3) := by
            have h1 := HX.out
            have h2 := HZ2.out
            show _ = _
            rw [h1, ← h2]
            simp [ws]
          go_wp2_with fail
          refine (unhide HT).mono ?_
          rintro e w1 ⟨rfl, rfl⟩
          go_wp2
          exact ⟨⟨3, m + z * 65536, 16777216, by omega, by omega, by omega, by omega, rfl, rfl, rfl, HN2, by omega, HPP.out.1, HPP.out.2⟩, by simp [intOf]⟩
        · have HN2 : Hid (m + z * 16777216 = ws zs k0 4) := by
            have h1 := HX.out
            have h2 := HZ2.out
            show _ = _
            rw [h1, ← h2]
            simp [ws]
          go_wp2_with fail
          refine (unhide HT).mono ?_
          rintro e w1 ⟨rfl, rfl⟩
          go_wp2
          exact ⟨⟨4, m + z * 16777216, 4294967296, by omega, by omega, by omega, by omega, rfl, rfl, rfl, HN2, by omega, HPP.out.1, HPP.out.2⟩, by simp [intOf]⟩
      · have hE2 := takeByteNo wr a len cap p _ t v HP.out (by omega) hE'
        have HN : Hid (gw zs (k0 : Int) = none) := by
          show _ = _
          unfold gw
          rw [if_neg (by simp; omega)]
        clear hin hin' hE hE' hp hl
        rcases hw3 with ⟨rfl, rfl⟩ | ⟨rfl, rfl⟩ | ⟨rfl, rfl⟩ | ⟨rfl, rfl⟩
        all_goals
          go_wp2_with fail
          refine hE2.mono ?_
          rintro e w1 ⟨rfl, rfl⟩
          go_wp2
          exact ⟨rfl, .inr ⟨HN.out, rfl⟩, HG.out⟩

set_option maxRecDepth 100000 in
set_option maxHeartbeats 1000000 in
theorem takeWordNeg (w : World) (a : Option Addr) (len cap : Nat) (p : Nat) (k : Int) (t : TypeId) (v : Value) (hk : k < 0) (hE : Err w t v)
    (hp : w.heap[p]? = some (.cells #[.int .i64 k] 3 (0, 0))) :
    Calls Tryd.prog 91 #[.slice a len cap, .pointer (some ⟨p, 0, none⟩)] w (took w p t v none) := by
  have HT := hide (takeByteNo w a len cap p k t v hp (by omega) hE)
  clear hp hE hk
  go_enter Tryd.func91, Tryd.ntmps91
  go_wp2
  go_loopw [5, 6, 7] (fun n x i wr => n = .int .i64 0 ∧ x = .int .i64 1 ∧ i = .int .i64 0 ∧ wr = w) (fun _ _ _ _ => 0)
  case atStart => exact ⟨rfl, rfl, rfl, rfl⟩
  case round =>
    obtain ⟨rfl, rfl, rfl, rfl⟩ := hrel
    go_wp2_with fail
    refine (unhide HT).mono ?_
    rintro e w1 ⟨rfl, rfl⟩
    go_wp2
    exact ⟨rfl, .inr ⟨rfl, rfl⟩, World.grownBy.refl _ _⟩

end Go.Proofs.YtkfnpijljpbiaaaDoor
/-
  Messages read from bytes: what is put is got; what is got was put.
-/
namespace Go.Proofs.YtkfnpijljpbiaaaDoor
open Go.RowKit

/-- From place k on zs begins with bs. -/
def Pre (zs : List Int) (k : Nat) (bs : List Int) : Prop := ∃ r, zs.drop k = bs ++ r

theorem Pre.app {zs : List Int} {k : Nat} {a b : List Int} : Pre zs k (a ++ b) ↔ Pre zs k a ∧ Pre zs (k + a.length) b := by
  constructor
  · rintro ⟨r, h⟩
    refine ⟨⟨b ++ r, by rw [h, List.append_assoc]⟩, ⟨r, ?_⟩⟩
    rw [← List.drop_drop, h, List.append_assoc, List.drop_left]
  · rintro ⟨⟨r, h⟩, ⟨s, h'⟩⟩
    rw [← List.drop_drop, h, List.drop_left] at h'
    exact ⟨s, by rw [h, h', List.append_assoc]⟩
theorem Pre.nil (zs : List Int) (k : Nat) : Pre zs k [] := ⟨zs.drop k, rfl⟩
theorem Pre.len {zs : List Int} {k : Nat} {bs : List Int} (h : Pre zs k bs) (hb : 0 < bs.length) : k + bs.length ≤ zs.length := by
  obtain ⟨r, h⟩ := h
  have := congrArg List.length h
  simp only [List.length_drop, List.length_append] at this
  omega
theorem Pre.get {zs : List Int} {k : Nat} {bs : List Int} (h : Pre zs k bs) (i : Nat) (hi : i < bs.length) : zs.getD (k + i) 0 = bs.getD i 0 := by
  obtain ⟨r, h⟩ := h
  have h1 : (zs.drop k)[i]? = bs[i]? := by rw [h, List.getElem?_append_left hi]
  rw [List.getElem?_drop] at h1
  rw [List.getD_eq_getElem?_getD, List.getD_eq_getElem?_getD, h1]
theorem Pre.of_take {zs : List Int} {k : Nat} {bs : List Int} (h : (zs.drop k).take bs.length = bs) : Pre zs k bs :=
  ⟨(zs.drop k).drop bs.length, by conv => rhs; lhs; rw [← h]
                                  rw [List.take_append_drop]⟩
theorem Pre.all {zs bs : List Int} (h : Pre zs 0 bs) (hl : bs.length = zs.length) : zs = bs := by
  obtain ⟨r, h⟩ := h
  rw [List.drop_zero] at h
  have := congrArg List.length h
  simp only [List.length_append] at this
  have hr : r = [] := List.eq_nil_of_length_eq_zero (by omega)
  rw [h, hr, List.append_nil]

theorem num_put {zs : List Int} {k : Nat} {x : Int} (h0 : 0 ≤ x) (h1 : x ≤ 16777215) (h : Pre zs k (pn x)) : gnF zs 4 k 0 1 = some (x, k + (pn x).length) := by
  have := gn_pn zs k x h0 h1 (h.len (pn_pos x h0 h1)) (fun i hi => h.get i hi)
  unfold gn at this
  rwa [if_pos (by omega), Int.toNat_natCast] at this
theorem num_back {zs : List Int} (hB : Byt zs) {k nx : Nat} {x : Int} (h : gnF zs 4 k 0 1 = some (x, nx)) : 0 ≤ x ∧ x ≤ 16777215 ∧ Pre zs k (pn x) ∧ nx = k + (pn x).length ∧ nx ≤ zs.length := by
  have h' : gn zs (k : Int) = some (x, nx) := by unfold gn; rw [if_pos (by omega), Int.toNat_natCast]; exact h
  obtain ⟨_, h1, h2, h3, h4, h5⟩ := gn_back zs hB k x nx h'
  rw [Int.toNat_natCast] at h3 h4
  refine ⟨h1, h2, Pre.of_take ?_, h4, h5⟩
  rw [show nx - k = (pn x).length from by omega] at h3
  exact h3
theorem word_put {zs : List Int} {k : Nat} {x : Int} (h0 : -2147483648 ≤ x) (h1 : x ≤ 2147483647) (h : Pre zs k (pw x)) : gw zs (k : Int) = some (x, k + (pw x).length) := by
  have e := pw_in x h0 h1
  have hl := h.len (by rw [e]; simp)
  have g := h.get
  rw [e] at hl g ⊢
  have g0 := g 0 (by simp)
  have g1 := g 1 (by simp)
  have g2 := g 2 (by simp)
  have g3 := g 3 (by simp)
  simp at g0 g1 g2 g3 hl
  unfold gw
  rw [if_pos ⟨by omega, by rw [Int.toNat_natCast]; exact hl⟩, Int.toNat_natCast]
  simp [ws]
  rw [g0, g1, g2, g3]
  unfold rnd
  omega
theorem word_back {zs : List Int} (hB : Byt zs) {k nx : Nat} {x : Int} (h : gw zs (k : Int) = some (x, nx)) : -2147483648 ≤ x ∧ x ≤ 2147483647 ∧ Pre zs k (pw x) ∧ nx = k + (pw x).length ∧ nx ≤ zs.length := by
  unfold gw at h
  rw [Int.toNat_natCast] at h
  by_cases hc : 0 ≤ (k : Int) ∧ k + 4 ≤ zs.length
  · rw [if_pos hc] at h
    simp only [Option.some.injEq, Prod.mk.injEq] at h
    obtain ⟨h1, h2⟩ := h
    have hb := rnd_bd (ws zs k 4)
    have z0 := hB.at k (by omega)
    have z1 := hB.at (k + 1) (by omega)
    have z2 := hB.at (k + 2) (by omega)
    have z3 := hB.at (k + 3) (by omega)
    rw [h1] at hb
    have e := pw_in x hb.1 hb.2
    refine ⟨hb.1, hb.2, Pre.of_take ?_, by rw [e]; simp; omega, by omega⟩
    have hd : (zs.drop k).take 4 = [zs.getD k 0, zs.getD (k + 1) 0, zs.getD (k + 2) 0, zs.getD (k + 3) 0] := by
      refine List.ext_getElem (by simp; omega) fun j h1 h2 => ?_
      have hj : j = 0 ∨ j = 1 ∨ j = 2 ∨ j = 3 := by simp at h2; omega
      rcases hj with rfl | rfl | rfl | rfl
      · simp [show k < zs.length from by omega]
      · simp [show k + 1 < zs.length from by omega]
      · simp [show k + 2 < zs.length from by omega]
      · simp [show k + 3 < zs.length from by omega]
    rw [e, show ([x % 256, x / 256 % 256, x / 65536 % 256, x / 16777216 % 256] : List Int).length = 4 from rfl, hd]
    simp only [ws] at h1
    generalize zs.getD k 0 = a at *
    generalize zs.getD (k + 1) 0 = b at *
    generalize zs.getD (k + 2) 0 = c at *
    generalize zs.getD (k + 3) 0 = d at *
    unfold rnd at h1
    simp only [List.cons.injEq, and_true]
    refine ⟨?_, ?_, ?_, ?_⟩ <;> omega
  · rw [if_neg hc] at h; cases h

/-- So many, one behind the other. -/
def rList {α : Type} (f : Nat → Option (α × Nat)) : Nat → Nat → Option (List α × Nat)
  | 0, k => some ([], k)
  | n + 1, k => (f k).bind fun x => (rList f n x.2).bind fun xs => some (x.1 :: xs.1, xs.2)
def rMany {α : Type} (zs : List Int) (f : Nat → Option (α × Nat)) (most : Int) (k : Nat) : Option (List α × Nat) :=
  (gnF zs 4 k 0 1).bind fun n => if most < n.1 then none else rList f n.1.toNat n.2

theorem list_put {α : Type} {zs : List Int} {f : Nat → Option (α × Nat)} {B : α → List Int} : ∀ (xs : List α) (k : Nat), (∀ x ∈ xs, ∀ k, Pre zs k (B x) → f k = some (x, k + (B x).length)) → Pre zs k (xs.flatMap B) → rList f xs.length k = some (xs, k + (xs.flatMap B).length)
  | [], k, _, _ => by simp [rList]
  | x :: xs, k, hf, h => by
    rw [List.flatMap_cons] at h ⊢
    obtain ⟨ha, hb⟩ := Pre.app.1 h
    rw [List.length_cons, rList, hf x (by simp) k ha]
    simp only [Option.bind_some]
    rw [list_put xs _ (fun y hy => hf y (by simp [hy])) hb]
    simp [Nat.add_assoc]
theorem list_back {α : Type} {zs : List Int} {f : Nat → Option (α × Nat)} {B : α → List Int} (hf : ∀ k nx x, f k = some (x, nx) → Pre zs k (B x) ∧ nx = k + (B x).length ∧ nx ≤ zs.length) : ∀ (n k e : Nat) (xs : List α), rList f n k = some (xs, e) → xs.length = n ∧ Pre zs k (xs.flatMap B) ∧ e = k + (xs.flatMap B).length
  | 0, k, e, xs, h => by
    simp only [rList, Option.some.injEq, Prod.mk.injEq] at h
    obtain ⟨rfl, rfl⟩ := h
    exact ⟨rfl, Pre.nil _ _, by simp⟩
  | n + 1, k, e, xs, h => by
    rw [rList] at h
    obtain ⟨⟨x, kx⟩, hx, h⟩ := Option.bind_eq_some_iff.1 h
    obtain ⟨⟨ys, ky⟩, hy, h⟩ := Option.bind_eq_some_iff.1 h
    simp only [Option.some.injEq, Prod.mk.injEq] at h
    obtain ⟨rfl, rfl⟩ := h
    obtain ⟨h1, h2, h3⟩ := hf k kx x hx
    obtain ⟨h4, h5, h6⟩ := list_back hf n kx ky ys hy
    subst h2
    rw [List.flatMap_cons]
    exact ⟨by simp [h4], Pre.app.2 ⟨h1, h5⟩, by rw [h6]; simp [Nat.add_assoc]⟩
/-- A cell that is read. -/
def rCell (zs : List Int) (k : Nat) : Option ((Int × Bool × Int) × Nat) :=
  (gnF zs 4 k 0 1).bind fun a => (gnF zs 4 a.2 0 1).bind fun f =>
    if 1 < f.1 then none else if f.1 = 1 then (gnF zs 4 f.2 0 1).bind fun y => some ((a.1, true, y.1), y.2) else (gw zs (f.2 : Int)).bind fun y => some ((a.1, false, y.1), y.2)
/-- A note that is read. -/
def rNote (zs : List Int) (k : Nat) : Option ((Int × Int) × Nat) :=
  (gnF zs 4 k 0 1).bind fun a => (gnF zs 4 a.2 0 1).bind fun b => some ((a.1, b.1), b.2)
structure M where
  k : Int
  i : Int
  u : Int
  c : Int
  n : Int
  cs : List (Int × Bool × Int)
  ns : List (Int × Int)
def rMsg (zs : List Int) (p : Nat) : Option (M × Nat) :=
  (gnF zs 4 p 0 1).bind fun k => (gnF zs 4 k.2 0 1).bind fun i => (gnF zs 4 i.2 0 1).bind fun u => (gnF zs 4 u.2 0 1).bind fun c => (gnF zs 4 c.2 0 1).bind fun n =>
    (rMany zs (rCell zs) 8 n.2).bind fun cs => (rMany zs (rNote zs) 130 cs.2).bind fun ns => some (⟨k.1, i.1, u.1, c.1, n.1, cs.1, ns.1⟩, ns.2)

theorem cell_put {zs : List Int} {k : Nat} {x : Int × Bool × Int} (h1 : inB x.1 0 7 = true) (h2 : vOk x.2.1 x.2.2 = true) (h : Pre zs k (cellB x)) : rCell zs k = some (x, k + (cellB x).length) := by
  obtain ⟨x, r, y⟩ := x
  have hx := inB_yes h1
  simp only at h1 h2 hx
  cases r with
  | true =>
    have hy := inB_yes (show inB y 0 1000000 = true from h2)
    rw [cellB_yes] at h ⊢
    obtain ⟨ha, hc⟩ := Pre.app.1 h
    obtain ⟨ha, hb⟩ := Pre.app.1 ha
    unfold rCell
    rw [num_put hx.1 (by omega) ha]
    simp only [Option.bind_some]
    rw [num_put (by omega) (by omega) hb]
    simp only [Option.bind_some]
    rw [if_neg (by omega), if_pos (by trivial)]
    rw [List.length_append, ← Nat.add_assoc] at hc
    rw [num_put hy.1 (by omega) hc]
    simp [Nat.add_assoc]
  | false =>
    have hy := inB_yes (show inB y (-2147483648) 2147483647 = true from h2)
    rw [cellB_no] at h ⊢
    obtain ⟨ha, hc⟩ := Pre.app.1 h
    obtain ⟨ha, hb⟩ := Pre.app.1 ha
    unfold rCell
    rw [num_put hx.1 (by omega) ha]
    simp only [Option.bind_some]
    rw [num_put (by omega) (by omega) hb]
    simp only [Option.bind_some]
    rw [if_neg (by omega), if_neg (by omega)]
    rw [List.length_append, ← Nat.add_assoc] at hc
    rw [word_put hy.1 hy.2 hc]
    simp [Nat.add_assoc]
theorem cell_back {zs : List Int} (hB : Byt zs) {k nx : Nat} {x : Int × Bool × Int} (h : rCell zs k = some (x, nx)) : Pre zs k (cellB x) ∧ nx = k + (cellB x).length ∧ nx ≤ zs.length := by
  unfold rCell at h
  obtain ⟨⟨a, ka⟩, ha, h⟩ := Option.bind_eq_some_iff.1 h
  obtain ⟨⟨f, kf⟩, hf, h⟩ := Option.bind_eq_some_iff.1 h
  obtain ⟨a0, a1, a2, a3, a4⟩ := num_back hB ha
  obtain ⟨f0, f1, f2, f3, f4⟩ := num_back hB hf
  simp only at h f2 f3
  by_cases hf1 : 1 < f
  · rw [if_pos hf1] at h; cases h
  · rw [if_neg hf1] at h
    by_cases hfe : f = 1
    · rw [if_pos hfe] at h
      obtain ⟨⟨y, ky⟩, hy, h⟩ := Option.bind_eq_some_iff.1 h
      obtain ⟨y0, y1, y2, y3, y4⟩ := num_back hB hy
      simp only [Option.some.injEq, Prod.mk.injEq] at h
      obtain ⟨rfl, rfl⟩ := h
      subst hfe
      rw [cellB_yes]
      subst a3 f3 y3
      refine ⟨Pre.app.2 ⟨Pre.app.2 ⟨a2, f2⟩, ?_⟩, by simp [Nat.add_assoc], y4⟩
      rw [List.length_append, ← Nat.add_assoc]; exact y2
    · rw [if_neg hfe] at h
      obtain ⟨⟨y, ky⟩, hy, h⟩ := Option.bind_eq_some_iff.1 h
      obtain ⟨y0, y1, y2, y3, y4⟩ := word_back hB hy
      simp only [Option.some.injEq, Prod.mk.injEq] at h
      obtain ⟨rfl, rfl⟩ := h
      obtain rfl : f = 0 := by omega
      rw [cellB_no]
      subst a3 f3 y3
      refine ⟨Pre.app.2 ⟨Pre.app.2 ⟨a2, f2⟩, ?_⟩, by simp [Nat.add_assoc], y4⟩
      rw [List.length_append, ← Nat.add_assoc]; exact y2
theorem note_put {zs : List Int} {k : Nat} {x : Int × Int} (h1 : inB x.1 1 1000000 = true) (h2 : inB x.2 1 16777215 = true) (h : Pre zs k (noteB x)) : rNote zs k = some (x, k + (noteB x).length) := by
  have hx := inB_yes h1
  have hy := inB_yes h2
  unfold noteB at h ⊢
  obtain ⟨ha, hb⟩ := Pre.app.1 h
  unfold rNote
  rw [num_put (by omega) (by omega) ha]
  simp only [Option.bind_some]
  rw [num_put (by omega) (by omega) hb]
  simp [Nat.add_assoc]
theorem note_back {zs : List Int} (hB : Byt zs) {k nx : Nat} {x : Int × Int} (h : rNote zs k = some (x, nx)) : Pre zs k (noteB x) ∧ nx = k + (noteB x).length ∧ nx ≤ zs.length := by
  unfold rNote at h
  obtain ⟨⟨a, ka⟩, ha, h⟩ := Option.bind_eq_some_iff.1 h
  obtain ⟨⟨f, kf⟩, hf, h⟩ := Option.bind_eq_some_iff.1 h
  obtain ⟨a0, a1, a2, a3, a4⟩ := num_back hB ha
  obtain ⟨f0, f1, f2, f3, f4⟩ := num_back hB hf
  simp only [Option.some.injEq, Prod.mk.injEq] at h
  obtain ⟨rfl, rfl⟩ := h
  simp only at f2 f3
  subst a3 f3
  unfold noteB
  exact ⟨Pre.app.2 ⟨a2, f2⟩, by simp [Nat.add_assoc], f4⟩

end Go.Proofs.YtkfnpijljpbiaaaDoor
