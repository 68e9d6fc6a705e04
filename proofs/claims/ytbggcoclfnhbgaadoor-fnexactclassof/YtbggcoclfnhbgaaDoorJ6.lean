/-
  Joined: PutWordW, PnB, RMath.
-/
import Derived.Test.YtbggcoclfnhbgaaDoorJ5
import Derived.Test.YtbggcoclfnhbgaaDoorJ4
import Derived.Test.YtbggcoclfnhbgaaDoorJ3
/-
  What PutWord does, in the program and in its model: both answer the four bytes of the word (none, where it is none) in new memory, and touch nothing that was there.
-/
namespace Go.Proofs.YtbggcoclfnhbgaaDoor
open Go.RowKit

def pw (n : Int) : List Int := if -2147483648 ≤ n ∧ n ≤ 2147483647 then [n % 256, n / 256 % 256, n / 65536 % 256, n / 16777216 % 256] else []
theorem pw_in (n : Int) (h0 : -2147483648 ≤ n) (h1 : n ≤ 2147483647) : pw n = [n % 256, n / 256 % 256, n / 65536 % 256, n / 16777216 % 256] := by simp [pw, h0, h1]
theorem pw_out (n : Int) (h : n < -2147483648 ∨ 2147483647 < n) : pw n = [] := by
  unfold pw; rw [if_neg (by omega)]
theorem pw_len (n : Int) : (pw n).length ≤ 4 := by
  unfold pw
  split <;> simp
theorem rnd_in (n : Int) (h0 : -2147483648 ≤ n) (h1 : n ≤ 2147483647) : (rnd n != n) = false := by
  have : rnd n = n := by unfold rnd; omega
  simp [this]
theorem rnd_out (n : Int) (h : n < -2147483648 ∨ 2147483647 < n) : (rnd n != n) = true := by
  have := rnd_bd n
  rw [bne_iff_ne]; omega

theorem pw_byt (n : Int) : Byt (pw n) := by
  unfold pw
  split
  · intro z hz
    simp at hz
    omega
  · intro z hz; cases hz
theorem wordYes (x : Int) (w : World) (h1 : -2147483648 ≤ x) (h2 : x ≤ 2147483647) :
    Calls Tryd.prog 54 #[.int .i64 x] w fun e w' => e = .returned (.bool true) ∧ w' = w := by
  go_enter Tryd.func54, Tryd.ntmps54
  go_wp2_with (go_at_call 60; refine (inYes _ _ _ _ (by omega) (by omega)).mono ?_; rintro e w' ⟨rfl, rfl⟩)
  go_ret
  exact ⟨rfl, rfl⟩
theorem wordNo (x : Int) (w : World) (h : x < -2147483648 ∨ 2147483647 < x) :
    Calls Tryd.prog 54 #[.int .i64 x] w fun e w' => e = .returned (.bool false) ∧ w' = w := by
  go_enter Tryd.func54, Tryd.ntmps54
  go_wp2_with (go_at_call 60; refine (inNo _ _ _ _ h).mono ?_; rintro e w' ⟨rfl, rfl⟩)
  go_ret
  exact ⟨rfl, rfl⟩

set_option maxRecDepth 100000 in
set_option maxHeartbeats 400000 in
theorem putWordSpec (n : Int) (w : World) :
    Calls Tryd.prog 61 #[.int .i64 n] w fun e w' => ∃ v, e = .returned v ∧ Own w' w.heap.size v (pw n) ∧ Below w.heap.size w w' := by
  by_cases hn : n < -2147483648 ∨ 2147483647 < n
  · rw [pw_out n hn]
    go_enter Tryd.func61, Tryd.ntmps61
    go_wp2_with (go_at_call 54; refine (wordNo _ _ hn).mono ?_; rintro e w' ⟨rfl, rfl⟩)
    go_ret
    exact ⟨_, rfl, own_empty _ _ (Nat.le_refl _), (Below.refl _ _).alloc (Nat.le_refl _) _⟩
  · have h0 : -2147483648 ≤ n := by omega
    have h1 : n ≤ 2147483647 := by omega
    rw [pw_in n h0 h1]
    clear hn
    go_enter Tryd.func61, Tryd.ntmps61
    go_wp2_with (go_at_call 54; refine (wordYes _ _ h0 h1).mono ?_; rintro e w' ⟨rfl, rfl⟩)
    go_ret
    refine ⟨_, rfl, ?_, (Below.refl _ _).alloc (Nat.le_refl _) _⟩
    exact own_four _ _ (Nat.le_refl _) _ _ _ _

end Go.Proofs.YtbggcoclfnhbgaaDoor
/-
  The bytes of numbers are bytes; rows of bytes of one's own, one put behind another.
-/
namespace Go.Proofs.YtbggcoclfnhbgaaDoor
open Go.RowKit

theorem pnF_byt : ∀ (k : Nat) (n : Int), 0 ≤ n → n ≤ pnB k → Byt (pnF k n)
  | 0, n, h0, h1 => by
    intro z hz
    simp [pnF] at hz
    simp [pnB] at h1
    omega
  | k + 1, n, h0, h1 => by
    intro z hz
    unfold pnF at hz
    split at hz
    · rcases List.mem_cons.1 hz with rfl | hz
      · omega
      · exact pnF_byt k (n / 128) (by omega) (by simp only [pnB] at h1; omega) z hz
    · simp at hz; omega
theorem pn_byt (n : Int) : Byt (pn n) := by
  unfold pn
  split
  · rename_i h
    exact pnF_byt 3 n h.1 (by simp [pnB]; omega)
  · intro z hz; cases hz
theorem pnF_pos : ∀ (k : Nat) (n : Int), 0 < (pnF k n).length
  | 0, n => by simp [pnF]
  | k + 1, n => by unfold pnF; split <;> simp
theorem pn_pos (n : Int) (h0 : 0 ≤ n) (h1 : n ≤ 16777215) : 0 < (pn n).length := by rw [pn_in n h0 h1]; exact pnF_pos 3 n

/-- 'append(v, u...)', both rows of one's own: u's bytes behind v's. -/
theorem app_own {w : World} {ops : Array Oper} {rest : List Oper} {o : Oper} {act : Act} {Q : Exit → Act → World → Prop} (hgd : o.guard = none) (s x : Operand)
    (ho : o.op = .call { callee := .builtin .append, args := #[s, x], argTypes := #[22, 22] }) (base b2 : Nat) (v u : Value) (xs zs : List Int) (hs : act.eval s = v) (hown : Own w base v xs)
    (hx : act.eval x = u) (hu : Own w b2 u zs) (hz : Byt zs) (hl : zs.length ≤ 1048576) (hsm : xs.length ≤ 2000000) (hbase : base ≤ w.heap.size)
    (h : ∀ v' w', Own w' base v' (xs ++ zs) → w.grownBy w' v.ownBlock → (v' = .slice none 0 0 ↔ v = .slice none 0 0 ∧ zs.length = 0) → wpList Tryd.prog ops Q rest (act.put o.dst v') w') :
    wpList Tryd.prog ops Q (o :: rest) act w := by
  obtain ⟨a, c, rfl, hi, _⟩ := in_any hu hl hz (Nat.le_refl _)
  exact app_in hgd s x ho base w.heap.size v xs hs hown a zs.length c zs hx (fun e => hu.cap0 e) hi hsm hbase h
end Go.Proofs.YtbggcoclfnhbgaaDoor
/-
  Messages read from bytes: what is put is got; what is got was put.
-/
namespace Go.Proofs.YtbggcoclfnhbgaaDoor
open Go.RowKit

/-- From place k on zs begins with bs. -/
def Pre (zs : List Int) (k : Nat) (bs : List Int) : Prop := ∃ r, zs.drop k = bs ++ r

theorem Pre.app {zs : List Int} {k : Nat} {a b : List Int} : Pre zs k (a ++ b) ↔ Pre zs k a ∧ Pre zs (k + a.length) b := by
  constructor
  · rintro ⟨r, h⟩
    refine ⟨⟨b ++ r, by rw [h, List.append_assoc]⟩, ⟨r, ?_⟩⟩
    rw [← List.drop_drop, h, List.append_assoc, List.drop_left]
  · rintro ⟨⟨r, h⟩, ⟨s, h'⟩⟩
    rw [← List.drop_drop, h, List.drop_left] at h'
    exact ⟨s, by rw [h, h', List.append_assoc]⟩
theorem Pre.nil (zs : List Int) (k : Nat) : Pre zs k [] := ⟨zs.drop k, rfl⟩
theorem Pre.len {zs : List Int} {k : Nat} {bs : List Int} (h : Pre zs k bs) (hb : 0 < bs.length) : k + bs.length ≤ zs.length := by
  obtain ⟨r, h⟩ := h
  have := congrArg List.length h
  simp only [List.length_drop, List.length_append] at this
  omega
theorem Pre.get {zs : List Int} {k : Nat} {bs : List Int} (h : Pre zs k bs) (i : Nat) (hi : i < bs.length) : zs.getD (k + i) 0 = bs.getD i 0 := by
  obtain ⟨r, h⟩ := h
  have h1 : (zs.drop k)[i]? = bs[i]? := by rw [h, List.getElem?_append_left hi]
  rw [List.getElem?_drop] at h1
  rw [List.getD_eq_getElem?_getD, List.getD_eq_getElem?_getD, h1]
theorem Pre.of_take {zs : List Int} {k : Nat} {bs : List Int} (h : (zs.drop k).take bs.length = bs) : Pre zs k bs :=
  ⟨(zs.drop k).drop bs.length, by conv => rhs; lhs; rw [← h]
                                  rw [List.take_append_drop]⟩
theorem Pre.all {zs bs : List Int} (h : Pre zs 0 bs) (hl : bs.length = zs.length) : zs = bs := by
  obtain ⟨r, h⟩ := h
  rw [List.drop_zero] at h
  have := congrArg List.length h
  simp only [List.length_append] at this
  have hr : r = [] := List.eq_nil_of_length_eq_zero (by omega)
  rw [h, hr, List.append_nil]

theorem num_put {zs : List Int} {k : Nat} {x : Int} (h0 : 0 ≤ x) (h1 : x ≤ 16777215) (h : Pre zs k (pn x)) : gnF zs 4 k 0 1 = some (x, k + (pn x).length) := by
  have := gn_pn zs k x h0 h1 (h.len (pn_pos x h0 h1)) (fun i hi => h.get i hi)
  unfold gn at this
  rwa [if_pos (by omega), Int.toNat_natCast] at this
theorem num_back {zs : List Int} (hB : Byt zs) {k nx : Nat} {x : Int} (h : gnF zs 4 k 0 1 = some (x, nx)) : 0 ≤ x ∧ x ≤ 16777215 ∧ Pre zs k (pn x) ∧ nx = k + (pn x).length ∧ nx ≤ zs.length := by
  have h' : gn zs (k : Int) = some (x, nx) := by unfold gn; rw [if_pos (by omega), Int.toNat_natCast]; exact h
  obtain ⟨_, h1, h2, h3, h4, h5⟩ := gn_back zs hB k x nx h'
  rw [Int.toNat_natCast] at h3 h4
  refine ⟨h1, h2, Pre.of_take ?_, h4, h5⟩
  rw [show nx - k = (pn x).length from by omega] at h3
  exact h3
theorem word_put {zs : List Int} {k : Nat} {x : Int} (h0 : -2147483648 ≤ x) (h1 : x ≤ 2147483647) (h : Pre zs k (pw x)) : gw zs (k : Int) = some (x, k + (pw x).length) := by
  have e := pw_in x h0 h1
  have hl := h.len (by rw [e]; simp)
  have g := h.get
  rw [e] at hl g ⊢
  have g0 := g 0 (by simp)
  have g1 := g 1 (by simp)
  have g2 := g 2 (by simp)
  have g3 := g 3 (by simp)
  simp at g0 g1 g2 g3 hl
  unfold gw
  rw [if_pos ⟨by omega, by rw [Int.toNat_natCast]; exact hl⟩, Int.toNat_natCast]
  simp [ws]
  rw [g0, g1, g2, g3]
  unfold rnd
  omega
theorem word_back {zs : List Int} (hB : Byt zs) {k nx : Nat} {x : Int} (h : gw zs (k : Int) = some (x, nx)) : -2147483648 ≤ x ∧ x ≤ 2147483647 ∧ Pre zs k (pw x) ∧ nx = k + (pw x).length ∧ nx ≤ zs.length := by
  unfold gw at h
  rw [Int.toNat_natCast] at h
  by_cases hc : 0 ≤ (k : Int) ∧ k + 4 ≤ zs.length
  · rw [if_pos hc] at h
    simp only [Option.some.injEq, Prod.mk.injEq] at h
    obtain ⟨h1, h2⟩ := h
    have hb := rnd_bd (ws zs k 4)
    have z0 := hB.at k (by omega)
    have z1 := hB.at (k + 1) (by omega)
    have z2 := hB.at (k + 2) (by omega)
    have z3 := hB.at (k + 3) (by omega)
    rw [h1] at hb
    have e := pw_in x hb.1 hb.2
    refine ⟨hb.1, hb.2, Pre.of_take ?_, by rw [e]; simp; omega, by omega⟩
    have hd : (zs.drop k).take 4 = [zs.getD k 0, zs.getD (k + 1) 0, zs.getD (k + 2) 0, zs.getD (k + 3) 0] := by
      refine List.ext_getElem (by simp; omega) fun j h1 h2 => ?_
      have hj : j = 0 ∨ j = 1 ∨ j = 2 ∨ j = 3 := by simp at h2; omega
      rcases hj with rfl | rfl | rfl | rfl
      · simp [show k < zs.length from by omega]
      · simp [show k + 1 < zs.length from by omega]
      · simp [show k + 2 < zs.length from by omega]
      · simp [show k + 3 < zs.length from by omega]
    rw [e, show ([x % 256, x / 256 % 256, x / 65536 % 256, x / 16777216 % 256] : List Int).length = 4 from rfl, hd]
    simp only [ws] at h1
    generalize zs.getD k 0 = a at *
    generalize zs.getD (k + 1) 0 = b at *
    generalize zs.getD (k + 2) 0 = c at *
    generalize zs.getD (k + 3) 0 = d at *
    unfold rnd at h1
    simp only [List.cons.injEq, and_true]
    refine ⟨?_, ?_, ?_, ?_⟩ <;> omega
  · rw [if_neg hc] at h; cases h

/-- So many, one behind the other. -/
def rList {α : Type} (f : Nat → Option (α × Nat)) : Nat → Nat → Option (List α × Nat)
  | 0, k => some ([], k)
  | n + 1, k => (f k).bind fun x => (rList f n x.2).bind fun xs => some (x.1 :: xs.1, xs.2)
def rMany {α : Type} (zs : List Int) (f : Nat → Option (α × Nat)) (most : Int) (k : Nat) : Option (List α × Nat) :=
  (gnF zs 4 k 0 1).bind fun n => if most < n.1 then none else rList f n.1.toNat n.2

theorem list_put {α : Type} {zs : List Int} {f : Nat → Option (α × Nat)} {B : α → List Int} : ∀ (xs : List α) (k : Nat), (∀ x ∈ xs, ∀ k, Pre zs k (B x) → f k = some (x, k + (B x).length)) → Pre zs k (xs.flatMap B) → rList f xs.length k = some (xs, k + (xs.flatMap B).length)
  | [], k, _, _ => by simp [rList]
  | x :: xs, k, hf, h => by
    rw [List.flatMap_cons] at h ⊢
    obtain ⟨ha, hb⟩ := Pre.app.1 h
    rw [List.length_cons, rList, hf x (by simp) k ha]
    simp only [Option.bind_some]
    rw [list_put xs _ (fun y hy => hf y (by simp [hy])) hb]
    simp [Nat.add_assoc]
theorem list_back {α : Type} {zs : List Int} {f : Nat → Option (α × Nat)} {B : α → List Int} (hf : ∀ k nx x, f k = some (x, nx) → Pre zs k (B x) ∧ nx = k + (B x).length ∧ nx ≤ zs.length) : ∀ (n k e : Nat) (xs : List α), rList f n k = some (xs, e) → xs.length = n ∧ Pre zs k (xs.flatMap B) ∧ e = k + (xs.flatMap B).length
  | 0, k, e, xs, h => by
    simp only [rList, Option.some.injEq, Prod.mk.injEq] at h
    obtain ⟨rfl, rfl⟩ := h
    exact ⟨rfl, Pre.nil _ _, by simp⟩
  | n + 1, k, e, xs, h => by
    rw [rList] at h
    obtain ⟨⟨x, kx⟩, hx, h⟩ := Option.bind_eq_some_iff.1 h
    obtain ⟨⟨ys, ky⟩, hy, h⟩ := Option.bind_eq_some_iff.1 h
    simp only [Option.some.injEq, Prod.mk.injEq] at h
    obtain ⟨rfl, rfl⟩ := h
    obtain ⟨h1, h2, h3⟩ := hf k kx x hx
    obtain ⟨h4, h5, h6⟩ := list_back hf n kx ky ys hy
    subst h2
    rw [List.flatMap_cons]
    exact ⟨by simp [h4], Pre.app.2 ⟨h1, h5⟩, by rw [h6]; simp [Nat.add_assoc]⟩
end Go.Proofs.YtbggcoclfnhbgaaDoor
