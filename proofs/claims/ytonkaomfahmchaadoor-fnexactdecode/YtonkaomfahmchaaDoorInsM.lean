/-
  Code: what it is for, by its places; small functions.
-/
import Derived.Test.YtonkaomfahmchaaDoorInsTo
import Derived.Test.YtonkaomfahmchaaDoorInB
import Derived.Deep.CutBlock
namespace Go.Proofs.YtonkaomfahmchaaDoor
open Go.RowKit

def hasB (o : Int) : Bool := decide ((1 ≤ o ∧ o ≤ 4) ∨ (9 ≤ o ∧ o ≤ 14))
theorem hasB_t {o : Int} (h : (1 ≤ o ∧ o ≤ 4) ∨ (9 ≤ o ∧ o ≤ 14)) : hasB o = true := by unfold hasB; exact decide_eq_true h
theorem hasB_f {o : Int} (h : ¬ ((1 ≤ o ∧ o ≤ 4) ∨ (9 ≤ o ∧ o ≤ 14))) : hasB o = false := by unfold hasB; exact decide_eq_false h
/-- How many bytes a place has. -/
def inW (x : Isn) : Nat := if hasB x.o then 2 else 1
/-- Which byte place j begins at. -/
def stA (xs : List Isn) (j : Nat) : Nat := tot inW (xs.take j)
def insB (x : Isn) (n : Nat) : Bool :=
  if x.o = 1 then inB x.n (-128) 127
  else if x.o = 2 ∨ (9 ≤ x.o ∧ x.o ≤ 12) then inB x.n 0 23
  else if x.o = 3 ∨ x.o = 4 then inB x.n 0 5
  else if x.o = 13 ∨ x.o = 14 then inB x.n 0 ((n : Int) - 1)
  else inB x.o 1 24 && x.n == 0
def endB (o : Int) : Bool := o == 14 || o == 19
def codeB (xs : List Isn) : Bool := inB (xs.length : Int) 1 90 && (decide (stA xs xs.length ≤ 90) && (xs.all (fun x => insB x xs.length) && endB (xs.getD (xs.length - 1) default).o))
theorem codeB_1 {xs : List Isn} (h : inB (xs.length : Int) 1 90 = false) : codeB xs = false := by unfold codeB; rw [h]; rfl
theorem codeB_2 {xs : List Isn} (h : ¬ stA xs xs.length ≤ 90) : codeB xs = false := by unfold codeB; rw [decide_eq_false h, Bool.false_and, Bool.and_false]
theorem codeB_3 {xs : List Isn} {j : Nat} (hj : j < xs.length) (h : insB (xs.getD j default) xs.length = false) : codeB xs = false := by
  have : xs.all (fun x => insB x xs.length) = false := by
    rw [List.all_eq_false]
    refine ⟨xs.getD j default, ?_, by rw [h]; simp⟩
    have e : xs.getD j default = xs[j] := by simp [hj]
    rw [e]; exact List.getElem_mem _
  unfold codeB
  rw [this, Bool.false_and, Bool.and_false, Bool.and_false]
theorem codeB_4 {xs : List Isn} (h : endB (xs.getD (xs.length - 1) default).o = false) : codeB xs = false := by unfold codeB; rw [h]; simp
theorem codeB_y {xs : List Isn} (h1 : inB (xs.length : Int) 1 90 = true) (h2 : stA xs xs.length ≤ 90) (h3 : ∀ j, j < xs.length → insB (xs.getD j default) xs.length = true) (h4 : endB (xs.getD (xs.length - 1) default).o = true) : codeB xs = true := by
  have : xs.all (fun x => insB x xs.length) = true := List.all_eq_true.2 (fun x hx => by
    obtain ⟨j, hj, rfl⟩ := List.mem_iff_getElem.1 hx
    have := h3 j hj
    simpa [hj] using this)
  unfold codeB
  rw [h1, decide_eq_true h2, this, h4]; rfl
theorem codeB_of {xs : List Isn} (h : codeB xs = true) : (1 ≤ xs.length ∧ xs.length ≤ 90) ∧ stA xs xs.length ≤ 90 ∧ (∀ x ∈ xs, insB x xs.length = true) ∧ endB (xs.getD (xs.length - 1) default).o = true := by
  unfold codeB at h
  simp only [Bool.and_eq_true, decide_eq_true_eq, List.all_eq_true] at h
  obtain ⟨h1, h2, h3, h4⟩ := h
  have := inB_yes h1
  exact ⟨⟨by omega, by omega⟩, h2, h3, h4⟩
/-- What is known of a place that is right. -/
theorem insB_of {x : Isn} {n : Nat} (h : insB x n = true) : (1 ≤ x.o ∧ x.o ≤ 24) ∧ (x.o = 1 → -128 ≤ x.n ∧ x.n ≤ 127) ∧ (x.o ≠ 1 → 0 ≤ x.n) ∧ (x.o = 13 ∨ x.o = 14 → x.n ≤ (n : Int) - 1) ∧ (x.o ≠ 1 → ¬ (x.o = 13 ∨ x.o = 14) → x.n ≤ 23) ∧ (hasB x.o = false → x.n = 0) := by
  unfold insB at h
  have hh : hasB x.o = false → ¬ ((1 ≤ x.o ∧ x.o ≤ 4) ∨ (9 ≤ x.o ∧ x.o ≤ 14)) := fun h => by unfold hasB at h; exact of_decide_eq_false h
  split at h
  · have := inB_yes h
    refine ⟨by omega, fun _ => by omega, fun h => by omega, fun h => by omega, fun h => by omega, fun h => by have := hh h; omega⟩
  · split at h
    · have := inB_yes h
      refine ⟨by omega, fun _ => by omega, fun h => by omega, fun h => by omega, fun _ _ => by omega, fun h => by have := hh h; omega⟩
    · split at h
      · have := inB_yes h
        refine ⟨by omega, fun _ => by omega, fun h => by omega, fun h => by omega, fun _ _ => by omega, fun h => by have := hh h; omega⟩
      · split at h
        · have := inB_yes h
          refine ⟨by omega, fun _ => by omega, fun h => by omega, fun h => by omega, fun _ _ => by omega, fun h => by have := hh h; omega⟩
        · rw [Bool.and_eq_true, beq_iff_eq] at h
          have := inB_yes h.1
          refine ⟨by omega, fun _ => by omega, fun h => by omega, fun h => by omega, fun _ _ => by omega, fun _ => h.2⟩
/-- The bytes of a place. -/
def encX (xs : List Isn) (x : Isn) : List Int :=
  if x.o = 1 then [x.o, x.n + 128] else if x.o = 13 ∨ x.o = 14 then [x.o, (stA xs x.n.toNat : Int)] else if hasB x.o then [x.o, x.n] else [x.o]
def encL (xs : List Isn) : List Int := xs.flatMap (encX xs)
theorem stA_step (xs : List Isn) (j : Nat) (h : j < xs.length) : stA xs (j + 1) = stA xs j + inW (xs.getD j default) := tot_step inW xs j h
theorem inW_le (x : Isn) : 1 ≤ inW x ∧ inW x ≤ 2 := by unfold inW; split <;> omega
theorem tot_inW : ∀ (xs : List Isn), xs.length ≤ tot inW xs ∧ tot inW xs ≤ 2 * xs.length
  | [] => by simp [tot]
  | x :: xs => by
    have := tot_inW xs
    have := inW_le x
    simp [tot] at *
    omega
theorem stA_le (xs : List Isn) (j : Nat) : stA xs j ≤ 2 * j := by
  have h := (tot_inW (xs.take j)).2
  rw [List.length_take] at h
  unfold stA
  omega
theorem stA_mono (xs : List Isn) (j : Nat) : stA xs j ≤ stA xs xs.length := by
  unfold stA
  rw [List.take_length]
  exact tot_le inW xs j
theorem encX_len (xs : List Isn) (x : Isn) : (encX xs x).length = inW x := by
  unfold encX inW
  split
  · rename_i h
    rw [hasB_t (by omega)]; rfl
  · split
    · rename_i h h'
      rw [hasB_t (by omega)]; rfl
    · split <;> rfl
theorem encF_len (zs : List Isn) : ∀ (xs : List Isn), (xs.flatMap (encX zs)).length = tot inW xs
  | [] => rfl
  | x :: xs => by
    have := encF_len zs xs
    rw [List.flatMap_cons, List.length_append, encX_len, this]
    simp [tot]
theorem Ins8.other {x : Isn} {m : Nat} (h : ¬ hasB x.o = true) : insB x m = (inB x.o 1 24 && x.n == 0) := by
  have h' : ¬ ((1 ≤ x.o ∧ x.o ≤ 4) ∨ (9 ≤ x.o ∧ x.o ≤ 14)) := fun hh => h (hasB_t hh)
  unfold insB
  rw [if_neg (by omega), if_neg (by omega), if_neg (by omega), if_neg (by omega)]
theorem encX_1 {xs : List Isn} {x : Isn} (h : x.o = 1) : encX xs x = [x.o] ++ [x.n + 128] := by unfold encX; rw [if_pos h]; rfl
theorem encX_2 {xs : List Isn} {x : Isn} (h : x.o = 13 ∨ x.o = 14) : encX xs x = [x.o] ++ [(stA xs x.n.toNat : Int)] := by unfold encX; rw [if_neg (by omega), if_pos h]; rfl
theorem encX_3 {xs : List Isn} {x : Isn} (h1 : ¬ x.o = 1) (h2 : ¬ (x.o = 13 ∨ x.o = 14)) (h : hasB x.o = true) : encX xs x = [x.o] ++ [x.n] := by unfold encX; rw [if_neg h1, if_neg h2, if_pos h]; rfl
theorem encX_4 {xs : List Isn} {x : Isn} (h : hasB x.o = false) : encX xs x = [x.o] := by
  have h' : ¬ ((1 ≤ x.o ∧ x.o ≤ 4) ∨ (9 ≤ x.o ∧ x.o ≤ 14)) := by unfold hasB at h; exact of_decide_eq_false h
  unfold encX
  rw [if_neg (by omega), if_neg (by omega), h]; rfl
theorem flat_next {α β : Type} [Inhabited α] (f : α → List β) (xs : List α) (j : Nat) (h : j < xs.length) : (xs.take (j + 1)).flatMap f = (xs.take j).flatMap f ++ f (xs.getD j default) := by
  have : xs.getD j default = xs[j] := by simp [h]
  rw [List.take_succ_eq_append_getElem h, List.flatMap_append, List.flatMap_cons, List.flatMap_nil, List.append_nil, this]
theorem encT_len (xs : List Isn) (j : Nat) : ((xs.take j).flatMap (encX xs)).length = stA xs j := encF_len xs (xs.take j)
/-- What Encode tells. -/
def encB (xs : List Isn) : List Int := if codeB xs then encL xs else []
theorem Tryd.infoB8 : (Tryd.prog.info? 5).map (fun i => (i.zero, i.size, i.bytes)) = some (some (.int .u8 0), 1, 1) := by kernel_rfl
theorem box_ins {w : World} {b hi p : Nat} {x : Isn} (h : OwnD w b hi (inss [x]) (.slice (some ⟨p, 0, none⟩) 1 1)) : w.cell? ⟨p, 0, none⟩ = some (.int .i64 x.o) ∧ w.cell? ⟨p, 1, none⟩ = some (.int .i64 x.n) := by
  obtain ⟨a, cap, e, _, _, h2⟩ := ins_at (h.rd (Nat.le_refl _))
  cases e
  obtain ⟨g, o, e, _, h3⟩ := h2 (by simp)
  cases e
  simpa using h3 0 (by simp)
theorem ownD_lit (w : World) (b : Nat) (hB : b ≤ w.heap.size) (T : TypeId) (k n : Nat) (cs : Array Value) (hn : n ≤ 1000000) (hl : cs.size = n * k) : OwnD (w.alloc (.cells cs T)) b (w.alloc (.cells cs T)).heap.size (.row T k n (cs.toList.map .val)) (.slice (some ⟨w.heap.size, 0, none⟩) n n) := by
  refine ⟨[w.heap.size], ?_, by simp, fun q hq => by simp at hq ⊢; omega⟩
  unfold Owns
  exact ⟨cs.toList, [], World.ownsRow_lit w cs n hB (by unfold maxLen; omega) hl, ownsL_vals _, rfl⟩
theorem ownD_one {w : World} {b hi : Nat} {d : Dt} {v : Value} (h : OwnD w b hi d v) : OwnDL w b hi ([] ++ d :: []) ([] ++ v :: []) := by
  obtain ⟨F, h1, h2, h3⟩ := h
  exact ⟨F ++ [], ownsL_mk h1 ownsL_nil, by simpa using h2, by simpa using h3⟩
theorem ownDL_one {w : World} {b hi : Nat} {d : Dt} {v : Value} (h : OwnDL w b hi ([] ++ d :: []) ([] ++ v :: [])) : OwnD w b hi d v := by
  obtain ⟨F, h1, h2, h3⟩ := h
  obtain ⟨u, us, F1, F2, e, rfl, h4, h5⟩ := ownsL_cons h1
  cases e
  unfold OwnsL at h5
  obtain ⟨_, rfl⟩ := h5
  exact ⟨F1, h4, by simpa using h2, by simpa using h3⟩
def itD (z : Int) : List Dt := [.val (.int .i64 z)]
def ints (zs : List Int) : Dt := .row 3 1 zs.length (zs.flatMap itD)
theorem int_at {w : World} {B : Nat} {v : Value} {xs : List Int} (h : Reads w B (ints xs) v) :
    ∃ a cap, v = .slice a xs.length cap ∧ xs.length ≤ cap ∧ (a = none → cap = 0) ∧ (0 < xs.length → ∃ b o, a = some ⟨b, o, none⟩ ∧ b < B ∧ ∀ j, j < xs.length → w.cell? ⟨b, o + j, none⟩ = some (.int .i64 (xs.getD j default))) := by
  obtain ⟨a, cap, rfl, h1, h2, h3⟩ := row_at (f := itD) (k := 1) (fun _ => rfl) rfl h
  refine ⟨a, cap, rfl, h1, h2, fun hp => ?_⟩
  obtain ⟨b, o, rfl, hb, hc⟩ := h3 hp
  refine ⟨b, o, rfl, hb, fun j hj => ?_⟩
  obtain ⟨vs, h4, h5⟩ := hc j hj
  obtain ⟨u0, vs0, rfl, q0, h4⟩ := readsL_cons h4
  obtain rfl := readsL_nil h4
  obtain rfl := reads_val q0
  have c0 := h5 0 (by omega)
  simp only [Nat.mul_one, Nat.add_zero] at c0
  exact c0
theorem Tryd.infoI : (Tryd.prog.info? 3).map (fun i => (i.zero, i.size, i.bytes)) = some (some (.int .i64 0), 1, 8) := by kernel_rfl
def stL (xs : List Isn) (n : Nat) : List Int := (List.range n).map fun j => (stA xs j : Int)
theorem stL_len (xs : List Isn) (n : Nat) : (stL xs n).length = n := by simp [stL]
theorem stL_get (xs : List Isn) (n j : Nat) (h : j < n) : (stL xs n).getD j default = (stA xs j : Int) := by simp [stL, h]
theorem stL_step (xs : List Isn) (n : Nat) : stL xs (n + 1) = stL xs n ++ [(stA xs n : Int)] := by simp [stL, List.range_succ]
set_option maxRecDepth 100000 in
set_option maxHeartbeats 4000000 in
theorem hasSpec (w : World) (o : Int) : Calls Tryd.prog 12 #[.int .i64 o] w fun e w' => e = .returned (.bool (hasB o)) ∧ w' = w := by
  go_enter Tryd.func12, Tryd.ntmps12
  go_wp2
  all_goals (
    try simp only [beq_iff_eq, beq_eq_false_iff_ne] at *
    go_ret
    exact ⟨by first | (rw [hasB_t (by omega)]; rfl) | (rw [hasB_f (by omega)]; rfl), rfl⟩)
theorem hasSpecB (w : World) (o : Int) : Calls Tryd.prog 12 #[.int .i64 o] w fun e w' => e = .returned (.bool (hasB o)) ∧ Below w.heap.size w w' := (hasSpec w o).mono fun e w' h => ⟨h.1, by rw [h.2]; exact Below.refl _ _⟩
end Go.Proofs.YtonkaomfahmchaaDoor
