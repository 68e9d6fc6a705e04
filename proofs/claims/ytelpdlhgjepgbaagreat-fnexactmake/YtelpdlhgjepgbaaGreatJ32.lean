/-
  One memory: an object is made.
-/
import Derived.Test.YtelpdlhgjepgbaaGreatJ31
import Derived.Test.YtelpdlhgjepgbaaGreatJ6
namespace Go.Proofs.YtelpdlhgjepgbaaGreat
open Go.RowKit

def insO (o : Ob) : List Ob → List Ob
  | [] => [o]
  | y :: ys => if o.i < y.i then o :: y :: ys else y :: insO o ys
theorem insO_len (o : Ob) : ∀ ys, (insO o ys).length = ys.length + 1
  | [] => rfl
  | y :: ys => by
    unfold insO
    split
    · simp
    · simp [insO_len o ys]
theorem insO_mem {o : Ob} : ∀ {ys : List Ob} {z : Ob}, z ∈ insO o ys → z = o ∨ z ∈ ys
  | [], z, h => .inl (by simpa [insO] using h)
  | y :: ys, z, h => by
    unfold insO at h
    split at h
    · rcases List.mem_cons.1 h with h | h
      · exact .inl h
      · exact .inr h
    · rcases List.mem_cons.1 h with h | h
      · exact .inr (by simp [h])
      · rcases insO_mem h with h | h
        · exact .inl h
        · exact .inr (by simp [h])
theorem insO_tot (f : Ob → Nat) (o : Ob) : ∀ ys, tot f (insO o ys) = tot f ys + f o
  | [] => by simp [insO, tot]
  | y :: ys => by
    have ih := insO_tot f o ys
    unfold insO
    split
    · simp [tot]; omega
    · unfold tot at ih ⊢
      rw [List.map_cons, List.sum_cons, ih, List.map_cons, List.sum_cons]
      omega
theorem insO_all {o : Ob} : ∀ {ys : List Ob}, (∀ y ∈ ys, ¬ o.i < y.i) → insO o ys = ys ++ [o]
  | [], _ => rfl
  | y :: ys, h => by
    unfold insO
    rw [if_neg (h y (by simp)), insO_all (fun z hz => h z (by simp [hz]))]
    rfl
theorem insO_snoc {o y : Ob} : ∀ {ys : List Ob}, (∃ z ∈ ys, o.i < z.i) → insO o (ys ++ [y]) = insO o ys ++ [y]
  | [], ⟨z, hz, _⟩ => by simp at hz
  | x :: ys, ⟨z, hz, hlt⟩ => by
    rw [List.cons_append]
    unfold insO
    split
    · rfl
    · rename_i hn
      rcases List.mem_cons.1 hz with h | h
      · subst h
        exact absurd hlt hn
      · rw [insO_snoc ⟨z, h, hlt⟩]
        rfl
theorem insO_new {o y : Ob} : ∀ {ys : List Ob}, (∀ z ∈ ys, ¬ o.i < z.i) → o.i < y.i → insO o (ys ++ [y]) = ys ++ [o] ++ [y]
  | [], _, h => by
    simp [insO, h]
  | x :: ys, h, hy => by
    rw [List.cons_append]
    unfold insO
    rw [if_neg (h x (by simp)), insO_new (fun z hz => h z (by simp [hz])) hy]
    simp
theorem insO_split {o : Ob} : ∀ {ys : List Ob} {k : Nat}, k ≤ ys.length → (∀ i, i < k → ¬ o.i < (ys.getD i default).i) → (k < ys.length → o.i < (ys.getD k default).i) → insO o ys = ys.take k ++ o :: ys.drop k
  | [], 0, _, _, _ => rfl
  | [], k + 1, h, _, _ => by simp at h
  | y :: ys, 0, _, _, h => by
    have h0 := h (by simp)
    rw [List.getD_cons_zero] at h0
    simp [insO, h0]
  | y :: ys, k + 1, h, h1, h2 => by
    have h0 := h1 0 (by omega)
    rw [List.getD_cons_zero] at h0
    unfold insO
    rw [if_neg h0, insO_split (k := k) (by simpa using h) (fun i hi => by have := h1 (i + 1) (by omega); rwa [List.getD_cons_succ] at this) (fun hk => by have := h2 (by simpa using hk); rwa [List.getD_cons_succ] at this)]
    simp
/-- What the model's loop has made of the first j. -/
def mkI (os : List Ob) (o : Ob) (j : Nat) (b : Bool) (xs : List Ob) : Prop :=
  (b = true → xs = insO o (os.take j) ∧ ∃ y ∈ os.take j, o.i < y.i) ∧ (b = false → xs = os.take j ∧ ∀ y ∈ os.take j, ¬ o.i < y.i)
theorem take_snocM2 {xs : List Ob} {j : Nat} (h : j < xs.length) : xs.take (j + 1) = xs.take j ++ [xs.getD j default] := by
  rw [List.take_add_one, List.getElem?_eq_getElem h, List.getD_eq_getElem?_getD, List.getElem?_eq_getElem h]
  rfl
theorem mkI_start (os : List Ob) (o : Ob) : mkI os o 0 false [] := ⟨fun h => (by cases h), fun _ => ⟨rfl, fun y hy => by simp at hy⟩⟩
theorem mkI_len {os : List Ob} {o : Ob} {j : Nat} {b : Bool} {xs : List Ob} (h : mkI os o j b xs) (hj : j ≤ os.length) : xs.length ≤ j + 1 := by
  cases b with
  | true => rw [(h.1 rfl).1, insO_len, List.length_take]; omega
  | false => rw [(h.2 rfl).1, List.length_take]; omega
theorem mkI_new {os : List Ob} {o y : Ob} {j : Nat} {xs : List Ob} (h : mkI os o j false xs) (hj : j < os.length) (hy : os.getD j default = y) (hlt : o.i < y.i) : mkI os o (j + 1) true (xs ++ [o] ++ [y]) := by
  obtain ⟨h1, h2⟩ := h.2 rfl
  refine ⟨fun _ => ?_, fun h => (by cases h)⟩
  rw [take_snocM2 hj, hy, h1]
  exact ⟨(insO_new h2 hlt).symm, y, by simp, hlt⟩
theorem mkI_old {os : List Ob} {o y : Ob} {j : Nat} {b : Bool} {xs : List Ob} (h : mkI os o j b xs) (hj : j < os.length) (hy : os.getD j default = y) (hb : b = true ∨ ¬ o.i < y.i) : mkI os o (j + 1) b (xs ++ [y]) := by
  refine ⟨fun hb' => ?_, fun hb' => ?_⟩
  · obtain ⟨h1, z, hz, hlt⟩ := h.1 hb'
    rw [take_snocM2 hj, hy, h1]
    exact ⟨(insO_snoc ⟨z, hz, hlt⟩).symm, z, by simp [hz], hlt⟩
  · obtain ⟨h1, h2⟩ := h.2 hb'
    rw [take_snocM2 hj, hy, h1]
    refine ⟨rfl, fun z hz => ?_⟩
    rcases List.mem_append.1 hz with hz | hz
    · exact h2 z hz
    · simp at hz
      subst hz
      rcases hb with hb | hb
      · rw [hb] at hb'; cases hb'
      · exact hb
theorem mkI_endF {os : List Ob} {o : Ob} {xs : List Ob} (h : mkI os o os.length false xs) : insO o os = xs ++ [o] := by
  obtain ⟨h1, h2⟩ := h.2 rfl
  rw [List.take_length] at h1 h2
  rw [h1, insO_all h2]
theorem mkI_endT {os : List Ob} {o : Ob} {xs : List Ob} (h : mkI os o os.length true xs) : insO o os = xs := by
  obtain ⟨h1, _⟩ := h.1 rfl
  rw [List.take_length] at h1
  exact h1.symm
def okM (x : Pg) (m : Mm) (q c : Int) : Bool := inB c 0 ((x.k.length : Int) - 1) && (inB q 1 1000000 && decide (atM m q < 0))
def makeX (x : Pg) (m : Mm) (q c : Int) : Mm := if okM x m q c = true then ⟨insO ⟨q, c, freshX x.k c⟩ m.o, m.l⟩ else m
theorem freshX_w {x : Pg} {c : Int} (h : inB c 0 ((x.k.length : Int) - 1) = true) : (freshX x.k c).length + 1 ≤ pgW x := by
  have hi := inB_yes h
  unfold freshX
  rw [if_pos h, List.length_map]
  have h1 : c.toNat < x.k.length := by omega
  have h2 : x.k.getD c.toNat default ∈ x.k := by
    rw [List.getD_eq_getElem?_getD, List.getElem?_eq_getElem h1]
    exact List.getElem_mem h1
  have h3 := tot_mem kdW h2
  have h4 : (x.k.getD c.toNat default).f.length ≤ kdW (x.k.getD c.toNat default) := by
    unfold kdW fldsW
    omega
  unfold pgW kinsW
  omega
theorem makeX_w (x : Pg) (m : Mm) (q c : Int) : mmW (makeX x m q c) ≤ mmW m + pgW x := by
  unfold makeX
  split
  · rename_i h
    unfold okM at h
    simp only [Bool.and_eq_true] at h
    have h1 := freshX_w h.1
    have e : obW ⟨q, c, freshX x.k c⟩ = (freshX x.k c).length := rfl
    unfold mmW obsW
    dsimp only
    rw [insO_len, insO_tot, e]
    omega
  · omega
theorem makeX_ok {x : Pg} {m : Mm} {q c : Int} (hk : kinsG x.k) (hg : MmG m) (hc : -9223372036854775808 ≤ c ∧ c ≤ 9223372036854775807) (hq : -9223372036854775808 ≤ q ∧ q ≤ 9223372036854775807) (hw : mmW m + pgW x ≤ 1048576) : MmG (makeX x m q c) := by
  have h0 := makeX_w x m q c
  unfold makeX at h0 ⊢
  split at h0
  · rename_i h
    rw [if_pos h]
    refine ⟨⟨?_, fun z hz => ?_⟩, hg.l⟩
    · have h2 : (insO ⟨q, c, freshX x.k c⟩ m.o).length ≤ mmW ⟨insO ⟨q, c, freshX x.k c⟩ m.o, m.l⟩ := by
        unfold mmW obsW
        dsimp only
        omega
      dsimp only
      omega
    · rcases insO_mem hz with e | hz
      · subst e
        exact ⟨hq, hc, freshX_ok hk⟩
      · exact hg.o.2 z hz
  · rename_i h
    rw [if_neg h]
    exact hg
end Go.Proofs.YtelpdlhgjepgbaaGreat
