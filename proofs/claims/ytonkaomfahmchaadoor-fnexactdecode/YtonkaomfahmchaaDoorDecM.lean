/-
  What bytes are, as places.
-/
import Derived.Test.YtonkaomfahmchaaDoorInsM
namespace Go.Proofs.YtonkaomfahmchaaDoor
open Go.RowKit

def low8 (o : Int) : Int := if o = 1 then -128 else 0
/-- The place that begins at byte k, and the byte behind it. -/
def rIns (zs : List Int) (k : Nat) : Option (Isn × Nat) :=
  if k < zs.length then
    if hasB (zs.getD k 0) then
      if k + 1 < zs.length then some (⟨zs.getD k 0, low8 (zs.getD k 0) + zs.getD (k + 1) 0⟩, k + 2) else none
    else some (⟨zs.getD k 0, 0⟩, k + 1)
  else none
def rAll (zs : List Int) : Nat → Nat → Option (List Isn)
  | 0, _ => some []
  | f + 1, k => if k < zs.length then (rIns zs k).bind fun p => (rAll zs f p.2).map (p.1 :: ·) else some []
def rA (zs : List Int) (k : Nat) : Option (List Isn) := rAll zs zs.length k
theorem rIns_adv {zs : List Int} {k : Nat} {p : Isn × Nat} (h : rIns zs k = some p) : k + 1 ≤ p.2 ∧ p.2 ≤ zs.length := by
  unfold rIns at h
  split at h
  · split at h
    · split at h
      · cases h; simp only; omega
      · cases h
    · cases h; simp only; omega
  · cases h
theorem rAll_sat (zs : List Int) : ∀ (f g k : Nat), zs.length ≤ k + f → zs.length ≤ k + g → rAll zs f k = rAll zs g k
  | 0, 0, k, _, _ => rfl
  | 0, g + 1, k, h, _ => by
    rw [rAll, rAll, if_neg (by omega)]
  | f + 1, 0, k, _, h => by
    rw [rAll, rAll, if_neg (by omega)]
  | f + 1, g + 1, k, h1, h2 => by
    rw [rAll, rAll]
    by_cases hk : k < zs.length
    · rw [if_pos hk, if_pos hk]
      cases hr : rIns zs k with
      | none => rfl
      | some p =>
        have := rIns_adv hr
        simp only [Option.bind_some]
        rw [rAll_sat zs f g p.2 (by omega) (by omega)]
    · rw [if_neg hk, if_neg hk]
theorem rA_step {zs : List Int} {k : Nat} (hk : k < zs.length) : rA zs k = (rIns zs k).bind fun p => (rA zs p.2).map (p.1 :: ·) := by
  unfold rA
  obtain ⟨m, hm⟩ : ∃ m, zs.length = m + 1 := ⟨zs.length - 1, by omega⟩
  rw [hm, rAll, if_pos hk]
  cases hr : rIns zs k with
  | none => rfl
  | some p =>
    have := rIns_adv hr
    simp only [Option.bind_some]
    rw [rAll_sat zs m (m + 1) p.2 (by omega) (by omega)]
theorem rA_end {zs : List Int} {k : Nat} (hk : ¬ k < zs.length) : rA zs k = some [] := by
  unfold rA
  cases zs.length with
  | zero => rfl
  | succ m => rw [rAll]; rw [if_neg hk]
/-- The bytes that a place was read from. -/
def rawB (y : Isn) : List Int := if hasB y.o then [y.o, y.n - low8 y.o] else [y.o]
def RawOk (y : Isn) : Prop := (0 ≤ y.o ∧ y.o ≤ 255) ∧ (0 ≤ y.n - low8 y.o ∧ y.n - low8 y.o ≤ 255 ∨ y.n = 0)
theorem rIns_raw {zs : List Int} (hB : Byt zs) {k : Nat} {p : Isn × Nat} (h : rIns zs k = some p) : zs.drop k = rawB p.1 ++ zs.drop p.2 ∧ RawOk p.1 := by
  have hb : ∀ j, j < zs.length → 0 ≤ zs.getD j 0 ∧ zs.getD j 0 ≤ 255 := fun j hj => hB.at j hj
  have hd : ∀ j, j < zs.length → zs.drop j = zs.getD j 0 :: zs.drop (j + 1) := fun j hj => by
    rw [List.drop_eq_getElem_cons hj]; simp [hj]
  unfold rIns at h
  split at h
  · rename_i hk
    split at h
    · rename_i hh
      split at h
      · rename_i hk2
        cases h
        unfold rawB RawOk
        simp only [hh, if_true]
        have h1 := hb k hk
        have h2 := hb (k + 1) hk2
        refine ⟨?_, h1, .inl (by omega)⟩
        rw [hd k hk, hd (k + 1) hk2]
        simp only [List.cons_append, List.nil_append]
        congr 2
        omega
      · cases h
    · rename_i hh
      cases h
      unfold rawB RawOk
      simp only [hh]
      exact ⟨by rw [hd k hk]; rfl, hb k hk, by first | exact .inr rfl | exact .inr trivial⟩
  · cases h
theorem rA_raw {zs : List Int} (hB : Byt zs) : ∀ (n k : Nat) (ys : List Isn), zs.length ≤ k + n → rA zs k = some ys → ys.flatMap rawB = zs.drop k ∧ ∀ y ∈ ys, RawOk y
  | n, k, ys, hn, h => by
    by_cases hk : k < zs.length
    · rw [rA_step hk] at h
      obtain ⟨p, h1, h2⟩ := Option.bind_eq_some_iff.1 h
      obtain ⟨r, h3, rfl⟩ := Option.map_eq_some_iff.1 h2
      have ha := rIns_adv h1
      obtain ⟨n, rfl⟩ : ∃ m, n = m + 1 := ⟨n - 1, by omega⟩
      obtain ⟨i1, i2⟩ := rA_raw hB n p.2 r (by omega) h3
      obtain ⟨j1, j2⟩ := rIns_raw hB h1
      refine ⟨by rw [List.flatMap_cons, i1, j1], fun y hy => ?_⟩
      rcases List.mem_cons.1 hy with rfl | hy
      · exact j2
      · exact i2 y hy
    · rw [rA_end hk] at h
      cases h
      rw [List.drop_eq_nil_of_le (by omega)]
      exact ⟨rfl, fun y hy => by cases hy⟩
theorem rawB_len (y : Isn) : (rawB y).length = inW y := by unfold rawB inW; split <;> rfl
theorem raw_tot : ∀ (ys : List Isn), (ys.flatMap rawB).length = tot inW ys
  | [] => rfl
  | y :: ys => by
    have := raw_tot ys
    rw [List.flatMap_cons, List.length_append, rawB_len, this]
    simp [tot]
theorem rA_len {zs : List Int} (hB : Byt zs) {ys : List Isn} (h : rA zs 0 = some ys) : ys.length ≤ zs.length := by
  have h1 := (rA_raw hB zs.length 0 ys (by omega) h).1
  have h2 := raw_tot ys
  rw [h1, List.drop_zero] at h2
  have := (tot_inW ys).1
  omega
/-- Which place begins at byte z. -/
def fixN (st : List Int) (miss z : Int) : Int := match st.findIdx? (· == z) with | some q => (q : Int) | none => miss
theorem fixN_hit {st : List Int} {miss z : Int} {q : Nat} (hq : q < st.length) (h : st.getD q default = z) (hn : ∀ i, i < q → ¬ st.getD i default = z) : fixN st miss z = (q : Int) := by
  have : st.findIdx? (· == z) = some q := by
    rw [List.findIdx?_eq_some_iff_getElem]
    refine ⟨hq, by simpa [hq] using h, fun j hj => ?_⟩
    have := hn j hj
    simpa [show j < st.length from by omega] using this
  unfold fixN; rw [this]
theorem fixN_miss {st : List Int} {miss z : Int} (hn : ∀ i, i < st.length → ¬ st.getD i default = z) : fixN st miss z = miss := by
  have : st.findIdx? (· == z) = none := by
    rw [List.findIdx?_eq_none_iff]
    intro x hx
    obtain ⟨j, hj, rfl⟩ := List.mem_iff_getElem.1 hx
    have := hn j hj
    simpa [hj] using this
  unfold fixN; rw [this]
def isJ (o : Int) : Bool := o == 13 || o == 14
def fixA (ys : List Isn) (miss : Int) (y : Isn) : Isn := if isJ y.o then ⟨y.o, fixN (stL ys ys.length) miss y.n⟩ else y
theorem fixA_o (ys : List Isn) (miss : Int) (y : Isn) : (fixA ys miss y).o = y.o := by unfold fixA; split <;> rfl
theorem tot_map {f : Isn → Isn} (hf : ∀ y, (f y).o = y.o) : ∀ (ys : List Isn), tot inW (ys.map f) = tot inW ys
  | [] => rfl
  | y :: ys => by
    have := tot_map hf ys
    have h1 : inW (f y) = inW y := by unfold inW; rw [hf]
    simp only [tot, List.map_cons, List.sum_cons] at *
    rw [this, h1]
theorem stA_fix (ys : List Isn) (miss : Int) (j : Nat) : stA (ys.map (fixA ys miss)) j = stA ys j := by
  unfold stA
  rw [← List.map_take]
  exact tot_map (fixA_o ys miss) _
def decX (zs : List Int) (miss : List Isn → Int) : Option (List Isn) := if zs.length ≤ 90 then (rA zs 0).bind fun ys => if codeB (ys.map (fixA ys (miss ys))) then some (ys.map (fixA ys (miss ys))) else none else none
/-- What Decode tells. -/
def decOf (zs : List Int) : Option (List Isn) := decX zs (fun _ => -1)
theorem codeB_mem {xs : List Isn} {x : Isn} (hx : x ∈ xs) (h : insB x xs.length = false) : codeB xs = false := by
  obtain ⟨j, hj, rfl⟩ := List.mem_iff_getElem.1 hx
  exact codeB_3 (j := j) hj (by simpa [hj] using h)
theorem insB_j {x : Isn} {n : Nat} (hj : isJ x.o = true) : insB x n = inB x.n 0 ((n : Int) - 1) := by
  have : x.o = 13 ∨ x.o = 14 := by unfold isJ at hj; simpa using hj
  unfold insB
  rw [if_neg (by omega), if_neg (by omega), if_neg (by omega), if_pos this]
/-- Where a byte is no place's beginning, it is no code, whatever stands for it. -/
theorem fix_two (ys : List Isn) (m1 m2 : Int) (h1 : m1 < 0 ∨ (ys.length : Int) - 1 < m1) (h2 : m2 < 0 ∨ (ys.length : Int) - 1 < m2) :
    codeB (ys.map (fixA ys m1)) = codeB (ys.map (fixA ys m2)) ∧ (codeB (ys.map (fixA ys m1)) = true → ys.map (fixA ys m1) = ys.map (fixA ys m2) ∧ ∀ y ∈ ys, isJ y.o = true → ∃ q : Nat, q < ys.length ∧ (stL ys ys.length).getD q default = y.n ∧ fixA ys m1 y = ⟨y.o, (q : Int)⟩) := by
  by_cases hall : ∀ y ∈ ys, isJ y.o = true → ∃ q : Nat, (stL ys ys.length).findIdx? (· == y.n) = some q
  · have e : ys.map (fixA ys m1) = ys.map (fixA ys m2) := List.map_congr_left (fun y hy => by
      unfold fixA
      split
      · rename_i hj
        obtain ⟨q, hq⟩ := hall y hy hj
        unfold fixN
        rw [hq]
      · rfl)
    refine ⟨by rw [e], fun _ => ⟨e, fun y hy hj => ?_⟩⟩
    obtain ⟨q, hq⟩ := hall y hy hj
    have h3 := List.findIdx?_eq_some_iff_getElem.1 hq
    obtain ⟨hl, hz, _⟩ := h3
    have hl' : q < ys.length := by rw [stL_len] at hl; exact hl
    refine ⟨q, hl', by simpa [hl] using hz, ?_⟩
    unfold fixA fixN
    rw [if_pos hj, hq]
  · have hn : ∃ y ∈ ys, isJ y.o = true ∧ (stL ys ys.length).findIdx? (· == y.n) = none := by
      apply Classical.byContradiction
      intro hc
      apply hall
      intro y hy hj
      cases hf : (stL ys ys.length).findIdx? (· == y.n) with
      | some q => exact ⟨q, rfl⟩
      | none => exact absurd ⟨y, hy, hj, hf⟩ hc
    obtain ⟨y, hy, hj, hf⟩ := hn
    have key : ∀ m : Int, (m < 0 ∨ (ys.length : Int) - 1 < m) → codeB (ys.map (fixA ys m)) = false := fun m hm => by
      refine codeB_mem (x := fixA ys m y) (List.mem_map.2 ⟨y, hy, rfl⟩) ?_
      rw [insB_j (by rw [fixA_o]; exact hj), List.length_map]
      have : (fixA ys m y).n = m := by unfold fixA fixN; rw [if_pos hj, hf]
      rw [this]
      exact inB_not (by omega)
    rw [key m1 h1, key m2 h2]
    exact ⟨rfl, fun h => by cases h⟩
theorem decX_eq (zs : List Int) : decX zs (fun ys => (ys.length : Int)) = decOf zs := by
  unfold decOf decX
  split
  · congr 1
    funext ys
    obtain ⟨e1, e2⟩ := fix_two ys (ys.length : Int) (-1) (by omega) (by omega)
    cases c : codeB (ys.map (fixA ys (ys.length : Int))) with
    | true =>
      rw [← e1, c, if_pos rfl, if_pos rfl, (e2 c).1]
    | false =>
      rw [← e1, c]
      rfl
  · rfl
theorem flat_congr {α β : Type} {f g : α → List β} : ∀ {ys : List α}, (∀ y ∈ ys, f y = g y) → ys.flatMap f = ys.flatMap g
  | [], _ => rfl
  | y :: ys, h => by rw [List.flatMap_cons, List.flatMap_cons, h y (by simp), flat_congr (fun z hz => h z (by simp [hz]))]
/-- What was read and is code is read of its own bytes. -/
theorem dec_enc {zs : List Int} (hB : Byt zs) {ys : List Isn} (h : rA zs 0 = some ys) (m : Int) (hm : m < 0 ∨ (ys.length : Int) - 1 < m) (hc : codeB (ys.map (fixA ys m)) = true) : encL (ys.map (fixA ys m)) = zs := by
  have h1 := (rA_raw hB zs.length 0 ys (by omega) h).1
  rw [List.drop_zero] at h1
  obtain ⟨_, e2⟩ := fix_two ys m m hm hm
  have e3 := (e2 hc).2
  unfold encL
  rw [List.flatMap_map]
  refine Eq.trans ?_ h1
  have : ∀ y ∈ ys, encX (ys.map (fixA ys m)) (fixA ys m y) = rawB y := fun y hy => by
    cases hj : isJ y.o with
    | true =>
      obtain ⟨q, hq, hz, hf⟩ := e3 y hy hj
      have hj' : y.o = 13 ∨ y.o = 14 := by unfold isJ at hj; simpa using hj
      rw [encX_2 (by rw [fixA_o]; exact hj'), hf]
      simp only [Int.toNat_natCast]
      rw [stA_fix, ← stL_get ys ys.length q hq, hz]
      have hh : hasB y.o = true := hasB_t (by omega)
      have hl : low8 y.o = 0 := by unfold low8; rw [if_neg (by omega)]
      unfold rawB
      rw [hh, hl]
      simp
    | false =>
      have hf : fixA ys m y = y := by unfold fixA; rw [hj]; rfl
      have hj' : ¬ (y.o = 13 ∨ y.o = 14) := by unfold isJ at hj; simpa using hj
      rw [hf]
      by_cases k1 : y.o = 1
      · rw [encX_1 k1]
        have hh : hasB y.o = true := hasB_t (by omega)
        have hl : low8 y.o = -128 := by unfold low8; rw [if_pos k1]
        unfold rawB
        rw [hh, hl]
        simp
      · cases kh : hasB y.o with
        | true =>
          rw [encX_3 k1 hj' kh]
          have hl : low8 y.o = 0 := by unfold low8; rw [if_neg k1]
          unfold rawB
          rw [kh, hl]
          simp
        | false =>
          rw [encX_4 kh]
          unfold rawB
          rw [kh]; rfl
  clear e2 e3 h1 hc h
  exact flat_congr this
end Go.Proofs.YtonkaomfahmchaaDoor
