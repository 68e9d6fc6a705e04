/-
  Consts as bytes: what is put is got; what is got is what was put.
-/
import Derived.Test.YtgegmocgbjklkaaDoorKMath
import Derived.Test.YtgegmocgbjklkaaDoorRMath
namespace Go.Proofs.YtgegmocgbjklkaaDoor
open Go.RowKit

theorem str_btsK (s : ByteArray) : strOfNums (bts s) = s := by
  unfold strOfNums bts
  apply ByteArray.ext
  simp only [List.map_map]
  have : (fun n : Int => UInt8.ofNat n.toNat) ∘ (fun b : UInt8 => (b.toNat : Int)) = id := by
    funext b
    simp
  rw [this]
  simp
theorem bts_strK (zs : List Int) (h : Byt zs) : bts (strOfNums zs) = zs := by
  unfold strOfNums bts
  simp only [List.map_map]
  induction zs with
  | nil => rfl
  | cons z zs ih =>
    have h1 := h z (by simp)
    have h2 := ih (fun y hy => h y (by simp [hy]))
    simp only [List.map_cons, List.cons.injEq, Function.comp_apply]
    refine ⟨?_, h2⟩
    simp
    omega
theorem gn_nat (zs : List Int) (k : Nat) : gn zs (k : Int) = gnF zs 4 k 0 1 := by simp [gn]
theorem pn_posK {x : Int} (h0 : 0 ≤ x) (h1 : x ≤ 16777215) : 0 < (pn x).length := by
  have h := num_put (zs := pn x) (k := 0) h0 h1 ⟨[], by simp⟩
  rcases Nat.eq_zero_or_pos (pn x).length with h' | h'
  · have e : pn x = [] := List.eq_nil_of_length_eq_zero h'
    rw [e] at h
    simp [gnF] at h
  · exact h'

theorem text_put {zs : List Int} {k : Nat} {s : ByteArray} (h : s.size ≤ 200) (hp : Pre zs k (pt s)) : gtx zs (k : Int) = some (s, k + (pt s).length) := by
  have e : pt s = pn s.size ++ bts s := pt_in s h
  have hb := bts_len s
  rw [e] at hp
  obtain ⟨h1, h2⟩ := Pre.app.1 hp
  have hpos := pn_posK (x := (s.size : Int)) (by omega) (by omega)
  have hl := h1.len hpos
  have hg := num_put (by omega) (by omega) h1
  unfold gtx
  rw [gn_nat, hg]
  have hlen : k + (pn s.size).length + s.size ≤ zs.length := by
    rcases Nat.eq_zero_or_pos (bts s).length with h0 | h0
    · omega
    · have := h2.len h0
      omega
  rw [gtOf_yes _ _ _ ⟨by omega, by simpa using hlen⟩]
  obtain ⟨r, hr⟩ := h2
  have ht : (zs.drop (k + (pn s.size).length)).take ((s.size : Int)).toNat = bts s := by
    rw [hr, Int.toNat_natCast, ← hb, List.take_left']
    rfl
  rw [ht, str_btsK, e]
  simp only [List.length_append, hb, Int.toNat_natCast, Option.some.injEq, Prod.mk.injEq, true_and]
  omega
theorem text_back {zs : List Int} (hB : Byt zs) {k nx : Nat} {s : ByteArray} (h : gtx zs (k : Int) = some (s, nx)) : Pre zs k (pt s) ∧ nx = k + (pt s).length ∧ nx ≤ zs.length := by
  have hsz := gtx_size h
  unfold gtx at h
  rw [gn_nat] at h
  cases hg : gnF zs 4 k 0 1 with
  | none => rw [hg] at h; cases h
  | some r =>
    obtain ⟨n, m⟩ := r
    obtain ⟨h0, h1, hp, hm, hml⟩ := num_back hB hg
    rw [hg] at h
    by_cases hc : n ≤ 200 ∧ m + n.toNat ≤ zs.length
    · rw [gtOf_yes zs n m hc] at h
      simp only [Option.some.injEq, Prod.mk.injEq] at h
      obtain ⟨rfl, rfl⟩ := h
      have hlen : ((zs.drop m).take n.toNat).length = n.toNat := by simp; omega
      have hby : Byt ((zs.drop m).take n.toNat) := fun z hz => hB z (List.mem_of_mem_drop (List.mem_of_mem_take hz))
      have hs : (strOfNums ((zs.drop m).take n.toNat)).size = n.toNat := by rw [strOfNums_size, hlen]
      rw [pt_in _ hsz, hs, bts_strK _ hby]
      have hn : ((n.toNat : Nat) : Int) = n := by omega
      rw [hn]
      refine ⟨Pre.app.2 ⟨hp, ?_⟩, ?_, hc.2⟩
      · rw [← hm]
        exact Pre.of_take (by rw [hlen])
      · rw [List.length_append, hlen]; omega
    · rw [gtOf_no zs n m hc] at h; cases h

theorem empty_noS {a : ByteArray} (h : a.toList.isEmpty = true) : a = noS := by
  rw [ByteArray.toList_eq] at h
  obtain ⟨⟨l⟩⟩ := a
  simp at h
  rw [h]
theorem nameB_size {s : ByteArray} (h : nameB s = true) : s.size ≤ 8 := by
  unfold nameB at h
  simp only [Bool.and_eq_true] at h
  have := inB_yes h.1
  omega

theorem const_put {zs : List Int} {p : Nat} {k n : Int} {a b : ByteArray} (hk : kOk k n a b = true) (hp : Pre zs p (kB k n a b)) : cOf zs p = some ((k, n, a, b), p + (kB k n a b).length) := by
  have e : kB k n a b = kB0 k n a b := by simp [kB, hk]
  rw [e] at hp ⊢
  have hkk := kOk_kind hk
  have hk2 := hk
  unfold kB0 at hp ⊢
  obtain ⟨h1, h2⟩ := Pre.app.1 hp
  have hg := num_put (by omega) (by omega) h1
  have hr : rK0 zs p = rKk zs k (p + (pn k).length) := by rw [rK0_eq, gn_nat, hg]; rfl
  have key : rKk zs k (p + (pn k).length) = some ((k, n, a, b), p + (pn k ++ (if k = 1 then pw n else pt a ++ (if k = 2 then [] else pt b))).length) := by
    unfold kOk at hk
    unfold rKk
    by_cases e1 : k = 1
    · subst e1
      simp only [if_true, Bool.and_eq_true] at hk h2 ⊢
      obtain ⟨⟨c1, c2⟩, c3⟩ := hk
      have hb := inB_yes c1
      rw [word_put hb.1 hb.2 h2, empty_noS c2, empty_noS c3]
      simp [Nat.add_assoc]
    · by_cases e2 : k = 2
      · subst e2
        simp only [show ¬ ((2 : Int) = 1) from by decide, if_false, if_true, Bool.and_eq_true, List.append_nil] at hk h2 ⊢
        obtain ⟨⟨c1, c2⟩, c3⟩ := hk
        have hn : n = 0 := by simpa using c1
        rw [text_put (by have := nameB_size c2; omega) h2, empty_noS c3, hn]
        simp [Nat.add_assoc]
      · have e3 : k = 3 ∨ k = 4 := by omega
        simp only [e1, e2, e3, if_false, if_true, Bool.and_eq_true] at hk h2 ⊢
        obtain ⟨⟨c1, c2⟩, c3⟩ := hk
        have hn : n = 0 := by simpa using c1
        obtain ⟨h3, h4⟩ := Pre.app.1 h2
        rw [text_put (by have := nameB_size c2; omega) h3, Option.bind_some, text_put (by have := nameB_size c3; omega) h4, hn]
        simp [Nat.add_assoc]
  exact cOf_some (hr.trans key) hk2

theorem const_back {zs : List Int} (hB : Byt zs) {i : Int} {c : Int × Int × ByteArray × ByteArray} {e : Nat} (h : cOf zs i = some (c, e)) :
    0 ≤ i ∧ cOk c = true ∧ Pre zs i.toNat (kB c.1 c.2.1 c.2.2.1 c.2.2.2) ∧ e = i.toNat + (kB c.1 c.2.1 c.2.2.1 c.2.2.2).length ∧ e ≤ zs.length := by
  unfold cOf at h
  obtain ⟨⟨c', e'⟩, h1, h⟩ := Option.bind_eq_some_iff.1 h
  simp only at h
  split at h
  · rename_i hc
    cases h
    rw [rK0_eq] at h1
    obtain ⟨⟨kd, k1⟩, hg, hx⟩ := Option.bind_eq_some_iff.1 h1
    clear h1 h
    have h1 : rKk zs kd k1 = some (c, e) := hx
    clear hx
    have h0 : 0 ≤ i := by
      unfold gn at hg
      split at hg
      · assumption
      · cases hg
    obtain ⟨p, rfl⟩ := Int.eq_ofNat_of_zero_le h0
    rw [gn_nat] at hg
    obtain ⟨n0, n1, hp, hm, hml⟩ := num_back hB hg
    have hkB : kB c.1 c.2.1 c.2.2.1 c.2.2.2 = kB0 c.1 c.2.1 c.2.2.1 c.2.2.2 := by
      unfold cOk at hc
      simp [kB, hc]
    rw [hkB]
    refine ⟨h0, hc, ?_⟩
    rw [Int.toNat_natCast]
    unfold rKk at h1
    unfold kB0
    split at h1
    · rename_i e1
      obtain ⟨⟨x, nx⟩, hw, hq⟩ := Option.map_eq_some_iff.1 h1
      cases hq
      obtain ⟨_, _, hp2, hn2, hl2⟩ := word_back hB hw
      subst e1
      simp only [if_true]
      refine ⟨Pre.app.2 ⟨hp, by rw [← hm]; exact hp2⟩, ?_, hl2⟩
      rw [List.length_append, hn2, hm]; omega
    · rename_i e1
      split at h1
      · rename_i e2
        obtain ⟨⟨x, nx⟩, hw, hq⟩ := Option.map_eq_some_iff.1 h1
        cases hq
        obtain ⟨hp2, hn2, hl2⟩ := text_back hB hw
        subst e2
        simp only [show ¬ ((2 : Int) = 1) from by decide, if_false, if_true, List.append_nil]
        refine ⟨Pre.app.2 ⟨hp, by rw [← hm]; exact hp2⟩, ?_, hl2⟩
        rw [List.length_append, hn2, hm]; omega
      · rename_i e2
        split at h1
        · rename_i e3
          obtain ⟨⟨x, nx⟩, hw, h1⟩ := Option.bind_eq_some_iff.1 h1
          obtain ⟨⟨y, ny⟩, hv, hq⟩ := Option.map_eq_some_iff.1 h1
          cases hq
          obtain ⟨hp2, hn2, hl2⟩ := text_back hB hw
          obtain ⟨hp3, hn3, hl3⟩ := text_back hB hv
          simp only [e1, e2, if_false]
          refine ⟨Pre.app.2 ⟨hp, Pre.app.2 ⟨by rw [← hm]; exact hp2, by rw [← hm, ← hn2]; exact hp3⟩⟩, ?_, hl3⟩
          rw [List.length_append, List.length_append, hn3, hn2, hm]; omega
        · rename_i e3
          cases h1
          unfold cOk at hc
          simp only [kOk, e1, e2, e3, if_false] at hc
          cases hc
  · cases h
end Go.Proofs.YtgegmocgbjklkaaDoor
