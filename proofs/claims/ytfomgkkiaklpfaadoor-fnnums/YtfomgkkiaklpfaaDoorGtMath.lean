/-
  Texts as bytes: what is put is got; what is got is what was put.
-/
import Derived.Test.YtfomgkkiaklpfaaDoorGnMath
import Derived.Test.YtfomgkkiaklpfaaDoorTakeText
import Derived.Test.YtfomgkkiaklpfaaDoorPutTextW
import Derived.Test.YtfomgkkiaklpfaaDoorDrawOneF
namespace Go.Proofs.YtfomgkkiaklpfaaDoor
open Go.RowKit

theorem str_bts (s : ByteArray) : strOfNums (bts s) = s := by
  unfold strOfNums bts
  apply ByteArray.ext
  simp only [List.map_map]
  have : (fun n : Int => UInt8.ofNat n.toNat) ∘ (fun b : UInt8 => (b.toNat : Int)) = id := by
    funext b
    simp
  rw [this]
  simp
theorem bts_str (zs : List Int) (h : Byt zs) : bts (strOfNums zs) = zs := by
  unfold strOfNums bts
  simp only [List.map_map]
  induction zs with
  | nil => rfl
  | cons z zs ih =>
    have h1 := h z (by simp)
    have h2 := ih (fun y hy => h y (by simp [hy]))
    simp only [List.map_cons, List.cons.injEq, Function.comp_apply]
    refine ⟨?_, h2⟩
    simp
    omega
theorem size_str (zs : List Int) : (strOfNums zs).size = zs.length := strOfNums_size zs

/-- What is put is got. -/
theorem gt_pt (s : ByteArray) (h : s.size ≤ 200) : gtOf (pt s) (gn (pt s) 0) = some (s, (pt s).length) := by
  have hb := bts_len s
  have e : pt s = pn s.size ++ bts s := pt_in s h
  have hg := gn_pn (pt s) 0 (s.size : Int) (by omega) (by omega) (by rw [e]; simp) (fun i hi => by
    rw [e, Nat.zero_add]
    simp [List.getElem?_append_left, hi])
  rw [show ((0 : Nat) : Int) = 0 from rfl] at hg
  rw [hg, gtOf_yes _ _ _ ⟨by omega, by rw [e]; simp; omega⟩]
  have hd : (pt s).drop (0 + (pn s.size).length) = bts s := by rw [e, Nat.zero_add]; simp
  rw [hd, Int.toNat_natCast, ← hb, List.take_length, str_bts]
  simp only [Option.some.injEq, Prod.mk.injEq, true_and]
  rw [e]; simp [hb]

/-- What is got was put. -/
theorem gt_back (zs : List Int) (hB : Byt zs) (k : Int) (v : ByteArray) (q : Nat) (h : gtOf zs (gn zs k) = some (v, q)) : 0 ≤ k ∧ k.toNat ≤ q ∧ q ≤ zs.length ∧ pt v = (zs.drop k.toNat).take (q - k.toNat) ∧ v.size ≤ 200 := by
  cases hg : gn zs k with
  | none => rw [hg] at h; cases h
  | some r =>
    obtain ⟨n, nx⟩ := r
    obtain ⟨h0, hn0, _, ht, hnx, hl⟩ := gn_back zs hB k n nx hg
    rw [hg] at h
    by_cases hc : n ≤ 200 ∧ nx + n.toNat ≤ zs.length
    · rw [gtOf_yes zs n nx hc] at h
      simp only [Option.some.injEq, Prod.mk.injEq] at h
      obtain ⟨rfl, rfl⟩ := h
      have hlen : ((zs.drop nx).take n.toNat).length = n.toNat := by simp; omega
      have hBt : Byt ((zs.drop nx).take n.toNat) := fun z hz => hB z (List.mem_of_mem_drop (List.mem_of_mem_take hz))
      refine ⟨h0, by omega, by omega, ?_, by rw [size_str, hlen]; omega⟩
      rw [pt_in _ (by rw [size_str, hlen]; omega), size_str, hlen, bts_str _ hBt, show ((n.toNat : Nat) : Int) = n from by omega, ← ht]
      have e1 : nx + n.toNat - k.toNat = (nx - k.toNat) + n.toNat := by omega
      rw [e1, List.take_add, List.drop_drop, show k.toNat + (nx - k.toNat) = nx from by omega]
    · rw [gtOf_no zs n nx hc] at h; cases h
end Go.Proofs.YtfomgkkiaklpfaaDoor
