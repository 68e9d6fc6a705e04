/-
  The const that begins at a place, kind by kind.
-/
import Derived.Test.YtgegmocgbjklkaaDoorTakeC6
namespace Go.Proofs.YtgegmocgbjklkaaDoor
open Go.RowKit Go.Maps

def gtx (zs : List Int) (k : Int) : Option (ByteArray × Nat) := gtOf zs (gn zs k)
def rKk (zs : List Int) (kd : Int) (k : Nat) : Option ((Int × Int × ByteArray × ByteArray) × Nat) :=
  if kd = 1 then (gw zs k).map fun q => ((1, q.1, noS, noS), q.2)
  else if kd = 2 then (gtx zs k).map fun q => ((2, 0, q.1, noS), q.2)
  else if kd = 3 ∨ kd = 4 then (gtx zs k).bind fun q => (gtx zs q.2).map fun u => ((kd, 0, q.1, u.1), u.2)
  else some ((kd, 0, noS, noS), k)

theorem rKk_eq (zs : List Int) (kd : Int) (k : Nat) : (rP zs kd 3 0 k (.map [])).map (fun q => (ofD kd q.1, q.2)) = rKk zs kd k := by
  unfold rKk
  by_cases h1 : kd = 1
  · subst h1
    rw [if_pos rfl]
    rw [show rP zs 1 3 0 k (.map []) = (rPart zs 0 k).bind (fun r => some ((DataW.map []).put (.int .i64 0) (dPart r.1.1 r.1.2), r.2)) from rfl]
    rw [show rPart zs 0 k = (gw zs (k : Int)).map (fun r => ((r.1, noS), r.2)) from rfl]
    cases gw zs (k : Int) with
    | none => rfl
    | some r =>
      simp only [Option.map_some, Option.bind_some, Option.some.injEq, Prod.mk.injEq, and_true]
      show ((1 : Int), (dec (dPart r.1 noS)).1, (dec (dPart 0 noS)).2, (dec (dPart 0 noS)).2) = _
      simp only [dec_part]
  · rw [if_neg h1]
    by_cases h2 : kd = 2
    · subst h2
      rw [if_pos rfl]
      rw [show rP zs 2 3 0 k (.map []) = (rPart zs 1 k).bind (fun r => some ((DataW.map []).put (.int .i64 1) (dPart r.1.1 r.1.2), r.2)) from rfl]
      rw [show rPart zs 1 k = (gtx zs (k : Int)).map (fun r => ((0, r.1), r.2)) from rfl]
      cases gtx zs (k : Int) with
      | none => rfl
      | some r =>
        simp only [Option.map_some, Option.bind_some, Option.some.injEq, Prod.mk.injEq, and_true]
        show ((2 : Int), (dec (dPart 0 noS)).1, (dec (dPart 0 r.1)).2, (dec (dPart 0 noS)).2) = _
        simp only [dec_part]
    · rw [if_neg h2]
      by_cases h3 : kd = 3 ∨ kd = 4
      · rw [if_pos h3]
        have e0 : refB kd ((0 : Nat) : Int) = false := by simp [refB, h1, h2]
        have e1 : refB kd ((0 + 1 : Nat) : Int) = true := by simp [refB, h1, h2, h3]
        have e2 : refB kd ((0 + 1 + 1 : Nat) : Int) = true := by simp [refB, h1, h2, h3]
        have e : rP zs kd 3 0 k (.map []) = (rPart zs 1 k).bind (fun r => (rPart zs 2 r.2).bind (fun u => some (((DataW.map []).put (.int .i64 1) (dPart r.1.1 r.1.2)).put (.int .i64 2) (dPart u.1.1 u.1.2), u.2))) := by
          simp only [rP, e0, e1, e2, cond_true, cond_false]
          rfl
        rw [e]
        rw [show rPart zs 1 k = (gtx zs (k : Int)).map (fun r => ((0, r.1), r.2)) from rfl]
        cases gtx zs (k : Int) with
        | none => rfl
        | some r =>
          simp only [Option.map_some, Option.bind_some]
          rw [show rPart zs 2 r.2 = (gtx zs (r.2 : Int)).map (fun r => ((0, r.1), r.2)) from rfl]
          cases gtx zs (r.2 : Int) with
          | none => rfl
          | some u =>
            simp only [Option.map_some, Option.bind_some, Option.some.injEq, Prod.mk.injEq, and_true]
            show (kd, (dec (dPart 0 noS)).1, (dec (dPart 0 r.1)).2, (dec (dPart 0 u.1)).2) = _
            simp only [dec_part]
      · rw [if_neg h3]
        have er : ∀ p, refB kd p = false := fun p => by simp [refB, h1, h2, h3]
        have e : rP zs kd 3 0 k (.map []) = some (.map [], k) := by simp only [rP, er, cond_false]
        rw [e]
        show some ((kd, (dec (dPart 0 noS)).1, (dec (dPart 0 noS)).2, (dec (dPart 0 noS)).2), k) = _
        simp only [dec_part]
theorem rK0_eq (zs : List Int) (k : Int) : rK0 zs k = (gn zs k).bind fun r => rKk zs r.1 r.2 := by
  unfold rK0
  cases gn zs k with
  | none => rfl
  | some r => exact rKk_eq zs r.1 r.2

theorem gtx_size {zs : List Int} {k : Int} {s : ByteArray} {nx : Nat} (h : gtx zs k = some (s, nx)) : s.size ≤ 200 := by
  unfold gtx at h
  cases hg : gn zs k with
  | none => rw [hg] at h; cases h
  | some r =>
    obtain ⟨n, m⟩ := r
    rw [hg] at h
    by_cases hc : n ≤ 200 ∧ m + n.toNat ≤ zs.length
    · rw [gtOf_yes zs n m hc] at h
      simp only [Option.some.injEq, Prod.mk.injEq] at h
      rw [← h.1, strOfNums_size]
      simp
      omega
    · rw [gtOf_no zs n m hc] at h; cases h
theorem rKk_size {zs : List Int} {kd : Int} {k : Nat} {c : Int × Int × ByteArray × ByteArray} {e : Nat} (h : rKk zs kd k = some (c, e)) : c.2.2.1.size ≤ 200 ∧ c.2.2.2.size ≤ 200 := by
  have h0 : noS.size ≤ 200 := by simp [ByteArray.size]
  unfold rKk at h
  split at h
  · obtain ⟨q, _, hq⟩ := Option.map_eq_some_iff.1 h
    cases hq
    exact ⟨h0, h0⟩
  · split at h
    · obtain ⟨q, hg, hq⟩ := Option.map_eq_some_iff.1 h
      cases hq
      exact ⟨gtx_size hg, h0⟩
    · split at h
      · obtain ⟨q, hg, h⟩ := Option.bind_eq_some_iff.1 h
        obtain ⟨u, hu, hq⟩ := Option.map_eq_some_iff.1 h
        cases hq
        exact ⟨gtx_size hg, gtx_size hu⟩
      · cases h
        exact ⟨h0, h0⟩
theorem rK0_size {zs : List Int} {k : Int} {c : Int × Int × ByteArray × ByteArray} {e : Nat} (h : rK0 zs k = some (c, e)) : c.2.2.1.size ≤ maxLen ∧ c.2.2.2.size ≤ maxLen := by
  rw [rK0_eq] at h
  obtain ⟨r, _, h⟩ := Option.bind_eq_some_iff.1 h
  have := rKk_size h
  unfold maxLen
  omega

def cOk (c : Int × Int × ByteArray × ByteArray) : Bool := kOk c.1 c.2.1 c.2.2.1 c.2.2.2
/-- What ConstOf answers. -/
def cOf (zs : List Int) (k : Int) : Option ((Int × Int × ByteArray × ByteArray) × Nat) := (rK0 zs k).bind fun q => if cOk q.1 = true then some q else none
theorem cOf_none {zs : List Int} {k : Int} (h : rK0 zs k = none) : cOf zs k = none := by unfold cOf; rw [h]; rfl
theorem cOf_bad {zs : List Int} {k : Int} {c : Int × Int × ByteArray × ByteArray} {e : Nat} (h : rK0 zs k = some (c, e)) (hc : cOk c = false) : cOf zs k = none := by unfold cOf; rw [h]; simp [hc]
theorem cOf_some {zs : List Int} {k : Int} {c : Int × Int × ByteArray × ByteArray} {e : Nat} (h : rK0 zs k = some (c, e)) (hc : cOk c = true) : cOf zs k = some (c, e) := by unfold cOf; rw [h]; simp [hc]
end Go.Proofs.YtgegmocgbjklkaaDoor
