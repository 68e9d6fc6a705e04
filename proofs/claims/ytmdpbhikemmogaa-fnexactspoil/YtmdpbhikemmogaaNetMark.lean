/-
  What markNet, markPacket, heldNet and heldPacket do with packets of one's own.
-/
import Derived.Test.YtmdpbhikemmogaaNetEq
namespace Go.Proofs.Ytmdpbhikemmogaa
open Go.RowKit

theorem getD_mem {α : Type} [Inhabited α] (l : List α) (j : Nat) (h : j < l.length) : l.getD j default ∈ l := by
  rw [List.getD_eq_getElem?_getD, List.getElem?_eq_getElem h]
  exact List.getElem_mem _

/-- A packet marked from k on. -/
def markP (k : Nat) (p : Pk) : Pk := ⟨(k : Int), ((k + 1 : Nat) : Int), marks (k + 2) p.b.length, ((k + 2 + p.b.length : Nat) : Int) % 3 == 0⟩
/-- Packets marked from k on. -/
def marksP (k : Nat) (ps : List Pk) : List Pk := (List.range ps.length).map fun i => markP (k + 3 * i + upto ps i) (ps.getD i default)
/-- Where the marks end. -/
def endP (k : Nat) (ps : List Pk) : Nat := k + 3 * ps.length + upto ps ps.length

theorem marksP_len (k : Nat) (ps : List Pk) : (marksP k ps).length = ps.length := by simp [marksP]
theorem marksP_get (k : Nat) (ps : List Pk) (j : Nat) (h : j < ps.length) : (marksP k ps).getD j default = markP (k + 3 * j + upto ps j) (ps.getD j default) := by simp [marksP, h]
theorem byt_marks (k n : Nat) : Byt (marks k n) := by
  intro z hz
  obtain ⟨i, _, rfl⟩ := List.mem_map.1 hz
  omega
theorem marksP_good {k : Nat} {ps : List Pk} (h : Good ps) : Good (marksP k ps) := by
  intro p hp
  obtain ⟨i, hi, rfl⟩ := List.mem_map.1 hp
  have hi' : i < ps.length := List.mem_range.1 hi
  refine ⟨?_, byt_marks _ _⟩
  have : (markP (k + 3 * i + upto ps i) (ps.getD i default)).b.length = (ps.getD i default).b.length := by simp [markP, marks_len]
  rw [this]
  exact (h _ (by have : ps.getD i default = ps[i] := by simp [hi']
                 rw [this]; exact List.getElem_mem _)).1
theorem upto_le (ps : List Pk) : ∀ j, j ≤ ps.length → upto ps j ≤ tot ps
  | 0, _ => by simp [upto]
  | j + 1, h => by
    have h1 : upto ps (j + 1) ≤ upto ps ps.length := by
      unfold upto
      rw [List.take_length]
      have e := congrArg (List.foldr (fun (p : Pk) n => p.b.length + n) 0) (List.take_append_drop (j + 1) ps)
      rw [List.foldr_append] at e
      have e2 := fold_add (List.take (j + 1) ps) (List.foldr (fun p n => p.b.length + n) 0 (List.drop (j + 1) ps))
      omega
    have := upto_all ps
    omega

def mk1 (k : Nat) (xs : List (Pk × Value)) (i : Nat) : Pk × Value := (markP (k + 3 * i + upto (xs.map Prod.fst) i) (xs.getD i default).1, (xs.getD i default).2)
def mixX (k : Nat) (xs : List (Pk × Value)) (j : Nat) : List (Pk × Value) := (List.range xs.length).map fun i => if i < j then mk1 k xs i else xs.getD i default
theorem mixX_len (k : Nat) (xs : List (Pk × Value)) (j : Nat) : (mixX k xs j).length = xs.length := by simp [mixX]
theorem mixX_zero (k : Nat) (xs : List (Pk × Value)) : mixX k xs 0 = xs := by
  refine List.ext_getElem (mixX_len _ _ _) fun i h1 h2 => ?_
  simp [mixX, h2]
theorem mixX_step (k : Nat) (xs : List (Pk × Value)) (j : Nat) : (mixX k xs j).set j (mk1 k xs j) = mixX k xs (j + 1) := by
  refine List.ext_getElem (by simp [mixX]) fun i h1 h2 => ?_
  rw [List.getElem_set]
  have h3 : i < xs.length := by simpa [mixX] using h2
  simp only [mixX, List.getElem_map, List.getElem_range]
  by_cases e : j = i
  · subst e; simp
  · rw [if_neg e]
    by_cases hlt : i < j
    · rw [if_pos hlt, if_pos (by omega)]
    · rw [if_neg hlt, if_neg (by omega)]
theorem mixX_get (k : Nat) (xs : List (Pk × Value)) (j : Nat) (hj : j < xs.length) : (mixX k xs j)[j]? = some (xs.getD j default) := by
  rw [List.getElem?_eq_getElem (by rw [mixX_len]; exact hj)]
  simp [mixX]
theorem mixX_fst (k : Nat) (xs : List (Pk × Value)) : (mixX k xs xs.length).map Prod.fst = marksP k (xs.map Prod.fst) := by
  refine List.ext_getElem (by simp [mixX, marksP]) fun i h1 h2 => ?_
  have h3 : i < xs.length := by simpa [mixX] using h1
  simp [mixX, marksP, mk1, h3]

/-- A cell of packet j of a row of one's own stored: its place and its bytes stay. -/
theorem OwnX.cell {w : World} {b hi g n c : Nat} {xs : List (Pk × Value)} (h : OwnX w b hi (.slice (some ⟨g, 0, none⟩) n c) xs) (hn : xs.length = n) (j r : Nat) (hr : r < 4) (hj : j < n) (val : Value) (x y : Pk × Value) (hx : xs[j]? = some x)
    (hy : (pkC x).set r val = pkC y) (h2 : y.2 = x.2) (hb : y.1.b = x.1.b) :
    (∃ z, w.cell? ⟨g, j * 4 + r, none⟩ = some z) ∧ w.frozen? ⟨g, j * 4 + r, none⟩ = false ∧ OwnX (w.setCell ⟨g, j * 4 + r, none⟩ val) b hi (.slice (some ⟨g, 0, none⟩) n c) (xs.set j y) ∧ w.grownBy (w.setCell ⟨g, j * 4 + r, none⟩ val) (some g) := by
  subst hn
  obtain ⟨h0, ho, hs, hv, hxx⟩ := h
  have hl : (xs.flatMap pkC).length = xs.length * 4 := flat_len pkC 4 pkC_len xs
  have h1 := World.ownsRow.stored h0 (j * 4 + r) val
  have hm : (xs.set j y).map Prod.snd = xs.map Prod.snd := by
    rw [List.map_set, h2]
    refine List.ext_getElem (by simp) fun i h1 h3 => ?_
    rw [List.getElem_set]
    split
    · rename_i e; subst e
      have := List.getElem?_eq_some_iff.1 hx
      obtain ⟨hi', rfl⟩ := this
      simp
    · rfl
  refine ⟨?_, World.ownsRow.frozenAt h0 _, ?_, h1.2⟩
  · rw [World.ownsRow.cellAt h0 _ (by omega)]; exact ⟨_, List.getElem?_eq_getElem (by omega)⟩
  · have hfin := h1.1
    rw [flat_set pkC 4 pkC_len xs j r val y hr hj (fun z hz => by rw [hx] at hz; cases hz; exact hy)] at hfin
    refine OwnX.turn (w := w) (by rw [List.length_set]; exact hfin) h1.2 (fun z hz => ?_) (by rw [hm]; exact hs) hv (by rw [hm]; exact hxx)
    rcases List.mem_or_eq_of_mem_set hz with hz | rfl
    · exact ho z hz
    · rw [h2, hb]
      exact ho x (List.mem_of_getElem? hx)

/-- The bytes of packet j turned, in their place. -/
theorem OwnX.bytes {w w' : World} {b hi : Nat} {v : Value} {xs : List (Pk × Value)} (h : OwnX w b hi v xs) (j : Nat) (x : Pk × Value) (hx : xs[j]? = some x) (zs : List Int) (ho : Own w' b x.2 zs) (hg : w.grownBy w' x.2.ownBlock) :
    OwnX w' b hi v (xs.set j (⟨x.1.f, x.1.t, zs, x.1.s⟩, x.2)) := by
  obtain ⟨h0, h1, hs, hv, hxx⟩ := h
  have hj := (List.getElem?_eq_some_iff.1 hx).1
  have hxe := (List.getElem?_eq_some_iff.1 hx).2
  have hmem : x ∈ xs := List.mem_of_getElem? hx
  have hm : (xs.set j (⟨x.1.f, x.1.t, zs, x.1.s⟩, x.2)).map Prod.snd = xs.map Prod.snd := by
    rw [List.map_set]
    refine List.ext_getElem (by simp) fun i h1 h3 => ?_
    rw [List.getElem_set]
    split
    · rename_i e; subst e; simp [hxe]
    · rfl
  have hf : (xs.set j (⟨x.1.f, x.1.t, zs, x.1.s⟩, x.2)).flatMap pkC = xs.flatMap pkC := by
    have hmm : (xs.set j (⟨x.1.f, x.1.t, zs, x.1.s⟩, x.2)).map pkC = xs.map pkC := by
      rw [List.map_set]
      refine List.ext_getElem (by simp) fun i h1 h3 => ?_
      rw [List.getElem_set]
      split
      · rename_i e; subst e; rw [List.getElem_map, hxe]; rfl
      · rfl
    rw [List.flatMap_def, List.flatMap_def, hmm]
  refine ⟨?_, fun y hy => ?_, by rw [hm]; exact hs, hv, by rw [hm]; exact hxx⟩
  · rw [List.length_set, hf]
    refine World.ownsRow.kept h0 hg ?_
    cases hq : v.ownBlock with
    | none => exact .inl rfl
    | some q => exact .inr (fun e => hs.1 x.2 (List.mem_map_of_mem hmem) q e.symm hq)
  · obtain ⟨i, hi2, rfl⟩ := List.mem_iff_getElem.1 hy
    rw [List.length_set] at hi2
    rw [List.getElem_set]
    split
    · exact ho
    · rename_i hne
      refine ownKept (h1 _ (List.getElem_mem hi2)) hg (fun q hq e => ?_)
      have hp := List.pairwise_iff_getElem.1 hs.2
      rcases Nat.lt_or_gt_of_ne hne with hlt | hlt
      · have := hp j i (by simpa using hj) (by simpa using hi2) hlt q (by rw [List.getElem_map, hxe]; exact e)
        rw [List.getElem_map] at this
        exact this hq
      · have := hp i j (by simpa using hi2) (by simpa using hj) hlt q (by rw [List.getElem_map]; exact hq)
        rw [List.getElem_map, hxe] at this
        exact this e

theorem markB2 (w : World) (b K : Nat) (v : Value) (zs : List Int) (h : Own w b v zs) (hk : K + 2 + zs.length ≤ 1000000000) :
    Calls Try.prog 66 #[v, .int .i64 ((K : Int) + 1 + 1)] w fun e w' => e = .returned (.int .i64 ((K : Int) + 1 + 1 + (zs.length : Int))) ∧ Own w' b v (marks (K + 2) zs.length) ∧ w.grownBy w' v.ownBlock := by
  have := markB w b (K + 2) v zs h hk
  rw [show ((K + 2 : Nat) : Int) = (K : Int) + 1 + 1 from by omega, show ((K + 2 + zs.length : Nat) : Int) = (K : Int) + 1 + 1 + (zs.length : Int) from by omega] at this
  exact this
theorem heldB2 (w : World) (b K n : Nat) (v : Value) (h : Own w b v (marks (K + 2) n)) (hk : K + 2 + n ≤ 1000000000) :
    Calls Try.prog 68 #[v, .int .i64 ((K : Int) + 1 + 1)] w fun e w' => e = .returned (.int .i64 ((K : Int) + 1 + 1 + (n : Int))) ∧ w' = w := by
  have := heldB w b (K + 2) n v h hk
  rw [show ((K + 2 : Nat) : Int) = (K : Int) + 1 + 1 from by omega, show ((K + 2 + n : Nat) : Int) = (K : Int) + 1 + 1 + (n : Int) from by omega] at this
  exact this

set_option maxRecDepth 100000 in
set_option maxHeartbeats 4000000 in
theorem markPks (w : World) (b hi k : Nat) (v : Value) (ps : List Pk) (h : OwnP w b hi v ps) (hk : k + 3 * tot ps ≤ 100000000) :
    Calls Try.prog 65 #[v, .int .i64 (k : Int)] w fun e w' => e = .returned (.int .i64 ((endP k ps : Nat) : Int)) ∧ OwnP w' b hi v (marksP k ps) ∧ Out b hi w w' := by
  obtain ⟨xs, rfl, hx⟩ := h
  have htl := tot_len (xs.map Prod.fst)
  rw [List.length_map] at htl
  by_cases h0 : xs.length = 0
  · have hnil := List.eq_nil_of_length_eq_zero h0
    subst hnil
    have HO := hide hx
    obtain ⟨a, c, rfl⟩ : ∃ a c, v = .slice a 0 c := by
      rcases hx.1.2 with ⟨rfl, _⟩ | ⟨g, c, _, rfl, _⟩
      · exact ⟨_, _, rfl⟩
      · exact ⟨_, _, rfl⟩
    clear hx
    have hk2 : k ≤ 100000000 := by omega
    go_enter Try.func65, Try.ntmps65
    go_wp2
    go_loopw [1, 5] (fun q i wr => q = .int .i64 (k : Int) ∧ i = .int .i64 0 ∧ wr = w) (fun _ _ _ => 0)
    case atStart => exact ⟨rfl, rfl, rfl⟩
    case round =>
      obtain ⟨rfl, rfl, rfl⟩ := hrel
      go_wp2
      go_ret
      exact ⟨ret_int (by simp [endP, upto]), ⟨[], rfl, HO.out⟩, Out.refl _ _ _⟩
  · obtain ⟨g, c, rfl⟩ : ∃ g c, v = .slice (some ⟨g, 0, none⟩) xs.length c := by
      rcases hx.1.2 with ⟨rfl, h1⟩ | ⟨g, c, _, rfl, _⟩
      · omega
      · exact ⟨_, _, rfl⟩
    have hgb : b ≤ g ∧ g < hi := ⟨(World.ownsRow.lt hx.1 g rfl).1, hx.2.2.2.1 g rfl⟩
    have HGB := hide hgb
    clear hgb
    have HO := hide hx
    have hxl : (xs.map Prod.fst).length = xs.length := by simp
    have HXL := hide hxl
    clear hx h0 hxl
    generalize hn : xs.length = n at *
    have HN := hide hn
    clear hn
    go_enter Try.func65, Try.ntmps65
    go_wp2
    go_loopw [1, 5] (fun q i wr => ∃ j : Nat, j ≤ n ∧ q = .int .i64 ((k + 3 * j + upto (xs.map Prod.fst) j : Nat) : Int) ∧ i = .int .i64 (j : Int) ∧ Hid (OwnX wr b hi (.slice (some ⟨g, 0, none⟩) n c) (mixX k xs j)) ∧ Hid (Out b hi w wr)) (fun _ i _ => n - (intOf i).toNat)
    case atStart => exact ⟨0, Nat.zero_le _, by simp [upto], rfl, by rw [mixX_zero]; exact HO, hide (Out.refl _ _ _)⟩
    case round =>
      clear HO
      obtain ⟨j, hj, rfl, rfl, HO, HG⟩ := hrel
      have hub := upto_le (xs.map Prod.fst) j (by rw [HXL.out]; omega)
      have hml := mixX_len k xs j
      rw [HN.out] at hml
      by_cases hlt : j < n
      · have HGT := hide (mixX_get k xs j (by rw [HN.out]; exact hlt))
        have HST := hide (mixX_step k xs j)
        have HU := hide (upto_step (xs.map Prod.fst) j (by rw [HXL.out]; exact hlt))
        have hlb : ((xs.map Prod.fst).getD j default).b.length ≤ tot (xs.map Prod.fst) := tot_mem (getD_mem _ j (by rw [HXL.out]; exact hlt))
        have hgd : (xs.map Prod.fst).getD j default = (xs.getD j default).1 := by simp [List.getD, show j < xs.length by rw [HN.out]; exact hlt]
        rw [hgd] at hlb HU
        have HMK : Hid (mk1 k xs j = (markP (k + 3 * j + upto (xs.map Prod.fst) j) (xs.getD j default).1, (xs.getD j default).2)) := hide rfl
        clear hgd
        generalize hK : k + 3 * j + upto (xs.map Prod.fst) j = K at *
        have hKb : K + (xs.getD j default).1.b.length ≤ 500000000 := by omega
        have HK := hide hK
        clear hub hK hlb
        generalize xs.getD j default = x at *
        obtain ⟨⟨f, t, zs, s⟩, u⟩ := x
        simp only at hKb HU HMK
        obtain ⟨⟨y0, d0⟩, z0, ho0, g0⟩ := HO.out.cell hml j 0 (by omega) hlt (.int .i64 (K : Int)) _ (⟨K, t, zs, s⟩, u) HGT.out rfl rfl rfl
        have hx1 : ((mixX k xs j).set j (⟨K, t, zs, s⟩, u))[j]? = some (⟨K, t, zs, s⟩, u) := by rw [List.getElem?_set_self (by rw [hml]; exact hlt)]
        obtain ⟨⟨y1, d1'⟩, z1, ho1, g1⟩ := ho0.cell (by rw [List.length_set]; exact hml) j 1 (by omega) hlt (.int .i64 ((K : Int) + 1)) _ (⟨K, (K : Int) + 1, zs, s⟩, u) hx1 rfl rfl rfl
        rw [List.set_set] at ho1
        have hx2 : ((mixX k xs j).set j (⟨K, (K : Int) + 1, zs, s⟩, u))[j]? = some (⟨K, (K : Int) + 1, zs, s⟩, u) := by rw [List.getElem?_set_self (by rw [hml]; exact hlt)]
        have hlm : ∀ q : Pk × Value, ((mixX k xs j).set j q).length = n := fun q => by rw [List.length_set]; exact hml
        have hu : Own ((wr.setCell ⟨g, j * 4 + 0, none⟩ (.int .i64 (K : Int))).setCell ⟨g, j * 4 + 1, none⟩ (.int .i64 ((K : Int) + 1))) b u zs := ho1.2.1 _ (List.mem_of_getElem? hx2)
        obtain ⟨au, cu, rfl⟩ := own_shape hu
        have hrow := HO.out.1
        rw [hml] at hrow
        have hfl : ((mixX k xs j).flatMap pkC).length = n * 4 := by rw [flat_len pkC 4 pkC_len, hml]
        have d1 : ∃ y, wr.cell? ⟨g, j * 4 + 1, none⟩ = some y := by rw [World.ownsRow.cellAt hrow _ (by omega)]; exact ⟨_, List.getElem?_eq_getElem (by omega)⟩
        obtain ⟨y1', d1⟩ := d1
        have d2 : wr.cell? ⟨g, j * 4 + 2, none⟩ = some (.slice au zs.length cu) := by
          rw [World.ownsRow.cellAt hrow _ (by omega), flat_get pkC 4 pkC_len _ default j 2 (by rw [hml]; exact hlt) (by omega)]
          have : (mixX k xs j).getD j default = (⟨f, t, zs, s⟩, .slice au zs.length cu) := by rw [List.getD_eq_getElem?_getD, HGT.out]; rfl
          rw [this]; rfl
        have hz : ∀ r, wr.frozen? ⟨g, r, none⟩ = false := fun r => World.ownsRow.frozenAt hrow r
        rw [Nat.add_zero] at d0 ho1 hu g0 g1
        have H1 := hide ho1
        have HU1 := hide hu
        have HG1 := hide (HG.out.trans ((Out.row g0 (fun q hq => by cases hq; exact HGB.out)).trans (Out.row g1 (fun q hq => by cases hq; exact HGB.out))))
        have HX2 := hide hx2
        have HLM := hide hlm
        clear ho0 ho1 hu g0 g1 hx1 hx2 d1' z0 z1 hrow hfl hml hlm
        go_wp2_with fail
        refine (markB2 _ b K _ zs HU1.out (by omega)).mono ?_
        rintro e w2 ⟨rfl, o2, g2⟩
        have h2 := H1.out.bytes j _ HX2.out (marks (K + 2) zs.length) o2 g2
        rw [List.set_set] at h2
        have hx3 : ((mixX k xs j).set j (⟨K, (K : Int) + 1, marks (K + 2) zs.length, s⟩, .slice au zs.length cu))[j]? = some (⟨K, (K : Int) + 1, marks (K + 2) zs.length, s⟩, .slice au zs.length cu) := by rw [List.getElem?_set_self (by rw [← HLM.out (⟨K, (K : Int) + 1, zs, s⟩, .slice au zs.length cu), List.length_set] at hlt; exact hlt)]
        obtain ⟨⟨y3, d3⟩, z3, ho3, g3⟩ := h2.cell (HLM.out _) j 3 (by omega) hlt (.bool (((K : Int) + 1 + 1 + (zs.length : Int)) % 3 == 0)) _ (⟨K, (K : Int) + 1, marks (K + 2) zs.length, ((K : Int) + 1 + 1 + (zs.length : Int)) % 3 == 0⟩, .slice au zs.length cu) hx3 rfl rfl rfl
        rw [List.set_set] at ho3
        have e9 : mk1 k xs j = (⟨K, (K : Int) + 1, marks (K + 2) zs.length, ((K : Int) + 1 + 1 + (zs.length : Int)) % 3 == 0⟩, .slice au zs.length cu) := by
          rw [HMK.out]
          unfold markP
          simp only [Prod.mk.injEq, Pk.mk.injEq, true_and, and_true]
          exact ⟨by omega, by rw [show ((K + 2 + zs.length : Nat) : Int) = (K : Int) + 1 + 1 + (zs.length : Int) from by omega]⟩
        rw [← e9, HST.out] at ho3
        have HO3 := hide ho3
        have hub2 : ∀ q, (Value.slice au zs.length cu).ownBlock = some q → b ≤ q ∧ q < hi := fun q hq => ⟨(o2.lt q hq).1, h2.2.2.2.2 _ (List.mem_map_of_mem (List.mem_of_getElem? hx3)) q hq⟩
        have HG3 := hide (HG1.out.trans ((Out.row g2 hub2).trans (Out.row g3 (fun q hq => by cases hq; exact HGB.out))))
        have HK2 : Hid (((k + 3 * (j + 1) + upto (xs.map Prod.fst) (j + 1) : Nat) : Int) = (K : Int) + 1 + 1 + (zs.length : Int) + 1) := hide (by rw [HU.out, ← HK.out]; omega)
        clear o2 g2 h2 hx3 ho3 g3 e9 hub2 d0 d1 d2 hz
        go_wp2
        exact ⟨⟨j + 1, by omega, by rw [HK2.out], by go_num, HO3, HG3⟩, by simp [intOf]; omega⟩
      · obtain rfl : j = n := by omega
        have HF : Hid (OwnP wr b hi (.slice (some ⟨g, 0, none⟩) j c) (marksP k (xs.map Prod.fst))) := hide ⟨mixX k xs j, by rw [← HN.out]; exact mixX_fst k xs, HO.out⟩
        have HE : Hid (endP k (xs.map Prod.fst) = k + 3 * j + upto (xs.map Prod.fst) j) := hide (by unfold endP; rw [HXL.out])
        clear hub hml
        go_wp2
        go_ret
        exact ⟨ret_int (by rw [HE.out]), HF.out, HG.out⟩

theorem endP_le (k : Nat) (ps : List Pk) : endP k ps ≤ k + 3 * tot ps := by
  unfold endP
  have h1 := upto_all ps
  have h2 := tot_len ps
  omega

set_option maxRecDepth 100000 in
set_option maxHeartbeats 1000000 in
theorem markNet (w : World) (b hi k : Nat) (size : Int) (v : Value) (ps : List Pk) (h : OwnP w b hi v ps) (hk : k + 3 * tot ps ≤ 100000000) :
    Calls Try.prog 32 #[netV size v, .int .i64 (k : Int)] w fun e w' => e = .returned (.int .i64 ((endP k ps : Nat) : Int)) ∧ OwnP w' b hi v (marksP k ps) ∧ Out b hi w w' := by
  have HO := hide h
  obtain ⟨a, c, rfl⟩ := h.shape
  clear h
  unfold netV
  have bA := (Below.refl w.heap.size w).alloc (Nat.le_refl _) (.cells #[.int .i64 size, .slice a ps.length c] 26)
  have HA := hide bA
  replace HO := hide (HO.out.below bA)
  clear bA
  go_enter Try.func32, Try.ntmps32
  go_wp2_with fail
  refine (markPks _ b hi k _ ps HO.out hk).mono ?_
  rintro e w1 ⟨rfl, o1, g1⟩
  have H1 := hide o1
  have HG := hide ((Out.of_below HA.out).trans g1)
  clear o1 g1 HA HO
  go_wp2
  go_ret
  exact ⟨rfl, H1.out, HG.out⟩
set_option maxRecDepth 100000 in
set_option maxHeartbeats 1000000 in
theorem markPk (w : World) (b k : Nat) (p : Pk) (v : Value) (h : Own w b v p.b) (hk : k + p.b.length ≤ 1000000000) :
    Calls Try.prog 33 #[pkV p v, .int .i64 (k : Int)] w fun e w' => e = .returned (.int .i64 ((k + p.b.length : Nat) : Int)) ∧ Own w' b v (marks k p.b.length) ∧ w.grownBy w' v.ownBlock := by
  have HO := hide h
  obtain ⟨a, c, rfl⟩ := own_shape h
  clear h
  obtain ⟨f, t, zs, s⟩ := p
  simp only at HO hk ⊢
  unfold pkV
  simp only
  have bA := (Below.refl w.heap.size w).alloc (Nat.le_refl _) (.cells #[.int .i64 f, .int .i64 t, .slice a zs.length c, .bool s] 28)
  have HA := hide bA
  replace HO := hide (HO.out.below bA)
  clear bA
  go_enter Try.func33, Try.ntmps33
  go_wp2_with fail
  refine (markB _ b k _ zs HO.out hk).mono ?_
  rintro e w1 ⟨rfl, o1, g1⟩
  have H1 := hide o1
  have HG := hide (alloc_grown g1)
  clear o1 g1 HA HO
  go_wp2
  go_ret
  exact ⟨rfl, H1.out, HG.out⟩

set_option maxRecDepth 100000 in
set_option maxHeartbeats 1000000 in
theorem heldPk (w : World) (b k n : Nat) (p : Pk) (v : Value) (hp : p.b.length = n) (h : Own w b v (marks k n)) (hk : k + n ≤ 1000000000) :
    Calls Try.prog 35 #[pkV p v, .int .i64 (k : Int)] w fun e w' => e = .returned (.int .i64 ((k + n : Nat) : Int)) ∧ Below w.heap.size w w' := by
  subst hp
  have HO := hide h
  obtain ⟨a, c, rfl⟩ := own_shape h
  rw [marks_len] at HO ⊢
  clear h
  obtain ⟨f, t, zs, s⟩ := p
  simp only at HO hk ⊢
  unfold pkV
  simp only
  have bA := (Below.refl w.heap.size w).alloc (Nat.le_refl _) (.cells #[.int .i64 f, .int .i64 t, .slice a zs.length c, .bool s] 28)
  have HA := hide bA
  replace HO := hide (HO.out.below bA)
  clear bA
  have hn : ¬ (((k + zs.length : Nat) : Int) < 0) := by omega
  go_enter Try.func35, Try.ntmps35
  go_wp2_with fail
  refine (heldB _ b k zs.length _ HO.out hk).mono ?_
  rintro e w1 ⟨rfl, rfl⟩
  go_wp2
  go_ret
  exact ⟨rfl, HA.out⟩
set_option maxRecDepth 100000 in
set_option maxHeartbeats 4000000 in
theorem heldPks (w : World) (b hi k : Nat) (v : Value) (ps : List Pk) (h : OwnP w b hi v (marksP k ps)) (hk : k + 3 * tot ps ≤ 100000000) :
    Calls Try.prog 67 #[v, .int .i64 (k : Int)] w fun e w' => e = .returned (.int .i64 ((endP k ps : Nat) : Int)) ∧ w' = w := by
  obtain ⟨xs, hxs, hx⟩ := h
  have htl := tot_len ps
  have hxl : xs.length = ps.length := by rw [← marksP_len k ps, ← hxs]; simp
  obtain ⟨a, c, rfl⟩ : ∃ a c, v = .slice a ps.length c := by
    rcases hx.1.2 with ⟨rfl, h1⟩ | ⟨g, c, _, rfl, _⟩
    · exact ⟨_, _, by rw [← hxl, h1]⟩
    · exact ⟨_, _, by rw [← hxl]⟩
  have HX := hide hx
  have HXS := hide hxs
  have HXL := hide hxl
  clear hx hxs hxl
  generalize hn : ps.length = n at *
  have HN := hide hn
  clear hn
  go_enter Try.func67, Try.ntmps67
  go_wp2
  go_loopw [1, 5] (fun q i wr => ∃ j : Nat, j ≤ n ∧ q = .int .i64 ((k + 3 * j + upto ps j : Nat) : Int) ∧ i = .int .i64 (j : Int) ∧ wr = w) (fun _ i _ => n - (intOf i).toNat)
  case atStart => exact ⟨0, Nat.zero_le _, by simp [upto], rfl, rfl⟩
  case round =>
    obtain ⟨j, hj, rfl, rfl, rfl⟩ := hrel
    have hub := upto_le ps j (by rw [HN.out]; omega)
    by_cases hlt : j < n
    · obtain ⟨g, c', he⟩ : ∃ g c', a = some ⟨g, 0, none⟩ ∧ c' = c := by
        rcases HX.out.1.2 with ⟨e, h1⟩ | ⟨g, c', _, e, _⟩
        · rw [HXL.out] at h1; omega
        · cases e; exact ⟨g, _, rfl, rfl⟩
      obtain ⟨rfl, rfl⟩ := he
      have HU := hide (upto_step ps j (by rw [HN.out]; exact hlt))
      have hlb := tot_mem (getD_mem ps j (by rw [HN.out]; exact hlt))
      have hrow := HX.out.1
      rw [HXL.out] at hrow
      have hxj : xs.getD j default ∈ xs := getD_mem xs j (by rw [HXL.out]; exact hlt)
      have hpj : (xs.getD j default).1 = markP (k + 3 * j + upto ps j) (ps.getD j default) := by
        rw [← marksP_get k ps j (by rw [HN.out]; exact hlt), ← HXS.out]
        simp [List.getD, show j < xs.length by rw [HXL.out]; exact hlt]
      have ou := HX.out.2.1 _ hxj
      have fc : ∀ r, r < 4 → wr.cell? ⟨g, j * 4 + r, none⟩ = (pkC (xs.getD j default))[r]? := fun r hr => by
        rw [World.ownsRow.cellAt hrow _ (by omega), flat_get pkC 4 pkC_len _ default j r (by rw [HXL.out]; exact hlt) hr]
      generalize xs.getD j default = x at *
      obtain ⟨p, u⟩ := x
      simp only at hpj ou
      subst hpj
      have d0 := fc 0 (by omega)
      have d1 := fc 1 (by omega)
      have d2 := fc 2 (by omega)
      have d3 := fc 3 (by omega)
      rw [Nat.add_zero] at d0
      unfold markP pkC at d0 d1 d2 d3
      unfold markP at ou
      simp only at ou
      generalize ps.getD j default = q at *
      obtain ⟨f, t, zs, s⟩ := q
      simp only at HU hlb d0 d1 d2 d3 ou
      generalize hK : k + 3 * j + upto ps j = K at *
      have HK := hide hK
      have hKb : K + zs.length ≤ 500000000 := by omega
      clear hK hub hlb fc hxj hrow
      rw [show ((K + 1 : Nat) : Int) = (K : Int) + 1 from by omega] at d1
      rw [show ((K + 2 + zs.length : Nat) : Int) = (K : Int) + 1 + 1 + (zs.length : Int) from by omega] at d3
      simp only [List.getElem?_cons_zero, List.getElem?_cons_succ] at d0 d1 d2 d3
      obtain ⟨au, cu, rfl⟩ := own_shape ou
      rw [marks_len] at d2 ou
      have n0 : ((K : Int) != (K : Int)) = false := by simp
      have n1 : (((K : Int) + 1) != ((K : Int) + 1)) = false := by simp
      have n2 : ¬ (((K : Int) + 1 + 1 + (zs.length : Int)) < 0) := by omega
      have n3 : ((((K : Int) + 1 + 1 + (zs.length : Int)) % 3 == 0) != (((K : Int) + 1 + 1 + (zs.length : Int)) % 3 == 0)) = false := by simp
      have HOU := hide ou
      have HK2 : Hid (((k + 3 * (j + 1) + upto ps (j + 1) : Nat) : Int) = (K : Int) + 1 + 1 + (zs.length : Int) + 1) := hide (by rw [HU.out, ← HK.out]; omega)
      clear ou
      go_wp2_with fail
      refine (heldB2 _ b K zs.length _ HOU.out (by omega)).mono ?_
      rintro e w2 ⟨rfl, rfl⟩
      go_wp2
      exact ⟨⟨j + 1, by omega, by rw [HK2.out], by go_num, trivial⟩, by simp [intOf]; omega⟩
    · obtain rfl : j = n := by omega
      have HE : Hid (endP k ps = k + 3 * j + upto ps j) := hide (by unfold endP; rw [HN.out])
      clear hub
      go_wp2
      go_ret
      exact ⟨ret_int (by rw [HE.out]), rfl⟩

set_option maxRecDepth 100000 in
set_option maxHeartbeats 1000000 in
theorem heldNet (w : World) (b hi k : Nat) (size : Int) (v : Value) (ps : List Pk) (h : OwnP w b hi v (marksP k ps)) (hk : k + 3 * tot ps ≤ 100000000) :
    Calls Try.prog 34 #[netV size v, .int .i64 (k : Int)] w fun e w' => e = .returned (.int .i64 ((endP k ps : Nat) : Int)) ∧ Below w.heap.size w w' := by
  have HO := hide h
  obtain ⟨a, c, rfl⟩ := h.shape
  clear h
  unfold netV
  have bA := (Below.refl w.heap.size w).alloc (Nat.le_refl _) (.cells #[.int .i64 size, .slice a (marksP k ps).length c] 26)
  have HA := hide bA
  replace HO := hide (HO.out.below bA)
  clear bA
  have hn : ¬ (((endP k ps : Nat) : Int) < 0) := by omega
  go_enter Try.func34, Try.ntmps34
  go_wp2_with fail
  refine (heldPks _ b hi k _ ps HO.out hk).mono ?_
  rintro e w1 ⟨rfl, rfl⟩
  go_wp2
  go_ret
  exact ⟨rfl, HA.out⟩
theorem heldNet1 (w : World) (b hi : Nat) (size : Int) (v : Value) (ps : List Pk) (h : OwnP w b hi v (marksP 1 ps)) (hk : 1 + 3 * tot ps ≤ 100000000) :
    Calls Try.prog 34 #[netV size v, .int .i64 1] w fun e w' => e = .returned (.int .i64 ((endP 1 ps : Nat) : Int)) ∧ Below w.heap.size w w' := by
  have := heldNet w b hi 1 size v ps h hk
  simpa only [Int.natCast_one] using this
theorem markNet1 (w : World) (b hi : Nat) (size : Int) (v : Value) (ps : List Pk) (h : OwnP w b hi v ps) (hk : 1 + 3 * tot ps ≤ 100000000) :
    Calls Try.prog 32 #[netV size v, .int .i64 1] w fun e w' => e = .returned (.int .i64 ((endP 1 ps : Nat) : Int)) ∧ OwnP w' b hi v (marksP 1 ps) ∧ Out b hi w w' := by
  have := markNet w b hi 1 size v ps h hk
  simpa only [Int.natCast_one] using this
end Go.Proofs.Ytmdpbhikemmogaa
