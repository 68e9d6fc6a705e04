/-
  What is apart, in the program: a set of places, made and asked.
-/
import Derived.Test.YtabeeppfgkeahaaDifM
import Derived.Test.YtabeeppfgkeahaaBldV
import Derived.Maps.OwnSet
import Derived.Maps.OwnIn
namespace Go.Proofs.Ytabeeppfgkeahaa
open Go.RowKit Go.Maps

/-- An empty struct's value, as it reads. -/
def emR (v : Value) : Option (DataW Unit × List MemPlace) :=
  match v with
  | .agg cs => match cs.toList with
    | [] => some (.agg [], [])
    | _ => none
  | _ => none
theorem emR_mk : emR (.agg #[]) = some (.agg [], []) := rfl
theorem emR_inv {v : Value} {z : DataW Unit × List MemPlace} (h : emR v = some z) : v = .agg #[] := by
  unfold emR at h
  split at h
  · rename_i cs
    split at h
    · rename_i hc
      cases cs
      simp_all
    · cases h
  · cases h
def i64B (k : Int) : Prop := -9223372036854775808 ≤ k ∧ k ≤ 9223372036854775807
theorem keyN : Keyed Try.prog 3 := int_keyed Try.underlying3
theorem keyNAt (k : Int) (h : i64B k) : keyOf Try.prog 3 (.int .i64 k) = some (.int .i64 k) := keyOf_int_mk Try.underlying3 (WalkArith.wf_i64 h)
theorem zeroEm (w : World) : (zeroValue 64).run Try.prog w = .ok (.agg #[]) w := by kernel_rfl
/-- Block g is a set of numbers: those of the list xs. -/
def SetM (w : World) (g n : Nat) (xs : List Int) : Prop :=
  ∃ D, w.ownsMap Try.prog 3 emR g n D ∧ ∀ k, i64B k → Maps.has D (.int .i64 k) = xs.any (· == k)
theorem SetM.lt {w : World} {g n : Nat} {xs : List Int} (h : SetM w g n xs) : g < w.heap.size := World.ownsMap.lt h.choose_spec.1
theorem SetM.below {w w' : World} {g n : Nat} {xs : List Int} (h : SetM w g n xs) (hb : Below w.heap.size w w') : SetM w' g n xs := by
  have hl := h.lt
  obtain ⟨D, ⟨es, clock, h1, r⟩, h2⟩ := h
  exact ⟨D, ⟨es, clock, (hb.block g hl).trans h1, r⟩, h2⟩
theorem SetM.made (w : World) : SetM (w.alloc (.map #[] 0)) w.heap.size 0 [] :=
  ⟨.map [], World.ownsMap_made w _ _ _, fun _ _ => rfl⟩
theorem SetM.look {w : World} {g n : Nat} {xs : List Int} (h : SetM w g n xs) {k : Int} (hk : i64B k) :
    (Instr.lookup 63 (.map (some g)) (.int .i64 k) true).run Try.prog w = .ok (.tuple #[.agg #[], .bool (xs.any (· == k))]) w := by
  obtain ⟨D, h1, h2⟩ := h
  obtain ⟨v, ps, hrun, hv⟩ := World.ownsMap.look_ok h1 keyN Try.underlying63 (zeroEm w) emR_mk (keyNAt k hk)
  have := emR_inv hv
  subst this
  rw [hrun, h2 k hk]
theorem SetM.put {w : World} {g n : Nat} {xs : List Int} (h : SetM w g n xs) (hn : n < maxLen) {k : Int} (hk : i64B k) :
    ∃ w', (Instr.mapUpdate 63 (.map (some g)) (.int .i64 k) (.agg #[])).run Try.prog w = .ok () w' ∧ SetM w' g (n + 1) (xs ++ [k]) ∧ w.grownBy w' (some g) := by
  obtain ⟨D, h1, h2⟩ := h
  have hkey := keyNAt k hk
  obtain ⟨w', hrun, r1, r2⟩ := h1.update keyN Try.underlying63 hn hkey emR_mk
  refine ⟨w', hrun, ⟨_, r1, fun k' hk' => ?_⟩, r2⟩
  rw [List.any_append]
  by_cases he : k' = k
  · subst he
    rw [has_put_same h1.isMap (keyN.key hkey)]
    simp
  · have hne : Lit.int .i64 k' ≠ Lit.int .i64 k := fun e => he (by injection e)
    rw [has_put_other hne, h2 k' hk']
    have : (k == k') = false := by rw [beq_eq_false_iff_ne]; exact fun e => he e.symm
    simp [this]
section
variable {w : World} {ops : Array Oper} {rest : List Oper} {o : Oper} {a : Act} {Q : Exit → Act → World → Prop}
theorem wp_setPut (hg : o.guard = none) (m x v : Operand) (hop : o.op = Op.mapUpdate 63 m x v) (b n : Nat) (xs : List Int) (hm : a.eval m = .map (some b)) (hown : SetM w b n xs) (hn : n < maxLen)
    (k : Int) (hk : i64B k) (hx : a.eval x = .int .i64 k) (hv : a.eval v = .agg #[])
    (hK : ∀ w', SetM w' b (n + 1) (xs ++ [k]) → w.grownBy w' (some b) → wpList Try.prog ops Q rest (a.put o.dst undef) w') :
    wpList Try.prog ops Q (o :: rest) a w := by
  refine wpList_plain hg fun K' hK' => ?_
  obtain ⟨w', hrun, r1, r2⟩ := hown.put hn hk
  unfold Oper.wp
  simp [execOp, hop, hm, hx, hv, hrun, Result.andThen]
  exact hK' _ _ (hK w' r1 r2)
end
/-- The first of a row that is so; -1. -/
def atFsD {α : Type} (f : α → Bool) (xs : List α) : Int := match xs.findIdx? f with | some i => (i : Int) | none => -1
theorem atFsD_hit {α : Type} [Inhabited α] {f : α → Bool} {xs : List α} {j : Nat} (hj : j < xs.length) (h : f (xs.getD j default) = true) (h0 : ∀ i, i < j → f (xs.getD i default) = false) : atFsD f xs = (j : Int) := by
  have e : xs.findIdx? f = some j := by
    rw [List.findIdx?_eq_some_iff_getElem]
    refine ⟨hj, ?_, fun i hi => ?_⟩
    · simpa [hj] using h
    · have := h0 i hi
      have hi' : i < xs.length := by omega
      simpa [hi'] using this
  unfold atFsD
  rw [e]
theorem atFsD_no {α : Type} [Inhabited α] {f : α → Bool} {xs : List α} (h0 : ∀ i, i < xs.length → f (xs.getD i default) = false) : atFsD f xs = -1 := by
  have e : xs.findIdx? f = none := by
    rw [List.findIdx?_eq_none_iff]
    exact fun y hy => all_of_getD (Q := fun y => f y = false) h0 y hy
  unfold atFsD
  rw [e]
def inS (S : List Int) (y : Cel) : Bool := S.any (· == y.a)
theorem fst_any (S : List Int) (xs : List Cel) : decide (0 ≤ atFsD (inS S) xs) = xs.any (inS S) := by
  unfold atFsD
  cases h : xs.findIdx? (inS S) with
  | none =>
    rw [List.findIdx?_eq_none_iff] at h
    have h2 : xs.any (inS S) = false := by
      rw [List.any_eq_false]
      intro y hy
      have := h y hy
      simpa using this
    rw [h2]
    rfl
  | some i =>
    obtain ⟨hi, h1, _⟩ := List.findIdx?_eq_some_iff_getElem.1 h
    have h2 : xs.any (inS S) = true := by
      rw [List.any_eq_true]
      exact ⟨xs[i], List.getElem_mem hi, h1⟩
    rw [h2]
    exact decide_eq_true (Int.natCast_nonneg i)
theorem apX_in (a b : List Cel) : apX a b = !(b.any (inS (a.map (·.a)))) := by
  rw [Bool.eq_iff_iff]
  unfold apX ap1 inS
  simp only [List.all_eq_true, Bool.not_eq_true', List.any_eq_false, beq_eq_false_iff_ne, ne_eq]
  constructor
  · intro h y hy hx
    obtain ⟨k, hk, he⟩ := List.any_eq_true.1 hx
    obtain ⟨x, hxa, rfl⟩ := List.mem_map.1 hk
    exact h x hxa y hy (by simpa using he)
  · intro h x hx y hy he
    exact h y hy (List.any_eq_true.2 ⟨x.a, List.mem_map.2 ⟨x, hx, rfl⟩, by simpa using he⟩)
set_option maxRecDepth 100000 in
set_option maxHeartbeats 8000000 in
theorem inBothC (w : World) (y : Cel) (p g m : Nat) (S : List Int) (hp : w.cell? ⟨p, 0, none⟩ = some (.map (some g))) (hlt0 : p < w.heap.size) (hs : SetM w g m S) (hy : i64B y.a) :
    Calls Try.prog 38 #[celV y, .pointer (some ⟨p, 0, none⟩)] w fun e w' => e = .returned (.bool (inS S y)) ∧ Below w.heap.size w w' := by
  have bA := (Below.refl w.heap.size w).alloc (Nat.le_refl _) (.cells #[.int .i64 y.a, .bool y.r, .int .i64 y.n] 50)
  have EF := hide (heap_alloc_new w (.cells #[.int .i64 y.a, .bool y.r, .int .i64 y.n] 50))
  have q0 := (bA.cell (p := ⟨p, 0, none⟩) hlt0).trans hp
  have lk := (hs.below bA).look hy
  have HB := hide bA
  have hsB := bA.size
  obtain ⟨V, hV⟩ : ∃ V, S.any (· == y.a) = V := ⟨_, rfl⟩
  rw [hV] at lk
  have HV : Hid (inS S y = V) := hide hV
  clear bA hp hV hs
  unfold celV
  go_enter Try.func38, Try.ntmps38
  go_upto_region 1 with fail
  generalize w.alloc (.cells #[.int .i64 y.a, .bool y.r, .int .i64 y.n] 50) = W at *
  have f0 := (box_of EF.out).1 0 _ rfl
  have HX := hide ((Below.refl W.heap.size W).alloc (Nat.le_refl _) (.cells #[] 64))
  have hXs : W.heap.size < (W.alloc (.cells #[] 64)).heap.size := by simp
  have HXn := hide (heap_alloc_new W (.cells #[] 64))
  go_wp2
  go_ret
  exact ⟨by rw [HV.out]; rfl, HB.out.trans (HX.out.mono hsB)⟩
set_option maxRecDepth 100000 in
set_option maxHeartbeats 8000000 in
theorem idxIn (w : World) (v : Value) (xs : List Cel) (p g m : Nat) (S : List Int) (h : Reads w w.heap.size (cels xs) v) (hm : xs.length ≤ 1048576) (hp : w.cell? ⟨p, 0, none⟩ = some (.map (some g))) (hlt0 : p < w.heap.size) (hs : SetM w g m S) (hg : ∀ j, j < xs.length → i64B (xs.getD j default).a) :
    Calls Try.prog 44 #[v, .func (.func 38) #[] #[.pointer (some ⟨p, 0, none⟩)]] w fun e w' => e = .returned (.int .i64 (atFsD (inS S) xs)) ∧ Below w.heap.size w w' := by
  have HS := hide hs
  have HG := hide hg
  clear hs hg
  have HX : Hid (∀ wr, Below w.heap.size w wr → _) := hide (fun wr hb => cel_at (h.at hb))
  have HY : Hid (∀ j, j < xs.length → inS S (xs.getD j default) = true → (∀ i, i < j → inS S (xs.getD i default) = false) → atFsD (inS S) xs = (j : Int)) := hide (fun j hj h h0 => atFsD_hit hj h h0)
  have HN : Hid ((∀ i, i < xs.length → inS S (xs.getD i default) = false) → atFsD (inS S) xs = -1) := hide (fun h0 => atFsD_no h0)
  obtain ⟨a, cap, rfl, _⟩ := cel_at h
  clear h
  generalize hn : xs.length = n at *
  generalize atFsD (inS S) xs = V at *
  go_enter Try.func44, Try.ntmps44
  go_wp2
  go_loopw [8] (fun i wr => ∃ j : Nat, j ≤ n ∧ i = .int .i64 (j : Int) ∧ Hid (∀ i, i < j → inS S (xs.getD i default) = false) ∧ Hid (Below w.heap.size w wr)) (fun i _ => n - (intOf i).toNat)
  case atStart => exact ⟨0, Nat.zero_le _, rfl, hide (fun i hi => by omega), hide (Below.refl _ _)⟩
  case round =>
    obtain ⟨j, hj, rfl, HR, HB⟩ := hrel
    by_cases hlt : j < n
    · obtain ⟨a', cap', ea, _, _, hc⟩ := HX.out wr HB.out
      cases ea
      obtain ⟨b, o, rfl, _, hcell⟩ := hc (by omega)
      obtain ⟨d0, d1, d2⟩ := hcell j hlt
      clear hcell hc
      obtain ⟨x, hx⟩ : ∃ x, xs.getD j default = x := ⟨_, rfl⟩
      rw [hx] at d0 d1 d2
      have HBy : Hid (i64B x.a) := hide (by rw [← hx]; exact HG.out j hlt)
      have HX9 := hide hx
      clear hx
      go_wp2_with fail
      refine (inBothC _ x p g m S ((HB.out.cell (p := ⟨p, 0, none⟩) hlt0).trans hp) (Nat.lt_of_lt_of_le hlt0 HB.out.size) (HS.out.below HB.out) HBy.out).mono ?_
      rintro e w1 ⟨rfl, b1⟩
      replace HB := hide (HB.out.trans (b1.mono HB.out.size))
      clear b1
      cases c : inS S x with
      | true =>
        have HF : Hid (V = (j : Int)) := hide (HY.out j hlt (by rw [HX9.out]; exact c) HR.out)
        go_wp2
        go_ret
        exact ⟨by rw [HF.out]; rfl, HB.out⟩
      | false =>
        have HR2 : Hid (∀ i, i < j + 1 → inS S (xs.getD i default) = false) := hide (fun i hi => by
          rcases Nat.lt_succ_iff_lt_or_eq.1 hi with h | rfl
          · exact HR.out i h
          · rw [HX9.out]; exact c)
        go_wp2
        exact ⟨⟨j + 1, by omega, by go_num, HR2, HB⟩, by simp [intOf]; omega⟩
    · obtain rfl : j = n := by omega
      have HF : Hid (V = -1) := hide (HN.out HR.out)
      go_wp2
      go_ret
      exact ⟨by rw [HF.out]; rfl, HB.out⟩
set_option maxRecDepth 100000 in
set_option maxHeartbeats 8000000 in
theorem anyIn (w : World) (v : Value) (xs : List Cel) (p g m : Nat) (S : List Int) (h : Reads w w.heap.size (cels xs) v) (hm : xs.length ≤ 1048576) (hp : w.cell? ⟨p, 0, none⟩ = some (.map (some g))) (hlt0 : p < w.heap.size) (hs : SetM w g m S) (hg : ∀ j, j < xs.length → i64B (xs.getD j default).a) :
    Calls Try.prog 39 #[v, .func (.func 38) #[] #[.pointer (some ⟨p, 0, none⟩)]] w fun e w' => e = .returned (.bool (xs.any (inS S))) ∧ Below w.heap.size w w' := by
  have HV : Hid (decide (0 ≤ atFsD (inS S) xs) = xs.any (inS S)) := hide (fst_any S xs)
  obtain ⟨V, hV⟩ : ∃ V, xs.any (inS S) = V := ⟨_, rfl⟩
  rw [hV] at HV ⊢
  clear hV
  go_enter Try.func39, Try.ntmps39
  go_wp2_with fail
  refine (idxIn _ _ xs p g m S h hm hp hlt0 hs hg).mono ?_
  rintro e W1 ⟨rfl, b9⟩
  have HB := hide b9
  clear b9
  generalize atFsD (inS S) xs = K at *
  go_wp2
  go_ret
  exact ⟨by rw [← HV.out]; rfl, HB.out⟩
theorem plcs_snoc {a : List Cel} {j : Nat} (h : j < a.length) : (a.take (j + 1)).map (·.a) = (a.take j).map (·.a) ++ [(a.getD j default).a] := by
  rw [List.take_add_one, List.getElem?_eq_getElem h, List.getD_eq_getElem?_getD, List.getElem?_eq_getElem h, List.map_append]
  rfl
set_option maxRecDepth 100000 in
set_option maxHeartbeats 8000000 in
theorem apartI (w : World) (a b : List Cel) (v1 v2 : Value) (h1 : Reads w w.heap.size (cels a) v1) (h2 : Reads w w.heap.size (cels b) v2) (hga : celsG a) (hgb : celsG b) :
    Calls Try.prog 22 #[v1, v2] w fun e w' => e = .returned (.bool (apX a b)) ∧ Below w.heap.size w w' := by
  have H1 := hide h1
  have H2 := hide h2
  have hla := hga.1
  have hlb := hgb.1
  have HGa : Hid (∀ j, j < a.length → i64B (a.getD j default).a) := hide (fun j hj => (getD_mem hga.2 j hj).a)
  have HGb : Hid (∀ j, j < b.length → i64B (b.getD j default).a) := hide (fun j hj => (getD_mem hgb.2 j hj).a)
  obtain ⟨a1, c1, e1, _⟩ := h1.shape
  obtain ⟨a2, c2, e2, _⟩ := h2.shape
  subst e1 e2
  clear h1 h2 hga hgb
  have HV : Hid (apX a b = !(b.any (inS (a.map (·.a))))) := hide (apX_in a b)
  generalize apX a b = V at *
  have hmm := @run_makeMap Try.prog
  have HM := hide (SetM.made w)
  have bA := (Below.refl w.heap.size w).alloc (Nat.le_refl _) (.map #[] 0)
  have bB := bA.alloc bA.size (.cells #[.map (some w.heap.size)] 63)
  have HM2 := hide (HM.out.below ((Below.refl (w.alloc (.map #[] 0)).heap.size (w.alloc (.map #[] 0))).alloc (Nat.le_refl _) (.cells #[.map (some w.heap.size)] 63)))
  have EP := hide (heap_alloc_new (w.alloc (.map #[] 0)) (.cells #[.map (some w.heap.size)] 63))
  have hs1 : (w.alloc (.map #[] 0)).heap.size = w.heap.size + 1 := by simp
  have HB := hide bB
  rw [hs1] at EP
  clear bA bB HM hs1
  go_enter Try.func22, Try.ntmps22
  go_upto_region 2 with fail
  have hXs : w.heap.size + 1 < ((w.alloc (.map #[] 0)).alloc (.cells #[.map (some w.heap.size)] 63)).heap.size := by simp
  generalize (w.alloc (.map #[] 0)).alloc (.cells #[.map (some w.heap.size)] 63) = X at *
  go_wp2
  go_loopw [12] (fun k wr => ∃ j : Nat, j ≤ a.length ∧ k = .int .i64 (j : Int) ∧ Hid (SetM wr w.heap.size j ((a.take j).map (·.a))) ∧ Hid (wr.heap[w.heap.size + 1]? = some (.cells #[.map (some w.heap.size)] 63)) ∧ Hid (Below w.heap.size w wr)) (fun k _ => a.length - (intOf k).toNat)
  case atStart => exact ⟨0, Nat.zero_le _, rfl, HM2, EP, HB⟩
  case round =>
    clear HM2 EP HB hXs
    obtain ⟨j, hj, rfl, HM, EP, HB⟩ := hrel
    by_cases hlt : j < a.length
    · have hltI : (j : Int) < (a.length : Int) := by omega
      obtain ⟨_, _, eb, _, _, hcw⟩ := cel_at (H1.out)
      cases eb
      obtain ⟨b2, o2, rfl, hb2w, hcell2⟩ := hcw (by omega)
      obtain ⟨k0, k1, k2⟩ := hcell2 j hlt
      have f0 := (HB.out.cell (p := ⟨b2, o2 + j * 3, none⟩) hb2w).trans k0
      have f1 := (HB.out.cell (p := ⟨b2, o2 + j * 3 + 1, none⟩) hb2w).trans k1
      have f2 := (HB.out.cell (p := ⟨b2, o2 + j * 3 + 2, none⟩) hb2w).trans k2
      have HSN := hide (plcs_snoc hlt)
      have HBy := hide (HGa.out j hlt)
      clear hcell2 hcw k0 k1 k2
      obtain ⟨y, hy⟩ : ∃ y, a.getD j default = y := ⟨_, rfl⟩
      rw [hy] at f0 f1 f2 HSN HBy
      clear hy
      have bA := (Below.refl wr.heap.size wr).alloc (Nat.le_refl _) (.cells #[.int .i64 y.a, .bool y.r, .int .i64 y.n] 50)
      have E0 := hide (heap_alloc_new wr (.cells #[.int .i64 y.a, .bool y.r, .int .i64 y.n] 50))
      have hsB := HB.out.size
      have hsE := (Array.getElem?_eq_some_iff.1 EP.out).1
      replace HM := hide (HM.out.below bA)
      replace EP := hide ((bA.block _ hsE).trans EP.out)
      replace HB := hide (HB.out.trans (bA.mono hsB))
      have hsA : wr.heap.size < (wr.alloc (.cells #[.int .i64 y.a, .bool y.r, .int .i64 y.n] 50)).heap.size := by simp
      clear bA
      go_upto_region 5 with fail
      obtain ⟨g0, hg0⟩ : ∃ g, wr.heap.size = g := ⟨_, rfl⟩
      rw [hg0] at E0 hsA hsB hsE ⊢
      clear hg0 f0 f1 f2
      generalize wr.alloc (.cells #[.int .i64 y.a, .bool y.r, .int .i64 y.n] 50) = W1 at *
      have s0 := (box_of E0.out).1 0 _ rfl
      have p0 := (box_of EP.out).1 0 _ rfl
      go_wp2_with (first
        | (at_mapUpdate; refine wp_setPut rfl _ _ _ rfl w.heap.size j ((a.take j).map (·.a)) rfl HM.out (by unfold maxLen; omega) y.a HBy.out rfl rfl ?_; intro w4 h4 g4; have HM4 := hide h4; have EP4 := hide ((g4.block _ (Array.getElem?_eq_some_iff.1 EP.out).1 (fun e => by injection e with e; omega)).trans EP.out); have HB4 := hide (HB.out.grown g4 HB.out.size (fun q hq => by cases hq; exact Nat.le_refl _)); clear h4 g4)
        | fail)
      exact ⟨⟨j + 1, by omega, by go_num, by rw [HSN.out]; exact HM4, EP4, HB4⟩, by simp [intOf]; omega⟩
    · obtain rfl : j = a.length := by omega
      have hnl : ¬ (a.length : Int) < (a.length : Int) := by omega
      have HM9 : Hid (SetM wr w.heap.size a.length (a.map (·.a))) := hide (by have h := HM.out; rwa [List.take_length] at h)
      have p0 := (box_of EP.out).1 0 _ rfl
      go_wp2_with fail
      refine (anyIn wr _ b (w.heap.size + 1) w.heap.size a.length (a.map (·.a)) (H2.out.at HB.out) hlb p0 (Array.getElem?_eq_some_iff.1 EP.out).1 HM9.out HGb.out).mono ?_
      rintro e w9 ⟨rfl, b9⟩
      replace HB := hide (HB.out.trans (b9.mono HB.out.size))
      clear b9 p0
      generalize b.any (inS (a.map (·.a))) = K at *
      go_wp2
      go_ret
      exact ⟨by rw [HV.out]; rfl, HB.out⟩
end Go.Proofs.Ytabeeppfgkeahaa
