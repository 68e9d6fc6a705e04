/-
  What Forget does, in the program and in its model.
-/
import Derived.Test.YtkfnpijljpbiaaaDoorJ25
namespace Go.Proofs.YtkfnpijljpbiaaaDoor
open Go.RowKit

theorem flat_drop {α : Type} (f : α → List Value) (sz : Nat) (hf : ∀ x, (f x).length = sz) : ∀ (xs : List α) (k : Nat), (xs.flatMap f).drop (k * sz) = (xs.drop k).flatMap f
  | xs, 0 => by simp
  | [], k + 1 => by simp
  | x :: xs, k + 1 => by
    rw [List.flatMap_cons, List.drop_succ_cons, ← flat_drop f sz hf xs k, Nat.succ_mul, Nat.add_comm, ← List.drop_drop, List.drop_left' (hf x)]
theorem rd_zero {w : World} {B sz c : Nat} {a : Option Addr} (h : a = none → c = 0) : Rd w B sz (.slice a 0 c) 0 [] := ⟨by simp, a, c, rfl, Nat.zero_le _, h, fun hp => by omega⟩
theorem Rd.drop {w : World} {B sz n cap b o k : Nat} {cs : List Value} (h : Rd w B sz (.slice (some ⟨b, o, none⟩) n cap) n cs) (hk : k ≤ n) : Rd w B sz (.slice (some ⟨b, o + k * sz, none⟩) (n - k) (cap - k)) (n - k) (cs.drop (k * sz)) := by
  obtain ⟨hl, a, c, e, hc, hn, hx⟩ := h
  cases e
  refine ⟨by rw [List.length_drop, hl, Nat.sub_mul], _, _, rfl, by omega, fun e => (by cases e), fun hp => ?_⟩
  obtain ⟨b', o', e, hb, hcell⟩ := hx (by omega)
  cases e
  refine ⟨b, o + k * sz, rfl, hb, fun i hi => ?_⟩
  have h1 : k * sz + (n - k) * sz = n * sz := by rw [← Nat.add_mul]; congr 1; omega
  rw [Nat.add_assoc, hcell (k * sz + i) (by omega), List.getElem?_drop]
theorem RdS.drop {w : World} {B n cap b o k : Nat} {ms : List Ms} (h : RdS w B (.slice (some ⟨b, o, none⟩) n cap) ms) (hn : ms.length = n) (hk : k ≤ n) : RdS w B (.slice (some ⟨b, o + k * 7, none⟩) (n - k) (cap - k)) (ms.drop k) := by
  obtain ⟨xs, rfl, h1, h2⟩ := h
  rw [List.length_map] at hn
  subst hn
  refine ⟨xs.drop k, by rw [List.map_drop], ?_, fun x hx => h2 x (List.mem_of_mem_drop hx)⟩
  rw [List.length_drop, ← flat_drop msC 7 msC_len]
  exact h1.drop hk
theorem rdS_zero {w : World} {B c : Nat} {a : Option Addr} (h : a = none → c = 0) : RdS w B (.slice a 0 c) [] := ⟨[], rfl, rd_zero h, fun x hx => by simp at hx⟩

/-- What Forget answers. -/
def fgOk (base n : Int) (ms : List Ms) : Bool := sOk base ms && decide (base < n ∧ n ≤ base + (ms.length : Int))
def fgR (base n : Int) (ms : List Ms) : Int × List Ms := bif fgOk base n ms then (n, ms.drop (n - base).toNat) else (base, ms)
def ansF (w : World) (R : Int × List Ms) (e : Ending) (w' : World) : Prop := ∃ v, e = .returned (sndV R.1 v) ∧ OwnS w' w.heap.size w'.heap.size v R.2 ∧ Below w.heap.size w w'
theorem goodS_drop {ms : List Ms} (h : GoodS ms) (k : Nat) : GoodS (ms.drop k) := fun m hm => h m (List.mem_of_mem_drop hm)
theorem totS_drop (ms : List Ms) (k : Nat) : totS (ms.drop k) ≤ totS ms := by
  induction ms generalizing k with
  | nil => simp
  | cons m ms ih =>
    cases k with
    | zero => simp
    | succ k =>
      rw [List.drop_succ_cons]
      refine Nat.le_trans (ih k) ?_
      unfold totS
      simp only [List.foldr_cons, List.length_cons]
      rw [foldS_add, foldS_add ms (ms.length + 1)]; omega
theorem fgR_good {base n : Int} {ms : List Ms} (h : GoodS ms) : GoodS (fgR base n ms).2 ∧ totS (fgR base n ms).2 ≤ totS ms ∧ (fgR base n ms).2.length ≤ ms.length := by
  unfold fgR
  cases fgOk base n ms
  · exact ⟨h, Nat.le_refl _, Nat.le_refl _⟩
  · exact ⟨goodS_drop h _, totS_drop _ _, by simp⟩

set_option maxRecDepth 100000 in
set_option maxHeartbeats 2000000 in
theorem senderOf (w : World) (base : Int) (v : Value) (ms : List Ms) (h : RdS w w.heap.size v ms) (hm : ms.length ≤ 2000000) (hgd : GoodS ms) :
    Calls Tryd.prog 30 #[sndV base v] w fun e w' => ∃ v', e = .returned (sndV base v') ∧ OwnS w' w.heap.size w'.heap.size v' ms ∧ Below w.heap.size w w' := by
  have HR := hide h
  obtain ⟨a, cap, rfl, _⟩ := ms_at h
  clear h
  unfold sndV
  have bA := ((Below.refl w.heap.size w).alloc (Nat.le_refl _) (.cells #[.int .i64 base, .slice a ms.length cap] 62)).alloc (by simp) (.cells #[.int .i64 0, .slice none 0 0] 26)
  have HE1 := hide (heap_alloc_new (w.alloc (.cells #[.int .i64 base, .slice a ms.length cap] 62)) (.cells #[.int .i64 0, .slice none 0 0] 26))
  simp only [World.size_alloc] at HE1
  have HB := hide bA
  clear bA
  go_enter Tryd.func30, Tryd.ntmps30
  go_wp2_with fail
  refine (copySndI _ base _ ms (HR.out.at HB.out) hm hgd).mono ?_
  rintro e w1 ⟨v1, rfl, o1, b1⟩
  obtain ⟨a1, c1, rfl⟩ := o1.shape
  have HO := hide o1
  have E1 := (b1.block (w.heap.size + 1) (by simp)).trans HE1.out
  have hs0 := b1.size
  simp only [World.size_alloc] at hs0 HO
  replace HB := hide (HB.out.trans (b1.mono HB.out.size))
  clear b1 o1 HE1
  have r0 := (box_of E1).1 0 _ rfl
  have r1 := (box_of E1).1 1 _ rfl
  have z1 := (box_of E1).2
  have H1 := hide E1
  clear E1
  unfold sndV
  go_wp2
  refine bodyPost_ret (v := .agg #[.int .i64 base, .slice a1 ms.length c1]) (results_one Tryd.results30 _ _ _ rfl (loadS (put2 H1.out _ _))) rfl ⟨_, rfl, ?_, ?_⟩
  · refine ((OwnS.same HO.out (fun q hq _ _ => ?_)).mono (by omega)).up (by simp)
    rw [heap_setCell_other _ _ _ _ (by simp; omega), heap_setCell_other _ _ _ _ (by simp; omega)]
  · exact (HB.out.setCell (by simp) _).setCell (by simp) _
set_option maxRecDepth 100000 in
set_option maxHeartbeats 2000000 in
theorem queueWithout (w : World) (base n : Int) (v : Value) (ms : List Ms) (h : RdS w w.heap.size v ms) (_h0 : 0 ≤ base) (h1 : n ≤ base + (ms.length : Int)) (_h2 : base ≤ 16777215) (hm : ms.length ≤ 2000000) (hn : -9223372036854775808 ≤ n) :
    Calls Tryd.prog 31 #[.agg #[.int .i64 base, v], .int .i64 n] w fun e w' => ∃ v', e = .returned (.agg #[.int .i64 (if base < n then n else base), v']) ∧ RdS w' w'.heap.size v' (if base < n then ms.drop (n - base).toNat else ms) ∧ Below w.heap.size w w' := by
  have HR := hide h
  obtain ⟨a, cap, rfl, hcap, _, hx⟩ := ms_at h
  clear h
  by_cases hle : n ≤ base
  · rw [if_neg (by omega), if_neg (by omega)]
    clear hx
    have bA := ((Below.refl w.heap.size w).alloc (Nat.le_refl _) (.cells #[.int .i64 base, .slice a ms.length cap] 62)).alloc (by simp) (.cells #[.int .i64 base, .slice a ms.length cap] 62)
    have HE1 := hide (heap_alloc_new (w.alloc (.cells #[.int .i64 base, .slice a ms.length cap] 62)) (.cells #[.int .i64 base, .slice a ms.length cap] 62))
    simp only [World.size_alloc] at HE1
    have HB := hide bA
    clear bA
    go_enter Tryd.func31, Tryd.ntmps31
    go_wp2
    exact bodyPost_ret (v := .agg #[.int .i64 base, .slice a ms.length cap]) (results_one Tryd.results31 _ _ _ rfl (loadQ HE1.out)) rfl ⟨_, rfl, HR.out.at HB.out, HB.out⟩
  · rw [if_pos (by omega), if_pos (by omega)]
    obtain ⟨b, o, rfl, hb, _⟩ := hx (by omega)
    clear hx
    have hk : ∃ k : Nat, n = base + (k : Int) ∧ 0 < k ∧ k ≤ ms.length := ⟨(n - base).toNat, by omega, by omega, by omega⟩
    obtain ⟨k, rfl, hk0, hkn⟩ := hk
    have ek : (base + (k : Int) - base).toNat = k := by omega
    rw [ek]
    have HRD := hide (HR.out.drop rfl hkn)
    clear ek
    have e5 : base + (k : Int) - base = (k : Int) := by omega
    have et : ((k : Int)).toNat = k := by omega
    have hlk : (k : Int) ≤ (ms.length : Int) := by omega
    by_cases hck : cap = k
    · subst hck
      have hkl : cap = ms.length := by omega
      have h0l : ms.length - cap = 0 := by omega
      go_enter Tryd.func31, Tryd.ntmps31
      go_wp2
      have ee : (base + (ms.length : Int) - base).toNat = ms.length := by omega
      simp only [ee, Nat.sub_self]
      have bA := ((Below.refl w.heap.size w).alloc (Nat.le_refl _) (.cells #[.int .i64 base, .slice (some ⟨b, o, none⟩) ms.length ms.length] 62)).alloc (by simp) (.cells #[.int .i64 (base + (ms.length : Int)), .slice (some ⟨b, o, none⟩) 0 0] 62)
      have HE1 := hide (heap_alloc_new (w.alloc (.cells #[.int .i64 base, .slice (some ⟨b, o, none⟩) ms.length ms.length] 62)) (.cells #[.int .i64 (base + (ms.length : Int)), .slice (some ⟨b, o, none⟩) 0 0] 62))
      simp only [World.size_alloc] at HE1
      have HB := hide bA
      clear bA
      exact bodyPost_ret (v := .agg #[.int .i64 (base + (ms.length : Int)), .slice (some ⟨b, o, none⟩) 0 0]) (results_one Tryd.results31 _ _ _ rfl (loadQ HE1.out)) rfl ⟨_, rfl, rdS_zero (fun e => by cases e), HB.out⟩
    · go_enter Tryd.func31, Tryd.ntmps31
      go_wp2
      have bA := ((Below.refl w.heap.size w).alloc (Nat.le_refl _) (.cells #[.int .i64 base, .slice (some ⟨b, o, none⟩) ms.length cap] 62)).alloc (by simp) (.cells #[.int .i64 (base + (k : Int)), .slice (some ⟨b, o + k * 7, none⟩) (ms.length - k) (cap - k)] 62)
      have HE1 := hide (heap_alloc_new (w.alloc (.cells #[.int .i64 base, .slice (some ⟨b, o, none⟩) ms.length cap] 62)) (.cells #[.int .i64 (base + (k : Int)), .slice (some ⟨b, o + k * 7, none⟩) (ms.length - k) (cap - k)] 62))
      simp only [World.size_alloc] at HE1
      have HB := hide bA
      clear bA
      exact bodyPost_ret (v := .agg #[.int .i64 (base + (k : Int)), .slice (some ⟨b, o + k * 7, none⟩) (ms.length - k) (cap - k)]) (results_one Tryd.results31 _ _ _ rfl (loadQ HE1.out)) rfl ⟨_, rfl, HRD.out.at HB.out, HB.out⟩
set_option maxRecDepth 100000 in
set_option maxHeartbeats 4000000 in
theorem forgetImpl (w : World) (base n : Int) (v : Value) (ms : List Ms) (h : RdS w w.heap.size v ms) (hn : -9223372036854775808 ≤ n ∧ n ≤ 9223372036854775807) (hm : ms.length ≤ 1048576) (hgd : GoodS ms) :
    Calls Tryd.prog 11 #[sndV base v, .int .i64 n] w (ansF w (fgR base n ms)) := by
  have HR := hide h
  obtain ⟨a, cap, rfl, _⟩ := ms_at h
  clear h
  unfold sndV
  have bA := ((Below.refl w.heap.size w).alloc (Nat.le_refl _) (.cells #[.int .i64 base, .slice a ms.length cap] 26)).alloc (by simp) (.cells #[.int .i64 0, .slice none 0 0] 26)
  have HE0 := hide ((Below.heap_alloc (w.alloc (.cells #[.int .i64 base, .slice a ms.length cap] 26)) (.cells #[.int .i64 0, .slice none 0 0] 26) w.heap.size (by simp)).trans (heap_alloc_new w (.cells #[.int .i64 base, .slice a ms.length cap] 26)))
  have HE1 := hide (heap_alloc_new (w.alloc (.cells #[.int .i64 base, .slice a ms.length cap] 26)) (.cells #[.int .i64 0, .slice none 0 0] 26))
  simp only [World.size_alloc] at HE1
  have HB := hide bA
  clear bA
  go_enter Tryd.func11, Tryd.ntmps11
  go_wp2_with fail
  refine (sndImpl _ base _ ms _ (HR.out.at HB.out) (Nat.le_refl _) (by omega) hgd).mono ?_
  rintro e w1 ⟨rfl, b1⟩
  have H0 := hide ((b1.block w.heap.size (by simp; omega)).trans HE0.out)
  have H1 := hide ((b1.block (w.heap.size + 1) (by simp)).trans HE1.out)
  have hs1 : w.heap.size + 1 + 1 ≤ w1.heap.size := by have := b1.size; simp at this; omega
  replace HB := hide (HB.out.trans (b1.mono HB.out.size))
  clear b1 HE0 HE1
  have f0 := (box_of H0.out).1 0 _ rfl
  have f1 := (box_of H0.out).1 1 _ rfl
  have HEND : Hid (fgR base n ms = (base, ms) → ∀ (W : World) (a1 : Option Addr) (c1 B : Nat), w.heap.size + 1 + 1 ≤ B → OwnS W B W.heap.size (.slice a1 ms.length c1) ms → Below w.heap.size w W → W.heap[w.heap.size + 1]? = some (.cells #[.int .i64 0, .slice none 0 0] 26 (0, 0)) → ansF w (fgR base n ms) (.returned (.agg #[.int .i64 base, .slice a1 ms.length c1])) ((W.setCell ⟨w.heap.size + 1, 0, none⟩ (.int .i64 base)).setCell ⟨w.heap.size + 1, 1, none⟩ (.slice a1 ms.length c1))) := hide (fun hv W a1 c1 B hB ho hb _ => by
    rw [hv]
    refine ⟨_, rfl, ?_, (hb.setCell (by simp) _).setCell (by simp) _⟩
    refine ((OwnS.same ho (fun q hq _ _ => ?_)).mono (by omega)).up (by simp)
    rw [heap_setCell_other _ _ _ _ (by simp; omega), heap_setCell_other _ _ _ _ (by simp; omega)])
  cases hok : sOk base ms with
  | false =>
    have hv : fgR base n ms = (base, ms) := by unfold fgR fgOk; rw [hok]; rfl
    go_wp2_with fail
    clear f0 f1
    refine (copySndI _ base _ ms (HR.out.at HB.out) (by omega) hgd).mono ?_
    rintro e w2 ⟨v2, rfl, o2, b2⟩
    obtain ⟨a2, c2, rfl⟩ := o2.shape
    have HO := hide o2
    replace H1 := hide ((b2.block (w.heap.size + 1) (by omega)).trans H1.out)
    replace HB := hide (HB.out.trans (b2.mono HB.out.size))
    clear b2 o2
    have r0 := (box_of H1.out).1 0 _ rfl
    have r1 := (box_of H1.out).1 1 _ rfl
    have z1 := (box_of H1.out).2
    unfold sndV
    go_wp2
    exact bodyPost_ret (v := .agg #[.int .i64 base, .slice a2 ms.length c2]) (results_one Tryd.results11 _ _ _ rfl (loadS (put2 H1.out _ _))) rfl (HEND.out hv w2 a2 c2 _ hs1 HO.out HB.out H1.out)
  | true =>
    have hall := sOk_all hok
    go_wp2_with fail
    clear f0 f1
    refine (queueOf _ base a ms.length cap).mono ?_
    rintro e w2 ⟨rfl, b2⟩
    have hs2 : w.heap.size + 1 + 1 ≤ w2.heap.size := Nat.le_trans hs1 b2.size
    replace H0 := hide ((b2.block w.heap.size (by omega)).trans H0.out)
    replace H1 := hide ((b2.block (w.heap.size + 1) (by omega)).trans H1.out)
    replace HB := hide (HB.out.trans (b2.mono HB.out.size))
    clear b2 hs1
    go_wp2_with fail
    refine (queueEnd _ base a ms.length cap hall.1.1 hall.1.2 (by omega)).mono ?_
    rintro e w3 ⟨rfl, b3⟩
    have hs3 : w.heap.size + 1 + 1 ≤ w3.heap.size := Nat.le_trans hs2 b3.size
    replace H0 := hide ((b3.block w.heap.size (by omega)).trans H0.out)
    replace H1 := hide ((b3.block (w.heap.size + 1) (by omega)).trans H1.out)
    replace HB := hide (HB.out.trans (b3.mono HB.out.size))
    clear b3 hs2
    have f0 := (box_of H0.out).1 0 _ rfl
    have f1 := (box_of H0.out).1 1 _ rfl
    by_cases hgt : base + (ms.length : Int) < n
    · have hv : fgR base n ms = (base, ms) := by unfold fgR fgOk; rw [hok, decide_eq_false (by omega)]; rfl
      go_wp2_with fail
      clear f0 f1
      refine (copySndI _ base _ ms (HR.out.at HB.out) (by omega) hgd).mono ?_
      rintro e w4 ⟨v4, rfl, o4, b4⟩
      obtain ⟨a4, c4, rfl⟩ := o4.shape
      have HO := hide o4
      replace H1 := hide ((b4.block (w.heap.size + 1) (by omega)).trans H1.out)
      replace HB := hide (HB.out.trans (b4.mono HB.out.size))
      clear b4 o4
      have r0 := (box_of H1.out).1 0 _ rfl
      have r1 := (box_of H1.out).1 1 _ rfl
      have z1 := (box_of H1.out).2
      unfold sndV
      go_wp2
      exact bodyPost_ret (v := .agg #[.int .i64 base, .slice a4 ms.length c4]) (results_one Tryd.results11 _ _ _ rfl (loadS (put2 H1.out _ _))) rfl (HEND.out hv w4 a4 c4 _ hs3 HO.out HB.out H1.out)
    · obtain ⟨B, L, hBL⟩ : ∃ B L, (if base < n then n else base) = B ∧ (if base < n then ms.drop (n - base).toNat else ms) = L := ⟨_, _, rfl, rfl⟩
      have hv : fgR base n ms = (B, L) := by
        rw [← hBL.1, ← hBL.2]
        unfold fgR fgOk
        rw [hok]
        by_cases hlt : base < n
        · rw [decide_eq_true (by omega), if_pos hlt, if_pos hlt]; rfl
        · rw [decide_eq_false (by omega), if_neg hlt, if_neg hlt]; rfl
      have hgL : GoodS L ∧ L.length ≤ ms.length := by
        have := fgR_good (base := base) (n := n) hgd
        rw [hv] at this
        exact ⟨this.1, this.2.2⟩
      have HV := hide hv
      have HQ := hide (fun W V (hr : RdS W W.heap.size V ms) => queueWithout W base n V ms hr hall.1.1 (by omega) hall.1.2 (by omega) hn.1)
      rw [hBL.1, hBL.2] at HQ
      clear hBL hv HEND hall hok
      go_wp2_with fail
      clear f0 f1
      refine (queueOf _ base a ms.length cap).mono ?_
      rintro e w4 ⟨rfl, b4⟩
      have hs4 : w.heap.size + 1 + 1 ≤ w4.heap.size := Nat.le_trans hs3 b4.size
      replace H1 := hide ((b4.block (w.heap.size + 1) (by omega)).trans H1.out)
      replace HB := hide (HB.out.trans (b4.mono HB.out.size))
      clear b4 hs3 H0
      go_wp2_with fail
      refine (HQ.out _ _ (HR.out.at HB.out)).mono ?_
      rintro e w5 ⟨v5, rfl, r5, b5⟩
      have HR5 := hide r5
      have hs5 : w.heap.size + 1 + 1 ≤ w5.heap.size := Nat.le_trans hs4 b5.size
      replace H1 := hide ((b5.block (w.heap.size + 1) (by omega)).trans H1.out)
      replace HB := hide (HB.out.trans (b5.mono HB.out.size))
      clear b5 hs4 r5
      go_wp2_with fail
      refine (senderOf _ B _ L HR5.out (by omega) hgL.1).mono ?_
      rintro e w6 ⟨v6, rfl, o6, b6⟩
      obtain ⟨a6, c6, rfl⟩ := o6.shape
      have HO := hide o6
      replace H1 := hide ((b6.block (w.heap.size + 1) (by omega)).trans H1.out)
      replace HB := hide (HB.out.trans (b6.mono HB.out.size))
      clear b6 o6 HR5
      have r0 := (box_of H1.out).1 0 _ rfl
      have r1 := (box_of H1.out).1 1 _ rfl
      have z1 := (box_of H1.out).2
      unfold sndV
      go_wp2
      refine bodyPost_ret (v := .agg #[.int .i64 B, .slice a6 L.length c6]) (results_one Tryd.results11 _ _ _ rfl (loadS (put2 H1.out _ _))) rfl (show ansF w (fgR base n ms) _ _ from ?_)
      rw [HV.out]
      refine ⟨_, rfl, ?_, (HB.out.setCell (by simp) _).setCell (by simp) _⟩
      refine ((OwnS.same HO.out (fun q hq _ _ => ?_)).mono (by omega)).up (by simp)
      rw [heap_setCell_other _ _ _ _ (by simp; omega), heap_setCell_other _ _ _ _ (by simp; omega)]

theorem row_shape {w : World} {b e sz n : Nat} {v : Value} {cs : List Value} (h : w.ownsRow b e sz v n cs) : ∃ a c, v = .slice a n c := by
  rcases h.2 with ⟨rfl, h0⟩ | ⟨g, c, _, rfl, _⟩
  · exact ⟨_, _, by rw [h0]⟩
  · exact ⟨_, _, rfl⟩
/-- The last messages of a row of one's own, in another row of one's own. -/
theorem OwnY.moved {w w' : World} {b hi k : Nat} {v v' : Value} {xs : List MsX} (h : OwnY w b hi v xs) (hr : w'.ownsRow b 39 7 v' (xs.drop k).length ((xs.drop k).flatMap msC)) (hs : ∀ q, b ≤ q → q < hi → w'.heap[q]? = w.heap[q]?) (hv : ∀ q, v'.ownBlock = some q → hi ≤ q) (hz : hi ≤ w'.heap.size) :
    OwnY w' b w'.heap.size v' (xs.drop k) := by
  have hsub : ∀ u ∈ vals (xs.drop k), u ∈ vals xs := fun u hu => by
    obtain ⟨x, hx, hu⟩ := List.mem_flatMap.1 hu
    exact List.mem_flatMap.2 ⟨x, List.mem_of_mem_drop hx, hu⟩
  refine ⟨hr, fun x hx => ?_, ⟨fun u hu q hq e => ?_, ?_⟩, fun q hq => (World.ownsRow.lt hr q hq).2, fun u hu q hq => Nat.lt_of_lt_of_le (h.2.2.2.2 u (hsub u hu) q hq) hz⟩
  · have hx' := List.mem_of_mem_drop hx
    have hp := h.2.1 x hx'
    exact ⟨owns_same hp.1 (fun q hq => hs q (World.ownsRow.lt hp.1 q hq).1 (h.2.2.2.2 _ (vals_mem hx').1 q hq)), owns_same hp.2 (fun q hq => hs q (World.ownsRow.lt hp.2 q hq).1 (h.2.2.2.2 _ (vals_mem hx').2 q hq))⟩
  · have h1 := h.2.2.2.2 u (hsub u hu) q hq
    have h2 := hv q e
    omega
  · have ev : vals xs = vals (xs.take k) ++ vals (xs.drop k) := by rw [← vals_app, List.take_append_drop]
    have hp := h.2.2.1.2
    rw [ev, List.pairwise_append] at hp
    exact hp.2.1

end Go.Proofs.YtkfnpijljpbiaaaDoor
