/-
  Joined: AppM, MemC.
-/
import Derived.Test.YtelpdlhgjepgbaaGreatJ26
import Derived.Test.YtelpdlhgjepgbaaGreatJ27
import Derived.Test.YtelpdlhgjepgbaaGreatJ22
import Derived.Deep.RegionHeld
/-
  A whole row of plain cells behind a row of one's own that may be none.
-/
namespace Go.Proofs.YtelpdlhgjepgbaaGreat
open Go.RowKit

theorem appM {w : World} {ops : Array Oper} {rest : List Oper} {o : Oper} {act : Act} {Q : Exit → Act → World → Prop} (hgd : o.guard = none) (s x : Operand) (t : TypeId)
    (ho : o.op = .call { callee := .builtin .append, args := #[s, x], argTypes := #[t, t] }) (base hi : Nat) (T : TypeId) (i : TypeInfo) (z : Value) (k bytes : Nat) (ht : Tryz.prog.underlying t = some (.slice T)) (hin : Tryz.prog.info? T = some i) (hz : i.zero = some z)
    (hsize : i.size = k) (hby : i.bytes = bytes) (hzs : z.cells.size = k) (hk : 0 < k) (v : Value) (n : Nat) (cs : List Dt) (hs : act.eval s = v) (hown : OwnD w base hi (.row T k n cs) v)
    (xv : Value) (hx : act.eval x = xv) (m : Nat) (T' : TypeId) (ds : List Dt) (hrd : Reads w w.heap.size (.row T' k m ds) xv) (hf : ∀ d ∈ ds, ∃ u, d = .val u ∧ u.oneCell' = true) (h63 : n + m ≤ 3000000) (hbytes : bytes ≤ 1000) (hbw : base ≤ w.heap.size)
    (h : ∀ v' w', OwnD w' base w'.heap.size (.row T k (n + m) (cs ++ ds)) v' → w.grownBy w' v.ownBlock → (∀ q, v.ownBlock = some q → base ≤ q ∧ q < hi) → wpList Tryz.prog ops Q rest (act.put o.dst v') w') :
    wpList Tryz.prog ops Q (o :: rest) act w := by
  obtain ⟨F, h2, h3, h4⟩ := hown
  have hlt := Owns.lt _ _ _ h2
  have hsh : ∃ a c, v = .slice a n c ∧ n ≤ c := by
    have hr := Owns.reads (B := w.heap.size) (Nat.le_refl _) _ _ _ h2
    obtain ⟨a, c, e, h1, _⟩ := hr.shape
    exact ⟨a, c, e, h1⟩
  unfold Owns at h2
  obtain ⟨vs, G, h5, h6, rfl⟩ := h2
  have hv : ∀ q, v.ownBlock = some q → base ≤ q ∧ q < hi := fun q hq => ⟨(World.ownsRow.lt h5 q hq).1, h4 q (by rw [hq]; simp)⟩
  have nd := List.nodup_append.1 h3
  unfold Reads at hrd
  obtain ⟨us, ⟨hul, a, cap, rfl, _, hnone, hc⟩, hds⟩ := hrd
  have kF : ∀ w' : World, OwnsL w' base ds us [] := fun w' => by
    have h0 : OwnsL w base ds us [] := ownsL_flat (fun d hd => by obtain ⟨u, hu, _⟩ := hf d hd; exact ⟨u, hu⟩) hds
    exact h0.same (fun q hq => by simp at hq)
  have fin : ∀ v' w', w'.ownsRow base T k v' (n + m) (vs ++ us) → w.grownBy w' v.ownBlock → (v'.ownBlock = v.ownBlock ∨ v'.ownBlock = some w.heap.size) → wpList Tryz.prog ops Q rest (act.put o.dst v') w' := fun v' w' ho' hg' hat => by
    refine h v' w' ?_ hg' hv
    have kG : OwnsL w' base cs vs G := h6.same (fun q hq => hg'.block q (hlt q (by simp [hq])).2 (fun e => by
      have hq' : q ∈ v.ownBlock.toList := by rw [← e]; simp
      exact nd.2.2 q hq' q hq rfl))
    have hv' : ∀ q, v'.ownBlock = some q → q ∉ G := fun q hq => by
      rcases hat with e | e
      · rw [e] at hq
        exact fun hm' => by
          have hq' : q ∈ v.ownBlock.toList := by rw [hq]; simp
          exact nd.2.2 q hq' q hm' rfl
      · rw [e] at hq
        cases hq
        exact fun hm' => by have := (hlt _ (List.mem_append.2 (.inr hm'))).2; omega
    refine ⟨v'.ownBlock.toList ++ (G ++ []), ?_, ?_, ?_⟩
    · unfold Owns
      exact ⟨vs ++ us, G ++ [], ho', kG.join (kF w'), rfl⟩
    · rw [List.append_nil]
      refine List.nodup_append.2 ⟨by cases v'.ownBlock <;> simp, nd.2.1, fun a ha b hb e => ?_⟩
      subst e
      exact hv' a (by simpa using ha) hb
    · intro q hq
      rw [List.append_nil] at hq
      rcases List.mem_append.1 hq with hq | hq
      · exact (World.ownsRow.lt ho' q (by simpa using hq)).2
      · exact Nat.lt_of_lt_of_le (hlt q (by simp [hq])).2 hg'.size
  cases a with
  | none =>
    have hm : m = 0 := by
      cases m with
      | zero => rfl
      | succ m' =>
        obtain ⟨_, _, e, _⟩ := hc (by omega)
        cases e
    subst hm
    obtain rfl : us = [] := List.eq_nil_of_length_eq_zero (by rw [hul]; omega)
    obtain ⟨av, cv, ev, hle⟩ := hsh
    refine wpList_plain hgd fun K hK => ?_
    have hr := run_append_nothing (P := Tryz.prog) w t t o.type T i ht hin av n cv hle (.slice none 0 cap) (Src.ofNil w ht cap)
    unfold Oper.wp execOp
    simp only [ho, resolve, invoke, builtin, Sem.run_bind, Sem.run_pure, Result.andThen_ok, List.map_toArray, List.map_cons, List.map_nil, hs, hx, ev, hr]
    rw [ev] at fin h5
    exact hK _ _ (fin _ w (by simpa using h5) (World.grownBy.refl w _) (.inl rfl))
  | some ad =>
    have hcell : ∀ (j : Nat) (u : Value), us[j]? = some u → w.cell? (ad.add j) = some u := fun j u hu => by
      have hj : j < us.length := (List.getElem?_eq_some_iff.1 hu).1
      have hm : 0 < m := by
        cases m with
        | zero => rw [hul] at hj; omega
        | succ m' => omega
      obtain ⟨b', o', e, _, hcc⟩ := hc hm
      cases e
      rw [Addr.add_lit, hcc j (by rw [← hul]; exact hj)]
      exact hu
    refine wpList_append_own_at w hgd s x t ho base T i z k bytes ht hin hz hsize hby hzs hk v n vs hs h5 ad m cap us hx hul hcell (one_flat hf hds) (by unfold maxLen; omega) ?_ hbw ?_
    · have := Nat.mul_le_mul (show n + m ≤ 3000000 by omega) hbytes
      omega
    · intro v' w' ho' hg' _ hat
      exact fin v' w' ho' hg' hat
end Go.Proofs.YtelpdlhgjepgbaaGreat
/-
  One memory in the model: a copy.
-/
namespace Go.Proofs.YtelpdlhgjepgbaaGreat
open Go.RowKit

theorem OwnDL.consR {w : World} {b hi m : Nat} {c : Dt} {cs : List Dt} {u : Value} {us : List Value} (h : OwnD w m hi c u) (h' : OwnDL w b m cs us) (hb : b ≤ m) (hm : m ≤ hi) : OwnDL w b hi (c :: cs) (u :: us) := by
  obtain ⟨F1, a1, a2, a3⟩ := h
  obtain ⟨F2, b1, b2, b3⟩ := h'
  have l1 := Owns.lt _ _ _ a1
  refine ⟨F1 ++ F2, ownsL_mk (a1.mono hb) b1, List.nodup_append.2 ⟨a2, b2, fun x hx y hy e => ?_⟩, fun q hq => ?_⟩
  · subst e
    have p1 := (l1 x hx).1
    have p2 := b3 x hy
    omega
  · rcases List.mem_append.1 hq with h | h
    · exact a3 q h
    · exact Nat.lt_of_lt_of_le (b3 q h) hm
theorem flat_lk (xs : List Lk) : ∀ d ∈ xs.flatMap lkD, ∃ u, d = .val u ∧ u.oneCell' = true := fun d hd => by
  obtain ⟨y, _, hy⟩ := List.mem_flatMap.1 hd
  unfold lkD at hy
  simp at hy
  rcases hy with rfl | rfl | rfl
  · exact ⟨_, rfl, rfl⟩
  · exact ⟨_, rfl, rfl⟩
  · exact ⟨_, rfl, rfl⟩
theorem obs_snoc (xs : List Ob) (y : Ob) : obs (xs ++ [y]) = .row 54 3 (xs.length + 1) (xs.flatMap obD ++ obD y) := by
  unfold obs
  rw [List.length_append, List.flatMap_append]
  simp
theorem take_snocO {xs : List Ob} {j : Nat} (h : j < xs.length) : xs.take (j + 1) = xs.take j ++ [xs.getD j default] := by
  rw [List.take_add_one, List.getElem?_eq_getElem h, List.getD_eq_getElem?_getD, List.getElem?_eq_getElem h]
  rfl
def mmP (w w' : World) (x : Mm) (e : Ending) : Prop := ∃ u1 u2, e = .returned (mmV x u1 u2) ∧ OwnDL w' w.heap.size w'.heap.size (mmD x) [u1, u2] ∧ Below w.heap.size w w'
set_option maxRecDepth 100000 in
set_option maxHeartbeats 8000000 in
theorem copyMmS (w : World) (m : Mm) (u1 u2 : Value) (h1 : Reads w w.heap.size (obs m.o) u1) (h2 : Reads w w.heap.size (lks m.l) u2) (hg : MmG m) :
    Calls Tryz.prog 20 #[mmV m u1 u2] w fun e w' => mmP w w' m e := by
  have HR := hide h1
  have HL := hide h2
  have hm := hg.o.1
  have hl := hg.l.1
  have HGf : Hid (∀ j, j < m.o.length → ObG (m.o.getD j default)) := hide (fun j hj => getD_mem hg.o.2 j hj)
  obtain ⟨a1, c1, e1, _⟩ := h1.shape
  obtain ⟨a2, c2, e2, _⟩ := h2.shape
  subst e1 e2
  clear h1 h2 hg
  obtain ⟨i0, hi, hz0, hz1, hz2⟩ := info_parts Tryz.infoLk
  have HI := hide (And.intro hi (And.intro hz0 (And.intro hz1 hz2)))
  clear hi hz0 hz1 hz2
  obtain ⟨i1, hi, hz0, hz1, hz2⟩ := info_parts Tryz.infoOb
  have HJ := hide (And.intro hi (And.intro hz0 (And.intro hz1 hz2)))
  clear hi hz0 hz1 hz2
  have bA := (((Below.refl w.heap.size w).alloc (Nat.le_refl _) (.cells #[.slice a1 m.o.length c1, .slice a2 m.l.length c2] 34)).alloc (by simp) (.cells #[.slice none 0 0, .slice none 0 0] 34))
  have G0 := heap_alloc_new w (.cells #[.slice a1 m.o.length c1, .slice a2 m.l.length c2] 34)
  have G1 := heap_alloc_new (w.alloc (.cells #[.slice a1 m.o.length c1, .slice a2 m.l.length c2] 34)) (.cells #[.slice none 0 0, .slice none 0 0] 34)
  simp only [World.size_alloc] at G1
  have E0 := hide ((Below.heap_alloc _ (.cells #[.slice none 0 0, .slice none 0 0] 34) _ (by simp)).trans (G0))
  have E1 := hide (G1)
  have HB := hide bA
  clear bA G0 G1
  unfold mmV
  go_enter Tryz.func20, Tryz.ntmps20
  go_upto_region 1 with fail
  generalize ((w.alloc (.cells #[.slice a1 m.o.length c1, .slice a2 m.l.length c2] 34)).alloc (.cells #[.slice none 0 0, .slice none 0 0] 34)) = W at *
  have HZo := hide (ownD_zero W 89 3)
  have HXb := hide ((Below.refl W.heap.size W).alloc (Nat.le_refl _) (.cells #[] 89))
  have hsX := HXb.out.size
  have HLX := hide (HL.out.at (HB.out.trans (HXb.out.mono HB.out.size)))
  have hE1 := (Array.getElem?_eq_some_iff.1 E1.out).1
  have q1 := (box_of ((HXb.out.block _ (Array.getElem?_eq_some_iff.1 E0.out).1).trans E0.out)).1 1 _ rfl
  go_upto_region 2 with (first
    | (at_builtin; refine appM rfl _ _ 32 rfl W.heap.size _ 89 i0 (.agg #[.int .i64 0, .int .i64 0, .int .i64 0]) 3 24 Tryz.underlying32 HI.out.1 HI.out.2.1 HI.out.2.2.1 HI.out.2.2.2 rfl (by decide) _ 0 [] rfl HZo.out _ rfl m.l.length 89 (m.l.flatMap lkD) HLX.out (flat_lk m.l) (by omega) (by decide) hsX ?_; intro v9 w9 o9 g9 hb9; rw [Nat.zero_add, List.nil_append] at o9; obtain ⟨a9, c9, e9⟩ := o9.shape; subst e9; have HO9 := hide o9; have HB9 := hide (HXb.out.grown g9 hsX (fun q hq => (hb9 q hq).1)); clear o9 g9 hb9)
    | fail)
  clear q1 HZo HXb hsX HLX
  have bA := (Below.refl w9.heap.size w9).alloc (Nat.le_refl _) (.cells #[.slice none 0 0, .slice a9 m.l.length c9] 34)
  have E2 := hide (heap_alloc_new w9 (.cells #[.slice none 0 0, .slice a9 m.l.length c9] 34))
  have hz9 := HB9.out.size
  replace HO9 := hide (HO9.out.below bA)
  replace HB9 := hide (HB9.out.trans (bA.mono HB9.out.size))
  replace E0 := hide ((HB9.out.block _ (Array.getElem?_eq_some_iff.1 E0.out).1).trans E0.out)
  replace E1 := hide ((HB9.out.block _ hE1).trans E1.out)
  replace HB := hide (HB.out.trans (HB9.out.mono HB.out.size))
  clear bA
  obtain ⟨g5, hg5⟩ : ∃ g, w9.heap.size = g := ⟨_, rfl⟩
  rw [hg5] at E2 HO9 hz9 ⊢
  clear hg5
  generalize w9.alloc (.cells #[.slice none 0 0, .slice a9 m.l.length c9] 34) = W2 at *
  obtain ⟨r9, hr9⟩ : ∃ r, Value.slice a9 m.l.length c9 = r := ⟨_, rfl⟩
  have HR9 := hide hr9
  rw [hr9] at E2 HO9 ⊢
  clear hr9
  have hg5w : w.heap.size + 1 < g5 := by omega
  have BO : Hid (Bv W2 W2 g5 34 [obs [], .val r9] [.slice none 0 0, r9]) := hide ⟨E2.out, OwnDL.cons (m := W2.heap.size) (ownD_nil _ _ _ _ _) (OwnDL.val (ownDL_nil _ _ _)) (Array.getElem?_eq_some_iff.1 E2.out).1 (Nat.le_refl _), Below.refl _ _⟩
  go_wp2
  go_loopw [4] (fun i wr => ∃ xs : List Ob, xs.length ≤ m.o.length ∧ Hid (xs = m.o.take xs.length) ∧ i = .int .i64 (xs.length : Int) ∧ ∃ (va : Option Addr) (vc : Nat), Hid (Bv W2 wr g5 34 [obs xs, .val r9] [.slice va xs.length vc, r9])) (fun i _ => m.o.length - (intOf i).toNat)
  case atStart => exact ⟨[], Nat.zero_le _, hide (by simp), rfl, none, 0, BO⟩
  case round =>
    obtain ⟨xs, hj, HXS, rfl, va, vc, BOr⟩ := hrel
    have hgl := BOr.out.lt
    have HBr := hide (HB.out.trans (BOr.out.bel.mono (by omega)))
    have E0r := hide ((BOr.out.bel.block _ (by omega)).trans E0.out)
    have E1r := hide ((BOr.out.bel.block _ (by omega)).trans E1.out)
    by_cases hlt : xs.length < m.o.length
    · obtain ⟨a', cap', ea, hcap, _, hc⟩ := object_at HR.out
      cases ea
      obtain ⟨b, o, rfl, hbb, hcell⟩ := hc (by omega)
      obtain ⟨pv1, d0, d1, d2, r1⟩ := hcell xs.length hlt
      have HGy := hide (HGf.out xs.length hlt)
      have HXS2 : Hid (xs ++ [m.o.getD xs.length default] = m.o.take (xs ++ [m.o.getD xs.length default]).length) := hide (by
        rw [List.length_append]
        show _ = m.o.take (xs.length + 1)
        rw [take_snocO hlt, ← HXS.out])
      clear hcell hc
      obtain ⟨y, hy⟩ : ∃ y, m.o.getD xs.length default = y := ⟨_, rfl⟩
      rw [hy] at d0 d1 r1 HGy HXS2
      clear hy
      obtain ⟨fa, fc, fe, _⟩ := r1.shape
      subst fe
      replace d0 := (HBr.out.cell (p := ⟨b, o + xs.length * 3, none⟩) hbb).trans d0
      replace d1 := (HBr.out.cell (p := ⟨b, o + xs.length * 3 + 1, none⟩) hbb).trans d1
      replace d2 := (HBr.out.cell (p := ⟨b, o + xs.length * 3 + 2, none⟩) hbb).trans d2
      replace r1 := r1.at HBr.out
      have q0 := (box_of E0r.out).1 0 _ rfl
      have hltI : (xs.length : Int) < (m.o.length : Int) := by omega
      go_upto_region 5 with fail
      clear q0
      have HCL : Hid (∀ w', Below (w.heap.size + 1) wr w' → w'.cell? ⟨w.heap.size, 0, none⟩ = some (.slice (some ⟨b, o, none⟩) m.o.length c1) ∧ w'.cell? ⟨b, o + xs.length * 3, none⟩ = some (.int .i64 y.i) ∧ w'.cell? ⟨b, o + xs.length * 3 + 1, none⟩ = some (.int .i64 y.c) ∧ w'.cell? ⟨b, o + xs.length * 3 + 2, none⟩ = some (.slice fa y.f.length fc)) := hide (fun w' hb => ⟨(box_of ((hb.block _ (by omega)).trans E0r.out)).1 0 _ rfl, (hb.cell (p := ⟨b, o + xs.length * 3, none⟩) (by dsimp only; omega)).trans d0, (hb.cell (p := ⟨b, o + xs.length * 3 + 1, none⟩) (by dsimp only; omega)).trans d1, (hb.cell (p := ⟨b, o + xs.length * 3 + 2, none⟩) (by dsimp only; omega)).trans d2⟩)
      clear d0 d1 d2 HXS
      have HZ : Hid (Below (w.heap.size + 1) wr wr) := hide (Below.refl _ _)
      replace HZ := hide HZ.out.drew
      refine wp_region_held_drew (S := fun w' => w'.cell? ⟨w.heap.size, 0, none⟩ = some (.slice (some ⟨b, o, none⟩) m.o.length c1) ∧ w'.cell? ⟨b, o + xs.length * 3, none⟩ = some (.int .i64 y.i) ∧ w'.cell? ⟨b, o + xs.length * 3 + 1, none⟩ = some (.int .i64 y.c) ∧ w'.cell? ⟨b, o + xs.length * 3 + 2, none⟩ = some (.slice fa y.f.length fc)) (by kernel_rfl) (HCL.out _ HZ.out) (fun hHeld => ?_)
      have HW := hide (Below.refl wr.heap.size wr).drew
      have hz0 := HW.out.size
      have BO := hide (BOr.out.call HW.out)
      have HOo := hide (BOr.out.own.below HW.out)
      generalize wr.drew = Z0 at *
      refine wpAnyH_take (i := 0) (v := ?_) rfl (by kernel_rfl) (by kernel_rfl) (by kernel_rfl) (fun _ _ _ h => h) (Or.inl ⟨by rfl, ?_⟩) (by assumption) ?_
      rotate_left
      · intro w' hSw
        try dsimp only at hSw
        go_simp; try rfl
      simp only [List.getElem_toArray, List.getElem_cons_zero, Act.put, List.setIfInBounds_toArray, List.set_cons_zero, List.set_cons_succ]
      refine wpAnyH_take (i := 2) (v := ?_) rfl (by kernel_rfl) (by kernel_rfl) (by kernel_rfl) (fun _ _ _ h => h) (Or.inl ⟨by rfl, ?_⟩) (by assumption) ?_
      rotate_left
      · intro w' hSw
        try dsimp only at hSw
        go_simp; try rfl
      simp only [List.getElem_toArray, List.getElem_cons_succ, List.getElem_cons_zero, Act.put, List.setIfInBounds_toArray, List.set_cons_zero, List.set_cons_succ]
      refine wpAnyH_take (i := 3) (v := ?_) rfl (by kernel_rfl) (by kernel_rfl) (by kernel_rfl) (fun _ _ _ h => h) (Or.inl ⟨by rfl, ?_⟩) (by assumption) ?_
      rotate_left
      · intro w' hSw
        try dsimp only at hSw
        go_simp; try rfl
      simp only [List.getElem_toArray, List.getElem_cons_succ, List.getElem_cons_zero, Act.put, List.setIfInBounds_toArray, List.set_cons_zero, List.set_cons_succ]
      refine wpAnyH_take (i := 4) (v := ?_) rfl (by kernel_rfl) (by kernel_rfl) (by kernel_rfl) (fun _ _ _ h => h) (Or.inl ⟨by rfl, ?_⟩) (by assumption) ?_
      rotate_left
      · intro w' hSw
        try dsimp only at hSw
        go_simp; try rfl
      simp only [List.getElem_toArray, List.getElem_cons_succ, List.getElem_cons_zero, Act.put, List.setIfInBounds_toArray, List.set_cons_zero, List.set_cons_succ]
      refine wpAnyH_take (i := 5) (v := ?_) rfl (by kernel_rfl) (by kernel_rfl) (by kernel_rfl) (fun _ _ _ h => h) (Or.inl ⟨by rfl, ?_⟩) (by assumption) ?_
      rotate_left
      · intro w' hSw
        try dsimp only at hSw
        go_simp; try rfl
      simp only [List.getElem_toArray, List.getElem_cons_succ, List.getElem_cons_zero, Act.put, List.setIfInBounds_toArray, List.set_cons_zero, List.set_cons_succ]
      refine wpAnyH_take (i := 6) (v := ?_) rfl (by kernel_rfl) (by kernel_rfl) (by kernel_rfl) (fun _ _ _ h => h) (Or.inl ⟨by rfl, ?_⟩) (by assumption) ?_
      rotate_left
      · intro w' hSw
        try dsimp only at hSw
        go_simp; try rfl
      simp only [List.getElem_toArray, List.getElem_cons_succ, List.getElem_cons_zero, Act.put, List.setIfInBounds_toArray, List.set_cons_zero, List.set_cons_succ]
      refine wpAnyH_ready (rs := [1, 7]) (by kernel_rfl) (by simp) (AllReadyH.cons rfl (fun K hK => ?_) (AllReadyH.cons rfl (fun K hK => ?_) AllReadyH.nil))
      · skip
        have e9 := (box_of BO.out.box).1 0 _ rfl
        refine step_runX (some 18) (by kernel_rfl) (by kernel_rfl) (v := .slice va xs.length vc) (w' := Z0) (by go_simp; try rfl) ?_
        clear e9
        refine hK.out _ _ (HCL.out _ HZ.out) (fun hHeld => ?_)
        clear hK K
        simp only [Act.put, List.setIfInBounds_toArray, List.set_cons_zero, List.set_cons_succ]
        refine wpAnyH_ready (rs := [7]) (by kernel_rfl) (by simp) (AllReadyH.cons rfl (fun K hK => ?_) AllReadyH.nil)
        refine step_callW (some 24) (by kernel_rfl) (by kernel_rfl) 22 _ _ rfl #[.agg #[.int .i64 y.i, .int .i64 y.c, .slice fa y.f.length fc]] (by kernel_rfl) (oneS _ y _ (r1.at HW.out) HGy.out.f.1) ?_
        rintro e Z1 ⟨v1, rfl, o9, b9⟩
        have hz1 := b9.size
        obtain ⟨pa, pc, pe, _⟩ := (obD_own o9).shape
        subst pe
        unfold obV
        replace HZ := hide (HZ.out.trans (b9.mono (by omega)))
        replace HW := hide (HW.out.trans (b9.mono HW.out.size))
        replace BO := hide (BO.out.call b9)
        replace HOo := hide (HOo.out.below b9)
        clear b9
        have HD := hide o9
        clear o9
        refine ⟨_, rfl, ?_⟩
        refine hK.out _ _ (HCL.out _ HZ.out) (fun hHeld => ?_)
        clear hK K
        simp only [Act.put, List.setIfInBounds_toArray, List.set_cons_zero, List.set_cons_succ]
        refine wpAnyH_ready (rs := [8]) (by kernel_rfl) (by simp) (AllReadyH.cons rfl (fun K hK => ?_) AllReadyH.nil)
        refine step_runX (some 25) (by kernel_rfl) (by kernel_rfl) (v := .slice (some ⟨Z1.heap.size, 0, none⟩) 1 1) (w' := Z1.alloc (.cells #[.int .i64 y.i, .int .i64 y.c, .slice pa y.f.length pc] 54)) (by go_simp; try rfl) ?_
        have b9 := (Below.refl Z1.heap.size Z1).alloc (Nat.le_refl _) (.cells #[.int .i64 y.i, .int .i64 y.c, .slice pa y.f.length pc] 54)
        have HBx := hide (Box.new Z1 #[.int .i64 y.i, .int .i64 y.c, .slice pa y.f.length pc] 54)
        have hz2 := b9.size
        replace HZ := hide (HZ.out.trans (b9.mono (by omega)))
        replace HW := hide (HW.out.trans (b9.mono HW.out.size))
        replace BO := hide (BO.out.call b9)
        replace HOo := hide (HOo.out.below b9)
        replace HD := hide ((HD.out.below b9).up b9.size)
        clear b9
        refine hK.out _ _ (HCL.out _ HZ.out) (fun hHeld => ?_)
        clear hK K
        simp only [Act.put, List.setIfInBounds_toArray, List.set_cons_zero, List.set_cons_succ]
        obtain ⟨gB, hgB⟩ : ∃ g, Z1.heap.size = g := ⟨_, rfl⟩
        rw [hgB] at HBx ⊢
        clear hgB
        generalize Z1.alloc (.cells #[.int .i64 y.i, .int .i64 y.c, .slice pa y.f.length pc] 54) = Z2 at *
        refine wpAnyH_ready (rs := [9]) (by kernel_rfl) (by simp) (AllReadyH.cons rfl (fun K hK => ?_) AllReadyH.nil)
        refine step_appL (by kernel_rfl) _ _ 31 rfl (g5 + 1) wr.heap.size Z0.heap.size 54 i1 (.agg #[.int .i64 0, .int .i64 0, .slice none 0 0]) 3 40 Tryz.underlying31 HJ.out.1 HJ.out.2.1 HJ.out.2.2.1 HJ.out.2.2.2 rfl (by decide) (.slice va xs.length vc) xs.length (xs.flatMap obD) ([]) ([.val r9]) ([]) ([r9]) (by kernel_rfl) HOo.out rfl gB 1 [.int .i64 y.i, .int .i64 y.c, .slice pa y.f.length pc] (obD y) (by kernel_rfl) HBx.out HD.out rfl (by simp [Value.oneCell']) (by omega) (by decide) (by omega) (by omega) (by omega) ?_
        intro g9 c9 w9 o9 gr9 hq9
        obtain ⟨hb9, bn9⟩ := Bv.app (v1 := []) (v2 := [r9]) BO.out 0 rfl o9 gr9 (fun q hq => (hq9 q hq).1)
        replace HZ := hide (HZ.out.grown gr9 (by omega) (fun q hq => by have := hq9 q hq; omega))
        have HB9 := hide hb9
        have BN := hide bn9
        have hz9 := gr9.size
        clear o9 gr9 hq9 hb9 bn9 BO HOo HBx HD HW
        refine hK.out _ _ (HCL.out _ HZ.out) (fun hHeld => ?_)
        clear hK K
        simp only [Act.put, List.setIfInBounds_toArray]
        refine wpAnyH_take (i := 10) (v := ?_) rfl (by kernel_rfl) (by kernel_rfl) (by kernel_rfl) (fun _ _ _ h => h) (Or.inl ⟨by rfl, ?_⟩) (by assumption) ?_
        rotate_left
        · intro w' hSw
          try dsimp only at hSw
          go_simp; try rfl
        simp only [List.getElem_toArray, List.getElem_cons_succ, List.getElem_cons_zero, Act.put, List.setIfInBounds_toArray, List.set_cons_zero, List.set_cons_succ]
        refine wpAnyH_ready (rs := [11]) (by kernel_rfl) (by simp) (AllReadyH.cons rfl (fun K hK => ?_) AllReadyH.nil)
        have k9 := (box_of HB9.out).1 0 _ rfl
        have z9 := (box_of HB9.out).2 0
        refine step_store1 (by kernel_rfl) (by kernel_rfl) 31 _ _ rfl (g5) 0 (.slice (some ⟨g9, 0, none⟩) (xs.length + 1) c9) (by kernel_rfl) (by kernel_rfl) rfl _ k9 z9 (by kernel_rfl) ?_
        replace HZ := hide (HZ.out.setCell (p := ⟨g5, 0, none⟩) (by dsimp only; omega) (.slice (some ⟨g9, 0, none⟩) (xs.length + 1) c9))
        clear k9 z9 HB9
        refine hK.out _ _ (HCL.out _ HZ.out) (fun hHeld => ?_)
        clear hK K
        try simp only [Act.put, List.setIfInBounds_toArray, List.set_cons_zero, List.set_cons_succ]
        generalize w9.setCell ⟨g5, 0, none⟩ (.slice (some ⟨g9, 0, none⟩) (xs.length + 1) c9) = Y at *
        refine wpAnyH_done (by kernel_rfl) ?_ _
        go_wp2
        refine ⟨⟨xs ++ [y], ?_, HXS2, ?_, some ⟨g9, 0, none⟩, c9, hide ?_⟩, ?_⟩
        · rw [List.length_append]; simp only [List.length_cons, List.length_nil]; omega
        · rw [List.length_append]; simp only [List.length_cons, List.length_nil]; go_num
        · have h := BN.out
          rw [obs_snoc, List.length_append]
          exact h
        · simp [intOf]; omega
      · skip
        refine step_callW (some 24) (by kernel_rfl) (by kernel_rfl) 22 _ _ rfl #[.agg #[.int .i64 y.i, .int .i64 y.c, .slice fa y.f.length fc]] (by kernel_rfl) (oneS _ y _ (r1.at HW.out) HGy.out.f.1) ?_
        rintro e Z1 ⟨v1, rfl, o9, b9⟩
        have hz1 := b9.size
        obtain ⟨pa, pc, pe, _⟩ := (obD_own o9).shape
        subst pe
        unfold obV
        replace HZ := hide (HZ.out.trans (b9.mono (by omega)))
        replace HW := hide (HW.out.trans (b9.mono HW.out.size))
        replace BO := hide (BO.out.call b9)
        replace HOo := hide (HOo.out.below b9)
        clear b9
        have HD := hide o9
        clear o9
        refine ⟨_, rfl, ?_⟩
        refine hK.out _ _ (HCL.out _ HZ.out) (fun hHeld => ?_)
        clear hK K
        simp only [Act.put, List.setIfInBounds_toArray, List.set_cons_zero, List.set_cons_succ]
        refine wpAnyH_ready (rs := [1, 8]) (by kernel_rfl) (by simp) (AllReadyH.cons rfl (fun K hK => ?_) (AllReadyH.cons rfl (fun K hK => ?_) AllReadyH.nil))
        · skip
          have e9 := (box_of BO.out.box).1 0 _ rfl
          refine step_runX (some 18) (by kernel_rfl) (by kernel_rfl) (v := .slice va xs.length vc) (w' := Z1) (by go_simp; try rfl) ?_
          clear e9
          refine hK.out _ _ (HCL.out _ HZ.out) (fun hHeld => ?_)
          clear hK K
          simp only [Act.put, List.setIfInBounds_toArray, List.set_cons_zero, List.set_cons_succ]
          refine wpAnyH_ready (rs := [8]) (by kernel_rfl) (by simp) (AllReadyH.cons rfl (fun K hK => ?_) AllReadyH.nil)
          refine step_runX (some 25) (by kernel_rfl) (by kernel_rfl) (v := .slice (some ⟨Z1.heap.size, 0, none⟩) 1 1) (w' := Z1.alloc (.cells #[.int .i64 y.i, .int .i64 y.c, .slice pa y.f.length pc] 54)) (by go_simp; try rfl) ?_
          have b9 := (Below.refl Z1.heap.size Z1).alloc (Nat.le_refl _) (.cells #[.int .i64 y.i, .int .i64 y.c, .slice pa y.f.length pc] 54)
          have HBx := hide (Box.new Z1 #[.int .i64 y.i, .int .i64 y.c, .slice pa y.f.length pc] 54)
          have hz2 := b9.size
          replace HZ := hide (HZ.out.trans (b9.mono (by omega)))
          replace HW := hide (HW.out.trans (b9.mono HW.out.size))
          replace BO := hide (BO.out.call b9)
          replace HOo := hide (HOo.out.below b9)
          replace HD := hide ((HD.out.below b9).up b9.size)
          clear b9
          refine hK.out _ _ (HCL.out _ HZ.out) (fun hHeld => ?_)
          clear hK K
          simp only [Act.put, List.setIfInBounds_toArray, List.set_cons_zero, List.set_cons_succ]
          obtain ⟨gB, hgB⟩ : ∃ g, Z1.heap.size = g := ⟨_, rfl⟩
          rw [hgB] at HBx ⊢
          clear hgB
          generalize Z1.alloc (.cells #[.int .i64 y.i, .int .i64 y.c, .slice pa y.f.length pc] 54) = Z2 at *
          refine wpAnyH_ready (rs := [9]) (by kernel_rfl) (by simp) (AllReadyH.cons rfl (fun K hK => ?_) AllReadyH.nil)
          refine step_appL (by kernel_rfl) _ _ 31 rfl (g5 + 1) wr.heap.size Z0.heap.size 54 i1 (.agg #[.int .i64 0, .int .i64 0, .slice none 0 0]) 3 40 Tryz.underlying31 HJ.out.1 HJ.out.2.1 HJ.out.2.2.1 HJ.out.2.2.2 rfl (by decide) (.slice va xs.length vc) xs.length (xs.flatMap obD) ([]) ([.val r9]) ([]) ([r9]) (by kernel_rfl) HOo.out rfl gB 1 [.int .i64 y.i, .int .i64 y.c, .slice pa y.f.length pc] (obD y) (by kernel_rfl) HBx.out HD.out rfl (by simp [Value.oneCell']) (by omega) (by decide) (by omega) (by omega) (by omega) ?_
          intro g9 c9 w9 o9 gr9 hq9
          obtain ⟨hb9, bn9⟩ := Bv.app (v1 := []) (v2 := [r9]) BO.out 0 rfl o9 gr9 (fun q hq => (hq9 q hq).1)
          replace HZ := hide (HZ.out.grown gr9 (by omega) (fun q hq => by have := hq9 q hq; omega))
          have HB9 := hide hb9
          have BN := hide bn9
          have hz9 := gr9.size
          clear o9 gr9 hq9 hb9 bn9 BO HOo HBx HD HW
          refine hK.out _ _ (HCL.out _ HZ.out) (fun hHeld => ?_)
          clear hK K
          simp only [Act.put, List.setIfInBounds_toArray]
          refine wpAnyH_take (i := 10) (v := ?_) rfl (by kernel_rfl) (by kernel_rfl) (by kernel_rfl) (fun _ _ _ h => h) (Or.inl ⟨by rfl, ?_⟩) (by assumption) ?_
          rotate_left
          · intro w' hSw
            try dsimp only at hSw
            go_simp; try rfl
          simp only [List.getElem_toArray, List.getElem_cons_succ, List.getElem_cons_zero, Act.put, List.setIfInBounds_toArray, List.set_cons_zero, List.set_cons_succ]
          refine wpAnyH_ready (rs := [11]) (by kernel_rfl) (by simp) (AllReadyH.cons rfl (fun K hK => ?_) AllReadyH.nil)
          have k9 := (box_of HB9.out).1 0 _ rfl
          have z9 := (box_of HB9.out).2 0
          refine step_store1 (by kernel_rfl) (by kernel_rfl) 31 _ _ rfl (g5) 0 (.slice (some ⟨g9, 0, none⟩) (xs.length + 1) c9) (by kernel_rfl) (by kernel_rfl) rfl _ k9 z9 (by kernel_rfl) ?_
          replace HZ := hide (HZ.out.setCell (p := ⟨g5, 0, none⟩) (by dsimp only; omega) (.slice (some ⟨g9, 0, none⟩) (xs.length + 1) c9))
          clear k9 z9 HB9
          refine hK.out _ _ (HCL.out _ HZ.out) (fun hHeld => ?_)
          clear hK K
          try simp only [Act.put, List.setIfInBounds_toArray, List.set_cons_zero, List.set_cons_succ]
          generalize w9.setCell ⟨g5, 0, none⟩ (.slice (some ⟨g9, 0, none⟩) (xs.length + 1) c9) = Y at *
          refine wpAnyH_done (by kernel_rfl) ?_ _
          go_wp2
          refine ⟨⟨xs ++ [y], ?_, HXS2, ?_, some ⟨g9, 0, none⟩, c9, hide ?_⟩, ?_⟩
          · rw [List.length_append]; simp only [List.length_cons, List.length_nil]; omega
          · rw [List.length_append]; simp only [List.length_cons, List.length_nil]; go_num
          · have h := BN.out
            rw [obs_snoc, List.length_append]
            exact h
          · simp [intOf]; omega
        · skip
          refine step_runX (some 25) (by kernel_rfl) (by kernel_rfl) (v := .slice (some ⟨Z1.heap.size, 0, none⟩) 1 1) (w' := Z1.alloc (.cells #[.int .i64 y.i, .int .i64 y.c, .slice pa y.f.length pc] 54)) (by go_simp; try rfl) ?_
          have b9 := (Below.refl Z1.heap.size Z1).alloc (Nat.le_refl _) (.cells #[.int .i64 y.i, .int .i64 y.c, .slice pa y.f.length pc] 54)
          have HBx := hide (Box.new Z1 #[.int .i64 y.i, .int .i64 y.c, .slice pa y.f.length pc] 54)
          have hz2 := b9.size
          replace HZ := hide (HZ.out.trans (b9.mono (by omega)))
          replace HW := hide (HW.out.trans (b9.mono HW.out.size))
          replace BO := hide (BO.out.call b9)
          replace HOo := hide (HOo.out.below b9)
          replace HD := hide ((HD.out.below b9).up b9.size)
          clear b9
          refine hK.out _ _ (HCL.out _ HZ.out) (fun hHeld => ?_)
          clear hK K
          simp only [Act.put, List.setIfInBounds_toArray, List.set_cons_zero, List.set_cons_succ]
          obtain ⟨gB, hgB⟩ : ∃ g, Z1.heap.size = g := ⟨_, rfl⟩
          rw [hgB] at HBx ⊢
          clear hgB
          generalize Z1.alloc (.cells #[.int .i64 y.i, .int .i64 y.c, .slice pa y.f.length pc] 54) = Z2 at *
          refine wpAnyH_ready (rs := [1]) (by kernel_rfl) (by simp) (AllReadyH.cons rfl (fun K hK => ?_) AllReadyH.nil)
          have e9 := (box_of BO.out.box).1 0 _ rfl
          refine step_runX (some 18) (by kernel_rfl) (by kernel_rfl) (v := .slice va xs.length vc) (w' := Z2) (by go_simp; try rfl) ?_
          clear e9
          refine hK.out _ _ (HCL.out _ HZ.out) (fun hHeld => ?_)
          clear hK K
          simp only [Act.put, List.setIfInBounds_toArray, List.set_cons_zero, List.set_cons_succ]
          refine wpAnyH_ready (rs := [9]) (by kernel_rfl) (by simp) (AllReadyH.cons rfl (fun K hK => ?_) AllReadyH.nil)
          refine step_appL (by kernel_rfl) _ _ 31 rfl (g5 + 1) wr.heap.size Z0.heap.size 54 i1 (.agg #[.int .i64 0, .int .i64 0, .slice none 0 0]) 3 40 Tryz.underlying31 HJ.out.1 HJ.out.2.1 HJ.out.2.2.1 HJ.out.2.2.2 rfl (by decide) (.slice va xs.length vc) xs.length (xs.flatMap obD) ([]) ([.val r9]) ([]) ([r9]) (by kernel_rfl) HOo.out rfl gB 1 [.int .i64 y.i, .int .i64 y.c, .slice pa y.f.length pc] (obD y) (by kernel_rfl) HBx.out HD.out rfl (by simp [Value.oneCell']) (by omega) (by decide) (by omega) (by omega) (by omega) ?_
          intro g9 c9 w9 o9 gr9 hq9
          obtain ⟨hb9, bn9⟩ := Bv.app (v1 := []) (v2 := [r9]) BO.out 0 rfl o9 gr9 (fun q hq => (hq9 q hq).1)
          replace HZ := hide (HZ.out.grown gr9 (by omega) (fun q hq => by have := hq9 q hq; omega))
          have HB9 := hide hb9
          have BN := hide bn9
          have hz9 := gr9.size
          clear o9 gr9 hq9 hb9 bn9 BO HOo HBx HD HW
          refine hK.out _ _ (HCL.out _ HZ.out) (fun hHeld => ?_)
          clear hK K
          simp only [Act.put, List.setIfInBounds_toArray]
          refine wpAnyH_take (i := 10) (v := ?_) rfl (by kernel_rfl) (by kernel_rfl) (by kernel_rfl) (fun _ _ _ h => h) (Or.inl ⟨by rfl, ?_⟩) (by assumption) ?_
          rotate_left
          · intro w' hSw
            try dsimp only at hSw
            go_simp; try rfl
          simp only [List.getElem_toArray, List.getElem_cons_succ, List.getElem_cons_zero, Act.put, List.setIfInBounds_toArray, List.set_cons_zero, List.set_cons_succ]
          refine wpAnyH_ready (rs := [11]) (by kernel_rfl) (by simp) (AllReadyH.cons rfl (fun K hK => ?_) AllReadyH.nil)
          have k9 := (box_of HB9.out).1 0 _ rfl
          have z9 := (box_of HB9.out).2 0
          refine step_store1 (by kernel_rfl) (by kernel_rfl) 31 _ _ rfl (g5) 0 (.slice (some ⟨g9, 0, none⟩) (xs.length + 1) c9) (by kernel_rfl) (by kernel_rfl) rfl _ k9 z9 (by kernel_rfl) ?_
          replace HZ := hide (HZ.out.setCell (p := ⟨g5, 0, none⟩) (by dsimp only; omega) (.slice (some ⟨g9, 0, none⟩) (xs.length + 1) c9))
          clear k9 z9 HB9
          refine hK.out _ _ (HCL.out _ HZ.out) (fun hHeld => ?_)
          clear hK K
          try simp only [Act.put, List.setIfInBounds_toArray, List.set_cons_zero, List.set_cons_succ]
          generalize w9.setCell ⟨g5, 0, none⟩ (.slice (some ⟨g9, 0, none⟩) (xs.length + 1) c9) = Y at *
          refine wpAnyH_done (by kernel_rfl) ?_ _
          go_wp2
          refine ⟨⟨xs ++ [y], ?_, HXS2, ?_, some ⟨g9, 0, none⟩, c9, hide ?_⟩, ?_⟩
          · rw [List.length_append]; simp only [List.length_cons, List.length_nil]; omega
          · rw [List.length_append]; simp only [List.length_cons, List.length_nil]; go_num
          · have h := BN.out
            rw [obs_snoc, List.length_append]
            exact h
          · simp [intOf]; omega
    · have hxe : xs = m.o := by
        have h1 := HXS.out
        have h2 : xs.length = m.o.length := by omega
        rw [h2, List.take_length] at h1
        exact h1
      subst hxe
      have hr9 := HR9.out
      subst hr9
      have q0 := (box_of E0r.out).1 0 _ rfl
      have k0 := (box_of BOr.out.box).1 0 _ rfl
      have k1 := (box_of BOr.out.box).1 1 _ rfl
      have l0 := (box_of E1r.out).1 0 _ rfl
      have l1 := (box_of E1r.out).1 1 _ rfl
      have lz := (box_of E1r.out).2
      go_wp2
      refine bodyPost_ret (v := .agg #[.slice va m.o.length vc, .slice a9 m.l.length c9]) (results_one Tryz.results20 _ _ _ rfl (loadMm (putN2 E1r.out _ _))) rfl ?_
      refine ⟨_, _, rfl, ?_, (HBr.out.setCell (by dsimp only; omega) _).setCell (by dsimp only; omega) _⟩
      have O1 := OwnDL.mid (c1 := []) (v1 := []) BOr.out.own rfl
      have O2 := HO9.out.same (w' := wr) (fun q hq hq2 _ => BOr.out.bel.block q (by omega))
      refine ((OwnDL.same (b := W.heap.size) (OwnDL.consR (O1.mono (Nat.le_succ g5)) (OwnDL.cons O2 (ownDL_nil _ g5 g5) hz9 (Nat.le_refl _)) hz9 (by omega)) (fun q hq hq2 _ => ?_)).mono (by omega)).up (by simp only [World.size_setCell]; omega)
      rw [heap_setCell_other _ _ _ _ (by dsimp only; omega), heap_setCell_other _ _ _ _ (by dsimp only; omega)]
end Go.Proofs.YtelpdlhgjepgbaaGreat
