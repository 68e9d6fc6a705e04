/-
  One element put into a row of one's own (slices.Insert).
-/
import Derived.Test.YtelpdlhgjepgbaaGreatJ18
import Derived.Test.YtelpdlhgjepgbaaGreatJ28
import Derived.Test.YtelpdlhgjepgbaaGreatJ33
import Derived.Test.YtelpdlhgjepgbaaGreatJ22
import Derived.Lib.Overlaps
import Derived.Lib.AppendZerosOnto
import Derived.Deep.RegionHeldLaw
import Derived.Deep.RegionLaw
namespace Go.Proofs.YtelpdlhgjepgbaaGreat
open Go.RowKit

theorem run_copy3 {P : Program} (w : World) (dT sT ty elem : TypeId) (g o dLen dCap : Nat) (a : Addr) (sLen sCap sz m : Nat) (A B C : List Value) (t : TypeId) (cs : List Value)
    (hu : P.underlying dT = some (.slice elem)) (hs : (P.info? elem).map (·.size) = some sz)
    (hg : w.heap[g]? = some (.cells (A ++ B ++ C).toArray t (0, 0))) (hm : Nat.min sLen dLen = m) (hn : cs.length = m * sz) (ho : A.length = o) (hB : B.length = cs.length)
    (hsrc : ∀ j v, cs[j]? = some v → w.cell? (a.add j) = some v) (h1 : ∀ v ∈ cs, v.oneCell' = true) :
    (Builtin.copy_ #[dT, sT] ty #[.slice (some ⟨g, o, none⟩) dLen dCap, .slice (some a) sLen sCap]).run P w = .ok (goInt m) (w.setRow g (A ++ cs ++ C).toArray) := by
  have hl := run_loadCells_list (P := P) w a cs hsrc
  have hst := run_storeCells_at P g o t cs 0 (A ++ B ++ C).toArray w hg (by simp; omega) h1
  have e : (A ++ B ++ C).toArray.toList.take o ++ cs ++ (A ++ B ++ C).toArray.toList.drop (o + cs.length) = A ++ cs ++ C := by
    rw [← ho, ← hB]
    simp
  simp only [Nat.add_zero] at hst
  rw [e] at hst
  have hmm : min sLen dLen = m := hm
  cases hq : P.info? elem with
  | none => simp [hq] at hs
  | some i =>
    have hi : i.size = sz := by simpa [hq] using hs
    rw [hn] at hl
    simp [Builtin.copy_, run_underlying hu, Builtin.lenOf, Builtin.firstCells, sizeOf, typeInfo, hq, hi, hmm, hl, hst]
theorem step_copyR {P : Program} {ops : Array Oper} {o : Oper} {a : Act} {w : World} {K : Act → World → Prop} {Q : Exit → Act → World → Prop} {E : Prop}
    (hg : o.guard = none) (d x : Operand) (dT sT : TypeId) (hop : o.op = Op.call { callee := Callee.builtin Builtin.copy, args := #[d, x], argTypes := #[dT, sT] })
    (v u : Value) (hd : a.eval d = v) (hx : a.eval x = u) {v' : Value} {w' : World} (hr : (Builtin.copy_ #[dT, sT] o.type #[v, u]).run P w = .ok v' w') (hK : K (a.put o.dst v') w') :
    if Region.wanted o (yielded ops a.tmps) = true then Oper.wp P o a w K Q else E := by
  have hw : Region.wanted o (yielded ops a.tmps) = true := by simp [Region.wanted, hg]
  rw [if_pos hw]
  unfold Oper.wp
  simp [execOp, hop, resolve, invoke, builtin, hd, hx, hr, Result.andThen]
  exact hK
theorem wpList_copyR {P : Program} (w : World) {ops : Array Oper} {rest : List Oper} {o : Oper} {a : Act} {Q : Exit → Act → World → Prop} (hgd : o.guard = none) (d s : Operand) (t t' : TypeId)
    (ho : o.op = .call { callee := .builtin .copy, args := #[d, s], argTypes := #[t, t'] }) (v u : Value) (hd : a.eval d = v) (hs : a.eval s = u) {v' : Value} {w' : World}
    (hr : (Builtin.copy_ #[t, t'] o.type #[v, u]).run P w = .ok v' w') (h : wpList P ops Q rest (a.put o.dst v') w') : wpList P ops Q (o :: rest) a w := by
  refine wpList_plain hgd fun K hK => ?_
  unfold Oper.wp
  simp only [execOp, ho, resolve, invoke, builtin, Sem.run_bind, Sem.run_pure, Result.andThen_ok, List.map_toArray, List.map_cons, List.map_nil, hd, hs, hr]
  exact hK _ _ h
/-- What slices.Insert leaves. -/
def insP (w w' : World) (b : Nat) (T : TypeId) (k : Nat) (v : Value) (n : Nat) (us x : List Value) (i : Nat) (e : Ending) : Prop :=
  ∃ v', e = .returned v' ∧ w'.ownsRow b T k v' (n + 1) (us.take (i * k) ++ x ++ us.drop (i * k)) ∧ w.grownBy w' v.ownBlock ∧ (v'.ownBlock = v.ownBlock ∨ v'.ownBlock = some w.heap.size)
theorem zeroCells_len (z : Array Value) (n k : Nat) (hz : z.size = k) : (Builtin.zeroCells z n).size = n * k := by
  subst hz
  simp [Builtin.zeroCells]
theorem one_all {w : World} {B : Nat} : ∀ {ds : List Dt} {us : List Value}, (∀ d ∈ ds, ∀ u, d = .val u → u.oneCell' = true) → ReadsL w B ds us → ∀ u ∈ us, u.oneCell' = true
  | [], us, _, h, u, hu => by rw [readsL_nil h] at hu; simp at hu
  | d :: ds, us, hf, h, u, hu => by
    obtain ⟨u1, us', rfl, h1, h2⟩ := readsL_cons h
    rcases List.mem_cons.1 hu with rfl | hu
    · cases d with
      | val x =>
        obtain rfl := reads_val h1
        exact hf _ (by simp) _ rfl
      | row T k n cs =>
        unfold Reads at h1
        obtain ⟨_, ⟨_, a, c, rfl, _⟩, _⟩ := h1
        rfl
    · exact one_all (fun d hd => hf d (by simp [hd])) h2 u hu
theorem OwnDL.rowI {w : World} {b hi T k n : Nat} {cs1 cs2 c1 c2 : List Dt} {v1 v2 : List Value} {v : Value} (h : OwnDL w b hi (c1 ++ .row T k n (cs1 ++ cs2) :: c2) (v1 ++ v :: v2)) (hl : v1.length = c1.length) (n' : Nat) :
    ∃ vs1 vs2, vs1.length = cs1.length ∧ w.ownsRow b T k v n (vs1 ++ vs2) ∧ ReadsL w w.heap.size (cs1 ++ cs2) (vs1 ++ vs2) ∧ (∀ q, v.ownBlock = some q → b ≤ q ∧ q < hi) ∧ ∀ (us : List Value) (ds : List Dt) (m : Nat), OwnDL w m w.heap.size ds us → hi ≤ m → b ≤ m → ∀ (v' : Value) (w' : World), w'.ownsRow b T k v' (n') (vs1 ++ us ++ vs2) → w.grownBy w' v.ownBlock → (v'.ownBlock = v.ownBlock ∨ v'.ownBlock = some w.heap.size) →
      OwnDL w' b w'.heap.size (c1 ++ .row T k (n') (cs1 ++ ds ++ cs2) :: c2) (v1 ++ v' :: v2) := by
  obtain ⟨F, h1, h2, h3⟩ := h
  obtain ⟨u1, u2, F1, F2, e, rfl, h4, h5⟩ := OwnsL.app h1
  obtain ⟨rfl, rfl⟩ := List.append_inj e (by rw [h4.len, hl])
  obtain ⟨y, us, G1, G2, e2, rfl, h6, h7⟩ := ownsL_cons h5
  cases e2
  unfold Owns at h6
  obtain ⟨vs, G, h8, h9, rfl⟩ := h6
  have l1 := OwnsL.lt _ _ _ h4
  have l2 := OwnsL.lt _ _ _ h7
  have l3 := OwnsL.lt _ _ _ h9
  have hv : ∀ q, v.ownBlock = some q → b ≤ q ∧ q < hi := fun q hq => ⟨(World.ownsRow.lt h8 q hq).1, h3 q (by rw [hq]; simp)⟩
  obtain ⟨vs1, vs2, Ga, Gb, rfl, rfl, h9a, h9b⟩ := OwnsL.app h9
  refine ⟨vs1, vs2, h9a.len, h8, OwnsL.reads (Nat.le_refl _) _ _ _ h9, hv, ?_⟩
  obtain ⟨G, hG⟩ : ∃ G, Ga ++ Gb = G := ⟨_, rfl⟩
  rw [hG] at h2 h3 l3
  intro us ds m hds hm hbm v' w' ho' hg' hat
  obtain ⟨F', g1, g2, g3⟩ := hds
  have l4 := OwnsL.lt _ _ _ g1
  have nd := List.nodup_append.1 h2
  have nd2 := List.nodup_append.1 nd.2.1
  have nd3 := List.nodup_append.1 nd2.1
  have t1 : ∀ q ∈ F1, q < hi := fun q hq => h3 q (by simp [hq])
  have t2 : ∀ q ∈ G2, q < hi := fun q hq => h3 q (by simp [hq])
  have t3 : ∀ q ∈ G, q < hi := fun q hq => h3 q (by simp [hq])
  have d1 : ∀ q ∈ F1, v.ownBlock ≠ some q := fun q hq e => nd.2.2 q hq q (by simp [e]) rfl
  have d2 : ∀ q ∈ G2, v.ownBlock ≠ some q := fun q hq e => nd2.2.2 q (by simp [e]) q hq rfl
  have d3 : ∀ q ∈ G, v.ownBlock ≠ some q := fun q hq e => nd3.2.2 q (by simp [e]) q hq rfl
  have keep : ∀ q, q < w.heap.size → v.ownBlock ≠ some q → w'.heap[q]? = w.heap[q]? := fun q hq hne => hg'.block q hq (fun e => hne e.symm)
  have d4 : ∀ q ∈ F', v.ownBlock ≠ some q := fun q hq e => by have := (hv q e).2; have := (l4 q hq).1; omega
  have k1 : OwnsL w' b c1 v1 F1 := h4.same (fun q hq => keep q (l1 q hq).2 (d1 q hq))
  have k2 : OwnsL w' b c2 v2 G2 := h7.same (fun q hq => keep q (l2 q hq).2 (d2 q hq))
  have k3a : OwnsL w' b cs1 vs1 Ga := h9a.same (fun q hq => keep q (l3 q (by rw [← hG]; simp [hq])).2 (d3 q (by rw [← hG]; simp [hq])))
  have k3b : OwnsL w' b cs2 vs2 Gb := h9b.same (fun q hq => keep q (l3 q (by rw [← hG]; simp [hq])).2 (d3 q (by rw [← hG]; simp [hq])))
  have k4 : OwnsL w' b ds us F' := (g1.mono hbm).same (fun q hq => keep q (l4 q hq).2 (d4 q hq))
  have a1 : ∀ q, v'.ownBlock = some q → q ∉ F1 ∧ q ∉ G2 ∧ q ∉ G ∧ q ∉ F' := fun q hq => by
    rcases hat with e | e
    · rw [e] at hq
      exact ⟨fun h => d1 q h hq, fun h => d2 q h hq, fun h => d3 q h hq, fun h => d4 q h hq⟩
    · rw [e] at hq
      cases hq
      exact ⟨fun h => by have := (l1 _ h).2; omega, fun h => by have := (l2 _ h).2; omega, fun h => by have := (l3 _ h).2; omega, fun h => by have := (l4 _ h).2; omega⟩
  have hperm : (F1 ++ ((v'.ownBlock.toList ++ (Ga ++ F' ++ Gb)) ++ G2)).Perm (F1 ++ ((v'.ownBlock.toList ++ (G ++ F')) ++ G2)) := by
    refine List.Perm.append_left _ (List.Perm.append_right _ (List.Perm.append_left _ ?_))
    rw [← hG, List.append_assoc, List.append_assoc]
    exact List.Perm.append_left _ List.perm_append_comm
  refine ⟨F1 ++ ((v'.ownBlock.toList ++ (Ga ++ F' ++ Gb)) ++ G2), k1.join (ownsL_mk ?_ k2), ?_, ?_⟩
  · unfold Owns
    exact ⟨vs1 ++ us ++ vs2, Ga ++ F' ++ Gb, ho', (k3a.join k4).join k3b, rfl⟩
  · rw [hperm.nodup_iff]
    refine List.nodup_append.2 ⟨nd.1, List.nodup_append.2 ⟨List.nodup_append.2 ⟨by cases v'.ownBlock <;> simp, List.nodup_append.2 ⟨nd3.2.1, g2, fun x hx y hy e => ?_⟩, fun x hx y hy e => ?_⟩, nd2.2.1, fun x hx y hy e => ?_⟩, fun x hx y hy e => ?_⟩
    · subst e; have := t3 x hx; have := (l4 x hy).1; omega
    · subst e
      have := a1 x (by simpa using hx)
      rcases List.mem_append.1 hy with hy | hy
      · exact this.2.2.1 hy
      · exact this.2.2.2 hy
    · subst e
      rcases List.mem_append.1 hx with hx | hx
      · exact (a1 x (by simpa using hx)).2.1 hy
      · rcases List.mem_append.1 hx with hx | hx
        · exact nd2.2.2 x (by simp [hx]) x hy rfl
        · have := t2 x hy; have := (l4 x hx).1; omega
    · subst e
      rcases List.mem_append.1 hy with hy | hy
      · rcases List.mem_append.1 hy with hy | hy
        · exact (a1 x (by simpa using hy)).1 hx
        · rcases List.mem_append.1 hy with hy | hy
          · exact nd.2.2 x hx x (by simp [hy]) rfl
          · have := t1 x hx; have := (l4 x hy).1; omega
      · exact nd.2.2 x hx x (by simp [hy]) rfl
  · intro q hq
    have hsz := hg'.size
    rw [hperm.mem_iff] at hq
    rcases List.mem_append.1 hq with hq | hq
    · have := (l1 q hq).2; omega
    · rcases List.mem_append.1 hq with hq | hq
      · rcases List.mem_append.1 hq with hq | hq
        · exact (World.ownsRow.lt ho' q (by simpa using hq)).2
        · rcases List.mem_append.1 hq with hq | hq
          · have := (l3 q hq).2; omega
          · have := (l4 q hq).2; omega
      · have := (l2 q hq).2; omega
set_option maxRecDepth 100000 in
set_option maxHeartbeats 8000000 in
theorem insOb (w : World) (b : Nat) (v : Value) (n i : Nat) (us : List Value) (hown : w.ownsRow b 54 3 v n us) (vb : Nat) (x : List Value) (hxl : x.length = 3) (hblk : w.heap[vb]? = some (.cells x.toArray 54 (0, 0)))
    (hne : ∀ q, v.ownBlock = some q → q ≠ vb) (hi : i ≤ n) (hn : n ≤ 2000000) (h1 : ∀ u ∈ us, u.oneCell' = true) (h1x : ∀ u ∈ x, u.oneCell' = true) (hb : b ≤ w.heap.size) :
    Calls Tryz.prog 72 #[v, .int .i64 (i : Int), .slice (some ⟨vb, 0, none⟩) 1 1] w fun e w' => insP w w' b 54 3 v n us x i e := by
  obtain ⟨i0, hi0, hz0, hz1, hz2⟩ := info_parts Tryz.infoOb
  have hsz : (Tryz.prog.info? 54).map (·.size) = some 3 := by rw [hi0]; simp [hz1]
  have hul := hown.1
  have hvc : ∀ j u, x[j]? = some u → w.cell? ⟨vb, j, none⟩ = some u := fun j u hu => by
    have hj := (List.getElem?_eq_some_iff.1 hu).1
    simp only [World.cell?, hblk]
    simpa using hu
  by_cases hin : i = n
  · subst hin
    have e1 : us.take (i * 3) = us := List.take_of_length_le (by omega)
    have e2 : us.drop (i * 3) = [] := List.drop_eq_nil_of_le (by omega)
    have HP := hide e1
    have HP2 := hide e2
    clear e1 e2
    have hlr := hown.2
    rcases hlr with ⟨rfl, rfl⟩ | ⟨g, cap, cur, rfl, hbg, hgg, hnc, hcm, hcs, hct⟩
    · go_enter Tryz.func72, Tryz.ntmps72
      go_wp2_with (at_builtin; refine wpList_append_own_at w rfl _ _ 31 rfl b 54 i0 (.agg #[.int .i64 0, .int .i64 0, .slice none 0 0]) 3 40 Tryz.underlying31 hi0 hz0 hz1 hz2 rfl (by decide) _ 0 us rfl hown ⟨vb, 0, none⟩ 1 1 x rfl (by omega) (fun j u hu => by rw [Addr.add_lit, Nat.zero_add]; exact hvc j u hu) h1x (by unfold maxLen; omega) (by omega) hb ?_; intro v' w' ho' hg' _ hat; have HO := hide ho'; have HG := hide hg'; have HA := hide hat; clear ho' hg' hat)
      go_ret
      exact ⟨_, rfl, by rw [HP.out, HP2.out, List.append_nil]; exact HO.out, HG.out, HA.out⟩
    · have HC := hide hcm
      unfold maxLen at hcm
      clear hgg hcs hct
      go_enter Tryz.func72, Tryz.ntmps72
      go_wp2_with (at_builtin; refine wpList_append_own_at w rfl _ _ 31 rfl b 54 i0 (.agg #[.int .i64 0, .int .i64 0, .slice none 0 0]) 3 40 Tryz.underlying31 hi0 hz0 hz1 hz2 rfl (by decide) _ i us rfl hown ⟨vb, 0, none⟩ 1 1 x rfl (by omega) (fun j u hu => by rw [Addr.add_lit, Nat.zero_add]; exact hvc j u hu) h1x (by unfold maxLen; omega) (by omega) hb ?_; intro v' w' ho' hg' _ hat; have HO := hide ho'; have HG := hide hg'; have HA := hide hat; clear ho' hg' hat)
      all_goals go_ret
      all_goals exact ⟨_, rfl, by rw [HP.out, HP2.out, List.append_nil]; exact HO.out, HG.out, HA.out⟩
  · have hlt : i < n := by omega
    obtain ⟨g, cap, cur, rfl, hbg, hgg, hnc, hcm, hcs, hct⟩ : ∃ g cap cur, v = .slice (some ⟨g, 0, none⟩) n cap ∧ b ≤ g ∧ w.heap[g]? = some (.cells cur 54 (0, 0)) ∧ n ≤ cap ∧ cap ≤ maxLen ∧ cur.size = cap * 3 ∧ cur.toList.take (n * 3) = us := by
      rcases hown.2 with ⟨_, h0⟩ | h
      · omega
      · exact h
    have hgv : g ≠ vb := hne g rfl
    obtain ⟨U1, hU1⟩ : ∃ U, us.take (i * 3) = U := ⟨_, rfl⟩
    obtain ⟨U2, hU2⟩ : ∃ U, us.drop (i * 3) = U := ⟨_, rfl⟩
    obtain ⟨tl, htl⟩ : ∃ t, cur.toList.drop (n * 3) = t := ⟨_, rfl⟩
    have hus : us = U1 ++ U2 := by rw [← hU1, ← hU2, List.take_append_drop]
    have hcl : cur.toList = U1 ++ U2 ++ tl := by rw [← hus, ← hct, ← htl, List.take_append_drop]
    have hl1 : U1.length = i * 3 := by rw [← hU1, List.length_take]; omega
    have hl2 : U2.length = (n - i) * 3 := by rw [← hU2, List.length_drop]; omega
    have hl3 : tl.length = (cap - n) * 3 := by
      rw [← htl, List.length_drop, Array.length_toList, hcs]
      omega
    have h12 : ∀ u ∈ U2, u.oneCell' = true := fun u hu => h1 u (by rw [hus]; simp [hu])
    have hgg' : w.heap[g]? = some (.cells (U1 ++ U2 ++ tl).toArray 54 (0, 0)) := by rw [← hcl]; simpa using hgg
    have hsrc : ∀ j u, U2[j]? = some u → w.cell? ⟨g, i * 3 + j, none⟩ = some u := fun j u hu => by
      simp only [World.cell?, hgg']
      rw [List.getElem?_toArray, List.append_assoc, List.getElem?_append_right (by omega), hl1, Nat.add_sub_cancel_left, List.getElem?_append_left (List.getElem?_eq_some_iff.1 hu).1]
      exact hu
    unfold maxLen at hcm
    clear hcs hct hgg htl hcl
    have hci : ¬ (cap = i) := by omega
    have hin' : (i : Int) ≤ (n : Int) := by omega
    have hne' : ¬ ((i : Int) = (n : Int)) := by omega
    have HUS := hide hus
    have HU1 := hide hU1
    have HU2 := hide hU2
    clear hown hul hU1 hU2 h1
    by_cases hroom : n + 1 ≤ cap
    · obtain ⟨D1, D2, T2, hd, hd1, hd2, hd3⟩ : ∃ D1 D2 T2, U2 ++ tl = D1 ++ D2 ++ T2 ∧ D1.length = 3 ∧ D2.length = (n - i) * 3 ∧ T2.length = (cap - n) * 3 - 3 := by
        have hh : (U2 ++ tl).length = (n - i) * 3 + (cap - n) * 3 := by rw [List.length_append, hl2, hl3]
        have hge : 3 ≤ (cap - n) * 3 := by omega
        refine ⟨(U2 ++ tl).take 3, ((U2 ++ tl).drop 3).take ((n - i) * 3), ((U2 ++ tl).drop 3).drop ((n - i) * 3), ?_, ?_, ?_, ?_⟩
        · rw [List.append_assoc, List.take_append_drop, List.take_append_drop]
        · rw [List.length_take, hh]; omega
        · rw [List.length_take, List.length_drop, hh]; omega
        · rw [List.length_drop, List.length_drop, hh]; omega
      have hg1 : w.drew.heap[g]? = some (.cells ((U1 ++ D1) ++ D2 ++ T2).toArray 54 (0, 0)) := by
        show w.heap[g]? = _
        rw [hgg', List.append_assoc, hd]
        simp
      obtain ⟨W1, hW1⟩ : ∃ W1, W1 = w.drew.setRow g ((U1 ++ D1) ++ U2 ++ T2).toArray := ⟨_, rfl⟩
      have hcp1 : ∀ ty dc sc, (Builtin.copy_ #[31, 31] ty #[.slice (some ⟨g, (i + 1) * 3, none⟩) (n - i) dc, .slice (some ⟨g, i * 3, none⟩) (n + 1 - i) sc]).run Tryz.prog w.drew = .ok (goInt ((n - i : Nat) : Int)) W1 := fun ty dc sc => by
        rw [hW1]
        exact run_copy3 w.drew _ _ ty 54 g ((i + 1) * 3) (n - i) dc ⟨g, i * 3, none⟩ (n + 1 - i) sc 3 (n - i) (U1 ++ D1) D2 T2 54 U2 Tryz.underlying31 hsz hg1 (by show min _ _ = _; omega) hl2 (by rw [List.length_append, hl1, hd1]; omega) (by rw [hd2, hl2]) (fun j u hu => by rw [Addr.add_lit]; exact hsrc j u hu) h12
      have hg2 : W1.heap[g]? = some (.cells (U1 ++ D1 ++ (U2 ++ T2)).toArray 54 (0, 0)) := by
        rw [hW1, ← List.append_assoc]
        exact setRow_heap _ _ _ _ _ _ hg1
      have hv2 : ∀ j u, x[j]? = some u → W1.cell? ⟨vb, j, none⟩ = some u := fun j u hu => by
        rw [hW1, World.cell?_of_block (w := w.drew) (setRow_other _ _ _ _ (fun e => hgv e.symm))]
        exact hvc j u hu
      obtain ⟨W2, hW2⟩ : ∃ W2, W2 = W1.setRow g (U1 ++ x ++ (U2 ++ T2)).toArray := ⟨_, rfl⟩
      have hcp2 : ∀ ty dc, (Builtin.copy_ #[31, 31] ty #[.slice (some ⟨g, i * 3, none⟩) (n + 1 - i) dc, .slice (some ⟨vb, 0, none⟩) 1 1]).run Tryz.prog W1 = .ok (goInt 1) W2 := fun ty dc => by
        rw [hW2]
        exact run_copy3 W1 _ _ ty 54 g (i * 3) (n + 1 - i) dc ⟨vb, 0, none⟩ 1 1 3 1 U1 D1 (U2 ++ T2) 54 x Tryz.underlying31 hsz hg2 (by show min _ _ = _; omega) (by omega) hl1 (by rw [hd1, hxl]) (fun j u hu => by rw [Addr.add_lit, Nat.zero_add]; exact hv2 j u hu) h1x
      have hov : ∀ lb cb, (callFunc 89 #[.slice (some ⟨vb, 0, none⟩) 1 1, .slice (some ⟨g, (i + 1) * 3, none⟩) lb cb]).run Tryz.prog w = .ok (.value (.bool false)) w := fun lb cb => by
        rw [run_callFunc_extern Tryz.func89 (by kernel_rfl) (by kernel_rfl) (by kernel_rfl) (e := Extern.SlicesOverlaps.overlaps #[31, 31] #[4]) (by kernel_rfl),
          Lib.run_overlaps_apart w 31 4 54 Tryz.underlying31 3 (fun w => by simp [sizeOf, typeInfo, hi0, hz1]) ⟨vb, 0, none⟩ ⟨g, (i + 1) * 3, none⟩ 1 1 lb cb (fun e => hgv e.symm) 54 54 x.length (U1 ++ U2 ++ tl).length (by simp [World.shape?, hblk]) (by simp [World.shape?, hgg']) (by simp only [List.length_append]; omega) (by simp [World.frozen?, hblk]) (by simp [World.frozen?, hblk])]
        rfl
      have HF : Hid (insP w W2 b 54 3 (.slice (some ⟨g, 0, none⟩) n cap) n us x i (.returned (.slice (some ⟨g, 0, none⟩) (n + 1) cap))) := hide (by
        refine ⟨_, rfl, ⟨?_, .inr ⟨g, cap, _, rfl, hbg, by rw [hW2]; exact setRow_heap _ _ _ _ _ _ hg2, hroom, by unfold maxLen; omega, ?_, ?_⟩⟩, ?_, .inl rfl⟩
        · rw [HU1.out, HU2.out]
          simp only [List.length_append]
          omega
        · simp only [List.size_toArray, List.length_append]
          omega
        · rw [HU1.out, HU2.out, List.toList_toArray, ← List.append_assoc]
          exact List.take_left' (by simp only [List.length_append]; omega)
        · rw [hW2, hW1]
          exact ⟨rfl, rfl, rfl, by simp [World.setRow], fun q _ hq => by
            rw [setRow_other _ _ _ _ (fun e => hq (by rw [e]; rfl)), setRow_other _ _ _ _ (fun e => hq (by rw [e]; rfl))]
            rfl⟩)
      have hw1 : IntKind.i64.wrap ((i : Int) + 1) = (i : Int) + 1 := by rw [IntKind.wrap_i64]; omega
      have hb0 : (0 : Int) ≤ (i : Int) + 1 := by omega
      have hb1 : ¬ (cap = i + 1) := by omega
      have hb4 : (i : Int) ≤ (n : Int) + 1 := by omega
      clear hgg' hsrc hd hg1 hg2 hv2 hW1 hW2 hl1 hl2 hl3 hd1 hd2 hd3 hvc hsz
      go_enter Tryz.func72, Tryz.ntmps72
      go_wp2_with (simp only [hov])
      go_region_law (refine step_copyR rfl _ _ 31 31 rfl _ _ (by simp [Act.eval, Act.put]) (by simp [Act.eval, Act.put]) (hcp1 _ _ _) ?_)
      go_wp2_with (at_builtin; refine wpList_copyR _ rfl _ _ 31 31 rfl _ _ rfl rfl (hcp2 _ _) ?_)
      go_ret
      exact HF.out
    · obtain ⟨G, hG⟩ : ∃ G, grownCap w (n + 1) cap 54 = G := ⟨_, rfl⟩
      have hG1 : n + 1 ≤ G := by rw [← hG]; exact grownCap_ge w _ _ _
      have hG2 : G ≤ maxLen := by rw [← hG]; exact grownCap_le_maxLen w (n + 1) cap 54 (by unfold maxLen; omega)
      obtain ⟨Za, hZa⟩ : ∃ Z, Builtin.zeroCells ((.agg #[.int .i64 0, .int .i64 0, .slice none 0 0]) : Value).cells (n + 1 - i) = Z := ⟨_, rfl⟩
      obtain ⟨Zb, hZb⟩ : ∃ Z, Builtin.zeroCells ((.agg #[.int .i64 0, .int .i64 0, .slice none 0 0]) : Value).cells (G - (n + 1)) = Z := ⟨_, rfl⟩
      have hla : Za.toList.length = (n + 1 - i) * 3 := by rw [← hZa, Array.length_toList]; exact zeroCells_len _ _ _ rfl
      have hlb : Zb.toList.length = (G - (n + 1)) * 3 := by rw [← hZb, Array.length_toList]; exact zeroCells_len _ _ _ rfl
      obtain ⟨Z1, Z2, hz, hd1, hd2⟩ : ∃ Z1 Z2, Za.toList = Z1 ++ Z2 ∧ Z1.length = 3 ∧ Z2.length = (n - i) * 3 := by
        refine ⟨Za.toList.take 3, Za.toList.drop 3, (List.take_append_drop _ _).symm, ?_, ?_⟩
        · rw [List.length_take, hla]; omega
        · rw [List.length_drop, hla]; omega
      obtain ⟨N, hN⟩ : ∃ N, w.heap.size = N := ⟨_, rfl⟩
      have hgN : g < N := by rw [← hN]; exact (Array.getElem?_eq_some_iff.1 hgg').1
      have hvN : vb < N := by rw [← hN]; exact (Array.getElem?_eq_some_iff.1 hblk).1
      obtain ⟨W1, hW1⟩ : ∃ W1, W1 = w.drew.alloc (.cells (U1.toArray ++ Za ++ Zb) 54) := ⟨_, rfl⟩
      have hold : (Builtin.firstCells i0.size i (.slice (some ⟨g, 0, none⟩) i cap)).run Tryz.prog w.drew = .ok U1.toArray w.drew := by
        rw [hz1]
        refine run_firstCells_some w.drew 3 i ⟨g, 0, none⟩ i cap U1 hl1 (fun j u hu => ?_)
        rw [Addr.add_lit, Nat.zero_add]
        show w.cell? _ = _
        simp only [World.cell?, hgg']
        rw [List.getElem?_toArray, List.append_assoc, List.getElem?_append_left (List.getElem?_eq_some_iff.1 hu).1]
        exact hu
      have hrz : ∀ ty, (Builtin.append_ #[31, 3] ty #[.slice (some ⟨g, 0, none⟩) i cap, .int .i64 ((n : Int) + 1 - (i : Int))]).run Tryz.prog w = .ok (.slice (some ⟨N, 0, none⟩) (n + 1) G) W1 := fun ty => by
        have h := Lib.run_append_grow_zeros w 31 3 ty 54 i0 _ .i64 .i64 Tryz.underlying31 Tryz.underlying3 hi0 hz0 (some ⟨g, 0, none⟩) i cap U1 hold (n + 1 - i) (by omega) (by omega) (by omega) (by omega) (by rw [hz2]; omega) (by rw [hz2]; exact growslice_fits (by omega) (by omega))
        rw [show i + (n + 1 - i) = n + 1 by omega, hG, hZa, hZb, hN, ← hW1, show (((n + 1 - i : Nat) : Int)) = (n : Int) + 1 - (i : Int) by omega] at h
        exact h
      have hg1 : W1.heap[N]? = some (.cells (U1 ++ Z1 ++ (Z2 ++ Zb.toList)).toArray 54 (0, 0)) := by
        rw [hW1, ← hN]
        have e : U1.toArray ++ Za ++ Zb = (U1 ++ Z1 ++ (Z2 ++ Zb.toList)).toArray := by
          apply Array.ext'
          rw [Array.toList_append, Array.toList_append, hz]
          simp
        rw [e]
        exact heap_alloc_new w.drew _
      have hold1 : ∀ q, q < N → W1.heap[q]? = w.heap[q]? := fun q hq => by
        rw [hW1]
        exact Below.heap_alloc w.drew _ q (by rw [hN.symm] at hq; exact hq)
      have hv1 : ∀ j u, x[j]? = some u → W1.cell? ⟨vb, j, none⟩ = some u := fun j u hu => by
        rw [World.cell?_of_block (w := w) (hold1 vb hvN)]
        exact hvc j u hu
      obtain ⟨W2, hW2⟩ : ∃ W2, W2 = W1.setRow N (U1 ++ x ++ (Z2 ++ Zb.toList)).toArray := ⟨_, rfl⟩
      have hcp1 : ∀ ty dc, (Builtin.copy_ #[31, 31] ty #[.slice (some ⟨N, i * 3, none⟩) (n + 1 - i) dc, .slice (some ⟨vb, 0, none⟩) 1 1]).run Tryz.prog W1 = .ok (goInt 1) W2 := fun ty dc => by
        rw [hW2]
        exact run_copy3 W1 _ _ ty 54 N (i * 3) (n + 1 - i) dc ⟨vb, 0, none⟩ 1 1 3 1 U1 Z1 (Z2 ++ Zb.toList) 54 x Tryz.underlying31 hsz hg1 (by show min _ _ = _; omega) (by omega) hl1 (by rw [hd1, hxl]) (fun j u hu => by rw [Addr.add_lit, Nat.zero_add]; exact hv1 j u hu) h1x
      have hg2 : W2.drew.heap[N]? = some (.cells ((U1 ++ x) ++ Z2 ++ Zb.toList).toArray 54 (0, 0)) := by
        show W2.heap[N]? = _
        rw [hW2, List.append_assoc (U1 ++ x)]
        exact setRow_heap _ _ _ _ _ _ hg1
      have hs2 : ∀ j u, U2[j]? = some u → W2.drew.cell? ⟨g, i * 3 + j, none⟩ = some u := fun j u hu => by
        show W2.cell? _ = _
        rw [hW2, World.cell?_of_block (w := W1) (setRow_other _ _ _ _ (by dsimp only; omega)), World.cell?_of_block (w := w) (hold1 g hgN)]
        exact hsrc j u hu
      obtain ⟨W3, hW3⟩ : ∃ W3, W3 = W2.drew.setRow N ((U1 ++ x) ++ U2 ++ Zb.toList).toArray := ⟨_, rfl⟩
      have hcp2 : ∀ ty dc sc, (Builtin.copy_ #[31, 31] ty #[.slice (some ⟨N, (i + 1) * 3, none⟩) (n - i) dc, .slice (some ⟨g, i * 3, none⟩) (n - i) sc]).run Tryz.prog W2.drew = .ok (goInt ((n - i : Nat) : Int)) W3 := fun ty dc sc => by
        rw [hW3]
        exact run_copy3 W2.drew _ _ ty 54 N ((i + 1) * 3) (n - i) dc ⟨g, i * 3, none⟩ (n - i) sc 3 (n - i) (U1 ++ x) Z2 Zb.toList 54 U2 Tryz.underlying31 hsz hg2 (by show min _ _ = _; omega) hl2 (by rw [List.length_append, hl1, hxl]; omega) (by rw [hd2, hl2]) (fun j u hu => by rw [Addr.add_lit]; exact hs2 j u hu) h12
      have HF : Hid (insP w W3 b 54 3 (.slice (some ⟨g, 0, none⟩) n cap) n us x i (.returned (.slice (some ⟨N, 0, none⟩) (n + 1) G))) := hide (by
        refine ⟨_, rfl, ⟨?_, .inr ⟨N, G, _, rfl, by omega, by rw [hW3]; exact setRow_heap _ _ _ _ _ _ hg2, hG1, hG2, ?_, ?_⟩⟩, ?_, .inr (by rw [hN]; rfl)⟩
        · rw [HU1.out, HU2.out]
          simp only [List.length_append]
          omega
        · simp only [List.size_toArray, List.length_append]
          omega
        · rw [HU1.out, HU2.out, List.toList_toArray]
          exact List.take_left' (by simp only [List.length_append]; omega)
        · rw [hW3, hW2, hW1]
          refine ⟨rfl, rfl, rfl, by simp [World.setRow], fun q hq _ => ?_⟩
          rw [setRow_other _ _ _ _ (by omega)]
          show (World.setRow _ N _).heap[q]? = _
          rw [setRow_other _ _ _ _ (by omega), ← hW1]
          exact hold1 q (by omega))
      unfold maxLen at hG2
      have hcn : (cap : Int) < (n : Int) + 1 := by omega
      have hw1 : IntKind.i64.wrap ((i : Int) + 1) = (i : Int) + 1 := by rw [IntKind.wrap_i64]; omega
      have hw3 : IntKind.i64.wrap ((n : Int) + 1 - (i : Int)) = (n : Int) + 1 - (i : Int) := by rw [IntKind.wrap_i64]; omega
      have hb0 : (0 : Int) ≤ (i : Int) + 1 := by omega
      have hb1 : ¬ (G = i + 1) := by omega
      have hb2 : ¬ (G = i) := by omega
      have hb4 : (i : Int) ≤ (n : Int) + 1 := by omega
      clear hgg' hsrc hz hg1 hg2 hs2 hv1 hold1 hW1 hW2 hW3 hl1 hl2 hl3 hla hlb hd1 hd2 hvc hsz hold hZa hZb hN hG
      go_enter Tryz.func72, Tryz.ntmps72
      go_wp2_with (first
        | (at_builtin; refine Lib.wpList_append_run _ rfl _ _ _ _ rfl _ _ rfl rfl _ _ (hrz _) ?_)
        | (at_builtin; refine wpList_copyR _ rfl _ _ 31 31 rfl _ _ rfl rfl (hcp1 _ _) ?_))
      go_region_law (refine step_copyR rfl _ _ 31 31 rfl _ _ (by simp [Act.eval, Act.put]) (by simp [Act.eval, Act.put]) (hcp2 _ _ _) ?_)
      go_wp2
      go_ret
      exact HF.out
end Go.Proofs.YtelpdlhgjepgbaaGreat
