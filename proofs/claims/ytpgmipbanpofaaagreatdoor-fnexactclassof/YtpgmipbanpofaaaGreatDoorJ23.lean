/-
  Joined: ClsOfI, DeepL, WordSpec.
-/
import Derived.Test.YtpgmipbanpofaaaGreatDoorJ21
import Derived.Test.YtpgmipbanpofaaaGreatDoorJ19
import Derived.Test.YtpgmipbanpofaaaGreatDoorJ22
import Derived.Test.YtpgmipbanpofaaaGreatDoorJ14
import Derived.Deep.RegionLaw
import Derived.Deep.AppendLies
import Derived.Test.YtpgmipbanpofaaaGreatDoorJ5
import Derived.Deep.QuietTactic
import Derived.BigQuiet
/-
  What ClassOf does, in the program.
-/
namespace Go.Proofs.YtpgmipbanpofaaaGreatDoor
open Go.RowKit

def Cl0 : Cl := ⟨⟨#[]⟩, ⟨#[]⟩, [], [], []⟩
/-- What ClassOf answers. -/
def ansCO (b : Nat) (r : Option Cl) (e : Ending) (w' : World) : Prop := ∃ u, e = .returned (.tuple #[u, .bool r.isSome]) ∧ RowCl b w' u (r.getD Cl0)
theorem rowCl_zero (b : Nat) (w : World) (hb : b ≤ w.heap.size) : RowCl b w zeroCl Cl0 := by
  refine ⟨_, _, _, rfl, ?_⟩
  unfold clD
  exact OwnDL.val (OwnDL.val (OwnDL.cons (m := b) (ownD_nil _ _ _ _ _) (OwnDL.cons (m := b) (ownD_nil _ _ _ _ _) (OwnDL.cons (m := w.heap.size) (ownD_nil _ _ _ _ _) (ownDL_nil _ _ _) hb (Nat.le_refl _)) (Nat.le_refl _) hb) (Nat.le_refl _) hb))
theorem clOf_none {zs : List Int} (h : rCl zs 0 = none) : clOf zs = none := by unfold clOf; rw [h]; rfl
theorem clOf_end {zs : List Int} {m : Cl} {e : Nat} (h : rCl zs 0 = some (m, e)) (he : e ≠ zs.length) : clOf zs = none := by
  unfold clOf; rw [h]; simp only [Option.bind_some]; rw [if_neg (fun hc => he hc.1)]
theorem clOf_bad {zs : List Int} {m : Cl} {e : Nat} (h : rCl zs 0 = some (m, e)) (hb : clB m = false) : clOf zs = none := by
  unfold clOf; rw [h]; simp only [Option.bind_some]; rw [if_neg (fun hc => by rw [hb] at hc; cases hc.2)]
theorem clOf_some {zs : List Int} {m : Cl} (h : rCl zs 0 = some (m, zs.length)) (hb : clB m = true) : clOf zs = some m := by
  unfold clOf; rw [h]; simp [hb]
theorem readClOf (w : World) (a : Option Addr) (len cap : Nat) (zs : List Int) (t : TypeId) (v : Value) (h0 : 0 < w.heap.size) (hcap : len ≤ cap) (hin : In w w.heap.size a len zs) (hE : Err w t v) :
    Calls Tryz.prog 17 #[.slice a len cap, .int .i64 0, .func (.func 18) #[] #[]] w fun e w' => ansCl w.heap.size (rCl zs 0) e w' ∧ Below w.heap.size w w' :=
  readCl w a len cap t v (rCl zs 0) (fun W hb hp => rdClass cap hcap ⟨hin.low hb (Nat.le_refl _), Nat.le_add_right _ 3, by omega, hE.low hb h0, hp⟩)
set_option maxRecDepth 100000 in
set_option maxHeartbeats 8000000 in
theorem classOfImpl (w : World) (a : Option Addr) (len cap : Nat) (zs : List Int) (t : TypeId) (v : Value) (h0 : 0 < w.heap.size) (hcap : len ≤ cap) (hin : In w w.heap.size a len zs) (hE : Err w t v) :
    Calls Tryz.prog 6 #[.slice a len cap] w fun e w' => ansCO w.heap.size (clOf zs) e w' ∧ Below w.heap.size w w' := by
  have hl := hin.1
  have hm := hin.2.1
  have HBy := hide (byt_of_in hin)
  have bA := (Below.refl w.heap.size w).alloc (Nat.le_refl _) (.cells #[.string ⟨#[]⟩, .string ⟨#[]⟩, .slice none 0 0, .slice none 0 0, .slice none 0 0] 27)
  have E0 := hide (heap_alloc_new w (.cells #[.string ⟨#[]⟩, .string ⟨#[]⟩, .slice none 0 0, .slice none 0 0, .slice none 0 0] 27))
  have HB := hide bA
  have HQ := hide (readClOf (w.alloc (.cells #[.string ⟨#[]⟩, .string ⟨#[]⟩, .slice none 0 0, .slice none 0 0, .slice none 0 0] 27)) a len cap zs t v (by simp) hcap (hin.at bA) (hE.low bA h0))
  clear bA hin hE
  go_enter Tryz.func6, Tryz.ntmps6
  go_wp2_with fail
  refine (unhide HQ).mono ?_
  rintro e w1 ⟨hA, b1⟩
  replace E0 := hide ((b1.block w.heap.size (by simp)).trans E0.out)
  have hs1 := b1.size
  simp only [World.size_alloc] at hs1 hA
  replace HB := hide (HB.out.trans (b1.mono HB.out.size))
  clear b1 HQ
  cases hr : rCl zs 0 with
  | none =>
    have HN := hide (clOf_none hr)
    rw [hr] at hA
    have hA' : e = .returned (.tuple #[.agg #[.string ⟨#[]⟩, .string ⟨#[]⟩, .slice none 0 0, .slice none 0 0, .slice none 0 0], .int .i64 0, .bool false]) := hA
    subst hA'
    clear hA
    go_upto_region 3 with fail
    have bC := (Below.refl w1.heap.size w1).alloc (Nat.le_refl _) (.cells #[.string ⟨#[]⟩, .string ⟨#[]⟩, .slice none 0 0, .slice none 0 0, .slice none 0 0] 27)
    replace E0 := hide ((bC.block w.heap.size (by omega)).trans E0.out)
    replace HB := hide (HB.out.trans (bC.mono HB.out.size))
    clear bC hs1
    generalize w1.alloc (.cells #[.string ⟨#[]⟩, .string ⟨#[]⟩, .slice none 0 0, .slice none 0 0, .slice none 0 0] 27) = W1 at *
    have X := box_of E0.out
    have HX := hide X.1
    have zz := X.2
    have c0 := HX.out 0 _ rfl
    have c1 := HX.out 1 _ rfl
    have c2 := HX.out 2 _ rfl
    have c3 := HX.out 3 _ rfl
    have c4 := HX.out 4 _ rfl
    clear X hr
    have hsz := HB.out.size
    go_wp2
    exact bodyPost_ret (v := .tuple #[zeroCl, .bool false]) (results_ct Tryz.results6 _ _ _ rfl (loadCl (putN5 E0.out _ _ _ _ _))) rfl ⟨⟨_, by rw [HN.out]; rfl, by rw [HN.out]; exact rowCl_zero _ _ (by simp; omega)⟩, below_put5 HB.out (Nat.le_refl _) _ _ _ _ _⟩
  | some r =>
    obtain ⟨x, nx⟩ := r
    rw [hr] at hA
    obtain ⟨uu, rfl, u2, u3, u4, rfl, o⟩ := hA
    obtain ⟨⟨a2, k2, e2⟩, ⟨a3, k3, e3⟩, ⟨a4, k4, e4⟩⟩ := clD_sl o
    subst e2 e3 e4
    have HO := hide o
    have HG := hide (rCl_G HBy.out hr)
    clear o
    have bC := (Below.refl w1.heap.size w1).alloc (Nat.le_refl _) (.cells #[.string x.n, .string x.s, .slice a2 x.p.length k2, .slice a3 x.f.length k3, .slice a4 x.m.length k4] 27)
    have E1 := hide (heap_alloc_new w1 (.cells #[.string x.n, .string x.s, .slice a2 x.p.length k2, .slice a3 x.f.length k3, .slice a4 x.m.length k4] 27))
    replace E0 := hide ((bC.block w.heap.size (by omega)).trans E0.out)
    replace HO := hide (HO.out.below bC)
    replace HB := hide (HB.out.trans (bC.mono HB.out.size))
    clear bC
    by_cases he : nx = len
    · have hne : ((nx : Int) != (len : Int)) = false := by rw [he]; simp
      subst he
      go_upto_region 2 with fail
      generalize w1.alloc (.cells #[.string x.n, .string x.s, .slice a2 x.p.length k2, .slice a3 x.f.length k3, .slice a4 x.m.length k4] 27) = W1 at *
      have HX1 := hide (box_of E1.out).1
      have g0 := HX1.out 0 _ rfl
      have g1 := HX1.out 1 _ rfl
      have g2 := HX1.out 2 _ rfl
      have g3 := HX1.out 3 _ rfl
      have g4 := HX1.out 4 _ rfl
      go_wp2_with fail
      obtain ⟨R1, R2, R3⟩ := clD_own HO.out
      refine (clImpl _ x _ _ _ R1 R2 R3 HG.out).mono ?_
      rintro e w2 ⟨rfl, b2⟩
      have hW1 : w1.heap.size < W1.heap.size := (Array.getElem?_eq_some_iff.1 E1.out).1
      have hs2 := b2.size
      replace E0 := hide ((b2.block w.heap.size (by omega)).trans E0.out)
      replace E1 := hide ((b2.block w1.heap.size hW1).trans E1.out)
      replace HO := hide (HO.out.below b2)
      replace HB := hide (HB.out.trans (b2.mono HB.out.size))
      clear b2 g0 g1 g2 g3 g4 HX1 R1 R2 R3
      have X := box_of E0.out
      have HX := hide X.1
      have zz := X.2
      have HX1 := hide (box_of E1.out).1
      clear X
      cases hm : clB x with
      | false =>
        have HN := hide (clOf_bad hr hm)
        clear hr
        have c0 := HX.out 0 _ rfl
        have c1 := HX.out 1 _ rfl
        have c2 := HX.out 2 _ rfl
        have c3 := HX.out 3 _ rfl
        have c4 := HX.out 4 _ rfl
        go_wp2
        exact bodyPost_ret (v := .tuple #[zeroCl, .bool false]) (results_ct Tryz.results6 _ _ _ rfl (loadCl (putN5 E0.out _ _ _ _ _))) rfl ⟨⟨_, by rw [HN.out]; rfl, by rw [HN.out]; exact rowCl_zero _ _ (by simp; omega)⟩, below_put5 HB.out (Nat.le_refl _) _ _ _ _ _⟩
      | true =>
        have HN := hide (clOf_some (m := x) (by rw [hr, hl]) hm)
        clear hr
        have c0 := HX.out 0 _ rfl
        have c1 := HX.out 1 _ rfl
        have c2 := HX.out 2 _ rfl
        have c3 := HX.out 3 _ rfl
        have c4 := HX.out 4 _ rfl
        have g0 := HX1.out 0 _ rfl
        have g1 := HX1.out 1 _ rfl
        have g2 := HX1.out 2 _ rfl
        have g3 := HX1.out 3 _ rfl
        have g4 := HX1.out 4 _ rfl
        go_wp2
        refine bodyPost_ret (v := .tuple #[.agg #[.string x.n, .string x.s, .slice a2 x.p.length k2, .slice a3 x.f.length k3, .slice a4 x.m.length k4], .bool true]) (results_ct Tryz.results6 _ _ _ rfl (loadCl (putN5 E0.out _ _ _ _ _))) rfl ⟨⟨_, by rw [HN.out]; rfl, ?_⟩, below_put5 HB.out (Nat.le_refl _) _ _ _ _ _⟩
        rw [HN.out]
        refine ⟨_, _, _, rfl, ?_⟩
        exact ((OwnDL.same (HO.out.mono (b' := w.heap.size + 1) (by simp)) (fun q hq _ _ => put_oth _ _ _ _ _ q (by omega))).mono (Nat.le_succ _)).up (by simp; omega)
    · have hne : ((nx : Int) != (len : Int)) = true := by rw [bne_iff_ne]; omega
      have HN := hide (clOf_end hr (by omega))
      clear he hr
      go_upto_region 3 with fail
      generalize w1.alloc (.cells #[.string x.n, .string x.s, .slice a2 x.p.length k2, .slice a3 x.f.length k3, .slice a4 x.m.length k4] 27) = W1 at *
      have hsz := HB.out.size
      have X := box_of E0.out
      have HX := hide X.1
      have zz := X.2
      have c0 := HX.out 0 _ rfl
      have c1 := HX.out 1 _ rfl
      have c2 := HX.out 2 _ rfl
      have c3 := HX.out 3 _ rfl
      have c4 := HX.out 4 _ rfl
      clear X
      go_wp2
      exact bodyPost_ret (v := .tuple #[zeroCl, .bool false]) (results_ct Tryz.results6 _ _ _ rfl (loadCl (putN5 E0.out _ _ _ _ _))) rfl ⟨⟨_, by rw [HN.out]; rfl, by rw [HN.out]; exact rowCl_zero _ _ (by simp; omega)⟩, below_put5 HB.out (Nat.le_refl _) _ _ _ _ _⟩
end Go.Proofs.YtpgmipbanpofaaaGreatDoor
/-
  One more row, with data of its own, behind a row that stands in a cell of a variable of one's own.
-/
namespace Go.Proofs.YtpgmipbanpofaaaGreatDoor
open Go.RowKit

theorem OwnDL.setVal {w : World} {b hi : Nat} {c1 c2 : List Dt} {v1 v2 : List Value} {u x : Value} (h : OwnDL w b hi (c1 ++ .val u :: c2) (v1 ++ x :: v2)) (hl : v1.length = c1.length) (u' : Value) : OwnDL w b hi (c1 ++ .val u' :: c2) (v1 ++ u' :: v2) := by
  obtain ⟨F, h1, h2, h3⟩ := h
  obtain ⟨u1, u2, F1, F2, e, rfl, h4, h5⟩ := OwnsL.app h1
  obtain ⟨rfl, rfl⟩ := List.append_inj e (by rw [h4.len, hl])
  obtain ⟨y, us, G1, G2, e2, rfl, h6, h7⟩ := ownsL_cons h5
  cases e2
  unfold Owns at h6
  obtain ⟨_, rfl⟩ := h6
  exact ⟨F1 ++ ([] ++ G2), h4.join (ownsL_mk owns_val h7), h2, h3⟩
theorem OwnDL.row {w : World} {b hi T k n : Nat} {cs c1 c2 : List Dt} {v1 v2 : List Value} {v : Value} (h : OwnDL w b hi (c1 ++ .row T k n cs :: c2) (v1 ++ v :: v2)) (hl : v1.length = c1.length) :
    ∃ vs, w.ownsRow b T k v n vs ∧ (∀ q, v.ownBlock = some q → b ≤ q ∧ q < hi) ∧ ∀ (us : List Value) (ds : List Dt) (m : Nat), OwnDL w m w.heap.size ds us → hi ≤ m → b ≤ m → ∀ (v' : Value) (w' : World), w'.ownsRow b T k v' (n + 1) (vs ++ us) → w.grownBy w' v.ownBlock → (v'.ownBlock = v.ownBlock ∨ v'.ownBlock = some w.heap.size) →
      OwnDL w' b w'.heap.size (c1 ++ .row T k (n + 1) (cs ++ ds) :: c2) (v1 ++ v' :: v2) := by
  obtain ⟨F, h1, h2, h3⟩ := h
  obtain ⟨u1, u2, F1, F2, e, rfl, h4, h5⟩ := OwnsL.app h1
  obtain ⟨rfl, rfl⟩ := List.append_inj e (by rw [h4.len, hl])
  obtain ⟨y, us, G1, G2, e2, rfl, h6, h7⟩ := ownsL_cons h5
  cases e2
  unfold Owns at h6
  obtain ⟨vs, G, h8, h9, rfl⟩ := h6
  have l1 := OwnsL.lt _ _ _ h4
  have l2 := OwnsL.lt _ _ _ h7
  have l3 := OwnsL.lt _ _ _ h9
  have hv : ∀ q, v.ownBlock = some q → b ≤ q ∧ q < hi := fun q hq => ⟨(World.ownsRow.lt h8 q hq).1, h3 q (by rw [hq]; simp)⟩
  refine ⟨vs, h8, hv, ?_⟩
  intro us ds m hds hm hbm v' w' ho' hg' hat
  obtain ⟨F', g1, g2, g3⟩ := hds
  have l4 := OwnsL.lt _ _ _ g1
  have nd := List.nodup_append.1 h2
  have nd2 := List.nodup_append.1 nd.2.1
  have nd3 := List.nodup_append.1 nd2.1
  have t1 : ∀ q ∈ F1, q < hi := fun q hq => h3 q (by simp [hq])
  have t2 : ∀ q ∈ G2, q < hi := fun q hq => h3 q (by simp [hq])
  have t3 : ∀ q ∈ G, q < hi := fun q hq => h3 q (by simp [hq])
  have d1 : ∀ q ∈ F1, v.ownBlock ≠ some q := fun q hq e => nd.2.2 q hq q (by simp [e]) rfl
  have d2 : ∀ q ∈ G2, v.ownBlock ≠ some q := fun q hq e => nd2.2.2 q (by simp [e]) q hq rfl
  have d3 : ∀ q ∈ G, v.ownBlock ≠ some q := fun q hq e => nd3.2.2 q (by simp [e]) q hq rfl
  have keep : ∀ q, q < w.heap.size → v.ownBlock ≠ some q → w'.heap[q]? = w.heap[q]? := fun q hq hne => hg'.block q hq (fun e => hne e.symm)
  have d4 : ∀ q ∈ F', v.ownBlock ≠ some q := fun q hq e => by have := (hv q e).2; have := (l4 q hq).1; omega
  have k1 : OwnsL w' b c1 v1 F1 := h4.same (fun q hq => keep q (l1 q hq).2 (d1 q hq))
  have k2 : OwnsL w' b c2 v2 G2 := h7.same (fun q hq => keep q (l2 q hq).2 (d2 q hq))
  have k3 : OwnsL w' b cs vs G := h9.same (fun q hq => keep q (l3 q hq).2 (d3 q hq))
  have k4 : OwnsL w' b ds us F' := (g1.mono hbm).same (fun q hq => keep q (l4 q hq).2 (d4 q hq))
  have a1 : ∀ q, v'.ownBlock = some q → q ∉ F1 ∧ q ∉ G2 ∧ q ∉ G ∧ q ∉ F' := fun q hq => by
    rcases hat with e | e
    · rw [e] at hq
      exact ⟨fun h => d1 q h hq, fun h => d2 q h hq, fun h => d3 q h hq, fun h => d4 q h hq⟩
    · rw [e] at hq
      cases hq
      exact ⟨fun h => by have := (l1 _ h).2; omega, fun h => by have := (l2 _ h).2; omega, fun h => by have := (l3 _ h).2; omega, fun h => by have := (l4 _ h).2; omega⟩
  refine ⟨F1 ++ ((v'.ownBlock.toList ++ (G ++ F')) ++ G2), k1.join (ownsL_mk ?_ k2), ?_, ?_⟩
  · unfold Owns
    exact ⟨vs ++ us, G ++ F', ho', k3.join k4, rfl⟩
  · refine List.nodup_append.2 ⟨nd.1, List.nodup_append.2 ⟨List.nodup_append.2 ⟨by cases v'.ownBlock <;> simp, List.nodup_append.2 ⟨nd3.2.1, g2, fun x hx y hy e => ?_⟩, fun x hx y hy e => ?_⟩, nd2.2.1, fun x hx y hy e => ?_⟩, fun x hx y hy e => ?_⟩
    · subst e; have := t3 x hx; have := (l4 x hy).1; omega
    · subst e
      have := a1 x (by simpa using hx)
      rcases List.mem_append.1 hy with hy | hy
      · exact this.2.2.1 hy
      · exact this.2.2.2 hy
    · subst e
      rcases List.mem_append.1 hx with hx | hx
      · exact (a1 x (by simpa using hx)).2.1 hy
      · rcases List.mem_append.1 hx with hx | hx
        · exact nd2.2.2 x (by simp [hx]) x hy rfl
        · have := t2 x hy; have := (l4 x hx).1; omega
    · subst e
      rcases List.mem_append.1 hy with hy | hy
      · rcases List.mem_append.1 hy with hy | hy
        · exact (a1 x (by simpa using hy)).1 hx
        · rcases List.mem_append.1 hy with hy | hy
          · exact nd.2.2 x hx x (by simp [hy]) rfl
          · have := t1 x hx; have := (l4 x hy).1; omega
      · exact nd.2.2 x hx x (by simp [hy]) rfl
  · intro q hq
    have hsz := hg'.size
    rcases List.mem_append.1 hq with hq | hq
    · have := (l1 q hq).2; omega
    · rcases List.mem_append.1 hq with hq | hq
      · rcases List.mem_append.1 hq with hq | hq
        · exact (World.ownsRow.lt ho' q (by simpa using hq)).2
        · rcases List.mem_append.1 hq with hq | hq
          · have := (l3 q hq).2; omega
          · have := (l4 q hq).2; omega
      · have := (l2 q hq).2; omega
theorem OwnDL.rowN {w : World} {b hi T k n : Nat} {cs c1 c2 : List Dt} {v1 v2 : List Value} {v : Value} (h : OwnDL w b hi (c1 ++ .row T k n cs :: c2) (v1 ++ v :: v2)) (hl : v1.length = c1.length) (n' : Nat) :
    ∃ vs, w.ownsRow b T k v n vs ∧ (∀ q, v.ownBlock = some q → b ≤ q ∧ q < hi) ∧ ∀ (us : List Value) (ds : List Dt) (m : Nat), OwnDL w m w.heap.size ds us → hi ≤ m → b ≤ m → ∀ (v' : Value) (w' : World), w'.ownsRow b T k v' (n') (vs ++ us) → w.grownBy w' v.ownBlock → (v'.ownBlock = v.ownBlock ∨ v'.ownBlock = some w.heap.size) →
      OwnDL w' b w'.heap.size (c1 ++ .row T k (n') (cs ++ ds) :: c2) (v1 ++ v' :: v2) := by
  obtain ⟨F, h1, h2, h3⟩ := h
  obtain ⟨u1, u2, F1, F2, e, rfl, h4, h5⟩ := OwnsL.app h1
  obtain ⟨rfl, rfl⟩ := List.append_inj e (by rw [h4.len, hl])
  obtain ⟨y, us, G1, G2, e2, rfl, h6, h7⟩ := ownsL_cons h5
  cases e2
  unfold Owns at h6
  obtain ⟨vs, G, h8, h9, rfl⟩ := h6
  have l1 := OwnsL.lt _ _ _ h4
  have l2 := OwnsL.lt _ _ _ h7
  have l3 := OwnsL.lt _ _ _ h9
  have hv : ∀ q, v.ownBlock = some q → b ≤ q ∧ q < hi := fun q hq => ⟨(World.ownsRow.lt h8 q hq).1, h3 q (by rw [hq]; simp)⟩
  refine ⟨vs, h8, hv, ?_⟩
  intro us ds m hds hm hbm v' w' ho' hg' hat
  obtain ⟨F', g1, g2, g3⟩ := hds
  have l4 := OwnsL.lt _ _ _ g1
  have nd := List.nodup_append.1 h2
  have nd2 := List.nodup_append.1 nd.2.1
  have nd3 := List.nodup_append.1 nd2.1
  have t1 : ∀ q ∈ F1, q < hi := fun q hq => h3 q (by simp [hq])
  have t2 : ∀ q ∈ G2, q < hi := fun q hq => h3 q (by simp [hq])
  have t3 : ∀ q ∈ G, q < hi := fun q hq => h3 q (by simp [hq])
  have d1 : ∀ q ∈ F1, v.ownBlock ≠ some q := fun q hq e => nd.2.2 q hq q (by simp [e]) rfl
  have d2 : ∀ q ∈ G2, v.ownBlock ≠ some q := fun q hq e => nd2.2.2 q (by simp [e]) q hq rfl
  have d3 : ∀ q ∈ G, v.ownBlock ≠ some q := fun q hq e => nd3.2.2 q (by simp [e]) q hq rfl
  have keep : ∀ q, q < w.heap.size → v.ownBlock ≠ some q → w'.heap[q]? = w.heap[q]? := fun q hq hne => hg'.block q hq (fun e => hne e.symm)
  have d4 : ∀ q ∈ F', v.ownBlock ≠ some q := fun q hq e => by have := (hv q e).2; have := (l4 q hq).1; omega
  have k1 : OwnsL w' b c1 v1 F1 := h4.same (fun q hq => keep q (l1 q hq).2 (d1 q hq))
  have k2 : OwnsL w' b c2 v2 G2 := h7.same (fun q hq => keep q (l2 q hq).2 (d2 q hq))
  have k3 : OwnsL w' b cs vs G := h9.same (fun q hq => keep q (l3 q hq).2 (d3 q hq))
  have k4 : OwnsL w' b ds us F' := (g1.mono hbm).same (fun q hq => keep q (l4 q hq).2 (d4 q hq))
  have a1 : ∀ q, v'.ownBlock = some q → q ∉ F1 ∧ q ∉ G2 ∧ q ∉ G ∧ q ∉ F' := fun q hq => by
    rcases hat with e | e
    · rw [e] at hq
      exact ⟨fun h => d1 q h hq, fun h => d2 q h hq, fun h => d3 q h hq, fun h => d4 q h hq⟩
    · rw [e] at hq
      cases hq
      exact ⟨fun h => by have := (l1 _ h).2; omega, fun h => by have := (l2 _ h).2; omega, fun h => by have := (l3 _ h).2; omega, fun h => by have := (l4 _ h).2; omega⟩
  refine ⟨F1 ++ ((v'.ownBlock.toList ++ (G ++ F')) ++ G2), k1.join (ownsL_mk ?_ k2), ?_, ?_⟩
  · unfold Owns
    exact ⟨vs ++ us, G ++ F', ho', k3.join k4, rfl⟩
  · refine List.nodup_append.2 ⟨nd.1, List.nodup_append.2 ⟨List.nodup_append.2 ⟨by cases v'.ownBlock <;> simp, List.nodup_append.2 ⟨nd3.2.1, g2, fun x hx y hy e => ?_⟩, fun x hx y hy e => ?_⟩, nd2.2.1, fun x hx y hy e => ?_⟩, fun x hx y hy e => ?_⟩
    · subst e; have := t3 x hx; have := (l4 x hy).1; omega
    · subst e
      have := a1 x (by simpa using hx)
      rcases List.mem_append.1 hy with hy | hy
      · exact this.2.2.1 hy
      · exact this.2.2.2 hy
    · subst e
      rcases List.mem_append.1 hx with hx | hx
      · exact (a1 x (by simpa using hx)).2.1 hy
      · rcases List.mem_append.1 hx with hx | hx
        · exact nd2.2.2 x (by simp [hx]) x hy rfl
        · have := t2 x hy; have := (l4 x hx).1; omega
    · subst e
      rcases List.mem_append.1 hy with hy | hy
      · rcases List.mem_append.1 hy with hy | hy
        · exact (a1 x (by simpa using hy)).1 hx
        · rcases List.mem_append.1 hy with hy | hy
          · exact nd.2.2 x hx x (by simp [hy]) rfl
          · have := t1 x hx; have := (l4 x hy).1; omega
      · exact nd.2.2 x hx x (by simp [hy]) rfl
  · intro q hq
    have hsz := hg'.size
    rcases List.mem_append.1 hq with hq | hq
    · have := (l1 q hq).2; omega
    · rcases List.mem_append.1 hq with hq | hq
      · rcases List.mem_append.1 hq with hq | hq
        · exact (World.ownsRow.lt ho' q (by simpa using hq)).2
        · rcases List.mem_append.1 hq with hq | hq
          · have := (l3 q hq).2; omega
          · have := (l4 q hq).2; omega
      · have := (l2 q hq).2; omega
theorem ownsRow_shape {w : World} {b T k n : Nat} {v : Value} {vs : List Value} (h : w.ownsRow b T k v (n + 1) vs) : ∃ g c, v = .slice (some ⟨g, 0, none⟩) (n + 1) c := by
  rcases h.2 with ⟨rfl, h0, _⟩ | ⟨g, c, cur, rfl, _⟩
  exact ⟨g, c, rfl⟩
theorem appL {w : World} {ops : Array Oper} {rest : List Oper} {o : Oper} {act : Act} {Q : Exit → Act → World → Prop} (hgd : o.guard = none) (s x : Operand) (t : TypeId)
    (ho : o.op = .call { callee := .builtin .append, args := #[s, x], argTypes := #[t, t] }) (b hi m : Nat) (T : TypeId) (i : TypeInfo) (z : Value) (k bytes : Nat) (ht : Tryz.prog.underlying t = some (.slice T)) (hin : Tryz.prog.info? T = some i) (hz : i.zero = some z)
    (hsize : i.size = k) (hby : i.bytes = bytes) (hzs : z.cells.size = k) (hk : 0 < k) (v : Value) (n : Nat) (cs c1 c2 : List Dt) (v1 v2 : List Value) (hs : act.eval s = v) (hown : OwnDL w b hi (c1 ++ .row T k n cs :: c2) (v1 ++ v :: v2)) (hl12 : v1.length = c1.length)
    (g c : Nat) (us : List Value) (ds : List Dt) (hx : act.eval x = .slice (some ⟨g, 0, none⟩) 1 c) (hbox : Box w g us) (hds : OwnDL w m w.heap.size ds us) (hl : us.length = k) (h1 : ∀ u ∈ us, u.oneCell' = true) (h63 : n ≤ 2000000) (hbytes : bytes ≤ 1000)
    (hm : hi ≤ m) (hbm : b ≤ m) (hms : m ≤ w.heap.size)
    (h : ∀ g' c' w', OwnDL w' b w'.heap.size (c1 ++ .row T k (n + 1) (cs ++ ds) :: c2) (v1 ++ .slice (some ⟨g', 0, none⟩) (n + 1) c' :: v2) → w.grownBy w' v.ownBlock → (∀ q, v.ownBlock = some q → b ≤ q ∧ q < hi) → wpList Tryz.prog ops Q rest (act.put o.dst (.slice (some ⟨g', 0, none⟩) (n + 1) c')) w') :
    wpList Tryz.prog ops Q (o :: rest) act w := by
  obtain ⟨vs, h5, hv, hnew⟩ := hown.row hl12
  refine wpList_append_own_at w hgd s x t ho b T i z k bytes ht hin hz hsize hby hzs hk v n vs hs h5 ⟨g, 0, none⟩ 1 c us hx (by rw [hl, Nat.one_mul]) (fun j u hu => by rw [Addr.add_lit, Nat.zero_add]; exact hbox j u hu) h1 (by unfold maxLen; omega) ?_ (by omega) ?_
  · have := Nat.mul_le_mul (show n + 1 ≤ 2000001 by omega) hbytes
    omega
  · intro v' w' ho' hg' _ hat
    obtain ⟨g', c', rfl⟩ := ownsRow_shape ho'
    exact h g' c' w' (hnew us ds m hds hm hbm _ w' ho' hg' hat) hg' hv
theorem step_appL {w : World} {ops : Array Oper} {o : Oper} {act : Act} {K : Act → World → Prop} {Q : Exit → Act → World → Prop} {E : Prop} (hgd : o.guard = none) (s x : Operand) (t : TypeId)
    (ho : o.op = .call { callee := .builtin .append, args := #[s, x], argTypes := #[t, t] }) (b hi m : Nat) (T : TypeId) (i : TypeInfo) (z : Value) (k bytes : Nat) (ht : Tryz.prog.underlying t = some (.slice T)) (hin : Tryz.prog.info? T = some i) (hz : i.zero = some z)
    (hsize : i.size = k) (hby : i.bytes = bytes) (hzs : z.cells.size = k) (hk : 0 < k) (v : Value) (n : Nat) (cs c1 c2 : List Dt) (v1 v2 : List Value) (hs : act.eval s = v) (hown : OwnDL w b hi (c1 ++ .row T k n cs :: c2) (v1 ++ v :: v2)) (hl12 : v1.length = c1.length)
    (g c : Nat) (us : List Value) (ds : List Dt) (hx : act.eval x = .slice (some ⟨g, 0, none⟩) 1 c) (hbox : Box w g us) (hds : OwnDL w m w.heap.size ds us) (hl : us.length = k) (h1 : ∀ u ∈ us, u.oneCell' = true) (h63 : n ≤ 2000000) (hbytes : bytes ≤ 1000)
    (hm : hi ≤ m) (hbm : b ≤ m) (hms : m ≤ w.heap.size)
    (h : ∀ g' c' w', OwnDL w' b w'.heap.size (c1 ++ .row T k (n + 1) (cs ++ ds) :: c2) (v1 ++ .slice (some ⟨g', 0, none⟩) (n + 1) c' :: v2) → w.grownBy w' v.ownBlock → (∀ q, v.ownBlock = some q → b ≤ q ∧ q < hi) → K (act.put o.dst (.slice (some ⟨g', 0, none⟩) (n + 1) c')) w') :
    if Region.wanted o (yielded ops act.tmps) = true then Oper.wp Tryz.prog o act w K Q else E := by
  obtain ⟨vs, h5, hv, hnew⟩ := hown.row hl12
  refine step_append_lies w hgd s x t ho b T i z k bytes ht hin hz hsize hby hzs hk v n vs hs h5 ⟨g, 0, none⟩ 1 c us hx (by rw [hl, Nat.one_mul]) (fun j u hu => by rw [Addr.add_lit, Nat.zero_add]; exact hbox j u hu) h1 (by omega) (by unfold maxLen; omega) ?_ (by omega) w.heap.size rfl ?_
  · have := Nat.mul_le_mul (show n + 1 ≤ 2000001 by omega) hbytes
    omega
  · intro g' c' w' ho' hg' hat _
    refine h g' c' w' (hnew us ds m hds hm hbm _ w' ho' hg' ?_) hg' hv
    rcases hat with e | e
    · exact .inl e.symm
    · exact .inr (by rw [e]; rfl)
theorem step_callC {P : Program} {ops : Array Oper} {o : Oper} {a : Act} {w : World} {K : Act → World → Prop} {Q : Exit → Act → World → Prop} {E : Prop} {R : Ending → World → Prop} (hgd : o.guard = none) (f : FuncId) (xs : Array Operand) (ts : Array TypeId) (_ho : o.op = .call { callee := .value (.func f), args := xs, argTypes := ts })
    (args : Array Value) (hrun : (execOp a.eval o).run P w = .ok (.enter f args) w) (hc : Calls P f args w R) (h : ∀ e w', R e w' → ∃ v, e = .returned v ∧ K (a.put o.dst v) w') :
    if Region.wanted o (yielded ops a.tmps) = true then Oper.wp P o a w K Q else E := by
  have hw : Region.wanted o (yielded ops a.tmps) = true := by simp [Region.wanted, hgd]
  rw [if_pos hw]
  unfold Oper.wp
  rw [hrun, Oper.upon_enter]
  refine hc.mono fun e w' hh => ?_
  obtain ⟨v, rfl, hk⟩ := h e w' hh
  exact hk
/-- A cell gives way to another, whose data lies behind all. -/
theorem OwnDL.repl {w : World} {b hi m hi' : Nat} {c c' : Dt} {c1 c2 : List Dt} {v1 v2 : List Value} {v v' : Value} (h : OwnDL w b hi (c1 ++ c :: c2) (v1 ++ v :: v2)) (hl : v1.length = c1.length) (h' : OwnD w m hi' c' v') (hm : hi ≤ m) (hb : b ≤ m) (hh : hi ≤ hi') : OwnDL w b hi' (c1 ++ c' :: c2) (v1 ++ v' :: v2) := by
  obtain ⟨F, h1, h2, h3⟩ := h
  obtain ⟨u1, u2, F1, F2, e, rfl, h4, h5⟩ := OwnsL.app h1
  obtain ⟨rfl, rfl⟩ := List.append_inj e (by rw [h4.len, hl])
  obtain ⟨y, us, G1, G2, e2, rfl, h6, h7⟩ := ownsL_cons h5
  cases e2
  obtain ⟨F', g1, g2, g3⟩ := h'
  have l4 := Owns.lt _ _ _ g1
  have nd := List.nodup_append.1 h2
  have nd2 := List.nodup_append.1 nd.2.1
  have t1 : ∀ q ∈ F1, q < hi := fun q hq => h3 q (by simp [hq])
  have t2 : ∀ q ∈ G2, q < hi := fun q hq => h3 q (by simp [hq])
  refine ⟨F1 ++ (F' ++ G2), h4.join (ownsL_mk (g1.mono hb) h7), List.nodup_append.2 ⟨nd.1, List.nodup_append.2 ⟨g2, nd2.2.1, fun x hx y hy e => ?_⟩, fun x hx y hy e => ?_⟩, fun q hq => ?_⟩
  · subst e; have := t2 x hy; have := (l4 x hx).1; omega
  · subst e
    rcases List.mem_append.1 hy with hy | hy
    · have := t1 x hx; have := (l4 x hy).1; omega
    · exact nd.2.2 x hx x (by simp [hy]) rfl
  · rcases List.mem_append.1 hq with hq | hq
    · have := t1 q hq; omega
    · rcases List.mem_append.1 hq with hq | hq
      · exact g3 q hq
      · have := t2 q hq; omega
theorem step_appJ {w : World} {ops : Array Oper} {o : Oper} {act : Act} {K : Act → World → Prop} {Q : Exit → Act → World → Prop} {E : Prop} (hgd : o.guard = none) (s x : Operand)
    (ho : o.op = .call { callee := .builtin .append, args := #[s, x], argTypes := #[22, 22] }) (base B : Nat) (v : Value) (ad : Addr) (m c : Nat) (xs zs : List Int) (hs : act.eval s = v) (hx : act.eval x = .slice (some ad) m c) (hown : Own w base v xs) (hin : In w B (some ad) m zs) (hsm : xs.length ≤ 2000000) (hbase : base ≤ w.heap.size)
    (h : ∀ v' w', Own w' base v' (xs ++ zs) → w.grownBy w' v.ownBlock → K (act.put o.dst v') w') :
    if Region.wanted o (yielded ops act.tmps) = true then Oper.wp Tryz.prog o act w K Q else E := by
  have hw : Region.wanted o (yielded ops act.tmps) = true := by simp [Region.wanted, hgd]
  rw [if_pos hw]
  obtain ⟨i0, hi, hz0, hz1, hz2⟩ := info_parts Tryz.info5
  have hl := hin.1
  have hm := hin.2.1
  obtain ⟨v', w', hr, ho', hg', _, _⟩ := run_append_own_at (P := Tryz.prog) w base 22 o.type 5 i0 (.int .u8 0) 1 1 Tryz.underlying22 hi hz0 hz1 hz2 rfl (by decide) v xs.length (xs.map (Value.int .u8)) hown ad m c (zs.map (Value.int .u8)) (by simp; omega) (cells_in hin) (byt_cells _) (by unfold maxLen; omega) (by omega) hbase
  unfold Oper.wp execOp
  simp only [ho, resolve, invoke, builtin, Sem.run_bind, Sem.run_pure, Result.andThen_ok, List.map_toArray, List.map_cons, List.map_nil, hs, hx, hr]
  exact h v' w' (own_more (by rw [hl]; exact ho')) hg'
end Go.Proofs.YtpgmipbanpofaaaGreatDoor
/-
  What the model's GetWord does: it answers as the readers of the program do.
-/
namespace Go.Proofs.YtpgmipbanpofaaaGreatDoor
open Go.RowKit

set_option maxRecDepth 100000 in
set_option maxHeartbeats 2000000 in
theorem getWordModel (w : World) (a : Option Addr) (len cap : Nat) (zs : List Int) (k : Int) (B : Nat) (hin : In w B a len zs) :
    Calls Tryz.prog 53 #[.slice a len cap, .int .i64 k] w fun e w' => e = .returned (ans (gw zs k)) ∧ ∃ q, w' = w.drewN q := by
  have hlen := hin.1
  have hl := hin.2.1
  by_cases hneg : k < 0
  · have e1 : gw zs k = none := by unfold gw; rw [if_neg (by omega)]
    rw [e1]
    clear hin
    go_enter Tryz.func53, Tryz.ntmps53
    go_wp2
    go_ret3
    exact ⟨rfl, 0, rfl⟩
  · obtain ⟨k0, rfl⟩ := Int.eq_ofNat_of_zero_le (show 0 ≤ k by omega)
    by_cases hr : k0 + 4 ≤ len
    · have e1 : gw zs (k0 : Int) = some (rnd (ws zs k0 4), k0 + 4) := by unfold gw; rw [if_pos (by simp; omega)]; simp
      obtain ⟨b, o, rfl, hbB, hcell⟩ := hin.2.2.2 (by omega)
      have z0 := hcell k0 (by omega)
      have z1 := hcell (k0 + 1) (by omega)
      have z2 := hcell (k0 + 2) (by omega)
      have z3 := hcell (k0 + 3) (by omega)
      have r0 := hin.2.2.1 k0 (by omega)
      have r1 := hin.2.2.1 (k0 + 1) (by omega)
      have r2 := hin.2.2.1 (k0 + 2) (by omega)
      have r3 := hin.2.2.1 (k0 + 3) (by omega)
      rw [e1]
      unfold ws
      clear hin hcell hbB e1
      generalize zs.getD k0 0 = x0 at *
      generalize zs.getD (k0 + 1) 0 = x1 at *
      generalize zs.getD (k0 + 2) 0 = x2 at *
      generalize zs.getD (k0 + 3) 0 = x3 at *
      have h1 : bits .or .i64 x0 (x1 * 256) = x0 + x1 * 256 := or_low 8 (by omega) _ _ (by omega) (by omega) (by omega) (by omega) (by omega)
      have h2 : bits .or .i64 (x0 + x1 * 256) (x2 * 65536) = x0 + x1 * 256 + x2 * 65536 := or_low 16 (by omega) _ _ (by omega) (by omega) (by omega) (by omega) (by omega)
      have h3 : bits .or .i64 (x0 + x1 * 256 + x2 * 65536) (x3 * 16777216) = x0 + x1 * 256 + x2 * 65536 + x3 * 16777216 := or_low 24 (by omega) _ _ (by omega) (by omega) (by omega) (by omega) (by omega)
      have b1 : (k0 : Int) + 3 < (len : Int) := by omega
      go_enter Tryz.func53, Tryz.ntmps53
      go_wp2
      go_quiet (fail)
      go_wp2_with (go_at_call 80; refine (roundSpec _ _).mono ?_; rintro e w' ⟨rfl, rfl⟩)
      go_ret3
      exact ⟨ret_ans rfl rfl (by omega), _, rfl⟩
    · have e1 : gw zs (k0 : Int) = none := by unfold gw; rw [if_neg (by simp; omega)]
      rw [e1]
      clear hin
      go_enter Tryz.func53, Tryz.ntmps53
      go_wp2
      go_ret3
      exact ⟨rfl, 0, rfl⟩
end Go.Proofs.YtpgmipbanpofaaaGreatDoor
