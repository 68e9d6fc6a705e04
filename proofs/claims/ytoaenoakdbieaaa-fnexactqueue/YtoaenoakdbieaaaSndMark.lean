/-
  What markSender and heldSender do with messages of one's own.
-/
import Derived.Test.YtoaenoakdbieaaaSndEq
import Derived.Test.YtoaenoakdbieaaaMarks
import Derived.Test.YtoaenoakdbieaaaNetMark
namespace Go.Proofs.Ytoaenoakdbieaaa
open Go.RowKit

/-- How many marks a message takes. -/
def mkN (m : Ms) : Nat := 5 + 3 * m.cs.length + 2 * m.ns.length
/-- A message marked from k on. -/
def markM (k : Nat) (m : Ms) : Ms := ⟨(k : Int), (k : Int) + 1, (k : Int) + 1 + 1, (k : Int) + 1 + 1 + 1, (k : Int) + 1 + 1 + 1 + 1, marksC ((k : Int) + 1 + 1 + 1 + 1 + 1) m.cs.length, marksN ((k : Int) + 1 + 1 + 1 + 1 + 1 + 3 * (m.cs.length : Int)) m.ns.length⟩
/-- Messages marked from k on. -/
def marksS : Nat → List Ms → List Ms
  | _, [] => []
  | k, m :: ms => markM k m :: marksS (k + mkN m) ms
/-- Where the marks end. -/
def endS : Nat → List Ms → Nat
  | k, [] => k
  | k, m :: ms => endS (k + mkN m) ms
theorem marksS_len : ∀ (k : Nat) (ms : List Ms), (marksS k ms).length = ms.length
  | _, [] => rfl
  | k, m :: ms => by simp [marksS, marksS_len (k + mkN m) ms]
theorem marksS_app : ∀ (k : Nat) (xs ys : List Ms), marksS k (xs ++ ys) = marksS k xs ++ marksS (endS k xs) ys
  | _, [], _ => rfl
  | k, a :: xs, ys => by simp [marksS, endS, marksS_app (k + mkN a) xs ys]
theorem endS_app : ∀ (k : Nat) (xs ys : List Ms), endS k (xs ++ ys) = endS (endS k xs) ys
  | _, [], _ => rfl
  | k, a :: xs, ys => by simp [endS, endS_app (k + mkN a) xs ys]
theorem endS_ge : ∀ (k : Nat) (ms : List Ms), k ≤ endS k ms
  | _, [] => Nat.le_refl _
  | k, m :: ms => Nat.le_trans (Nat.le_add_right _ _) (endS_ge (k + mkN m) ms)
theorem endS_le : ∀ (k : Nat) (ms : List Ms), endS k ms ≤ k + 5 * totS ms
  | k, [] => by simp [endS]
  | k, m :: ms => by
    have h := endS_le (k + mkN m) ms
    have e : totS (m :: ms) = totS ms + (m.cs.length + m.ns.length + 1) := by
      unfold totS
      simp only [List.foldr_cons, List.length_cons]
      rw [foldS_add, foldS_add ms ms.length]; omega
    unfold endS
    unfold mkN at h ⊢
    omega
theorem marksS_good : ∀ (k : Nat) (ms : List Ms), GoodS ms → GoodS (marksS k ms)
  | _, [], _ => fun m hm => by cases hm
  | k, m :: ms, h => fun x hx => by
    rcases List.mem_cons.1 hx with rfl | hx
    · have := h m (by simp)
      exact ⟨by simpa [markM, marksC_len] using this.1, by simpa [markM, marksN_len] using this.2⟩
    · exact marksS_good (k + mkN m) ms (fun y hy => h y (by simp [hy])) x hx

/-- The five numbers of a message stored. -/
theorem flat_five (ys : List MsX) (x : MsX) (zs : List MsX) (k i u c n : Int) :
    ((((((ys ++ x :: zs).flatMap msC).set (ys.length * 7) (.int .i64 k)).set (ys.length * 7 + 1) (.int .i64 i)).set (ys.length * 7 + 2) (.int .i64 u)).set (ys.length * 7 + 3) (.int .i64 c)).set (ys.length * 7 + 4) (.int .i64 n) = (ys ++ (⟨k, i, u, c, n, x.1.cs, x.1.ns⟩, x.2) :: zs).flatMap msC := by
  have hl : (ys.flatMap msC).length = ys.length * 7 := flat_len msC 7 msC_len ys
  rw [List.flatMap_append, List.flatMap_append, ← hl]
  rw [List.set_append_right _ _ (Nat.le_refl _), List.set_append_right _ _ (by omega), List.set_append_right _ _ (by omega), List.set_append_right _ _ (by omega), List.set_append_right _ _ (by omega)]
  congr 1
  simp only [Nat.sub_self, Nat.add_sub_cancel_left, List.flatMap_cons]
  rfl

theorem OwnY.five {w : World} {b hi g n c : Nat} {ys zs : List MsX} {x : MsX} (h : OwnY w b hi (.slice (some ⟨g, 0, none⟩) n c) (ys ++ x :: zs)) (hn : (ys ++ x :: zs).length = n) (j : Nat) (hj : ys.length = j) (k i u d m : Int) :
    (∀ r, r < 7 → w.cell? ⟨g, j * 7 + r, none⟩ = (msC x)[r]?) ∧ (∀ r, w.frozen? ⟨g, r, none⟩ = false) ∧
    OwnY (((((w.setCell ⟨g, j * 7, none⟩ (.int .i64 k)).setCell ⟨g, j * 7 + 1, none⟩ (.int .i64 i)).setCell ⟨g, j * 7 + 2, none⟩ (.int .i64 u)).setCell ⟨g, j * 7 + 3, none⟩ (.int .i64 d)).setCell ⟨g, j * 7 + 4, none⟩ (.int .i64 m)) b hi (.slice (some ⟨g, 0, none⟩) n c) (ys ++ (⟨k, i, u, d, m, x.1.cs, x.1.ns⟩, x.2) :: zs) ∧
    Out b hi w (((((w.setCell ⟨g, j * 7, none⟩ (.int .i64 k)).setCell ⟨g, j * 7 + 1, none⟩ (.int .i64 i)).setCell ⟨g, j * 7 + 2, none⟩ (.int .i64 u)).setCell ⟨g, j * 7 + 3, none⟩ (.int .i64 d)).setCell ⟨g, j * 7 + 4, none⟩ (.int .i64 m)) := by
  subst hj
  obtain ⟨h0, ho, hs, hvv, hx⟩ := h
  rw [hn] at h0
  have hl : ((ys ++ x :: zs).flatMap msC).length = n * 7 := by rw [flat_len msC 7 msC_len, hn]
  have hjn : ys.length < n := by rw [← hn]; simp
  have s0 := World.ownsRow.stored h0 (ys.length * 7) (.int .i64 k)
  have s1 := World.ownsRow.stored s0.1 (ys.length * 7 + 1) (.int .i64 i)
  have s2 := World.ownsRow.stored s1.1 (ys.length * 7 + 2) (.int .i64 u)
  have s3 := World.ownsRow.stored s2.1 (ys.length * 7 + 3) (.int .i64 d)
  have s4 := World.ownsRow.stored s3.1 (ys.length * 7 + 4) (.int .i64 m)
  have hg := grownBy_trans (grownBy_trans (grownBy_trans (grownBy_trans s0.2 s1.2) s2.2) s3.2) s4.2
  have ev : vals (ys ++ (⟨k, i, u, d, m, x.1.cs, x.1.ns⟩, x.2) :: zs) = vals (ys ++ x :: zs) := by simp [vals]
  refine ⟨fun r hr => ?_, fun r => World.ownsRow.frozenAt h0 r, ?_, Out.row hg (fun q hq => by cases hq; exact ⟨(World.ownsRow.lt h0 g rfl).1, hvv g rfl⟩)⟩
  · rw [World.ownsRow.cellAt h0 _ (by omega), flat_get msC 7 msC_len _ default ys.length r (by rw [hn]; exact hjn) hr]
    simp
  · have hfin := s4.1
    rw [flat_five] at hfin
    refine OwnY.turn (w := w) (by rw [show (ys ++ (⟨k, i, u, d, m, x.1.cs, x.1.ns⟩, x.2) :: zs).length = n by rw [← hn]; simp]; exact hfin) hg (fun y hy => ?_) (by rw [ev]; exact hs) hvv (by rw [ev]; exact hx)
    rcases List.mem_append.1 hy with hy | hy
    · exact ho y (by simp [hy])
    · rcases List.mem_cons.1 hy with rfl | hy
      · exact ho x (by simp)
      · exact ho y (by simp [hy])

/-- One's parts turned in their place. -/
theorem OwnY.parts {w w1 w2 : World} {b hi : Nat} {v : Value} {ys zs : List MsX} {x : MsX} (h : OwnY w b hi v (ys ++ x :: zs)) (cs : List (Int × Bool × Int)) (ns : List (Int × Int))
    (hc : OwnC w1 b x.2.1 cs) (hg1 : w.grownBy w1 x.2.1.ownBlock) (hn : OwnN w2 b x.2.2 ns) (hg2 : w1.grownBy w2 x.2.2.ownBlock) :
    OwnY w2 b hi v (ys ++ ({ x.1 with cs := cs, ns := ns }, x.2) :: zs) ∧ Out b hi w w2 := by
  obtain ⟨h0, ho, hs, hvv, hx⟩ := h
  have ev : vals (ys ++ ({ x.1 with cs := cs, ns := ns }, x.2) :: zs) = vals (ys ++ x :: zs) := by simp [vals]
  have ef : (ys ++ ({ x.1 with cs := cs, ns := ns }, x.2) :: zs).flatMap msC = (ys ++ x :: zs).flatMap msC := by simp [msC]
  have hm : x ∈ ys ++ x :: zs := by simp
  have hq := vals_mem hm
  have hsp : ∀ (y : MsX), y ∈ ys ∨ y ∈ zs → ∀ u, (u = y.2.1 ∨ u = y.2.2) → ∀ q, u.ownBlock = some q → x.2.1.ownBlock ≠ some q ∧ x.2.2.ownBlock ≠ some q := by
    have e2 : vals (ys ++ x :: zs) = vals ys ++ ([x.2.1, x.2.2] ++ vals zs) := by simp [vals]
    have hp := hs.2
    rw [e2, List.pairwise_append, List.pairwise_append] at hp
    obtain ⟨_, ⟨_, _, p2⟩, p3⟩ := hp
    intro y hy u hu q hq
    rcases hy with hy | hy
    · have hmu : u ∈ vals ys := by rcases hu with rfl | rfl; exact (vals_mem hy).1; exact (vals_mem hy).2
      exact ⟨p3 u hmu x.2.1 (by simp) q hq, p3 u hmu x.2.2 (by simp) q hq⟩
    · have hmu : u ∈ vals zs := by rcases hu with rfl | rfl; exact (vals_mem hy).1; exact (vals_mem hy).2
      exact ⟨fun e => p2 x.2.1 (by simp) u hmu q e hq, fun e => p2 x.2.2 (by simp) u hmu q e hq⟩
  have hcn : ∀ q, x.2.1.ownBlock = some q → x.2.2.ownBlock ≠ some q := by
    have e2 : vals (ys ++ x :: zs) = vals ys ++ ([x.2.1, x.2.2] ++ vals zs) := by simp [vals]
    have hp := hs.2
    rw [e2, List.pairwise_append, List.pairwise_append] at hp
    obtain ⟨_, ⟨p1, _, _⟩, _⟩ := hp
    rw [List.pairwise_cons] at p1
    exact fun q hq => p1.1 x.2.2 (by simp) q hq
  have hlt1 : ∀ q, x.2.1.ownBlock = some q → b ≤ q ∧ q < hi := fun q hq' => ⟨(World.ownsRow.lt hc q hq').1, hx _ hq.1 q hq'⟩
  have hlt2 : ∀ q, x.2.2.ownBlock = some q → b ≤ q ∧ q < hi := fun q hq' => ⟨(World.ownsRow.lt hn q hq').1, hx _ hq.2 q hq'⟩
  refine ⟨⟨?_, fun y hy => ?_, by rw [ev]; exact hs, hvv, by rw [ev]; exact hx⟩, (Out.row hg1 hlt1).trans (Out.row hg2 hlt2)⟩
  · rw [ef, show (ys ++ ({ x.1 with cs := cs, ns := ns }, x.2) :: zs).length = (ys ++ x :: zs).length by simp]
    have k1 : w1.ownsRow b 65 7 v (ys ++ x :: zs).length ((ys ++ x :: zs).flatMap msC) := World.ownsRow.kept h0 hg1 (by
      cases hv : v.ownBlock with
      | none => exact .inl rfl
      | some q => exact .inr (fun e => hs.1 _ hq.1 q e.symm hv))
    exact World.ownsRow.kept k1 hg2 (by
      cases hv : v.ownBlock with
      | none => exact .inl rfl
      | some q => exact .inr (fun e => hs.1 _ hq.2 q e.symm hv))
  · have keep : ∀ y, y ∈ ys ∨ y ∈ zs → y ∈ ys ++ x :: zs → OwnC w2 b y.2.1 y.1.cs ∧ OwnN w2 b y.2.2 y.1.ns := fun y hy hy' =>
      ⟨ownC_kept (ownC_kept (ho y hy').1 hg1 (fun q hq => (hsp y hy _ (.inl rfl) q hq).1)) hg2 (fun q hq => (hsp y hy _ (.inl rfl) q hq).2),
       ownN_kept (ownN_kept (ho y hy').2 hg1 (fun q hq => (hsp y hy _ (.inr rfl) q hq).1)) hg2 (fun q hq => (hsp y hy _ (.inr rfl) q hq).2)⟩
    rcases List.mem_append.1 hy with hy | hy
    · exact keep y (.inl hy) (by simp [hy])
    · rcases List.mem_cons.1 hy with rfl | hy
      · exact ⟨ownC_kept hc hg2 (fun q hq => hcn q hq), hn⟩
      · exact keep y (.inr hy) (by simp [hy])

set_option maxRecDepth 100000 in
set_option maxHeartbeats 8000000 in
theorem markMss (w : World) (b hi k : Nat) (v : Value) (ms : List Ms) (h : OwnS w b hi v ms) (hgd : GoodS ms) (hk : k + 5 * totS ms ≤ 50000000) :
    Calls Try.prog 77 #[v, .int .i64 (k : Int)] w fun e w' => e = .returned (.int .i64 ((endS k ms : Nat) : Int)) ∧ OwnS w' b hi v (marksS k ms) ∧ Out b hi w w' := by
  obtain ⟨xs, rfl, hx⟩ := h
  have htl := totS_len (xs.map Prod.fst)
  rw [List.length_map] at htl
  have HEND := hide (endS_le k (xs.map Prod.fst))
  by_cases h0 : xs.length = 0
  · have hnil := List.eq_nil_of_length_eq_zero h0
    subst hnil
    have HO := hide hx
    obtain ⟨a, c, rfl⟩ : ∃ a c, v = .slice a 0 c := by
      rcases hx.1.2 with ⟨rfl, _⟩ | ⟨g, c, _, rfl, _⟩
      · exact ⟨_, _, rfl⟩
      · exact ⟨_, _, rfl⟩
    clear hx
    have hk2 : k ≤ 100000000 := by omega
    go_enter Try.func77, Try.ntmps77
    go_wp2
    go_loopw [1, 5] (fun q i wr => q = .int .i64 (k : Int) ∧ i = .int .i64 0 ∧ wr = w) (fun _ _ _ => 0)
    case atStart => exact ⟨rfl, rfl, rfl⟩
    case round =>
      obtain ⟨rfl, rfl, rfl⟩ := hrel
      go_wp2
      go_ret
      exact ⟨rfl, ⟨[], rfl, HO.out⟩, Out.refl _ _ _⟩
  · obtain ⟨g, c, rfl⟩ : ∃ g c, v = .slice (some ⟨g, 0, none⟩) xs.length c := by
      rcases hx.1.2 with ⟨rfl, h1⟩ | ⟨g, c, _, rfl, _⟩
      · omega
      · exact ⟨_, _, rfl⟩
    have HO := hide hx
    have HGD : Hid (∀ x ∈ xs, GoodM x.1) := hide (fun x hx => hgd x.1 (List.mem_map_of_mem hx))
    clear hx h0 hgd
    generalize hn : xs.length = n at *
    have HN := hide hn
    clear hn
    go_enter Try.func77, Try.ntmps77
    go_wp2
    go_loopw [1, 5] (fun q i wr => ∃ (j : Nat) (ys : List MsX), j ≤ n ∧ q = .int .i64 ((endS k ((xs.take j).map Prod.fst) : Nat) : Int) ∧ i = .int .i64 (j : Int) ∧ Hid (ys.length = j ∧ ys.map Prod.fst = marksS k ((xs.take j).map Prod.fst)) ∧ Hid (OwnY wr b hi (.slice (some ⟨g, 0, none⟩) n c) (ys ++ xs.drop j)) ∧ Hid (Out b hi w wr)) (fun _ i _ => n - (intOf i).toNat)
    case atStart => exact ⟨0, [], Nat.zero_le _, rfl, rfl, hide ⟨rfl, rfl⟩, HO, hide (Out.refl _ _ _)⟩
    case round =>
      clear HO
      obtain ⟨j, ys, hj, rfl, rfl, HY, HO, HG⟩ := hrel
      by_cases hlt : j < n
      · have hjx : j < xs.length := by rw [HN.out]; exact hlt
        have HD : Hid (xs.drop j = xs.getD j default :: xs.drop (j + 1)) := hide (by rw [List.drop_eq_getElem_cons hjx]; simp [hjx])
        have HT : Hid ((xs.take (j + 1)).map Prod.fst = (xs.take j).map Prod.fst ++ [(xs.getD j default).1]) := hide (by rw [List.take_succ_eq_append_getElem hjx, List.map_append]; simp [hjx])
        have hgm := HGD.out (xs.getD j default) (getD_mem xs j hjx)
        have hKb : endS k ((xs.take j).map Prod.fst) ≤ 50000000 := by
          have h1 : endS k (xs.map Prod.fst) = endS (endS k ((xs.take j).map Prod.fst)) ((xs.drop j).map Prod.fst) := by rw [← endS_app, ← List.map_append, List.take_append_drop]
          have h2 := endS_ge (endS k ((xs.take j).map Prod.fst)) ((xs.drop j).map Prod.fst)
          have := HEND.out
          omega
        generalize hK : endS k ((xs.take j).map Prod.fst) = K at *
        have HK := hide hK
        clear hK
        rw [HD.out] at HO
        have hlen : (ys ++ xs.getD j default :: xs.drop (j + 1)).length = n := by
          rw [← HD.out, List.length_append, HY.out.1, List.length_drop, HN.out]; omega
        have hyj := HY.out.1
        generalize xs.getD j default = x at *
        obtain ⟨⟨mk, mi, mu, mc, mn, mcs, mns⟩, cv, nv⟩ := x
        obtain ⟨fc, hz, o5, g5⟩ := HO.out.five hlen j hyj (K : Int) ((K : Int) + 1) ((K : Int) + 1 + 1) ((K : Int) + 1 + 1 + 1) ((K : Int) + 1 + 1 + 1 + 1)
        have d0 := fc 0 (by omega)
        have d1 := fc 1 (by omega)
        have d2 := fc 2 (by omega)
        have d3 := fc 3 (by omega)
        have d4 := fc 4 (by omega)
        have d5 := fc 5 (by omega)
        have d6 := fc 6 (by omega)
        rw [Nat.add_zero] at d0
        simp only [msC, List.getElem?_cons_zero, List.getElem?_cons_succ] at d0 d1 d2 d3 d4 d5 d6
        have hpar := o5.2.1 (⟨(K : Int), (K : Int) + 1, (K : Int) + 1 + 1, (K : Int) + 1 + 1 + 1, (K : Int) + 1 + 1 + 1 + 1, mcs, mns⟩, cv, nv) (by simp)
        obtain ⟨ac, cc, ec⟩ := ownC_shape hpar.1
        obtain ⟨an, cn, en⟩ := ownN_shape hpar.2
        simp only at ec en hpar hgm
        subst ec en
        have HNG : Hid (∀ q, (Value.slice ac mcs.length cc).ownBlock = some q → g ≠ q) := hide (fun q hq e => by
          subst e
          exact o5.2.2.1.1 _ (vals_mem (x := (⟨(K : Int), (K : Int) + 1, (K : Int) + 1 + 1, (K : Int) + 1 + 1 + 1, (K : Int) + 1 + 1 + 1 + 1, mcs, mns⟩, .slice ac mcs.length cc, .slice an mns.length cn)) (by simp)).1 _ hq rfl)
        have HNC : Hid (∀ q, (Value.slice ac mcs.length cc).ownBlock = some q → (Value.slice an mns.length cn).ownBlock ≠ some q) := hide (by
          have e2 : vals (ys ++ (⟨(K : Int), (K : Int) + 1, (K : Int) + 1 + 1, (K : Int) + 1 + 1 + 1, (K : Int) + 1 + 1 + 1 + 1, mcs, mns⟩, Value.slice ac mcs.length cc, Value.slice an mns.length cn) :: xs.drop (j + 1)) = vals ys ++ ([Value.slice ac mcs.length cc, Value.slice an mns.length cn] ++ vals (xs.drop (j + 1))) := by simp [vals]
          have hp := o5.2.2.1.2
          rw [e2, List.pairwise_append, List.pairwise_append] at hp
          obtain ⟨_, ⟨p1, _, _⟩, _⟩ := hp
          rw [List.pairwise_cons] at p1
          exact fun q hq => p1.1 _ (by simp) q hq)
        have H5 := hide o5
        have HC := hide hpar.1
        have HNN := hide hpar.2
        have HG5 := hide (HG.out.trans g5)
        have hglt : g < wr.heap.size := (World.ownsRow.lt HO.out.1 g rfl).2
        have HX6 : Hid ((((((wr.setCell ⟨g, j * 7, none⟩ (.int .i64 (K : Int))).setCell ⟨g, j * 7 + 1, none⟩ (.int .i64 ((K : Int) + 1))).setCell ⟨g, j * 7 + 2, none⟩ (.int .i64 ((K : Int) + 1 + 1))).setCell ⟨g, j * 7 + 3, none⟩ (.int .i64 ((K : Int) + 1 + 1 + 1))).setCell ⟨g, j * 7 + 4, none⟩ (.int .i64 ((K : Int) + 1 + 1 + 1 + 1))).cell? ⟨g, j * 7 + 6, none⟩ = some (.slice an mns.length cn)) := hide (by
          have hlen5 : (ys ++ (⟨(K : Int), (K : Int) + 1, (K : Int) + 1 + 1, (K : Int) + 1 + 1 + 1, (K : Int) + 1 + 1 + 1 + 1, mcs, mns⟩, Value.slice ac mcs.length cc, Value.slice an mns.length cn) :: xs.drop (j + 1)).length = n := by rw [← hlen]; simp
          have := (H5.out.five hlen5 j hyj 0 0 0 0 0).1 6 (by omega)
          simpa [msC] using this)
        have hg5l : g < (((((wr.setCell ⟨g, j * 7, none⟩ (.int .i64 (K : Int))).setCell ⟨g, j * 7 + 1, none⟩ (.int .i64 ((K : Int) + 1))).setCell ⟨g, j * 7 + 2, none⟩ (.int .i64 ((K : Int) + 1 + 1))).setCell ⟨g, j * 7 + 3, none⟩ (.int .i64 ((K : Int) + 1 + 1 + 1))).setCell ⟨g, j * 7 + 4, none⟩ (.int .i64 ((K : Int) + 1 + 1 + 1 + 1))).heap.size := by simpa using hglt
        have HGL := hide hg5l
        clear o5 hpar g5 fc hg5l hglt HO HG
        go_wp2_with fail
        refine (markCells _ b ((K : Int) + 1 + 1 + 1 + 1 + 1) _ mcs HC.out (by omega) (by omega) hgm.1).mono ?_
        rintro e w2 ⟨rfl, o2, g2⟩
        have f6 := (World.cell?_of_block (a := ⟨g, j * 7 + 6, none⟩) (g2.block g HGL.out (fun e => HNG.out g e.symm rfl))).trans HX6.out
        have HN2 := hide (ownN_kept HNN.out g2 (fun q hq e => HNC.out q e hq))
        have HO2 := hide o2
        have HG2 := hide g2
        clear o2 g2 d0 d1 d2 d3 d4 d5 d6 hz HX6
        go_wp2_with fail
        refine (markNotes _ b ((K : Int) + 1 + 1 + 1 + 1 + 1 + 3 * (mcs.length : Int)) _ mns HN2.out (by omega) (by have h : mcs.length ≤ 1048576 := hgm.1; omega) hgm.2).mono ?_
        rintro e w3 ⟨rfl, o3, g3⟩
        have hfin := H5.out.parts (marksC ((K : Int) + 1 + 1 + 1 + 1 + 1) mcs.length) (marksN ((K : Int) + 1 + 1 + 1 + 1 + 1 + 3 * (mcs.length : Int)) mns.length) HO2.out HG2.out o3 g3
        have HF : Hid (OwnY w3 b hi (.slice (some ⟨g, 0, none⟩) n c) ((ys ++ [(markM K ⟨mk, mi, mu, mc, mn, mcs, mns⟩, .slice ac mcs.length cc, .slice an mns.length cn)]) ++ xs.drop (j + 1))) := hide (by rw [List.append_assoc]; exact hfin.1)
        have HGF := hide (HG5.out.trans hfin.2)
        have HYF : Hid ((ys ++ [(markM K ⟨mk, mi, mu, mc, mn, mcs, mns⟩, Value.slice ac mcs.length cc, Value.slice an mns.length cn)]).length = j + 1 ∧ (ys ++ [(markM K ⟨mk, mi, mu, mc, mn, mcs, mns⟩, Value.slice ac mcs.length cc, Value.slice an mns.length cn)]).map Prod.fst = marksS k ((xs.take (j + 1)).map Prod.fst)) := hide ⟨by simp [hyj], by rw [HT.out, marksS_app, HK.out, List.map_append, HY.out.2]; rfl⟩
        have HKF : Hid (((endS k ((xs.take (j + 1)).map Prod.fst) : Nat) : Int) = (K : Int) + 1 + 1 + 1 + 1 + 1 + 3 * (mcs.length : Int) + 2 * (mns.length : Int)) := hide (by rw [HT.out, endS_app, HK.out]; simp [endS, mkN]; omega)
        clear o3 g3 hfin f6
        go_wp2
        exact ⟨⟨j + 1, _, by omega, by rw [HKF.out], by go_num, HYF, HF, HGF⟩, by simp [intOf]; omega⟩
      · obtain rfl : j = n := by omega
        have hall : xs.take j = xs := by rw [← HN.out, List.take_length]
        have HF : Hid (OwnS wr b hi (.slice (some ⟨g, 0, none⟩) j c) (marksS k (xs.map Prod.fst))) := hide ⟨ys, by rw [HY.out.2, hall], by have := HO.out; rwa [← HN.out, List.drop_length, List.append_nil, HN.out] at this⟩
        have HE : Hid (((endS k ((xs.take j).map Prod.fst) : Nat) : Int) = ((endS k (xs.map Prod.fst) : Nat) : Int)) := hide (by rw [hall])
        have hKb : endS k ((xs.take j).map Prod.fst) ≤ 50000000 := by
          rw [hall]
          have := HEND.out
          omega
        clear hall
        go_wp2
        go_ret
        exact ⟨ret_int HE.out, HF.out, HG.out⟩

set_option maxRecDepth 100000 in
set_option maxHeartbeats 1000000 in
theorem markSnd (w : World) (b hi k : Nat) (base : Int) (v : Value) (ms : List Ms) (h : OwnS w b hi v ms) (hgd : GoodS ms) (hk : k + 5 * totS ms ≤ 50000000) :
    Calls Try.prog 33 #[sndV base v, .int .i64 (k : Int)] w fun e w' => e = .returned (.int .i64 ((endS k ms : Nat) : Int)) ∧ OwnS w' b hi v (marksS k ms) ∧ Out b hi w w' := by
  have HO := hide h
  obtain ⟨a, c, rfl⟩ := h.shape
  clear h
  unfold sndV
  have bA := (Below.refl w.heap.size w).alloc (Nat.le_refl _) (.cells #[.int .i64 base, .slice a ms.length c] 51)
  have HA := hide bA
  replace HO := hide (HO.out.below bA)
  clear bA
  go_enter Try.func33, Try.ntmps33
  go_wp2_with fail
  refine (markMss _ b hi k _ ms HO.out hgd hk).mono ?_
  rintro e w1 ⟨rfl, o1, g1⟩
  have H1 := hide o1
  have HG := hide ((Out.of_below HA.out).trans g1)
  clear o1 g1 HA HO
  go_wp2
  go_ret
  exact ⟨rfl, H1.out, HG.out⟩
set_option maxRecDepth 100000 in
set_option maxHeartbeats 2000000 in
theorem heldCells (w : World) (b n : Nat) (k : Int) (v : Value) (h : OwnC w b v (marksC k n)) (hk0 : 0 ≤ k) (hk : k ≤ 100000000) (hl : n ≤ 1048576) :
    Calls Try.prog 98 #[v, .int .i64 k] w fun e w' => e = .returned (.int .i64 (k + 3 * (n : Int))) ∧ w' = w := by
  have HO := hide h
  obtain ⟨a, c, rfl⟩ := ownC_shape h
  rw [marksC_len] at HO ⊢
  clear h
  go_enter Try.func98, Try.ntmps98
  go_wp2
  go_loopw [1, 5] (fun q i wr => ∃ j : Nat, j ≤ n ∧ q = .int .i64 (k + 3 * (j : Int)) ∧ i = .int .i64 (j : Int) ∧ wr = w) (fun _ i _ => n - (intOf i).toNat)
  case atStart => exact ⟨0, Nat.zero_le _, by simp, rfl, rfl⟩
  case round =>
    obtain ⟨j, hj, rfl, rfl, rfl⟩ := hrel
    by_cases hlt : j < n
    · obtain ⟨g, rfl⟩ : ∃ g, a = some ⟨g, 0, none⟩ := by
        rcases HO.out.2 with ⟨e, h1⟩ | ⟨g, c', _, e, _⟩
        · rw [marksC_len] at h1; omega
        · simp only [Value.slice.injEq] at e; exact ⟨g, e.1⟩
      have hrow := HO.out
      unfold OwnC at hrow
      rw [marksC_len] at hrow
      have fc : ∀ r, r < 3 → wr.cell? ⟨g, j * 3 + r, none⟩ = (cellC (markC1 (k + 3 * (j : Int))))[r]? := fun r hr => by
        rw [World.ownsRow.cellAt hrow _ (by omega), flat_get cellC 3 cellC_len _ (0, false, 0) j r (by rw [marksC_len]; exact hlt) hr, marksC_get k n j hlt]
      have d0 := fc 0 (by omega)
      have d1 := fc 1 (by omega)
      have d2 := fc 2 (by omega)
      rw [Nat.add_zero] at d0
      simp only [cellC, markC1, List.getElem?_cons_zero, List.getElem?_cons_succ] at d0 d1 d2
      have n0 : ((k + 3 * (j : Int)) != (k + 3 * (j : Int))) = false := by simp
      have n1 : (((k + 3 * (j : Int) + 1) % 3 == 0) != ((k + 3 * (j : Int) + 1) % 3 == 0)) = false := by simp
      have n2 : ((k + 3 * (j : Int) + 1 + 1) != (k + 3 * (j : Int) + 1 + 1)) = false := by simp
      clear hrow fc
      go_wp2
      exact ⟨⟨j + 1, by omega, by go_num, by go_num, trivial⟩, by simp [intOf]; omega⟩
    · obtain rfl : j = n := by omega
      go_wp2
      go_ret
      exact ⟨rfl, rfl⟩

set_option maxRecDepth 100000 in
set_option maxHeartbeats 2000000 in
theorem heldNotes (w : World) (b n : Nat) (k : Int) (v : Value) (h : OwnN w b v (marksN k n)) (hk0 : 0 ≤ k) (hk : k ≤ 100000000) (hl : n ≤ 1048576) :
    Calls Try.prog 99 #[v, .int .i64 k] w fun e w' => e = .returned (.int .i64 (k + 2 * (n : Int))) ∧ w' = w := by
  have HO := hide h
  obtain ⟨a, c, rfl⟩ := ownN_shape h
  rw [marksN_len] at HO ⊢
  clear h
  go_enter Try.func99, Try.ntmps99
  go_wp2
  go_loopw [1, 5] (fun q i wr => ∃ j : Nat, j ≤ n ∧ q = .int .i64 (k + 2 * (j : Int)) ∧ i = .int .i64 (j : Int) ∧ wr = w) (fun _ i _ => n - (intOf i).toNat)
  case atStart => exact ⟨0, Nat.zero_le _, by simp, rfl, rfl⟩
  case round =>
    obtain ⟨j, hj, rfl, rfl, rfl⟩ := hrel
    by_cases hlt : j < n
    · obtain ⟨g, rfl⟩ : ∃ g, a = some ⟨g, 0, none⟩ := by
        rcases HO.out.2 with ⟨e, h1⟩ | ⟨g, c', _, e, _⟩
        · rw [marksN_len] at h1; omega
        · simp only [Value.slice.injEq] at e; exact ⟨g, e.1⟩
      have hrow := HO.out
      unfold OwnN at hrow
      rw [marksN_len] at hrow
      have fc : ∀ r, r < 2 → wr.cell? ⟨g, j * 2 + r, none⟩ = (noteC (markN1 (k + 2 * (j : Int))))[r]? := fun r hr => by
        rw [World.ownsRow.cellAt hrow _ (by omega), flat_get noteC 2 noteC_len _ (0, 0) j r (by rw [marksN_len]; exact hlt) hr, marksN_get k n j hlt]
      have d0 := fc 0 (by omega)
      have d1 := fc 1 (by omega)
      rw [Nat.add_zero] at d0
      simp only [noteC, markN1, List.getElem?_cons_zero, List.getElem?_cons_succ] at d0 d1
      have n0 : ((k + 2 * (j : Int)) != (k + 2 * (j : Int))) = false := by simp
      have n1 : ((k + 2 * (j : Int) + 1) != (k + 2 * (j : Int) + 1)) = false := by simp
      clear hrow fc
      go_wp2
      exact ⟨⟨j + 1, by omega, by go_num, by go_num, trivial⟩, by simp [intOf]; omega⟩
    · obtain rfl : j = n := by omega
      go_wp2
      go_ret
      exact ⟨rfl, rfl⟩

theorem marksS_get (k : Nat) (ms : List Ms) (j : Nat) (h : j < ms.length) : (marksS k ms).getD j default = markM (endS k (ms.take j)) (ms.getD j default) := by
  have e : marksS k ms = marksS k (ms.take j) ++ marksS (endS k (ms.take j)) (ms.drop j) := by rw [← marksS_app, List.take_append_drop]
  have hl : (marksS k (ms.take j)).length = j := by rw [marksS_len, List.length_take]; omega
  rw [e, List.drop_eq_getElem_cons h, List.getD_eq_getElem?_getD, List.getElem?_append_right (by omega), hl, Nat.sub_self]
  simp [marksS, h]

set_option maxRecDepth 100000 in
set_option maxHeartbeats 4000000 in
theorem heldMss (w : World) (b hi k : Nat) (v : Value) (ms : List Ms) (h : OwnS w b hi v (marksS k ms)) (hgd : GoodS ms) (hk : k + 5 * totS ms ≤ 50000000) :
    Calls Try.prog 80 #[v, .int .i64 (k : Int)] w fun e w' => e = .returned (.int .i64 ((endS k ms : Nat) : Int)) ∧ w' = w := by
  obtain ⟨xs, hxs, hx⟩ := h
  have htl := totS_len ms
  have hxl : xs.length = ms.length := by rw [← marksS_len k ms, ← hxs]; simp
  have HEND := hide (endS_le k ms)
  obtain ⟨a, c, rfl⟩ : ∃ a c, v = .slice a ms.length c := by
    rcases hx.1.2 with ⟨rfl, h1⟩ | ⟨g, c, _, rfl, _⟩
    · exact ⟨_, _, by rw [← hxl, h1]⟩
    · exact ⟨_, _, by rw [← hxl]⟩
  have HGD := hide hgd
  have HX := hide hx
  have HXS := hide hxs
  have HXL := hide hxl
  clear hx hxs hxl hgd
  generalize hn : ms.length = n at *
  have HN := hide hn
  clear hn
  go_enter Try.func80, Try.ntmps80
  go_wp2
  go_loopw [1, 5] (fun q i wr => ∃ j : Nat, j ≤ n ∧ q = .int .i64 ((endS k (ms.take j) : Nat) : Int) ∧ i = .int .i64 (j : Int) ∧ wr = w) (fun _ i _ => n - (intOf i).toNat)
  case atStart => exact ⟨0, Nat.zero_le _, by simp [endS], rfl, rfl⟩
  case round =>
    obtain ⟨j, hj, rfl, rfl, rfl⟩ := hrel
    have hKb : endS k (ms.take j) ≤ 50000000 := by
      have h1 : endS k ms = endS (endS k (ms.take j)) (ms.drop j) := by rw [← endS_app, List.take_append_drop]
      have h2 := endS_ge (endS k (ms.take j)) (ms.drop j)
      have := HEND.out
      omega
    by_cases hlt : j < n
    · obtain ⟨g, rfl⟩ : ∃ g, a = some ⟨g, 0, none⟩ := by
        rcases HX.out.1.2 with ⟨e, h1⟩ | ⟨g, c', _, e, _⟩
        · rw [HXL.out] at h1; omega
        · cases e; exact ⟨g, rfl⟩
      have hjm : j < ms.length := by rw [HN.out]; exact hlt
      have hrow := HX.out.1
      rw [HXL.out] at hrow
      have hxj : xs.getD j default ∈ xs := getD_mem xs j (by rw [HXL.out]; exact hlt)
      have hpj : (xs.getD j default).1 = markM (endS k (ms.take j)) (ms.getD j default) := by
        rw [← marksS_get k ms j hjm, ← HXS.out]
        simp [List.getD, show j < xs.length by rw [HXL.out]; exact hlt]
      have hgm := HGD.out.at hjm
      have hpar := HX.out.2.1 _ hxj
      have fc : ∀ r, r < 7 → wr.cell? ⟨g, j * 7 + r, none⟩ = (msC (xs.getD j default))[r]? := fun r hr => by
        rw [World.ownsRow.cellAt hrow _ (by omega), flat_get msC 7 msC_len _ default j r (by rw [HXL.out]; exact hlt) hr]
      have HT : Hid (ms.take (j + 1) = ms.take j ++ [ms.getD j default]) := hide (by rw [List.take_succ_eq_append_getElem hjm]; simp [hjm])
      generalize hK : endS k (ms.take j) = K at *
      have HK := hide hK
      clear hK
      generalize xs.getD j default = x at *
      obtain ⟨p, cv, nv⟩ := x
      simp only at hpj hpar
      subst hpj
      have d0 := fc 0 (by omega)
      have d1 := fc 1 (by omega)
      have d2 := fc 2 (by omega)
      have d3 := fc 3 (by omega)
      have d4 := fc 4 (by omega)
      have d5 := fc 5 (by omega)
      have d6 := fc 6 (by omega)
      rw [Nat.add_zero] at d0
      simp only [msC, markM, List.getElem?_cons_zero, List.getElem?_cons_succ] at d0 d1 d2 d3 d4 d5 d6
      simp only [markM] at hpar
      generalize ms.getD j default = q at *
      obtain ⟨qk, qi, qu, qc, qn, qcs, qns⟩ := q
      simp only at hpar hgm
      obtain ⟨ac, cc, ec⟩ := ownC_shape hpar.1
      obtain ⟨an, cn, en⟩ := ownN_shape hpar.2
      rw [marksC_len] at ec
      rw [marksN_len] at en
      subst ec en
      have n0 : ((K : Int) != (K : Int)) = false := by simp
      have n1 : (((K : Int) + 1) != ((K : Int) + 1)) = false := by simp
      have n2 : (((K : Int) + 1 + 1) != ((K : Int) + 1 + 1)) = false := by simp
      have n3 : (((K : Int) + 1 + 1 + 1) != ((K : Int) + 1 + 1 + 1)) = false := by simp
      have n4 : (((K : Int) + 1 + 1 + 1 + 1) != ((K : Int) + 1 + 1 + 1 + 1)) = false := by simp
      have n5 : ¬ ((K : Int) + 1 + 1 + 1 + 1 + 1 + 3 * (qcs.length : Int) < 0) := by omega
      have n6 : ¬ ((K : Int) + 1 + 1 + 1 + 1 + 1 + 3 * (qcs.length : Int) + 2 * (qns.length : Int) < 0) := by omega
      have HC := hide hpar.1
      have HNN := hide hpar.2
      have HKF : Hid (((endS k (ms.take (j + 1)) : Nat) : Int) = (K : Int) + 1 + 1 + 1 + 1 + 1 + 3 * (qcs.length : Int) + 2 * (qns.length : Int)) := hide (by rw [HT.out, endS_app, HK.out]; simp [endS, mkN]; omega)
      clear hpar fc hrow hxj
      go_wp2_with fail
      refine (heldCells _ b qcs.length ((K : Int) + 1 + 1 + 1 + 1 + 1) _ HC.out (by omega) (by omega) hgm.1).mono ?_
      rintro e w2 ⟨rfl, rfl⟩
      go_wp2_with fail
      refine (heldNotes _ b qns.length ((K : Int) + 1 + 1 + 1 + 1 + 1 + 3 * (qcs.length : Int)) _ HNN.out (by omega) (by have h : qcs.length ≤ 1048576 := hgm.1; omega) hgm.2).mono ?_
      rintro e w3 ⟨rfl, rfl⟩
      go_wp2
      exact ⟨⟨j + 1, by omega, by rw [HKF.out], by go_num, trivial⟩, by simp [intOf]; omega⟩
    · obtain rfl : j = n := by omega
      have hall : ms.take j = ms := by rw [← HN.out, List.take_length]
      have HE : Hid (((endS k (ms.take j) : Nat) : Int) = ((endS k ms : Nat) : Int)) := hide (by rw [hall])
      clear hall
      go_wp2
      go_ret
      exact ⟨ret_int HE.out, rfl⟩

set_option maxRecDepth 100000 in
set_option maxHeartbeats 1000000 in
theorem heldSnd (w : World) (b hi k : Nat) (base : Int) (v : Value) (ms : List Ms) (h : OwnS w b hi v (marksS k ms)) (hgd : GoodS ms) (hk : k + 5 * totS ms ≤ 50000000) :
    Calls Try.prog 35 #[sndV base v, .int .i64 (k : Int)] w fun e w' => e = .returned (.int .i64 ((endS k ms : Nat) : Int)) ∧ Below w.heap.size w w' := by
  have HO := hide h
  obtain ⟨a, c, rfl⟩ := h.shape
  clear h
  unfold sndV
  have bA := (Below.refl w.heap.size w).alloc (Nat.le_refl _) (.cells #[.int .i64 base, .slice a (marksS k ms).length c] 51)
  have HA := hide bA
  replace HO := hide (HO.out.below bA)
  clear bA
  have hn : ¬ (((endS k ms : Nat) : Int) < 0) := by omega
  go_enter Try.func35, Try.ntmps35
  go_wp2_with fail
  refine (heldMss _ b hi k _ ms HO.out hgd hk).mono ?_
  rintro e w1 ⟨rfl, rfl⟩
  go_wp2
  go_ret
  exact ⟨rfl, HA.out⟩
theorem heldSnd1 (w : World) (b hi : Nat) (base : Int) (v : Value) (ms : List Ms) (h : OwnS w b hi v (marksS 1 ms)) (hgd : GoodS ms) (hk : 1 + 5 * totS ms ≤ 50000000) :
    Calls Try.prog 35 #[sndV base v, .int .i64 1] w fun e w' => e = .returned (.int .i64 ((endS 1 ms : Nat) : Int)) ∧ Below w.heap.size w w' := by
  have := heldSnd w b hi 1 base v ms h hgd hk
  simpa only [Int.natCast_one] using this
theorem markSnd1 (w : World) (b hi : Nat) (base : Int) (v : Value) (ms : List Ms) (h : OwnS w b hi v ms) (hgd : GoodS ms) (hk : 1 + 5 * totS ms ≤ 50000000) :
    Calls Try.prog 33 #[sndV base v, .int .i64 1] w fun e w' => e = .returned (.int .i64 ((endS 1 ms : Nat) : Int)) ∧ OwnS w' b hi v (marksS 1 ms) ∧ Out b hi w w' := by
  have := markSnd w b hi 1 base v ms h hgd hk
  simpa only [Int.natCast_one] using this
end Go.Proofs.Ytoaenoakdbieaaa
