/-
  What takeCell and takeNote do.
-/
import Derived.Test.YtoaenoakdbieaaaDoorTakeC
namespace Go.Proofs.YtoaenoakdbieaaaDoor
open Go.RowKit

set_option maxRecDepth 100000 in
set_option maxHeartbeats 2000000 in
theorem rdNote {w : World} {B : Nat} {a : Option Addr} {len : Nat} {zs : List Int} {p k : Nat} {t : TypeId} {v : Value} (cap : Nat) (h : Rdr w B a len zs p k t v) :
    Calls Tryd.prog 107 #[.slice a len cap, .pointer (some ⟨p, 0, none⟩)] w (tookG noteV w p t v (rNote zs k)) := by
  have hlt := h.lt
  have HR := hide (h.alloc (.cells #[.int .i64 0, .int .i64 0] 77))
  have HA := hide (World.grownBy_alloc w (.cells #[.int .i64 0, .int .i64 0] 77) (some p))
  have HE := hide (heap_alloc_new w (.cells #[.int .i64 0, .int .i64 0] 77))
  clear h
  go_enter Tryd.func107, Tryd.ntmps107
  go_wp2_with fail
  refine (rdNum cap HR.out).mono ?_
  rintro e w1 ⟨hres, g1⟩
  have HG := hide (grownBy_trans HA.out g1)
  rcases hres with ⟨x, k1, hr1, rfl, hp1⟩ | ⟨hr1, rfl⟩
  · have HR1 := hide (HR.out.next g1 hp1)
    have HE1 := hide ((g1.block w.heap.size (by simp) (fun e => by cases e; omega)).trans HE.out)
    have H1 := hide hr1
    clear g1 hp1 hr1 HR HE HA
    go_wp2_with fail
    refine (rdNum cap HR1.out).mono ?_
    rintro e w2 ⟨hres, g2⟩
    have hs1 : w.heap.size < w1.heap.size := (Array.getElem?_eq_some_iff.1 HE1.out).1
    replace HG := hide (grownBy_trans HG.out g2)
    rcases hres with ⟨y, k2, hr2, rfl, hp2⟩ | ⟨hr2, rfl⟩
    · have HE2 := hide ((g2.block w.heap.size hs1 (fun e => by cases e; omega)).trans HE1.out)
      have HN : Hid (rNote zs k = some ((x, y), k2)) := hide (by unfold rNote; rw [H1.out]; simp only [Option.bind_some]; rw [hr2]; rfl)
      have HP := hide hp2
      have X := box_of HE2.out
      have f0 := X.1 0 _ rfl
      have f1 := X.1 1 _ rfl
      have z0 := X.2 0
      have z1 := X.2 1
      clear g2 hp2 hr2 HE1 HR1 X
      go_wp2
      refine bodyPost_ret (v := .agg #[.int .i64 x, .int .i64 y]) (results_one Tryd.results107 _ _ _ rfl (load2 (put2 HE2.out _ _))) rfl ⟨.inl ⟨_, _, HN.out, rfl, ?_⟩, grown_new (grown_new HG.out (Nat.le_refl _) _ _) (Nat.le_refl _) _ _⟩
      rw [set_place hlt, set_place hlt]
      exact HP.out
    · have HN : Hid (rNote zs k = none) := hide (by unfold rNote; rw [H1.out]; simp only [Option.bind_some]; rw [hr2]; rfl)
      clear g2 hr2 HE1 HR1
      go_wp2
      exact ⟨rfl, .inr ⟨HN.out, rfl⟩, HG.out⟩
  · have HN : Hid (rNote zs k = none) := hide (by unfold rNote; rw [hr1]; rfl)
    clear g1 hr1
    go_wp2
    exact ⟨rfl, .inr ⟨HN.out, rfl⟩, HG.out⟩

set_option maxRecDepth 100000 in
set_option maxHeartbeats 4000000 in
theorem rdCell {w : World} {B : Nat} {a : Option Addr} {len : Nat} {zs : List Int} {p k : Nat} {t : TypeId} {v : Value} (cap : Nat) (h : Rdr w B a len zs p k t v) :
    Calls Tryd.prog 105 #[.slice a len cap, .pointer (some ⟨p, 0, none⟩)] w (tookG cellV w p t v (rCell zs k)) := by
  rw [rCell_flag]
  have hlt := h.lt
  have HR := hide (h.alloc (.cells #[.int .i64 0, .bool false, .int .i64 0] 74))
  have HA := hide (World.grownBy_alloc w (.cells #[.int .i64 0, .bool false, .int .i64 0] 74) (some p))
  have HE := hide (heap_alloc_new w (.cells #[.int .i64 0, .bool false, .int .i64 0] 74))
  clear h
  generalize hG : (gnF zs 4 k 0 1).bind _ = G
  have HGG := hide hG
  clear hG
  go_enter Tryd.func105, Tryd.ntmps105
  go_wp2_with fail
  refine (rdNum cap HR.out).mono ?_
  rintro e w1 ⟨hres, g1⟩
  have HG := hide (grownBy_trans HA.out g1)
  rcases hres with ⟨x, k1, hr1, rfl, hp1⟩ | ⟨hr1, rfl⟩
  · have HR1 := hide (HR.out.next g1 hp1)
    have HE1 := hide ((g1.block w.heap.size (by simp) (fun e => by cases e; omega)).trans HE.out)
    rw [hr1] at HGG
    clear g1 hp1 hr1 HR HE HA
    go_wp2_with fail
    refine (rdFlag cap HR1.out).mono ?_
    rintro e w2 ⟨hres, g2⟩
    have hs1 : w.heap.size < w1.heap.size := (Array.getElem?_eq_some_iff.1 HE1.out).1
    replace HG := hide (grownBy_trans HG.out g2)
    rcases hres with ⟨f, k2, hr2, rfl, hp2⟩ | ⟨hr2, rfl⟩
    · have HR2 := hide (HR1.out.next g2 hp2)
      have HE2 := hide ((g2.block w.heap.size hs1 (fun e => by cases e; omega)).trans HE1.out)
      have H2 := hide hr2
      have hs2 : w.heap.size < w2.heap.size := (Array.getElem?_eq_some_iff.1 HE2.out).1
      clear g2 hp2 hr2 HE1 HR1
      cases f with
      | true =>
        go_wp2_with fail
        refine (rdNum cap HR2.out).mono ?_
        rintro e w3 ⟨hres, g3⟩
        replace HG := hide (grownBy_trans HG.out g3)
        rcases hres with ⟨y, k3, hr3, rfl, hp3⟩ | ⟨hr3, rfl⟩
        · have HE3 := hide ((g3.block w.heap.size hs2 (fun e => by cases e; omega)).trans HE2.out)
          have HN : Hid (G = some ((x, true, y), k3)) := hide (by rw [← HGG.out]; simp only [Option.bind_some]; rw [H2.out]; simp only [Option.bind_some, if_true]; rw [hr3]; rfl)
          have HP := hide hp3
          have X := box_of HE3.out
          have f0 := X.1 0 _ rfl
          have f1 := X.1 1 _ rfl
          have f2 := X.1 2 _ rfl
          have z0 := X.2 0
          have z1 := X.2 1
          have z2 := X.2 2
          clear g3 hp3 hr3 HE2 HR2 X
          go_wp2
          refine bodyPost_ret (v := .agg #[.int .i64 x, .bool true, .int .i64 y]) (results_one Tryd.results105 _ _ _ rfl (load3 (put3 HE3.out _ _ _))) rfl ⟨.inl ⟨_, _, HN.out, rfl, ?_⟩, grown_new (grown_new (grown_new HG.out (Nat.le_refl _) _ _) (Nat.le_refl _) _ _) (Nat.le_refl _) _ _⟩
          rw [set_place hlt, set_place hlt, set_place hlt]
          exact HP.out
        · have HN : Hid (G = none) := hide (by rw [← HGG.out]; simp only [Option.bind_some]; rw [H2.out]; simp only [Option.bind_some, if_true]; rw [hr3]; rfl)
          clear g3 hr3 HE2 HR2
          go_wp2
          exact ⟨rfl, .inr ⟨HN.out, rfl⟩, HG.out⟩
      | false =>
        go_wp2_with fail
        refine (rdWord cap HR2.out).mono ?_
        rintro e w3 ⟨hres, g3⟩
        replace HG := hide (grownBy_trans HG.out g3)
        rcases hres with ⟨y, k3, hr3, rfl, hp3⟩ | ⟨hr3, rfl⟩
        · have HE3 := hide ((g3.block w.heap.size hs2 (fun e => by cases e; omega)).trans HE2.out)
          have HN : Hid (G = some ((x, false, y), k3)) := hide (by rw [← HGG.out]; simp only [Option.bind_some]; rw [H2.out]; simp only [Option.bind_some, Bool.false_eq_true, if_false]; rw [hr3]; rfl)
          have HP := hide hp3
          have X := box_of HE3.out
          have f0 := X.1 0 _ rfl
          have f1 := X.1 1 _ rfl
          have f2 := X.1 2 _ rfl
          have z0 := X.2 0
          have z1 := X.2 1
          have z2 := X.2 2
          clear g3 hp3 hr3 HE2 HR2 X
          go_wp2
          refine bodyPost_ret (v := .agg #[.int .i64 x, .bool false, .int .i64 y]) (results_one Tryd.results105 _ _ _ rfl (load3 (put3 HE3.out _ _ _))) rfl ⟨.inl ⟨_, _, HN.out, rfl, ?_⟩, grown_new (grown_new (grown_new HG.out (Nat.le_refl _) _ _) (Nat.le_refl _) _ _) (Nat.le_refl _) _ _⟩
          rw [set_place hlt, set_place hlt, set_place hlt]
          exact HP.out
        · have HN : Hid (G = none) := hide (by rw [← HGG.out]; simp only [Option.bind_some]; rw [H2.out]; simp only [Option.bind_some, Bool.false_eq_true, if_false]; rw [hr3]; rfl)
          clear g3 hr3 HE2 HR2
          go_wp2
          exact ⟨rfl, .inr ⟨HN.out, rfl⟩, HG.out⟩
    · have HN : Hid (G = none) := hide (by rw [← HGG.out]; simp only [Option.bind_some]; rw [hr2]; rfl)
      clear g2 hr2 HE1 HR1
      go_wp2
      exact ⟨rfl, .inr ⟨HN.out, rfl⟩, HG.out⟩
  · have HN : Hid (G = none) := hide (by rw [← HGG.out, hr1]; rfl)
    clear g1 hr1
    go_wp2
    exact ⟨rfl, .inr ⟨HN.out, rfl⟩, HG.out⟩
end Go.Proofs.YtoaenoakdbieaaaDoor
