/-
  Joined: TakeC, TakeD, TakeL.
-/
import Derived.Test.YtkfnpijljpbiaaaDoorJ21
import Derived.Test.YtkfnpijljpbiaaaDoorJ12
/-
  What takeFlag, takeCell and takeNote do: what begins at the place, and the place behind it; or a panic, where there is none.
-/
namespace Go.Proofs.YtkfnpijljpbiaaaDoor
open Go.RowKit

def rFlag (zs : List Int) (k : Nat) : Option (Bool × Nat) := (gnF zs 4 k 0 1).bind fun f => if 1 < f.1 then none else some (f.1 == 1, f.2)

set_option maxRecDepth 100000 in
set_option maxHeartbeats 1000000 in
theorem rdFlag {w : World} {B : Nat} {a : Option Addr} {len : Nat} {zs : List Int} {p k : Nat} {t : TypeId} {v : Value} (cap : Nat) (h : Rdr w B a len zs p k t v) :
    Calls Tryd.prog 68 #[.slice a len cap, .pointer (some ⟨p, 0, none⟩)] w (tookG Value.bool w p t v (rFlag zs k)) := by
  have HR := hide h
  clear h
  go_enter Tryd.func68, Tryd.ntmps68
  go_wp2_with fail
  refine (rdNum cap HR.out).mono ?_
  rintro e w1 ⟨hres, hg⟩
  have HG := hide hg
  clear hg
  rcases hres with ⟨n, nx, hr, rfl, hp1⟩ | ⟨hr, rfl⟩
  · have HP := hide hp1
    have hE : w1.cell? ⟨0, 0, none⟩ = some (.iface t v) := (HR.out.next HG.out hp1).err
    clear hp1
    by_cases hn : 1 < n
    · have HN : Hid (rFlag zs k = none) := hide (by unfold rFlag; rw [hr]; simp [hn])
      clear hr
      go_wp2
      exact ⟨rfl, .inr ⟨HN.out, rfl⟩, HG.out⟩
    · have HN : Hid (rFlag zs k = some (n == 1, nx)) := hide (by unfold rFlag; rw [hr]; simp [hn])
      clear hr hE
      go_wp2
      go_ret
      exact ⟨.inl ⟨_, _, HN.out, rfl, HP.out⟩, HG.out⟩
  · have HN : Hid (rFlag zs k = none) := hide (by unfold rFlag; rw [hr]; rfl)
    clear hr
    go_wp2
    exact ⟨rfl, .inr ⟨HN.out, rfl⟩, HG.out⟩

def cellV (x : Int × Bool × Int) : Value := .agg #[.int .i64 x.1, .bool x.2.1, .int .i64 x.2.2]
def noteV (x : Int × Int) : Value := .agg #[.int .i64 x.1, .int .i64 x.2]

theorem rCell_flag (zs : List Int) (k : Nat) : rCell zs k = (gnF zs 4 k 0 1).bind fun a => (rFlag zs a.2).bind fun f => if f.1 = true then (gnF zs 4 f.2 0 1).bind fun y => some ((a.1, true, y.1), y.2) else (gw zs (f.2 : Int)).bind fun y => some ((a.1, false, y.1), y.2) := by
  unfold rCell
  congr 1
  funext a
  unfold rFlag
  rw [Option.bind_assoc]
  congr 1
  funext f
  by_cases h : 1 < f.1
  · rw [if_pos h, if_pos h]; rfl
  · rw [if_neg h, if_neg h]
    simp only [Option.bind_some, beq_iff_eq]

theorem load3C {w : World} {g : Nat} {x y z : Value} (h : w.heap[g]? = some (.cells #[x, y, z] 92 (0, 0))) : (loadVar 92 ⟨g, 0, none⟩).run Tryd.prog w = .ok (.agg #[x, y, z]) w :=
  run_loadVar_row w g 92 92 #[x, y, z] (0, 0) _ h Tryd.underlying92 rfl (by kernel_rfl)
theorem load2N {w : World} {g : Nat} {x y : Value} (h : w.heap[g]? = some (.cells #[x, y] 95 (0, 0))) : (loadVar 95 ⟨g, 0, none⟩).run Tryd.prog w = .ok (.agg #[x, y]) w :=
  run_loadVar_row w g 95 95 #[x, y] (0, 0) _ h Tryd.underlying95 rfl (by kernel_rfl)
theorem put3C {w : World} {g : Nat} {T : TypeId} {a0 a1 a2 : Value} (h : w.heap[g]? = some (.cells #[a0, a1, a2] T (0, 0))) (b0 b1 b2 : Value) :
    (((w.setCell ⟨g, 0, none⟩ b0).setCell ⟨g, 1, none⟩ b1).setCell ⟨g, 2, none⟩ b2).heap[g]? = some (.cells #[b0, b1, b2] T (0, 0)) := by
  have h0 : (w.setCell ⟨g, 0, none⟩ b0).heap[g]? = some (.cells #[b0, a1, a2] T (0, 0)) := heap_setCell_same w g 0 _ T b0 h
  have h1 : ((w.setCell ⟨g, 0, none⟩ b0).setCell ⟨g, 1, none⟩ b1).heap[g]? = some (.cells #[b0, b1, a2] T (0, 0)) := heap_setCell_same _ g 1 _ T b1 h0
  exact heap_setCell_same _ g 2 _ T b2 h1
theorem put2N {w : World} {g : Nat} {T : TypeId} {a0 a1 : Value} (h : w.heap[g]? = some (.cells #[a0, a1] T (0, 0))) (b0 b1 : Value) :
    ((w.setCell ⟨g, 0, none⟩ b0).setCell ⟨g, 1, none⟩ b1).heap[g]? = some (.cells #[b0, b1] T (0, 0)) := by
  have h0 : (w.setCell ⟨g, 0, none⟩ b0).heap[g]? = some (.cells #[b0, a1] T (0, 0)) := heap_setCell_same w g 0 _ T b0 h
  exact heap_setCell_same _ g 1 _ T b1 h0
theorem grown_new {w wr : World} {p g : Nat} (h : w.grownBy wr (some p)) (hg : w.heap.size ≤ g) (o : Nat) (v : Value) : w.grownBy (wr.setCell ⟨g, o, none⟩ v) (some p) :=
  grown_step h (grown_set (World.grownBy.refl wr _) o v) (fun k e => by cases e; exact .inr hg)
theorem set_place {w : World} {g p : Nat} (h : p < g) (o : Nat) (u : Value) : (w.setCell ⟨g, o, none⟩ u).heap[p]? = w.heap[p]? := heap_setCell_other w ⟨g, o, none⟩ p u (by simp; omega)
end Go.Proofs.YtkfnpijljpbiaaaDoor
/-
  What takeCell and takeNote do.
-/
namespace Go.Proofs.YtkfnpijljpbiaaaDoor
open Go.RowKit

set_option maxRecDepth 100000 in
set_option maxHeartbeats 2000000 in
theorem rdNote {w : World} {B : Nat} {a : Option Addr} {len : Nat} {zs : List Int} {p k : Nat} {t : TypeId} {v : Value} (cap : Nat) (h : Rdr w B a len zs p k t v) :
    Calls Tryd.prog 86 #[.slice a len cap, .pointer (some ⟨p, 0, none⟩)] w (tookG noteV w p t v (rNote zs k)) := by
  have hlt := h.lt
  have HR := hide (h.alloc (.cells #[.int .i64 0, .int .i64 0] 95))
  have HA := hide (World.grownBy_alloc w (.cells #[.int .i64 0, .int .i64 0] 95) (some p))
  have HE := hide (heap_alloc_new w (.cells #[.int .i64 0, .int .i64 0] 95))
  clear h
  go_enter Tryd.func86, Tryd.ntmps86
  go_wp2_with fail
  refine (rdNum cap HR.out).mono ?_
  rintro e w1 ⟨hres, g1⟩
  have HG := hide (grownBy_trans HA.out g1)
  rcases hres with ⟨x, k1, hr1, rfl, hp1⟩ | ⟨hr1, rfl⟩
  · have HR1 := hide (HR.out.next g1 hp1)
    have HE1 := hide ((g1.block w.heap.size (by simp) (fun e => by cases e; omega)).trans HE.out)
    have H1 := hide hr1
    clear g1 hp1 hr1 HR HE HA
    go_wp2_with fail
    refine (rdNum cap HR1.out).mono ?_
    rintro e w2 ⟨hres, g2⟩
    have hs1 : w.heap.size < w1.heap.size := (Array.getElem?_eq_some_iff.1 HE1.out).1
    replace HG := hide (grownBy_trans HG.out g2)
    rcases hres with ⟨y, k2, hr2, rfl, hp2⟩ | ⟨hr2, rfl⟩
    · have HE2 := hide ((g2.block w.heap.size hs1 (fun e => by cases e; omega)).trans HE1.out)
      have HN : Hid (rNote zs k = some ((x, y), k2)) := hide (by unfold rNote; rw [H1.out]; simp only [Option.bind_some]; rw [hr2]; rfl)
      have HP := hide hp2
      have X := box_of HE2.out
      have f0 := X.1 0 _ rfl
      have f1 := X.1 1 _ rfl
      have z0 := X.2 0
      have z1 := X.2 1
      clear g2 hp2 hr2 HE1 HR1 X
      go_wp2
      refine bodyPost_ret (v := .agg #[.int .i64 x, .int .i64 y]) (results_one Tryd.results86 _ _ _ rfl (load2N (put2N HE2.out _ _))) rfl ⟨.inl ⟨_, _, HN.out, rfl, ?_⟩, grown_new (grown_new HG.out (Nat.le_refl _) _ _) (Nat.le_refl _) _ _⟩
      rw [set_place hlt, set_place hlt]
      exact HP.out
    · have HN : Hid (rNote zs k = none) := hide (by unfold rNote; rw [H1.out]; simp only [Option.bind_some]; rw [hr2]; rfl)
      clear g2 hr2 HE1 HR1
      go_wp2
      exact ⟨rfl, .inr ⟨HN.out, rfl⟩, HG.out⟩
  · have HN : Hid (rNote zs k = none) := hide (by unfold rNote; rw [hr1]; rfl)
    clear g1 hr1
    go_wp2
    exact ⟨rfl, .inr ⟨HN.out, rfl⟩, HG.out⟩

set_option maxRecDepth 100000 in
set_option maxHeartbeats 4000000 in
theorem rdCell {w : World} {B : Nat} {a : Option Addr} {len : Nat} {zs : List Int} {p k : Nat} {t : TypeId} {v : Value} (cap : Nat) (h : Rdr w B a len zs p k t v) :
    Calls Tryd.prog 84 #[.slice a len cap, .pointer (some ⟨p, 0, none⟩)] w (tookG cellV w p t v (rCell zs k)) := by
  rw [rCell_flag]
  have hlt := h.lt
  have HR := hide (h.alloc (.cells #[.int .i64 0, .bool false, .int .i64 0] 92))
  have HA := hide (World.grownBy_alloc w (.cells #[.int .i64 0, .bool false, .int .i64 0] 92) (some p))
  have HE := hide (heap_alloc_new w (.cells #[.int .i64 0, .bool false, .int .i64 0] 92))
  clear h
  generalize hG : (gnF zs 4 k 0 1).bind _ = G
  have HGG := hide hG
  clear hG
  go_enter Tryd.func84, Tryd.ntmps84
  go_wp2_with fail
  refine (rdNum cap HR.out).mono ?_
  rintro e w1 ⟨hres, g1⟩
  have HG := hide (grownBy_trans HA.out g1)
  rcases hres with ⟨x, k1, hr1, rfl, hp1⟩ | ⟨hr1, rfl⟩
  · have HR1 := hide (HR.out.next g1 hp1)
    have HE1 := hide ((g1.block w.heap.size (by simp) (fun e => by cases e; omega)).trans HE.out)
    rw [hr1] at HGG
    clear g1 hp1 hr1 HR HE HA
    go_wp2_with fail
    refine (rdFlag cap HR1.out).mono ?_
    rintro e w2 ⟨hres, g2⟩
    have hs1 : w.heap.size < w1.heap.size := (Array.getElem?_eq_some_iff.1 HE1.out).1
    replace HG := hide (grownBy_trans HG.out g2)
    rcases hres with ⟨f, k2, hr2, rfl, hp2⟩ | ⟨hr2, rfl⟩
    · have HR2 := hide (HR1.out.next g2 hp2)
      have HE2 := hide ((g2.block w.heap.size hs1 (fun e => by cases e; omega)).trans HE1.out)
      have H2 := hide hr2
      have hs2 : w.heap.size < w2.heap.size := (Array.getElem?_eq_some_iff.1 HE2.out).1
      clear g2 hp2 hr2 HE1 HR1
      cases f with
      | true =>
        go_wp2_with fail
        refine (rdNum cap HR2.out).mono ?_
        rintro e w3 ⟨hres, g3⟩
        replace HG := hide (grownBy_trans HG.out g3)
        rcases hres with ⟨y, k3, hr3, rfl, hp3⟩ | ⟨hr3, rfl⟩
        · have HE3 := hide ((g3.block w.heap.size hs2 (fun e => by cases e; omega)).trans HE2.out)
          have HN : Hid (G = some ((x, true, y), k3)) := hide (by rw [← HGG.out]; simp only [Option.bind_some]; rw [H2.out]; simp only [Option.bind_some, if_true]; rw [hr3]; rfl)
          have HP := hide hp3
          have X := box_of HE3.out
          have f0 := X.1 0 _ rfl
          have f1 := X.1 1 _ rfl
          have f2 := X.1 2 _ rfl
          have z0 := X.2 0
          have z1 := X.2 1
          have z2 := X.2 2
          clear g3 hp3 hr3 HE2 HR2 X
          go_wp2
          refine bodyPost_ret (v := .agg #[.int .i64 x, .bool true, .int .i64 y]) (results_one Tryd.results84 _ _ _ rfl (load3C (put3C HE3.out _ _ _))) rfl ⟨.inl ⟨_, _, HN.out, rfl, ?_⟩, grown_new (grown_new (grown_new HG.out (Nat.le_refl _) _ _) (Nat.le_refl _) _ _) (Nat.le_refl _) _ _⟩
          rw [set_place hlt, set_place hlt, set_place hlt]
          exact HP.out
        · have HN : Hid (G = none) := hide (by rw [← HGG.out]; simp only [Option.bind_some]; rw [H2.out]; simp only [Option.bind_some, if_true]; rw [hr3]; rfl)
          clear g3 hr3 HE2 HR2
          go_wp2
          exact ⟨rfl, .inr ⟨HN.out, rfl⟩, HG.out⟩
      | false =>
        go_wp2_with fail
        refine (rdWord cap HR2.out).mono ?_
        rintro e w3 ⟨hres, g3⟩
        replace HG := hide (grownBy_trans HG.out g3)
        rcases hres with ⟨y, k3, hr3, rfl, hp3⟩ | ⟨hr3, rfl⟩
        · have HE3 := hide ((g3.block w.heap.size hs2 (fun e => by cases e; omega)).trans HE2.out)
          have HN : Hid (G = some ((x, false, y), k3)) := hide (by rw [← HGG.out]; simp only [Option.bind_some]; rw [H2.out]; simp only [Option.bind_some, Bool.false_eq_true, if_false]; rw [hr3]; rfl)
          have HP := hide hp3
          have X := box_of HE3.out
          have f0 := X.1 0 _ rfl
          have f1 := X.1 1 _ rfl
          have f2 := X.1 2 _ rfl
          have z0 := X.2 0
          have z1 := X.2 1
          have z2 := X.2 2
          clear g3 hp3 hr3 HE2 HR2 X
          go_wp2
          refine bodyPost_ret (v := .agg #[.int .i64 x, .bool false, .int .i64 y]) (results_one Tryd.results84 _ _ _ rfl (load3C (put3C HE3.out _ _ _))) rfl ⟨.inl ⟨_, _, HN.out, rfl, ?_⟩, grown_new (grown_new (grown_new HG.out (Nat.le_refl _) _ _) (Nat.le_refl _) _ _) (Nat.le_refl _) _ _⟩
          rw [set_place hlt, set_place hlt, set_place hlt]
          exact HP.out
        · have HN : Hid (G = none) := hide (by rw [← HGG.out]; simp only [Option.bind_some]; rw [H2.out]; simp only [Option.bind_some, Bool.false_eq_true, if_false]; rw [hr3]; rfl)
          clear g3 hr3 HE2 HR2
          go_wp2
          exact ⟨rfl, .inr ⟨HN.out, rfl⟩, HG.out⟩
    · have HN : Hid (G = none) := hide (by rw [← HGG.out]; simp only [Option.bind_some]; rw [hr2]; rfl)
      clear g2 hr2 HE1 HR1
      go_wp2
      exact ⟨rfl, .inr ⟨HN.out, rfl⟩, HG.out⟩
  · have HN : Hid (G = none) := hide (by rw [← HGG.out, hr1]; rfl)
    clear g1 hr1
    go_wp2
    exact ⟨rfl, .inr ⟨HN.out, rfl⟩, HG.out⟩
end Go.Proofs.YtkfnpijljpbiaaaDoor
/-
  What takeList does with cells and with notes.
-/
namespace Go.Proofs.YtkfnpijljpbiaaaDoor
open Go.RowKit

theorem app_Cell {w : World} {ops : Array Oper} {rest : List Oper} {o : Oper} {act : Act} {Q : Exit → Act → World → Prop} (hgd : o.guard = none) (s x : Operand)
    (ho : o.op = .call { callee := .builtin .append, args := #[s, x], argTypes := #[36, 36] }) (base g c : Nat) (v : Value) (xs : List (Int × Bool × Int)) (y : Int × Bool × Int) (hs : act.eval s = v) (hown : OwnC w base v xs)
    (hx : act.eval x = .slice (some ⟨g, 0, none⟩) 1 c) (hb : Box w g (cellC y)) (hsm : xs.length ≤ 2000000) (hbase : base ≤ w.heap.size)
    (h : ∀ v' w', OwnC w' base v' (xs ++ [y]) → w.grownBy w' v.ownBlock → wpList Tryd.prog ops Q rest (act.put o.dst v') w') :
    wpList Tryd.prog ops Q (o :: rest) act w := by
  obtain ⟨i0, hi, hz0, hz1, hz2⟩ := info_parts Tryd.infoCell
  refine wpList_append_own w hgd s x 36 ho base 92 i0 (.agg #[.int .i64 0, .bool false, .int .i64 0]) 3 24 Tryd.underlying36 hi hz0 hz1 hz2 rfl (by decide) v xs.length (xs.flatMap cellC) hs hown ⟨g, 0, none⟩ 1 c (cellC y) hx rfl (fun j u hu => by rw [Addr.add_lit, Nat.zero_add]; exact hb j u hu) (fun u hu => by obtain ⟨x, rb, y⟩ := y; simp [cellC] at hu; rcases hu with rfl | rfl | rfl <;> rfl) (by unfold maxLen; omega) (by omega) hbase ?_
  intro v' w' ho' hg' _
  refine h v' w' ?_ hg'
  unfold OwnC
  rw [List.length_append, List.flatMap_append]
  simpa using ho'

set_option maxRecDepth 100000 in
set_option maxHeartbeats 4000000 in
theorem rdListCell {w : World} {B : Nat} {a : Option Addr} {len : Nat} {zs : List Int} {p k : Nat} {t : TypeId} {v : Value} (cap : Nat) (h : Rdr w B a len zs p k t v) :
    Calls Tryd.prog 83 #[.slice a len cap, .pointer (some ⟨p, 0, none⟩), .int .i64 8, .func (.func 84) #[] #[]] w (tookL (fun w' v xs => OwnC w' w.heap.size v xs) w p t v (rMany zs (rCell zs) 8 k)) := by
  have hlt := h.lt
  have HZ := hide (byt_of_in h.inp)
  have HR := hide h
  clear h
  generalize hGG : rMany zs (rCell zs) 8 k = G
  have HGG := hide hGG
  clear hGG
  go_enter Tryd.func83, Tryd.ntmps83
  go_wp2_with fail
  refine (rdNum cap HR.out).mono ?_
  rintro e w1 ⟨hres, g1⟩
  have HG := hide g1
  rcases hres with ⟨n, k1, hr1, rfl, hp1⟩ | ⟨hr1, rfl⟩
  · have HR1 := hide (HR.out.next g1 hp1)
    have hE : w1.cell? ⟨0, 0, none⟩ = some (.iface t v) := HR1.out.err
    have hn0 := (num_back HZ.out hr1).1
    unfold rMany at HGG
    rw [hr1] at HGG
    clear g1 hp1 hr1 HR
    by_cases hn : 8 < n
    · have HN : Hid (G = none) := hide (by rw [← HGG.out]; simp [hn])
      clear HGG HR1
      go_wp2
      exact ⟨rfl, .inr ⟨HN.out, rfl⟩, HG.out⟩
    · have HN : Hid (G = rList (rCell zs) n.toNat k1) := hide (by rw [← HGG.out]; simp [hn])
      clear HGG hE
      obtain ⟨N, rfl⟩ := Int.eq_ofNat_of_zero_le hn0
      rw [Int.toNat_natCast] at HN
      have hs1 := HG.out.size
      go_wp2
      go_loopw [10, 19] (fun l i wr => ∃ (j kj : Nat) (xs : List (Int × Bool × Int)), j ≤ N ∧ i = .int .i64 (j : Int) ∧ xs.length = j ∧ Hid (Rdr wr B a len zs p kj t v) ∧ Hid (OwnC wr w.heap.size l xs) ∧ Hid (G = (rList (rCell zs) (N - j) kj).bind fun r => some (xs ++ r.1, r.2)) ∧ Hid (w.grownBy wr (some p))) (fun _ i _ => N - (intOf i).toNat)
      case atStart => exact ⟨0, k1, [], by omega, rfl, rfl, HR1, hide (World.ownsRow_nil _ _ _ _), hide (by rw [HN.out]; cases rList (rCell zs) N k1 <;> rfl), HG⟩
      case round =>
        clear HN HR1 HG
        obtain ⟨j, kj, xs, hj, rfl, hxl, HR1, HO, HN, HG⟩ := hrel
        by_cases hj' : j < N
        · go_wp2_with fail
          refine (rdCell cap HR1.out).mono ?_
          rintro e w2 ⟨hres, g2⟩
          have hle := HG.out.size
          rcases hres with ⟨z, k2, hr2, rfl, hp2⟩ | ⟨hr2, rfl⟩
          · have HR2 := hide (HR1.out.next g2 hp2)
            have HO2 := hide (HO.out.kept g2 (fun q hq e => by cases e; have := (HO.out.lt _ hq).1; omega))
            have HG2 := hide (grownBy_trans HG.out g2)
            have HN2 : Hid (G = (rList (rCell zs) (N - (j + 1)) k2).bind fun r => some (xs ++ [z] ++ r.1, r.2)) := hide (by
              rw [HN.out, show N - j = (N - (j + 1)) + 1 from by omega, rList, hr2]
              simp only [Option.bind_some, Option.bind_assoc]
              congr 1
              funext r
              simp)
            have hs2 := HG2.out.size
            clear g2 hp2 hr2 HR1 HO HN HG
            obtain ⟨x, rb, y⟩ := z
            unfold cellV
            simp only
            have HB := hide (Box.new w2 #[.int .i64 x, .bool rb, .int .i64 y] 92)
            have HOa : Hid (OwnC (w2.alloc (.cells #[.int .i64 x, .bool rb, .int .i64 y] 92)) w.heap.size _ xs) := hide (OwnC.below HO2.out ((Below.refl _ _).alloc (Nat.le_refl _) _))
            go_wp2_with (at_builtin; refine app_Cell rfl _ _ rfl w.heap.size w2.heap.size 1 _ xs (x, rb, y) rfl HOa.out rfl HB.out (by omega) (by simp; omega) ?_; intro v3 w3 o3 g3; have HO3 := hide o3; have HR3 := hide ((HR2.out.alloc _).far g3 (fun q hq => by have := (HO2.out.lt q hq).1; omega)); have HG3 := hide (grown_step (grownBy_trans HG2.out (World.grownBy_alloc w2 (.cells #[.int .i64 x, .bool rb, .int .i64 y] 92) (some p))) g3 (fun q hq => .inr (HO2.out.lt q hq).1)); clear o3 g3)
            exact ⟨⟨j + 1, k2, xs ++ [(x, rb, y)], by omega, by go_num, by simp [hxl], HR3, HO3, HN2, HG3⟩, by simp [intOf]; omega⟩
          · have HF : Hid (G = none) := hide (by rw [HN.out, show N - j = (N - (j + 1)) + 1 from by omega, rList, hr2]; rfl)
            have HG2 := hide (grownBy_trans HG.out g2)
            clear g2 hr2
            go_wp2
            exact ⟨rfl, .inr ⟨HF.out, rfl⟩, HG2.out⟩
        · obtain rfl : j = N := by omega
          have HF : Hid (G = some (xs, kj)) := hide (by rw [HN.out, Nat.sub_self, rList]; simp)
          have HP := hide HR1.out.pl
          go_wp2
          go_ret
          exact ⟨.inl ⟨_, _, _, HF.out, rfl, HO.out, HP.out⟩, HG.out⟩
  · have HN : Hid (G = none) := hide (by rw [← HGG.out]; unfold rMany; rw [hr1]; rfl)
    clear g1 hr1
    go_wp2
    exact ⟨rfl, .inr ⟨HN.out, rfl⟩, HG.out⟩

theorem app_Note {w : World} {ops : Array Oper} {rest : List Oper} {o : Oper} {act : Act} {Q : Exit → Act → World → Prop} (hgd : o.guard = none) (s x : Operand)
    (ho : o.op = .call { callee := .builtin .append, args := #[s, x], argTypes := #[37, 37] }) (base g c : Nat) (v : Value) (xs : List (Int × Int)) (y : Int × Int) (hs : act.eval s = v) (hown : OwnN w base v xs)
    (hx : act.eval x = .slice (some ⟨g, 0, none⟩) 1 c) (hb : Box w g (noteC y)) (hsm : xs.length ≤ 2000000) (hbase : base ≤ w.heap.size)
    (h : ∀ v' w', OwnN w' base v' (xs ++ [y]) → w.grownBy w' v.ownBlock → wpList Tryd.prog ops Q rest (act.put o.dst v') w') :
    wpList Tryd.prog ops Q (o :: rest) act w := by
  obtain ⟨i0, hi, hz0, hz1, hz2⟩ := info_parts Tryd.infoNote
  refine wpList_append_own w hgd s x 37 ho base 95 i0 (.agg #[.int .i64 0, .int .i64 0]) 2 16 Tryd.underlying37 hi hz0 hz1 hz2 rfl (by decide) v xs.length (xs.flatMap noteC) hs hown ⟨g, 0, none⟩ 1 c (noteC y) hx rfl (fun j u hu => by rw [Addr.add_lit, Nat.zero_add]; exact hb j u hu) (fun u hu => by obtain ⟨x, y⟩ := y; simp [noteC] at hu; rcases hu with rfl | rfl <;> rfl) (by unfold maxLen; omega) (by omega) hbase ?_
  intro v' w' ho' hg' _
  refine h v' w' ?_ hg'
  unfold OwnN
  rw [List.length_append, List.flatMap_append]
  simpa using ho'

set_option maxRecDepth 100000 in
set_option maxHeartbeats 4000000 in
theorem rdListNote {w : World} {B : Nat} {a : Option Addr} {len : Nat} {zs : List Int} {p k : Nat} {t : TypeId} {v : Value} (cap : Nat) (h : Rdr w B a len zs p k t v) :
    Calls Tryd.prog 85 #[.slice a len cap, .pointer (some ⟨p, 0, none⟩), .int .i64 130, .func (.func 86) #[] #[]] w (tookL (fun w' v xs => OwnN w' w.heap.size v xs) w p t v (rMany zs (rNote zs) 130 k)) := by
  have hlt := h.lt
  have HZ := hide (byt_of_in h.inp)
  have HR := hide h
  clear h
  generalize hGG : rMany zs (rNote zs) 130 k = G
  have HGG := hide hGG
  clear hGG
  go_enter Tryd.func85, Tryd.ntmps85
  go_wp2_with fail
  refine (rdNum cap HR.out).mono ?_
  rintro e w1 ⟨hres, g1⟩
  have HG := hide g1
  rcases hres with ⟨n, k1, hr1, rfl, hp1⟩ | ⟨hr1, rfl⟩
  · have HR1 := hide (HR.out.next g1 hp1)
    have hE : w1.cell? ⟨0, 0, none⟩ = some (.iface t v) := HR1.out.err
    have hn0 := (num_back HZ.out hr1).1
    unfold rMany at HGG
    rw [hr1] at HGG
    clear g1 hp1 hr1 HR
    by_cases hn : 130 < n
    · have HN : Hid (G = none) := hide (by rw [← HGG.out]; simp [hn])
      clear HGG HR1
      go_wp2
      exact ⟨rfl, .inr ⟨HN.out, rfl⟩, HG.out⟩
    · have HN : Hid (G = rList (rNote zs) n.toNat k1) := hide (by rw [← HGG.out]; simp [hn])
      clear HGG hE
      obtain ⟨N, rfl⟩ := Int.eq_ofNat_of_zero_le hn0
      rw [Int.toNat_natCast] at HN
      have hs1 := HG.out.size
      go_wp2
      go_loopw [10, 19] (fun l i wr => ∃ (j kj : Nat) (xs : List (Int × Int)), j ≤ N ∧ i = .int .i64 (j : Int) ∧ xs.length = j ∧ Hid (Rdr wr B a len zs p kj t v) ∧ Hid (OwnN wr w.heap.size l xs) ∧ Hid (G = (rList (rNote zs) (N - j) kj).bind fun r => some (xs ++ r.1, r.2)) ∧ Hid (w.grownBy wr (some p))) (fun _ i _ => N - (intOf i).toNat)
      case atStart => exact ⟨0, k1, [], by omega, rfl, rfl, HR1, hide (World.ownsRow_nil _ _ _ _), hide (by rw [HN.out]; cases rList (rNote zs) N k1 <;> rfl), HG⟩
      case round =>
        clear HN HR1 HG
        obtain ⟨j, kj, xs, hj, rfl, hxl, HR1, HO, HN, HG⟩ := hrel
        by_cases hj' : j < N
        · go_wp2_with fail
          refine (rdNote cap HR1.out).mono ?_
          rintro e w2 ⟨hres, g2⟩
          have hle := HG.out.size
          rcases hres with ⟨z, k2, hr2, rfl, hp2⟩ | ⟨hr2, rfl⟩
          · have HR2 := hide (HR1.out.next g2 hp2)
            have HO2 := hide (HO.out.kept g2 (fun q hq e => by cases e; have := (HO.out.lt _ hq).1; omega))
            have HG2 := hide (grownBy_trans HG.out g2)
            have HN2 : Hid (G = (rList (rNote zs) (N - (j + 1)) k2).bind fun r => some (xs ++ [z] ++ r.1, r.2)) := hide (by
              rw [HN.out, show N - j = (N - (j + 1)) + 1 from by omega, rList, hr2]
              simp only [Option.bind_some, Option.bind_assoc]
              congr 1
              funext r
              simp)
            have hs2 := HG2.out.size
            clear g2 hp2 hr2 HR1 HO HN HG
            obtain ⟨x, y⟩ := z
            unfold noteV
            simp only
            have HB := hide (Box.new w2 #[.int .i64 x, .int .i64 y] 95)
            have HOa : Hid (OwnN (w2.alloc (.cells #[.int .i64 x, .int .i64 y] 95)) w.heap.size _ xs) := hide (OwnN.below HO2.out ((Below.refl _ _).alloc (Nat.le_refl _) _))
            go_wp2_with (at_builtin; refine app_Note rfl _ _ rfl w.heap.size w2.heap.size 1 _ xs (x, y) rfl HOa.out rfl HB.out (by omega) (by simp; omega) ?_; intro v3 w3 o3 g3; have HO3 := hide o3; have HR3 := hide ((HR2.out.alloc _).far g3 (fun q hq => by have := (HO2.out.lt q hq).1; omega)); have HG3 := hide (grown_step (grownBy_trans HG2.out (World.grownBy_alloc w2 (.cells #[.int .i64 x, .int .i64 y] 95) (some p))) g3 (fun q hq => .inr (HO2.out.lt q hq).1)); clear o3 g3)
            exact ⟨⟨j + 1, k2, xs ++ [(x, y)], by omega, by go_num, by simp [hxl], HR3, HO3, HN2, HG3⟩, by simp [intOf]; omega⟩
          · have HF : Hid (G = none) := hide (by rw [HN.out, show N - j = (N - (j + 1)) + 1 from by omega, rList, hr2]; rfl)
            have HG2 := hide (grownBy_trans HG.out g2)
            clear g2 hr2
            go_wp2
            exact ⟨rfl, .inr ⟨HF.out, rfl⟩, HG2.out⟩
        · obtain rfl : j = N := by omega
          have HF : Hid (G = some (xs, kj)) := hide (by rw [HN.out, Nat.sub_self, rList]; simp)
          have HP := hide HR1.out.pl
          go_wp2
          go_ret
          exact ⟨.inl ⟨_, _, _, HF.out, rfl, HO.out, HP.out⟩, HG.out⟩
  · have HN : Hid (G = none) := hide (by rw [← HGG.out]; unfold rMany; rw [hr1]; rfl)
    clear g1 hr1
    go_wp2
    exact ⟨rfl, .inr ⟨HN.out, rfl⟩, HG.out⟩
end Go.Proofs.YtkfnpijljpbiaaaDoor
