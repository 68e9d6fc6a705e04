/-
  Joined: TakeL, TakeM, ReadM, ReadN, ReadO, MsgOfI, HeldM, MsgLaw, MsgOfJ.
-/
import Derived.Test.YtbkhlaiifbdfoaaDoorJ5
import Derived.Test.YtbkhlaiifbdfoaaDoorJ2
import Derived.Deep.CutRange
import Derived.RegionTactic
import Derived.BigRegion
import Derived.Deep.RegionWith
/-
  What takeList does with cells and with notes.
-/
namespace Go.Proofs.YtbkhlaiifbdfoaaDoor
open Go.RowKit

theorem byt_of_in {w : World} {B len : Nat} {a : Option Addr} {zs : List Int} (h : In w B a len zs) : Byt zs := by
  intro z hz
  obtain ⟨j, hj, rfl⟩ := List.getElem_of_mem hz
  have hl := h.1
  have := h.2.2.1 j (by omega)
  simpa [hj] using this

/-- What is taken, in new memory. -/
def tookL {α : Type} (Row : World → Value → α → Prop) (w : World) (p : Nat) (t : TypeId) (v : Value) (r : Option (α × Nat)) (e : Ending) (w' : World) : Prop :=
  ((∃ x nx u, r = some (x, nx) ∧ e = .returned u ∧ Row w' u x ∧ w'.heap[p]? = some (.cells #[.int .i64 ((nx : Nat) : Int)] 3 (0, 0))) ∨
   (r = none ∧ e = .panicked [{ v := .iface t v, recovered := false }])) ∧ w.grownBy w' (some p)

theorem app_Cell {w : World} {ops : Array Oper} {rest : List Oper} {o : Oper} {act : Act} {Q : Exit → Act → World → Prop} (hgd : o.guard = none) (s x : Operand)
    (ho : o.op = .call { callee := .builtin .append, args := #[s, x], argTypes := #[24, 24] }) (base g c : Nat) (v : Value) (xs : List (Int × Bool × Int)) (y : Int × Bool × Int) (hs : act.eval s = v) (hown : OwnC w base v xs)
    (hx : act.eval x = .slice (some ⟨g, 0, none⟩) 1 c) (hb : Box w g (cellC y)) (hsm : xs.length ≤ 2000000) (hbase : base ≤ w.heap.size)
    (h : ∀ v' w', OwnC w' base v' (xs ++ [y]) → w.grownBy w' v.ownBlock → wpList Tryd.prog ops Q rest (act.put o.dst v') w') :
    wpList Tryd.prog ops Q (o :: rest) act w := by
  obtain ⟨i0, hi, hz0, hz1, hz2⟩ := info_parts Tryd.infoCell
  refine wpList_append_own w hgd s x 24 ho base 50 i0 (.agg #[.int .i64 0, .bool false, .int .i64 0]) 3 24 Tryd.underlying24 hi hz0 hz1 hz2 rfl (by decide) v xs.length (xs.flatMap cellC) hs hown ⟨g, 0, none⟩ 1 c (cellC y) hx rfl (fun j u hu => by rw [Addr.add_lit, Nat.zero_add]; exact hb j u hu) (fun u hu => by obtain ⟨x, rb, y⟩ := y; simp [cellC] at hu; rcases hu with rfl | rfl | rfl <;> rfl) (by unfold maxLen; omega) (by omega) hbase ?_
  intro v' w' ho' hg' _
  refine h v' w' ?_ hg'
  unfold OwnC
  rw [List.length_append, List.flatMap_append]
  simpa using ho'

set_option maxRecDepth 100000 in
set_option maxHeartbeats 4000000 in
theorem rdListCell {w : World} {B : Nat} {a : Option Addr} {len : Nat} {zs : List Int} {p k : Nat} {t : TypeId} {v : Value} (cap : Nat) (h : Rdr w B a len zs p k t v) :
    Calls Tryd.prog 67 #[.slice a len cap, .pointer (some ⟨p, 0, none⟩), .int .i64 8, .func (.func 68) #[] #[]] w (tookL (fun w' v xs => OwnC w' w.heap.size v xs) w p t v (rMany zs (rCell zs) 8 k)) := by
  have hlt := h.lt
  have HZ := hide (byt_of_in h.inp)
  have HR := hide h
  clear h
  generalize hGG : rMany zs (rCell zs) 8 k = G
  have HGG := hide hGG
  clear hGG
  go_enter Tryd.func67, Tryd.ntmps67
  go_wp2_with fail
  refine (rdNum cap HR.out).mono ?_
  rintro e w1 ⟨hres, g1⟩
  have HG := hide g1
  rcases hres with ⟨n, k1, hr1, rfl, hp1⟩ | ⟨hr1, rfl⟩
  · have HR1 := hide (HR.out.next g1 hp1)
    have hE : w1.cell? ⟨0, 0, none⟩ = some (.iface t v) := HR1.out.err
    have hn0 := (num_back HZ.out hr1).1
    unfold rMany at HGG
    rw [hr1] at HGG
    clear g1 hp1 hr1 HR
    by_cases hn : 8 < n
    · have HN : Hid (G = none) := hide (by rw [← HGG.out]; simp [hn])
      clear HGG HR1
      go_wp2
      exact ⟨rfl, .inr ⟨HN.out, rfl⟩, HG.out⟩
    · have HN : Hid (G = rList (rCell zs) n.toNat k1) := hide (by rw [← HGG.out]; simp [hn])
      clear HGG hE
      obtain ⟨N, rfl⟩ := Int.eq_ofNat_of_zero_le hn0
      rw [Int.toNat_natCast] at HN
      have hs1 := HG.out.size
      go_wp2
      go_loopw [10, 19] (fun l i wr => ∃ (j kj : Nat) (xs : List (Int × Bool × Int)), j ≤ N ∧ i = .int .i64 (j : Int) ∧ xs.length = j ∧ Hid (Rdr wr B a len zs p kj t v) ∧ Hid (OwnC wr w.heap.size l xs) ∧ Hid (G = (rList (rCell zs) (N - j) kj).bind fun r => some (xs ++ r.1, r.2)) ∧ Hid (w.grownBy wr (some p))) (fun _ i _ => N - (intOf i).toNat)
      case atStart => exact ⟨0, k1, [], by omega, rfl, rfl, HR1, hide (World.ownsRow_nil _ _ _ _), hide (by rw [HN.out]; cases rList (rCell zs) N k1 <;> rfl), HG⟩
      case round =>
        clear HN HR1 HG
        obtain ⟨j, kj, xs, hj, rfl, hxl, HR1, HO, HN, HG⟩ := hrel
        by_cases hj' : j < N
        · go_wp2_with fail
          refine (rdCell cap HR1.out).mono ?_
          rintro e w2 ⟨hres, g2⟩
          have hle := HG.out.size
          rcases hres with ⟨z, k2, hr2, rfl, hp2⟩ | ⟨hr2, rfl⟩
          · have HR2 := hide (HR1.out.next g2 hp2)
            have HO2 := hide (HO.out.kept g2 (fun q hq e => by cases e; have := (HO.out.lt _ hq).1; omega))
            have HG2 := hide (grownBy_trans HG.out g2)
            have HN2 : Hid (G = (rList (rCell zs) (N - (j + 1)) k2).bind fun r => some (xs ++ [z] ++ r.1, r.2)) := hide (by
              rw [HN.out, show N - j = (N - (j + 1)) + 1 from by omega, rList, hr2]
              simp only [Option.bind_some, Option.bind_assoc]
              congr 1
              funext r
              simp)
            have hs2 := HG2.out.size
            clear g2 hp2 hr2 HR1 HO HN HG
            obtain ⟨x, rb, y⟩ := z
            unfold cellV
            simp only
            have HB := hide (Box.new w2 #[.int .i64 x, .bool rb, .int .i64 y] 50)
            have HOa : Hid (OwnC (w2.alloc (.cells #[.int .i64 x, .bool rb, .int .i64 y] 50)) w.heap.size _ xs) := hide (OwnC.below HO2.out ((Below.refl _ _).alloc (Nat.le_refl _) _))
            go_wp2_with (at_builtin; refine app_Cell rfl _ _ rfl w.heap.size w2.heap.size 1 _ xs (x, rb, y) rfl HOa.out rfl HB.out (by omega) (by simp; omega) ?_; intro v3 w3 o3 g3; have HO3 := hide o3; have HR3 := hide ((HR2.out.alloc _).far g3 (fun q hq => by have := (HO2.out.lt q hq).1; omega)); have HG3 := hide (grown_step (grownBy_trans HG2.out (World.grownBy_alloc w2 (.cells #[.int .i64 x, .bool rb, .int .i64 y] 50) (some p))) g3 (fun q hq => .inr (HO2.out.lt q hq).1)); clear o3 g3)
            exact ⟨⟨j + 1, k2, xs ++ [(x, rb, y)], by omega, by go_num, by simp [hxl], HR3, HO3, HN2, HG3⟩, by simp [intOf]; omega⟩
          · have HF : Hid (G = none) := hide (by rw [HN.out, show N - j = (N - (j + 1)) + 1 from by omega, rList, hr2]; rfl)
            have HG2 := hide (grownBy_trans HG.out g2)
            clear g2 hr2
            go_wp2
            exact ⟨rfl, .inr ⟨HF.out, rfl⟩, HG2.out⟩
        · obtain rfl : j = N := by omega
          have HF : Hid (G = some (xs, kj)) := hide (by rw [HN.out, Nat.sub_self, rList]; simp)
          have HP := hide HR1.out.pl
          go_wp2
          go_ret
          exact ⟨.inl ⟨_, _, _, HF.out, rfl, HO.out, HP.out⟩, HG.out⟩
  · have HN : Hid (G = none) := hide (by rw [← HGG.out]; unfold rMany; rw [hr1]; rfl)
    clear g1 hr1
    go_wp2
    exact ⟨rfl, .inr ⟨HN.out, rfl⟩, HG.out⟩

theorem app_Note {w : World} {ops : Array Oper} {rest : List Oper} {o : Oper} {act : Act} {Q : Exit → Act → World → Prop} (hgd : o.guard = none) (s x : Operand)
    (ho : o.op = .call { callee := .builtin .append, args := #[s, x], argTypes := #[25, 25] }) (base g c : Nat) (v : Value) (xs : List (Int × Int)) (y : Int × Int) (hs : act.eval s = v) (hown : OwnN w base v xs)
    (hx : act.eval x = .slice (some ⟨g, 0, none⟩) 1 c) (hb : Box w g (noteC y)) (hsm : xs.length ≤ 2000000) (hbase : base ≤ w.heap.size)
    (h : ∀ v' w', OwnN w' base v' (xs ++ [y]) → w.grownBy w' v.ownBlock → wpList Tryd.prog ops Q rest (act.put o.dst v') w') :
    wpList Tryd.prog ops Q (o :: rest) act w := by
  obtain ⟨i0, hi, hz0, hz1, hz2⟩ := info_parts Tryd.infoNote
  refine wpList_append_own w hgd s x 25 ho base 53 i0 (.agg #[.int .i64 0, .int .i64 0]) 2 16 Tryd.underlying25 hi hz0 hz1 hz2 rfl (by decide) v xs.length (xs.flatMap noteC) hs hown ⟨g, 0, none⟩ 1 c (noteC y) hx rfl (fun j u hu => by rw [Addr.add_lit, Nat.zero_add]; exact hb j u hu) (fun u hu => by obtain ⟨x, y⟩ := y; simp [noteC] at hu; rcases hu with rfl | rfl <;> rfl) (by unfold maxLen; omega) (by omega) hbase ?_
  intro v' w' ho' hg' _
  refine h v' w' ?_ hg'
  unfold OwnN
  rw [List.length_append, List.flatMap_append]
  simpa using ho'

set_option maxRecDepth 100000 in
set_option maxHeartbeats 4000000 in
theorem rdListNote {w : World} {B : Nat} {a : Option Addr} {len : Nat} {zs : List Int} {p k : Nat} {t : TypeId} {v : Value} (cap : Nat) (h : Rdr w B a len zs p k t v) :
    Calls Tryd.prog 69 #[.slice a len cap, .pointer (some ⟨p, 0, none⟩), .int .i64 130, .func (.func 70) #[] #[]] w (tookL (fun w' v xs => OwnN w' w.heap.size v xs) w p t v (rMany zs (rNote zs) 130 k)) := by
  have hlt := h.lt
  have HZ := hide (byt_of_in h.inp)
  have HR := hide h
  clear h
  generalize hGG : rMany zs (rNote zs) 130 k = G
  have HGG := hide hGG
  clear hGG
  go_enter Tryd.func69, Tryd.ntmps69
  go_wp2_with fail
  refine (rdNum cap HR.out).mono ?_
  rintro e w1 ⟨hres, g1⟩
  have HG := hide g1
  rcases hres with ⟨n, k1, hr1, rfl, hp1⟩ | ⟨hr1, rfl⟩
  · have HR1 := hide (HR.out.next g1 hp1)
    have hE : w1.cell? ⟨0, 0, none⟩ = some (.iface t v) := HR1.out.err
    have hn0 := (num_back HZ.out hr1).1
    unfold rMany at HGG
    rw [hr1] at HGG
    clear g1 hp1 hr1 HR
    by_cases hn : 130 < n
    · have HN : Hid (G = none) := hide (by rw [← HGG.out]; simp [hn])
      clear HGG HR1
      go_wp2
      exact ⟨rfl, .inr ⟨HN.out, rfl⟩, HG.out⟩
    · have HN : Hid (G = rList (rNote zs) n.toNat k1) := hide (by rw [← HGG.out]; simp [hn])
      clear HGG hE
      obtain ⟨N, rfl⟩ := Int.eq_ofNat_of_zero_le hn0
      rw [Int.toNat_natCast] at HN
      have hs1 := HG.out.size
      go_wp2
      go_loopw [10, 19] (fun l i wr => ∃ (j kj : Nat) (xs : List (Int × Int)), j ≤ N ∧ i = .int .i64 (j : Int) ∧ xs.length = j ∧ Hid (Rdr wr B a len zs p kj t v) ∧ Hid (OwnN wr w.heap.size l xs) ∧ Hid (G = (rList (rNote zs) (N - j) kj).bind fun r => some (xs ++ r.1, r.2)) ∧ Hid (w.grownBy wr (some p))) (fun _ i _ => N - (intOf i).toNat)
      case atStart => exact ⟨0, k1, [], by omega, rfl, rfl, HR1, hide (World.ownsRow_nil _ _ _ _), hide (by rw [HN.out]; cases rList (rNote zs) N k1 <;> rfl), HG⟩
      case round =>
        clear HN HR1 HG
        obtain ⟨j, kj, xs, hj, rfl, hxl, HR1, HO, HN, HG⟩ := hrel
        by_cases hj' : j < N
        · go_wp2_with fail
          refine (rdNote cap HR1.out).mono ?_
          rintro e w2 ⟨hres, g2⟩
          have hle := HG.out.size
          rcases hres with ⟨z, k2, hr2, rfl, hp2⟩ | ⟨hr2, rfl⟩
          · have HR2 := hide (HR1.out.next g2 hp2)
            have HO2 := hide (HO.out.kept g2 (fun q hq e => by cases e; have := (HO.out.lt _ hq).1; omega))
            have HG2 := hide (grownBy_trans HG.out g2)
            have HN2 : Hid (G = (rList (rNote zs) (N - (j + 1)) k2).bind fun r => some (xs ++ [z] ++ r.1, r.2)) := hide (by
              rw [HN.out, show N - j = (N - (j + 1)) + 1 from by omega, rList, hr2]
              simp only [Option.bind_some, Option.bind_assoc]
              congr 1
              funext r
              simp)
            have hs2 := HG2.out.size
            clear g2 hp2 hr2 HR1 HO HN HG
            obtain ⟨x, y⟩ := z
            unfold noteV
            simp only
            have HB := hide (Box.new w2 #[.int .i64 x, .int .i64 y] 53)
            have HOa : Hid (OwnN (w2.alloc (.cells #[.int .i64 x, .int .i64 y] 53)) w.heap.size _ xs) := hide (OwnN.below HO2.out ((Below.refl _ _).alloc (Nat.le_refl _) _))
            go_wp2_with (at_builtin; refine app_Note rfl _ _ rfl w.heap.size w2.heap.size 1 _ xs (x, y) rfl HOa.out rfl HB.out (by omega) (by simp; omega) ?_; intro v3 w3 o3 g3; have HO3 := hide o3; have HR3 := hide ((HR2.out.alloc _).far g3 (fun q hq => by have := (HO2.out.lt q hq).1; omega)); have HG3 := hide (grown_step (grownBy_trans HG2.out (World.grownBy_alloc w2 (.cells #[.int .i64 x, .int .i64 y] 53) (some p))) g3 (fun q hq => .inr (HO2.out.lt q hq).1)); clear o3 g3)
            exact ⟨⟨j + 1, k2, xs ++ [(x, y)], by omega, by go_num, by simp [hxl], HR3, HO3, HN2, HG3⟩, by simp [intOf]; omega⟩
          · have HF : Hid (G = none) := hide (by rw [HN.out, show N - j = (N - (j + 1)) + 1 from by omega, rList, hr2]; rfl)
            have HG2 := hide (grownBy_trans HG.out g2)
            clear g2 hr2
            go_wp2
            exact ⟨rfl, .inr ⟨HF.out, rfl⟩, HG2.out⟩
        · obtain rfl : j = N := by omega
          have HF : Hid (G = some (xs, kj)) := hide (by rw [HN.out, Nat.sub_self, rList]; simp)
          have HP := hide HR1.out.pl
          go_wp2
          go_ret
          exact ⟨.inl ⟨_, _, _, HF.out, rfl, HO.out, HP.out⟩, HG.out⟩
  · have HN : Hid (G = none) := hide (by rw [← HGG.out]; unfold rMany; rw [hr1]; rfl)
    clear g1 hr1
    go_wp2
    exact ⟨rfl, .inr ⟨HN.out, rfl⟩, HG.out⟩
end Go.Proofs.YtbkhlaiifbdfoaaDoor
/-
  What takeMsg does.
-/
namespace Go.Proofs.YtbkhlaiifbdfoaaDoor
open Go.RowKit

/-- A message that is taken, in new memory. -/
def RowM (b : Nat) (w : World) (v : Value) (m : M) : Prop := ∃ v5 v6, v = msgV m.k m.i m.u m.c m.n v5 v6 ∧ OwnC w b v5 m.cs ∧ OwnN w b v6 m.ns ∧ (∀ q, v5.ownBlock = some q → ∀ r, v6.ownBlock = some r → q < r)

theorem own_put7 {w : World} {base e sz n : Nat} {v : Value} {cs : List Value} (h : w.ownsRow base e sz v n cs) {g : Nat} (hg : g < base) (x0 x1 x2 x3 x4 x5 x6 : Value) :
    (((((((w.setCell ⟨g, 0, none⟩ x0).setCell ⟨g, 1, none⟩ x1).setCell ⟨g, 2, none⟩ x2).setCell ⟨g, 3, none⟩ x3).setCell ⟨g, 4, none⟩ x4).setCell ⟨g, 5, none⟩ x5).setCell ⟨g, 6, none⟩ x6).ownsRow base e sz v n cs :=
  own_set (own_set (own_set (own_set (own_set (own_set (own_set h hg 0 x0) hg 1 x1) hg 2 x2) hg 3 x3) hg 4 x4) hg 5 x5) hg 6 x6
theorem grown_put7 {w wr : World} {p g : Nat} (h : w.grownBy wr (some p)) (hg : w.heap.size ≤ g) (x0 x1 x2 x3 x4 x5 x6 : Value) :
    w.grownBy (((((((wr.setCell ⟨g, 0, none⟩ x0).setCell ⟨g, 1, none⟩ x1).setCell ⟨g, 2, none⟩ x2).setCell ⟨g, 3, none⟩ x3).setCell ⟨g, 4, none⟩ x4).setCell ⟨g, 5, none⟩ x5).setCell ⟨g, 6, none⟩ x6) (some p) :=
  grown_new (grown_new (grown_new (grown_new (grown_new (grown_new (grown_new h hg 0 x0) hg 1 x1) hg 2 x2) hg 3 x3) hg 4 x4) hg 5 x5) hg 6 x6
theorem place_put7 {w : World} {p g : Nat} (hg : p < g) (x0 x1 x2 x3 x4 x5 x6 : Value) :
    (((((((w.setCell ⟨g, 0, none⟩ x0).setCell ⟨g, 1, none⟩ x1).setCell ⟨g, 2, none⟩ x2).setCell ⟨g, 3, none⟩ x3).setCell ⟨g, 4, none⟩ x4).setCell ⟨g, 5, none⟩ x5).setCell ⟨g, 6, none⟩ x6).heap[p]? = w.heap[p]? := by
  rw [set_place hg, set_place hg, set_place hg, set_place hg, set_place hg, set_place hg, set_place hg]

set_option maxRecDepth 100000 in
set_option maxHeartbeats 8000000 in
theorem rdMsg {w : World} {B : Nat} {a : Option Addr} {len : Nat} {zs : List Int} {p k0 : Nat} {t : TypeId} {v : Value} (cap : Nat) (h : Rdr w B a len zs p k0 t v) :
    Calls Tryd.prog 40 #[.slice a len cap, .pointer (some ⟨p, 0, none⟩)] w (tookL (RowM w.heap.size) w p t v (rMsg zs k0)) := by
  have hlt := h.lt
  have hlt1 : p < w.heap.size + 1 := by omega
  generalize hGG : rMsg zs k0 = G
  have HGG := hide hGG
  clear hGG
  unfold rMsg at HGG
  have HR := hide ((h.alloc (.cells #[.int .i64 0, .int .i64 0, .int .i64 0, .int .i64 0, .int .i64 0, .slice none 0 0, .slice none 0 0] 27)).alloc (.cells #[.int .i64 0, .int .i64 0, .int .i64 0, .int .i64 0, .int .i64 0, .slice none 0 0, .slice none 0 0] 27))
  have HG := hide (grownBy_trans (World.grownBy_alloc w (.cells #[.int .i64 0, .int .i64 0, .int .i64 0, .int .i64 0, .int .i64 0, .slice none 0 0, .slice none 0 0] 27) (some p)) (World.grownBy_alloc (w.alloc (.cells #[.int .i64 0, .int .i64 0, .int .i64 0, .int .i64 0, .int .i64 0, .slice none 0 0, .slice none 0 0] 27)) (.cells #[.int .i64 0, .int .i64 0, .int .i64 0, .int .i64 0, .int .i64 0, .slice none 0 0, .slice none 0 0] 27) (some p)))
  have E4 : Hid (((w.alloc (.cells #[.int .i64 0, .int .i64 0, .int .i64 0, .int .i64 0, .int .i64 0, .slice none 0 0, .slice none 0 0] 27)).alloc (.cells #[.int .i64 0, .int .i64 0, .int .i64 0, .int .i64 0, .int .i64 0, .slice none 0 0, .slice none 0 0] 27)).heap[w.heap.size]? = some (.cells #[.int .i64 0, .int .i64 0, .int .i64 0, .int .i64 0, .int .i64 0, .slice none 0 0, .slice none 0 0] 27 (0, 0))) := hide ((Below.heap_alloc _ _ _ (by simp)).trans (heap_alloc_new w _))
  have E5 : Hid (((w.alloc (.cells #[.int .i64 0, .int .i64 0, .int .i64 0, .int .i64 0, .int .i64 0, .slice none 0 0, .slice none 0 0] 27)).alloc (.cells #[.int .i64 0, .int .i64 0, .int .i64 0, .int .i64 0, .int .i64 0, .slice none 0 0, .slice none 0 0] 27)).heap[w.heap.size + 1]? = some (.cells #[.int .i64 0, .int .i64 0, .int .i64 0, .int .i64 0, .int .i64 0, .slice none 0 0, .slice none 0 0] 27 (0, 0))) := hide (by have := heap_alloc_new (w.alloc (.cells #[.int .i64 0, .int .i64 0, .int .i64 0, .int .i64 0, .int .i64 0, .slice none 0 0, .slice none 0 0] 27)) (.cells #[.int .i64 0, .int .i64 0, .int .i64 0, .int .i64 0, .int .i64 0, .slice none 0 0, .slice none 0 0] 27); simpa only [World.size_alloc] using this)
  clear h
  go_enter Tryd.func40, Tryd.ntmps40
  go_wp2_with fail
  generalize (w.alloc (.cells #[.int .i64 0, .int .i64 0, .int .i64 0, .int .i64 0, .int .i64 0, .slice none 0 0, .slice none 0 0] 27)).alloc (.cells #[.int .i64 0, .int .i64 0, .int .i64 0, .int .i64 0, .int .i64 0, .slice none 0 0, .slice none 0 0] 27) = W0 at *
  refine (rdNum cap HR.out).mono ?_
  rintro e w1 ⟨hres, gg⟩
  replace HG := hide (grownBy_trans HG.out gg)
  rcases hres with ⟨k, k1, hr, rfl, hp⟩ | ⟨hr, rfl⟩
  · replace HR := hide (HR.out.next gg hp)
    replace E4 := hide ((gg.block w.heap.size (Array.getElem?_eq_some_iff.1 E4.out).1 (fun e => by cases e; omega)).trans E4.out)
    replace E5 := hide ((gg.block (w.heap.size + 1) (Array.getElem?_eq_some_iff.1 E5.out).1 (fun e => by cases e; omega)).trans E5.out)
    rw [hr] at HGG
    simp only [Option.bind_some] at HGG
    have X := box_of E5.out
    have f0 := X.1 0 _ rfl
    have z0 := X.2 0
    clear gg hp hr X
    replace HR := hide (HR.out.set hlt1 0 (.int .i64 k))
    replace HG := hide (grown_new HG.out (Nat.le_succ _) 0 (.int .i64 k))
    replace E4 := hide ((heap_setCell_other w1 ⟨w.heap.size + 1, 0, none⟩ w.heap.size (.int .i64 k) (by simp)).trans E4.out)
    replace E5 : Hid ((w1.setCell ⟨w.heap.size + 1, 0, none⟩ (.int .i64 k)).heap[w.heap.size + 1]? = some (.cells #[.int .i64 k, .int .i64 0, .int .i64 0, .int .i64 0, .int .i64 0, .slice none 0 0, .slice none 0 0] 27 (0, 0))) := hide (heap_setCell_same w1 (w.heap.size + 1) 0 _ 27 (.int .i64 k) E5.out)
    go_wp2_with fail
    clear f0 z0
    generalize w1.setCell ⟨w.heap.size + 1, 0, none⟩ (.int .i64 k) = W1 at *
    refine (rdNum cap HR.out).mono ?_
    rintro e w2 ⟨hres, gg⟩
    replace HG := hide (grownBy_trans HG.out gg)
    rcases hres with ⟨i, k2, hr, rfl, hp⟩ | ⟨hr, rfl⟩
    · replace HR := hide (HR.out.next gg hp)
      replace E4 := hide ((gg.block w.heap.size (Array.getElem?_eq_some_iff.1 E4.out).1 (fun e => by cases e; omega)).trans E4.out)
      replace E5 := hide ((gg.block (w.heap.size + 1) (Array.getElem?_eq_some_iff.1 E5.out).1 (fun e => by cases e; omega)).trans E5.out)
      rw [hr] at HGG
      simp only [Option.bind_some] at HGG
      have X := box_of E5.out
      have f1 := X.1 1 _ rfl
      have z1 := X.2 1
      clear gg hp hr X
      replace HR := hide (HR.out.set hlt1 1 (.int .i64 i))
      replace HG := hide (grown_new HG.out (Nat.le_succ _) 1 (.int .i64 i))
      replace E4 := hide ((heap_setCell_other w2 ⟨w.heap.size + 1, 1, none⟩ w.heap.size (.int .i64 i) (by simp)).trans E4.out)
      replace E5 : Hid ((w2.setCell ⟨w.heap.size + 1, 1, none⟩ (.int .i64 i)).heap[w.heap.size + 1]? = some (.cells #[.int .i64 k, .int .i64 i, .int .i64 0, .int .i64 0, .int .i64 0, .slice none 0 0, .slice none 0 0] 27 (0, 0))) := hide (heap_setCell_same w2 (w.heap.size + 1) 1 _ 27 (.int .i64 i) E5.out)
      go_wp2_with fail
      clear f1 z1
      generalize w2.setCell ⟨w.heap.size + 1, 1, none⟩ (.int .i64 i) = W2 at *
      refine (rdNum cap HR.out).mono ?_
      rintro e w3 ⟨hres, gg⟩
      replace HG := hide (grownBy_trans HG.out gg)
      rcases hres with ⟨u, k3, hr, rfl, hp⟩ | ⟨hr, rfl⟩
      · replace HR := hide (HR.out.next gg hp)
        replace E4 := hide ((gg.block w.heap.size (Array.getElem?_eq_some_iff.1 E4.out).1 (fun e => by cases e; omega)).trans E4.out)
        replace E5 := hide ((gg.block (w.heap.size + 1) (Array.getElem?_eq_some_iff.1 E5.out).1 (fun e => by cases e; omega)).trans E5.out)
        rw [hr] at HGG
        simp only [Option.bind_some] at HGG
        have X := box_of E5.out
        have f2 := X.1 2 _ rfl
        have z2 := X.2 2
        clear gg hp hr X
        replace HR := hide (HR.out.set hlt1 2 (.int .i64 u))
        replace HG := hide (grown_new HG.out (Nat.le_succ _) 2 (.int .i64 u))
        replace E4 := hide ((heap_setCell_other w3 ⟨w.heap.size + 1, 2, none⟩ w.heap.size (.int .i64 u) (by simp)).trans E4.out)
        replace E5 : Hid ((w3.setCell ⟨w.heap.size + 1, 2, none⟩ (.int .i64 u)).heap[w.heap.size + 1]? = some (.cells #[.int .i64 k, .int .i64 i, .int .i64 u, .int .i64 0, .int .i64 0, .slice none 0 0, .slice none 0 0] 27 (0, 0))) := hide (heap_setCell_same w3 (w.heap.size + 1) 2 _ 27 (.int .i64 u) E5.out)
        go_wp2_with fail
        clear f2 z2
        generalize w3.setCell ⟨w.heap.size + 1, 2, none⟩ (.int .i64 u) = W3 at *
        refine (rdNum cap HR.out).mono ?_
        rintro e w4 ⟨hres, gg⟩
        replace HG := hide (grownBy_trans HG.out gg)
        rcases hres with ⟨c, k4, hr, rfl, hp⟩ | ⟨hr, rfl⟩
        · replace HR := hide (HR.out.next gg hp)
          replace E4 := hide ((gg.block w.heap.size (Array.getElem?_eq_some_iff.1 E4.out).1 (fun e => by cases e; omega)).trans E4.out)
          replace E5 := hide ((gg.block (w.heap.size + 1) (Array.getElem?_eq_some_iff.1 E5.out).1 (fun e => by cases e; omega)).trans E5.out)
          rw [hr] at HGG
          simp only [Option.bind_some] at HGG
          have X := box_of E5.out
          have f3 := X.1 3 _ rfl
          have z3 := X.2 3
          clear gg hp hr X
          replace HR := hide (HR.out.set hlt1 3 (.int .i64 c))
          replace HG := hide (grown_new HG.out (Nat.le_succ _) 3 (.int .i64 c))
          replace E4 := hide ((heap_setCell_other w4 ⟨w.heap.size + 1, 3, none⟩ w.heap.size (.int .i64 c) (by simp)).trans E4.out)
          replace E5 : Hid ((w4.setCell ⟨w.heap.size + 1, 3, none⟩ (.int .i64 c)).heap[w.heap.size + 1]? = some (.cells #[.int .i64 k, .int .i64 i, .int .i64 u, .int .i64 c, .int .i64 0, .slice none 0 0, .slice none 0 0] 27 (0, 0))) := hide (heap_setCell_same w4 (w.heap.size + 1) 3 _ 27 (.int .i64 c) E5.out)
          go_wp2_with fail
          clear f3 z3
          generalize w4.setCell ⟨w.heap.size + 1, 3, none⟩ (.int .i64 c) = W4 at *
          refine (rdNum cap HR.out).mono ?_
          rintro e w5 ⟨hres, gg⟩
          replace HG := hide (grownBy_trans HG.out gg)
          rcases hres with ⟨n, k5, hr, rfl, hp⟩ | ⟨hr, rfl⟩
          · replace HR := hide (HR.out.next gg hp)
            replace E4 := hide ((gg.block w.heap.size (Array.getElem?_eq_some_iff.1 E4.out).1 (fun e => by cases e; omega)).trans E4.out)
            replace E5 := hide ((gg.block (w.heap.size + 1) (Array.getElem?_eq_some_iff.1 E5.out).1 (fun e => by cases e; omega)).trans E5.out)
            rw [hr] at HGG
            simp only [Option.bind_some] at HGG
            have X := box_of E5.out
            have f4 := X.1 4 _ rfl
            have z4 := X.2 4
            clear gg hp hr X
            replace HR := hide (HR.out.set hlt1 4 (.int .i64 n))
            replace HG := hide (grown_new HG.out (Nat.le_succ _) 4 (.int .i64 n))
            replace E4 := hide ((heap_setCell_other w5 ⟨w.heap.size + 1, 4, none⟩ w.heap.size (.int .i64 n) (by simp)).trans E4.out)
            replace E5 : Hid ((w5.setCell ⟨w.heap.size + 1, 4, none⟩ (.int .i64 n)).heap[w.heap.size + 1]? = some (.cells #[.int .i64 k, .int .i64 i, .int .i64 u, .int .i64 c, .int .i64 n, .slice none 0 0, .slice none 0 0] 27 (0, 0))) := hide (heap_setCell_same w5 (w.heap.size + 1) 4 _ 27 (.int .i64 n) E5.out)
            go_wp2_with fail
            clear f4 z4
            generalize w5.setCell ⟨w.heap.size + 1, 4, none⟩ (.int .i64 n) = W5 at *
            have sz5 := HG.out.size
            refine (rdListCell cap HR.out).mono ?_
            rintro e w6 ⟨hres, gg⟩
            rcases hres with ⟨cs, k6, v5, hr, rfl, ho, hp⟩ | ⟨hr, rfl⟩
            · replace HG := hide (grownBy_trans HG.out gg)
              obtain ⟨a5, c5, rfl, _⟩ := cells_at (ho.rd (Nat.le_refl _))
              have H5 := hide ho
              have hw5 : w.heap.size + 1 < W5.heap.size := (Array.getElem?_eq_some_iff.1 E5.out).1
              replace HR := hide (HR.out.next gg hp)
              replace E4 := hide ((gg.block w.heap.size (Array.getElem?_eq_some_iff.1 E4.out).1 (fun e => by cases e; omega)).trans E4.out)
              replace E5 := hide ((gg.block (w.heap.size + 1) (Array.getElem?_eq_some_iff.1 E5.out).1 (fun e => by cases e; omega)).trans E5.out)
              rw [hr] at HGG
              simp only [Option.bind_some] at HGG
              have X := box_of E5.out
              have f5 := X.1 5 _ rfl
              have z5 := X.2 5
              clear gg hp hr X ho
              replace HR := hide (HR.out.set hlt1 5 (.slice a5 cs.length c5))
              replace HG := hide (grown_new HG.out (Nat.le_succ _) 5 (.slice a5 cs.length c5))
              replace H5 := hide (own_set H5.out (show w.heap.size + 1 < _ from by omega) 5 (.slice a5 cs.length c5))
              replace E4 := hide ((heap_setCell_other w6 ⟨w.heap.size + 1, 5, none⟩ w.heap.size (.slice a5 cs.length c5) (by simp)).trans E4.out)
              replace E5 : Hid ((w6.setCell ⟨w.heap.size + 1, 5, none⟩ (.slice a5 cs.length c5)).heap[w.heap.size + 1]? = some (.cells #[.int .i64 k, .int .i64 i, .int .i64 u, .int .i64 c, .int .i64 n, .slice a5 cs.length c5, .slice none 0 0] 27 (0, 0))) := hide (heap_setCell_same w6 (w.heap.size + 1) 5 _ 27 (.slice a5 cs.length c5) E5.out)
              go_wp2_with fail
              clear f5 z5
              generalize w6.setCell ⟨w.heap.size + 1, 5, none⟩ (.slice a5 cs.length c5) = W6 at *
              have sz6 := HG.out.size
              refine (rdListNote cap HR.out).mono ?_
              rintro e w7 ⟨hres, gg⟩
              rcases hres with ⟨ns, k7, v6, hr, rfl, ho, hp⟩ | ⟨hr, rfl⟩
              · replace HG := hide (grownBy_trans HG.out gg)
                obtain ⟨a6, c6, rfl, _⟩ := notes_at (ho.rd (Nat.le_refl _))
                have H6 := hide ho
                have hw6 : w.heap.size + 1 < W6.heap.size := (Array.getElem?_eq_some_iff.1 E5.out).1
                have L5 := hide (OwnC.lt H5.out)
                replace H5 := hide (OwnC.kept H5.out gg (fun q hq e => by cases e; have := (L5.out _ hq).1; omega))
                replace HR := hide (HR.out.next gg hp)
                replace E4 := hide ((gg.block w.heap.size (Array.getElem?_eq_some_iff.1 E4.out).1 (fun e => by cases e; omega)).trans E4.out)
                replace E5 := hide ((gg.block (w.heap.size + 1) (Array.getElem?_eq_some_iff.1 E5.out).1 (fun e => by cases e; omega)).trans E5.out)
                rw [hr] at HGG
                simp only [Option.bind_some] at HGG
                have X := box_of E5.out
                have HX5 := hide X.1
                have X4 := box_of E4.out
                have HX4 := hide X4.1
                have zz := X4.2
                clear X4
                have f6 := X.1 6 _ rfl
                have z6 := X.2 6
                have HNE : Hid (∀ q, (Value.slice a5 cs.length c5).ownBlock = some q → ∀ r, (Value.slice a6 ns.length c6).ownBlock = some r → q < r) := hide (fun q hq r hr => Nat.lt_of_lt_of_le (L5.out q hq).2 (ho.lt r hr).1)
                clear gg hp hr X ho
                replace HR := hide (HR.out.set hlt1 6 (.slice a6 ns.length c6))
                replace HG := hide (grown_new HG.out (Nat.le_succ _) 6 (.slice a6 ns.length c6))
                replace H5 := hide (own_set H5.out (show w.heap.size + 1 < _ from by omega) 6 (.slice a6 ns.length c6))
                replace H6 := hide (own_set H6.out (show w.heap.size + 1 < _ from by omega) 6 (.slice a6 ns.length c6))
                replace E4 := hide ((heap_setCell_other w7 ⟨w.heap.size + 1, 6, none⟩ w.heap.size (.slice a6 ns.length c6) (by simp)).trans E4.out)
                replace E5 : Hid ((w7.setCell ⟨w.heap.size + 1, 6, none⟩ (.slice a6 ns.length c6)).heap[w.heap.size + 1]? = some (.cells #[.int .i64 k, .int .i64 i, .int .i64 u, .int .i64 c, .int .i64 n, .slice a5 cs.length c5, .slice a6 ns.length c6] 27 (0, 0))) := hide (heap_setCell_same w7 (w.heap.size + 1) 6 _ 27 (.slice a6 ns.length c6) E5.out)
                have HN := hide HGG.out.symm
                have HP := hide HR.out.pl
                have r0 := HX4.out 0 _ rfl
                have r1 := HX4.out 1 _ rfl
                have r2 := HX4.out 2 _ rfl
                have r3 := HX4.out 3 _ rfl
                have r4 := HX4.out 4 _ rfl
                have r5 := HX4.out 5 _ rfl
                have r6 := HX4.out 6 _ rfl
                have g0 := HX5.out 0 _ rfl
                have g1 := HX5.out 1 _ rfl
                have g2 := HX5.out 2 _ rfl
                have g3 := HX5.out 3 _ rfl
                have g4 := HX5.out 4 _ rfl
                have g5 := HX5.out 5 _ rfl
                have g6 := HX5.out 6 _ rfl
                clear HR HGG f6
                have E := hide E4.out
                go_wp2
                refine bodyPost_ret (v := msgV k i u c n (.slice a5 cs.length c5) (.slice a6 ns.length c6)) (results_one Tryd.results40 _ _ _ rfl (load7 (put7 E.out _ _ _ _ _ _ _))) rfl ⟨.inl ⟨_, _, _, HN.out, rfl, ⟨_, _, rfl, ?_, ?_, HNE.out⟩, ?_⟩, grown_put7 HG.out (Nat.le_refl _) _ _ _ _ _ _ _⟩
                · exact OwnC.mono (own_put7 H5.out (show w.heap.size < _ from by omega) _ _ _ _ _ _ _) (by omega)
                · exact OwnN.mono (own_put7 H6.out (show w.heap.size < _ from by omega) _ _ _ _ _ _ _) (by omega)
                · rw [place_put7 hlt]; exact HP.out
              · have HN : Hid (G = none) := hide (by rw [← HGG.out, hr]; rfl)
                replace HG := hide (grownBy_trans HG.out gg)
                clear gg hr HGG
                go_wp2
                exact ⟨rfl, .inr ⟨HN.out, rfl⟩, HG.out⟩
            · have HN : Hid (G = none) := hide (by rw [← HGG.out, hr]; rfl)
              replace HG := hide (grownBy_trans HG.out gg)
              clear gg hr HGG
              go_wp2
              exact ⟨rfl, .inr ⟨HN.out, rfl⟩, HG.out⟩
          · have HN : Hid (G = none) := hide (by rw [← HGG.out, hr]; rfl)
            clear gg hr HGG
            go_wp2
            exact ⟨rfl, .inr ⟨HN.out, rfl⟩, HG.out⟩
        · have HN : Hid (G = none) := hide (by rw [← HGG.out, hr]; rfl)
          clear gg hr HGG
          go_wp2
          exact ⟨rfl, .inr ⟨HN.out, rfl⟩, HG.out⟩
      · have HN : Hid (G = none) := hide (by rw [← HGG.out, hr]; rfl)
        clear gg hr HGG
        go_wp2
        exact ⟨rfl, .inr ⟨HN.out, rfl⟩, HG.out⟩
    · have HN : Hid (G = none) := hide (by rw [← HGG.out, hr]; rfl)
      clear gg hr HGG
      go_wp2
      exact ⟨rfl, .inr ⟨HN.out, rfl⟩, HG.out⟩
  · have HN : Hid (G = none) := hide (by rw [← HGG.out, hr]; rfl)
    clear gg hr HGG
    go_wp2
    exact ⟨rfl, .inr ⟨HN.out, rfl⟩, HG.out⟩
end Go.Proofs.YtbkhlaiifbdfoaaDoor
/-
  What readAt does with takeMsg.
-/
namespace Go.Proofs.YtbkhlaiifbdfoaaDoor
open Go.RowKit

def zeroM : Value := .agg #[.int .i64 0, .int .i64 0, .int .i64 0, .int .i64 0, .int .i64 0, .slice none 0 0, .slice none 0 0]

set_option maxRecDepth 100000 in
set_option maxHeartbeats 4000000 in
theorem catchPanicM (g : Nat) (t : TypeId) (pv : Value) (older : List PanicEntry) (w : World) (x0 x1 x2 x3 x4 x5 x6 : Value) (y : Int) (z : Bool) (hg : g + 1 + 1 < w.heap.size)
    (h0 : w.heap[g]? = some (.cells #[x0, x1, x2, x3, x4, x5, x6] 27 (0, 0))) (h1 : w.heap[g + 1]? = some (.cells #[.int .i64 y] 3 (0, 0))) (h2 : w.heap[g + 1 + 1]? = some (.cells #[.bool z] 4 (0, 0))) :
    CallsD Tryd.prog 65 #[.pointer (some ⟨g, 0, none⟩), .pointer (some ⟨g + 1, 0, none⟩), .pointer (some ⟨g + 1 + 1, 0, none⟩)] (.panicking ({ v := .iface t pv, recovered := false } :: older)) w fun e u' w' =>
      e = .returned (.tuple #[]) ∧ u' = .panicking ({ v := .iface t pv, recovered := true } :: older) ∧ w' = (((((((((w.alloc (.cells #[.int .i64 0, .int .i64 0, .int .i64 0, .int .i64 0, .int .i64 0, .slice none 0 0, .slice none 0 0] 27)).setCell ⟨g, 0, none⟩ (.int .i64 0)).setCell ⟨g, 1, none⟩ (.int .i64 0)).setCell ⟨g, 2, none⟩ (.int .i64 0)).setCell ⟨g, 3, none⟩ (.int .i64 0)).setCell ⟨g, 4, none⟩ (.int .i64 0)).setCell ⟨g, 5, none⟩ (.slice none 0 0)).setCell ⟨g, 6, none⟩ (.slice none 0 0)).setCell ⟨g + 1, 0, none⟩ (.int .i64 0)).setCell ⟨g + 1 + 1, 0, none⟩ (.bool false) := by
  have X0 := box_of h0
  have X1 := box_of h1
  have X2 := box_of h2
  have HX0 := hide X0.1
  have c0 := HX0.out 0 _ rfl
  have c1 := HX0.out 1 _ rfl
  have c2 := HX0.out 2 _ rfl
  have c3 := HX0.out 3 _ rfl
  have c4 := HX0.out 4 _ rfl
  have c5 := HX0.out 5 _ rfl
  have c6 := HX0.out 6 _ rfl
  have d0 := X1.1 0 _ rfl
  have e0 := X2.1 0 _ rfl
  have z0 := X0.2
  have z1 := X1.2
  have z2 := X2.2
  have l0 : g < w.heap.size := by omega
  have l1 : g + 1 < w.heap.size := by omega
  clear X0 X1 X2 h0 h1 h2
  refine callsD_of_wpS Tryd.func65 rfl fun c₀ cs hu => ?_
  apply wpS_seq
  apply wpS_region
  simp [wpOpsS, go_sem, recoverD, hu, Tryd.ntmps65, Exit.thenS]
  refine wpS_cond (t := true) (by simp [Act.eval, Array.replicate]) ?_
  simp only [if_true]
  apply wpS_seq
  apply wpS_region
  simp [wpOpsS, go_sem, Exit.thenS]
  apply wpS_region
  simp [wpOpsS, go_sem, c0, c1, c2, c3, c4, c5, c6, d0, e0, z0, z1, z2, l0, l1, hg, bodyPostS, results, Tryd.results65]

set_option maxRecDepth 100000 in
theorem catchIdleM (g : Nat) (w : World) :
    CallsD Tryd.prog 65 #[.pointer (some ⟨g, 0, none⟩), .pointer (some ⟨g + 1, 0, none⟩), .pointer (some ⟨g + 1 + 1, 0, none⟩)] .returning w fun e u' w' => e = .returned (.tuple #[]) ∧ u' = .returning ∧ w' = w := by
  refine callsD_of_wpS Tryd.func65 rfl fun c₀ cs hu => ?_
  apply wpS_seq
  apply wpS_region
  simp [wpOpsS, go_sem, recoverD, hu, Tryd.ntmps65, Exit.thenS]
  refine wpS_cond (t := false) (by simp [Act.eval, Array.replicate]) ?_
  simp only [Bool.false_eq_true, if_false]
  refine wpS_of_wp (wp_skip ?_)
  cases c₀
  simp_all [bodyPostS, results, Tryd.results65]
end Go.Proofs.YtbkhlaiifbdfoaaDoor
/-
  What readAt does with takeMsg: the message, the place behind it and true; zero, 0 and false, where there is none.
-/
namespace Go.Proofs.YtbkhlaiifbdfoaaDoor
open Go.RowKit

def ZA : Array Value := #[.int .i64 0, .int .i64 0, .int .i64 0, .int .i64 0, .int .i64 0, .slice none 0 0, .slice none 0 0]

/-- The four new variables, behind a call that has turned none but the last one. -/
theorem four_newM {w w1 : World} {k : Int} (hg : ((((w.alloc (.cells #[.int .i64 0, .int .i64 0, .int .i64 0, .int .i64 0, .int .i64 0, .slice none 0 0, .slice none 0 0] 27)).alloc (.cells #[.int .i64 0] 3)).alloc (.cells #[.bool false] 4)).alloc (.cells #[.int .i64 k] 3)).grownBy w1 (some (w.heap.size + 1 + 1 + 1))) :
    w1.heap[w.heap.size]? = some (.cells #[.int .i64 0, .int .i64 0, .int .i64 0, .int .i64 0, .int .i64 0, .slice none 0 0, .slice none 0 0] 27 (0, 0)) ∧ w1.heap[w.heap.size + 1]? = some (.cells #[.int .i64 0] 3 (0, 0)) ∧ w1.heap[w.heap.size + 1 + 1]? = some (.cells #[.bool false] 4 (0, 0)) ∧ Below w.heap.size w w1 ∧ w.heap.size + 1 + 1 + 1 < w1.heap.size := by
  have hs : ((((w.alloc (.cells #[.int .i64 0, .int .i64 0, .int .i64 0, .int .i64 0, .int .i64 0, .slice none 0 0, .slice none 0 0] 27)).alloc (.cells #[.int .i64 0] 3)).alloc (.cells #[.bool false] 4)).alloc (.cells #[.int .i64 k] 3)).heap.size = w.heap.size + 4 := by simp
  have e0 := heap_alloc_new w (.cells #[.int .i64 0, .int .i64 0, .int .i64 0, .int .i64 0, .int .i64 0, .slice none 0 0, .slice none 0 0] 27)
  have e1 := heap_alloc_new (w.alloc (.cells #[.int .i64 0, .int .i64 0, .int .i64 0, .int .i64 0, .int .i64 0, .slice none 0 0, .slice none 0 0] 27)) (.cells #[.int .i64 0] 3)
  have e2 := heap_alloc_new ((w.alloc (.cells #[.int .i64 0, .int .i64 0, .int .i64 0, .int .i64 0, .int .i64 0, .slice none 0 0, .slice none 0 0] 27)).alloc (.cells #[.int .i64 0] 3)) (.cells #[.bool false] 4)
  have n1 : (w.alloc (.cells #[.int .i64 0, .int .i64 0, .int .i64 0, .int .i64 0, .int .i64 0, .slice none 0 0, .slice none 0 0] 27)).heap.size = w.heap.size + 1 := by simp
  have n2 : ((w.alloc (.cells #[.int .i64 0, .int .i64 0, .int .i64 0, .int .i64 0, .int .i64 0, .slice none 0 0, .slice none 0 0] 27)).alloc (.cells #[.int .i64 0] 3)).heap.size = w.heap.size + 1 + 1 := by simp
  have n3 : (((w.alloc (.cells #[.int .i64 0, .int .i64 0, .int .i64 0, .int .i64 0, .int .i64 0, .slice none 0 0, .slice none 0 0] 27)).alloc (.cells #[.int .i64 0] 3)).alloc (.cells #[.bool false] 4)).heap.size = w.heap.size + 1 + 1 + 1 := by simp
  rw [n1] at e1
  rw [n2] at e2
  have hsz := hg.size
  refine ⟨?_, ?_, ?_, ?_, by omega⟩
  · rw [hg.block _ (by omega) (by simp; omega), Below.heap_alloc _ _ _ (by omega), Below.heap_alloc _ _ _ (by omega), Below.heap_alloc _ _ _ (by omega), e0]
  · rw [hg.block _ (by omega) (by simp), Below.heap_alloc _ _ _ (by omega), Below.heap_alloc _ _ _ (by omega), e1]
  · rw [hg.block _ (by omega) (by simp), Below.heap_alloc _ _ _ (by omega), e2]
  · exact ((((Below.refl _ _).alloc (Nat.le_refl _) _).alloc (by simp) _).alloc (by simp; omega) _ |>.alloc (by simp; omega) _).grown hg (by simp; omega) (fun k hk => by cases hk; omega)

theorem results_three {fn : Func} {p0 p1 p2 : Tmp} {t0 t1 t2 : TypeId} {v0 v1 v2 : Value} {g0 g1 g2 : Addr} (h : fn.results = #[.cell p0 t0, .cell p1 t1, .cell p2 t2]) (tmps : Array Value) (P : Program) (w : World)
    (hg0 : tmps.getD p0 undef = .pointer (some g0)) (hg1 : tmps.getD p1 undef = .pointer (some g1)) (hg2 : tmps.getD p2 undef = .pointer (some g2))
    (hl0 : (loadVar t0 g0).run P w = .ok v0 w) (hl1 : (loadVar t1 g1).run P w = .ok v1 w) (hl2 : (loadVar t2 g2).run P w = .ok v2 w) :
    (results fn tmps).run P w = .ok (.tuple #[v0, v1, v2]) w := by
  have h' : ((asAddr (tmps.getD p0 undef)).run P w).andThen (fun a w₁ => ((loadVar t0 a).run P w₁).andThen fun x w₂ => ((asAddr (tmps.getD p1 undef)).run P w₂).andThen (fun a w₃ => ((loadVar t1 a).run P w₃).andThen fun y w₄ => ((asAddr (tmps.getD p2 undef)).run P w₄).andThen (fun a w₅ => ((loadVar t2 a).run P w₅).andThen fun z w₆ => Result.ok (Value.tuple #[x, y, z]) w₆))) = Result.ok (Value.tuple #[v0, v1, v2]) w := by
    rw [hg0, hg1, hg2]
    simp [asAddr, Result.andThen, hl0, hl1, hl2]
  simp only [results, h]
  simpa [Sem.run_bind, Result.andThen] using h'
theorem loadInt {w : World} {g : Nat} {x : Int} (h : w.heap[g]? = some (.cells #[.int .i64 x] 3 (0, 0))) : (loadVar 3 ⟨g, 0, none⟩).run Tryd.prog w = .ok (.int .i64 x) w := by
  have c := (box_of h).1 0 _ rfl
  simp [go_sem, c]
theorem loadBool {w : World} {g : Nat} {x : Bool} (h : w.heap[g]? = some (.cells #[.bool x] 4 (0, 0))) : (loadVar 4 ⟨g, 0, none⟩).run Tryd.prog w = .ok (.bool x) w := by
  have c := (box_of h).1 0 _ rfl
  simp [go_sem, c]
theorem put9 {w : World} {g : Nat} {a0 a1 a2 a3 a4 a5 a6 y z : Value} (h0 : w.heap[g]? = some (.cells #[a0, a1, a2, a3, a4, a5, a6] 27 (0, 0))) (h1 : w.heap[g + 1]? = some (.cells #[y] 3 (0, 0))) (h2 : w.heap[g + 1 + 1]? = some (.cells #[z] 4 (0, 0))) (b0 b1 b2 b3 b4 b5 b6 y' z' : Value) :
    (((((((((w.setCell ⟨g, 0, none⟩ b0).setCell ⟨g, 1, none⟩ b1).setCell ⟨g, 2, none⟩ b2).setCell ⟨g, 3, none⟩ b3).setCell ⟨g, 4, none⟩ b4).setCell ⟨g, 5, none⟩ b5).setCell ⟨g, 6, none⟩ b6).setCell ⟨g + 1, 0, none⟩ y').setCell ⟨g + 1 + 1, 0, none⟩ z').heap[g]? = some (.cells #[b0, b1, b2, b3, b4, b5, b6] 27 (0, 0)) ∧
    (((((((((w.setCell ⟨g, 0, none⟩ b0).setCell ⟨g, 1, none⟩ b1).setCell ⟨g, 2, none⟩ b2).setCell ⟨g, 3, none⟩ b3).setCell ⟨g, 4, none⟩ b4).setCell ⟨g, 5, none⟩ b5).setCell ⟨g, 6, none⟩ b6).setCell ⟨g + 1, 0, none⟩ y').setCell ⟨g + 1 + 1, 0, none⟩ z').heap[g + 1]? = some (.cells #[y'] 3 (0, 0)) ∧
    (((((((((w.setCell ⟨g, 0, none⟩ b0).setCell ⟨g, 1, none⟩ b1).setCell ⟨g, 2, none⟩ b2).setCell ⟨g, 3, none⟩ b3).setCell ⟨g, 4, none⟩ b4).setCell ⟨g, 5, none⟩ b5).setCell ⟨g, 6, none⟩ b6).setCell ⟨g + 1, 0, none⟩ y').setCell ⟨g + 1 + 1, 0, none⟩ z').heap[g + 1 + 1]? = some (.cells #[z'] 4 (0, 0)) := by
  have p0 := put7 h0 b0 b1 b2 b3 b4 b5 b6
  have oth : ∀ q, q ≠ g → (((((((w.setCell ⟨g, 0, none⟩ b0).setCell ⟨g, 1, none⟩ b1).setCell ⟨g, 2, none⟩ b2).setCell ⟨g, 3, none⟩ b3).setCell ⟨g, 4, none⟩ b4).setCell ⟨g, 5, none⟩ b5).setCell ⟨g, 6, none⟩ b6).heap[q]? = w.heap[q]? := fun q hq => by
    rw [heap_setCell_other _ _ _ _ hq, heap_setCell_other _ _ _ _ hq, heap_setCell_other _ _ _ _ hq, heap_setCell_other _ _ _ _ hq, heap_setCell_other _ _ _ _ hq, heap_setCell_other _ _ _ _ hq, heap_setCell_other _ _ _ _ hq]
  have p1 := (oth (g + 1) (by omega)).trans h1
  have p2 := (oth (g + 1 + 1) (by omega)).trans h2
  generalize ((((((w.setCell ⟨g, 0, none⟩ b0).setCell ⟨g, 1, none⟩ b1).setCell ⟨g, 2, none⟩ b2).setCell ⟨g, 3, none⟩ b3).setCell ⟨g, 4, none⟩ b4).setCell ⟨g, 5, none⟩ b5).setCell ⟨g, 6, none⟩ b6 = W at p0 p1 p2 ⊢
  refine ⟨?_, ?_, ?_⟩
  · rw [heap_setCell_other _ _ _ _ (by simp; omega), heap_setCell_other _ _ _ _ (by simp)]; exact p0
  · rw [heap_setCell_other _ _ _ _ (by simp)]; exact heap_setCell_same W (g + 1) 0 _ 3 y' p1
  · exact heap_setCell_same _ (g + 1 + 1) 0 _ 4 z' ((heap_setCell_other W ⟨g + 1, 0, none⟩ (g + 1 + 1) y' (by simp)).trans p2)
theorem below_put9 {B : Nat} {w0 w : World} (h : Below B w0 w) {g : Nat} (hg : B ≤ g) (b0 b1 b2 b3 b4 b5 b6 y' z' : Value) :
    Below B w0 (((((((((w.setCell ⟨g, 0, none⟩ b0).setCell ⟨g, 1, none⟩ b1).setCell ⟨g, 2, none⟩ b2).setCell ⟨g, 3, none⟩ b3).setCell ⟨g, 4, none⟩ b4).setCell ⟨g, 5, none⟩ b5).setCell ⟨g, 6, none⟩ b6).setCell ⟨g + 1, 0, none⟩ y').setCell ⟨g + 1 + 1, 0, none⟩ z') :=
  ((((((((h.setCell (p := ⟨g, 0, none⟩) hg b0).setCell (p := ⟨g, 1, none⟩) hg b1).setCell (p := ⟨g, 2, none⟩) hg b2).setCell (p := ⟨g, 3, none⟩) hg b3).setCell (p := ⟨g, 4, none⟩) hg b4).setCell (p := ⟨g, 5, none⟩) hg b5).setCell (p := ⟨g, 6, none⟩) hg b6).setCell (p := ⟨g + 1, 0, none⟩) (by simp; omega) y').setCell (p := ⟨g + 1 + 1, 0, none⟩) (by simp; omega) z'

theorem load7d {w : World} {g : Nat} {a0 a1 a2 a3 a4 a5 a6 : Value} (h : w.heap[g]? = some (.cells #[a0, a1, a2, a3, a4, a5, a6] 27 (0, 0))) : (loadVar 27 ⟨g, 0, none⟩).run Tryd.prog w.drew = .ok (.agg #[a0, a1, a2, a3, a4, a5, a6]) w.drew := load7 (w := w.drew) h
theorem loadIntd {w : World} {g : Nat} {x : Int} (h : w.heap[g]? = some (.cells #[.int .i64 x] 3 (0, 0))) : (loadVar 3 ⟨g, 0, none⟩).run Tryd.prog w.drew = .ok (.int .i64 x) w.drew := loadInt (w := w.drew) h
theorem loadBoold {w : World} {g : Nat} {x : Bool} (h : w.heap[g]? = some (.cells #[.bool x] 4 (0, 0))) : (loadVar 4 ⟨g, 0, none⟩).run Tryd.prog w.drew = .ok (.bool x) w.drew := loadBool (w := w.drew) h
theorem own_drew {w : World} {b e sz n : Nat} {v : Value} {cs : List Value} (h : w.ownsRow b e sz v n cs) : w.drew.ownsRow b e sz v n cs := h
theorem own_put9 {w : World} {base e sz n : Nat} {v : Value} {cs : List Value} (h : w.ownsRow base e sz v n cs) {g : Nat} (hg : g + 1 + 1 < base) (x0 x1 x2 x3 x4 x5 x6 y z : Value) :
    (((((((((w.setCell ⟨g, 0, none⟩ x0).setCell ⟨g, 1, none⟩ x1).setCell ⟨g, 2, none⟩ x2).setCell ⟨g, 3, none⟩ x3).setCell ⟨g, 4, none⟩ x4).setCell ⟨g, 5, none⟩ x5).setCell ⟨g, 6, none⟩ x6).setCell ⟨g + 1, 0, none⟩ y).setCell ⟨g + 1 + 1, 0, none⟩ z).ownsRow base e sz v n cs :=
  own_set (own_set (own_put7 h (by omega) x0 x1 x2 x3 x4 x5 x6) (by omega) 0 y) hg 0 z
theorem below_put7 {B : Nat} {w0 w : World} (h : Below B w0 w) {g : Nat} (hg : B ≤ g) (b0 b1 b2 b3 b4 b5 b6 : Value) :
    Below B w0 (((((((w.setCell ⟨g, 0, none⟩ b0).setCell ⟨g, 1, none⟩ b1).setCell ⟨g, 2, none⟩ b2).setCell ⟨g, 3, none⟩ b3).setCell ⟨g, 4, none⟩ b4).setCell ⟨g, 5, none⟩ b5).setCell ⟨g, 6, none⟩ b6) :=
  ((((((h.setCell (p := ⟨g, 0, none⟩) hg b0).setCell (p := ⟨g, 1, none⟩) hg b1).setCell (p := ⟨g, 2, none⟩) hg b2).setCell (p := ⟨g, 3, none⟩) hg b3).setCell (p := ⟨g, 4, none⟩) hg b4).setCell (p := ⟨g, 5, none⟩) hg b5).setCell (p := ⟨g, 6, none⟩) hg b6

/-- What readAt answers. -/
def ansM (b : Nat) (r : Option (M × Nat)) (e : Ending) (w' : World) : Prop :=
  match r with
  | some (m, nx) => ∃ u, e = .returned (.tuple #[u, .int .i64 (nx : Int), .bool true]) ∧ RowM b w' u m
  | none => e = .returned (.tuple #[zeroM, .int .i64 0, .bool false])

end Go.Proofs.YtbkhlaiifbdfoaaDoor
/-
  What readAt does with takeMsg: the message, the place behind it and true; zero, 0 and false, where there is none.
-/
namespace Go.Proofs.YtbkhlaiifbdfoaaDoor
open Go.RowKit

set_option maxRecDepth 100000 in
set_option maxHeartbeats 8000000 in
theorem readMsg (w : World) (a : Option Addr) (len cap : Nat) (t : TypeId) (v : Value) (r : Option (M × Nat))
    (hT : ∀ W : World, Below w.heap.size w W → W.heap[w.heap.size + 1 + 1 + 1]? = some (.cells #[.int .i64 0] 3 (0, 0)) →
      Calls Tryd.prog 40 #[.slice a len cap, .pointer (some ⟨w.heap.size + 1 + 1 + 1, 0, none⟩)] W (tookL (RowM W.heap.size) W (w.heap.size + 1 + 1 + 1) t v r)) :
    Calls Tryd.prog 39 #[.slice a len cap, .int .i64 0, .func (.func 40) #[] #[]] w fun e w' => ansM w.heap.size r e w' ∧ Below w.heap.size w w' := by
  have hmf : ∀ (fn : Fn) (first cap : Array Value) (w : World), (Instr.makeFunc fn first cap).run Tryd.prog w = .ok (.func fn first cap) w := fun _ _ _ _ => rfl
  have HT := hide hT
  clear hT
  go_enter_defers Tryd.func39, Tryd.ntmps39
  go_wp2_with fail
  refine (unhide HT _ ((((Below.refl _ _).alloc (Nat.le_refl _) _).alloc (by simp) _).alloc (by simp; omega) _ |>.alloc (by simp; omega) _) (by
    have := heap_alloc_new (((w.alloc (.cells #[.int .i64 0, .int .i64 0, .int .i64 0, .int .i64 0, .int .i64 0, .slice none 0 0, .slice none 0 0] 27)).alloc (.cells #[.int .i64 0] 3)).alloc (.cells #[.bool false] 4)) (.cells #[.int .i64 0] 3)
    simpa using this)).mono ?_
  clear HT
  rintro e w1 ⟨hres, hg1⟩
  obtain ⟨g0, g1, g2, hb1, hs1⟩ := four_newM hg1
  have HB := hide hb1
  clear hg1 hb1
  have HE := hide (And.intro g0 (And.intro g1 g2))
  have HX0 := hide (box_of g0).1
  have z0 := (box_of g0).2
  have z1 := (box_of g1).2 0
  have z2 := (box_of g2).2 0
  have d0 := (box_of g1).1 0 _ rfl
  have e0 := (box_of g2).1 0 _ rfl
  have c0 := HX0.out 0 _ rfl
  have c1 := HX0.out 1 _ rfl
  have c2 := HX0.out 2 _ rfl
  have c3 := HX0.out 3 _ rfl
  have c4 := HX0.out 4 _ rfl
  have c5 := HX0.out 5 _ rfl
  have c6 := HX0.out 6 _ rfl
  clear g0 g1 g2 HX0
  rcases hres with ⟨m, nx, u, rfl, rfl, ⟨v5, v6, rfl, o5, o6, hne⟩, hp1⟩ | ⟨rfl, rfl⟩
  · have c3' : w1.cell? ⟨w.heap.size + 1 + 1 + 1, 0, none⟩ = some (.int .i64 (nx : Int)) := by rw [cell_of_row _ _ 0 _ 3 (0, 0) hp1]; rfl
    have H5 := hide o5
    have H6 := hide o6
    have HNE := hide hne
    obtain ⟨a5, c5', rfl, _⟩ := cells_at (o5.rd (Nat.le_refl _))
    obtain ⟨a6, c6', rfl, _⟩ := notes_at (o6.rd (Nat.le_refl _))
    clear hp1 o5 o6 hne
    obtain ⟨k, i, uu, c, n, cs, ns⟩ := m
    simp only at H5 H6 HNE
    unfold msgV
    simp only
    go_wp2
    go_region
    go_wp2
    refine leaves_cons (f := 65) (args := #[.pointer (some ⟨w.heap.size, 0, none⟩), .pointer (some ⟨w.heap.size + 1, 0, none⟩), .pointer (some ⟨w.heap.size + 1 + 1, 0, none⟩)]) (by simp) (by simp [go_sem]) ?_
    refine (catchIdleM _ _).mono ?_
    rintro e u' w'' ⟨rfl, rfl, rfl⟩
    have P7 := put7 HE.out.1 (.int .i64 k) (.int .i64 i) (.int .i64 uu) (.int .i64 c) (.int .i64 n) (.slice a5 cs.length c5') (.slice a6 ns.length c6')
    have oth : ∀ q, q ≠ w.heap.size → (((((((w1.setCell ⟨w.heap.size, 0, none⟩ (.int .i64 k)).setCell ⟨w.heap.size, 1, none⟩ (.int .i64 i)).setCell ⟨w.heap.size, 2, none⟩ (.int .i64 uu)).setCell ⟨w.heap.size, 3, none⟩ (.int .i64 c)).setCell ⟨w.heap.size, 4, none⟩ (.int .i64 n)).setCell ⟨w.heap.size, 5, none⟩ (.slice a5 cs.length c5')).setCell ⟨w.heap.size, 6, none⟩ (.slice a6 ns.length c6')).heap[q]? = w1.heap[q]? := fun q hq => by
      rw [heap_setCell_other _ _ _ _ hq, heap_setCell_other _ _ _ _ hq, heap_setCell_other _ _ _ _ hq, heap_setCell_other _ _ _ _ hq, heap_setCell_other _ _ _ _ hq, heap_setCell_other _ _ _ _ hq, heap_setCell_other _ _ _ _ hq]
    have P9 := put9 P7 ((oth _ (by omega)).trans HE.out.2.1) ((oth _ (by omega)).trans HE.out.2.2) (.int .i64 k) (.int .i64 i) (.int .i64 uu) (.int .i64 c) (.int .i64 n) (.slice a5 cs.length c5') (.slice a6 ns.length c6') (.int .i64 (nx : Int)) (.bool true)
    refine ⟨.tuple #[.agg #[.int .i64 k, .int .i64 i, .int .i64 uu, .int .i64 c, .int .i64 n, .slice a5 cs.length c5', .slice a6 ns.length c6'], .int .i64 (nx : Int), .bool true], results_three Tryd.results39 _ _ _ rfl rfl rfl (load7d P9.1) (loadIntd P9.2.1) (loadBoold P9.2.2), ⟨_, rfl, _, _, rfl, ?_, ?_, HNE.out⟩, ?_⟩
    · exact own_drew (own_put9 (own_put7 (OwnC.mono (b' := w.heap.size + 1 + 1 + 1) H5.out (by simp)) (by omega) _ _ _ _ _ _ _) (by omega) _ _ _ _ _ _ _ _ _) |> fun h => OwnC.mono h (by omega)
    · exact own_drew (own_put9 (own_put7 (OwnN.mono (b' := w.heap.size + 1 + 1 + 1) H6.out (by simp)) (by omega) _ _ _ _ _ _ _) (by omega) _ _ _ _ _ _ _ _ _) |> fun h => OwnN.mono h (by omega)
    · exact (below_put9 (below_put7 HB.out (Nat.le_refl _) _ _ _ _ _ _ _) (Nat.le_refl _) _ _ _ _ _ _ _ _ _).drew
  · go_wp2
    refine leaves_cons (f := 65) (args := #[.pointer (some ⟨w.heap.size, 0, none⟩), .pointer (some ⟨w.heap.size + 1, 0, none⟩), .pointer (some ⟨w.heap.size + 1 + 1, 0, none⟩)]) (by simp) (by simp [go_sem]) ?_
    refine (catchPanicM _ _ _ _ _ _ _ _ _ _ _ _ _ _ (by omega) HE.out.1 HE.out.2.1 HE.out.2.2).mono ?_
    rintro e u' w'' ⟨rfl, rfl, rfl⟩
    have hsz : w.heap.size + 1 + 1 < w1.heap.size := by omega
    have P9 := put9 ((Below.heap_alloc w1 (.cells #[.int .i64 0, .int .i64 0, .int .i64 0, .int .i64 0, .int .i64 0, .slice none 0 0, .slice none 0 0] 27) _ (by omega)).trans HE.out.1) ((Below.heap_alloc w1 _ _ (by omega)).trans HE.out.2.1) ((Below.heap_alloc w1 _ _ (by omega)).trans HE.out.2.2) (.int .i64 0) (.int .i64 0) (.int .i64 0) (.int .i64 0) (.int .i64 0) (.slice none 0 0) (.slice none 0 0) (.int .i64 0) (.bool false)
    exact ⟨.tuple #[zeroM, .int .i64 0, .bool false], results_three Tryd.results39 _ _ _ rfl rfl rfl (load7 P9.1) (loadInt P9.2.1) (loadBool P9.2.2), rfl, below_put9 (HB.out.alloc HB.out.size _) (Nat.le_refl _) _ _ _ _ _ _ _ _ _⟩
end Go.Proofs.YtbkhlaiifbdfoaaDoor
/-
  What MsgOf does, in the program.
-/
namespace Go.Proofs.YtbkhlaiifbdfoaaDoor
open Go.RowKit

def M0 : M := ⟨0, 0, 0, 0, 0, [], []⟩
/-- What MsgOf answers. -/
def ansOf (b : Nat) (r : Option M) (e : Ending) (w' : World) : Prop := ∃ u, e = .returned (.tuple #[u, .bool r.isSome]) ∧ RowM b w' u (r.getD M0)

theorem rowM_zero (b : Nat) (w : World) : RowM b w zeroM M0 := ⟨_, _, rfl, World.ownsRow_nil _ _ _ _, World.ownsRow_nil _ _ _ _, fun q hq => by cases hq⟩
theorem RowM.mono {b b' : Nat} {w : World} {u : Value} {m : M} (h : RowM b w u m) (hb : b' ≤ b) : RowM b' w u m := by
  obtain ⟨v5, v6, rfl, h5, h6, hn⟩ := h
  exact ⟨v5, v6, rfl, h5.mono hb, h6.mono hb, hn⟩

theorem mOf_none {zs : List Int} (h : rMsg zs 0 = none) : mOf zs = none := by unfold mOf; rw [h]; rfl
theorem mOf_end {zs : List Int} {m : M} {e : Nat} (h : rMsg zs 0 = some (m, e)) (he : e ≠ zs.length) : mOf zs = none := by
  unfold mOf; rw [h]; simp only [Option.bind_some]; rw [if_neg (fun hc => he hc.1)]
theorem mOf_bad {zs : List Int} {m : M} {e : Nat} (h : rMsg zs 0 = some (m, e)) (hb : m.ok = false) : mOf zs = none := by
  unfold mOf; rw [h]; simp only [Option.bind_some]; rw [if_neg (fun hc => by rw [hb] at hc; cases hc.2)]
theorem mOf_some {zs : List Int} {m : M} (h : rMsg zs 0 = some (m, zs.length)) (hb : m.ok = true) : mOf zs = some m := by
  unfold mOf; rw [h]; simp [hb]

theorem readMsgOf (w : World) (a : Option Addr) (len cap : Nat) (zs : List Int) (t : TypeId) (v : Value) (h0 : 0 < w.heap.size) (hin : In w w.heap.size a len zs) (hE : Err w t v) :
    Calls Tryd.prog 39 #[.slice a len cap, .int .i64 0, .func (.func 40) #[] #[]] w fun e w' => ansM w.heap.size (rMsg zs 0) e w' ∧ Below w.heap.size w w' :=
  readMsg w a len cap t v (rMsg zs 0) (fun W hb hp => rdMsg cap ⟨hin.low hb (Nat.le_refl _), Nat.le_add_right _ 3, by omega, hE.low hb h0, hp⟩)

theorem list_lens {α : Type} {f : Nat → Option (α × Nat)} : ∀ (n k e : Nat) (xs : List α), rList f n k = some (xs, e) → xs.length = n
  | 0, k, e, xs, h => by
    simp only [rList, Option.some.injEq, Prod.mk.injEq] at h
    rw [← h.1]; rfl
  | n + 1, k, e, xs, h => by
    rw [rList] at h
    obtain ⟨⟨x, kx⟩, hx, h⟩ := Option.bind_eq_some_iff.1 h
    obtain ⟨⟨ys, ky⟩, hy, h⟩ := Option.bind_eq_some_iff.1 h
    simp only [Option.some.injEq, Prod.mk.injEq] at h
    rw [← h.1, List.length_cons, list_lens n kx ky ys hy]
theorem rMsg_lens {zs : List Int} {m : M} {p e : Nat} (h : rMsg zs p = some (m, e)) : m.cs.length ≤ 1048576 ∧ m.ns.length ≤ 1048576 := by
  unfold rMsg at h
  obtain ⟨_, _, h⟩ := Option.bind_eq_some_iff.1 h
  obtain ⟨_, _, h⟩ := Option.bind_eq_some_iff.1 h
  obtain ⟨_, _, h⟩ := Option.bind_eq_some_iff.1 h
  obtain ⟨_, _, h⟩ := Option.bind_eq_some_iff.1 h
  obtain ⟨_, _, h⟩ := Option.bind_eq_some_iff.1 h
  obtain ⟨⟨cs, k5⟩, h5, h⟩ := Option.bind_eq_some_iff.1 h
  obtain ⟨⟨ns, k6⟩, h6, h⟩ := Option.bind_eq_some_iff.1 h
  simp only [Option.some.injEq, Prod.mk.injEq] at h
  obtain ⟨rfl, rfl⟩ := h
  unfold rMany at h5 h6
  obtain ⟨⟨n5, _⟩, _, h5⟩ := Option.bind_eq_some_iff.1 h5
  obtain ⟨⟨n6, _⟩, _, h6⟩ := Option.bind_eq_some_iff.1 h6
  simp only at h5 h6 ⊢
  split at h5
  · cases h5
  · split at h6
    · cases h6
    · have e5 := list_lens _ _ _ _ h5
      have e6 := list_lens _ _ _ _ h6
      exact ⟨by omega, by omega⟩

end Go.Proofs.YtbkhlaiifbdfoaaDoor
/-
  What heldCellS, heldNoteS and heldMsg answer of a message whose rows are marked.
-/
namespace Go.Proofs.YtbkhlaiifbdfoaaDoor
open Go.RowKit

theorem ownC_shape {w : World} {b : Nat} {v : Value} {cs : List (Int × Bool × Int)} (h : OwnC w b v cs) : ∃ a c, v = .slice a cs.length c := by
  rcases h.2 with ⟨rfl, h0⟩ | ⟨g, c, _, rfl, _⟩
  · exact ⟨_, _, by rw [h0]⟩
  · exact ⟨_, _, rfl⟩
theorem ownN_shape {w : World} {b : Nat} {v : Value} {ns : List (Int × Int)} (h : OwnN w b v ns) : ∃ a c, v = .slice a ns.length c := by
  rcases h.2 with ⟨rfl, h0⟩ | ⟨g, c, _, rfl, _⟩
  · exact ⟨_, _, by rw [h0]⟩
  · exact ⟨_, _, rfl⟩
set_option maxRecDepth 100000 in
set_option maxHeartbeats 2000000 in
theorem heldCells (w : World) (b n : Nat) (k : Int) (v : Value) (h : OwnC w b v (marksC k n)) (hk0 : 0 ≤ k) (hk : k ≤ 100000000) (hl : n ≤ 1048576) :
    Calls Tryd.prog 61 #[v, .int .i64 k] w fun e w' => e = .returned (.int .i64 (k + 3 * (n : Int))) ∧ w' = w := by
  have HO := hide h
  obtain ⟨a, c, rfl⟩ := ownC_shape h
  rw [marksC_len] at HO ⊢
  clear h
  go_enter Tryd.func61, Tryd.ntmps61
  go_wp2
  go_loopw [1, 5] (fun q i wr => ∃ j : Nat, j ≤ n ∧ q = .int .i64 (k + 3 * (j : Int)) ∧ i = .int .i64 (j : Int) ∧ wr = w) (fun _ i _ => n - (intOf i).toNat)
  case atStart => exact ⟨0, Nat.zero_le _, by simp, rfl, rfl⟩
  case round =>
    obtain ⟨j, hj, rfl, rfl, rfl⟩ := hrel
    by_cases hlt : j < n
    · obtain ⟨g, rfl⟩ : ∃ g, a = some ⟨g, 0, none⟩ := by
        rcases HO.out.2 with ⟨e, h1⟩ | ⟨g, c', _, e, _⟩
        · rw [marksC_len] at h1; omega
        · simp only [Value.slice.injEq] at e; exact ⟨g, e.1⟩
      have hrow := HO.out
      unfold OwnC at hrow
      rw [marksC_len] at hrow
      have fc : ∀ r, r < 3 → wr.cell? ⟨g, j * 3 + r, none⟩ = (cellC (markC1 (k + 3 * (j : Int))))[r]? := fun r hr => by
        rw [World.ownsRow.cellAt hrow _ (by omega), flat_get cellC 3 cellC_len _ (0, false, 0) j r (by rw [marksC_len]; exact hlt) hr, marksC_get k n j hlt]
      have d0 := fc 0 (by omega)
      have d1 := fc 1 (by omega)
      have d2 := fc 2 (by omega)
      rw [Nat.add_zero] at d0
      simp only [cellC, markC1, List.getElem?_cons_zero, List.getElem?_cons_succ] at d0 d1 d2
      have n0 : ((k + 3 * (j : Int)) != (k + 3 * (j : Int))) = false := by simp
      have n1 : (((k + 3 * (j : Int) + 1) % 3 == 0) != ((k + 3 * (j : Int) + 1) % 3 == 0)) = false := by simp
      have n2 : ((k + 3 * (j : Int) + 1 + 1) != (k + 3 * (j : Int) + 1 + 1)) = false := by simp
      clear hrow fc
      go_wp2
      exact ⟨⟨j + 1, by omega, by go_num, by go_num, trivial⟩, by simp [intOf]; omega⟩
    · obtain rfl : j = n := by omega
      go_wp2
      go_ret
      exact ⟨rfl, rfl⟩

set_option maxRecDepth 100000 in
set_option maxHeartbeats 2000000 in
theorem heldNotes (w : World) (b n : Nat) (k : Int) (v : Value) (h : OwnN w b v (marksN k n)) (hk0 : 0 ≤ k) (hk : k ≤ 100000000) (hl : n ≤ 1048576) :
    Calls Tryd.prog 62 #[v, .int .i64 k] w fun e w' => e = .returned (.int .i64 (k + 2 * (n : Int))) ∧ w' = w := by
  have HO := hide h
  obtain ⟨a, c, rfl⟩ := ownN_shape h
  rw [marksN_len] at HO ⊢
  clear h
  go_enter Tryd.func62, Tryd.ntmps62
  go_wp2
  go_loopw [1, 5] (fun q i wr => ∃ j : Nat, j ≤ n ∧ q = .int .i64 (k + 2 * (j : Int)) ∧ i = .int .i64 (j : Int) ∧ wr = w) (fun _ i _ => n - (intOf i).toNat)
  case atStart => exact ⟨0, Nat.zero_le _, by simp, rfl, rfl⟩
  case round =>
    obtain ⟨j, hj, rfl, rfl, rfl⟩ := hrel
    by_cases hlt : j < n
    · obtain ⟨g, rfl⟩ : ∃ g, a = some ⟨g, 0, none⟩ := by
        rcases HO.out.2 with ⟨e, h1⟩ | ⟨g, c', _, e, _⟩
        · rw [marksN_len] at h1; omega
        · simp only [Value.slice.injEq] at e; exact ⟨g, e.1⟩
      have hrow := HO.out
      unfold OwnN at hrow
      rw [marksN_len] at hrow
      have fc : ∀ r, r < 2 → wr.cell? ⟨g, j * 2 + r, none⟩ = (noteC (markN1 (k + 2 * (j : Int))))[r]? := fun r hr => by
        rw [World.ownsRow.cellAt hrow _ (by omega), flat_get noteC 2 noteC_len _ (0, 0) j r (by rw [marksN_len]; exact hlt) hr, marksN_get k n j hlt]
      have d0 := fc 0 (by omega)
      have d1 := fc 1 (by omega)
      rw [Nat.add_zero] at d0
      simp only [noteC, markN1, List.getElem?_cons_zero, List.getElem?_cons_succ] at d0 d1
      have n0 : ((k + 2 * (j : Int)) != (k + 2 * (j : Int))) = false := by simp
      have n1 : ((k + 2 * (j : Int) + 1) != (k + 2 * (j : Int) + 1)) = false := by simp
      clear hrow fc
      go_wp2
      exact ⟨⟨j + 1, by omega, by go_num, by go_num, trivial⟩, by simp [intOf]; omega⟩
    · obtain rfl : j = n := by omega
      go_wp2
      go_ret
      exact ⟨rfl, rfl⟩

set_option maxRecDepth 100000 in
set_option maxHeartbeats 2000000 in
theorem heldMsg (w : World) (b5 b6 nc nn : Nat) (k i u c n : Int) (v5 v6 : Value) (h5 : OwnC w b5 v5 (marksC 1 nc)) (h6 : OwnN w b6 v6 (marksN (1 + 3 * (nc : Int)) nn)) (hmc : nc ≤ 1048576) (hmn : nn ≤ 1048576) :
    Calls Tryd.prog 27 #[msgV k i u c n v5 v6, .int .i64 1] w fun e w' => e = .returned (.int .i64 (1 + 3 * (nc : Int) + 2 * (nn : Int))) ∧ Below w.heap.size w w' := by
  have H5 := hide h5
  have H6 := hide h6
  obtain ⟨a5, c5, rfl⟩ := ownC_shape h5
  obtain ⟨a6, c6, rfl⟩ := ownN_shape h6
  rw [marksC_len] at H5 ⊢
  rw [marksN_len] at H6 ⊢
  clear h5 h6
  unfold msgV
  have bA := (Below.refl w.heap.size w).alloc (Nat.le_refl _) (.cells #[.int .i64 k, .int .i64 i, .int .i64 u, .int .i64 c, .int .i64 n, .slice a5 nc c5, .slice a6 nn c6] 27)
  have HX := hide (Box.new w #[.int .i64 k, .int .i64 i, .int .i64 u, .int .i64 c, .int .i64 n, .slice a5 nc c5, .slice a6 nn c6] 27)
  replace H5 := hide (H5.out.below bA)
  replace H6 := hide (H6.out.below bA)
  have HB := hide bA
  clear bA
  go_enter Tryd.func27, Tryd.ntmps27
  go_wp2_with fail
  refine (heldCells _ _ nc _ _ H5.out (by omega) (by omega) hmc).mono ?_
  rintro e w1 ⟨rfl, rfl⟩
  have f6 := HX.out 6 _ rfl
  go_wp2_with fail
  refine (heldNotes _ _ nn _ _ H6.out (by omega) (by omega) hmn).mono ?_
  rintro e w2 ⟨rfl, rfl⟩
  go_wp2
  go_ret
  exact ⟨rfl, HB.out⟩
end Go.Proofs.YtbkhlaiifbdfoaaDoor
/-
  Boxes; what MsgOf answers, opened.
-/
namespace Go.Proofs.YtbkhlaiifbdfoaaDoor
open Go.RowKit

def Bx (w : World) (g : Nat) (vs : Array Value) (T : TypeId) : Prop := w.heap[g]? = some (.cells vs T (0, 0))
theorem Bx.lt {w : World} {g : Nat} {vs : Array Value} {T : TypeId} (h : Bx w g vs T) : g < w.heap.size := (Array.getElem?_eq_some_iff.1 h).1
theorem Bx.below {w w' : World} {g : Nat} {vs : Array Value} {T : TypeId} (h : Bx w g vs T) (hb : Below w.heap.size w w') : Bx w' g vs T := (hb.block g h.lt).trans h
theorem Bx.new (w : World) (vs : Array Value) (T : TypeId) : Bx (w.alloc (.cells vs T)) w.heap.size vs T := heap_alloc_new w _
theorem Bx.kept {w w' : World} {g : Nat} {vs : Array Value} {T : TypeId} {row : Option Nat} (h : Bx w g vs T) (hg : w.grownBy w' row) (hne : row ≠ some g) : Bx w' g vs T := (hg.block g h.lt (fun e => hne e.symm)).trans h

/-- What MsgOf answers, with its parts named. -/
def AnsM (b : Nat) (m : M) (ok : Bool) (e : Ending) (w' : World) : Prop :=
  ∃ a5 c5 a6 c6, e = .returned (.tuple #[.agg #[.int .i64 m.k, .int .i64 m.i, .int .i64 m.u, .int .i64 m.c, .int .i64 m.n, .slice a5 m.cs.length c5, .slice a6 m.ns.length c6], .bool ok]) ∧ OwnC w' b (.slice a5 m.cs.length c5) m.cs ∧ OwnN w' b (.slice a6 m.ns.length c6) m.ns ∧
    (∀ q, (Value.slice a5 m.cs.length c5).ownBlock = some q → ∀ r, (Value.slice a6 m.ns.length c6).ownBlock = some r → q < r)
theorem ansM_of {b : Nat} {r : Option M} {e : Ending} {w' : World} (h : ansOf b r e w') : AnsM b (r.getD M0) r.isSome e w' := by
  obtain ⟨u, rfl, v5, v6, rfl, o5, o6, hne⟩ := h
  obtain ⟨a5, c5, rfl⟩ := ownC_shape o5
  obtain ⟨a6, c6, rfl⟩ := ownN_shape o6
  exact ⟨a5, c5, a6, c6, rfl, o5, o6, hne⟩
theorem mOf_lens {zs : List Int} : ((mOf zs).getD M0).cs.length ≤ 1048576 ∧ ((mOf zs).getD M0).ns.length ≤ 1048576 := by
  cases h : mOf zs with
  | none => exact ⟨Nat.zero_le _, Nat.zero_le _⟩
  | some m =>
    unfold mOf at h
    obtain ⟨⟨m', e⟩, h1, h2⟩ := Option.bind_eq_some_iff.1 h
    simp only at h2
    split at h2
    · cases h2
      exact rMsg_lens h1
    · cases h2
end Go.Proofs.YtbkhlaiifbdfoaaDoor
/-
  What MsgOf does, in the program.
-/
namespace Go.Proofs.YtbkhlaiifbdfoaaDoor
open Go.RowKit


set_option maxRecDepth 100000 in
set_option maxHeartbeats 8000000 in
theorem msgOfImpl (w : World) (a : Option Addr) (len cap : Nat) (zs : List Int) (t : TypeId) (v : Value) (h0 : 0 < w.heap.size) (hin : In w w.heap.size a len zs) (hE : Err w t v) :
    Calls Tryd.prog 10 #[.slice a len cap] w fun e w' => ansOf w.heap.size (mOf zs) e w' ∧ Below w.heap.size w w' := by
  have hl := hin.1
  have hm := hin.2.1
  have bA := (Below.refl w.heap.size w).alloc (Nat.le_refl _) (.cells #[.int .i64 0, .int .i64 0, .int .i64 0, .int .i64 0, .int .i64 0, .slice none 0 0, .slice none 0 0] 27)
  have E0 := hide (heap_alloc_new w (.cells #[.int .i64 0, .int .i64 0, .int .i64 0, .int .i64 0, .int .i64 0, .slice none 0 0, .slice none 0 0] 27))
  have HB := hide bA
  have HQ := hide (readMsgOf (w.alloc (.cells #[.int .i64 0, .int .i64 0, .int .i64 0, .int .i64 0, .int .i64 0, .slice none 0 0, .slice none 0 0] 27)) a len cap zs t v (by simp) (hin.at bA) (hE.low bA h0))
  clear bA hin hE
  go_enter Tryd.func10, Tryd.ntmps10
  go_wp2_with fail
  refine (unhide HQ).mono ?_
  rintro e w1 ⟨hA, b1⟩
  replace E0 := hide ((b1.block w.heap.size (by simp)).trans E0.out)
  have hs1 := b1.size
  simp only [World.size_alloc] at hs1
  replace HB := hide (HB.out.trans (b1.mono HB.out.size))
  clear b1 HQ
  cases hr : rMsg zs 0 with
  | none =>
    have HN := hide (mOf_none hr)
    rw [hr] at hA
    have hA' : e = .returned (.tuple #[.agg #[.int .i64 0, .int .i64 0, .int .i64 0, .int .i64 0, .int .i64 0, .slice none 0 0, .slice none 0 0], .int .i64 0, .bool false]) := hA
    subst hA'
    clear hA
    go_upto_region 3 with fail
    have bC := (Below.refl w1.heap.size w1).alloc (Nat.le_refl _) (.cells #[.int .i64 0, .int .i64 0, .int .i64 0, .int .i64 0, .int .i64 0, .slice none 0 0, .slice none 0 0] 27)
    replace E0 := hide ((bC.block w.heap.size (by omega)).trans E0.out)
    replace HB := hide (HB.out.trans (bC.mono HB.out.size))
    clear bC hs1
    generalize w1.alloc (.cells #[.int .i64 0, .int .i64 0, .int .i64 0, .int .i64 0, .int .i64 0, .slice none 0 0, .slice none 0 0] 27) = W1 at *
    have X := box_of E0.out
    have HX := hide X.1
    have zz := X.2
    have c0 := HX.out 0 _ rfl
    have c1 := HX.out 1 _ rfl
    have c2 := HX.out 2 _ rfl
    have c3 := HX.out 3 _ rfl
    have c4 := HX.out 4 _ rfl
    have c5 := HX.out 5 _ rfl
    have c6 := HX.out 6 _ rfl
    clear X hr
    go_wp2
    exact bodyPost_ret (v := .tuple #[zeroM, .bool false]) (results_ct Tryd.results10 _ _ _ rfl (load7 (put7 E0.out _ _ _ _ _ _ _))) rfl ⟨⟨_, by rw [HN.out]; rfl, by rw [HN.out]; exact rowM_zero _ _⟩, below_put7 HB.out (Nat.le_refl _) _ _ _ _ _ _ _⟩
  | some r =>
    obtain ⟨⟨k, i, u, c, n, cs, ns⟩, nx⟩ := r
    rw [hr] at hA
    obtain ⟨uu, rfl, v5, v6, rfl, o5, o6, hne⟩ := hA
    obtain ⟨hmc, hmn⟩ := rMsg_lens hr
    simp only at o5 o6 hne hmc hmn
    have H5 := hide o5
    have H6 := hide o6
    have HNE := hide hne
    obtain ⟨a5, d5, rfl, _⟩ := cells_at (o5.rd (Nat.le_refl _))
    obtain ⟨a6, d6, rfl, _⟩ := notes_at (o6.rd (Nat.le_refl _))
    clear o5 o6 hne
    unfold msgV
    simp only
    have bC := (Below.refl w1.heap.size w1).alloc (Nat.le_refl _) (.cells #[.int .i64 k, .int .i64 i, .int .i64 u, .int .i64 c, .int .i64 n, .slice a5 cs.length d5, .slice a6 ns.length d6] 27)
    have E1 := hide (heap_alloc_new w1 (.cells #[.int .i64 k, .int .i64 i, .int .i64 u, .int .i64 c, .int .i64 n, .slice a5 cs.length d5, .slice a6 ns.length d6] 27))
    replace E0 := hide ((bC.block w.heap.size (by omega)).trans E0.out)
    replace H5 := hide (H5.out.below bC)
    replace H6 := hide (H6.out.below bC)
    replace HB := hide (HB.out.trans (bC.mono HB.out.size))
    clear bC
    by_cases he : nx = len
    · have hne : ((nx : Int) != (len : Int)) = false := by rw [he]; simp
      subst he
      go_upto_region 2 with fail
      generalize w1.alloc (.cells #[.int .i64 k, .int .i64 i, .int .i64 u, .int .i64 c, .int .i64 n, .slice a5 cs.length d5, .slice a6 ns.length d6] 27) = W1 at *
      have HX1 := hide (box_of E1.out).1
      have g0 := HX1.out 0 _ rfl
      have g1 := HX1.out 1 _ rfl
      have g2 := HX1.out 2 _ rfl
      have g3 := HX1.out 3 _ rfl
      have g4 := HX1.out 4 _ rfl
      have g5 := HX1.out 5 _ rfl
      have g6 := HX1.out 6 _ rfl
      go_wp2_with fail
      refine (msgImpl _ k i u c n _ _ cs ns (H5.out.rd (Nat.le_refl _)) (H6.out.rd (Nat.le_refl _)) hmc hmn).mono ?_
      rintro e w2 ⟨rfl, b2⟩
      have hW1 : w1.heap.size < W1.heap.size := (Array.getElem?_eq_some_iff.1 E1.out).1
      replace E0 := hide ((b2.block w.heap.size (by omega)).trans E0.out)
      replace E1 := hide ((b2.block w1.heap.size hW1).trans E1.out)
      replace H5 := hide (H5.out.below b2)
      replace H6 := hide (H6.out.below b2)
      replace HB := hide (HB.out.trans (b2.mono HB.out.size))
      clear b2 g0 g1 g2 g3 g4 g5 g6 HX1
      have X := box_of E0.out
      have HX := hide X.1
      have zz := X.2
      have HX1 := hide (box_of E1.out).1
      clear X
      cases hm : mOk k i u c n cs ns with
      | false =>
        have HN := hide (mOf_bad (m := ⟨k, i, u, c, n, cs, ns⟩) hr hm)
        clear hr
        have c0 := HX.out 0 _ rfl
        have c1 := HX.out 1 _ rfl
        have c2 := HX.out 2 _ rfl
        have c3 := HX.out 3 _ rfl
        have c4 := HX.out 4 _ rfl
        have c5 := HX.out 5 _ rfl
        have c6 := HX.out 6 _ rfl
        go_wp2
        exact bodyPost_ret (v := .tuple #[zeroM, .bool false]) (results_ct Tryd.results10 _ _ _ rfl (load7 (put7 E0.out _ _ _ _ _ _ _))) rfl ⟨⟨_, by rw [HN.out]; rfl, by rw [HN.out]; exact rowM_zero _ _⟩, below_put7 HB.out (Nat.le_refl _) _ _ _ _ _ _ _⟩
      | true =>
        have HN := hide (mOf_some (m := ⟨k, i, u, c, n, cs, ns⟩) (by rw [hr, hl]) hm)
        clear hr
        have c0 := HX.out 0 _ rfl
        have c1 := HX.out 1 _ rfl
        have c2 := HX.out 2 _ rfl
        have c3 := HX.out 3 _ rfl
        have c4 := HX.out 4 _ rfl
        have c5 := HX.out 5 _ rfl
        have c6 := HX.out 6 _ rfl
        have g0 := HX1.out 0 _ rfl
        have g1 := HX1.out 1 _ rfl
        have g2 := HX1.out 2 _ rfl
        have g3 := HX1.out 3 _ rfl
        have g4 := HX1.out 4 _ rfl
        have g5 := HX1.out 5 _ rfl
        have g6 := HX1.out 6 _ rfl
        go_wp2
        refine bodyPost_ret (v := .tuple #[msgV k i u c n (.slice a5 cs.length d5) (.slice a6 ns.length d6), .bool true]) (results_ct Tryd.results10 _ _ _ rfl (load7 (put7 E0.out _ _ _ _ _ _ _))) rfl ⟨⟨_, by rw [HN.out]; rfl, ?_⟩, below_put7 HB.out (Nat.le_refl _) _ _ _ _ _ _ _⟩
        rw [HN.out]
        refine ⟨_, _, rfl, ?_, ?_, HNE.out⟩
        · exact OwnC.mono (own_put7 (OwnC.mono (b' := w.heap.size + 1) H5.out (by simp)) (Nat.lt_succ_self _) _ _ _ _ _ _ _) (Nat.le_succ _)
        · exact OwnN.mono (own_put7 (OwnN.mono (b' := w.heap.size + 1) H6.out (by simp)) (Nat.lt_succ_self _) _ _ _ _ _ _ _) (Nat.le_succ _)
    · have hne : ((nx : Int) != (len : Int)) = true := by rw [bne_iff_ne]; omega
      have HN := hide (mOf_end hr (by omega))
      clear he hr
      go_upto_region 3 with fail
      generalize w1.alloc (.cells #[.int .i64 k, .int .i64 i, .int .i64 u, .int .i64 c, .int .i64 n, .slice a5 cs.length d5, .slice a6 ns.length d6] 27) = W1 at *
      have X := box_of E0.out
      have HX := hide X.1
      have zz := X.2
      have c0 := HX.out 0 _ rfl
      have c1 := HX.out 1 _ rfl
      have c2 := HX.out 2 _ rfl
      have c3 := HX.out 3 _ rfl
      have c4 := HX.out 4 _ rfl
      have c5 := HX.out 5 _ rfl
      have c6 := HX.out 6 _ rfl
      clear X
      go_wp2
      exact bodyPost_ret (v := .tuple #[zeroM, .bool false]) (results_ct Tryd.results10 _ _ _ rfl (load7 (put7 E0.out _ _ _ _ _ _ _))) rfl ⟨⟨_, by rw [HN.out]; rfl, by rw [HN.out]; exact rowM_zero _ _⟩, below_put7 HB.out (Nat.le_refl _) _ _ _ _ _ _ _⟩
end Go.Proofs.YtbkhlaiifbdfoaaDoor
