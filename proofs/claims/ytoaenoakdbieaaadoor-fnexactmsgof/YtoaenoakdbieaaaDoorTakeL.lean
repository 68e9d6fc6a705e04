/-
  What takeList does with cells and with notes.
-/
import Derived.Test.YtoaenoakdbieaaaDoorTakeD
namespace Go.Proofs.YtoaenoakdbieaaaDoor
open Go.RowKit

theorem byt_of_in {w : World} {B len : Nat} {a : Option Addr} {zs : List Int} (h : In w B a len zs) : Byt zs := by
  intro z hz
  obtain ⟨j, hj, rfl⟩ := List.getElem_of_mem hz
  have hl := h.1
  have := h.2.2.1 j (by omega)
  simpa [hj] using this

/-- What is taken, in new memory. -/
def tookL {α : Type} (Row : World → Value → α → Prop) (w : World) (p : Nat) (t : TypeId) (v : Value) (r : Option (α × Nat)) (e : Ending) (w' : World) : Prop :=
  ((∃ x nx u, r = some (x, nx) ∧ e = .returned u ∧ Row w' u x ∧ w'.heap[p]? = some (.cells #[.int .i64 ((nx : Nat) : Int)] 3 (0, 0))) ∨
   (r = none ∧ e = .panicked [{ v := .iface t v, recovered := false }])) ∧ w.grownBy w' (some p)

theorem app_Cell {w : World} {ops : Array Oper} {rest : List Oper} {o : Oper} {act : Act} {Q : Exit → Act → World → Prop} (hgd : o.guard = none) (s x : Operand)
    (ho : o.op = .call { callee := .builtin .append, args := #[s, x], argTypes := #[24, 24] }) (base g c : Nat) (v : Value) (xs : List (Int × Bool × Int)) (y : Int × Bool × Int) (hs : act.eval s = v) (hown : OwnC w base v xs)
    (hx : act.eval x = .slice (some ⟨g, 0, none⟩) 1 c) (hb : Box w g (cellC y)) (hsm : xs.length ≤ 2000000) (hbase : base ≤ w.heap.size)
    (h : ∀ v' w', OwnC w' base v' (xs ++ [y]) → w.grownBy w' v.ownBlock → wpList Tryd.prog ops Q rest (act.put o.dst v') w') :
    wpList Tryd.prog ops Q (o :: rest) act w := by
  obtain ⟨i0, hi, hz0, hz1, hz2⟩ := info_parts Tryd.infoCell
  refine wpList_append_own w hgd s x 24 ho base 74 i0 (.agg #[.int .i64 0, .bool false, .int .i64 0]) 3 24 Tryd.underlying24 hi hz0 hz1 hz2 rfl (by decide) v xs.length (xs.flatMap cellC) hs hown ⟨g, 0, none⟩ 1 c (cellC y) hx rfl (fun j u hu => by rw [Addr.add_lit, Nat.zero_add]; exact hb j u hu) (fun u hu => by obtain ⟨x, rb, y⟩ := y; simp [cellC] at hu; rcases hu with rfl | rfl | rfl <;> rfl) (by unfold maxLen; omega) (by omega) hbase ?_
  intro v' w' ho' hg' _
  refine h v' w' ?_ hg'
  unfold OwnC
  rw [List.length_append, List.flatMap_append]
  simpa using ho'

set_option maxRecDepth 100000 in
set_option maxHeartbeats 4000000 in
theorem rdListCell {w : World} {B : Nat} {a : Option Addr} {len : Nat} {zs : List Int} {p k : Nat} {t : TypeId} {v : Value} (cap : Nat) (h : Rdr w B a len zs p k t v) :
    Calls Tryd.prog 104 #[.slice a len cap, .pointer (some ⟨p, 0, none⟩), .int .i64 8, .func (.func 105) #[] #[]] w (tookL (fun w' v xs => OwnC w' w.heap.size v xs) w p t v (rMany zs (rCell zs) 8 k)) := by
  have hlt := h.lt
  have HZ := hide (byt_of_in h.inp)
  have HR := hide h
  clear h
  generalize hGG : rMany zs (rCell zs) 8 k = G
  have HGG := hide hGG
  clear hGG
  go_enter Tryd.func104, Tryd.ntmps104
  go_wp2_with fail
  refine (rdNum cap HR.out).mono ?_
  rintro e w1 ⟨hres, g1⟩
  have HG := hide g1
  rcases hres with ⟨n, k1, hr1, rfl, hp1⟩ | ⟨hr1, rfl⟩
  · have HR1 := hide (HR.out.next g1 hp1)
    have hE : w1.cell? ⟨0, 0, none⟩ = some (.iface t v) := HR1.out.err
    have hn0 := (num_back HZ.out hr1).1
    unfold rMany at HGG
    rw [hr1] at HGG
    clear g1 hp1 hr1 HR
    by_cases hn : 8 < n
    · have HN : Hid (G = none) := hide (by rw [← HGG.out]; simp [hn])
      clear HGG HR1
      go_wp2
      exact ⟨rfl, .inr ⟨HN.out, rfl⟩, HG.out⟩
    · have HN : Hid (G = rList (rCell zs) n.toNat k1) := hide (by rw [← HGG.out]; simp [hn])
      clear HGG hE
      obtain ⟨N, rfl⟩ := Int.eq_ofNat_of_zero_le hn0
      rw [Int.toNat_natCast] at HN
      have hs1 := HG.out.size
      go_wp2
      go_loopw [10, 19] (fun l i wr => ∃ (j kj : Nat) (xs : List (Int × Bool × Int)), j ≤ N ∧ i = .int .i64 (j : Int) ∧ xs.length = j ∧ Hid (Rdr wr B a len zs p kj t v) ∧ Hid (OwnC wr w.heap.size l xs) ∧ Hid (G = (rList (rCell zs) (N - j) kj).bind fun r => some (xs ++ r.1, r.2)) ∧ Hid (w.grownBy wr (some p))) (fun _ i _ => N - (intOf i).toNat)
      case atStart => exact ⟨0, k1, [], by omega, rfl, rfl, HR1, hide (World.ownsRow_nil _ _ _ _), hide (by rw [HN.out]; cases rList (rCell zs) N k1 <;> rfl), HG⟩
      case round =>
        clear HN HR1 HG
        obtain ⟨j, kj, xs, hj, rfl, hxl, HR1, HO, HN, HG⟩ := hrel
        by_cases hj' : j < N
        · go_wp2_with fail
          refine (rdCell cap HR1.out).mono ?_
          rintro e w2 ⟨hres, g2⟩
          have hle := HG.out.size
          rcases hres with ⟨z, k2, hr2, rfl, hp2⟩ | ⟨hr2, rfl⟩
          · have HR2 := hide (HR1.out.next g2 hp2)
            have HO2 := hide (HO.out.kept g2 (fun q hq e => by cases e; have := (HO.out.lt _ hq).1; omega))
            have HG2 := hide (grownBy_trans HG.out g2)
            have HN2 : Hid (G = (rList (rCell zs) (N - (j + 1)) k2).bind fun r => some (xs ++ [z] ++ r.1, r.2)) := hide (by
              rw [HN.out, show N - j = (N - (j + 1)) + 1 from by omega, rList, hr2]
              simp only [Option.bind_some, Option.bind_assoc]
              congr 1
              funext r
              simp)
            have hs2 := HG2.out.size
            clear g2 hp2 hr2 HR1 HO HN HG
            obtain ⟨x, rb, y⟩ := z
            unfold cellV
            simp only
            have HB := hide (Box.new w2 #[.int .i64 x, .bool rb, .int .i64 y] 74)
            have HOa : Hid (OwnC (w2.alloc (.cells #[.int .i64 x, .bool rb, .int .i64 y] 74)) w.heap.size _ xs) := hide (OwnC.below HO2.out ((Below.refl _ _).alloc (Nat.le_refl _) _))
            go_wp2_with (at_builtin; refine app_Cell rfl _ _ rfl w.heap.size w2.heap.size 1 _ xs (x, rb, y) rfl HOa.out rfl HB.out (by omega) (by simp; omega) ?_; intro v3 w3 o3 g3; have HO3 := hide o3; have HR3 := hide ((HR2.out.alloc _).far g3 (fun q hq => by have := (HO2.out.lt q hq).1; omega)); have HG3 := hide (grown_step (grownBy_trans HG2.out (World.grownBy_alloc w2 (.cells #[.int .i64 x, .bool rb, .int .i64 y] 74) (some p))) g3 (fun q hq => .inr (HO2.out.lt q hq).1)); clear o3 g3)
            exact ⟨⟨j + 1, k2, xs ++ [(x, rb, y)], by omega, by go_num, by simp [hxl], HR3, HO3, HN2, HG3⟩, by simp [intOf]; omega⟩
          · have HF : Hid (G = none) := hide (by rw [HN.out, show N - j = (N - (j + 1)) + 1 from by omega, rList, hr2]; rfl)
            have HG2 := hide (grownBy_trans HG.out g2)
            clear g2 hr2
            go_wp2
            exact ⟨rfl, .inr ⟨HF.out, rfl⟩, HG2.out⟩
        · obtain rfl : j = N := by omega
          have HF : Hid (G = some (xs, kj)) := hide (by rw [HN.out, Nat.sub_self, rList]; simp)
          have HP := hide HR1.out.pl
          go_wp2
          go_ret
          exact ⟨.inl ⟨_, _, _, HF.out, rfl, HO.out, HP.out⟩, HG.out⟩
  · have HN : Hid (G = none) := hide (by rw [← HGG.out]; unfold rMany; rw [hr1]; rfl)
    clear g1 hr1
    go_wp2
    exact ⟨rfl, .inr ⟨HN.out, rfl⟩, HG.out⟩

theorem app_Note {w : World} {ops : Array Oper} {rest : List Oper} {o : Oper} {act : Act} {Q : Exit → Act → World → Prop} (hgd : o.guard = none) (s x : Operand)
    (ho : o.op = .call { callee := .builtin .append, args := #[s, x], argTypes := #[25, 25] }) (base g c : Nat) (v : Value) (xs : List (Int × Int)) (y : Int × Int) (hs : act.eval s = v) (hown : OwnN w base v xs)
    (hx : act.eval x = .slice (some ⟨g, 0, none⟩) 1 c) (hb : Box w g (noteC y)) (hsm : xs.length ≤ 2000000) (hbase : base ≤ w.heap.size)
    (h : ∀ v' w', OwnN w' base v' (xs ++ [y]) → w.grownBy w' v.ownBlock → wpList Tryd.prog ops Q rest (act.put o.dst v') w') :
    wpList Tryd.prog ops Q (o :: rest) act w := by
  obtain ⟨i0, hi, hz0, hz1, hz2⟩ := info_parts Tryd.infoNote
  refine wpList_append_own w hgd s x 25 ho base 77 i0 (.agg #[.int .i64 0, .int .i64 0]) 2 16 Tryd.underlying25 hi hz0 hz1 hz2 rfl (by decide) v xs.length (xs.flatMap noteC) hs hown ⟨g, 0, none⟩ 1 c (noteC y) hx rfl (fun j u hu => by rw [Addr.add_lit, Nat.zero_add]; exact hb j u hu) (fun u hu => by obtain ⟨x, y⟩ := y; simp [noteC] at hu; rcases hu with rfl | rfl <;> rfl) (by unfold maxLen; omega) (by omega) hbase ?_
  intro v' w' ho' hg' _
  refine h v' w' ?_ hg'
  unfold OwnN
  rw [List.length_append, List.flatMap_append]
  simpa using ho'

set_option maxRecDepth 100000 in
set_option maxHeartbeats 4000000 in
theorem rdListNote {w : World} {B : Nat} {a : Option Addr} {len : Nat} {zs : List Int} {p k : Nat} {t : TypeId} {v : Value} (cap : Nat) (h : Rdr w B a len zs p k t v) :
    Calls Tryd.prog 106 #[.slice a len cap, .pointer (some ⟨p, 0, none⟩), .int .i64 130, .func (.func 107) #[] #[]] w (tookL (fun w' v xs => OwnN w' w.heap.size v xs) w p t v (rMany zs (rNote zs) 130 k)) := by
  have hlt := h.lt
  have HZ := hide (byt_of_in h.inp)
  have HR := hide h
  clear h
  generalize hGG : rMany zs (rNote zs) 130 k = G
  have HGG := hide hGG
  clear hGG
  go_enter Tryd.func106, Tryd.ntmps106
  go_wp2_with fail
  refine (rdNum cap HR.out).mono ?_
  rintro e w1 ⟨hres, g1⟩
  have HG := hide g1
  rcases hres with ⟨n, k1, hr1, rfl, hp1⟩ | ⟨hr1, rfl⟩
  · have HR1 := hide (HR.out.next g1 hp1)
    have hE : w1.cell? ⟨0, 0, none⟩ = some (.iface t v) := HR1.out.err
    have hn0 := (num_back HZ.out hr1).1
    unfold rMany at HGG
    rw [hr1] at HGG
    clear g1 hp1 hr1 HR
    by_cases hn : 130 < n
    · have HN : Hid (G = none) := hide (by rw [← HGG.out]; simp [hn])
      clear HGG HR1
      go_wp2
      exact ⟨rfl, .inr ⟨HN.out, rfl⟩, HG.out⟩
    · have HN : Hid (G = rList (rNote zs) n.toNat k1) := hide (by rw [← HGG.out]; simp [hn])
      clear HGG hE
      obtain ⟨N, rfl⟩ := Int.eq_ofNat_of_zero_le hn0
      rw [Int.toNat_natCast] at HN
      have hs1 := HG.out.size
      go_wp2
      go_loopw [10, 19] (fun l i wr => ∃ (j kj : Nat) (xs : List (Int × Int)), j ≤ N ∧ i = .int .i64 (j : Int) ∧ xs.length = j ∧ Hid (Rdr wr B a len zs p kj t v) ∧ Hid (OwnN wr w.heap.size l xs) ∧ Hid (G = (rList (rNote zs) (N - j) kj).bind fun r => some (xs ++ r.1, r.2)) ∧ Hid (w.grownBy wr (some p))) (fun _ i _ => N - (intOf i).toNat)
      case atStart => exact ⟨0, k1, [], by omega, rfl, rfl, HR1, hide (World.ownsRow_nil _ _ _ _), hide (by rw [HN.out]; cases rList (rNote zs) N k1 <;> rfl), HG⟩
      case round =>
        clear HN HR1 HG
        obtain ⟨j, kj, xs, hj, rfl, hxl, HR1, HO, HN, HG⟩ := hrel
        by_cases hj' : j < N
        · go_wp2_with fail
          refine (rdNote cap HR1.out).mono ?_
          rintro e w2 ⟨hres, g2⟩
          have hle := HG.out.size
          rcases hres with ⟨z, k2, hr2, rfl, hp2⟩ | ⟨hr2, rfl⟩
          · have HR2 := hide (HR1.out.next g2 hp2)
            have HO2 := hide (HO.out.kept g2 (fun q hq e => by cases e; have := (HO.out.lt _ hq).1; omega))
            have HG2 := hide (grownBy_trans HG.out g2)
            have HN2 : Hid (G = (rList (rNote zs) (N - (j + 1)) k2).bind fun r => some (xs ++ [z] ++ r.1, r.2)) := hide (by
              rw [HN.out, show N - j = (N - (j + 1)) + 1 from by omega, rList, hr2]
              simp only [Option.bind_some, Option.bind_assoc]
              congr 1
              funext r
              simp)
            have hs2 := HG2.out.size
            clear g2 hp2 hr2 HR1 HO HN HG
            obtain ⟨x, y⟩ := z
            unfold noteV
            simp only
            have HB := hide (Box.new w2 #[.int .i64 x, .int .i64 y] 77)
            have HOa : Hid (OwnN (w2.alloc (.cells #[.int .i64 x, .int .i64 y] 77)) w.heap.size _ xs) := hide (OwnN.below HO2.out ((Below.refl _ _).alloc (Nat.le_refl _) _))
            go_wp2_with (at_builtin; refine app_Note rfl _ _ rfl w.heap.size w2.heap.size 1 _ xs (x, y) rfl HOa.out rfl HB.out (by omega) (by simp; omega) ?_; intro v3 w3 o3 g3; have HO3 := hide o3; have HR3 := hide ((HR2.out.alloc _).far g3 (fun q hq => by have := (HO2.out.lt q hq).1; omega)); have HG3 := hide (grown_step (grownBy_trans HG2.out (World.grownBy_alloc w2 (.cells #[.int .i64 x, .int .i64 y] 77) (some p))) g3 (fun q hq => .inr (HO2.out.lt q hq).1)); clear o3 g3)
            exact ⟨⟨j + 1, k2, xs ++ [(x, y)], by omega, by go_num, by simp [hxl], HR3, HO3, HN2, HG3⟩, by simp [intOf]; omega⟩
          · have HF : Hid (G = none) := hide (by rw [HN.out, show N - j = (N - (j + 1)) + 1 from by omega, rList, hr2]; rfl)
            have HG2 := hide (grownBy_trans HG.out g2)
            clear g2 hr2
            go_wp2
            exact ⟨rfl, .inr ⟨HF.out, rfl⟩, HG2.out⟩
        · obtain rfl : j = N := by omega
          have HF : Hid (G = some (xs, kj)) := hide (by rw [HN.out, Nat.sub_self, rList]; simp)
          have HP := hide HR1.out.pl
          go_wp2
          go_ret
          exact ⟨.inl ⟨_, _, _, HF.out, rfl, HO.out, HP.out⟩, HG.out⟩
  · have HN : Hid (G = none) := hide (by rw [← HGG.out]; unfold rMany; rw [hr1]; rfl)
    clear g1 hr1
    go_wp2
    exact ⟨rfl, .inr ⟨HN.out, rfl⟩, HG.out⟩
end Go.Proofs.YtoaenoakdbieaaaDoor
