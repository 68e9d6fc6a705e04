/-
  What l7Read does: the method that begins at the cursor's place, by the model.
-/
import Derived.Test.YtpgmipbanpofaaaGreatDoorJ24
import Derived.Test.YtpgmipbanpofaaaGreatDoorJ20
import Derived.Test.YtpgmipbanpofaaaGreatDoorJ25
import Derived.Deep.CutBlock
namespace Go.Proofs.YtpgmipbanpofaaaGreatDoor
open Go.RowKit

def mR5 (zs : List Int) (s : ByteArray) (ps : List ByteArray) (r : ByteArray) (l n : Int) (k : Nat) : Option (Me × Nat) := if n.toNat ≤ zs.length - k then some (⟨s, ps, r, l, (zs.drop k).take n.toNat⟩, k + n.toNat) else none
def mR4 (zs : List Int) (s : ByteArray) (ps : List ByteArray) (r : ByteArray) (l : Int) (k : Nat) : Option (Me × Nat) := (rNu zs k).bind fun q => mR5 zs s ps r l q.1 q.2
def mR3 (zs : List Int) (s : ByteArray) (ps : List ByteArray) (r : ByteArray) (k : Nat) : Option (Me × Nat) := (rNu zs k).bind fun q => mR4 zs s ps r q.1 q.2
def mR2 (zs : List Int) (s : ByteArray) (ps : List ByteArray) (k : Nat) : Option (Me × Nat) := (rTx zs k).bind fun q => mR3 zs s ps q.1 q.2
def mR1 (zs : List Int) (s : ByteArray) (N : Nat) (xs : List ByteArray) (k : Nat) : Option (Me × Nat) := (rList (rTx zs) N k).bind fun r => mR2 zs s (xs ++ r.1) r.2
def mR0 (zs : List Int) (s : ByteArray) (k : Nat) : Option (Me × Nat) := (rNu zs k).bind fun q => mR1 zs s q.1.toNat [] q.2
theorem sMe_eq (zs : List Int) (k : Nat) : sMe zs k = (some k).bind fun k => (rTx zs k).bind fun q => mR0 zs q.1 q.2 := by
  unfold sMe mR0 mR1 mR2 mR3 mR4 mR5 sMany sCode rNu
  simp only [Option.bind_some, Option.bind_assoc, List.nil_append]
  congr 1
  funext n
  congr 1
  funext c
  congr 1
  funext ps
  congr 1
  funext r
  congr 1
  funext l
  congr 1
  funext c
  split <;> rfl
theorem mR1_step {zs : List Int} {s : ByteArray} {N k : Nat} {xs : List ByteArray} {x : ByteArray} (h : ∀ q, rTx zs k = some q → x = q.1) : mR1 zs s (N + 1) xs k = ((rTx zs k).map (·.2)).bind fun k => mR1 zs s N (xs ++ [x]) k := by
  unfold mR1
  rw [rList]
  cases hf : rTx zs k with
  | none => rfl
  | some q =>
    rw [h q hf]
    simp only [Option.bind_some, Option.map_some, Option.bind_assoc, List.append_assoc, List.cons_append, List.nil_append]
theorem Sx.drewN {w wr : World} {B : Nat} {a : Option Addr} {len cap : Nat} {zs : List Int} {g L : Nat} {T : TypeId} {ds : List Dt} {vs : List Value} {st : Option Nat} (h : Sx w wr B a len cap zs g L T ds vs st) (q : Nat) : Sx w (wr.drewN q) B a len cap zs g L T ds vs st := by
  obtain ⟨k, h1, h2⟩ := h.cur
  have h3 := CuI.drewN (w := wr) ⟨h1, World.grownBy.refl wr _⟩ q
  exact ⟨h.box, h.own.drewN q, ⟨k, h3.1, h2⟩, ⟨h.grown.os, h.grown.tape, h.grown.output, h.grown.size, h.grown.block⟩, h.hL, h.hg⟩
theorem Sx.rowNew {w wr w' : World} {B : Nat} {a : Option Addr} {len cap : Nat} {zs : List Int} {g L : Nat} {T : TypeId} {c c' : Dt} {c1 c2 : List Dt} {v1 v2 : List Value} {v v' : Value} {st : Option Nat} (h : Sx w wr B a len cap zs g L T (c1 ++ c :: c2) (v1 ++ v :: v2) st) (i : Nat) (hi : v1.length = i) (hl : v1.length = c1.length) (hb : Below wr.heap.size wr w') (ho : OwnD w' wr.heap.size w'.heap.size c' v') :
    w'.heap[L]? = some (.cells (v1 ++ v :: v2).toArray T (0, 0)) ∧ Sx w (w'.setCell ⟨L, i, none⟩ v') B a len cap zs g L T (c1 ++ c' :: c2) (v1 ++ v' :: v2) st :=
  h.app i hi (OwnDL.repl (h.own.below hb) hl ho (Nat.le_refl _) (by have := h.lt; omega) hb.size) (grown_of_below hb) (fun q e => by cases e)
theorem Sx.end5 {w W0 wr : World} {B : Nat} {a : Option Addr} {len cap : Nat} {zs : List Int} {g L : Nat} {T T' : TypeId} {ds : List Dt} {vs : List Value} {st : Option Nat} {z0 z1 z2 z3 z4 : Value} (h : Sx W0 wr B a len cap zs g L T ds vs st) (hG : w.grownBy W0 (some g)) (hs0 : W0.heap.size = w.heap.size + 1) (hgw : g < w.heap.size) (E0 : W0.heap[w.heap.size]? = some (.cells #[z0, z1, z2, z3, z4] T' (0, 0))) (b0 b1 b2 b3 b4 : Value) :
    (((((wr.setCell ⟨w.heap.size, 0, none⟩ b0).setCell ⟨w.heap.size, 1, none⟩ b1).setCell ⟨w.heap.size, 2, none⟩ b2).setCell ⟨w.heap.size, 3, none⟩ b3).setCell ⟨w.heap.size, 4, none⟩ b4).heap[w.heap.size]? = some (.cells #[b0, b1, b2, b3, b4] T' (0, 0)) ∧ OwnDL (((((wr.setCell ⟨w.heap.size, 0, none⟩ b0).setCell ⟨w.heap.size, 1, none⟩ b1).setCell ⟨w.heap.size, 2, none⟩ b2).setCell ⟨w.heap.size, 3, none⟩ b3).setCell ⟨w.heap.size, 4, none⟩ b4) w.heap.size (((((wr.setCell ⟨w.heap.size, 0, none⟩ b0).setCell ⟨w.heap.size, 1, none⟩ b1).setCell ⟨w.heap.size, 2, none⟩ b2).setCell ⟨w.heap.size, 3, none⟩ b3).setCell ⟨w.heap.size, 4, none⟩ b4).heap.size ds vs ∧ CuS (((((wr.setCell ⟨w.heap.size, 0, none⟩ b0).setCell ⟨w.heap.size, 1, none⟩ b1).setCell ⟨w.heap.size, 2, none⟩ b2).setCell ⟨w.heap.size, 3, none⟩ b3).setCell ⟨w.heap.size, 4, none⟩ b4) B a len cap zs g st ∧ w.grownBy (((((wr.setCell ⟨w.heap.size, 0, none⟩ b0).setCell ⟨w.heap.size, 1, none⟩ b1).setCell ⟨w.heap.size, 2, none⟩ b2).setCell ⟨w.heap.size, 3, none⟩ b3).setCell ⟨w.heap.size, 4, none⟩ b4) (some g) := by
  have hL := h.hL
  have E1 := (h.grown.block w.heap.size (by omega) (fun e => by cases e; omega)).trans E0
  have c0 : ∀ (W : World) (o : Nat) (v : Value), CuS W B a len cap zs g st → CuS (W.setCell ⟨w.heap.size, o, none⟩ v) B a len cap zs g st := fun W o v hc => hc.far (grown_set (g := w.heap.size) (World.grownBy.refl W (some w.heap.size)) o v) (fun q e => by cases e; exact hgw)
  have o0 : ∀ (W : World) (o : Nat) (v : Value), OwnDL W (L + 1) wr.heap.size ds vs → OwnDL (W.setCell ⟨w.heap.size, o, none⟩ v) (L + 1) wr.heap.size ds vs := fun W o v hc => hc.same (fun q hq _ _ => heap_setCell_other _ _ _ _ (by simp; omega))
  refine ⟨putN5 E1 b0 b1 b2 b3 b4, ?_, c0 _ _ _ (c0 _ _ _ (c0 _ _ _ (c0 _ _ _ (c0 _ _ _ h.cur)))), ?_⟩
  · exact ((o0 _ _ _ (o0 _ _ _ (o0 _ _ _ (o0 _ _ _ (o0 _ _ _ h.own))))).mono (by omega)).up (by simp)
  · exact grownNew (grownNew (grownNew (grownNew (grownNew (grownBy_trans hG h.grown) (Nat.le_refl _) _ _) (Nat.le_refl _) _ _) (Nat.le_refl _) _ _) (Nat.le_refl _) _ _) (Nat.le_refl _) _ _
set_option maxRecDepth 100000 in
set_option maxHeartbeats 8000000 in
theorem readMeU {w : World} {B : Nat} {a : Option Addr} {len cap : Nat} {zs : List Int} {g k : Nat} (h : CuS w B a len cap zs g (some k)) (hcap : len ≤ cap) (hB : Byt zs) (hzl : zs.length = len) (hlm : len ≤ 1048576) (_hkl : k ≤ zs.length) :
    Calls Tryz.prog 15 #[.pointer (some ⟨g, 0, none⟩)] w fun e w' => ∃ m u, e = .returned u ∧ RowMe w.heap.size w' u m ∧ (∀ q, sMe zs k = some q → m = q.1) ∧ CuS w' B a len cap zs g ((sMe zs k).map (·.2)) ∧ w.grownBy w' (some g) := by
  have hgl := h.lt
  have HC := hide (h.far (World.grownBy_alloc w (.cells #[.string ⟨#[]⟩, .slice none 0 0, .string ⟨#[]⟩, .int .i64 0, .slice none 0 0] 48) none) (fun q e => by cases e))
  have HG0 := hide (World.grownBy_alloc w (.cells #[.string ⟨#[]⟩, .slice none 0 0, .string ⟨#[]⟩, .int .i64 0, .slice none 0 0] 48) (some g))
  have E0 := hide (heap_alloc_new w (.cells #[.string ⟨#[]⟩, .slice none 0 0, .string ⟨#[]⟩, .int .i64 0, .slice none 0 0] 48))
  have hs0 : (w.alloc (.cells #[.string ⟨#[]⟩, .slice none 0 0, .string ⟨#[]⟩, .int .i64 0, .slice none 0 0] 48)).heap.size = w.heap.size + 1 := by simp
  have HZ := hide hB
  obtain ⟨GG, hGG⟩ : ∃ G, sMe zs k = G := ⟨_, rfl⟩
  have HN := hide (hGG.symm.trans (sMe_eq zs k))
  rw [hGG]
  clear h hGG
  obtain ⟨i0, hi, hz0, hz1, hz2⟩ := info_parts Tryz.infoSt
  have HI := hide (And.intro hi (And.intro hz0 (And.intro hz1 hz2)))
  clear hi hz0 hz1 hz2
  go_enter Tryz.func15, Tryz.ntmps15
  go_wp2_with fail
  generalize w.alloc (.cells #[.string ⟨#[]⟩, .slice none 0 0, .string ⟨#[]⟩, .int .i64 0, .slice none 0 0] 48) = W0 at *
  refine (textU HC.out hcap).mono ?_
  rintro e w1 ⟨s, rfl, hq, hc, hg⟩
  replace HN := hide (HN.out.trans (stepU (rest := fun s k => mR0 zs s k) hq))
  have HS : Hid (Sx W0 (w1.alloc (.cells #[.string s, .slice none 0 0, .string ⟨#[]⟩, .int .i64 0, .slice none 0 0] 48)) B a len cap zs g w1.heap.size 48 [.val (.string s), .row 9 1 0 [], .val (.string ⟨#[]⟩), .val (.int .i64 0), .row 5 1 0 []] [.string s, .slice none 0 0, .string ⟨#[]⟩, .int .i64 0, .slice none 0 0] _) := hide ⟨heap_alloc_new _ _, OwnDL.val (OwnDL.cons (m := w1.heap.size + 1) (ownD_nil _ _ _ _ _) (OwnDL.val (OwnDL.val (OwnDL.cons (m := w1.heap.size + 1) (ownD_nil _ _ _ _ _) (ownDL_nil _ _ _) (Nat.le_refl _) (by simp)))) (Nat.le_refl _) (by simp)), hc.far (World.grownBy_alloc w1 _ none) (fun q e => by cases e), grown_step hg (World.grownBy_alloc w1 _ none) (fun k hk => by cases hk), hg.size, by omega⟩
  have hL : W0.heap.size ≤ w1.heap.size := hg.size
  clear hc hg hq HC
  go_wp2_with fail
  generalize w1.alloc (.cells #[.string s, .slice none 0 0, .string ⟨#[]⟩, .int .i64 0, .slice none 0 0] 48) = W1 at *
  generalize w1.heap.size = L at *
  generalize Option.map (fun x => x.snd) ((some k).bind (rTx zs)) = st1 at *
  refine (numU HS.out.cur HZ.out).mono ?_
  rintro e w2 ⟨n, rfl, hn, hq, hc, hg⟩
  replace HN := hide (HN.out.trans (stepU (rest := fun (n : Int) k => mR1 zs s n.toNat [] k) hq))
  replace HS := hide (HS.out.call hc hg)
  simp only [Int.toNat_natCast] at HN
  have HA : Hid (∀ k, Option.map (fun x => x.snd) (st1.bind (rNu zs)) = some k → k ≤ zs.length) := hide (fun k hk => by
    obtain ⟨⟨x, k'⟩, h1, h2⟩ := Option.map_eq_some_iff.1 hk
    obtain ⟨k0, _, h3⟩ := Option.bind_eq_some_iff.1 h1
    have := (num_adv HZ.out h3).2
    simp only at h2
    omega)
  clear hc hg hq
  generalize Option.map (fun x => x.snd) (st1.bind (rNu zs)) = st2 at *
  go_upto_block 0 with fail
  go_cut [5] from 11 to 28 (fun _ wr => ∃ (xs : List ByteArray) (st : Option Nat) (pa : Option Addr) (pc : Nat), Hid (Sx W0 wr B a len cap zs g L 48 [.val (.string s), .row 9 1 xs.length (xs.flatMap txD), .val (.string ⟨#[]⟩), .val (.int .i64 0), .row 5 1 0 []] [.string s, .slice pa xs.length pc, .string ⟨#[]⟩, .int .i64 0, .slice none 0 0] st) ∧ Hid (GG = st.bind fun k => mR2 zs s xs k))
  case first =>
    go_wp2_with fail
    go_loopw [5] (fun i wr => ∃ (xs : List ByteArray) (st : Option Nat) (pa : Option Addr) (pc : Nat), xs.length ≤ n ∧ i = .int .i64 (xs.length : Int) ∧ Hid (Sx W0 wr B a len cap zs g L 48 [.val (.string s), .row 9 1 xs.length (xs.flatMap txD), .val (.string ⟨#[]⟩), .val (.int .i64 0), .row 5 1 0 []] [.string s, .slice pa xs.length pc, .string ⟨#[]⟩, .int .i64 0, .slice none 0 0] st) ∧ Hid (GG = st.bind fun k => mR1 zs s (n - xs.length) xs k) ∧ Hid (∀ k, st = some k → xs.length ≤ k ∧ k ≤ zs.length)) (fun i _ => n - (intOf i).toNat)
    case atStart => exact ⟨[], st2, none, 0, by simp, rfl, HS, HN, hide (fun k hk => ⟨by simp, HA.out k hk⟩)⟩
    case round =>
      clear HS HN HA
      obtain ⟨xs, st, pa, pc, hj, rfl, HS, HN, HA⟩ := hrel
      obtain ⟨kk, hcu, hk⟩ := HS.out.cur
      have Y := box_of hcu.pl
      have y2 := Y.1 2 _ rfl
      clear Y hcu hk
      by_cases hjn : xs.length < n
      · cases st with
        | none =>
          simp only [Option.isSome_none] at y2
          go_wp2_with fail
          go_meet
          exact ⟨xs, none, pa, pc, HS, hide HN.out⟩
        | some k1 =>
          simp only [Option.isSome_some] at y2
          have hx := HA.out k1 rfl
          have HSd := hide (HS.out.below (Below.refl wr.heap.size wr).drew)
          have f1 := (box_of HSd.out.box).1 1 _ rfl
          have hLw : L < wr.heap.size := HS.out.lt
          go_upto_region 6 with fail
          clear y2
          go_region_law
            (first
              | (refine step_callC rfl 12 _ _ rfl #[.pointer (some ⟨g, 0, none⟩)] (by kernel_rfl) (textU HSd.out.cur hcap) ?_; rintro e w5 ⟨y, rfl, hq5, hc5, hg5⟩; refine ⟨_, rfl, ?_⟩; have HJ := hide (HSd.out.call hc5 hg5); have HQ := hide hq5; have hs5 := hg5.size; clear hc5 hg5 hq5; have f7 := (box_of HJ.out.box).1 1 _ rfl; have HJ1 := hide (HJ.out.below ((Below.refl w5.heap.size w5).alloc (Nat.le_refl _) (.cells #[.string y] 9))); have f8 := (box_of HJ1.out.box).1 1 _ rfl; have HBx := hide (Box.new w5 #[.string y] 9); have HDs : Hid (OwnDL (w5.alloc (.cells #[.string y] 9)) (w5.alloc (.cells #[.string y] 9)).heap.size (w5.alloc (.cells #[.string y] 9)).heap.size (txD y) [.string y]) := hide (OwnDL.val (ownDL_nil _ _ _)); have hsJ : L + 1 ≤ (w5.alloc (.cells #[.string y] 9)).heap.size := HJ1.out.lt)
              | (refine step_appL rfl _ _ 46 rfl (L + 1) (w5.alloc (.cells #[.string y] 9)).heap.size (w5.alloc (.cells #[.string y] 9)).heap.size 9 i0 (.string ByteArray.empty) 1 16 Tryz.underlying46 HI.out.1 HI.out.2.1 HI.out.2.2.1 HI.out.2.2.2 rfl (by decide) (.slice pa xs.length pc) xs.length (xs.flatMap txD) [.val (.string s)] [.val (.string ⟨#[]⟩), .val (.int .i64 0), .row 5 1 0 []] [.string s] [.string ⟨#[]⟩, .int .i64 0, .slice none 0 0] (by rfl) HJ1.out.own rfl w5.heap.size 1 [.string y] (txD y) (by rfl) HBx.out HDs.out rfl (by simp [Value.oneCell']) (by omega) (by decide) (Nat.le_refl _) hsJ (Nat.le_refl _) ?_; intro g9 c9 w6 o6 g6 q6; have HK := hide (HJ1.out.app (v1 := [.string s]) 1 rfl o6 g6 (fun q hq => (q6 q hq).1)); have f9 := (box_of HK.out.1).1 1 _ rfl; have z9 := (box_of HK.out.1).2; clear o6 g6 q6)
              | fail)
          all_goals (
            go_wp2_with fail
            refine ⟨⟨xs ++ [y], _, some ⟨g9, 0, none⟩, c9, by simp; omega, by first | go_num | (simp; go_num) | (simp; done), hide (by rw [List.length_append, List.flatMap_append]; simpa using HK.out.2), hide ?_, hide ?_⟩, by simp [intOf]; omega⟩
            · rw [HN.out, show n - xs.length = n - (xs ++ [y]).length + 1 from by simp; omega]
              exact mR1_step HQ.out
            · intro k hk
              obtain ⟨⟨x, k'⟩, h1, h2⟩ := Option.map_eq_some_iff.1 hk
              have := tx_adv HZ.out h1
              simp only at h2
              simp
              omega)
      · have hjn' : xs.length = n := by omega
        go_wp2_with fail
        go_meet
        exact ⟨xs, st, pa, pc, HS, hide (by rw [HN.out, hjn', Nat.sub_self]; unfold mR1; simp [rList])⟩
  case rest =>
    obtain ⟨xs, st, pa, pc, HS3, HN3⟩ := hcut
    clear HS HN HA
    go_wp2_with fail
    refine (textU HS3.out.cur hcap).mono ?_
    rintro e w3 ⟨r, rfl, hq, hc, hg⟩
    replace HN3 := hide (HN3.out.trans (stepU (rest := fun r k => mR3 zs s xs r k) hq))
    replace HS3 := hide (HS3.out.call hc hg)
    clear hc hg hq
    generalize Option.map (fun x => x.snd) (st.bind (rTx zs)) = st3 at *
    have X := box_of HS3.out.box
    have f2 := X.1 2 _ rfl
    have z2 := X.2 2
    clear X
    go_wp2_with fail
    clear f2 z2
    replace HS3 := hide (HS3.out.set (c1 := [.val (.string s), .row 9 1 xs.length (xs.flatMap txD)]) (v1 := [.string s, .slice pa xs.length pc]) 2 rfl rfl (.string r))
    simp only [List.cons_append, List.nil_append] at HS3
    generalize w3.setCell ⟨L, 2, none⟩ (.string r) = W3 at *
    refine (numU HS3.out.cur HZ.out).mono ?_
    rintro e w4 ⟨l, rfl, hl, hq, hc, hg⟩
    replace HN3 := hide (HN3.out.trans (stepU (rest := fun (l : Int) k => mR4 zs s xs r l k) hq))
    replace HS3 := hide (HS3.out.call hc hg)
    clear hc hg hq
    generalize Option.map (fun x => x.snd) (st3.bind (rNu zs)) = st4 at *
    have X := box_of HS3.out.box
    have f2 := X.1 3 _ rfl
    have z2 := X.2 3
    clear X
    go_wp2_with fail
    clear f2 z2
    replace HS3 := hide (HS3.out.set (c1 := [.val (.string s), .row 9 1 xs.length (xs.flatMap txD), .val (.string r)]) (v1 := [.string s, .slice pa xs.length pc, .string r]) 3 rfl rfl (.int .i64 (l : Int)))
    simp only [List.cons_append, List.nil_append] at HS3
    generalize w4.setCell ⟨L, 3, none⟩ (.int .i64 (l : Int)) = W4 at *
    refine (numU HS3.out.cur HZ.out).mono ?_
    rintro e w5 ⟨m, rfl, hm, hq, hc, hg⟩
    replace HN3 := hide (HN3.out.trans (stepU (rest := fun (m : Int) k => mR5 zs s xs r l m k) hq))
    replace HS3 := hide (HS3.out.call hc hg)
    have HA : Hid (∀ k, Option.map (fun x => x.snd) (st4.bind (rNu zs)) = some k → 0 < k ∧ k ≤ zs.length) := hide (fun k hk => by
      obtain ⟨⟨x, k'⟩, h1, h2⟩ := Option.map_eq_some_iff.1 hk
      obtain ⟨k0, _, h3⟩ := Option.bind_eq_some_iff.1 h1
      have := num_adv HZ.out h3
      simp only at h2
      omega)
    clear hc hg hq
    generalize Option.map (fun x => x.snd) (st4.bind (rNu zs)) = st5 at *
    have hLw := HS3.out.lt
    have ER := hide ((HS3.out.grown.block w.heap.size (by omega) (fun e => by cases e; omega)).trans E0.out)
    have HGw := hide (grownBy_trans HG0.out HS3.out.grown)
    have R0 := (box_of ER.out).1 0 _ rfl
    have R1 := (box_of ER.out).1 1 _ rfl
    have R2 := (box_of ER.out).1 2 _ rfl
    have R3 := (box_of ER.out).1 3 _ rfl
    have R4 := (box_of ER.out).1 4 _ rfl
    have RZ := (box_of ER.out).2
    have X := box_of HS3.out.box
    have b0 := X.1 0 _ rfl
    have b1 := X.1 1 _ rfl
    have b2 := X.1 2 _ rfl
    have b3 := X.1 3 _ rfl
    have b4 := X.1 4 _ rfl
    have bz := X.2
    clear X
    by_cases hfail : ∀ k, st5 = some k → zs.length < k + m
    · have HNo : Hid (GG = none) := hide (by
        rw [HN3.out]
        cases st5 with
        | none => rfl
        | some k => have h1 := hfail k rfl; have h2 := (HA.out k rfl).2; simp only [Option.bind_some]; unfold mR5; rw [if_neg (by rw [Int.toNat_natCast]; omega)])
      obtain ⟨kk, hcu, hk⟩ := HS3.out.cur
      have Y := box_of hcu.pl
      have y0 := Y.1 0 _ rfl
      have y1 := Y.1 1 _ rfl
      have y2 := Y.1 2 _ rfl
      have yz := Y.2 2
      clear Y
      have HSf := hide (fun q : Nat => (HS3.out.drewN q).call (CuS.fail (CuI.fail (CuI.drewN (w := w5) ⟨hcu, World.grownBy.refl w5 _⟩ q).1).1) (grown_set (World.grownBy.refl (w5.drewN q) (some g)) 2 (.bool false)))
      clear hcu
      cases st5 with
      | none =>
        simp only [Option.isSome_none] at y2
        go_upto_region 10 with fail
        go_quiet (fail)
        go_wp2
        refine bodyPost_ret (v := .agg #[.string s, .slice pa xs.length pc, .string r, .int .i64 (l : Int), .slice none 0 0]) (results_one Tryz.results15 _ _ _ rfl (loadMe (Sx.end5 (HSf.out _) HG0.out hs0 hgl E0.out _ _ _ _ _).1)) rfl ⟨⟨s, xs, r, l, []⟩, _, rfl, ⟨_, _, rfl, (Sx.end5 (HSf.out _) HG0.out hs0 hgl E0.out _ _ _ _ _).2.1⟩, fun q hq => (by rw [HNo.out] at hq; cases hq), by rw [HNo.out]; exact (Sx.end5 (HSf.out _) HG0.out hs0 hgl E0.out _ _ _ _ _).2.2.1, (Sx.end5 (HSf.out _) HG0.out hs0 hgl E0.out _ _ _ _ _).2.2.2⟩
      | some k5 =>
        simp only [Option.isSome_some] at y2
        obtain rfl : kk = (k5 : Int) := hk k5 rfl
        have hlt : ((len : Int) - (k5 : Int) < (m : Int)) := by have := hfail k5 rfl; omega
        have hk5 := (HA.out k5 rfl).2
        go_upto_region 10 with fail
        go_quiet (fail)
        go_wp2
        refine bodyPost_ret (v := .agg #[.string s, .slice pa xs.length pc, .string r, .int .i64 (l : Int), .slice none 0 0]) (results_one Tryz.results15 _ _ _ rfl (loadMe (Sx.end5 (HSf.out _) HG0.out hs0 hgl E0.out _ _ _ _ _).1)) rfl ⟨⟨s, xs, r, l, []⟩, _, rfl, ⟨_, _, rfl, (Sx.end5 (HSf.out _) HG0.out hs0 hgl E0.out _ _ _ _ _).2.1⟩, fun q hq => (by rw [HNo.out] at hq; cases hq), by rw [HNo.out]; exact (Sx.end5 (HSf.out _) HG0.out hs0 hgl E0.out _ _ _ _ _).2.2.1, (Sx.end5 (HSf.out _) HG0.out hs0 hgl E0.out _ _ _ _ _).2.2.2⟩
    · obtain ⟨k5, hst⟩ : ∃ k, st5 = some k := by
        cases st5 with
        | none => exact absurd (fun k h => by cases h) hfail
        | some k => exact ⟨k, rfl⟩
      subst hst
      have hle : k5 + m ≤ zs.length := by
        have : ¬ zs.length < k5 + m := fun h => hfail (fun k e => by cases e; exact h)
        omega
      have hk0 := (HA.out k5 rfl).1
      clear hfail HA
      have HYes : Hid (GG = some (⟨s, xs, r, l, (zs.drop k5).take m⟩, k5 + m)) := hide (by
        rw [HN3.out]
        simp only [Option.bind_some]
        unfold mR5
        rw [if_pos (by rw [Int.toNat_natCast]; omega), Int.toNat_natCast])
      have hcu := HS3.out.cur.at
      obtain ⟨b, o, rfl, _⟩ := hcu.inp.2.2.2 (by omega)
      have HIn := hide hcu.inp
      have hwr : IntKind.i64.wrap ((k5 : Int) + (m : Int)) = (k5 : Int) + (m : Int) := by rw [IntKind.wrap_i64]; omega
      obtain ⟨aD, haD⟩ : ∃ x : Addr, x = if cap = k5 then ⟨b, o, none⟩ else ⟨b, o + k5, none⟩ := ⟨_, rfl⟩
      have hSl : ∀ W, (Instr.slice 22 (.slice (some ⟨b, o, none⟩) len cap) (some (.int .i64 (k5 : Int))) (some (.int .i64 ((k5 : Int) + (m : Int)))) none).run Tryz.prog W = .ok (.slice (some aD) m (cap - k5)) W := fun W => by
        rw [haD, run_slice_lh W 22 (some ⟨b, o, none⟩) len cap Tryz.underlying22 .i64 .i64 k5 (k5 + m) (by omega) (by omega) (by omega)]
        simp [go_sem, sliced]
        exact ⟨by split <;> rfl, by omega⟩
      obtain ⟨cc, hcc⟩ : ∃ c, (zs.drop k5).take m = c := ⟨_, rfl⟩
      have HDR : Hid (∀ W, In W B (some ⟨b, o, none⟩) len zs → In W B (some aD) m cc) := hide (fun W h => by
        rw [haD, ← hcc]
        split
        · have h0 : m = 0 := by omega
          subst h0
          have := h.take 0 (Nat.zero_le _)
          simpa using this
        · exact (h.drop k5 (by omega)).take m (by omega))
      have hccl : cc.length = m := by rw [← hcc]; simp; omega
      rw [hcc] at HYes
      clear haD hcc
      have HSq := hide (fun q : Nat => HS3.out.drewN q)
      have Y := box_of hcu.pl
      have y0 := Y.1 0 _ rfl
      have y1 := Y.1 1 _ rfl
      have y2 := Y.1 2 _ rfl
      have hnl : ¬ ((len : Int) - (k5 : Int) < (m : Int)) := by omega
      clear Y hcu
      go_upto_region 10 with fail
      go_quiet (fail)
      go_upto_region 13 with fail
      clear y0 y1 y2 R0 R1 R2 R3 R4 RZ b0 b1 b2 b3 b4 bz HS3 HN3 ER HIn HGw
      have HS5 := hide (HSq.out nq)
      clear HSq
      generalize w5.drewN nq = W5 at *
      have hcu := HS5.out.cur.at
      have Y := box_of hcu.pl
      have y0 := Y.1 0 _ rfl
      have y1 := Y.1 1 _ rfl
      have bA : Below W5.heap.size W5 (W5.alloc (.cells #[] 5)).drew := ((Below.refl W5.heap.size W5).alloc (Nat.le_refl _) (.cells #[] 5)).drew
      have HBA := hide bA
      have hl5 := HS5.out.lt
      have hg5 := hcu.lt
      have v0 : (W5.alloc (.cells #[] 5)).drew.cell? ⟨g, 0, none⟩ = some (.slice (some ⟨b, o, none⟩) len cap) := (bA.cell (p := ⟨g, 0, none⟩) hg5).trans y0
      have v1 : (W5.alloc (.cells #[] 5)).drew.cell? ⟨g, 1, none⟩ = some (.int .i64 (k5 : Int)) := (bA.cell (p := ⟨g, 1, none⟩) hg5).trans y1
      have HIA := hide (HDR.out _ (hcu.inp.kept (fun q hq => bA.block q (by have := hcu.hB; omega))))
      have HOA : Hid (Own (W5.alloc (.cells #[] 5)).drew W5.heap.size (.slice (some ⟨W5.heap.size, 0, none⟩) 0 0) []) := hide (own_empty W5 W5.heap.size (Nat.le_refl _))
      clear Y hcu bA
      go_cut [77] from 60 to 76 (fun _ wr => ∃ (pa4 : Option Addr) (pc4 : Nat), Hid (Sx W0 wr B (some ⟨b, o, none⟩) len cap zs g L 48 [.val (.string s), .row 9 1 xs.length (xs.flatMap txD), .val (.string r), .val (.int .i64 (l : Int)), byts cc] [.string s, .slice pa xs.length pc, .string r, .int .i64 (l : Int), .slice pa4 m pc4] (some k5)))
      case first =>
        go_region_law
          (first
            | (refine step_appJ rfl _ _ rfl W5.heap.size B _ aD m (cap - k5) [] cc (by rfl) (by rfl) HOA.out HIA.out (by simp) (by simp) ?_; intro v6 w6 o6 g6; rw [List.nil_append] at o6; obtain ⟨a6, c6, rfl⟩ := own_shape o6; have hB6 : Below W5.heap.size W5 w6 := HBA.out.grown g6 HBA.out.size (fun q hq => by cases hq; exact Nat.le_refl _); have HK := hide (HS5.out.rowNew (c1 := [.val (.string s), .row 9 1 xs.length (xs.flatMap txD), .val (.string r), .val (.int .i64 (l : Int))]) (v1 := [.string s, .slice pa xs.length pc, .string r, .int .i64 (l : Int)]) 4 rfl rfl hB6 (Own.deep o6 (fun q hq => (World.ownsRow.lt o6 q hq).2))); have f9 := (box_of HK.out.1).1 4 _ rfl; have z9 := (box_of HK.out.1).2; clear o6 g6 hB6)
            | fail)
        all_goals (
          go_wp2_with fail
          go_meet
          exact ⟨a6, c6, hide (by have hK := HK.out.2; rw [hccl] at hK; exact hK)⟩)
      case rest =>
        obtain ⟨pa4, pc4, HS6⟩ := hcut
        clear HS5 HBA HIA HOA v0 v1 y0 y1 hl5 hg5
        have hcu := HS6.out.cur.at
        have HN6 := hide (hcu.next (k5 + m))
        rw [show ((k5 + m : Nat) : Int) = (k5 : Int) + (m : Int) from by omega] at HN6
        have HSf : Hid (Sx W0 (wc.setCell ⟨g, 1, none⟩ (.int .i64 ((k5 : Int) + (m : Int)))) B (some ⟨b, o, none⟩) len cap zs g L 48 _ _ (some (k5 + m))) := hide (HS6.out.call (CuS.mk (by rw [show ((k5 + m : Nat) : Int) = (k5 : Int) + (m : Int) from by omega]; exact HN6.out.1)) HN6.out.2)
        have Y := box_of hcu.pl
        have y1 := Y.1 1 _ rfl
        have yz := Y.2 1
        have ER := hide ((HS6.out.grown.block w.heap.size (by omega) (fun e => by cases e; omega)).trans E0.out)
        have R0 := (box_of ER.out).1 0 _ rfl
        have R1 := (box_of ER.out).1 1 _ rfl
        have R2 := (box_of ER.out).1 2 _ rfl
        have R3 := (box_of ER.out).1 3 _ rfl
        have R4 := (box_of ER.out).1 4 _ rfl
        have RZ := (box_of ER.out).2
        have X := box_of HS6.out.box
        have b0 := X.1 0 _ rfl
        have b1 := X.1 1 _ rfl
        have b2 := X.1 2 _ rfl
        have b3 := X.1 3 _ rfl
        have b4 := X.1 4 _ rfl
        have bz := X.2
        have hlc := HS6.out.lt
        clear X Y hcu
        go_wp2
        refine bodyPost_ret (v := .agg #[.string s, .slice pa xs.length pc, .string r, .int .i64 (l : Int), .slice pa4 m pc4]) (results_one Tryz.results15 _ _ _ rfl (loadMe (Sx.end5 HSf.out HG0.out hs0 hgl E0.out _ _ _ _ _).1)) rfl ⟨⟨s, xs, r, l, cc⟩, _, rfl, ⟨_, _, rfl, (Sx.end5 HSf.out HG0.out hs0 hgl E0.out _ _ _ _ _).2.1⟩, fun q hq => (by rw [HYes.out] at hq; cases hq; rfl), by rw [HYes.out]; exact (Sx.end5 HSf.out HG0.out hs0 hgl E0.out _ _ _ _ _).2.2.1, (Sx.end5 HSf.out HG0.out hs0 hgl E0.out _ _ _ _ _).2.2.2⟩
end Go.Proofs.YtpgmipbanpofaaaGreatDoor
