/-
  What the model's ClassOf does.
-/
import Derived.Test.YtpgmipbanpofaaaGreatDoorKSpecMe
import Derived.Test.YtpgmipbanpofaaaGreatDoorJ26
import Derived.Great.BuildSlice
import Derived.Laws.CopyOwn
import Derived.Laws.Tables
import Derived.Test.YtpgmipbanpofaaaGreatDoorJ23
namespace Go.Proofs.YtpgmipbanpofaaaGreatDoor
open Go.RowKit

def lR {α β : Type} (f : Nat → Option (α × Nat)) (rest : List α → Nat → Option β) (N : Nat) (xs : List α) (k : Nat) : Option β := (rList f N k).bind fun r => rest (xs ++ r.1) r.2
theorem lR_zero {α β : Type} (f : Nat → Option (α × Nat)) (rest : List α → Nat → Option β) (xs : List α) (k : Nat) : lR f rest 0 xs k = rest xs k := by unfold lR; simp [rList]
theorem lR_step {α β : Type} {f : Nat → Option (α × Nat)} {rest : List α → Nat → Option β} {N k : Nat} {xs : List α} {x : α} (h : ∀ q, f k = some q → x = q.1) : lR f rest (N + 1) xs k = ((f k).map (·.2)).bind fun k => lR f rest N (xs ++ [x]) k := by
  unfold lR
  rw [rList]
  cases hf : f k with
  | none => rfl
  | some q =>
    rw [h q hf]
    simp only [Option.bind_some, Option.map_some, Option.bind_assoc, List.append_assoc, List.cons_append, List.nil_append]
def cR5 (zs : List Int) (n s : ByteArray) (p : List Kc) (f : List Fd) (N : Nat) (xs : List Me) (k : Nat) : Option (Cl × Nat) := lR (sMe zs) (fun m k => some (⟨n, s, p, f, m⟩, k)) N xs k
def cR4 (zs : List Int) (n s : ByteArray) (p : List Kc) (f : List Fd) (k : Nat) : Option (Cl × Nat) := (rNu zs k).bind fun q => cR5 zs n s p f q.1.toNat [] q.2
def cR3 (zs : List Int) (n s : ByteArray) (p : List Kc) (N : Nat) (xs : List Fd) (k : Nat) : Option (Cl × Nat) := lR (rFd zs) (fun f k => cR4 zs n s p f k) N xs k
def cR2 (zs : List Int) (n s : ByteArray) (p : List Kc) (k : Nat) : Option (Cl × Nat) := (rNu zs k).bind fun q => cR3 zs n s p q.1.toNat [] q.2
def cR1 (zs : List Int) (n s : ByteArray) (N : Nat) (xs : List Kc) (k : Nat) : Option (Cl × Nat) := lR (sKc zs) (fun p k => cR2 zs n s p k) N xs k
def cRb (zs : List Int) (n s : ByteArray) (k : Nat) : Option (Cl × Nat) := (rNu zs k).bind fun q => cR1 zs n s q.1.toNat [] q.2
def cRa (zs : List Int) (n : ByteArray) (k : Nat) : Option (Cl × Nat) := (rTx zs k).bind fun q => cRb zs n q.1 q.2
theorem sCl_eq (zs : List Int) (k : Nat) : sCl zs k = (some k).bind fun k => (rTx zs k).bind fun q => cRa zs q.1 q.2 := by
  unfold sCl cRa cRb cR1 cR2 cR3 cR4 cR5 lR sMany rNu
  simp only [Option.bind_some, Option.bind_assoc, List.nil_append]
theorem fdU {zs : List Int} {k : Nat} {x y : ByteArray} (h1 : ∀ q, (some k).bind (rTx zs) = some q → x = q.1) (h2 : ∀ q, (Option.map (fun x => x.snd) ((some k).bind (rTx zs))).bind (rTx zs) = some q → y = q.1) :
    (∀ q, rFd zs k = some q → (⟨x, y⟩ : Fd) = q.1) ∧ Option.map (fun x => x.snd) ((Option.map (fun x => x.snd) ((some k).bind (rTx zs))).bind (rTx zs)) = (rFd zs k).map (·.2) := by
  unfold rFd
  simp only [Option.bind_some] at h1 h2 ⊢
  cases hq : rTx zs k with
  | none => exact ⟨fun q h => (by cases h), rfl⟩
  | some q =>
    have e1 := h1 q hq
    rw [hq] at h2
    simp only [Option.map_some, Option.bind_some] at h2 ⊢
    cases hr : rTx zs q.2 with
    | none => exact ⟨fun q h => (by cases h), rfl⟩
    | some r =>
      have e2 := h2 r hr
      refine ⟨fun q h => ?_, rfl⟩
      cases h
      rw [e1, e2]
theorem many_len {α : Type} {zs : List Int} (hB : Byt zs) {f : Nat → Option (α × Nat)} {Q : α → Prop} (ha : ∀ k x nx, f k = some (x, nx) → k < nx ∧ nx ≤ zs.length) (hf : ∀ k x nx, f k = some (x, nx) → Q x) {k e : Nat} {xs : List α} (h : sMany zs f k = some (xs, e)) : xs.length ≤ zs.length ∧ ∀ x ∈ xs, Q x := by
  unfold sMany at h
  obtain ⟨⟨n, k1⟩, hn, h⟩ := Option.bind_eq_some_iff.1 h
  obtain ⟨h1, h2⟩ := list_all hf _ _ _ _ h
  have h3 := list_adv ha _ _ _ _ (num_adv hB hn).2 h
  exact ⟨by omega, h2⟩
theorem sKc_size {zs : List Int} {k : Nat} {x : Kc} {nx : Nat} (h : sKc zs k = some (x, nx)) : x.a.size ≤ 200 ∧ x.b.size ≤ 200 := by
  unfold sKc at h
  obtain ⟨⟨c, e⟩, hc, h⟩ := Option.map_eq_some_iff.1 h
  cases h
  unfold cOf at hc
  obtain ⟨⟨c', e'⟩, h1, h2⟩ := Option.bind_eq_some_iff.1 hc
  simp only at h2
  split at h2
  · cases h2
    rw [rK0_eq] at h1
    obtain ⟨⟨kd, k1⟩, _, h1⟩ := Option.bind_eq_some_iff.1 h1
    exact rKk_size2 h1
  · cases h2
theorem sMe_G {zs : List Int} (hB : Byt zs) (hl : zs.length ≤ 1048576) {k : Nat} {x : Me} {nx : Nat} (h : sMe zs k = some (x, nx)) : x.n.size ≤ 1048576 ∧ x.r.size ≤ 1048576 ∧ MeG x ∧ (∀ s ∈ x.ps, s.size ≤ 1048576) ∧ (-9223372036854775808 ≤ x.l ∧ x.l ≤ 9223372036854775807) := by
  unfold sMe at h
  obtain ⟨⟨n, k1⟩, h1, h⟩ := Option.bind_eq_some_iff.1 h
  obtain ⟨⟨ps, k2⟩, h2, h⟩ := Option.bind_eq_some_iff.1 h
  obtain ⟨⟨r, k3⟩, h3, h⟩ := Option.bind_eq_some_iff.1 h
  obtain ⟨⟨l, k4⟩, h4, h⟩ := Option.bind_eq_some_iff.1 h
  obtain ⟨⟨c, k5⟩, h5, h⟩ := Option.bind_eq_some_iff.1 h
  simp only [Option.some.injEq, Prod.mk.injEq] at h
  obtain ⟨rfl, rfl⟩ := h
  have a1 := rTx_size h1
  have a3 := rTx_size h3
  obtain ⟨b1, b2⟩ := many_len (Q := fun s : ByteArray => s.size ≤ 200) hB (fun k x nx h => tx_adv hB h) (fun k x nx h => rTx_size h) h2
  obtain ⟨l0, l1, _⟩ := num_back hB h4
  unfold sCode at h5
  obtain ⟨⟨cn, k6⟩, h6, h5⟩ := Option.bind_eq_some_iff.1 h5
  simp only at h5
  split at h5
  · cases h5
    exact ⟨by simp only; omega, by simp only; omega, ⟨by simp only; omega, by simp; omega, fun z hz => hB z (List.mem_of_mem_drop (List.mem_of_mem_take hz))⟩, fun s hs => (by have := b2 s hs; omega), by simp only; omega, by simp only; omega⟩
  · cases h5
theorem sCl_G {zs : List Int} (hB : Byt zs) (hl : zs.length ≤ 1048576) {k : Nat} {x : Cl} {nx : Nat} (h : sCl zs k = some (x, nx)) : ClG x := by
  unfold sCl at h
  obtain ⟨⟨n, k1⟩, h1, h⟩ := Option.bind_eq_some_iff.1 h
  obtain ⟨⟨s, k2⟩, h2, h⟩ := Option.bind_eq_some_iff.1 h
  obtain ⟨⟨p, k3⟩, h3, h⟩ := Option.bind_eq_some_iff.1 h
  obtain ⟨⟨f, k4⟩, h4, h⟩ := Option.bind_eq_some_iff.1 h
  obtain ⟨⟨m, k5⟩, h5, h⟩ := Option.bind_eq_some_iff.1 h
  simp only [Option.some.injEq, Prod.mk.injEq] at h
  obtain ⟨rfl, rfl⟩ := h
  have a1 := rTx_size h1
  have a2 := rTx_size h2
  obtain ⟨b1, b2⟩ := many_len (Q := fun x : Kc => x.a.size ≤ 200 ∧ x.b.size ≤ 200) hB (fun k x nx h => kc_adv hB h) (fun k x nx h => sKc_size h) h3
  obtain ⟨c1, c2⟩ := many_len (Q := fun x : Fd => x.n.size ≤ 200 ∧ x.t.size ≤ 200) hB (fun k x nx h => fd_adv hB h) (fun k x nx h => rFd_size h) h4
  obtain ⟨d1, d2⟩ := many_len hB (fun k x nx h => me_adv hB h) (fun k x nx h => sMe_G hB hl h) h5
  exact ⟨by simp only; omega, by simp only; omega, by simp only; omega, by simp only; omega, by simp only; omega, fun y hy => (by have := b2 y hy; omega), fun y hy => (by have := c2 y hy; omega), fun y hy => d2 y hy⟩
theorem clYs_byt {x : Cl} (hg : ClG x) : Byt (clY x) := by
  unfold clY
  cases hk : clB x with
  | false => intro z hz; simp at hz
  | true =>
    have hS := clS_of hk hg
    exact ((((ptByt _).append (ptByt _)).append (rowY_byt (fun y _ => kcY_byt y))).append (rowY_byt (fun y _ => fdY_byt y))).append (rowY_byt (fun y hy => meY_byt y (hS.ms y hy)))
theorem Sx.other {w wr : World} {B : Nat} {a : Option Addr} {len cap : Nat} {zs : List Int} {g L hi F : Nat} {T : TypeId} {ds : List Dt} {vs : List Value} {st : Option Nat} (h : Sx w wr B a len cap zs g L T ds vs st) (ho : OwnDL wr (L + 1) hi ds vs) (hF : hi ≤ F) (hLF : L < F) (hhi : hi ≤ wr.heap.size) (o : Nat) (u : Value) : Sx w (wr.setCell ⟨F, o, none⟩ u) B a len cap zs g L T ds vs st := by
  have h1 := h.hL
  have h2 := h.hg
  exact ⟨(heap_setCell_other _ _ _ _ (by simp; omega)).trans h.box, (ho.same (fun q _ hq _ => heap_setCell_other _ _ _ _ (by simp; omega))).up (by simp; omega), h.cur.far (grown_set (g := F) (World.grownBy.refl wr (some F)) _ _) (fun q e => by cases e; omega), grownNew h.grown (by omega) _ _, h1, h2⟩
set_option maxRecDepth 100000 in
set_option maxHeartbeats 8000000 in
theorem classOfSpec (w : World) (a : Option Addr) (len cap : Nat) (zs : List Int) (hin : In w w.heap.size a len zs) (hcap : len ≤ cap) :
    Calls Tryz.prog 4 #[.slice a len cap] w fun e w' => ansCO w.heap.size (clOf zs) e w' ∧ Below w.heap.size w w' := by
  have hzl := hin.1
  have hlm := hin.2.1
  have HZ := hide (byt_of_in hin)
  have bR := ((Below.refl w.heap.size w).alloc (Nat.le_refl _) (.cells #[.string ⟨#[]⟩, .string ⟨#[]⟩, .slice none 0 0, .slice none 0 0, .slice none 0 0] 27)).alloc (by simp) (.cells #[.slice a len cap, .int .i64 0, .bool true] 38)
  have HBW := hide bR
  have E0 : Hid (((w.alloc (.cells #[.string ⟨#[]⟩, .string ⟨#[]⟩, .slice none 0 0, .slice none 0 0, .slice none 0 0] 27)).alloc (.cells #[.slice a len cap, .int .i64 0, .bool true] 38)).heap[w.heap.size]? = some (.cells #[.string ⟨#[]⟩, .string ⟨#[]⟩, .slice none 0 0, .slice none 0 0, .slice none 0 0] 27 (0, 0))) := hide ((Below.heap_alloc _ (.cells #[.slice a len cap, .int .i64 0, .bool true] 38) _ (by simp)).trans (heap_alloc_new w (.cells #[.string ⟨#[]⟩, .string ⟨#[]⟩, .slice none 0 0, .slice none 0 0, .slice none 0 0] 27)))
  have HC : Hid (CuS ((w.alloc (.cells #[.string ⟨#[]⟩, .string ⟨#[]⟩, .slice none 0 0, .slice none 0 0, .slice none 0 0] 27)).alloc (.cells #[.slice a len cap, .int .i64 0, .bool true] 38)) w.heap.size a len cap zs (w.heap.size + 1) (some 0)) := hide (CuS.mk ⟨hin.kept (fun q hq => bR.block q hq), Nat.le_succ _, by have := heap_alloc_new (w.alloc (.cells #[.string ⟨#[]⟩, .string ⟨#[]⟩, .slice none 0 0, .slice none 0 0, .slice none 0 0] 27)) (.cells #[.slice a len cap, .int .i64 0, .bool true] 38); simpa using this⟩)
  have hs0 : ((w.alloc (.cells #[.string ⟨#[]⟩, .string ⟨#[]⟩, .slice none 0 0, .slice none 0 0, .slice none 0 0] 27)).alloc (.cells #[.slice a len cap, .int .i64 0, .bool true] 38)).heap.size = w.heap.size + 1 + 1 := by simp
  obtain ⟨GG, hGG⟩ : ∃ G, sCl zs 0 = G := ⟨_, rfl⟩
  have HM := hide (clOf_spec HZ.out)
  have HCG : Hid (∀ x nx, GG = some (x, nx) → ClG x) := hide (fun x nx h => sCl_G HZ.out (by omega) (hGG.trans h))
  have HIN := hide hin
  have HNE : Hid (∀ x nx, GG = some (x, nx) → zs ≠ []) := hide (fun x nx h h0 => by
    rw [← hGG, h0] at h
    unfold sCl rTx gtx at h
    simp [gn, gnF, gtOf] at h)
  rw [hGG] at HM
  have HN := hide (hGG.symm.trans (sCl_eq zs 0))
  clear hGG bR hin
  obtain ⟨i0, hi, hz0, hz1, hz2⟩ := info_parts Tryz.infoKc
  have HI0 := hide (And.intro hi (And.intro hz0 (And.intro hz1 hz2)))
  clear hi hz0 hz1 hz2
  obtain ⟨i1, hi, hz0, hz1, hz2⟩ := info_parts Tryz.infoFd
  have HI1 := hide (And.intro hi (And.intro hz0 (And.intro hz1 hz2)))
  clear hi hz0 hz1 hz2
  obtain ⟨i2, hi, hz0, hz1, hz2⟩ := info_parts Tryz.infoMe
  have HI2 := hide (And.intro hi (And.intro hz0 (And.intro hz1 hz2)))
  clear hi hz0 hz1 hz2
  go_enter Tryz.func4, Tryz.ntmps4
  go_wp2_with fail
  generalize (w.alloc (.cells #[.string ⟨#[]⟩, .string ⟨#[]⟩, .slice none 0 0, .slice none 0 0, .slice none 0 0] 27)).alloc (.cells #[.slice a len cap, .int .i64 0, .bool true] 38) = W0 at *
  refine (textU HC.out hcap).mono ?_
  rintro e w1 ⟨n, rfl, hq, hc, hg⟩
  replace HN := hide (HN.out.trans (stepU (rest := fun n k => cRa zs n k) hq))
  have HS : Hid (Sx W0 (w1.alloc (.cells #[.string n, .string ⟨#[]⟩, .slice none 0 0, .slice none 0 0, .slice none 0 0] 27)) w.heap.size a len cap zs (w.heap.size + 1) w1.heap.size 27 [.val (.string n), .val (.string ⟨#[]⟩), .row 42 4 0 [], .row 45 2 0 [], .row 48 5 0 []] [.string n, .string ⟨#[]⟩, .slice none 0 0, .slice none 0 0, .slice none 0 0] _) := hide ⟨heap_alloc_new _ _, OwnDL.val (OwnDL.val (OwnDL.cons (m := w1.heap.size + 1) (ownD_nil _ _ _ _ _) (OwnDL.cons (m := w1.heap.size + 1) (ownD_nil _ _ _ _ _) (OwnDL.cons (m := w1.heap.size + 1) (ownD_nil _ _ _ _ _) (ownDL_nil _ _ _) (Nat.le_refl _) (by simp)) (Nat.le_refl _) (by simp)) (Nat.le_refl _) (by simp))), hc.far (World.grownBy_alloc w1 _ none) (fun q e => by cases e), grown_step hg (World.grownBy_alloc w1 _ none) (fun k hk => by cases hk), hg.size, by omega⟩
  have hL : W0.heap.size ≤ w1.heap.size := hg.size
  clear hc hg hq HC
  go_wp2_with fail
  generalize w1.alloc (.cells #[.string n, .string ⟨#[]⟩, .slice none 0 0, .slice none 0 0, .slice none 0 0] 27) = W1 at *
  generalize w1.heap.size = L at *
  generalize Option.map (fun x => x.snd) ((some 0).bind (rTx zs)) = st1 at *
  refine (textU HS.out.cur hcap).mono ?_
  rintro e w2 ⟨s, rfl, hq, hc, hg⟩
  replace HN := hide (HN.out.trans (stepU (rest := fun s k => cRb zs n s k) hq))
  replace HS := hide (HS.out.call hc hg)
  clear hc hg hq
  generalize Option.map (fun x => x.snd) (st1.bind (rTx zs)) = st at *
  have X := box_of HS.out.box
  have f2 := X.1 1 _ rfl
  have z2 := X.2 1
  clear X
  go_wp2_with fail
  clear f2 z2
  replace HS := hide (HS.out.set (c1 := [.val (.string n)]) (v1 := [.string n]) 1 rfl rfl (.string s))
  simp only [List.cons_append, List.nil_append] at HS
  generalize w2.setCell ⟨L, 1, none⟩ (.string s) = W2 at *
  refine (numU HS.out.cur HZ.out).mono ?_
  rintro e w2 ⟨N, rfl, hN, hq, hc, hg⟩
  replace HN := hide (HN.out.trans (stepU (rest := fun (N : Int) k => cR1 zs n s N.toNat [] k) hq))
  replace HS := hide (HS.out.call hc hg)
  simp only [Int.toNat_natCast] at HN
  have HA : Hid (∀ k, Option.map (fun x => x.snd) (st.bind (rNu zs)) = some k → k ≤ zs.length) := hide (fun k hk => by
    obtain ⟨⟨x, k'⟩, h1, h2⟩ := Option.map_eq_some_iff.1 hk
    obtain ⟨k0, _, h3⟩ := Option.bind_eq_some_iff.1 h1
    have := (num_adv HZ.out h3).2
    simp only at h2
    omega)
  clear hc hg hq
  generalize Option.map (fun x => x.snd) (st.bind (rNu zs)) = st2 at *
  go_upto_block 0 with fail
  go_cut [7] from 22 to 39 (fun _ wr => ∃ (xs : List Kc) (st : Option Nat) (pa : Option Addr) (pc : Nat), Hid (Sx W0 wr w.heap.size a len cap zs (w.heap.size + 1) L 27 [.val (.string n), .val (.string s), .row 42 4 xs.length (xs.flatMap kcD), .row 45 2 0 [], .row 48 5 0 []] [.string n, .string s, .slice pa xs.length pc, .slice none 0 0, .slice none 0 0] st) ∧ Hid (GG = st.bind fun k => cR2 zs n s xs k))
  case first =>
    go_wp2_with fail
    go_loopw [7] (fun i wr => ∃ (xs : List Kc) (st : Option Nat) (pa : Option Addr) (pc : Nat), xs.length ≤ N ∧ i = .int .i64 (xs.length : Int) ∧ Hid (Sx W0 wr w.heap.size a len cap zs (w.heap.size + 1) L 27 [.val (.string n), .val (.string s), .row 42 4 xs.length (xs.flatMap kcD), .row 45 2 0 [], .row 48 5 0 []] [.string n, .string s, .slice pa xs.length pc, .slice none 0 0, .slice none 0 0] st) ∧ Hid (GG = st.bind fun k => cR1 zs n s (N - xs.length) xs k) ∧ Hid (∀ k, st = some k → xs.length ≤ k ∧ k ≤ zs.length)) (fun i _ => N - (intOf i).toNat)
    case atStart => exact ⟨[], st2, none, 0, by simp, rfl, HS, HN, hide (fun k hk => ⟨by simp, HA.out k hk⟩)⟩
    case round =>
      clear HS HN HA
      obtain ⟨xs, st, pa, pc, hj, rfl, HS, HN, HA⟩ := hrel
      obtain ⟨kk, hcu, hk⟩ := HS.out.cur
      have Y := box_of hcu.pl
      have y2 := Y.1 2 _ rfl
      clear Y hcu hk
      by_cases hjn : xs.length < N
      · cases st with
        | none =>
          simp only [Option.isSome_none] at y2
          go_wp2_with fail
          go_meet
          exact ⟨xs, none, pa, pc, HS, hide HN.out⟩
        | some k1 =>
          simp only [Option.isSome_some] at y2
          have hx := HA.out k1 rfl
          have hLw : L < wr.heap.size := HS.out.lt
          have HSd := hide (HS.out.below (Below.refl wr.heap.size wr).drew)
          have f1 := (box_of HSd.out.box).1 2 _ rfl
          go_upto_region 8 with fail
          clear y2
          go_region_law
            (first
              | (refine step_callC rfl 14 _ _ rfl #[.pointer (some ⟨w.heap.size + 1, 0, none⟩)] (by kernel_rfl) (constU HSd.out.cur hcap) ?_; rintro e w5 ⟨y, rfl, hq5, hc5, hg5⟩; refine ⟨.agg #[.int .i64 y.k, .int .i64 y.n, .string y.a, .string y.b], rfl, ?_⟩; have HJ := hide (HSd.out.call hc5 hg5); have HQ := hide hq5; have hs5 := hg5.size; have bA5 := (Below.refl w5.heap.size w5).alloc (Nat.le_refl _) (.cells #[.int .i64 y.k, .int .i64 y.n, .string y.a, .string y.b] 42); have HOw := hide ((HSd.out.own.grownP hg5 (by omega)).below bA5); have f7 := (box_of HJ.out.box).1 2 _ rfl; have HJ1 := hide (HJ.out.below bA5); have f8 := (box_of HJ1.out.box).1 2 _ rfl; have HBx := hide (Box.new w5 #[.int .i64 y.k, .int .i64 y.n, .string y.a, .string y.b] 42); have HDs : Hid (OwnDL (w5.alloc (.cells #[.int .i64 y.k, .int .i64 y.n, .string y.a, .string y.b] 42)) wr.heap.size (w5.alloc (.cells #[.int .i64 y.k, .int .i64 y.n, .string y.a, .string y.b] 42)).heap.size (kcD y) [.int .i64 y.k, .int .i64 y.n, .string y.a, .string y.b]) := hide (OwnDL.val (OwnDL.val (OwnDL.val (OwnDL.val (ownDL_nil _ _ _))))); have hsJ : wr.heap.size ≤ (w5.alloc (.cells #[.int .i64 y.k, .int .i64 y.n, .string y.a, .string y.b] 42)).heap.size := (by have h1 : wr.heap.size ≤ w5.heap.size := hs5; simp; omega); clear hc5 hg5 hq5 bA5)
              | (refine step_appL rfl _ _ 23 rfl (L + 1) wr.heap.size wr.heap.size 42 i0 (.agg #[.int .i64 0, .int .i64 0, .string ByteArray.empty, .string ByteArray.empty]) 4 48 Tryz.underlying23 HI0.out.1 HI0.out.2.1 HI0.out.2.2.1 HI0.out.2.2.2 rfl (by decide) (.slice pa xs.length pc) xs.length (xs.flatMap kcD) [.val (.string n), .val (.string s)] [.row 45 2 0 [], .row 48 5 0 []] [.string n, .string s] [.slice none 0 0, .slice none 0 0] (by rfl) HOw.out rfl w5.heap.size 1 [.int .i64 y.k, .int .i64 y.n, .string y.a, .string y.b] (kcD y) (by rfl) HBx.out HDs.out rfl (by simp [Value.oneCell']) (by omega) (by decide) (Nat.le_refl _) (by omega) hsJ ?_; intro g9 c9 w6 o6 g6 q6; have HK := hide (HJ1.out.app (v1 := [.string n, .string s]) 2 rfl o6 g6 (fun q hq => (q6 q hq).1)); have f9 := (box_of HK.out.1).1 2 _ rfl; have z9 := (box_of HK.out.1).2; clear o6 g6 q6)
              | fail)
          all_goals (
            go_wp2_with fail
            refine ⟨⟨xs ++ [y], _, some ⟨g9, 0, none⟩, c9, by simp; omega, by first | go_num | (simp; go_num) | (simp; done), hide (by rw [List.length_append, List.flatMap_append]; simpa using HK.out.2), hide ?_, hide ?_⟩, by simp [intOf]; omega⟩
            · rw [HN.out, show N - xs.length = N - (xs ++ [y]).length + 1 from by simp; omega]
              exact lR_step (rest := fun p k => cR2 zs n s p k) HQ.out
            · intro k hk
              obtain ⟨⟨x, k'⟩, h1, h2⟩ := Option.map_eq_some_iff.1 hk
              have := kc_adv HZ.out h1
              simp only at h2
              simp
              omega)
      · have hjn' : xs.length = N := by omega
        go_wp2_with fail
        go_meet
        exact ⟨xs, st, pa, pc, HS, hide (by rw [HN.out, hjn', Nat.sub_self]; congr 1; funext k; exact lR_zero _ _ _ _)⟩
  case rest =>
    clear HS HN HA
    obtain ⟨p, st, pp, cp, HS, HN⟩ := hcut
    go_wp2_with fail
    refine (numU HS.out.cur HZ.out).mono ?_
    rintro e w2 ⟨N, rfl, hN, hq, hc, hg⟩
    replace HN := hide (HN.out.trans (stepU (rest := fun (N : Int) k => cR3 zs n s p N.toNat [] k) hq))
    replace HS := hide (HS.out.call hc hg)
    simp only [Int.toNat_natCast] at HN
    have HA : Hid (∀ k, Option.map (fun x => x.snd) (st.bind (rNu zs)) = some k → k ≤ zs.length) := hide (fun k hk => by
      obtain ⟨⟨x, k'⟩, h1, h2⟩ := Option.map_eq_some_iff.1 hk
      obtain ⟨k0, _, h3⟩ := Option.bind_eq_some_iff.1 h1
      have := (num_adv HZ.out h3).2
      simp only at h2
      omega)
    clear hc hg hq
    generalize Option.map (fun x => x.snd) (st.bind (rNu zs)) = st2 at *
    go_upto_block 2 with fail
    go_cut [8, 9] from 42 to 64 (fun _ _ wr => ∃ (xs : List Fd) (st : Option Nat) (pa : Option Addr) (pc : Nat), Hid (Sx W0 wr w.heap.size a len cap zs (w.heap.size + 1) L 27 [.val (.string n), .val (.string s), .row 42 4 p.length (p.flatMap kcD), .row 45 2 xs.length (xs.flatMap fdD), .row 48 5 0 []] [.string n, .string s, .slice pp p.length cp, .slice pa xs.length pc, .slice none 0 0] st) ∧ Hid (GG = st.bind fun k => cR4 zs n s p xs k))
    case first =>
      go_wp2_with fail
      go_loopw [8, 9] (fun i _ wr => ∃ (xs : List Fd) (st : Option Nat) (pa : Option Addr) (pc : Nat), xs.length ≤ N ∧ i = .int .i64 (xs.length : Int) ∧ Hid (Sx W0 wr w.heap.size a len cap zs (w.heap.size + 1) L 27 [.val (.string n), .val (.string s), .row 42 4 p.length (p.flatMap kcD), .row 45 2 xs.length (xs.flatMap fdD), .row 48 5 0 []] [.string n, .string s, .slice pp p.length cp, .slice pa xs.length pc, .slice none 0 0] st) ∧ Hid (GG = st.bind fun k => cR3 zs n s p (N - xs.length) xs k) ∧ Hid (∀ k, st = some k → xs.length ≤ k ∧ k ≤ zs.length)) (fun i _ _ => N - (intOf i).toNat)
      case atStart => exact ⟨[], st2, none, 0, by simp, rfl, HS, HN, hide (fun k hk => ⟨by simp, HA.out k hk⟩)⟩
      case round =>
        clear HS HN HA
        obtain ⟨xs, st, pa, pc, hj, rfl, HS, HN, HA⟩ := hrel
        obtain ⟨kk, hcu, hk⟩ := HS.out.cur
        have Y := box_of hcu.pl
        have y2 := Y.1 2 _ rfl
        clear Y hcu hk
        by_cases hjn : xs.length < N
        · cases st with
          | none =>
            simp only [Option.isSome_none] at y2
            go_wp2_with fail
            go_meet
            exact ⟨xs, none, pa, pc, HS, hide HN.out⟩
          | some k1 =>
            simp only [Option.isSome_some] at y2
            have hx := HA.out k1 rfl
            have hLw : L < wr.heap.size := HS.out.lt
            go_wp2_with fail
            clear y2
            refine (textU HS.out.cur hcap).mono ?_
            rintro e w5 ⟨x1, rfl, hq1, hc1, hg1⟩
            have HJ := hide (HS.out.call hc1 hg1)
            have hs5 := hg1.size
            have HOw := hide (HS.out.own.grownP hg1 (by have h1 := HS.out.hg; have h2 := HS.out.hL; omega))
            have bA5 := (Below.refl w5.heap.size w5).alloc (Nat.le_refl _) (.cells #[.string x1, .string ⟨#[]⟩] 45)
            replace HJ := hide (HJ.out.below bA5)
            replace HOw := hide (HOw.out.below bA5)
            have EF := hide (heap_alloc_new w5 (.cells #[.string x1, .string ⟨#[]⟩] 45))
            clear bA5 hc1 hg1
            go_wp2_with fail
            have hsF : w5.heap.size < (w5.alloc (.cells #[.string x1, .string ⟨#[]⟩] 45)).heap.size := by simp
            generalize w5.alloc (.cells #[.string x1, .string ⟨#[]⟩] 45) = W5 at *
            refine (textU HJ.out.cur hcap).mono ?_
            rintro e w6 ⟨y1, rfl, hq2, hc2, hg2⟩
            obtain ⟨hfd, hfs⟩ := fdU hq1 hq2
            rw [hfs] at hc2
            have hgL : w.heap.size + 1 < L := by have h1 := HS.out.hg; have h2 := HS.out.hL; omega
            replace HJ := hide (HJ.out.call hc2 hg2)
            replace HOw := hide (HOw.out.grownP hg2 (by omega))
            have hs6 := hg2.size
            replace EF := hide ((hg2.block w5.heap.size hsF (fun e => by have := Option.some.inj e; omega)).trans EF.out)
            have hFl : wr.heap.size ≤ w5.heap.size := hs5
            have Xf := box_of EF.out
            have q1 := Xf.1 1 _ rfl
            have qz := Xf.2 1
            clear Xf
            have HFd := hide hfd
            have HO6 : Hid (OwnDL (w6.setCell ⟨w5.heap.size, 1, none⟩ (.string y1)) (L + 1) wr.heap.size [.val (.string n), .val (.string s), .row 42 4 p.length (p.flatMap kcD), .row 45 2 xs.length (xs.flatMap fdD), .row 48 5 0 []] [.string n, .string s, .slice pp p.length cp, .slice pa xs.length pc, .slice none 0 0]) := hide (HOw.out.same (fun q _ hq _ => heap_setCell_other _ _ _ _ (by simp; omega)))
            have HJ6 := hide (HJ.out.other HOw.out hFl (by omega) (by omega) 1 (.string y1))
            have EF6 : Hid ((w6.setCell ⟨w5.heap.size, 1, none⟩ (.string y1)).heap[w5.heap.size]? = some (.cells #[.string x1, .string y1] 45 (0, 0))) := hide (heap_setCell_same w6 w5.heap.size 1 _ _ _ EF.out)
            have hs7 : wr.heap.size ≤ (w6.setCell ⟨w5.heap.size, 1, none⟩ (.string y1)).heap.size := by simp; omega
            clear HJ HOw EF hq1 hq2 hc2 hg2 hfd hfs
            go_upto_region 15 with fail
            clear q1 qz
            generalize w6.setCell ⟨w5.heap.size, 1, none⟩ (.string y1) = W6 at *
            have Xf := box_of EF6.out
            have q0 := Xf.1 0 _ rfl
            have q1 := Xf.1 1 _ rfl
            have l3 := (box_of HJ6.out.box).1 3 _ rfl
            have bA6 := (Below.refl W6.heap.size W6).alloc (Nat.le_refl _) (.cells #[.string x1, .string y1] 45)
            have HJ7 := hide (HJ6.out.below bA6)
            have HO7 := hide (HO6.out.below bA6)
            have HBx := hide (Box.new W6 #[.string x1, .string y1] 45)
            have HDs : Hid (OwnDL (W6.alloc (.cells #[.string x1, .string y1] 45)) wr.heap.size (W6.alloc (.cells #[.string x1, .string y1] 45)).heap.size (fdD ⟨x1, y1⟩) [.string x1, .string y1]) := hide (OwnDL.val (OwnDL.val (ownDL_nil _ _ _)))
            have hsJ : wr.heap.size ≤ (W6.alloc (.cells #[.string x1, .string y1] 45)).heap.size := by simp; omega
            clear Xf bA6
            go_wp2_with (at_builtin; refine appL rfl _ _ 24 rfl (L + 1) wr.heap.size wr.heap.size 45 i1 (.agg #[.string ByteArray.empty, .string ByteArray.empty]) 2 32 Tryz.underlying24 HI1.out.1 HI1.out.2.1 HI1.out.2.2.1 HI1.out.2.2.2 rfl (by decide) (.slice pa xs.length pc) xs.length (xs.flatMap fdD) [.val (.string n), .val (.string s), .row 42 4 p.length (p.flatMap kcD)] [.row 48 5 0 []] [.string n, .string s, .slice pp p.length cp] [.slice none 0 0] rfl HO7.out rfl W6.heap.size 1 [.string x1, .string y1] (fdD ⟨x1, y1⟩) rfl HBx.out HDs.out rfl (by simp [Value.oneCell']) (by omega) (by decide) (Nat.le_refl _) (by omega) hsJ ?_; intro g9 c9 w7 o7 g7 q7; have HK := hide (HJ7.out.app (v1 := [.string n, .string s, .slice pp p.length cp]) 3 rfl o7 g7 (fun q hq => (q7 q hq).1)); have f9 := (box_of HK.out.1).1 3 _ rfl; have z9 := (box_of HK.out.1).2; clear o7 g7 q7)
            refine ⟨⟨xs ++ [⟨x1, y1⟩], _, some ⟨g9, 0, none⟩, c9, by simp; omega, by first | go_num | (simp; go_num) | (simp; done), hide (by rw [List.length_append, List.flatMap_append]; simpa using HK.out.2), hide ?_, hide ?_⟩, by simp [intOf]; omega⟩
            · rw [HN.out, show N - xs.length = N - (xs ++ [(⟨x1, y1⟩ : Fd)]).length + 1 from by simp; omega]
              exact lR_step (rest := fun f k => cR4 zs n s p f k) HFd.out
            · intro k hk
              obtain ⟨⟨x, k'⟩, h1, h2⟩ := Option.map_eq_some_iff.1 hk
              have := fd_adv HZ.out h1
              simp only at h2
              simp
              omega
        · have hjn' : xs.length = N := by omega
          go_wp2_with fail
          go_meet
          exact ⟨xs, st, pa, pc, HS, hide (by rw [HN.out, hjn', Nat.sub_self]; congr 1; funext k; exact lR_zero _ _ _ _)⟩
    case rest =>
      clear HS HN HA
      obtain ⟨f, st, pf, cf, HS, HN⟩ := hcut
      go_wp2_with fail
      refine (numU HS.out.cur HZ.out).mono ?_
      rintro e w2 ⟨N, rfl, hN, hq, hc, hg⟩
      replace HN := hide (HN.out.trans (stepU (rest := fun (N : Int) k => cR5 zs n s p f N.toNat [] k) hq))
      replace HS := hide (HS.out.call hc hg)
      simp only [Int.toNat_natCast] at HN
      have HA : Hid (∀ k, Option.map (fun x => x.snd) (st.bind (rNu zs)) = some k → k ≤ zs.length) := hide (fun k hk => by
        obtain ⟨⟨x, k'⟩, h1, h2⟩ := Option.map_eq_some_iff.1 hk
        obtain ⟨k0, _, h3⟩ := Option.bind_eq_some_iff.1 h1
        have := (num_adv HZ.out h3).2
        simp only at h2
        omega)
      clear hc hg hq
      generalize Option.map (fun x => x.snd) (st.bind (rNu zs)) = st2 at *
      go_upto_block 4 with fail
      go_cut [10] from 67 to 84 (fun _ wr => ∃ (xs : List Me) (st : Option Nat) (pa : Option Addr) (pc : Nat), Hid (Sx W0 wr w.heap.size a len cap zs (w.heap.size + 1) L 27 [.val (.string n), .val (.string s), .row 42 4 p.length (p.flatMap kcD), .row 45 2 f.length (f.flatMap fdD), .row 48 5 xs.length (xs.flatMap meD)] [.string n, .string s, .slice pp p.length cp, .slice pf f.length cf, .slice pa xs.length pc] st) ∧ Hid (GG = st.bind fun k => some (⟨n, s, p, f, xs⟩, k)))
      case first =>
        go_wp2_with fail
        go_loopw [10] (fun i wr => ∃ (xs : List Me) (st : Option Nat) (pa : Option Addr) (pc : Nat), xs.length ≤ N ∧ i = .int .i64 (xs.length : Int) ∧ Hid (Sx W0 wr w.heap.size a len cap zs (w.heap.size + 1) L 27 [.val (.string n), .val (.string s), .row 42 4 p.length (p.flatMap kcD), .row 45 2 f.length (f.flatMap fdD), .row 48 5 xs.length (xs.flatMap meD)] [.string n, .string s, .slice pp p.length cp, .slice pf f.length cf, .slice pa xs.length pc] st) ∧ Hid (GG = st.bind fun k => cR5 zs n s p f (N - xs.length) xs k) ∧ Hid (∀ k, st = some k → xs.length ≤ k ∧ k ≤ zs.length)) (fun i _ => N - (intOf i).toNat)
        case atStart => exact ⟨[], st2, none, 0, by simp, rfl, HS, HN, hide (fun k hk => ⟨by simp, HA.out k hk⟩)⟩
        case round =>
          clear HS HN HA
          obtain ⟨xs, st, pa, pc, hj, rfl, HS, HN, HA⟩ := hrel
          obtain ⟨kk, hcu, hk⟩ := HS.out.cur
          have Y := box_of hcu.pl
          have y2 := Y.1 2 _ rfl
          clear Y hcu hk
          by_cases hjn : xs.length < N
          · cases st with
            | none =>
              simp only [Option.isSome_none] at y2
              go_wp2_with fail
              go_meet
              exact ⟨xs, none, pa, pc, HS, hide HN.out⟩
            | some k1 =>
              simp only [Option.isSome_some] at y2
              have hx := HA.out k1 rfl
              have hLw : L < wr.heap.size := HS.out.lt
              have HSd := hide (HS.out.below (Below.refl wr.heap.size wr).drew)
              have f1 := (box_of HSd.out.box).1 4 _ rfl
              go_upto_region 20 with fail
              clear y2
              go_region_law
                (first
                  | (refine step_callC rfl 15 _ _ rfl #[.pointer (some ⟨w.heap.size + 1, 0, none⟩)] (by kernel_rfl) (readMeU HSd.out.cur hcap HZ.out hzl hlm hx.2) ?_; rintro e w5 ⟨y, u, rfl, ⟨u1, u4, rfl, ou⟩, hq5, hc5, hg5⟩; obtain ⟨⟨pa1, pc1, e1⟩, ⟨pa4, pc4, e4⟩⟩ := meD_sl ou; subst e1 e4; refine ⟨.agg #[.string y.n, .slice pa1 y.ps.length pc1, .string y.r, .int .i64 y.l, .slice pa4 y.c.length pc4], rfl, ?_⟩; have HJ := hide (HSd.out.call hc5 hg5); have HQ := hide hq5; have hs5 := hg5.size; have bA5 := (Below.refl w5.heap.size w5).alloc (Nat.le_refl _) (.cells #[.string y.n, .slice pa1 y.ps.length pc1, .string y.r, .int .i64 y.l, .slice pa4 y.c.length pc4] 48); have HOw := hide ((HSd.out.own.grownP hg5 (by omega)).below bA5); have f7 := (box_of HJ.out.box).1 4 _ rfl; have HJ1 := hide (HJ.out.below bA5); have f8 := (box_of HJ1.out.box).1 4 _ rfl; have HBx := hide (Box.new w5 #[.string y.n, .slice pa1 y.ps.length pc1, .string y.r, .int .i64 y.l, .slice pa4 y.c.length pc4] 48); have HDs : Hid (OwnDL (w5.alloc (.cells #[.string y.n, .slice pa1 y.ps.length pc1, .string y.r, .int .i64 y.l, .slice pa4 y.c.length pc4] 48)) wr.heap.size (w5.alloc (.cells #[.string y.n, .slice pa1 y.ps.length pc1, .string y.r, .int .i64 y.l, .slice pa4 y.c.length pc4] 48)).heap.size (meD y) [.string y.n, .slice pa1 y.ps.length pc1, .string y.r, .int .i64 y.l, .slice pa4 y.c.length pc4]) := hide ((ou.below bA5).up (by simp)); have hsJ : wr.heap.size ≤ (w5.alloc (.cells #[.string y.n, .slice pa1 y.ps.length pc1, .string y.r, .int .i64 y.l, .slice pa4 y.c.length pc4] 48)).heap.size := (by have h1 : wr.heap.size ≤ w5.heap.size := hs5; simp; omega); clear hc5 hg5 hq5 bA5)
                  | (refine step_appL rfl _ _ 25 rfl (L + 1) wr.heap.size wr.heap.size 48 i2 (.agg #[.string ByteArray.empty, .slice none 0 0, .string ByteArray.empty, .int .i64 0, .slice none 0 0]) 5 88 Tryz.underlying25 HI2.out.1 HI2.out.2.1 HI2.out.2.2.1 HI2.out.2.2.2 rfl (by decide) (.slice pa xs.length pc) xs.length (xs.flatMap meD) [.val (.string n), .val (.string s), .row 42 4 p.length (p.flatMap kcD), .row 45 2 f.length (f.flatMap fdD)] [] [.string n, .string s, .slice pp p.length cp, .slice pf f.length cf] [] (by rfl) HOw.out rfl w5.heap.size 1 [.string y.n, .slice pa1 y.ps.length pc1, .string y.r, .int .i64 y.l, .slice pa4 y.c.length pc4] (meD y) (by rfl) HBx.out HDs.out rfl (by simp [Value.oneCell']) (by omega) (by decide) (Nat.le_refl _) (by omega) hsJ ?_; intro g9 c9 w6 o6 g6 q6; have HK := hide (HJ1.out.app (v1 := [.string n, .string s, .slice pp p.length cp, .slice pf f.length cf]) 4 rfl o6 g6 (fun q hq => (q6 q hq).1)); have f9 := (box_of HK.out.1).1 4 _ rfl; have z9 := (box_of HK.out.1).2; clear o6 g6 q6)
                  | fail)
              all_goals (
                go_wp2_with fail
                refine ⟨⟨xs ++ [y], _, some ⟨g9, 0, none⟩, c9, by simp; omega, by first | go_num | (simp; go_num) | (simp; done), hide (by rw [List.length_append, List.flatMap_append]; simpa using HK.out.2), hide ?_, hide ?_⟩, by simp [intOf]; omega⟩
                · rw [HN.out, show N - xs.length = N - (xs ++ [y]).length + 1 from by simp; omega]
                  exact lR_step (rest := fun m k => some ((⟨n, s, p, f, m⟩ : Cl), k)) HQ.out
                · intro k hk
                  obtain ⟨⟨x, k'⟩, h1, h2⟩ := Option.map_eq_some_iff.1 hk
                  have := me_adv HZ.out h1
                  simp only at h2
                  simp
                  omega)
          · have hjn' : xs.length = N := by omega
            go_wp2_with fail
            go_meet
            exact ⟨xs, st, pa, pc, HS, hide (by rw [HN.out, hjn', Nat.sub_self]; congr 1; funext k; exact lR_zero _ _ _ _)⟩
      case rest =>
        clear HS HN HA
        obtain ⟨ms, st, pm, cm, HS, HN⟩ := hcut
        have hLc := HS.out.lt
        have hLL := HS.out.hL
        have HB : Hid (Below w.heap.size w wc) := hide (HBW.out.grown HS.out.grown HBW.out.size (fun k hk => by cases hk; omega))
        have sB := HB.out.size
        have ER := hide ((HS.out.grown.block w.heap.size (by omega) (fun e => by have := Option.some.inj e; omega)).trans E0.out)
        obtain ⟨kk, hcu, _⟩ := HS.out.cur
        have y2 := (box_of hcu.pl).1 2 _ rfl
        clear hcu
        cases st with
        | none =>
          simp only [Option.isSome_none] at y2
          have HMo : Hid (clOf zs = none) := hide (by rw [HM.out, HN.out]; rfl)
          have ERq : Hid (∀ q, (wc.drewN q).heap[w.heap.size]? = some (.cells #[.string ⟨#[]⟩, .string ⟨#[]⟩, .slice none 0 0, .slice none 0 0, .slice none 0 0] 27 (0, 0))) := hide (fun q => ER.out)
          have HBq : Hid (∀ q, Below w.heap.size w (wc.drewN q)) := hide (fun q => ⟨HB.out.os, HB.out.tape, HB.out.output, HB.out.size, HB.out.block⟩)
          have X := box_of ER.out
          have HX := hide X.1
          have zz := X.2
          have c0 := HX.out 0 _ rfl
          have c1 := HX.out 1 _ rfl
          have c2 := HX.out 2 _ rfl
          have c3 := HX.out 3 _ rfl
          have c4 := HX.out 4 _ rfl
          clear X
          go_upto_region 21 with fail
          go_quiet (fail)
          go_wp2
          exact bodyPost_ret (v := .tuple #[zeroCl, .bool false]) (results_ct Tryz.results4 _ _ _ rfl (loadCl (putN5 (ERq.out _) _ _ _ _ _))) rfl ⟨⟨_, by rw [HMo.out]; rfl, by rw [HMo.out]; exact rowCl_zero _ _ (by simp; omega)⟩, below_put5 (HBq.out _) (Nat.le_refl _) _ _ _ _ _⟩
        | some k =>
          simp only [Option.isSome_some] at y2
          have HGG : Hid (GG = some (⟨n, s, p, f, ms⟩, k)) := hide HN.out
          have hne := HNE.out _ _ HGG.out
          have HG := hide (HCG.out _ _ HGG.out)
          have hlp : 0 < len := by
            rcases Nat.eq_zero_or_pos zs.length with h0 | h0
            · exact absurd (List.length_eq_zero_iff.1 h0) hne
            · omega
          obtain ⟨b0, o0, rfl, hb0, _⟩ := HIN.out.2.2.2 hlp
          have HIR := hide (HIN.out.low HB.out (Nat.le_refl _))
          have hd0 : ((len : Int) == 0) = false := by simp; omega
          obtain ⟨bs, hbs⟩ : ∃ bs, clY ⟨n, s, p, f, ms⟩ = bs := ⟨_, rfl⟩
          have HMB := hide hbs
          have HMY : Hid (Byt bs) := hide (by rw [← hbs]; exact clYs_byt HG.out)
          clear hbs
          have hcI : (convert 22 9 (.slice (some ⟨b0, o0, none⟩) len cap)).run Tryz.prog wc.drew = .ok (.string (strOfNums zs)) wc.drew := in_str cap (HIR.out.drewN 1)
          have HD0 : Hid (Below wc.heap.size wc wc.drew) := hide (Below.refl wc.heap.size wc).drew
          obtain ⟨R1, R2, R3⟩ := clD_own (x := ⟨n, s, p, f, ms⟩) (HS.out.own.below HD0.out)
          have HR1 := hide R1
          have HR2 := hide R2
          have HR3 := hide R3
          clear R1 R2 R3
          have Y2 := hide y2
          have HSS : Hid (∀ w', Below wc.heap.size wc w' → w'.cell? ⟨w.heap.size + 1, 2, none⟩ = some (.bool true) ∧ w'.cell? ⟨L, 0, none⟩ = some (.string n) ∧ w'.cell? ⟨L, 1, none⟩ = some (.string s) ∧ w'.cell? ⟨L, 2, none⟩ = some (.slice pp p.length cp) ∧ w'.cell? ⟨L, 3, none⟩ = some (.slice pf f.length cf) ∧ w'.cell? ⟨L, 4, none⟩ = some (.slice pm ms.length cm)) := hide (fun w' hw => ⟨(hw.cell (p := ⟨w.heap.size + 1, 2, none⟩) (by dsimp only; omega)).trans Y2.out, (hw.cell (p := ⟨L, 0, none⟩) (by dsimp only; omega)).trans ((box_of HS.out.box).1 0 _ rfl), (hw.cell (p := ⟨L, 1, none⟩) (by dsimp only; omega)).trans ((box_of HS.out.box).1 1 _ rfl), (hw.cell (p := ⟨L, 2, none⟩) (by dsimp only; omega)).trans ((box_of HS.out.box).1 2 _ rfl), (hw.cell (p := ⟨L, 3, none⟩) (by dsimp only; omega)).trans ((box_of HS.out.box).1 3 _ rfl), (hw.cell (p := ⟨L, 4, none⟩) (by dsimp only; omega)).trans ((box_of HS.out.box).1 4 _ rfl)⟩)
          clear y2
          by_cases heq : bs = zs
          · have hse : ((strOfNums bs).toList == (strOfNums zs).toList) = true := by rw [str_eq _ _ HMY.out HZ.out]; exact decide_eq_true heq
            have HMo : Hid (clOf zs = some ⟨n, s, p, f, ms⟩) := hide (by
              rw [HM.out, HGG.out]
              simp only [Option.bind_some]
              rw [if_pos ⟨hne, HMB.out.trans heq⟩])
            clear heq
            go_upto_region 21 with fail
            go_region_held_law (fun w' => w'.cell? ⟨w.heap.size + 1, 2, none⟩ = some (.bool true) ∧ w'.cell? ⟨L, 0, none⟩ = some (.string n) ∧ w'.cell? ⟨L, 1, none⟩ = some (.string s) ∧ w'.cell? ⟨L, 2, none⟩ = some (.slice pp p.length cp) ∧ w'.cell? ⟨L, 3, none⟩ = some (.slice pf f.length cf) ∧ w'.cell? ⟨L, 4, none⟩ = some (.slice pm ms.length cm))
              (first | exact HSS.out _ HD1.out | exact HSS.out _ HD0.out)
              (first
                | (refine step_callW (some 97) rfl (by kernel_rfl) 16 _ _ rfl #[.agg #[.string n, .string s, .slice pp p.length cp, .slice pf f.length cf, .slice pm ms.length cm]] (by kernel_rfl) (clBySpec _ ⟨n, s, p, f, ms⟩ _ _ _ HR1.out HR2.out HR3.out HG.out) ?_; rintro e x1 ⟨v1, rfl, o1, b1⟩; refine ⟨_, rfl, ?_⟩; rw [HMB.out] at o1; obtain ⟨a1, q1, rfl⟩ := own_shape o1; have hcv := own_str o1; have HD1 : Hid (Below wc.heap.size wc x1) := hide (HD0.out.trans (b1.mono HD0.out.size)); have hcI1 : (convert 22 9 (.slice (some ⟨b0, o0, none⟩) len cap)).run Tryz.prog x1 = .ok (.string (strOfNums zs)) x1 := in_str cap (HIR.out.low HD1.out sB); clear b1 o1)
                | fail)
            all_goals (
              have ERQ := hide ((HD1.out.block w.heap.size (by omega)).trans ER.out)
              have HBq := hide (HB.out.trans (HD1.out.mono sB))
              have hsq := HD1.out.size
              have HOq := hide (HS.out.own.below HD1.out)
              have EL := hide ((HD1.out.block L hLc).trans HS.out.box)
              have m0 := (box_of EL.out).1 0 _ rfl
              have m1 := (box_of EL.out).1 1 _ rfl
              have m2 := (box_of EL.out).1 2 _ rfl
              have m3 := (box_of EL.out).1 3 _ rfl
              have m4 := (box_of EL.out).1 4 _ rfl
              have hi5 : (Tryz.prog.info? 27).map (·.size) = some (#[.string n, .string s, .slice pp p.length cp, .slice pf f.length cf, .slice pm ms.length cm] : Array Value).size := by kernel_rfl
              have ho5 : (#[.string n, .string s, .slice pp p.length cp, .slice pf f.length cf, .slice pm ms.length cm] : Array Value).all (·.oneCell') = true := by simp [Value.oneCell']
              clear HSS HR1 HR2 HR3 HS ER HB HIR HD0 HN HBW E0 HIN HCG HNE HM HGG HG HMB HMY HI0 HI1 HI2 Y2 hcI hcI1 hcv hse
              go_upto_region 23 with fail
              go_wp2_with (refine wpList_store_rowTo rfl 27 (.tmp 2) (.tmp 104) rfl rfl w.heap.size #[.string n, .string s, .slice pp p.length cp, .slice pf f.length cf, .slice pm ms.length cm] rfl rfl _ _ ERQ.out hi5 rfl ho5 ?_)
              refine bodyPost_ret (v := .tuple #[.agg #[.string n, .string s, .slice pp p.length cp, .slice pf f.length cf, .slice pm ms.length cm], .bool true]) (results_ct Tryz.results4 _ _ _ rfl (loadCl (setRow_heap x1 w.heap.size _ _ _ _ ERQ.out))) rfl ⟨⟨_, by rw [HMo.out]; rfl, ?_⟩, below_setRow HBq.out (Nat.le_refl _) _⟩
              rw [HMo.out]
              exact ⟨_, _, _, rfl, ((OwnDL.same HOq.out (fun q hq _ _ => setRow_other _ _ _ _ (by omega))).mono (by omega)).up (by simp; omega)⟩)
          · have hse : ((strOfNums bs).toList == (strOfNums zs).toList) = false := by rw [str_eq _ _ HMY.out HZ.out]; exact decide_eq_false heq
            have HMo : Hid (clOf zs = none) := hide (by
              rw [HM.out, HGG.out]
              simp only [Option.bind_some]
              rw [if_neg (fun h => heq (HMB.out.symm.trans h.2))])
            clear heq
            go_upto_region 21 with fail
            go_region_held_law (fun w' => w'.cell? ⟨w.heap.size + 1, 2, none⟩ = some (.bool true) ∧ w'.cell? ⟨L, 0, none⟩ = some (.string n) ∧ w'.cell? ⟨L, 1, none⟩ = some (.string s) ∧ w'.cell? ⟨L, 2, none⟩ = some (.slice pp p.length cp) ∧ w'.cell? ⟨L, 3, none⟩ = some (.slice pf f.length cf) ∧ w'.cell? ⟨L, 4, none⟩ = some (.slice pm ms.length cm))
              (first | exact HSS.out _ HD1.out | exact HSS.out _ HD0.out)
              (first
                | (refine step_callW (some 97) rfl (by kernel_rfl) 16 _ _ rfl #[.agg #[.string n, .string s, .slice pp p.length cp, .slice pf f.length cf, .slice pm ms.length cm]] (by kernel_rfl) (clBySpec _ ⟨n, s, p, f, ms⟩ _ _ _ HR1.out HR2.out HR3.out HG.out) ?_; rintro e x1 ⟨v1, rfl, o1, b1⟩; refine ⟨_, rfl, ?_⟩; rw [HMB.out] at o1; obtain ⟨a1, q1, rfl⟩ := own_shape o1; have hcv := own_str o1; have HD1 : Hid (Below wc.heap.size wc x1) := hide (HD0.out.trans (b1.mono HD0.out.size)); have hcI1 : (convert 22 9 (.slice (some ⟨b0, o0, none⟩) len cap)).run Tryz.prog x1 = .ok (.string (strOfNums zs)) x1 := in_str cap (HIR.out.low HD1.out sB); clear b1 o1)
                | fail)
            all_goals (
              have ERQ := hide ((HD1.out.block w.heap.size (by omega)).trans ER.out)
              have HBq := hide (HB.out.trans (HD1.out.mono sB))
              have hsq := HD1.out.size
              have HOq := hide (HS.out.own.below HD1.out)
              have EL := hide ((HD1.out.block L hLc).trans HS.out.box)
              have m0 := (box_of EL.out).1 0 _ rfl
              have m1 := (box_of EL.out).1 1 _ rfl
              have m2 := (box_of EL.out).1 2 _ rfl
              have m3 := (box_of EL.out).1 3 _ rfl
              have m4 := (box_of EL.out).1 4 _ rfl
              have hi5 : (Tryz.prog.info? 27).map (·.size) = some (#[.string ⟨#[]⟩, .string ⟨#[]⟩, .slice none 0 0, .slice none 0 0, .slice none 0 0] : Array Value).size := by kernel_rfl
              have ho5 : (#[.string ⟨#[]⟩, .string ⟨#[]⟩, .slice none 0 0, .slice none 0 0, .slice none 0 0] : Array Value).all (·.oneCell') = true := by simp [Value.oneCell']
              clear HSS HR1 HR2 HR3 HS ER HB HIR HD0 HN HBW E0 HIN HCG HNE HM HGG HG HMB HMY HI0 HI1 HI2 Y2 hcI hcI1 hcv hse
              go_upto_region 22 with fail
              go_wp2_with (refine wpList_store_rowTo rfl 27 (.tmp 2) (.tmp 103) rfl rfl w.heap.size #[.string ⟨#[]⟩, .string ⟨#[]⟩, .slice none 0 0, .slice none 0 0, .slice none 0 0] rfl rfl _ _ ERQ.out hi5 rfl ho5 ?_)
              exact bodyPost_ret (v := .tuple #[zeroCl, .bool false]) (results_ct Tryz.results4 _ _ _ rfl (loadCl (setRow_heap x1 w.heap.size _ _ _ _ ERQ.out))) rfl ⟨⟨_, by rw [HMo.out]; rfl, by rw [HMo.out]; exact rowCl_zero _ _ (by simp; omega)⟩, below_setRow HBq.out (Nat.le_refl _) _⟩)
end Go.Proofs.YtpgmipbanpofaaaGreatDoor
