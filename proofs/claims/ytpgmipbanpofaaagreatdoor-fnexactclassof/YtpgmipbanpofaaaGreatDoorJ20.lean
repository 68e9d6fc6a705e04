/-
  Joined: ClsB, TakeCl, TakeCm.
-/
import Derived.Test.YtpgmipbanpofaaaGreatDoorJ19
import Derived.Test.YtpgmipbanpofaaaGreatDoorJ12
import Derived.Test.YtpgmipbanpofaaaGreatDoorJ8
import Derived.Test.YtpgmipbanpofaaaGreatDoorJ14
/-
  The bytes of a class, by the program.
-/
namespace Go.Proofs.YtpgmipbanpofaaaGreatDoor
open Go.RowKit

def kcY (x : Kc) : List Int := kB x.k x.n x.a x.b
def fdY (x : Fd) : List Int := pt x.n ++ pt x.t
def rowY {α : Type} (g : α → List Int) (xs : List α) : List Int := pn (xs.length : Int) ++ xs.flatMap g
def meY (x : Me) : List Int := pt x.n ++ rowY pt x.ps ++ pt x.r ++ pn x.l ++ pn (x.c.length : Int) ++ x.c
def clY0 (x : Cl) : List Int := pt x.n ++ pt x.s ++ rowY kcY x.p ++ rowY fdY x.f ++ rowY meY x.m
def clY (x : Cl) : List Int := bif clB x then clY0 x else []

theorem flat_le {α : Type} {g : α → List Int} {k : Nat} : ∀ (xs : List α), (∀ y ∈ xs, (g y).length ≤ k) → (xs.flatMap g).length ≤ xs.length * k
  | [], _ => by simp
  | x :: xs, h => by
    have h1 := h x (by simp)
    have h2 := flat_le xs (fun y hy => h y (by simp [hy]))
    rw [List.flatMap_cons, List.length_append, List.length_cons, Nat.succ_mul]; omega
theorem flat_take_le {α : Type} {g : α → List Int} {k : Nat} {xs : List α} (h : ∀ y ∈ xs, (g y).length ≤ k) (j : Nat) (hj : j ≤ xs.length) : ((xs.take j).flatMap g).length ≤ j * k := by
  have := flat_le (xs.take j) (fun y hy => h y (List.mem_of_mem_take hy))
  rwa [List.length_take, Nat.min_eq_left hj] at this
theorem flat_step {α : Type} [Inhabited α] (g : α → List Int) (xs : List α) (j : Nat) (h : j < xs.length) : (xs.take (j + 1)).flatMap g = (xs.take j).flatMap g ++ g (xs.getD j default) := by
  have : xs.getD j default = xs[j] := by simp [h]
  rw [List.take_succ_eq_append_getElem h, List.flatMap_append, this]
  simp
theorem byt_flat {α : Type} {g : α → List Int} : ∀ (xs : List α), (∀ y ∈ xs, Byt (g y)) → Byt (xs.flatMap g)
  | [], _ => fun z hz => by simp at hz
  | x :: xs, h => by
    rw [List.flatMap_cons]
    exact (h x (by simp)).append (byt_flat xs (fun y hy => h y (by simp [hy])))
theorem rowY_byt {α : Type} {g : α → List Int} {xs : List α} (h : ∀ y ∈ xs, Byt (g y)) : Byt (rowY g xs) := (pn_byt _).append (byt_flat xs h)
theorem rowY_len {α : Type} {g : α → List Int} {k : Nat} {xs : List α} (h : ∀ y ∈ xs, (g y).length ≤ k) : (rowY g xs).length ≤ 4 + xs.length * k := by
  have := flat_le xs h
  have h2 := pn_len (xs.length : Int)
  unfold rowY
  rw [List.length_append]; omega
theorem pt_pos (s : ByteArray) (h : s.size ≤ 200) : 0 < (pt s).length := by
  rw [pt_in s h, List.length_append]
  have := pn_pos (s.size : Int) (by omega) (by omega)
  omega
theorem rowY_pos {α : Type} (g : α → List Int) (xs : List α) (h : xs.length ≤ 1000) : 0 < (rowY g xs).length := by
  unfold rowY
  have := pn_pos (xs.length : Int) (by omega) (by omega)
  rw [List.length_append]; omega
theorem kcY_len (x : Kc) : (kcY x).length ≤ 412 := kB_len _ _ _ _
theorem kcY_byt (x : Kc) : Byt (kcY x) := kB_byt _ _ _ _
theorem fdY_len (x : Fd) : (fdY x).length ≤ 408 := by
  unfold fdY
  have := pt_len x.n
  have := pt_len x.t
  rw [List.length_append]; omega
theorem fdY_byt (x : Fd) : Byt (fdY x) := (ptByt _).append (ptByt _)
/-- A method whose bytes are not too many. -/
def MeS (x : Me) : Prop := x.n.size ≤ 200 ∧ x.r.size ≤ 200 ∧ x.ps.length ≤ 3 ∧ (∀ s ∈ x.ps, s.size ≤ 200) ∧ x.c.length ≤ 90 ∧ Byt x.c
theorem meY_len (x : Me) (h : MeS x) : (meY x).length ≤ 2000 := by
  have h1 := pt_len x.n
  have h2 := pt_len x.r
  have h3 := rowY_len (g := pt) (k := 204) (xs := x.ps) (fun y _ => pt_len y)
  have h4 := pn_len x.l
  have h5 := pn_len (x.c.length : Int)
  have h6 := h.2.2.1
  have h7 := h.2.2.2.2.1
  unfold meY
  simp only [List.length_append]; omega
theorem meY_byt (x : Me) (h : MeS x) : Byt (meY x) := ((((((ptByt _).append (rowY_byt (fun y _ => ptByt y))).append (ptByt _)).append (pn_byt _)).append (pn_byt _)).append h.2.2.2.2.2)
theorem name_len {s : ByteArray} (h : nameB s = true) : s.size ≤ 8 := by
  unfold nameB at h
  rw [Bool.and_eq_true] at h
  have := inB_yes h.1
  omega
/-- Of a class that is right. -/
structure ClS (x : Cl) : Prop where
  n : x.n.size ≤ 200
  s : x.s.size ≤ 200
  p : x.p.length ≤ 24
  f : x.f.length ≤ 8
  m : x.m.length ≤ 6
  fs : ∀ y ∈ x.f, y.n.size ≤ 200 ∧ y.t.size ≤ 200
  ms : ∀ y ∈ x.m, MeS y
theorem clS_of {x : Cl} (h : clB x = true) (hg : ClG x) : ClS x := by
  unfold clB namB poolB fldsB metsB clsB at h
  simp only [Bool.and_eq_true, Bool.or_eq_true, decide_eq_true_eq, List.all_eq_true] at h
  obtain ⟨⟨⟨⟨⟨h1, _⟩, h2⟩, ⟨h3, _⟩, _⟩, ⟨h4, h5⟩, _⟩, ⟨h6, h7⟩, _⟩ := h
  refine ⟨by have := name_len h1; omega, ?_, h3, h4, h6, fun y hy => ?_, fun y hy => ?_⟩
  · rcases h2 with h2 | ⟨h2, _⟩
    · have : x.s.size = 0 := by
        rw [List.isEmpty_iff, ByteArray.toList_eq] at h2
        have h3 := congrArg List.length h2
        rw [Array.length_toList] at h3
        exact h3
      omega
    · have := name_len h2; omega
  · have := h5 y hy
    unfold fdB at this
    rw [Bool.and_eq_true] at this
    have a := name_len this.1
    have b := name_len this.2
    omega
  · have := h7 y hy
    unfold meB at this
    simp only [Bool.and_eq_true, decide_eq_true_eq, List.all_eq_true] at this
    obtain ⟨⟨⟨⟨a1, a2, a3⟩, a4⟩, _⟩, a5⟩ := this
    have b1 := name_len a1
    have b2 := name_len a4
    have b3 := inB_yes a5
    exact ⟨by omega, by omega, a2, fun s hs => by have := name_len (a3 s hs); omega, by omega, (hg.ms y hy).2.2.1.2.2⟩

end Go.Proofs.YtpgmipbanpofaaaGreatDoor
/-
  Readers of texts, consts, fields, methods and classes.
-/
namespace Go.Proofs.YtpgmipbanpofaaaGreatDoor
open Go.RowKit

def rTx (zs : List Int) (k : Nat) : Option (ByteArray × Nat) := gtx zs (k : Int)
def kcOf (c : Int × Int × ByteArray × ByteArray) : Kc := ⟨c.1, c.2.1, c.2.2.1, c.2.2.2⟩
def rKc (zs : List Int) (k : Nat) : Option (Kc × Nat) := (rK0 zs (k : Int)).map fun q => (kcOf q.1, q.2)
def rFd (zs : List Int) (k : Nat) : Option (Fd × Nat) := (rTx zs k).bind fun a => (rTx zs a.2).bind fun b => some (⟨a.1, b.1⟩, b.2)
def rBy (zs : List Int) (k : Nat) : Option (Int × Nat) := if k < zs.length then some (zs.getD k 0, k + 1) else none
def rMe (zs : List Int) (k : Nat) : Option (Me × Nat) := (rTx zs k).bind fun n => (rMany zs (rTx zs) 3 n.2).bind fun ps => (rTx zs ps.2).bind fun r => (gnF zs 4 r.2 0 1).bind fun l => (rMany zs (rBy zs) 90 l.2).bind fun c => some (⟨n.1, ps.1, r.1, l.1, c.1⟩, c.2)
def rCl (zs : List Int) (k : Nat) : Option (Cl × Nat) := (rTx zs k).bind fun n => (rTx zs n.2).bind fun s => (rMany zs (rKc zs) 24 s.2).bind fun p => (rMany zs (rFd zs) 8 p.2).bind fun f => (rMany zs (rMe zs) 6 f.2).bind fun m => some (⟨n.1, s.1, p.1, f.1, m.1⟩, m.2)

theorem grownNew {w wr : World} {p g : Nat} (h : w.grownBy wr (some p)) (hg : w.heap.size ≤ g) (o : Nat) (v : Value) : w.grownBy (wr.setCell ⟨g, o, none⟩ v) (some p) := grownSet h hg o v
theorem setPlace {w : World} {g p : Nat} (h : p < g) (o : Nat) (u : Value) : (w.setCell ⟨g, o, none⟩ u).heap[p]? = w.heap[p]? := heap_setCell_other w ⟨g, o, none⟩ p u (by simp; omega)

theorem rdText {w : World} {B : Nat} {a : Option Addr} {len : Nat} {zs : List Int} {p k : Nat} {t : TypeId} {v : Value} (cap : Nat) (hcap : len ≤ cap) (h : Rdr w B a len zs p k t v) :
    Calls Tryz.prog 62 #[.slice a len cap, .pointer (some ⟨p, 0, none⟩)] w (tookG Value.string w p t v (rTx zs k)) := by
  have e : rTx zs k = gtOf zs (gnF zs 4 k 0 1) := by unfold rTx gtx; rw [gn_nat]
  rw [e]
  refine (takeText w a len cap zs B p (k : Int) t v (gnF zs 4 k 0 1) h.inp hcap h.hB h.hp0 h.err h.pl (fun n nx hr => ?_) (rdNum cap h)).mono ?_
  · obtain ⟨h1, h2, h3, h4⟩ := gnF_bd zs (fun j => by
      by_cases hj : j < zs.length
      · exact (byt_of_in h.inp).at j hj |>.1
      · rw [List.getD_eq_getElem?_getD, List.getElem?_eq_none (by omega)]; simp) 4 k 0 1 n nx (by omega) (by omega) hr
    exact ⟨h1, h2, by omega, h4⟩
  · rintro e w' ⟨h1, h2⟩
    exact ⟨h1, h2⟩
theorem rdConst {w : World} {B : Nat} {a : Option Addr} {len : Nat} {zs : List Int} {p k : Nat} {t : TypeId} {v : Value} (cap : Nat) (hcap : len ≤ cap) (h : Rdr w B a len zs p k t v) :
    Calls Tryz.prog 64 #[.slice a len cap, .pointer (some ⟨p, 0, none⟩)] w (tookG kcV w p t v (rKc zs k)) := by
  refine (takeConst w a len cap zs B p (k : Int) t v h.inp hcap h.hB h.hp0 h.err h.pl).mono ?_
  rintro e w' ⟨h1, h2⟩
  refine ⟨?_, h2⟩
  rcases h1 with ⟨c, nx, hr, rfl, hp⟩ | ⟨hr, rfl⟩
  · exact .inl ⟨kcOf c, nx, by unfold rKc; rw [hr]; rfl, rfl, hp⟩
  · exact .inr ⟨by unfold rKc; rw [hr]; rfl, rfl⟩
set_option maxHeartbeats 1000000 in
theorem rdByte {w : World} {B : Nat} {a : Option Addr} {len : Nat} {zs : List Int} {p k : Nat} {t : TypeId} {v : Value} (cap : Nat) (h : Rdr w B a len zs p k t v) :
    Calls Tryz.prog 87 #[.slice a len cap, .pointer (some ⟨p, 0, none⟩)] w (tookG (Value.int .u8) w p t v (rBy zs k)) := by
  have hl := h.inp.1
  by_cases hk : k < zs.length
  · have HN : Hid (rBy zs k = some (zs.getD k 0, k + 1)) := hide (by unfold rBy; rw [if_pos hk])
    have hz := (byt_of_in h.inp).at k hk
    have HC := hide (takeByteYes w a len cap zs B p k h.inp h.pl (by omega))
    have hpl := h.pl
    clear h
    go_enter Tryz.func87, Tryz.ntmps87
    go_wp2_with fail
    refine (unhide HC).mono ?_
    rintro e w1 ⟨rfl, rfl⟩
    have hw : IntKind.u8.wrap (zs.getD k 0) = zs.getD k 0 := by rw [IntKind.wrap_u8]; omega
    have HP := hide hpl
    generalize zs.getD k 0 = z at *
    go_wp2
    go_ret
    exact ⟨.inl ⟨_, _, HN.out, rfl, by have := heap_setCell_same w p 0 _ 3 (.int .i64 ((k : Int) + 1)) HP.out; exact this⟩, grown_set (World.grownBy.refl w _) _ _⟩
  · have HN : Hid (rBy zs k = none) := hide (by unfold rBy; rw [if_neg hk])
    have HC := hide (takeByteNo w a len cap p (k : Int) t v h.pl (.inr (by omega)) h.err)
    clear h
    go_enter Tryz.func87, Tryz.ntmps87
    go_wp2_with fail
    refine (unhide HC).mono ?_
    rintro e w1 ⟨rfl, rfl⟩
    go_wp2
    exact ⟨rfl, .inr ⟨HN.out, rfl⟩, World.grownBy.refl _ _⟩
set_option maxRecDepth 100000 in
set_option maxHeartbeats 2000000 in
theorem rdField {w : World} {B : Nat} {a : Option Addr} {len : Nat} {zs : List Int} {p k : Nat} {t : TypeId} {v : Value} (cap : Nat) (hcap : len ≤ cap) (h : Rdr w B a len zs p k t v) :
    Calls Tryz.prog 66 #[.slice a len cap, .pointer (some ⟨p, 0, none⟩)] w (tookG fdV w p t v (rFd zs k)) := by
  have hlt := h.lt
  have HR := hide (h.alloc (.cells #[.string ⟨#[]⟩, .string ⟨#[]⟩] 45))
  have HA := hide (World.grownBy_alloc w (.cells #[.string ⟨#[]⟩, .string ⟨#[]⟩] 45) (some p))
  have HE := hide (heap_alloc_new w (.cells #[.string ⟨#[]⟩, .string ⟨#[]⟩] 45))
  clear h
  go_enter Tryz.func66, Tryz.ntmps66
  go_wp2_with fail
  refine (rdText cap hcap HR.out).mono ?_
  rintro e w1 ⟨hres, g1⟩
  have HG := hide (grownBy_trans HA.out g1)
  rcases hres with ⟨x, k1, hr1, rfl, hp1⟩ | ⟨hr1, rfl⟩
  · have HR1 := hide (HR.out.next g1 hp1)
    have HE1 := hide ((g1.block w.heap.size (by simp) (fun e => by cases e; omega)).trans HE.out)
    have H1 := hide hr1
    clear g1 hp1 hr1 HR HE HA
    go_wp2_with fail
    refine (rdText cap hcap HR1.out).mono ?_
    rintro e w2 ⟨hres, g2⟩
    have hs1 : w.heap.size < w1.heap.size := (Array.getElem?_eq_some_iff.1 HE1.out).1
    replace HG := hide (grownBy_trans HG.out g2)
    rcases hres with ⟨y, k2, hr2, rfl, hp2⟩ | ⟨hr2, rfl⟩
    · have HE2 := hide ((g2.block w.heap.size hs1 (fun e => by cases e; omega)).trans HE1.out)
      have HN : Hid (rFd zs k = some (⟨x, y⟩, k2)) := hide (by unfold rFd; rw [H1.out]; simp only [Option.bind_some]; rw [hr2]; rfl)
      have HP := hide hp2
      have X := box_of HE2.out
      have f0 := X.1 0 _ rfl
      have f1 := X.1 1 _ rfl
      have z0 := X.2 0
      have z1 := X.2 1
      clear g2 hp2 hr2 HE1 HR1 X
      go_wp2
      refine bodyPost_ret (v := .agg #[.string x, .string y]) (results_one Tryz.results66 _ _ _ rfl (loadFd (putN2 HE2.out _ _))) rfl ⟨.inl ⟨_, _, HN.out, rfl, ?_⟩, grownNew (grownNew HG.out (Nat.le_refl _) _ _) (Nat.le_refl _) _ _⟩
      rw [setPlace hlt, setPlace hlt]
      exact HP.out
    · have HN : Hid (rFd zs k = none) := hide (by unfold rFd; rw [H1.out]; simp only [Option.bind_some]; rw [hr2]; rfl)
      clear g2 hr2 HE1 HR1
      go_wp2
      exact ⟨rfl, .inr ⟨HN.out, rfl⟩, HG.out⟩
  · have HN : Hid (rFd zs k = none) := hide (by unfold rFd; rw [hr1]; rfl)
    clear g1 hr1
    go_wp2
    exact ⟨rfl, .inr ⟨HN.out, rfl⟩, HG.out⟩
set_option maxRecDepth 100000 in
set_option maxHeartbeats 4000000 in
theorem rdListSt {w : World} {B : Nat} {a : Option Addr} {len : Nat} {zs : List Int} {p k : Nat} {t : TypeId} {v : Value} (cap : Nat) (hcap : len ≤ cap) (h : Rdr w B a len zs p k t v) :
    Calls Tryz.prog 85 #[.slice a len cap, .pointer (some ⟨p, 0, none⟩), .int .i64 3, .func (.func 62) #[] #[]] w (tookL (fun w' v xs => OwnD w' w.heap.size w'.heap.size (strs xs) v) w p t v (rMany zs (rTx zs) 3 k)) := by
  have hlt := h.lt
  have HZ := hide (byt_of_in h.inp)
  have HR := hide h
  clear h
  generalize hGG : rMany zs (rTx zs) 3 k = G
  have HGG := hide hGG
  clear hGG
  obtain ⟨i0, hi, hz0, hz1, hz2⟩ := info_parts Tryz.infoSt
  have HI := hide (And.intro hi (And.intro hz0 (And.intro hz1 hz2)))
  clear hi hz0 hz1 hz2
  go_enter Tryz.func85, Tryz.ntmps85
  go_wp2_with fail
  refine (rdNum cap HR.out).mono ?_
  rintro e w1 ⟨hres, g1⟩
  have HG := hide g1
  rcases hres with ⟨n, k1, hr1, rfl, hp1⟩ | ⟨hr1, rfl⟩
  · have HR1 := hide (HR.out.next g1 hp1)
    have hE : w1.cell? ⟨0, 0, none⟩ = some (.iface t v) := HR1.out.err
    have hn0 := (num_back HZ.out hr1).1
    unfold rMany at HGG
    rw [hr1] at HGG
    clear g1 hp1 hr1 HR
    by_cases hn : 3 < n
    · have HN : Hid (G = none) := hide (by rw [← HGG.out]; simp [hn])
      clear HGG HR1
      go_wp2
      exact ⟨rfl, .inr ⟨HN.out, rfl⟩, HG.out⟩
    · have HN : Hid (G = rList (rTx zs) n.toNat k1) := hide (by rw [← HGG.out]; simp [hn])
      clear HGG hE
      obtain ⟨N, rfl⟩ := Int.eq_ofNat_of_zero_le hn0
      rw [Int.toNat_natCast] at HN
      have hs1 := HG.out.size
      go_wp2
      go_loopw [10, 19] (fun l i wr => ∃ (j kj : Nat) (xs : List ByteArray), j ≤ N ∧ i = .int .i64 (j : Int) ∧ xs.length = j ∧ Hid (Rdr wr B a len zs p kj t v) ∧ Hid (OwnD wr w.heap.size wr.heap.size (.row 9 1 j (xs.flatMap txD)) l) ∧ Hid (G = (rList (rTx zs) (N - j) kj).bind fun r => some (xs ++ r.1, r.2)) ∧ Hid (w.grownBy wr (some p))) (fun _ i _ => N - (intOf i).toNat)
      case atStart => exact ⟨0, k1, [], by omega, rfl, rfl, HR1, hide (ownD_nil _ _ _ _ _), hide (by rw [HN.out]; cases rList (rTx zs) N k1 <;> rfl), HG⟩
      case round =>
        clear HN HR1 HG
        obtain ⟨j, kj, xs, hj, rfl, hxl, HR1, HO, HN, HG⟩ := hrel
        by_cases hj' : j < N
        · go_wp2_with fail
          refine (rdText cap hcap HR1.out).mono ?_
          rintro e w2 ⟨hres, g2⟩
          have hle := HG.out.size
          rcases hres with ⟨z, k2, hr2, rfl, hp2⟩ | ⟨hr2, rfl⟩
          · have HR2 := hide (HR1.out.next g2 hp2)
            have HO2 := hide ((HO.out.grownP g2 hlt))
            have hs12 := g2.size
            have HG2 := hide (grownBy_trans HG.out g2)
            have HN2 : Hid (G = (rList (rTx zs) (N - (j + 1)) k2).bind fun r => some (xs ++ [z] ++ r.1, r.2)) := hide (by
              rw [HN.out, show N - j = (N - (j + 1)) + 1 from by omega, rList, hr2]
              simp only [Option.bind_some, Option.bind_assoc]
              congr 1
              funext r
              simp)
            clear g2 hp2 hr2 HR1 HO HN HG
            skip
            have HB := hide (Box.new w2 #[.string z] 9)
            have bB := (Below.refl w2.heap.size w2).alloc (Nat.le_refl _) (.cells #[.string z] 9)
            have HOa := hide (HO2.out.below bB)
            have HDs : Hid (OwnDL (w2.alloc (.cells #[.string z] 9)) wr.heap.size (w2.alloc (.cells #[.string z] 9)).heap.size (txD z) [.string z]) := hide ((OwnDL.val (ownDL_nil _ _ _)))
            have hs2 := HG2.out.size
            have hsz : wr.heap.size ≤ (w2.alloc (.cells #[.string z] 9)).heap.size := by simp; omega
            clear bB
            go_wp2_with (at_builtin; refine appD rfl _ _ 46 rfl w.heap.size wr.heap.size wr.heap.size 9 i0 (.string ByteArray.empty) 1 16 Tryz.underlying46 HI.out.1 HI.out.2.1 HI.out.2.2.1 HI.out.2.2.2 rfl (by decide) _ j (xs.flatMap txD) rfl HOa.out w2.heap.size 1 [.string z] (txD z) rfl HB.out HDs.out rfl (by simp [Value.oneCell']) (by omega) (by decide) (Nat.le_refl _) hle hsz ?_; intro v3 w3 o3 g3 hb3; have HO3 := hide o3; have HR3 := hide ((HR2.out.alloc _).far g3 (fun q hq => by have := (hb3 q hq).1; omega)); have HG3 := hide (grown_step (grownBy_trans HG2.out (World.grownBy_alloc w2 (.cells #[.string z] 9) (some p))) g3 (fun q hq => .inr (hb3 q hq).1)); clear o3 g3 hb3)
            exact ⟨⟨j + 1, k2, xs ++ [z], by omega, by go_num, by simp [hxl], HR3, hide (by rw [List.flatMap_append]; simpa using HO3.out), HN2, HG3⟩, by simp [intOf]; omega⟩
          · have HF : Hid (G = none) := hide (by rw [HN.out, show N - j = (N - (j + 1)) + 1 from by omega, rList, hr2]; rfl)
            have HG2 := hide (grownBy_trans HG.out g2)
            clear g2 hr2
            go_wp2
            exact ⟨rfl, .inr ⟨HF.out, rfl⟩, HG2.out⟩
        · obtain rfl : j = N := by omega
          have HF : Hid (G = some (xs, kj)) := hide (by rw [HN.out, Nat.sub_self, rList]; simp)
          have HP := hide HR1.out.pl
          have HO9 : Hid (∀ l, OwnD wr w.heap.size wr.heap.size (.row 9 1 j (xs.flatMap txD)) l → OwnD wr w.heap.size wr.heap.size (strs xs) l) := hide (fun l h => by unfold strs; rw [hxl]; exact h)
          go_wp2
          go_ret
          exact ⟨.inl ⟨_, _, _, HF.out, rfl, HO9.out _ HO.out, HP.out⟩, HG.out⟩
  · have HN : Hid (G = none) := hide (by rw [← HGG.out]; unfold rMany; rw [hr1]; rfl)
    clear g1 hr1
    go_wp2
    exact ⟨rfl, .inr ⟨HN.out, rfl⟩, HG.out⟩
set_option maxRecDepth 100000 in
set_option maxHeartbeats 4000000 in
theorem rdListKc {w : World} {B : Nat} {a : Option Addr} {len : Nat} {zs : List Int} {p k : Nat} {t : TypeId} {v : Value} (cap : Nat) (hcap : len ≤ cap) (h : Rdr w B a len zs p k t v) :
    Calls Tryz.prog 63 #[.slice a len cap, .pointer (some ⟨p, 0, none⟩), .int .i64 24, .func (.func 64) #[] #[]] w (tookL (fun w' v xs => OwnD w' w.heap.size w'.heap.size (pool xs) v) w p t v (rMany zs (rKc zs) 24 k)) := by
  have hlt := h.lt
  have HZ := hide (byt_of_in h.inp)
  have HR := hide h
  clear h
  generalize hGG : rMany zs (rKc zs) 24 k = G
  have HGG := hide hGG
  clear hGG
  obtain ⟨i0, hi, hz0, hz1, hz2⟩ := info_parts Tryz.infoKc
  have HI := hide (And.intro hi (And.intro hz0 (And.intro hz1 hz2)))
  clear hi hz0 hz1 hz2
  go_enter Tryz.func63, Tryz.ntmps63
  go_wp2_with fail
  refine (rdNum cap HR.out).mono ?_
  rintro e w1 ⟨hres, g1⟩
  have HG := hide g1
  rcases hres with ⟨n, k1, hr1, rfl, hp1⟩ | ⟨hr1, rfl⟩
  · have HR1 := hide (HR.out.next g1 hp1)
    have hE : w1.cell? ⟨0, 0, none⟩ = some (.iface t v) := HR1.out.err
    have hn0 := (num_back HZ.out hr1).1
    unfold rMany at HGG
    rw [hr1] at HGG
    clear g1 hp1 hr1 HR
    by_cases hn : 24 < n
    · have HN : Hid (G = none) := hide (by rw [← HGG.out]; simp [hn])
      clear HGG HR1
      go_wp2
      exact ⟨rfl, .inr ⟨HN.out, rfl⟩, HG.out⟩
    · have HN : Hid (G = rList (rKc zs) n.toNat k1) := hide (by rw [← HGG.out]; simp [hn])
      clear HGG hE
      obtain ⟨N, rfl⟩ := Int.eq_ofNat_of_zero_le hn0
      rw [Int.toNat_natCast] at HN
      have hs1 := HG.out.size
      go_wp2
      go_loopw [10, 19] (fun l i wr => ∃ (j kj : Nat) (xs : List Kc), j ≤ N ∧ i = .int .i64 (j : Int) ∧ xs.length = j ∧ Hid (Rdr wr B a len zs p kj t v) ∧ Hid (OwnD wr w.heap.size wr.heap.size (.row 42 4 j (xs.flatMap kcD)) l) ∧ Hid (G = (rList (rKc zs) (N - j) kj).bind fun r => some (xs ++ r.1, r.2)) ∧ Hid (w.grownBy wr (some p))) (fun _ i _ => N - (intOf i).toNat)
      case atStart => exact ⟨0, k1, [], by omega, rfl, rfl, HR1, hide (ownD_nil _ _ _ _ _), hide (by rw [HN.out]; cases rList (rKc zs) N k1 <;> rfl), HG⟩
      case round =>
        clear HN HR1 HG
        obtain ⟨j, kj, xs, hj, rfl, hxl, HR1, HO, HN, HG⟩ := hrel
        by_cases hj' : j < N
        · go_wp2_with fail
          refine (rdConst cap hcap HR1.out).mono ?_
          rintro e w2 ⟨hres, g2⟩
          have hle := HG.out.size
          rcases hres with ⟨z, k2, hr2, rfl, hp2⟩ | ⟨hr2, rfl⟩
          · have HR2 := hide (HR1.out.next g2 hp2)
            have HO2 := hide ((HO.out.grownP g2 hlt))
            have hs12 := g2.size
            have HG2 := hide (grownBy_trans HG.out g2)
            have HN2 : Hid (G = (rList (rKc zs) (N - (j + 1)) k2).bind fun r => some (xs ++ [z] ++ r.1, r.2)) := hide (by
              rw [HN.out, show N - j = (N - (j + 1)) + 1 from by omega, rList, hr2]
              simp only [Option.bind_some, Option.bind_assoc]
              congr 1
              funext r
              simp)
            clear g2 hp2 hr2 HR1 HO HN HG
            unfold kcV
            have HB := hide (Box.new w2 #[.int .i64 z.k, .int .i64 z.n, .string z.a, .string z.b] 42)
            have bB := (Below.refl w2.heap.size w2).alloc (Nat.le_refl _) (.cells #[.int .i64 z.k, .int .i64 z.n, .string z.a, .string z.b] 42)
            have HOa := hide (HO2.out.below bB)
            have HDs : Hid (OwnDL (w2.alloc (.cells #[.int .i64 z.k, .int .i64 z.n, .string z.a, .string z.b] 42)) wr.heap.size (w2.alloc (.cells #[.int .i64 z.k, .int .i64 z.n, .string z.a, .string z.b] 42)).heap.size (kcD z) [.int .i64 z.k, .int .i64 z.n, .string z.a, .string z.b]) := hide ((OwnDL.val (OwnDL.val (OwnDL.val (OwnDL.val (ownDL_nil _ _ _))))))
            have hs2 := HG2.out.size
            have hsz : wr.heap.size ≤ (w2.alloc (.cells #[.int .i64 z.k, .int .i64 z.n, .string z.a, .string z.b] 42)).heap.size := by simp; omega
            clear bB
            go_wp2_with (at_builtin; refine appD rfl _ _ 23 rfl w.heap.size wr.heap.size wr.heap.size 42 i0 (.agg #[.int .i64 0, .int .i64 0, .string ByteArray.empty, .string ByteArray.empty]) 4 48 Tryz.underlying23 HI.out.1 HI.out.2.1 HI.out.2.2.1 HI.out.2.2.2 rfl (by decide) _ j (xs.flatMap kcD) rfl HOa.out w2.heap.size 1 [.int .i64 z.k, .int .i64 z.n, .string z.a, .string z.b] (kcD z) rfl HB.out HDs.out rfl (by simp [Value.oneCell']) (by omega) (by decide) (Nat.le_refl _) hle hsz ?_; intro v3 w3 o3 g3 hb3; have HO3 := hide o3; have HR3 := hide ((HR2.out.alloc _).far g3 (fun q hq => by have := (hb3 q hq).1; omega)); have HG3 := hide (grown_step (grownBy_trans HG2.out (World.grownBy_alloc w2 (.cells #[.int .i64 z.k, .int .i64 z.n, .string z.a, .string z.b] 42) (some p))) g3 (fun q hq => .inr (hb3 q hq).1)); clear o3 g3 hb3)
            exact ⟨⟨j + 1, k2, xs ++ [z], by omega, by go_num, by simp [hxl], HR3, hide (by rw [List.flatMap_append]; simpa using HO3.out), HN2, HG3⟩, by simp [intOf]; omega⟩
          · have HF : Hid (G = none) := hide (by rw [HN.out, show N - j = (N - (j + 1)) + 1 from by omega, rList, hr2]; rfl)
            have HG2 := hide (grownBy_trans HG.out g2)
            clear g2 hr2
            go_wp2
            exact ⟨rfl, .inr ⟨HF.out, rfl⟩, HG2.out⟩
        · obtain rfl : j = N := by omega
          have HF : Hid (G = some (xs, kj)) := hide (by rw [HN.out, Nat.sub_self, rList]; simp)
          have HP := hide HR1.out.pl
          have HO9 : Hid (∀ l, OwnD wr w.heap.size wr.heap.size (.row 42 4 j (xs.flatMap kcD)) l → OwnD wr w.heap.size wr.heap.size (pool xs) l) := hide (fun l h => by unfold pool; rw [hxl]; exact h)
          go_wp2
          go_ret
          exact ⟨.inl ⟨_, _, _, HF.out, rfl, HO9.out _ HO.out, HP.out⟩, HG.out⟩
  · have HN : Hid (G = none) := hide (by rw [← HGG.out]; unfold rMany; rw [hr1]; rfl)
    clear g1 hr1
    go_wp2
    exact ⟨rfl, .inr ⟨HN.out, rfl⟩, HG.out⟩
set_option maxRecDepth 100000 in
set_option maxHeartbeats 4000000 in
theorem rdListFd {w : World} {B : Nat} {a : Option Addr} {len : Nat} {zs : List Int} {p k : Nat} {t : TypeId} {v : Value} (cap : Nat) (hcap : len ≤ cap) (h : Rdr w B a len zs p k t v) :
    Calls Tryz.prog 65 #[.slice a len cap, .pointer (some ⟨p, 0, none⟩), .int .i64 8, .func (.func 66) #[] #[]] w (tookL (fun w' v xs => OwnD w' w.heap.size w'.heap.size (flds xs) v) w p t v (rMany zs (rFd zs) 8 k)) := by
  have hlt := h.lt
  have HZ := hide (byt_of_in h.inp)
  have HR := hide h
  clear h
  generalize hGG : rMany zs (rFd zs) 8 k = G
  have HGG := hide hGG
  clear hGG
  obtain ⟨i0, hi, hz0, hz1, hz2⟩ := info_parts Tryz.infoFd
  have HI := hide (And.intro hi (And.intro hz0 (And.intro hz1 hz2)))
  clear hi hz0 hz1 hz2
  go_enter Tryz.func65, Tryz.ntmps65
  go_wp2_with fail
  refine (rdNum cap HR.out).mono ?_
  rintro e w1 ⟨hres, g1⟩
  have HG := hide g1
  rcases hres with ⟨n, k1, hr1, rfl, hp1⟩ | ⟨hr1, rfl⟩
  · have HR1 := hide (HR.out.next g1 hp1)
    have hE : w1.cell? ⟨0, 0, none⟩ = some (.iface t v) := HR1.out.err
    have hn0 := (num_back HZ.out hr1).1
    unfold rMany at HGG
    rw [hr1] at HGG
    clear g1 hp1 hr1 HR
    by_cases hn : 8 < n
    · have HN : Hid (G = none) := hide (by rw [← HGG.out]; simp [hn])
      clear HGG HR1
      go_wp2
      exact ⟨rfl, .inr ⟨HN.out, rfl⟩, HG.out⟩
    · have HN : Hid (G = rList (rFd zs) n.toNat k1) := hide (by rw [← HGG.out]; simp [hn])
      clear HGG hE
      obtain ⟨N, rfl⟩ := Int.eq_ofNat_of_zero_le hn0
      rw [Int.toNat_natCast] at HN
      have hs1 := HG.out.size
      go_wp2
      go_loopw [10, 19] (fun l i wr => ∃ (j kj : Nat) (xs : List Fd), j ≤ N ∧ i = .int .i64 (j : Int) ∧ xs.length = j ∧ Hid (Rdr wr B a len zs p kj t v) ∧ Hid (OwnD wr w.heap.size wr.heap.size (.row 45 2 j (xs.flatMap fdD)) l) ∧ Hid (G = (rList (rFd zs) (N - j) kj).bind fun r => some (xs ++ r.1, r.2)) ∧ Hid (w.grownBy wr (some p))) (fun _ i _ => N - (intOf i).toNat)
      case atStart => exact ⟨0, k1, [], by omega, rfl, rfl, HR1, hide (ownD_nil _ _ _ _ _), hide (by rw [HN.out]; cases rList (rFd zs) N k1 <;> rfl), HG⟩
      case round =>
        clear HN HR1 HG
        obtain ⟨j, kj, xs, hj, rfl, hxl, HR1, HO, HN, HG⟩ := hrel
        by_cases hj' : j < N
        · go_wp2_with fail
          refine (rdField cap hcap HR1.out).mono ?_
          rintro e w2 ⟨hres, g2⟩
          have hle := HG.out.size
          rcases hres with ⟨z, k2, hr2, rfl, hp2⟩ | ⟨hr2, rfl⟩
          · have HR2 := hide (HR1.out.next g2 hp2)
            have HO2 := hide ((HO.out.grownP g2 hlt))
            have hs12 := g2.size
            have HG2 := hide (grownBy_trans HG.out g2)
            have HN2 : Hid (G = (rList (rFd zs) (N - (j + 1)) k2).bind fun r => some (xs ++ [z] ++ r.1, r.2)) := hide (by
              rw [HN.out, show N - j = (N - (j + 1)) + 1 from by omega, rList, hr2]
              simp only [Option.bind_some, Option.bind_assoc]
              congr 1
              funext r
              simp)
            clear g2 hp2 hr2 HR1 HO HN HG
            unfold fdV
            have HB := hide (Box.new w2 #[.string z.n, .string z.t] 45)
            have bB := (Below.refl w2.heap.size w2).alloc (Nat.le_refl _) (.cells #[.string z.n, .string z.t] 45)
            have HOa := hide (HO2.out.below bB)
            have HDs : Hid (OwnDL (w2.alloc (.cells #[.string z.n, .string z.t] 45)) wr.heap.size (w2.alloc (.cells #[.string z.n, .string z.t] 45)).heap.size (fdD z) [.string z.n, .string z.t]) := hide ((OwnDL.val (OwnDL.val (ownDL_nil _ _ _))))
            have hs2 := HG2.out.size
            have hsz : wr.heap.size ≤ (w2.alloc (.cells #[.string z.n, .string z.t] 45)).heap.size := by simp; omega
            clear bB
            go_wp2_with (at_builtin; refine appD rfl _ _ 24 rfl w.heap.size wr.heap.size wr.heap.size 45 i0 (.agg #[.string ByteArray.empty, .string ByteArray.empty]) 2 32 Tryz.underlying24 HI.out.1 HI.out.2.1 HI.out.2.2.1 HI.out.2.2.2 rfl (by decide) _ j (xs.flatMap fdD) rfl HOa.out w2.heap.size 1 [.string z.n, .string z.t] (fdD z) rfl HB.out HDs.out rfl (by simp [Value.oneCell']) (by omega) (by decide) (Nat.le_refl _) hle hsz ?_; intro v3 w3 o3 g3 hb3; have HO3 := hide o3; have HR3 := hide ((HR2.out.alloc _).far g3 (fun q hq => by have := (hb3 q hq).1; omega)); have HG3 := hide (grown_step (grownBy_trans HG2.out (World.grownBy_alloc w2 (.cells #[.string z.n, .string z.t] 45) (some p))) g3 (fun q hq => .inr (hb3 q hq).1)); clear o3 g3 hb3)
            exact ⟨⟨j + 1, k2, xs ++ [z], by omega, by go_num, by simp [hxl], HR3, hide (by rw [List.flatMap_append]; simpa using HO3.out), HN2, HG3⟩, by simp [intOf]; omega⟩
          · have HF : Hid (G = none) := hide (by rw [HN.out, show N - j = (N - (j + 1)) + 1 from by omega, rList, hr2]; rfl)
            have HG2 := hide (grownBy_trans HG.out g2)
            clear g2 hr2
            go_wp2
            exact ⟨rfl, .inr ⟨HF.out, rfl⟩, HG2.out⟩
        · obtain rfl : j = N := by omega
          have HF : Hid (G = some (xs, kj)) := hide (by rw [HN.out, Nat.sub_self, rList]; simp)
          have HP := hide HR1.out.pl
          have HO9 : Hid (∀ l, OwnD wr w.heap.size wr.heap.size (.row 45 2 j (xs.flatMap fdD)) l → OwnD wr w.heap.size wr.heap.size (flds xs) l) := hide (fun l h => by unfold flds; rw [hxl]; exact h)
          go_wp2
          go_ret
          exact ⟨.inl ⟨_, _, _, HF.out, rfl, HO9.out _ HO.out, HP.out⟩, HG.out⟩
  · have HN : Hid (G = none) := hide (by rw [← HGG.out]; unfold rMany; rw [hr1]; rfl)
    clear g1 hr1
    go_wp2
    exact ⟨rfl, .inr ⟨HN.out, rfl⟩, HG.out⟩
set_option maxRecDepth 100000 in
set_option maxHeartbeats 4000000 in
theorem rdListBy {w : World} {B : Nat} {a : Option Addr} {len : Nat} {zs : List Int} {p k : Nat} {t : TypeId} {v : Value} (cap : Nat) (_hcap : len ≤ cap) (h : Rdr w B a len zs p k t v) :
    Calls Tryz.prog 86 #[.slice a len cap, .pointer (some ⟨p, 0, none⟩), .int .i64 90, .func (.func 87) #[] #[]] w (tookL (fun w' v xs => OwnD w' w.heap.size w'.heap.size (byts xs) v) w p t v (rMany zs (rBy zs) 90 k)) := by
  have hlt := h.lt
  have HZ := hide (byt_of_in h.inp)
  have HR := hide h
  clear h
  generalize hGG : rMany zs (rBy zs) 90 k = G
  have HGG := hide hGG
  clear hGG
  obtain ⟨i0, hi, hz0, hz1, hz2⟩ := info_parts Tryz.info5
  have HI := hide (And.intro hi (And.intro hz0 (And.intro hz1 hz2)))
  clear hi hz0 hz1 hz2
  go_enter Tryz.func86, Tryz.ntmps86
  go_wp2_with fail
  refine (rdNum cap HR.out).mono ?_
  rintro e w1 ⟨hres, g1⟩
  have HG := hide g1
  rcases hres with ⟨n, k1, hr1, rfl, hp1⟩ | ⟨hr1, rfl⟩
  · have HR1 := hide (HR.out.next g1 hp1)
    have hE : w1.cell? ⟨0, 0, none⟩ = some (.iface t v) := HR1.out.err
    have hn0 := (num_back HZ.out hr1).1
    unfold rMany at HGG
    rw [hr1] at HGG
    clear g1 hp1 hr1 HR
    by_cases hn : 90 < n
    · have HN : Hid (G = none) := hide (by rw [← HGG.out]; simp [hn])
      clear HGG HR1
      go_wp2
      exact ⟨rfl, .inr ⟨HN.out, rfl⟩, HG.out⟩
    · have HN : Hid (G = rList (rBy zs) n.toNat k1) := hide (by rw [← HGG.out]; simp [hn])
      clear HGG hE
      obtain ⟨N, rfl⟩ := Int.eq_ofNat_of_zero_le hn0
      rw [Int.toNat_natCast] at HN
      have hs1 := HG.out.size
      go_wp2
      go_loopw [10, 19] (fun l i wr => ∃ (j kj : Nat) (xs : List Int), j ≤ N ∧ i = .int .i64 (j : Int) ∧ xs.length = j ∧ Hid (Rdr wr B a len zs p kj t v) ∧ Hid (OwnD wr w.heap.size wr.heap.size (.row 5 1 j (xs.flatMap byD)) l) ∧ Hid (G = (rList (rBy zs) (N - j) kj).bind fun r => some (xs ++ r.1, r.2)) ∧ Hid (w.grownBy wr (some p))) (fun _ i _ => N - (intOf i).toNat)
      case atStart => exact ⟨0, k1, [], by omega, rfl, rfl, HR1, hide (ownD_nil _ _ _ _ _), hide (by rw [HN.out]; cases rList (rBy zs) N k1 <;> rfl), HG⟩
      case round =>
        clear HN HR1 HG
        obtain ⟨j, kj, xs, hj, rfl, hxl, HR1, HO, HN, HG⟩ := hrel
        by_cases hj' : j < N
        · go_wp2_with fail
          refine (rdByte cap HR1.out).mono ?_
          rintro e w2 ⟨hres, g2⟩
          have hle := HG.out.size
          rcases hres with ⟨z, k2, hr2, rfl, hp2⟩ | ⟨hr2, rfl⟩
          · have HR2 := hide (HR1.out.next g2 hp2)
            have HO2 := hide ((HO.out.grownP g2 hlt))
            have hs12 := g2.size
            have HG2 := hide (grownBy_trans HG.out g2)
            have HN2 : Hid (G = (rList (rBy zs) (N - (j + 1)) k2).bind fun r => some (xs ++ [z] ++ r.1, r.2)) := hide (by
              rw [HN.out, show N - j = (N - (j + 1)) + 1 from by omega, rList, hr2]
              simp only [Option.bind_some, Option.bind_assoc]
              congr 1
              funext r
              simp)
            clear g2 hp2 hr2 HR1 HO HN HG
            skip
            have HB := hide (Box.new w2 #[.int .u8 z] 5)
            have bB := (Below.refl w2.heap.size w2).alloc (Nat.le_refl _) (.cells #[.int .u8 z] 5)
            have HOa := hide (HO2.out.below bB)
            have HDs : Hid (OwnDL (w2.alloc (.cells #[.int .u8 z] 5)) wr.heap.size (w2.alloc (.cells #[.int .u8 z] 5)).heap.size (byD z) [.int .u8 z]) := hide ((OwnDL.val (ownDL_nil _ _ _)))
            have hs2 := HG2.out.size
            have hsz : wr.heap.size ≤ (w2.alloc (.cells #[.int .u8 z] 5)).heap.size := by simp; omega
            clear bB
            go_wp2_with (at_builtin; refine appD rfl _ _ 22 rfl w.heap.size wr.heap.size wr.heap.size 5 i0 (.int .u8 0) 1 1 Tryz.underlying22 HI.out.1 HI.out.2.1 HI.out.2.2.1 HI.out.2.2.2 rfl (by decide) _ j (xs.flatMap byD) rfl HOa.out w2.heap.size 1 [.int .u8 z] (byD z) rfl HB.out HDs.out rfl (by simp [Value.oneCell']) (by omega) (by decide) (Nat.le_refl _) hle hsz ?_; intro v3 w3 o3 g3 hb3; have HO3 := hide o3; have HR3 := hide ((HR2.out.alloc _).far g3 (fun q hq => by have := (hb3 q hq).1; omega)); have HG3 := hide (grown_step (grownBy_trans HG2.out (World.grownBy_alloc w2 (.cells #[.int .u8 z] 5) (some p))) g3 (fun q hq => .inr (hb3 q hq).1)); clear o3 g3 hb3)
            exact ⟨⟨j + 1, k2, xs ++ [z], by omega, by go_num, by simp [hxl], HR3, hide (by rw [List.flatMap_append]; simpa using HO3.out), HN2, HG3⟩, by simp [intOf]; omega⟩
          · have HF : Hid (G = none) := hide (by rw [HN.out, show N - j = (N - (j + 1)) + 1 from by omega, rList, hr2]; rfl)
            have HG2 := hide (grownBy_trans HG.out g2)
            clear g2 hr2
            go_wp2
            exact ⟨rfl, .inr ⟨HF.out, rfl⟩, HG2.out⟩
        · obtain rfl : j = N := by omega
          have HF : Hid (G = some (xs, kj)) := hide (by rw [HN.out, Nat.sub_self, rList]; simp)
          have HP := hide HR1.out.pl
          have HO9 : Hid (∀ l, OwnD wr w.heap.size wr.heap.size (.row 5 1 j (xs.flatMap byD)) l → OwnD wr w.heap.size wr.heap.size (byts xs) l) := hide (fun l h => by unfold byts; rw [hxl]; exact h)
          go_wp2
          go_ret
          exact ⟨.inl ⟨_, _, _, HF.out, rfl, HO9.out _ HO.out, HP.out⟩, HG.out⟩
  · have HN : Hid (G = none) := hide (by rw [← HGG.out]; unfold rMany; rw [hr1]; rfl)
    clear g1 hr1
    go_wp2
    exact ⟨rfl, .inr ⟨HN.out, rfl⟩, HG.out⟩
end Go.Proofs.YtpgmipbanpofaaaGreatDoor
/-
  Readers of methods and classes.
-/
namespace Go.Proofs.YtpgmipbanpofaaaGreatDoor
open Go.RowKit

def RowMe (b : Nat) (w' : World) (u : Value) (x : Me) : Prop := ∃ u1 u2, u = meV x u1 u2 ∧ OwnDL w' b w'.heap.size (meD x) [.string x.n, u1, .string x.r, .int .i64 x.l, u2]
theorem meD_sl {w : World} {b hi : Nat} {x : Me} {a u1 c d u2 : Value} (h : OwnDL w b hi (meD x) [a, u1, c, d, u2]) : (∃ pa pc, u1 = .slice pa x.ps.length pc) ∧ ∃ qa qc, u2 = .slice qa x.c.length qc := by
  have h := h.rd (Nat.le_refl _)
  unfold meD at h
  obtain ⟨_, _, e, _, h⟩ := readsL_cons h
  cases e
  obtain ⟨_, _, e, h1, h⟩ := readsL_cons h
  cases e
  obtain ⟨_, _, e, _, h⟩ := readsL_cons h
  cases e
  obtain ⟨_, _, e, _, h⟩ := readsL_cons h
  cases e
  obtain ⟨_, _, e, h2, h⟩ := readsL_cons h
  cases e
  obtain ⟨p, c, e1, _⟩ := h1.shape
  obtain ⟨p', c', e2, _⟩ := h2.shape
  exact ⟨⟨p, c, e1⟩, ⟨p', c', e2⟩⟩
theorem Rdr.setB {w : World} {B : Nat} {a : Option Addr} {len : Nat} {zs : List Int} {p k : Nat} {t : TypeId} {v : Value} (h : Rdr w B a len zs p k t v) {g : Nat} (hg : p < g) (o : Nat) (u : Value) : Rdr (w.setCell ⟨g, o, none⟩ u) B a len zs p k t v := h.set hg o u
set_option maxRecDepth 100000 in
set_option maxHeartbeats 8000000 in
theorem rdMethod {w : World} {B : Nat} {a : Option Addr} {len : Nat} {zs : List Int} {p k : Nat} {t : TypeId} {v : Value} (cap : Nat) (hcap : len ≤ cap) (h : Rdr w B a len zs p k t v) :
    Calls Tryz.prog 68 #[.slice a len cap, .pointer (some ⟨p, 0, none⟩)] w (tookL (RowMe w.heap.size) w p t v (rMe zs k)) := by
  have hlt := h.lt
  have HR := hide ((h.alloc (.cells #[.string ⟨#[]⟩, .slice none 0 0, .string ⟨#[]⟩, .int .i64 0, .slice none 0 0] 48)).alloc (.cells #[.string ⟨#[]⟩, .slice none 0 0, .string ⟨#[]⟩, .int .i64 0, .slice none 0 0] 48))
  have HG := hide (grownBy_trans (World.grownBy_alloc w (.cells #[.string ⟨#[]⟩, .slice none 0 0, .string ⟨#[]⟩, .int .i64 0, .slice none 0 0] 48) (some p)) (World.grownBy_alloc (w.alloc (.cells #[.string ⟨#[]⟩, .slice none 0 0, .string ⟨#[]⟩, .int .i64 0, .slice none 0 0] 48)) (.cells #[.string ⟨#[]⟩, .slice none 0 0, .string ⟨#[]⟩, .int .i64 0, .slice none 0 0] 48) (some p)))
  have G0 := heap_alloc_new w (.cells #[.string ⟨#[]⟩, .slice none 0 0, .string ⟨#[]⟩, .int .i64 0, .slice none 0 0] 48)
  have G1 := heap_alloc_new (w.alloc (.cells #[.string ⟨#[]⟩, .slice none 0 0, .string ⟨#[]⟩, .int .i64 0, .slice none 0 0] 48)) (.cells #[.string ⟨#[]⟩, .slice none 0 0, .string ⟨#[]⟩, .int .i64 0, .slice none 0 0] 48)
  simp only [World.size_alloc] at G1
  have E0 := hide ((Below.heap_alloc _ (.cells #[.string ⟨#[]⟩, .slice none 0 0, .string ⟨#[]⟩, .int .i64 0, .slice none 0 0] 48) _ (by simp)).trans G0)
  have E1 := hide G1
  have HN0 : Hid (rMe zs k = rMe zs k) := hide rfl
  clear h G0 G1
  go_enter Tryz.func68, Tryz.ntmps68
  go_wp2_with fail
  have hs : w.heap.size + 1 + 1 ≤ ((w.alloc (.cells #[.string ⟨#[]⟩, .slice none 0 0, .string ⟨#[]⟩, .int .i64 0, .slice none 0 0] 48)).alloc (.cells #[.string ⟨#[]⟩, .slice none 0 0, .string ⟨#[]⟩, .int .i64 0, .slice none 0 0] 48)).heap.size := by simp
  generalize (w.alloc (.cells #[.string ⟨#[]⟩, .slice none 0 0, .string ⟨#[]⟩, .int .i64 0, .slice none 0 0] 48)).alloc (.cells #[.string ⟨#[]⟩, .slice none 0 0, .string ⟨#[]⟩, .int .i64 0, .slice none 0 0] 48) = W0 at *
  refine (rdText cap hcap HR.out).mono ?_
  rintro e x0 ⟨hres, g0⟩
  have hs0 := g0.size
  replace HG := hide (grownBy_trans HG.out g0)
  rcases hres with ⟨s0, k0, hr0, rfl, hp0⟩ | ⟨hr0, rfl⟩
  · skip
    have H0 := hide hr0
    replace HR := hide (HR.out.next g0 hp0)
    replace E0 := hide ((g0.block w.heap.size (by omega) (fun e => by cases e; omega)).trans E0.out)
    replace E1 := hide ((g0.block (w.heap.size + 1) (by omega) (fun e => by cases e; omega)).trans E1.out)
    replace hs : w.heap.size + 1 + 1 ≤ x0.heap.size := by omega
    clear g0 hp0 hr0 hs0
    have X := box_of E1.out
    have f0 := X.1 0 _ rfl
    have z0 := X.2 0
    clear X
    go_wp2_with fail
    clear f0 z0
    replace HR : Hid (Rdr (x0.setCell ⟨w.heap.size + 1, 0, none⟩ (.string s0)) _ _ _ _ _ _ _ _) := hide (HR.out.setB (by omega) 0 (.string s0))
    replace HG : Hid (w.grownBy (x0.setCell ⟨w.heap.size + 1, 0, none⟩ (.string s0)) (some p)) := hide (grownNew HG.out (by omega) 0 (.string s0))
    replace E0 : Hid ((x0.setCell ⟨w.heap.size + 1, 0, none⟩ (.string s0)).heap[w.heap.size]? = _) := hide ((heap_setCell_other _ _ _ _ (by simp)).trans E0.out)
    replace E1 : Hid ((x0.setCell ⟨w.heap.size + 1, 0, none⟩ (.string s0)).heap[w.heap.size + 1]? = some (.cells #[.string s0, .slice none 0 0, .string ⟨#[]⟩, .int .i64 0, .slice none 0 0] 48 (0, 0))) := hide (heap_setCell_same _ _ 0 _ _ _ E1.out)
    replace hs : w.heap.size + 1 + 1 ≤ (x0.setCell ⟨w.heap.size + 1, 0, none⟩ (.string s0)).heap.size := by simp; omega
    generalize x0.setCell ⟨w.heap.size + 1, 0, none⟩ (.string s0) = W1 at *
    refine (rdListSt cap hcap HR.out).mono ?_
    rintro e x1 ⟨hres, g1⟩
    have hs1 := g1.size
    replace HG := hide (grownBy_trans HG.out g1)
    rcases hres with ⟨ps, k1, u1, hr1, rfl, on1, hp1⟩ | ⟨hr1, rfl⟩
    · skip
      have H1 := hide hr1
      replace HR := hide (HR.out.next g1 hp1)
      replace E0 := hide ((g1.block w.heap.size (by omega) (fun e => by cases e; omega)).trans E0.out)
      replace E1 := hide ((g1.block (w.heap.size + 1) (by omega) (fun e => by cases e; omega)).trans E1.out)
      obtain ⟨pa1, pc1, eu1⟩ := on1.shape
      subst eu1
      obtain ⟨M1, hM1e⟩ : ∃ M, x1.heap.size = M := ⟨_, rfl⟩
      rw [hM1e] at on1
      have O1 := hide (on1.mono hs)
      clear on1
      have hM1 : M1 ≤ x1.heap.size := by omega
      have hM0 : w.heap.size + 1 + 1 ≤ M1 := by omega
      clear hM1e
      replace hs : w.heap.size + 1 + 1 ≤ x1.heap.size := by omega
      clear g1 hp1 hr1 hs1
      have X := box_of E1.out
      have f1 := X.1 1 _ rfl
      have z1 := X.2 1
      clear X
      go_wp2_with fail
      clear f1 z1
      replace HR : Hid (Rdr (x1.setCell ⟨w.heap.size + 1, 1, none⟩ (.slice pa1 (ps).length pc1)) _ _ _ _ _ _ _ _) := hide (HR.out.setB (by omega) 1 (.slice pa1 (ps).length pc1))
      replace HG : Hid (w.grownBy (x1.setCell ⟨w.heap.size + 1, 1, none⟩ (.slice pa1 (ps).length pc1)) (some p)) := hide (grownNew HG.out (by omega) 1 (.slice pa1 (ps).length pc1))
      replace E0 : Hid ((x1.setCell ⟨w.heap.size + 1, 1, none⟩ (.slice pa1 (ps).length pc1)).heap[w.heap.size]? = _) := hide ((heap_setCell_other _ _ _ _ (by simp)).trans E0.out)
      replace E1 : Hid ((x1.setCell ⟨w.heap.size + 1, 1, none⟩ (.slice pa1 (ps).length pc1)).heap[w.heap.size + 1]? = some (.cells #[.string s0, .slice pa1 (ps).length pc1, .string ⟨#[]⟩, .int .i64 0, .slice none 0 0] 48 (0, 0))) := hide (heap_setCell_same _ _ 1 _ _ _ E1.out)
      replace O1 : Hid (OwnD (x1.setCell ⟨w.heap.size + 1, 1, none⟩ (.slice pa1 (ps).length pc1)) _ _ _ _) := hide (O1.out.same (fun q hq _ _ => heap_setCell_other _ _ _ _ (by simp; omega)))
      replace hs : w.heap.size + 1 + 1 ≤ (x1.setCell ⟨w.heap.size + 1, 1, none⟩ (.slice pa1 (ps).length pc1)).heap.size := by simp; omega
      replace hM1 : M1 ≤ (x1.setCell ⟨w.heap.size + 1, 1, none⟩ (.slice pa1 (ps).length pc1)).heap.size := by simp; omega
      generalize x1.setCell ⟨w.heap.size + 1, 1, none⟩ (.slice pa1 (ps).length pc1) = W2 at *
      refine (rdText cap hcap HR.out).mono ?_
      rintro e x2 ⟨hres, g2⟩
      have hs2 := g2.size
      replace HG := hide (grownBy_trans HG.out g2)
      rcases hres with ⟨s2, k2, hr2, rfl, hp2⟩ | ⟨hr2, rfl⟩
      · skip
        have H2 := hide hr2
        replace HR := hide (HR.out.next g2 hp2)
        replace E0 := hide ((g2.block w.heap.size (by omega) (fun e => by cases e; omega)).trans E0.out)
        replace E1 := hide ((g2.block (w.heap.size + 1) (by omega) (fun e => by cases e; omega)).trans E1.out)
        replace O1 := hide (O1.out.grownP g2 (by omega))
        replace hM1 : M1 ≤ x2.heap.size := by omega
        replace hs : w.heap.size + 1 + 1 ≤ x2.heap.size := by omega
        clear g2 hp2 hr2 hs2
        have X := box_of E1.out
        have f2 := X.1 2 _ rfl
        have z2 := X.2 2
        clear X
        go_wp2_with fail
        clear f2 z2
        replace HR : Hid (Rdr (x2.setCell ⟨w.heap.size + 1, 2, none⟩ (.string s2)) _ _ _ _ _ _ _ _) := hide (HR.out.setB (by omega) 2 (.string s2))
        replace HG : Hid (w.grownBy (x2.setCell ⟨w.heap.size + 1, 2, none⟩ (.string s2)) (some p)) := hide (grownNew HG.out (by omega) 2 (.string s2))
        replace E0 : Hid ((x2.setCell ⟨w.heap.size + 1, 2, none⟩ (.string s2)).heap[w.heap.size]? = _) := hide ((heap_setCell_other _ _ _ _ (by simp)).trans E0.out)
        replace E1 : Hid ((x2.setCell ⟨w.heap.size + 1, 2, none⟩ (.string s2)).heap[w.heap.size + 1]? = some (.cells #[.string s0, .slice pa1 (ps).length pc1, .string s2, .int .i64 0, .slice none 0 0] 48 (0, 0))) := hide (heap_setCell_same _ _ 2 _ _ _ E1.out)
        replace O1 : Hid (OwnD (x2.setCell ⟨w.heap.size + 1, 2, none⟩ (.string s2)) _ _ _ _) := hide (O1.out.same (fun q hq _ _ => heap_setCell_other _ _ _ _ (by simp; omega)))
        replace hs : w.heap.size + 1 + 1 ≤ (x2.setCell ⟨w.heap.size + 1, 2, none⟩ (.string s2)).heap.size := by simp; omega
        replace hM1 : M1 ≤ (x2.setCell ⟨w.heap.size + 1, 2, none⟩ (.string s2)).heap.size := by simp; omega
        generalize x2.setCell ⟨w.heap.size + 1, 2, none⟩ (.string s2) = W3 at *
        refine (rdNum cap HR.out).mono ?_
        rintro e x3 ⟨hres, g3⟩
        have hs3 := g3.size
        replace HG := hide (grownBy_trans HG.out g3)
        rcases hres with ⟨l3, k3, hr3, rfl, hp3⟩ | ⟨hr3, rfl⟩
        · skip
          have H3 := hide hr3
          replace HR := hide (HR.out.next g3 hp3)
          replace E0 := hide ((g3.block w.heap.size (by omega) (fun e => by cases e; omega)).trans E0.out)
          replace E1 := hide ((g3.block (w.heap.size + 1) (by omega) (fun e => by cases e; omega)).trans E1.out)
          replace O1 := hide (O1.out.grownP g3 (by omega))
          replace hM1 : M1 ≤ x3.heap.size := by omega
          replace hs : w.heap.size + 1 + 1 ≤ x3.heap.size := by omega
          clear g3 hp3 hr3 hs3
          have X := box_of E1.out
          have f3 := X.1 3 _ rfl
          have z3 := X.2 3
          clear X
          go_wp2_with fail
          clear f3 z3
          replace HR : Hid (Rdr (x3.setCell ⟨w.heap.size + 1, 3, none⟩ (.int .i64 l3)) _ _ _ _ _ _ _ _) := hide (HR.out.setB (by omega) 3 (.int .i64 l3))
          replace HG : Hid (w.grownBy (x3.setCell ⟨w.heap.size + 1, 3, none⟩ (.int .i64 l3)) (some p)) := hide (grownNew HG.out (by omega) 3 (.int .i64 l3))
          replace E0 : Hid ((x3.setCell ⟨w.heap.size + 1, 3, none⟩ (.int .i64 l3)).heap[w.heap.size]? = _) := hide ((heap_setCell_other _ _ _ _ (by simp)).trans E0.out)
          replace E1 : Hid ((x3.setCell ⟨w.heap.size + 1, 3, none⟩ (.int .i64 l3)).heap[w.heap.size + 1]? = some (.cells #[.string s0, .slice pa1 (ps).length pc1, .string s2, .int .i64 l3, .slice none 0 0] 48 (0, 0))) := hide (heap_setCell_same _ _ 3 _ _ _ E1.out)
          replace O1 : Hid (OwnD (x3.setCell ⟨w.heap.size + 1, 3, none⟩ (.int .i64 l3)) _ _ _ _) := hide (O1.out.same (fun q hq _ _ => heap_setCell_other _ _ _ _ (by simp; omega)))
          replace hs : w.heap.size + 1 + 1 ≤ (x3.setCell ⟨w.heap.size + 1, 3, none⟩ (.int .i64 l3)).heap.size := by simp; omega
          replace hM1 : M1 ≤ (x3.setCell ⟨w.heap.size + 1, 3, none⟩ (.int .i64 l3)).heap.size := by simp; omega
          generalize x3.setCell ⟨w.heap.size + 1, 3, none⟩ (.int .i64 l3) = W4 at *
          refine (rdListBy cap hcap HR.out).mono ?_
          rintro e x4 ⟨hres, g4⟩
          have hs4 := g4.size
          replace HG := hide (grownBy_trans HG.out g4)
          rcases hres with ⟨cs, k4, u4, hr4, rfl, on4, hp4⟩ | ⟨hr4, rfl⟩
          · skip
            have H4 := hide hr4
            replace HR := hide (HR.out.next g4 hp4)
            replace E0 := hide ((g4.block w.heap.size (by omega) (fun e => by cases e; omega)).trans E0.out)
            replace E1 := hide ((g4.block (w.heap.size + 1) (by omega) (fun e => by cases e; omega)).trans E1.out)
            replace O1 := hide (O1.out.grownP g4 (by omega))
            obtain ⟨pa4, pc4, eu4⟩ := on4.shape
            subst eu4
            have O4 := hide (on4.mono hM1)
            clear on4
            replace hM1 : M1 ≤ x4.heap.size := by omega
            replace hs : w.heap.size + 1 + 1 ≤ x4.heap.size := by omega
            clear g4 hp4 hr4 hs4
            have X := box_of E1.out
            have f4 := X.1 4 _ rfl
            have z4 := X.2 4
            clear X
            have HN : Hid (rMe zs k = some (⟨s0, ps, s2, l3, cs⟩, k4)) := hide (by
              unfold rMe
              rw [H0.out]
              simp only [Option.bind_some]
              rw [H1.out]
              simp only [Option.bind_some]
              rw [H2.out]
              simp only [Option.bind_some]
              rw [H3.out]
              simp only [Option.bind_some]
              rw [H4.out]
              rfl)
            have HP := hide HR.out.pl
            have Y := box_of E0.out
            have r0 := Y.1 0 _ rfl
            have r1 := Y.1 1 _ rfl
            have r2 := Y.1 2 _ rfl
            have r3 := Y.1 3 _ rfl
            have r4 := Y.1 4 _ rfl
            have y0 := Y.2
            have X := box_of E1.out
            have f0 := X.1 0 _ rfl
            have f1 := X.1 1 _ rfl
            have f2 := X.1 2 _ rfl
            have f3 := X.1 3 _ rfl
            have y1 := X.2
            clear X Y z4
            go_wp2
            refine bodyPost_ret (v := .agg #[.string s0, .slice pa1 (ps).length pc1, .string s2, .int .i64 l3, .slice pa4 (cs).length pc4]) (results_one Tryz.results68 _ _ _ rfl (loadMe (putN5 ((heap_setCell_other _ _ _ _ (by simp)).trans E0.out) _ _ _ _ _))) rfl ⟨.inl ⟨_, _, _, HN.out, rfl, ⟨_, _, rfl, ?_⟩, ?_⟩, ?_⟩
            · refine (OwnDL.mono (b := w.heap.size + 1 + 1) (OwnDL.same (OwnDL.val (OwnDL.cons (m := M1) O1.out (OwnDL.val (OwnDL.val (OwnDL.cons (m := x4.heap.size) O4.out (ownDL_nil _ _ _) (by omega) (Nat.le_refl _)))) (by omega) (by omega))) (fun q hq _ _ => ?_)) (by omega)).up (by simp)
              rw [heap_setCell_other _ _ _ _ (by simp; omega), heap_setCell_other _ _ _ _ (by simp; omega), heap_setCell_other _ _ _ _ (by simp; omega), heap_setCell_other _ _ _ _ (by simp; omega), heap_setCell_other _ _ _ _ (by simp; omega), heap_setCell_other _ _ _ _ (by simp; omega)]
            · rw [setPlace (by omega), setPlace (by omega), setPlace (by omega), setPlace (by omega), setPlace (by omega), setPlace (by omega)]
              exact HP.out
            · exact grownNew (grownNew (grownNew (grownNew (grownNew (grownNew HG.out (by omega) _ _) (by omega) _ _) (by omega) _ _) (by omega) _ _) (by omega) _ _) (by omega) _ _
          · have HN : Hid (rMe zs k = none) := hide (by
              unfold rMe
              rw [H0.out]
              simp only [Option.bind_some]
              rw [H1.out]
              simp only [Option.bind_some]
              rw [H2.out]
              simp only [Option.bind_some]
              rw [H3.out]
              simp only [Option.bind_some]
              rw [hr4]; rfl)
            clear g4 hr4
            go_wp2
            exact ⟨rfl, .inr ⟨HN.out, rfl⟩, HG.out⟩
        · have HN : Hid (rMe zs k = none) := hide (by
            unfold rMe
            rw [H0.out]
            simp only [Option.bind_some]
            rw [H1.out]
            simp only [Option.bind_some]
            rw [H2.out]
            simp only [Option.bind_some]
            rw [hr3]; rfl)
          clear g3 hr3
          go_wp2
          exact ⟨rfl, .inr ⟨HN.out, rfl⟩, HG.out⟩
      · have HN : Hid (rMe zs k = none) := hide (by
          unfold rMe
          rw [H0.out]
          simp only [Option.bind_some]
          rw [H1.out]
          simp only [Option.bind_some]
          rw [hr2]; rfl)
        clear g2 hr2
        go_wp2
        exact ⟨rfl, .inr ⟨HN.out, rfl⟩, HG.out⟩
    · have HN : Hid (rMe zs k = none) := hide (by
        unfold rMe
        rw [H0.out]
        simp only [Option.bind_some]
        rw [hr1]; rfl)
      clear g1 hr1
      go_wp2
      exact ⟨rfl, .inr ⟨HN.out, rfl⟩, HG.out⟩
  · have HN : Hid (rMe zs k = none) := hide (by
      unfold rMe
      skip
      rw [hr0]; rfl)
    clear g0 hr0
    go_wp2
    exact ⟨rfl, .inr ⟨HN.out, rfl⟩, HG.out⟩
set_option maxRecDepth 100000 in
set_option maxHeartbeats 4000000 in
theorem rdListMe {w : World} {B : Nat} {a : Option Addr} {len : Nat} {zs : List Int} {p k : Nat} {t : TypeId} {v : Value} (cap : Nat) (hcap : len ≤ cap) (h : Rdr w B a len zs p k t v) :
    Calls Tryz.prog 67 #[.slice a len cap, .pointer (some ⟨p, 0, none⟩), .int .i64 6, .func (.func 68) #[] #[]] w (tookL (fun w' v xs => OwnD w' w.heap.size w'.heap.size (mets xs) v) w p t v (rMany zs (rMe zs) 6 k)) := by
  have hlt := h.lt
  have HZ := hide (byt_of_in h.inp)
  have HR := hide h
  clear h
  generalize hGG : rMany zs (rMe zs) 6 k = G
  have HGG := hide hGG
  clear hGG
  obtain ⟨i0, hi, hz0, hz1, hz2⟩ := info_parts Tryz.infoMe
  have HI := hide (And.intro hi (And.intro hz0 (And.intro hz1 hz2)))
  clear hi hz0 hz1 hz2
  go_enter Tryz.func67, Tryz.ntmps67
  go_wp2_with fail
  refine (rdNum cap HR.out).mono ?_
  rintro e w1 ⟨hres, g1⟩
  have HG := hide g1
  rcases hres with ⟨n, k1, hr1, rfl, hp1⟩ | ⟨hr1, rfl⟩
  · have HR1 := hide (HR.out.next g1 hp1)
    have hE : w1.cell? ⟨0, 0, none⟩ = some (.iface t v) := HR1.out.err
    have hn0 := (num_back HZ.out hr1).1
    unfold rMany at HGG
    rw [hr1] at HGG
    clear g1 hp1 hr1 HR
    by_cases hn : 6 < n
    · have HN : Hid (G = none) := hide (by rw [← HGG.out]; simp [hn])
      clear HGG HR1
      go_wp2
      exact ⟨rfl, .inr ⟨HN.out, rfl⟩, HG.out⟩
    · have HN : Hid (G = rList (rMe zs) n.toNat k1) := hide (by rw [← HGG.out]; simp [hn])
      clear HGG hE
      obtain ⟨N, rfl⟩ := Int.eq_ofNat_of_zero_le hn0
      rw [Int.toNat_natCast] at HN
      have hs1 := HG.out.size
      go_wp2
      go_loopw [10, 19] (fun l i wr => ∃ (j kj : Nat) (xs : List Me), j ≤ N ∧ i = .int .i64 (j : Int) ∧ xs.length = j ∧ Hid (Rdr wr B a len zs p kj t v) ∧ Hid (OwnD wr w.heap.size wr.heap.size (.row 48 5 j (xs.flatMap meD)) l) ∧ Hid (G = (rList (rMe zs) (N - j) kj).bind fun r => some (xs ++ r.1, r.2)) ∧ Hid (w.grownBy wr (some p))) (fun _ i _ => N - (intOf i).toNat)
      case atStart => exact ⟨0, k1, [], by omega, rfl, rfl, HR1, hide (ownD_nil _ _ _ _ _), hide (by rw [HN.out]; cases rList (rMe zs) N k1 <;> rfl), HG⟩
      case round =>
        clear HN HR1 HG
        obtain ⟨j, kj, xs, hj, rfl, hxl, HR1, HO, HN, HG⟩ := hrel
        by_cases hj' : j < N
        · go_wp2_with fail
          refine (rdMethod cap hcap HR1.out).mono ?_
          rintro e w2 ⟨hres, g2⟩
          have hle := HG.out.size
          rcases hres with ⟨z, k2, u, hr2, rfl, ⟨u1, u2, rfl, ou⟩, hp2⟩ | ⟨hr2, rfl⟩
          · have HR2 := hide (HR1.out.next g2 hp2)
            have HO2 := hide ((HO.out.grownP g2 hlt))
            have hs12 := g2.size
            have HG2 := hide (grownBy_trans HG.out g2)
            have HN2 : Hid (G = (rList (rMe zs) (N - (j + 1)) k2).bind fun r => some (xs ++ [z] ++ r.1, r.2)) := hide (by
              rw [HN.out, show N - j = (N - (j + 1)) + 1 from by omega, rList, hr2]
              simp only [Option.bind_some, Option.bind_assoc]
              congr 1
              funext r
              simp)
            obtain ⟨pa, pc, e1'⟩ : ∃ pa pc, u1 = .slice pa z.ps.length pc := (meD_sl ou).1
            obtain ⟨qa, qc, e2'⟩ : ∃ qa qc, u2 = .slice qa z.c.length qc := (meD_sl ou).2
            subst e1' e2'
            have OU := hide ou
            clear ou
            clear g2 hp2 hr2 HR1 HO HN HG
            unfold meV
            have HB := hide (Box.new w2 #[.string z.n, .slice pa z.ps.length pc, .string z.r, .int .i64 z.l, .slice qa z.c.length qc] 48)
            have bB := (Below.refl w2.heap.size w2).alloc (Nat.le_refl _) (.cells #[.string z.n, .slice pa z.ps.length pc, .string z.r, .int .i64 z.l, .slice qa z.c.length qc] 48)
            have HOa := hide (HO2.out.below bB)
            have HDs : Hid (OwnDL (w2.alloc (.cells #[.string z.n, .slice pa z.ps.length pc, .string z.r, .int .i64 z.l, .slice qa z.c.length qc] 48)) wr.heap.size (w2.alloc (.cells #[.string z.n, .slice pa z.ps.length pc, .string z.r, .int .i64 z.l, .slice qa z.c.length qc] 48)).heap.size (meD z) [.string z.n, .slice pa z.ps.length pc, .string z.r, .int .i64 z.l, .slice qa z.c.length qc]) := hide ((OU.out.below bB).up (by simp))
            have hs2 := HG2.out.size
            have hsz : wr.heap.size ≤ (w2.alloc (.cells #[.string z.n, .slice pa z.ps.length pc, .string z.r, .int .i64 z.l, .slice qa z.c.length qc] 48)).heap.size := by simp; omega
            clear bB
            go_wp2_with (at_builtin; refine appD rfl _ _ 25 rfl w.heap.size wr.heap.size wr.heap.size 48 i0 (.agg #[.string ByteArray.empty, .slice none 0 0, .string ByteArray.empty, .int .i64 0, .slice none 0 0]) 5 88 Tryz.underlying25 HI.out.1 HI.out.2.1 HI.out.2.2.1 HI.out.2.2.2 rfl (by decide) _ j (xs.flatMap meD) rfl HOa.out w2.heap.size 1 [.string z.n, .slice pa z.ps.length pc, .string z.r, .int .i64 z.l, .slice qa z.c.length qc] (meD z) rfl HB.out HDs.out rfl (by simp [Value.oneCell']) (by omega) (by decide) (Nat.le_refl _) hle hsz ?_; intro v3 w3 o3 g3 hb3; have HO3 := hide o3; have HR3 := hide ((HR2.out.alloc _).far g3 (fun q hq => by have := (hb3 q hq).1; omega)); have HG3 := hide (grown_step (grownBy_trans HG2.out (World.grownBy_alloc w2 (.cells #[.string z.n, .slice pa z.ps.length pc, .string z.r, .int .i64 z.l, .slice qa z.c.length qc] 48) (some p))) g3 (fun q hq => .inr (hb3 q hq).1)); clear o3 g3 hb3)
            exact ⟨⟨j + 1, k2, xs ++ [z], by omega, by go_num, by simp [hxl], HR3, hide (by rw [List.flatMap_append]; simpa using HO3.out), HN2, HG3⟩, by simp [intOf]; omega⟩
          · have HF : Hid (G = none) := hide (by rw [HN.out, show N - j = (N - (j + 1)) + 1 from by omega, rList, hr2]; rfl)
            have HG2 := hide (grownBy_trans HG.out g2)
            clear g2 hr2
            go_wp2
            exact ⟨rfl, .inr ⟨HF.out, rfl⟩, HG2.out⟩
        · obtain rfl : j = N := by omega
          have HF : Hid (G = some (xs, kj)) := hide (by rw [HN.out, Nat.sub_self, rList]; simp)
          have HP := hide HR1.out.pl
          have HO9 : Hid (∀ l, OwnD wr w.heap.size wr.heap.size (.row 48 5 j (xs.flatMap meD)) l → OwnD wr w.heap.size wr.heap.size (mets xs) l) := hide (fun l h => by unfold mets; rw [hxl]; exact h)
          go_wp2
          go_ret
          exact ⟨.inl ⟨_, _, _, HF.out, rfl, HO9.out _ HO.out, HP.out⟩, HG.out⟩
  · have HN : Hid (G = none) := hide (by rw [← HGG.out]; unfold rMany; rw [hr1]; rfl)
    clear g1 hr1
    go_wp2
    exact ⟨rfl, .inr ⟨HN.out, rfl⟩, HG.out⟩
end Go.Proofs.YtpgmipbanpofaaaGreatDoor
