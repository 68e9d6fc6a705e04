/-
  Joined: TakeK, TakeC6, KMath.
-/
import Derived.Test.YtpgmipbanpofaaaGreatDoorJ8
import Derived.Test.YtpgmipbanpofaaaGreatDoorJ5
import Derived.Test.YtpgmipbanpofaaaGreatDoorJ12
/-
  What takePart and takeConst do: what begins at the place, and the place behind it; or a panic, where there is none.
-/
namespace Go.Proofs.YtpgmipbanpofaaaGreatDoor
open Go.RowKit Go.Maps

/-- The part that begins at place k. -/
def rPart (zs : List Int) (p : Int) (k : Nat) : Option ((Int × ByteArray) × Nat) :=
  bif p == 0 then (gw zs (k : Int)).map fun r => ((r.1, noS), r.2) else (gtOf zs (gn zs (k : Int))).map fun r => ((0, r.1), r.2)
/-- The parts from place j of a const on that begin at place k, put to those that there are. -/
def rP (zs : List Int) (kd : Int) : Nat → Nat → Nat → DataW Unit → Option (DataW Unit × Nat)
  | 0, _, k, D => some (D, k)
  | f + 1, j, k, D => bif refB kd j then (rPart zs j k).bind (fun r => rP zs kd f (j + 1) r.2 (D.put (.int .i64 j) (dPart r.1.1 r.1.2))) else rP zs kd f (j + 1) k D

def tookP (w : World) (p : Nat) (t : TypeId) (v : Value) (r : Option ((Int × ByteArray) × Nat)) (e : Ending) (w' : World) : Prop :=
  ((∃ n s nx, r = some ((n, s), nx) ∧ e = .returned (.agg #[.int .i64 n, .string s]) ∧ w'.heap[p]? = some (.cells #[.int .i64 ((nx : Nat) : Int)] 3 (0, 0))) ∨
   (r = none ∧ e = .panicked [{ v := .iface t v, recovered := false }])) ∧ w.grownBy w' (some p)

theorem loadP {w : World} {g : Nat} {x y : Value} (h : w.heap[g]? = some (.cells #[x, y] 107 (0, 0))) : (loadVar 107 ⟨g, 0, none⟩).run Tryz.prog w = .ok (.agg #[x, y]) w :=
  run_loadVar_row w g 107 107 #[x, y] (0, 0) _ h Tryz.underlying107 rfl (by kernel_rfl)
theorem putP {w : World} {g : Nat} {T : TypeId} {x y : Value} (h : w.heap[g]? = some (.cells #[x, y] T (0, 0))) (a b : Value) : ((w.setCell ⟨g, 0, none⟩ a).setCell ⟨g, 1, none⟩ b).heap[g]? = some (.cells #[a, b] T (0, 0)) := by
  have h1 := heap_setCell_same w g 0 _ T a h
  exact heap_setCell_same _ g 1 _ T b h1
theorem put4 {w : World} {g : Nat} {T : TypeId} {x y z u : Value} (h : w.heap[g]? = some (.cells #[x, y, z, u] T (0, 0))) (a b c d : Value) : ((((w.setCell ⟨g, 0, none⟩ a).setCell ⟨g, 1, none⟩ b).setCell ⟨g, 2, none⟩ c).setCell ⟨g, 3, none⟩ d).heap[g]? = some (.cells #[a, b, c, d] T (0, 0)) := by
  have h1 := heap_setCell_same w g 0 _ T a h
  have h2 := heap_setCell_same _ g 1 _ T b h1
  have h3 := heap_setCell_same _ g 2 _ T c h2
  exact heap_setCell_same _ g 3 _ T d h3
theorem grownSet {w w1 : World} {p l : Nat} (h : w.grownBy w1 (some p)) (hl : w.heap.size ≤ l) (o : Nat) (v : Value) : w.grownBy (w1.setCell ⟨l, o, none⟩ v) (some p) :=
  grown_step h (grown_set (g := l) (World.grownBy.refl w1 (some l)) o v) (fun k hk => by cases hk; exact .inr hl)
theorem placeSet {w : World} {p l o : Nat} {x : Obj} (h : w.heap[p]? = some x) (hl : p ≠ l) (v : Value) : (w.setCell ⟨l, o, none⟩ v).heap[p]? = some x := (heap_setCell_other w ⟨l, o, none⟩ p v hl).trans h

set_option maxRecDepth 100000 in
set_option maxHeartbeats 2000000 in
theorem takePart (w : World) (a : Option Addr) (len cap : Nat) (zs : List Int) (B p k0 j : Nat) (t : TypeId) (v : Value) (hin : In w B a len zs) (hcap : len ≤ cap) (hB : B ≤ p) (hp0 : 0 < p) (hE : Err w t v)
    (hp : w.heap[p]? = some (.cells #[.int .i64 (k0 : Int)] 3 (0, 0))) :
    Calls Tryz.prog 83 #[.slice a len cap, .pointer (some ⟨p, 0, none⟩), .int .i64 (j : Int)] w (tookP w p t v (rPart zs j k0)) := by
  have hpw : p < w.heap.size := (Array.getElem?_eq_some_iff.1 hp).1
  have bA := (Below.refl w.heap.size w).alloc (Nat.le_refl _) (.cells #[.int .i64 0, .string noS] 107)
  have hgA := World.grownBy_alloc w (.cells #[.int .i64 0, .string noS] 107) (some p)
  have E0 := hide (heap_alloc_new w (.cells #[.int .i64 0, .string noS] 107))
  have hin1 := hin.out hgA hB hpw
  have hE1 := hE.out hgA hp0
  have hp1 := (bA.block p hpw).trans hp
  have HG := hide hgA
  cases hj : ((j : Int) == 0) with
  | true =>
    have HT := hide (takeWord _ a len cap zs B p k0 t v hin1 hB hp0 hE1 hp1)
    have HR : Hid (rPart zs j k0 = (gw zs (k0 : Int)).map fun r => ((r.1, noS), r.2)) := hide (by simp [rPart, hj])
    clear hin hE hp bA hgA hin1 hE1 hp1
    go_enter Tryz.func83, Tryz.ntmps83
    go_wp2_with fail
    refine (unhide HT).mono ?_
    rintro e w1 ⟨h1, hg1⟩
    replace HG := hide (grown_step HG.out hg1 (fun k hk => by cases hk; exact .inl rfl))
    replace E0 := hide ((hg1.block w.heap.size (by simp) (by simp; omega)).trans E0.out)
    clear hg1 HT
    rcases h1 with ⟨n, nx, hr, rfl, hpl⟩ | ⟨hr, rfl⟩
    · have HP := hide hpl
      have X := box_of E0.out
      have c0 := X.1 0 _ rfl
      have c1 := X.1 1 _ rfl
      have z0 := X.2 0
      have z1 := X.2 1
      clear X hpl
      replace HR := hide (HR.out.trans (by rw [hr]))
      clear hr
      go_wp2
      exact bodyPost_ret (v := .agg #[.int .i64 n, .string noS]) (results_one Tryz.results83 _ _ _ rfl (loadP (putP E0.out _ _))) rfl ⟨.inl ⟨n, noS, nx, HR.out, rfl, placeSet (placeSet HP.out (by omega) _) (by omega) _⟩, grownSet (grownSet HG.out (Nat.le_refl _) _ _) (Nat.le_refl _) _ _⟩
    · replace HR := hide (HR.out.trans (by rw [hr]))
      clear hr
      go_wp2
      exact ⟨rfl, .inr ⟨HR.out, rfl⟩, HG.out⟩
  | false =>
    have hnum := takeNum _ a len cap zs B p k0 t v hin1 hB hp0 hE1 hp1
    rw [show gnF zs 4 k0 0 1 = gn zs (k0 : Int) from by simp [gn]] at hnum
    have HT := hide (takeText _ a len cap zs B p k0 t v (gn zs (k0 : Int)) hin1 hcap hB hp0 hE1 hp1 (fun n nx h => gn_bd hin h) hnum)
    have HR : Hid (rPart zs j k0 = (gtOf zs (gn zs (k0 : Int))).map fun r => ((0, r.1), r.2)) := hide (by simp [rPart, hj])
    clear hin hE hp bA hgA hin1 hE1 hp1 hnum
    go_enter Tryz.func83, Tryz.ntmps83
    go_wp2_with fail
    refine (unhide HT).mono ?_
    rintro e w1 ⟨h1, hg1⟩
    replace HG := hide (grown_step HG.out hg1 (fun k hk => by cases hk; exact .inl rfl))
    replace E0 := hide ((hg1.block w.heap.size (by simp) (by simp; omega)).trans E0.out)
    clear hg1 HT
    rcases h1 with ⟨s, nx, hr, rfl, hpl⟩ | ⟨hr, rfl⟩
    · have HP := hide hpl
      have X := box_of E0.out
      have c0 := X.1 0 _ rfl
      have c1 := X.1 1 _ rfl
      have z0 := X.2 0
      have z1 := X.2 1
      clear X hpl
      replace HR := hide (HR.out.trans (by rw [hr]))
      clear hr
      go_wp2
      exact bodyPost_ret (v := .agg #[.int .i64 0, .string s]) (results_one Tryz.results83 _ _ _ rfl (loadP (putP E0.out _ _))) rfl ⟨.inl ⟨0, s, nx, HR.out, rfl, placeSet (placeSet HP.out (by omega) _) (by omega) _⟩, grownSet (grownSet HG.out (Nat.le_refl _) _ _) (Nat.le_refl _) _ _⟩
    · replace HR := hide (HR.out.trans (by rw [hr]))
      clear hr
      go_wp2
      exact ⟨rfl, .inr ⟨HR.out, rfl⟩, HG.out⟩
end Go.Proofs.YtpgmipbanpofaaaGreatDoor
/-
  What takeConst does: the const that begins at the place, and the place behind it; or a panic, where there is none.
-/
namespace Go.Proofs.YtpgmipbanpofaaaGreatDoor
open Go.RowKit Go.Maps

/-- What a part's reading says. -/
def dec (d : DataW Unit) : Int × ByteArray :=
  match d with
  | .agg [.lit (.int .i64 n), .lit (.string s)] => (n, ⟨s.toArray⟩)
  | _ => (0, noS)
theorem dec_part (n : Int) (s : ByteArray) : dec (dPart n s) = (n, s) := by
  obtain ⟨⟨l⟩⟩ := s
  rfl
/-- All that is there are parts. -/
def InvD (D : DataW Unit) : Prop := ∀ x, ∃ n s, D.atKey (.int .i64 x) (dPart 0 noS) = dPart n s
theorem InvD.nil : InvD (.map []) := fun _ => ⟨0, noS, rfl⟩
theorem InvD.put {D : DataW Unit} (h : InvD D) (hm : IsMap D) (k n : Int) (s : ByteArray) : InvD (D.put (.int .i64 k) (dPart n s)) := fun x => by
  by_cases hx : x = k
  · subst hx
    exact ⟨n, s, atKey_put_same hm (by first | trivial | simp [WideAt.IsKeyLit]) _ _⟩
  · obtain ⟨m, t, e⟩ := h x
    exact ⟨m, t, by rw [atKey_put_other (by simp [hx])]; exact e⟩

/-- The const that the parts make. -/
def ofD (kd : Int) (D : DataW Unit) : Int × Int × ByteArray × ByteArray := (kd, (dec (D.atKey (.int .i64 0) (dPart 0 noS))).1, (dec (D.atKey (.int .i64 1) (dPart 0 noS))).2, (dec (D.atKey (.int .i64 2) (dPart 0 noS))).2)
def cV (c : Int × Int × ByteArray × ByteArray) : Value := constV c.1 c.2.1 c.2.2.1 c.2.2.2
/-- The const that begins at place k. -/
def rK0 (zs : List Int) (k : Int) : Option ((Int × Int × ByteArray × ByteArray) × Nat) := (gn zs k).bind fun r => (rP zs r.1 3 0 r.2 (.map [])).map fun q => (ofD r.1 q.1, q.2)

def tookK (w : World) (p : Nat) (t : TypeId) (v : Value) (r : Option ((Int × Int × ByteArray × ByteArray) × Nat)) (e : Ending) (w' : World) : Prop :=
  ((∃ c nx, r = some (c, nx) ∧ e = .returned (cV c) ∧ w'.heap[p]? = some (.cells #[.int .i64 ((nx : Nat) : Int)] 3 (0, 0))) ∨
   (r = none ∧ e = .panicked [{ v := .iface t v, recovered := false }])) ∧ w.grownBy w' (some p)

set_option maxRecDepth 100000 in
set_option maxHeartbeats 4000000 in
theorem takeConst (w : World) (a : Option Addr) (len cap : Nat) (zs : List Int) (B p : Nat) (k : Int) (t : TypeId) (v : Value) (hin : In w B a len zs) (hcap : len ≤ cap) (hB : B ≤ p) (hp0 : 0 < p) (hE : Err w t v)
    (hp : w.heap[p]? = some (.cells #[.int .i64 k] 3 (0, 0))) :
    Calls Tryz.prog 64 #[.slice a len cap, .pointer (some ⟨p, 0, none⟩)] w (tookK w p t v (rK0 zs k)) := by
  have hmm := @run_makeMap Tryz.prog
  have hpw : p < w.heap.size := (Array.getElem?_eq_some_iff.1 hp).1
  have bA := (Below.refl w.heap.size w).alloc (Nat.le_refl _) (.cells #[.int .i64 0, .int .i64 0, .string noS, .string noS] 42)
  have hgA := World.grownBy_alloc w (.cells #[.int .i64 0, .int .i64 0, .string noS, .string noS] 42) (some p)
  have E0 := hide (heap_alloc_new w (.cells #[.int .i64 0, .int .i64 0, .string noS, .string noS] 42))
  have hin1 := hin.out hgA hB hpw
  have hE1 := hE.out hgA hp0
  have hp1 := (bA.block p hpw).trans hp
  have HG := hide hgA
  have HI := hide hin
  have HE := hide hE
  have hnum : Calls Tryz.prog 81 #[.slice a len cap, .pointer (some ⟨p, 0, none⟩)] (w.alloc (.cells #[.int .i64 0, .int .i64 0, .string noS, .string noS] 42)) (took (w.alloc (.cells #[.int .i64 0, .int .i64 0, .string noS, .string noS] 42)) p t v (gn zs k)) := by
    by_cases hk : 0 ≤ k
    · obtain ⟨k0, rfl⟩ := Int.eq_ofNat_of_zero_le hk
      have e1 : gn zs (k0 : Int) = gnF zs 4 k0 0 1 := by simp [gn]
      rw [e1]
      exact takeNum _ a len cap zs B p k0 t v hin1 hB hp0 hE1 hp1
    · have e1 : gn zs k = none := by simp [gn, hk]
      rw [e1]
      exact takeNumNeg _ a len cap p k t v (by omega) hE1 hp1
  have HT := hide hnum
  have HR : Hid (rK0 zs k = (gn zs k).bind fun r => (rP zs r.1 3 0 r.2 (.map [])).map fun q => (ofD r.1 q.1, q.2)) := hide rfl
  clear hin hE hp bA hgA hin1 hE1 hp1 hnum
  go_enter Tryz.func64, Tryz.ntmps64
  go_wp2_with fail
  refine (unhide HT).mono ?_
  rintro e w1 ⟨h1, hg1⟩
  replace HG := hide (grown_step HG.out hg1 (fun k hk => by cases hk; exact .inl rfl))
  replace E0 := hide ((hg1.block w.heap.size (by simp) (by simp; omega)).trans E0.out)
  have hs1 : w.heap.size < w1.heap.size := by have := hg1.size; simp at this; omega
  clear hg1 HT
  rcases h1 with ⟨kd, k1, hr, rfl, hpl⟩ | ⟨hr, rfl⟩
  · have HP := hide hpl
    replace HR : Hid (rK0 zs k = (rP zs kd 3 0 k1 (.map [])).map fun q => (ofD kd q.1, q.2)) := hide (HR.out.trans (by rw [hr]; rfl))
    clear hpl hr
    have H0 := hide (World.ownsMap_made w1 Tryz.prog 3 partR)
    have bM := (Below.refl w1.heap.size w1).alloc (Nat.le_refl _) (.map #[] 0)
    replace HG := hide (grown_step HG.out (World.grownBy_alloc w1 (.map #[] 0) none) (fun k hk => by cases hk))
    replace E0 := hide ((bM.block w.heap.size hs1).trans E0.out)
    replace HP := hide ((bM.block p (by omega)).trans HP.out)
    clear bM
    go_wp2
    generalize hG : rP zs kd 3 0 k1 (.map []) = G at *
    have HGG := hide hG
    clear hG
    go_loopw [12] (fun x wr => ∃ (j kj : Nat) (D : DataW Unit), j ≤ 3 ∧ x = .int .i64 (j : Int) ∧ Hid (rP zs kd (3 - j) j kj D = G) ∧ Hid (InvD D) ∧ Hid (wr.ownsMap Tryz.prog 3 partR w1.heap.size j D) ∧ Hid (wr.heap[p]? = some (.cells #[.int .i64 (kj : Int)] 3 (0, 0))) ∧ Hid (w.grownBy wr (some p)) ∧ Hid (wr.heap[w.heap.size]? = some (.cells #[.int .i64 0, .int .i64 0, .string noS, .string noS] 42 (0, 0)))) (fun x _ => 3 - (intOf x).toNat)
    case atStart => exact ⟨0, k1, .map [], by omega, rfl, HGG, hide InvD.nil, H0, HP, HG, E0⟩
    case round =>
      obtain ⟨j, kj, D, hj, rfl, HX, HV, HO, HP1, HG1, HE1⟩ := hrel
      clear HGG H0 HP HG E0
      have hmw : w1.heap.size < wr.heap.size := World.ownsMap.lt HO.out
      by_cases hlt : j < 3
      · have e3 : 3 - j = (2 - j) + 1 := by omega
        rw [e3] at HX
        cases hrf : refB kd j with
        | false =>
          replace HX : Hid (rP zs kd (3 - (j + 1)) (j + 1) kj D = G) := hide (by have := HX.out; rw [rP, hrf] at this; rw [show 3 - (j + 1) = 2 - j from by omega]; exact this)
          go_wp2_with fail
          refine (refersImpl _ _ _).mono ?_
          rintro e w2 ⟨rfl, rfl⟩
          rw [hrf]
          go_wp2
          exact ⟨⟨j + 1, kj, D, by omega, by go_num, HX, HV, hide (World.ownsMap.mono HO.out (by omega)), HP1, HG1, HE1⟩, by simp [intOf]; omega⟩
        | true =>
          replace HX : Hid ((rPart zs j kj).bind (fun r => rP zs kd (3 - (j + 1)) (j + 1) r.2 (D.put (.int .i64 j) (dPart r.1.1 r.1.2))) = G) := hide (by have := HX.out; rw [rP, hrf] at this; rw [show 3 - (j + 1) = 2 - j from by omega]; exact this)
          have HQ := hide (takePart wr a len cap zs B p kj j t v (HI.out.out HG1.out hB hpw) hcap hB hp0 (HE.out.out HG1.out hp0) HP1.out)
          go_wp2_with fail
          refine (refersImpl _ _ _).mono ?_
          rintro e w2 ⟨rfl, rfl⟩
          rw [hrf]
          go_wp2_with fail
          refine (unhide HQ).mono ?_
          rintro e w3 ⟨h3, hg3⟩
          have HG3 := hide (grown_step HG1.out hg3 (fun k hk => by cases hk; exact .inl rfl))
          have HO3 := hide (World.ownsMap.kept HO.out hg3 (by simp; omega))
          have HE3 := hide ((hg3.block w.heap.size (by omega) (by simp; omega)).trans HE1.out)
          clear HQ hg3 HO HG1 HP1 HE1
          rcases h3 with ⟨n, s, nx, hr, rfl, hpl⟩ | ⟨hr, rfl⟩
          · have HP3 := hide hpl
            replace HX : Hid (rP zs kd (3 - (j + 1)) (j + 1) nx (D.put (.int .i64 j) (dPart n s)) = G) := hide (by have := HX.out; rw [hr] at this; exact this)
            clear hpl hr
            have hl3 : w1.heap.size < w3.heap.size := World.ownsMap.lt HO3.out
            go_wp2_with (at_mapUpdate; refine wp_store rfl _ _ _ rfl w1.heap.size j D rfl HO3.out (by omega) j (by omega) rfl n s rfl ?_; intro w4 h4 g4; have HO4 := hide h4; have HG4 := hide (grown_step HG3.out g4 (fun k hk => by cases hk; exact .inr (by omega))); have HP4 := hide ((g4.block p (by omega) (by simp; omega)).trans HP3.out); have HE4 := hide ((g4.block w.heap.size (by omega) (by simp; omega)).trans HE3.out); clear h4 g4)
            exact ⟨⟨j + 1, nx, _, by omega, by go_num, HX, hide (HV.out.put (World.ownsMap.isMap HO3.out) _ _ _), HO4, HP4, HG4, HE4⟩, by simp [intOf]; omega⟩
          · replace HR : Hid (rK0 zs k = none) := hide (by rw [HR.out, ← HX.out, hr]; rfl)
            go_wp2
            exact ⟨rfl, .inr ⟨HR.out, rfl⟩, HG3.out⟩
      · obtain rfl : j = 3 := by omega
        obtain ⟨n0, s0, a0⟩ := HV.out 0
        obtain ⟨n1, s1, a1⟩ := HV.out 1
        obtain ⟨n2, s2, a2⟩ := HV.out 2
        replace HR : Hid (rK0 zs k = some ((kd, n0, s1, s2), kj)) := hide (by rw [HR.out, ← HX.out]; simp [rP, ofD, a0, a1, a2, dec_part])
        have HPool : Hid (Pool wr w1.heap.size D) := hide (World.ownsMap.mono HO.out (by omega))
        have HQ := hide (constOfImpl w1.heap.size D kd n0 n1 n2 s0 s1 s2 wr HPool.out a0 a1 a2)
        clear a0 a1 a2
        go_wp2_with fail
        refine (unhide HQ).mono ?_
        rintro e w3 ⟨rfl, b3⟩
        have HG3 := hide (grown_step HG1.out (grown_of_below b3) (fun k hk => by cases hk))
        have HE3 := hide ((b3.block w.heap.size (by omega)).trans HE1.out)
        have HP3 := hide ((b3.block p (by omega)).trans HP1.out)
        clear b3 HQ HE1 HP1
        unfold constV
        have X := box_of HE3.out
        have c0 := X.1 0 _ rfl
        have c1 := X.1 1 _ rfl
        have c2 := X.1 2 _ rfl
        have c3 := X.1 3 _ rfl
        have z0 := X.2 0
        have z1 := X.2 1
        have z2 := X.2 2
        have z3 := X.2 3
        clear X
        go_wp2
        exact bodyPost_ret (v := constV kd n0 s1 s2) (results_one Tryz.results64 _ _ _ rfl (loadK (put4 HE3.out _ _ _ _))) rfl ⟨.inl ⟨_, _, HR.out, rfl, placeSet (placeSet (placeSet (placeSet HP3.out (by omega) _) (by omega) _) (by omega) _) (by omega) _⟩, grownSet (grownSet (grownSet (grownSet HG3.out (Nat.le_refl _) _ _) (Nat.le_refl _) _ _) (Nat.le_refl _) _ _) (Nat.le_refl _) _ _⟩
  · replace HR : Hid (rK0 zs k = none) := hide (HR.out.trans (by rw [hr]; rfl))
    clear hr
    go_wp2
    exact ⟨rfl, .inr ⟨HR.out, rfl⟩, HG.out⟩
end Go.Proofs.YtpgmipbanpofaaaGreatDoor
/-
  The const that begins at a place, kind by kind.
-/
namespace Go.Proofs.YtpgmipbanpofaaaGreatDoor
open Go.RowKit Go.Maps

def gtx (zs : List Int) (k : Int) : Option (ByteArray × Nat) := gtOf zs (gn zs k)
def rKk (zs : List Int) (kd : Int) (k : Nat) : Option ((Int × Int × ByteArray × ByteArray) × Nat) :=
  if kd = 1 then (gw zs k).map fun q => ((1, q.1, noS, noS), q.2)
  else if kd = 2 then (gtx zs k).map fun q => ((2, 0, q.1, noS), q.2)
  else if kd = 3 ∨ kd = 4 then (gtx zs k).bind fun q => (gtx zs q.2).map fun u => ((kd, 0, q.1, u.1), u.2)
  else some ((kd, 0, noS, noS), k)

theorem rKk_eq (zs : List Int) (kd : Int) (k : Nat) : (rP zs kd 3 0 k (.map [])).map (fun q => (ofD kd q.1, q.2)) = rKk zs kd k := by
  unfold rKk
  by_cases h1 : kd = 1
  · subst h1
    rw [if_pos rfl]
    rw [show rP zs 1 3 0 k (.map []) = (rPart zs 0 k).bind (fun r => some ((DataW.map []).put (.int .i64 0) (dPart r.1.1 r.1.2), r.2)) from rfl]
    rw [show rPart zs 0 k = (gw zs (k : Int)).map (fun r => ((r.1, noS), r.2)) from rfl]
    cases gw zs (k : Int) with
    | none => rfl
    | some r =>
      simp only [Option.map_some, Option.bind_some, Option.some.injEq, Prod.mk.injEq, and_true]
      show ((1 : Int), (dec (dPart r.1 noS)).1, (dec (dPart 0 noS)).2, (dec (dPart 0 noS)).2) = _
      simp only [dec_part]
  · rw [if_neg h1]
    by_cases h2 : kd = 2
    · subst h2
      rw [if_pos rfl]
      rw [show rP zs 2 3 0 k (.map []) = (rPart zs 1 k).bind (fun r => some ((DataW.map []).put (.int .i64 1) (dPart r.1.1 r.1.2), r.2)) from rfl]
      rw [show rPart zs 1 k = (gtx zs (k : Int)).map (fun r => ((0, r.1), r.2)) from rfl]
      cases gtx zs (k : Int) with
      | none => rfl
      | some r =>
        simp only [Option.map_some, Option.bind_some, Option.some.injEq, Prod.mk.injEq, and_true]
        show ((2 : Int), (dec (dPart 0 noS)).1, (dec (dPart 0 r.1)).2, (dec (dPart 0 noS)).2) = _
        simp only [dec_part]
    · rw [if_neg h2]
      by_cases h3 : kd = 3 ∨ kd = 4
      · rw [if_pos h3]
        have e0 : refB kd ((0 : Nat) : Int) = false := by simp [refB, h1, h2]
        have e1 : refB kd ((0 + 1 : Nat) : Int) = true := by simp [refB, h1, h2, h3]
        have e2 : refB kd ((0 + 1 + 1 : Nat) : Int) = true := by simp [refB, h1, h2, h3]
        have e : rP zs kd 3 0 k (.map []) = (rPart zs 1 k).bind (fun r => (rPart zs 2 r.2).bind (fun u => some (((DataW.map []).put (.int .i64 1) (dPart r.1.1 r.1.2)).put (.int .i64 2) (dPart u.1.1 u.1.2), u.2))) := by
          simp only [rP, e0, e1, e2, cond_true, cond_false]
          rfl
        rw [e]
        rw [show rPart zs 1 k = (gtx zs (k : Int)).map (fun r => ((0, r.1), r.2)) from rfl]
        cases gtx zs (k : Int) with
        | none => rfl
        | some r =>
          simp only [Option.map_some, Option.bind_some]
          rw [show rPart zs 2 r.2 = (gtx zs (r.2 : Int)).map (fun r => ((0, r.1), r.2)) from rfl]
          cases gtx zs (r.2 : Int) with
          | none => rfl
          | some u =>
            simp only [Option.map_some, Option.bind_some, Option.some.injEq, Prod.mk.injEq, and_true]
            show (kd, (dec (dPart 0 noS)).1, (dec (dPart 0 r.1)).2, (dec (dPart 0 u.1)).2) = _
            simp only [dec_part]
      · rw [if_neg h3]
        have er : ∀ p, refB kd p = false := fun p => by simp [refB, h1, h2, h3]
        have e : rP zs kd 3 0 k (.map []) = some (.map [], k) := by simp only [rP, er, cond_false]
        rw [e]
        show some ((kd, (dec (dPart 0 noS)).1, (dec (dPart 0 noS)).2, (dec (dPart 0 noS)).2), k) = _
        simp only [dec_part]
theorem rK0_eq (zs : List Int) (k : Int) : rK0 zs k = (gn zs k).bind fun r => rKk zs r.1 r.2 := by
  unfold rK0
  cases gn zs k with
  | none => rfl
  | some r => exact rKk_eq zs r.1 r.2

theorem gtx_size {zs : List Int} {k : Int} {s : ByteArray} {nx : Nat} (h : gtx zs k = some (s, nx)) : s.size ≤ 200 := by
  unfold gtx at h
  cases hg : gn zs k with
  | none => rw [hg] at h; cases h
  | some r =>
    obtain ⟨n, m⟩ := r
    rw [hg] at h
    by_cases hc : n ≤ 200 ∧ m + n.toNat ≤ zs.length
    · rw [gtOf_yes zs n m hc] at h
      simp only [Option.some.injEq, Prod.mk.injEq] at h
      rw [← h.1, strOfNums_size]
      simp
      omega
    · rw [gtOf_no zs n m hc] at h; cases h
theorem rKk_size {zs : List Int} {kd : Int} {k : Nat} {c : Int × Int × ByteArray × ByteArray} {e : Nat} (h : rKk zs kd k = some (c, e)) : c.2.2.1.size ≤ 200 ∧ c.2.2.2.size ≤ 200 := by
  have h0 : noS.size ≤ 200 := by simp [ByteArray.size]
  unfold rKk at h
  split at h
  · obtain ⟨q, _, hq⟩ := Option.map_eq_some_iff.1 h
    cases hq
    exact ⟨h0, h0⟩
  · split at h
    · obtain ⟨q, hg, hq⟩ := Option.map_eq_some_iff.1 h
      cases hq
      exact ⟨gtx_size hg, h0⟩
    · split at h
      · obtain ⟨q, hg, h⟩ := Option.bind_eq_some_iff.1 h
        obtain ⟨u, hu, hq⟩ := Option.map_eq_some_iff.1 h
        cases hq
        exact ⟨gtx_size hg, gtx_size hu⟩
      · cases h
        exact ⟨h0, h0⟩
theorem rK0_size {zs : List Int} {k : Int} {c : Int × Int × ByteArray × ByteArray} {e : Nat} (h : rK0 zs k = some (c, e)) : c.2.2.1.size ≤ maxLen ∧ c.2.2.2.size ≤ maxLen := by
  rw [rK0_eq] at h
  obtain ⟨r, _, h⟩ := Option.bind_eq_some_iff.1 h
  have := rKk_size h
  unfold maxLen
  omega

def cOk (c : Int × Int × ByteArray × ByteArray) : Bool := kOk c.1 c.2.1 c.2.2.1 c.2.2.2
/-- What ConstOf answers. -/
def cOf (zs : List Int) (k : Int) : Option ((Int × Int × ByteArray × ByteArray) × Nat) := (rK0 zs k).bind fun q => if cOk q.1 = true then some q else none
theorem cOf_none {zs : List Int} {k : Int} (h : rK0 zs k = none) : cOf zs k = none := by unfold cOf; rw [h]; rfl
theorem cOf_bad {zs : List Int} {k : Int} {c : Int × Int × ByteArray × ByteArray} {e : Nat} (h : rK0 zs k = some (c, e)) (hc : cOk c = false) : cOf zs k = none := by unfold cOf; rw [h]; simp [hc]
theorem cOf_some {zs : List Int} {k : Int} {c : Int × Int × ByteArray × ByteArray} {e : Nat} (h : rK0 zs k = some (c, e)) (hc : cOk c = true) : cOf zs k = some (c, e) := by unfold cOf; rw [h]; simp [hc]
end Go.Proofs.YtpgmipbanpofaaaGreatDoor
