/-
  KindOf, FieldOf, MethodOf and Sub, in the program and in its model.
-/
import Derived.Test.YtlkjackakcdmbaaPrgF
namespace Go.Proofs.Ytlkjackakcdmbaa
open Go.RowKit

set_option maxRecDepth 100000 in
set_option maxHeartbeats 4000000 in
theorem kindImpl (w : World) (x : Pg) (u : Value) (s : ByteArray) (h : Reads w w.heap.size (kins x.k) u) (hm : x.k.length ≤ 1048576) :
    Calls Try.prog 10 #[pgV x u, .string s] w fun e w' => e = .returned (.int .i64 (kindX x.k s)) ∧ Below w.heap.size w w' := by
  obtain ⟨a1, c1, e1, _⟩ := h.shape
  subst e1
  have bA := ((Below.refl w.heap.size w).alloc (Nat.le_refl _) (.cells #[.slice a1 x.k.length c1] 29)).alloc (by simp) (.cells #[.string s] 9)
  have HR := hide (h.at bA)
  have HB := hide bA
  have G1 := heap_alloc_new (w.alloc (.cells #[.slice a1 x.k.length c1] 29)) (.cells #[.string s] 9)
  simp only [World.size_alloc] at G1
  have HC := hide ((box_of G1).1 0 _ rfl)
  have HS : Hid (w.heap.size + 1 < ((w.alloc (.cells #[.slice a1 x.k.length c1] 29)).alloc (.cells #[.string s] 9)).heap.size) := hide (by simp)
  clear h bA G1
  unfold pgV
  go_enter Try.func10, Try.ntmps10
  go_wp2_with fail
  refine (idxKind _ _ x.k _ s HR.out hm HC.out HS.out).mono ?_
  rintro e w1 ⟨rfl, b1⟩
  replace HB := hide (HB.out.trans (b1.mono HB.out.size))
  clear b1
  go_wp2
  go_ret
  exact ⟨rfl, HB.out⟩
set_option maxRecDepth 100000 in
set_option maxHeartbeats 4000000 in
theorem fieldPl (w : World) (x : Kd) (u1 u2 u3 : Value) (s : ByteArray) (h1 : Reads w w.heap.size (pool x.p) u1) (h2 : Reads w w.heap.size (flds x.f) u2) (h3 : Reads w w.heap.size (cods x.m) u3) (hm : x.f.length ≤ 1048576) :
    Calls Try.prog 25 #[kdV x u1 u2 u3, .string s] w fun e w' => e = .returned (.int .i64 (fieldX x.f s)) ∧ Below w.heap.size w w' := by
  obtain ⟨a1, c1, e1, _⟩ := h1.shape
  obtain ⟨a2, c2, e2, _⟩ := h2.shape
  obtain ⟨a3, c3, e3, _⟩ := h3.shape
  subst e1 e2 e3
  have bA := ((Below.refl w.heap.size w).alloc (Nat.le_refl _) (.cells #[.string x.n, .int .i64 x.s, .slice a1 x.p.length c1, .slice a2 x.f.length c2, .slice a3 x.m.length c3] 42)).alloc (by simp) (.cells #[.string s] 9)
  have HR := hide (h2.at bA)
  have HB := hide bA
  have G1 := heap_alloc_new (w.alloc (.cells #[.string x.n, .int .i64 x.s, .slice a1 x.p.length c1, .slice a2 x.f.length c2, .slice a3 x.m.length c3] 42)) (.cells #[.string s] 9)
  simp only [World.size_alloc] at G1
  have HC := hide ((box_of G1).1 0 _ rfl)
  have HS : Hid (w.heap.size + 1 < ((w.alloc (.cells #[.string x.n, .int .i64 x.s, .slice a1 x.p.length c1, .slice a2 x.f.length c2, .slice a3 x.m.length c3] 42)).alloc (.cells #[.string s] 9)).heap.size) := hide (by simp)
  clear h1 h2 h3 bA G1
  unfold kdV
  go_enter Try.func25, Try.ntmps25
  go_wp2_with fail
  refine (idxField _ _ x.f _ s HR.out hm HC.out HS.out).mono ?_
  rintro e w1 ⟨rfl, b1⟩
  replace HB := hide (HB.out.trans (b1.mono HB.out.size))
  clear b1
  go_wp2
  go_ret
  exact ⟨rfl, HB.out⟩
set_option maxRecDepth 100000 in
set_option maxHeartbeats 4000000 in
theorem methPl (w : World) (x : Kd) (u1 u2 u3 : Value) (s : ByteArray) (h1 : Reads w w.heap.size (pool x.p) u1) (h2 : Reads w w.heap.size (flds x.f) u2) (h3 : Reads w w.heap.size (cods x.m) u3) (hm : x.m.length ≤ 1048576) :
    Calls Try.prog 26 #[kdV x u1 u2 u3, .string s] w fun e w' => e = .returned (.int .i64 (methX x.m s)) ∧ Below w.heap.size w w' := by
  obtain ⟨a1, c1, e1, _⟩ := h1.shape
  obtain ⟨a2, c2, e2, _⟩ := h2.shape
  obtain ⟨a3, c3, e3, _⟩ := h3.shape
  subst e1 e2 e3
  have bA := ((Below.refl w.heap.size w).alloc (Nat.le_refl _) (.cells #[.string x.n, .int .i64 x.s, .slice a1 x.p.length c1, .slice a2 x.f.length c2, .slice a3 x.m.length c3] 42)).alloc (by simp) (.cells #[.string s] 9)
  have HR := hide (h3.at bA)
  have HB := hide bA
  have G1 := heap_alloc_new (w.alloc (.cells #[.string x.n, .int .i64 x.s, .slice a1 x.p.length c1, .slice a2 x.f.length c2, .slice a3 x.m.length c3] 42)) (.cells #[.string s] 9)
  simp only [World.size_alloc] at G1
  have HC := hide ((box_of G1).1 0 _ rfl)
  have HS : Hid (w.heap.size + 1 < ((w.alloc (.cells #[.string x.n, .int .i64 x.s, .slice a1 x.p.length c1, .slice a2 x.f.length c2, .slice a3 x.m.length c3] 42)).alloc (.cells #[.string s] 9)).heap.size) := hide (by simp)
  clear h1 h2 h3 bA G1
  unfold kdV
  go_enter Try.func26, Try.ntmps26
  go_wp2_with fail
  refine (idxMeth _ _ x.m _ s HR.out hm HC.out HS.out).mono ?_
  rintro e w1 ⟨rfl, b1⟩
  replace HB := hide (HB.out.trans (b1.mono HB.out.size))
  clear b1
  go_wp2
  go_ret
  exact ⟨rfl, HB.out⟩
set_option maxRecDepth 100000 in
set_option maxHeartbeats 4000000 in
theorem hasImpl (w : World) (x : Pg) (a : Option Addr) (n c : Nat) (k : Int) (hn : n ≤ 1048576) :
    Calls Try.prog 24 #[pgV x (.slice a n c), .int .i64 k] w fun e w' => e = .returned (.bool (inB k 0 ((n : Int) - 1))) ∧ Below w.heap.size w w' := by
  have hw : IntKind.i64.wrap ((n : Int) - 1) = (n : Int) - 1 := by rw [IntKind.wrap_i64]; omega
  unfold pgV
  go_enter Try.func24, Try.ntmps24
  go_wp2_with fail
  refine (inImpl _ _ _ _).mono ?_
  rintro e w1 ⟨rfl, rfl⟩
  go_wp2
  go_ret
  exact ⟨rfl, (Below.refl _ _).alloc (Nat.le_refl _) _⟩
set_option maxRecDepth 100000 in
set_option maxHeartbeats 4000000 in
theorem fieldOfI (w : World) (x : Pg) (u : Value) (k : Int) (s : ByteArray) (h : Reads w w.heap.size (kins x.k) u) (hg : kinsG x.k) :
    Calls Try.prog 13 #[pgV x u, .int .i64 k, .string s] w fun e w' => e = .returned (.int .i64 (fieldOfX x.k k s)) ∧ Below w.heap.size w w' := by
  have hm := hg.1
  have HG : Hid (∀ j, j < x.k.length → KdG (x.k.getD j default)) := hide (fun j hj => getD_mem hg.2 j hj)
  clear hg
  have bA := (Below.refl w.heap.size w).alloc (Nat.le_refl _) (.cells #[u] 29)
  have HX : Hid (∀ wr, Below w.heap.size w wr → _) := hide (fun wr hb => kind_at (h.at hb))
  obtain ⟨a1, c1, e1, _⟩ := kind_at h
  subst e1
  have HB := hide bA
  have HE := hide (Box.new w #[.slice a1 x.k.length c1] 29)
  have hgs : Hid (w.heap.size < (w.alloc (.cells #[.slice a1 x.k.length c1] 29)).heap.size) := hide (by simp)
  clear h bA
  have HV : Hid (fieldOfX x.k k s = if inB k 0 ((x.k.length : Int) - 1) then fieldX (x.k.getD k.toNat default).f s else -1) := hide rfl
  obtain ⟨V, hV⟩ : ∃ V, fieldOfX x.k k s = V := ⟨_, rfl⟩
  rw [hV]
  rw [hV] at HV
  clear hV
  unfold pgV
  generalize hn : x.k.length = n at *
  go_enter Try.func13, Try.ntmps13
  go_wp2_with fail
  generalize w.alloc (.cells #[.slice a1 n c1] 29) = W at *
  refine (hasImpl _ x a1 n c1 k hm).mono ?_
  rintro e w1 ⟨rfl, b1⟩
  replace HE := hide (HE.out.below hgs.out b1)
  replace HB := hide (HB.out.trans (b1.mono HB.out.size))
  clear b1 hgs
  have q0 := HE.out 0 _ rfl
  cases c : inB k 0 ((n : Int) - 1) with
  | false =>
    have HF : Hid (V = -1) := hide (by rw [HV.out, c]; rfl)
    go_wp2
    go_ret
    exact ⟨by rw [HF.out]; rfl, HB.out⟩
  | true =>
    have HF : Hid (V = fieldX (x.k.getD k.toNat default).f s) := hide (by rw [HV.out, c]; rfl)
    obtain ⟨h0, h1⟩ := inB_yes c
    obtain ⟨j, rfl⟩ : ∃ j : Nat, k = (j : Int) := ⟨k.toNat, by omega⟩
    have hlt : j < n := by omega
    obtain ⟨a', cap', ea, _, _, hc⟩ := HX.out w1 HB.out
    cases ea
    obtain ⟨b, o, rfl, _, hcell⟩ := hc (by omega)
    obtain ⟨pv1, pv2, pv3, e0, e1, e2, e3, e4, r1, r2, r3⟩ := hcell j hlt
    have hgx := hide (HG.out j hlt)
    rw [show ((j : Int)).toNat = j from rfl] at HF
    clear hcell hc HX HV
    obtain ⟨y, hy⟩ : ∃ y, x.k.getD j default = y := ⟨_, rfl⟩
    rw [hy] at e0 e1 r1 r2 r3 hgx HF
    obtain ⟨aa1, cc1, ea1, _⟩ := r1.shape
    obtain ⟨aa2, cc2, ea2, _⟩ := r2.shape
    obtain ⟨aa3, cc3, ea3, _⟩ := r3.shape
    subst ea1 ea2 ea3
    have R1 := hide r1
    have R2 := hide r2
    have R3 := hide r3
    clear r1 r2 r3 hy
    go_wp2_with fail
    refine (fieldPl _ y _ _ _ s R1.out R2.out R3.out hgx.out.f.1).mono ?_
    rintro e w2 ⟨rfl, b2⟩
    replace HB := hide (HB.out.trans (b2.mono HB.out.size))
    clear b2
    go_wp2
    go_ret
    exact ⟨by rw [HF.out]; rfl, HB.out⟩
set_option maxRecDepth 100000 in
set_option maxHeartbeats 4000000 in
theorem methOfI (w : World) (x : Pg) (u : Value) (k : Int) (s : ByteArray) (h : Reads w w.heap.size (kins x.k) u) (hg : kinsG x.k) :
    Calls Try.prog 15 #[pgV x u, .int .i64 k, .string s] w fun e w' => e = .returned (.int .i64 (methOfX x.k k s)) ∧ Below w.heap.size w w' := by
  have hm := hg.1
  have HG : Hid (∀ j, j < x.k.length → KdG (x.k.getD j default)) := hide (fun j hj => getD_mem hg.2 j hj)
  clear hg
  have bA := (Below.refl w.heap.size w).alloc (Nat.le_refl _) (.cells #[u] 29)
  have HX : Hid (∀ wr, Below w.heap.size w wr → _) := hide (fun wr hb => kind_at (h.at hb))
  obtain ⟨a1, c1, e1, _⟩ := kind_at h
  subst e1
  have HB := hide bA
  have HE := hide (Box.new w #[.slice a1 x.k.length c1] 29)
  have hgs : Hid (w.heap.size < (w.alloc (.cells #[.slice a1 x.k.length c1] 29)).heap.size) := hide (by simp)
  clear h bA
  have HV : Hid (methOfX x.k k s = if inB k 0 ((x.k.length : Int) - 1) then methX (x.k.getD k.toNat default).m s else -1) := hide rfl
  obtain ⟨V, hV⟩ : ∃ V, methOfX x.k k s = V := ⟨_, rfl⟩
  rw [hV]
  rw [hV] at HV
  clear hV
  unfold pgV
  generalize hn : x.k.length = n at *
  go_enter Try.func15, Try.ntmps15
  go_wp2_with fail
  generalize w.alloc (.cells #[.slice a1 n c1] 29) = W at *
  refine (hasImpl _ x a1 n c1 k hm).mono ?_
  rintro e w1 ⟨rfl, b1⟩
  replace HE := hide (HE.out.below hgs.out b1)
  replace HB := hide (HB.out.trans (b1.mono HB.out.size))
  clear b1 hgs
  have q0 := HE.out 0 _ rfl
  cases c : inB k 0 ((n : Int) - 1) with
  | false =>
    have HF : Hid (V = -1) := hide (by rw [HV.out, c]; rfl)
    go_wp2
    go_ret
    exact ⟨by rw [HF.out]; rfl, HB.out⟩
  | true =>
    have HF : Hid (V = methX (x.k.getD k.toNat default).m s) := hide (by rw [HV.out, c]; rfl)
    obtain ⟨h0, h1⟩ := inB_yes c
    obtain ⟨j, rfl⟩ : ∃ j : Nat, k = (j : Int) := ⟨k.toNat, by omega⟩
    have hlt : j < n := by omega
    obtain ⟨a', cap', ea, _, _, hc⟩ := HX.out w1 HB.out
    cases ea
    obtain ⟨b, o, rfl, _, hcell⟩ := hc (by omega)
    obtain ⟨pv1, pv2, pv3, e0, e1, e2, e3, e4, r1, r2, r3⟩ := hcell j hlt
    have hgx := hide (HG.out j hlt)
    rw [show ((j : Int)).toNat = j from rfl] at HF
    clear hcell hc HX HV
    obtain ⟨y, hy⟩ : ∃ y, x.k.getD j default = y := ⟨_, rfl⟩
    rw [hy] at e0 e1 r1 r2 r3 hgx HF
    obtain ⟨aa1, cc1, ea1, _⟩ := r1.shape
    obtain ⟨aa2, cc2, ea2, _⟩ := r2.shape
    obtain ⟨aa3, cc3, ea3, _⟩ := r3.shape
    subst ea1 ea2 ea3
    have R1 := hide r1
    have R2 := hide r2
    have R3 := hide r3
    clear r1 r2 r3 hy
    go_wp2_with fail
    refine (methPl _ y _ _ _ s R1.out R2.out R3.out hgx.out.m.1).mono ?_
    rintro e w2 ⟨rfl, b2⟩
    replace HB := hide (HB.out.trans (b2.mono HB.out.size))
    clear b2
    go_wp2
    go_ret
    exact ⟨by rw [HF.out]; rfl, HB.out⟩
end Go.Proofs.Ytlkjackakcdmbaa
