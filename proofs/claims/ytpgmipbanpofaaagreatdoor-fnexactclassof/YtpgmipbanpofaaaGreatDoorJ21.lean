/-
  Joined: TakeCn, ReadCl, ClMath.
-/
import Derived.Test.YtpgmipbanpofaaaGreatDoorJ20
import Derived.Test.YtpgmipbanpofaaaGreatDoorJ4
/-
  The reader of classes.
-/
namespace Go.Proofs.YtpgmipbanpofaaaGreatDoor
open Go.RowKit

/-- What a reader into a variable of one's own may turn. -/
structure Went (w0 w w' : World) (p g : Nat) : Prop where
  grown : w0.grownBy w' (some p)
  size : w.heap.size ≤ w'.heap.size
  same : ∀ q, q ≠ p → q ≠ g → q < w.heap.size → w'.heap[q]? = w.heap[q]?
theorem Went.own {w0 w w' : World} {p g b hi : Nat} {d : Dt} {v : Value} (h : Went w0 w w' p g) (o : OwnD w b hi d v) (hb : g < b) (hp : p < g) : OwnD w' b hi d v := o.same (fun q hq _ hq' => h.same q (by omega) (by omega) hq')
theorem Went.put {w0 w w1 : World} {p g : Nat} (hg : w0.grownBy w (some p)) (hw : w0.heap.size ≤ g) (h1 : w.grownBy w1 (some p)) (o : Nat) (u : Value) : Went w0 w (w1.setCell ⟨g, o, none⟩ u) p g :=
  ⟨grownNew (grownBy_trans hg h1) hw o u, by rw [World.size_setCell]; exact h1.size, fun q hq hq' hl => by
    rw [heap_setCell_other _ _ _ _ hq']
    exact h1.block q hl (fun e => by cases e; exact hq rfl)⟩
theorem Went.stop {w0 w w1 : World} {p g : Nat} (hg : w0.grownBy w (some p)) (h1 : w.grownBy w1 (some p)) : Went w0 w w1 p g :=
  ⟨grownBy_trans hg h1, h1.size, fun q hq _ hl => h1.block q hl (fun e => by cases e; exact hq rfl)⟩
set_option maxRecDepth 100000 in
set_option maxHeartbeats 2000000 in
theorem rcPool {w0 w : World} {B : Nat} {a : Option Addr} {len : Nat} {zs : List Int} {p k : Nat} {t : TypeId} {v : Value} {g : Nat} {x0 x1 x2 x3 x4 : Value} (cap : Nat) (hcap : len ≤ cap) (h : Rdr w B a len zs p k t v) (hg : p < g) (hw : w0.heap.size ≤ g) (G0 : w0.grownBy w (some p)) (E : w.heap[g]? = some (.cells #[x0, x1, x2, x3, x4] 27 (0, 0))) :
    Calls Tryz.prog 39 #[.pointer (some ⟨g, 0, none⟩), .slice a len cap, .pointer (some ⟨p, 0, none⟩)] w fun e w' =>
      ((∃ ys k' u, rMany zs (rKc zs) 24 k = some (ys, k') ∧ e = .returned (.tuple #[]) ∧ OwnD w' w.heap.size w'.heap.size (pool ys) u ∧ Rdr w' B a len zs p k' t v ∧ w'.heap[g]? = some (.cells #[x0, x1, u, x3, x4] 27 (0, 0))) ∨ (rMany zs (rKc zs) 24 k = none ∧ e = .panicked [{ v := .iface t v, recovered := false }])) ∧ Went w0 w w' p g := by
  have hlt := h.lt
  have hgl := (Array.getElem?_eq_some_iff.1 E).1
  have HR := hide h
  have HG := hide G0
  have HE := hide E
  clear h G0 E
  go_enter Tryz.func39, Tryz.ntmps39
  go_wp2_with fail
  refine (rdListKc cap hcap HR.out).mono ?_
  rintro e w1 ⟨hres, g1⟩
  have hs := g1.size
  rcases hres with ⟨ys, k1, u, hr, rfl, ou, hp1⟩ | ⟨hr, rfl⟩
  · obtain ⟨pa, pc, eu⟩ := ou.shape
    subst eu
    have HE1 := hide ((g1.block g hgl (fun e => by cases e; omega)).trans HE.out)
    have HR1 := hide (HR.out.next g1 hp1)
    have HO := hide ou
    have HW := hide (Went.put HG.out hw g1 2 (.slice pa ys.length pc))
    have HM := hide hr
    have X := box_of HE1.out
    have f := X.1 2 _ rfl
    have z := X.2 2
    clear g1 hp1 hr ou X HR HG HE
    go_wp2
    go_end0
    exact ⟨.inl ⟨_, _, _, HM.out, rfl, (HO.out.same (fun q hq _ _ => heap_setCell_other _ _ _ _ (by simp; omega))).up (by simp), HR1.out.set hg _ _, heap_setCell_same w1 g 2 _ _ _ HE1.out⟩, HW.out⟩
  · have HM := hide hr
    have HW := hide (Went.stop (g := g) HG.out g1)
    clear g1 hr
    go_wp2
    exact ⟨rfl, .inr ⟨HM.out, rfl⟩, HW.out⟩
set_option maxRecDepth 100000 in
set_option maxHeartbeats 2000000 in
theorem rcFields {w0 w : World} {B : Nat} {a : Option Addr} {len : Nat} {zs : List Int} {p k : Nat} {t : TypeId} {v : Value} {g : Nat} {x0 x1 x2 x3 x4 : Value} (cap : Nat) (hcap : len ≤ cap) (h : Rdr w B a len zs p k t v) (hg : p < g) (hw : w0.heap.size ≤ g) (G0 : w0.grownBy w (some p)) (E : w.heap[g]? = some (.cells #[x0, x1, x2, x3, x4] 27 (0, 0))) :
    Calls Tryz.prog 40 #[.pointer (some ⟨g, 0, none⟩), .slice a len cap, .pointer (some ⟨p, 0, none⟩)] w fun e w' =>
      ((∃ ys k' u, rMany zs (rFd zs) 8 k = some (ys, k') ∧ e = .returned (.tuple #[]) ∧ OwnD w' w.heap.size w'.heap.size (flds ys) u ∧ Rdr w' B a len zs p k' t v ∧ w'.heap[g]? = some (.cells #[x0, x1, x2, u, x4] 27 (0, 0))) ∨ (rMany zs (rFd zs) 8 k = none ∧ e = .panicked [{ v := .iface t v, recovered := false }])) ∧ Went w0 w w' p g := by
  have hlt := h.lt
  have hgl := (Array.getElem?_eq_some_iff.1 E).1
  have HR := hide h
  have HG := hide G0
  have HE := hide E
  clear h G0 E
  go_enter Tryz.func40, Tryz.ntmps40
  go_wp2_with fail
  refine (rdListFd cap hcap HR.out).mono ?_
  rintro e w1 ⟨hres, g1⟩
  have hs := g1.size
  rcases hres with ⟨ys, k1, u, hr, rfl, ou, hp1⟩ | ⟨hr, rfl⟩
  · obtain ⟨pa, pc, eu⟩ := ou.shape
    subst eu
    have HE1 := hide ((g1.block g hgl (fun e => by cases e; omega)).trans HE.out)
    have HR1 := hide (HR.out.next g1 hp1)
    have HO := hide ou
    have HW := hide (Went.put HG.out hw g1 3 (.slice pa ys.length pc))
    have HM := hide hr
    have X := box_of HE1.out
    have f := X.1 3 _ rfl
    have z := X.2 3
    clear g1 hp1 hr ou X HR HG HE
    go_wp2
    go_end0
    exact ⟨.inl ⟨_, _, _, HM.out, rfl, (HO.out.same (fun q hq _ _ => heap_setCell_other _ _ _ _ (by simp; omega))).up (by simp), HR1.out.set hg _ _, heap_setCell_same w1 g 3 _ _ _ HE1.out⟩, HW.out⟩
  · have HM := hide hr
    have HW := hide (Went.stop (g := g) HG.out g1)
    clear g1 hr
    go_wp2
    exact ⟨rfl, .inr ⟨HM.out, rfl⟩, HW.out⟩
set_option maxRecDepth 100000 in
set_option maxHeartbeats 2000000 in
theorem rcMethods {w0 w : World} {B : Nat} {a : Option Addr} {len : Nat} {zs : List Int} {p k : Nat} {t : TypeId} {v : Value} {g : Nat} {x0 x1 x2 x3 x4 : Value} (cap : Nat) (hcap : len ≤ cap) (h : Rdr w B a len zs p k t v) (hg : p < g) (hw : w0.heap.size ≤ g) (G0 : w0.grownBy w (some p)) (E : w.heap[g]? = some (.cells #[x0, x1, x2, x3, x4] 27 (0, 0))) :
    Calls Tryz.prog 41 #[.pointer (some ⟨g, 0, none⟩), .slice a len cap, .pointer (some ⟨p, 0, none⟩)] w fun e w' =>
      ((∃ ys k' u, rMany zs (rMe zs) 6 k = some (ys, k') ∧ e = .returned (.tuple #[]) ∧ OwnD w' w.heap.size w'.heap.size (mets ys) u ∧ Rdr w' B a len zs p k' t v ∧ w'.heap[g]? = some (.cells #[x0, x1, x2, x3, u] 27 (0, 0))) ∨ (rMany zs (rMe zs) 6 k = none ∧ e = .panicked [{ v := .iface t v, recovered := false }])) ∧ Went w0 w w' p g := by
  have hlt := h.lt
  have hgl := (Array.getElem?_eq_some_iff.1 E).1
  have HR := hide h
  have HG := hide G0
  have HE := hide E
  clear h G0 E
  go_enter Tryz.func41, Tryz.ntmps41
  go_wp2_with fail
  refine (rdListMe cap hcap HR.out).mono ?_
  rintro e w1 ⟨hres, g1⟩
  have hs := g1.size
  rcases hres with ⟨ys, k1, u, hr, rfl, ou, hp1⟩ | ⟨hr, rfl⟩
  · obtain ⟨pa, pc, eu⟩ := ou.shape
    subst eu
    have HE1 := hide ((g1.block g hgl (fun e => by cases e; omega)).trans HE.out)
    have HR1 := hide (HR.out.next g1 hp1)
    have HO := hide ou
    have HW := hide (Went.put HG.out hw g1 4 (.slice pa ys.length pc))
    have HM := hide hr
    have X := box_of HE1.out
    have f := X.1 4 _ rfl
    have z := X.2 4
    clear g1 hp1 hr ou X HR HG HE
    go_wp2
    go_end0
    exact ⟨.inl ⟨_, _, _, HM.out, rfl, (HO.out.same (fun q hq _ _ => heap_setCell_other _ _ _ _ (by simp; omega))).up (by simp), HR1.out.set hg _ _, heap_setCell_same w1 g 4 _ _ _ HE1.out⟩, HW.out⟩
  · have HM := hide hr
    have HW := hide (Went.stop (g := g) HG.out g1)
    clear g1 hr
    go_wp2
    exact ⟨rfl, .inr ⟨HM.out, rfl⟩, HW.out⟩
set_option maxRecDepth 100000 in
set_option maxHeartbeats 2000000 in
theorem rcNames {w0 w : World} {B : Nat} {a : Option Addr} {len : Nat} {zs : List Int} {p k : Nat} {t : TypeId} {v : Value} {g : Nat} {x0 x1 x2 x3 x4 : Value} (cap : Nat) (hcap : len ≤ cap) (h : Rdr w B a len zs p k t v) (hg : p < g) (hw : w0.heap.size ≤ g) (G0 : w0.grownBy w (some p)) (E : w.heap[g]? = some (.cells #[x0, x1, x2, x3, x4] 27 (0, 0))) :
    Calls Tryz.prog 38 #[.pointer (some ⟨g, 0, none⟩), .slice a len cap, .pointer (some ⟨p, 0, none⟩)] w fun e w' =>
      ((∃ n s k1 k', rTx zs k = some (n, k1) ∧ rTx zs k1 = some (s, k') ∧ e = .returned (.tuple #[]) ∧ Rdr w' B a len zs p k' t v ∧ w'.heap[g]? = some (.cells #[.string n, .string s, x2, x3, x4] 27 (0, 0))) ∨ (((rTx zs k).bind fun q => rTx zs q.2) = none ∧ e = .panicked [{ v := .iface t v, recovered := false }])) ∧ Went w0 w w' p g := by
  have hlt := h.lt
  have hgl := (Array.getElem?_eq_some_iff.1 E).1
  have HR := hide h
  have HG := hide G0
  have HE := hide E
  clear h G0 E
  go_enter Tryz.func38, Tryz.ntmps38
  go_wp2_with fail
  refine (rdText cap hcap HR.out).mono ?_
  rintro e w1 ⟨hres, g1⟩
  have hs := g1.size
  rcases hres with ⟨n, k1, hr, rfl, hp1⟩ | ⟨hr, rfl⟩
  · have HE1 := hide ((g1.block g hgl (fun e => by cases e; omega)).trans HE.out)
    have HR1 := hide (HR.out.next g1 hp1)
    have HW := hide (Went.put HG.out hw g1 0 (.string n))
    have HM := hide hr
    have X := box_of HE1.out
    have f := X.1 0 _ rfl
    have z := X.2 0
    clear g1 hp1 hr X HR HG HE
    go_wp2_with fail
    clear f z
    replace HR1 := hide (HR1.out.set hg 0 (.string n))
    replace HE1 : Hid ((w1.setCell ⟨g, 0, none⟩ (.string n)).heap[g]? = some (.cells #[.string n, x1, x2, x3, x4] 27 (0, 0))) := hide (heap_setCell_same w1 g 0 _ _ _ HE1.out)
    replace hs : w.heap.size ≤ (w1.setCell ⟨g, 0, none⟩ (.string n)).heap.size := by simp; omega
    generalize w1.setCell ⟨g, 0, none⟩ (.string n) = W1 at *
    refine (rdText cap hcap HR1.out).mono ?_
    rintro e w2 ⟨hres, g2⟩
    have hs2 := g2.size
    rcases hres with ⟨s, k2, hr, rfl, hp2⟩ | ⟨hr, rfl⟩
    · have HE2 := hide ((g2.block g (by omega) (fun e => by cases e; omega)).trans HE1.out)
      have HR2 := hide (HR1.out.next g2 hp2)
      have HW2 := hide (Went.put HW.out.grown hw g2 1 (.string s))
      have HM2 := hide hr
      have X := box_of HE2.out
      have f := X.1 1 _ rfl
      have z := X.2 1
      clear g2 hp2 hr X HR1 HE1
      go_wp2
      go_end0
      exact ⟨.inl ⟨_, _, _, _, HM.out, HM2.out, rfl, HR2.out.set hg _ _, heap_setCell_same w2 g 1 _ _ _ HE2.out⟩, ⟨HW2.out.grown, Nat.le_trans HW.out.size HW2.out.size, fun q h1 h2 h3 => (HW2.out.same q h1 h2 (by omega)).trans (HW.out.same q h1 h2 h3)⟩⟩
    · have HM2 : Hid (((rTx zs k).bind fun q => rTx zs q.2) = none) := hide (by rw [HM.out]; exact hr)
      have HW2 := hide (Went.stop (g := g) HW.out.grown g2)
      clear g2 hr
      go_wp2
      exact ⟨rfl, .inr ⟨HM2.out, rfl⟩, ⟨HW2.out.grown, Nat.le_trans HW.out.size HW2.out.size, fun q h1 h2 h3 => (HW2.out.same q h1 h2 (by omega)).trans (HW.out.same q h1 h2 h3)⟩⟩
  · have HM : Hid (((rTx zs k).bind fun q => rTx zs q.2) = none) := hide (by rw [hr]; rfl)
    have HW := hide (Went.stop (g := g) HG.out g1)
    clear g1 hr
    go_wp2
    exact ⟨rfl, .inr ⟨HM.out, rfl⟩, HW.out⟩
/-- What is left to read of a class, behind j steps. -/
def restC (zs : List Int) : Nat → Cl → Nat → Option (Cl × Nat)
  | 0, _, k => rCl zs k
  | 1, x, k => (rMany zs (rKc zs) 24 k).bind fun p => (rMany zs (rFd zs) 8 p.2).bind fun f => (rMany zs (rMe zs) 6 f.2).bind fun m => some (⟨x.n, x.s, p.1, f.1, m.1⟩, m.2)
  | 2, x, k => (rMany zs (rFd zs) 8 k).bind fun f => (rMany zs (rMe zs) 6 f.2).bind fun m => some (⟨x.n, x.s, x.p, f.1, m.1⟩, m.2)
  | 3, x, k => (rMany zs (rMe zs) 6 k).bind fun m => some (⟨x.n, x.s, x.p, x.f, m.1⟩, m.2)
  | _, x, k => some (x, k)
theorem restC1 {zs : List Int} {k k1 k2 : Nat} {x y : Cl} {n s : ByteArray} (h : rTx zs k = some (n, k1)) (h' : rTx zs k1 = some (s, k2)) (hn : y.n = n) (hs : y.s = s) : restC zs 0 x k = restC zs 1 y k2 := by
  simp only [restC, rCl]
  rw [h, hn, hs]
  simp only [Option.bind_some]
  rw [h']
  rfl
theorem restC0n {zs : List Int} {k : Nat} {x : Cl} (h : ((rTx zs k).bind fun q => rTx zs q.2) = none) : restC zs 0 x k = none := by
  simp only [restC, rCl]
  cases h1 : rTx zs k with
  | none => rfl
  | some q =>
    rw [h1] at h
    simp only [Option.bind_some] at h ⊢
    rw [h]
    rfl
theorem restC2 {zs : List Int} {k k1 : Nat} {x : Cl} {ys : List Kc} (h : rMany zs (rKc zs) 24 k = some (ys, k1)) : restC zs 1 x k = restC zs 2 ⟨x.n, x.s, ys, x.f, x.m⟩ k1 := by
  simp only [restC]; rw [h]; rfl
theorem restC3 {zs : List Int} {k k1 : Nat} {x : Cl} {ys : List Fd} (h : rMany zs (rFd zs) 8 k = some (ys, k1)) : restC zs 2 x k = restC zs 3 ⟨x.n, x.s, x.p, ys, x.m⟩ k1 := by
  simp only [restC]; rw [h]; rfl
theorem restC4 {zs : List Int} {k k1 : Nat} {x : Cl} {ys : List Me} (h : rMany zs (rMe zs) 6 k = some (ys, k1)) : restC zs 3 x k = restC zs 4 ⟨x.n, x.s, x.p, x.f, ys⟩ k1 := by
  simp only [restC]; rw [h]; rfl
def RowCl (b : Nat) (w' : World) (u : Value) (x : Cl) : Prop := ∃ u2 u3 u4, u = .agg #[.string x.n, .string x.s, u2, u3, u4] ∧ OwnDL w' b w'.heap.size (clD x) [.string x.n, .string x.s, u2, u3, u4]
/-- The variable that is read into. -/
structure ClIn (w0 wr : World) (g : Nat) (j : Nat) (x : Cl) (u2 u3 u4 : Value) (M2 M3 : Nat) : Prop where
  box : wr.heap[g]? = some (.cells #[.string x.n, .string x.s, u2, u3, u4] 27 (0, 0))
  o2 : OwnD wr (g + 1) M2 (pool x.p) u2
  o3 : OwnD wr M2 M3 (flds x.f) u3
  o4 : OwnD wr M3 wr.heap.size (mets x.m) u4
  h2 : g + 1 ≤ M2
  h3 : M2 ≤ M3
  h4 : M3 ≤ wr.heap.size
  e2 : j ≤ 1 → x.p = [] ∧ u2 = .slice none 0 0
  e3 : j ≤ 2 → x.f = [] ∧ u3 = .slice none 0 0
  e4 : j ≤ 3 → x.m = [] ∧ u4 = .slice none 0 0
theorem ClIn.own {w0 wr : World} {g j : Nat} {x : Cl} {u2 u3 u4 : Value} {M2 M3 : Nat} (h : ClIn w0 wr g j x u2 u3 u4 M2 M3) : OwnDL wr (g + 1) wr.heap.size (clD x) [.string x.n, .string x.s, u2, u3, u4] := by
  unfold clD
  exact OwnDL.val (OwnDL.val (OwnDL.cons h.o2 (OwnDL.cons h.o3 (OwnDL.cons h.o4 (ownDL_nil _ _ _) h.h4 (Nat.le_refl _)) h.h3 h.h4) h.h2 (Nat.le_trans h.h3 h.h4)))
set_option maxRecDepth 100000 in
set_option maxHeartbeats 8000000 in
theorem rdClass {w : World} {B : Nat} {a : Option Addr} {len : Nat} {zs : List Int} {p k : Nat} {t : TypeId} {v : Value} (cap : Nat) (hcap : len ≤ cap) (h : Rdr w B a len zs p k t v) :
    Calls Tryz.prog 18 #[.slice a len cap, .pointer (some ⟨p, 0, none⟩)] w (tookL (RowCl w.heap.size) w p t v (rCl zs k)) := by
  have hmf : ∀ (fn : Fn) (first cap : Array Value) (w : World), (Instr.makeFunc fn first cap).run Tryz.prog w = .ok (.func fn first cap) w := fun _ _ _ _ => rfl
  have i0 : ∀ w', (Instr.index 71 (.agg #[.func (.func 38) #[.pointer (some ⟨w.heap.size + 1, 0, none⟩)] #[], .func (.func 39) #[.pointer (some ⟨w.heap.size + 1, 0, none⟩)] #[], .func (.func 40) #[.pointer (some ⟨w.heap.size + 1, 0, none⟩)] #[], .func (.func 41) #[.pointer (some ⟨w.heap.size + 1, 0, none⟩)] #[]]) (.int .i64 0)).run Tryz.prog w' = .ok (.func (.func 38) #[.pointer (some ⟨w.heap.size + 1, 0, none⟩)] #[]) w' := fun _ => by kernel_rfl
  have i1 : ∀ w', (Instr.index 71 (.agg #[.func (.func 38) #[.pointer (some ⟨w.heap.size + 1, 0, none⟩)] #[], .func (.func 39) #[.pointer (some ⟨w.heap.size + 1, 0, none⟩)] #[], .func (.func 40) #[.pointer (some ⟨w.heap.size + 1, 0, none⟩)] #[], .func (.func 41) #[.pointer (some ⟨w.heap.size + 1, 0, none⟩)] #[]]) (.int .i64 1)).run Tryz.prog w' = .ok (.func (.func 39) #[.pointer (some ⟨w.heap.size + 1, 0, none⟩)] #[]) w' := fun _ => by kernel_rfl
  have i2 : ∀ w', (Instr.index 71 (.agg #[.func (.func 38) #[.pointer (some ⟨w.heap.size + 1, 0, none⟩)] #[], .func (.func 39) #[.pointer (some ⟨w.heap.size + 1, 0, none⟩)] #[], .func (.func 40) #[.pointer (some ⟨w.heap.size + 1, 0, none⟩)] #[], .func (.func 41) #[.pointer (some ⟨w.heap.size + 1, 0, none⟩)] #[]]) (.int .i64 2)).run Tryz.prog w' = .ok (.func (.func 40) #[.pointer (some ⟨w.heap.size + 1, 0, none⟩)] #[]) w' := fun _ => by kernel_rfl
  have i3 : ∀ w', (Instr.index 71 (.agg #[.func (.func 38) #[.pointer (some ⟨w.heap.size + 1, 0, none⟩)] #[], .func (.func 39) #[.pointer (some ⟨w.heap.size + 1, 0, none⟩)] #[], .func (.func 40) #[.pointer (some ⟨w.heap.size + 1, 0, none⟩)] #[], .func (.func 41) #[.pointer (some ⟨w.heap.size + 1, 0, none⟩)] #[]]) (.int .i64 3)).run Tryz.prog w' = .ok (.func (.func 41) #[.pointer (some ⟨w.heap.size + 1, 0, none⟩)] #[]) w' := fun _ => by kernel_rfl
  have hlt := h.lt
  have HR := hide ((h.alloc (.cells #[.string ⟨#[]⟩, .string ⟨#[]⟩, .slice none 0 0, .slice none 0 0, .slice none 0 0] 27)).alloc (.cells #[.string ⟨#[]⟩, .string ⟨#[]⟩, .slice none 0 0, .slice none 0 0, .slice none 0 0] 27))
  have HG := hide (grownBy_trans (World.grownBy_alloc w (.cells #[.string ⟨#[]⟩, .string ⟨#[]⟩, .slice none 0 0, .slice none 0 0, .slice none 0 0] 27) (some p)) (World.grownBy_alloc (w.alloc (.cells #[.string ⟨#[]⟩, .string ⟨#[]⟩, .slice none 0 0, .slice none 0 0, .slice none 0 0] 27)) (.cells #[.string ⟨#[]⟩, .string ⟨#[]⟩, .slice none 0 0, .slice none 0 0, .slice none 0 0] 27) (some p)))
  have G0 := heap_alloc_new w (.cells #[.string ⟨#[]⟩, .string ⟨#[]⟩, .slice none 0 0, .slice none 0 0, .slice none 0 0] 27)
  have G1 := heap_alloc_new (w.alloc (.cells #[.string ⟨#[]⟩, .string ⟨#[]⟩, .slice none 0 0, .slice none 0 0, .slice none 0 0] 27)) (.cells #[.string ⟨#[]⟩, .string ⟨#[]⟩, .slice none 0 0, .slice none 0 0, .slice none 0 0] 27)
  simp only [World.size_alloc] at G1
  have E0 := hide ((Below.heap_alloc _ (.cells #[.string ⟨#[]⟩, .string ⟨#[]⟩, .slice none 0 0, .slice none 0 0, .slice none 0 0] 27) _ (by simp)).trans G0)
  have E1 := hide G1
  clear h G0 G1
  generalize hGG : rCl zs k = G
  have HGG : Hid (G = restC zs 0 ⟨⟨#[]⟩, ⟨#[]⟩, [], [], []⟩ k) := hide hGG.symm
  clear hGG
  go_enter Tryz.func18, Tryz.ntmps18
  go_wp2_with fail
  have hs : w.heap.size + 1 + 1 ≤ ((w.alloc (.cells #[.string ⟨#[]⟩, .string ⟨#[]⟩, .slice none 0 0, .slice none 0 0, .slice none 0 0] 27)).alloc (.cells #[.string ⟨#[]⟩, .string ⟨#[]⟩, .slice none 0 0, .slice none 0 0, .slice none 0 0] 27)).heap.size := by simp
  generalize (w.alloc (.cells #[.string ⟨#[]⟩, .string ⟨#[]⟩, .slice none 0 0, .slice none 0 0, .slice none 0 0] 27)).alloc (.cells #[.string ⟨#[]⟩, .string ⟨#[]⟩, .slice none 0 0, .slice none 0 0, .slice none 0 0] 27) = W0 at *
  go_loopw [13] (fun i wr => ∃ (j kj : Nat) (x : Cl) (u2 u3 u4 : Value) (M2 M3 : Nat), j ≤ 4 ∧ i = .int .i64 (j : Int) ∧ Hid (Rdr wr B a len zs p kj t v) ∧ Hid (ClIn w wr (w.heap.size + 1) j x u2 u3 u4 M2 M3) ∧ Hid (G = restC zs j x kj) ∧ Hid (wr.heap[w.heap.size]? = some (.cells #[.string ⟨#[]⟩, .string ⟨#[]⟩, .slice none 0 0, .slice none 0 0, .slice none 0 0] 27 (0, 0))) ∧ Hid (w.grownBy wr (some p))) (fun i _ => 4 - (intOf i).toNat)
  case atStart =>
    exact ⟨0, k, ⟨⟨#[]⟩, ⟨#[]⟩, [], [], []⟩, _, _, _, _, _, by omega, rfl, HR, hide ⟨E1.out, ownD_nil _ _ _ _ _, ownD_nil _ _ _ _ _, ownD_nil _ _ _ _ _, Nat.le_refl _, Nat.le_refl _, hs, fun _ => ⟨rfl, rfl⟩, fun _ => ⟨rfl, rfl⟩, fun _ => ⟨rfl, rfl⟩⟩, HGG, E0, HG⟩
  case round =>
    clear HR HG E0 E1 HGG hs
    obtain ⟨j, kj, x, u2, u3, u4, M2, M3, hj, rfl, HR, HI, HN, E0, HG⟩ := hrel
    have hs := HI.out.h4
    have hs2 := HI.out.h2
    have hs3 := HI.out.h3
    by_cases hj4 : j = 4
    · subst hj4
      have HN4 : Hid (G = some (x, kj)) := hide HN.out
      have HP := hide HR.out.pl
      have Y := box_of E0.out
      have r0 := Y.1 0 _ rfl
      have r1 := Y.1 1 _ rfl
      have r2 := Y.1 2 _ rfl
      have r3 := Y.1 3 _ rfl
      have r4 := Y.1 4 _ rfl
      have y0 := Y.2
      obtain ⟨a2, c2, e2⟩ := HI.out.o2.shape
      obtain ⟨a3, c3, e3⟩ := HI.out.o3.shape
      obtain ⟨a4, c4, e4⟩ := HI.out.o4.shape
      subst e2 e3 e4
      have X := box_of HI.out.box
      have f0 := X.1 0 _ rfl
      have f1 := X.1 1 _ rfl
      have f2 := X.1 2 _ rfl
      have f3 := X.1 3 _ rfl
      have f4 := X.1 4 _ rfl
      have y1 := X.2
      clear X Y HN
      go_wp2
      refine bodyPost_ret (v := .agg #[.string x.n, .string x.s, .slice a2 x.p.length c2, .slice a3 x.f.length c3, .slice a4 x.m.length c4]) (results_one Tryz.results18 _ _ _ rfl (loadCl (putN5 E0.out _ _ _ _ _))) rfl ⟨.inl ⟨_, _, _, HN4.out, rfl, ⟨_, _, _, rfl, ?_⟩, ?_⟩, ?_⟩
      · refine (OwnDL.mono (b := w.heap.size + 1 + 1) (OwnDL.same HI.out.own (fun q hq _ _ => ?_)) (by omega)).up (by simp)
        rw [heap_setCell_other _ _ _ _ (by simp; omega), heap_setCell_other _ _ _ _ (by simp; omega), heap_setCell_other _ _ _ _ (by simp; omega), heap_setCell_other _ _ _ _ (by simp; omega), heap_setCell_other _ _ _ _ (by simp; omega)]
      · rw [setPlace (by omega), setPlace (by omega), setPlace (by omega), setPlace (by omega), setPlace (by omega)]
        exact HP.out
      · exact grownNew (grownNew (grownNew (grownNew (grownNew HG.out (by omega) _ _) (by omega) _ _) (by omega) _ _) (by omega) _ _) (by omega) _ _
    by_cases hj0 : j = 0
    · subst hj0
      go_wp2_with fail
      refine (rcNames cap hcap HR.out (by omega) (by omega) HG.out HI.out.box).mono ?_
      rintro e w1 ⟨hres, W⟩
      have HW := hide W
      have hs1 := W.size
      have HE := hide ((W.same w.heap.size (by omega) (by omega) (by omega)).trans E0.out)
      rcases hres with ⟨n, s, k1, k2, h1, h2, rfl, hr, hb⟩ | ⟨h1, rfl⟩
      · have HM := hide (HN.out.trans (restC1 (y := ⟨n, s, x.p, x.f, x.m⟩) h1 h2 rfl rfl))
        have HR1 := hide hr
        have HI1 : Hid (ClIn w w1 (w.heap.size + 1) (0 + 1) ⟨n, s, x.p, x.f, x.m⟩ u2 u3 u4 M2 M3) := hide ⟨hb, W.own HI.out.o2 (by omega) (by omega), W.own HI.out.o3 (by omega) (by omega), (W.own HI.out.o4 (by omega) (by omega)).up hs1, hs2, hs3, by omega, fun _ => HI.out.e2 (by omega), fun _ => HI.out.e3 (by omega), fun _ => HI.out.e4 (by omega)⟩
        clear W h1 h2 hr hb HR HI HN E0 HG
        go_wp2_with fail
        exact ⟨⟨0 + 1, k2, _, _, _, _, _, _, by omega, by go_num, HR1, HI1, HM, HE, hide HW.out.grown⟩, by simp [intOf]⟩
      · have HM : Hid (G = none) := hide (HN.out.trans (restC0n h1))
        clear W h1 HR HI HN E0 HG
        go_wp2
        exact ⟨rfl, .inr ⟨HM.out, rfl⟩, HW.out.grown⟩
    by_cases hj1 : j = 1
    · subst hj1
      go_wp2_with fail
      refine (rcPool cap hcap HR.out (by omega) (by omega) HG.out HI.out.box).mono ?_
      rintro e w1 ⟨hres, W⟩
      have HW := hide W
      have hs1 := W.size
      have HE := hide ((W.same w.heap.size (by omega) (by omega) (by omega)).trans E0.out)
      rcases hres with ⟨ys, k2, u, h1, rfl, ou, hr, hb⟩ | ⟨h1, rfl⟩
      · have HM := hide (HN.out.trans (restC2 h1))
        have HR1 := hide hr
        have HI1 : Hid (ClIn w w1 (w.heap.size + 1) (1 + 1) ⟨x.n, x.s, ys, x.f, x.m⟩ u u3 u4 w1.heap.size w1.heap.size) := hide ⟨hb, ou.mono (by omega), by rw [(HI.out.e3 (by omega)).1, (HI.out.e3 (by omega)).2]; exact ownD_nil _ _ _ _ _, by rw [(HI.out.e4 (by omega)).1, (HI.out.e4 (by omega)).2]; exact ownD_nil _ _ _ _ _, by omega, Nat.le_refl _, Nat.le_refl _, fun h => by omega, fun _ => HI.out.e3 (by omega), fun _ => HI.out.e4 (by omega)⟩
        clear W h1 hr hb ou HR HI HN E0 HG
        go_wp2_with fail
        exact ⟨⟨1 + 1, k2, _, _, _, _, _, _, by omega, by go_num, HR1, HI1, HM, HE, hide HW.out.grown⟩, by simp [intOf]⟩
      · have HM : Hid (G = none) := hide (by rw [HN.out]; simp only [restC]; rw [h1]; rfl)
        clear W h1 HR HI HN E0 HG
        go_wp2
        exact ⟨rfl, .inr ⟨HM.out, rfl⟩, HW.out.grown⟩
    by_cases hj2 : j = 2
    · subst hj2
      go_wp2_with fail
      refine (rcFields cap hcap HR.out (by omega) (by omega) HG.out HI.out.box).mono ?_
      rintro e w1 ⟨hres, W⟩
      have HW := hide W
      have hs1 := W.size
      have HE := hide ((W.same w.heap.size (by omega) (by omega) (by omega)).trans E0.out)
      rcases hres with ⟨ys, k2, u, h1, rfl, ou, hr, hb⟩ | ⟨h1, rfl⟩
      · have HM := hide (HN.out.trans (restC3 h1))
        have HR1 := hide hr
        have HI1 : Hid (ClIn w w1 (w.heap.size + 1) (2 + 1) ⟨x.n, x.s, x.p, ys, x.m⟩ u2 u u4 M2 w1.heap.size) := hide ⟨hb, W.own HI.out.o2 (by omega) (by omega), ou.mono (by omega), by rw [(HI.out.e4 (by omega)).1, (HI.out.e4 (by omega)).2]; exact ownD_nil _ _ _ _ _, hs2, by omega, Nat.le_refl _, fun h => by omega, fun h => by omega, fun _ => HI.out.e4 (by omega)⟩
        clear W h1 hr hb ou HR HI HN E0 HG
        go_wp2_with fail
        exact ⟨⟨2 + 1, k2, _, _, _, _, _, _, by omega, by go_num, HR1, HI1, HM, HE, hide HW.out.grown⟩, by simp [intOf]⟩
      · have HM : Hid (G = none) := hide (by rw [HN.out]; simp only [restC]; rw [h1]; rfl)
        clear W h1 HR HI HN E0 HG
        go_wp2
        exact ⟨rfl, .inr ⟨HM.out, rfl⟩, HW.out.grown⟩
    by_cases hj3 : j = 3
    · subst hj3
      go_wp2_with fail
      refine (rcMethods cap hcap HR.out (by omega) (by omega) HG.out HI.out.box).mono ?_
      rintro e w1 ⟨hres, W⟩
      have HW := hide W
      have hs1 := W.size
      have HE := hide ((W.same w.heap.size (by omega) (by omega) (by omega)).trans E0.out)
      rcases hres with ⟨ys, k2, u, h1, rfl, ou, hr, hb⟩ | ⟨h1, rfl⟩
      · have HM := hide (HN.out.trans (restC4 h1))
        have HR1 := hide hr
        have HI1 : Hid (ClIn w w1 (w.heap.size + 1) (3 + 1) ⟨x.n, x.s, x.p, x.f, ys⟩ u2 u3 u M2 M3) := hide ⟨hb, W.own HI.out.o2 (by omega) (by omega), W.own HI.out.o3 (by omega) (by omega), ou.mono (by omega), hs2, hs3, by omega, fun h => by omega, fun h => by omega, fun h => by omega⟩
        clear W h1 hr hb ou HR HI HN E0 HG
        go_wp2_with fail
        exact ⟨⟨3 + 1, k2, _, _, _, _, _, _, by omega, by go_num, HR1, HI1, HM, HE, hide HW.out.grown⟩, by simp [intOf]⟩
      · have HM : Hid (G = none) := hide (by rw [HN.out]; simp only [restC]; rw [h1]; rfl)
        clear W h1 HR HI HN E0 HG
        go_wp2
        exact ⟨rfl, .inr ⟨HM.out, rfl⟩, HW.out.grown⟩
    omega
end Go.Proofs.YtpgmipbanpofaaaGreatDoor
/-
  What readAt does with takeClass.
-/
namespace Go.Proofs.YtpgmipbanpofaaaGreatDoor
open Go.RowKit

def zeroCl : Value := .agg #[.string ⟨#[]⟩, .string ⟨#[]⟩, .slice none 0 0, .slice none 0 0, .slice none 0 0]
theorem putR {w : World} {g : Nat} {T : TypeId} {a0 a1 a2 a3 a4 y z : Value} (h0 : w.heap[g]? = some (.cells #[a0, a1, a2, a3, a4] T (0, 0))) (h1 : w.heap[g + 1]? = some (.cells #[y] 3 (0, 0))) (h2 : w.heap[g + 1 + 1]? = some (.cells #[z] 4 (0, 0))) (b0 b1 b2 b3 b4 y' z' : Value) :
    ((((((((w).setCell ⟨g, 0, none⟩ (b0)).setCell ⟨g, 1, none⟩ (b1)).setCell ⟨g, 2, none⟩ (b2)).setCell ⟨g, 3, none⟩ (b3)).setCell ⟨g, 4, none⟩ (b4)).setCell ⟨g + 1, 0, none⟩ (y')).setCell ⟨g + 1 + 1, 0, none⟩ (z')).heap[g]? = some (.cells #[b0, b1, b2, b3, b4] T (0, 0)) ∧ ((((((((w).setCell ⟨g, 0, none⟩ (b0)).setCell ⟨g, 1, none⟩ (b1)).setCell ⟨g, 2, none⟩ (b2)).setCell ⟨g, 3, none⟩ (b3)).setCell ⟨g, 4, none⟩ (b4)).setCell ⟨g + 1, 0, none⟩ (y')).setCell ⟨g + 1 + 1, 0, none⟩ (z')).heap[g + 1]? = some (.cells #[y'] 3 (0, 0)) ∧ ((((((((w).setCell ⟨g, 0, none⟩ (b0)).setCell ⟨g, 1, none⟩ (b1)).setCell ⟨g, 2, none⟩ (b2)).setCell ⟨g, 3, none⟩ (b3)).setCell ⟨g, 4, none⟩ (b4)).setCell ⟨g + 1, 0, none⟩ (y')).setCell ⟨g + 1 + 1, 0, none⟩ (z')).heap[g + 1 + 1]? = some (.cells #[z'] 4 (0, 0)) := by
  have p0 := putN5 h0 b0 b1 b2 b3 b4
  have oth : ∀ q, q ≠ g → ((((((w).setCell ⟨g, 0, none⟩ (b0)).setCell ⟨g, 1, none⟩ (b1)).setCell ⟨g, 2, none⟩ (b2)).setCell ⟨g, 3, none⟩ (b3)).setCell ⟨g, 4, none⟩ (b4)).heap[q]? = w.heap[q]? := fun q hq => by
    rw [heap_setCell_other _ _ _ _ hq, heap_setCell_other _ _ _ _ hq, heap_setCell_other _ _ _ _ hq, heap_setCell_other _ _ _ _ hq, heap_setCell_other _ _ _ _ hq]
  have p1 := (oth (g + 1) (by omega)).trans h1
  have p2 := (oth (g + 1 + 1) (by omega)).trans h2
  generalize (((((w).setCell ⟨g, 0, none⟩ (b0)).setCell ⟨g, 1, none⟩ (b1)).setCell ⟨g, 2, none⟩ (b2)).setCell ⟨g, 3, none⟩ (b3)).setCell ⟨g, 4, none⟩ (b4) = W at p0 p1 p2 ⊢
  refine ⟨?_, ?_, ?_⟩
  · rw [heap_setCell_other _ _ _ _ (by simp; omega), heap_setCell_other _ _ _ _ (by simp)]; exact p0
  · rw [heap_setCell_other _ _ _ _ (by simp)]; exact heap_setCell_same W (g + 1) 0 _ 3 y' p1
  · exact heap_setCell_same _ (g + 1 + 1) 0 _ 4 z' ((heap_setCell_other W ⟨g + 1, 0, none⟩ (g + 1 + 1) y' (by simp)).trans p2)
theorem put_oth {w : World} {g : Nat} (b0 b1 b2 b3 b4 : Value) (q : Nat) (hq : q ≠ g) : ((((((w).setCell ⟨g, 0, none⟩ (b0)).setCell ⟨g, 1, none⟩ (b1)).setCell ⟨g, 2, none⟩ (b2)).setCell ⟨g, 3, none⟩ (b3)).setCell ⟨g, 4, none⟩ (b4)).heap[q]? = w.heap[q]? := by
  rw [heap_setCell_other _ _ _ _ hq, heap_setCell_other _ _ _ _ hq, heap_setCell_other _ _ _ _ hq, heap_setCell_other _ _ _ _ hq, heap_setCell_other _ _ _ _ hq]
theorem below_put5 {B : Nat} {w0 w : World} (h : Below B w0 w) {g : Nat} (hg : B ≤ g) (b0 b1 b2 b3 b4 : Value) : Below B w0 ((((((w).setCell ⟨g, 0, none⟩ (b0)).setCell ⟨g, 1, none⟩ (b1)).setCell ⟨g, 2, none⟩ (b2)).setCell ⟨g, 3, none⟩ (b3)).setCell ⟨g, 4, none⟩ (b4)) :=
  ((((h.setCell (p := ⟨g, 0, none⟩) hg b0).setCell (p := ⟨g, 1, none⟩) hg b1).setCell (p := ⟨g, 2, none⟩) hg b2).setCell (p := ⟨g, 3, none⟩) hg b3).setCell (p := ⟨g, 4, none⟩) hg b4
theorem below_putR {B : Nat} {w0 w : World} (h : Below B w0 w) {g : Nat} (hg : B ≤ g) (b0 b1 b2 b3 b4 y' z' : Value) : Below B w0 ((((((((w).setCell ⟨g, 0, none⟩ (b0)).setCell ⟨g, 1, none⟩ (b1)).setCell ⟨g, 2, none⟩ (b2)).setCell ⟨g, 3, none⟩ (b3)).setCell ⟨g, 4, none⟩ (b4)).setCell ⟨g + 1, 0, none⟩ (y')).setCell ⟨g + 1 + 1, 0, none⟩ (z')) :=
  ((below_put5 h hg b0 b1 b2 b3 b4).setCell (p := ⟨g + 1, 0, none⟩) (by simp; omega) y').setCell (p := ⟨g + 1 + 1, 0, none⟩) (by simp; omega) z'
theorem results_threeC {fn : Func} {p0 p1 p2 : Tmp} {t0 t1 t2 : TypeId} {v0 v1 v2 : Value} {g0 g1 g2 : Addr} (h : fn.results = #[.cell p0 t0, .cell p1 t1, .cell p2 t2]) (tmps : Array Value) (P : Program) (w : World)
    (hg0 : tmps.getD p0 undef = .pointer (some g0)) (hg1 : tmps.getD p1 undef = .pointer (some g1)) (hg2 : tmps.getD p2 undef = .pointer (some g2))
    (hl0 : (loadVar t0 g0).run P w = .ok v0 w) (hl1 : (loadVar t1 g1).run P w = .ok v1 w) (hl2 : (loadVar t2 g2).run P w = .ok v2 w) :
    (results fn tmps).run P w = .ok (.tuple #[v0, v1, v2]) w := by
  have h' : ((asAddr (tmps.getD p0 undef)).run P w).andThen (fun a w₁ => ((loadVar t0 a).run P w₁).andThen fun x w₂ => ((asAddr (tmps.getD p1 undef)).run P w₂).andThen (fun a w₃ => ((loadVar t1 a).run P w₃).andThen fun y w₄ => ((asAddr (tmps.getD p2 undef)).run P w₄).andThen (fun a w₅ => ((loadVar t2 a).run P w₅).andThen fun z w₆ => Result.ok (Value.tuple #[x, y, z]) w₆))) = Result.ok (Value.tuple #[v0, v1, v2]) w := by
    rw [hg0, hg1, hg2]
    simp [asAddr, Result.andThen, hl0, hl1, hl2]
  simp only [results, h]
  simpa [Sem.run_bind, Result.andThen] using h'
theorem loadIntC {w : World} {g : Nat} {x : Int} (h : w.heap[g]? = some (.cells #[.int .i64 x] 3 (0, 0))) : (loadVar 3 ⟨g, 0, none⟩).run Tryz.prog w = .ok (.int .i64 x) w := by
  have c := (box_of h).1 0 _ rfl
  simp [go_sem, c]
theorem loadBoolC {w : World} {g : Nat} {x : Bool} (h : w.heap[g]? = some (.cells #[.bool x] 4 (0, 0))) : (loadVar 4 ⟨g, 0, none⟩).run Tryz.prog w = .ok (.bool x) w := by
  have c := (box_of h).1 0 _ rfl
  simp [go_sem, c]
theorem loadCld {w : World} {g : Nat} {a0 a1 a2 a3 a4 : Value} (h : w.heap[g]? = some (.cells #[a0, a1, a2, a3, a4] 27 (0, 0))) : (loadVar 27 ⟨g, 0, none⟩).run Tryz.prog w.drew = .ok (.agg #[a0, a1, a2, a3, a4]) w.drew := loadCl (w := w.drew) h
theorem loadIntCd {w : World} {g : Nat} {x : Int} (h : w.heap[g]? = some (.cells #[.int .i64 x] 3 (0, 0))) : (loadVar 3 ⟨g, 0, none⟩).run Tryz.prog w.drew = .ok (.int .i64 x) w.drew := loadIntC (w := w.drew) h
theorem loadBoolCd {w : World} {g : Nat} {x : Bool} (h : w.heap[g]? = some (.cells #[.bool x] 4 (0, 0))) : (loadVar 4 ⟨g, 0, none⟩).run Tryz.prog w.drew = .ok (.bool x) w.drew := loadBoolC (w := w.drew) h
theorem ownDL_drew {w : World} {b hi : Nat} {cs : List Dt} {us : List Value} (h : OwnDL w b hi cs us) : OwnDL w.drew b hi cs us := h.same (fun _ _ _ _ => rfl)
set_option maxRecDepth 100000 in
set_option maxHeartbeats 4000000 in
theorem catchPanicC (g : Nat) (t : TypeId) (pv : Value) (older : List PanicEntry) (w : World) (x0 x1 x2 x3 x4 : Value) (y : Int) (z : Bool) (hg : g + 1 + 1 < w.heap.size)
    (h0 : w.heap[g]? = some (.cells #[x0, x1, x2, x3, x4] 27 (0, 0))) (h1 : w.heap[g + 1]? = some (.cells #[.int .i64 y] 3 (0, 0))) (h2 : w.heap[g + 1 + 1]? = some (.cells #[.bool z] 4 (0, 0))) :
    CallsD Tryz.prog 37 #[.pointer (some ⟨g, 0, none⟩), .pointer (some ⟨g + 1, 0, none⟩), .pointer (some ⟨g + 1 + 1, 0, none⟩)] (.panicking ({ v := .iface t pv, recovered := false } :: older)) w fun e u' w' =>
      e = .returned (.tuple #[]) ∧ u' = .panicking ({ v := .iface t pv, recovered := true } :: older) ∧ w' = (((((((w.alloc (.cells #[.string ⟨#[]⟩, .string ⟨#[]⟩, .slice none 0 0, .slice none 0 0, .slice none 0 0] 27)).setCell ⟨g, 0, none⟩ (.string ⟨#[]⟩)).setCell ⟨g, 1, none⟩ (.string ⟨#[]⟩)).setCell ⟨g, 2, none⟩ (.slice none 0 0)).setCell ⟨g, 3, none⟩ (.slice none 0 0)).setCell ⟨g, 4, none⟩ (.slice none 0 0)).setCell ⟨g + 1, 0, none⟩ (.int .i64 0)).setCell ⟨g + 1 + 1, 0, none⟩ (.bool false) := by
  have X0 := box_of h0
  have X1 := box_of h1
  have X2 := box_of h2
  have HX0 := hide X0.1
  have c0 := HX0.out 0 _ rfl
  have c1 := HX0.out 1 _ rfl
  have c2 := HX0.out 2 _ rfl
  have c3 := HX0.out 3 _ rfl
  have c4 := HX0.out 4 _ rfl
  have d0 := X1.1 0 _ rfl
  have e0 := X2.1 0 _ rfl
  have z0 := X0.2
  have z1 := X1.2
  have z2 := X2.2
  have l0 : g < w.heap.size := by omega
  have l1 : g + 1 < w.heap.size := by omega
  clear X0 X1 X2 h0 h1 h2
  refine callsD_of_wpS Tryz.func37 rfl fun c₀ cs hu => ?_
  apply wpS_seq
  apply wpS_region
  simp [wpOpsS, go_sem, recoverD, hu, Tryz.ntmps37, Exit.thenS]
  refine wpS_cond (t := true) (by simp [Act.eval, Array.replicate]) ?_
  simp only [if_true]
  apply wpS_seq
  apply wpS_region
  simp [wpOpsS, go_sem, Exit.thenS]
  apply wpS_region
  simp [wpOpsS, go_sem, c0, c1, c2, c3, c4, d0, e0, z0, z1, z2, l0, l1, hg, bodyPostS, results, Tryz.results37]
set_option maxRecDepth 100000 in
theorem catchIdleC (g : Nat) (w : World) :
    CallsD Tryz.prog 37 #[.pointer (some ⟨g, 0, none⟩), .pointer (some ⟨g + 1, 0, none⟩), .pointer (some ⟨g + 1 + 1, 0, none⟩)] .returning w fun e u' w' => e = .returned (.tuple #[]) ∧ u' = .returning ∧ w' = w := by
  refine callsD_of_wpS Tryz.func37 rfl fun c₀ cs hu => ?_
  apply wpS_seq
  apply wpS_region
  simp [wpOpsS, go_sem, recoverD, hu, Tryz.ntmps37, Exit.thenS]
  refine wpS_cond (t := false) (by simp [Act.eval, Array.replicate]) ?_
  simp only [Bool.false_eq_true, if_false]
  refine wpS_of_wp (wp_skip ?_)
  cases c₀
  simp_all [bodyPostS, results, Tryz.results37]
theorem four_newC {w w1 : World} {k : Int} (hg : ((((w.alloc (.cells #[.string ⟨#[]⟩, .string ⟨#[]⟩, .slice none 0 0, .slice none 0 0, .slice none 0 0] 27)).alloc (.cells #[.int .i64 0] 3)).alloc (.cells #[.bool false] 4)).alloc (.cells #[.int .i64 k] 3)).grownBy w1 (some (w.heap.size + 1 + 1 + 1))) :
    w1.heap[w.heap.size]? = some (.cells #[.string ⟨#[]⟩, .string ⟨#[]⟩, .slice none 0 0, .slice none 0 0, .slice none 0 0] 27 (0, 0)) ∧ w1.heap[w.heap.size + 1]? = some (.cells #[.int .i64 0] 3 (0, 0)) ∧ w1.heap[w.heap.size + 1 + 1]? = some (.cells #[.bool false] 4 (0, 0)) ∧ Below w.heap.size w w1 ∧ w.heap.size + 1 + 1 + 1 < w1.heap.size := by
  have hs : ((((w.alloc (.cells #[.string ⟨#[]⟩, .string ⟨#[]⟩, .slice none 0 0, .slice none 0 0, .slice none 0 0] 27)).alloc (.cells #[.int .i64 0] 3)).alloc (.cells #[.bool false] 4)).alloc (.cells #[.int .i64 k] 3)).heap.size = w.heap.size + 4 := by simp
  have e0 := heap_alloc_new w (.cells #[.string ⟨#[]⟩, .string ⟨#[]⟩, .slice none 0 0, .slice none 0 0, .slice none 0 0] 27)
  have e1 := heap_alloc_new (w.alloc (.cells #[.string ⟨#[]⟩, .string ⟨#[]⟩, .slice none 0 0, .slice none 0 0, .slice none 0 0] 27)) (.cells #[.int .i64 0] 3)
  have e2 := heap_alloc_new ((w.alloc (.cells #[.string ⟨#[]⟩, .string ⟨#[]⟩, .slice none 0 0, .slice none 0 0, .slice none 0 0] 27)).alloc (.cells #[.int .i64 0] 3)) (.cells #[.bool false] 4)
  have n1 : (w.alloc (.cells #[.string ⟨#[]⟩, .string ⟨#[]⟩, .slice none 0 0, .slice none 0 0, .slice none 0 0] 27)).heap.size = w.heap.size + 1 := by simp
  have n2 : ((w.alloc (.cells #[.string ⟨#[]⟩, .string ⟨#[]⟩, .slice none 0 0, .slice none 0 0, .slice none 0 0] 27)).alloc (.cells #[.int .i64 0] 3)).heap.size = w.heap.size + 1 + 1 := by simp
  have n3 : (((w.alloc (.cells #[.string ⟨#[]⟩, .string ⟨#[]⟩, .slice none 0 0, .slice none 0 0, .slice none 0 0] 27)).alloc (.cells #[.int .i64 0] 3)).alloc (.cells #[.bool false] 4)).heap.size = w.heap.size + 1 + 1 + 1 := by simp
  rw [n1] at e1
  rw [n2] at e2
  have hsz := hg.size
  refine ⟨?_, ?_, ?_, ?_, by omega⟩
  · rw [hg.block _ (by omega) (by simp; omega), Below.heap_alloc _ _ _ (by omega), Below.heap_alloc _ _ _ (by omega), Below.heap_alloc _ _ _ (by omega), e0]
  · rw [hg.block _ (by omega) (by simp), Below.heap_alloc _ _ _ (by omega), Below.heap_alloc _ _ _ (by omega), e1]
  · rw [hg.block _ (by omega) (by simp), Below.heap_alloc _ _ _ (by omega), e2]
  · exact ((((Below.refl _ _).alloc (Nat.le_refl _) _).alloc (by simp) _).alloc (by simp; omega) _ |>.alloc (by simp; omega) _).grown hg (by simp; omega) (fun k hk => by cases hk; omega)
/-- What readAt answers. -/
def ansCl (b : Nat) (r : Option (Cl × Nat)) (e : Ending) (w' : World) : Prop :=
  match r with
  | some (m, nx) => ∃ u, e = .returned (.tuple #[u, .int .i64 (nx : Int), .bool true]) ∧ RowCl b w' u m
  | none => e = .returned (.tuple #[zeroCl, .int .i64 0, .bool false])
theorem clD_sl {w : World} {b hi : Nat} {x : Cl} {p q u2 u3 u4 : Value} (h : OwnDL w b hi (clD x) [p, q, u2, u3, u4]) : (∃ a c, u2 = .slice a x.p.length c) ∧ (∃ a c, u3 = .slice a x.f.length c) ∧ ∃ a c, u4 = .slice a x.m.length c := by
  have h := h.rd (Nat.le_refl _)
  unfold clD at h
  obtain ⟨_, _, e, _, h⟩ := readsL_cons h
  cases e
  obtain ⟨_, _, e, _, h⟩ := readsL_cons h
  cases e
  obtain ⟨_, _, e, h1, h⟩ := readsL_cons h
  cases e
  obtain ⟨_, _, e, h2, h⟩ := readsL_cons h
  cases e
  obtain ⟨_, _, e, h3, h⟩ := readsL_cons h
  cases e
  obtain ⟨p1, c1, e1, _⟩ := h1.shape
  obtain ⟨p2, c2, e2, _⟩ := h2.shape
  obtain ⟨p3, c3, e3, _⟩ := h3.shape
  exact ⟨⟨p1, c1, e1⟩, ⟨p2, c2, e2⟩, ⟨p3, c3, e3⟩⟩
set_option maxRecDepth 100000 in
set_option maxHeartbeats 8000000 in
theorem readCl (w : World) (a : Option Addr) (len cap : Nat) (t : TypeId) (v : Value) (r : Option (Cl × Nat))
    (hT : ∀ W : World, Below w.heap.size w W → W.heap[w.heap.size + 1 + 1 + 1]? = some (.cells #[.int .i64 0] 3 (0, 0)) →
      Calls Tryz.prog 18 #[.slice a len cap, .pointer (some ⟨w.heap.size + 1 + 1 + 1, 0, none⟩)] W (tookL (RowCl W.heap.size) W (w.heap.size + 1 + 1 + 1) t v r)) :
    Calls Tryz.prog 17 #[.slice a len cap, .int .i64 0, .func (.func 18) #[] #[]] w fun e w' => ansCl w.heap.size r e w' ∧ Below w.heap.size w w' := by
  have hmf : ∀ (fn : Fn) (first cap : Array Value) (w : World), (Instr.makeFunc fn first cap).run Tryz.prog w = .ok (.func fn first cap) w := fun _ _ _ _ => rfl
  have HT := hide hT
  clear hT
  go_enter_defers Tryz.func17, Tryz.ntmps17
  go_wp2_with fail
  refine (unhide HT _ ((((Below.refl _ _).alloc (Nat.le_refl _) _).alloc (by simp) _).alloc (by simp; omega) _ |>.alloc (by simp; omega) _) (by
    have := heap_alloc_new (((w.alloc (.cells #[.string ⟨#[]⟩, .string ⟨#[]⟩, .slice none 0 0, .slice none 0 0, .slice none 0 0] 27)).alloc (.cells #[.int .i64 0] 3)).alloc (.cells #[.bool false] 4)) (.cells #[.int .i64 0] 3)
    simpa using this)).mono ?_
  clear HT
  rintro e w1 ⟨hres, hg1⟩
  obtain ⟨g0, g1, g2, hb1, hs1⟩ := four_newC hg1
  have HB := hide hb1
  clear hg1 hb1
  have HE := hide (And.intro g0 (And.intro g1 g2))
  have HX0 := hide (box_of g0).1
  have z0 := (box_of g0).2
  have z1 := (box_of g1).2 0
  have z2 := (box_of g2).2 0
  have d0 := (box_of g1).1 0 _ rfl
  have e0 := (box_of g2).1 0 _ rfl
  have c0 := HX0.out 0 _ rfl
  have c1 := HX0.out 1 _ rfl
  have c2 := HX0.out 2 _ rfl
  have c3 := HX0.out 3 _ rfl
  have c4 := HX0.out 4 _ rfl
  clear g0 g1 g2 HX0
  rcases hres with ⟨m, nx, u, rfl, rfl, ⟨u2, u3, u4, rfl, o⟩, hp1⟩ | ⟨rfl, rfl⟩
  · have c3' : w1.cell? ⟨w.heap.size + 1 + 1 + 1, 0, none⟩ = some (.int .i64 (nx : Int)) := by rw [cell_of_row _ _ 0 _ 3 (0, 0) hp1]; rfl
    obtain ⟨⟨a2, k2, e2⟩, ⟨a3, k3, e3⟩, ⟨a4, k4, e4⟩⟩ := clD_sl o
    subst e2 e3 e4
    have HO := hide o
    clear hp1 o
    go_wp2
    go_region
    go_wp2
    refine leaves_cons (f := 37) (args := #[.pointer (some ⟨w.heap.size, 0, none⟩), .pointer (some ⟨w.heap.size + 1, 0, none⟩), .pointer (some ⟨w.heap.size + 1 + 1, 0, none⟩)]) (by simp) (by simp [go_sem]) ?_
    refine (catchIdleC _ _).mono ?_
    rintro e u' w'' ⟨rfl, rfl, rfl⟩
    have P5 := putN5 HE.out.1 (.string m.n) (.string m.s) (.slice a2 m.p.length k2) (.slice a3 m.f.length k3) (.slice a4 m.m.length k4)
    have oth := fun q hq => put_oth (w := w1) (g := w.heap.size) (.string m.n) (.string m.s) (.slice a2 m.p.length k2) (.slice a3 m.f.length k3) (.slice a4 m.m.length k4) q hq
    have P7 := putR P5 ((oth _ (by omega)).trans HE.out.2.1) ((oth _ (by omega)).trans HE.out.2.2) (.string m.n) (.string m.s) (.slice a2 m.p.length k2) (.slice a3 m.f.length k3) (.slice a4 m.m.length k4) (.int .i64 (nx : Int)) (.bool true)
    refine ⟨.tuple #[.agg #[.string m.n, .string m.s, .slice a2 m.p.length k2, .slice a3 m.f.length k3, .slice a4 m.m.length k4], .int .i64 (nx : Int), .bool true], results_threeC Tryz.results17 _ _ _ rfl rfl rfl (loadCld P7.1) (loadIntCd P7.2.1) (loadBoolCd P7.2.2), ⟨_, rfl, _, _, _, rfl, ?_⟩, ?_⟩
    · refine ownDL_drew (((OwnDL.same (HO.out.mono (b' := w.heap.size + 1 + 1 + 1) (by simp)) (fun q hq _ _ => ?_)).mono (by omega)).up (by simp [World.drew]))
      rw [heap_setCell_other _ _ _ _ (by simp; omega), heap_setCell_other _ _ _ _ (by simp; omega), put_oth _ _ _ _ _ q (by omega), put_oth _ _ _ _ _ q (by omega)]
    · exact (below_putR (below_put5 HB.out (Nat.le_refl _) _ _ _ _ _) (Nat.le_refl _) _ _ _ _ _ _ _).drew
  · go_wp2
    refine leaves_cons (f := 37) (args := #[.pointer (some ⟨w.heap.size, 0, none⟩), .pointer (some ⟨w.heap.size + 1, 0, none⟩), .pointer (some ⟨w.heap.size + 1 + 1, 0, none⟩)]) (by simp) (by simp [go_sem]) ?_
    refine (catchPanicC _ _ _ _ _ _ _ _ _ _ _ _ (by omega) HE.out.1 HE.out.2.1 HE.out.2.2).mono ?_
    rintro e u' w'' ⟨rfl, rfl, rfl⟩
    have hsz : w.heap.size + 1 + 1 < w1.heap.size := by omega
    have P7 := putR ((Below.heap_alloc w1 (.cells #[.string ⟨#[]⟩, .string ⟨#[]⟩, .slice none 0 0, .slice none 0 0, .slice none 0 0] 27) _ (by omega)).trans HE.out.1) ((Below.heap_alloc w1 _ _ (by omega)).trans HE.out.2.1) ((Below.heap_alloc w1 _ _ (by omega)).trans HE.out.2.2) (.string ⟨#[]⟩) (.string ⟨#[]⟩) (.slice none 0 0) (.slice none 0 0) (.slice none 0 0) (.int .i64 0) (.bool false)
    exact ⟨.tuple #[zeroCl, .int .i64 0, .bool false], results_threeC Tryz.results17 _ _ _ rfl rfl rfl (loadCl P7.1) (loadIntC P7.2.1) (loadBoolC P7.2.2), rfl, below_putR (HB.out.alloc HB.out.size _) (Nat.le_refl _) _ _ _ _ _ _ _⟩
end Go.Proofs.YtpgmipbanpofaaaGreatDoor
/-
  What is read is what was put, of classes.
-/
namespace Go.Proofs.YtpgmipbanpofaaaGreatDoor
open Go.RowKit

/-- So many as the number ahead says. -/
def sMany {α : Type} (zs : List Int) (f : Nat → Option (α × Nat)) (k : Nat) : Option (List α × Nat) := (gnF zs 4 k 0 1).bind fun n => rList f n.1.toNat n.2
def sCode (zs : List Int) (k : Nat) : Option (List Int × Nat) := (gnF zs 4 k 0 1).bind fun n => if n.1.toNat ≤ zs.length - n.2 then some ((zs.drop n.2).take n.1.toNat, n.2 + n.1.toNat) else none
def sKc (zs : List Int) (k : Nat) : Option (Kc × Nat) := (cOf zs (k : Int)).map fun q => (kcOf q.1, q.2)
def sMe (zs : List Int) (k : Nat) : Option (Me × Nat) := (rTx zs k).bind fun n => (sMany zs (rTx zs) n.2).bind fun ps => (rTx zs ps.2).bind fun r => (gnF zs 4 r.2 0 1).bind fun l => (sCode zs l.2).bind fun c => some (⟨n.1, ps.1, r.1, l.1, c.1⟩, c.2)
def sCl (zs : List Int) (k : Nat) : Option (Cl × Nat) := (rTx zs k).bind fun n => (rTx zs n.2).bind fun s => (sMany zs (sKc zs) s.2).bind fun p => (sMany zs (rFd zs) p.2).bind fun f => (sMany zs (sMe zs) f.2).bind fun m => some (⟨n.1, s.1, p.1, f.1, m.1⟩, m.2)

theorem many_put {α : Type} {zs : List Int} {f : Nat → Option (α × Nat)} {B : α → List Int} {xs : List α} {k : Nat} {most : Int} (hf : ∀ x ∈ xs, ∀ k, Pre zs k (B x) → f k = some (x, k + (B x).length)) (hl : (xs.length : Int) ≤ most) (hm : most ≤ 1000) (h : Pre zs k (rowY B xs)) : rMany zs f most k = some (xs, k + (rowY B xs).length) ∧ sMany zs f k = some (xs, k + (rowY B xs).length) := by
  unfold rowY at h ⊢
  obtain ⟨h1, h2⟩ := Pre.app.1 h
  have hn := num_put (by omega) (by omega) h1
  have hL := list_put xs _ hf h2
  unfold rMany sMany
  rw [hn]
  simp only [Option.bind_some]
  rw [if_neg (by omega), Int.toNat_natCast, hL]
  simp [Nat.add_assoc]
theorem many_back {α : Type} {zs : List Int} (hB : Byt zs) {f : Nat → Option (α × Nat)} {B : α → List Int} {Q : α → Prop} {xs : List α} {k e : Nat} {most : Int} (hf : ∀ k nx x, Q x → f k = some (x, nx) → Pre zs k (B x) ∧ nx = k + (B x).length) (hQ : ∀ x ∈ xs, Q x) (h : rMany zs f most k = some (xs, e)) : Pre zs k (rowY B xs) ∧ e = k + (rowY B xs).length := by
  have lb : ∀ (n k e : Nat) (xs : List α), (∀ x ∈ xs, Q x) → rList f n k = some (xs, e) → xs.length = n ∧ Pre zs k (xs.flatMap B) ∧ e = k + (xs.flatMap B).length := by
    intro n
    induction n with
    | zero =>
      intro k e xs _ h
      simp only [rList, Option.some.injEq, Prod.mk.injEq] at h
      obtain ⟨rfl, rfl⟩ := h
      exact ⟨rfl, Pre.nil _ _, by simp⟩
    | succ n ih =>
      intro k e xs hQ h
      rw [rList] at h
      obtain ⟨⟨x, kx⟩, hx, h⟩ := Option.bind_eq_some_iff.1 h
      obtain ⟨⟨ys, ky⟩, hy, h⟩ := Option.bind_eq_some_iff.1 h
      simp only [Option.some.injEq, Prod.mk.injEq] at h
      obtain ⟨rfl, rfl⟩ := h
      obtain ⟨h1, h2⟩ := hf k kx x (hQ x (by simp)) hx
      obtain ⟨h4, h5, h6⟩ := ih kx ky ys (fun y hy => hQ y (by simp [hy])) hy
      subst h2
      rw [List.flatMap_cons]
      exact ⟨by simp [h4], Pre.app.2 ⟨h1, h5⟩, by rw [h6]; simp [Nat.add_assoc]⟩
  unfold rMany at h
  obtain ⟨⟨n, k1⟩, hn, h⟩ := Option.bind_eq_some_iff.1 h
  simp only at h
  split at h
  · cases h
  · obtain ⟨n0, _, hp, rfl, _⟩ := num_back hB hn
    obtain ⟨h1, h2, h3⟩ := lb _ _ _ _ hQ h
    have e1 : (xs.length : Int) = n := by omega
    unfold rowY
    rw [e1]
    exact ⟨Pre.app.2 ⟨hp, h2⟩, by rw [h3]; simp [Nat.add_assoc]⟩
theorem list_all {α : Type} {f : Nat → Option (α × Nat)} {Q : α → Prop} (hf : ∀ k x nx, f k = some (x, nx) → Q x) : ∀ (n k e : Nat) (xs : List α), rList f n k = some (xs, e) → xs.length = n ∧ ∀ x ∈ xs, Q x
  | 0, k, e, xs, h => by
    simp only [rList, Option.some.injEq, Prod.mk.injEq] at h
    obtain ⟨rfl, rfl⟩ := h
    exact ⟨rfl, fun x hx => by cases hx⟩
  | n + 1, k, e, xs, h => by
    rw [rList] at h
    obtain ⟨⟨x, kx⟩, hx, h⟩ := Option.bind_eq_some_iff.1 h
    obtain ⟨⟨ys, ky⟩, hy, h⟩ := Option.bind_eq_some_iff.1 h
    simp only [Option.some.injEq, Prod.mk.injEq] at h
    obtain ⟨rfl, rfl⟩ := h
    obtain ⟨h1, h2⟩ := list_all hf n kx ky ys hy
    refine ⟨by simp [h1], fun y hy => ?_⟩
    rcases List.mem_cons.1 hy with rfl | hy
    · exact hf _ _ _ hx
    · exact h2 y hy
theorem many_all {α : Type} {zs : List Int} {f : Nat → Option (α × Nat)} {Q : α → Prop} (hf : ∀ k x nx, f k = some (x, nx) → Q x) {most : Int} {k e : Nat} {xs : List α} (h : rMany zs f most k = some (xs, e)) : ((xs.length : Int) ≤ most ∨ xs.length = 0) ∧ ∀ x ∈ xs, Q x := by
  unfold rMany at h
  obtain ⟨⟨n, k1⟩, hn, h⟩ := Option.bind_eq_some_iff.1 h
  simp only at h
  split at h
  · cases h
  · obtain ⟨h1, h2⟩ := list_all hf _ _ _ _ h
    exact ⟨by omega, h2⟩
theorem rTx_size {zs : List Int} {k : Nat} {s : ByteArray} {nx : Nat} (h : rTx zs k = some (s, nx)) : s.size ≤ 200 := gtx_size h
theorem rFd_size {zs : List Int} {k : Nat} {x : Fd} {nx : Nat} (h : rFd zs k = some (x, nx)) : x.n.size ≤ 200 ∧ x.t.size ≤ 200 := by
  unfold rFd at h
  obtain ⟨⟨a, _⟩, h1, h⟩ := Option.bind_eq_some_iff.1 h
  obtain ⟨⟨b, _⟩, h2, h⟩ := Option.bind_eq_some_iff.1 h
  simp only [Option.some.injEq, Prod.mk.injEq] at h
  obtain ⟨rfl, rfl⟩ := h
  exact ⟨rTx_size h1, rTx_size h2⟩
theorem rKk_size2 {zs : List Int} {kd : Int} {k : Nat} {c : Int × Int × ByteArray × ByteArray} {e : Nat} (h : rKk zs kd k = some (c, e)) : c.2.2.1.size ≤ 200 ∧ c.2.2.2.size ≤ 200 := by
  unfold rKk at h
  split at h
  · obtain ⟨q, _, h⟩ := Option.map_eq_some_iff.1 h
    cases h
    exact ⟨(show noS.size ≤ 200 by decide), (show noS.size ≤ 200 by decide)⟩
  · split at h
    · obtain ⟨q, hq, h⟩ := Option.map_eq_some_iff.1 h
      cases h
      exact ⟨gtx_size hq, (show noS.size ≤ 200 by decide)⟩
    · split at h
      · obtain ⟨q, hq, h⟩ := Option.bind_eq_some_iff.1 h
        obtain ⟨u, hu, h⟩ := Option.map_eq_some_iff.1 h
        cases h
        exact ⟨gtx_size hq, gtx_size hu⟩
      · cases h
        exact ⟨(show noS.size ≤ 200 by decide), (show noS.size ≤ 200 by decide)⟩
theorem rKc_size {zs : List Int} {k : Nat} {x : Kc} {nx : Nat} (h : rKc zs k = some (x, nx)) : x.a.size ≤ 200 ∧ x.b.size ≤ 200 := by
  unfold rKc at h
  obtain ⟨⟨c, e⟩, hc, h⟩ := Option.map_eq_some_iff.1 h
  cases h
  rw [rK0_eq] at hc
  obtain ⟨⟨kd, k1⟩, _, hc⟩ := Option.bind_eq_some_iff.1 hc
  exact rKk_size2 hc
theorem rBy_byt {zs : List Int} (hB : Byt zs) {k : Nat} {x : Int} {nx : Nat} (h : rBy zs k = some (x, nx)) : 0 ≤ x ∧ x ≤ 255 := by
  unfold rBy at h
  split at h
  · rename_i hk
    cases h
    exact hB.at k hk
  · cases h
theorem rMe_G {zs : List Int} (hB : Byt zs) {k : Nat} {x : Me} {nx : Nat} (h : rMe zs k = some (x, nx)) : x.n.size ≤ 1048576 ∧ x.r.size ≤ 1048576 ∧ MeG x ∧ (∀ s ∈ x.ps, s.size ≤ 1048576) ∧ (-9223372036854775808 ≤ x.l ∧ x.l ≤ 9223372036854775807) := by
  unfold rMe at h
  obtain ⟨⟨n, k1⟩, h1, h⟩ := Option.bind_eq_some_iff.1 h
  obtain ⟨⟨ps, k2⟩, h2, h⟩ := Option.bind_eq_some_iff.1 h
  obtain ⟨⟨r, k3⟩, h3, h⟩ := Option.bind_eq_some_iff.1 h
  obtain ⟨⟨l, k4⟩, h4, h⟩ := Option.bind_eq_some_iff.1 h
  obtain ⟨⟨c, k5⟩, h5, h⟩ := Option.bind_eq_some_iff.1 h
  simp only [Option.some.injEq, Prod.mk.injEq] at h
  obtain ⟨rfl, rfl⟩ := h
  have a1 := rTx_size h1
  have a3 := rTx_size h3
  obtain ⟨b1, b2⟩ := many_all (Q := fun s : ByteArray => s.size ≤ 200) (fun k x nx h => rTx_size h) h2
  obtain ⟨c1, c2⟩ := many_all (Q := fun z : Int => 0 ≤ z ∧ z ≤ 255) (fun k x nx h => rBy_byt hB h) h5
  obtain ⟨l0, l1, _⟩ := num_back hB h4
  exact ⟨by simp only; omega, by simp only; omega, ⟨by simp only; omega, by simp only; omega, fun z hz => c2 z hz⟩, fun s hs => by have := b2 s hs; omega, by simp only; omega, by simp only; omega⟩
theorem rCl_G {zs : List Int} (hB : Byt zs) {k : Nat} {x : Cl} {nx : Nat} (h : rCl zs k = some (x, nx)) : ClG x := by
  unfold rCl at h
  obtain ⟨⟨n, k1⟩, h1, h⟩ := Option.bind_eq_some_iff.1 h
  obtain ⟨⟨s, k2⟩, h2, h⟩ := Option.bind_eq_some_iff.1 h
  obtain ⟨⟨p, k3⟩, h3, h⟩ := Option.bind_eq_some_iff.1 h
  obtain ⟨⟨f, k4⟩, h4, h⟩ := Option.bind_eq_some_iff.1 h
  obtain ⟨⟨m, k5⟩, h5, h⟩ := Option.bind_eq_some_iff.1 h
  simp only [Option.some.injEq, Prod.mk.injEq] at h
  obtain ⟨rfl, rfl⟩ := h
  have a1 := rTx_size h1
  have a2 := rTx_size h2
  obtain ⟨b1, b2⟩ := many_all (Q := fun x : Kc => x.a.size ≤ 200 ∧ x.b.size ≤ 200) (fun k x nx h => rKc_size h) h3
  obtain ⟨c1, c2⟩ := many_all (Q := fun x : Fd => x.n.size ≤ 200 ∧ x.t.size ≤ 200) (fun k x nx h => rFd_size h) h4
  obtain ⟨d1, d2⟩ := many_all (fun k x nx h => rMe_G hB h) h5
  exact ⟨by simp only; omega, by simp only; omega, by simp only; omega, by simp only; omega, by simp only; omega, fun y hy => by have := b2 y hy; omega, fun y hy => by have := c2 y hy; omega, fun y hy => d2 y hy⟩
theorem row1 (c : List Int) : rowY (fun z => [z]) c = pn (c.length : Int) ++ c := by
  unfold rowY
  rw [List.flatMap_singleton']
theorem by_put {zs : List Int} {z : Int} {k : Nat} (h : Pre zs k [z]) : rBy zs k = some (z, k + 1) := by
  have hl := h.len (by simp)
  have hg := h.get 0 (by simp)
  unfold rBy
  simp only [List.length_singleton] at hl
  rw [if_pos (by omega)]
  simp only [Nat.add_zero] at hg
  rw [hg]
  rfl
theorem by_back {zs : List Int} {k nx : Nat} {z : Int} (h : rBy zs k = some (z, nx)) : Pre zs k [z] ∧ nx = k + 1 := by
  unfold rBy at h
  split at h
  · rename_i hk
    cases h
    refine ⟨⟨zs.drop (k + 1), ?_⟩, rfl⟩
    rw [List.drop_eq_getElem_cons hk]
    simp [hk]
  · cases h
theorem code_put {zs : List Int} {c : List Int} {k : Nat} (hl : c.length ≤ 90) (h : Pre zs k (pn (c.length : Int) ++ c)) : sCode zs k = some (c, k + (pn (c.length : Int) ++ c).length) := by
  obtain ⟨h1, h2⟩ := Pre.app.1 h
  have hp := pn_posK (x := (c.length : Int)) (by omega) (by omega)
  have hn := num_put (by omega) (by omega) h1
  have hk := h1.len hp
  unfold sCode
  rw [hn]
  simp only [Option.bind_some, Int.toNat_natCast]
  have hc : k + (pn (c.length : Int)).length + c.length ≤ zs.length := by
    rcases Nat.eq_zero_or_pos c.length with h0 | h0
    · omega
    · exact h2.len h0
  rw [if_pos (by omega)]
  obtain ⟨r, hr⟩ := h2
  rw [hr, List.take_left']
  · simp [Nat.add_assoc]
  · rfl
theorem meB_parts {x : Me} (h : meB x = true) : nameB x.n = true ∧ x.ps.length ≤ 3 ∧ (∀ s ∈ x.ps, nameB s = true) ∧ nameB x.r = true ∧ ((x.ps.length : Int) + 1 ≤ x.l ∧ x.l ≤ 6) ∧ x.c.length ≤ 90 := by
  unfold meB at h
  simp only [Bool.and_eq_true, decide_eq_true_eq, List.all_eq_true] at h
  obtain ⟨⟨⟨⟨h1, h2, h3⟩, h4⟩, h5⟩, h6⟩ := h
  have a := inB_yes h5
  have b := inB_yes h6
  exact ⟨h1, h2, h3, h4, a, by omega⟩
theorem me_put {zs : List Int} {x : Me} {k : Nat} (hx : meB x = true) (h : Pre zs k (meY x)) : rMe zs k = some (x, k + (meY x).length) ∧ sMe zs k = some (x, k + (meY x).length) := by
  obtain ⟨b1, b2, b3, b4, ⟨b5, b6⟩, b7⟩ := meB_parts hx
  have e : meY x = pt x.n ++ (rowY pt x.ps ++ (pt x.r ++ (pn x.l ++ (pn (x.c.length : Int) ++ x.c)))) := by unfold meY; simp only [List.append_assoc]
  rw [e] at h ⊢
  obtain ⟨h1, h⟩ := Pre.app.1 h
  obtain ⟨h2, h⟩ := Pre.app.1 h
  obtain ⟨h3, h⟩ := Pre.app.1 h
  obtain ⟨h4, h5⟩ := Pre.app.1 h
  have c1 : rTx zs _ = _ := text_put (by have := nameB_size b1; omega) h1
  have c2 := many_put (f := rTx zs) (most := 3) (fun s hs k hp => text_put (by have := nameB_size (b3 s hs); omega) hp) (by omega) (by omega) h2
  have c3 : rTx zs _ = _ := text_put (by have := nameB_size b4; omega) h3
  have c4 := num_put (by omega) (by omega) h4
  have c5 := many_put (f := rBy zs) (B := fun z => [z]) (xs := x.c) (most := 90) (fun z _ k hp => by_put hp) (by omega) (by omega) (by rw [row1]; exact h5)
  rw [row1] at c5
  have c6 := code_put b7 h5
  unfold rMe sMe
  rw [c1]
  simp only [Option.bind_some]
  rw [c2.1, c2.2]
  simp only [Option.bind_some]
  rw [c3]
  simp only [Option.bind_some]
  rw [c4]
  simp only [Option.bind_some]
  rw [c5.1, c6]
  simp [Nat.add_assoc]
theorem fd_put {zs : List Int} {x : Fd} {k : Nat} (hx : fdB x = true) (h : Pre zs k (fdY x)) : rFd zs k = some (x, k + (fdY x).length) := by
  unfold fdB at hx
  simp only [Bool.and_eq_true] at hx
  unfold fdY at h ⊢
  obtain ⟨h1, h2⟩ := Pre.app.1 h
  have c1 : rTx zs _ = _ := text_put (by have := nameB_size hx.1; omega) h1
  have c2 : rTx zs _ = _ := text_put (by have := nameB_size hx.2; omega) h2
  unfold rFd
  rw [c1]
  simp only [Option.bind_some]
  rw [c2]
  simp [Nat.add_assoc]
theorem kc_put {zs : List Int} {x : Kc} {k : Nat} (hx : kcB x = true) (h : Pre zs k (kcY x)) : rKc zs k = some (x, k + (kcY x).length) ∧ sKc zs k = some (x, k + (kcY x).length) := by
  have c := const_put hx h
  have r : rK0 zs (k : Int) = some ((x.k, x.n, x.a, x.b), k + (kcY x).length) := by
    unfold cOf at c
    obtain ⟨⟨q, e⟩, h1, h2⟩ := Option.bind_eq_some_iff.1 c
    simp only at h2
    split at h2
    · rw [h1, h2]; rfl
    · cases h2
  unfold rKc sKc
  rw [r, c]
  exact ⟨rfl, rfl⟩
theorem clB_parts {x : Cl} (h : clB x = true) : x.n.size ≤ 8 ∧ x.s.size ≤ 8 ∧ x.p.length ≤ 24 ∧ (∀ y ∈ x.p, kcB y = true) ∧ x.f.length ≤ 8 ∧ (∀ y ∈ x.f, fdB y = true) ∧ x.m.length ≤ 6 ∧ ∀ y ∈ x.m, meB y = true := by
  unfold clB namB poolB fldsB metsB clsB at h
  simp only [Bool.and_eq_true, Bool.or_eq_true, decide_eq_true_eq, List.all_eq_true] at h
  obtain ⟨⟨⟨⟨⟨h1, _⟩, h2⟩, ⟨h3, h4⟩, _⟩, ⟨h5, h6⟩, _⟩, ⟨h7, h8⟩, _⟩ := h
  refine ⟨nameB_size h1, ?_, h3, h4, h5, h6, h7, h8⟩
  rcases h2 with h2 | h2
  · rw [empty_noS h2]; decide
  · exact nameB_size h2.1
theorem cl_put {zs : List Int} {x : Cl} {k : Nat} (hx : clB x = true) (h : Pre zs k (clY0 x)) : rCl zs k = some (x, k + (clY0 x).length) ∧ sCl zs k = some (x, k + (clY0 x).length) := by
  obtain ⟨b1, b2, b3, b4, b5, b6, b7, b8⟩ := clB_parts hx
  have e : clY0 x = pt x.n ++ (pt x.s ++ (rowY kcY x.p ++ (rowY fdY x.f ++ rowY meY x.m))) := by unfold clY0; simp only [List.append_assoc]
  rw [e] at h ⊢
  obtain ⟨h1, h⟩ := Pre.app.1 h
  obtain ⟨h2, h⟩ := Pre.app.1 h
  obtain ⟨h3, h⟩ := Pre.app.1 h
  obtain ⟨h4, h5⟩ := Pre.app.1 h
  have c1 : rTx zs _ = _ := text_put (by omega) h1
  have c2 : rTx zs _ = _ := text_put (by omega) h2
  have c3 := many_put (f := rKc zs) (most := 24) (fun y hy k hp => (kc_put (b4 y hy) hp).1) (by omega) (by omega) h3
  have c3' := many_put (f := sKc zs) (most := 24) (fun y hy k hp => (kc_put (b4 y hy) hp).2) (by omega) (by omega) h3
  have c4 := many_put (f := rFd zs) (most := 8) (fun y hy k hp => fd_put (b6 y hy) hp) (by omega) (by omega) h4
  have c5 := many_put (f := rMe zs) (most := 6) (fun y hy k hp => (me_put (b8 y hy) hp).1) (by omega) (by omega) h5
  have c5' := many_put (f := sMe zs) (most := 6) (fun y hy k hp => (me_put (b8 y hy) hp).2) (by omega) (by omega) h5
  unfold rCl sCl
  rw [c1]
  simp only [Option.bind_some]
  rw [c2]
  simp only [Option.bind_some]
  rw [c3.1, c3'.2]
  simp only [Option.bind_some]
  rw [c4.1, c4.2]
  simp only [Option.bind_some]
  rw [c5.1, c5'.2]
  simp [Nat.add_assoc]
theorem tx_back {zs : List Int} (hB : Byt zs) {k nx : Nat} {s : ByteArray} (h : rTx zs k = some (s, nx)) : Pre zs k (pt s) ∧ nx = k + (pt s).length := ⟨(text_back hB h).1, (text_back hB h).2.1⟩
theorem fd_back {zs : List Int} (hB : Byt zs) {k nx : Nat} {x : Fd} (h : rFd zs k = some (x, nx)) : Pre zs k (fdY x) ∧ nx = k + (fdY x).length := by
  unfold rFd at h
  obtain ⟨⟨a, k1⟩, h1, h⟩ := Option.bind_eq_some_iff.1 h
  obtain ⟨⟨b, k2⟩, h2, h⟩ := Option.bind_eq_some_iff.1 h
  simp only [Option.some.injEq, Prod.mk.injEq] at h
  obtain ⟨rfl, rfl⟩ := h
  obtain ⟨p1, rfl⟩ := tx_back hB h1
  obtain ⟨p2, rfl⟩ := tx_back hB h2
  unfold fdY
  exact ⟨Pre.app.2 ⟨p1, p2⟩, by simp [Nat.add_assoc]⟩
theorem kc_back {zs : List Int} (hB : Byt zs) {k nx : Nat} {x : Kc} (hx : kcB x = true) (h : rKc zs k = some (x, nx)) : Pre zs k (kcY x) ∧ nx = k + (kcY x).length := by
  unfold rKc at h
  obtain ⟨⟨c, e⟩, hc, h⟩ := Option.map_eq_some_iff.1 h
  cases h
  obtain ⟨_, _, h1, h2, _⟩ := const_back hB (cOf_some hc hx)
  rw [Int.toNat_natCast] at h1 h2
  exact ⟨h1, h2⟩
theorem me_back {zs : List Int} (hB : Byt zs) {k nx : Nat} {x : Me} (h : rMe zs k = some (x, nx)) : Pre zs k (meY x) ∧ nx = k + (meY x).length := by
  unfold rMe at h
  obtain ⟨⟨n, k1⟩, h1, h⟩ := Option.bind_eq_some_iff.1 h
  obtain ⟨⟨ps, k2⟩, h2, h⟩ := Option.bind_eq_some_iff.1 h
  obtain ⟨⟨r, k3⟩, h3, h⟩ := Option.bind_eq_some_iff.1 h
  obtain ⟨⟨l, k4⟩, h4, h⟩ := Option.bind_eq_some_iff.1 h
  obtain ⟨⟨c, k5⟩, h5, h⟩ := Option.bind_eq_some_iff.1 h
  simp only [Option.some.injEq, Prod.mk.injEq] at h
  obtain ⟨rfl, rfl⟩ := h
  obtain ⟨p1, rfl⟩ := tx_back hB h1
  obtain ⟨p2, rfl⟩ := many_back (B := pt) (Q := fun _ => True) hB (fun k nx x _ h => tx_back hB h) (fun _ _ => trivial) h2
  obtain ⟨p3, rfl⟩ := tx_back hB h3
  obtain ⟨_, _, p4, rfl, _⟩ := num_back hB h4
  obtain ⟨p5, rfl⟩ := many_back (B := fun z => [z]) (Q := fun _ => True) hB (fun k nx x _ h => by_back h) (fun _ _ => trivial) h5
  rw [row1] at p5
  rw [row1]
  have e : meY ⟨n, ps, r, l, c⟩ = pt n ++ (rowY pt ps ++ (pt r ++ (pn l ++ (pn (c.length : Int) ++ c)))) := by unfold meY; simp only [List.append_assoc]
  rw [e]
  exact ⟨Pre.app.2 ⟨p1, Pre.app.2 ⟨p2, Pre.app.2 ⟨p3, Pre.app.2 ⟨p4, p5⟩⟩⟩⟩, by simp [Nat.add_assoc]⟩
theorem cl_back {zs : List Int} (hB : Byt zs) {k nx : Nat} {x : Cl} (hx : clB x = true) (h : rCl zs k = some (x, nx)) : Pre zs k (clY0 x) ∧ nx = k + (clY0 x).length := by
  obtain ⟨_, _, _, b4, _, _, _, _⟩ := clB_parts hx
  unfold rCl at h
  obtain ⟨⟨n, k1⟩, h1, h⟩ := Option.bind_eq_some_iff.1 h
  obtain ⟨⟨s, k2⟩, h2, h⟩ := Option.bind_eq_some_iff.1 h
  obtain ⟨⟨p, k3⟩, h3, h⟩ := Option.bind_eq_some_iff.1 h
  obtain ⟨⟨f, k4⟩, h4, h⟩ := Option.bind_eq_some_iff.1 h
  obtain ⟨⟨m, k5⟩, h5, h⟩ := Option.bind_eq_some_iff.1 h
  simp only [Option.some.injEq, Prod.mk.injEq] at h
  obtain ⟨rfl, rfl⟩ := h
  obtain ⟨p1, rfl⟩ := tx_back hB h1
  obtain ⟨p2, rfl⟩ := tx_back hB h2
  obtain ⟨p3, rfl⟩ := many_back (B := kcY) (Q := fun y => kcB y = true) hB (fun k nx x hq h => kc_back hB hq h) (fun y hy => b4 y hy) h3
  obtain ⟨p4, rfl⟩ := many_back (B := fdY) (Q := fun _ => True) hB (fun k nx x _ h => fd_back hB h) (fun _ _ => trivial) h4
  obtain ⟨p5, rfl⟩ := many_back (B := meY) (Q := fun _ => True) hB (fun k nx x _ h => me_back hB h) (fun _ _ => trivial) h5
  have e : clY0 ⟨n, s, p, f, m⟩ = pt n ++ (pt s ++ (rowY kcY p ++ (rowY fdY f ++ rowY meY m))) := by unfold clY0; simp only [List.append_assoc]
  rw [e]
  exact ⟨Pre.app.2 ⟨p1, Pre.app.2 ⟨p2, Pre.app.2 ⟨p3, Pre.app.2 ⟨p4, p5⟩⟩⟩⟩, by simp [Nat.add_assoc]⟩
/-- What ClassOf answers. -/
def clOf (zs : List Int) : Option Cl := (rCl zs 0).bind fun q => if q.2 = zs.length ∧ clB q.1 = true then some q.1 else none
theorem clOf_spec {zs : List Int} (hB : Byt zs) : clOf zs = (sCl zs 0).bind fun q => if zs ≠ [] ∧ clY q.1 = zs then some q.1 else none := by
  have fwd : ∀ x, clOf zs = some x → ((sCl zs 0).bind fun q => if zs ≠ [] ∧ clY q.1 = zs then some q.1 else none) = some x := by
    intro x h
    unfold clOf at h
    obtain ⟨⟨y, e⟩, h1, h⟩ := Option.bind_eq_some_iff.1 h
    simp only at h
    split at h
    · rename_i hc
      cases h
      obtain ⟨rfl, hb⟩ := hc
      obtain ⟨p1, p2⟩ := cl_back hB hb h1
      have ez : zs = clY0 x := p1.all (by omega)
      have hs := (cl_put hb p1).2
      rw [hs]
      have hy : clY x = zs := by unfold clY; rw [hb]; exact ez.symm
      have hne : zs ≠ [] := by
        intro h0
        unfold rCl rTx gtx at h1
        rw [h0] at h1
        simp [gn, gnF, gtOf] at h1
      simp [hy, hne]
    · cases h
  cases hc : clOf zs with
  | some x => exact (fwd x hc).symm
  | none =>
    cases hs : ((sCl zs 0).bind fun q => if zs ≠ [] ∧ clY q.1 = zs then some q.1 else none) with
    | none => rfl
    | some x =>
      obtain ⟨⟨y, e⟩, h1, h⟩ := Option.bind_eq_some_iff.1 hs
      simp only at h
      split at h
      · rename_i hh
        cases h
        obtain ⟨hne, hy⟩ := hh
        have hb : clB x = true := by
          cases hb : clB x with
          | true => rfl
          | false => exfalso; apply hne; rw [← hy]; unfold clY; rw [hb]; rfl
        have ey : clY0 x = zs := by rw [← hy]; unfold clY; rw [hb]; rfl
        have hp : Pre zs 0 (clY0 x) := ⟨[], by rw [ey]; simp⟩
        have hr := (cl_put hb hp).1
        unfold clOf at hc
        rw [hr] at hc
        simp [hb, ey] at hc
      · cases h
end Go.Proofs.YtpgmipbanpofaaaGreatDoor
