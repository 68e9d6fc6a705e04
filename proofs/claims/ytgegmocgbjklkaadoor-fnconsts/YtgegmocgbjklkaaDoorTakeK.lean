/-
  What takePart and takeConst do: what begins at the place, and the place behind it; or a panic, where there is none.
-/
import Derived.Test.YtgegmocgbjklkaaDoorGetText
import Derived.Test.YtgegmocgbjklkaaDoorGetWord
import Derived.Test.YtgegmocgbjklkaaDoorConstB
namespace Go.Proofs.YtgegmocgbjklkaaDoor
open Go.RowKit Go.Maps

/-- The part that begins at place k. -/
def rPart (zs : List Int) (p : Int) (k : Nat) : Option ((Int × ByteArray) × Nat) :=
  bif p == 0 then (gw zs (k : Int)).map fun r => ((r.1, noS), r.2) else (gtOf zs (gn zs (k : Int))).map fun r => ((0, r.1), r.2)
/-- The parts from place j of a const on that begin at place k, put to those that there are. -/
def rP (zs : List Int) (kd : Int) : Nat → Nat → Nat → DataW Unit → Option (DataW Unit × Nat)
  | 0, _, k, D => some (D, k)
  | f + 1, j, k, D => bif refB kd j then (rPart zs j k).bind (fun r => rP zs kd f (j + 1) r.2 (D.put (.int .i64 j) (dPart r.1.1 r.1.2))) else rP zs kd f (j + 1) k D

def tookP (w : World) (p : Nat) (t : TypeId) (v : Value) (r : Option ((Int × ByteArray) × Nat)) (e : Ending) (w' : World) : Prop :=
  ((∃ n s nx, r = some ((n, s), nx) ∧ e = .returned (.agg #[.int .i64 n, .string s]) ∧ w'.heap[p]? = some (.cells #[.int .i64 ((nx : Nat) : Int)] 3 (0, 0))) ∨
   (r = none ∧ e = .panicked [{ v := .iface t v, recovered := false }])) ∧ w.grownBy w' (some p)

theorem loadP {w : World} {g : Nat} {x y : Value} (h : w.heap[g]? = some (.cells #[x, y] 46 (0, 0))) : (loadVar 46 ⟨g, 0, none⟩).run Tryd.prog w = .ok (.agg #[x, y]) w :=
  run_loadVar_row w g 46 46 #[x, y] (0, 0) _ h Tryd.underlying46 rfl (by kernel_rfl)
theorem putP {w : World} {g : Nat} {T : TypeId} {x y : Value} (h : w.heap[g]? = some (.cells #[x, y] T (0, 0))) (a b : Value) : ((w.setCell ⟨g, 0, none⟩ a).setCell ⟨g, 1, none⟩ b).heap[g]? = some (.cells #[a, b] T (0, 0)) := by
  have h1 := heap_setCell_same w g 0 _ T a h
  exact heap_setCell_same _ g 1 _ T b h1
theorem put4 {w : World} {g : Nat} {T : TypeId} {x y z u : Value} (h : w.heap[g]? = some (.cells #[x, y, z, u] T (0, 0))) (a b c d : Value) : ((((w.setCell ⟨g, 0, none⟩ a).setCell ⟨g, 1, none⟩ b).setCell ⟨g, 2, none⟩ c).setCell ⟨g, 3, none⟩ d).heap[g]? = some (.cells #[a, b, c, d] T (0, 0)) := by
  have h1 := heap_setCell_same w g 0 _ T a h
  have h2 := heap_setCell_same _ g 1 _ T b h1
  have h3 := heap_setCell_same _ g 2 _ T c h2
  exact heap_setCell_same _ g 3 _ T d h3
theorem grownSet {w w1 : World} {p l : Nat} (h : w.grownBy w1 (some p)) (hl : w.heap.size ≤ l) (o : Nat) (v : Value) : w.grownBy (w1.setCell ⟨l, o, none⟩ v) (some p) :=
  grown_step h (grown_set (g := l) (World.grownBy.refl w1 (some l)) o v) (fun k hk => by cases hk; exact .inr hl)
theorem placeSet {w : World} {p l o : Nat} {x : Obj} (h : w.heap[p]? = some x) (hl : p ≠ l) (v : Value) : (w.setCell ⟨l, o, none⟩ v).heap[p]? = some x := (heap_setCell_other w ⟨l, o, none⟩ p v hl).trans h

set_option maxRecDepth 100000 in
set_option maxHeartbeats 2000000 in
theorem takePart (w : World) (a : Option Addr) (len cap : Nat) (zs : List Int) (B p k0 j : Nat) (t : TypeId) (v : Value) (hin : In w B a len zs) (hcap : len ≤ cap) (hB : B ≤ p) (hp0 : 0 < p) (hE : Err w t v)
    (hp : w.heap[p]? = some (.cells #[.int .i64 (k0 : Int)] 3 (0, 0))) :
    Calls Tryd.prog 46 #[.slice a len cap, .pointer (some ⟨p, 0, none⟩), .int .i64 (j : Int)] w (tookP w p t v (rPart zs j k0)) := by
  have hpw : p < w.heap.size := (Array.getElem?_eq_some_iff.1 hp).1
  have bA := (Below.refl w.heap.size w).alloc (Nat.le_refl _) (.cells #[.int .i64 0, .string noS] 46)
  have hgA := World.grownBy_alloc w (.cells #[.int .i64 0, .string noS] 46) (some p)
  have E0 := hide (heap_alloc_new w (.cells #[.int .i64 0, .string noS] 46))
  have hin1 := hin.out hgA hB hpw
  have hE1 := hE.out hgA hp0
  have hp1 := (bA.block p hpw).trans hp
  have HG := hide hgA
  cases hj : ((j : Int) == 0) with
  | true =>
    have HT := hide (takeWord _ a len cap zs B p k0 t v hin1 hB hp0 hE1 hp1)
    have HR : Hid (rPart zs j k0 = (gw zs (k0 : Int)).map fun r => ((r.1, noS), r.2)) := hide (by simp [rPart, hj])
    clear hin hE hp bA hgA hin1 hE1 hp1
    go_enter Tryd.func46, Tryd.ntmps46
    go_wp2_with fail
    refine (unhide HT).mono ?_
    rintro e w1 ⟨h1, hg1⟩
    replace HG := hide (grown_step HG.out hg1 (fun k hk => by cases hk; exact .inl rfl))
    replace E0 := hide ((hg1.block w.heap.size (by simp) (by simp; omega)).trans E0.out)
    clear hg1 HT
    rcases h1 with ⟨n, nx, hr, rfl, hpl⟩ | ⟨hr, rfl⟩
    · have HP := hide hpl
      have X := box_of E0.out
      have c0 := X.1 0 _ rfl
      have c1 := X.1 1 _ rfl
      have z0 := X.2 0
      have z1 := X.2 1
      clear X hpl
      replace HR := hide (HR.out.trans (by rw [hr]))
      clear hr
      go_wp2
      exact bodyPost_ret (v := .agg #[.int .i64 n, .string noS]) (results_one Tryd.results46 _ _ _ rfl (loadP (putP E0.out _ _))) rfl ⟨.inl ⟨n, noS, nx, HR.out, rfl, placeSet (placeSet HP.out (by omega) _) (by omega) _⟩, grownSet (grownSet HG.out (Nat.le_refl _) _ _) (Nat.le_refl _) _ _⟩
    · replace HR := hide (HR.out.trans (by rw [hr]))
      clear hr
      go_wp2
      exact ⟨rfl, .inr ⟨HR.out, rfl⟩, HG.out⟩
  | false =>
    have hnum := takeNum _ a len cap zs B p k0 t v hin1 hB hp0 hE1 hp1
    rw [show gnF zs 4 k0 0 1 = gn zs (k0 : Int) from by simp [gn]] at hnum
    have HT := hide (takeText _ a len cap zs B p k0 t v (gn zs (k0 : Int)) hin1 hcap hB hp0 hE1 hp1 (fun n nx h => gn_bd hin h) hnum)
    have HR : Hid (rPart zs j k0 = (gtOf zs (gn zs (k0 : Int))).map fun r => ((0, r.1), r.2)) := hide (by simp [rPart, hj])
    clear hin hE hp bA hgA hin1 hE1 hp1 hnum
    go_enter Tryd.func46, Tryd.ntmps46
    go_wp2_with fail
    refine (unhide HT).mono ?_
    rintro e w1 ⟨h1, hg1⟩
    replace HG := hide (grown_step HG.out hg1 (fun k hk => by cases hk; exact .inl rfl))
    replace E0 := hide ((hg1.block w.heap.size (by simp) (by simp; omega)).trans E0.out)
    clear hg1 HT
    rcases h1 with ⟨s, nx, hr, rfl, hpl⟩ | ⟨hr, rfl⟩
    · have HP := hide hpl
      have X := box_of E0.out
      have c0 := X.1 0 _ rfl
      have c1 := X.1 1 _ rfl
      have z0 := X.2 0
      have z1 := X.2 1
      clear X hpl
      replace HR := hide (HR.out.trans (by rw [hr]))
      clear hr
      go_wp2
      exact bodyPost_ret (v := .agg #[.int .i64 0, .string s]) (results_one Tryd.results46 _ _ _ rfl (loadP (putP E0.out _ _))) rfl ⟨.inl ⟨0, s, nx, HR.out, rfl, placeSet (placeSet HP.out (by omega) _) (by omega) _⟩, grownSet (grownSet HG.out (Nat.le_refl _) _ _) (Nat.le_refl _) _ _⟩
    · replace HR := hide (HR.out.trans (by rw [hr]))
      clear hr
      go_wp2
      exact ⟨rfl, .inr ⟨HR.out, rfl⟩, HG.out⟩
end Go.Proofs.YtgegmocgbjklkaaDoor
