/-
  What GetText does, in the program and in its model: the text that begins at the place, the place behind it and true; nothing, 0 and false, where there is none.
-/
import Derived.Test.YtfomgkkiaklpfaaDoorTakeText
import Derived.Defers
import Derived.Recover
import Derived.Laws.Pointers
import Derived.RegionTactic
import Derived.ChangeAlike
namespace Go.Proofs.YtfomgkkiaklpfaaDoor
open Go.RowKit

theorem catchPanicT (g : Nat) (t : TypeId) (pv : Value) (older : List PanicEntry) (w : World) (x : ByteArray) (y : Int) (z : Bool)
    (hp : w.cell? ⟨g, 0, none⟩ = some (.string x)) (hq : w.cell? ⟨g + 1, 0, none⟩ = some (.int .i64 y)) (hr : w.cell? ⟨g + 1 + 1, 0, none⟩ = some (.bool z))
    (fp : w.frozen? ⟨g, 0, none⟩ = false) (fq : w.frozen? ⟨g + 1, 0, none⟩ = false) (fr : w.frozen? ⟨g + 1 + 1, 0, none⟩ = false) :
    CallsD Tryd.prog 50 #[.pointer (some ⟨g, 0, none⟩), .pointer (some ⟨g + 1, 0, none⟩), .pointer (some ⟨g + 1 + 1, 0, none⟩)] (.panicking ({ v := .iface t pv, recovered := false } :: older)) w fun e u' w' =>
      e = .returned (.tuple #[]) ∧ u' = .panicking ({ v := .iface t pv, recovered := true } :: older) ∧ w' = ((w.setCell ⟨g, 0, none⟩ (.string ⟨#[]⟩)).setCell ⟨g + 1, 0, none⟩ (.int .i64 0)).setCell ⟨g + 1 + 1, 0, none⟩ (.bool false) := by
  refine callsD_of_wpS Tryd.func50 rfl fun c₀ cs hu => ?_
  apply wpS_seq
  apply wpS_region
  simp [wpOpsS, go_sem, recoverD, hu, Tryd.ntmps50, Exit.thenS]
  refine wpS_cond (t := true) (by simp [Act.eval, Array.replicate]) ?_
  simp only [if_true]
  apply wpS_seq
  apply wpS_region
  simp [wpOpsS, go_sem, Exit.thenS]
  apply wpS_region
  simp [wpOpsS, go_sem, hp, hq, hr, fp, fq, fr, bodyPostS, results, Tryd.results50]

theorem catchIdleT (g : Nat) (w : World) :
    CallsD Tryd.prog 50 #[.pointer (some ⟨g, 0, none⟩), .pointer (some ⟨g + 1, 0, none⟩), .pointer (some ⟨g + 1 + 1, 0, none⟩)] .returning w fun e u' w' => e = .returned (.tuple #[]) ∧ u' = .returning ∧ w' = w := by
  refine callsD_of_wpS Tryd.func50 rfl fun c₀ cs hu => ?_
  apply wpS_seq
  apply wpS_region
  simp [wpOpsS, go_sem, recoverD, hu, Tryd.ntmps50, Exit.thenS]
  refine wpS_cond (t := false) (by simp [Act.eval, Array.replicate]) ?_
  simp only [Bool.false_eq_true, if_false]
  refine wpS_of_wp (wp_skip ?_)
  cases c₀
  simp_all [bodyPostS, results, Tryd.results50]


/-- What readAt answers of a text. -/
def ansT (r : Option (ByteArray × Nat)) : Value :=
  match r with
  | some (s, nx) => .tuple #[.string s, .int .i64 (nx : Int), .bool true]
  | none => .tuple #[.string ⟨#[]⟩, .int .i64 0, .bool false]

set_option maxHeartbeats 1000000 in
theorem readText (w : World) (a : Option Addr) (len cap : Nat) (k : Int) (t : TypeId) (v : Value) (r : Option (ByteArray × Nat))
    (hT : ∀ W : World, Below w.heap.size w W → W.heap[w.heap.size + 1 + 1 + 1]? = some (.cells #[.int .i64 k] 3 (0, 0)) →
      Calls Tryd.prog 41 #[.slice a len cap, .pointer (some ⟨w.heap.size + 1 + 1 + 1, 0, none⟩)] W (tookT W (w.heap.size + 1 + 1 + 1) t v r)) :
    Calls Tryd.prog 40 #[.slice a len cap, .int .i64 k, .func (.func 41) #[] #[]] w fun e w' => e = .returned (ansT r) ∧ Below w.heap.size w w' := by
  have hmf : ∀ (fn : Fn) (first cap : Array Value) (w : World), (Instr.makeFunc fn first cap).run Tryd.prog w = .ok (.func fn first cap) w := fun _ _ _ _ => rfl
  have HT := hide hT
  clear hT
  go_enter_defers Tryd.func40, Tryd.ntmps40
  go_wp2_with fail
  refine (unhide HT _ ((((Below.refl _ _).alloc (Nat.le_refl _) _).alloc (by simp) _).alloc (by simp; omega) _ |>.alloc (by simp; omega) _) (by
    have := heap_alloc_new (((w.alloc (.cells #[.string ⟨#[]⟩] 9)).alloc (.cells #[.int .i64 0] 3)).alloc (.cells #[.bool false] 4)) (.cells #[.int .i64 k] 3)
    simpa using this)).mono ?_
  clear HT
  rintro e w1 ⟨hres, hg1⟩
  obtain ⟨g0, g1, g2, hb1⟩ := four_new hg1
  have HB := hide hb1
  have hs1 : w.heap.size + 4 ≤ w1.heap.size := by have := hg1.size; simp at this; omega
  clear hg1 hb1
  have c0 : w1.cell? ⟨w.heap.size, 0, none⟩ = some (.string ⟨#[]⟩) := by rw [cell_of_row _ _ 0 _ 9 (0, 0) g0]; rfl
  have c1 : w1.cell? ⟨w.heap.size + 1, 0, none⟩ = some (.int .i64 0) := by rw [cell_of_row _ _ 0 _ 3 (0, 0) g1]; rfl
  have c2 : w1.cell? ⟨w.heap.size + 1 + 1, 0, none⟩ = some (.bool false) := by rw [cell_of_row _ _ 0 _ 4 (0, 0) g2]; rfl
  have f0 : w1.frozen? ⟨w.heap.size, 0, none⟩ = false := frozen_of_row _ _ 0 _ 9 g0
  have f1 : w1.frozen? ⟨w.heap.size + 1, 0, none⟩ = false := frozen_of_row _ _ 0 _ 3 g1
  have f2 : w1.frozen? ⟨w.heap.size + 1 + 1, 0, none⟩ = false := frozen_of_row _ _ 0 _ 4 g2
  clear g0 g1 g2
  rcases hres with ⟨n, nx, rfl, rfl, hp1⟩ | ⟨rfl, rfl⟩
  · have c3 : w1.cell? ⟨w.heap.size + 1 + 1 + 1, 0, none⟩ = some (.int .i64 (nx : Int)) := by rw [cell_of_row _ _ 0 _ 3 (0, 0) hp1]; rfl
    clear hp1
    go_wp2
    go_region
    go_wp2
    refine leaves_cons (f := 50) (args := #[.pointer (some ⟨w.heap.size, 0, none⟩), .pointer (some ⟨w.heap.size + 1, 0, none⟩), .pointer (some ⟨w.heap.size + 1 + 1, 0, none⟩)]) (by simp) (by simp [go_sem]) ?_
    refine (catchIdleT _ _).mono ?_
    rintro e u' w'' ⟨rfl, rfl, rfl⟩
    simp [Leaves, settle, results, Tryd.results40, go_sem, c0, c1, c2, ansT]
    exact ((((HB.out.setCell (Nat.le_refl _) _).setCell (Nat.le_refl _) _).setCell (Nat.le_succ _) _).setCell (Nat.le_add_right _ 2) _).drew
  · go_wp2
    refine leaves_cons (f := 50) (args := #[.pointer (some ⟨w.heap.size, 0, none⟩), .pointer (some ⟨w.heap.size + 1, 0, none⟩), .pointer (some ⟨w.heap.size + 1 + 1, 0, none⟩)]) (by simp) (by simp [go_sem]) ?_
    refine (catchPanicT _ _ _ _ _ _ _ _ c0 c1 c2 f0 f1 f2).mono ?_
    rintro e u' w'' ⟨rfl, rfl, rfl⟩
    simp [Leaves, settle, results, Tryd.results40, go_sem, c0, c1, c2, ansT]
    exact ((HB.out.setCell (Nat.le_refl _) _).setCell (Nat.le_succ _) _).setCell (Nat.le_add_right _ 2) _


theorem gn_bd {w : World} {B : Nat} {a : Option Addr} {len : Nat} {zs : List Int} {k n : Int} {nx : Nat} (hin : In w B a len zs) (h : gn zs k = some (n, nx)) : 0 ≤ n ∧ n ≤ 16777215 ∧ 0 < nx ∧ nx ≤ zs.length := by
  have hz : ∀ j, 0 ≤ zs.getD j 0 := fun j => by
    by_cases hj : j < len
    · exact (hin.2.2.1 j hj).1
    · have := hin.1
      simp [List.getD, List.getElem?_eq_none (show zs.length ≤ j by omega)]
  unfold gn at h
  split at h
  · have := gnF_bd zs hz 4 _ _ _ n nx (by omega) (by omega) h
    omega
  · cases h

set_option maxHeartbeats 400000 in
theorem getTextImpl (w : World) (a : Option Addr) (len cap : Nat) (zs : List Int) (k : Int) (t : TypeId) (v : Value) (h0 : 0 < w.heap.size) (hin : In w w.heap.size a len zs) (hcap : len ≤ cap) (hE : Err w t v) :
    Calls Tryd.prog 18 #[.slice a len cap, .int .i64 k] w fun e w' => e = .returned (ansT (gtOf zs (gn zs k))) ∧ Below w.heap.size w w' := by
  have hR : Calls Tryd.prog 40 #[.slice a len cap, .int .i64 k, .func (.func 41) #[] #[]] w fun e w' => e = .returned (ansT (gtOf zs (gn zs k))) ∧ Below w.heap.size w w' := by
    refine readText w a len cap k t v _ (fun W hb hp => ?_)
    have hin' := hin.low hb (Nat.le_refl _)
    refine takeText W a len cap zs w.heap.size _ k t v (gn zs k) hin' hcap (Nat.le_add_right _ 3) (by omega) (hE.low hb h0) hp (fun n nx h => gn_bd hin h) ?_
    by_cases hk : 0 ≤ k
    · obtain ⟨k0, rfl⟩ := Int.eq_ofNat_of_zero_le hk
      have e1 : gn zs (k0 : Int) = gnF zs 4 k0 0 1 := by simp [gn]
      rw [e1]
      exact takeNum W a len cap zs w.heap.size _ k0 t v hin' (Nat.le_add_right _ 3) (by omega) (hE.low hb h0) hp
    · have e1 : gn zs k = none := by simp [gn, hk]
      rw [e1]
      exact takeNumNeg W a len cap _ k t v (by omega) (hE.low hb h0) hp
  have HR := hide hR
  clear hR hin hE
  generalize gtOf zs (gn zs k) = r at *
  go_enter Tryd.func18, Tryd.ntmps18
  go_wp2_with fail
  refine (unhide HR).mono ?_
  rintro e w1 ⟨rfl, hb⟩
  have HB := hide hb
  clear hb
  cases r with
  | none =>
    unfold ansT
    go_wp2
    go_ret3
    exact ⟨rfl, HB.out⟩
  | some q =>
    obtain ⟨n, nx⟩ := q
    unfold ansT
    go_wp2
    go_ret3
    exact ⟨rfl, HB.out⟩


theorem ret_ansT {r : Option (ByteArray × Nat)} {s s' : ByteArray} {b : Int} {nx : Nat} (hr : r = some (s, nx)) (h1 : s' = s) (h2 : b = (nx : Int)) : Ending.returned (.tuple #[.string s', .int .i64 b, .bool true]) = .returned (ansT r) := by
  subst hr h1 h2; rfl

set_option maxHeartbeats 1000000 in
theorem getTextModel (w : World) (a : Option Addr) (len cap : Nat) (zs : List Int) (k : Int) (B : Nat) (hin : In w B a len zs) (hcap : len ≤ cap) :
    Calls Tryd.prog 21 #[.slice a len cap, .int .i64 k] w fun e w' => e = .returned (ansT (gtOf zs (gn zs k))) ∧ w' = w := by
  have hlen := hin.1
  have hl := hin.2.1
  have HM := hide (getNumModel w a len cap zs k B hin)
  cases hg : gn zs k with
  | none =>
    rw [hg] at HM
    clear hin
    go_enter Tryd.func21, Tryd.ntmps21
    go_wp2_with fail
    refine (unhide HM).mono ?_
    rintro e w1 ⟨rfl, rfl⟩
    unfold ans
    go_wp2
    go_ret3
    exact ⟨rfl, rfl⟩
  | some q =>
    obtain ⟨n, nx⟩ := q
    obtain ⟨hn0, hn1, hx0, hx1⟩ := gn_bd hin hg
    rw [hg] at HM
    clear hg
    obtain ⟨N, rfl⟩ := Int.eq_ofNat_of_zero_le hn0
    obtain ⟨b, o, rfl, hbB, hcell⟩ := hin.2.2.2 (by omega)
    rw [← hlen] at hcell
    by_cases h2 : (200 : Int) < (N : Int)
    · have HN : Hid (gtOf zs (some ((N : Int), nx)) = none) := gtOf_no _ _ _ (by omega)
      clear hin hcell
      go_enter Tryd.func21, Tryd.ntmps21
      go_wp2_with fail
      refine (unhide HM).mono ?_
      rintro e w1 ⟨rfl, rfl⟩
      unfold ans
      go_wp2
      go_ret3
      exact ⟨by rw [HN.out]; rfl, rfl⟩
    · by_cases h3 : nx + N ≤ len
      · have HN : Hid (gtOf zs (some ((N : Int), nx)) = some (strOfNums ((zs.drop nx).take N), nx + N)) := gtOf_yes _ _ _ (by omega)
        have hcv := run_convert_bytes_arg (P := Tryd.prog) w 22 5 Tryd.underlying22 Tryd.underlying5 b (o + nx) N (cap - nx) ((zs.drop nx).take N) (by simp; omega) (text_cells hcell (by omega)) 9 Tryd.underlying9
        have hcv0 := fun W : World => run_convert_bytes_arg (P := Tryd.prog) W 22 5 Tryd.underlying22 Tryd.underlying5 b o 0 0 [] rfl (fun i hi => by omega) 9 Tryd.underlying9
        clear hin hcell
        by_cases hcn : cap = nx
        · have hN0 : N = 0 := by omega
          subst hN0
          subst hcn
          have HN2 : Hid (gtOf zs (some (((0 : Nat) : Int), cap)) = some (strOfNums [], cap + 0)) := HN.out
          clear HN hcv
          generalize strOfNums [] = S at *
          go_enter Tryd.func21, Tryd.ntmps21
          go_wp2_with fail
          refine (unhide HM).mono ?_
          rintro e w1 ⟨rfl, rfl⟩
          unfold ans
          go_wp2
          go_ret3
          exact ⟨ret_ansT HN2.out rfl (by omega), rfl⟩
        · clear hcv0
          generalize strOfNums ((zs.drop nx).take N) = S at *
          go_enter Tryd.func21, Tryd.ntmps21
          go_wp2_with fail
          refine (unhide HM).mono ?_
          rintro e w1 ⟨rfl, rfl⟩
          unfold ans
          go_wp2
          go_ret3
          exact ⟨ret_ansT HN.out rfl (by omega), rfl⟩
      · have HN : Hid (gtOf zs (some ((N : Int), nx)) = none) := gtOf_no _ _ _ (by omega)
        clear hin hcell
        go_enter Tryd.func21, Tryd.ntmps21
        go_wp2_with fail
        refine (unhide HM).mono ?_
        rintro e w1 ⟨rfl, rfl⟩
        unfold ans
        go_wp2
        go_ret3
        exact ⟨by rw [HN.out]; rfl, rfl⟩

end Go.Proofs.YtfomgkkiaklpfaaDoor
