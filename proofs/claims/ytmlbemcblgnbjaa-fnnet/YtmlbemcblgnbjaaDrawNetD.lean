/-
  A drawn net and a drawn packet.
-/
import Derived.Test.YtmlbemcblgnbjaaDrawNetC
namespace Go.Proofs.Ytmlbemcblgnbjaa
open Go.RowKit

theorem results_cc {fn : Func} {p0 p1 : Tmp} {t0 t1 : TypeId} {v0 v1 : Value} {g0 g1 : Addr} (h : fn.results = #[.cell p0 t0, .cell p1 t1]) (tmps : Array Value) (P : Program) (w : World)
    (hg0 : tmps.getD p0 undef = .pointer (some g0)) (hg1 : tmps.getD p1 undef = .pointer (some g1)) (hl0 : (loadVar t0 g0).run P w = .ok v0 w) (hl1 : (loadVar t1 g1).run P w = .ok v1 w) :
    (results fn tmps).run P w = .ok (.tuple #[v0, v1]) w := by
  have h' : ((asAddr (tmps.getD p0 undef)).run P w).andThen (fun a w₁ => ((loadVar t0 a).run P w₁).andThen fun x w₂ => ((asAddr (tmps.getD p1 undef)).run P w₂).andThen (fun a w₃ => ((loadVar t1 a).run P w₃).andThen fun y w₄ => Result.ok (Value.tuple #[x, y]) w₄)) = Result.ok (Value.tuple #[v0, v1]) w := by
    rw [hg0, hg1]
    simp [asAddr, Result.andThen, hl0, hl1]
  simp only [results, h]
  simpa [Sem.run_bind, Result.andThen] using h'

/-- A net and a packet that were drawn. -/
def PoD (w : World) (e : Ending) (w' : World) : Prop := ∃ size v xs f t u zs, e = .returned (.tuple #[.agg #[.int .i64 size, v], .agg #[.int .i64 f, .int .i64 t, u, .bool false]]) ∧ OwnX w' w.heap.size w'.heap.size v xs ∧ Good (xs.map Prod.fst) ∧ xs.length ≤ 61 ∧ Own w' w.heap.size u zs ∧ Byt zs ∧ zs.length ≤ 1000 ∧ Below w.heap.size w w'

set_option maxRecDepth 100000 in
set_option maxHeartbeats 8000000 in
theorem drawPost (w : World) (a : Option Addr) (len cap : Nat) (zs : List Int) (hin : In w w.heap.size a len zs) :
    Calls Try.prog 5 #[.slice a len cap] w (PoD w) := by
  have b0 := ((Below.refl w.heap.size w).alloc (Nat.le_refl _) (.cells #[.int .i64 0, .slice none 0 0] 26)).alloc (by simp) (.cells #[.int .i64 0, .int .i64 0, .slice none 0 0, .bool false] 28)
  have HIN := hide (hin.at b0)
  have E := hide ((Below.heap_alloc (w.alloc (.cells #[.int .i64 0, .slice none 0 0] 26)) (.cells #[.int .i64 0, .int .i64 0, .slice none 0 0, .bool false] 28) w.heap.size (by simp)).trans (heap_alloc_new w (.cells #[.int .i64 0, .slice none 0 0] 26)))
  have R : Hid (((w.alloc (.cells #[.int .i64 0, .slice none 0 0] 26)).alloc (.cells #[.int .i64 0, .int .i64 0, .slice none 0 0, .bool false] 28)).heap[w.heap.size + 1]? = some (.cells #[.int .i64 0, .int .i64 0, .slice none 0 0, .bool false] 28 (0, 0))) := hide (by have := heap_alloc_new (w.alloc (.cells #[.int .i64 0, .slice none 0 0] 26)) (.cells #[.int .i64 0, .int .i64 0, .slice none 0 0, .bool false] 28); simp only [World.size_alloc] at this; exact this)
  have HB := hide b0
  have hs0 : w.heap.size + 1 < ((w.alloc (.cells #[.int .i64 0, .slice none 0 0] 26)).alloc (.cells #[.int .i64 0, .int .i64 0, .slice none 0 0, .bool false] 28)).heap.size := by simp
  clear b0 hin
  go_enter Try.func5, Try.ntmps5
  go_wp2_with fail
  generalize (w.alloc (.cells #[.int .i64 0, .slice none 0 0] 26)).alloc (.cells #[.int .i64 0, .int .i64 0, .slice none 0 0, .bool false] 28) = W at *
  refine (newDraw _ _ _ _ _ HIN.out).mono ?_
  rintro e w1 ⟨rfl, hc, b1⟩
  have HC : Hid (CurW w1 W.heap.size) := hide ⟨_, _, hc⟩
  have hs1 := hc.lt
  replace E := hide ((b1.block w.heap.size (by omega)).trans E.out)
  replace R := hide ((b1.block (w.heap.size + 1) (by omega)).trans R.out)
  replace HB := hide (HB.out.trans (b1.mono (by omega)))
  clear hc b1 HIN
  generalize W.heap.size = g at *
  go_wp2_with fail
  refine (drawN _ _ HC.out).mono ?_
  rintro e w2 ⟨size, v, xs, rfl, ho, hgo, hl, hc2, hg2⟩
  have hs2 := hg2.size
  have HV : Hid (NV w g w2.heap.size w1.heap.size size v xs (w2.alloc (.cells #[.int .i64 size, v] 26))) := hide (by
    have b := (Below.refl w2.heap.size w2).alloc (Nat.le_refl _) (.cells #[.int .i64 size, v] 26)
    have b2 := HB.out.grown hg2 (by omega) (fun k hk => by cases hk; omega)
    exact ⟨hc2.alloc _, heap_alloc_new w2 _, (Below.heap_alloc _ _ _ (by omega)).trans ((hg2.block w.heap.size (by omega) (fun e => by simp only [Option.some.injEq] at e; omega)).trans E.out), (ho.below b).up (by simp), b2.trans (b.mono b2.size), by omega, hs1, hs2⟩)
  replace R := hide ((Below.heap_alloc w2 (.cells #[.int .i64 size, v] 26) (w.heap.size + 1) (by omega)).trans ((hg2.block (w.heap.size + 1) (by omega) (fun e => by simp only [Option.some.injEq] at e; omega)).trans R.out))
  obtain ⟨a2, c2, rfl⟩ := ho.shape
  have HGO := hide hgo
  clear E HB HC ho hgo hc2 hg2
  go_wp2_with fail
  generalize w2.alloc _ = w3 at *
  generalize w2.heap.size = l at *
  have HD := hide (HV.out.below (Below.refl w3.heap.size w3).drew)
  have RD : Hid (w3.drew.heap[w.heap.size + 1]? = some (.cells #[.int .i64 0, .int .i64 0, .slice none 0 0, .bool false] 28 (0, 0))) := R
  have f0 := (box_of HD.out.box).1 0 _ rfl
  have f1 := (box_of HD.out.box).1 1 _ rfl
  go_upto_region 3 with fail
  go_region_law
    (first
      | (refine step_call rfl 22 _ _ rfl #[.pointer (some ⟨g, 0, none⟩), .int .i64 3] (by kernel_rfl) (belowW w3.drew g 3 (by omega) (by omega) HD.out.cur) ?_; rintro e y1 ⟨x1, rfl, _, _, hc, hg⟩; refine ⟨_, rfl, ?_⟩; have H1 := hide (HD.out.call hc hg); have R1 := hide ((hg.block (w.heap.size + 1) (Array.getElem?_eq_some_iff.1 RD.out).1 (fun e => by simp only [Option.some.injEq] at e; omega)).trans RD.out); clear hc hg; have g0 := (box_of H1.out.box).1 0 _ rfl; have g1 := (box_of H1.out.box).1 1 _ rfl)
      | (refine step_call rfl 22 _ _ rfl #[.pointer (some ⟨g, 0, none⟩), .int .i64 3] (by kernel_rfl) (belowW y1 g 3 (by omega) (by omega) H1.out.cur) ?_; rintro e y2 ⟨x2, rfl, _, _, hc, hg⟩; refine ⟨_, rfl, ?_⟩; have H2 := hide (H1.out.call hc hg); have R2 := hide ((hg.block (w.heap.size + 1) (Array.getElem?_eq_some_iff.1 R1.out).1 (fun e => by simp only [Option.some.injEq] at e; omega)).trans R1.out); clear hc hg; have h0 := (box_of H2.out.box).1 0 _ rfl; have h1 := (box_of H2.out.box).1 1 _ rfl)
      | (refine step_call rfl 23 _ _ rfl #[.pointer (some ⟨g, 0, none⟩)] (by kernel_rfl) (numsW y2 g H2.out.cur) ?_; rintro e y3 ⟨bz, cz, qs, rfl, oz, hz, lz, hc, hg⟩; refine ⟨_, rfl, ?_⟩; have H3 := hide (H2.out.call hc hg); have R3 := hide ((hg.block (w.heap.size + 1) (Array.getElem?_eq_some_iff.1 R2.out).1 (fun e => by simp only [Option.some.injEq] at e; omega)).trans R2.out); have HZ := hide oz; have HZb := hide hz; have s9 := (Array.getElem?_eq_some_iff.1 R2.out).1; clear hc hg oz hz; have m0 := (box_of H3.out.box).1 0 _ rfl; have m1 := (box_of H3.out.box).1 1 _ rfl; have r0 := (box_of H3.out.res).1 0 _ rfl; have r1 := (box_of H3.out.res).1 1 _ rfl; have z0 := (box_of H3.out.res).2; have t0 := (box_of R3.out).1 0 _ rfl; have t1 := (box_of R3.out).1 1 _ rfl; have t2 := (box_of R3.out).1 2 _ rfl; have t3 := (box_of R3.out).1 3 _ rfl; have t4 := (box_of R3.out).2; have HE := hide (res6 H3.out.res R3.out (by omega)))
      | fail)
  all_goals (
    go_wp2_with fail
    refine bodyPost_ret (v := .tuple #[.agg #[.int .i64 size, .slice a2 xs.length c2], .agg #[.int .i64 x1, .int .i64 x2, .slice (some ⟨bz, 0, none⟩) qs.length cz, .bool false]]) (results_cc Try.results5 _ _ _ rfl rfl (load2 (HE.out _ _ _ _ _ _).1) (load4 (HE.out _ _ _ _ _ _).2)) rfl ⟨_, _, xs, _, _, _, qs, rfl, ?_, HGO.out, hl, ?_, HZb.out, lz, below_set6 H3.out.bel (Nat.le_refl _) (by omega)⟩
    · refine ((H3.out.own.like (fun q hq => ?_)).mono (by omega)).up (by simp)
      have := (H3.out.own.at q hq).1
      exact heap_set6 (by omega) (by omega)
    · refine (own_like HZ.out (fun q hq => ?_) : Own _ y2.heap.size _ qs).mono (by omega)
      have := (HZ.out.lt q hq).1
      exact heap_set6 (by omega) (by omega))
end Go.Proofs.Ytmlbemcblgnbjaa
