/-
  What readAt does with takeConst, and what ConstOf does in the program.
-/
import Derived.Test.YtgegmocgbjklkaaDoorTakeC6
import Derived.Test.YtgegmocgbjklkaaDoorReadAt
namespace Go.Proofs.YtgegmocgbjklkaaDoor
open Go.RowKit Go.Maps

set_option maxRecDepth 100000 in
set_option maxHeartbeats 4000000 in
theorem catchPanicK (g : Nat) (t : TypeId) (pv : Value) (older : List PanicEntry) (w : World) (x0 x1 x2 x3 : Value) (y : Int) (z : Bool) (hg : g + 1 + 1 < w.heap.size)
    (h0 : w.heap[g]? = some (.cells #[x0, x1, x2, x3] 25 (0, 0))) (h1 : w.heap[g + 1]? = some (.cells #[.int .i64 y] 3 (0, 0))) (h2 : w.heap[g + 1 + 1]? = some (.cells #[.bool z] 4 (0, 0))) :
    CallsD Tryd.prog 44 #[.pointer (some ⟨g, 0, none⟩), .pointer (some ⟨g + 1, 0, none⟩), .pointer (some ⟨g + 1 + 1, 0, none⟩)] (.panicking ({ v := .iface t pv, recovered := false } :: older)) w fun e u' w' =>
      e = .returned (.tuple #[]) ∧ u' = .panicking ({ v := .iface t pv, recovered := true } :: older) ∧ w' = ((((((w.alloc (.cells #[.int .i64 0, .int .i64 0, .string noS, .string noS] 25)).setCell ⟨g, 0, none⟩ (.int .i64 0)).setCell ⟨g, 1, none⟩ (.int .i64 0)).setCell ⟨g, 2, none⟩ (.string noS)).setCell ⟨g, 3, none⟩ (.string noS)).setCell ⟨g + 1, 0, none⟩ (.int .i64 0)).setCell ⟨g + 1 + 1, 0, none⟩ (.bool false) := by
  have X0 := box_of h0
  have X1 := box_of h1
  have X2 := box_of h2
  have HX0 := hide X0.1
  have c0 := HX0.out 0 _ rfl
  have c1 := HX0.out 1 _ rfl
  have c2 := HX0.out 2 _ rfl
  have c3 := HX0.out 3 _ rfl
  have d0 := X1.1 0 _ rfl
  have e0 := X2.1 0 _ rfl
  have z0 := X0.2
  have z1 := X1.2
  have z2 := X2.2
  have l0 : g < w.heap.size := by omega
  have l1 : g + 1 < w.heap.size := by omega
  clear X0 X1 X2 h0 h1 h2
  refine callsD_of_wpS Tryd.func44 rfl fun c₀ cs hu => ?_
  apply wpS_seq
  apply wpS_region
  simp [wpOpsS, go_sem, recoverD, hu, Tryd.ntmps44, Exit.thenS]
  refine wpS_cond (t := true) (by simp [Act.eval, Array.replicate]) ?_
  simp only [if_true]
  apply wpS_seq
  apply wpS_region
  simp [wpOpsS, go_sem, Exit.thenS]
  apply wpS_region
  simp [wpOpsS, go_sem, c0, c1, c2, c3, d0, e0, z0, z1, z2, l0, l1, hg, bodyPostS, results, Tryd.results44]

set_option maxRecDepth 100000 in
theorem catchIdleK (g : Nat) (w : World) :
    CallsD Tryd.prog 44 #[.pointer (some ⟨g, 0, none⟩), .pointer (some ⟨g + 1, 0, none⟩), .pointer (some ⟨g + 1 + 1, 0, none⟩)] .returning w fun e u' w' => e = .returned (.tuple #[]) ∧ u' = .returning ∧ w' = w := by
  refine callsD_of_wpS Tryd.func44 rfl fun c₀ cs hu => ?_
  apply wpS_seq
  apply wpS_region
  simp [wpOpsS, go_sem, recoverD, hu, Tryd.ntmps44, Exit.thenS]
  refine wpS_cond (t := false) (by simp [Act.eval, Array.replicate]) ?_
  simp only [Bool.false_eq_true, if_false]
  refine wpS_of_wp (wp_skip ?_)
  cases c₀
  simp_all [bodyPostS, results, Tryd.results44]

/-- The four new variables, behind a call that has turned none but the last one. -/
theorem four_newK {w w1 : World} {k : Int} (hg : ((((w.alloc (.cells #[.int .i64 0, .int .i64 0, .string noS, .string noS] 25)).alloc (.cells #[.int .i64 0] 3)).alloc (.cells #[.bool false] 4)).alloc (.cells #[.int .i64 k] 3)).grownBy w1 (some (w.heap.size + 1 + 1 + 1))) :
    w1.heap[w.heap.size]? = some (.cells #[.int .i64 0, .int .i64 0, .string noS, .string noS] 25 (0, 0)) ∧ w1.heap[w.heap.size + 1]? = some (.cells #[.int .i64 0] 3 (0, 0)) ∧ w1.heap[w.heap.size + 1 + 1]? = some (.cells #[.bool false] 4 (0, 0)) ∧ Below w.heap.size w w1 ∧ w.heap.size + 1 + 1 + 1 < w1.heap.size := by
  have hs : ((((w.alloc (.cells #[.int .i64 0, .int .i64 0, .string noS, .string noS] 25)).alloc (.cells #[.int .i64 0] 3)).alloc (.cells #[.bool false] 4)).alloc (.cells #[.int .i64 k] 3)).heap.size = w.heap.size + 4 := by simp
  have e0 := heap_alloc_new w (.cells #[.int .i64 0, .int .i64 0, .string noS, .string noS] 25)
  have e1 := heap_alloc_new (w.alloc (.cells #[.int .i64 0, .int .i64 0, .string noS, .string noS] 25)) (.cells #[.int .i64 0] 3)
  have e2 := heap_alloc_new ((w.alloc (.cells #[.int .i64 0, .int .i64 0, .string noS, .string noS] 25)).alloc (.cells #[.int .i64 0] 3)) (.cells #[.bool false] 4)
  have n1 : (w.alloc (.cells #[.int .i64 0, .int .i64 0, .string noS, .string noS] 25)).heap.size = w.heap.size + 1 := by simp
  have n2 : ((w.alloc (.cells #[.int .i64 0, .int .i64 0, .string noS, .string noS] 25)).alloc (.cells #[.int .i64 0] 3)).heap.size = w.heap.size + 1 + 1 := by simp
  have n3 : (((w.alloc (.cells #[.int .i64 0, .int .i64 0, .string noS, .string noS] 25)).alloc (.cells #[.int .i64 0] 3)).alloc (.cells #[.bool false] 4)).heap.size = w.heap.size + 1 + 1 + 1 := by simp
  rw [n1] at e1
  rw [n2] at e2
  have hsz := hg.size
  refine ⟨?_, ?_, ?_, ?_, by omega⟩
  · rw [hg.block _ (by omega) (by simp; omega), Below.heap_alloc _ _ _ (by omega), Below.heap_alloc _ _ _ (by omega), Below.heap_alloc _ _ _ (by omega), e0]
  · rw [hg.block _ (by omega) (by simp), Below.heap_alloc _ _ _ (by omega), Below.heap_alloc _ _ _ (by omega), e1]
  · rw [hg.block _ (by omega) (by simp), Below.heap_alloc _ _ _ (by omega), e2]
  · exact ((((Below.refl _ _).alloc (Nat.le_refl _) _).alloc (by simp) _).alloc (by simp; omega) _ |>.alloc (by simp; omega) _).grown hg (by simp; omega) (fun k hk => by cases hk; omega)

theorem results3 {fn : Func} {p0 p1 p2 : Tmp} {t0 t1 t2 : TypeId} {v0 v1 v2 : Value} {g0 g1 g2 : Addr} (h : fn.results = #[.cell p0 t0, .cell p1 t1, .cell p2 t2]) (tmps : Array Value) (P : Program) (w : World)
    (hg0 : tmps.getD p0 undef = .pointer (some g0)) (hg1 : tmps.getD p1 undef = .pointer (some g1)) (hg2 : tmps.getD p2 undef = .pointer (some g2))
    (hl0 : (loadVar t0 g0).run P w = .ok v0 w) (hl1 : (loadVar t1 g1).run P w = .ok v1 w) (hl2 : (loadVar t2 g2).run P w = .ok v2 w) :
    (results fn tmps).run P w = .ok (.tuple #[v0, v1, v2]) w := by
  have h' : ((asAddr (tmps.getD p0 undef)).run P w).andThen (fun a w₁ => ((loadVar t0 a).run P w₁).andThen fun x w₂ => ((asAddr (tmps.getD p1 undef)).run P w₂).andThen (fun a w₃ => ((loadVar t1 a).run P w₃).andThen fun y w₄ => ((asAddr (tmps.getD p2 undef)).run P w₄).andThen (fun a w₅ => ((loadVar t2 a).run P w₅).andThen fun z w₆ => Result.ok (Value.tuple #[x, y, z]) w₆))) = Result.ok (Value.tuple #[v0, v1, v2]) w := by
    rw [hg0, hg1, hg2]
    simp [asAddr, Result.andThen, hl0, hl1, hl2]
  simp only [results, h]
  simpa [Sem.run_bind, Result.andThen] using h'
theorem results_ctt {fn : Func} {p u x : Tmp} {ty : TypeId} {v : Value} {g : Addr} (h : fn.results = #[.cell p ty, .tmp u, .tmp x]) (tmps : Array Value) (P : Program) (w : World) (hg : tmps.getD p undef = .pointer (some g)) (hl : (loadVar ty g).run P w = .ok v w) :
    (results fn tmps).run P w = .ok (.tuple #[v, tmps.getD u undef, tmps.getD x undef]) w := by
  have h' : ((asAddr (tmps.getD p undef)).run P w).andThen (fun a w₁ => ((loadVar ty a).run P w₁).andThen fun y w₂ => Result.ok (Value.tuple #[y, tmps.getD u undef, tmps.getD x undef]) w₂) = Result.ok (Value.tuple #[v, tmps.getD u undef, tmps.getD x undef]) w := by
    rw [hg]
    simp [asAddr, Result.andThen, hl]
  simp only [results, h]
  simpa [Sem.run_bind, Result.andThen] using h'
theorem ldInt {w : World} {g : Nat} {x : Int} (h : w.heap[g]? = some (.cells #[.int .i64 x] 3 (0, 0))) : (loadVar 3 ⟨g, 0, none⟩).run Tryd.prog w = .ok (.int .i64 x) w := by
  have c := (box_of h).1 0 _ rfl
  simp [go_sem, c]
theorem ldBool {w : World} {g : Nat} {x : Bool} (h : w.heap[g]? = some (.cells #[.bool x] 4 (0, 0))) : (loadVar 4 ⟨g, 0, none⟩).run Tryd.prog w = .ok (.bool x) w := by
  have c := (box_of h).1 0 _ rfl
  simp [go_sem, c]
theorem loadKd {w : World} {g : Nat} {x y z u : Value} (h : w.heap[g]? = some (.cells #[x, y, z, u] 25 (0, 0))) : (loadVar 25 ⟨g, 0, none⟩).run Tryd.prog w.drew = .ok (.agg #[x, y, z, u]) w.drew := loadK (w := w.drew) h
theorem ldIntd {w : World} {g : Nat} {x : Int} (h : w.heap[g]? = some (.cells #[.int .i64 x] 3 (0, 0))) : (loadVar 3 ⟨g, 0, none⟩).run Tryd.prog w.drew = .ok (.int .i64 x) w.drew := ldInt (w := w.drew) h
theorem ldBoold {w : World} {g : Nat} {x : Bool} (h : w.heap[g]? = some (.cells #[.bool x] 4 (0, 0))) : (loadVar 4 ⟨g, 0, none⟩).run Tryd.prog w.drew = .ok (.bool x) w.drew := ldBool (w := w.drew) h
theorem put6 {w : World} {g : Nat} {a0 a1 a2 a3 y z : Value} (h0 : w.heap[g]? = some (.cells #[a0, a1, a2, a3] 25 (0, 0))) (h1 : w.heap[g + 1]? = some (.cells #[y] 3 (0, 0))) (h2 : w.heap[g + 1 + 1]? = some (.cells #[z] 4 (0, 0))) (b0 b1 b2 b3 y' z' : Value) :
    ((((((w.setCell ⟨g, 0, none⟩ b0).setCell ⟨g, 1, none⟩ b1).setCell ⟨g, 2, none⟩ b2).setCell ⟨g, 3, none⟩ b3).setCell ⟨g + 1, 0, none⟩ y').setCell ⟨g + 1 + 1, 0, none⟩ z').heap[g]? = some (.cells #[b0, b1, b2, b3] 25 (0, 0)) ∧
    ((((((w.setCell ⟨g, 0, none⟩ b0).setCell ⟨g, 1, none⟩ b1).setCell ⟨g, 2, none⟩ b2).setCell ⟨g, 3, none⟩ b3).setCell ⟨g + 1, 0, none⟩ y').setCell ⟨g + 1 + 1, 0, none⟩ z').heap[g + 1]? = some (.cells #[y'] 3 (0, 0)) ∧
    ((((((w.setCell ⟨g, 0, none⟩ b0).setCell ⟨g, 1, none⟩ b1).setCell ⟨g, 2, none⟩ b2).setCell ⟨g, 3, none⟩ b3).setCell ⟨g + 1, 0, none⟩ y').setCell ⟨g + 1 + 1, 0, none⟩ z').heap[g + 1 + 1]? = some (.cells #[z'] 4 (0, 0)) := by
  have p0 := put4 h0 b0 b1 b2 b3
  have oth : ∀ q, q ≠ g → ((((w.setCell ⟨g, 0, none⟩ b0).setCell ⟨g, 1, none⟩ b1).setCell ⟨g, 2, none⟩ b2).setCell ⟨g, 3, none⟩ b3).heap[q]? = w.heap[q]? := fun q hq => by
    rw [heap_setCell_other _ _ _ _ hq, heap_setCell_other _ _ _ _ hq, heap_setCell_other _ _ _ _ hq, heap_setCell_other _ _ _ _ hq]
  have p1 := (oth (g + 1) (by omega)).trans h1
  have p2 := (oth (g + 1 + 1) (by omega)).trans h2
  generalize (((w.setCell ⟨g, 0, none⟩ b0).setCell ⟨g, 1, none⟩ b1).setCell ⟨g, 2, none⟩ b2).setCell ⟨g, 3, none⟩ b3 = W at p0 p1 p2 ⊢
  refine ⟨?_, ?_, ?_⟩
  · rw [heap_setCell_other _ _ _ _ (by simp; omega), heap_setCell_other _ _ _ _ (by simp)]; exact p0
  · rw [heap_setCell_other _ _ _ _ (by simp)]; exact heap_setCell_same W (g + 1) 0 _ 3 y' p1
  · exact heap_setCell_same _ (g + 1 + 1) 0 _ 4 z' ((heap_setCell_other W ⟨g + 1, 0, none⟩ (g + 1 + 1) y' (by simp)).trans p2)
theorem below_put4 {B : Nat} {w0 w : World} (h : Below B w0 w) {g : Nat} (hg : B ≤ g) (b0 b1 b2 b3 : Value) :
    Below B w0 ((((w.setCell ⟨g, 0, none⟩ b0).setCell ⟨g, 1, none⟩ b1).setCell ⟨g, 2, none⟩ b2).setCell ⟨g, 3, none⟩ b3) :=
  (((h.setCell (p := ⟨g, 0, none⟩) hg b0).setCell (p := ⟨g, 1, none⟩) hg b1).setCell (p := ⟨g, 2, none⟩) hg b2).setCell (p := ⟨g, 3, none⟩) hg b3
theorem below_put6 {B : Nat} {w0 w : World} (h : Below B w0 w) {g : Nat} (hg : B ≤ g) (b0 b1 b2 b3 y' z' : Value) :
    Below B w0 ((((((w.setCell ⟨g, 0, none⟩ b0).setCell ⟨g, 1, none⟩ b1).setCell ⟨g, 2, none⟩ b2).setCell ⟨g, 3, none⟩ b3).setCell ⟨g + 1, 0, none⟩ y').setCell ⟨g + 1 + 1, 0, none⟩ z') :=
  ((below_put4 h hg b0 b1 b2 b3).setCell (p := ⟨g + 1, 0, none⟩) (by simp; omega) y').setCell (p := ⟨g + 1 + 1, 0, none⟩) (by simp; omega) z'

/-- No const. -/
def zeroK : Value := constV 0 0 noS noS
/-- What readAt answers. -/
def ansK (r : Option ((Int × Int × ByteArray × ByteArray) × Nat)) : Value :=
  match r with
  | some (c, nx) => .tuple #[cV c, .int .i64 (nx : Int), .bool true]
  | none => .tuple #[zeroK, .int .i64 0, .bool false]

set_option maxRecDepth 100000 in
set_option maxHeartbeats 8000000 in
theorem readConst (w : World) (a : Option Addr) (len cap : Nat) (k : Int) (t : TypeId) (v : Value) (r : Option ((Int × Int × ByteArray × ByteArray) × Nat))
    (hT : ∀ W : World, Below w.heap.size w W → W.heap[w.heap.size + 1 + 1 + 1]? = some (.cells #[.int .i64 k] 3 (0, 0)) →
      Calls Tryd.prog 30 #[.slice a len cap, .pointer (some ⟨w.heap.size + 1 + 1 + 1, 0, none⟩)] W (tookK W (w.heap.size + 1 + 1 + 1) t v r)) :
    Calls Tryd.prog 29 #[.slice a len cap, .int .i64 k, .func (.func 30) #[] #[]] w fun e w' => e = .returned (ansK r) ∧ Below w.heap.size w w' := by
  have hmf : ∀ (fn : Fn) (first cap : Array Value) (w : World), (Instr.makeFunc fn first cap).run Tryd.prog w = .ok (.func fn first cap) w := fun _ _ _ _ => rfl
  have HT := hide hT
  clear hT
  go_enter_defers Tryd.func29, Tryd.ntmps29
  go_wp2_with fail
  refine (unhide HT _ ((((Below.refl _ _).alloc (Nat.le_refl _) _).alloc (by simp) _).alloc (by simp; omega) _ |>.alloc (by simp; omega) _) (by
    have := heap_alloc_new (((w.alloc (.cells #[.int .i64 0, .int .i64 0, .string noS, .string noS] 25)).alloc (.cells #[.int .i64 0] 3)).alloc (.cells #[.bool false] 4)) (.cells #[.int .i64 k] 3)
    simpa using this)).mono ?_
  clear HT
  rintro e w1 ⟨hres, hg1⟩
  obtain ⟨g0, g1, g2, hb1, hs1⟩ := four_newK hg1
  have HB := hide hb1
  clear hg1 hb1
  have HE := hide (And.intro g0 (And.intro g1 g2))
  have HX0 := hide (box_of g0).1
  have z0 := (box_of g0).2
  have z1 := (box_of g1).2 0
  have z2 := (box_of g2).2 0
  have d0 := (box_of g1).1 0 _ rfl
  have e0 := (box_of g2).1 0 _ rfl
  have c0 := HX0.out 0 _ rfl
  have c1 := HX0.out 1 _ rfl
  have c2 := HX0.out 2 _ rfl
  have c3 := HX0.out 3 _ rfl
  clear g0 g1 g2 HX0
  rcases hres with ⟨⟨kd, n, sa, sb⟩, nx, rfl, rfl, hp1⟩ | ⟨rfl, rfl⟩
  · have c3' : w1.cell? ⟨w.heap.size + 1 + 1 + 1, 0, none⟩ = some (.int .i64 (nx : Int)) := by rw [cell_of_row _ _ 0 _ 3 (0, 0) hp1]; rfl
    clear hp1
    unfold cV constV
    simp only
    go_wp2
    go_region
    go_wp2
    refine leaves_cons (f := 44) (args := #[.pointer (some ⟨w.heap.size, 0, none⟩), .pointer (some ⟨w.heap.size + 1, 0, none⟩), .pointer (some ⟨w.heap.size + 1 + 1, 0, none⟩)]) (by simp) (by simp [go_sem]) ?_
    refine (catchIdleK _ _).mono ?_
    rintro e u' w'' ⟨rfl, rfl, rfl⟩
    have P4 := put4 HE.out.1 (.int .i64 kd) (.int .i64 n) (.string sa) (.string sb)
    have oth : ∀ q, q ≠ w.heap.size → ((((w1.setCell ⟨w.heap.size, 0, none⟩ (.int .i64 kd)).setCell ⟨w.heap.size, 1, none⟩ (.int .i64 n)).setCell ⟨w.heap.size, 2, none⟩ (.string sa)).setCell ⟨w.heap.size, 3, none⟩ (.string sb)).heap[q]? = w1.heap[q]? := fun q hq => by
      rw [heap_setCell_other _ _ _ _ hq, heap_setCell_other _ _ _ _ hq, heap_setCell_other _ _ _ _ hq, heap_setCell_other _ _ _ _ hq]
    have P6 := put6 P4 ((oth _ (by omega)).trans HE.out.2.1) ((oth _ (by omega)).trans HE.out.2.2) (.int .i64 kd) (.int .i64 n) (.string sa) (.string sb) (.int .i64 (nx : Int)) (.bool true)
    refine ⟨.tuple #[.agg #[.int .i64 kd, .int .i64 n, .string sa, .string sb], .int .i64 (nx : Int), .bool true], results3 Tryd.results29 _ _ _ rfl rfl rfl (loadKd P6.1) (ldIntd P6.2.1) (ldBoold P6.2.2), rfl, ?_⟩
    exact (below_put6 (below_put4 HB.out (Nat.le_refl _) _ _ _ _) (Nat.le_refl _) _ _ _ _ _ _).drew
  · go_wp2
    refine leaves_cons (f := 44) (args := #[.pointer (some ⟨w.heap.size, 0, none⟩), .pointer (some ⟨w.heap.size + 1, 0, none⟩), .pointer (some ⟨w.heap.size + 1 + 1, 0, none⟩)]) (by simp) (by simp [go_sem]) ?_
    refine (catchPanicK _ _ _ _ _ _ _ _ _ _ _ (by omega) HE.out.1 HE.out.2.1 HE.out.2.2).mono ?_
    rintro e u' w'' ⟨rfl, rfl, rfl⟩
    have hsz : w.heap.size + 1 + 1 < w1.heap.size := by omega
    have P6 := put6 ((Below.heap_alloc w1 (.cells #[.int .i64 0, .int .i64 0, .string noS, .string noS] 25) _ (by omega)).trans HE.out.1) ((Below.heap_alloc w1 _ _ (by omega)).trans HE.out.2.1) ((Below.heap_alloc w1 _ _ (by omega)).trans HE.out.2.2) (.int .i64 0) (.int .i64 0) (.string noS) (.string noS) (.int .i64 0) (.bool false)
    exact ⟨.tuple #[zeroK, .int .i64 0, .bool false], results3 Tryd.results29 _ _ _ rfl rfl rfl (loadK P6.1) (ldInt P6.2.1) (ldBool P6.2.2), rfl, below_put6 (HB.out.alloc HB.out.size _) (Nat.le_refl _) _ _ _ _ _ _⟩
end Go.Proofs.YtgegmocgbjklkaaDoor
