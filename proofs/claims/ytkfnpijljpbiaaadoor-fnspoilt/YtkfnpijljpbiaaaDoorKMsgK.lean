/-
  What MsgOk does, in the program.
-/
import Derived.Test.YtkfnpijljpbiaaaDoorKMsgL
namespace Go.Proofs.YtkfnpijljpbiaaaDoor
open Go.RowKit

theorem me1 (x : Value) (w : World) : (method 263 127 x "loop.example/g00283/impl.plain").run Tryd.prog w = .ok (108, x) w := by kernel_rfl
theorem me2 (x : Value) (w : World) : (method 263 129 x "loop.example/g00283/impl.plain").run Tryd.prog w = .ok (109, x) w := by kernel_rfl
theorem me3 (x : Value) (w : World) : (method 263 131 x "loop.example/g00283/impl.plain").run Tryd.prog w = .ok (110, x) w := by kernel_rfl
theorem me4 (x : Value) (w : World) : (method 263 133 x "loop.example/g00283/impl.plain").run Tryd.prog w = .ok (111, x) w := by kernel_rfl
theorem me5 (x : Value) (w : World) : (method 263 135 x "loop.example/g00283/impl.plain").run Tryd.prog w = .ok (112, x) w := by kernel_rfl
theorem me6 (x : Value) (w : World) : (method 263 137 x "loop.example/g00283/impl.plain").run Tryd.prog w = .ok (113, x) w := by kernel_rfl
theorem me7 (x : Value) (w : World) : (method 263 138 x "loop.example/g00283/impl.plain").run Tryd.prog w = .ok (114, x) w := by kernel_rfl
theorem me8 (x : Value) (w : World) : (method 263 139 x "loop.example/g00283/impl.plain").run Tryd.prog w = .ok (115, x) w := by kernel_rfl
theorem me9 (x : Value) (w : World) : (method 263 140 x "loop.example/g00283/impl.plain").run Tryd.prog w = .ok (116, x) w := by kernel_rfl
theorem me10 (x : Value) (w : World) : (method 263 141 x "loop.example/g00283/impl.plain").run Tryd.prog w = .ok (117, x) w := by kernel_rfl

/-- What is lost of a message by way of its kind: nothing. -/
def rOk (k u c n : Int) (l5 l6 : Nat) : Bool :=
  if k = 1 then lostB u c n 0 0 0 l5 l6 0 0
  else if k = 2 then lostB u c n 0 c n l5 l6 l5 0
  else if k = 3 then lostB u c n 0 0 0 l5 l6 l5 0
  else if k = 4 then lostB u c n 0 0 n l5 l6 0 0
  else if k = 5 then lostB u c n u 0 0 l5 l6 0 0
  else if k = 6 then lostB u c n u 0 0 l5 l6 0 l6
  else if k = 7 then lostB u c n u 0 0 l5 l6 0 l6
  else if k = 8 then lostB u c n u 0 0 l5 l6 0 l6
  else if k = 9 then lostB u c n u 0 0 l5 l6 0 0
  else if k = 10 then lostB u c n u 0 0 l5 l6 0 l6
  else false
/-- What MsgOk says, as the program goes. -/
def mOk (k i u c n : Int) (cs : List (Int × Bool × Int)) (ns : List (Int × Int)) : Bool := inB i 1 1000000 && pOk k u c n cs ns && rOk k u c n cs.length ns.length

set_option maxRecDepth 100000 in
set_option maxHeartbeats 4000000 in
theorem msgImpl1 (w : World) (i u c n : Int) (cv nv : Value) (cs : List (Int × Bool × Int)) (ns : List (Int × Int)) (hc : Rd w w.heap.size 3 cv cs.length (cs.flatMap cellC)) (hn : Rd w w.heap.size 2 nv ns.length (ns.flatMap noteC))
    (hmc : cs.length ≤ 1048576) (hmn : ns.length ≤ 1048576) :
    Calls Tryd.prog 55 #[msgV 1 i u c n cv nv] w fun e w' => e = .returned (.bool (mOk 1 i u c n cs ns)) ∧ Below w.heap.size w w' := by
  have HC := hide hc
  have HN := hide hn
  have HM : Hid (mOk 1 i u c n cs ns = (inB i 1 1000000 && pOk 1 u c n cs ns && rOk 1 u c n cs.length ns.length)) := hide rfl
  obtain ⟨a5, cap5, rfl, _⟩ := cells_at hc
  obtain ⟨a6, cap6, rfl, _⟩ := notes_at hn
  clear hc hn
  have HX := hide (Box.new w #[.int .i64 1, .int .i64 i, .int .i64 u, .int .i64 c, .int .i64 n, .slice a5 cs.length cap5, .slice a6 ns.length cap6] 39)
  have HB := hide ((Below.refl w.heap.size w).alloc (Nat.le_refl _) (.cells #[.int .i64 1, .int .i64 i, .int .i64 u, .int .i64 c, .int .i64 n, .slice a5 cs.length cap5, .slice a6 ns.length cap6] 39))
  have HO := hide (ownImpl (w.alloc (.cells #[.int .i64 1, .int .i64 i, .int .i64 u, .int .i64 c, .int .i64 n, .slice a5 cs.length cap5, .slice a6 ns.length cap6] 39)) 1 i u c n a5 a6 cs.length cap5 ns.length cap6)
  have eo : ownV 1 i u c n (Value.slice a5 cs.length cap5) (Value.slice a6 ns.length cap6) = .iface 127 (.agg #[.int .i64 i]) := rfl
  rw [eo] at HO
  unfold msgV at HO ⊢
  go_enter Tryd.func55, Tryd.ntmps55
  go_wp2_with fail
  refine (unhide HO).mono ?_
  rintro e w1 ⟨rfl, b1⟩
  replace HX := hide (HX.out.below (by simp) b1)
  replace HB := hide (HB.out.trans (b1.mono HB.out.size))
  clear b1 HO
  have hs1 := HB.out.size
  have q0 := fun m : Lo w1 => m.cell (HX.out 0 _ rfl)
  have q1 := fun m : Lo w1 => m.cell (HX.out 1 _ rfl)
  have q2 := fun m : Lo w1 => m.cell (HX.out 2 _ rfl)
  have q3 := fun m : Lo w1 => m.cell (HX.out 3 _ rfl)
  have q4 := fun m : Lo w1 => m.cell (HX.out 4 _ rfl)
  have q5 := fun m : Lo w1 => m.cell (HX.out 5 _ rfl)
  have q6 := fun m : Lo w1 => m.cell (HX.out 6 _ rfl)
  have ho := fun w => objImpl i w
  cases hi : inB i 1 1000000 with
  | false =>
    rw [hi] at HM ho
    have HO := hide ho
    clear ho
    go_wp2
    refine wp_region_low (by kernel_rfl) (by kernel_rfl) ?_
    repeat (go_big_quiet_step ((first | (go_at_call 74; exact low_same (HO.out _)))))
    refine wpQuiet_nil ?_
    rintro _ ⟨m, rfl⟩
    go_wp2
    go_ret
    exact ⟨by rw [HM.out]; rfl, HB.out.trans (m.b.mono hs1)⟩
  | true =>
    rw [hi] at HM ho
    have HO := hide ho
    clear ho
    have ha : ∀ m : Lo w1, Calls Tryd.prog 75 #[.iface 127 (.agg #[.int .i64 i])] m.v fun e w' => e = .returned (.bool (pOk 1 u c n cs ns)) ∧ Below m.v.heap.size m.v w' := fun m =>
      partsImpl m.v 1 i u c n _ _ cs ns ((HC.out.at HB.out).at m.b) ((HN.out.at HB.out).at m.b) hmc hmn
    cases hp : pOk 1 u c n cs ns with
    | false =>
      rw [hp] at HM ha
      have HA := hide ha
      clear ha
      go_wp2
      refine wp_region_low (by kernel_rfl) (by kernel_rfl) ?_
      repeat (go_big_quiet_step ((first | (go_at_call 74; exact low_same (HO.out _)) | (go_at_call 75; exact low_below (HA.out _)))))
      refine wpQuiet_nil ?_
      rintro _ ⟨m, rfl⟩
      go_wp2
      go_ret
      exact ⟨by rw [HM.out]; rfl, HB.out.trans (m.b.mono hs1)⟩
    | true =>
      rw [hp] at HM ha
      have HA := hide ha
      have hme := me1
      have HP : Hid (∀ m : Lo w1, _) := hide fun m => plain1 m.v i u c n a5 a6 cs.length cap5 ns.length cap6
      have HL : Hid (∀ m : Lo w1, _) := hide fun m => lostImpl m.v 1 i u c n 1 i 0 0 0 a5 a6 none none cs.length cap5 ns.length cap6 0 0 0 0
      have HR : Hid (rOk 1 u c n cs.length ns.length = lostB u c n 0 0 0 cs.length ns.length 0 0) := hide rfl
      unfold msgV at HP HL
      clear ha
      go_wp2
      refine wp_region_low (by kernel_rfl) (by kernel_rfl) ?_
      repeat (go_big_quiet_step ((first | (go_at_call 74; exact low_same (HO.out _)) | (go_at_call 75; exact low_below (HA.out _)) | (go_at_call 108; exact low_below (HP.out _)) | (go_at_call 76; exact low_below (HL.out _)))))
      refine wpQuiet_nil ?_
      rintro _ ⟨m, rfl⟩
      go_wp2
      go_ret
      exact ⟨by rw [HM.out, HR.out]; rfl, HB.out.trans (m.b.mono hs1)⟩

set_option maxRecDepth 100000 in
set_option maxHeartbeats 4000000 in
theorem msgImpl2 (w : World) (i u c n : Int) (cv nv : Value) (cs : List (Int × Bool × Int)) (ns : List (Int × Int)) (hc : Rd w w.heap.size 3 cv cs.length (cs.flatMap cellC)) (hn : Rd w w.heap.size 2 nv ns.length (ns.flatMap noteC))
    (hmc : cs.length ≤ 1048576) (hmn : ns.length ≤ 1048576) :
    Calls Tryd.prog 55 #[msgV 2 i u c n cv nv] w fun e w' => e = .returned (.bool (mOk 2 i u c n cs ns)) ∧ Below w.heap.size w w' := by
  have HC := hide hc
  have HN := hide hn
  have HM : Hid (mOk 2 i u c n cs ns = (inB i 1 1000000 && pOk 2 u c n cs ns && rOk 2 u c n cs.length ns.length)) := hide rfl
  obtain ⟨a5, cap5, rfl, _⟩ := cells_at hc
  obtain ⟨a6, cap6, rfl, _⟩ := notes_at hn
  clear hc hn
  have HX := hide (Box.new w #[.int .i64 2, .int .i64 i, .int .i64 u, .int .i64 c, .int .i64 n, .slice a5 cs.length cap5, .slice a6 ns.length cap6] 39)
  have HB := hide ((Below.refl w.heap.size w).alloc (Nat.le_refl _) (.cells #[.int .i64 2, .int .i64 i, .int .i64 u, .int .i64 c, .int .i64 n, .slice a5 cs.length cap5, .slice a6 ns.length cap6] 39))
  have HO := hide (ownImpl (w.alloc (.cells #[.int .i64 2, .int .i64 i, .int .i64 u, .int .i64 c, .int .i64 n, .slice a5 cs.length cap5, .slice a6 ns.length cap6] 39)) 2 i u c n a5 a6 cs.length cap5 ns.length cap6)
  have eo : ownV 2 i u c n (Value.slice a5 cs.length cap5) (Value.slice a6 ns.length cap6) = .iface 129 (.agg #[.int .i64 i, .int .i64 c, .int .i64 n, .slice a5 cs.length cap5]) := rfl
  rw [eo] at HO
  unfold msgV at HO ⊢
  go_enter Tryd.func55, Tryd.ntmps55
  go_wp2_with fail
  refine (unhide HO).mono ?_
  rintro e w1 ⟨rfl, b1⟩
  replace HX := hide (HX.out.below (by simp) b1)
  replace HB := hide (HB.out.trans (b1.mono HB.out.size))
  clear b1 HO
  have hs1 := HB.out.size
  have q0 := fun m : Lo w1 => m.cell (HX.out 0 _ rfl)
  have q1 := fun m : Lo w1 => m.cell (HX.out 1 _ rfl)
  have q2 := fun m : Lo w1 => m.cell (HX.out 2 _ rfl)
  have q3 := fun m : Lo w1 => m.cell (HX.out 3 _ rfl)
  have q4 := fun m : Lo w1 => m.cell (HX.out 4 _ rfl)
  have q5 := fun m : Lo w1 => m.cell (HX.out 5 _ rfl)
  have q6 := fun m : Lo w1 => m.cell (HX.out 6 _ rfl)
  have ho := fun w => objImpl i w
  cases hi : inB i 1 1000000 with
  | false =>
    rw [hi] at HM ho
    have HO := hide ho
    clear ho
    go_wp2
    refine wp_region_low (by kernel_rfl) (by kernel_rfl) ?_
    repeat (go_big_quiet_step ((first | (go_at_call 74; exact low_same (HO.out _)))))
    refine wpQuiet_nil ?_
    rintro _ ⟨m, rfl⟩
    go_wp2
    go_ret
    exact ⟨by rw [HM.out]; rfl, HB.out.trans (m.b.mono hs1)⟩
  | true =>
    rw [hi] at HM ho
    have HO := hide ho
    clear ho
    have ha : ∀ m : Lo w1, Calls Tryd.prog 75 #[.iface 129 (.agg #[.int .i64 i, .int .i64 c, .int .i64 n, .slice a5 cs.length cap5])] m.v fun e w' => e = .returned (.bool (pOk 2 u c n cs ns)) ∧ Below m.v.heap.size m.v w' := fun m =>
      partsImpl m.v 2 i u c n _ _ cs ns ((HC.out.at HB.out).at m.b) ((HN.out.at HB.out).at m.b) hmc hmn
    cases hp : pOk 2 u c n cs ns with
    | false =>
      rw [hp] at HM ha
      have HA := hide ha
      clear ha
      go_wp2
      refine wp_region_low (by kernel_rfl) (by kernel_rfl) ?_
      repeat (go_big_quiet_step ((first | (go_at_call 74; exact low_same (HO.out _)) | (go_at_call 75; exact low_below (HA.out _)))))
      refine wpQuiet_nil ?_
      rintro _ ⟨m, rfl⟩
      go_wp2
      go_ret
      exact ⟨by rw [HM.out]; rfl, HB.out.trans (m.b.mono hs1)⟩
    | true =>
      rw [hp] at HM ha
      have HA := hide ha
      have hme := me2
      have HP : Hid (∀ m : Lo w1, _) := hide fun m => plain2 m.v i u c n a5 a6 cs.length cap5 ns.length cap6
      have HL : Hid (∀ m : Lo w1, _) := hide fun m => lostImpl m.v 2 i u c n 2 i 0 c n a5 a6 a5 none cs.length cap5 ns.length cap6 cs.length cap5 0 0
      have HR : Hid (rOk 2 u c n cs.length ns.length = lostB u c n 0 c n cs.length ns.length cs.length 0) := hide rfl
      unfold msgV at HP HL
      clear ha
      go_wp2
      refine wp_region_low (by kernel_rfl) (by kernel_rfl) ?_
      repeat (go_big_quiet_step ((first | (go_at_call 74; exact low_same (HO.out _)) | (go_at_call 75; exact low_below (HA.out _)) | (go_at_call 109; exact low_below (HP.out _)) | (go_at_call 76; exact low_below (HL.out _)))))
      refine wpQuiet_nil ?_
      rintro _ ⟨m, rfl⟩
      go_wp2
      go_ret
      exact ⟨by rw [HM.out, HR.out]; rfl, HB.out.trans (m.b.mono hs1)⟩

set_option maxRecDepth 100000 in
set_option maxHeartbeats 4000000 in
theorem msgImpl3 (w : World) (i u c n : Int) (cv nv : Value) (cs : List (Int × Bool × Int)) (ns : List (Int × Int)) (hc : Rd w w.heap.size 3 cv cs.length (cs.flatMap cellC)) (hn : Rd w w.heap.size 2 nv ns.length (ns.flatMap noteC))
    (hmc : cs.length ≤ 1048576) (hmn : ns.length ≤ 1048576) :
    Calls Tryd.prog 55 #[msgV 3 i u c n cv nv] w fun e w' => e = .returned (.bool (mOk 3 i u c n cs ns)) ∧ Below w.heap.size w w' := by
  have HC := hide hc
  have HN := hide hn
  have HM : Hid (mOk 3 i u c n cs ns = (inB i 1 1000000 && pOk 3 u c n cs ns && rOk 3 u c n cs.length ns.length)) := hide rfl
  obtain ⟨a5, cap5, rfl, _⟩ := cells_at hc
  obtain ⟨a6, cap6, rfl, _⟩ := notes_at hn
  clear hc hn
  have HX := hide (Box.new w #[.int .i64 3, .int .i64 i, .int .i64 u, .int .i64 c, .int .i64 n, .slice a5 cs.length cap5, .slice a6 ns.length cap6] 39)
  have HB := hide ((Below.refl w.heap.size w).alloc (Nat.le_refl _) (.cells #[.int .i64 3, .int .i64 i, .int .i64 u, .int .i64 c, .int .i64 n, .slice a5 cs.length cap5, .slice a6 ns.length cap6] 39))
  have HO := hide (ownImpl (w.alloc (.cells #[.int .i64 3, .int .i64 i, .int .i64 u, .int .i64 c, .int .i64 n, .slice a5 cs.length cap5, .slice a6 ns.length cap6] 39)) 3 i u c n a5 a6 cs.length cap5 ns.length cap6)
  have eo : ownV 3 i u c n (Value.slice a5 cs.length cap5) (Value.slice a6 ns.length cap6) = .iface 131 (.agg #[.int .i64 i, .slice a5 cs.length cap5]) := rfl
  rw [eo] at HO
  unfold msgV at HO ⊢
  go_enter Tryd.func55, Tryd.ntmps55
  go_wp2_with fail
  refine (unhide HO).mono ?_
  rintro e w1 ⟨rfl, b1⟩
  replace HX := hide (HX.out.below (by simp) b1)
  replace HB := hide (HB.out.trans (b1.mono HB.out.size))
  clear b1 HO
  have hs1 := HB.out.size
  have q0 := fun m : Lo w1 => m.cell (HX.out 0 _ rfl)
  have q1 := fun m : Lo w1 => m.cell (HX.out 1 _ rfl)
  have q2 := fun m : Lo w1 => m.cell (HX.out 2 _ rfl)
  have q3 := fun m : Lo w1 => m.cell (HX.out 3 _ rfl)
  have q4 := fun m : Lo w1 => m.cell (HX.out 4 _ rfl)
  have q5 := fun m : Lo w1 => m.cell (HX.out 5 _ rfl)
  have q6 := fun m : Lo w1 => m.cell (HX.out 6 _ rfl)
  have ho := fun w => objImpl i w
  cases hi : inB i 1 1000000 with
  | false =>
    rw [hi] at HM ho
    have HO := hide ho
    clear ho
    go_wp2
    refine wp_region_low (by kernel_rfl) (by kernel_rfl) ?_
    repeat (go_big_quiet_step ((first | (go_at_call 74; exact low_same (HO.out _)))))
    refine wpQuiet_nil ?_
    rintro _ ⟨m, rfl⟩
    go_wp2
    go_ret
    exact ⟨by rw [HM.out]; rfl, HB.out.trans (m.b.mono hs1)⟩
  | true =>
    rw [hi] at HM ho
    have HO := hide ho
    clear ho
    have ha : ∀ m : Lo w1, Calls Tryd.prog 75 #[.iface 131 (.agg #[.int .i64 i, .slice a5 cs.length cap5])] m.v fun e w' => e = .returned (.bool (pOk 3 u c n cs ns)) ∧ Below m.v.heap.size m.v w' := fun m =>
      partsImpl m.v 3 i u c n _ _ cs ns ((HC.out.at HB.out).at m.b) ((HN.out.at HB.out).at m.b) hmc hmn
    cases hp : pOk 3 u c n cs ns with
    | false =>
      rw [hp] at HM ha
      have HA := hide ha
      clear ha
      go_wp2
      refine wp_region_low (by kernel_rfl) (by kernel_rfl) ?_
      repeat (go_big_quiet_step ((first | (go_at_call 74; exact low_same (HO.out _)) | (go_at_call 75; exact low_below (HA.out _)))))
      refine wpQuiet_nil ?_
      rintro _ ⟨m, rfl⟩
      go_wp2
      go_ret
      exact ⟨by rw [HM.out]; rfl, HB.out.trans (m.b.mono hs1)⟩
    | true =>
      rw [hp] at HM ha
      have HA := hide ha
      have hme := me3
      have HP : Hid (∀ m : Lo w1, _) := hide fun m => plain3 m.v i u c n a5 a6 cs.length cap5 ns.length cap6
      have HL : Hid (∀ m : Lo w1, _) := hide fun m => lostImpl m.v 3 i u c n 3 i 0 0 0 a5 a6 a5 none cs.length cap5 ns.length cap6 cs.length cap5 0 0
      have HR : Hid (rOk 3 u c n cs.length ns.length = lostB u c n 0 0 0 cs.length ns.length cs.length 0) := hide rfl
      unfold msgV at HP HL
      clear ha
      go_wp2
      refine wp_region_low (by kernel_rfl) (by kernel_rfl) ?_
      repeat (go_big_quiet_step ((first | (go_at_call 74; exact low_same (HO.out _)) | (go_at_call 75; exact low_below (HA.out _)) | (go_at_call 110; exact low_below (HP.out _)) | (go_at_call 76; exact low_below (HL.out _)))))
      refine wpQuiet_nil ?_
      rintro _ ⟨m, rfl⟩
      go_wp2
      go_ret
      exact ⟨by rw [HM.out, HR.out]; rfl, HB.out.trans (m.b.mono hs1)⟩

set_option maxRecDepth 100000 in
set_option maxHeartbeats 4000000 in
theorem msgImpl4 (w : World) (i u c n : Int) (cv nv : Value) (cs : List (Int × Bool × Int)) (ns : List (Int × Int)) (hc : Rd w w.heap.size 3 cv cs.length (cs.flatMap cellC)) (hn : Rd w w.heap.size 2 nv ns.length (ns.flatMap noteC))
    (hmc : cs.length ≤ 1048576) (hmn : ns.length ≤ 1048576) :
    Calls Tryd.prog 55 #[msgV 4 i u c n cv nv] w fun e w' => e = .returned (.bool (mOk 4 i u c n cs ns)) ∧ Below w.heap.size w w' := by
  have HC := hide hc
  have HN := hide hn
  have HM : Hid (mOk 4 i u c n cs ns = (inB i 1 1000000 && pOk 4 u c n cs ns && rOk 4 u c n cs.length ns.length)) := hide rfl
  obtain ⟨a5, cap5, rfl, _⟩ := cells_at hc
  obtain ⟨a6, cap6, rfl, _⟩ := notes_at hn
  clear hc hn
  have HX := hide (Box.new w #[.int .i64 4, .int .i64 i, .int .i64 u, .int .i64 c, .int .i64 n, .slice a5 cs.length cap5, .slice a6 ns.length cap6] 39)
  have HB := hide ((Below.refl w.heap.size w).alloc (Nat.le_refl _) (.cells #[.int .i64 4, .int .i64 i, .int .i64 u, .int .i64 c, .int .i64 n, .slice a5 cs.length cap5, .slice a6 ns.length cap6] 39))
  have HO := hide (ownImpl (w.alloc (.cells #[.int .i64 4, .int .i64 i, .int .i64 u, .int .i64 c, .int .i64 n, .slice a5 cs.length cap5, .slice a6 ns.length cap6] 39)) 4 i u c n a5 a6 cs.length cap5 ns.length cap6)
  have eo : ownV 4 i u c n (Value.slice a5 cs.length cap5) (Value.slice a6 ns.length cap6) = .iface 133 (.agg #[.int .i64 i, .int .i64 n]) := rfl
  rw [eo] at HO
  unfold msgV at HO ⊢
  go_enter Tryd.func55, Tryd.ntmps55
  go_wp2_with fail
  refine (unhide HO).mono ?_
  rintro e w1 ⟨rfl, b1⟩
  replace HX := hide (HX.out.below (by simp) b1)
  replace HB := hide (HB.out.trans (b1.mono HB.out.size))
  clear b1 HO
  have hs1 := HB.out.size
  have q0 := fun m : Lo w1 => m.cell (HX.out 0 _ rfl)
  have q1 := fun m : Lo w1 => m.cell (HX.out 1 _ rfl)
  have q2 := fun m : Lo w1 => m.cell (HX.out 2 _ rfl)
  have q3 := fun m : Lo w1 => m.cell (HX.out 3 _ rfl)
  have q4 := fun m : Lo w1 => m.cell (HX.out 4 _ rfl)
  have q5 := fun m : Lo w1 => m.cell (HX.out 5 _ rfl)
  have q6 := fun m : Lo w1 => m.cell (HX.out 6 _ rfl)
  have ho := fun w => objImpl i w
  cases hi : inB i 1 1000000 with
  | false =>
    rw [hi] at HM ho
    have HO := hide ho
    clear ho
    go_wp2
    refine wp_region_low (by kernel_rfl) (by kernel_rfl) ?_
    repeat (go_big_quiet_step ((first | (go_at_call 74; exact low_same (HO.out _)))))
    refine wpQuiet_nil ?_
    rintro _ ⟨m, rfl⟩
    go_wp2
    go_ret
    exact ⟨by rw [HM.out]; rfl, HB.out.trans (m.b.mono hs1)⟩
  | true =>
    rw [hi] at HM ho
    have HO := hide ho
    clear ho
    have ha : ∀ m : Lo w1, Calls Tryd.prog 75 #[.iface 133 (.agg #[.int .i64 i, .int .i64 n])] m.v fun e w' => e = .returned (.bool (pOk 4 u c n cs ns)) ∧ Below m.v.heap.size m.v w' := fun m =>
      partsImpl m.v 4 i u c n _ _ cs ns ((HC.out.at HB.out).at m.b) ((HN.out.at HB.out).at m.b) hmc hmn
    cases hp : pOk 4 u c n cs ns with
    | false =>
      rw [hp] at HM ha
      have HA := hide ha
      clear ha
      go_wp2
      refine wp_region_low (by kernel_rfl) (by kernel_rfl) ?_
      repeat (go_big_quiet_step ((first | (go_at_call 74; exact low_same (HO.out _)) | (go_at_call 75; exact low_below (HA.out _)))))
      refine wpQuiet_nil ?_
      rintro _ ⟨m, rfl⟩
      go_wp2
      go_ret
      exact ⟨by rw [HM.out]; rfl, HB.out.trans (m.b.mono hs1)⟩
    | true =>
      rw [hp] at HM ha
      have HA := hide ha
      have hme := me4
      have HP : Hid (∀ m : Lo w1, _) := hide fun m => plain4 m.v i u c n a5 a6 cs.length cap5 ns.length cap6
      have HL : Hid (∀ m : Lo w1, _) := hide fun m => lostImpl m.v 4 i u c n 4 i 0 0 n a5 a6 none none cs.length cap5 ns.length cap6 0 0 0 0
      have HR : Hid (rOk 4 u c n cs.length ns.length = lostB u c n 0 0 n cs.length ns.length 0 0) := hide rfl
      unfold msgV at HP HL
      clear ha
      go_wp2
      refine wp_region_low (by kernel_rfl) (by kernel_rfl) ?_
      repeat (go_big_quiet_step ((first | (go_at_call 74; exact low_same (HO.out _)) | (go_at_call 75; exact low_below (HA.out _)) | (go_at_call 111; exact low_below (HP.out _)) | (go_at_call 76; exact low_below (HL.out _)))))
      refine wpQuiet_nil ?_
      rintro _ ⟨m, rfl⟩
      go_wp2
      go_ret
      exact ⟨by rw [HM.out, HR.out]; rfl, HB.out.trans (m.b.mono hs1)⟩

set_option maxRecDepth 100000 in
set_option maxHeartbeats 4000000 in
theorem msgImpl5 (w : World) (i u c n : Int) (cv nv : Value) (cs : List (Int × Bool × Int)) (ns : List (Int × Int)) (hc : Rd w w.heap.size 3 cv cs.length (cs.flatMap cellC)) (hn : Rd w w.heap.size 2 nv ns.length (ns.flatMap noteC))
    (hmc : cs.length ≤ 1048576) (hmn : ns.length ≤ 1048576) :
    Calls Tryd.prog 55 #[msgV 5 i u c n cv nv] w fun e w' => e = .returned (.bool (mOk 5 i u c n cs ns)) ∧ Below w.heap.size w w' := by
  have HC := hide hc
  have HN := hide hn
  have HM : Hid (mOk 5 i u c n cs ns = (inB i 1 1000000 && pOk 5 u c n cs ns && rOk 5 u c n cs.length ns.length)) := hide rfl
  obtain ⟨a5, cap5, rfl, _⟩ := cells_at hc
  obtain ⟨a6, cap6, rfl, _⟩ := notes_at hn
  clear hc hn
  have HX := hide (Box.new w #[.int .i64 5, .int .i64 i, .int .i64 u, .int .i64 c, .int .i64 n, .slice a5 cs.length cap5, .slice a6 ns.length cap6] 39)
  have HB := hide ((Below.refl w.heap.size w).alloc (Nat.le_refl _) (.cells #[.int .i64 5, .int .i64 i, .int .i64 u, .int .i64 c, .int .i64 n, .slice a5 cs.length cap5, .slice a6 ns.length cap6] 39))
  have HO := hide (ownImpl (w.alloc (.cells #[.int .i64 5, .int .i64 i, .int .i64 u, .int .i64 c, .int .i64 n, .slice a5 cs.length cap5, .slice a6 ns.length cap6] 39)) 5 i u c n a5 a6 cs.length cap5 ns.length cap6)
  have eo : ownV 5 i u c n (Value.slice a5 cs.length cap5) (Value.slice a6 ns.length cap6) = .iface 135 (.agg #[.int .i64 i, .int .i64 u]) := rfl
  rw [eo] at HO
  unfold msgV at HO ⊢
  go_enter Tryd.func55, Tryd.ntmps55
  go_wp2_with fail
  refine (unhide HO).mono ?_
  rintro e w1 ⟨rfl, b1⟩
  replace HX := hide (HX.out.below (by simp) b1)
  replace HB := hide (HB.out.trans (b1.mono HB.out.size))
  clear b1 HO
  have hs1 := HB.out.size
  have q0 := fun m : Lo w1 => m.cell (HX.out 0 _ rfl)
  have q1 := fun m : Lo w1 => m.cell (HX.out 1 _ rfl)
  have q2 := fun m : Lo w1 => m.cell (HX.out 2 _ rfl)
  have q3 := fun m : Lo w1 => m.cell (HX.out 3 _ rfl)
  have q4 := fun m : Lo w1 => m.cell (HX.out 4 _ rfl)
  have q5 := fun m : Lo w1 => m.cell (HX.out 5 _ rfl)
  have q6 := fun m : Lo w1 => m.cell (HX.out 6 _ rfl)
  have ho := fun w => objImpl i w
  cases hi : inB i 1 1000000 with
  | false =>
    rw [hi] at HM ho
    have HO := hide ho
    clear ho
    go_wp2
    refine wp_region_low (by kernel_rfl) (by kernel_rfl) ?_
    repeat (go_big_quiet_step ((first | (go_at_call 74; exact low_same (HO.out _)))))
    refine wpQuiet_nil ?_
    rintro _ ⟨m, rfl⟩
    go_wp2
    go_ret
    exact ⟨by rw [HM.out]; rfl, HB.out.trans (m.b.mono hs1)⟩
  | true =>
    rw [hi] at HM ho
    have HO := hide ho
    clear ho
    have ha : ∀ m : Lo w1, Calls Tryd.prog 75 #[.iface 135 (.agg #[.int .i64 i, .int .i64 u])] m.v fun e w' => e = .returned (.bool (pOk 5 u c n cs ns)) ∧ Below m.v.heap.size m.v w' := fun m =>
      partsImpl m.v 5 i u c n _ _ cs ns ((HC.out.at HB.out).at m.b) ((HN.out.at HB.out).at m.b) hmc hmn
    cases hp : pOk 5 u c n cs ns with
    | false =>
      rw [hp] at HM ha
      have HA := hide ha
      clear ha
      go_wp2
      refine wp_region_low (by kernel_rfl) (by kernel_rfl) ?_
      repeat (go_big_quiet_step ((first | (go_at_call 74; exact low_same (HO.out _)) | (go_at_call 75; exact low_below (HA.out _)))))
      refine wpQuiet_nil ?_
      rintro _ ⟨m, rfl⟩
      go_wp2
      go_ret
      exact ⟨by rw [HM.out]; rfl, HB.out.trans (m.b.mono hs1)⟩
    | true =>
      rw [hp] at HM ha
      have HA := hide ha
      have hme := me5
      have HP : Hid (∀ m : Lo w1, _) := hide fun m => plain5 m.v i u c n a5 a6 cs.length cap5 ns.length cap6
      have HL : Hid (∀ m : Lo w1, _) := hide fun m => lostImpl m.v 5 i u c n 5 i u 0 0 a5 a6 none none cs.length cap5 ns.length cap6 0 0 0 0
      have HR : Hid (rOk 5 u c n cs.length ns.length = lostB u c n u 0 0 cs.length ns.length 0 0) := hide rfl
      unfold msgV at HP HL
      clear ha
      go_wp2
      refine wp_region_low (by kernel_rfl) (by kernel_rfl) ?_
      repeat (go_big_quiet_step ((first | (go_at_call 74; exact low_same (HO.out _)) | (go_at_call 75; exact low_below (HA.out _)) | (go_at_call 112; exact low_below (HP.out _)) | (go_at_call 76; exact low_below (HL.out _)))))
      refine wpQuiet_nil ?_
      rintro _ ⟨m, rfl⟩
      go_wp2
      go_ret
      exact ⟨by rw [HM.out, HR.out]; rfl, HB.out.trans (m.b.mono hs1)⟩

set_option maxRecDepth 100000 in
set_option maxHeartbeats 4000000 in
theorem msgImpl6 (w : World) (i u c n : Int) (cv nv : Value) (cs : List (Int × Bool × Int)) (ns : List (Int × Int)) (hc : Rd w w.heap.size 3 cv cs.length (cs.flatMap cellC)) (hn : Rd w w.heap.size 2 nv ns.length (ns.flatMap noteC))
    (hmc : cs.length ≤ 1048576) (hmn : ns.length ≤ 1048576) :
    Calls Tryd.prog 55 #[msgV 6 i u c n cv nv] w fun e w' => e = .returned (.bool (mOk 6 i u c n cs ns)) ∧ Below w.heap.size w w' := by
  have HC := hide hc
  have HN := hide hn
  have HM : Hid (mOk 6 i u c n cs ns = (inB i 1 1000000 && pOk 6 u c n cs ns && rOk 6 u c n cs.length ns.length)) := hide rfl
  obtain ⟨a5, cap5, rfl, _⟩ := cells_at hc
  obtain ⟨a6, cap6, rfl, _⟩ := notes_at hn
  clear hc hn
  have HX := hide (Box.new w #[.int .i64 6, .int .i64 i, .int .i64 u, .int .i64 c, .int .i64 n, .slice a5 cs.length cap5, .slice a6 ns.length cap6] 39)
  have HB := hide ((Below.refl w.heap.size w).alloc (Nat.le_refl _) (.cells #[.int .i64 6, .int .i64 i, .int .i64 u, .int .i64 c, .int .i64 n, .slice a5 cs.length cap5, .slice a6 ns.length cap6] 39))
  have HO := hide (ownImpl (w.alloc (.cells #[.int .i64 6, .int .i64 i, .int .i64 u, .int .i64 c, .int .i64 n, .slice a5 cs.length cap5, .slice a6 ns.length cap6] 39)) 6 i u c n a5 a6 cs.length cap5 ns.length cap6)
  have eo : ownV 6 i u c n (Value.slice a5 cs.length cap5) (Value.slice a6 ns.length cap6) = .iface 137 (.agg #[.int .i64 i, .int .i64 u, .slice a6 ns.length cap6]) := rfl
  rw [eo] at HO
  unfold msgV at HO ⊢
  go_enter Tryd.func55, Tryd.ntmps55
  go_wp2_with fail
  refine (unhide HO).mono ?_
  rintro e w1 ⟨rfl, b1⟩
  replace HX := hide (HX.out.below (by simp) b1)
  replace HB := hide (HB.out.trans (b1.mono HB.out.size))
  clear b1 HO
  have hs1 := HB.out.size
  have q0 := fun m : Lo w1 => m.cell (HX.out 0 _ rfl)
  have q1 := fun m : Lo w1 => m.cell (HX.out 1 _ rfl)
  have q2 := fun m : Lo w1 => m.cell (HX.out 2 _ rfl)
  have q3 := fun m : Lo w1 => m.cell (HX.out 3 _ rfl)
  have q4 := fun m : Lo w1 => m.cell (HX.out 4 _ rfl)
  have q5 := fun m : Lo w1 => m.cell (HX.out 5 _ rfl)
  have q6 := fun m : Lo w1 => m.cell (HX.out 6 _ rfl)
  have ho := fun w => objImpl i w
  cases hi : inB i 1 1000000 with
  | false =>
    rw [hi] at HM ho
    have HO := hide ho
    clear ho
    go_wp2
    refine wp_region_low (by kernel_rfl) (by kernel_rfl) ?_
    repeat (go_big_quiet_step ((first | (go_at_call 74; exact low_same (HO.out _)))))
    refine wpQuiet_nil ?_
    rintro _ ⟨m, rfl⟩
    go_wp2
    go_ret
    exact ⟨by rw [HM.out]; rfl, HB.out.trans (m.b.mono hs1)⟩
  | true =>
    rw [hi] at HM ho
    have HO := hide ho
    clear ho
    have ha : ∀ m : Lo w1, Calls Tryd.prog 75 #[.iface 137 (.agg #[.int .i64 i, .int .i64 u, .slice a6 ns.length cap6])] m.v fun e w' => e = .returned (.bool (pOk 6 u c n cs ns)) ∧ Below m.v.heap.size m.v w' := fun m =>
      partsImpl m.v 6 i u c n _ _ cs ns ((HC.out.at HB.out).at m.b) ((HN.out.at HB.out).at m.b) hmc hmn
    cases hp : pOk 6 u c n cs ns with
    | false =>
      rw [hp] at HM ha
      have HA := hide ha
      clear ha
      go_wp2
      refine wp_region_low (by kernel_rfl) (by kernel_rfl) ?_
      repeat (go_big_quiet_step ((first | (go_at_call 74; exact low_same (HO.out _)) | (go_at_call 75; exact low_below (HA.out _)))))
      refine wpQuiet_nil ?_
      rintro _ ⟨m, rfl⟩
      go_wp2
      go_ret
      exact ⟨by rw [HM.out]; rfl, HB.out.trans (m.b.mono hs1)⟩
    | true =>
      rw [hp] at HM ha
      have HA := hide ha
      have hme := me6
      have HP : Hid (∀ m : Lo w1, _) := hide fun m => plain6 m.v i u c n a5 a6 cs.length cap5 ns.length cap6
      have HL : Hid (∀ m : Lo w1, _) := hide fun m => lostImpl m.v 6 i u c n 6 i u 0 0 a5 a6 none a6 cs.length cap5 ns.length cap6 0 0 ns.length cap6
      have HR : Hid (rOk 6 u c n cs.length ns.length = lostB u c n u 0 0 cs.length ns.length 0 ns.length) := hide rfl
      unfold msgV at HP HL
      clear ha
      go_wp2
      refine wp_region_low (by kernel_rfl) (by kernel_rfl) ?_
      repeat (go_big_quiet_step ((first | (go_at_call 74; exact low_same (HO.out _)) | (go_at_call 75; exact low_below (HA.out _)) | (go_at_call 113; exact low_below (HP.out _)) | (go_at_call 76; exact low_below (HL.out _)))))
      refine wpQuiet_nil ?_
      rintro _ ⟨m, rfl⟩
      go_wp2
      go_ret
      exact ⟨by rw [HM.out, HR.out]; rfl, HB.out.trans (m.b.mono hs1)⟩

set_option maxRecDepth 100000 in
set_option maxHeartbeats 4000000 in
theorem msgImpl7 (w : World) (i u c n : Int) (cv nv : Value) (cs : List (Int × Bool × Int)) (ns : List (Int × Int)) (hc : Rd w w.heap.size 3 cv cs.length (cs.flatMap cellC)) (hn : Rd w w.heap.size 2 nv ns.length (ns.flatMap noteC))
    (hmc : cs.length ≤ 1048576) (hmn : ns.length ≤ 1048576) :
    Calls Tryd.prog 55 #[msgV 7 i u c n cv nv] w fun e w' => e = .returned (.bool (mOk 7 i u c n cs ns)) ∧ Below w.heap.size w w' := by
  have HC := hide hc
  have HN := hide hn
  have HM : Hid (mOk 7 i u c n cs ns = (inB i 1 1000000 && pOk 7 u c n cs ns && rOk 7 u c n cs.length ns.length)) := hide rfl
  obtain ⟨a5, cap5, rfl, _⟩ := cells_at hc
  obtain ⟨a6, cap6, rfl, _⟩ := notes_at hn
  clear hc hn
  have HX := hide (Box.new w #[.int .i64 7, .int .i64 i, .int .i64 u, .int .i64 c, .int .i64 n, .slice a5 cs.length cap5, .slice a6 ns.length cap6] 39)
  have HB := hide ((Below.refl w.heap.size w).alloc (Nat.le_refl _) (.cells #[.int .i64 7, .int .i64 i, .int .i64 u, .int .i64 c, .int .i64 n, .slice a5 cs.length cap5, .slice a6 ns.length cap6] 39))
  have HO := hide (ownImpl (w.alloc (.cells #[.int .i64 7, .int .i64 i, .int .i64 u, .int .i64 c, .int .i64 n, .slice a5 cs.length cap5, .slice a6 ns.length cap6] 39)) 7 i u c n a5 a6 cs.length cap5 ns.length cap6)
  have eo : ownV 7 i u c n (Value.slice a5 cs.length cap5) (Value.slice a6 ns.length cap6) = .iface 138 (.agg #[.int .i64 i, .int .i64 u, .slice a6 ns.length cap6]) := rfl
  rw [eo] at HO
  unfold msgV at HO ⊢
  go_enter Tryd.func55, Tryd.ntmps55
  go_wp2_with fail
  refine (unhide HO).mono ?_
  rintro e w1 ⟨rfl, b1⟩
  replace HX := hide (HX.out.below (by simp) b1)
  replace HB := hide (HB.out.trans (b1.mono HB.out.size))
  clear b1 HO
  have hs1 := HB.out.size
  have q0 := fun m : Lo w1 => m.cell (HX.out 0 _ rfl)
  have q1 := fun m : Lo w1 => m.cell (HX.out 1 _ rfl)
  have q2 := fun m : Lo w1 => m.cell (HX.out 2 _ rfl)
  have q3 := fun m : Lo w1 => m.cell (HX.out 3 _ rfl)
  have q4 := fun m : Lo w1 => m.cell (HX.out 4 _ rfl)
  have q5 := fun m : Lo w1 => m.cell (HX.out 5 _ rfl)
  have q6 := fun m : Lo w1 => m.cell (HX.out 6 _ rfl)
  have ho := fun w => objImpl i w
  cases hi : inB i 1 1000000 with
  | false =>
    rw [hi] at HM ho
    have HO := hide ho
    clear ho
    go_wp2
    refine wp_region_low (by kernel_rfl) (by kernel_rfl) ?_
    repeat (go_big_quiet_step ((first | (go_at_call 74; exact low_same (HO.out _)))))
    refine wpQuiet_nil ?_
    rintro _ ⟨m, rfl⟩
    go_wp2
    go_ret
    exact ⟨by rw [HM.out]; rfl, HB.out.trans (m.b.mono hs1)⟩
  | true =>
    rw [hi] at HM ho
    have HO := hide ho
    clear ho
    have ha : ∀ m : Lo w1, Calls Tryd.prog 75 #[.iface 138 (.agg #[.int .i64 i, .int .i64 u, .slice a6 ns.length cap6])] m.v fun e w' => e = .returned (.bool (pOk 7 u c n cs ns)) ∧ Below m.v.heap.size m.v w' := fun m =>
      partsImpl m.v 7 i u c n _ _ cs ns ((HC.out.at HB.out).at m.b) ((HN.out.at HB.out).at m.b) hmc hmn
    cases hp : pOk 7 u c n cs ns with
    | false =>
      rw [hp] at HM ha
      have HA := hide ha
      clear ha
      go_wp2
      refine wp_region_low (by kernel_rfl) (by kernel_rfl) ?_
      repeat (go_big_quiet_step ((first | (go_at_call 74; exact low_same (HO.out _)) | (go_at_call 75; exact low_below (HA.out _)))))
      refine wpQuiet_nil ?_
      rintro _ ⟨m, rfl⟩
      go_wp2
      go_ret
      exact ⟨by rw [HM.out]; rfl, HB.out.trans (m.b.mono hs1)⟩
    | true =>
      rw [hp] at HM ha
      have HA := hide ha
      have hme := me7
      have HP : Hid (∀ m : Lo w1, _) := hide fun m => plain7 m.v i u c n a5 a6 cs.length cap5 ns.length cap6
      have HL : Hid (∀ m : Lo w1, _) := hide fun m => lostImpl m.v 7 i u c n 7 i u 0 0 a5 a6 none a6 cs.length cap5 ns.length cap6 0 0 ns.length cap6
      have HR : Hid (rOk 7 u c n cs.length ns.length = lostB u c n u 0 0 cs.length ns.length 0 ns.length) := hide rfl
      unfold msgV at HP HL
      clear ha
      go_wp2
      refine wp_region_low (by kernel_rfl) (by kernel_rfl) ?_
      repeat (go_big_quiet_step ((first | (go_at_call 74; exact low_same (HO.out _)) | (go_at_call 75; exact low_below (HA.out _)) | (go_at_call 114; exact low_below (HP.out _)) | (go_at_call 76; exact low_below (HL.out _)))))
      refine wpQuiet_nil ?_
      rintro _ ⟨m, rfl⟩
      go_wp2
      go_ret
      exact ⟨by rw [HM.out, HR.out]; rfl, HB.out.trans (m.b.mono hs1)⟩

set_option maxRecDepth 100000 in
set_option maxHeartbeats 4000000 in
theorem msgImpl8 (w : World) (i u c n : Int) (cv nv : Value) (cs : List (Int × Bool × Int)) (ns : List (Int × Int)) (hc : Rd w w.heap.size 3 cv cs.length (cs.flatMap cellC)) (hn : Rd w w.heap.size 2 nv ns.length (ns.flatMap noteC))
    (hmc : cs.length ≤ 1048576) (hmn : ns.length ≤ 1048576) :
    Calls Tryd.prog 55 #[msgV 8 i u c n cv nv] w fun e w' => e = .returned (.bool (mOk 8 i u c n cs ns)) ∧ Below w.heap.size w w' := by
  have HC := hide hc
  have HN := hide hn
  have HM : Hid (mOk 8 i u c n cs ns = (inB i 1 1000000 && pOk 8 u c n cs ns && rOk 8 u c n cs.length ns.length)) := hide rfl
  obtain ⟨a5, cap5, rfl, _⟩ := cells_at hc
  obtain ⟨a6, cap6, rfl, _⟩ := notes_at hn
  clear hc hn
  have HX := hide (Box.new w #[.int .i64 8, .int .i64 i, .int .i64 u, .int .i64 c, .int .i64 n, .slice a5 cs.length cap5, .slice a6 ns.length cap6] 39)
  have HB := hide ((Below.refl w.heap.size w).alloc (Nat.le_refl _) (.cells #[.int .i64 8, .int .i64 i, .int .i64 u, .int .i64 c, .int .i64 n, .slice a5 cs.length cap5, .slice a6 ns.length cap6] 39))
  have HO := hide (ownImpl (w.alloc (.cells #[.int .i64 8, .int .i64 i, .int .i64 u, .int .i64 c, .int .i64 n, .slice a5 cs.length cap5, .slice a6 ns.length cap6] 39)) 8 i u c n a5 a6 cs.length cap5 ns.length cap6)
  have eo : ownV 8 i u c n (Value.slice a5 cs.length cap5) (Value.slice a6 ns.length cap6) = .iface 139 (.agg #[.int .i64 i, .int .i64 u, .slice a6 ns.length cap6]) := rfl
  rw [eo] at HO
  unfold msgV at HO ⊢
  go_enter Tryd.func55, Tryd.ntmps55
  go_wp2_with fail
  refine (unhide HO).mono ?_
  rintro e w1 ⟨rfl, b1⟩
  replace HX := hide (HX.out.below (by simp) b1)
  replace HB := hide (HB.out.trans (b1.mono HB.out.size))
  clear b1 HO
  have hs1 := HB.out.size
  have q0 := fun m : Lo w1 => m.cell (HX.out 0 _ rfl)
  have q1 := fun m : Lo w1 => m.cell (HX.out 1 _ rfl)
  have q2 := fun m : Lo w1 => m.cell (HX.out 2 _ rfl)
  have q3 := fun m : Lo w1 => m.cell (HX.out 3 _ rfl)
  have q4 := fun m : Lo w1 => m.cell (HX.out 4 _ rfl)
  have q5 := fun m : Lo w1 => m.cell (HX.out 5 _ rfl)
  have q6 := fun m : Lo w1 => m.cell (HX.out 6 _ rfl)
  have ho := fun w => objImpl i w
  cases hi : inB i 1 1000000 with
  | false =>
    rw [hi] at HM ho
    have HO := hide ho
    clear ho
    go_wp2
    refine wp_region_low (by kernel_rfl) (by kernel_rfl) ?_
    repeat (go_big_quiet_step ((first | (go_at_call 74; exact low_same (HO.out _)))))
    refine wpQuiet_nil ?_
    rintro _ ⟨m, rfl⟩
    go_wp2
    go_ret
    exact ⟨by rw [HM.out]; rfl, HB.out.trans (m.b.mono hs1)⟩
  | true =>
    rw [hi] at HM ho
    have HO := hide ho
    clear ho
    have ha : ∀ m : Lo w1, Calls Tryd.prog 75 #[.iface 139 (.agg #[.int .i64 i, .int .i64 u, .slice a6 ns.length cap6])] m.v fun e w' => e = .returned (.bool (pOk 8 u c n cs ns)) ∧ Below m.v.heap.size m.v w' := fun m =>
      partsImpl m.v 8 i u c n _ _ cs ns ((HC.out.at HB.out).at m.b) ((HN.out.at HB.out).at m.b) hmc hmn
    cases hp : pOk 8 u c n cs ns with
    | false =>
      rw [hp] at HM ha
      have HA := hide ha
      clear ha
      go_wp2
      refine wp_region_low (by kernel_rfl) (by kernel_rfl) ?_
      repeat (go_big_quiet_step ((first | (go_at_call 74; exact low_same (HO.out _)) | (go_at_call 75; exact low_below (HA.out _)))))
      refine wpQuiet_nil ?_
      rintro _ ⟨m, rfl⟩
      go_wp2
      go_ret
      exact ⟨by rw [HM.out]; rfl, HB.out.trans (m.b.mono hs1)⟩
    | true =>
      rw [hp] at HM ha
      have HA := hide ha
      have hme := me8
      have HP : Hid (∀ m : Lo w1, _) := hide fun m => plain8 m.v i u c n a5 a6 cs.length cap5 ns.length cap6
      have HL : Hid (∀ m : Lo w1, _) := hide fun m => lostImpl m.v 8 i u c n 8 i u 0 0 a5 a6 none a6 cs.length cap5 ns.length cap6 0 0 ns.length cap6
      have HR : Hid (rOk 8 u c n cs.length ns.length = lostB u c n u 0 0 cs.length ns.length 0 ns.length) := hide rfl
      unfold msgV at HP HL
      clear ha
      go_wp2
      refine wp_region_low (by kernel_rfl) (by kernel_rfl) ?_
      repeat (go_big_quiet_step ((first | (go_at_call 74; exact low_same (HO.out _)) | (go_at_call 75; exact low_below (HA.out _)) | (go_at_call 115; exact low_below (HP.out _)) | (go_at_call 76; exact low_below (HL.out _)))))
      refine wpQuiet_nil ?_
      rintro _ ⟨m, rfl⟩
      go_wp2
      go_ret
      exact ⟨by rw [HM.out, HR.out]; rfl, HB.out.trans (m.b.mono hs1)⟩

set_option maxRecDepth 100000 in
set_option maxHeartbeats 4000000 in
theorem msgImpl9 (w : World) (i u c n : Int) (cv nv : Value) (cs : List (Int × Bool × Int)) (ns : List (Int × Int)) (hc : Rd w w.heap.size 3 cv cs.length (cs.flatMap cellC)) (hn : Rd w w.heap.size 2 nv ns.length (ns.flatMap noteC))
    (hmc : cs.length ≤ 1048576) (hmn : ns.length ≤ 1048576) :
    Calls Tryd.prog 55 #[msgV 9 i u c n cv nv] w fun e w' => e = .returned (.bool (mOk 9 i u c n cs ns)) ∧ Below w.heap.size w w' := by
  have HC := hide hc
  have HN := hide hn
  have HM : Hid (mOk 9 i u c n cs ns = (inB i 1 1000000 && pOk 9 u c n cs ns && rOk 9 u c n cs.length ns.length)) := hide rfl
  obtain ⟨a5, cap5, rfl, _⟩ := cells_at hc
  obtain ⟨a6, cap6, rfl, _⟩ := notes_at hn
  clear hc hn
  have HX := hide (Box.new w #[.int .i64 9, .int .i64 i, .int .i64 u, .int .i64 c, .int .i64 n, .slice a5 cs.length cap5, .slice a6 ns.length cap6] 39)
  have HB := hide ((Below.refl w.heap.size w).alloc (Nat.le_refl _) (.cells #[.int .i64 9, .int .i64 i, .int .i64 u, .int .i64 c, .int .i64 n, .slice a5 cs.length cap5, .slice a6 ns.length cap6] 39))
  have HO := hide (ownImpl (w.alloc (.cells #[.int .i64 9, .int .i64 i, .int .i64 u, .int .i64 c, .int .i64 n, .slice a5 cs.length cap5, .slice a6 ns.length cap6] 39)) 9 i u c n a5 a6 cs.length cap5 ns.length cap6)
  have eo : ownV 9 i u c n (Value.slice a5 cs.length cap5) (Value.slice a6 ns.length cap6) = .iface 140 (.agg #[.int .i64 i, .int .i64 u]) := rfl
  rw [eo] at HO
  unfold msgV at HO ⊢
  go_enter Tryd.func55, Tryd.ntmps55
  go_wp2_with fail
  refine (unhide HO).mono ?_
  rintro e w1 ⟨rfl, b1⟩
  replace HX := hide (HX.out.below (by simp) b1)
  replace HB := hide (HB.out.trans (b1.mono HB.out.size))
  clear b1 HO
  have hs1 := HB.out.size
  have q0 := fun m : Lo w1 => m.cell (HX.out 0 _ rfl)
  have q1 := fun m : Lo w1 => m.cell (HX.out 1 _ rfl)
  have q2 := fun m : Lo w1 => m.cell (HX.out 2 _ rfl)
  have q3 := fun m : Lo w1 => m.cell (HX.out 3 _ rfl)
  have q4 := fun m : Lo w1 => m.cell (HX.out 4 _ rfl)
  have q5 := fun m : Lo w1 => m.cell (HX.out 5 _ rfl)
  have q6 := fun m : Lo w1 => m.cell (HX.out 6 _ rfl)
  have ho := fun w => objImpl i w
  cases hi : inB i 1 1000000 with
  | false =>
    rw [hi] at HM ho
    have HO := hide ho
    clear ho
    go_wp2
    refine wp_region_low (by kernel_rfl) (by kernel_rfl) ?_
    repeat (go_big_quiet_step ((first | (go_at_call 74; exact low_same (HO.out _)))))
    refine wpQuiet_nil ?_
    rintro _ ⟨m, rfl⟩
    go_wp2
    go_ret
    exact ⟨by rw [HM.out]; rfl, HB.out.trans (m.b.mono hs1)⟩
  | true =>
    rw [hi] at HM ho
    have HO := hide ho
    clear ho
    have ha : ∀ m : Lo w1, Calls Tryd.prog 75 #[.iface 140 (.agg #[.int .i64 i, .int .i64 u])] m.v fun e w' => e = .returned (.bool (pOk 9 u c n cs ns)) ∧ Below m.v.heap.size m.v w' := fun m =>
      partsImpl m.v 9 i u c n _ _ cs ns ((HC.out.at HB.out).at m.b) ((HN.out.at HB.out).at m.b) hmc hmn
    cases hp : pOk 9 u c n cs ns with
    | false =>
      rw [hp] at HM ha
      have HA := hide ha
      clear ha
      go_wp2
      refine wp_region_low (by kernel_rfl) (by kernel_rfl) ?_
      repeat (go_big_quiet_step ((first | (go_at_call 74; exact low_same (HO.out _)) | (go_at_call 75; exact low_below (HA.out _)))))
      refine wpQuiet_nil ?_
      rintro _ ⟨m, rfl⟩
      go_wp2
      go_ret
      exact ⟨by rw [HM.out]; rfl, HB.out.trans (m.b.mono hs1)⟩
    | true =>
      rw [hp] at HM ha
      have HA := hide ha
      have hme := me9
      have HP : Hid (∀ m : Lo w1, _) := hide fun m => plain9 m.v i u c n a5 a6 cs.length cap5 ns.length cap6
      have HL : Hid (∀ m : Lo w1, _) := hide fun m => lostImpl m.v 9 i u c n 9 i u 0 0 a5 a6 none none cs.length cap5 ns.length cap6 0 0 0 0
      have HR : Hid (rOk 9 u c n cs.length ns.length = lostB u c n u 0 0 cs.length ns.length 0 0) := hide rfl
      unfold msgV at HP HL
      clear ha
      go_wp2
      refine wp_region_low (by kernel_rfl) (by kernel_rfl) ?_
      repeat (go_big_quiet_step ((first | (go_at_call 74; exact low_same (HO.out _)) | (go_at_call 75; exact low_below (HA.out _)) | (go_at_call 116; exact low_below (HP.out _)) | (go_at_call 76; exact low_below (HL.out _)))))
      refine wpQuiet_nil ?_
      rintro _ ⟨m, rfl⟩
      go_wp2
      go_ret
      exact ⟨by rw [HM.out, HR.out]; rfl, HB.out.trans (m.b.mono hs1)⟩

set_option maxRecDepth 100000 in
set_option maxHeartbeats 4000000 in
theorem msgImpl10 (w : World) (i u c n : Int) (cv nv : Value) (cs : List (Int × Bool × Int)) (ns : List (Int × Int)) (hc : Rd w w.heap.size 3 cv cs.length (cs.flatMap cellC)) (hn : Rd w w.heap.size 2 nv ns.length (ns.flatMap noteC))
    (hmc : cs.length ≤ 1048576) (hmn : ns.length ≤ 1048576) :
    Calls Tryd.prog 55 #[msgV 10 i u c n cv nv] w fun e w' => e = .returned (.bool (mOk 10 i u c n cs ns)) ∧ Below w.heap.size w w' := by
  have HC := hide hc
  have HN := hide hn
  have HM : Hid (mOk 10 i u c n cs ns = (inB i 1 1000000 && pOk 10 u c n cs ns && rOk 10 u c n cs.length ns.length)) := hide rfl
  obtain ⟨a5, cap5, rfl, _⟩ := cells_at hc
  obtain ⟨a6, cap6, rfl, _⟩ := notes_at hn
  clear hc hn
  have HX := hide (Box.new w #[.int .i64 10, .int .i64 i, .int .i64 u, .int .i64 c, .int .i64 n, .slice a5 cs.length cap5, .slice a6 ns.length cap6] 39)
  have HB := hide ((Below.refl w.heap.size w).alloc (Nat.le_refl _) (.cells #[.int .i64 10, .int .i64 i, .int .i64 u, .int .i64 c, .int .i64 n, .slice a5 cs.length cap5, .slice a6 ns.length cap6] 39))
  have HO := hide (ownImpl (w.alloc (.cells #[.int .i64 10, .int .i64 i, .int .i64 u, .int .i64 c, .int .i64 n, .slice a5 cs.length cap5, .slice a6 ns.length cap6] 39)) 10 i u c n a5 a6 cs.length cap5 ns.length cap6)
  have eo : ownV 10 i u c n (Value.slice a5 cs.length cap5) (Value.slice a6 ns.length cap6) = .iface 141 (.agg #[.int .i64 i, .int .i64 u, .slice a6 ns.length cap6]) := rfl
  rw [eo] at HO
  unfold msgV at HO ⊢
  go_enter Tryd.func55, Tryd.ntmps55
  go_wp2_with fail
  refine (unhide HO).mono ?_
  rintro e w1 ⟨rfl, b1⟩
  replace HX := hide (HX.out.below (by simp) b1)
  replace HB := hide (HB.out.trans (b1.mono HB.out.size))
  clear b1 HO
  have hs1 := HB.out.size
  have q0 := fun m : Lo w1 => m.cell (HX.out 0 _ rfl)
  have q1 := fun m : Lo w1 => m.cell (HX.out 1 _ rfl)
  have q2 := fun m : Lo w1 => m.cell (HX.out 2 _ rfl)
  have q3 := fun m : Lo w1 => m.cell (HX.out 3 _ rfl)
  have q4 := fun m : Lo w1 => m.cell (HX.out 4 _ rfl)
  have q5 := fun m : Lo w1 => m.cell (HX.out 5 _ rfl)
  have q6 := fun m : Lo w1 => m.cell (HX.out 6 _ rfl)
  have ho := fun w => objImpl i w
  cases hi : inB i 1 1000000 with
  | false =>
    rw [hi] at HM ho
    have HO := hide ho
    clear ho
    go_wp2
    refine wp_region_low (by kernel_rfl) (by kernel_rfl) ?_
    repeat (go_big_quiet_step ((first | (go_at_call 74; exact low_same (HO.out _)))))
    refine wpQuiet_nil ?_
    rintro _ ⟨m, rfl⟩
    go_wp2
    go_ret
    exact ⟨by rw [HM.out]; rfl, HB.out.trans (m.b.mono hs1)⟩
  | true =>
    rw [hi] at HM ho
    have HO := hide ho
    clear ho
    have ha : ∀ m : Lo w1, Calls Tryd.prog 75 #[.iface 141 (.agg #[.int .i64 i, .int .i64 u, .slice a6 ns.length cap6])] m.v fun e w' => e = .returned (.bool (pOk 10 u c n cs ns)) ∧ Below m.v.heap.size m.v w' := fun m =>
      partsImpl m.v 10 i u c n _ _ cs ns ((HC.out.at HB.out).at m.b) ((HN.out.at HB.out).at m.b) hmc hmn
    cases hp : pOk 10 u c n cs ns with
    | false =>
      rw [hp] at HM ha
      have HA := hide ha
      clear ha
      go_wp2
      refine wp_region_low (by kernel_rfl) (by kernel_rfl) ?_
      repeat (go_big_quiet_step ((first | (go_at_call 74; exact low_same (HO.out _)) | (go_at_call 75; exact low_below (HA.out _)))))
      refine wpQuiet_nil ?_
      rintro _ ⟨m, rfl⟩
      go_wp2
      go_ret
      exact ⟨by rw [HM.out]; rfl, HB.out.trans (m.b.mono hs1)⟩
    | true =>
      rw [hp] at HM ha
      have HA := hide ha
      have hme := me10
      have HP : Hid (∀ m : Lo w1, _) := hide fun m => plain10 m.v i u c n a5 a6 cs.length cap5 ns.length cap6
      have HL : Hid (∀ m : Lo w1, _) := hide fun m => lostImpl m.v 10 i u c n 10 i u 0 0 a5 a6 none a6 cs.length cap5 ns.length cap6 0 0 ns.length cap6
      have HR : Hid (rOk 10 u c n cs.length ns.length = lostB u c n u 0 0 cs.length ns.length 0 ns.length) := hide rfl
      unfold msgV at HP HL
      clear ha
      go_wp2
      refine wp_region_low (by kernel_rfl) (by kernel_rfl) ?_
      repeat (go_big_quiet_step ((first | (go_at_call 74; exact low_same (HO.out _)) | (go_at_call 75; exact low_below (HA.out _)) | (go_at_call 117; exact low_below (HP.out _)) | (go_at_call 76; exact low_below (HL.out _)))))
      refine wpQuiet_nil ?_
      rintro _ ⟨m, rfl⟩
      go_wp2
      go_ret
      exact ⟨by rw [HM.out, HR.out]; rfl, HB.out.trans (m.b.mono hs1)⟩

set_option maxRecDepth 100000 in
set_option maxHeartbeats 4000000 in
theorem msgImpl0 (w : World) (k i u c n : Int) (hk : k < 1 ∨ 10 < k) (cv nv : Value) (cs : List (Int × Bool × Int)) (ns : List (Int × Int)) (hc : Rd w w.heap.size 3 cv cs.length (cs.flatMap cellC)) (hn : Rd w w.heap.size 2 nv ns.length (ns.flatMap noteC))
    (hmc : cs.length ≤ 1048576) (hmn : ns.length ≤ 1048576) :
    Calls Tryd.prog 55 #[msgV k i u c n cv nv] w fun e w' => e = .returned (.bool (mOk k i u c n cs ns)) ∧ Below w.heap.size w w' := by
  have HC := hide hc
  have HN := hide hn
  have HM : Hid (mOk k i u c n cs ns = (inB i 1 1000000 && pOk k u c n cs ns && rOk k u c n cs.length ns.length)) := hide rfl
  obtain ⟨a5, cap5, rfl, _⟩ := cells_at hc
  obtain ⟨a6, cap6, rfl, _⟩ := notes_at hn
  clear hc hn
  have HX := hide (Box.new w #[.int .i64 k, .int .i64 i, .int .i64 u, .int .i64 c, .int .i64 n, .slice a5 cs.length cap5, .slice a6 ns.length cap6] 39)
  have HB := hide ((Below.refl w.heap.size w).alloc (Nat.le_refl _) (.cells #[.int .i64 k, .int .i64 i, .int .i64 u, .int .i64 c, .int .i64 n, .slice a5 cs.length cap5, .slice a6 ns.length cap6] 39))
  have HO := hide (ownImpl (w.alloc (.cells #[.int .i64 k, .int .i64 i, .int .i64 u, .int .i64 c, .int .i64 n, .slice a5 cs.length cap5, .slice a6 ns.length cap6] 39)) k i u c n a5 a6 cs.length cap5 ns.length cap6)
  rw [ownV_none hk] at HO
  unfold msgV at HO ⊢
  go_enter Tryd.func55, Tryd.ntmps55
  go_wp2_with fail
  refine (unhide HO).mono ?_
  rintro e w1 ⟨rfl, b1⟩
  replace HX := hide (HX.out.below (by simp) b1)
  replace HB := hide (HB.out.trans (b1.mono HB.out.size))
  clear b1 HO
  have hs1 := HB.out.size
  have q0 := fun m : Lo w1 => m.cell (HX.out 0 _ rfl)
  have q1 := fun m : Lo w1 => m.cell (HX.out 1 _ rfl)
  have q2 := fun m : Lo w1 => m.cell (HX.out 2 _ rfl)
  have q3 := fun m : Lo w1 => m.cell (HX.out 3 _ rfl)
  have q4 := fun m : Lo w1 => m.cell (HX.out 4 _ rfl)
  have q5 := fun m : Lo w1 => m.cell (HX.out 5 _ rfl)
  have q6 := fun m : Lo w1 => m.cell (HX.out 6 _ rfl)
  have ho := fun w => objImpl i w
  cases hi : inB i 1 1000000 with
  | false =>
    rw [hi] at HM ho
    have HO := hide ho
    clear ho
    go_wp2
    refine wp_region_low (by kernel_rfl) (by kernel_rfl) ?_
    repeat (go_big_quiet_step ((first | (go_at_call 74; exact low_same (HO.out _)))))
    refine wpQuiet_nil ?_
    rintro _ ⟨m, rfl⟩
    go_wp2
    go_ret
    exact ⟨by rw [HM.out]; rfl, HB.out.trans (m.b.mono hs1)⟩
  | true =>
    rw [hi] at HM ho
    have HO := hide ho
    clear ho
    have ha : ∀ m : Lo w1, Calls Tryd.prog 75 #[.nilIface] m.v fun e w' => e = .returned (.bool (pOk k u c n cs ns)) ∧ Below m.v.heap.size m.v w' := fun m =>
      (by have := partsImpl m.v k i u c n _ _ cs ns ((HC.out.at HB.out).at m.b) ((HN.out.at HB.out).at m.b) hmc hmn; rwa [ownV_none hk] at this)
    cases hp : pOk k u c n cs ns with
    | false =>
      rw [hp] at HM ha
      have HA := hide ha
      clear ha
      go_wp2
      refine wp_region_low (by kernel_rfl) (by kernel_rfl) ?_
      repeat (go_big_quiet_step ((first | (go_at_call 74; exact low_same (HO.out _)) | (go_at_call 75; exact low_below (HA.out _)))))
      refine wpQuiet_nil ?_
      rintro _ ⟨m, rfl⟩
      go_wp2
      go_ret
      exact ⟨by rw [HM.out]; rfl, HB.out.trans (m.b.mono hs1)⟩
    | true =>
      rw [pOk_none hk] at hp
      cases hp

theorem msgImpl (w : World) (k i u c n : Int) (cv nv : Value) (cs : List (Int × Bool × Int)) (ns : List (Int × Int)) (hc : Rd w w.heap.size 3 cv cs.length (cs.flatMap cellC)) (hn : Rd w w.heap.size 2 nv ns.length (ns.flatMap noteC))
    (hmc : cs.length ≤ 1048576) (hmn : ns.length ≤ 1048576) :
    Calls Tryd.prog 55 #[msgV k i u c n cv nv] w fun e w' => e = .returned (.bool (mOk k i u c n cs ns)) ∧ Below w.heap.size w w' := by
  cases hk : inB k 1 10 with
  | false => exact msgImpl0 w k i u c n (inB_no hk) cv nv cs ns hc hn hmc hmn
  | true =>
    rcases kinds hk with rfl | rfl | rfl | rfl | rfl | rfl | rfl | rfl | rfl | rfl
    · exact msgImpl1 w i u c n cv nv cs ns hc hn hmc hmn
    · exact msgImpl2 w i u c n cv nv cs ns hc hn hmc hmn
    · exact msgImpl3 w i u c n cv nv cs ns hc hn hmc hmn
    · exact msgImpl4 w i u c n cv nv cs ns hc hn hmc hmn
    · exact msgImpl5 w i u c n cv nv cs ns hc hn hmc hmn
    · exact msgImpl6 w i u c n cv nv cs ns hc hn hmc hmn
    · exact msgImpl7 w i u c n cv nv cs ns hc hn hmc hmn
    · exact msgImpl8 w i u c n cv nv cs ns hc hn hmc hmn
    · exact msgImpl9 w i u c n cv nv cs ns hc hn hmc hmn
    · exact msgImpl10 w i u c n cv nv cs ns hc hn hmc hmn
end Go.Proofs.YtkfnpijljpbiaaaDoor
