/-
  What letterOf does at a nod.
-/
import Derived.Test.YtkfnpijljpbiaaaDoorXReadLet
import Derived.Test.YtkfnpijljpbiaaaDoorKOpenW
namespace Go.Proofs.YtkfnpijljpbiaaaDoor
open Go.RowKit

set_option maxRecDepth 100000 in
set_option maxHeartbeats 1000000 in
theorem letterOkNod (w : World) (n : Int) : Calls Tryd.prog 52 #[nodV n] w fun e w' => e = .returned (.bool true) ∧ Below w.heap.size w w' := by
  have HX := hide (Box.new w #[.bool false, .int .i64 0, .int .i64 n, .int .i64 0, .int .i64 0, .int .i64 0, .int .i64 0, .int .i64 0, .slice none 0 0, .slice none 0 0] 52)
  have HW := hide ((Below.refl w.heap.size w).alloc (Nat.le_refl _) (.cells #[.bool false, .int .i64 0, .int .i64 n, .int .i64 0, .int .i64 0, .int .i64 0, .int .i64 0, .int .i64 0, .slice none 0 0, .slice none 0 0] 52))
  have c0 := HX.out 0 _ rfl
  unfold nodV
  go_enter Tryd.func52, Tryd.ntmps52
  go_wp2
  go_ret
  exact ⟨rfl, HW.out⟩
set_option maxRecDepth 100000 in
set_option maxHeartbeats 4000000 in
theorem letterNodR (w : World) (a : Option Addr) (len cap : Nat) (zs bs : List Int) (t : TypeId) (v : Value) (k1 : Nat) (n : Int) (h0 : 0 < w.heap.size) (hin : In w w.heap.size a len zs) (hcap : len ≤ cap) (hE : Err w t v) (hop : opened zs = some bs) (hby : Byt bs) (hbl : bs.length ≤ 1000) (hf : rFlag bs 0 = some (false, k1)) (hn : gnF bs 4 k1 0 1 = some (n, bs.length)) :
    Calls Tryd.prog 25 #[.slice a len cap] w fun e w' => e = .returned (.tuple #[nodV n, .bool true]) ∧ Below w.heap.size w w' := by
  have HE := hide (heap_alloc_new w (.cells #[.bool false, .int .i64 0, .int .i64 0, .int .i64 0, .int .i64 0, .int .i64 0, .int .i64 0, .int .i64 0, .slice none 0 0, .slice none 0 0] 52))
  have HB := hide ((Below.refl w.heap.size w).alloc (Nat.le_refl _) (.cells #[.bool false, .int .i64 0, .int .i64 0, .int .i64 0, .int .i64 0, .int .i64 0, .int .i64 0, .int .i64 0, .slice none 0 0, .slice none 0 0] 52))
  have HI := hide (hin.at HB.out)
  have HER := hide hE
  have hi : ((Tryd.prog.info? 52).map (·.size)) = some 10 := by kernel_rfl
  clear hin hE
  go_enter Tryd.func25, Tryd.ntmps25
  go_wp2_with fail
  refine (openImpl _ _ _ _ _ HI.out hcap).mono ?_
  rintro e w1 ⟨hA, b1⟩
  rw [hop] at hA
  obtain ⟨u, rfl, hu⟩ := hA
  have H1 := hide ((b1.block w.heap.size (by simp)).trans HE.out)
  replace HB := hide (HB.out.trans (b1.mono HB.out.size))
  obtain ⟨ua, uc, rfl⟩ := own_shape hu
  have HUI := hide (in_slice hu (by omega) hby (Nat.le_refl _)).1
  clear b1 HI HE hu
  generalize w.alloc (.cells #[.bool false, .int .i64 0, .int .i64 0, .int .i64 0, .int .i64 0, .int .i64 0, .int .i64 0, .int .i64 0, .slice none 0 0, .slice none 0 0] 52) = W0 at *
  have hs1 : w.heap.size < w1.heap.size := (Array.getElem?_eq_some_iff.1 H1.out).1
  go_wp2_with fail
  refine (readNod _ _ _ _ bs t v k1 bs.length n (by omega) HUI.out (HER.out.low HB.out h0) hf hn).mono ?_
  rintro e w2 ⟨rfl, b2⟩
  unfold nodV
  have bD := (Below.refl w2.heap.size w2).alloc (Nat.le_refl _) (.cells #[.bool false, .int .i64 0, .int .i64 n, .int .i64 0, .int .i64 0, .int .i64 0, .int .i64 0, .int .i64 0, .slice none 0 0, .slice none 0 0] 52)
  have bE := b2.trans (bD.mono b2.size)
  have HN := hide (heap_alloc_new w2 (.cells #[.bool false, .int .i64 0, .int .i64 n, .int .i64 0, .int .i64 0, .int .i64 0, .int .i64 0, .int .i64 0, .slice none 0 0, .slice none 0 0] 52))
  replace H1 := hide ((bE.block w.heap.size hs1).trans H1.out)
  replace HB := hide (HB.out.trans (bE.mono HB.out.size))
  clear bD bE b2 HUI hf hn
  have HX := hide (box_of HN.out).1
  have c0 := HX.out 0 _ rfl
  have c1 := HX.out 1 _ rfl
  have c2 := HX.out 2 _ rfl
  have c3 := HX.out 3 _ rfl
  have c4 := HX.out 4 _ rfl
  have c5 := HX.out 5 _ rfl
  have c6 := HX.out 6 _ rfl
  have c7 := HX.out 7 _ rfl
  have c8 := HX.out 8 _ rfl
  have c9 := HX.out 9 _ rfl
  go_wp2_with fail
  clear c0 c1 c2 c3 c4 c5 c6 c7 c8 c9 HX
  generalize w2.alloc (.cells #[.bool false, .int .i64 0, .int .i64 n, .int .i64 0, .int .i64 0, .int .i64 0, .int .i64 0, .int .i64 0, .slice none 0 0, .slice none 0 0] 52) = W2 at *
  have hs2 : w2.heap.size < W2.heap.size := (Array.getElem?_eq_some_iff.1 HN.out).1
  generalize w2.heap.size = L at *
  refine (letterOkNod _ n).mono ?_
  rintro e w3 ⟨rfl, b3⟩
  replace H1 := hide ((b3.block w.heap.size (Array.getElem?_eq_some_iff.1 H1.out).1).trans H1.out)
  replace HN := hide ((b3.block L hs2).trans HN.out)
  replace HB := hide (HB.out.trans (b3.mono HB.out.size))
  clear b3
  have HX := hide (box_of HN.out).1
  have c0 := HX.out 0 _ rfl
  have c1 := HX.out 1 _ rfl
  have c2 := HX.out 2 _ rfl
  have c3 := HX.out 3 _ rfl
  have c4 := HX.out 4 _ rfl
  have c5 := HX.out 5 _ rfl
  have c6 := HX.out 6 _ rfl
  have c7 := HX.out 7 _ rfl
  have c8 := HX.out 8 _ rfl
  have c9 := HX.out 9 _ rfl
  go_wp2_with (refine wpList_store_rowTo rfl 52 (.tmp 2) (.tmp 36) rfl rfl w.heap.size #[.bool false, .int .i64 0, .int .i64 n, .int .i64 0, .int .i64 0, .int .i64 0, .int .i64 0, .int .i64 0, .slice none 0 0, .slice none 0 0] rfl rfl _ _ H1.out hi rfl (by simp [Value.oneCell']) ?_)
  exact bodyPost_ret (v := .tuple #[.agg #[.bool false, .int .i64 0, .int .i64 n, .int .i64 0, .int .i64 0, .int .i64 0, .int .i64 0, .int .i64 0, .slice none 0 0, .slice none 0 0], .bool true]) (results_ct Tryd.results25 _ _ _ rfl (loadLet (setRow_heap _ _ _ _ _ _ H1.out))) rfl ⟨rfl, below_setRow HB.out (Nat.le_refl _) _⟩
end Go.Proofs.YtkfnpijljpbiaaaDoor
