/-
  The program's joinClocks of a row of clocks, however many.
-/
import Derived.Test.YtllghgcancennaaClcW
import Derived.Test.YtllghgcancennaaClcN
import Derived.Test.YtllghgcancennaaMrgK
namespace Go.Proofs.Ytllghgcancennaa
open Go.RowKit

theorem take_fold {cs : List (List Smp)} {j : Nat} (h : j < cs.length) : (cs.take (j + 1)).foldl joinK [] = joinK ((cs.take j).foldl joinK []) (cs.getD j []) := by
  rw [List.take_succ_eq_append_getElem h, List.foldl_append, List.getD_eq_getElem?_getD, List.getElem?_eq_getElem h]
  rfl
set_option maxRecDepth 100000 in
set_option maxHeartbeats 4000000 in
theorem joinAllI (w : World) (xs : List Evt) (cs : List (List Smp)) (v : Value) (h : Reads w w.heap.size (rws cs) v) (hg : ∀ c ∈ cs, GoodC xs c) (hx : xs.length ≤ 3000) (hlen : cs.length ≤ 1000) :
    Calls Try.prog 55 #[v] w fun e w' => rowP w w' (smps (cs.foldl joinK [])) e := by
  obtain ⟨ra, rc, re, _, hrw⟩ := rws_at h
  subst re
  clear h
  have HF : Hid (∀ j, j ≤ cs.length → ((cs.take j).foldl joinK []).length ≤ 3000) := hide (fun j hj => by
    have := (foldJ_good (cs := cs.take j) (GoodC.nil xs) (fun c hc => hg c (List.mem_of_mem_take hc))).len
    omega)
  have HC : Hid (∀ j, j < cs.length → (cs.getD j []).length ≤ 3000) := hide (fun j hj => by
    have := (hg (cs.getD j []) (by rw [List.getD_eq_getElem?_getD, List.getElem?_eq_getElem hj]; exact List.getElem_mem hj)).len
    omega)
  have HS : Hid (∀ j, j < cs.length → (cs.take (j + 1)).foldl joinK [] = joinK ((cs.take j).foldl joinK []) (cs.getD j [])) := hide (fun j hj => take_fold hj)
  have HE : Hid ((cs.take cs.length).foldl joinK [] = cs.foldl joinK []) := hide (by rw [List.take_length])
  have H0 : Hid ((cs.take 0).foldl joinK [] = []) := hide rfl
  clear hg
  generalize hP : (fun j : Nat => (cs.take j).foldl joinK []) = P at *
  have hPj : ∀ j, (cs.take j).foldl joinK [] = P j := fun j => by rw [← hP]
  have HP := hide hPj
  clear hPj hP
  have HRW := hide hrw
  clear hrw
  generalize hn : cs.length = n at *
  go_enter Try.func55, Try.ntmps55
  go_wp2
  go_loopw [3, 8] (fun v i wr => ∃ j : Nat, j ≤ n ∧ i = .int .i64 (j : Int) ∧ Hid (OwnD wr w.heap.size wr.heap.size (smps (P j)) v) ∧ Hid (Below w.heap.size w wr)) (fun _ i _ => n - (intOf i).toNat)
  case atStart => exact ⟨0, Nat.zero_le _, rfl, hide (by rw [← HP.out, H0.out]; exact ownD_nil _ _ _ _ _), hide (Below.refl _ _)⟩
  case round =>
    obtain ⟨j, hj, rfl, HO, HBr⟩ := hrel
    have hsz := HBr.out.size
    obtain ⟨ax, cx, ex⟩ := (HO.out).shape
    subst ex
    by_cases hlt : j < n
    · obtain ⟨b, o, rfl, hb, hc⟩ := HRW.out (by omega)
      obtain ⟨u, d0, hr⟩ := hc j hlt
      have p0 := (HBr.out.cell (p := ⟨b, o + j, none⟩) hb).trans d0
      clear d0 hc
      obtain ⟨ua, uc, ue, _⟩ := hr.shape
      subst ue
      have HR := hide hr
      clear hr
      have hltI : (j : Int) < (n : Int) := by omega
      have hl := HF.out j (by omega)
      rw [HP.out] at hl
      have hl2 := HC.out j hlt
      have HJ := hide (HS.out j hlt)
      generalize cs.getD j [] = cj at *
      go_wp2_with fail
      refine (mergeK _ (P j) cj _ _ (HO.out.rd (Nat.le_refl _)) (HR.out.at HBr.out) (by omega)).mono ?_
      rintro e w9 ⟨r, rfl, o9, b9⟩
      have HO9 : Hid (OwnD w9 w.heap.size w9.heap.size (smps (P (j + 1))) r) := hide (by
        have h9 := o9.mono hsz
        rw [← HP.out, HJ.out, HP.out]
        exact h9)
      have HB9 := hide (HBr.out.trans (b9.mono hsz))
      clear o9 b9 HO HBr p0 hl hl2 HJ
      go_wp2
      exact ⟨⟨j + 1, by omega, by go_num, HO9, HB9⟩, by simp [intOf]; omega⟩
    · obtain rfl : j = n := by omega
      have hnl : ¬ (j : Int) < (j : Int) := by omega
      have HO2 : Hid (OwnD wr w.heap.size wr.heap.size (smps (cs.foldl joinK [])) (.slice ax (P j).length cx)) := hide (by rw [← HE.out, HP.out]; exact HO.out)
      go_wp2
      go_ret
      exact ⟨_, rfl, HO2.out, HBr.out⟩
end Go.Proofs.Ytllghgcancennaa
