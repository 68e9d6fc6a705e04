/-
  What l1Pick and l1DrawText do: the text that is drawn, told by the code's bytes and by where the cursor stands; nothing is turned but the cursor.
-/
import Derived.Test.YtfomgkkiaklpfaaDoorCurF
namespace Go.Proofs.YtfomgkkiaklpfaaDoor
open Go.RowKit

def pickS (zs : List Int) (s : Nat × Int) (l : List ByteArray) : ByteArray × (Nat × Int) := (l.getD (belowF zs s l.length).1.toNat ByteArray.empty, (belowF zs s l.length).2)
theorem pickS_mem (zs : List Int) (s : Nat × Int) (l : List ByteArray) (hl : 0 < l.length) : (pickS zs s l).1 ∈ l := by
  have h := belowF_bd zs s l.length (by omega)
  have hk : (belowF zs s l.length).1.toNat < l.length := by omega
  unfold pickS
  simp [hk]

set_option maxHeartbeats 1000000 in
theorem pickText (w : World) (g l n : Nat) (zs : List Int) (s : Nat × Int) (ls : List ByteArray) (hz : ls.length = n) (hn : 0 < n) (hn' : n ≤ 256) (hgl : g < l) (hc : Cur w g zs s)
    (hl : w.heap[l]? = some (.cells (ls.map Value.string).toArray 9 (0, 0))) :
    Calls Tryd.prog 49 #[.pointer (some ⟨g, 0, none⟩), .slice (some ⟨l, 0, none⟩) n n] w fun e w' => e = .returned (.string (pickS zs s ls).1) ∧ Cur w' g zs (pickS zs s ls).2 ∧ w.grownBy w' (some g) := by
  subst hz
  have hb := belowF_bd zs s ls.length (by omega)
  unfold pickS
  simp only
  go_enter Tryd.func49, Tryd.ntmps49
  go_wp2_with fail
  refine (belowDraw _ _ _ _ _ (by omega) (by omega) hc).mono ?_
  rintro e w1 ⟨rfl, hc1, hg1⟩
  obtain ⟨k, hk⟩ := Int.eq_ofNat_of_zero_le hb.1
  have HC := hide hc1
  clear hc1
  have HP : Hid (ls.getD (belowF zs s ls.length).1.toNat ByteArray.empty = ls.getD k ByteArray.empty) := by show _ = _; rw [hk]; rfl
  rw [hk] at hb ⊢
  have hlt : k < ls.length := by omega
  have hl1 : w1.heap[l]? = some (.cells (ls.map Value.string).toArray 9 (0, 0)) := (hg1.block l (Array.getElem?_eq_some_iff.1 hl).1 (by simp; omega)).trans hl
  have hcell : w1.cell? ⟨l, k, none⟩ = some (.string (ls.getD k ByteArray.empty)) := by
    rw [cell_of_row w1 l k _ 9 (0, 0) hl1]; simp [hlt]
  have HG := hide hg1
  clear hc hg1 hl hl1 hk
  generalize ls.getD k ByteArray.empty = y at *
  go_wp2
  go_ret
  refine ⟨?_, HC.out, HG.out⟩
  rw [HP.out]; rfl

/-- The long text that is drawn. -/
def qF (zs : List Int) : Nat → ByteArray → Nat × Int → ByteArray × (Nat × Int)
  | 0, q, s => (q, s)
  | f + 1, q, s => if (q.size : Int) < 200 + (belowF zs s 2).1 then qF zs f (q ++ ⟨#[113]⟩) (belowF zs s 2).2 else (q, (belowF zs s 2).2)
def textF (zs : List Int) (s : Nat × Int) : ByteArray × (Nat × Int) :=
  if (onceF zs s 20).1 then qF zs 202 ByteArray.empty (onceF zs s 20).2 else pickS zs (onceF zs s 20).2 [⟨#[]⟩, ⟨#[97]⟩, ⟨#[77, 97, 105, 110]⟩, ⟨#[116, 119, 111, 32, 119, 111, 114, 100, 115]⟩, ⟨#[0, 255]⟩]

set_option maxRecDepth 100000 in
set_option maxHeartbeats 1000000 in
theorem drawText (w : World) (g : Nat) (zs : List Int) (s0 : Nat × Int) (hc : Cur w g zs s0) :
    Calls Tryd.prog 39 #[.pointer (some ⟨g, 0, none⟩)] w fun e w' => e = .returned (.string (textF zs s0).1) ∧ (textF zs s0).1.size ≤ 201 ∧ Cur w' g zs (textF zs s0).2 ∧ w.grownBy w' (some g) := by
  have hgl := hc.lt
  go_enter Tryd.func39, Tryd.ntmps39
  go_wp2_with fail
  refine (onceDraw _ _ _ _ _ (by omega) (by omega) hc).mono ?_
  rintro e w1 ⟨rfl, hc1, hg1⟩
  have HC := hide hc1
  have HG := hide hg1
  clear hc hc1 hg1
  cases ho : (onceF zs s0 20).1 with
  | false =>
    have HF : Hid (textF zs s0 = pickS zs (onceF zs s0 20).2 [⟨#[]⟩, ⟨#[97]⟩, ⟨#[77, 97, 105, 110]⟩, ⟨#[116, 119, 111, 32, 119, 111, 114, 100, 115]⟩, ⟨#[0, 255]⟩]) := by
      show _ = _
      unfold textF
      rw [if_neg (by simp [ho])]
    clear ho
    go_wp2_with fail
    refine (pickText _ _ _ 5 _ _ [⟨#[]⟩, ⟨#[97]⟩, ⟨#[77, 97, 105, 110]⟩, ⟨#[116, 119, 111, 32, 119, 111, 114, 100, 115]⟩, ⟨#[0, 255]⟩] rfl (by omega) (by omega) HC.out.lt (HC.out.alloc _) (heap_alloc_new w1 _)).mono ?_
    rintro e w3 ⟨rfl, hc3, hg3⟩
    have hm := pickS_mem zs (onceF zs s0 20).2 [⟨#[]⟩, ⟨#[97]⟩, ⟨#[77, 97, 105, 110]⟩, ⟨#[116, 119, 111, 32, 119, 111, 114, 100, 115]⟩, ⟨#[0, 255]⟩] (by simp)
    have H : Hid ((textF zs s0).1.size ≤ 201) := by
      have hm' := hm
      rw [← HF.out] at hm'
      simp only [List.mem_cons, List.not_mem_nil, or_false] at hm'
      show _ ≤ _
      rcases hm' with h | h | h | h | h <;> (rw [h]; decide)
    have HC3 := hide hc3
    have HG3 := hide (grownBy_trans HG.out (alloc_grown hg3))
    clear hm hc3 hg3 HC HG
    go_wp2
    go_ret
    refine ⟨?_, H.out, ?_, HG3.out⟩
    · rw [HF.out]; rfl
    · rw [HF.out]; exact HC3.out
  | true =>
    have HF : Hid (textF zs s0 = qF zs 202 ByteArray.empty (onceF zs s0 20).2) := by
      show _ = _
      unfold textF
      rw [if_pos ho]
    clear ho
    go_wp2
    go_loopw [3] (fun v wr => ∃ (q : ByteArray) (s : Nat × Int), v = .string q ∧ q.size ≤ 201 ∧ Hid (qF zs (202 - q.size) q s = qF zs 202 ByteArray.empty (onceF zs s0 20).2) ∧ Hid (Cur wr g zs s) ∧ Hid (w.grownBy wr (some g)))
      (fun v _ => match v with | .string q => 202 - q.size | _ => 0)
    case atStart => exact ⟨ByteArray.empty, _, rfl, by decide, rfl, HC, HG⟩
    case round =>
      obtain ⟨q, s, rfl, hq, HQ, HC1, HG1⟩ := hrel
      clear HC HG
      have hx := belowF_bd zs s 2 (by omega)
      go_wp2_with fail
      refine (belowDraw _ _ _ _ _ (by omega) (by omega) HC1.out).mono ?_
      rintro e w2 ⟨rfl, hc2, hg2⟩
      have HC2 := hide hc2
      have HG2 := hide (grownBy_trans HG1.out hg2)
      clear hc2 hg2 HC1 HG1
      by_cases hlt : (q.size : Int) < 200 + (belowF zs s 2).1
      · have HN : Hid (qF zs (202 - q.size) q s = qF zs (202 - (q.size + 1)) (q ++ ⟨#[113]⟩) (belowF zs s 2).2) := by
          show _ = _
          rw [show 202 - q.size = (202 - (q.size + 1)) + 1 from by omega, qF, if_pos hlt]
        have hsz : (q ++ (⟨#[113]⟩ : ByteArray)).size = q.size + 1 := by rw [ByteArray.size_append]; rfl
        have HSZ := hide hsz
        clear hsz
        go_wp2
        refine ⟨⟨q ++ ⟨#[113]⟩, _, rfl, by rw [HSZ.out]; omega, ?_, HC2, HG2⟩, by simp only; rw [HSZ.out]; omega⟩
        show _ = _
        rw [← HQ.out, HN.out, HSZ.out]
      · have HN : Hid (qF zs (202 - q.size) q s = (q, (belowF zs s 2).2)) := by
          show _ = _
          rw [show 202 - q.size = (202 - (q.size + 1)) + 1 from by omega, qF, if_neg hlt]
        go_wp2
        go_ret
        have e : textF zs s0 = (q, (belowF zs s 2).2) := by rw [HF.out, ← HQ.out, HN.out]
        refine ⟨?_, ?_, ?_, HG2.out⟩
        · rw [e]; rfl
        · rw [e]; exact hq
        · rw [e]; exact HC2.out
end Go.Proofs.YtfomgkkiaklpfaaDoor
