/-
  What l1Pick and l1DrawText do: the text that is drawn, told by the code's bytes and by where the cursor stands; nothing is turned but the cursor.
-/
import Derived.Test.YtgegmocgbjklkaaDoorCurF
namespace Go.Proofs.YtgegmocgbjklkaaDoor
open Go.RowKit

def pickS (zs : List Int) (s : Nat × Int) (l : List ByteArray) : ByteArray × (Nat × Int) := (l.getD (belowF zs s l.length).1.toNat ByteArray.empty, (belowF zs s l.length).2)
theorem pickS_mem (zs : List Int) (s : Nat × Int) (l : List ByteArray) (hl : 0 < l.length) : (pickS zs s l).1 ∈ l := by
  have h := belowF_bd zs s l.length (by omega)
  have hk : (belowF zs s l.length).1.toNat < l.length := by omega
  unfold pickS
  simp [hk]

set_option maxHeartbeats 1000000 in
theorem pickText (w : World) (g l n : Nat) (zs : List Int) (s : Nat × Int) (ls : List ByteArray) (hz : ls.length = n) (hn : 0 < n) (hn' : n ≤ 256) (hgl : g < l) (hc : Cur w g zs s)
    (hl : w.heap[l]? = some (.cells (ls.map Value.string).toArray 9 (0, 0))) :
    Calls Tryd.prog 38 #[.pointer (some ⟨g, 0, none⟩), .slice (some ⟨l, 0, none⟩) n n] w fun e w' => e = .returned (.string (pickS zs s ls).1) ∧ Cur w' g zs (pickS zs s ls).2 ∧ w.grownBy w' (some g) := by
  subst hz
  have hb := belowF_bd zs s ls.length (by omega)
  unfold pickS
  simp only
  go_enter Tryd.func38, Tryd.ntmps38
  go_wp2_with fail
  refine (belowDraw _ _ _ _ _ (by omega) (by omega) hc).mono ?_
  rintro e w1 ⟨rfl, hc1, hg1⟩
  obtain ⟨k, hk⟩ := Int.eq_ofNat_of_zero_le hb.1
  have HC := hide hc1
  clear hc1
  have HP : Hid (ls.getD (belowF zs s ls.length).1.toNat ByteArray.empty = ls.getD k ByteArray.empty) := by show _ = _; rw [hk]; rfl
  rw [hk] at hb ⊢
  have hlt : k < ls.length := by omega
  have hl1 : w1.heap[l]? = some (.cells (ls.map Value.string).toArray 9 (0, 0)) := (hg1.block l (Array.getElem?_eq_some_iff.1 hl).1 (by simp; omega)).trans hl
  have hcell : w1.cell? ⟨l, k, none⟩ = some (.string (ls.getD k ByteArray.empty)) := by
    rw [cell_of_row w1 l k _ 9 (0, 0) hl1]; simp [hlt]
  have HG := hide hg1
  clear hc hg1 hl hl1 hk
  generalize ls.getD k ByteArray.empty = y at *
  go_wp2
  go_ret
  refine ⟨?_, HC.out, HG.out⟩
  rw [HP.out]; rfl

/-- The long text that is drawn. -/
def qF (zs : List Int) : Nat → ByteArray → Nat × Int → ByteArray × (Nat × Int)
  | 0, q, s => (q, s)
  | f + 1, q, s => if (q.size : Int) < 200 + (belowF zs s 2).1 then qF zs f (q ++ ⟨#[113]⟩) (belowF zs s 2).2 else (q, (belowF zs s 2).2)
def textF (zs : List Int) (s : Nat × Int) : ByteArray × (Nat × Int) :=
  if (onceF zs s 20).1 then qF zs 202 ByteArray.empty (onceF zs s 20).2 else pickS zs (onceF zs s 20).2 [⟨#[]⟩, ⟨#[97]⟩, ⟨#[77, 97, 105, 110]⟩, ⟨#[116, 119, 111, 32, 119, 111, 114, 100, 115]⟩, ⟨#[0, 255]⟩]

end Go.Proofs.YtgegmocgbjklkaaDoor
