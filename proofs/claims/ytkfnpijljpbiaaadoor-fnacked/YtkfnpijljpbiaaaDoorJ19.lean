/-
  Joined: TakeNum, ReadB, ReadAt.
-/
import Derived.Test.YtkfnpijljpbiaaaDoorJ2
import Derived.Defers
import Derived.Recover
import Derived.Laws.Pointers
import Derived.RegionTactic
import Derived.ChangeAlike
/-
  What takeNum does: the number that begins at the place, and the place behind it; or a panic, where there is none.
-/
namespace Go.Proofs.YtkfnpijljpbiaaaDoor
open Go.RowKit

def took (w : World) (p : Nat) (t : TypeId) (v : Value) (r : Option (Int × Nat)) (e : Ending) (w' : World) : Prop :=
  ((∃ n nx, r = some (n, nx) ∧ e = .returned (.int .i64 n) ∧ w'.heap[p]? = some (.cells #[.int .i64 ((nx : Nat) : Int)] 3 (0, 0))) ∨
   (r = none ∧ e = .panicked [{ v := .iface t v, recovered := false }])) ∧ w.grownBy w' (some p)

set_option maxRecDepth 100000 in
set_option maxHeartbeats 1000000 in
theorem takeNum (w : World) (a : Option Addr) (len cap : Nat) (zs : List Int) (B p k0 : Nat) (t : TypeId) (v : Value) (hin : In w B a len zs) (hB : B ≤ p) (hp0 : 0 < p) (hE : Err w t v)
    (hp : w.heap[p]? = some (.cells #[.int .i64 (k0 : Int)] 3 (0, 0))) :
    Calls Tryd.prog 69 #[.slice a len cap, .pointer (some ⟨p, 0, none⟩)] w (took w p t v (gnF zs 4 k0 0 1)) := by
  have hlen := hin.1
  have hl := hin.2.1
  have hpw : p < w.heap.size := (Array.getElem?_eq_some_iff.1 hp).1
  go_enter Tryd.func69, Tryd.ntmps69
  go_wp2
  go_loopw [5, 6, 8] (fun n x i wr => ∃ (j : Nat) (m wt : Int), j ≤ 4 ∧ ((j = 0 ∧ wt = 1) ∨ (j = 1 ∧ wt = 128) ∨ (j = 2 ∧ wt = 16384) ∨ (j = 3 ∧ wt = 2097152) ∨ (j = 4)) ∧ 0 ≤ m ∧ m < wt ∧ n = .int .i64 m ∧ x = .int .i64 wt ∧ i = .int .i64 (j : Int) ∧
      Hid (gnF zs (4 - j) (k0 + j) m wt = gnF zs 4 k0 0 1) ∧ Hid (wr.heap[p]? = some (.cells #[.int .i64 ((k0 + j : Nat) : Int)] 3 (0, 0))) ∧ Hid (w.grownBy wr (some p)))
    (fun _ _ i _ => 4 - (intOf i).toNat)
  case atStart => exact ⟨0, 0, 1, by omega, by omega, by omega, by omega, rfl, rfl, rfl, rfl, hp, World.grownBy.refl _ _⟩
  case round =>
    obtain ⟨j, m, wt, hj, hw, hm0, hm1, rfl, rfl, rfl, HX, HP, HG⟩ := hrel
    have hin' := hin.out HG.out hB hpw
    have hE' := hE.out HG.out hp0
    by_cases hj4 : j = 4
    · subst hj4
      have hE2 : wr.cell? ⟨0, 0, none⟩ = some (.iface t v) := hE'
      clear hw hin hin' hE hE' hp
      go_wp2
      exact ⟨rfl, .inr ⟨by have := HX.out; rw [← this]; rfl, rfl⟩, HG.out⟩
    · have hw3 : (j = 0 ∧ wt = 1) ∨ (j = 1 ∧ wt = 128) ∨ (j = 2 ∧ wt = 16384) ∨ (j = 3 ∧ wt = 2097152) := by omega
      clear hw
      obtain ⟨K, hK⟩ : ∃ K, k0 + j = K := ⟨_, rfl⟩
      rw [hK] at HX HP
      have HK : Hid (k0 + j = K) := hK
      clear hK
      generalize hG : gnF zs 4 k0 0 1 = G at *
      clear hG
      by_cases hr : K < len
      · have hr' : K < zs.length := by omega
        have hzb := hin'.2.2.1 K hr
        have hT := takeByteYes wr a len cap zs B p K hin' HP.out hr
        have PP := place_put (y := (K : Int) + 1) HG.out HP.out
        have hE2 := hE.out PP.2 hp0
        generalize wr.setCell ⟨p, 0, none⟩ (.int .i64 ((K : Int) + 1)) = W1 at hT PP hE2
        unfold Err at hE2
        have HPP : Hid (W1.heap[p]? = some (.cells #[.int .i64 ((K : Int) + 1)] 3 (0, 0)) ∧ w.grownBy W1 (some p)) := PP
        clear PP HG HP hin hin' hE hE' hp
        by_cases hd : zs.getD K 0 < 128
        · by_cases hb : 16777215 < m + zs.getD K 0 % 128 * wt ∨ (zs.getD K 0 = 0 ∧ 1 < wt)
          · have HN : Hid (G = none) := HX.out.symm.trans (by rw [show 4 - j = (3 - j) + 1 from by omega]; exact gnF_no zs _ K m wt hr' hd hb)
            generalize zs.getD K 0 = z at *
            have HT := hide hT
            clear hT HX
            by_cases hb1 : 16777215 < m + z % 128 * wt
            · clear hb
              rcases hw3 with ⟨rfl, rfl⟩ | ⟨rfl, rfl⟩ | ⟨rfl, rfl⟩ | ⟨rfl, rfl⟩
              · omega
              · omega
              · omega
              · go_wp2_with fail
                refine (unhide HT).mono ?_
                rintro e w1 ⟨rfl, rfl⟩
                go_wp2
                exact ⟨rfl, .inr ⟨HN.out, rfl⟩, HPP.out.2⟩
            · have hz0 : (z == 0) = true := by simp; omega
              have hw1 : 1 < wt := by omega
              clear hb
              rcases hw3 with ⟨rfl, rfl⟩ | ⟨rfl, rfl⟩ | ⟨rfl, rfl⟩ | ⟨rfl, rfl⟩
              · omega
              all_goals
                go_wp2_with fail
                refine (unhide HT).mono ?_
                rintro e w1 ⟨rfl, rfl⟩
                go_wp2
                exact ⟨rfl, .inr ⟨HN.out, rfl⟩, HPP.out.2⟩
          · have HN : Hid (G = some (m + zs.getD K 0 % 128 * wt, K + 1)) := HX.out.symm.trans (by rw [show 4 - j = (3 - j) + 1 from by omega]; exact gnF_yes zs _ K m wt hr' hd hb)
            generalize zs.getD K 0 = z at *
            have HT := hide hT
            clear hT HX
            have hb1 : m + z % 128 * wt ≤ 16777215 := by omega
            have hb2 : z = 0 → wt ≤ 1 := by intro h; omega
            clear hb
            by_cases hz : z = 0
            · have hw1 := hb2 hz
              have hz0 : (z == 0) = true := by simp [hz]
              clear hz hb2
              rcases hw3 with ⟨rfl, rfl⟩ | ⟨rfl, rfl⟩ | ⟨rfl, rfl⟩ | ⟨rfl, rfl⟩
              · go_wp2_with fail
                refine (unhide HT).mono ?_
                rintro e w1 ⟨rfl, rfl⟩
                go_wp2
                go_ret
                exact ⟨.inl ⟨_, _, HN.out, ret_int (by omega), HPP.out.1⟩, HPP.out.2⟩
              · omega
              · omega
              · omega
            · have hz0 : (z == 0) = false := by simp [hz]
              clear hz hb2
              rcases hw3 with ⟨rfl, rfl⟩ | ⟨rfl, rfl⟩ | ⟨rfl, rfl⟩ | ⟨rfl, rfl⟩
              all_goals
                go_wp2_with fail
                refine (unhide HT).mono ?_
                rintro e w1 ⟨rfl, rfl⟩
                go_wp2
                go_ret
                exact ⟨.inl ⟨_, _, HN.out, ret_int (by omega), HPP.out.1⟩, HPP.out.2⟩
        · have HN : Hid (gnF zs (3 - j) (K + 1) (m + zs.getD K 0 % 128 * wt) (wt * 128) = G) := (by
            have := HX.out
            rw [show 4 - j = (3 - j) + 1 from by omega, gnF_on zs _ K m wt hr' (by omega)] at this
            exact this)
          generalize zs.getD K 0 = z at *
          have HT := hide hT
          clear hT HX
          rcases hw3 with ⟨rfl, rfl⟩ | ⟨rfl, rfl⟩ | ⟨rfl, rfl⟩ | ⟨rfl, rfl⟩
          · have HN2 : Hid (gnF zs (4 - 1) (k0 + 1) (m + z % 128) 128 = G) := by
              have h1 := HN.out
              have h2 := HK.out
              rw [show k0 + 1 = K + 1 from by omega, ← h1]
              congr 1
              omega
            have HP2 : Hid (W1.heap[p]? = some (.cells #[.int .i64 ((k0 + 1 : Nat) : Int)] 3 (0, 0))) := by
              have h2 := HK.out
              rw [show k0 + 1 = K + 1 from by omega]
              exact HPP.out.1
            go_wp2_with fail
            refine (unhide HT).mono ?_
            rintro e w1 ⟨rfl, rfl⟩
            go_wp2
            exact ⟨⟨1, m + z % 128, 128, by omega, by omega, by omega, by omega, rfl, rfl, rfl, HN2, HP2, HPP.out.2⟩, by simp [intOf]⟩
          · have HN2 : Hid (gnF zs (4 - 2) (k0 + 2) (m + z % 128 * 128) 16384 = G) := by
              have h1 := HN.out
              have h2 := HK.out
              rw [show k0 + 2 = K + 1 from by omega, ← h1]
              congr 1
            have HP2 : Hid (W1.heap[p]? = some (.cells #[.int .i64 ((k0 + 2 : Nat) : Int)] 3 (0, 0))) := by
              have h2 := HK.out
              rw [show k0 + 2 = K + 1 from by omega]
              exact HPP.out.1
            go_wp2_with fail
            refine (unhide HT).mono ?_
            rintro e w1 ⟨rfl, rfl⟩
            go_wp2
            exact ⟨⟨2, m + z % 128 * 128, 16384, by omega, by omega, by omega, by omega, rfl, rfl, rfl, HN2, HP2, HPP.out.2⟩, by simp [intOf]⟩
          · have HN2 : Hid (gnF zs (4 - 3) (k0 + 3) (m + z % 128 * 16384) 2097152 = G) := by
              have h1 := HN.out
              have h2 := HK.out
              rw [show k0 + 3 = K + 1 from by omega, ← h1]
              congr 1
            have HP2 : Hid (W1.heap[p]? = some (.cells #[.int .i64 ((k0 + 3 : Nat) : Int)] 3 (0, 0))) := by
              have h2 := HK.out
              rw [show k0 + 3 = K + 1 from by omega]
              exact HPP.out.1
            go_wp2_with fail
            refine (unhide HT).mono ?_
            rintro e w1 ⟨rfl, rfl⟩
            go_wp2
            exact ⟨⟨3, m + z % 128 * 16384, 2097152, by omega, by omega, by omega, by omega, rfl, rfl, rfl, HN2, HP2, HPP.out.2⟩, by simp [intOf]⟩
          · have HN2 : Hid (gnF zs (4 - 4) (k0 + 4) (m + z % 128 * 2097152) 268435456 = G) := by
              have h1 := HN.out
              have h2 := HK.out
              rw [show k0 + 4 = K + 1 from by omega, ← h1]
              congr 1
            have HP2 : Hid (W1.heap[p]? = some (.cells #[.int .i64 ((k0 + 4 : Nat) : Int)] 3 (0, 0))) := by
              have h2 := HK.out
              rw [show k0 + 4 = K + 1 from by omega]
              exact HPP.out.1
            go_wp2_with fail
            refine (unhide HT).mono ?_
            rintro e w1 ⟨rfl, rfl⟩
            go_wp2
            exact ⟨⟨4, m + z % 128 * 2097152, 268435456, by omega, by omega, by omega, by omega, rfl, rfl, rfl, HN2, HP2, HPP.out.2⟩, by simp [intOf]⟩
      · have hE2 := takeByteNo wr a len cap p K t v HP.out (by omega) hE'
        have HN : Hid (G = none) := HX.out.symm.trans (gnF_end zs _ _ _ _ (by omega))
        clear hin hin' hE hE' hp hl
        rcases hw3 with ⟨rfl, rfl⟩ | ⟨rfl, rfl⟩ | ⟨rfl, rfl⟩ | ⟨rfl, rfl⟩
        all_goals
          go_wp2_with fail
          refine hE2.mono ?_
          rintro e w1 ⟨rfl, rfl⟩
          go_wp2
          exact ⟨rfl, .inr ⟨HN.out, rfl⟩, HG.out⟩

set_option maxRecDepth 100000 in
set_option maxHeartbeats 1000000 in
theorem takeNumNeg (w : World) (a : Option Addr) (len cap : Nat) (p : Nat) (k : Int) (t : TypeId) (v : Value) (hk : k < 0) (hE : Err w t v)
    (hp : w.heap[p]? = some (.cells #[.int .i64 k] 3 (0, 0))) :
    Calls Tryd.prog 69 #[.slice a len cap, .pointer (some ⟨p, 0, none⟩)] w (took w p t v none) := by
  have HT := hide (takeByteNo w a len cap p k t v hp (by omega) hE)
  clear hp hE hk
  go_enter Tryd.func69, Tryd.ntmps69
  go_wp2
  go_loopw [5, 6, 8] (fun n x i wr => n = .int .i64 0 ∧ x = .int .i64 1 ∧ i = .int .i64 0 ∧ wr = w) (fun _ _ _ _ => 0)
  case atStart => exact ⟨rfl, rfl, rfl, rfl⟩
  case round =>
    obtain ⟨rfl, rfl, rfl, rfl⟩ := hrel
    go_wp2_with fail
    refine (unhide HT).mono ?_
    rintro e w1 ⟨rfl, rfl⟩
    go_wp2
    exact ⟨rfl, .inr ⟨rfl, rfl⟩, World.grownBy.refl _ _⟩
end Go.Proofs.YtkfnpijljpbiaaaDoor
/-
  The variables of a face over a reader.
-/
namespace Go.Proofs.YtkfnpijljpbiaaaDoor
open Go.RowKit

/-- The four new variables, behind a call that has turned none but the last one. -/
theorem four_new {w w1 : World} {x0 : Value} {T : TypeId} {k : Int} (hg : ((((w.alloc (.cells #[x0] T)).alloc (.cells #[.int .i64 0] 3)).alloc (.cells #[.bool false] 4)).alloc (.cells #[.int .i64 k] 3)).grownBy w1 (some (w.heap.size + 1 + 1 + 1))) :
    w1.heap[w.heap.size]? = some (.cells #[x0] T (0, 0)) ∧ w1.heap[w.heap.size + 1]? = some (.cells #[.int .i64 0] 3 (0, 0)) ∧ w1.heap[w.heap.size + 1 + 1]? = some (.cells #[.bool false] 4 (0, 0)) ∧ Below w.heap.size w w1 := by
  have hs : ((((w.alloc (.cells #[x0] T)).alloc (.cells #[.int .i64 0] 3)).alloc (.cells #[.bool false] 4)).alloc (.cells #[.int .i64 k] 3)).heap.size = w.heap.size + 4 := by simp
  have e0 := heap_alloc_new w (.cells #[x0] T)
  have e1 := heap_alloc_new (w.alloc (.cells #[x0] T)) (.cells #[.int .i64 0] 3)
  have e2 := heap_alloc_new ((w.alloc (.cells #[x0] T)).alloc (.cells #[.int .i64 0] 3)) (.cells #[.bool false] 4)
  have n1 : (w.alloc (.cells #[x0] T)).heap.size = w.heap.size + 1 := by simp
  have n2 : ((w.alloc (.cells #[x0] T)).alloc (.cells #[.int .i64 0] 3)).heap.size = w.heap.size + 1 + 1 := by simp
  have n3 : (((w.alloc (.cells #[x0] T)).alloc (.cells #[.int .i64 0] 3)).alloc (.cells #[.bool false] 4)).heap.size = w.heap.size + 1 + 1 + 1 := by simp
  rw [n1] at e1
  rw [n2] at e2
  refine ⟨?_, ?_, ?_, ?_⟩
  · rw [hg.block _ (by omega) (by simp; omega), Below.heap_alloc _ _ _ (by omega), Below.heap_alloc _ _ _ (by omega), Below.heap_alloc _ _ _ (by omega), e0]
  · rw [hg.block _ (by omega) (by simp), Below.heap_alloc _ _ _ (by omega), Below.heap_alloc _ _ _ (by omega), e1]
  · rw [hg.block _ (by omega) (by simp), Below.heap_alloc _ _ _ (by omega), e2]
  · exact ((((Below.refl _ _).alloc (Nat.le_refl _) _).alloc (by simp) _).alloc (by simp; omega) _ |>.alloc (by simp; omega) _).grown hg (by simp; omega) (fun k hk => by cases hk; omega)

theorem Err.low {w W : World} {t : TypeId} {v : Value} (h : Err w t v) (hb : Below w.heap.size w W) (h0 : 0 < w.heap.size) : Err W t v :=
  (hb.cell (p := ⟨0, 0, none⟩) h0).trans h

end Go.Proofs.YtkfnpijljpbiaaaDoor
/-
  What readAt does with takeNum: the number, the place behind it and true; 0, 0 and false, where there is none.
-/
namespace Go.Proofs.YtkfnpijljpbiaaaDoor
open Go.RowKit

/-- What readAt answers. -/
def ans (r : Option (Int × Nat)) : Value :=
  match r with
  | some (n, nx) => .tuple #[.int .i64 n, .int .i64 (nx : Int), .bool true]
  | none => .tuple #[.int .i64 0, .int .i64 0, .bool false]

end Go.Proofs.YtkfnpijljpbiaaaDoor
