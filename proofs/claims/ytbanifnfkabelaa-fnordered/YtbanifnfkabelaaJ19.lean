/-
  Joined: OrdX, DeepC.
-/
import Derived.Test.YtbanifnfkabelaaJ18
import Derived.Test.YtbanifnfkabelaaJ12
import Derived.Test.YtbanifnfkabelaaJ7
/-
  What is before what: of one thread, of three; one thread alone never races.
-/
namespace Go.Proofs.Ytbanifnfkabelaa
open Go.RowKit

theorem clash_comm (a b : Evt) : clashB b a = clashB a b := by
  rw [Bool.eq_iff_iff, clash_iff, clash_iff]
  constructor
  · rintro ⟨h1, h2, h3, h4, h5, h6⟩
    exact ⟨fun e => h1 e.symm, h2.symm, h3.symm, h5, h4, h6.symm⟩
  · rintro ⟨h1, h2, h3, h4, h5, h6⟩
    exact ⟨fun e => h1 e.symm, h2.symm, h3.symm, h5, h4, h6.symm⟩
theorem bef_thread {xs : List Evt} (he : evB xs = true) {x y : Nat} (hxy : x < y) (hy : y < xs.length) (hw : (xs.getD x default).w = (xs.getD y default).w) : beforeX xs (x : Int) (y : Int) = true := by
  rw [before_clk he hxy hy]
  exact decide_eq_true (thread_mono he y hxy hy hw _)
theorem bef_trans {xs : List Evt} (he : evB xs = true) {x y z : Nat} (hxy : x < y) (hyz : y < z) (hz : z < xs.length) (h1 : beforeX xs (x : Int) (y : Int) = true) (h2 : beforeX xs (y : Int) (z : Int) = true) : beforeX xs (x : Int) (z : Int) = true := by
  rw [before_clk he hxy (by omega)] at h1
  rw [before_clk he hyz hz] at h2
  rw [before_clk he (by omega) hz]
  have h3 := of_decide_eq_true h1
  have h4 := knowing he z hyz hz (of_decide_eq_true h2) (who xs x)
  exact decide_eq_true (by omega)
theorem race_one {ys : List Evt} (h : ∀ y ∈ ys, y.w = 1) : raceX ys = -1 := by
  have hg : ∀ i, i < ys.length → (ys.getD i default).w = 1 := fun i hi => h _ (by
    rw [List.getD_eq_getElem?_getD, List.getElem?_eq_getElem hi]
    exact List.getElem_mem hi)
  refine raceX_none (fun j hj => racesAt_no (fun i hi => ?_))
  unfold raceB
  have hc : clashB (ys.getD i default) (ys.getD j default) = false := by
    cases hc : clashB (ys.getD i default) (ys.getD j default) with
    | false => rfl
    | true =>
      have h1 := ((clash_iff _ _).1 hc).1
      rw [hg i (by omega), hg j hj] at h1
      exact absurd rfl h1
  rw [hc]
  rfl
theorem race_lt (xs : List Evt) : raceX xs < (xs.length : Int) := by
  unfold raceX
  split
  · split
    · rename_i j hj
      have := List.mem_of_find?_eq_some hj
      have := List.mem_range.1 this
      omega
    · omega
  · omega
end Go.Proofs.Ytbanifnfkabelaa
/-
  A cell of one of several rows of one's own is stored into.
-/
namespace Go.Proofs.Ytbanifnfkabelaa
open Go.RowKit

theorem OwnDL.cell {w : World} {b hi : Nat} {T : TypeId} {k n c g : Nat} {cs c1 c2 : List Dt} {v1 v2 : List Value} (h : OwnDL w b hi (c1 ++ .row T k n cs :: c2) (v1 ++ .slice (some ⟨g, 0, none⟩) n c :: v2)) (hl : v1.length = c1.length) {i : Nat} {z : Value} (hi' : cs[i]? = some (.val z)) (u : Value) :
    w.cell? ⟨g, i, none⟩ = some z ∧ w.frozen? ⟨g, i, none⟩ = false ∧ b ≤ g ∧ OwnDL (w.setCell ⟨g, i, none⟩ u) b hi (c1 ++ .row T k n (cs.set i (.val u)) :: c2) (v1 ++ .slice (some ⟨g, 0, none⟩) n c :: v2) := by
  obtain ⟨F, h1, h2, h3⟩ := h
  obtain ⟨u1, u2, F1, F2, e, rfl, h4, h5⟩ := OwnsL.app h1
  obtain ⟨rfl, rfl⟩ := List.append_inj e (by rw [h4.len, hl])
  obtain ⟨y, us, G1, G2, e2, rfl, h6, h7⟩ := ownsL_cons h5
  cases e2
  have nd := List.nodup_append.1 h2
  have nd2 := List.nodup_append.1 nd.2.1
  obtain ⟨e0, f0, hgF, ho⟩ := h6.cell nd2.1 hi' u
  have keep : ∀ {cs : List Dt} {ws : List Value} {H : List Nat}, OwnsL w b cs ws H → g ∉ H → OwnsL (w.setCell ⟨g, i, none⟩ u) b cs ws H := by
    intro cs ws H ho hm
    exact ho.same (fun q hq => heap_setCell_other w ⟨g, i, none⟩ q u (fun e => hm (by have e2 : q = g := e; rw [← e2]; exact hq)))
  refine ⟨e0, f0, (Owns.lt _ _ _ h6 g hgF).1, F1 ++ (G1 ++ G2), (keep h4 (fun hm => nd.2.2 g hm g (by simp [hgF]) rfl)).join (ownsL_mk ho (keep h7 (fun hm => nd2.2.2 g hgF g hm rfl))), h2, h3⟩
end Go.Proofs.Ytbanifnfkabelaa
