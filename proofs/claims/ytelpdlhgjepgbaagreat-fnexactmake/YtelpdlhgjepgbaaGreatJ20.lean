/-
  Joined: MmRK, DeepApp.
-/
import Derived.Test.YtelpdlhgjepgbaaGreatJ19
import Derived.Test.YtelpdlhgjepgbaaGreatJ3
import Derived.Maps.AppendAt
/-
  Memories as data. Marks, and what is held.
-/
namespace Go.Proofs.YtelpdlhgjepgbaaGreat
open Go.ChangeShapes Go.WideShapes Go.RowKit

def mkoMm (k : Nat) (x : Mm) : Mm := ⟨mkObs (k) x.o, mkLks (k + cntObs x.o) x.l⟩
def mmCto (x : Mm) : Nat := cntObs x.o + cntLks x.l
theorem mmCto_le (x : Mm) : mmCto x ≤ 8 * mmW x := by
  have h_o := cntObs_le x.o
  have h_l := cntLks_le x.l
  unfold mmCto mmW
  omega
theorem mmD_owns {w : World} {b : Nat} {x : Mm} {u1 u2 : Value} {F : List Nat} (h : OwnsL w b (mmD x) [u1, u2] F) :
    ∃ F1 F2, F = F1 ++ (F2) ∧ Owns w b (obs x.o) u1 F1 ∧ Owns w b (lks x.l) u2 F2 := by
  unfold mmD at h
  obtain ⟨_, _, F1, _, e, rfl, h0, h⟩ := ownsL_cons h
  cases e
  obtain ⟨_, _, F2, _, e, rfl, h1, h⟩ := ownsL_cons h
  cases e
  unfold OwnsL at h
  refine ⟨F1, F2, ?_, h0, h1⟩
  rw [h.2]
  simp
theorem mmD_mk {w : World} {b : Nat} {x : Mm} {u1 u2 : Value} {F1 F2 : List Nat} (h1 : Owns w b (obs x.o) u1 F1) (h2 : Owns w b (lks x.l) u2 F2) : OwnsL w b (mmD x) [u1, u2] (F1 ++ (F2)) := by
  have := ownsL_mk h1 (ownsL_mk h2 (ownsL_nil))
  simp at this
  exact this
set_option maxRecDepth 100000 in
set_option maxHeartbeats 4000000 in
theorem mkMmO (w : World) (b K : Nat) (x : Mm) (u1 u2 : Value) (F : List Nat) (h : OwnsL w b (mmD x) [u1, u2] F) (hnd : F.Nodup) (hK : 0 < K) (hm : K + mmCto x ≤ 100000000) :
    Calls Tryz.prog 13 #[mmV x u1 u2, .int .i64 (K : Int)] w fun e w' => e = .returned (.int .i64 ((K + mmCto x : Nat) : Int)) ∧ OwnsL w' b (mmD (mkoMm K x)) [u1, u2] F ∧ Chg F w w' := by
  obtain ⟨F1, F2, rfl, h1, h2⟩ := mmD_owns h
  obtain ⟨a1, k1, e1⟩ := h1.sl
  obtain ⟨a2, k2, e2⟩ := h2.sl
  subst e1 e2
  have n1 := List.nodup_append.1 hnd
  have hcc : mmCto x = cntObs x.o + cntLks x.l := rfl
  have G0 := hide (heap_alloc_new w (.cells #[.slice a1 x.o.length k1, .slice a2 x.l.length k2] 34))
  have bA := (Below.refl w.heap.size w).alloc (Nat.le_refl _) (.cells #[.slice a1 x.o.length k1, .slice a2 x.l.length k2] 34)
  have L1 := Owns.lt _ _ _ h1
  have H1 := hide (h1.same (fun q hq => bA.block q (L1 q hq).2))
  have L2 := Owns.lt _ _ _ h2
  have H2 := hide (h2.same (fun q hq => bA.block q (L2 q hq).2))
  have HC := hide (Chg.of_below (F := F1 ++ (F2)) bA)
  have D01 : Hid (w.heap.size ∉ F1) := hide (fun hm => by have := (L1 _ hm).2; omega)
  have D02 : Hid (w.heap.size ∉ F2) := hide (fun hm => by have := (L2 _ hm).2; omega)
  have D12 : Hid (∀ q ∈ F2, q ∉ F1) := hide (fun q hq hq' => n1.2.2 q hq' q (by simp [hq]) rfl)
  have D21 : Hid (∀ q ∈ F1, q ∉ F2) := hide (fun q hq hq' => n1.2.2 q hq q (by simp [hq']) rfl)
  have N1 := hide n1.1
  have S1 : Hid (∀ q ∈ F1, q ∈ F1 ++ (F2)) := hide (fun q hq => by simp [hq])
  have N2 := hide n1.2.1
  have S2 : Hid (∀ q ∈ F2, q ∈ F1 ++ (F2)) := hide (fun q hq => by simp [hq])
  clear h1 L1 h2 L2 n1 bA h
  unfold mmV
  go_enter Tryz.func13, Tryz.ntmps13
  go_wp2_with fail
  generalize w.alloc (.cells #[.slice a1 x.o.length k1, .slice a2 x.l.length k2] 34) = W at *
  refine (mkObsR _ b (K) _ rfl _ x.o F1 H1.out N1.out (by omega) (by omega)).mono ?_
  rintro e w1 ⟨rfl, o1, c1⟩
  replace H1 := hide o1
  replace H2 := hide (H2.out.same (fun q hq => c1.block q (Owns.lt _ _ _ H2.out q hq).2 (D12.out q hq)))
  replace G0 := hide ((c1.block _ (Array.getElem?_eq_some_iff.1 G0.out).1 D01.out).trans G0.out)
  replace HC := hide (HC.out.trans (c1.mono S1.out))
  clear o1 c1
  have f1 := (box_of G0.out).1 1 _ rfl
  go_wp2_with fail
  clear f1
  refine (mkLksR _ b (K + cntObs x.o) _ rfl _ x.l F2 H2.out N2.out (by omega) (by omega)).mono ?_
  rintro e w2 ⟨rfl, o2, c2⟩
  replace H2 := hide o2
  replace H1 := hide (H1.out.same (fun q hq => c2.block q (Owns.lt _ _ _ H1.out q hq).2 (D21.out q hq)))
  replace HC := hide (HC.out.trans (c2.mono S2.out))
  clear o2 c2
  have HF := hide (mmD_mk (x := mkoMm K x) H1.out H2.out)
  have HE : Hid (K + mmCto x = K + cntObs x.o + cntLks x.l) := hide (by omega)
  go_wp2
  go_ret
  exact ⟨by rw [HE.out]; rfl, HF.out, HC.out⟩
theorem mkMmI (w : World) (b hi K : Nat) (m : Int) (hmK : m = (K : Int)) (x : Mm) (u1 u2 : Value) (h : OwnDL w b hi (mmD x) [u1, u2]) (hK : 0 < K) (hm : K + mmCto x ≤ 100000000) :
    Calls Tryz.prog 13 #[mmV x u1 u2, .int .i64 m] w fun e w' => e = .returned (.int .i64 ((K + mmCto x : Nat) : Int)) ∧ OwnDL w' b hi (mmD (mkoMm K x)) [u1, u2] ∧ ChgI b hi w w' := by
  subst hmK
  obtain ⟨F, h1, h2, h3⟩ := h
  have hl := OwnsL.lt _ _ _ h1
  refine (mkMmO w b K x u1 u2 F h1 h2 hK hm).mono ?_
  rintro e w1 ⟨rfl, o1, c1⟩
  exact ⟨rfl, ⟨F, o1, h2, h3⟩, c1.int (fun q hq => ⟨(hl q hq).1, h3 q hq⟩)⟩
set_option maxRecDepth 100000 in
set_option maxHeartbeats 4000000 in
theorem heldMmO (w : World) (K : Nat) (m : Int) (hmK : m = (K : Int)) (x : Mm) (u1 u2 : Value) (h : ReadsL w w.heap.size (mmD (mkoMm K x)) [u1, u2]) (hK : 0 < K) (hm : K + mmCto x ≤ 100000000) :
    Calls Tryz.prog 14 #[mmV x u1 u2, .int .i64 m] w fun e w' => e = .returned (.int .i64 ((K + mmCto x : Nat) : Int)) ∧ Below w.heap.size w w' := by
  subst hmK
  obtain ⟨_, _, e, h1, h⟩ := readsL_cons h
  cases e
  obtain ⟨_, _, e, h2, h⟩ := readsL_cons h
  cases e
  replace h1 : Reads w w.heap.size (obs (mkObs (K) x.o)) u1 := h1
  replace h2 : Reads w w.heap.size (lks (mkLks (K + cntObs x.o) x.l)) u2 := h2
  obtain ⟨a1, k1, e1, _⟩ := h1.shape
  obtain ⟨a2, k2, e2, _⟩ := h2.shape
  subst e1 e2
  clear h
  rw [mkObs_len] at h1 ⊢
  rw [mkLks_len] at h2 ⊢
  have hc : mmCto x = cntObs x.o + cntLks x.l := rfl
  have HC : Hid (K + mmCto x = K + cntObs x.o + cntLks x.l) := hide (by omega)
  have bA := (Below.refl w.heap.size w).alloc (Nat.le_refl _) (.cells #[.slice a1 x.o.length k1, .slice a2 x.l.length k2] 34)
  have HX := hide (Box.new w #[.slice a1 x.o.length k1, .slice a2 x.l.length k2] 34)
  have HB := hide bA
  have H1 := hide (h1.at bA)
  have H2 := hide (h2.at bA)
  have hgs : Hid (w.heap.size < (w.alloc (.cells #[.slice a1 x.o.length k1, .slice a2 x.l.length k2] 34)).heap.size) := hide (by simp)
  clear bA h1 h2
  unfold mmV
  go_enter Tryz.func14, Tryz.ntmps14
  go_wp2_with fail
  generalize w.alloc (.cells #[.slice a1 x.o.length k1, .slice a2 x.l.length k2] 34) = W at *
  refine (heldObsR _ (K) _ rfl _ x.o H1.out (by omega) (by omega)).mono ?_
  rintro e w1 ⟨rfl, b1⟩
  replace HX := hide (HX.out.below hgs.out b1)
  replace hgs := hide (Nat.lt_of_lt_of_le hgs.out b1.size)
  replace H2 := hide (H2.out.at b1)
  replace HB := hide (HB.out.trans (b1.mono HB.out.size))
  clear b1
  have hn1 : ¬ (((K + cntObs x.o : Nat) : Int) < 0) := by omega
  have f1 := HX.out 1 _ rfl
  go_wp2_with fail
  clear f1 hn1
  refine (heldLksR _ (K + cntObs x.o) _ rfl _ x.l H2.out (by omega) (by omega)).mono ?_
  rintro e w2 ⟨rfl, b2⟩
  replace HX := hide (HX.out.below hgs.out b2)
  replace hgs := hide (Nat.lt_of_lt_of_le hgs.out b2.size)
  replace HB := hide (HB.out.trans (b2.mono HB.out.size))
  clear b2
  have hn2 : ¬ (((K + cntObs x.o + cntLks x.l : Nat) : Int) < 0) := by omega
  go_wp2
  go_ret
  exact ⟨by rw [HC.out]; rfl, HB.out⟩
end Go.Proofs.YtelpdlhgjepgbaaGreat
/-
  One more row, with data of its own, behind a row of one's own.
-/
namespace Go.Proofs.YtelpdlhgjepgbaaGreat
open Go.RowKit

theorem ownD_nil (w : World) (b hi : Nat) (T : TypeId) (k : Nat) : OwnD w b hi (.row T k 0 []) (.slice none 0 0) := by
  refine ⟨[], ?_, List.nodup_nil, fun q hq => by simp at hq⟩
  unfold Owns
  exact ⟨[], [], World.ownsRow_nil _ _ _ _, ownsL_nil, rfl⟩
theorem appD {w : World} {ops : Array Oper} {rest : List Oper} {o : Oper} {act : Act} {Q : Exit → Act → World → Prop} (hgd : o.guard = none) (s x : Operand) (t : TypeId)
    (ho : o.op = .call { callee := .builtin .append, args := #[s, x], argTypes := #[t, t] }) (base hi m : Nat) (T : TypeId) (i : TypeInfo) (z : Value) (k bytes : Nat) (ht : Tryz.prog.underlying t = some (.slice T)) (hin : Tryz.prog.info? T = some i) (hz : i.zero = some z)
    (hsize : i.size = k) (hby : i.bytes = bytes) (hzs : z.cells.size = k) (hk : 0 < k) (v : Value) (n : Nat) (cs : List Dt) (hs : act.eval s = v) (hown : OwnD w base hi (.row T k n cs) v)
    (g c : Nat) (us : List Value) (ds : List Dt) (hx : act.eval x = .slice (some ⟨g, 0, none⟩) 1 c) (hbox : Box w g us) (hds : OwnDL w m w.heap.size ds us) (hl : us.length = k) (h1 : ∀ u ∈ us, u.oneCell' = true) (h63 : n ≤ 1000000) (hbytes : bytes ≤ 1000)
    (hm : hi ≤ m) (hbm : base ≤ m) (hms : m ≤ w.heap.size)
    (h : ∀ v' w', OwnD w' base w'.heap.size (.row T k (n + 1) (cs ++ ds)) v' → w.grownBy w' v.ownBlock → (∀ q, v.ownBlock = some q → base ≤ q ∧ q < hi) → wpList Tryz.prog ops Q rest (act.put o.dst v') w') :
    wpList Tryz.prog ops Q (o :: rest) act w := by
  obtain ⟨F, h2, h3, h4⟩ := hown
  have hlt := Owns.lt _ _ _ h2
  unfold Owns at h2
  obtain ⟨vs, G, h5, h6, rfl⟩ := h2
  obtain ⟨F', g1, g2, g3⟩ := hds
  have hlt' := OwnsL.lt _ _ _ g1
  refine wpList_append_own_at w hgd s x t ho base T i z k bytes ht hin hz hsize hby hzs hk v n vs hs h5 ⟨g, 0, none⟩ 1 c us hx (by rw [hl, Nat.one_mul]) (fun j u hu => by rw [Addr.add_lit, Nat.zero_add]; exact hbox j u hu) h1 (by unfold maxLen; omega) ?_ (by omega) ?_
  · have := Nat.mul_le_mul (show n + 1 ≤ 1000001 by omega) hbytes
    omega
  · intro v' w' ho' hg' _ hat
    have hv : ∀ q, v.ownBlock = some q → base ≤ q ∧ q < hi := fun q hq => ⟨(World.ownsRow.lt h5 q hq).1, h4 q (by rw [hq]; simp)⟩
    refine h v' w' ?_ hg' hv
    have nd := List.nodup_append.1 h3
    have kG : OwnsL w' base cs vs G := h6.same (fun q hq => hg'.block q (hlt q (by simp [hq])).2 (fun e => by
      have hq' : q ∈ v.ownBlock.toList := by rw [← e]; simp
      exact nd.2.2 q hq' q hq rfl))
    have kF : OwnsL w' base ds us F' := (g1.mono hbm).same (fun q hq => hg'.block q (hlt' q hq).2 (fun e => by
      have a := (hv q e.symm).2
      have b := (hlt' q hq).1
      omega))
    have hv' : ∀ q, v'.ownBlock = some q → q ∉ G ∧ q ∉ F' := fun q hq => by
      rcases hat with e | e
      · rw [e] at hq
        exact ⟨fun hm' => by
          have hq' : q ∈ v.ownBlock.toList := by rw [hq]; simp
          exact nd.2.2 q hq' q hm' rfl, fun hm' => by
          have a := (hv q hq).2
          have b := (hlt' q hm').1
          omega⟩
      · rw [e] at hq
        cases hq
        exact ⟨fun hm' => by have := (hlt _ (List.mem_append.2 (.inr hm'))).2; omega, fun hm' => by have := (hlt' _ hm').2; omega⟩
    refine ⟨v'.ownBlock.toList ++ (G ++ F'), ?_, ?_, ?_⟩
    · unfold Owns
      exact ⟨vs ++ us, G ++ F', ho', kG.join kF, rfl⟩
    · refine List.nodup_append.2 ⟨by cases v'.ownBlock <;> simp, List.nodup_append.2 ⟨nd.2.1, g2, fun a ha b hb e => ?_⟩, fun a ha b hb e => ?_⟩
      · subst e
        have p1 := h4 a (by simp [ha])
        have p2 := (hlt' a hb).1
        omega
      · subst e
        have := hv' a (by simpa using ha)
        rcases List.mem_append.1 hb with hb | hb
        · exact this.1 hb
        · exact this.2 hb
    · intro q hq
      rcases List.mem_append.1 hq with hq | hq
      · exact (World.ownsRow.lt ho' q (by simpa using hq)).2
      · rcases List.mem_append.1 hq with hq | hq
        · exact Nat.lt_of_lt_of_le (hlt q (by simp [hq])).2 hg'.size
        · exact Nat.lt_of_lt_of_le (hlt' q hq).2 hg'.size
end Go.Proofs.YtelpdlhgjepgbaaGreat
