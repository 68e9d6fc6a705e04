/-
  Joined: DeepCh, RecM.
-/
import Derived.Test.YtelpdlhgjepgbaaGreatJ10
import Derived.Test.YtelpdlhgjepgbaaGreatJ4
import Derived.Test.YtelpdlhgjepgbaaGreatJ6
import Derived.Test.YtelpdlhgjepgbaaGreatJ15
import Derived.Test.YtelpdlhgjepgbaaGreatJ11
/-
  All old blocks but those of an interval are as they were; sums and counts.
-/
namespace Go.Proofs.YtelpdlhgjepgbaaGreat
open Go.RowKit

/-- All old blocks but those from b on up to hi are as they were. -/
structure ChgI (b hi : Nat) (w w' : World) : Prop where
  os : w'.os = w.os
  tape : w'.tape = w.tape
  output : w'.output = w.output
  size : w.heap.size ≤ w'.heap.size
  block : ∀ q, q < w.heap.size → (q < b ∨ hi ≤ q) → w'.heap[q]? = w.heap[q]?
theorem Chg.int {F : List Nat} {b hi : Nat} {w w' : World} (h : Chg F w w') (hF : ∀ q ∈ F, b ≤ q ∧ q < hi) : ChgI b hi w w' := ⟨h.os, h.tape, h.output, h.size, fun q hq hr => h.block q hq (fun hm => by have := hF q hm; omega)⟩
theorem ChgI.below {b hi B : Nat} {w w' : World} (h : ChgI b hi w w') (hB : B ≤ b) (hs : B ≤ w.heap.size) : Below B w w' := ⟨h.os, h.tape, h.output, h.size, fun q hq => h.block q (by omega) (.inl (by omega))⟩
theorem OwnDL.apart {w w' : World} {b hi b' hi' : Nat} {cs : List Dt} {us : List Value} (h : OwnDL w b hi cs us) (hc : ChgI b' hi' w w') (ha : hi ≤ b' ∨ hi' ≤ b) : OwnDL w' b hi cs us := h.same (fun q h1 h2 h3 => hc.block q h3 (by omega))
theorem Reads.apart {w w' : World} {B b hi : Nat} {d : Dt} {v : Value} (h : Reads w B d v) (hc : ChgI b hi w w') (hB : B ≤ b) (hs : B ≤ w.heap.size) : Reads w' B d v := h.kept (fun k hk => hc.block k (by omega) (.inl (by omega)))
theorem tot_cnt {α : Type} (c g : α → Nat) (h : ∀ x, c x ≤ 8 * g x + 8) : ∀ xs : List α, tot c xs ≤ 8 * (xs.length + tot g xs)
  | [] => by simp [tot]
  | x :: xs => by
    have h1 := tot_cnt c g h xs
    have h2 := h x
    have e1 : tot c (x :: xs) = c x + tot c xs := by simp [tot]
    have e2 : tot g (x :: xs) = g x + tot g xs := by simp [tot]
    rw [e1, e2, List.length_cons]; omega
theorem tot_cnt0 {α : Type} (c : α → Nat) (h : ∀ x, c x ≤ 8) : ∀ xs : List α, tot c xs ≤ 8 * xs.length
  | [] => by simp [tot]
  | x :: xs => by
    have h1 := tot_cnt0 c h xs
    have h2 := h x
    have e1 : tot c (x :: xs) = c x + tot c xs := by simp [tot]
    rw [e1, List.length_cons]; omega
theorem tot_one {α : Type} (c : α → Nat) (h : ∀ x, 1 ≤ c x) : ∀ xs : List α, xs.length ≤ tot c xs
  | [] => by simp [tot]
  | x :: xs => by
    have h1 := tot_one c h xs
    have h2 := h x
    have e1 : tot c (x :: xs) = c x + tot c xs := by simp [tot]
    rw [e1, List.length_cons]; omega
theorem OwnD.apart {w w' : World} {b hi b' hi' : Nat} {d : Dt} {v : Value} (h : OwnD w b hi d v) (hc : ChgI b' hi' w w') (ha : hi ≤ b' ∨ hi' ≤ b) : OwnD w' b hi d v := h.same (fun q h1 h2 h3 => hc.block q h3 (by omega))
end Go.Proofs.YtelpdlhgjepgbaaGreat
/-
  What marks leave of rows of texts, places, consts and fields, in one form.
-/
namespace Go.Proofs.YtelpdlhgjepgbaaGreat
open Go.RowKit

def mkStrs (k : Nat) (xs : List ByteArray) : List ByteArray := mkSs k xs.length
def cntStrs (xs : List ByteArray) : Nat := xs.length
theorem mkStrs_len (k : Nat) (xs : List ByteArray) : (mkStrs k xs).length = xs.length := mkSs_len k _
theorem cntStrs_le (xs : List ByteArray) : cntStrs xs ≤ 8 * strsW xs := by unfold cntStrs strsW; omega
def mkInss (k : Nat) (xs : List Isn) : List Isn := mkIs k xs.length
def cntInss (xs : List Isn) : Nat := 2 * xs.length
theorem mkInss_len (k : Nat) (xs : List Isn) : (mkInss k xs).length = xs.length := mkIs_len k _
theorem cntInss_le (xs : List Isn) : cntInss xs ≤ 8 * inssW xs := by unfold cntInss inssW; omega
def mkPool (k : Nat) (xs : List Kc) : List Kc := mkKs k xs.length
def cntPool (xs : List Kc) : Nat := 4 * xs.length
theorem mkPool_len (k : Nat) (xs : List Kc) : (mkPool k xs).length = xs.length := mkKs_len k _
theorem cntPool_le (xs : List Kc) : cntPool xs ≤ 8 * poolW xs := by unfold cntPool poolW; omega
def mkFlds (k : Nat) (xs : List Fd) : List Fd := mkFs k xs.length
def cntFlds (xs : List Fd) : Nat := 2 * xs.length
theorem mkFlds_len (k : Nat) (xs : List Fd) : (mkFlds k xs).length = xs.length := mkFs_len k _
theorem cntFlds_le (xs : List Fd) : cntFlds xs ≤ 8 * fldsW xs := by unfold cntFlds fldsW; omega
theorem mkStrsR (w : World) (b K : Nat) (m : Int) (hmK : m = (K : Int)) (v : Value) (xs : List ByteArray) (F : List Nat) (h : Owns w b (strs xs) v F) (hnd : F.Nodup) (hK : 0 < K) (hm : K + cntStrs xs ≤ 100000000) :
    Calls Tryz.prog 79 #[v, .int .i64 m] w fun e w' => e = .returned (.int .i64 ((K + cntStrs xs : Nat) : Int)) ∧ Owns w' b (strs (mkStrs K xs)) v F ∧ Chg F w w' := by
  subst hmK
  exact mkStI w b K _ rfl v xs F h hnd hK hm
theorem mkInssR (w : World) (b K : Nat) (m : Int) (hmK : m = (K : Int)) (v : Value) (xs : List Isn) (F : List Nat) (h : Owns w b (inss xs) v F) (hnd : F.Nodup) (_hK : 0 < K) (hm : K + cntInss xs ≤ 100000000) :
    Calls Tryz.prog 80 #[v, .int .i64 m] w fun e w' => e = .returned (.int .i64 ((K + cntInss xs : Nat) : Int)) ∧ Owns w' b (inss (mkInss K xs)) v F ∧ Chg F w w' := by
  subst hmK
  exact mkIns w b K v xs F h hnd hm
theorem mkPoolR (w : World) (b K : Nat) (m : Int) (hmK : m = (K : Int)) (v : Value) (xs : List Kc) (F : List Nat) (h : Owns w b (pool xs) v F) (hnd : F.Nodup) (hK : 0 < K) (hm : K + cntPool xs ≤ 100000000) :
    Calls Tryz.prog 54 #[v, .int .i64 m] w fun e w' => e = .returned (.int .i64 ((K + cntPool xs : Nat) : Int)) ∧ Owns w' b (pool (mkPool K xs)) v F ∧ Chg F w w' := by
  subst hmK
  exact mkKcs w b K v xs F h hnd hK hm
theorem mkFldsR (w : World) (b K : Nat) (m : Int) (hmK : m = (K : Int)) (v : Value) (xs : List Fd) (F : List Nat) (h : Owns w b (flds xs) v F) (hnd : F.Nodup) (hK : 0 < K) (hm : K + cntFlds xs ≤ 100000000) :
    Calls Tryz.prog 55 #[v, .int .i64 m] w fun e w' => e = .returned (.int .i64 ((K + cntFlds xs : Nat) : Int)) ∧ Owns w' b (flds (mkFlds K xs)) v F ∧ Chg F w w' := by
  subst hmK
  exact mkFds w b K v xs F h hnd hK hm
end Go.Proofs.YtelpdlhgjepgbaaGreat
