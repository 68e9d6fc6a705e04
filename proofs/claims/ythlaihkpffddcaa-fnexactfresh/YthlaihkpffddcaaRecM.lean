/-
  What marks leave of rows of texts, places, consts and fields, in one form.
-/
import Derived.Test.YthlaihkpffddcaaRecD
import Derived.Test.YthlaihkpffddcaaKfMk
import Derived.Test.YthlaihkpffddcaaInsTo
import Derived.Test.YthlaihkpffddcaaDeepCh
namespace Go.Proofs.Ythlaihkpffddcaa
open Go.RowKit

def mkStrs (k : Nat) (xs : List ByteArray) : List ByteArray := mkSs k xs.length
def cntStrs (xs : List ByteArray) : Nat := xs.length
theorem mkStrs_len (k : Nat) (xs : List ByteArray) : (mkStrs k xs).length = xs.length := mkSs_len k _
theorem cntStrs_le (xs : List ByteArray) : cntStrs xs ≤ 8 * strsW xs := by unfold cntStrs strsW; omega
def mkInss (k : Nat) (xs : List Isn) : List Isn := mkIs k xs.length
def cntInss (xs : List Isn) : Nat := 2 * xs.length
theorem mkInss_len (k : Nat) (xs : List Isn) : (mkInss k xs).length = xs.length := mkIs_len k _
theorem cntInss_le (xs : List Isn) : cntInss xs ≤ 8 * inssW xs := by unfold cntInss inssW; omega
def mkPool (k : Nat) (xs : List Kc) : List Kc := mkKs k xs.length
def cntPool (xs : List Kc) : Nat := 4 * xs.length
theorem mkPool_len (k : Nat) (xs : List Kc) : (mkPool k xs).length = xs.length := mkKs_len k _
theorem cntPool_le (xs : List Kc) : cntPool xs ≤ 8 * poolW xs := by unfold cntPool poolW; omega
def mkFlds (k : Nat) (xs : List Fd) : List Fd := mkFs k xs.length
def cntFlds (xs : List Fd) : Nat := 2 * xs.length
theorem mkFlds_len (k : Nat) (xs : List Fd) : (mkFlds k xs).length = xs.length := mkFs_len k _
theorem cntFlds_le (xs : List Fd) : cntFlds xs ≤ 8 * fldsW xs := by unfold cntFlds fldsW; omega
theorem mkStrsR (w : World) (b K : Nat) (m : Int) (hmK : m = (K : Int)) (v : Value) (xs : List ByteArray) (F : List Nat) (h : Owns w b (strs xs) v F) (hnd : F.Nodup) (hK : 0 < K) (hm : K + cntStrs xs ≤ 100000000) :
    Calls Try.prog 105 #[v, .int .i64 m] w fun e w' => e = .returned (.int .i64 ((K + cntStrs xs : Nat) : Int)) ∧ Owns w' b (strs (mkStrs K xs)) v F ∧ Chg F w w' := by
  subst hmK
  exact mkStI w b K _ rfl v xs F h hnd hK hm
theorem mkInssR (w : World) (b K : Nat) (m : Int) (hmK : m = (K : Int)) (v : Value) (xs : List Isn) (F : List Nat) (h : Owns w b (inss xs) v F) (hnd : F.Nodup) (_hK : 0 < K) (hm : K + cntInss xs ≤ 100000000) :
    Calls Try.prog 106 #[v, .int .i64 m] w fun e w' => e = .returned (.int .i64 ((K + cntInss xs : Nat) : Int)) ∧ Owns w' b (inss (mkInss K xs)) v F ∧ Chg F w w' := by
  subst hmK
  exact mkIns w b K v xs F h hnd hm
theorem mkPoolR (w : World) (b K : Nat) (m : Int) (hmK : m = (K : Int)) (v : Value) (xs : List Kc) (F : List Nat) (h : Owns w b (pool xs) v F) (hnd : F.Nodup) (hK : 0 < K) (hm : K + cntPool xs ≤ 100000000) :
    Calls Try.prog 83 #[v, .int .i64 m] w fun e w' => e = .returned (.int .i64 ((K + cntPool xs : Nat) : Int)) ∧ Owns w' b (pool (mkPool K xs)) v F ∧ Chg F w w' := by
  subst hmK
  exact mkKcs w b K v xs F h hnd hK hm
theorem mkFldsR (w : World) (b K : Nat) (m : Int) (hmK : m = (K : Int)) (v : Value) (xs : List Fd) (F : List Nat) (h : Owns w b (flds xs) v F) (hnd : F.Nodup) (hK : 0 < K) (hm : K + cntFlds xs ≤ 100000000) :
    Calls Try.prog 84 #[v, .int .i64 m] w fun e w' => e = .returned (.int .i64 ((K + cntFlds xs : Nat) : Int)) ∧ Owns w' b (flds (mkFlds K xs)) v F ∧ Chg F w w' := by
  subst hmK
  exact mkFds w b K v xs F h hnd hK hm
end Go.Proofs.Ythlaihkpffddcaa
