/-
  What the model's MsgOf does.
-/
import Derived.Test.YtoaenoakdbieaaaDoorMsgOfX
import Derived.Test.YtoaenoakdbieaaaDoorMsgOfY
namespace Go.Proofs.YtoaenoakdbieaaaDoor
open Go.RowKit

theorem msgOfSpec (w : World) (a : Option Addr) (len cap : Nat) (zs : List Int) (hin : In w w.heap.size a len zs) (hc0 : len ≤ cap) :
    Calls Tryd.prog 16 #[.slice a len cap] w fun e w' => ansOf w.heap.size (mOf zs) e w' ∧ Below w.heap.size w w' := by
  by_cases h : mOf zs = none
  · exact msgOfNo w a len cap zs hin hc0 h
  · exact msgOfYes w a len cap zs hin hc0 h
end Go.Proofs.YtoaenoakdbieaaaDoor
