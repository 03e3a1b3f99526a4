/- The walks of chapter 4's exact laws. -/
import Derived.Test.YtgnckbcpnailbabGetIgI
namespace Go.Proofs.Ytgnckbcpnailbab
open Go.RowKit

theorem walk_FnExactGetIgmp (s : ByteArray) (hm : s.size ≤ maxLen) (w : World) : Calls Try.prog 3 #[.string s] w fun e w' => e = .returned (.bool true) ∧ Below w.heap.size w w' :=
  walk_FnExactGetIgmp_of getIgmp_impl s hm w
end Go.Proofs.Ytgnckbcpnailbab
