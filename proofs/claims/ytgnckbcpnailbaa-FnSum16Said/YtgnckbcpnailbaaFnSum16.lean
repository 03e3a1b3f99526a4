/- FnSum16: its walk. -/
import Derived.Test.YtgnckbcpnailbaaSumPI
import Derived.Test.YtgnckbcpnailbaaFnSumOf
namespace Go.Proofs.Ytgnckbcpnailbaa
open Go.RowKit
theorem walk_FnSum16 (a : Option Addr) (len cap : Nat) (zs : List Int) (w : World) (hrow : IsRow .u8 w a len cap zs) :
    Calls Try.prog 4 #[.slice a len cap] w fun e w' => e = .returned (.bool true) ∧ Below w.heap.size w w' :=
  walk_FnSum16_of (fun s w h => sum16_impl s w (by omega)) a len cap zs w hrow
end Go.Proofs.Ytgnckbcpnailbaa
