/- FnIgmp: its walk. -/
import Derived.Test.YtgnckbcpnailbaaGetIgI
import Derived.Test.YtgnckbcpnailbaaFnIgmpOf
namespace Go.Proofs.Ytgnckbcpnailbaa
open Go.RowKit
theorem walk_FnIgmp (a : Option Addr) (len cap : Nat) (zs : List Int) (w : World) (hrow : IsRow .u8 w a len cap zs) :
    Calls Try.prog 3 #[.slice a len cap] w fun e w' => e = .returned (.bool true) ∧ Below w.heap.size w w' :=
  walk_FnIgmp_of (fun s w h => (sum16_impl s w h).mono fun e w' h => ⟨h.1, by rw [← h.2]; exact Below.refl _ _⟩) igmpTo_impl putIgmp_impl_all getIgmp_impl a len cap zs w hrow
end Go.Proofs.Ytgnckbcpnailbaa
