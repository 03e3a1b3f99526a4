/- The walks of chapter 4's exact laws. -/
import Derived.Test.YtgnckbcpnailbaaGetIgI
namespace Go.Proofs.Ytgnckbcpnailbaa
open Go.RowKit

theorem walk_FnExactIgmpOk (g : Ig) (_ : g.fits) (w : World) : Calls Try.prog 5 #[g.val] w fun e w' => e = .returned (.bool true) ∧ Below w.heap.size w w' :=
  walk_FnExactIgmpOk_of igmpOk_impl g w
theorem walk_FnExactIgmpTo (g : Ig) (_ : g.fits) (w : World) : Calls Try.prog 7 #[g.val] w fun e w' => e = .returned (.bool true) ∧ Below w.heap.size w w' :=
  walk_FnExactIgmpTo_of igmpTo_impl g w
theorem walk_FnExactPutIgmp (g : Ig) (_ : g.fits) (w : World) : Calls Try.prog 8 #[g.val] w fun e w' => e = .returned (.bool true) ∧ Below w.heap.size w w' :=
  walk_FnExactPutIgmp_of putIgmp_impl_all g w
theorem walk_FnExactSum16 (s : ByteArray) (_ : s.size ≤ maxLen) (w : World) : Calls Try.prog 6 #[.string s] w fun e w' => e = .returned (.bool true) ∧ Below w.heap.size w w' :=
  walk_FnExactSum16_of (fun s w h => (sum16_impl s w h).mono fun e w' h => ⟨h.1, by rw [← h.2]; exact Below.refl _ _⟩) s w
end Go.Proofs.Ytgnckbcpnailbaa
