/- The walk of FnExactReadIp out of the contracts. -/
import Derived.Test.YtjljdkamidppbabDoorReadIp
import Derived.Test.YtjljdkamidppbabDoorReadIpS
namespace Go.Proofs.YtjljdkamidppbabDoor
open Go.RowKit

theorem walk_FnExactReadIp (s : ByteArray) (hm : s.size ≤ maxLen) (w : World) :
    Calls Tryd.prog 4 #[.string s] w fun e w' => e = .returned (.bool true) ∧ Below w.heap.size w w' := by
  unfold maxLen at hm
  by_cases hs : s.size ≤ 1048576
  · go_enter Tryd.func4, Tryd.ntmps4
    go_wp2_with fail
    refine (readIp_spec s hs _).mono ?_
    rintro e w1 ⟨rfl, rfl⟩
    go_wp2_with fail
    refine (readIp_impl s hs _).mono ?_
    rintro e w2 ⟨rfl, hb⟩
    go_wp2_with fail
    go_ret
    exact ⟨rfl, hb⟩
  · have hs' : 1048576 < s.size := by omega
    go_enter Tryd.func4, Tryd.ntmps4
    go_wp2_with fail
    go_ret
    exact ⟨rfl, Below.refl _ _⟩
end Go.Proofs.YtjljdkamidppbabDoor
