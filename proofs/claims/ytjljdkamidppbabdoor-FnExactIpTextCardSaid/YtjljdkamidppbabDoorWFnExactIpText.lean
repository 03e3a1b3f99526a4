/- The walk of FnExactIpText out of the contracts. -/
import Derived.Test.YtjljdkamidppbabDoorIpText
namespace Go.Proofs.YtjljdkamidppbabDoor
open Go.RowKit

theorem walk_FnExactIpText (n : Int) (_ : (Lit.int .i64 n).wf = true) (w : World) (ht : Tab w) :
    Calls Tryd.prog 3 #[.int .i64 n] w fun e w' => e = .returned (.bool true) ∧ Below w.heap.size w w' := by
  have HT := Lib.hid ht; clear ht
  by_cases h : isIp n
  · go_enter Tryd.func3, Tryd.ntmps3
    go_wp2_with fail
    refine (ipText_spec n h _).mono ?_
    rintro e w1 ⟨rfl, rfl⟩
    go_wp2_with fail
    refine (ipText_impl n h _ HT.out).mono ?_
    rintro e w2 ⟨rfl, hb⟩
    go_wp2_with fail
    go_ret
    exact ⟨rfl, hb⟩
  · go_enter Tryd.func3, Tryd.ntmps3
    go_wp2_with fail
    refine (ipText_spec_no n h _).mono ?_
    rintro e w1 ⟨rfl, rfl⟩
    go_wp2_with fail
    refine (ipText_impl_no n h _).mono ?_
    rintro e w2 ⟨rfl, rfl⟩
    go_wp2_with fail
    go_ret
    exact ⟨rfl, Below.refl _ _⟩
end Go.Proofs.YtjljdkamidppbabDoor
