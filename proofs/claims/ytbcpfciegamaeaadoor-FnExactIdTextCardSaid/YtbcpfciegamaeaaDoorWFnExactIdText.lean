/- The walk of FnExactIdText. -/
import Derived.Test.YtbcpfciegamaeaaDoorIdI
namespace Go.Proofs.YtbcpfciegamaeaaDoor
open Go.RowKit

theorem walk_FnExactIdText (n : Int) (hn : (Lit.int .i64 n).wf = true) (w : World) (ht : Tab w) :
    Calls Tryd.prog 4 #[.int .i64 n] w fun e w' => e = .returned (.bool true) ∧ Below w.heap.size w w' := by
  have hs := idText_spec n
  have hi := fun w => idText_impl n (wf_top hn) w
  generalize idText n = s at hs hi
  have HS := Lib.hid hs; have HI := Lib.hid hi; have HT := Lib.hid ht
  clear hs hi ht hn
  go_enter Tryd.func4, Tryd.ntmps4
  go_wp2_with fail
  refine (HS.out _).mono ?_
  rintro e w1 ⟨rfl, hb1⟩
  have HB := Lib.hid hb1
  clear hb1
  go_wp2_with fail
  refine (HI.out _ (HT.out.after HB.out)).mono ?_
  rintro e w2 ⟨rfl, hb2⟩
  have HB := Lib.hid (HB.out.trans (hb2.mono HB.out.size))
  clear hb2
  go_wp2_with fail
  go_ret
  exact ⟨rfl, HB.out⟩
end Go.Proofs.YtbcpfciegamaeaaDoor
