/- The walk of FnExactPutFrame out of the contracts. -/
import Derived.Test.YtiajeialcmcppaaFrL
import Derived.Test.YtiajeialcmcppaaPutFrI
namespace Go.Proofs.Ytiajeialcmcppaa
open Go.RowKit

theorem walk_FnExactPutFrame (f : Fr) (hf : f.fits) (w : World) :
    Calls Try.prog 6 #[f.val] w fun e w' => e = .returned (.bool true) ∧ Below w.heap.size w w' := by
  have hm := hf.2.2.2.2.2
  clear hf
  have hz := szFrame_any f
  have ht := toFrame_any f
  obtain ⟨b, hs, hi⟩ : ∃ b : ByteArray, (f.body.size ≤ 1048576 → ∀ w, Calls Try.prog 19 #[f.val] w fun e w' => e = .returned (.string b) ∧ Below w.heap.size w w') ∧
      (f.body.size ≤ 1048576 → ∀ w, Calls Try.prog 10 #[f.val] w fun e w' => e = .returned (.string b) ∧ Below w.heap.size w w') := by
    by_cases hok : frOk f
    · exact ⟨_, fun _ w => putFrame_spec f hok w, fun _ w => putFrame_impl f hok w⟩
    · exact ⟨_, fun h w => putFrame_no f hok h w, fun h w => putFrame_impl_no f hok h w⟩
  obtain ⟨dst, src, tagged, vid, pri, type, body⟩ := f
  unfold Fr.val at *
  simp only at hm hz ht hs hi ⊢
  have HS := Lib.hid hs; have HI := Lib.hid hi; have HT := Lib.hid ht; have HZ := Lib.hid hz; have HM := Lib.hid hm
  clear hs hi ht hz hm
  have hbw0 : ∀ o, Below w.heap.size w (w.alloc o) := fun o => (Below.refl _ _).alloc (Nat.le_refl _) o
  by_cases hl : body.size ≤ 1048576
  · have Hl := Lib.hid hl
    go_enter Try.func6, Try.ntmps6
    go_wp2_with fail
    refine (HZ.out _ HM.out).mono ?_
    rintro e w1 ⟨rfl, hb1⟩
    rw [if_pos Hl.out]
    obtain ⟨k0, k1, k2, k3, k4, k5, k6⟩ := cells7 hb1
    go_wp2_with fail
    refine (HT.out _).mono ?_
    rintro e w2 ⟨rfl, hb2⟩
    clear k0 k1 k2 k3 k4 k5 k6
    have hB2 := hb1.trans (hb2.mono hb1.size)
    go_wp2_with fail
    refine (HS.out Hl.out _).mono ?_
    rintro e w3 ⟨rfl, hb3⟩
    have hB3 := hB2.trans (hb3.mono hB2.size)
    obtain ⟨k0, k1, k2, k3, k4, k5, k6⟩ := cells7 hB3
    go_wp2_with fail
    refine (HT.out _).mono ?_
    rintro e w4 ⟨rfl, hb4⟩
    clear k0 k1 k2 k3 k4 k5 k6
    have hB4 := hB3.trans (hb4.mono hB3.size)
    go_wp2_with fail
    refine (HI.out Hl.out _).mono ?_
    rintro e w5 ⟨rfl, hb5⟩
    have hB5 := hB4.trans (hb5.mono hB4.size)
    go_wp2_with fail
    go_ret
    exact ⟨rfl, (hbw0 _).trans (hB5.mono (hbw0 _).size)⟩
  · have Hl := Lib.hid hl
    go_enter Try.func6, Try.ntmps6
    go_wp2_with fail
    refine (HZ.out _ HM.out).mono ?_
    rintro e w1 ⟨rfl, hb1⟩
    rw [if_neg Hl.out]
    go_wp2_with fail
    go_ret
    exact ⟨rfl, (hbw0 _).trans (hb1.mono (hbw0 _).size)⟩
end Go.Proofs.Ytiajeialcmcppaa
