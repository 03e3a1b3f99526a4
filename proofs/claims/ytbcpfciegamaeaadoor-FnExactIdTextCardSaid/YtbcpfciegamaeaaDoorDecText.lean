/- DecText of the program: by the kit's contract for strconv.Itoa. -/
import Derived.Test.YtbcpfciegamaeaaDoorDec
import Derived.Test.YtbcpfciegamaeaaDoorTab
import Derived.Test.YtbcpfciegamaeaaDoorShelf
import Derived.Lib.AppendIntMem
namespace Go.Proofs.YtbcpfciegamaeaaDoor
open Go.RowKit

theorem dec_any (n : Int) (w : World) (h0 : -9223372036854775808 ≤ n) (h1 : n ≤ 9223372036854775807) :
    Calls Tryd.prog 13 #[.int .i64 n] w fun e w' => e = .returned (.string ⟨(Lib.itoa n).toArray⟩) ∧ w = w' := by
  by_cases hz : n = 0
  · subst hz; exact dec_zero w
  · by_cases hp : 0 < n
    · obtain ⟨N, rfl⟩ := Int.eq_ofNat_of_zero_le (show 0 ≤ n by omega)
      have e : Lib.itoa (N : Int) = Lib.decDigits N := by unfold Lib.itoa; rw [if_neg (by omega)]; rfl
      rw [e]
      exact dec_pos N w (by omega) (by omega)
    · obtain ⟨N, hN⟩ := Int.eq_ofNat_of_zero_le (show 0 ≤ -n by omega)
      obtain rfl : n = -(N : Int) := by omega
      have e : Lib.itoa (-(N : Int)) = 45 :: Lib.decDigits N := by unfold Lib.itoa; rw [if_pos (by omega)]; congr 2; omega
      rw [e]
      exact dec_neg N w (by omega) (by omega)

theorem dec_impl (n : Int) (w : World) (h0 : -9223372036854775808 ≤ n) (h1 : n ≤ 9223372036854775807) (ht : Tab w) :
    Calls Tryd.prog 29 #[.int .i64 n] w fun e w' => e = .returned (.string ⟨(Lib.itoa n).toArray⟩) ∧ Below w.heap.size w w' := by
  go_enter Tryd.func29, Tryd.ntmps29
  go_wp2_with (go_at_call 41; refine (Tryd.strconv_Itoa n h0 h1 _ ht).mono ?_; rintro e w1 ⟨rfl, hw1⟩)
  go_ret
  obtain ⟨k, os, rfl⟩ := hw1
  exact ⟨rfl, Lib.below_grow _ w (Nat.le_refl _) k os⟩

theorem Tab.below {w w' : World} {B : Nat} (h : Tab w) (hb : Below B w w') (hB : 0 < B) : Tab w' := by
  unfold Tab Lib.TabIs at *
  exact var?_below hb tab_global hB h
theorem Tab.after {w w' : World} (h : Tab w) (hb : Below w.heap.size w w') : Tab w' :=
  h.below hb (World.block_lt_of_cell? _ _ (Lib.TabIs.cell h tab_global 0 (by rw [Lib.pow10Tab_length]; decide)))
end Go.Proofs.YtbcpfciegamaeaaDoor
