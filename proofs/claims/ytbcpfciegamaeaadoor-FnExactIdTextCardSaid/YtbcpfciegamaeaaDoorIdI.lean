/- IdText of the program. -/
import Derived.Test.YtbcpfciegamaeaaDoorVcIa
import Derived.Test.YtbcpfciegamaeaaDoorIdT
namespace Go.Proofs.YtbcpfciegamaeaaDoor
open Go.RowKit

theorem idText_impl (n : Int) (hn : n ≤ 9223372036854775807) (w : World) (ht : Tab w) : Calls Tryd.prog 12 #[.int .i64 n] w fun e w' => e = .returned (.string (idText n)) ∧ Below w.heap.size w w' := by
  have h1 := idOk_impl n hn
  obtain ⟨s, hs⟩ : ∃ s, idText n = s := ⟨_, rfl⟩
  rw [hs]
  unfold idText at hs
  by_cases h : idOk n
  case neg =>
    rw [if_neg h] at hs
    subst hs
    rw [decide_eq_false h] at h1
    have H1 := Lib.hid h1
    clear h1 h hn
    go_enter Tryd.func12, Tryd.ntmps12
    go_wp2_with fail
    refine (H1.out _).mono ?_
    rintro e w1 ⟨rfl, rfl⟩
    go_wp2_with fail
    go_ret
    exact ⟨rfl, Below.refl _ _⟩
  rw [if_pos h] at hs
  obtain ⟨⟨k0, k1⟩, km⟩ := idOk_parts h
  have h2 := fun (w : World) (t : Tab w) => dec_impl (n / 281474976710656) w (by omega) (by omega) t
  have h3 := fun w => macText_impl (n % 281474976710656) km w
  have e1 : n.tdiv 281474976710656 = n / 281474976710656 := Int.tdiv_eq_ediv_of_nonneg h.1.1
  have e2 : n.tmod 281474976710656 = n % 281474976710656 := Int.tmod_eq_emod_of_nonneg h.1.1
  have e3 : wrap64 (n / 281474976710656) = n / 281474976710656 := IntWalk.wrap64_in _ (by omega)
  have hl := itoa_small k0 k1
  obtain ⟨A, hA⟩ : ∃ A : ByteArray, (⟨(Lib.itoa (n / 281474976710656)).toArray⟩ : ByteArray) = A := ⟨_, rfl⟩
  obtain ⟨B, hB⟩ : ∃ B : ByteArray, (⟨(macL (n % 281474976710656)).toArray⟩ : ByteArray) = B := ⟨_, rfl⟩
  have hAs : A.size ≤ 2 := by rw [← hA]; exact hl
  have hBs : B.size = 17 := by rw [← hB]; rfl
  rw [hA] at h2 hs
  rw [hB] at h3 hs
  rw [decide_eq_true h] at h1
  have H1 := Lib.hid h1; have H2 := Lib.hid h2; have H3 := Lib.hid h3; have HS := Lib.hid hs; have HT := Lib.hid ht
  have hsz1 : ¬ 9223372036854775807 < A.size + 1 := by omega
  have hsz2 : ¬ 9223372036854775807 < A.size + 1 + B.size := by omega
  clear h1 h2 h3 hs hA hB h hn km hl k0 k1 hBs ht
  go_enter Tryd.func12, Tryd.ntmps12
  go_wp2_with fail
  refine (H1.out _).mono ?_
  rintro e w1 ⟨rfl, rfl⟩
  go_wp2_with fail
  refine (H2.out _ HT.out).mono ?_
  rintro e w1 ⟨rfl, hb1⟩
  go_wp2_with fail
  refine (H3.out _).mono ?_
  rintro e w2 ⟨rfl, hb⟩
  have HB := Lib.hid (hb1.trans (hb.mono hb1.size))
  clear hb1 hb
  go_wp2_with fail
  go_ret
  exact ⟨by rw [← HS.out]; rfl, HB.out⟩
end Go.Proofs.YtbcpfciegamaeaaDoor
