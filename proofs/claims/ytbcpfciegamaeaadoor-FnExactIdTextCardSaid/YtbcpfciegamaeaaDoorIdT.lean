/- IdText of the model. -/
import Derived.Test.YtbcpfciegamaeaaDoorVc
import Derived.Test.YtbcpfciegamaeaaDoorMacText
import Derived.Test.YtbcpfciegamaeaaDoorDecText
namespace Go.Proofs.YtbcpfciegamaeaaDoor
open Go.RowKit

/-- a bridge's number as a text -/
def idText (n : Int) : ByteArray := if idOk n then ⟨(Lib.itoa (n / 281474976710656)).toArray⟩ ++ ⟨#[46]⟩ ++ ⟨(macL (n % 281474976710656)).toArray⟩ else ⟨#[]⟩
theorem idOk_parts {n : Int} (h : idOk n) : (0 ≤ n / 281474976710656 ∧ n / 281474976710656 ≤ 15) ∧ isMac (n % 281474976710656) := by
  obtain ⟨⟨h0, h1⟩, _⟩ := h
  unfold isMac
  omega
theorem itoa_small {n : Int} (h0 : 0 ≤ n) (h1 : n ≤ 15) : (Lib.itoa n).length ≤ 2 := by
  have h : n = 0 ∨ n = 1 ∨ n = 2 ∨ n = 3 ∨ n = 4 ∨ n = 5 ∨ n = 6 ∨ n = 7 ∨ n = 8 ∨ n = 9 ∨ n = 10 ∨ n = 11 ∨ n = 12 ∨ n = 13 ∨ n = 14 ∨ n = 15 := by omega
  rcases h with rfl | rfl | rfl | rfl | rfl | rfl | rfl | rfl | rfl | rfl | rfl | rfl | rfl | rfl | rfl | rfl <;> decide +kernel

theorem idText_spec (n : Int) (w : World) : Calls Tryd.prog 17 #[.int .i64 n] w fun e w' => e = .returned (.string (idText n)) ∧ Below w.heap.size w w' := by
  have h1 := isId_spec n
  obtain ⟨s, hs⟩ : ∃ s, idText n = s := ⟨_, rfl⟩
  rw [hs]
  unfold idText at hs
  by_cases h : idOk n
  case neg =>
    rw [if_neg h] at hs
    subst hs
    rw [decide_eq_false h] at h1
    have H1 := Lib.hid h1
    clear h1 h
    go_enter Tryd.func17, Tryd.ntmps17
    go_wp2_with fail
    refine (H1.out _).mono ?_
    rintro e w1 ⟨rfl, rfl⟩
    go_wp2_with fail
    go_ret
    exact ⟨rfl, Below.refl _ _⟩
  rw [if_pos h] at hs
  obtain ⟨⟨k0, k1⟩, km⟩ := idOk_parts h
  have h2 := fun w => dec_any (n / 281474976710656) w (by omega) (by omega)
  have h3 := fun w => macText_spec (n % 281474976710656) km w
  have e1 : n.tdiv 281474976710656 = n / 281474976710656 := Int.tdiv_eq_ediv_of_nonneg h.1.1
  have e2 : n.tmod 281474976710656 = n % 281474976710656 := Int.tmod_eq_emod_of_nonneg h.1.1
  have e3 : wrap64 (n / 281474976710656) = n / 281474976710656 := IntWalk.wrap64_in _ (by omega)
  have hl := itoa_small k0 k1
  obtain ⟨A, hA⟩ : ∃ A : ByteArray, (⟨(Lib.itoa (n / 281474976710656)).toArray⟩ : ByteArray) = A := ⟨_, rfl⟩
  obtain ⟨B, hB⟩ : ∃ B : ByteArray, (⟨(macL (n % 281474976710656)).toArray⟩ : ByteArray) = B := ⟨_, rfl⟩
  have hAs : A.size ≤ 2 := by rw [← hA]; exact hl
  have hBs : B.size = 17 := by rw [← hB]; rfl
  rw [hA] at h2 hs
  rw [hB] at h3 hs
  rw [decide_eq_true h] at h1
  have H1 := Lib.hid h1; have H2 := Lib.hid h2; have H3 := Lib.hid h3; have HS := Lib.hid hs
  have hsz1 : ¬ 9223372036854775807 < A.size + 1 := by omega
  have hsz2 : ¬ 9223372036854775807 < A.size + 1 + B.size := by omega
  clear h1 h2 h3 hs hA hB h km hl k0 k1 hBs
  go_enter Tryd.func17, Tryd.ntmps17
  go_wp2_with fail
  refine (H1.out _).mono ?_
  rintro e w1 ⟨rfl, rfl⟩
  go_wp2_with fail
  refine (H2.out _).mono ?_
  rintro e w1 ⟨rfl, rfl⟩
  go_wp2_with fail
  refine (H3.out _).mono ?_
  rintro e w1 ⟨rfl, hb⟩
  go_wp2_with fail
  go_ret
  exact ⟨by rw [← HS.out]; rfl, hb⟩
end Go.Proofs.YtbcpfciegamaeaaDoor
