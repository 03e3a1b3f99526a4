/- Rows in the laws: copied in, marked, held. -/
import Derived.Test.YtfkpecildcejkaaRw
namespace Go.Proofs.Ytfkpecildcejkaa
open Go.RowKit

/-- what a mark leaves from number k on -/
def markR (k : Int) : Rw := ⟨k, k + 1, k + 1 + 1, k + 1 + 1 + 1, (k + 1 + 1 + 1 + 1) % 3 == 0⟩
def markRs (k : Int) : Nat → List Rw
  | 0 => []
  | n + 1 => markRs k n ++ [markR (k + 5 * n)]
theorem markRs_len (k : Int) : ∀ n, (markRs k n).length = n
  | 0 => rfl
  | n + 1 => by simp [markRs, markRs_len k n]

theorem markRs_get (k0 : Int) : ∀ (n k : Nat) (h : k < (markRs k0 n).length), (markRs k0 n)[k]'h = markR (k0 + 5 * (k : Int))
  | 0, k, h => absurd h (by simp [markRs])
  | n + 1, k, h => by
    simp only [markRs]
    by_cases hk : k < n
    · rw [List.getElem_append_left (by rw [markRs_len]; exact hk)]
      exact markRs_get k0 n k _
    · have h' : k < n + 1 := by rw [markRs_len] at h; exact h
      obtain rfl : k = n := by omega
      rw [List.getElem_append_right (by rw [markRs_len]; exact Nat.le_refl _)]
      simp

end Go.Proofs.Ytfkpecildcejkaa
