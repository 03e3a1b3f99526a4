/- The order of vectors, plain. -/
import Derived.Test.YtbcpfciegamaeaaVc
namespace Go.Proofs.Ytbcpfciegamaeaa
open Go.RowKit

theorem cmpN_zero {a b : Int} : cmpN a b = 0 ↔ a = b := by unfold cmpN; split <;> (try split) <;> omega
theorem cmpN_neg (a b : Int) : cmpN b a = - cmpN a b := by unfold cmpN; split <;> split <;> (try split) <;> omega
theorem cmpN_in (a b : Int) : -1 ≤ cmpN a b ∧ cmpN a b ≤ 1 := by unfold cmpN; split <;> (try split) <;> omega
theorem cmpN_pos {a b : Int} : cmpN a b ≤ 0 ↔ a ≤ b := by unfold cmpN; split <;> (try split) <;> omega
theorem cmpVc_zero (a b : Vc) : cmpVc a b = 0 ↔ a = b := by
  obtain ⟨a0, a1, a2, a3⟩ := a
  obtain ⟨b0, b1, b2, b3⟩ := b
  unfold cmpVc
  simp only [Vc.mk.injEq]
  have h0 := cmpN_zero (a := a0) (b := b0)
  have h1 := cmpN_zero (a := a1) (b := b1)
  have h2 := cmpN_zero (a := a2) (b := b2)
  have h3 := cmpN_zero (a := a3) (b := b3)
  split
  · rename_i k; exact ⟨fun h => absurd h k, fun h => absurd (h0.2 h.1) k⟩
  · split
    · rename_i k; exact ⟨fun h => absurd h k, fun h => absurd (h1.2 h.2.1) k⟩
    · split
      · rename_i k; exact ⟨fun h => absurd h k, fun h => absurd (h2.2 h.2.2.1) k⟩
      · rename_i k0 k1 k2
        exact ⟨fun h => ⟨h0.1 (Decidable.not_not.1 k0), h1.1 (Decidable.not_not.1 k1), h2.1 (Decidable.not_not.1 k2), h3.1 h⟩, fun h => h3.2 h.2.2.2⟩
theorem cmpVc_neg (a b : Vc) : cmpVc b a = - cmpVc a b := by
  unfold cmpVc
  rw [cmpN_neg a.root b.root, cmpN_neg a.cost b.cost, cmpN_neg a.bridge b.bridge, cmpN_neg a.port b.port]
  split <;> split <;> (try omega) <;> split <;> split <;> (try omega) <;> split <;> split <;> omega
theorem cmpVc_in (a b : Vc) : -1 ≤ cmpVc a b ∧ cmpVc a b ≤ 1 := by
  have h0 := cmpN_in a.root b.root
  have h1 := cmpN_in a.cost b.cost
  have h2 := cmpN_in a.bridge b.bridge
  have h3 := cmpN_in a.port b.port
  unfold cmpVc
  split
  · omega
  · split
    · omega
    · split <;> omega
/-- less or one, field by field -/
theorem cmpVc_le (a b : Vc) : cmpVc a b ≤ 0 ↔ a.root < b.root ∨ a.root = b.root ∧ (a.cost < b.cost ∨ a.cost = b.cost ∧ (a.bridge < b.bridge ∨ a.bridge = b.bridge ∧ a.port ≤ b.port)) := by
  unfold cmpVc cmpN
  by_cases h0 : a.root < b.root
  · simp [h0]
  · by_cases h0' : b.root < a.root
    · simp [h0, h0']; omega
    · have e0 : a.root = b.root := by omega
      by_cases h1 : a.cost < b.cost
      · simp [e0, h1]
      · by_cases h1' : b.cost < a.cost
        · simp [e0, h1, h1']; omega
        · have e1 : a.cost = b.cost := by omega
          by_cases h2 : a.bridge < b.bridge
          · simp [e0, e1, h2]
          · by_cases h2' : b.bridge < a.bridge
            · simp [e0, e1, h2, h2']; omega
            · have e2 : a.bridge = b.bridge := by omega
              by_cases h3 : a.port < b.port
              · simp [e0, e1, e2, h3]; omega
              · by_cases h3' : b.port < a.port
                · simp [e0, e1, e2, h3, h3']
                · simp [e0, e1, e2, h3, h3']; omega
theorem cmpVc_trans {a b c : Vc} (h : cmpVc a b ≤ 0) (k : cmpVc b c ≤ 0) : cmpVc a c ≤ 0 := by
  rw [cmpVc_le] at h k ⊢
  omega
end Go.Proofs.Ytbcpfciegamaeaa
