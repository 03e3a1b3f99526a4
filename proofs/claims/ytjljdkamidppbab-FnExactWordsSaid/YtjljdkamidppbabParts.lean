/- The iterator over a text's parts: what it yields, for every loop body that keeps what it reads. -/
import Derived.Test.YtjljdkamidppbabPartsL
import Derived.RangeFuncNested
import Derived.RangeFuncBound
import Derived.RangeFuncCalls
import Derived.RangeFuncLeaves
import Derived.RangeFuncBox
import Derived.Shelf.Abstract
import Derived.Shelf.RegionOpen
import Derived.WalkKit
import Derived.OwnWalkIn
import Derived.TacticsInMore
import Derived.LoopNIn
import Derived.LoopIn
import Derived.Lib.OthersKept
import Derived.Outline
import Derived.WalkSpells
namespace Go.Proofs.Ytjljdkamidppbab
open Go.RowKit Go.Shelf
attribute [local go_sem] Oper.semAt_some

/-- a rune that begins beyond ASCII: all of its bytes do -/
theorem decode_wide (s : ByteArray) (pos : Nat) (h : pos < s.size) (ha : 128 ≤ (s[pos]'h).toNat) :
    1 ≤ (Utf8.decode s pos).2 ∧ pos + (Utf8.decode s pos).2 ≤ s.size ∧ ∀ j (hj : pos + j < s.size), j < (Utf8.decode s pos).2 → 128 ≤ (s[pos + j]'hj).toNat := by
  have g : ∀ k, (pos + k < s.size && (s.get! (pos + k)).toNat / 64 == 2) = true → ∃ hk : pos + k < s.size, 128 ≤ (s[pos + k]'hk).toNat := by
    intro k hk
    simp only [Bool.and_eq_true, decide_eq_true_eq, beq_iff_eq] at hk
    refine ⟨hk.1, ?_⟩
    have e := get_at s (pos + k) hk.1
    rw [Nat.add_zero] at e
    rw [← e]
    omega
  have h0 := get_at s pos h
  have hn : ¬ (s[pos]'h).toNat < 128 := by omega
  have one : ∀ j (hj : pos + j < s.size), j < 1 → 128 ≤ (s[pos + j]'hj).toNat := by
    intro j hj h1
    obtain rfl : j = 0 := by omega
    simpa using ha
  simp only [Utf8.decode, h0, hn, if_false]
  split
  · rename_i h1
    simp only [Bool.and_eq_true] at h1
    obtain ⟨k1, b1⟩ := g 1 (by simpa using h1.2)
    split
    · refine ⟨by show 1 ≤ 2; omega, by show pos + 2 ≤ _; omega, ?_⟩
      intro j hj hj2
      have : j = 0 ∨ j = 1 := by change j < 2 at hj2; omega
      rcases this with rfl | rfl
      · exact one 0 hj (by decide)
      · exact b1
    · exact ⟨Nat.le_refl 1, by show pos + 1 ≤ _; omega, one⟩
  · split
    · rename_i h1
      simp only [Bool.and_eq_true] at h1
      obtain ⟨k1, b1⟩ := g 1 (by simpa using h1.1.2)
      obtain ⟨k2, b2⟩ := g 2 (by simpa using h1.2)
      split
      · refine ⟨by show 1 ≤ 3; omega, by show pos + 3 ≤ _; omega, ?_⟩
        intro j hj hj2
        have : j = 0 ∨ j = 1 ∨ j = 2 := by change j < 3 at hj2; omega
        rcases this with rfl | rfl | rfl
        · exact one 0 hj (by decide)
        · exact b1
        · exact b2
      · exact ⟨Nat.le_refl 1, by show pos + 1 ≤ _; omega, one⟩
    · split
      · rename_i h1
        simp only [Bool.and_eq_true] at h1
        obtain ⟨k1, b1⟩ := g 1 (by simpa using h1.1.1.2)
        obtain ⟨k2, b2⟩ := g 2 (by simpa using h1.1.2)
        obtain ⟨k3, b3⟩ := g 3 (by simpa using h1.2)
        split
        · refine ⟨by show 1 ≤ 4; omega, by show pos + 4 ≤ _; omega, ?_⟩
          intro j hj hj2
          have : j = 0 ∨ j = 1 ∨ j = 2 ∨ j = 3 := by change j < 4 at hj2; omega
          rcases this with rfl | rfl | rfl | rfl
          · exact one 0 hj (by decide)
          · exact b1
          · exact b2
          · exact b3
        · exact ⟨Nat.le_refl 1, by show pos + 1 ≤ _; omega, one⟩
      · exact ⟨Nat.le_refl 1, by show pos + 1 ≤ _; omega, one⟩

def KeepsBoxes (Bs : Nat) (A B : World) : Prop := KeepsWalks A B ∧ B.heap[Bs]? = A.heap[Bs]? ∧ B.heap[Bs + 1]? = A.heap[Bs + 1]?
theorem grown_iterAt (w : World) (k : Nat) (s : ByteArray) (pos : Nat) : w.grownBy (w.iterAt k s pos) (some k) :=
  ⟨rfl, rfl, rfl, by rw [Lib.iterAt_size]; exact Nat.le_refl _, fun j _ hj => Lib.iterAt_other w k j s pos (fun e => hj (by rw [e]))⟩
theorem block_cell {w : World} {b : Nat} {v : Value} {w' : World} (hc : w.cell? ⟨b, 0, none⟩ = some v) (h : w'.heap[b]? = w.heap[b]?) : w'.cell? ⟨b, 0, none⟩ = some v :=
  (World.cell?_of_block (a := ⟨b, 0, none⟩) h).trans hc

end Go.Proofs.Ytjljdkamidppbab
