/- A number comes back from its decimal text: plain lemmas. -/
import Derived.Test.YtjljdkamidppbabDoorReadDec
import Derived.Lib.ItoaNum
namespace Go.Proofs.YtjljdkamidppbabDoor
open Go.RowKit

theorem dec_dgt (n : Nat) : ∀ c ∈ Lib.decDigits n, dgt c := by
  induction n using Nat.strongRecOn with
  | _ n ih =>
    have hd : ∀ k : Nat, k < 10 → dgt (UInt8.ofNat (48 + k)) := by
      intro k hk
      unfold dgt
      rw [UInt8.toNat_ofNat']
      omega
    intro c hc
    rw [Lib.decDigits] at hc
    by_cases h : n < 10
    · rw [dif_pos h] at hc
      simp only [List.mem_cons, List.not_mem_nil, or_false] at hc
      subst hc
      exact hd n h
    · rw [dif_neg h] at hc
      rcases List.mem_append.1 hc with hc | hc
      · exact ih (n / 10) (by omega) c hc
      · simp only [List.mem_cons, List.not_mem_nil, or_false] at hc
        subst hc
        exact hd (n % 10) (by omega)

theorem dec_val (n : Nat) : dval (Lib.decDigits n) 0 = n := by
  induction n using Nat.strongRecOn with
  | _ n ih =>
    rw [Lib.decDigits]
    by_cases h : n < 10
    · rw [dif_pos h]
      simp only [dval]
      rw [UInt8.toNat_ofNat']
      omega
    · rw [dif_neg h, dval_append, ih (n / 10) (by omega)]
      simp only [dval]
      rw [UInt8.toNat_ofNat']
      omega

theorem dec_head (n : Nat) (h1 : 1 ≤ n) : (Lib.decDigits n).head? ≠ some 48 := by
  induction n using Nat.strongRecOn with
  | _ n ih =>
    rw [Lib.decDigits]
    by_cases h : n < 10
    · rw [dif_pos h]
      simp only [List.head?_cons, ne_eq, Option.some.injEq]
      intro e
      have := congrArg UInt8.toNat e
      rw [UInt8.toNat_ofNat'] at this
      have e48 : (48 : UInt8).toNat = 48 := rfl
      omega
    · rw [dif_neg h]
      have hl : 1 ≤ (Lib.decDigits (n / 10)).length := by rw [Lib.decDigits_length]; exact Lib.nDigits_pos _
      have := ih (n / 10) (by omega) (by omega)
      cases hd : Lib.decDigits (n / 10) with
      | nil => rw [hd] at hl; simp at hl
      | cons c l => rw [hd] at this; simpa using this

theorem nDigits_gt (k : Nat) : ∀ u, 10 ^ k ≤ u → k < Lib.nDigits u := by
  induction k with
  | zero => intro u _; exact Lib.nDigits_pos u
  | succ k ih =>
    intro u h
    have hp : 1 ≤ 10 ^ k := Nat.one_le_pow _ _ (by decide)
    rw [Nat.pow_succ] at h
    rw [Lib.nDigits_big (by omega)]
    have := ih (u / 10) (by omega)
    omega

/-- what ReadDec answers at a number's text -/
theorem readD_itoa (n : Int) : readD (Lib.itoa n) = if 0 ≤ n ∧ n ≤ 999999999 then n else -1 := by
  by_cases h0 : n < 0
  · have e : Lib.itoa n = 45 :: Lib.decDigits n.natAbs := by unfold Lib.itoa; rw [if_pos h0]
    rw [e, if_neg (by omega)]
    unfold readD
    have hv : digV 10 45 = -1 := by decide +kernel
    simp only [rdL, hv]
    split
    · rfl
    · rw [if_pos (by decide)]
  · obtain ⟨N, rfl⟩ := Int.eq_ofNat_of_zero_le (show 0 ≤ n by omega)
    have e : Lib.itoa (N : Int) = Lib.decDigits N := by unfold Lib.itoa; rw [if_neg (by omega)]; rfl
    rw [e]
    unfold readD
    have hl := Lib.decDigits_length N
    have hp := Lib.nDigits_pos N
    by_cases h9 : N ≤ 999999999
    · have hn := nDigits_le 8 N (by omega)
      rw [if_neg, if_pos (by omega), show (0 : Int) = ((0 : Nat) : Int) from rfl, rdL_digits _ (dec_dgt N), dec_val]
      rintro (h | h | ⟨h1, h2⟩)
      · omega
      · omega
      · by_cases hN : 1 ≤ N
        · exact dec_head N hN h2
        · obtain rfl : N = 0 := by omega
          rw [Lib.decDigits_length, Lib.nDigits_small (by decide)] at h1
          omega
    · have hn := nDigits_gt 9 N (by omega)
      rw [if_pos (.inr (.inl (by omega))), if_neg (by omega)]
end Go.Proofs.YtjljdkamidppbabDoor
