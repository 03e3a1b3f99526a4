/- The draws of a text come to an end: a measure of the cursor's state. -/
import Derived.Test.YtfkpecildcejkaaLcg
import Derived.Test.YtfkpecildcejkaaDrawF
namespace Go.Proofs.Ytfkpecildcejkaa
open Go.RowKit

/-- a number's residue: the generator's state -/
def res (h : Int) : Nat := (h % 18446744073709551616).toNat
theorem res_lt (h : Int) : res h < lcgM := by unfold res lcgM; omega
theorem wrap64_emod (n : Int) : wrap64 n % 18446744073709551616 = n % 18446744073709551616 := by unfold wrap64; omega
theorem hash_emod (h : Int) : hashF h % 18446744073709551616 = (h % 18446744073709551616 * 6364136223846793005 + 1442695040888963407) % 18446744073709551616 := by
  unfold hashF
  rw [wrap64_emod, Int.add_emod, wrap64_emod, Int.mul_emod, ← Int.add_emod, Int.add_emod (h % 18446744073709551616 * 6364136223846793005), Int.mul_emod (h % 18446744073709551616), Int.emod_emod]
  rw [← Int.add_emod]
theorem res_hash (h : Int) : res (hashF h) = lcg (res h) := by
  obtain ⟨k, hk⟩ := Int.eq_ofNat_of_zero_le (show 0 ≤ h % 18446744073709551616 from Int.emod_nonneg _ (by decide))
  unfold res
  rw [hash_emod, hk]
  unfold lcg lcgM
  rw [show ((k : Int) * 6364136223846793005 + 1442695040888963407) % 18446744073709551616 = (((k * 6364136223846793005 + 1442695040888963407) % 18446744073709551616 : Nat) : Int) from by rw [Int.natCast_emod, Int.natCast_add, Int.natCast_mul]; rfl]
  rw [Int.toNat_natCast, Int.toNat_natCast]

def win (x : Nat) : Prop := x = 8 ∨ x = 15462296684244204215 ∨ x = 6702960577162501242
instance (x : Nat) : Decidable (win x) := by unfold win; infer_instance
theorem lcg_8 : lcg 8 = 15462296684244204215 := by unfold lcg lcgM; decide
theorem lcg_w1 : lcg 15462296684244204215 = 6702960577162501242 := by unfold lcg lcgM; decide

/-- how far the generator is from where a text must grow -/
noncomputable def mu (x : Nat) : Nat := if win x then 0 else lcgD x
theorem mu_lt (x : Nat) (hx : x < lcgM) : mu x < lcgM := by
  unfold mu
  split
  · exact lcgM_pos
  · exact (lcgD_spec x hx).1
theorem mu_le (x : Nat) : mu x ≤ lcgD x := by unfold mu; split <;> omega
theorem mu_one (x : Nat) (hx : x < lcgM) (h : ¬ win x) : mu (lcg x) < mu x := by
  have h8 : x ≠ 8 := fun e => h (.inl e)
  have hs := lcgD_step x hx h8
  have hl := mu_le (lcg x)
  have e : mu x = lcgD x := by unfold mu; rw [if_neg h]
  omega
theorem mu_three (x : Nat) (hx : x < lcgM) (h : ¬ win x) : mu (lcg (lcg (lcg x))) < mu x := by
  have h8 : x ≠ 8 := fun e => h (.inl e)
  have e : mu x = lcgD x := by unfold mu; rw [if_neg h]
  have s1 := lcgD_step x hx h8
  by_cases h1 : lcg x = 8
  · have ew : mu (lcg (lcg (lcg x))) = 0 := by rw [h1, lcg_8, lcg_w1]; unfold mu; rw [if_pos (.inr (.inr rfl))]
    omega
  · have s2 := lcgD_step (lcg x) (lcg_lt _) h1
    by_cases h2 : lcg (lcg x) = 8
    · have ew : mu (lcg (lcg (lcg x))) = 0 := by rw [h2, lcg_8]; unfold mu; rw [if_pos (.inr (.inl rfl))]
      omega
    · have s3 := lcgD_step (lcg (lcg x)) (lcg_lt _) h2
      have hl := mu_le (lcg (lcg (lcg x)))
      omega

theorem hash_win (h : Int) (hw : win (res h)) : hashF h = (-2984447389465347401) ∨ hashF h = 6702960577162501242 ∨ hashF h = (-929496508085319487) := by
  unfold win at hw
  rcases hw with hw | hw | hw
  · left; unfold res at hw; unfold hashF wrap64; omega
  · right; left; unfold res at hw; unfold hashF wrap64; omega
  · right; right; unfold res at hw; unfold hashF wrap64; omega
/-- the byte that comes of a number alone -/
def xorF (h : Int) : Int := bits .xor .i64 (h / 8589934592) (h / 35184372088832) % 256
theorem xor_win : xorF (-2984447389465347401) % 5 ≠ 1 ∧ xorF (-2984447389465347401) % 5 ≠ 2 ∧ xorF 6702960577162501242 % 5 ≠ 1 ∧ xorF 6702960577162501242 % 5 ≠ 2 ∧ xorF (-929496508085319487) % 5 ≠ 1 ∧ xorF (-929496508085319487) % 5 ≠ 2 := by decide +kernel

/-- the measure of a cursor's state -/
noncomputable def curM (len : Nat) (s : Nat × Int) : Nat := (len - s.1) * lcgM + mu (res s.2)
theorem curM_lt (len : Nat) (s : Nat × Int) : curM len s < (len + 1) * lcgM := by
  unfold curM
  have h := mu_lt (res s.2) (res_lt _)
  have h2 : (len - s.1) * lcgM ≤ len * lcgM := Nat.mul_le_mul_right _ (by omega)
  rw [Nat.add_mul, Nat.one_mul]
  omega

theorem byteF_st (len : Nat) (zs : List Int) (s : Nat × Int) : (byteF len zs s).2 = (if s.1 < len then s.1 + 1 else s.1, hashF s.2) := by
  unfold byteF
  simp only
  split <;> rfl

/-- the state behind one byte, and behind three -/
def next1 (len : Nat) (s : Nat × Int) : Nat × Int := (if s.1 < len then s.1 + 1 else s.1, hashF s.2)
theorem below_st (len : Nat) (zs : List Int) (n : Int) (s : Nat × Int) : (belowF len zs n s).2 = next1 len s := by
  unfold belowF
  exact byteF_st len zs s

theorem cur_on (len : Nat) (s : Nat × Int) (t : Nat × Int) (hs : s.1 < len) (ht : s.1 + 1 ≤ t.1) : curM len t < curM len s := by
  unfold curM
  have h := mu_lt (res t.2) (res_lt _)
  have h2 : (len - t.1) * lcgM ≤ (len - s.1 - 1) * lcgM := Nat.mul_le_mul_right _ (by omega)
  have h3 : (len - s.1) * lcgM = (len - s.1 - 1) * lcgM + lcgM := by
    rw [show len - s.1 = (len - s.1 - 1) + 1 from by omega, Nat.add_mul, Nat.one_mul]
    rfl
  omega

theorem sel_win (len : Nat) (zs : List Int) (s : Nat × Int) (hs : ¬ s.1 < len) (h : (belowF len zs 5 s).1 = 1 ∨ (belowF len zs 5 s).1 = 2) : ¬ win (res s.2) := by
  intro hw
  have hx := hash_win s.2 hw
  have e : (belowF len zs 5 s).1 = xorF (hashF s.2) % 5 := by
    unfold belowF byteF xorF
    simp only [if_neg hs]
  rw [e] at h
  obtain ⟨a1, a2, b1, b2, c1, c2⟩ := xor_win
  rcases hx with hx | hx | hx <;> rw [hx] at h
  · exact h.elim a1 a2
  · exact h.elim b1 b2
  · exact h.elim c1 c2

theorem curM_one (len : Nat) (zs : List Int) (s : Nat × Int) (h : (belowF len zs 5 s).1 = 1 ∨ (belowF len zs 5 s).1 = 2) : curM len (next1 len s) < curM len s := by
  by_cases hs : s.1 < len
  · exact cur_on len s _ hs (by unfold next1; simp only [if_pos hs]; exact Nat.le_refl _)
  · have hw := sel_win len zs s hs h
    have := mu_one _ (res_lt s.2) hw
    unfold curM next1
    simp only [if_neg hs, res_hash]
    omega
theorem next1_ge (len : Nat) (s : Nat × Int) : s.1 ≤ (next1 len s).1 := by unfold next1; simp only; split <;> omega
theorem curM_three (len : Nat) (zs : List Int) (s : Nat × Int) (h : (belowF len zs 5 s).1 = 1 ∨ (belowF len zs 5 s).1 = 2) : curM len (next1 len (next1 len (next1 len s))) < curM len s := by
  by_cases hs : s.1 < len
  · refine cur_on len s _ hs (Nat.le_trans ?_ (Nat.le_trans (next1_ge len _) (next1_ge len _)))
    unfold next1
    simp only [if_pos hs]
    exact Nat.le_refl _
  · have hw := sel_win len zs s hs h
    have := mu_three _ (res_lt s.2) hw
    unfold curM next1
    simp only [if_neg hs, res_hash]
    omega
end Go.Proofs.Ytfkpecildcejkaa
