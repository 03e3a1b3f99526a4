/- IGMP packets and their bytes: plain lemmas. -/
import Derived.Test.YtgnckbcpnailbaaGetIgS
namespace Go.Proofs.Ytgnckbcpnailbaa
open Go.RowKit

theorem getL_put' (n : Int) (m : Nat) : ∀ a : Nat, ((getL (putL n m) a : Nat) : Int) = a * 256 ^ m + n % 256 ^ m := by
  induction m with
  | zero => intro a; simp [putL, getL, Int.emod_one]
  | succ m ih =>
    intro a
    have hp : (0 : Int) < 256 ^ m := Int.pow_pos (by decide)
    have e8 : (2 : Int) ^ (8 * m) = 256 ^ m := by rw [Int.pow_mul]; rfl
    simp only [putL, getL]
    rw [ih, e8, Int.pow_succ, emod_step n _ hp]
    have hb := ofNat_toNat_emod (n / 256 ^ m)
    rw [Int.natCast_add, Int.natCast_mul, hb]
    generalize n / 256 ^ m % 256 = q
    generalize n % 256 ^ m = r
    generalize (256 : Int) ^ m = N
    have e256 : ((256 : Nat) : Int) * N = N * 256 := Int.mul_comm _ _
    rw [Int.add_mul, Int.mul_assoc, e256, Int.add_assoc]

theorem getK_put' (s : ByteArray) (n : Int) (i m : Nat) (pre post : List UInt8) (h : s.data.toList = pre ++ putL n m ++ post) (hi : pre.length = i) : ((getK s i m : Nat) : Int) = n % 256 ^ m := by
  unfold getK
  have e : (s.data.toList.drop i).take m = putL n m := by
    rw [h, ← hi]
    simp only [List.append_assoc]
    rw [List.drop_left, List.take_left' (putL_length n m)]
  rw [e, getL_put']
  simp

theorem igB_len (g : Ig) : (igB g).length = 12 := by unfold igB; simp [putL_length]
theorem igK_len (g : Ig) : (igK g).length = 2 := by unfold igK; simp [putL_length]
/-- the carrier's bytes -/
def igH (g : Ig) : List UInt8 := igA ++ putL (sum16 (igA ++ [0, 0] ++ igB g) : Nat) 2 ++ igB g
/-- what is carried -/
def igT (g : Ig) : List UInt8 := igK g ++ putL (sum16 (igK g ++ [0, 0] ++ putL g.group 4) : Nat) 2 ++ putL g.group 4
theorem igL_parts (g : Ig) : igL g = igH g ++ igT g := by unfold igL igH igT; simp only [List.append_assoc]
theorem igH_len (g : Ig) : (igH g).length = 24 := by unfold igH; simp [putL_length, igB_len, igA]
theorem igT_len (g : Ig) : (igT g).length = 8 := by unfold igT; simp [putL_length, igK_len]
theorem igL_len (g : Ig) : (igL g).length = 32 := by rw [igL_parts, List.length_append, igH_len, igT_len]
/-- both checksums are right -/
theorem igH_sum (g : Ig) : sum16 (igH g) = 0 := sum16_own igA (igB g) (by decide)
theorem igT_sum (g : Ig) : sum16 (igT g) = 0 := sum16_own (igK g) (putL g.group 4) (by rw [igK_len])

theorem igOk_range (g : Ig) (h : igOk g) : (17 ≤ g.kind ∧ g.kind ≤ 23) ∧ (0 ≤ g.time ∧ g.time ≤ 255) ∧ (0 ≤ g.group ∧ g.group ≤ 4294967295) ∧ (0 ≤ g.src ∧ g.src ≤ 4294967295) := by
  have hg : ∀ ip : Int, 0 ≤ grpOf ip → 3758096384 ≤ ip ∧ ip ≤ 4026531839 := by
    intro ip hip
    unfold grpOf at hip
    split at hip
    · assumption
    · omega
  obtain ⟨h1 | h1, h2⟩ := h
  · obtain ⟨k, g1 | g1, t⟩ := h1
    · have := hg _ g1; omega
    · omega
  · obtain ⟨k, g1, t⟩ := h1
    have := hg _ g1; omega

/-- a packet comes back from its bytes -/
theorem ig_back (g : Ig) (h : igOk g) (s : ByteArray) (hs : s.data.toList = igL g) : getIg s = (g, true) := by
  obtain ⟨r1, r2, r3, r4⟩ := igOk_range g h
  have hsz : s.size = 32 := by
    have e : s.size = s.data.toList.length := by rw [Array.length_toList]; rfl
    rw [e, hs, igL_len]
  have hk := getK_put' s g.kind 24 1 (igH g) (putL g.time 1 ++ putL (sum16 (igK g ++ [0, 0] ++ putL g.group 4) : Nat) 2 ++ putL g.group 4) (by rw [hs, igL_parts]; unfold igT igK; simp only [List.append_assoc]) (igH_len g)
  have ht := getK_put' s g.time 25 1 (igH g ++ putL g.kind 1) (putL (sum16 (igK g ++ [0, 0] ++ putL g.group 4) : Nat) 2 ++ putL g.group 4) (by rw [hs, igL_parts]; unfold igT igK; simp only [List.append_assoc]) (by rw [List.length_append, igH_len, putL_length])
  have hg := getK_put' s g.group 28 4 (igH g ++ igK g ++ putL (sum16 (igK g ++ [0, 0] ++ putL g.group 4) : Nat) 2) [] (by rw [hs, igL_parts]; unfold igT; simp only [List.append_assoc, List.append_nil]) (by simp only [List.length_append, igH_len, igK_len, putL_length])
  have hf := getK_put' s g.src 12 4 (igA ++ putL (sum16 (igA ++ [0, 0] ++ igB g) : Nat) 2) (putL (igTo g) 4 ++ [148, 4, 0, 0] ++ igT g) (by rw [hs, igL_parts]; unfold igH; conv => { lhs; arg 1; arg 2; unfold igB }; simp only [List.append_assoc]) (by simp only [List.length_append, putL_length]; rfl)
  have e1 : (256 : Int) ^ 1 = 256 := by decide
  have e4 : (256 : Int) ^ 4 = 4294967296 := by decide
  rw [e1] at hk ht
  rw [e4] at hg hf
  have hr : igRead s = g := by
    obtain ⟨kind, time, group, src⟩ := g
    unfold igRead
    simp only at hk ht hg hf r1 r2 r3 r4
    rw [hk, ht, hg, hf, show kind % 256 = kind by omega, show time % 256 = time by omega, show group % 4294967296 = group by omega, show src % 4294967296 = src by omega]
  unfold getIg
  rw [hr, if_pos ⟨hsz, h, hs.symm⟩]

/-- it goes to a group -/
theorem igTo_group (g : Ig) (h : igOk g) : 0 ≤ grpOf (igTo g) := by
  unfold igTo
  rw [if_neg (fun k => k h)]
  split
  · unfold grpOf; decide
  · rename_i h0
    split
    · unfold grpOf; decide
    · obtain ⟨h1 | h1, h2⟩ := h
      · obtain ⟨k, g1 | g1, t⟩ := h1
        · exact g1
        · exact absurd ⟨k, g1⟩ h0
      · exact h1.2.1
end Go.Proofs.Ytgnckbcpnailbaa
