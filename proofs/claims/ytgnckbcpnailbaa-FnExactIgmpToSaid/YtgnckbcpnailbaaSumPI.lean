/- Sum16 of the program. -/
import Derived.Test.YtgnckbcpnailbaaSumL
import Derived.Test.YtgnckbcpnailbaaIn
import Derived.IntWalk
namespace Go.Proofs.Ytgnckbcpnailbaa
open Go.RowKit

/-- the plain sum by the bytes' own places -/
def sumI : List UInt8 → Nat → Nat
  | a :: l, k => (if k % 2 = 0 then a.toNat * 256 else a.toNat) + sumI l (k + 1)
  | [], _ => 0
theorem sumI_even : ∀ (l : List UInt8) (j : Nat), sumI l (2 * j) = sumP l
  | a :: b :: l, j => by
    have e := sumI_even l (j + 1)
    simp only [sumI, sumP, show 2 * j % 2 = 0 by omega, show ¬ ((2 * j + 1) % 2 = 0) by omega, if_true, if_false]
    rw [show 2 * j + 1 + 1 = 2 * (j + 1) by omega, e]
    omega
  | [a], j => by simp [sumI, sumP]
  | [], _ => rfl
theorem sumI_zero (l : List UInt8) : sumI l 0 = sumP l := sumI_even l 0

/-- a number that stands where the plain sum stands, and is small, is the sum -/
theorem sumW_is (l : List UInt8) (n : Nat) (hm : n % 65535 = sumP l % 65535) (hz : n = 0 ↔ sumP l = 0) (hn : n ≤ 65535) : sumW l 0 = n := by
  have h1 := sumW_mod l 0
  have z1 := sumW_zero l 0
  have b1 := sumW_le l 0 (by decide)
  simp only [true_and, Nat.zero_add] at h1 z1
  by_cases h0 : sumP l = 0
  · rw [z1.2 h0, hz.2 h0]
  · have n1 : sumW l 0 ≠ 0 := fun e => h0 (z1.1 e)
    have n2 : n ≠ 0 := fun e => h0 (hz.1 e)
    omega

set_option maxRecDepth 100000 in
set_option maxHeartbeats 1000000 in
theorem sum16_impl (s : ByteArray) (w : World) (hs : s.size ≤ 1048576) :
    Calls Try.prog 15 #[.string s] w fun e w' => e = .returned (.int .i64 (sum16 s.data.toList : Nat)) ∧ w = w' := by
  rw [sum16_int]
  have hl : s.data.toList.length = s.size := by rw [Array.length_toList]; rfl
  have HL := Lib.hid hl; clear hl
  go_enter Try.func15, Try.ntmps15
  go_wp2_with fail
  go_loop [3, 7] (fun v i => ∃ k n : Nat, i = .int .i64 (k : Nat) ∧ v = .int .i64 (n : Nat) ∧ k ≤ s.size ∧ n ≤ k * 65280 ∧ Hid (n + sumI (s.data.toList.drop k) k = sumP s.data.toList)) (fun _ i => s.size - (intOf i).toNat)
  case atStart => exact ⟨0, 0, rfl, rfl, by omega, by omega, Lib.hid (by rw [List.drop_zero, sumI_zero, Nat.zero_add])⟩
  case round =>
    obtain ⟨k, n, rfl, rfl, hk, hn, HR⟩ := hrel
    by_cases hlt : k < s.size
    · have hb : (s[k]'hlt).toNat < 256 := UInt8.toNat_lt _
      have hd : s.data.toList.drop k = s[k]'hlt :: s.data.toList.drop (k + 1) := List.drop_eq_getElem_cons (by rw [HL.out]; exact hlt)
      have hr := HR.out
      rw [hd] at hr
      simp only [sumI] at hr
      by_cases hp : k % 2 = 0
      · have hpi : (k : Int) % 2 = 0 := by omega
        rw [if_pos hp] at hr
        have HR2 := Lib.hid hr
        clear hr hd HR
        go_wp2_with fail
        go_round
        case rel => exact ⟨k + 1, n + (s[k]'hlt).toNat * 256, by go_num, by go_num, by omega, by omega, Lib.hid (by have := HR2.out; omega)⟩
        case measure => simp [intOf]; omega
      · have hpi : ¬ ((k : Int) % 2 = 0) := by omega
        rw [if_neg hp] at hr
        have HR2 := Lib.hid hr
        clear hr hd HR
        go_wp2_with fail
        go_round
        case rel => exact ⟨k + 1, n + (s[k]'hlt).toNat, by go_num, by go_num, by omega, by omega, Lib.hid (by have := HR2.out; omega)⟩
        case measure => simp [intOf]; omega
    · have hke : k = s.size := by omega
      have hr : n = sumP s.data.toList := by
        have := HR.out
        rw [hke, List.drop_of_length_le (by rw [HL.out]; exact Nat.le_refl _)] at this
        exact this
      have hn' : n ≤ 68451041280 := by omega
      have HR2 := Lib.hid hr
      have hlt' : ¬ ((k : Int) < (s.size : Int)) := by omega
      have HN := Lib.hid hn'
      clear hr HR hn hke hn'
      go_wp2_with fail
      go_loop [3] (fun v => ∃ m : Nat, v = .int .i64 (m : Nat) ∧ Hid (m ≤ 68451041280) ∧ Hid (m % 65535 = sumP s.data.toList % 65535 ∧ (m = 0 ↔ sumP s.data.toList = 0))) (fun v => (intOf v).toNat)
      case atStart => exact ⟨n, rfl, HN, Lib.hid (by rw [HR2.out]; exact ⟨rfl, Iff.rfl⟩)⟩
      case round =>
        obtain ⟨m, rfl, HM0, HM⟩ := hrel
        have hm := HM0.out
        by_cases hge : 65536 ≤ m
        · have hge' : (65536 : Int) ≤ (m : Int) := by omega
          have hstep := HM.out
          have hst : (m % 65536 + m / 65536) % 65535 = sumP s.data.toList % 65535 ∧ (m % 65536 + m / 65536 = 0 ↔ sumP s.data.toList = 0) := ⟨by rw [← hstep.1]; omega, by rw [← hstep.2]; omega⟩
          have HS := Lib.hid hst
          clear hst hstep HM
          go_wp2_with fail
          go_round
          case rel => exact ⟨m % 65536 + m / 65536, by go_num, Lib.hid (by omega), HS⟩
          case measure => simp [intOf]; omega
        · have hge' : ¬ ((65536 : Int) ≤ (m : Int)) := by omega
          have he : sumW s.data.toList 0 = m := sumW_is _ _ HM.out.1 HM.out.2 (by omega)
          have HE := Lib.hid he
          have hm' : (m : Int) ≤ 65535 := by omega
          clear he HM HR2 hm HM0 HN hge
          go_wp2_with fail
          go_ret
          exact ⟨by rw [HE.out]; rfl, rfl⟩
end Go.Proofs.Ytgnckbcpnailbaa
