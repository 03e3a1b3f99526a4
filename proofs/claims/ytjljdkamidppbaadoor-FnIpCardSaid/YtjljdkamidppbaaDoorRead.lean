/- ReadHex and ReadDec: what the program and the model answer. -/
import Derived.Test.YtjljdkamidppbaaDoorHex
import Derived.Test.YtjljdkamidppbaaDoorIdx
import Derived.WalkSmall
namespace Go.Proofs.YtjljdkamidppbaaDoor
open Go.RowKit

/-- "0123456789abcdef"[:b] -/
def digS (b : Nat) : ByteArray := ({ data := #[48, 49, 50, 51, 52, 53, 54, 55, 56, 57, 97, 98, 99, 100, 101, 102] } : ByteArray).extract 0 b
/-- a digit's value, or -1 -/
def digV (b : Nat) (c : UInt8) : Int := firstIdx (digS b) c

theorem digV_ten : ∀ n : Fin 256, digV 10 (UInt8.ofNat n.val) = if 48 ≤ n.val ∧ n.val ≤ 57 then (n.val : Int) - 48 else -1 := by decide +kernel
theorem digV_sixteen : ∀ n : Fin 256, digV 16 (UInt8.ofNat n.val) = if 48 ≤ n.val ∧ n.val ≤ 57 then (n.val : Int) - 48 else if 97 ≤ n.val ∧ n.val ≤ 102 then (n.val : Int) - 87 else -1 := by decide +kernel
theorem digV_bound (b : Nat) (hb : b = 10 ∨ b = 16) (c : UInt8) : -1 ≤ digV b c ∧ digV b c < b := by
  have hc : c = UInt8.ofNat (⟨c.toNat, c.toNat_lt⟩ : Fin 256).val := by simp
  rcases hb with rfl | rfl
  · rw [hc, digV_ten]; split <;> omega
  · rw [hc, digV_sixteen]; repeat' split
    all_goals omega
theorem digV_high (b : Nat) (hb : b = 10 ∨ b = 16) (c : UInt8) (h : 128 ≤ c.toNat) : digV b c = -1 := by
  have hc : c = UInt8.ofNat (⟨c.toNat, c.toNat_lt⟩ : Fin 256).val := by simp
  rcases hb with rfl | rfl
  · rw [hc, digV_ten, if_neg (by simp; omega)]
  · rw [hc, digV_sixteen, if_neg (by simp; omega), if_neg (by simp; omega)]
theorem digS_ascii (b : Nat) : ∀ x ∈ (digS b).data.toList, x.toNat < 128 := by
  intro x hx
  have h := mem_extract hx
  revert h
  simp only [List.mem_cons, List.not_mem_nil, or_false]
  rintro (rfl | rfl | rfl | rfl | rfl | rfl | rfl | rfl | rfl | rfl | rfl | rfl | rfl | rfl | rfl | rfl) <;> decide

/-- the number that the digits of l make behind n, or -1 -/
def rdL (b : Nat) : List UInt8 → Int → Int
  | [], n => n
  | c :: l, n => if digV b c < 0 then -1 else rdL b l (n * b + digV b c)

theorem idx_digit (b : Nat) (c : UInt8) (w : World) (h : c.toNat < 128) :
    Calls Tryd.prog 34 #[.string (({ data := #[48, 49, 50, 51, 52, 53, 54, 55, 56, 57, 97, 98, 99, 100, 101, 102] } : ByteArray).extract 0 b), .int .i32 (c.toNat : Int)] w fun e w' => e = .returned (.int .i64 (digV b c)) ∧ w = w' := by
  refine (idx_ascii _ _ w (by omega) (by omega)).mono fun e w' h => ⟨?_, h.2⟩
  rw [h.1]
  unfold digV digS
  simp

/-- what is no digit, beyond ASCII -/
theorem idx_beyond (b : Nat) (hb : b = 10 ∨ b = 16) (r : Nat) (w : World) (h : 128 ≤ r) :
    Calls Tryd.prog 34 #[.string (({ data := #[48, 49, 50, 51, 52, 53, 54, 55, 56, 57, 97, 98, 99, 100, 101, 102] } : ByteArray).extract 0 b), .int .i32 (r : Int)] w fun e w' => e = .returned (.int .i64 (-1)) ∧ Below w.heap.size w w' := by
  by_cases h1 : r = 65533
  · subst h1
    exact idx_err _ w (digS_ascii b)
  · by_cases hv : Utf8.valid (r : Int) = true
    · have hsz : (digS b).size = b := by rcases hb with rfl | rfl <;> rfl
      refine (idx_high _ _ w (digS_ascii b) (by rw [hsz]; omega) (by rw [hsz]; omega) (by omega) (by omega) hv).mono fun e w' h => ⟨h.1, ?_⟩
      obtain ⟨k, hk⟩ := h.2
      rw [hk]
      exact below_drewN (Below.refl _ _) k
    · refine (idx_bad _ _ w (by omega) (by omega) (by simpa using hv)).mono fun e w' h => ⟨h.1, ?_⟩
      rw [h.2]
      exact Below.refl _ _

theorem rd_yes (b : Nat) (s : ByteArray) (k : Nat) (hlt : k < s.size) (n : Int) (h : ¬ digV b (s[k]'hlt) < 0) : rdL b (s.data.toList.drop k) n = rdL b (s.data.toList.drop (k + 1)) (n * b + digV b (s[k]'hlt)) := by
  have hl : k < s.data.toList.length := by rw [Array.length_toList]; exact hlt
  rw [List.drop_eq_getElem_cons hl]
  have e : s.data.toList[k] = s[k]'hlt := rfl
  rw [e]
  simp only [rdL, if_neg h]
theorem rd_no (b : Nat) (s : ByteArray) (k : Nat) (hlt : k < s.size) (n : Int) (h : digV b (s[k]'hlt) < 0) : rdL b (s.data.toList.drop k) n = -1 := by
  have hl : k < s.data.toList.length := by rw [Array.length_toList]; exact hlt
  rw [List.drop_eq_getElem_cons hl]
  have e : s.data.toList[k] = s[k]'hlt := rfl
  rw [e]
  simp only [rdL, if_pos h]
theorem rd_end (b : Nat) (s : ByteArray) (n : Int) : rdL b (s.data.toList.drop s.size) n = n := by
  rw [List.drop_of_length_le (by rw [Array.length_toList]; exact Nat.le_refl _)]; rfl

theorem digits_impl (s : ByteArray) (b : Nat) (hb : b = 10 ∨ b = 16) (w : World) (h1 : 1 ≤ s.size) (h2 : s.size ≤ 12) :
    Calls Tryd.prog 24 #[.string s, .int .i64 b] w fun e w' => e = .returned (.int .i64 (rdL b s.data.toList 0)) ∧ Below w.heap.size w w' := by
  have hne : s.toList.isEmpty = false := not_empty s h1
  have hb1 : b ≤ 16 := by omega
  have hb2 : 10 ≤ b := by omega
  have HB := Lib.hid hb; clear hb
  go_enter Tryd.func24, Tryd.ntmps24
  go_wp2_with fail
  go_loopw [5] (fun v wr => ∃ (k : Nat) (n : Int) (W : World), wr = W.iter s k ∧ v = .int .i64 n ∧ Hid (W.heap.size = w.heap.size) ∧ Below w.heap.size w W ∧ k ≤ s.size ∧ 0 ≤ n ∧ Hid (n < 16 ^ k) ∧ Hid (rdL b (s.data.toList.drop k) n = rdL b s.data.toList 0))
    (fun _ wr => s.size - wr.iterPos w.heap.size)
  case atStart => exact ⟨0, 0, w, rfl, rfl, Lib.hid rfl, Below.refl _ _, Nat.zero_le _, Int.le_refl _, Lib.hid (by decide), Lib.hid rfl⟩
  case round =>
    obtain ⟨k, n, W, rfl, rfl, HW, hbel, hk, hn0, Hn, Hr⟩ := hrel
    by_cases hlt : k < s.size
    · by_cases ha : (s[k]'hlt).toNat < 128
      · have hnx : ∀ ty, (Instr.next (.pointer (some ⟨w.heap.size, 0, none⟩)) true ty).run Tryd.prog (W.iter s k) = .ok (.tuple #[.bool true, .int .i64 k, .int .i32 (s[k]'hlt).toNat]) (W.iter s (k + 1)) := fun ty => by
          rw [← HW.out]; exact run_next_ascii W s k ty hlt ha
        obtain ⟨hd0, hd1⟩ := digV_bound b HB.out (s[k]'hlt)
        have hnb0 : 0 ≤ n * (b : Int) := Int.mul_nonneg hn0 (by omega)
        have hnb1 : n * (b : Int) ≤ 281474976710656 := by
          have h3 : (16 : Int) ^ k ≤ 16 ^ 11 := by exact_mod_cast Nat.pow_le_pow_right (by decide : 0 < 16) (show k ≤ 11 by omega)
          have h4 : n * (b : Int) ≤ 16 ^ 11 * 16 := Int.mul_le_mul (by have := Hn.out; omega) (by omega) (by omega) (by decide)
          omega
        by_cases hd : digV b (s[k]'hlt) < 0
        · go_wp2_with (go_at_call 34; refine (idx_digit b (s[k]'hlt) _ ha).mono ?_; rintro e w' ⟨rfl, rfl⟩)
          go_ret
          exact ⟨by rw [← Hr.out, rd_no b s k hlt n hd]; rfl, hbel.alloc hbel.size _⟩
        · go_wp2_with (go_at_call 34; refine (idx_digit b (s[k]'hlt) _ ha).mono ?_; rintro e w' ⟨rfl, rfl⟩)
          go_roundw
          case rel =>
            refine ⟨k + 1, _, W, rfl, rfl, HW, hbel, by omega, by omega, Lib.hid ?_, Lib.hid ?_⟩
            · have h5 := Hn.out
              have h6 : n * (b : Int) + digV b (s[k]'hlt) < (n + 1) * 16 := by
                have : n * (b : Int) ≤ n * 16 := Int.mul_le_mul_of_nonneg_left (by omega) hn0
                omega
              have h7 : (n + 1) * 16 ≤ 16 ^ k * 16 := Int.mul_le_mul_of_nonneg_right (by omega) (by decide)
              rw [Int.pow_succ]
              omega
            · rw [← Hr.out, rd_yes b s k hlt n (by omega)]
          case measure => rw [← HW.out]; simp; omega
      · have hhi := decode_high s k hlt (by omega)
        have hdv : digV b (s[k]'hlt) < 0 := by rw [digV_high b HB.out _ (by omega)]; decide
        have hnx : ∀ ty, (Instr.next (.pointer (some ⟨w.heap.size, 0, none⟩)) true ty).run Tryd.prog (W.iter s k) = .ok (.tuple #[.bool true, .int .i64 k, .int .i32 (Utf8.decode s k).1]) (W.iter s (k + (Utf8.decode s k).2)) := fun ty => by
          rw [← HW.out]; exact run_next_any W s k ty hlt
        go_wp2_with (go_at_call 34; refine (idx_beyond b HB.out _ _ hhi.1).mono ?_; rintro e w' ⟨rfl, hb2⟩)
        go_ret
        exact ⟨by rw [← Hr.out, rd_no b s k hlt n hdv]; rfl, (hbel.alloc hbel.size _).trans (hb2.mono (by have := hbel.size; simp [World.iter]; omega))⟩
    · obtain rfl : k = s.size := by omega
      have hnx : ∀ ty, (Instr.next (.pointer (some ⟨w.heap.size, 0, none⟩)) true ty).run Tryd.prog (W.iter s s.size) = .ok (.tuple #[.bool false]) (W.iter s s.size) := fun ty => by
        rw [← HW.out]; exact run_next_end W s s.size ty hlt
      go_wp2_with fail
      go_ret
      exact ⟨by rw [← Hr.out, rd_end]; rfl, hbel.alloc hbel.size _⟩

theorem digits_none (s : ByteArray) (b : Int) (w : World) (h1 : s.size = 0) :
    Calls Tryd.prog 24 #[.string s, .int .i64 b] w fun e w' => e = .returned (.int .i64 (-1)) ∧ w = w' := by
  have hne := is_empty s h1
  go_enter Tryd.func24, Tryd.ntmps24
  go_wp2_with fail
  go_ret
  exact ⟨rfl, rfl⟩

theorem readHex_impl (s : ByteArray) (w : World) (h1 : 1 ≤ s.size) (h2 : s.size ≤ 12) :
    Calls Tryd.prog 13 #[.string s] w fun e w' => e = .returned (.int .i64 (rdL 16 s.data.toList 0)) ∧ Below w.heap.size w w' := by
  go_enter Tryd.func13, Tryd.ntmps13
  go_wp2_with (go_at_call 24; refine (digits_impl s 16 (.inr rfl) _ h1 h2).mono ?_; rintro e w' ⟨rfl, hb⟩)
  go_ret
  exact ⟨rfl, hb⟩
theorem readHex_impl_no (s : ByteArray) (w : World) (h : ¬ (1 ≤ s.size ∧ s.size ≤ 12)) (h3 : s.size ≤ 1048576) :
    Calls Tryd.prog 13 #[.string s] w fun e w' => e = .returned (.int .i64 (-1)) ∧ w = w' := by
  by_cases h1 : 12 < s.size
  · go_enter Tryd.func13, Tryd.ntmps13
    go_wp2_with fail
    go_ret
    exact ⟨rfl, rfl⟩
  · have h0 : s.size = 0 := by omega
    have hl : (s.size : Int) ≤ 12 := by omega
    have H0 := Lib.hid h0; clear h0
    go_enter Tryd.func13, Tryd.ntmps13
    go_wp2_with (go_at_call 24; refine (digits_none s 16 _ H0.out).mono ?_; rintro e w' ⟨rfl, rfl⟩)
    go_ret
    exact ⟨rfl, rfl⟩

theorem digV16 (c : UInt8) : digV 16 c = if 48 ≤ c.toNat ∧ c.toNat ≤ 57 then (c.toNat : Int) - 48 else if 97 ≤ c.toNat ∧ c.toNat ≤ 102 then (c.toNat : Int) - 87 else -1 := by
  have hc : c = UInt8.ofNat (⟨c.toNat, c.toNat_lt⟩ : Fin 256).val := by simp
  have h := digV_sixteen ⟨c.toNat, c.toNat_lt⟩
  rw [← hc] at h
  exact h
theorem digV10 (c : UInt8) : digV 10 c = if 48 ≤ c.toNat ∧ c.toNat ≤ 57 then (c.toNat : Int) - 48 else -1 := by
  have hc : c = UInt8.ofNat (⟨c.toNat, c.toNat_lt⟩ : Fin 256).val := by simp
  have h := digV_ten ⟨c.toNat, c.toNat_lt⟩
  rw [← hc] at h
  exact h

end Go.Proofs.YtjljdkamidppbaaDoor
