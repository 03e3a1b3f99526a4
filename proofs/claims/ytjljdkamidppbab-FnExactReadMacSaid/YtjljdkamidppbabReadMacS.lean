/- ReadMac of the model: it answers what the program answers. -/
import Derived.Test.YtjljdkamidppbabReadMac
import Derived.Deep.QuietTactic
import Derived.BigQuiet
namespace Go.Proofs.Ytjljdkamidppbab
open Go.RowKit

theorem hexD_val : ∀ n : Fin 256, 0 ≤ digV 16 (UInt8.ofNat n.val) → hexD (digV 16 (UInt8.ofNat n.val)) = UInt8.ofNat n.val := by decide +kernel
theorem hexD_digV (c : UInt8) (h : 0 ≤ digV 16 c) : hexD (digV 16 c) = c := by
  have hc : c = UInt8.ofNat (⟨c.toNat, c.toNat_lt⟩ : Fin 256).val := by simp
  have h2 := hexD_val ⟨c.toNat, c.toNat_lt⟩
  rw [← hc] at h2
  exact h2 h

theorem hexL_add (q v : Int) (m : Nat) : ∀ k, k ≤ m → hexL (q * 16 ^ m + v) k = hexL v k
  | 0, _ => rfl
  | k + 1, h => by
    obtain ⟨r, hr⟩ : ∃ r, m = k + 1 + r := ⟨m - (k + 1), by omega⟩
    have e2 : (2 : Int) ^ (4 * k) = 16 ^ k := by rw [Int.pow_mul]; rfl
    have e : q * 16 ^ m + v = v + 16 ^ k * (16 * (q * 16 ^ r)) := by
      rw [hr, Int.pow_add, Int.pow_succ, Int.add_comm]
      congr 1
      ac_rfl
    have hp : (16 : Int) ^ k ≠ 0 := by have : (0 : Int) < 16 ^ k := Int.pow_pos (by decide); omega
    rw [hexL, hexL, hexL_add q v m k (by omega), e2]
    congr 2
    rw [e, Int.add_mul_ediv_left _ _ hp, Int.add_mul_emod_self_left]

theorem rd_back (l : List UInt8) : ∀ a : Int, 0 ≤ a → 0 ≤ rdL 16 l a → ∃ v : Int, 0 ≤ v ∧ v < 16 ^ l.length ∧ rdL 16 l a = a * 16 ^ l.length + v ∧ hexL v l.length = l := by
  induction l with
  | nil => intro a _ _; exact ⟨0, by omega, by simp, by simp [rdL], rfl⟩
  | cons c l ih =>
    intro a ha h
    by_cases hd : digV 16 c < 0
    · simp only [rdL, if_pos hd] at h; omega
    · have hb := digV_bound 16 (.inr rfl) c
      simp only [rdL, if_neg hd] at h ⊢
      have hx := hexD_digV c (by omega)
      obtain ⟨d, hdv⟩ : ∃ d, digV 16 c = d := ⟨_, rfl⟩
      rw [hdv] at hd h hb hx ⊢
      obtain ⟨v, hv0, hv1, hv2, hv3⟩ := ih (a * (16 : Nat) + d) (by omega) h
      have hp : (0 : Int) < 16 ^ l.length := Int.pow_pos (by decide)
      have e2 : (2 : Int) ^ (4 * l.length) = 16 ^ l.length := by rw [Int.pow_mul]; rfl
      refine ⟨d * 16 ^ l.length + v, ?_, ?_, ?_, ?_⟩
      · have := Int.mul_nonneg (show 0 ≤ d by omega) (show (0 : Int) ≤ 16 ^ l.length by omega)
        omega
      · rw [List.length_cons, Int.pow_succ]
        have : d * 16 ^ l.length ≤ 15 * 16 ^ l.length := Int.mul_le_mul_of_nonneg_right (by omega) (by omega)
        omega
      · rw [hv2, List.length_cons, Int.pow_succ, Int.add_mul, Int.mul_assoc, Int.mul_comm (16 ^ l.length) 16, Int.add_assoc]
        rfl
      · rw [List.length_cons, hexL, hexL_add _ _ _ _ (Nat.le_refl _), hv3, e2, Int.add_comm, Int.add_mul_ediv_right _ _ (by omega), Int.ediv_eq_zero_of_lt hv0 hv1, Int.zero_add, Int.emod_eq_of_lt (by omega) (by omega), hx]

theorem rd_neg (l : List UInt8) : ∀ a : Int, 0 ≤ a → rdL 16 l a < 0 → rdL 16 l a = -1 := by
  induction l with
  | nil => intro a ha h; simp only [rdL] at h; omega
  | cons c l ih =>
    intro a ha h
    by_cases hd : digV 16 c < 0
    · simp only [rdL, if_pos hd]
    · simp only [rdL, if_neg hd] at h ⊢
      exact ih _ (by omega) h

/-- the digits' slices of an address's text -/
def digB (s : ByteArray) : ByteArray := s.extract 0 2 ++ s.extract 3 5 ++ s.extract 6 8 ++ s.extract 9 11 ++ s.extract 12 14 ++ s.extract 15 17
theorem digB_list (s : ByteArray) : (digB s).data.toList = digsK s 6 := by
  simp only [digB, digsK, ByteArray.data_append, Array.toList_append, List.nil_append, List.append_assoc]

theorem list_17 (l : List UInt8) (h : l.length = 17) : ∃ c0 c1 c2 c3 c4 c5 c6 c7 c8 c9 c10 c11 c12 c13 c14 c15 c16, l = [c0, c1, c2, c3, c4, c5, c6, c7, c8, c9, c10, c11, c12, c13, c14, c15, c16] := by
  match l, h with
  | [c0, c1, c2, c3, c4, c5, c6, c7, c8, c9, c10, c11, c12, c13, c14, c15, c16], _ => exact ⟨_, _, _, _, _, _, _, _, _, _, _, _, _, _, _, _, _, rfl⟩

/-- a text whose digits make m is m's text just where it has its colons -/
theorem mac_iff (s : ByteArray) (hs : s.size = 17) (m : Int) (h : rdL 16 (digsK s 6) 0 = m) (h0 : 0 ≤ m) : isMac m ∧ (macL m == s.toList) = colons s hs := by
  obtain ⟨v, hv0, hv1, hv2, hv3⟩ := rd_back (digsK s 6) 0 (by omega) (by omega)
  rw [digsK_len s hs 6 (by omega)] at hv1 hv2 hv3
  have hvm : v = m := by omega
  subst hvm
  clear hv2
  refine ⟨⟨hv0, by have e : (16 : Int) ^ (2 * 6) = 281474976710656 := by decide
                   omega⟩, ?_⟩
  obtain ⟨⟨l⟩⟩ := s
  obtain ⟨c0, c1, c2, c3, c4, c5, c6, c7, c8, c9, c10, c11, c12, c13, c14, c15, c16, rfl⟩ := list_17 l hs
  have e : hexL v 12 = [c0, c1, c3, c4, c6, c7, c9, c10, c12, c13, c15, c16] := hv3
  rw [hexL_mac] at e
  simp only [List.cons.injEq, and_true] at e
  obtain ⟨e0, e1, e2, e3, e4, e5, e6, e7, e8, e9, e10, e11⟩ := e
  rw [Bool.eq_iff_iff, ByteArray.toList_eq]
  simp only [macL, e0, e1, e2, e3, e4, e5, e6, e7, e8, e9, e10, e11, beq_iff_eq, colons, Bool.and_eq_true]
  have t : ∀ c : UInt8, c.toNat = 58 ↔ 58 = c := fun c => ⟨fun h => UInt8.toNat_inj.1 (by rw [h]; rfl), fun h => by subst h; rfl⟩
  show _ ↔ ((((c2.toNat = 58 ∧ c5.toNat = 58) ∧ c8.toNat = 58) ∧ c11.toNat = 58) ∧ c14.toNat = 58)
  rw [t, t, t, t, t]
  simp only [List.cons.injEq, true_and, and_true, and_assoc]

set_option maxHeartbeats 1000000 in
theorem readMac_spec (s : ByteArray) (w : World) (hs : s.size = 17) :
    Calls Try.prog 18 #[.string s] w fun e w' => e = .returned (.int .i64 (readM s)) ∧ Below w.heap.size w w' := by
  have hr : readM s = if colons s hs then rdL 16 (digsK s 6) 0 else -1 := by unfold readM; rw [dif_pos hs]
  rw [hr]
  clear hr
  have hx := readHex_spec (digB s)
  rw [digB_list] at hx
  have hdl := digsK_len s hs 6 (by omega)
  have hdsz : (digB s).size = 12 := by
    have : (digB s).data.toList.length = 12 := by rw [digB_list]; exact hdl
    rw [← this, Array.length_toList]; rfl
  obtain ⟨m, hm⟩ : ∃ m, rdL 16 (digsK s 6) 0 = m := ⟨_, rfl⟩
  have hneg := rd_neg (digsK s 6) 0 (by omega)
  have hiff := mac_iff s hs m hm
  rw [hm] at hx hneg ⊢
  have HX := Lib.hid hx; clear hx
  have HI := Lib.hid hiff; clear hiff
  have HM := Lib.hid hm; clear hm
  have HZ := Lib.hid hdsz; clear hdsz hdl
  have HN := Lib.hid hneg; clear hneg
  obtain ⟨b, hb⟩ : ∃ b, colons s hs = b := ⟨_, rfl⟩
  rw [hb]
  have HB := Lib.hid hb; clear hb
  by_cases h0 : m < 0
  · have hres : (if b = true then m else -1) = -1 := by rw [HN.out h0]; split <;> rfl
    rw [hres]
    have HR := Lib.hid hres; clear hres
    go_enter Try.func18, Try.ntmps18
    go_wp2_with fail
    go_quiet ((go_at_call 34; exact Calls.quiet_of_same ((HX.out _ (by rw [HZ.out]; decide) (by rw [HZ.out]; decide)).mono fun e w' h => ⟨h.1, h.2.symm⟩)))
    go_wp2_with fail
    go_ret
    exact ⟨rfl, below_drewN (Below.refl _ _) _⟩
  · obtain ⟨hm, hq⟩ := HI.out (by omega)
    have hmt := fun w => macText_spec m hm w
    rw [HB.out] at hq
    have HT := Lib.hid hmt; clear hmt
    clear hm
    have h0' : 0 ≤ m := by omega
    clear h0
    cases b
    · go_enter Try.func18, Try.ntmps18
      go_wp2_with fail
      go_quiet ((go_at_call 34; exact Calls.quiet_of_same ((HX.out _ (by rw [HZ.out]; decide) (by rw [HZ.out]; decide)).mono fun e w' h => ⟨h.1, h.2.symm⟩)))
      go_wp2_with fail
      refine (HT.out _).mono ?_
      rintro e w2 ⟨rfl, hb2⟩
      go_wp2_with fail
      go_ret
      exact ⟨rfl, (below_drewN (Below.refl _ _) _).trans hb2⟩
    · go_enter Try.func18, Try.ntmps18
      go_wp2_with fail
      go_quiet ((go_at_call 34; exact Calls.quiet_of_same ((HX.out _ (by rw [HZ.out]; decide) (by rw [HZ.out]; decide)).mono fun e w' h => ⟨h.1, h.2.symm⟩)))
      go_wp2_with fail
      refine (HT.out _).mono ?_
      rintro e w2 ⟨rfl, hb2⟩
      go_wp2_with fail
      go_ret
      exact ⟨rfl, (below_drewN (Below.refl _ _) _).trans hb2⟩

theorem readMac_spec_no (s : ByteArray) (w : World) (hs : s.size ≠ 17) :
    Calls Try.prog 18 #[.string s] w fun e w' => e = .returned (.int .i64 (-1)) ∧ w = w' := by
  have hs' : ¬ ((s.size : Int) = 17) := by omega
  go_enter Try.func18, Try.ntmps18
  go_wp2_with fail
  go_ret
  exact ⟨rfl, rfl⟩
end Go.Proofs.Ytjljdkamidppbab
