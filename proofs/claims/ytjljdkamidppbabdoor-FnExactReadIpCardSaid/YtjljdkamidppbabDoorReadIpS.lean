/- ReadIp of the model: it answers what the program answers. -/
import Derived.Test.YtjljdkamidppbabDoorIpL
namespace Go.Proofs.YtjljdkamidppbabDoor
open Go.RowKit

theorem pow256 (k : Nat) (h : k ≤ 4) : (256 : Int) ^ k ≤ 4294967296 := by
  have hk4 : k = 0 ∨ k = 1 ∨ k = 2 ∨ k = 3 ∨ k = 4 := by omega
  rcases hk4 with hk4 | hk4 | hk4 | hk4 | hk4 <;> rw [hk4] <;> decide

set_option maxHeartbeats 1000000 in
theorem readIp_spec (s : ByteArray) (hs : s.size ≤ 1048576) (w : World) :
    Calls Tryd.prog 7 #[.string s] w fun e w' => e = .returned (.int .i64 (readI s.data.toList)) ∧ w = w' := by
  have h0 : specI (partsL isDot (s.data.toList.drop 0) ((s.data.toList.drop 0).take (0 - 0))) 0 0 = readI s.data.toList := by
    rw [specI_eq _ 0 0 (by omega)]
    simp only [List.drop_zero, Nat.sub_self, List.take_zero, Nat.add_zero]
    rfl
  have H0 := Lib.hid h0; clear h0
  go_enter Tryd.func7, Tryd.ntmps7
  go_wp2_with fail
  go_loop [3, 4, 5, 6] (fun v p f i => ∃ (k : Nat) (n : Int) (fr j : Nat), v = .int .i64 n ∧ p = .int .i64 k ∧ f = .int .i64 fr ∧ i = .int .i64 j ∧ k ≤ 4 ∧ 0 ≤ n ∧ n ≤ 4294967295 ∧ Hid (n < 256 ^ k) ∧ fr ≤ j ∧
      ((j ≤ s.size ∧ Hid (specI (partsL isDot (s.data.toList.drop j) ((s.data.toList.drop fr).take (j - fr))) k n = readI s.data.toList)) ∨ (j = s.size + 1 ∧ Hid (specI [] k n = readI s.data.toList))))
    (fun _ _ _ i => s.size + 1 - (intOf i).toNat)
  case atStart => exact ⟨0, 0, 0, 0, rfl, rfl, rfl, rfl, by omega, by omega, by omega, Lib.hid (by decide), Nat.le_refl _, .inl ⟨Nat.zero_le _, H0⟩⟩
  case round =>
    obtain ⟨k, n, fr, j, rfl, rfl, rfl, rfl, hk, hn0, hn1, Hn, hfj, hcase⟩ := hrel
    rcases hcase with ⟨hj, Hr⟩ | ⟨rfl, Hr⟩
    · by_cases hend : j = s.size
      · subst hend
        have hr := Hr.out
        rw [parts_end] at hr
        simp only [specI] at hr
        have hxs : (s.extract fr s.size).size ≤ 1048576 := by rw [ByteArray.size_extract]; omega
        have hrd := readDec_spec (s.extract fr s.size)
        have hrg := readD_range (s.extract fr s.size).data.toList
        obtain ⟨r, hrr⟩ : ∃ r, readD (s.extract fr s.size).data.toList = r := ⟨_, rfl⟩
        rw [hrr] at hr hrd hrg
        clear hrr
        have HR := Lib.hid hr; clear hr
        have HD := Lib.hid hrd; clear hrd
        have HX := Lib.hid hxs; clear hxs
        obtain ⟨hr0, hr1⟩ := hrg
        by_cases hbad : 0 ≤ r ∧ r ≤ 255
        · obtain ⟨hb0, hb1⟩ := hbad
          by_cases h4 : k = 4
          · have hres : readI s.data.toList = -1 := by rw [← HR.out, if_pos (.inr h4)]
            subst h4
            go_wp2_with (first | (go_at_call 15; refine (HD.out _ HX.out).mono ?_; rintro e w' ⟨rfl, rfl⟩) | (go_at_call 9; refine (in_yes _ _ _ _ hb0 hb1).mono ?_; rintro e w' ⟨rfl, rfl⟩))
            go_ret
            exact ⟨by rw [hres]; rfl, rfl⟩
          · have h4' : ¬ ((k : Int) = 4) := by omega
            have hk3 : k ≤ 3 := by omega
            have hp := pow256 (k + 1) (by omega)
            have hn2 : n * 256 + r < 256 ^ (k + 1) := by have := Hn.out; rw [Int.pow_succ]; omega
            have HN := Lib.hid hn2
            have hn3 : n * 256 + r ≤ 4294967295 := by omega
            have hn4 : 256 * n + r = n * 256 + r := by omega
            have hs2 := HR.out
            rw [if_neg (by omega)] at hs2
            have HS := Lib.hid hs2; clear hs2 hp hn2 h4
            go_wp2_with (first | (go_at_call 15; refine (HD.out _ HX.out).mono ?_; rintro e w' ⟨rfl, rfl⟩) | (go_at_call 9; refine (in_yes _ _ _ _ hb0 hb1).mono ?_; rintro e w' ⟨rfl, rfl⟩))
            go_round
            case rel => exact ⟨k + 1, n * 256 + r, s.size + 1, s.size + 1, by go_num, by go_num, by go_num, by go_num, by omega, by omega, hn3, HN, Nat.le_refl _, .inr ⟨rfl, Lib.hid (by simp only [specI]; exact HS.out)⟩⟩
            case measure => simp [intOf]
        · have hres : readI s.data.toList = -1 := by rw [← HR.out, if_pos (.inl (by omega))]
          have HB := Lib.hid hbad; clear hbad
          go_wp2_with (first | (go_at_call 15; refine (HD.out _ HX.out).mono ?_; rintro e w' ⟨rfl, rfl⟩) | (go_at_call 9; refine (in_no _ _ _ _ HB.out).mono ?_; rintro e w' ⟨rfl, rfl⟩))
          go_ret
          exact ⟨by rw [hres]; rfl, rfl⟩
      · have hlt : j < s.size := by omega
        by_cases hdot : (s[j]'hlt).toNat = 46
        · have hd : isDot (s[j]'hlt) = true := by
            unfold isDot
            rw [beq_iff_eq]
            exact UInt8.toNat_inj.1 (by rw [hdot]; rfl)
          have hr := Hr.out
          rw [parts_sep isDot s fr j hlt hd] at hr
          rw [specI] at hr
          have hdot' : ((s[j]'hlt).toNat : Int) = 46 := by omega
          clear hd hdot
          have hxs : (s.extract fr j).size ≤ 1048576 := by rw [ByteArray.size_extract]; omega
          have hrd := readDec_spec (s.extract fr j)
          have hrg := readD_range (s.extract fr j).data.toList
          obtain ⟨r, hrr⟩ : ∃ r, readD (s.extract fr j).data.toList = r := ⟨_, rfl⟩
          rw [hrr] at hr hrd hrg
          clear hrr
          have HR := Lib.hid hr; clear hr
          have HD := Lib.hid hrd; clear hrd
          have HX := Lib.hid hxs; clear hxs
          obtain ⟨hr0, hr1⟩ := hrg
          by_cases hbad : 0 ≤ r ∧ r ≤ 255
          · obtain ⟨hb0, hb1⟩ := hbad
            by_cases h4 : k = 4
            · have hres : readI s.data.toList = -1 := by rw [← HR.out, if_pos (.inr h4)]
              subst h4
              go_wp2_with (first | (go_at_call 15; refine (HD.out _ HX.out).mono ?_; rintro e w' ⟨rfl, rfl⟩) | (go_at_call 9; refine (in_yes _ _ _ _ hb0 hb1).mono ?_; rintro e w' ⟨rfl, rfl⟩))
              go_ret
              exact ⟨by rw [hres]; rfl, rfl⟩
            · have h4' : ¬ ((k : Int) = 4) := by omega
              have hk3 : k ≤ 3 := by omega
              have hp := pow256 (k + 1) (by omega)
              have hn2 : n * 256 + r < 256 ^ (k + 1) := by have := Hn.out; rw [Int.pow_succ]; omega
              have HN := Lib.hid hn2
              have hn3 : n * 256 + r ≤ 4294967295 := by omega
              have hn4 : 256 * n + r = n * 256 + r := by omega
              have hs2 := HR.out
              rw [if_neg (by omega)] at hs2
              have HS := Lib.hid hs2; clear hs2 hp hn2 h4
              go_wp2_with (first | (go_at_call 15; refine (HD.out _ HX.out).mono ?_; rintro e w' ⟨rfl, rfl⟩) | (go_at_call 9; refine (in_yes _ _ _ _ hb0 hb1).mono ?_; rintro e w' ⟨rfl, rfl⟩))
              go_round
              case rel => exact ⟨k + 1, n * 256 + r, j + 1, j + 1, by go_num, by go_num, by go_num, by go_num, by omega, by omega, hn3, HN, Nat.le_refl _, .inl ⟨by omega, HS⟩⟩
              case measure => simp [intOf]; omega
          · have hres : readI s.data.toList = -1 := by rw [← HR.out, if_pos (.inl (by omega))]
            have HB := Lib.hid hbad; clear hbad
            go_wp2_with (first | (go_at_call 15; refine (HD.out _ HX.out).mono ?_; rintro e w' ⟨rfl, rfl⟩) | (go_at_call 9; refine (in_no _ _ _ _ HB.out).mono ?_; rintro e w' ⟨rfl, rfl⟩))
            go_ret
            exact ⟨by rw [hres]; rfl, rfl⟩
        · have hnd : isDot (s[j]'hlt) = false := by
            unfold isDot
            rw [beq_eq_false_iff_ne]
            intro e
            apply hdot
            rw [e]; rfl
          have hon := parts_on isDot s fr j 1 hfj (by omega) (fun q hq hq1 => by have e : q = 0 := (by omega); subst e; exact hnd)
          have hr := Hr.out
          rw [hon] at hr
          have HR := Lib.hid hr; clear hr hon hnd
          have hdot' : ¬ (((s[j]'hlt).toNat : Int) = 46) := by omega
          clear hdot
          go_wp2_with fail
          go_round
          case rel => exact ⟨k, n, fr, j + 1, rfl, rfl, rfl, by go_num, hk, hn0, hn1, Hn, by omega, .inl ⟨by omega, HR⟩⟩
          case measure => simp [intOf]; omega
    · have hr := Hr.out
      simp only [specI] at hr
      by_cases h4 : k = 4
      · subst h4
        rw [if_pos rfl] at hr
        have HR := Lib.hid hr; clear hr
        go_wp2_with fail
        go_ret
        exact ⟨by rw [← HR.out]; rfl, rfl⟩
      · rw [if_neg h4] at hr
        have h4' : ¬ ((k : Int) = 4) := by omega
        have HR := Lib.hid hr; clear hr h4
        go_wp2_with fail
        go_ret
        exact ⟨by rw [← HR.out]; rfl, rfl⟩
end Go.Proofs.YtjljdkamidppbabDoor
