/- FnSum16, out of the program's contract. -/
import Derived.Test.YtgnckbcpnailbaaSumS
import Derived.Test.YtgnckbcpnailbaaDrawM
import Derived.Test.YtgnckbcpnailbaaText
import Derived.Test.YtgnckbcpnailbaaAt
import Derived.Test.YtgnckbcpnailbaaBig
namespace Go.Proofs.Ytgnckbcpnailbaa
open Go.RowKit

/-- some string is drawn; below the heap's end nothing has turned -/
def DrewS (w : World) (e : Ending) (w' : World) : Prop := ∃ s : ByteArray, e = .returned (.string s) ∧ s.size ≤ 100 ∧ Below w.heap.size w w'

theorem drawSum_any (w : World) (a : Option Addr) (len cap : Nat) (zs : List Int) (hl : len ≤ 1048576) (hrow : IsRow .u8 w a len cap zs) (hlow : ∀ x, a = some x → 0 < cap → x.block < w.heap.size) :
    Calls Try.prog 17 #[.slice a len cap] w (DrewS w) := by
  go_enter Try.func17, Try.ntmps17
  go_wp2_with fail
  refine (new_any w a len cap zs hl hrow hlow).mono ?_
  rintro e w1 ⟨rfl, hc1, hb1, hs1⟩
  go_wp2_with fail
  refine (once_any _ _ _ 8 (by decide) (by decide) _ hl hc1).mono ?_
  rintro e w2 ⟨b, rfl, hc2, hg2⟩
  cases b
  · go_wp2_with fail
    refine (below_any _ _ _ 9 (by decide) (by decide) _ hl hc2).mono ?_
    rintro e w3 ⟨k, rfl, hk0, hk1, hc3, hg3⟩
    obtain ⟨n, rfl⟩ := Int.eq_ofNat_of_zero_le hk0
    go_wp2_with fail
    refine (text_any _ _ _ n (by omega) _ hl hc3).mono ?_
    rintro e w4 ⟨s, hss, rfl, hc4, hg4⟩
    go_wp2_with fail
    go_ret
    exact ⟨s, rfl, by omega, hb1.trans ((grown_below (grown_trans hg2 (grown_trans hg3 hg4)) (Nat.le_refl _) (by omega)).mono (by omega))⟩
  · go_wp2_with fail
    refine (below_any _ _ _ 3 (by decide) (by decide) _ hl hc2).mono ?_
    rintro e w3 ⟨k, rfl, hk0, hk1, hc3, hg3⟩
    obtain ⟨n, rfl⟩ := Int.eq_ofNat_of_zero_le hk0
    go_wp2_with fail
    refine (text_any _ _ _ n (by omega) _ hl hc3).mono ?_
    rintro e w4 ⟨s, hss, rfl, hc4, hg4⟩
    have hsum : ¬ 9223372036854775807 < 6 + s.size := by omega
    go_wp2_with fail
    go_ret
    exact ⟨_, rfl, by rw [ByteArray.size_append, show (ByteArray.mk #[255, 255, 255, 255, 255, 255]).size = 6 from rfl]; omega, hb1.trans ((grown_below (grown_trans hg2 (grown_trans hg3 hg4)) (Nat.le_refl _) (by omega)).mono (by omega))⟩

set_option maxHeartbeats 2000000 in
set_option linter.unusedSimpArgs false in
theorem walk_FnSum16_of (hI : ∀ (s : ByteArray) (w : World), s.size ≤ 1000 → Calls Try.prog 15 #[.string s] w fun e w' => e = .returned (.int .i64 (sum16 s.data.toList : Nat)) ∧ w = w')
    (a : Option Addr) (len cap : Nat) (zs : List Int) (w : World) (hrow : IsRow .u8 w a len cap zs) :
    Calls Try.prog 4 #[.slice a len cap] w fun e w' => e = .returned (.bool true) ∧ Below w.heap.size w w' := by
  have hlow := hrow.low
  have hmax : len ≤ 9223372036854775807 := by
    rcases hrow with ⟨_, rfl, _⟩ | ⟨_, _, h1, h2, _⟩
    · omega
    · unfold maxLen at h2; omega
  by_cases hl : len ≤ 1048576
  case neg =>
    go_enter Try.func4, Try.ntmps4
    go_wp2_with fail
    refine (big_yes a len cap w (by omega)).mono ?_
    rintro e w' ⟨rfl, rfl⟩
    go_wp2_with fail
    go_ret
    exact ⟨rfl, Below.refl _ _⟩
  go_enter Try.func4, Try.ntmps4
  go_wp2_with fail
  refine (big_no a len cap w hl).mono ?_
  rintro e w' ⟨rfl, rfl⟩
  go_wp2_with fail
  refine (drawSum_any w a len cap zs hl hrow hlow).mono ?_
  rintro e w1 ⟨s, rfl, hss, hb1⟩
  have hrow1 := hrow.below hlow hb1
  have HR := Lib.hid hrow1; have HB := Lib.hid hb1
  clear hrow hlow hrow1 hb1
  go_wp2_with fail
  refine (hI s w1 (by omega)).mono ?_
  rintro e w' ⟨rfl, rfl⟩
  go_wp2_with fail
  refine (sum16_spec s w1 (by omega)).mono ?_
  rintro e w' ⟨rfl, rfl⟩
  have hsz : s.data.toList.length = s.size := by rw [Array.length_toList]; rfl
  have hle := sum16_le s.data.toList
  obtain ⟨n, hn⟩ : ∃ n, sum16 s.data.toList = n := ⟨_, rfl⟩
  rw [hn] at hle ⊢
  have hm : (s.size : Int).tmod 2 = ((s.size % 2 : Nat) : Int) := rfl
  by_cases he : s.size % 2 = 0
  case neg =>
    have he1 : s.size % 2 = 1 := by omega
    rw [he1] at hm
    have HM := Lib.hid hm
    go_wp2_with fail
    refine (sum16_spec s w1 (by omega)).mono ?_
    rintro e w' ⟨rfl, rfl⟩
    rw [hn]
    go_wp2_with fail
    go_ret
    exact ⟨rfl, HB.out⟩
  rw [he] at hm
  have HM := Lib.hid hm
  go_wp2_with fail
  refine (at_any w1 a len cap 0 zs hl (by decide) HR.out).mono ?_
  rintro e w' ⟨x, rfl, hx, rfl⟩
  obtain ⟨j, hj⟩ : ∃ j : Nat, x % (s.size / 2 + 1) = j := ⟨_, rfl⟩
  have hjl : j ≤ s.size / 2 := by have := Nat.mod_lt x (show 0 < s.size / 2 + 1 by omega); omega
  go_wp2_with fail
  have hkk : wrap64 ((x : Int) % ((s.size : Int) / 2 + 1) * 2) = ((2 * j : Nat) : Int) := by
    have e : (x : Int) % ((s.size : Int) / 2 + 1) = (j : Int) := by rw [← hj]; rfl
    rw [e]
    unfold wrap64
    omega
  have hke : ∃ k : Nat, k = 2 * j := ⟨_, rfl⟩
  obtain ⟨k, hk⟩ := hke
  rw [← hk] at hkk
  rw [hkk]
  have hks : k ≤ s.size := by omega
  have hk2 : k % 2 = 0 := by omega
  have hT : sum16 (s.extract k s.size ++ s.extract 0 k).data.toList = n := by
    have hd : s.data.toList = s.data.toList.take k ++ s.data.toList.drop k := (List.take_append_drop _ _).symm
    have e : (s.extract k s.size ++ s.extract 0 k).data.toList = s.data.toList.drop k ++ s.data.toList.take k := by
      simp only [ByteArray.data_append, Array.toList_append, ByteArray.data_extract, Array.toList_extract, List.extract, List.drop_zero, Nat.sub_zero]
      rw [List.take_of_length_le (l := s.data.toList.drop k) (by rw [List.length_drop]; omega)]
    rw [e, ← sum16_turn _ _ (by rw [List.length_drop]; omega) (by rw [List.length_take]; omega), ← hd, hn]
  have hT2 : (s.extract k s.size ++ s.extract 0 k).size ≤ 1000 := by
    simp only [ByteArray.size_append, ByteArray.size_extract]; omega
  have hN : sum16 (s ++ ({ data := #[0, 0] } : ByteArray)).data.toList = n := by
    have e : (s ++ ({ data := #[0, 0] } : ByteArray)).data.toList = s.data.toList ++ [0, 0] := by simp
    rw [e, sum16_noughts _ (by omega), hn]
  have hN2 : (s ++ ({ data := #[0, 0] } : ByteArray)).size ≤ 1000 := by
    rw [ByteArray.size_append, show (ByteArray.mk #[0, 0]).size = 2 from rfl]; omega
  have hC1 := hI _ w1 hT2
  have hC2 := hI _ w1 hN2
  rw [hT] at hC1
  rw [hN] at hC2
  have hD1 := hI _ w1.drew hT2
  have hD2 := hI _ w1.drew hN2
  rw [hT] at hD1
  rw [hN] at hD2
  have i0 : (0 : Int) ≤ (k : Int) := by omega
  have i1 : (k : Int) ≤ (s.size : Int) := by omega
  have i2 : ¬ 9223372036854775807 < s.size - k + k := by omega
  have i3 : ¬ 9223372036854775807 < s.size - k + min k s.size := by omega
  have i4 : ¬ 9223372036854775807 < s.size + 2 := by omega
  have i7 : ¬ 9223372036854775807 < s.size := by omega
  have i5 : (n : Int) ≤ 65535 := by omega
  have i6 : (0 : Int) ≤ (n : Int) := by omega
  clear hm hjl hj hx HR hkk hk hT hT2 hN hN2
  have HD1 := Lib.hid hD1; have HD2 := Lib.hid hD2
  clear hC1 hC2 hD1 hD2 hI
  refine wp_region_held_drew (S := fun _ => True) (by kernel_rfl) trivial (fun hHeld => ?_)
  refine wpAnyH_take (i := 0) (v := ?v1) rfl (by kernel_rfl) (by kernel_rfl) (by kernel_rfl) (fun _ _ _ h => h) (Or.inl ⟨by rfl, ?h1⟩) trivial ?r1
  case h1 => intro w _; go_simp; with_reducible rfl
  try simp only [Act.put, List.getElem_toArray, List.getElem_cons_zero, List.getElem_cons_succ, List.setIfInBounds_toArray, List.set_cons_zero, List.set_cons_succ]
  refine wpAnyH_take (i := 1) (v := ?v2) rfl (by kernel_rfl) (by kernel_rfl) (by kernel_rfl) (fun _ _ _ h => h) (Or.inl ⟨by rfl, ?h2⟩) trivial ?r2
  case h2 => intro w _; go_simp; with_reducible rfl
  try simp only [Act.put, List.getElem_toArray, List.getElem_cons_zero, List.getElem_cons_succ, List.setIfInBounds_toArray, List.set_cons_zero, List.set_cons_succ]
  refine wpAnyH_take (i := 2) (v := ?v3) rfl (by kernel_rfl) (by kernel_rfl) (by kernel_rfl) (fun _ _ _ h => h) (Or.inl ⟨by rfl, ?h3⟩) trivial ?r3
  case h3 => intro w _; go_simp; with_reducible rfl
  try simp only [Act.put, List.getElem_toArray, List.getElem_cons_zero, List.getElem_cons_succ, List.setIfInBounds_toArray, List.set_cons_zero, List.set_cons_succ]
  refine wpAnyH_take (i := 3) (v := ?v4) rfl (by kernel_rfl) (by kernel_rfl) (by kernel_rfl) (fun _ _ _ h => h) (Or.inl ⟨by rfl, ?h4⟩) trivial ?r4
  case h4 => intro w _; go_simp; with_reducible rfl
  try simp only [Act.put, List.getElem_toArray, List.getElem_cons_zero, List.getElem_cons_succ, List.setIfInBounds_toArray, List.set_cons_zero, List.set_cons_succ]
  refine wpAnyH_take (i := 4) (v := ?v5) rfl (by kernel_rfl) (by kernel_rfl) (by kernel_rfl) (fun _ _ _ h => h) (Or.inl ⟨by rfl, ?h5⟩) trivial ?r5
  case h5 => intro w _; go_simp; with_reducible rfl
  try simp only [Act.put, List.getElem_toArray, List.getElem_cons_zero, List.getElem_cons_succ, List.setIfInBounds_toArray, List.set_cons_zero, List.set_cons_succ]
  refine wpAnyH_take (i := 5) (v := ?v6) rfl (by kernel_rfl) (by kernel_rfl) (by kernel_rfl) (fun _ _ _ h => h) (Or.inl ⟨by rfl, ?h6⟩) trivial ?r6
  case h6 => intro w _; go_simp; with_reducible rfl
  try simp only [Act.put, List.getElem_toArray, List.getElem_cons_zero, List.getElem_cons_succ, List.setIfInBounds_toArray, List.set_cons_zero, List.set_cons_succ]
  refine wpAnyH_take (i := 6) (v := ?v7) rfl (by kernel_rfl) (by kernel_rfl) (by kernel_rfl) (fun _ _ _ h => h) (Or.inl ⟨by rfl, ?h7⟩) trivial ?r7
  case h7 => intro w _; go_simp; with_reducible rfl
  try simp only [Act.put, List.getElem_toArray, List.getElem_cons_zero, List.getElem_cons_succ, List.setIfInBounds_toArray, List.set_cons_zero, List.set_cons_succ]
  refine wpAnyH_take (i := 8) (v := ?v8) rfl (by kernel_rfl) (by kernel_rfl) (by kernel_rfl) (fun _ _ _ h => h) (Or.inl ⟨by rfl, ?h8⟩) trivial ?r8
  case h8 => intro w _; go_simp; with_reducible rfl
  try simp only [Act.put, List.getElem_toArray, List.getElem_cons_zero, List.getElem_cons_succ, List.setIfInBounds_toArray, List.set_cons_zero, List.set_cons_succ]
  refine wpAnyH_ready (rs := [7]) (by kernel_rfl) (by simp) ?_
  refine AllReadyH.cons rfl (fun K hK => ?_) AllReadyH.nil
  go_simp
  refine HD1.out.mono ?_
  rintro e w6 ⟨rfl, rfl⟩
  go_wp2_with fail
  refine hK.out _ _ trivial (fun hHeld => ?_)
  clear hK K
  try simp only [Act.put, List.getElem_toArray, List.getElem_cons_zero, List.getElem_cons_succ, List.setIfInBounds_toArray, List.set_cons_zero, List.set_cons_succ]
  refine wpAnyH_take (i := 9) (v := ?v9) rfl (by kernel_rfl) (by kernel_rfl) (by kernel_rfl) (fun _ _ _ h => h) (Or.inl ⟨by rfl, ?h9⟩) trivial ?r9
  case h9 => intro w _; go_simp; with_reducible rfl
  try simp only [Act.put, List.getElem_toArray, List.getElem_cons_zero, List.getElem_cons_succ, List.setIfInBounds_toArray, List.set_cons_zero, List.set_cons_succ]
  refine wpAnyH_take (i := 10) (v := ?v10) rfl (by kernel_rfl) (by kernel_rfl) (by kernel_rfl) (fun _ _ _ h => h) (Or.inl ⟨by rfl, ?h10⟩) trivial ?r10
  case h10 => intro w _; go_simp; with_reducible rfl
  try simp only [Act.put, List.getElem_toArray, List.getElem_cons_zero, List.getElem_cons_succ, List.setIfInBounds_toArray, List.set_cons_zero, List.set_cons_succ]
  refine wpAnyH_take (i := 11) (v := ?v11) rfl (by kernel_rfl) (by kernel_rfl) (by kernel_rfl) (fun _ _ _ h => h) (Or.inl ⟨by rfl, ?h11⟩) trivial ?r11
  case h11 => intro w _; go_simp; with_reducible rfl
  try simp only [Act.put, List.getElem_toArray, List.getElem_cons_zero, List.getElem_cons_succ, List.setIfInBounds_toArray, List.set_cons_zero, List.set_cons_succ]
  refine wpAnyH_take (i := 12) (v := ?v12) rfl (by kernel_rfl) (by kernel_rfl) (by kernel_rfl) (fun _ _ _ h => h) (Or.inl ⟨by rfl, ?h12⟩) trivial ?r12
  case h12 => intro w _; go_simp; with_reducible rfl
  try simp only [Act.put, List.getElem_toArray, List.getElem_cons_zero, List.getElem_cons_succ, List.setIfInBounds_toArray, List.set_cons_zero, List.set_cons_succ]
  refine wpAnyH_take (i := 14) (v := ?v13) rfl (by kernel_rfl) (by kernel_rfl) (by kernel_rfl) (fun _ _ _ h => h) (Or.inl ⟨by rfl, ?h13⟩) trivial ?r13
  case h13 => intro w _; go_simp; with_reducible rfl
  try simp only [Act.put, List.getElem_toArray, List.getElem_cons_zero, List.getElem_cons_succ, List.setIfInBounds_toArray, List.set_cons_zero, List.set_cons_succ]
  refine wpAnyH_ready (rs := [13]) (by kernel_rfl) (by simp) ?_
  refine AllReadyH.cons rfl (fun K hK => ?_) AllReadyH.nil
  go_simp
  refine HD2.out.mono ?_
  rintro e w6 ⟨rfl, rfl⟩
  go_wp2_with fail
  refine hK.out _ _ trivial (fun hHeld => ?_)
  clear hK K
  try simp only [Act.put, List.getElem_toArray, List.getElem_cons_zero, List.getElem_cons_succ, List.setIfInBounds_toArray, List.set_cons_zero, List.set_cons_succ]
  refine wpAnyH_take (i := 15) (v := ?v14) rfl (by kernel_rfl) (by kernel_rfl) (by kernel_rfl) (fun _ _ _ h => h) (Or.inl ⟨by rfl, ?h14⟩) trivial ?r14
  case h14 => intro w _; go_simp; with_reducible rfl
  try simp only [Act.put, List.getElem_toArray, List.getElem_cons_zero, List.getElem_cons_succ, List.setIfInBounds_toArray, List.set_cons_zero, List.set_cons_succ]
  refine wpAnyH_take (i := 16) (v := ?v15) rfl (by kernel_rfl) (by kernel_rfl) (by kernel_rfl) (fun _ _ _ h => h) (Or.inl ⟨by rfl, ?h15⟩) trivial ?r15
  case h15 => intro w _; go_simp; with_reducible rfl
  try simp only [Act.put, List.getElem_toArray, List.getElem_cons_zero, List.getElem_cons_succ, List.setIfInBounds_toArray, List.set_cons_zero, List.set_cons_succ]
  refine wpAnyH_take (i := 17) (v := ?v16) rfl (by kernel_rfl) (by kernel_rfl) (by kernel_rfl) (fun _ _ _ h => h) (Or.inl ⟨by rfl, ?h16⟩) trivial ?r16
  case h16 => intro w _; go_simp; with_reducible rfl
  try simp only [Act.put, List.getElem_toArray, List.getElem_cons_zero, List.getElem_cons_succ, List.setIfInBounds_toArray, List.set_cons_zero, List.set_cons_succ]
  refine wpAnyH_take (i := 18) (v := ?v17) rfl (by kernel_rfl) (by kernel_rfl) (by kernel_rfl) (fun _ _ _ h => h) (Or.inl ⟨by rfl, ?h17⟩) trivial ?r17
  case h17 => intro w _; go_simp; with_reducible rfl
  try simp only [Act.put, List.getElem_toArray, List.getElem_cons_zero, List.getElem_cons_succ, List.setIfInBounds_toArray, List.set_cons_zero, List.set_cons_succ]
  refine wpAnyH_take (i := 19) (v := ?v18) rfl (by kernel_rfl) (by kernel_rfl) (by kernel_rfl) (fun _ _ _ h => h) (Or.inl ⟨by rfl, ?h18⟩) trivial ?r18
  case h18 => intro w _; go_simp; with_reducible rfl
  try simp only [Act.put, List.getElem_toArray, List.getElem_cons_zero, List.getElem_cons_succ, List.setIfInBounds_toArray, List.set_cons_zero, List.set_cons_succ]
  refine wpAnyH_take (i := 20) (v := ?v19) rfl (by kernel_rfl) (by kernel_rfl) (by kernel_rfl) (fun _ _ _ h => h) (Or.inl ⟨by rfl, ?h19⟩) trivial ?r19
  case h19 => intro w _; go_simp; with_reducible rfl
  try simp only [Act.put, List.getElem_toArray, List.getElem_cons_zero, List.getElem_cons_succ, List.setIfInBounds_toArray, List.set_cons_zero, List.set_cons_succ]
  refine wpAnyH_take (i := 21) (v := ?v20) rfl (by kernel_rfl) (by kernel_rfl) (by kernel_rfl) (fun _ _ _ h => h) (Or.inl ⟨by rfl, ?h20⟩) trivial ?r20
  case h20 => intro w _; go_simp; with_reducible rfl
  try simp only [Act.put, List.getElem_toArray, List.getElem_cons_zero, List.getElem_cons_succ, List.setIfInBounds_toArray, List.set_cons_zero, List.set_cons_succ]
  refine wpAnyH_take (i := 22) (v := ?v21) rfl (by kernel_rfl) (by kernel_rfl) (by kernel_rfl) (fun _ _ _ h => h) (Or.inl ⟨by rfl, ?h21⟩) trivial ?r21
  case h21 => intro w _; go_simp; with_reducible rfl
  try simp only [Act.put, List.getElem_toArray, List.getElem_cons_zero, List.getElem_cons_succ, List.setIfInBounds_toArray, List.set_cons_zero, List.set_cons_succ]
  refine wpAnyH_take (i := 23) (v := ?v22) rfl (by kernel_rfl) (by kernel_rfl) (by kernel_rfl) (fun _ _ _ h => h) (Or.inl ⟨by rfl, ?h22⟩) trivial ?r22
  case h22 => intro w _; go_simp; with_reducible rfl
  try simp only [Act.put, List.getElem_toArray, List.getElem_cons_zero, List.getElem_cons_succ, List.setIfInBounds_toArray, List.set_cons_zero, List.set_cons_succ]
  refine wpAnyH_take (i := 24) (v := ?v23) rfl (by kernel_rfl) (by kernel_rfl) (by kernel_rfl) (fun _ _ _ h => h) (Or.inl ⟨by rfl, ?h23⟩) trivial ?r23
  case h23 => intro w _; go_simp; with_reducible rfl
  try simp only [Act.put, List.getElem_toArray, List.getElem_cons_zero, List.getElem_cons_succ, List.setIfInBounds_toArray, List.set_cons_zero, List.set_cons_succ]
  refine wpAnyH_take (i := 25) (v := ?v24) rfl (by kernel_rfl) (by kernel_rfl) (by kernel_rfl) (fun _ _ _ h => h) (Or.inl ⟨by rfl, ?h24⟩) trivial ?r24
  case h24 => intro w _; go_simp; with_reducible rfl
  try simp only [Act.put, List.getElem_toArray, List.getElem_cons_zero, List.getElem_cons_succ, List.setIfInBounds_toArray, List.set_cons_zero, List.set_cons_succ]
  refine wpAnyH_done (by kernel_rfl) ?_ _
  go_wp2_with fail
  go_ret
  exact ⟨rfl, HB.out.trans ((Below.refl _ _).drew.mono HB.out.size)⟩
end Go.Proofs.Ytgnckbcpnailbaa
