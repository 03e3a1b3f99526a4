/- FnMac: an address comes back from its text, and a group's address is a group's. -/
import Derived.Test.YtjljdkamidppbaaReadMac
import Derived.Test.YtjljdkamidppbaaHexBack
import Derived.Test.YtjljdkamidppbaaDrawM
import Derived.Test.YtjljdkamidppbaaBig
import Derived.Deep.RegionHeld3
namespace Go.Proofs.Ytjljdkamidppbaa
open Go.RowKit

theorem readM_mac (m : Int) (h : isMac m) : readM ⟨(macL m).toArray⟩ = m := by
  have hs : ({ data := (macL m).toArray } : ByteArray).size = 17 := rfl
  have hc : colons ⟨(macL m).toArray⟩ hs = true := rfl
  unfold readM
  rw [dif_pos hs, if_pos hc]
  have e : digsK ⟨(macL m).toArray⟩ 6 = hexL m 12 := by
    rw [hexL_mac]
    rfl
  rw [e, show (0 : Int) = ((0 : Nat) : Int) from rfl, hex_back m 12 0]
  have h0 := h.1
  have h1 := h.2
  have e16 : (16 : Int) ^ 12 = 281474976710656 := by decide
  rw [e16]
  omega

theorem grp_grpOf (ip : Int) (h : 0 ≤ grpOf ip) : isGrp (grpOf ip) := by
  unfold grpOf at h ⊢
  split at h
  · rename_i hr
    rw [if_pos hr]
    refine ⟨⟨by omega, by omega⟩, by omega⟩
  · omega

theorem grpOf_le (ip : Int) : -1 ≤ grpOf ip ∧ grpOf ip ≤ 281474976710655 := by
  unfold grpOf
  split <;> omega

set_option maxHeartbeats 1000000 in
theorem walk_FnMac (a : Option Addr) (len cap : Nat) (zs : List Int) (w : World) (hrow : IsRow .u8 w a len cap zs) :
    Calls Try.prog 5 #[.slice a len cap] w fun e w' => e = .returned (.bool true) ∧ Below w.heap.size w w' := by
  have hlow := hrow.low
  have hmax : len ≤ 9223372036854775807 := by
    rcases hrow with ⟨_, rfl, _⟩ | ⟨_, _, h1, h2, _⟩
    · omega
    · unfold maxLen at h2; omega
  by_cases hl : len ≤ 1048576
  · go_enter Try.func5, Try.ntmps5
    go_wp2_with fail
    refine (big_no a len cap w hl).mono ?_
    rintro e w' ⟨rfl, rfl⟩
    go_wp2_with fail
    refine (drawMac_any w a len cap zs hl hrow hlow).mono ?_
    rintro e w1 ⟨m, rfl, hm0, hm1, hb1⟩
    by_cases hm : isMac m
    · go_wp2_with fail
      refine (macText_impl m hm _).mono ?_
      rintro e w2 ⟨rfl, hb2⟩
      go_wp2_with fail
      refine (drawGrp_any w2 a len cap zs hl ((hrow.below hlow hb1).below (fun x hx hc => Nat.lt_of_lt_of_le (hlow x hx hc) hb1.size) hb2) (fun x hx hc => Nat.lt_of_lt_of_le (hlow x hx hc) (Nat.le_trans hb1.size hb2.size))).mono ?_
      rintro e w3 ⟨ip, rfl, hi0, hi1, hb3⟩
      go_wp2_with fail
      refine (groupOf_impl ip _).mono ?_
      rintro e w3' ⟨rfl, rfl⟩
      go_wp2_with fail
      refine (macText_spec m hm _).mono ?_
      rintro e w4 ⟨rfl, hb4⟩
      have hne : (macL m).isEmpty = false := rfl
      have HO := Lib.hid (decide_eq_true hm)
      have HRB := Lib.hid (readM_mac m hm)
      have HGB := Lib.hid (grp_beq hm)
      have hm1' := hm.1
      have hm2' := hm.2
      clear hm
      have hg := grpOf_le ip
      have hgg := grp_grpOf ip
      have hgs := groupOf_spec ip
      generalize grpOf ip = g at hg hgg hgs
      go_wp2_with fail
      refine (hgs _).mono ?_
      rintro e w5 ⟨rfl, rfl⟩
      by_cases h0 : 0 ≤ g
      · have hd := decide_eq_true (hgg h0)
        have HD := Lib.hid hd; clear hd hgg
        go_wp2_with fail
        refine (group_impl g _).mono ?_
        rintro e w6 ⟨rfl, rfl⟩
        rw [HD.out]
        go_wp2_with fail
        refine (macOk_impl m _).mono ?_
        rintro e w7 ⟨rfl, rfl⟩
        rw [HO.out]
        go_wp2_with fail
        refine (readMac_impl ⟨(macL m).toArray⟩ _ rfl).mono ?_
        rintro e w8 ⟨rfl, hb8⟩
        rw [HRB.out]
        go_wp2_with fail
        refine (group_impl m _).mono ?_
        rintro e w9 ⟨rfl, rfl⟩
        rw [HGB.out]
        go_wp2_with fail
        go_ret
        exact ⟨rfl, carry_below (carry_below (carry_below (carry_below hb1 hb2) hb3) hb4) hb8⟩
      · clear hgg
        go_wp2_with fail
        refine (macOk_impl m _).mono ?_
        rintro e w7 ⟨rfl, rfl⟩
        rw [HO.out]
        go_wp2_with fail
        refine (readMac_impl ⟨(macL m).toArray⟩ _ rfl).mono ?_
        rintro e w8 ⟨rfl, hb8⟩
        rw [HRB.out]
        go_wp2_with fail
        refine (group_impl m _).mono ?_
        rintro e w9 ⟨rfl, rfl⟩
        rw [HGB.out]
        go_wp2_with fail
        go_ret
        exact ⟨rfl, carry_below (carry_below (carry_below (carry_below hb1 hb2) hb3) hb4) hb8⟩
    · go_wp2_with fail
      refine (macText_impl_no m hm _).mono ?_
      rintro e w2 ⟨rfl, rfl⟩
      go_wp2_with fail
      refine (drawGrp_any w1 a len cap zs hl (hrow.below hlow hb1) (fun x hx hc => Nat.lt_of_lt_of_le (hlow x hx hc) hb1.size)).mono ?_
      rintro e w3 ⟨ip, rfl, hi0, hi1, hb3⟩
      go_wp2_with fail
      refine (groupOf_impl ip _).mono ?_
      rintro e w3' ⟨rfl, rfl⟩
      go_wp2_with fail
      refine (macText_spec_no m hm _).mono ?_
      rintro e w4 ⟨rfl, rfl⟩
      have HO := Lib.hid (decide_eq_false hm)
      clear hm
      have hg := grpOf_le ip
      have hgg := grp_grpOf ip
      have hgs := groupOf_spec ip
      generalize grpOf ip = g at hg hgg hgs
      go_wp2_with fail
      refine (hgs _).mono ?_
      rintro e w5 ⟨rfl, rfl⟩
      by_cases h0 : 0 ≤ g
      · have hd := decide_eq_true (hgg h0)
        have HD := Lib.hid hd; clear hd hgg
        go_wp2_with fail
        refine (group_impl g _).mono ?_
        rintro e w6 ⟨rfl, rfl⟩
        rw [HD.out]
        go_wp2_with fail
        refine (macOk_impl m _).mono ?_
        rintro e w7 ⟨rfl, rfl⟩
        rw [HO.out]
        go_wp2_with fail
        go_ret
        exact ⟨rfl, carry_below hb1 hb3⟩
      · clear hgg
        go_wp2_with fail
        refine (macOk_impl m _).mono ?_
        rintro e w7 ⟨rfl, rfl⟩
        rw [HO.out]
        go_wp2_with fail
        go_ret
        exact ⟨rfl, carry_below hb1 hb3⟩
  · have hl' : 1048576 < len := by omega
    go_enter Try.func5, Try.ntmps5
    go_wp2_with fail
    refine (big_yes a len cap w hl').mono ?_
    rintro e w' ⟨rfl, rfl⟩
    go_wp2_with fail
    go_ret
    exact ⟨rfl, Below.refl _ _⟩
end Go.Proofs.Ytjljdkamidppbaa
