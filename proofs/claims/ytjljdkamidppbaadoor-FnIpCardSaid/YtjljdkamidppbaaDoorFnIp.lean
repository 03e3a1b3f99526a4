/- FnIp: a number of four bytes comes back from its text. -/
import Derived.Test.YtjljdkamidppbaaDoorIpText
import Derived.Test.YtjljdkamidppbaaDoorReadIp
import Derived.Test.YtjljdkamidppbaaDoorDrawM
import Derived.Test.YtjljdkamidppbaaDoorBig
namespace Go.Proofs.YtjljdkamidppbaaDoor
open Go.RowKit

set_option maxHeartbeats 1000000 in
theorem walk_FnIp (a : Option Addr) (len cap : Nat) (zs : List Int) (w : World) (hrow : IsRow .u8 w a len cap zs) (ht : Tab w) :
    Calls Tryd.prog 4 #[.slice a len cap] w fun e w' => e = .returned (.bool true) ∧ Below w.heap.size w w' := by
  have hlow := hrow.low
  have hmax : len ≤ 9223372036854775807 := by
    rcases hrow with ⟨_, rfl, _⟩ | ⟨_, _, h1, h2, _⟩
    · omega
    · unfold maxLen at h2; omega
  have hg : 1 < w.heap.size := World.block_lt_of_cell? _ _ (Lib.TabIs.cell ht tab_global 0 (by rw [Lib.pow10Tab_length]; decide))
  have HT := Lib.hid ht; clear ht
  have HG := Lib.hid hg; clear hg
  by_cases hl : len ≤ 1048576
  · go_enter Tryd.func4, Tryd.ntmps4
    go_wp2_with fail
    refine (big_no a len cap w hl).mono ?_
    rintro e w' ⟨rfl, rfl⟩
    go_wp2_with fail
    refine (drawIp_any w a len cap zs hl hrow hlow).mono ?_
    rintro e w1 ⟨m, rfl, hm0, hm1, hb1⟩
    by_cases hm : isIp m
    · have h0 := hm.1
      have h1 := hm.2
      have hln := ipL_len m hm
      have hrd := readI_ip m hm
      have hsp := ipText_spec m hm
      have him := fun w ht => ipText_impl m hm w ht
      generalize ipL m = l at hln hrd hsp him
      have HL := Lib.hid hln; clear hln
      have HR := Lib.hid hrd; clear hrd
      have HS := Lib.hid hsp; clear hsp
      have HI := Lib.hid him; clear him
      have HM := Lib.hid hm; clear hm
      go_wp2_with fail
      refine (HI.out _ (HT.out.below hb1 HG.out)).mono ?_
      rintro e w2 ⟨rfl, hb2⟩
      go_wp2_with fail
      refine (HS.out _).mono ?_
      rintro e w3 ⟨rfl, rfl⟩
      go_wp2_with fail
      refine (readIp_impl ⟨l.toArray⟩ (by show l.toArray.size ≤ _; rw [List.size_toArray]; have := HL.out; omega) _).mono ?_
      rintro e w4 ⟨rfl, hb4⟩
      rw [show ({ data := l.toArray } : ByteArray).data.toList = l from rfl, HR.out]
      go_wp2_with fail
      go_ret
      exact ⟨rfl, carry_below (carry_below hb1 hb2) hb4⟩
    · have hi := fun w => ipText_impl_no m hm w
      have hs := fun w => ipText_spec_no m hm w
      have HI := Lib.hid hi; clear hi
      have HS := Lib.hid hs; clear hs
      by_cases h0 : 0 ≤ m
      · have h1 : 4294967295 < m := by
          have hx : ¬ (0 ≤ m ∧ m ≤ 4294967295) := hm
          omega
        have HM := Lib.hid hm; clear hm
        go_wp2_with fail
        refine (HI.out _).mono ?_
        rintro e w2 ⟨rfl, rfl⟩
        go_wp2_with fail
        refine (HS.out _).mono ?_
        rintro e w3 ⟨rfl, rfl⟩
        go_wp2_with fail
        go_ret
        exact ⟨rfl, hb1⟩
      · have h1 : m < 0 := by omega
        have HM := Lib.hid hm; clear hm
        go_wp2_with fail
        refine (HI.out _).mono ?_
        rintro e w2 ⟨rfl, rfl⟩
        go_wp2_with fail
        refine (HS.out _).mono ?_
        rintro e w3 ⟨rfl, rfl⟩
        go_wp2_with fail
        go_ret
        exact ⟨rfl, hb1⟩
  · have hl' : 1048576 < len := by omega
    go_enter Tryd.func4, Tryd.ntmps4
    go_wp2_with fail
    refine (big_yes a len cap w hl').mono ?_
    rintro e w' ⟨rfl, rfl⟩
    go_wp2_with fail
    go_ret
    exact ⟨rfl, Below.refl _ _⟩
end Go.Proofs.YtjljdkamidppbaaDoor
