/- FnWords: words and lines come back. -/
import Derived.Test.YtjljdkamidppbaaDrawW
import Derived.Test.YtjljdkamidppbaaJoin
import Derived.Test.YtjljdkamidppbaaSWords
import Derived.Test.YtjljdkamidppbaaWords
import Derived.Test.YtjljdkamidppbaaLines
import Derived.Test.YtjljdkamidppbaaBig
namespace Go.Proofs.Ytjljdkamidppbaa
open Go.RowKit

theorem sameT_yes (a b : Value) (ys : List ByteArray) (hl : ys.length ≤ 9223372036854775807) (w : World) (ha : ReadS w a ys) (hb : ReadS w b ys) :
    Calls Try.prog 21 #[a, b] w fun e w' => e = .returned (.bool true) ∧ ∃ n, w' = w.drewN n := by
  rcases ha with ⟨rfl, rfl⟩ | ⟨g, cap, rfl, hg⟩
  · rcases hb with ⟨rfl, _⟩ | ⟨g, cap, rfl, hg⟩
    · go_enter Try.func21, Try.ntmps21
      go_wp2
      refine wp_loop_rounds 1 ?_
      rw [rounds_succ]
      go_wp2
      go_ret
      exact ⟨rfl, 0, rfl⟩
    · go_enter Try.func21, Try.ntmps21
      go_wp2
      refine wp_loop_rounds 1 ?_
      rw [rounds_succ]
      go_wp2
      go_ret
      exact ⟨rfl, 0, rfl⟩
  · rcases hb with ⟨rfl, rfl⟩ | ⟨g2, cap2, rfl, hg2⟩
    · go_enter Try.func21, Try.ntmps21
      go_wp2
      refine wp_loop_rounds 1 ?_
      rw [rounds_succ]
      go_wp2
      go_ret
      exact ⟨rfl, 0, rfl⟩
    · have HG := Lib.hid hg; have HG2 := Lib.hid hg2; clear hg hg2
      go_enter Try.func21, Try.ntmps21
      go_wp2
      go_loopw [5] (fun i wr => ∃ k n : Nat, i = .int .i64 k ∧ k ≤ ys.length ∧ Hid (wr = w.drewN n)) (fun i _ => ys.length - (intOf i).toNat)
      case atStart => exact ⟨0, 0, rfl, Nat.zero_le _, Lib.hid rfl⟩
      case round =>
        obtain ⟨k, n, rfl, hk, HW⟩ := hrel
        by_cases hlt : k < ys.length
        · have h1 : wr.cell? ⟨g, k, none⟩ = some (.string ys[k]) := by rw [HW.out]; exact HG.out k hlt
          have h2 : wr.cell? ⟨g2, k, none⟩ = some (.string ys[k]) := by rw [HW.out]; exact HG2.out k hlt
          generalize ys[k] = y at h1 h2
          go_wp2
          go_quiet (fail)
          go_wp2
          go_roundw
          case rel => exact ⟨k + 1, _, by go_num, by omega, Lib.hid (by rw [HW.out, World.drewN_drewN])⟩
          case measure => simp [intOf]; omega
        · go_wp2
          go_ret
          exact ⟨rfl, n, HW.out⟩

theorem cat_list (a b : ByteArray) : (a ++ b).data.toList = a.data.toList ++ b.data.toList := by simp [ByteArray.data_append]

theorem join_step (c : UInt8) (ys : List ByteArray) (k : Nat) (h : k < ys.length) (acc : ByteArray) (ha : acc.data.toList = joinL c ((ys.map (·.data.toList)).take k)) :
    (acc ++ ys[k] ++ ⟨#[c]⟩).data.toList = joinL c ((ys.map (·.data.toList)).take (k + 1)) := by
  rw [cat_list, cat_list, ha, List.take_add_one, joinL_append]
  have e : (ys.map (·.data.toList))[k]? = some (ys[k].data.toList) := by rw [List.getElem?_map, List.getElem?_eq_getElem h]; rfl
  rw [e]
  simp [joinL]
theorem own_drewN {w : World} {base : Nat} {e : TypeId} {size : Nat} {v : Value} {n : Nat} {xs : List Value} (h : w.ownsRow base e size v n xs) (k : Nat) : (w.drewN k).ownsRow base e size v n xs := h
theorem size_list (b : ByteArray) : b.size = b.data.toList.length := (Array.length_toList).symm

/-- a row of texts that is read: its address, whatever it is -/
theorem readS_addr {w : World} {v : Value} {ys : List ByteArray} (h : ReadS w v ys) : ∃ ad cp, v = .slice ad ys.length cp ∧ ∀ i (hi : i < ys.length), ∃ g, ad = some ⟨g, 0, none⟩ ∧ w.cell? ⟨g, i, none⟩ = some (.string ys[i]) := by
  rcases h with ⟨rfl, rfl⟩ | ⟨g, cap, rfl, hg⟩
  · exact ⟨none, 0, rfl, fun i hi => absurd hi (Nat.not_lt_zero _)⟩
  · exact ⟨some ⟨g, 0, none⟩, cap, rfl, fun i hi => ⟨g, rfl, hg i hi⟩⟩

set_option maxHeartbeats 1000000 in
theorem walk_FnWords (a : Option Addr) (len cap : Nat) (zs : List Int) (w : World) (hrow : IsRow .u8 w a len cap zs) :
    Calls Try.prog 4 #[.slice a len cap] w fun e w' => e = .returned (.bool true) ∧ Below w.heap.size w w' := by
  have hlow := hrow.low
  have hmax : len ≤ 9223372036854775807 := by
    rcases hrow with ⟨_, rfl, _⟩ | ⟨_, _, h1, h2, _⟩
    · omega
    · unfold maxLen at h2; omega
  by_cases hl : len ≤ 1048576
  · have hsW := drawnText_size wordOpts (by decide) len zs 7 (by decide) (by decide)
    have hsL := drawnText_size lineOpts (by decide) len zs 6 (by decide) (by decide)
    have HSW := Lib.hid hsW; have HSL := Lib.hid hsL; clear hsW hsL
    obtain ⟨s, hs⟩ : ∃ s, drawnText wordOpts len zs 7 = s := ⟨_, rfl⟩
    obtain ⟨t, ht⟩ : ∃ t, drawnText lineOpts len zs 6 = t := ⟨_, rfl⟩
    rw [hs] at HSW
    rw [ht] at HSL
    have hsS := HSW.out
    have hsT := HSL.out
    have HRow := Lib.hid hrow; have HLow := Lib.hid hlow; clear hrow hlow
    go_enter Try.func4, Try.ntmps4
    go_wp2_with fail
    refine (big_no a len cap w hl).mono ?_
    rintro e w' ⟨rfl, rfl⟩
    go_wp2_with fail
    refine (drawWords_fun w a len cap zs hl HRow.out HLow.out).mono ?_
    rintro e w1 ⟨rfl, hb1⟩
    rw [hs]
    go_wp2_with fail
    refine (words_impl s (by omega) _).mono ?_
    rintro e w2 ⟨v2, ys, rfl, hys, hown2, hb2⟩
    have hyl : ys.length ≤ 201 := by
      have h1 := congrArg List.length hys
      have h2 := wordsL_len s.data.toList
      rw [List.length_map] at h1
      have h3 : s.data.toList.length = s.size := Array.length_toList
      omega
    have hr2 := readS_of_owns hown2
    have hjl : ∀ k, (joinL 32 ((ys.map (·.data.toList)).take k)).length ≤ 201 := fun k => by
      refine Nat.le_trans (joinL_take 32 _ k) ?_
      rw [hys]
      refine Nat.le_trans (joinL_words 32 _) ?_
      have h3 : s.data.toList.length = s.size := Array.length_toList
      omega
    have HJ := Lib.hid hjl; have HY := Lib.hid hys; have HR2 := Lib.hid hr2; have HO2 := Lib.hid hown2
    clear hjl hys hr2 hown2
    obtain ⟨ad, cp, rfl, hcs⟩ := readS_addr HR2.out
    have HC := Lib.hid hcs; clear hcs
    go_wp2_with fail
    go_loop [4, 5] (fun j i => ∃ (k : Nat) (acc : ByteArray), i = .int .i64 k ∧ k ≤ ys.length ∧ j = .string acc ∧ Hid (acc.data.toList = joinL 32 ((ys.map (·.data.toList)).take k))) (fun _ i => ys.length - (intOf i).toNat)
    case atStart => exact ⟨0, .empty, rfl, Nat.zero_le _, rfl, Lib.hid rfl⟩
    case round =>
      obtain ⟨k, acc, rfl, hk, rfl, HA⟩ := hrel
      by_cases hlt : k < ys.length
      · obtain ⟨g, rfl, hc⟩ := HC.out k hlt
        have hst := join_step 32 ys k hlt acc HA.out
        have hz1 : (acc ++ ys[k] ++ ⟨#[32]⟩).size ≤ 201 := by rw [size_list, hst]; exact HJ.out (k + 1)
        simp only [ByteArray.size_append] at hz1
        generalize ys[k] = y at hc hst hz1
        have HST := Lib.hid hst; clear hst
        go_wp2_with fail
        go_round
        case rel => exact ⟨k + 1, _, by go_num, by omega, rfl, HST⟩
        case measure => simp [intOf]; omega
      · obtain rfl : k = ys.length := by omega
        have hacc : acc.data.toList = joinL 32 (wordsL s.data.toList) := by
          rw [HA.out, ← HY.out, List.take_of_length_le (by rw [List.length_map]; exact Nat.le_refl _)]
        have hwj : wordsL acc.data.toList = wordsL s.data.toList := by rw [hacc]; exact wordsL_again _
        have hasz : acc.size ≤ 201 := by
          rw [size_list, HA.out]
          exact HJ.out ys.length
        have HWJ := Lib.hid hwj; clear hwj hacc
        clear HA
        go_wp2_with fail
        refine (drawLines_fun _ a len cap zs hl ((HRow.out.below HLow.out hb1).below (fun x hx hc => Nat.lt_of_lt_of_le (HLow.out x hx hc) hb1.size) hb2) (fun x hx hc => Nat.lt_of_lt_of_le (HLow.out x hx hc) (Nat.le_trans hb1.size hb2.size))).mono ?_
        rintro e w3 ⟨rfl, hb3⟩
        rw [ht]
        go_wp2_with fail
        refine (lines_impl t (by omega) _).mono ?_
        rintro e w4 ⟨v4, ls, rfl, hls, hown4, hb4⟩
        have hll : ls.length ≤ 201 := by
          have h1 := congrArg List.length hls
          have h2 := linesL_len t.data.toList
          rw [List.length_map] at h1
          have h3 : t.data.toList.length = t.size := Array.length_toList
          omega
        have hr4 := readS_of_owns hown4
        have hjl : ∀ k, (joinL 10 ((ls.map (·.data.toList)).take k)).length ≤ 201 := fun k => by
          refine Nat.le_trans (joinL_take 10 _ k) ?_
          rw [hls]
          refine Nat.le_trans (joinL_lines _) ?_
          have h3 : t.data.toList.length = t.size := Array.length_toList
          omega
        have HJL := Lib.hid hjl; have HLS := Lib.hid hls; have HR4 := Lib.hid hr4
        clear hjl hls hr4 hown4
        obtain ⟨ad4, cp4, rfl, hcs4⟩ := readS_addr HR4.out
        have HC4 := Lib.hid hcs4; clear hcs4
        go_wp2_with fail
        go_loop [8, 9] (fun j i => ∃ (k : Nat) (acc : ByteArray), i = .int .i64 k ∧ k ≤ ls.length ∧ j = .string acc ∧ Hid (acc.data.toList = joinL 10 ((ls.map (·.data.toList)).take k))) (fun _ i => ls.length - (intOf i).toNat)
        case atStart => exact ⟨0, .empty, rfl, Nat.zero_le _, rfl, Lib.hid rfl⟩
        case round =>
          obtain ⟨k, txt, rfl, hk, rfl, HA⟩ := hrel
          by_cases hlt : k < ls.length
          · obtain ⟨g, rfl, hc⟩ := HC4.out k hlt
            have hst := join_step 10 ls k hlt txt HA.out
            have hz1 : (txt ++ ls[k] ++ ⟨#[10]⟩).size ≤ 201 := by rw [size_list, hst]; exact HJL.out (k + 1)
            simp only [ByteArray.size_append] at hz1
            generalize ls[k] = y at hc hst hz1
            have HST := Lib.hid hst; clear hst
            go_wp2_with fail
            go_round
            case rel => exact ⟨k + 1, _, by go_num, by omega, rfl, HST⟩
            case measure => simp [intOf]; omega
          · obtain rfl : k = ls.length := by omega
            have htx : txt.data.toList = joinL 10 (linesL t.data.toList) := by
              rw [HA.out, ← HLS.out, List.take_of_length_le (by rw [List.length_map]; exact Nat.le_refl _)]
            clear HA
            go_wp2_with fail
            refine (words_impl acc (by omega) _).mono ?_
            rintro e w5 ⟨v5, us, rfl, hus, hown5, hb5⟩
            obtain rfl : us = ys := strs_ext (hus.trans (HWJ.out.trans HY.out.symm))
            clear hus
            have hlt2 := HO2.out.lt
            have hb24 : Below w2.heap.size w2 w4 := carry_below hb3 hb4
            have ho4 := ownsRow_below HO2.out hb24 (fun g e => (hlt2 g e).2)
            have ho5 := ownsRow_below ho4 hb5 (fun g e => Nat.lt_of_lt_of_le (hlt2 g e).2 hb24.size)
            have hra := readS_of_owns hown5
            have hrb := readS_of_owns ho5
            have HO5 := Lib.hid ho5; clear ho4 ho5 hown5 hlt2
            go_wp2_with fail
            refine (sameT_yes v5 _ us (by omega) _ hra hrb).mono ?_
            rintro e w6 ⟨rfl, n6, rfl⟩
            clear hra hrb
            have hb6 : Below w.heap.size w (w5.drewN n6) := below_drewN (carry_below (carry_below (carry_below hb1 hb2) hb24) hb5) n6
            have ho6 : (w5.drewN n6).ownsRow w1.heap.size 9 1 (.slice ad us.length cp) us.length (strVals us) := own_drewN HO5.out n6
            generalize w5.drewN n6 = w6 at hb6 ho6
            clear hb24 hb5
            have HO6 := Lib.hid ho6; clear ho6
            go_wp2_with fail
            refine (drawWords_fun w6 a len cap zs hl (HRow.out.below HLow.out hb6) (fun x hx hc => Nat.lt_of_lt_of_le (HLow.out x hx hc) hb6.size)).mono ?_
            rintro e w7 ⟨rfl, hb7⟩
            rw [hs]
            go_wp2_with fail
            refine (words_spec s (by omega) _).mono ?_
            rintro e w8 ⟨v8, xs, rfl, hxs, hown8, hb8⟩
            obtain rfl : xs = us := strs_ext (hxs.trans HY.out.symm)
            clear hxs
            have hb68 : Below w6.heap.size w6 w8 := carry_below hb7 hb8
            have hlt6 := HO6.out.lt
            have ho8 := ownsRow_below HO6.out hb68 (fun g e => (hlt6 g e).2)
            have hra := readS_of_owns ho8
            have hrb := readS_of_owns hown8
            clear hlt6 ho8 hown8
            go_wp2_with fail
            refine (sameT_yes _ v8 xs (by omega) _ hra hrb).mono ?_
            rintro e w9 ⟨rfl, n9, rfl⟩
            clear hra hrb
            have hb9 : Below w.heap.size w (w8.drewN n9) := below_drewN (carry_below hb6 hb68) n9
            rcases lines_again t.data.toList with h | ⟨h, hne⟩
            · obtain rfl : txt = t := by apply ByteArray.ext; apply Array.toList_inj.1; rw [htx, h]
              clear htx h
              go_wp2_with fail
              go_ret
              exact ⟨rfl, hb9⟩
            · have he : txt = t ++ ⟨#[10]⟩ := by apply ByteArray.ext; apply Array.toList_inj.1; rw [htx, h, cat_list]
              have hte : t.toList.isEmpty = false := by
                rw [ByteArray.toList_eq]
                cases hx : t.data.toList with
                | nil => exact absurd hx hne
                | cons c l => rfl
              have hq : ((t ++ ⟨#[10]⟩).toList == t.toList) = false := by
                rw [beq_eq_false_iff_ne, ByteArray.toList_eq, ByteArray.toList_eq, cat_list]
                intro h
                have := congrArg List.length h
                simp at this
              clear htx h hne
              go_wp2_with fail
              all_goals first | (exfalso; omega) | skip
              go_ret
              exact ⟨by simp, hb9⟩
  · go_enter Try.func4, Try.ntmps4
    go_wp2_with (go_at_call 12; refine (big_yes a len cap _ (by omega)).mono ?_; rintro e w' ⟨rfl, rfl⟩)
    go_ret
    exact ⟨rfl, Below.refl _ _⟩
end Go.Proofs.Ytjljdkamidppbaa
