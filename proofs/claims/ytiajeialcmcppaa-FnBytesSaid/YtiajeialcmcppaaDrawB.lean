/- The drawn bytes of frames: l01Bent, l03Bytes, DrawGetFrame. -/
import Derived.Test.YtiajeialcmcppaaDrawFr2
import Derived.Test.YtiajeialcmcppaaFrM
import Derived.Deep.RegionWith
import Derived.IntWalk
namespace Go.Proofs.Ytiajeialcmcppaa
open Go.RowKit

theorem grown_ofB {w w' : World} {r : Option Nat} (h : Below w.heap.size w w') : w.grownBy w' r := ⟨h.os, h.tape, h.output, h.size, fun k hk _ => h.block k hk⟩
theorem cur_below {B c len : Nat} {w w' : World} (hc : Cur B c len w) (h : Below w.heap.size w w') : Cur B c len w' := cur_grow hc (grown_ofB h)

/-- a string of at most n bytes is drawn -/
def DrawnStr (B c len n : Nat) (w : World) (e : Ending) (w' : World) : Prop := ∃ t : ByteArray, e = .returned (.string t) ∧ t.size ≤ n ∧ Cur B c len w' ∧ w.grownBy w' (some c)

theorem pickStr_any (B c len g m cap n : Nat) (ts : List ByteArray) (hts : ∀ i, i < m → (ts.getD i .empty).size ≤ n) (hm1 : 1 ≤ m) (hm2 : m ≤ 256) (w : World) (hl : len ≤ 1048576) (hc : Cur B c len w) (hne : g ≠ c)
    (hcell : ∀ i, i < m → w.cell? ⟨g, i, none⟩ = some (.string (ts.getD i .empty))) :
    Calls Try.prog 51 #[.pointer (some ⟨c, 0, none⟩), .slice (some ⟨g, 0, none⟩) m cap] w (DrawnStr B c len n w) := by
  obtain ⟨zs, s, h⟩ := curF_of hc
  have hb := belowF_low len zs m (by omega) s
  refine (pick_fun B c len zs s g m cap ts hm1 hm2 w hl h hne hcell).mono ?_
  rintro e w' ⟨rfl, hc', hg⟩
  exact ⟨_, rfl, hts _ (by omega), hc'.cur, hg⟩

/-- .. out of a row that lies in the newest block -/
theorem pickNew_any (B c len m n : Nat) (cs : Array Value) (t : TypeId) (ts : List ByteArray) (hts : ∀ i, i < m → (ts.getD i .empty).size ≤ n) (hm1 : 1 ≤ m) (hm2 : m ≤ 256) (w : World) (hl : len ≤ 1048576) (hc : Cur B c len w)
    (hcs : ∀ i, i < m → cs[i]? = some (.string (ts.getD i .empty))) :
    Calls Try.prog 51 #[.pointer (some ⟨c, 0, none⟩), .slice (some ⟨w.heap.size, 0, none⟩) m m] (w.alloc (.cells cs t)) (DrawnStr B c len n w) := by
  refine (pickStr_any B c len w.heap.size m m n ts hts hm1 hm2 _ hl (cur_alloc hc cs t) (by have := cur_lt hc; omega) ?_).mono ?_
  · intro i hi
    rw [World.cell?_alloc_at (hn := rfl)]
    exact hcs i hi
  · rintro e w' ⟨t, rfl, ht, hc', hg⟩
    exact ⟨t, rfl, ht, hc', grown_trans (World.grownBy_alloc _ _ _) hg⟩
theorem pickNew_drew (B c len m n : Nat) (cs : Array Value) (t : TypeId) (ts : List ByteArray) (hts : ∀ i, i < m → (ts.getD i .empty).size ≤ n) (hm1 : 1 ≤ m) (hm2 : m ≤ 256) (w : World) (hl : len ≤ 1048576) (hc : Cur B c len w)
    (hcs : ∀ i, i < m → cs[i]? = some (.string (ts.getD i .empty))) :
    Calls Try.prog 51 #[.pointer (some ⟨c, 0, none⟩), .slice (some ⟨w.heap.size, 0, none⟩) m m] (w.alloc (.cells cs t)).drew (DrawnStr B c len n w) := by
  have hcd : Cur B c len w.drew := hc
  exact (pickNew_any B c len m n cs t ts hts hm1 hm2 w.drew hl hcd hcs).mono fun e w' ⟨t, h1, h2, h3, h4⟩ => ⟨t, h1, h2, h3, ⟨h4.os, h4.tape, h4.output, h4.size, h4.block⟩⟩

set_option maxHeartbeats 1000000 in
theorem bent_any (B c len : Nat) (s : ByteArray) (hs : s.size ≤ 100000) (w : World) (hl : len ≤ 1048576) (hc : Cur B c len w) :
    Calls Try.prog 37 #[.pointer (some ⟨c, 0, none⟩), .string s] w (DrawnStr B c len (s.size + 1) w) := by
  go_enter Try.func37, Try.ntmps37
  go_wp2_with fail
  refine (below_any B c len ((s.size : Int) + 1) (by omega) (by omega) _ hl hc).mono ?_
  rintro e w1 ⟨x, rfl, hx0, hx1, hc1, hg1⟩
  obtain ⟨i, rfl⟩ := Int.eq_ofNat_of_zero_le hx0
  have hi : i ≤ s.size := by omega
  go_wp2_with fail
  refine (below_any B c len 10 (by decide) (by decide) _ hl hc1).mono ?_
  rintro e w2 ⟨k, rfl, hk0, hk1, hc2, hg2⟩
  have hg := grown_trans hg1 hg2
  clear hg1 hg2 hc1 hx0 hx1 hc
  have i0 : (0 : Int) ≤ (i : Int) := by omega
  have i2 : (i : Int) ≤ (s.size : Int) := by omega
  have hk : k = 0 ∨ k = 1 ∨ k = 2 ∨ 3 ≤ k := by omega
  rcases hk with rfl | rfl | rfl | hk3
  · go_wp2_with fail
    go_ret
    refine ⟨_, rfl, ?_, hc2, hg⟩
    rw [ByteArray.size_extract]
    omega
  · have hp := pickNew_drew B c len 8 1 #[.string ⟨#[48]⟩, .string ⟨#[32]⟩, .string ⟨#[255]⟩, .string ⟨#[58]⟩, .string ⟨#[10]⟩, .string ⟨#[97]⟩, .string ⟨#[46]⟩, .string ⟨#[0]⟩] 9 [⟨#[48]⟩, ⟨#[32]⟩, ⟨#[255]⟩, ⟨#[58]⟩, ⟨#[10]⟩, ⟨#[97]⟩, ⟨#[46]⟩, ⟨#[0]⟩] (by decide) (by decide) (by decide) w2 hl hc2 (by intro i hi; match i, hi with | 0, _ | 1, _ | 2, _ | 3, _ | 4, _ | 5, _ | 6, _ | 7, _ => rfl)
    have HP := Lib.hid hp
    clear hp
    go_wp2_with fail
    go_region_with (go_at_call 51; refine (HP.out).mono ?_; rintro e w3 ⟨t, rfl, ht, hc3, hg3⟩)
    go_wp2_with fail
    go_ret
    refine ⟨_, rfl, ?_, hc3, grown_trans hg hg3⟩
    rw [ByteArray.size_append, ByteArray.size_append, ByteArray.size_extract, ByteArray.size_extract]
    omega
  · by_cases hil : i < s.size
    · have hp := pickNew_drew B c len 6 1 #[.string ⟨#[48]⟩, .string ⟨#[65]⟩, .string ⟨#[0]⟩, .string ⟨#[57]⟩, .string ⟨#[102]⟩, .string ⟨#[1]⟩] 9 [⟨#[48]⟩, ⟨#[65]⟩, ⟨#[0]⟩, ⟨#[57]⟩, ⟨#[102]⟩, ⟨#[1]⟩] (by decide) (by decide) (by decide) w2 hl hc2 (by intro i hi; match i, hi with | 0, _ | 1, _ | 2, _ | 3, _ | 4, _ | 5, _ => rfl)
      have HP := Lib.hid hp
      clear hp
      have i1 : (i : Int) < (s.size : Int) := by omega
      have i3 : IntKind.i64.wrap ((i : Int) + 1) = (i : Int) + 1 := IntWalk.i64_in _ (by omega)
      have i4 : (0 : Int) ≤ (i : Int) + 1 := by omega
      have i5 : (i : Int) + 1 ≤ (s.size : Int) := by omega
      have i6 : ((i : Int) + 1).toNat = i + 1 := by omega
      go_wp2_with fail
      go_region_with (go_at_call 51; refine (HP.out).mono ?_; rintro e w3 ⟨t, rfl, ht, hc3, hg3⟩)
      go_wp2_with fail
      go_ret
      refine ⟨_, rfl, ?_, hc3, grown_trans hg hg3⟩
      rw [ByteArray.size_append, ByteArray.size_append, ByteArray.size_extract, ByteArray.size_extract]
      omega
    · have i1 : ¬ ((i : Int) < (s.size : Int)) := by omega
      go_wp2_with fail
      go_ret
      exact ⟨s, rfl, by omega, hc2, hg⟩
  · have h0 : ¬ (k = 0) := by omega
    have h1 : ¬ (k = 1) := by omega
    have h2 : ¬ (k = 2) := by omega
    go_wp2_with fail
    go_ret
    exact ⟨s, rfl, by omega, hc2, hg⟩

set_option maxHeartbeats 1000000 in
theorem bytesFr_any (B c len : Nat) (w : World) (hl : len ≤ 1048576) (hc : Cur B c len w) :
    Calls Try.prog 36 #[.pointer (some ⟨c, 0, none⟩)] w (DrawnStr B c len 3000 w) := by
  obtain ⟨i0, hi, hz0, hz1, hz2⟩ := info_parts info5
  have hp := pickNew_any B c len 7 4 #[.string ⟨#[]⟩, .string ⟨#[129, 0]⟩, .string ⟨#[129, 0, 0, 5]⟩, .string ⟨#[129, 0, 16, 5]⟩, .string ⟨#[129, 0, 15, 255]⟩, .string ⟨#[129, 0, 0, 0]⟩, .string ⟨#[129, 0, 224, 10]⟩] 9 [⟨#[]⟩, ⟨#[129, 0]⟩, ⟨#[129, 0, 0, 5]⟩, ⟨#[129, 0, 16, 5]⟩, ⟨#[129, 0, 15, 255]⟩, ⟨#[129, 0, 0, 0]⟩, ⟨#[129, 0, 224, 10]⟩] (by decide) (by decide) (by decide) w hl hc (by intro i hi; match i, hi with | 0, _ | 1, _ | 2, _ | 3, _ | 4, _ | 5, _ | 6, _ => rfl)
  have HP := Lib.hid hp; clear hp
  go_enter Try.func36, Try.ntmps36
  go_wp2_with fail
  refine (HP.out).mono ?_
  rintro e w1 ⟨tag, rfl, htag, hc1, hg1⟩
  go_wp2_with fail
  refine (mac_any B c len _ hl hc1).mono ?_
  rintro e w2 ⟨m1, rfl, _, hc2, hg2⟩
  have hG2 := grown_trans hg1 hg2
  clear hg1 hg2 hc1 hc HP
  go_wp2_with fail
  refine (put_spec m1 6 _ (by decide) (by decide)).mono ?_
  rintro e w3 ⟨rfl, hb3⟩
  rw [show (6 : Int).toNat = 6 from rfl]
  have hc3 := cur_below hc2 hb3
  have hG3 := grown_trans hG2 (grown_ofB hb3)
  have hl1 := putL_length m1 6
  generalize putL m1 6 = p1 at hl1 ⊢
  clear hc2 hG2 hb3
  go_wp2_with fail
  refine (mac_any B c len _ hl hc3).mono ?_
  rintro e w4 ⟨m2, rfl, _, hc4, hg4⟩
  have hG4 := grown_trans hG3 hg4
  clear hc3 hG3 hg4
  go_wp2_with fail
  refine (put_spec m2 6 _ (by decide) (by decide)).mono ?_
  rintro e w5 ⟨rfl, hb5⟩
  rw [show (6 : Int).toNat = 6 from rfl]
  have hc5 := cur_below hc4 hb5
  have hG5 := grown_trans hG4 (grown_ofB hb5)
  have hl2 := putL_length m2 6
  generalize putL m2 6 = p2 at hl2 ⊢
  clear hc4 hG4 hb5
  have hp2 := pickNew_any B c len 4 2 #[.string ⟨#[8, 0]⟩, .string ⟨#[5, 255]⟩, .string ⟨#[129, 0]⟩, .string ⟨#[]⟩] 9 [⟨#[8, 0]⟩, ⟨#[5, 255]⟩, ⟨#[129, 0]⟩, ⟨#[]⟩] (by decide) (by decide) (by decide) w5 hl hc5 (by intro i hi; match i, hi with | 0, _ | 1, _ | 2, _ | 3, _ => rfl)
  have HP2 := Lib.hid hp2; clear hp2
  have hs1 : ({ data := p1.toArray } : ByteArray).size = 6 := by show p1.toArray.size = 6; simpa using hl1
  have hs2 : ({ data := p2.toArray } : ByteArray).size = 6 := by show p2.toArray.size = 6; simpa using hl2
  generalize ({ data := p1.toArray } : ByteArray) = b1 at hs1 ⊢
  generalize ({ data := p2.toArray } : ByteArray) = b2 at hs2 ⊢
  have hs1' : b1.size ≤ 6 := by omega
  have hs2' : b2.size ≤ 6 := by omega
  clear hl1 hl2 hs1 hs2
  go_wp2_with fail
  refine (HP2.out).mono ?_
  rintro e w6 ⟨ty, rfl, hty, hc6, hg6⟩
  have hG6 := grown_trans hG5 hg6
  clear hc5 hG5 hg6 HP2
  go_wp2_with fail
  refine (below_any B c len 5 (by decide) (by decide) _ hl hc6).mono ?_
  rintro e w7 ⟨x, rfl, hx0, hx1, hc7, hg7⟩
  obtain ⟨n, rfl⟩ := Int.eq_ofNat_of_zero_le hx0
  have hG7 := grown_trans hG6 hg7
  clear hc6 hG6 hg7
  go_wp2_with fail
  refine (text_any B c len n (by omega) _ hl hc7).mono ?_
  rintro e w8 ⟨tx, htx, rfl, hc8, hg8⟩
  have hG8 := grown_trans hG7 hg8
  have htx' : tx.size ≤ 5 := by omega
  clear hc7 hG7 hg8 htx hx0
  go_wp2_with fail
  have hsz : (b1 ++ b2 ++ tag ++ ty ++ tx).size ≤ 100 := by simp only [ByteArray.size_append]; omega
  generalize b1 ++ b2 ++ tag ++ ty ++ tx = s0 at hsz ⊢
  clear hs1' hs2' htag hty htx'
  refine (once_any B c len 8 (by decide) (by decide) _ hl hc8).mono ?_
  rintro e w9 ⟨b, rfl, hc9, hg9⟩
  have hG9 := grown_trans hG8 hg9
  clear hc8 hG8 hg9
  cases b
  · go_wp2_with fail
    refine (sum_spec s0 _ (by omega)).mono ?_
    rintro e w10 ⟨rfl, hb10⟩
    have hc10 := cur_below hc9 hb10
    have hG10 := grown_trans hG9 (grown_ofB hb10)
    have h4 : (⟨(sumL s0.data.toList).toArray⟩ : ByteArray).size ≤ 4 := by show (sumL s0.data.toList).toArray.size ≤ 4; simp [sumL_len]
    generalize (⟨(sumL s0.data.toList).toArray⟩ : ByteArray) = q at h4 ⊢
    clear hc9 hG9 hb10
    go_wp2_with fail
    go_ret
    exact ⟨_, rfl, by rw [ByteArray.size_append]; omega, hc10, hG10⟩
  · go_wp2_with fail
    refine (below_any B c len 12 (by decide) (by decide) _ hl hc9).mono ?_
    rintro e w10 ⟨x, rfl, hx0, hx1, hc10, hg10⟩
    obtain ⟨n, rfl⟩ := Int.eq_ofNat_of_zero_le hx0
    have hG10 := grown_trans hG9 hg10
    clear hc9 hG9 hg10 hx0
    go_wp2_with (at_make; refine wpList_make_full _ rfl _ _ 22 rfl w10.heap.size 5 i0 (.int .u8 0) 1 Try.underlying22 hi hz0 hz1 .i64 .i64 _ _ (1494 + n) rfl rfl (by omega) (by omega) (by rw [hz2]; omega) (by unfold maxLen; omega) (Nat.le_refl _) ?_)
    intro w11 hown hgrow
    have hown0 : w11.ownsRow w10.heap.size 5 1 (.slice (some ⟨w10.heap.size, 0, none⟩) (1494 + n) (1494 + n)) (1494 + n) (byteVals (List.replicate (1494 + n) 0)) := by
      have e : (madeCells #[Value.int .u8 0] (1494 + n)).toList = byteVals (List.replicate (1494 + n) 0) := by
        rw [toList_madeCells_one]; simp [byteVals]
      rw [← e]; exact hown
    have hcv := run_string_owned hown0
    generalize hx : (⟨(List.replicate (1494 + n) (0 : UInt8)).toArray⟩ : ByteArray) = x at hcv
    have hszx : x.size ≤ 1600 := by rw [← hx]; show ((List.replicate (1494 + n) (0 : UInt8)).toArray).size ≤ 1600; simp; omega
    have hc11 := cur_grow hc10 hgrow
    have hG11 := grown_trans hG10 (grown_own' (c := some c) hgrow)
    clear hc10 hG10 hown hown0 hgrow hx
    go_wp2_with fail
    have hsz2 : (s0 ++ x).size ≤ 1700 := by rw [ByteArray.size_append]; omega
    generalize s0 ++ x = s1 at hsz2 ⊢
    clear hcv hszx
    refine (sum_spec s1 _ (by omega)).mono ?_
    rintro e w12 ⟨rfl, hb12⟩
    have hc12 := cur_below hc11 hb12
    have hG12 := grown_trans hG11 (grown_ofB hb12)
    have h4 : (⟨(sumL s1.data.toList).toArray⟩ : ByteArray).size ≤ 4 := by show (sumL s1.data.toList).toArray.size ≤ 4; simp [sumL_len]
    generalize (⟨(sumL s1.data.toList).toArray⟩ : ByteArray) = q at h4 ⊢
    clear hc11 hG11 hb12
    go_wp2_with fail
    go_ret
    exact ⟨_, rfl, by rw [ByteArray.size_append]; omega, hc12, hG12⟩

/-- PutFrame of the model, of whatever frame that is not too great -/
def SomeBytes (n : Nat) (w : World) (e : Ending) (w' : World) : Prop := ∃ t : ByteArray, e = .returned (.string t) ∧ t.size ≤ n ∧ Below w.heap.size w w'
theorem putFrame_some (f : Fr) (hbs : f.body.size ≤ 1600) (w : World) : Calls Try.prog 19 #[f.val] w (SomeBytes 1600 w) := by
  by_cases h : frOk f
  · refine (putFrame_spec f h w).mono ?_
    rintro e w' ⟨rfl, hb⟩
    have h1 := frL_len f
    have h2 : f.body.size ≤ 1500 := h.2.2.2.2.2
    exact ⟨_, rfl, by show (frL f).toArray.size ≤ 1600; rw [List.size_toArray, h1]; split <;> omega, hb⟩
  · refine (putFrame_no f h (by omega) w).mono ?_
    rintro e w' ⟨rfl, hb⟩
    exact ⟨_, rfl, by decide, hb⟩

/-- some string is drawn; below the heap's end nothing has turned -/
def DrewStr (w : World) (e : Ending) (w' : World) : Prop := ∃ s : ByteArray, e = .returned (.string s) ∧ s.size ≤ 3000 ∧ Below w.heap.size w w'

theorem drawGetFrame_any (w : World) (a : Option Addr) (len cap : Nat) (zs : List Int) (hl : len ≤ 1048576) (hrow : IsRow .u8 w a len cap zs) (hlow : ∀ x, a = some x → 0 < cap → x.block < w.heap.size) :
    Calls Try.prog 15 #[.slice a len cap] w (DrewStr w) := by
  go_enter Try.func15, Try.ntmps15
  go_wp2_with fail
  refine (new_any w a len cap zs hl hrow hlow).mono ?_
  rintro e w1 ⟨rfl, hc1, hb1, hs1⟩
  go_wp2_with fail
  refine (below_any _ _ _ 4 (by decide) (by decide) _ hl hc1).mono ?_
  rintro e w2 ⟨k, rfl, hk0, hk1, hc2, hg2⟩
  have fin : ∀ w3, w1.grownBy w3 (some w.heap.size) → Below w.heap.size w w3 := fun w3 hg => hb1.trans ((grown_below hg (Nat.le_refl _) (by omega)).mono (by omega))
  have FIN := Lib.hid fin
  clear fin hb1 hs1 hc1
  have hk : k = 0 ∨ k = 1 ∨ 2 ≤ k := by omega
  rcases hk with rfl | rfl | hk2
  · go_wp2_with fail
    refine (bytesFr_any _ _ _ _ hl hc2).mono ?_
    rintro e w3 ⟨t, rfl, ht, hc3, hg3⟩
    have hG := FIN.out w3 (grown_trans hg2 hg3)
    clear hc2 hg2 hc3 hg3
    go_wp2_with fail
    go_ret
    exact ⟨t, rfl, ht, hG⟩
  · go_wp2_with fail
    refine (make_any _ _ _ _ hl hc2).mono ?_
    rintro e w3 ⟨f, rfl, hf, hc3, hg3⟩
    have hG3 := grown_trans hg2 hg3
    clear hc2 hg2 hg3
    go_wp2_with fail
    refine (putFrame_some f hf _).mono ?_
    rintro e w4 ⟨t, rfl, ht, hb4⟩
    have hc4 := cur_below hc3 hb4
    have hG4 := grown_trans hG3 (grown_ofB hb4)
    clear hc3 hG3 hb4 hf
    go_wp2_with fail
    refine (bent_any _ _ _ t (by omega) _ hl hc4).mono ?_
    rintro e w5 ⟨u, rfl, hu, hc5, hg5⟩
    have hG := FIN.out w5 (grown_trans hG4 hg5)
    clear hc4 hG4 hc5 hg5
    go_wp2_with fail
    go_ret
    exact ⟨u, rfl, by omega, hG⟩
  · have h0 : ¬ (k = 0) := by omega
    have h1 : ¬ (k = 1) := by omega
    go_wp2_with fail
    refine (anyFr_any _ _ _ _ hl hc2).mono ?_
    rintro e w3 ⟨f, rfl, hf, hc3, hg3⟩
    have hG3 := grown_trans hg2 hg3
    clear hc2 hg2 hg3
    go_wp2_with fail
    refine (putFrame_some f hf _).mono ?_
    rintro e w4 ⟨t, rfl, ht, hb4⟩
    have hG := FIN.out w4 (grown_trans hG3 (grown_ofB hb4))
    clear hc3 hG3 hb4 hf
    go_wp2_with fail
    go_ret
    exact ⟨t, rfl, by omega, hG⟩
end Go.Proofs.Ytiajeialcmcppaa
