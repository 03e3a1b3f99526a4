/- IpText: what the program and the model answer. -/
import Derived.Test.YtjljdkamidppbaaDoorIpL
import Derived.Test.YtjljdkamidppbaaDoorDecText
import Derived.Test.YtjljdkamidppbaaDoorPut
import Derived.Test.YtjljdkamidppbaaDoorJoinB
namespace Go.Proofs.YtjljdkamidppbaaDoor
open Go.RowKit

theorem ipOk_impl (ip : Int) (w : World) : Calls Tryd.prog 27 #[.int .i64 ip] w fun e w' => e = .returned (.bool (decide (isIp ip))) ∧ w = w' := by
  unfold isIp
  by_cases h0 : 0 ≤ ip
  · by_cases h1 : ip ≤ 4294967295
    · go_enter Tryd.func27, Tryd.ntmps27
      go_wp2_with fail
      go_ret
      exact ⟨by rw [decide_eq_true (show 0 ≤ ip ∧ ip ≤ 4294967295 from ⟨h0, h1⟩), show decide (ip < 4294967296) = true from decide_eq_true (by omega)]; rfl, rfl⟩
    · have h1' : 4294967296 ≤ ip := by omega
      go_enter Tryd.func27, Tryd.ntmps27
      go_wp2_with fail
      go_ret
      refine ⟨congrArg (fun b => Ending.returned (.bool b)) ?_, rfl⟩
      show decide (ip < 4294967296) = _
      rw [decide_eq_decide]
      omega
  · have h0' : ip < 0 := by omega
    go_enter Tryd.func27, Tryd.ntmps27
    go_wp2_with fail
    go_ret
    exact ⟨by rw [decide_eq_false (show ¬ (0 ≤ ip ∧ ip ≤ 4294967295) by omega)]; rfl, rfl⟩

theorem decText_enters (args : Array Value) (w : World) : (callFunc 9 args).run Tryd.prog w = .ok (.enter 9 args) w :=
  enters_of Tryd.func9 (by kernel_rfl) rfl args w

theorem ipText_impl (ip : Int) (h : isIp ip) (w : World) (ht : Tab w) :
    Calls Tryd.prog 16 #[.int .i64 ip] w fun e w' => e = .returned (.string ⟨(ipL ip).toArray⟩) ∧ Below w.heap.size w w' := by
  have hd := decide_eq_true h
  have hg : 1 < w.heap.size := World.block_lt_of_cell? _ _ (Lib.TabIs.cell ht tab_global 0 (by rw [Lib.pow10Tab_length]; decide))
  have HT := Lib.hid ht; clear ht
  have HG := Lib.hid hg; clear hg
  go_enter Tryd.func16, Tryd.ntmps16
  go_wp2_with fail
  refine (ipOk_impl ip _).mono ?_
  rintro e w' ⟨rfl, rfl⟩
  rw [hd]
  go_wp2_with fail
  refine (put_impl ip 4 _ (by decide) (by decide)).mono ?_
  rintro e w1 ⟨rfl, hb1⟩
  go_wp2_with fail
  refine (joinB 9 (fun b => Lib.itoa (b.toNat : Int)) 46 ⟨(putL ip 4).toArray⟩ (by show ((putL ip 4).toArray).size ≤ 6; rw [List.size_toArray, putL_length]; omega) itoa_byte w1 decText_enters
    (fun b w' hb => dec_impl (b.toNat : Int) w' (by omega) (by have : b.toNat < 256 := b.toNat_lt; omega) ((HT.out.below hb1 HG.out).below hb (Nat.lt_of_lt_of_le HG.out hb1.size)))).mono ?_
  rintro e w2 ⟨rfl, hb2⟩
  go_wp2
  go_ret
  refine ⟨?_, hb1.trans (hb2.mono hb1.size)⟩
  show Ending.returned (Value.string _) = _
  rw [join_ip ip h]

theorem ipText_impl_no (ip : Int) (h : ¬ isIp ip) (w : World) :
    Calls Tryd.prog 16 #[.int .i64 ip] w fun e w' => e = .returned (.string ⟨#[]⟩) ∧ w = w' := by
  have hd := decide_eq_false h
  go_enter Tryd.func16, Tryd.ntmps16
  go_wp2_with fail
  refine (ipOk_impl ip _).mono ?_
  rintro e w' ⟨rfl, rfl⟩
  rw [hd]
  go_wp2_with fail
  go_ret
  exact ⟨rfl, rfl⟩

theorem ipText_spec_no (ip : Int) (h : ¬ isIp ip) (w : World) :
    Calls Tryd.prog 17 #[.int .i64 ip] w fun e w' => e = .returned (.string ⟨#[]⟩) ∧ w = w' := by
  go_enter Tryd.func17, Tryd.ntmps17
  go_wp2_with (go_at_call 23; refine (in_no _ _ _ _ h).mono ?_; rintro e w' ⟨rfl, rfl⟩)
  go_ret
  exact ⟨rfl, rfl⟩

theorem ipText_spec (ip : Int) (h : isIp ip) (w : World) :
    Calls Tryd.prog 17 #[.int .i64 ip] w fun e w' => e = .returned (.string ⟨(ipL ip).toArray⟩) ∧ w = w' := by
  have h0 := h.1
  have h1 := h.2
  have H := Lib.hid h; clear h
  have b255 := bits_and_255
  have hlen : ∀ n : Int, 0 ≤ n → n < 256 → (Lib.itoa n).length ≤ 20 := by
    intro b hb0 hb1
    have := itoa_byte (UInt8.ofNat b.toNat)
    rw [UInt8.toNat_ofNat', show ((b.toNat % 2 ^ 8 : Nat) : Int) = b from by omega] at this
    exact this
  have l1 := hlen (ip / 16777216) (by omega) (by omega)
  have l2 := hlen (ip / 65536 % 256) (by omega) (by omega)
  have l3 := hlen (ip / 256 % 256) (by omega) (by omega)
  have l4 := hlen (ip % 256) (by omega) (by omega)
  clear hlen
  go_enter Tryd.func17, Tryd.ntmps17
  go_wp2_with (first | (go_at_call 23; refine (in_yes _ _ _ _ h0 h1).mono ?_; rintro e w' ⟨rfl, rfl⟩) | (go_at_call 11; refine (dec_any _ _ (by omega) (by omega)).mono ?_; rintro e w' ⟨rfl, rfl⟩))
  go_ret
  refine ⟨?_, rfl⟩
  refine congrArg (fun b => Ending.returned (.string b)) (ByteArray.ext (Array.toList_inj.1 ?_))
  simp only [ByteArray.data_append, Array.toList_append, ipL]
end Go.Proofs.YtjljdkamidppbaaDoor
