/- FnIgmp, out of the program's contracts. -/
import Derived.Test.YtgnckbcpnailbaaIgM
import Derived.Test.YtgnckbcpnailbaaIgL
import Derived.Test.YtgnckbcpnailbaaWIgOf
import Derived.Test.YtgnckbcpnailbaaDrawIg
import Derived.Test.YtgnckbcpnailbaaBig
namespace Go.Proofs.Ytgnckbcpnailbaa
open Go.RowKit

theorem walk_FnIgmp_of (hS : ∀ (s : ByteArray) (w : World), s.size ≤ 1048576 → Calls Try.prog 15 #[.string s] w fun e w' => e = .returned (.int .i64 (sum16 s.data.toList : Nat)) ∧ Below w.heap.size w w')
    (hT : ∀ (g : Ig) (w : World), Calls Try.prog 13 #[g.val] w fun e w' => e = .returned (.int .i64 (igTo g)) ∧ Below w.heap.size w w')
    (hP : ∀ (g : Ig) (w : World), Calls Try.prog 11 #[g.val] w fun e w' => e = .returned (.string (igBytes g)) ∧ Below w.heap.size w w')
    (hG : ∀ (s : ByteArray) (w : World), s.size ≤ 1048576 → Calls Try.prog 14 #[.string s] w (GotIg w (getIg s)))
    (a : Option Addr) (len cap : Nat) (zs : List Int) (w : World) (hrow : IsRow .u8 w a len cap zs) :
    Calls Try.prog 3 #[.slice a len cap] w fun e w' => e = .returned (.bool true) ∧ Below w.heap.size w w' := by
  have hlow := hrow.low
  have hmax : len ≤ 9223372036854775807 := by
    rcases hrow with ⟨_, rfl, _⟩ | ⟨_, _, h1, h2, _⟩
    · omega
    · unfold maxLen at h2; omega
  by_cases hl : len ≤ 1048576
  case neg =>
    go_enter Try.func3, Try.ntmps3
    go_wp2_with fail
    refine (big_yes a len cap w (by omega)).mono ?_
    rintro e w' ⟨rfl, rfl⟩
    go_wp2_with fail
    go_ret
    exact ⟨rfl, Below.refl _ _⟩
  go_enter Try.func3, Try.ntmps3
  go_wp2_with fail
  refine (big_no a len cap w hl).mono ?_
  rintro e w' ⟨rfl, rfl⟩
  go_wp2_with fail
  refine (drawPutIgmp_any w a len cap zs hl hrow hlow).mono ?_
  rintro e w1 ⟨g, rfl, hb1⟩
  have hO := igmpOk_spec g
  have hTg := hT g
  have hPg := hP g
  have hcs : ∀ w2, Below (w1.alloc (.cells #[.int .i64 g.kind, .int .i64 g.time, .int .i64 g.group, .int .i64 g.src] 25)).heap.size (w1.alloc (.cells #[.int .i64 g.kind, .int .i64 g.time, .int .i64 g.group, .int .i64 g.src] 25)) w2 → _ := fun w2 h => cells4 h
  have hbw : Below w.heap.size w (w1.alloc (.cells #[.int .i64 g.kind, .int .i64 g.time, .int .i64 g.group, .int .i64 g.src] 25)) := hb1.alloc hb1.size _
  by_cases hok : igOk g
  case neg =>
    have e0 : igBytes g = ⟨#[]⟩ := by unfold igBytes; rw [if_neg hok]
    have e1 : igTo g = -1 := by unfold igTo; rw [if_pos hok]
    rw [decide_eq_false hok] at hO
    rw [e0] at hPg
    rw [e1] at hTg
    clear hok hS hT hP hG e0 e1
    obtain ⟨kind, time, group, src⟩ := g
    unfold Ig.val at *
    simp only at hO hTg hPg hcs hbw ⊢
    have HO := Lib.hid hO; have HT := Lib.hid hTg; have HP := Lib.hid hPg; have HCS := Lib.hid hcs; have HBW := Lib.hid hbw
    clear hO hTg hPg hcs hbw hrow hlow hb1
    go_wp2_with fail
    refine (HP.out _).mono ?_
    rintro e w2 ⟨rfl, hb2⟩
    obtain ⟨k0, k1, k2, k3⟩ := HCS.out w2 hb2
    go_wp2_with fail
    refine (HO.out _).mono ?_
    rintro e w3 ⟨rfl, hb3⟩
    clear k0 k1 k2 k3
    have hb23 := hb2.trans (hb3.mono hb2.size)
    obtain ⟨k0, k1, k2, k3⟩ := HCS.out w3 hb23
    go_wp2_with fail
    refine (HT.out _).mono ?_
    rintro e w4 ⟨rfl, hb4⟩
    have hfin := HBW.out.trans ((hb23.trans (hb4.mono hb23.size)).mono HBW.out.size)
    clear k0 k1 k2 k3 hb2 hb3 hb4 hb23
    go_wp2_with fail
    go_ret
    exact ⟨rfl, hfin⟩
  have e0 : (igBytes g).data.toList = igL g := by unfold igBytes; rw [if_pos hok]
  obtain ⟨s, hs⟩ : ∃ s, igBytes g = s := ⟨_, rfl⟩
  rw [hs] at e0 hPg
  have hsz : s.size = 32 := by rw [← igL_len g, ← e0, Array.length_toList]; rfl
  have hGs := fun w => hG s w (by omega)
  rw [ig_back g hok s e0] at hGs
  have hgrp := igTo_group g hok
  have eH : (s.extract 0 24).data.toList = igH g := by
    simp only [ByteArray.data_extract, Array.toList_extract, List.extract, List.drop_zero, Nat.sub_zero]
    rw [e0, igL_parts, List.take_left' (igH_len g)]
  have eT : (s.extract 24 32).data.toList = igT g := by
    simp only [ByteArray.data_extract, Array.toList_extract, List.extract]
    rw [e0, igL_parts, List.drop_left' (igH_len g), List.take_of_length_le (by rw [igT_len]; decide)]
  have hS1 := fun w => hS (s.extract 0 24) w (by rw [ByteArray.size_extract]; omega)
  have hS2 := fun w => hS (s.extract 24 32) w (by rw [ByteArray.size_extract]; omega)
  rw [eH, igH_sum] at hS1
  rw [eT, igT_sum] at hS2
  rw [decide_eq_true hok] at hO
  obtain ⟨t, ht⟩ : ∃ t, igTo g = t := ⟨_, rfl⟩
  rw [ht] at hTg hgrp
  clear hok hS hT hP hG e0 eH eT hs ht
  obtain ⟨kind, time, group, src⟩ := g
  unfold GotIg at *
  unfold Ig.val at *
  simp only at hO hTg hPg hcs hbw hGs ⊢
  have HO := Lib.hid hO; have HT := Lib.hid hTg; have HP := Lib.hid hPg; have HCS := Lib.hid hcs; have HBW := Lib.hid hbw; have HG := Lib.hid hGs; have HS1 := Lib.hid hS1; have HS2 := Lib.hid hS2
  clear hO hTg hPg hcs hbw hrow hlow hb1 hGs hS1 hS2
  go_wp2_with fail
  refine (HP.out _).mono ?_
  rintro e w2 ⟨rfl, hb2⟩
  obtain ⟨k0, k1, k2, k3⟩ := HCS.out w2 hb2
  go_wp2_with fail
  refine (HO.out _).mono ?_
  rintro e w3 ⟨rfl, hb3⟩
  clear k0 k1 k2 k3
  have hb23 := hb2.trans (hb3.mono hb2.size)
  go_wp2_with fail
  refine (HG.out _).mono ?_
  rintro e w4 ⟨rfl, hb4⟩
  have hb24 := hb23.trans (hb4.mono hb23.size)
  obtain ⟨k0, k1, k2, k3⟩ := HCS.out w4 hb24
  clear hb2 hb3 hb4 hb23
  simp only
  have hlt : w1.heap.size < w4.heap.size := by have := hb24.size; simp at this; omega
  have hlt5 : w1.heap.size < w4.heap.size + 1 := by omega
  have p0 := fun o => (((Below.refl w4.heap.size w4).alloc (Nat.le_refl _) o).cell (p := ⟨w1.heap.size, 0, none⟩) hlt).trans k0
  have p1 := fun o => (((Below.refl w4.heap.size w4).alloc (Nat.le_refl _) o).cell (p := ⟨w1.heap.size, 1, none⟩) hlt).trans k1
  have p2 := fun o => (((Below.refl w4.heap.size w4).alloc (Nat.le_refl _) o).cell (p := ⟨w1.heap.size, 2, none⟩) hlt).trans k2
  have p3 := fun o => (((Below.refl w4.heap.size w4).alloc (Nat.le_refl _) o).cell (p := ⟨w1.heap.size, 3, none⟩) hlt).trans k3
  have hbw4 := HBW.out.trans (hb24.mono HBW.out.size)
  have HB4 := Lib.hid hbw4
  clear k0 k1 k2 k3 hb24 hbw4
  go_wp2_with fail
  have q0 := p0 (.cells #[.int .i64 kind, .int .i64 time, .int .i64 group, .int .i64 src] 25)
  have q1 := p1 (.cells #[.int .i64 kind, .int .i64 time, .int .i64 group, .int .i64 src] 25)
  have q2 := p2 (.cells #[.int .i64 kind, .int .i64 time, .int .i64 group, .int .i64 src] 25)
  have q3 := p3 (.cells #[.int .i64 kind, .int .i64 time, .int .i64 group, .int .i64 src] 25)
  have hb5 := HB4.out.alloc HB4.out.size (.cells #[.int .i64 kind, .int .i64 time, .int .i64 group, .int .i64 src] 25)
  have hs5 : w1.heap.size < (w4.alloc (.cells #[.int .i64 kind, .int .i64 time, .int .i64 group, .int .i64 src] 25)).heap.size := by simp; omega
  clear p0 p1 p2 p3 hlt hlt5
  generalize w4.alloc (.cells #[.int .i64 kind, .int .i64 time, .int .i64 group, .int .i64 src] 25) = w5 at q0 q1 q2 q3 hb5 hs5 ⊢
  refine (HS1.out _).mono ?_
  rintro e w6 ⟨rfl, hb6⟩
  go_wp2_with fail
  refine (HS2.out _).mono ?_
  rintro e w7 ⟨rfl, hb7⟩
  have hb57 := hb6.trans (hb7.mono hb6.size)
  have k0 := (hb57.cell (p := ⟨w1.heap.size, 0, none⟩) hs5).trans q0
  have k1 := (hb57.cell (p := ⟨w1.heap.size, 1, none⟩) hs5).trans q1
  have k2 := (hb57.cell (p := ⟨w1.heap.size, 2, none⟩) hs5).trans q2
  have k3 := (hb57.cell (p := ⟨w1.heap.size, 3, none⟩) hs5).trans q3
  clear q0 q1 q2 q3
  go_wp2_with fail
  refine (HT.out _).mono ?_
  rintro e w8 ⟨rfl, hb8⟩
  have hfin := hb5.trans ((hb57.trans (hb8.mono hb57.size)).mono hb5.size)
  clear k0 k1 k2 k3 hb6 hb7 hb8 hb57
  go_wp2_with fail
  refine (groupOf_impl _ _).mono ?_
  rintro e w9 ⟨rfl, rfl⟩
  go_wp2_with fail
  go_ret
  exact ⟨rfl, hfin⟩
end Go.Proofs.Ytgnckbcpnailbaa
