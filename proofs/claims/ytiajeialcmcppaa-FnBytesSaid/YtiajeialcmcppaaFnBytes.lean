/- FnBytes: bytes that are a frame are its bytes. -/
import Derived.Test.YtiajeialcmcppaaFrM
import Derived.Test.YtiajeialcmcppaaFrL
import Derived.Test.YtiajeialcmcppaaDrawB
import Derived.Test.YtiajeialcmcppaaPutFrI
import Derived.Test.YtiajeialcmcppaaBig
namespace Go.Proofs.Ytiajeialcmcppaa
open Go.RowKit

theorem getF3_no (f : Fr) (h : (getF3 f).2 ≠ 0) : (getF3 f).1 = Fr.zero := by
  unfold getF3 at *
  split
  · rfl
  · split
    · rfl
    · split
      · rfl
      · rename_i h1 h2 h3
        rw [if_neg h1, if_neg h2, if_neg h3] at h
        exact absurd rfl h
theorem getF_no (s : ByteArray) (h : (getF s).2 ≠ 0) : (getF s).1 = Fr.zero := by
  unfold getF at *
  split
  · rfl
  · rename_i h1
    rw [if_neg h1] at h
    split
    · rfl
    · rename_i h2
      rw [if_neg h2] at h
      split
      · rename_i h3
        rw [if_pos h3] at h
        unfold getF2 at *
        split
        · rename_i h4
          rw [if_pos h4] at h
          split
          · rfl
          · rename_i h5
            rw [if_neg h5] at h
            split
            · rename_i h6
              rw [if_pos h6] at h
              exact getF3_no _ h
            · rfl
        · rename_i h4
          rw [if_neg h4] at h
          exact getF3_no _ h
      · rfl

set_option maxHeartbeats 1000000 in
theorem walk_FnBytes (a : Option Addr) (len cap : Nat) (zs : List Int) (w : World) (hrow : IsRow .u8 w a len cap zs) :
    Calls Try.prog 4 #[.slice a len cap] w fun e w' => e = .returned (.bool true) ∧ Below w.heap.size w w' := by
  have hlow := hrow.low
  have hmax : len ≤ 9223372036854775807 := by
    rcases hrow with ⟨_, rfl, _⟩ | ⟨_, _, h1, h2, _⟩
    · omega
    · unfold maxLen at h2; omega
  by_cases hl : len ≤ 1048576
  case neg =>
    go_enter Try.func4, Try.ntmps4
    go_wp2_with fail
    refine (big_yes a len cap w (by omega)).mono ?_
    rintro e w' ⟨rfl, rfl⟩
    go_wp2_with fail
    go_ret
    exact ⟨rfl, Below.refl _ _⟩
  go_enter Try.func4, Try.ntmps4
  go_wp2_with fail
  refine (big_no a len cap w hl).mono ?_
  rintro e w' ⟨rfl, rfl⟩
  go_wp2_with fail
  refine (drawGetFrame_any w a len cap zs hl hrow hlow).mono ?_
  rintro e w1 ⟨s, rfl, hs, hb1⟩
  have hI := fun w => getFrame_impl s w (by omega)
  have hS := fun w => getFrame_spec s w (by omega)
  obtain ⟨⟨f, code⟩, hx⟩ : ∃ x, getF s = x := ⟨_, rfl⟩
  rw [hx] at hI hS
  by_cases hcode : code = 0
  · subst hcode
    obtain ⟨hok, hfl⟩ := bytes_back s f hx
    have hbs : f.body.size ≤ 1500 := hok.2.2.2.2.2
    have hF := frameOk_impl f (by omega)
    have hP := putFrame_impl f hok
    rw [decide_eq_true hok] at hF
    rw [hfl] at hP
    clear hx hok hfl hbs
    obtain ⟨dst, src, tagged, vid, pri, type, body⟩ := f
    unfold GotF at *
    unfold Fr.val at *
    simp only at hI hS hF hP
    have HI := Lib.hid hI; have HS := Lib.hid hS; have HF := Lib.hid hF; have HP := Lib.hid hP
    clear hI hS hF hP hrow hlow
    go_wp2_with fail
    refine (HI.out _).mono ?_
    rintro e w2 ⟨rfl, hb2⟩
    have hb12 := hb1.trans (hb2.mono hb1.size)
    have hbw := hb12.alloc hb12.size (.cells #[.int .i64 dst, .int .i64 src, .bool tagged, .int .i64 vid, .int .i64 pri, .int .i64 type, .string body] 25)
    have HBW := Lib.hid hbw
    clear hb1 hb2 hb12 hbw
    go_wp2_with fail
    refine (HS.out _).mono ?_
    rintro e w3 ⟨rfl, hb3⟩
    obtain ⟨k0, k1, k2, k3, k4, k5, k6⟩ := cells7 hb3
    have hlt : w2.heap.size < w3.heap.size := by have := hb3.size; simp at this; omega
    have p0 := fun o => (((Below.refl w3.heap.size w3).alloc (Nat.le_refl _) o).cell (p := ⟨w2.heap.size, 0, none⟩) hlt).trans k0
    have p1 := fun o => (((Below.refl w3.heap.size w3).alloc (Nat.le_refl _) o).cell (p := ⟨w2.heap.size, 1, none⟩) hlt).trans k1
    have p2 := fun o => (((Below.refl w3.heap.size w3).alloc (Nat.le_refl _) o).cell (p := ⟨w2.heap.size, 2, none⟩) hlt).trans k2
    have p3 := fun o => (((Below.refl w3.heap.size w3).alloc (Nat.le_refl _) o).cell (p := ⟨w2.heap.size, 3, none⟩) hlt).trans k3
    have p4 := fun o => (((Below.refl w3.heap.size w3).alloc (Nat.le_refl _) o).cell (p := ⟨w2.heap.size, 4, none⟩) hlt).trans k4
    have p5 := fun o => (((Below.refl w3.heap.size w3).alloc (Nat.le_refl _) o).cell (p := ⟨w2.heap.size, 5, none⟩) hlt).trans k5
    have p6 := fun o => (((Below.refl w3.heap.size w3).alloc (Nat.le_refl _) o).cell (p := ⟨w2.heap.size, 6, none⟩) hlt).trans k6
    have hbw3 := HBW.out.trans (hb3.mono HBW.out.size)
    have HB3 := Lib.hid hbw3
    clear k0 k1 k2 k3 k4 k5 k6 hb3 hbw3
    go_wp2_with fail
    refine (HF.out _).mono ?_
    rintro e w4 ⟨rfl, hb4⟩
    have q0 := (hb4.cell (p := ⟨w2.heap.size, 0, none⟩) (by simp; omega)).trans (p0 _)
    have q1 := (hb4.cell (p := ⟨w2.heap.size, 1, none⟩) (by simp; omega)).trans (p1 _)
    have q2 := (hb4.cell (p := ⟨w2.heap.size, 2, none⟩) (by simp; omega)).trans (p2 _)
    have q3 := (hb4.cell (p := ⟨w2.heap.size, 3, none⟩) (by simp; omega)).trans (p3 _)
    have q4 := (hb4.cell (p := ⟨w2.heap.size, 4, none⟩) (by simp; omega)).trans (p4 _)
    have q5 := (hb4.cell (p := ⟨w2.heap.size, 5, none⟩) (by simp; omega)).trans (p5 _)
    have q6 := (hb4.cell (p := ⟨w2.heap.size, 6, none⟩) (by simp; omega)).trans (p6 _)
    have hbw4 := (HB3.out.alloc HB3.out.size _).trans (hb4.mono (Nat.le_trans HB3.out.size (by simp)))
    have HB4 := Lib.hid hbw4
    clear p0 p1 p2 p3 p4 p5 p6 hb4 hbw4 hlt
    go_wp2_with fail
    refine (HP.out _).mono ?_
    rintro e w5 ⟨rfl, hb5⟩
    have hfin := HB4.out.trans (hb5.mono HB4.out.size)
    clear q0 q1 q2 q3 q4 q5 q6 hb5
    go_wp2_with fail
    go_ret
    exact ⟨rfl, hfin⟩
  · have hz := getF_no s (by rw [hx]; exact hcode)
    rw [hx] at hz
    simp only at hz
    subst hz
    clear hx
    unfold GotF at *
    unfold Fr.val Fr.zero at *
    simp only at hI hS
    have HI := Lib.hid hI; have HS := Lib.hid hS
    clear hI hS hrow hlow
    go_wp2_with fail
    refine (HI.out _).mono ?_
    rintro e w2 ⟨rfl, hb2⟩
    have hb12 := hb1.trans (hb2.mono hb1.size)
    have hbw := hb12.alloc hb12.size (.cells #[.int .i64 0, .int .i64 0, .bool false, .int .i64 0, .int .i64 0, .int .i64 0, .string ⟨#[]⟩] 25)
    have HBW := Lib.hid hbw
    clear hb1 hb2 hb12 hbw
    go_wp2_with fail
    refine (HS.out _).mono ?_
    rintro e w3 ⟨rfl, hb3⟩
    obtain ⟨k0, k1, k2, k3, k4, k5, k6⟩ := cells7 hb3
    have hlt : w2.heap.size < w3.heap.size := by have := hb3.size; simp at this; omega
    have p0 := fun o => (((Below.refl w3.heap.size w3).alloc (Nat.le_refl _) o).cell (p := ⟨w2.heap.size, 0, none⟩) hlt).trans k0
    have p1 := fun o => (((Below.refl w3.heap.size w3).alloc (Nat.le_refl _) o).cell (p := ⟨w2.heap.size, 1, none⟩) hlt).trans k1
    have p2 := fun o => (((Below.refl w3.heap.size w3).alloc (Nat.le_refl _) o).cell (p := ⟨w2.heap.size, 2, none⟩) hlt).trans k2
    have p3 := fun o => (((Below.refl w3.heap.size w3).alloc (Nat.le_refl _) o).cell (p := ⟨w2.heap.size, 3, none⟩) hlt).trans k3
    have p4 := fun o => (((Below.refl w3.heap.size w3).alloc (Nat.le_refl _) o).cell (p := ⟨w2.heap.size, 4, none⟩) hlt).trans k4
    have p5 := fun o => (((Below.refl w3.heap.size w3).alloc (Nat.le_refl _) o).cell (p := ⟨w2.heap.size, 5, none⟩) hlt).trans k5
    have p6 := fun o => (((Below.refl w3.heap.size w3).alloc (Nat.le_refl _) o).cell (p := ⟨w2.heap.size, 6, none⟩) hlt).trans k6
    have hbw3 := HBW.out.trans (hb3.mono HBW.out.size)
    have HB3 := Lib.hid hbw3
    clear k0 k1 k2 k3 k4 k5 k6 hb3 hbw3 hlt
    go_wp2_with fail
    go_ret
    have hc1 : (code != 0) = true := by simp [hcode]
    exact ⟨by rw [hc1]; rfl, HB3.out.alloc HB3.out.size _⟩
end Go.Proofs.Ytiajeialcmcppaa
