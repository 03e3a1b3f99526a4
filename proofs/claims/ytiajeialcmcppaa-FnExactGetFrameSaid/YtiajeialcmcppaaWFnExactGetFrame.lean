/- The walk of FnExactGetFrame out of the contracts. -/
import Derived.Test.YtiajeialcmcppaaFrL
import Derived.Test.YtiajeialcmcppaaGetFrG
namespace Go.Proofs.Ytiajeialcmcppaa
open Go.RowKit

theorem walk_FnExactGetFrame (s : ByteArray) (hm : s.size ≤ maxLen) (w : World) :
    Calls Try.prog 7 #[.string s] w fun e w' => e = .returned (.bool true) ∧ Below w.heap.size w w' := by
  unfold maxLen at hm
  by_cases hl : s.size ≤ 1048576
  · have hl' : ¬ (1048576 < (s.size : Int)) := by omega
    obtain ⟨f, code, hS, hI⟩ : ∃ (f : Fr) (code : Int), (∀ w, Calls Try.prog 16 #[.string s] w (GotF w (f, code))) ∧ (∀ w, Calls Try.prog 13 #[.string s] w (GotF w (f, code))) :=
      ⟨(getF s).1, (getF s).2, fun w => getFrame_spec s w hl, fun w => getFrame_impl s w hl⟩
    have hE := eqFrame_same f
    have HS := Lib.hid hS; have HI := Lib.hid hI
    clear hS hI
    obtain ⟨dst, src, tagged, vid, pri, type, body⟩ := f
    unfold Fr.val at hE
    simp only at hE
    have HE := Lib.hid hE
    clear hE
    go_enter Try.func7, Try.ntmps7
    go_wp2_with fail
    refine (HS.out _).mono ?_
    rintro e w1 ⟨rfl, hb1⟩
    unfold Fr.val
    simp only
    go_wp2_with fail
    refine (HI.out _).mono ?_
    rintro e w2 ⟨rfl, hb2⟩
    obtain ⟨k0, k1, k2, k3, k4, k5, k6⟩ := cells7 hb2
    have hb3 := (hb1.alloc hb1.size _).trans (hb2.mono (Nat.le_trans hb1.size (by simp)))
    have HB3 := Lib.hid hb3
    have hlt : w1.heap.size < w2.heap.size := by have := hb2.size; simp at this; omega
    have p0 := fun o => (((Below.refl w2.heap.size w2).alloc (Nat.le_refl _) o).cell (p := ⟨w1.heap.size, 0, none⟩) hlt).trans k0
    have p1 := fun o => (((Below.refl w2.heap.size w2).alloc (Nat.le_refl _) o).cell (p := ⟨w1.heap.size, 1, none⟩) hlt).trans k1
    have p2 := fun o => (((Below.refl w2.heap.size w2).alloc (Nat.le_refl _) o).cell (p := ⟨w1.heap.size, 2, none⟩) hlt).trans k2
    have p3 := fun o => (((Below.refl w2.heap.size w2).alloc (Nat.le_refl _) o).cell (p := ⟨w1.heap.size, 3, none⟩) hlt).trans k3
    have p4 := fun o => (((Below.refl w2.heap.size w2).alloc (Nat.le_refl _) o).cell (p := ⟨w1.heap.size, 4, none⟩) hlt).trans k4
    have p5 := fun o => (((Below.refl w2.heap.size w2).alloc (Nat.le_refl _) o).cell (p := ⟨w1.heap.size, 5, none⟩) hlt).trans k5
    have p6 := fun o => (((Below.refl w2.heap.size w2).alloc (Nat.le_refl _) o).cell (p := ⟨w1.heap.size, 6, none⟩) hlt).trans k6
    clear hb3 hb1 hb2 hlt k0 k1 k2 k3 k4 k5 k6
    unfold Fr.val
    simp only
    go_wp2_with fail
    refine (HE.out _).mono ?_
    rintro e w3 ⟨rfl, hb3⟩
    have hfin := (HB3.out.alloc HB3.out.size _).trans (hb3.mono (Nat.le_trans HB3.out.size (by simp)))
    clear hb3
    go_wp2_with fail
    go_ret
    exact ⟨rfl, hfin⟩
  · have hl' : 1048576 < (s.size : Int) := by omega
    go_enter Try.func7, Try.ntmps7
    go_wp2_with fail
    go_ret
    exact ⟨rfl, Below.refl _ _⟩
end Go.Proofs.Ytiajeialcmcppaa
