/- The order of vectors in the program. -/
import Derived.Test.YtbcpfciegamaeaaVcIb
import Derived.Deep.RegionHeld3
namespace Go.Proofs.Ytbcpfciegamaeaa
open Go.RowKit

set_option linter.unusedVariables false in
set_option linter.unusedSimpArgs false in
set_option maxRecDepth 20000 in
set_option maxHeartbeats 4000000 in
theorem compare_impl (a b : Vc) (w : World) : Calls Try.prog 12 #[a.val, b.val] w fun e w' => e = .returned (.int .i64 (cmpVc a b)) ∧ Below w.heap.size w w' := by
  have hb := before_impl a b
  have hze := cmpVc_zero a b
  have hin := cmpVc_in a b
  obtain ⟨z, hz⟩ : ∃ z, cmpVc a b = z := ⟨_, rfl⟩
  rw [hz] at hb hze hin ⊢
  clear hz
  obtain ⟨ar, ac, ab, ap⟩ := a
  obtain ⟨br, bc, bb, bp⟩ := b
  unfold Vc.val at *
  simp only at hb ⊢
  have HBE := Lib.hid hb; have HIN := Lib.hid hin
  by_cases he : (⟨ar, ac, ab, ap⟩ : Vc) = ⟨br, bc, bb, bp⟩
  case pos =>
    obtain rfl := hze.2 he
    cases he
    have hB : Below w.heap.size w ((w.alloc (.cells #[.int .i64 ar, .int .i64 ac, .int .i64 ab, .int .i64 ap] 25)).alloc (.cells #[.int .i64 ar, .int .i64 ac, .int .i64 ab, .int .i64 ap] 25)) := (((Below.refl _ _).alloc (by simp) _).alloc (by simp) _)
    have hKA : Blk ((w.alloc (.cells #[.int .i64 ar, .int .i64 ac, .int .i64 ab, .int .i64 ap] 25)).alloc (.cells #[.int .i64 ar, .int .i64 ac, .int .i64 ab, .int .i64 ap] 25)) (w.heap.size) #[.int .i64 ar, .int .i64 ac, .int .i64 ab, .int .i64 ap] 25 := ((blk_new _ _ (by simp)).alloc _)
    have hKB : Blk ((w.alloc (.cells #[.int .i64 ar, .int .i64 ac, .int .i64 ab, .int .i64 ap] 25)).alloc (.cells #[.int .i64 ar, .int .i64 ac, .int .i64 ab, .int .i64 ap] 25)) (w.heap.size + 1) #[.int .i64 ar, .int .i64 ac, .int .i64 ab, .int .i64 ap] 25 := (blk_new _ _ (by simp))
    have HB := Lib.hid hB; have KA := Lib.hid hKA; have KB := Lib.hid hKB
    clear hB hKA hKB hze hb hin
    go_enter Try.func12, Try.ntmps12
    go_upto_region 1 with fail
    generalize (w.alloc (.cells #[.int .i64 ar, .int .i64 ac, .int .i64 ab, .int .i64 ap] 25)).alloc (.cells #[.int .i64 ar, .int .i64 ac, .int .i64 ab, .int .i64 ap] 25) = x0 at HB KA KB ⊢
    have ka0 : x0.cell? ⟨w.heap.size, 0, none⟩ = some (.int .i64 ar) := KA.out.cell 0
    have ka1 : x0.cell? ⟨w.heap.size, 1, none⟩ = some (.int .i64 ac) := KA.out.cell 1
    have ka2 : x0.cell? ⟨w.heap.size, 2, none⟩ = some (.int .i64 ab) := KA.out.cell 2
    have ka3 : x0.cell? ⟨w.heap.size, 3, none⟩ = some (.int .i64 ap) := KA.out.cell 3
    have kal : w.heap.size < x0.heap.size := KA.out.lt
    have kb0 : x0.cell? ⟨w.heap.size + 1, 0, none⟩ = some (.int .i64 ar) := KB.out.cell 0
    have kb1 : x0.cell? ⟨w.heap.size + 1, 1, none⟩ = some (.int .i64 ac) := KB.out.cell 1
    have kb2 : x0.cell? ⟨w.heap.size + 1, 2, none⟩ = some (.int .i64 ab) := KB.out.cell 2
    have kb3 : x0.cell? ⟨w.heap.size + 1, 3, none⟩ = some (.int .i64 ap) := KB.out.cell 3
    have kbl : w.heap.size + 1 < x0.heap.size := KB.out.lt
    go_wp2_with fail
    go_ret
    exact ⟨rfl, HB.out⟩
  have hzn : ¬ z = 0 := fun h => he (hze.1 h)
  have HZN := Lib.hid hzn
  simp only [Vc.mk.injEq] at he
  clear hzn hze
  by_cases e0 : ar = br
  case neg =>
    clear he
    have hB : Below w.heap.size w ((w.alloc (.cells #[.int .i64 ar, .int .i64 ac, .int .i64 ab, .int .i64 ap] 25)).alloc (.cells #[.int .i64 br, .int .i64 bc, .int .i64 bb, .int .i64 bp] 25)) := (((Below.refl _ _).alloc (by simp) _).alloc (by simp) _)
    have hKA : Blk ((w.alloc (.cells #[.int .i64 ar, .int .i64 ac, .int .i64 ab, .int .i64 ap] 25)).alloc (.cells #[.int .i64 br, .int .i64 bc, .int .i64 bb, .int .i64 bp] 25)) (w.heap.size) #[.int .i64 ar, .int .i64 ac, .int .i64 ab, .int .i64 ap] 25 := ((blk_new _ _ (by simp)).alloc _)
    have hKB : Blk ((w.alloc (.cells #[.int .i64 ar, .int .i64 ac, .int .i64 ab, .int .i64 ap] 25)).alloc (.cells #[.int .i64 br, .int .i64 bc, .int .i64 bb, .int .i64 bp] 25)) (w.heap.size + 1) #[.int .i64 br, .int .i64 bc, .int .i64 bb, .int .i64 bp] 25 := (blk_new _ _ (by simp))
    have HB := Lib.hid hB; have KA := Lib.hid hKA; have KB := Lib.hid hKB
    clear hB hKA hKB hb hin
    go_enter Try.func12, Try.ntmps12
    go_upto_region 1 with fail
    generalize (w.alloc (.cells #[.int .i64 ar, .int .i64 ac, .int .i64 ab, .int .i64 ap] 25)).alloc (.cells #[.int .i64 br, .int .i64 bc, .int .i64 bb, .int .i64 bp] 25) = x0 at HB KA KB ⊢
    have ka0 : x0.cell? ⟨w.heap.size, 0, none⟩ = some (.int .i64 ar) := KA.out.cell 0
    have ka1 : x0.cell? ⟨w.heap.size, 1, none⟩ = some (.int .i64 ac) := KA.out.cell 1
    have ka2 : x0.cell? ⟨w.heap.size, 2, none⟩ = some (.int .i64 ab) := KA.out.cell 2
    have ka3 : x0.cell? ⟨w.heap.size, 3, none⟩ = some (.int .i64 ap) := KA.out.cell 3
    have kal : w.heap.size < x0.heap.size := KA.out.lt
    have kb0 : x0.cell? ⟨w.heap.size + 1, 0, none⟩ = some (.int .i64 br) := KB.out.cell 0
    have kb1 : x0.cell? ⟨w.heap.size + 1, 1, none⟩ = some (.int .i64 bc) := KB.out.cell 1
    have kb2 : x0.cell? ⟨w.heap.size + 1, 2, none⟩ = some (.int .i64 bb) := KB.out.cell 2
    have kb3 : x0.cell? ⟨w.heap.size + 1, 3, none⟩ = some (.int .i64 bp) := KB.out.cell 3
    have kbl : w.heap.size + 1 < x0.heap.size := KB.out.lt
    go_wp2_with fail
    refine (HBE.out _).mono ?_
    rintro e x1 ⟨rfl, hbq⟩
    clear ka0 ka1 ka2 ka3 kal kb0 kb1 kb2 kb3 kbl
    have KA := Lib.hid (KA.out.after hbq)
    have KB := Lib.hid (KB.out.after hbq)
    have HB := Lib.hid (HB.out.trans (hbq.mono HB.out.size))
    clear hbq
    by_cases hl : z < 0
    case pos =>
      rw [decide_eq_true hl]
      obtain rfl : z = -1 := by have := HIN.out; omega
      go_wp2_with fail
      go_ret
      exact ⟨rfl, HB.out⟩
    rw [decide_eq_false hl]
    obtain rfl : z = 1 := by have := HIN.out; have := HZN.out; omega
    go_wp2_with fail
    go_ret
    exact ⟨rfl, HB.out⟩
  subst br
  by_cases e1 : ac = bc
  case neg =>
    clear he
    have hB : Below w.heap.size w ((w.alloc (.cells #[.int .i64 ar, .int .i64 ac, .int .i64 ab, .int .i64 ap] 25)).alloc (.cells #[.int .i64 ar, .int .i64 bc, .int .i64 bb, .int .i64 bp] 25)) := (((Below.refl _ _).alloc (by simp) _).alloc (by simp) _)
    have hKA : Blk ((w.alloc (.cells #[.int .i64 ar, .int .i64 ac, .int .i64 ab, .int .i64 ap] 25)).alloc (.cells #[.int .i64 ar, .int .i64 bc, .int .i64 bb, .int .i64 bp] 25)) (w.heap.size) #[.int .i64 ar, .int .i64 ac, .int .i64 ab, .int .i64 ap] 25 := ((blk_new _ _ (by simp)).alloc _)
    have hKB : Blk ((w.alloc (.cells #[.int .i64 ar, .int .i64 ac, .int .i64 ab, .int .i64 ap] 25)).alloc (.cells #[.int .i64 ar, .int .i64 bc, .int .i64 bb, .int .i64 bp] 25)) (w.heap.size + 1) #[.int .i64 ar, .int .i64 bc, .int .i64 bb, .int .i64 bp] 25 := (blk_new _ _ (by simp))
    have HB := Lib.hid hB; have KA := Lib.hid hKA; have KB := Lib.hid hKB
    clear hB hKA hKB hb hin
    go_enter Try.func12, Try.ntmps12
    go_upto_region 1 with fail
    generalize (w.alloc (.cells #[.int .i64 ar, .int .i64 ac, .int .i64 ab, .int .i64 ap] 25)).alloc (.cells #[.int .i64 ar, .int .i64 bc, .int .i64 bb, .int .i64 bp] 25) = x0 at HB KA KB ⊢
    have ka0 : x0.cell? ⟨w.heap.size, 0, none⟩ = some (.int .i64 ar) := KA.out.cell 0
    have ka1 : x0.cell? ⟨w.heap.size, 1, none⟩ = some (.int .i64 ac) := KA.out.cell 1
    have ka2 : x0.cell? ⟨w.heap.size, 2, none⟩ = some (.int .i64 ab) := KA.out.cell 2
    have ka3 : x0.cell? ⟨w.heap.size, 3, none⟩ = some (.int .i64 ap) := KA.out.cell 3
    have kal : w.heap.size < x0.heap.size := KA.out.lt
    have kb0 : x0.cell? ⟨w.heap.size + 1, 0, none⟩ = some (.int .i64 ar) := KB.out.cell 0
    have kb1 : x0.cell? ⟨w.heap.size + 1, 1, none⟩ = some (.int .i64 bc) := KB.out.cell 1
    have kb2 : x0.cell? ⟨w.heap.size + 1, 2, none⟩ = some (.int .i64 bb) := KB.out.cell 2
    have kb3 : x0.cell? ⟨w.heap.size + 1, 3, none⟩ = some (.int .i64 bp) := KB.out.cell 3
    have kbl : w.heap.size + 1 < x0.heap.size := KB.out.lt
    go_wp2_with fail
    refine (HBE.out _).mono ?_
    rintro e x1 ⟨rfl, hbq⟩
    clear ka0 ka1 ka2 ka3 kal kb0 kb1 kb2 kb3 kbl
    have KA := Lib.hid (KA.out.after hbq)
    have KB := Lib.hid (KB.out.after hbq)
    have HB := Lib.hid (HB.out.trans (hbq.mono HB.out.size))
    clear hbq
    by_cases hl : z < 0
    case pos =>
      rw [decide_eq_true hl]
      obtain rfl : z = -1 := by have := HIN.out; omega
      go_wp2_with fail
      go_ret
      exact ⟨rfl, HB.out⟩
    rw [decide_eq_false hl]
    obtain rfl : z = 1 := by have := HIN.out; have := HZN.out; omega
    go_wp2_with fail
    go_ret
    exact ⟨rfl, HB.out⟩
  subst bc
  by_cases e2 : ab = bb
  case neg =>
    clear he
    have hB : Below w.heap.size w ((w.alloc (.cells #[.int .i64 ar, .int .i64 ac, .int .i64 ab, .int .i64 ap] 25)).alloc (.cells #[.int .i64 ar, .int .i64 ac, .int .i64 bb, .int .i64 bp] 25)) := (((Below.refl _ _).alloc (by simp) _).alloc (by simp) _)
    have hKA : Blk ((w.alloc (.cells #[.int .i64 ar, .int .i64 ac, .int .i64 ab, .int .i64 ap] 25)).alloc (.cells #[.int .i64 ar, .int .i64 ac, .int .i64 bb, .int .i64 bp] 25)) (w.heap.size) #[.int .i64 ar, .int .i64 ac, .int .i64 ab, .int .i64 ap] 25 := ((blk_new _ _ (by simp)).alloc _)
    have hKB : Blk ((w.alloc (.cells #[.int .i64 ar, .int .i64 ac, .int .i64 ab, .int .i64 ap] 25)).alloc (.cells #[.int .i64 ar, .int .i64 ac, .int .i64 bb, .int .i64 bp] 25)) (w.heap.size + 1) #[.int .i64 ar, .int .i64 ac, .int .i64 bb, .int .i64 bp] 25 := (blk_new _ _ (by simp))
    have HB := Lib.hid hB; have KA := Lib.hid hKA; have KB := Lib.hid hKB
    clear hB hKA hKB hb hin
    go_enter Try.func12, Try.ntmps12
    go_upto_region 1 with fail
    generalize (w.alloc (.cells #[.int .i64 ar, .int .i64 ac, .int .i64 ab, .int .i64 ap] 25)).alloc (.cells #[.int .i64 ar, .int .i64 ac, .int .i64 bb, .int .i64 bp] 25) = x0 at HB KA KB ⊢
    have ka0 : x0.cell? ⟨w.heap.size, 0, none⟩ = some (.int .i64 ar) := KA.out.cell 0
    have ka1 : x0.cell? ⟨w.heap.size, 1, none⟩ = some (.int .i64 ac) := KA.out.cell 1
    have ka2 : x0.cell? ⟨w.heap.size, 2, none⟩ = some (.int .i64 ab) := KA.out.cell 2
    have ka3 : x0.cell? ⟨w.heap.size, 3, none⟩ = some (.int .i64 ap) := KA.out.cell 3
    have kal : w.heap.size < x0.heap.size := KA.out.lt
    have kb0 : x0.cell? ⟨w.heap.size + 1, 0, none⟩ = some (.int .i64 ar) := KB.out.cell 0
    have kb1 : x0.cell? ⟨w.heap.size + 1, 1, none⟩ = some (.int .i64 ac) := KB.out.cell 1
    have kb2 : x0.cell? ⟨w.heap.size + 1, 2, none⟩ = some (.int .i64 bb) := KB.out.cell 2
    have kb3 : x0.cell? ⟨w.heap.size + 1, 3, none⟩ = some (.int .i64 bp) := KB.out.cell 3
    have kbl : w.heap.size + 1 < x0.heap.size := KB.out.lt
    go_wp2_with fail
    refine (HBE.out _).mono ?_
    rintro e x1 ⟨rfl, hbq⟩
    clear ka0 ka1 ka2 ka3 kal kb0 kb1 kb2 kb3 kbl
    have KA := Lib.hid (KA.out.after hbq)
    have KB := Lib.hid (KB.out.after hbq)
    have HB := Lib.hid (HB.out.trans (hbq.mono HB.out.size))
    clear hbq
    by_cases hl : z < 0
    case pos =>
      rw [decide_eq_true hl]
      obtain rfl : z = -1 := by have := HIN.out; omega
      go_wp2_with fail
      go_ret
      exact ⟨rfl, HB.out⟩
    rw [decide_eq_false hl]
    obtain rfl : z = 1 := by have := HIN.out; have := HZN.out; omega
    go_wp2_with fail
    go_ret
    exact ⟨rfl, HB.out⟩
  subst bb
  by_cases e3 : ap = bp
  case neg =>
    clear he
    have hB : Below w.heap.size w ((w.alloc (.cells #[.int .i64 ar, .int .i64 ac, .int .i64 ab, .int .i64 ap] 25)).alloc (.cells #[.int .i64 ar, .int .i64 ac, .int .i64 ab, .int .i64 bp] 25)) := (((Below.refl _ _).alloc (by simp) _).alloc (by simp) _)
    have hKA : Blk ((w.alloc (.cells #[.int .i64 ar, .int .i64 ac, .int .i64 ab, .int .i64 ap] 25)).alloc (.cells #[.int .i64 ar, .int .i64 ac, .int .i64 ab, .int .i64 bp] 25)) (w.heap.size) #[.int .i64 ar, .int .i64 ac, .int .i64 ab, .int .i64 ap] 25 := ((blk_new _ _ (by simp)).alloc _)
    have hKB : Blk ((w.alloc (.cells #[.int .i64 ar, .int .i64 ac, .int .i64 ab, .int .i64 ap] 25)).alloc (.cells #[.int .i64 ar, .int .i64 ac, .int .i64 ab, .int .i64 bp] 25)) (w.heap.size + 1) #[.int .i64 ar, .int .i64 ac, .int .i64 ab, .int .i64 bp] 25 := (blk_new _ _ (by simp))
    have HB := Lib.hid hB; have KA := Lib.hid hKA; have KB := Lib.hid hKB
    clear hB hKA hKB hb hin
    go_enter Try.func12, Try.ntmps12
    go_upto_region 1 with fail
    generalize (w.alloc (.cells #[.int .i64 ar, .int .i64 ac, .int .i64 ab, .int .i64 ap] 25)).alloc (.cells #[.int .i64 ar, .int .i64 ac, .int .i64 ab, .int .i64 bp] 25) = x0 at HB KA KB ⊢
    have ka0 : x0.cell? ⟨w.heap.size, 0, none⟩ = some (.int .i64 ar) := KA.out.cell 0
    have ka1 : x0.cell? ⟨w.heap.size, 1, none⟩ = some (.int .i64 ac) := KA.out.cell 1
    have ka2 : x0.cell? ⟨w.heap.size, 2, none⟩ = some (.int .i64 ab) := KA.out.cell 2
    have ka3 : x0.cell? ⟨w.heap.size, 3, none⟩ = some (.int .i64 ap) := KA.out.cell 3
    have kal : w.heap.size < x0.heap.size := KA.out.lt
    have kb0 : x0.cell? ⟨w.heap.size + 1, 0, none⟩ = some (.int .i64 ar) := KB.out.cell 0
    have kb1 : x0.cell? ⟨w.heap.size + 1, 1, none⟩ = some (.int .i64 ac) := KB.out.cell 1
    have kb2 : x0.cell? ⟨w.heap.size + 1, 2, none⟩ = some (.int .i64 ab) := KB.out.cell 2
    have kb3 : x0.cell? ⟨w.heap.size + 1, 3, none⟩ = some (.int .i64 bp) := KB.out.cell 3
    have kbl : w.heap.size + 1 < x0.heap.size := KB.out.lt
    go_wp2_with fail
    refine (HBE.out _).mono ?_
    rintro e x1 ⟨rfl, hbq⟩
    clear ka0 ka1 ka2 ka3 kal kb0 kb1 kb2 kb3 kbl
    have KA := Lib.hid (KA.out.after hbq)
    have KB := Lib.hid (KB.out.after hbq)
    have HB := Lib.hid (HB.out.trans (hbq.mono HB.out.size))
    clear hbq
    by_cases hl : z < 0
    case pos =>
      rw [decide_eq_true hl]
      obtain rfl : z = -1 := by have := HIN.out; omega
      go_wp2_with fail
      go_ret
      exact ⟨rfl, HB.out⟩
    rw [decide_eq_false hl]
    obtain rfl : z = 1 := by have := HIN.out; have := HZN.out; omega
    go_wp2_with fail
    go_ret
    exact ⟨rfl, HB.out⟩
  exact absurd ⟨rfl, rfl, rfl, e3⟩ he
end Go.Proofs.Ytbcpfciegamaeaa
