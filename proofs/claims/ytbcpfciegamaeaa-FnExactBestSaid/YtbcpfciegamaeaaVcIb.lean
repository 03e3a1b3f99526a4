/- The order of vectors in the program: before. -/
import Derived.Test.YtbcpfciegamaeaaVcP
import Derived.Deep.RegionHeld3
namespace Go.Proofs.Ytbcpfciegamaeaa
open Go.RowKit

theorem cmpVc_lt (a b : Vc) : cmpVc a b < 0 ↔ a.root < b.root ∨ a.root = b.root ∧ (a.cost < b.cost ∨ a.cost = b.cost ∧ (a.bridge < b.bridge ∨ a.bridge = b.bridge ∧ a.port < b.port)) := by
  have h := cmpVc_le b a
  rw [cmpVc_neg a b] at h
  omega
set_option linter.unusedVariables false in
set_option linter.unusedSimpArgs false in
set_option maxRecDepth 20000 in
set_option maxHeartbeats 4000000 in
theorem before_impl (a b : Vc) (w : World) : Calls Try.prog 31 #[a.val, b.val] w fun e w' => e = .returned (.bool (decide (cmpVc a b < 0))) ∧ Below w.heap.size w w' := by
  have hiff := cmpVc_lt a b
  obtain ⟨z, hz⟩ : ∃ z, decide (cmpVc a b < 0) = z := ⟨_, rfl⟩
  rw [hz]
  obtain ⟨ar, ac, ab, ap⟩ := a
  obtain ⟨br, bc, bb, bp⟩ := b
  simp only at hiff
  have HZ := Lib.hid (show z = decide (ar < br ∨ ar = br ∧ (ac < bc ∨ ac = bc ∧ (ab < bb ∨ ab = bb ∧ ap < bp))) from hz.symm.trans (decide_eq_decide.2 hiff))
  unfold Vc.val
  have hB : Below w.heap.size w ((w.alloc (.cells #[.int .i64 ar, .int .i64 ac, .int .i64 ab, .int .i64 ap] 25)).alloc (.cells #[.int .i64 br, .int .i64 bc, .int .i64 bb, .int .i64 bp] 25)) := (((Below.refl _ _).alloc (by simp) _).alloc (by simp) _)
  have hKA : Blk ((w.alloc (.cells #[.int .i64 ar, .int .i64 ac, .int .i64 ab, .int .i64 ap] 25)).alloc (.cells #[.int .i64 br, .int .i64 bc, .int .i64 bb, .int .i64 bp] 25)) (w.heap.size) #[.int .i64 ar, .int .i64 ac, .int .i64 ab, .int .i64 ap] 25 := ((blk_new _ _ (by simp)).alloc _)
  have hKB : Blk ((w.alloc (.cells #[.int .i64 ar, .int .i64 ac, .int .i64 ab, .int .i64 ap] 25)).alloc (.cells #[.int .i64 br, .int .i64 bc, .int .i64 bb, .int .i64 bp] 25)) (w.heap.size + 1) #[.int .i64 br, .int .i64 bc, .int .i64 bb, .int .i64 bp] 25 := (blk_new _ _ (by simp))
  have HB := Lib.hid hB; have KA := Lib.hid hKA; have KB := Lib.hid hKB
  clear hB hKA hKB hz hiff
  go_enter Try.func31, Try.ntmps31
  by_cases e0 : ar = br
  case neg =>
    obtain rfl : z = decide (ar < br) := by
      rw [HZ.out]
      exact decide_eq_decide.2 (by omega)
    have e0' : (ar != br) = true := by simp [e0]
    have ka0 : ((w.alloc (.cells #[.int .i64 ar, .int .i64 ac, .int .i64 ab, .int .i64 ap] 25)).alloc (.cells #[.int .i64 br, .int .i64 bc, .int .i64 bb, .int .i64 bp] 25)).cell? ⟨w.heap.size, 0, none⟩ = some (.int .i64 ar) := KA.out.cell 0
    have ka1 : ((w.alloc (.cells #[.int .i64 ar, .int .i64 ac, .int .i64 ab, .int .i64 ap] 25)).alloc (.cells #[.int .i64 br, .int .i64 bc, .int .i64 bb, .int .i64 bp] 25)).cell? ⟨w.heap.size, 1, none⟩ = some (.int .i64 ac) := KA.out.cell 1
    have ka2 : ((w.alloc (.cells #[.int .i64 ar, .int .i64 ac, .int .i64 ab, .int .i64 ap] 25)).alloc (.cells #[.int .i64 br, .int .i64 bc, .int .i64 bb, .int .i64 bp] 25)).cell? ⟨w.heap.size, 2, none⟩ = some (.int .i64 ab) := KA.out.cell 2
    have ka3 : ((w.alloc (.cells #[.int .i64 ar, .int .i64 ac, .int .i64 ab, .int .i64 ap] 25)).alloc (.cells #[.int .i64 br, .int .i64 bc, .int .i64 bb, .int .i64 bp] 25)).cell? ⟨w.heap.size, 3, none⟩ = some (.int .i64 ap) := KA.out.cell 3
    have kal : w.heap.size < ((w.alloc (.cells #[.int .i64 ar, .int .i64 ac, .int .i64 ab, .int .i64 ap] 25)).alloc (.cells #[.int .i64 br, .int .i64 bc, .int .i64 bb, .int .i64 bp] 25)).heap.size := KA.out.lt
    have kb0 : ((w.alloc (.cells #[.int .i64 ar, .int .i64 ac, .int .i64 ab, .int .i64 ap] 25)).alloc (.cells #[.int .i64 br, .int .i64 bc, .int .i64 bb, .int .i64 bp] 25)).cell? ⟨w.heap.size + 1, 0, none⟩ = some (.int .i64 br) := KB.out.cell 0
    have kb1 : ((w.alloc (.cells #[.int .i64 ar, .int .i64 ac, .int .i64 ab, .int .i64 ap] 25)).alloc (.cells #[.int .i64 br, .int .i64 bc, .int .i64 bb, .int .i64 bp] 25)).cell? ⟨w.heap.size + 1, 1, none⟩ = some (.int .i64 bc) := KB.out.cell 1
    have kb2 : ((w.alloc (.cells #[.int .i64 ar, .int .i64 ac, .int .i64 ab, .int .i64 ap] 25)).alloc (.cells #[.int .i64 br, .int .i64 bc, .int .i64 bb, .int .i64 bp] 25)).cell? ⟨w.heap.size + 1, 2, none⟩ = some (.int .i64 bb) := KB.out.cell 2
    have kb3 : ((w.alloc (.cells #[.int .i64 ar, .int .i64 ac, .int .i64 ab, .int .i64 ap] 25)).alloc (.cells #[.int .i64 br, .int .i64 bc, .int .i64 bb, .int .i64 bp] 25)).cell? ⟨w.heap.size + 1, 3, none⟩ = some (.int .i64 bp) := KB.out.cell 3
    have kbl : w.heap.size + 1 < ((w.alloc (.cells #[.int .i64 ar, .int .i64 ac, .int .i64 ab, .int .i64 ap] 25)).alloc (.cells #[.int .i64 br, .int .i64 bc, .int .i64 bb, .int .i64 bp] 25)).heap.size := KB.out.lt
    go_wp2_with fail
    go_ret
    exact ⟨rfl, HB.out⟩
  subst br
  by_cases e1 : ac = bc
  case neg =>
    obtain rfl : z = decide (ac < bc) := by
      rw [HZ.out]
      exact decide_eq_decide.2 (by omega)
    have e1' : (ac != bc) = true := by simp [e1]
    have q0 : (ar != ar) = false := by simp
    have ka0 : ((w.alloc (.cells #[.int .i64 ar, .int .i64 ac, .int .i64 ab, .int .i64 ap] 25)).alloc (.cells #[.int .i64 ar, .int .i64 bc, .int .i64 bb, .int .i64 bp] 25)).cell? ⟨w.heap.size, 0, none⟩ = some (.int .i64 ar) := KA.out.cell 0
    have ka1 : ((w.alloc (.cells #[.int .i64 ar, .int .i64 ac, .int .i64 ab, .int .i64 ap] 25)).alloc (.cells #[.int .i64 ar, .int .i64 bc, .int .i64 bb, .int .i64 bp] 25)).cell? ⟨w.heap.size, 1, none⟩ = some (.int .i64 ac) := KA.out.cell 1
    have ka2 : ((w.alloc (.cells #[.int .i64 ar, .int .i64 ac, .int .i64 ab, .int .i64 ap] 25)).alloc (.cells #[.int .i64 ar, .int .i64 bc, .int .i64 bb, .int .i64 bp] 25)).cell? ⟨w.heap.size, 2, none⟩ = some (.int .i64 ab) := KA.out.cell 2
    have ka3 : ((w.alloc (.cells #[.int .i64 ar, .int .i64 ac, .int .i64 ab, .int .i64 ap] 25)).alloc (.cells #[.int .i64 ar, .int .i64 bc, .int .i64 bb, .int .i64 bp] 25)).cell? ⟨w.heap.size, 3, none⟩ = some (.int .i64 ap) := KA.out.cell 3
    have kal : w.heap.size < ((w.alloc (.cells #[.int .i64 ar, .int .i64 ac, .int .i64 ab, .int .i64 ap] 25)).alloc (.cells #[.int .i64 ar, .int .i64 bc, .int .i64 bb, .int .i64 bp] 25)).heap.size := KA.out.lt
    have kb0 : ((w.alloc (.cells #[.int .i64 ar, .int .i64 ac, .int .i64 ab, .int .i64 ap] 25)).alloc (.cells #[.int .i64 ar, .int .i64 bc, .int .i64 bb, .int .i64 bp] 25)).cell? ⟨w.heap.size + 1, 0, none⟩ = some (.int .i64 ar) := KB.out.cell 0
    have kb1 : ((w.alloc (.cells #[.int .i64 ar, .int .i64 ac, .int .i64 ab, .int .i64 ap] 25)).alloc (.cells #[.int .i64 ar, .int .i64 bc, .int .i64 bb, .int .i64 bp] 25)).cell? ⟨w.heap.size + 1, 1, none⟩ = some (.int .i64 bc) := KB.out.cell 1
    have kb2 : ((w.alloc (.cells #[.int .i64 ar, .int .i64 ac, .int .i64 ab, .int .i64 ap] 25)).alloc (.cells #[.int .i64 ar, .int .i64 bc, .int .i64 bb, .int .i64 bp] 25)).cell? ⟨w.heap.size + 1, 2, none⟩ = some (.int .i64 bb) := KB.out.cell 2
    have kb3 : ((w.alloc (.cells #[.int .i64 ar, .int .i64 ac, .int .i64 ab, .int .i64 ap] 25)).alloc (.cells #[.int .i64 ar, .int .i64 bc, .int .i64 bb, .int .i64 bp] 25)).cell? ⟨w.heap.size + 1, 3, none⟩ = some (.int .i64 bp) := KB.out.cell 3
    have kbl : w.heap.size + 1 < ((w.alloc (.cells #[.int .i64 ar, .int .i64 ac, .int .i64 ab, .int .i64 ap] 25)).alloc (.cells #[.int .i64 ar, .int .i64 bc, .int .i64 bb, .int .i64 bp] 25)).heap.size := KB.out.lt
    go_wp2_with fail
    go_ret
    exact ⟨rfl, HB.out⟩
  subst bc
  by_cases e2 : ab = bb
  case neg =>
    obtain rfl : z = decide (ab < bb) := by
      rw [HZ.out]
      exact decide_eq_decide.2 (by omega)
    have e2' : (ab != bb) = true := by simp [e2]
    have q0 : (ar != ar) = false := by simp
    have q1 : (ac != ac) = false := by simp
    have ka0 : ((w.alloc (.cells #[.int .i64 ar, .int .i64 ac, .int .i64 ab, .int .i64 ap] 25)).alloc (.cells #[.int .i64 ar, .int .i64 ac, .int .i64 bb, .int .i64 bp] 25)).cell? ⟨w.heap.size, 0, none⟩ = some (.int .i64 ar) := KA.out.cell 0
    have ka1 : ((w.alloc (.cells #[.int .i64 ar, .int .i64 ac, .int .i64 ab, .int .i64 ap] 25)).alloc (.cells #[.int .i64 ar, .int .i64 ac, .int .i64 bb, .int .i64 bp] 25)).cell? ⟨w.heap.size, 1, none⟩ = some (.int .i64 ac) := KA.out.cell 1
    have ka2 : ((w.alloc (.cells #[.int .i64 ar, .int .i64 ac, .int .i64 ab, .int .i64 ap] 25)).alloc (.cells #[.int .i64 ar, .int .i64 ac, .int .i64 bb, .int .i64 bp] 25)).cell? ⟨w.heap.size, 2, none⟩ = some (.int .i64 ab) := KA.out.cell 2
    have ka3 : ((w.alloc (.cells #[.int .i64 ar, .int .i64 ac, .int .i64 ab, .int .i64 ap] 25)).alloc (.cells #[.int .i64 ar, .int .i64 ac, .int .i64 bb, .int .i64 bp] 25)).cell? ⟨w.heap.size, 3, none⟩ = some (.int .i64 ap) := KA.out.cell 3
    have kal : w.heap.size < ((w.alloc (.cells #[.int .i64 ar, .int .i64 ac, .int .i64 ab, .int .i64 ap] 25)).alloc (.cells #[.int .i64 ar, .int .i64 ac, .int .i64 bb, .int .i64 bp] 25)).heap.size := KA.out.lt
    have kb0 : ((w.alloc (.cells #[.int .i64 ar, .int .i64 ac, .int .i64 ab, .int .i64 ap] 25)).alloc (.cells #[.int .i64 ar, .int .i64 ac, .int .i64 bb, .int .i64 bp] 25)).cell? ⟨w.heap.size + 1, 0, none⟩ = some (.int .i64 ar) := KB.out.cell 0
    have kb1 : ((w.alloc (.cells #[.int .i64 ar, .int .i64 ac, .int .i64 ab, .int .i64 ap] 25)).alloc (.cells #[.int .i64 ar, .int .i64 ac, .int .i64 bb, .int .i64 bp] 25)).cell? ⟨w.heap.size + 1, 1, none⟩ = some (.int .i64 ac) := KB.out.cell 1
    have kb2 : ((w.alloc (.cells #[.int .i64 ar, .int .i64 ac, .int .i64 ab, .int .i64 ap] 25)).alloc (.cells #[.int .i64 ar, .int .i64 ac, .int .i64 bb, .int .i64 bp] 25)).cell? ⟨w.heap.size + 1, 2, none⟩ = some (.int .i64 bb) := KB.out.cell 2
    have kb3 : ((w.alloc (.cells #[.int .i64 ar, .int .i64 ac, .int .i64 ab, .int .i64 ap] 25)).alloc (.cells #[.int .i64 ar, .int .i64 ac, .int .i64 bb, .int .i64 bp] 25)).cell? ⟨w.heap.size + 1, 3, none⟩ = some (.int .i64 bp) := KB.out.cell 3
    have kbl : w.heap.size + 1 < ((w.alloc (.cells #[.int .i64 ar, .int .i64 ac, .int .i64 ab, .int .i64 ap] 25)).alloc (.cells #[.int .i64 ar, .int .i64 ac, .int .i64 bb, .int .i64 bp] 25)).heap.size := KB.out.lt
    go_wp2_with fail
    go_ret
    exact ⟨rfl, HB.out⟩
  subst bb
  obtain rfl : z = decide (ap < bp) := by
    rw [HZ.out]
    exact decide_eq_decide.2 (by omega)
  have q0 : (ar != ar) = false := by simp
  have q1 : (ac != ac) = false := by simp
  have q2 : (ab != ab) = false := by simp
  have ka0 : ((w.alloc (.cells #[.int .i64 ar, .int .i64 ac, .int .i64 ab, .int .i64 ap] 25)).alloc (.cells #[.int .i64 ar, .int .i64 ac, .int .i64 ab, .int .i64 bp] 25)).cell? ⟨w.heap.size, 0, none⟩ = some (.int .i64 ar) := KA.out.cell 0
  have ka1 : ((w.alloc (.cells #[.int .i64 ar, .int .i64 ac, .int .i64 ab, .int .i64 ap] 25)).alloc (.cells #[.int .i64 ar, .int .i64 ac, .int .i64 ab, .int .i64 bp] 25)).cell? ⟨w.heap.size, 1, none⟩ = some (.int .i64 ac) := KA.out.cell 1
  have ka2 : ((w.alloc (.cells #[.int .i64 ar, .int .i64 ac, .int .i64 ab, .int .i64 ap] 25)).alloc (.cells #[.int .i64 ar, .int .i64 ac, .int .i64 ab, .int .i64 bp] 25)).cell? ⟨w.heap.size, 2, none⟩ = some (.int .i64 ab) := KA.out.cell 2
  have ka3 : ((w.alloc (.cells #[.int .i64 ar, .int .i64 ac, .int .i64 ab, .int .i64 ap] 25)).alloc (.cells #[.int .i64 ar, .int .i64 ac, .int .i64 ab, .int .i64 bp] 25)).cell? ⟨w.heap.size, 3, none⟩ = some (.int .i64 ap) := KA.out.cell 3
  have kal : w.heap.size < ((w.alloc (.cells #[.int .i64 ar, .int .i64 ac, .int .i64 ab, .int .i64 ap] 25)).alloc (.cells #[.int .i64 ar, .int .i64 ac, .int .i64 ab, .int .i64 bp] 25)).heap.size := KA.out.lt
  have kb0 : ((w.alloc (.cells #[.int .i64 ar, .int .i64 ac, .int .i64 ab, .int .i64 ap] 25)).alloc (.cells #[.int .i64 ar, .int .i64 ac, .int .i64 ab, .int .i64 bp] 25)).cell? ⟨w.heap.size + 1, 0, none⟩ = some (.int .i64 ar) := KB.out.cell 0
  have kb1 : ((w.alloc (.cells #[.int .i64 ar, .int .i64 ac, .int .i64 ab, .int .i64 ap] 25)).alloc (.cells #[.int .i64 ar, .int .i64 ac, .int .i64 ab, .int .i64 bp] 25)).cell? ⟨w.heap.size + 1, 1, none⟩ = some (.int .i64 ac) := KB.out.cell 1
  have kb2 : ((w.alloc (.cells #[.int .i64 ar, .int .i64 ac, .int .i64 ab, .int .i64 ap] 25)).alloc (.cells #[.int .i64 ar, .int .i64 ac, .int .i64 ab, .int .i64 bp] 25)).cell? ⟨w.heap.size + 1, 2, none⟩ = some (.int .i64 ab) := KB.out.cell 2
  have kb3 : ((w.alloc (.cells #[.int .i64 ar, .int .i64 ac, .int .i64 ab, .int .i64 ap] 25)).alloc (.cells #[.int .i64 ar, .int .i64 ac, .int .i64 ab, .int .i64 bp] 25)).cell? ⟨w.heap.size + 1, 3, none⟩ = some (.int .i64 bp) := KB.out.cell 3
  have kbl : w.heap.size + 1 < ((w.alloc (.cells #[.int .i64 ar, .int .i64 ac, .int .i64 ab, .int .i64 ap] 25)).alloc (.cells #[.int .i64 ar, .int .i64 ac, .int .i64 ab, .int .i64 bp] 25)).heap.size := KB.out.lt
  go_wp2_with fail
  go_ret
  exact ⟨rfl, HB.out⟩
end Go.Proofs.Ytbcpfciegamaeaa
