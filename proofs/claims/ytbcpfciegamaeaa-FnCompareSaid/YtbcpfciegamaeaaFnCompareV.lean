/- The walk of FnCompare. -/
import Derived.Test.YtbcpfciegamaeaaVcI
import Derived.Test.YtbcpfciegamaeaaVcP
import Derived.Test.YtbcpfciegamaeaaDrVc
import Derived.Test.YtbcpfciegamaeaaBig
import Derived.Deep.RegionHeld3
import Derived.Deep.DeepCutAuto
import Derived.Deep.Slices
namespace Go.Proofs.Ytbcpfciegamaeaa
open Go.RowKit

/-- the latter half of a slice of bytes -/
theorem row_sub0 {w : World} {a : Option Addr} {len cap : Nat} {zs : List Int} (h : IsRow .u8 w a len cap zs) (hc : cap = len / 2) : IsRow .u8 w a (len - len / 2) 0 [] := by
  rcases h with ⟨rfl, rfl, rfl, rfl⟩ | ⟨x, rfl, h1, h2, h3, h4, h5⟩
  · exact .inl ⟨rfl, rfl, rfl, rfl⟩
  · refine .inr ⟨x, rfl, by omega, by unfold maxLen; omega, rfl, fun i hi => absurd hi (by simp), fun n hn => by cases hn⟩
theorem row_sub1 {w : World} {x : Addr} {len cap lo : Nat} {zs : List Int} (h : IsRow .u8 w (some x) len cap zs) (hlo : lo ≤ len) : IsRow .u8 w (some (x.add lo)) (len - lo) (cap - lo) (zs.drop lo) := by
  rcases h with ⟨h, _⟩ | ⟨y, e, h1, h2, h3, h4, h5⟩
  · cases h
  · cases e
    refine .inr ⟨_, rfl, by omega, by omega, by rw [List.length_drop, h3], fun i hi => ?_, fun n hn => h5 n (List.mem_of_mem_drop hn)⟩
    rw [List.length_drop] at hi
    rw [Go.Deep.add_add, h4 (lo + i) (by omega)]
    rw [List.getD_eq_getElem?_getD, List.getD_eq_getElem?_getD, List.getElem?_drop]

set_option linter.unusedVariables false in
set_option linter.unusedSimpArgs false in
set_option maxRecDepth 20000 in
set_option maxHeartbeats 4000000 in
theorem walk_FnCompare (a : Option Addr) (len cap : Nat) (zs : List Int) (w : World) (hrow : IsRow .u8 w a len cap zs) :
    Calls Try.prog 3 #[.slice a len cap] w fun e w' => e = .returned (.bool true) ∧ Below w.heap.size w w' := by
  have hlow := hrow.low
  have hmax : len ≤ 9223372036854775807 := by
    rcases hrow with ⟨_, rfl, _⟩ | ⟨_, _, h1, h2, _⟩
    · omega
    · unfold maxLen at h2; omega
  by_cases hl : len ≤ 1048576
  case neg =>
    go_enter Try.func3, Try.ntmps3
    go_wp2_with fail
    refine (big_yes a len cap w (by omega)).mono ?_
    rintro e w' ⟨rfl, rfl⟩
    go_wp2_with fail
    go_ret
    exact ⟨rfl, Below.refl _ _⟩
  go_enter Try.func3, Try.ntmps3
  go_wp2_with fail
  refine (big_no a len cap w hl).mono ?_
  rintro e w9 ⟨rfl, rfl⟩
  go_wp2_with fail
  refine (drawCompare_any w a len cap zs hl hrow hlow).mono ?_
  rintro e x0 ⟨a', b', rfl, hb1⟩
  have HB := Lib.hid hb1
  clear hb1
  have h1 := compare_impl a' b'
  have h2 := compare_spec a' b'
  have h3 := compare_impl b' a'
  obtain ⟨n, hn⟩ : ∃ n, cmpVc a' b' = n := ⟨_, rfl⟩
  have h0 := cmpVc_zero a' b'
  rw [cmpVc_neg a' b'] at h3
  have hin := cmpVc_in a' b'
  rw [hn] at h1 h2 h3 h0 hin
  have hbc := fun c' => compare_impl b' c'
  have hac := fun c' => compare_impl a' c'
  have htr := fun c' => cmpVc_trans (a := a') (b := b') (c := c')
  rw [hn] at htr
  have hng : wrap64 (-n) = -n := IntWalk.wrap64_in _ (by omega)
  have heq : (n == 0) = decide (a' = b') := by rw [Bool.eq_iff_iff]; simp only [beq_iff_eq, decide_eq_true_iff]; exact h0
  obtain ⟨ar, ac, ab, ap⟩ := a'
  obtain ⟨br, bc, bb, bp⟩ := b'
  unfold Vc.val at *
  simp only at h1 h2 h3 hbc hac ⊢
  have H1 := Lib.hid h1; have H2 := Lib.hid h2; have H3 := Lib.hid h3; have HBC := Lib.hid hbc; have HAC := Lib.hid hac; have HTR := Lib.hid htr; have HEQ := Lib.hid heq; have HIN := Lib.hid hin; have HNG := Lib.hid hng
  clear h1 h2 h3 hbc hac htr heq h0 hn hin hng
  have hbq : Below x0.heap.size x0 ((x0.alloc (.cells #[.int .i64 ar, .int .i64 ac, .int .i64 ab, .int .i64 ap] 25)).alloc (.cells #[.int .i64 br, .int .i64 bc, .int .i64 bb, .int .i64 bp] 25)) := ((Below.refl _ _).alloc (Nat.le_refl _) _).alloc (by simp) _
  have KA := Lib.hid (show Blk ((x0.alloc (.cells #[.int .i64 ar, .int .i64 ac, .int .i64 ab, .int .i64 ap] 25)).alloc (.cells #[.int .i64 br, .int .i64 bc, .int .i64 bb, .int .i64 bp] 25)) x0.heap.size #[.int .i64 ar, .int .i64 ac, .int .i64 ab, .int .i64 ap] 25 from (blk_new _ _ rfl).alloc _)
  have KB := Lib.hid (show Blk ((x0.alloc (.cells #[.int .i64 ar, .int .i64 ac, .int .i64 ab, .int .i64 ap] 25)).alloc (.cells #[.int .i64 br, .int .i64 bc, .int .i64 bb, .int .i64 bp] 25)) (x0.heap.size + 1) #[.int .i64 br, .int .i64 bc, .int .i64 bb, .int .i64 bp] 25 from blk_new _ _ (by simp))
  have HB := Lib.hid (HB.out.trans (hbq.mono HB.out.size))
  clear hbq
  go_wp2_with fail
  generalize (x0.alloc (.cells #[.int .i64 ar, .int .i64 ac, .int .i64 ab, .int .i64 ap] 25)).alloc (.cells #[.int .i64 br, .int .i64 bc, .int .i64 bb, .int .i64 bp] 25) = x1 at KA KB HB ⊢
  generalize x0.heap.size = e1 at KA KB ⊢
  refine (H1.out _).mono ?_
  rintro e x2 ⟨rfl, hbq⟩
  have KA := Lib.hid (KA.out.after hbq)
  have KB := Lib.hid (KB.out.after hbq)
  have HB := Lib.hid (HB.out.trans (hbq.mono HB.out.size))
  clear hbq
  go_upto_region 5 with fail
  go_cut [38] (fun sp wx => sp = .bool false ∧ Hid (Below x2.heap.size x2 wx))
  case first =>
    have HB : Hid (Below x2.heap.size x2 x2) := Lib.hid (Below.refl _ _)
    have ka0 : x2.cell? ⟨e1, 0, none⟩ = some (.int .i64 ar) := KA.out.cell 0
    have ka1 : x2.cell? ⟨e1, 1, none⟩ = some (.int .i64 ac) := KA.out.cell 1
    have ka2 : x2.cell? ⟨e1, 2, none⟩ = some (.int .i64 ab) := KA.out.cell 2
    have ka3 : x2.cell? ⟨e1, 3, none⟩ = some (.int .i64 ap) := KA.out.cell 3
    have kal : e1 < x2.heap.size := KA.out.lt
    have kb0 : x2.cell? ⟨e1 + 1, 0, none⟩ = some (.int .i64 br) := KB.out.cell 0
    have kb1 : x2.cell? ⟨e1 + 1, 1, none⟩ = some (.int .i64 bc) := KB.out.cell 1
    have kb2 : x2.cell? ⟨e1 + 1, 2, none⟩ = some (.int .i64 bb) := KB.out.cell 2
    have kb3 : x2.cell? ⟨e1 + 1, 3, none⟩ = some (.int .i64 bp) := KB.out.cell 3
    have kbl : e1 + 1 < x2.heap.size := KB.out.lt
    go_wp2_with fail
    refine (H2.out _).mono ?_
    rintro e x3 ⟨rfl, hbq⟩
    clear ka0 ka1 ka2 ka3 kal kb0 kb1 kb2 kb3 kbl
    have KA := Lib.hid (KA.out.after hbq)
    have KB := Lib.hid (KB.out.after hbq)
    have HB := Lib.hid (HB.out.trans (hbq.mono HB.out.size))
    clear hbq
    have q1 : (n != n) = false := by simp
    have ka0 : x3.cell? ⟨e1, 0, none⟩ = some (.int .i64 ar) := KA.out.cell 0
    have ka1 : x3.cell? ⟨e1, 1, none⟩ = some (.int .i64 ac) := KA.out.cell 1
    have ka2 : x3.cell? ⟨e1, 2, none⟩ = some (.int .i64 ab) := KA.out.cell 2
    have ka3 : x3.cell? ⟨e1, 3, none⟩ = some (.int .i64 ap) := KA.out.cell 3
    have kal : e1 < x3.heap.size := KA.out.lt
    have kb0 : x3.cell? ⟨e1 + 1, 0, none⟩ = some (.int .i64 br) := KB.out.cell 0
    have kb1 : x3.cell? ⟨e1 + 1, 1, none⟩ = some (.int .i64 bc) := KB.out.cell 1
    have kb2 : x3.cell? ⟨e1 + 1, 2, none⟩ = some (.int .i64 bb) := KB.out.cell 2
    have kb3 : x3.cell? ⟨e1 + 1, 3, none⟩ = some (.int .i64 bp) := KB.out.cell 3
    have kbl : e1 + 1 < x3.heap.size := KB.out.lt
    go_wp2_with fail
    clear q1
    refine (H3.out _).mono ?_
    rintro e x4 ⟨rfl, hbq⟩
    clear ka0 ka1 ka2 ka3 kal kb0 kb1 kb2 kb3 kbl
    have KA := Lib.hid (KA.out.after hbq)
    have KB := Lib.hid (KB.out.after hbq)
    have HB := Lib.hid (HB.out.trans (hbq.mono HB.out.size))
    clear hbq
    have hng := HNG.out
    have q2 : (-n != -n) = false := by simp
    have heq := HEQ.out
    by_cases hab : (⟨ar, ac, ab, ap⟩ : Vc) = ⟨br, bc, bb, bp⟩
    · rw [decide_eq_true hab] at heq
      cases hab
      have ka0 : x4.cell? ⟨e1, 0, none⟩ = some (.int .i64 ar) := KA.out.cell 0
      have ka1 : x4.cell? ⟨e1, 1, none⟩ = some (.int .i64 ac) := KA.out.cell 1
      have ka2 : x4.cell? ⟨e1, 2, none⟩ = some (.int .i64 ab) := KA.out.cell 2
      have ka3 : x4.cell? ⟨e1, 3, none⟩ = some (.int .i64 ap) := KA.out.cell 3
      have kal : e1 < x4.heap.size := KA.out.lt
      have kb0 : x4.cell? ⟨e1 + 1, 0, none⟩ = some (.int .i64 ar) := KB.out.cell 0
      have kb1 : x4.cell? ⟨e1 + 1, 1, none⟩ = some (.int .i64 ac) := KB.out.cell 1
      have kb2 : x4.cell? ⟨e1 + 1, 2, none⟩ = some (.int .i64 ab) := KB.out.cell 2
      have kb3 : x4.cell? ⟨e1 + 1, 3, none⟩ = some (.int .i64 ap) := KB.out.cell 3
      have kbl : e1 + 1 < x4.heap.size := KB.out.lt
      go_wp2_with fail
      go_meet
      exact ⟨rfl, HB⟩
    rw [decide_eq_false hab] at heq
    simp only [Vc.mk.injEq] at hab
    have ka0 : x4.cell? ⟨e1, 0, none⟩ = some (.int .i64 ar) := KA.out.cell 0
    have ka1 : x4.cell? ⟨e1, 1, none⟩ = some (.int .i64 ac) := KA.out.cell 1
    have ka2 : x4.cell? ⟨e1, 2, none⟩ = some (.int .i64 ab) := KA.out.cell 2
    have ka3 : x4.cell? ⟨e1, 3, none⟩ = some (.int .i64 ap) := KA.out.cell 3
    have kal : e1 < x4.heap.size := KA.out.lt
    have kb0 : x4.cell? ⟨e1 + 1, 0, none⟩ = some (.int .i64 br) := KB.out.cell 0
    have kb1 : x4.cell? ⟨e1 + 1, 1, none⟩ = some (.int .i64 bc) := KB.out.cell 1
    have kb2 : x4.cell? ⟨e1 + 1, 2, none⟩ = some (.int .i64 bb) := KB.out.cell 2
    have kb3 : x4.cell? ⟨e1 + 1, 3, none⟩ = some (.int .i64 bp) := KB.out.cell 3
    have kbl : e1 + 1 < x4.heap.size := KB.out.lt
    go_wp2_with fail
    all_goals first | (go_meet; exact ⟨rfl, HB⟩) | (exfalso; apply hab; refine ⟨?_, ?_, ?_, ?_⟩ <;> assumption)
  case rest =>
    obtain ⟨rfl, HBC⟩ := hcut
    have hbq := HBC.out
    have KA := Lib.hid (KA.out.after hbq)
    have KB := Lib.hid (KB.out.after hbq)
    have HB := Lib.hid (HB.out.trans (hbq.mono HB.out.size))
    clear hbq HBC
    by_cases hcap : cap = len / 2
    · have hsub := row_sub0 hrow hcap
      have hsub2 := hsub.low
      have HSUB := Lib.hid hsub; have HSUB2 := Lib.hid hsub2
      clear hsub hsub2 hrow hlow
      have hcn := hcap
      go_wp2_with fail
      clear hcn
      refine (drawCompare_any _ _ _ _ _ (by omega) (HSUB.out.below HSUB2.out HB.out) (fun x hx hc => Nat.lt_of_lt_of_le (HSUB2.out x hx hc) HB.out.size)).mono ?_
      rintro e x3 ⟨c', d', rfl, hbq⟩
      have KA := Lib.hid (KA.out.after hbq)
      have KB := Lib.hid (KB.out.after hbq)
      have HB := Lib.hid (HB.out.trans (hbq.mono HB.out.size))
      clear hbq
      have hbc := HBC.out c'
      have hac := HAC.out c'
      have htr := HTR.out c'
      obtain ⟨v1, hv1⟩ : ∃ v, cmpVc ⟨br, bc, bb, bp⟩ c' = v := ⟨_, rfl⟩
      obtain ⟨v2, hv2⟩ : ∃ v, cmpVc ⟨ar, ac, ab, ap⟩ c' = v := ⟨_, rfl⟩
      rw [hv1] at hbc htr
      rw [hv2] at hac htr
      obtain ⟨cr, cc, cb, cp⟩ := c'
      obtain ⟨dr, dc, db, dp⟩ := d'
      try unfold Vc.val at hbc hac
      unfold Vc.val
      simp only at hbc hac ⊢
      have HBC1 := Lib.hid hbc; have HAC1 := Lib.hid hac; have HTR1 := Lib.hid htr
      clear hbc hac htr hv1 hv2 HBC HAC HTR HSUB HSUB2 hcap
      have hbq : Below x3.heap.size x3 ((x3.alloc (.cells #[.int .i64 cr, .int .i64 cc, .int .i64 cb, .int .i64 cp] 25)).alloc (.cells #[.int .i64 dr, .int .i64 dc, .int .i64 db, .int .i64 dp] 25)) := ((Below.refl _ _).alloc (Nat.le_refl _) _).alloc (by simp) _
      have KC := Lib.hid (show Blk ((x3.alloc (.cells #[.int .i64 cr, .int .i64 cc, .int .i64 cb, .int .i64 cp] 25)).alloc (.cells #[.int .i64 dr, .int .i64 dc, .int .i64 db, .int .i64 dp] 25)) x3.heap.size #[.int .i64 cr, .int .i64 cc, .int .i64 cb, .int .i64 cp] 25 from (blk_new _ _ rfl).alloc _)
      have KA := Lib.hid (KA.out.after hbq)
      have KB := Lib.hid (KB.out.after hbq)
      have HB := Lib.hid (HB.out.trans (hbq.mono HB.out.size))
      clear hbq
      by_cases hn : 0 < n
      · go_wp2_with fail
        go_ret
        exact ⟨rfl, HB.out⟩
      have ka0 : ((x3.alloc (.cells #[.int .i64 cr, .int .i64 cc, .int .i64 cb, .int .i64 cp] 25)).alloc (.cells #[.int .i64 dr, .int .i64 dc, .int .i64 db, .int .i64 dp] 25)).cell? ⟨e1, 0, none⟩ = some (.int .i64 ar) := KA.out.cell 0
      have ka1 : ((x3.alloc (.cells #[.int .i64 cr, .int .i64 cc, .int .i64 cb, .int .i64 cp] 25)).alloc (.cells #[.int .i64 dr, .int .i64 dc, .int .i64 db, .int .i64 dp] 25)).cell? ⟨e1, 1, none⟩ = some (.int .i64 ac) := KA.out.cell 1
      have ka2 : ((x3.alloc (.cells #[.int .i64 cr, .int .i64 cc, .int .i64 cb, .int .i64 cp] 25)).alloc (.cells #[.int .i64 dr, .int .i64 dc, .int .i64 db, .int .i64 dp] 25)).cell? ⟨e1, 2, none⟩ = some (.int .i64 ab) := KA.out.cell 2
      have ka3 : ((x3.alloc (.cells #[.int .i64 cr, .int .i64 cc, .int .i64 cb, .int .i64 cp] 25)).alloc (.cells #[.int .i64 dr, .int .i64 dc, .int .i64 db, .int .i64 dp] 25)).cell? ⟨e1, 3, none⟩ = some (.int .i64 ap) := KA.out.cell 3
      have kal : e1 < ((x3.alloc (.cells #[.int .i64 cr, .int .i64 cc, .int .i64 cb, .int .i64 cp] 25)).alloc (.cells #[.int .i64 dr, .int .i64 dc, .int .i64 db, .int .i64 dp] 25)).heap.size := KA.out.lt
      have kb0 : ((x3.alloc (.cells #[.int .i64 cr, .int .i64 cc, .int .i64 cb, .int .i64 cp] 25)).alloc (.cells #[.int .i64 dr, .int .i64 dc, .int .i64 db, .int .i64 dp] 25)).cell? ⟨e1 + 1, 0, none⟩ = some (.int .i64 br) := KB.out.cell 0
      have kb1 : ((x3.alloc (.cells #[.int .i64 cr, .int .i64 cc, .int .i64 cb, .int .i64 cp] 25)).alloc (.cells #[.int .i64 dr, .int .i64 dc, .int .i64 db, .int .i64 dp] 25)).cell? ⟨e1 + 1, 1, none⟩ = some (.int .i64 bc) := KB.out.cell 1
      have kb2 : ((x3.alloc (.cells #[.int .i64 cr, .int .i64 cc, .int .i64 cb, .int .i64 cp] 25)).alloc (.cells #[.int .i64 dr, .int .i64 dc, .int .i64 db, .int .i64 dp] 25)).cell? ⟨e1 + 1, 2, none⟩ = some (.int .i64 bb) := KB.out.cell 2
      have kb3 : ((x3.alloc (.cells #[.int .i64 cr, .int .i64 cc, .int .i64 cb, .int .i64 cp] 25)).alloc (.cells #[.int .i64 dr, .int .i64 dc, .int .i64 db, .int .i64 dp] 25)).cell? ⟨e1 + 1, 3, none⟩ = some (.int .i64 bp) := KB.out.cell 3
      have kbl : e1 + 1 < ((x3.alloc (.cells #[.int .i64 cr, .int .i64 cc, .int .i64 cb, .int .i64 cp] 25)).alloc (.cells #[.int .i64 dr, .int .i64 dc, .int .i64 db, .int .i64 dp] 25)).heap.size := KB.out.lt
      have kc0 : ((x3.alloc (.cells #[.int .i64 cr, .int .i64 cc, .int .i64 cb, .int .i64 cp] 25)).alloc (.cells #[.int .i64 dr, .int .i64 dc, .int .i64 db, .int .i64 dp] 25)).cell? ⟨x3.heap.size, 0, none⟩ = some (.int .i64 cr) := KC.out.cell 0
      have kc1 : ((x3.alloc (.cells #[.int .i64 cr, .int .i64 cc, .int .i64 cb, .int .i64 cp] 25)).alloc (.cells #[.int .i64 dr, .int .i64 dc, .int .i64 db, .int .i64 dp] 25)).cell? ⟨x3.heap.size, 1, none⟩ = some (.int .i64 cc) := KC.out.cell 1
      have kc2 : ((x3.alloc (.cells #[.int .i64 cr, .int .i64 cc, .int .i64 cb, .int .i64 cp] 25)).alloc (.cells #[.int .i64 dr, .int .i64 dc, .int .i64 db, .int .i64 dp] 25)).cell? ⟨x3.heap.size, 2, none⟩ = some (.int .i64 cb) := KC.out.cell 2
      have kc3 : ((x3.alloc (.cells #[.int .i64 cr, .int .i64 cc, .int .i64 cb, .int .i64 cp] 25)).alloc (.cells #[.int .i64 dr, .int .i64 dc, .int .i64 db, .int .i64 dp] 25)).cell? ⟨x3.heap.size, 3, none⟩ = some (.int .i64 cp) := KC.out.cell 3
      go_wp2_with fail
      clear ka0 ka1 ka2 ka3 kal kb0 kb1 kb2 kb3 kbl kc0 kc1 kc2 kc3
      generalize (x3.alloc (.cells #[.int .i64 cr, .int .i64 cc, .int .i64 cb, .int .i64 cp] 25)).alloc (.cells #[.int .i64 dr, .int .i64 dc, .int .i64 db, .int .i64 dp] 25) = x7 at KA KB KC HB ⊢
      generalize x3.heap.size = e7 at KC ⊢
      refine (HBC1.out _).mono ?_
      rintro e x8 ⟨rfl, hbq⟩
      have KA := Lib.hid (KA.out.after hbq)
      have KB := Lib.hid (KB.out.after hbq)
      have KC := Lib.hid (KC.out.after hbq)
      have HB := Lib.hid (HB.out.trans (hbq.mono HB.out.size))
      clear hbq
      by_cases h1 : 0 < v1
      · go_wp2_with fail
        go_ret
        exact ⟨rfl, HB.out⟩
      have ka0 : x8.cell? ⟨e1, 0, none⟩ = some (.int .i64 ar) := KA.out.cell 0
      have ka1 : x8.cell? ⟨e1, 1, none⟩ = some (.int .i64 ac) := KA.out.cell 1
      have ka2 : x8.cell? ⟨e1, 2, none⟩ = some (.int .i64 ab) := KA.out.cell 2
      have ka3 : x8.cell? ⟨e1, 3, none⟩ = some (.int .i64 ap) := KA.out.cell 3
      have kal : e1 < x8.heap.size := KA.out.lt
      have kc0 : x8.cell? ⟨e7, 0, none⟩ = some (.int .i64 cr) := KC.out.cell 0
      have kc1 : x8.cell? ⟨e7, 1, none⟩ = some (.int .i64 cc) := KC.out.cell 1
      have kc2 : x8.cell? ⟨e7, 2, none⟩ = some (.int .i64 cb) := KC.out.cell 2
      have kc3 : x8.cell? ⟨e7, 3, none⟩ = some (.int .i64 cp) := KC.out.cell 3
      have kcl : e7 < x8.heap.size := KC.out.lt
      go_wp2_with fail
      refine (HAC1.out _).mono ?_
      rintro e x9 ⟨rfl, hbq⟩
      clear ka0 ka1 ka2 ka3 kal kc0 kc1 kc2 kc3 kcl
      have KA := Lib.hid (KA.out.after hbq)
      have KB := Lib.hid (KB.out.after hbq)
      have KC := Lib.hid (KC.out.after hbq)
      have HB := Lib.hid (HB.out.trans (hbq.mono HB.out.size))
      clear hbq
      have h2 : v2 ≤ 0 := HTR1.out (by omega) (by omega)
      go_wp2_with fail
      go_ret
      exact ⟨rfl, HB.out⟩
    obtain ⟨x, rfl⟩ : ∃ x, a = some x := by
      rcases hrow with ⟨_, rfl, rfl, _⟩ | ⟨x, rfl, _⟩
      · exact absurd rfl hcap
      · exact ⟨x, rfl⟩
    have hsub := row_sub1 hrow (show len / 2 ≤ len by omega)
    have hsub2 := hsub.low
    have HSUB := Lib.hid hsub; have HSUB2 := Lib.hid hsub2
    clear hsub hsub2 hrow hlow
    have hcn := hcap
    go_wp2_with fail
    clear hcn
    refine (drawCompare_any _ _ _ _ _ (by omega) (HSUB.out.below HSUB2.out HB.out) (fun x hx hc => Nat.lt_of_lt_of_le (HSUB2.out x hx hc) HB.out.size)).mono ?_
    rintro e x3 ⟨c', d', rfl, hbq⟩
    have KA := Lib.hid (KA.out.after hbq)
    have KB := Lib.hid (KB.out.after hbq)
    have HB := Lib.hid (HB.out.trans (hbq.mono HB.out.size))
    clear hbq
    have hbc := HBC.out c'
    have hac := HAC.out c'
    have htr := HTR.out c'
    obtain ⟨v1, hv1⟩ : ∃ v, cmpVc ⟨br, bc, bb, bp⟩ c' = v := ⟨_, rfl⟩
    obtain ⟨v2, hv2⟩ : ∃ v, cmpVc ⟨ar, ac, ab, ap⟩ c' = v := ⟨_, rfl⟩
    rw [hv1] at hbc htr
    rw [hv2] at hac htr
    obtain ⟨cr, cc, cb, cp⟩ := c'
    obtain ⟨dr, dc, db, dp⟩ := d'
    try unfold Vc.val at hbc hac
    unfold Vc.val
    simp only at hbc hac ⊢
    have HBC1 := Lib.hid hbc; have HAC1 := Lib.hid hac; have HTR1 := Lib.hid htr
    clear hbc hac htr hv1 hv2 HBC HAC HTR HSUB HSUB2 hcap
    have hbq : Below x3.heap.size x3 ((x3.alloc (.cells #[.int .i64 cr, .int .i64 cc, .int .i64 cb, .int .i64 cp] 25)).alloc (.cells #[.int .i64 dr, .int .i64 dc, .int .i64 db, .int .i64 dp] 25)) := ((Below.refl _ _).alloc (Nat.le_refl _) _).alloc (by simp) _
    have KC := Lib.hid (show Blk ((x3.alloc (.cells #[.int .i64 cr, .int .i64 cc, .int .i64 cb, .int .i64 cp] 25)).alloc (.cells #[.int .i64 dr, .int .i64 dc, .int .i64 db, .int .i64 dp] 25)) x3.heap.size #[.int .i64 cr, .int .i64 cc, .int .i64 cb, .int .i64 cp] 25 from (blk_new _ _ rfl).alloc _)
    have KA := Lib.hid (KA.out.after hbq)
    have KB := Lib.hid (KB.out.after hbq)
    have HB := Lib.hid (HB.out.trans (hbq.mono HB.out.size))
    clear hbq
    by_cases hn : 0 < n
    · go_wp2_with fail
      go_ret
      exact ⟨rfl, HB.out⟩
    have ka0 : ((x3.alloc (.cells #[.int .i64 cr, .int .i64 cc, .int .i64 cb, .int .i64 cp] 25)).alloc (.cells #[.int .i64 dr, .int .i64 dc, .int .i64 db, .int .i64 dp] 25)).cell? ⟨e1, 0, none⟩ = some (.int .i64 ar) := KA.out.cell 0
    have ka1 : ((x3.alloc (.cells #[.int .i64 cr, .int .i64 cc, .int .i64 cb, .int .i64 cp] 25)).alloc (.cells #[.int .i64 dr, .int .i64 dc, .int .i64 db, .int .i64 dp] 25)).cell? ⟨e1, 1, none⟩ = some (.int .i64 ac) := KA.out.cell 1
    have ka2 : ((x3.alloc (.cells #[.int .i64 cr, .int .i64 cc, .int .i64 cb, .int .i64 cp] 25)).alloc (.cells #[.int .i64 dr, .int .i64 dc, .int .i64 db, .int .i64 dp] 25)).cell? ⟨e1, 2, none⟩ = some (.int .i64 ab) := KA.out.cell 2
    have ka3 : ((x3.alloc (.cells #[.int .i64 cr, .int .i64 cc, .int .i64 cb, .int .i64 cp] 25)).alloc (.cells #[.int .i64 dr, .int .i64 dc, .int .i64 db, .int .i64 dp] 25)).cell? ⟨e1, 3, none⟩ = some (.int .i64 ap) := KA.out.cell 3
    have kal : e1 < ((x3.alloc (.cells #[.int .i64 cr, .int .i64 cc, .int .i64 cb, .int .i64 cp] 25)).alloc (.cells #[.int .i64 dr, .int .i64 dc, .int .i64 db, .int .i64 dp] 25)).heap.size := KA.out.lt
    have kb0 : ((x3.alloc (.cells #[.int .i64 cr, .int .i64 cc, .int .i64 cb, .int .i64 cp] 25)).alloc (.cells #[.int .i64 dr, .int .i64 dc, .int .i64 db, .int .i64 dp] 25)).cell? ⟨e1 + 1, 0, none⟩ = some (.int .i64 br) := KB.out.cell 0
    have kb1 : ((x3.alloc (.cells #[.int .i64 cr, .int .i64 cc, .int .i64 cb, .int .i64 cp] 25)).alloc (.cells #[.int .i64 dr, .int .i64 dc, .int .i64 db, .int .i64 dp] 25)).cell? ⟨e1 + 1, 1, none⟩ = some (.int .i64 bc) := KB.out.cell 1
    have kb2 : ((x3.alloc (.cells #[.int .i64 cr, .int .i64 cc, .int .i64 cb, .int .i64 cp] 25)).alloc (.cells #[.int .i64 dr, .int .i64 dc, .int .i64 db, .int .i64 dp] 25)).cell? ⟨e1 + 1, 2, none⟩ = some (.int .i64 bb) := KB.out.cell 2
    have kb3 : ((x3.alloc (.cells #[.int .i64 cr, .int .i64 cc, .int .i64 cb, .int .i64 cp] 25)).alloc (.cells #[.int .i64 dr, .int .i64 dc, .int .i64 db, .int .i64 dp] 25)).cell? ⟨e1 + 1, 3, none⟩ = some (.int .i64 bp) := KB.out.cell 3
    have kbl : e1 + 1 < ((x3.alloc (.cells #[.int .i64 cr, .int .i64 cc, .int .i64 cb, .int .i64 cp] 25)).alloc (.cells #[.int .i64 dr, .int .i64 dc, .int .i64 db, .int .i64 dp] 25)).heap.size := KB.out.lt
    have kc0 : ((x3.alloc (.cells #[.int .i64 cr, .int .i64 cc, .int .i64 cb, .int .i64 cp] 25)).alloc (.cells #[.int .i64 dr, .int .i64 dc, .int .i64 db, .int .i64 dp] 25)).cell? ⟨x3.heap.size, 0, none⟩ = some (.int .i64 cr) := KC.out.cell 0
    have kc1 : ((x3.alloc (.cells #[.int .i64 cr, .int .i64 cc, .int .i64 cb, .int .i64 cp] 25)).alloc (.cells #[.int .i64 dr, .int .i64 dc, .int .i64 db, .int .i64 dp] 25)).cell? ⟨x3.heap.size, 1, none⟩ = some (.int .i64 cc) := KC.out.cell 1
    have kc2 : ((x3.alloc (.cells #[.int .i64 cr, .int .i64 cc, .int .i64 cb, .int .i64 cp] 25)).alloc (.cells #[.int .i64 dr, .int .i64 dc, .int .i64 db, .int .i64 dp] 25)).cell? ⟨x3.heap.size, 2, none⟩ = some (.int .i64 cb) := KC.out.cell 2
    have kc3 : ((x3.alloc (.cells #[.int .i64 cr, .int .i64 cc, .int .i64 cb, .int .i64 cp] 25)).alloc (.cells #[.int .i64 dr, .int .i64 dc, .int .i64 db, .int .i64 dp] 25)).cell? ⟨x3.heap.size, 3, none⟩ = some (.int .i64 cp) := KC.out.cell 3
    go_wp2_with fail
    clear ka0 ka1 ka2 ka3 kal kb0 kb1 kb2 kb3 kbl kc0 kc1 kc2 kc3
    generalize (x3.alloc (.cells #[.int .i64 cr, .int .i64 cc, .int .i64 cb, .int .i64 cp] 25)).alloc (.cells #[.int .i64 dr, .int .i64 dc, .int .i64 db, .int .i64 dp] 25) = x7 at KA KB KC HB ⊢
    generalize x3.heap.size = e7 at KC ⊢
    refine (HBC1.out _).mono ?_
    rintro e x8 ⟨rfl, hbq⟩
    have KA := Lib.hid (KA.out.after hbq)
    have KB := Lib.hid (KB.out.after hbq)
    have KC := Lib.hid (KC.out.after hbq)
    have HB := Lib.hid (HB.out.trans (hbq.mono HB.out.size))
    clear hbq
    by_cases h1 : 0 < v1
    · go_wp2_with fail
      go_ret
      exact ⟨rfl, HB.out⟩
    have ka0 : x8.cell? ⟨e1, 0, none⟩ = some (.int .i64 ar) := KA.out.cell 0
    have ka1 : x8.cell? ⟨e1, 1, none⟩ = some (.int .i64 ac) := KA.out.cell 1
    have ka2 : x8.cell? ⟨e1, 2, none⟩ = some (.int .i64 ab) := KA.out.cell 2
    have ka3 : x8.cell? ⟨e1, 3, none⟩ = some (.int .i64 ap) := KA.out.cell 3
    have kal : e1 < x8.heap.size := KA.out.lt
    have kc0 : x8.cell? ⟨e7, 0, none⟩ = some (.int .i64 cr) := KC.out.cell 0
    have kc1 : x8.cell? ⟨e7, 1, none⟩ = some (.int .i64 cc) := KC.out.cell 1
    have kc2 : x8.cell? ⟨e7, 2, none⟩ = some (.int .i64 cb) := KC.out.cell 2
    have kc3 : x8.cell? ⟨e7, 3, none⟩ = some (.int .i64 cp) := KC.out.cell 3
    have kcl : e7 < x8.heap.size := KC.out.lt
    go_wp2_with fail
    refine (HAC1.out _).mono ?_
    rintro e x9 ⟨rfl, hbq⟩
    clear ka0 ka1 ka2 ka3 kal kc0 kc1 kc2 kc3 kcl
    have KA := Lib.hid (KA.out.after hbq)
    have KB := Lib.hid (KB.out.after hbq)
    have KC := Lib.hid (KC.out.after hbq)
    have HB := Lib.hid (HB.out.trans (hbq.mono HB.out.size))
    clear hbq
    have h2 : v2 ≤ 0 := HTR1.out (by omega) (by omega)
    go_wp2_with fail
    go_ret
    exact ⟨rfl, HB.out⟩
end Go.Proofs.Ytbcpfciegamaeaa
