/- The walks of the exact laws of buckets. -/
import Derived.Test.YtjpimcckpbpahaaBuI
import Derived.Test.YtjpimcckpbpahaaBuL
namespace Go.Proofs.Ytjpimcckpbpahaa
open Go.RowKit

set_option linter.unusedVariables false in
set_option linter.unusedSimpArgs false in
set_option maxRecDepth 20000 in
set_option maxHeartbeats 4000000 in
theorem walk_FnExactBucketOk (b : Bu) (hb : b.fits) (w : World) : Calls Try.prog 5 #[b.val] w fun e w' => e = .returned (.bool true) ∧ Below w.heap.size w w' := by
  have hs := fun w => bucketOk_spec b w
  have hi := fun w => bucketOk_impl b w
  obtain ⟨z0, hz0⟩ : ∃ z, decide (buOk b) = z := ⟨_, rfl⟩
  simp only [hz0] at hs hi
  clear hz0
  have hto0 := fun w => toBucket_any b w
  obtain ⟨br, bm, bl, bt⟩ := b
  unfold Bu.val at *
  simp only at hs hi hto0 ⊢
  have HS := Lib.hid hs; have HI := Lib.hid hi; have HTO0 := Lib.hid hto0
  have hB : Below w.heap.size w (w.alloc (.cells #[.int .i64 br, .int .i64 bm, .int .i64 bl, .int .i64 bt] 37)) := ((Below.refl _ _).alloc (by simp) _)
  have hKB : Blk (w.alloc (.cells #[.int .i64 br, .int .i64 bm, .int .i64 bl, .int .i64 bt] 37)) (w.heap.size) #[.int .i64 br, .int .i64 bm, .int .i64 bl, .int .i64 bt] 37 := (blk_new _ _ (by simp))
  have HB := Lib.hid hB; have KB := Lib.hid hKB
  clear hB hKB hs hi hto0 hb
  go_enter Try.func5, Try.ntmps5
  go_wp2_with fail
  refine (HTO0.out _).mono ?_
  rintro e x1 ⟨rfl, hbq⟩
  have KB := Lib.hid (KB.out.after hbq)
  have HB := Lib.hid (HB.out.trans (hbq.mono HB.out.size))
  clear hbq
  have kb0 : x1.cell? ⟨w.heap.size, 0, none⟩ = some (.int .i64 br) := KB.out.cell 0
  have kb1 : x1.cell? ⟨w.heap.size, 1, none⟩ = some (.int .i64 bm) := KB.out.cell 1
  have kb2 : x1.cell? ⟨w.heap.size, 2, none⟩ = some (.int .i64 bl) := KB.out.cell 2
  have kb3 : x1.cell? ⟨w.heap.size, 3, none⟩ = some (.int .i64 bt) := KB.out.cell 3
  have kbl : w.heap.size < x1.heap.size := KB.out.lt
  go_wp2_with fail
  refine (HS.out _).mono ?_
  rintro e x2 ⟨rfl, hbq⟩
  clear kb0 kb1 kb2 kb3 kbl
  have KB := Lib.hid (KB.out.after hbq)
  have HB := Lib.hid (HB.out.trans (hbq.mono HB.out.size))
  clear hbq
  have kb0 : x2.cell? ⟨w.heap.size, 0, none⟩ = some (.int .i64 br) := KB.out.cell 0
  have kb1 : x2.cell? ⟨w.heap.size, 1, none⟩ = some (.int .i64 bm) := KB.out.cell 1
  have kb2 : x2.cell? ⟨w.heap.size, 2, none⟩ = some (.int .i64 bl) := KB.out.cell 2
  have kb3 : x2.cell? ⟨w.heap.size, 3, none⟩ = some (.int .i64 bt) := KB.out.cell 3
  have kbl : w.heap.size < x2.heap.size := KB.out.lt
  go_wp2_with fail
  refine (HTO0.out _).mono ?_
  rintro e x3 ⟨rfl, hbq⟩
  clear kb0 kb1 kb2 kb3 kbl
  have KB := Lib.hid (KB.out.after hbq)
  have HB := Lib.hid (HB.out.trans (hbq.mono HB.out.size))
  clear hbq
  have kb0 : x3.cell? ⟨w.heap.size, 0, none⟩ = some (.int .i64 br) := KB.out.cell 0
  have kb1 : x3.cell? ⟨w.heap.size, 1, none⟩ = some (.int .i64 bm) := KB.out.cell 1
  have kb2 : x3.cell? ⟨w.heap.size, 2, none⟩ = some (.int .i64 bl) := KB.out.cell 2
  have kb3 : x3.cell? ⟨w.heap.size, 3, none⟩ = some (.int .i64 bt) := KB.out.cell 3
  have kbl : w.heap.size < x3.heap.size := KB.out.lt
  go_wp2_with fail
  refine (HI.out _).mono ?_
  rintro e x4 ⟨rfl, hbq⟩
  clear kb0 kb1 kb2 kb3 kbl
  have KB := Lib.hid (KB.out.after hbq)
  have HB := Lib.hid (HB.out.trans (hbq.mono HB.out.size))
  clear hbq
  have q0 : (z0 != z0) = false := by simp
  go_wp2_with fail
  go_ret
  exact ⟨rfl, HB.out⟩

set_option linter.unusedVariables false in
set_option linter.unusedSimpArgs false in
set_option maxRecDepth 20000 in
set_option maxHeartbeats 4000000 in
theorem walk_FnExactNewBucket (r : Int) (hr : (Lit.int .i64 r).wf = true) (m : Int) (hm : (Lit.int .i64 m).wf = true) (t : Int) (ht : (Lit.int .i64 t).wf = true) (w : World) : Calls Try.prog 6 #[.int .i64 r, .int .i64 m, .int .i64 t] w fun e w' => e = .returned (.bool true) ∧ Below w.heap.size w w' := by
  have hs := fun w => newBucket_spec r m t w
  have hi := fun w => newBucket_impl r m t w
  obtain ⟨z0, hz0⟩ : ∃ z, newBu r m t = z := ⟨_, rfl⟩
  simp only [hz0] at hs hi
  clear hz0
  have heq := fun w => eqBucket_same z0 w
  obtain ⟨z0r, z0m, z0l, z0t⟩ := z0
  unfold Bu.val at *
  simp only at hs hi heq
  have HS := Lib.hid hs; have HI := Lib.hid hi; have HEQ := Lib.hid heq
  have hB : Below w.heap.size w w := (Below.refl _ _)
  have HB := Lib.hid hB; 
  clear hB  hs hi heq hr hm ht
  go_enter Try.func6, Try.ntmps6
  go_wp2_with fail
  refine (HS.out _).mono ?_
  rintro e x1 ⟨rfl, hbq⟩
  have HB := Lib.hid (HB.out.trans (hbq.mono HB.out.size))
  clear hbq
  have hbq : Below x1.heap.size x1 (x1.alloc (.cells #[.int .i64 z0r, .int .i64 z0m, .int .i64 z0l, .int .i64 z0t] 25)) := (Below.refl _ _).alloc (Nat.le_refl _) _
  have hnq : Blk (x1.alloc (.cells #[.int .i64 z0r, .int .i64 z0m, .int .i64 z0l, .int .i64 z0t] 25)) x1.heap.size #[.int .i64 z0r, .int .i64 z0m, .int .i64 z0l, .int .i64 z0t] 25 := blk_new _ _ rfl
  have hleKW : w.heap.size ≤ x1.heap.size := HB.out.size
  have HB := Lib.hid (HB.out.trans (hbq.mono HB.out.size))
  have KW := Lib.hid hnq
  have HLTKW := Lib.hid (And.intro hleKW trivial)
  clear hbq hnq hleKW 
  go_wp2_with fail
  generalize x1.alloc (.cells #[.int .i64 z0r, .int .i64 z0m, .int .i64 z0l, .int .i64 z0t] 25) = x2 at KW HB ⊢
  generalize x1.heap.size = e2 at KW HLTKW ⊢
  refine (HI.out _).mono ?_
  rintro e x3 ⟨rfl, hbq⟩
  have KW := Lib.hid (KW.out.after hbq)
  have HB := Lib.hid (HB.out.trans (hbq.mono HB.out.size))
  clear hbq
  have hbq : Below x3.heap.size x3 (x3.alloc (.cells #[.int .i64 z0r, .int .i64 z0m, .int .i64 z0l, .int .i64 z0t] 25)) := (Below.refl _ _).alloc (Nat.le_refl _) _
  have hnq : Blk (x3.alloc (.cells #[.int .i64 z0r, .int .i64 z0m, .int .i64 z0l, .int .i64 z0t] 25)) x3.heap.size #[.int .i64 z0r, .int .i64 z0m, .int .i64 z0l, .int .i64 z0t] 25 := blk_new _ _ rfl
  have hleKG : w.heap.size ≤ x3.heap.size := HB.out.size
  have hltKWKG := KW.out.lt
  have KW := Lib.hid (KW.out.after hbq)
  have HB := Lib.hid (HB.out.trans (hbq.mono HB.out.size))
  have KG := Lib.hid hnq
  have HLTKG := Lib.hid (And.intro hleKG (And.intro hltKWKG trivial))
  clear hbq hnq hleKG hltKWKG
  have kw0 : (x3.alloc (.cells #[.int .i64 z0r, .int .i64 z0m, .int .i64 z0l, .int .i64 z0t] 25)).cell? ⟨e2, 0, none⟩ = some (.int .i64 z0r) := KW.out.cell 0
  have kw1 : (x3.alloc (.cells #[.int .i64 z0r, .int .i64 z0m, .int .i64 z0l, .int .i64 z0t] 25)).cell? ⟨e2, 1, none⟩ = some (.int .i64 z0m) := KW.out.cell 1
  have kw2 : (x3.alloc (.cells #[.int .i64 z0r, .int .i64 z0m, .int .i64 z0l, .int .i64 z0t] 25)).cell? ⟨e2, 2, none⟩ = some (.int .i64 z0l) := KW.out.cell 2
  have kw3 : (x3.alloc (.cells #[.int .i64 z0r, .int .i64 z0m, .int .i64 z0l, .int .i64 z0t] 25)).cell? ⟨e2, 3, none⟩ = some (.int .i64 z0t) := KW.out.cell 3
  have kwl : e2 < (x3.alloc (.cells #[.int .i64 z0r, .int .i64 z0m, .int .i64 z0l, .int .i64 z0t] 25)).heap.size := KW.out.lt
  go_wp2_with fail
  clear kw0 kw1 kw2 kw3 kwl
  generalize x3.alloc (.cells #[.int .i64 z0r, .int .i64 z0m, .int .i64 z0l, .int .i64 z0t] 25) = x4 at KW KG HB ⊢
  generalize x3.heap.size = e4 at KG HLTKG ⊢
  refine (HEQ.out _).mono ?_
  rintro e x5 ⟨rfl, hbq⟩
  have KW := Lib.hid (KW.out.after hbq)
  have KG := Lib.hid (KG.out.after hbq)
  have HB := Lib.hid (HB.out.trans (hbq.mono HB.out.size))
  clear hbq
  go_wp2_with fail
  go_ret
  exact ⟨rfl, HB.out⟩

set_option linter.unusedVariables false in
set_option linter.unusedSimpArgs false in
set_option maxRecDepth 20000 in
set_option maxHeartbeats 4000000 in
theorem walk_FnExactFill (b : Bu) (hb : b.fits) (now : Int) (hnow : (Lit.int .i64 now).wf = true) (w : World) : Calls Try.prog 7 #[b.val, .int .i64 now] w fun e w' => e = .returned (.bool true) ∧ Below w.heap.size w w' := by
  have hs := fun w => fill_spec b now w
  have hi := fun w => fill_impl b now w
  obtain ⟨z0, hz0⟩ : ∃ z, fillBu b now = z := ⟨_, rfl⟩
  simp only [hz0] at hs hi
  clear hz0
  have heq := fun w => eqBucket_same z0 w
  have hto0 := fun w => toBucket_any b w
  obtain ⟨br, bm, bl, bt⟩ := b
  obtain ⟨z0r, z0m, z0l, z0t⟩ := z0
  unfold Bu.val at *
  simp only at hs hi hto0 heq ⊢
  have HS := Lib.hid hs; have HI := Lib.hid hi; have HTO0 := Lib.hid hto0; have HEQ := Lib.hid heq
  have hB : Below w.heap.size w (w.alloc (.cells #[.int .i64 br, .int .i64 bm, .int .i64 bl, .int .i64 bt] 37)) := ((Below.refl _ _).alloc (by simp) _)
  have hKB : Blk (w.alloc (.cells #[.int .i64 br, .int .i64 bm, .int .i64 bl, .int .i64 bt] 37)) (w.heap.size) #[.int .i64 br, .int .i64 bm, .int .i64 bl, .int .i64 bt] 37 := (blk_new _ _ (by simp))
  have HB := Lib.hid hB; have KB := Lib.hid hKB
  clear hB hKB hs hi hto0 heq hb hnow
  go_enter Try.func7, Try.ntmps7
  go_wp2_with fail
  refine (HTO0.out _).mono ?_
  rintro e x1 ⟨rfl, hbq⟩
  have KB := Lib.hid (KB.out.after hbq)
  have HB := Lib.hid (HB.out.trans (hbq.mono HB.out.size))
  clear hbq
  have kb0 : x1.cell? ⟨w.heap.size, 0, none⟩ = some (.int .i64 br) := KB.out.cell 0
  have kb1 : x1.cell? ⟨w.heap.size, 1, none⟩ = some (.int .i64 bm) := KB.out.cell 1
  have kb2 : x1.cell? ⟨w.heap.size, 2, none⟩ = some (.int .i64 bl) := KB.out.cell 2
  have kb3 : x1.cell? ⟨w.heap.size, 3, none⟩ = some (.int .i64 bt) := KB.out.cell 3
  have kbl : w.heap.size < x1.heap.size := KB.out.lt
  go_wp2_with fail
  refine (HS.out _).mono ?_
  rintro e x2 ⟨rfl, hbq⟩
  clear kb0 kb1 kb2 kb3 kbl
  have KB := Lib.hid (KB.out.after hbq)
  have HB := Lib.hid (HB.out.trans (hbq.mono HB.out.size))
  clear hbq
  have hbq : Below x2.heap.size x2 (x2.alloc (.cells #[.int .i64 z0r, .int .i64 z0m, .int .i64 z0l, .int .i64 z0t] 25)) := (Below.refl _ _).alloc (Nat.le_refl _) _
  have hnq : Blk (x2.alloc (.cells #[.int .i64 z0r, .int .i64 z0m, .int .i64 z0l, .int .i64 z0t] 25)) x2.heap.size #[.int .i64 z0r, .int .i64 z0m, .int .i64 z0l, .int .i64 z0t] 25 := blk_new _ _ rfl
  have hleKW : w.heap.size ≤ x2.heap.size := HB.out.size
  have hltKBKW := KB.out.lt
  have KB := Lib.hid (KB.out.after hbq)
  have HB := Lib.hid (HB.out.trans (hbq.mono HB.out.size))
  have KW := Lib.hid hnq
  have HLTKW := Lib.hid (And.intro hleKW (And.intro hltKBKW trivial))
  clear hbq hnq hleKW hltKBKW
  have kb0 : (x2.alloc (.cells #[.int .i64 z0r, .int .i64 z0m, .int .i64 z0l, .int .i64 z0t] 25)).cell? ⟨w.heap.size, 0, none⟩ = some (.int .i64 br) := KB.out.cell 0
  have kb1 : (x2.alloc (.cells #[.int .i64 z0r, .int .i64 z0m, .int .i64 z0l, .int .i64 z0t] 25)).cell? ⟨w.heap.size, 1, none⟩ = some (.int .i64 bm) := KB.out.cell 1
  have kb2 : (x2.alloc (.cells #[.int .i64 z0r, .int .i64 z0m, .int .i64 z0l, .int .i64 z0t] 25)).cell? ⟨w.heap.size, 2, none⟩ = some (.int .i64 bl) := KB.out.cell 2
  have kb3 : (x2.alloc (.cells #[.int .i64 z0r, .int .i64 z0m, .int .i64 z0l, .int .i64 z0t] 25)).cell? ⟨w.heap.size, 3, none⟩ = some (.int .i64 bt) := KB.out.cell 3
  have kbl : w.heap.size < (x2.alloc (.cells #[.int .i64 z0r, .int .i64 z0m, .int .i64 z0l, .int .i64 z0t] 25)).heap.size := KB.out.lt
  go_wp2_with fail
  clear kb0 kb1 kb2 kb3 kbl
  generalize x2.alloc (.cells #[.int .i64 z0r, .int .i64 z0m, .int .i64 z0l, .int .i64 z0t] 25) = x3 at KB KW HB ⊢
  generalize x2.heap.size = e3 at KW HLTKW ⊢
  refine (HTO0.out _).mono ?_
  rintro e x4 ⟨rfl, hbq⟩
  have KB := Lib.hid (KB.out.after hbq)
  have KW := Lib.hid (KW.out.after hbq)
  have HB := Lib.hid (HB.out.trans (hbq.mono HB.out.size))
  clear hbq
  have kb0 : x4.cell? ⟨w.heap.size, 0, none⟩ = some (.int .i64 br) := KB.out.cell 0
  have kb1 : x4.cell? ⟨w.heap.size, 1, none⟩ = some (.int .i64 bm) := KB.out.cell 1
  have kb2 : x4.cell? ⟨w.heap.size, 2, none⟩ = some (.int .i64 bl) := KB.out.cell 2
  have kb3 : x4.cell? ⟨w.heap.size, 3, none⟩ = some (.int .i64 bt) := KB.out.cell 3
  have kbl : w.heap.size < x4.heap.size := KB.out.lt
  go_wp2_with fail
  refine (HI.out _).mono ?_
  rintro e x5 ⟨rfl, hbq⟩
  clear kb0 kb1 kb2 kb3 kbl
  have KB := Lib.hid (KB.out.after hbq)
  have KW := Lib.hid (KW.out.after hbq)
  have HB := Lib.hid (HB.out.trans (hbq.mono HB.out.size))
  clear hbq
  have hbq : Below x5.heap.size x5 (x5.alloc (.cells #[.int .i64 z0r, .int .i64 z0m, .int .i64 z0l, .int .i64 z0t] 25)) := (Below.refl _ _).alloc (Nat.le_refl _) _
  have hnq : Blk (x5.alloc (.cells #[.int .i64 z0r, .int .i64 z0m, .int .i64 z0l, .int .i64 z0t] 25)) x5.heap.size #[.int .i64 z0r, .int .i64 z0m, .int .i64 z0l, .int .i64 z0t] 25 := blk_new _ _ rfl
  have hleKG : w.heap.size ≤ x5.heap.size := HB.out.size
  have hltKBKG := KB.out.lt
  have hltKWKG := KW.out.lt
  have KB := Lib.hid (KB.out.after hbq)
  have KW := Lib.hid (KW.out.after hbq)
  have HB := Lib.hid (HB.out.trans (hbq.mono HB.out.size))
  have KG := Lib.hid hnq
  have HLTKG := Lib.hid (And.intro hleKG (And.intro hltKBKG (And.intro hltKWKG trivial)))
  clear hbq hnq hleKG hltKBKG hltKWKG
  have kw0 : (x5.alloc (.cells #[.int .i64 z0r, .int .i64 z0m, .int .i64 z0l, .int .i64 z0t] 25)).cell? ⟨e3, 0, none⟩ = some (.int .i64 z0r) := KW.out.cell 0
  have kw1 : (x5.alloc (.cells #[.int .i64 z0r, .int .i64 z0m, .int .i64 z0l, .int .i64 z0t] 25)).cell? ⟨e3, 1, none⟩ = some (.int .i64 z0m) := KW.out.cell 1
  have kw2 : (x5.alloc (.cells #[.int .i64 z0r, .int .i64 z0m, .int .i64 z0l, .int .i64 z0t] 25)).cell? ⟨e3, 2, none⟩ = some (.int .i64 z0l) := KW.out.cell 2
  have kw3 : (x5.alloc (.cells #[.int .i64 z0r, .int .i64 z0m, .int .i64 z0l, .int .i64 z0t] 25)).cell? ⟨e3, 3, none⟩ = some (.int .i64 z0t) := KW.out.cell 3
  have kwl : e3 < (x5.alloc (.cells #[.int .i64 z0r, .int .i64 z0m, .int .i64 z0l, .int .i64 z0t] 25)).heap.size := KW.out.lt
  go_wp2_with fail
  clear kw0 kw1 kw2 kw3 kwl
  generalize x5.alloc (.cells #[.int .i64 z0r, .int .i64 z0m, .int .i64 z0l, .int .i64 z0t] 25) = x6 at KB KW KG HB ⊢
  generalize x5.heap.size = e6 at KG HLTKG ⊢
  refine (HEQ.out _).mono ?_
  rintro e x7 ⟨rfl, hbq⟩
  have KB := Lib.hid (KB.out.after hbq)
  have KW := Lib.hid (KW.out.after hbq)
  have KG := Lib.hid (KG.out.after hbq)
  have HB := Lib.hid (HB.out.trans (hbq.mono HB.out.size))
  clear hbq
  go_wp2_with fail
  go_ret
  exact ⟨rfl, HB.out⟩

set_option linter.unusedVariables false in
set_option linter.unusedSimpArgs false in
set_option maxRecDepth 20000 in
set_option maxHeartbeats 4000000 in
theorem walk_FnExactSpend (b : Bu) (hb : b.fits) (now : Int) (hnow : (Lit.int .i64 now).wf = true) (n : Int) (hn : (Lit.int .i64 n).wf = true) (w : World) : Calls Try.prog 8 #[b.val, .int .i64 now, .int .i64 n] w fun e w' => e = .returned (.bool true) ∧ Below w.heap.size w w' := by
  have hs := fun w => spend_spec b now n w
  have hi := fun w => spend_impl b now n w
  obtain ⟨z0, hz0⟩ : ∃ z, spendBu b now n = z := ⟨_, rfl⟩
  simp only [hz0] at hs hi
  clear hz0
  have heq := fun w => eqBucket_same z0 w
  obtain ⟨z1, hz1⟩ : ∃ z, decide (mayB b now n) = z := ⟨_, rfl⟩
  simp only [hz1] at hs hi
  clear hz1
  have hto0 := fun w => toBucket_any b w
  obtain ⟨br, bm, bl, bt⟩ := b
  obtain ⟨z0r, z0m, z0l, z0t⟩ := z0
  unfold Bu.val at *
  simp only at hs hi hto0 heq ⊢
  have HS := Lib.hid hs; have HI := Lib.hid hi; have HTO0 := Lib.hid hto0; have HEQ := Lib.hid heq
  have hB : Below w.heap.size w (w.alloc (.cells #[.int .i64 br, .int .i64 bm, .int .i64 bl, .int .i64 bt] 37)) := ((Below.refl _ _).alloc (by simp) _)
  have hKB : Blk (w.alloc (.cells #[.int .i64 br, .int .i64 bm, .int .i64 bl, .int .i64 bt] 37)) (w.heap.size) #[.int .i64 br, .int .i64 bm, .int .i64 bl, .int .i64 bt] 37 := (blk_new _ _ (by simp))
  have HB := Lib.hid hB; have KB := Lib.hid hKB
  clear hB hKB hs hi hto0 heq hb hnow hn
  go_enter Try.func8, Try.ntmps8
  go_wp2_with fail
  refine (HTO0.out _).mono ?_
  rintro e x1 ⟨rfl, hbq⟩
  have KB := Lib.hid (KB.out.after hbq)
  have HB := Lib.hid (HB.out.trans (hbq.mono HB.out.size))
  clear hbq
  have kb0 : x1.cell? ⟨w.heap.size, 0, none⟩ = some (.int .i64 br) := KB.out.cell 0
  have kb1 : x1.cell? ⟨w.heap.size, 1, none⟩ = some (.int .i64 bm) := KB.out.cell 1
  have kb2 : x1.cell? ⟨w.heap.size, 2, none⟩ = some (.int .i64 bl) := KB.out.cell 2
  have kb3 : x1.cell? ⟨w.heap.size, 3, none⟩ = some (.int .i64 bt) := KB.out.cell 3
  have kbl : w.heap.size < x1.heap.size := KB.out.lt
  go_wp2_with fail
  refine (HS.out _).mono ?_
  rintro e x2 ⟨rfl, hbq⟩
  clear kb0 kb1 kb2 kb3 kbl
  have KB := Lib.hid (KB.out.after hbq)
  have HB := Lib.hid (HB.out.trans (hbq.mono HB.out.size))
  clear hbq
  have hbq : Below x2.heap.size x2 (x2.alloc (.cells #[.int .i64 z0r, .int .i64 z0m, .int .i64 z0l, .int .i64 z0t] 25)) := (Below.refl _ _).alloc (Nat.le_refl _) _
  have hnq : Blk (x2.alloc (.cells #[.int .i64 z0r, .int .i64 z0m, .int .i64 z0l, .int .i64 z0t] 25)) x2.heap.size #[.int .i64 z0r, .int .i64 z0m, .int .i64 z0l, .int .i64 z0t] 25 := blk_new _ _ rfl
  have hleKW : w.heap.size ≤ x2.heap.size := HB.out.size
  have hltKBKW := KB.out.lt
  have KB := Lib.hid (KB.out.after hbq)
  have HB := Lib.hid (HB.out.trans (hbq.mono HB.out.size))
  have KW := Lib.hid hnq
  have HLTKW := Lib.hid (And.intro hleKW (And.intro hltKBKW trivial))
  clear hbq hnq hleKW hltKBKW
  have kb0 : (x2.alloc (.cells #[.int .i64 z0r, .int .i64 z0m, .int .i64 z0l, .int .i64 z0t] 25)).cell? ⟨w.heap.size, 0, none⟩ = some (.int .i64 br) := KB.out.cell 0
  have kb1 : (x2.alloc (.cells #[.int .i64 z0r, .int .i64 z0m, .int .i64 z0l, .int .i64 z0t] 25)).cell? ⟨w.heap.size, 1, none⟩ = some (.int .i64 bm) := KB.out.cell 1
  have kb2 : (x2.alloc (.cells #[.int .i64 z0r, .int .i64 z0m, .int .i64 z0l, .int .i64 z0t] 25)).cell? ⟨w.heap.size, 2, none⟩ = some (.int .i64 bl) := KB.out.cell 2
  have kb3 : (x2.alloc (.cells #[.int .i64 z0r, .int .i64 z0m, .int .i64 z0l, .int .i64 z0t] 25)).cell? ⟨w.heap.size, 3, none⟩ = some (.int .i64 bt) := KB.out.cell 3
  have kbl : w.heap.size < (x2.alloc (.cells #[.int .i64 z0r, .int .i64 z0m, .int .i64 z0l, .int .i64 z0t] 25)).heap.size := KB.out.lt
  go_wp2_with fail
  clear kb0 kb1 kb2 kb3 kbl
  generalize x2.alloc (.cells #[.int .i64 z0r, .int .i64 z0m, .int .i64 z0l, .int .i64 z0t] 25) = x3 at KB KW HB ⊢
  generalize x2.heap.size = e3 at KW HLTKW ⊢
  refine (HTO0.out _).mono ?_
  rintro e x4 ⟨rfl, hbq⟩
  have KB := Lib.hid (KB.out.after hbq)
  have KW := Lib.hid (KW.out.after hbq)
  have HB := Lib.hid (HB.out.trans (hbq.mono HB.out.size))
  clear hbq
  have kb0 : x4.cell? ⟨w.heap.size, 0, none⟩ = some (.int .i64 br) := KB.out.cell 0
  have kb1 : x4.cell? ⟨w.heap.size, 1, none⟩ = some (.int .i64 bm) := KB.out.cell 1
  have kb2 : x4.cell? ⟨w.heap.size, 2, none⟩ = some (.int .i64 bl) := KB.out.cell 2
  have kb3 : x4.cell? ⟨w.heap.size, 3, none⟩ = some (.int .i64 bt) := KB.out.cell 3
  have kbl : w.heap.size < x4.heap.size := KB.out.lt
  go_wp2_with fail
  refine (HI.out _).mono ?_
  rintro e x5 ⟨rfl, hbq⟩
  clear kb0 kb1 kb2 kb3 kbl
  have KB := Lib.hid (KB.out.after hbq)
  have KW := Lib.hid (KW.out.after hbq)
  have HB := Lib.hid (HB.out.trans (hbq.mono HB.out.size))
  clear hbq
  have hbq : Below x5.heap.size x5 (x5.alloc (.cells #[.int .i64 z0r, .int .i64 z0m, .int .i64 z0l, .int .i64 z0t] 25)) := (Below.refl _ _).alloc (Nat.le_refl _) _
  have hnq : Blk (x5.alloc (.cells #[.int .i64 z0r, .int .i64 z0m, .int .i64 z0l, .int .i64 z0t] 25)) x5.heap.size #[.int .i64 z0r, .int .i64 z0m, .int .i64 z0l, .int .i64 z0t] 25 := blk_new _ _ rfl
  have hleKG : w.heap.size ≤ x5.heap.size := HB.out.size
  have hltKBKG := KB.out.lt
  have hltKWKG := KW.out.lt
  have KB := Lib.hid (KB.out.after hbq)
  have KW := Lib.hid (KW.out.after hbq)
  have HB := Lib.hid (HB.out.trans (hbq.mono HB.out.size))
  have KG := Lib.hid hnq
  have HLTKG := Lib.hid (And.intro hleKG (And.intro hltKBKG (And.intro hltKWKG trivial)))
  clear hbq hnq hleKG hltKBKG hltKWKG
  have kw0 : (x5.alloc (.cells #[.int .i64 z0r, .int .i64 z0m, .int .i64 z0l, .int .i64 z0t] 25)).cell? ⟨e3, 0, none⟩ = some (.int .i64 z0r) := KW.out.cell 0
  have kw1 : (x5.alloc (.cells #[.int .i64 z0r, .int .i64 z0m, .int .i64 z0l, .int .i64 z0t] 25)).cell? ⟨e3, 1, none⟩ = some (.int .i64 z0m) := KW.out.cell 1
  have kw2 : (x5.alloc (.cells #[.int .i64 z0r, .int .i64 z0m, .int .i64 z0l, .int .i64 z0t] 25)).cell? ⟨e3, 2, none⟩ = some (.int .i64 z0l) := KW.out.cell 2
  have kw3 : (x5.alloc (.cells #[.int .i64 z0r, .int .i64 z0m, .int .i64 z0l, .int .i64 z0t] 25)).cell? ⟨e3, 3, none⟩ = some (.int .i64 z0t) := KW.out.cell 3
  have kwl : e3 < (x5.alloc (.cells #[.int .i64 z0r, .int .i64 z0m, .int .i64 z0l, .int .i64 z0t] 25)).heap.size := KW.out.lt
  go_wp2_with fail
  clear kw0 kw1 kw2 kw3 kwl
  generalize x5.alloc (.cells #[.int .i64 z0r, .int .i64 z0m, .int .i64 z0l, .int .i64 z0t] 25) = x6 at KB KW KG HB ⊢
  generalize x5.heap.size = e6 at KG HLTKG ⊢
  refine (HEQ.out _).mono ?_
  rintro e x7 ⟨rfl, hbq⟩
  have KB := Lib.hid (KB.out.after hbq)
  have KW := Lib.hid (KW.out.after hbq)
  have KG := Lib.hid (KG.out.after hbq)
  have HB := Lib.hid (HB.out.trans (hbq.mono HB.out.size))
  clear hbq
  have q1 : (z1 != z1) = false := by simp
  go_wp2_with fail
  go_ret
  exact ⟨rfl, HB.out⟩
end Go.Proofs.Ytjpimcckpbpahaa
