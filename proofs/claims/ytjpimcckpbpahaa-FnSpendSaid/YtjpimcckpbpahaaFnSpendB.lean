/- The walk of FnSpend. -/
import Derived.Test.YtjpimcckpbpahaaBuI
import Derived.Test.YtjpimcckpbpahaaDrBu
import Derived.Test.YtjpimcckpbpahaaBig
import Derived.Deep.RegionHeld3
namespace Go.Proofs.Ytjpimcckpbpahaa
open Go.RowKit

/-- what the law says of a bucket that is spent from -/
theorem spend_law {b : Bu} {now n : Int} (h : mayB b now n) : wrap64 ((fillBu b now).level - n) = (fillBu b now).level - n ∧ wrap64 (now - b.tm) = now - b.tm ∧ wrap64 (b.rate * (now - b.tm)) = b.rate * (now - b.tm) ∧ wrap64 (b.level + b.rate * (now - b.tm)) = b.level + b.rate * (now - b.tm) ∧
    wrap64 (b.level + b.rate * (now - b.tm) - n) = b.level + b.rate * (now - b.tm) - n ∧ buOk (spendBu b now n) ∧ (fillBu b now).level - n ≤ b.level + b.rate * (now - b.tm) - n := by
  obtain ⟨hm, h0, h1⟩ := id h
  have hv := fill_level hm
  have hs := bu_small (r := b.rate) (m := b.burst) (l := b.level) (t := b.tm) hm
  obtain ⟨⟨⟨k1, k2⟩, ⟨k3, k4⟩, ⟨k5, k6⟩, k7, k8⟩, ⟨k9, k10⟩, k11⟩ := id hm
  have ha : 0 ≤ b.rate * (now - b.tm) := hs.2.2.2
  have hb : b.rate * (now - b.tm) ≤ 1000000 * 1000000000 := Int.mul_le_mul k2 (by omega) (by omega) (by decide)
  have hle : (fillBu b now).level ≤ b.level + b.rate * (now - b.tm) := by unfold fillBu; rw [if_pos hm]; simp only [lvOf]; split <;> omega
  refine ⟨IntWalk.wrap64_in _ (by omega), IntWalk.wrap64_in _ (by omega), IntWalk.wrap64_in _ (by omega), IntWalk.wrap64_in _ (by omega), IntWalk.wrap64_in _ (by omega), ?_, by omega⟩
  unfold spendBu
  rw [if_pos h]
  have hf : fillBu b now = ⟨b.rate, b.burst, lvOf b now, now⟩ := if_pos hm
  rw [hf] at hv h1 ⊢
  simp only at hv h1 ⊢
  exact ⟨⟨k1, k2⟩, ⟨k3, k4⟩, ⟨by simp only; omega, by simp only; omega⟩, k9, k10⟩

set_option linter.unusedVariables false in
set_option linter.unusedSimpArgs false in
set_option maxRecDepth 20000 in
set_option maxHeartbeats 4000000 in
theorem walk_FnSpend (a : Option Addr) (len cap : Nat) (zs : List Int) (w : World) (hrow : IsRow .u8 w a len cap zs) :
    Calls Try.prog 3 #[.slice a len cap] w fun e w' => e = .returned (.bool true) ∧ Below w.heap.size w w' := by
  have hlow := hrow.low
  have hmax : len ≤ 9223372036854775807 := by
    rcases hrow with ⟨_, rfl, _⟩ | ⟨_, _, h1, h2, _⟩
    · omega
    · unfold maxLen at h2; omega
  by_cases hl : len ≤ 1048576
  case neg =>
    go_enter Try.func3, Try.ntmps3
    go_wp2_with fail
    refine (big_yes a len cap w (by omega)).mono ?_
    rintro e w' ⟨rfl, rfl⟩
    go_wp2_with fail
    go_ret
    exact ⟨rfl, Below.refl _ _⟩
  go_enter Try.func3, Try.ntmps3
  go_wp2_with fail
  refine (big_no a len cap w hl).mono ?_
  rintro e w9 ⟨rfl, rfl⟩
  go_wp2_with fail
  refine (drawSpend_any w a len cap zs hl hrow hlow).mono ?_
  rintro e x0 ⟨b, now, n, rfl, hb1⟩
  have HB := Lib.hid hb1
  clear hb1
  have hi := spend_impl b now n
  have hs := spend_spec b now n
  have hf := fill_impl b now
  have hg := fill_spec b now
  have hk := bucketOk_impl (spendBu b now n)
  obtain ⟨ok, hok⟩ : ∃ k, decide (mayB b now n) = k := ⟨_, rfl⟩
  have hy0 : ok = false → spendBu b now n = fillBu b now := fun k => if_neg (of_decide_eq_false (hok.trans k))
  have hy1 : ok = true → spendBu b now n = ⟨(fillBu b now).rate, (fillBu b now).burst, (fillBu b now).level - n, (fillBu b now).tm⟩ ∧ _ := fun k => ⟨if_pos (of_decide_eq_true (hok.trans k)), spend_law (of_decide_eq_true (hok.trans k))⟩
  simp only [hok] at hi hs
  clear hok
  generalize spendBu b now n = y at hi hs hy0 hy1 hk
  generalize fillBu b now = z at hf hg hy0 hy1
  obtain ⟨r, m, l, t⟩ := b
  obtain ⟨zr, zm, zl, zt⟩ := z
  obtain ⟨yr, ym, yl, yt⟩ := y
  unfold Bu.val at hi hs hf hg hk ⊢
  simp only at hi hs hf hg hk hy0 hy1 ⊢
  have HI := Lib.hid hi; have HS := Lib.hid hs; have HF := Lib.hid hf; have HG := Lib.hid hg; have HK := Lib.hid hk; have HY0 := Lib.hid hy0; have HY1 := Lib.hid hy1
  clear hi hs hf hg hk hy0 hy1 hrow hlow
  have hbq : Below x0.heap.size x0 (x0.alloc (.cells #[.int .i64 r, .int .i64 m, .int .i64 l, .int .i64 t] 25)) := (Below.refl _ _).alloc (Nat.le_refl _) _
  have hnq : Blk (x0.alloc (.cells #[.int .i64 r, .int .i64 m, .int .i64 l, .int .i64 t] 25)) x0.heap.size #[.int .i64 r, .int .i64 m, .int .i64 l, .int .i64 t] 25 := blk_new _ _ rfl
  have hleKB : w.heap.size ≤ x0.heap.size := HB.out.size
  have HB := Lib.hid (HB.out.trans (hbq.mono HB.out.size))
  have KB := Lib.hid hnq
  have HLTKB := Lib.hid (And.intro hleKB trivial)
  clear hbq hnq hleKB 
  have kb0 : (x0.alloc (.cells #[.int .i64 r, .int .i64 m, .int .i64 l, .int .i64 t] 25)).cell? ⟨x0.heap.size, 0, none⟩ = some (.int .i64 r) := KB.out.cell 0
  have kb1 : (x0.alloc (.cells #[.int .i64 r, .int .i64 m, .int .i64 l, .int .i64 t] 25)).cell? ⟨x0.heap.size, 1, none⟩ = some (.int .i64 m) := KB.out.cell 1
  have kb2 : (x0.alloc (.cells #[.int .i64 r, .int .i64 m, .int .i64 l, .int .i64 t] 25)).cell? ⟨x0.heap.size, 2, none⟩ = some (.int .i64 l) := KB.out.cell 2
  have kb3 : (x0.alloc (.cells #[.int .i64 r, .int .i64 m, .int .i64 l, .int .i64 t] 25)).cell? ⟨x0.heap.size, 3, none⟩ = some (.int .i64 t) := KB.out.cell 3
  have kbl : x0.heap.size < (x0.alloc (.cells #[.int .i64 r, .int .i64 m, .int .i64 l, .int .i64 t] 25)).heap.size := KB.out.lt
  go_wp2_with fail
  clear kb0 kb1 kb2 kb3 kbl
  generalize x0.alloc (.cells #[.int .i64 r, .int .i64 m, .int .i64 l, .int .i64 t] 25) = x1 at KB HB ⊢
  generalize x0.heap.size = e1 at KB HLTKB ⊢
  refine (HI.out _).mono ?_
  rintro e x2 ⟨rfl, hbq⟩
  have KB := Lib.hid (KB.out.after hbq)
  have HB := Lib.hid (HB.out.trans (hbq.mono HB.out.size))
  clear hbq
  have hbq : Below x2.heap.size x2 (x2.alloc (.cells #[.int .i64 yr, .int .i64 ym, .int .i64 yl, .int .i64 yt] 25)) := (Below.refl _ _).alloc (Nat.le_refl _) _
  have hnq : Blk (x2.alloc (.cells #[.int .i64 yr, .int .i64 ym, .int .i64 yl, .int .i64 yt] 25)) x2.heap.size #[.int .i64 yr, .int .i64 ym, .int .i64 yl, .int .i64 yt] 25 := blk_new _ _ rfl
  have hleKC : w.heap.size ≤ x2.heap.size := HB.out.size
  have hltKBKC := KB.out.lt
  have KB := Lib.hid (KB.out.after hbq)
  have HB := Lib.hid (HB.out.trans (hbq.mono HB.out.size))
  have KC := Lib.hid hnq
  have HLTKC := Lib.hid (And.intro hleKC (And.intro hltKBKC trivial))
  clear hbq hnq hleKC hltKBKC
  have kb0 : (x2.alloc (.cells #[.int .i64 yr, .int .i64 ym, .int .i64 yl, .int .i64 yt] 25)).cell? ⟨e1, 0, none⟩ = some (.int .i64 r) := KB.out.cell 0
  have kb1 : (x2.alloc (.cells #[.int .i64 yr, .int .i64 ym, .int .i64 yl, .int .i64 yt] 25)).cell? ⟨e1, 1, none⟩ = some (.int .i64 m) := KB.out.cell 1
  have kb2 : (x2.alloc (.cells #[.int .i64 yr, .int .i64 ym, .int .i64 yl, .int .i64 yt] 25)).cell? ⟨e1, 2, none⟩ = some (.int .i64 l) := KB.out.cell 2
  have kb3 : (x2.alloc (.cells #[.int .i64 yr, .int .i64 ym, .int .i64 yl, .int .i64 yt] 25)).cell? ⟨e1, 3, none⟩ = some (.int .i64 t) := KB.out.cell 3
  have kbl : e1 < (x2.alloc (.cells #[.int .i64 yr, .int .i64 ym, .int .i64 yl, .int .i64 yt] 25)).heap.size := KB.out.lt
  go_wp2_with fail
  clear kb0 kb1 kb2 kb3 kbl
  generalize x2.alloc (.cells #[.int .i64 yr, .int .i64 ym, .int .i64 yl, .int .i64 yt] 25) = x3 at KB KC HB ⊢
  generalize x2.heap.size = e3 at KC HLTKC ⊢
  refine (HS.out _).mono ?_
  rintro e x4 ⟨rfl, hbq⟩
  have KB := Lib.hid (KB.out.after hbq)
  have KC := Lib.hid (KC.out.after hbq)
  have HB := Lib.hid (HB.out.trans (hbq.mono HB.out.size))
  clear hbq
  have hbq : Below x4.heap.size x4 (x4.alloc (.cells #[.int .i64 yr, .int .i64 ym, .int .i64 yl, .int .i64 yt] 25)) := (Below.refl _ _).alloc (Nat.le_refl _) _
  have hnq : Blk (x4.alloc (.cells #[.int .i64 yr, .int .i64 ym, .int .i64 yl, .int .i64 yt] 25)) x4.heap.size #[.int .i64 yr, .int .i64 ym, .int .i64 yl, .int .i64 yt] 25 := blk_new _ _ rfl
  have hleKD : w.heap.size ≤ x4.heap.size := HB.out.size
  have hltKBKD := KB.out.lt
  have hltKCKD := KC.out.lt
  have KB := Lib.hid (KB.out.after hbq)
  have KC := Lib.hid (KC.out.after hbq)
  have HB := Lib.hid (HB.out.trans (hbq.mono HB.out.size))
  have KD := Lib.hid hnq
  have HLTKD := Lib.hid (And.intro hleKD (And.intro hltKBKD (And.intro hltKCKD trivial)))
  clear hbq hnq hleKD hltKBKD hltKCKD
  have kb0 : (x4.alloc (.cells #[.int .i64 yr, .int .i64 ym, .int .i64 yl, .int .i64 yt] 25)).cell? ⟨e1, 0, none⟩ = some (.int .i64 r) := KB.out.cell 0
  have kb1 : (x4.alloc (.cells #[.int .i64 yr, .int .i64 ym, .int .i64 yl, .int .i64 yt] 25)).cell? ⟨e1, 1, none⟩ = some (.int .i64 m) := KB.out.cell 1
  have kb2 : (x4.alloc (.cells #[.int .i64 yr, .int .i64 ym, .int .i64 yl, .int .i64 yt] 25)).cell? ⟨e1, 2, none⟩ = some (.int .i64 l) := KB.out.cell 2
  have kb3 : (x4.alloc (.cells #[.int .i64 yr, .int .i64 ym, .int .i64 yl, .int .i64 yt] 25)).cell? ⟨e1, 3, none⟩ = some (.int .i64 t) := KB.out.cell 3
  have kbl : e1 < (x4.alloc (.cells #[.int .i64 yr, .int .i64 ym, .int .i64 yl, .int .i64 yt] 25)).heap.size := KB.out.lt
  go_wp2_with fail
  clear kb0 kb1 kb2 kb3 kbl
  generalize x4.alloc (.cells #[.int .i64 yr, .int .i64 ym, .int .i64 yl, .int .i64 yt] 25) = x5 at KB KC KD HB ⊢
  generalize x4.heap.size = e5 at KD HLTKD ⊢
  refine (HF.out _).mono ?_
  rintro e x6 ⟨rfl, hbq⟩
  have KB := Lib.hid (KB.out.after hbq)
  have KC := Lib.hid (KC.out.after hbq)
  have KD := Lib.hid (KD.out.after hbq)
  have HB := Lib.hid (HB.out.trans (hbq.mono HB.out.size))
  clear hbq
  have hbq : Below x6.heap.size x6 (x6.alloc (.cells #[.int .i64 zr, .int .i64 zm, .int .i64 zl, .int .i64 zt] 25)) := (Below.refl _ _).alloc (Nat.le_refl _) _
  have hnq : Blk (x6.alloc (.cells #[.int .i64 zr, .int .i64 zm, .int .i64 zl, .int .i64 zt] 25)) x6.heap.size #[.int .i64 zr, .int .i64 zm, .int .i64 zl, .int .i64 zt] 25 := blk_new _ _ rfl
  have hleKF : w.heap.size ≤ x6.heap.size := HB.out.size
  have hltKBKF := KB.out.lt
  have hltKCKF := KC.out.lt
  have hltKDKF := KD.out.lt
  have KB := Lib.hid (KB.out.after hbq)
  have KC := Lib.hid (KC.out.after hbq)
  have KD := Lib.hid (KD.out.after hbq)
  have HB := Lib.hid (HB.out.trans (hbq.mono HB.out.size))
  have KF := Lib.hid hnq
  have HLTKF := Lib.hid (And.intro hleKF (And.intro hltKBKF (And.intro hltKCKF (And.intro hltKDKF trivial))))
  clear hbq hnq hleKF hltKBKF hltKCKF hltKDKF
  have kb0 : (x6.alloc (.cells #[.int .i64 zr, .int .i64 zm, .int .i64 zl, .int .i64 zt] 25)).cell? ⟨e1, 0, none⟩ = some (.int .i64 r) := KB.out.cell 0
  have kb1 : (x6.alloc (.cells #[.int .i64 zr, .int .i64 zm, .int .i64 zl, .int .i64 zt] 25)).cell? ⟨e1, 1, none⟩ = some (.int .i64 m) := KB.out.cell 1
  have kb2 : (x6.alloc (.cells #[.int .i64 zr, .int .i64 zm, .int .i64 zl, .int .i64 zt] 25)).cell? ⟨e1, 2, none⟩ = some (.int .i64 l) := KB.out.cell 2
  have kb3 : (x6.alloc (.cells #[.int .i64 zr, .int .i64 zm, .int .i64 zl, .int .i64 zt] 25)).cell? ⟨e1, 3, none⟩ = some (.int .i64 t) := KB.out.cell 3
  have kbl : e1 < (x6.alloc (.cells #[.int .i64 zr, .int .i64 zm, .int .i64 zl, .int .i64 zt] 25)).heap.size := KB.out.lt
  go_wp2_with fail
  clear kb0 kb1 kb2 kb3 kbl
  generalize x6.alloc (.cells #[.int .i64 zr, .int .i64 zm, .int .i64 zl, .int .i64 zt] 25) = x7 at KB KC KD KF HB ⊢
  generalize x6.heap.size = e7 at KF HLTKF ⊢
  have q1 : (ok != ok) = false := by simp
  refine wp_region_held_drew (S := fun w' => Below x7.heap.size x7 w') (by kernel_rfl) (Below.drew (Below.refl _ _)) (fun hHeld => ?_)
  refine wpAnyH_take (i := 0) (v := ?v1) rfl (by kernel_rfl) (by kernel_rfl) (by kernel_rfl) (fun _ _ _ h => h) (Or.inl ⟨by rfl, ?h1⟩) hHeld ?r1
  case h1 => intro wq hS; go_simp; with_reducible rfl
  try simp only [Act.put, List.getElem_toArray, List.getElem_cons_zero, List.getElem_cons_succ, List.setIfInBounds_toArray, List.set_cons_zero, List.set_cons_succ]
  refine wpAnyH_take (i := 1) (v := ?v2) rfl (by kernel_rfl) (by kernel_rfl) (by kernel_rfl) (fun _ _ _ h => h) (Or.inl ⟨by rfl, ?h2⟩) hHeld ?r2
  case h2 => intro wq hS; go_simp; with_reducible rfl
  try simp only [Act.put, List.getElem_toArray, List.getElem_cons_zero, List.getElem_cons_succ, List.setIfInBounds_toArray, List.set_cons_zero, List.set_cons_succ]
  refine wpAnyH_take (i := 2) (v := ?v3) rfl (by kernel_rfl) (by kernel_rfl) (by kernel_rfl) (fun _ _ _ h => h) (Or.inl ⟨by rfl, ?h3⟩) hHeld ?r3
  case h3 => intro wq hS; go_simp; with_reducible rfl
  try simp only [Act.put, List.getElem_toArray, List.getElem_cons_zero, List.getElem_cons_succ, List.setIfInBounds_toArray, List.set_cons_zero, List.set_cons_succ]
  refine wpAnyH_take (i := 3) (v := ?v4) rfl (by kernel_rfl) (by kernel_rfl) (by kernel_rfl) (fun _ _ _ h => h) (Or.inl ⟨by rfl, ?h4⟩) hHeld ?r4
  case h4 => intro wq hS; go_simp; with_reducible rfl
  try simp only [Act.put, List.getElem_toArray, List.getElem_cons_zero, List.getElem_cons_succ, List.setIfInBounds_toArray, List.set_cons_zero, List.set_cons_succ]
  refine wpAnyH_take (i := 4) (v := ?v5) rfl (by kernel_rfl) (by kernel_rfl) (by kernel_rfl) (fun _ _ _ h => h) (Or.inl ⟨by rfl, ?h5⟩) hHeld ?r5
  case h5 => intro wq hS; have cKB0 : wq.cell? ⟨e1, 0, none⟩ = some (.int .i64 r) := (KB.out.after hS).cell 0; have cKB1 : wq.cell? ⟨e1, 1, none⟩ = some (.int .i64 m) := (KB.out.after hS).cell 1; have cKB2 : wq.cell? ⟨e1, 2, none⟩ = some (.int .i64 l) := (KB.out.after hS).cell 2; have cKB3 : wq.cell? ⟨e1, 3, none⟩ = some (.int .i64 t) := (KB.out.after hS).cell 3; have cKF0 : wq.cell? ⟨e7, 0, none⟩ = some (.int .i64 zr) := (KF.out.after hS).cell 0; have cKF1 : wq.cell? ⟨e7, 1, none⟩ = some (.int .i64 zm) := (KF.out.after hS).cell 1; have cKF2 : wq.cell? ⟨e7, 2, none⟩ = some (.int .i64 zl) := (KF.out.after hS).cell 2; have cKF3 : wq.cell? ⟨e7, 3, none⟩ = some (.int .i64 zt) := (KF.out.after hS).cell 3; go_simp; with_reducible rfl
  try simp only [Act.put, List.getElem_toArray, List.getElem_cons_zero, List.getElem_cons_succ, List.setIfInBounds_toArray, List.set_cons_zero, List.set_cons_succ]
  refine wpAnyH_take (i := 5) (v := ?v6) rfl (by kernel_rfl) (by kernel_rfl) (by kernel_rfl) (fun _ _ _ h => h) (Or.inl ⟨by rfl, ?h6⟩) hHeld ?r6
  case h6 => intro wq hS; have cKB0 : wq.cell? ⟨e1, 0, none⟩ = some (.int .i64 r) := (KB.out.after hS).cell 0; have cKB1 : wq.cell? ⟨e1, 1, none⟩ = some (.int .i64 m) := (KB.out.after hS).cell 1; have cKB2 : wq.cell? ⟨e1, 2, none⟩ = some (.int .i64 l) := (KB.out.after hS).cell 2; have cKB3 : wq.cell? ⟨e1, 3, none⟩ = some (.int .i64 t) := (KB.out.after hS).cell 3; have cKF0 : wq.cell? ⟨e7, 0, none⟩ = some (.int .i64 zr) := (KF.out.after hS).cell 0; have cKF1 : wq.cell? ⟨e7, 1, none⟩ = some (.int .i64 zm) := (KF.out.after hS).cell 1; have cKF2 : wq.cell? ⟨e7, 2, none⟩ = some (.int .i64 zl) := (KF.out.after hS).cell 2; have cKF3 : wq.cell? ⟨e7, 3, none⟩ = some (.int .i64 zt) := (KF.out.after hS).cell 3; go_simp; with_reducible rfl
  try simp only [Act.put, List.getElem_toArray, List.getElem_cons_zero, List.getElem_cons_succ, List.setIfInBounds_toArray, List.set_cons_zero, List.set_cons_succ]
  refine wpAnyH_take (i := 6) (v := ?v7) rfl (by kernel_rfl) (by kernel_rfl) (by kernel_rfl) (fun _ _ _ h => h) (Or.inl ⟨by rfl, ?h7⟩) hHeld ?r7
  case h7 => intro wq hS; go_simp; with_reducible rfl
  try simp only [Act.put, List.getElem_toArray, List.getElem_cons_zero, List.getElem_cons_succ, List.setIfInBounds_toArray, List.set_cons_zero, List.set_cons_succ]
  refine wpAnyH_ready (rs := [7]) (by kernel_rfl) (by simp) ?_
  refine AllReadyH.cons rfl (fun K hK => ?_) AllReadyH.nil
  go_simp
  refine (HG.out _).mono ?_
  rintro e xe ⟨rfl, hbe⟩
  refine hK.out _ _ (hHeld.trans (hbe.mono hHeld.size)) (fun hHeld => ?_)
  clear hK K
  try simp only [Act.put, List.getElem_toArray, List.getElem_cons_zero, List.getElem_cons_succ, List.setIfInBounds_toArray, List.set_cons_zero, List.set_cons_succ]
  refine wpAnyH_take (i := 8) (v := ?v8) rfl (by kernel_rfl) (by kernel_rfl) (by kernel_rfl) (fun _ _ _ h => h) (Or.inl ⟨by rfl, ?h8⟩) hHeld ?r8
  case h8 => intro wq hS; go_simp; with_reducible rfl
  try simp only [Act.put, List.getElem_toArray, List.getElem_cons_zero, List.getElem_cons_succ, List.setIfInBounds_toArray, List.set_cons_zero, List.set_cons_succ]
  refine wpAnyH_take (i := 9) (v := ?v9) rfl (by kernel_rfl) (by kernel_rfl) (by kernel_rfl) (fun _ _ _ h => h) (Or.inl ⟨by rfl, ?h9⟩) hHeld ?r9
  case h9 => intro wq hS; go_simp; with_reducible rfl
  try simp only [Act.put, List.getElem_toArray, List.getElem_cons_zero, List.getElem_cons_succ, List.setIfInBounds_toArray, List.set_cons_zero, List.set_cons_succ]
  refine wpAnyH_done (by kernel_rfl) ?_ _
  have hbq := hHeld
  clear hHeld hbe q1
  have KB := Lib.hid (KB.out.after hbq)
  have KC := Lib.hid (KC.out.after hbq)
  have KD := Lib.hid (KD.out.after hbq)
  have KF := Lib.hid (KF.out.after hbq)
  have HB := Lib.hid (HB.out.trans (hbq.mono HB.out.size))
  clear hbq
  cases ok
  · obtain ⟨rfl, rfl, rfl, rfl⟩ : yr = zr ∧ ym = zm ∧ yl = zl ∧ yt = zt := by have h := HY0.out rfl; cases h; exact ⟨rfl, rfl, rfl, rfl⟩
    have kc0 : xe.cell? ⟨e3, 0, none⟩ = some (.int .i64 yr) := KC.out.cell 0
    have kc1 : xe.cell? ⟨e3, 1, none⟩ = some (.int .i64 ym) := KC.out.cell 1
    have kc2 : xe.cell? ⟨e3, 2, none⟩ = some (.int .i64 yl) := KC.out.cell 2
    have kc3 : xe.cell? ⟨e3, 3, none⟩ = some (.int .i64 yt) := KC.out.cell 3
    have kcl : e3 < xe.heap.size := KC.out.lt
    have kf0 : xe.cell? ⟨e7, 0, none⟩ = some (.int .i64 yr) := KF.out.cell 0
    have kf1 : xe.cell? ⟨e7, 1, none⟩ = some (.int .i64 ym) := KF.out.cell 1
    have kf2 : xe.cell? ⟨e7, 2, none⟩ = some (.int .i64 yl) := KF.out.cell 2
    have kf3 : xe.cell? ⟨e7, 3, none⟩ = some (.int .i64 yt) := KF.out.cell 3
    have kfl : e7 < xe.heap.size := KF.out.lt
    go_wp2_with fail
    go_ret
    exact ⟨rfl, HB.out⟩
  obtain ⟨he, w1, w2, w3, w4, w5, hok, hle⟩ := HY1.out rfl
  obtain ⟨rfl, rfl, rfl, rfl⟩ : yr = zr ∧ ym = zm ∧ yl = zl - n ∧ yt = zt := by cases he; exact ⟨rfl, rfl, rfl, rfl⟩
  clear he HY0 HY1
  have hk := HK.out
  rw [decide_eq_true hok] at hk
  have HK := Lib.hid hk
  clear hk hok
  have kb0 : xe.cell? ⟨e1, 0, none⟩ = some (.int .i64 r) := KB.out.cell 0
  have kb1 : xe.cell? ⟨e1, 1, none⟩ = some (.int .i64 m) := KB.out.cell 1
  have kb2 : xe.cell? ⟨e1, 2, none⟩ = some (.int .i64 l) := KB.out.cell 2
  have kb3 : xe.cell? ⟨e1, 3, none⟩ = some (.int .i64 t) := KB.out.cell 3
  have kbl : e1 < xe.heap.size := KB.out.lt
  have kc0 : xe.cell? ⟨e3, 0, none⟩ = some (.int .i64 yr) := KC.out.cell 0
  have kc1 : xe.cell? ⟨e3, 1, none⟩ = some (.int .i64 ym) := KC.out.cell 1
  have kc2 : xe.cell? ⟨e3, 2, none⟩ = some (.int .i64 (zl - n)) := KC.out.cell 2
  have kc3 : xe.cell? ⟨e3, 3, none⟩ = some (.int .i64 yt) := KC.out.cell 3
  have kcl : e3 < xe.heap.size := KC.out.lt
  have kf0 : xe.cell? ⟨e7, 0, none⟩ = some (.int .i64 yr) := KF.out.cell 0
  have kf1 : xe.cell? ⟨e7, 1, none⟩ = some (.int .i64 ym) := KF.out.cell 1
  have kf2 : xe.cell? ⟨e7, 2, none⟩ = some (.int .i64 zl) := KF.out.cell 2
  have kf3 : xe.cell? ⟨e7, 3, none⟩ = some (.int .i64 yt) := KF.out.cell 3
  have kfl : e7 < xe.heap.size := KF.out.lt
  have kff := KF.out.frozen
  have kfy := KF.out.shape
  have nKBKF : ¬ e1 = e7 := by have := HLTKB.out; have := HLTKC.out; have := HLTKD.out; have := HLTKF.out; omega
  have mKBKF : ¬ e7 = e1 := by have := HLTKB.out; have := HLTKC.out; have := HLTKD.out; have := HLTKF.out; omega
  have nKCKF : ¬ e3 = e7 := by have := HLTKB.out; have := HLTKC.out; have := HLTKD.out; have := HLTKF.out; omega
  have mKCKF : ¬ e7 = e3 := by have := HLTKB.out; have := HLTKC.out; have := HLTKD.out; have := HLTKF.out; omega
  go_wp2_with fail
  clear nKBKF mKBKF nKCKF mKCKF
  clear kb0 kb1 kb2 kb3 kbl kc0 kc1 kc2 kc3 kcl kf0 kf1 kf2 kf3 kfl kff kfy
  have HB := Lib.hid ((HB.out.setCell (p := ⟨e7, 2, none⟩) (by show w.heap.size ≤ e7; have := HLTKB.out; have := HLTKC.out; have := HLTKD.out; have := HLTKF.out; omega) (.int .i64 (zl - n)))); have KB := Lib.hid ((KB.out.other (j := 2) (g := e7) (by have := HLTKB.out; have := HLTKC.out; have := HLTKD.out; have := HLTKF.out; omega) (.int .i64 (zl - n)))); have KC := Lib.hid ((KC.out.other (j := 2) (g := e7) (by have := HLTKB.out; have := HLTKC.out; have := HLTKD.out; have := HLTKF.out; omega) (.int .i64 (zl - n)))); have KD := Lib.hid ((KD.out.other (j := 2) (g := e7) (by have := HLTKB.out; have := HLTKC.out; have := HLTKD.out; have := HLTKF.out; omega) (.int .i64 (zl - n)))); have KF := Lib.hid ((KF.out.set 2 (.int .i64 (zl - n))))
  generalize xe.setCell ⟨e7, 2, none⟩ (.int .i64 (zl - n)) = x8 at HB KB KC KD KF ⊢
  refine (HK.out _).mono ?_
  rintro e x9 ⟨rfl, hbq⟩
  have KB := Lib.hid (KB.out.after hbq)
  have KC := Lib.hid (KC.out.after hbq)
  have KD := Lib.hid (KD.out.after hbq)
  have KF := Lib.hid (KF.out.after hbq)
  have HB := Lib.hid (HB.out.trans (hbq.mono HB.out.size))
  clear hbq
  have kb0 : x9.cell? ⟨e1, 0, none⟩ = some (.int .i64 r) := KB.out.cell 0
  have kb1 : x9.cell? ⟨e1, 1, none⟩ = some (.int .i64 m) := KB.out.cell 1
  have kb2 : x9.cell? ⟨e1, 2, none⟩ = some (.int .i64 l) := KB.out.cell 2
  have kb3 : x9.cell? ⟨e1, 3, none⟩ = some (.int .i64 t) := KB.out.cell 3
  have kbl : e1 < x9.heap.size := KB.out.lt
  have kc0 : x9.cell? ⟨e3, 0, none⟩ = some (.int .i64 yr) := KC.out.cell 0
  have kc1 : x9.cell? ⟨e3, 1, none⟩ = some (.int .i64 ym) := KC.out.cell 1
  have kc2 : x9.cell? ⟨e3, 2, none⟩ = some (.int .i64 (zl - n)) := KC.out.cell 2
  have kc3 : x9.cell? ⟨e3, 3, none⟩ = some (.int .i64 yt) := KC.out.cell 3
  have kcl : e3 < x9.heap.size := KC.out.lt
  go_wp2_with fail
  go_ret
  exact ⟨rfl, HB.out⟩
end Go.Proofs.Ytjpimcckpbpahaa
