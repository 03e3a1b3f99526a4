/- Buckets: their values, what is right; the model's chapter 7. -/
import Derived.Test.YtjpimcckpbpahaaRowB
import Derived.Test.YtjpimcckpbpahaaTm
import Derived.IntWalk
namespace Go.Proofs.Ytjpimcckpbpahaa
open Go.RowKit

structure Bu where
  rate : Int
  burst : Int
  level : Int
  tm : Int
/-- a bucket as the program holds it -/
def Bu.val (b : Bu) : Value := .agg #[.int .i64 b.rate, .int .i64 b.burst, .int .i64 b.level, .int .i64 b.tm]
def Bu.zero : Bu := ⟨0, 0, 0, 0⟩
def tmOk (x : Int) : Prop := 0 ≤ x ∧ x ≤ 1000000000
instance (x : Int) : Decidable (tmOk x) := by unfold tmOk; infer_instance
/-- a bucket is right -/
def buOk (b : Bu) : Prop := (0 ≤ b.rate ∧ b.rate ≤ 1000000) ∧ (0 ≤ b.burst ∧ b.burst ≤ 1000000) ∧ (0 ≤ b.level ∧ b.level ≤ b.burst) ∧ tmOk b.tm
instance (b : Bu) : Decidable (buOk b) := by unfold buOk; infer_instance
def newBu (rate burst now : Int) : Bu := if buOk ⟨rate, burst, burst, now⟩ then ⟨rate, burst, burst, now⟩ else Bu.zero
/-- may be filled up to now -/
def buMay (b : Bu) (now : Int) : Prop := buOk b ∧ tmOk now ∧ b.tm ≤ now
instance (b : Bu) (now : Int) : Decidable (buMay b now) := by unfold buMay; infer_instance
def lvOf (b : Bu) (now : Int) : Int := if b.burst < b.level + b.rate * (now - b.tm) then b.burst else b.level + b.rate * (now - b.tm)
def fillBu (b : Bu) (now : Int) : Bu := if buMay b now then ⟨b.rate, b.burst, lvOf b now, now⟩ else b
def mayB (b : Bu) (now n : Int) : Prop := buMay b now ∧ 0 ≤ n ∧ n ≤ (fillBu b now).level
instance (b : Bu) (now n : Int) : Decidable (mayB b now n) := by unfold mayB; infer_instance
def spendBu (b : Bu) (now n : Int) : Bu := if mayB b now n then ⟨(fillBu b now).rate, (fillBu b now).burst, (fillBu b now).level - n, (fillBu b now).tm⟩ else fillBu b now

theorem sizeBu : (Try.prog.info? 25).map (·.size) = some 4 := by kernel_rfl
theorem wrap_in {x : Int} (h0 : -9223372036854775808 ≤ x) (h1 : x ≤ 9223372036854775807) : IntKind.i64.wrap x = x := by
  exact IntWalk.i64_in _ (by omega)
/-- the sums of a right bucket that is filled stay small -/
theorem bu_small {r m l t now : Int} (h : buMay ⟨r, m, l, t⟩ now) : IntKind.i64.wrap (now - t) = now - t ∧ IntKind.i64.wrap (r * (now - t)) = r * (now - t) ∧ IntKind.i64.wrap (l + r * (now - t)) = l + r * (now - t) ∧ 0 ≤ r * (now - t) := by
  obtain ⟨⟨⟨h1, h2⟩, ⟨h3, h4⟩, ⟨h5, h6⟩, h7, h8⟩, ⟨h9, h10⟩, h11⟩ := h
  simp only at h1 h2 h3 h4 h5 h6 h7 h8 h11
  have ha : 0 ≤ r * (now - t) := Int.mul_nonneg h1 (by omega)
  have hb : r * (now - t) ≤ 1000000 * 1000000000 := Int.mul_le_mul h2 (by omega) (by omega) (by decide)
  exact ⟨wrap_in (by omega) (by omega), wrap_in (by omega) (by omega), wrap_in (by omega) (by omega), ha⟩
theorem and4 {a b c d : Prop} [Decidable a] [Decidable b] [Decidable c] [Decidable d] : decide (a ∧ b ∧ c ∧ d) = (decide a && (decide b && (decide c && decide d))) := by
  rw [Bool.eq_iff_iff]; simp only [decide_eq_true_iff, Bool.and_eq_true]
theorem and3 {a b c : Prop} [Decidable a] [Decidable b] [Decidable c] : decide (a ∧ b ∧ c) = (decide a && (decide b && decide c)) := by
  rw [Bool.eq_iff_iff]; simp only [decide_eq_true_iff, Bool.and_eq_true]
theorem buOk_and (r m l t : Int) : decide (buOk ⟨r, m, l, t⟩) = (decide (0 ≤ r ∧ r ≤ 1000000) && (decide (0 ≤ m ∧ m ≤ 1000000) && (decide (0 ≤ l ∧ l ≤ m) && decide (0 ≤ t ∧ t ≤ 1000000000)))) := by
  unfold buOk tmOk
  exact and4

set_option linter.unusedSimpArgs false in
set_option maxRecDepth 20000 in
set_option maxHeartbeats 4000000 in
theorem bucketOk_spec (b : Bu) (w : World) : Calls Try.prog 20 #[b.val] w fun e w' => e = .returned (.bool (decide (buOk b))) ∧ Below w.heap.size w w' := by
  obtain ⟨r, m, l, t⟩ := b
  rw [buOk_and]
  have h1 := in_any5 r 0 1000000
  have h2 := in_any5 m 0 1000000
  have h3 := in_any5 l 0 m
  have h4 := time5_spec t
  generalize decide (0 ≤ r ∧ r ≤ 1000000) = d1 at h1 ⊢
  generalize decide (0 ≤ m ∧ m ≤ 1000000) = d2 at h2 ⊢
  generalize decide (0 ≤ l ∧ l ≤ m) = d3 at h3 ⊢
  generalize decide (0 ≤ t ∧ t ≤ 1000000000) = d4 at h4 ⊢
  unfold Bu.val
  have H1 := Lib.hid h1; have H2 := Lib.hid h2; have H4 := Lib.hid h4; have H3 := Lib.hid h3
  have hB : Below w.heap.size w (w.alloc (.cells #[.int .i64 r, .int .i64 m, .int .i64 l, .int .i64 t] 25)) := ((Below.refl _ _).alloc (by simp) _)
  have hKB : Blk (w.alloc (.cells #[.int .i64 r, .int .i64 m, .int .i64 l, .int .i64 t] 25)) (w.heap.size) #[.int .i64 r, .int .i64 m, .int .i64 l, .int .i64 t] 25 := (blk_new _ _ (by simp))
  have HB := Lib.hid hB; have KB := Lib.hid hKB
  clear hB hKB h1 h2 h4 h3
  go_enter Try.func20, Try.ntmps20
  go_wp2_with fail
  refine (H1.out _).mono ?_
  rintro e ww ⟨rfl, rfl⟩
  cases d1
  · go_wp2_with fail
    go_ret
    exact ⟨rfl, HB.out⟩
  go_wp2_with fail
  refine (H2.out _).mono ?_
  rintro e ww ⟨rfl, rfl⟩
  cases d2
  · go_wp2_with fail
    go_ret
    exact ⟨rfl, HB.out⟩
  go_wp2_with fail
  refine (H3.out _).mono ?_
  rintro e ww ⟨rfl, rfl⟩
  cases d3
  · go_wp2_with fail
    go_ret
    exact ⟨rfl, HB.out⟩
  go_wp2_with fail
  refine (H4.out _).mono ?_
  rintro e ww ⟨rfl, rfl⟩
  cases d4
  · go_wp2_with fail
    go_ret
    exact ⟨rfl, HB.out⟩
  go_wp2_with fail
  go_ret
  exact ⟨rfl, HB.out⟩

set_option linter.unusedSimpArgs false in
set_option maxRecDepth 20000 in
set_option maxHeartbeats 4000000 in
theorem newBucket_spec (r m t : Int) (w : World) : Calls Try.prog 19 #[.int .i64 r, .int .i64 m, .int .i64 t] w fun e w' => e = .returned (newBu r m t).val ∧ Below w.heap.size w w' := by
  have hk := bucketOk_spec ⟨r, m, m, t⟩
  unfold newBu
  unfold Bu.val at hk
  simp only at hk
  by_cases k : buOk ⟨r, m, m, t⟩
  · rw [decide_eq_true k] at hk
    rw [if_pos k]
    unfold Bu.val
    have HK := Lib.hid hk
    have hB : Below w.heap.size w ((w.alloc (.cells #[.int .i64 0, .int .i64 0, .int .i64 0, .int .i64 0] 25)).alloc (.cells #[.int .i64 r, .int .i64 m, .int .i64 m, .int .i64 t] 25)) := (((Below.refl _ _).alloc (by simp) _).alloc (by simp) _)
    have hKZ : Blk ((w.alloc (.cells #[.int .i64 0, .int .i64 0, .int .i64 0, .int .i64 0] 25)).alloc (.cells #[.int .i64 r, .int .i64 m, .int .i64 m, .int .i64 t] 25)) (w.heap.size) #[.int .i64 0, .int .i64 0, .int .i64 0, .int .i64 0] 25 := ((blk_new _ _ (by simp)).alloc _)
    have hKB : Blk ((w.alloc (.cells #[.int .i64 0, .int .i64 0, .int .i64 0, .int .i64 0] 25)).alloc (.cells #[.int .i64 r, .int .i64 m, .int .i64 m, .int .i64 t] 25)) (w.heap.size + 1) #[.int .i64 r, .int .i64 m, .int .i64 m, .int .i64 t] 25 := (blk_new _ _ (by simp))
    have HB := Lib.hid hB; have KZ := Lib.hid hKZ; have KB := Lib.hid hKB
    clear hB hKZ hKB hk k
    go_enter Try.func19, Try.ntmps19
    go_wp2_with fail
    refine (HK.out _).mono ?_
    rintro e x1 ⟨rfl, hbq⟩
    have KZ := Lib.hid (KZ.out.after hbq)
    have KB := Lib.hid (KB.out.after hbq)
    have HB := Lib.hid (HB.out.trans (hbq.mono HB.out.size))
    clear hbq
    have kb0 : x1.cell? ⟨w.heap.size + 1, 0, none⟩ = some (.int .i64 r) := KB.out.cell 0
    have kb1 : x1.cell? ⟨w.heap.size + 1, 1, none⟩ = some (.int .i64 m) := KB.out.cell 1
    have kb2 : x1.cell? ⟨w.heap.size + 1, 2, none⟩ = some (.int .i64 m) := KB.out.cell 2
    have kb3 : x1.cell? ⟨w.heap.size + 1, 3, none⟩ = some (.int .i64 t) := KB.out.cell 3
    have kbl : w.heap.size + 1 < x1.heap.size := KB.out.lt
    go_wp2_with (with_reducible refine store_here (ty := 25) rfl ?_)
    refine halt_go ?_
    clear kb0 kb1 kb2 kb3 kbl
    refine wpList_store_row rfl 25 _ _ rfl (w.heap.size) #[.int .i64 r, .int .i64 m, .int .i64 m, .int .i64 t] rfl rfl 25 #[.int .i64 0, .int .i64 0, .int .i64 0, .int .i64 0] KZ.out sizeBu rfl (by simp [Value.oneCell']) ?_
    have KZ := Lib.hid (Blk.row (cs := #[.int .i64 r, .int .i64 m, .int .i64 m, .int .i64 t]) KZ.out); have KB := Lib.hid (KB.out.rowOther (g := w.heap.size) (by omega) #[.int .i64 r, .int .i64 m, .int .i64 m, .int .i64 t]); have HB := Lib.hid (Below.row HB.out (g := w.heap.size) (by omega) #[.int .i64 r, .int .i64 m, .int .i64 m, .int .i64 t])
    generalize x1.setRow (w.heap.size) #[.int .i64 r, .int .i64 m, .int .i64 m, .int .i64 t] = x2 at HB KZ KB ⊢
    have kz0 : x2.cell? ⟨w.heap.size, 0, none⟩ = some (.int .i64 r) := KZ.out.cell 0
    have kz1 : x2.cell? ⟨w.heap.size, 1, none⟩ = some (.int .i64 m) := KZ.out.cell 1
    have kz2 : x2.cell? ⟨w.heap.size, 2, none⟩ = some (.int .i64 m) := KZ.out.cell 2
    have kz3 : x2.cell? ⟨w.heap.size, 3, none⟩ = some (.int .i64 t) := KZ.out.cell 3
    have kzl : w.heap.size < x2.heap.size := KZ.out.lt
    go_wp2_with fail
    exact bodyPost_ret (v := .agg #[.int .i64 r, .int .i64 m, .int .i64 m, .int .i64 t]) (by simp [results, Try.results19, go_sem, kz0, kz1, kz2, kz3]) rfl ⟨rfl, HB.out⟩
  · rw [decide_eq_false k] at hk
    rw [if_neg k]
    unfold Bu.val Bu.zero
    have HK := Lib.hid hk
    have hB : Below w.heap.size w ((w.alloc (.cells #[.int .i64 0, .int .i64 0, .int .i64 0, .int .i64 0] 25)).alloc (.cells #[.int .i64 r, .int .i64 m, .int .i64 m, .int .i64 t] 25)) := (((Below.refl _ _).alloc (by simp) _).alloc (by simp) _)
    have hKZ : Blk ((w.alloc (.cells #[.int .i64 0, .int .i64 0, .int .i64 0, .int .i64 0] 25)).alloc (.cells #[.int .i64 r, .int .i64 m, .int .i64 m, .int .i64 t] 25)) (w.heap.size) #[.int .i64 0, .int .i64 0, .int .i64 0, .int .i64 0] 25 := ((blk_new _ _ (by simp)).alloc _)
    have hKB : Blk ((w.alloc (.cells #[.int .i64 0, .int .i64 0, .int .i64 0, .int .i64 0] 25)).alloc (.cells #[.int .i64 r, .int .i64 m, .int .i64 m, .int .i64 t] 25)) (w.heap.size + 1) #[.int .i64 r, .int .i64 m, .int .i64 m, .int .i64 t] 25 := (blk_new _ _ (by simp))
    have HB := Lib.hid hB; have KZ := Lib.hid hKZ; have KB := Lib.hid hKB
    clear hB hKZ hKB hk k
    go_enter Try.func19, Try.ntmps19
    go_wp2_with fail
    refine (HK.out _).mono ?_
    rintro e x1 ⟨rfl, hbq⟩
    have KZ := Lib.hid (KZ.out.after hbq)
    have KB := Lib.hid (KB.out.after hbq)
    have HB := Lib.hid (HB.out.trans (hbq.mono HB.out.size))
    clear hbq
    have kb0 : x1.cell? ⟨w.heap.size + 1, 0, none⟩ = some (.int .i64 r) := KB.out.cell 0
    have kb1 : x1.cell? ⟨w.heap.size + 1, 1, none⟩ = some (.int .i64 m) := KB.out.cell 1
    have kb2 : x1.cell? ⟨w.heap.size + 1, 2, none⟩ = some (.int .i64 m) := KB.out.cell 2
    have kb3 : x1.cell? ⟨w.heap.size + 1, 3, none⟩ = some (.int .i64 t) := KB.out.cell 3
    have kbl : w.heap.size + 1 < x1.heap.size := KB.out.lt
    go_wp2_with (with_reducible refine store_here (ty := 25) rfl ?_)
    refine halt_go ?_
    clear kb0 kb1 kb2 kb3 kbl
    refine wpList_store_row rfl 25 _ _ rfl (w.heap.size) #[.int .i64 0, .int .i64 0, .int .i64 0, .int .i64 0] rfl rfl 25 #[.int .i64 0, .int .i64 0, .int .i64 0, .int .i64 0] KZ.out sizeBu rfl (by simp [Value.oneCell']) ?_
    have KZ := Lib.hid (Blk.row (cs := #[.int .i64 0, .int .i64 0, .int .i64 0, .int .i64 0]) KZ.out); have KB := Lib.hid (KB.out.rowOther (g := w.heap.size) (by omega) #[.int .i64 0, .int .i64 0, .int .i64 0, .int .i64 0]); have HB := Lib.hid (Below.row HB.out (g := w.heap.size) (by omega) #[.int .i64 0, .int .i64 0, .int .i64 0, .int .i64 0])
    generalize x1.setRow (w.heap.size) #[.int .i64 0, .int .i64 0, .int .i64 0, .int .i64 0] = x2 at HB KZ KB ⊢
    have kz0 : x2.cell? ⟨w.heap.size, 0, none⟩ = some (.int .i64 0) := KZ.out.cell 0
    have kz1 : x2.cell? ⟨w.heap.size, 1, none⟩ = some (.int .i64 0) := KZ.out.cell 1
    have kz2 : x2.cell? ⟨w.heap.size, 2, none⟩ = some (.int .i64 0) := KZ.out.cell 2
    have kz3 : x2.cell? ⟨w.heap.size, 3, none⟩ = some (.int .i64 0) := KZ.out.cell 3
    have kzl : w.heap.size < x2.heap.size := KZ.out.lt
    go_wp2_with fail
    exact bodyPost_ret (v := .agg #[.int .i64 0, .int .i64 0, .int .i64 0, .int .i64 0]) (by simp [results, Try.results19, go_sem, kz0, kz1, kz2, kz3]) rfl ⟨rfl, HB.out⟩

set_option linter.unusedSimpArgs false in
set_option maxRecDepth 20000 in
set_option maxHeartbeats 4000000 in
theorem fill_spec (b : Bu) (now : Int) (w : World) : Calls Try.prog 14 #[b.val, .int .i64 now] w fun e w' => e = .returned (fillBu b now).val ∧ Below w.heap.size w w' := by
  have hk := bucketOk_spec b
  have hn := time5_spec now
  obtain ⟨d1, hd1⟩ : ∃ d, decide (buOk b) = d := ⟨_, rfl⟩
  obtain ⟨d2, hd2⟩ : ∃ d, decide (0 ≤ now ∧ now ≤ 1000000000) = d := ⟨_, rfl⟩
  rw [hd1] at hk
  rw [hd2] at hn
  obtain ⟨z, hz⟩ : ∃ z, fillBu b now = z := ⟨_, rfl⟩
  rw [hz]
  have hno : ¬ (d1 = true ∧ d2 = true ∧ b.tm ≤ now) → z = b := fun k => by rw [← hz]; exact if_neg (fun h => k ⟨hd1 ▸ decide_eq_true h.1, hd2 ▸ decide_eq_true h.2.1, h.2.2⟩)
  obtain ⟨lv, hlv⟩ : ∃ lv, lvOf b now = lv := ⟨_, rfl⟩
  have hyes : d1 = true → d2 = true → b.tm ≤ now → buMay b now ∧ z = ⟨b.rate, b.burst, lv, now⟩ := fun k1 k2 k3 => by
    have hm : buMay b now := ⟨of_decide_eq_true (hd1.trans k1), of_decide_eq_true (hd2.trans k2), k3⟩
    exact ⟨hm, by rw [← hz, ← hlv]; exact if_pos hm⟩
  obtain ⟨r, m, l, t⟩ := b
  unfold lvOf at hlv
  unfold Bu.val at hk ⊢
  simp only at hk hno hyes hlv
  have HK := Lib.hid hk; have HLV := Lib.hid hlv; have HN := Lib.hid hn; have HNO := Lib.hid hno; have HYES := Lib.hid hyes
  have hB : Below w.heap.size w ((w.alloc (.cells #[.int .i64 r, .int .i64 m, .int .i64 l, .int .i64 t] 25)).alloc (.cells #[.int .i64 0, .int .i64 0, .int .i64 0, .int .i64 0] 25)) := (((Below.refl _ _).alloc (by simp) _).alloc (by simp) _)
  have hKB : Blk ((w.alloc (.cells #[.int .i64 r, .int .i64 m, .int .i64 l, .int .i64 t] 25)).alloc (.cells #[.int .i64 0, .int .i64 0, .int .i64 0, .int .i64 0] 25)) (w.heap.size) #[.int .i64 r, .int .i64 m, .int .i64 l, .int .i64 t] 25 := ((blk_new _ _ (by simp)).alloc _)
  have hKZ : Blk ((w.alloc (.cells #[.int .i64 r, .int .i64 m, .int .i64 l, .int .i64 t] 25)).alloc (.cells #[.int .i64 0, .int .i64 0, .int .i64 0, .int .i64 0] 25)) (w.heap.size + 1) #[.int .i64 0, .int .i64 0, .int .i64 0, .int .i64 0] 25 := (blk_new _ _ (by simp))
  have HB := Lib.hid hB; have KB := Lib.hid hKB; have KZ := Lib.hid hKZ
  clear hB hKB hKZ hk hn hno hyes hlv hd1 hd2 hz
  go_enter Try.func14, Try.ntmps14
  go_wp2_with fail
  refine (HK.out _).mono ?_
  rintro e x1 ⟨rfl, hbq⟩
  have KB := Lib.hid (KB.out.after hbq)
  have KZ := Lib.hid (KZ.out.after hbq)
  have HB := Lib.hid (HB.out.trans (hbq.mono HB.out.size))
  clear hbq
  cases d1
  · obtain rfl := HNO.out (by simp)
    have kb0 : x1.cell? ⟨w.heap.size, 0, none⟩ = some (.int .i64 r) := KB.out.cell 0
    have kb1 : x1.cell? ⟨w.heap.size, 1, none⟩ = some (.int .i64 m) := KB.out.cell 1
    have kb2 : x1.cell? ⟨w.heap.size, 2, none⟩ = some (.int .i64 l) := KB.out.cell 2
    have kb3 : x1.cell? ⟨w.heap.size, 3, none⟩ = some (.int .i64 t) := KB.out.cell 3
    have kbl : w.heap.size < x1.heap.size := KB.out.lt
    go_wp2_with (with_reducible refine store_here (ty := 25) rfl ?_)
    refine halt_go ?_
    clear kb0 kb1 kb2 kb3 kbl
    refine wpList_store_row rfl 25 _ _ rfl (w.heap.size + 1) #[.int .i64 r, .int .i64 m, .int .i64 l, .int .i64 t] rfl rfl 25 #[.int .i64 0, .int .i64 0, .int .i64 0, .int .i64 0] KZ.out sizeBu rfl (by simp [Value.oneCell']) ?_
    have KB := Lib.hid (KB.out.rowOther (g := w.heap.size + 1) (by omega) #[.int .i64 r, .int .i64 m, .int .i64 l, .int .i64 t]); have KZ := Lib.hid (Blk.row (cs := #[.int .i64 r, .int .i64 m, .int .i64 l, .int .i64 t]) KZ.out); have HB := Lib.hid (Below.row HB.out (g := w.heap.size + 1) (by omega) #[.int .i64 r, .int .i64 m, .int .i64 l, .int .i64 t])
    generalize x1.setRow (w.heap.size + 1) #[.int .i64 r, .int .i64 m, .int .i64 l, .int .i64 t] = x2 at HB KB KZ ⊢
    have kz0 : x2.cell? ⟨w.heap.size + 1, 0, none⟩ = some (.int .i64 r) := KZ.out.cell 0
    have kz1 : x2.cell? ⟨w.heap.size + 1, 1, none⟩ = some (.int .i64 m) := KZ.out.cell 1
    have kz2 : x2.cell? ⟨w.heap.size + 1, 2, none⟩ = some (.int .i64 l) := KZ.out.cell 2
    have kz3 : x2.cell? ⟨w.heap.size + 1, 3, none⟩ = some (.int .i64 t) := KZ.out.cell 3
    have kzl : w.heap.size + 1 < x2.heap.size := KZ.out.lt
    go_wp2_with fail
    exact bodyPost_ret (v := .agg #[.int .i64 r, .int .i64 m, .int .i64 l, .int .i64 t]) (by simp [results, Try.results14, go_sem, kz0, kz1, kz2, kz3]) rfl ⟨rfl, HB.out⟩
  have kb0 : x1.cell? ⟨w.heap.size, 0, none⟩ = some (.int .i64 r) := KB.out.cell 0
  have kb1 : x1.cell? ⟨w.heap.size, 1, none⟩ = some (.int .i64 m) := KB.out.cell 1
  have kb2 : x1.cell? ⟨w.heap.size, 2, none⟩ = some (.int .i64 l) := KB.out.cell 2
  have kb3 : x1.cell? ⟨w.heap.size, 3, none⟩ = some (.int .i64 t) := KB.out.cell 3
  have kbl : w.heap.size < x1.heap.size := KB.out.lt
  go_wp2_with fail
  refine (HN.out _).mono ?_
  rintro e ww ⟨rfl, rfl⟩
  cases d2
  · obtain rfl := HNO.out (by simp)
    clear kb0 kb1 kb2 kb3 kbl
    have kb0 : x1.cell? ⟨w.heap.size, 0, none⟩ = some (.int .i64 r) := KB.out.cell 0
    have kb1 : x1.cell? ⟨w.heap.size, 1, none⟩ = some (.int .i64 m) := KB.out.cell 1
    have kb2 : x1.cell? ⟨w.heap.size, 2, none⟩ = some (.int .i64 l) := KB.out.cell 2
    have kb3 : x1.cell? ⟨w.heap.size, 3, none⟩ = some (.int .i64 t) := KB.out.cell 3
    have kbl : w.heap.size < x1.heap.size := KB.out.lt
    go_wp2_with (with_reducible refine store_here (ty := 25) rfl ?_)
    refine halt_go ?_
    clear kb0 kb1 kb2 kb3 kbl
    refine wpList_store_row rfl 25 _ _ rfl (w.heap.size + 1) #[.int .i64 r, .int .i64 m, .int .i64 l, .int .i64 t] rfl rfl 25 #[.int .i64 0, .int .i64 0, .int .i64 0, .int .i64 0] KZ.out sizeBu rfl (by simp [Value.oneCell']) ?_
    have KB := Lib.hid (KB.out.rowOther (g := w.heap.size + 1) (by omega) #[.int .i64 r, .int .i64 m, .int .i64 l, .int .i64 t]); have KZ := Lib.hid (Blk.row (cs := #[.int .i64 r, .int .i64 m, .int .i64 l, .int .i64 t]) KZ.out); have HB := Lib.hid (Below.row HB.out (g := w.heap.size + 1) (by omega) #[.int .i64 r, .int .i64 m, .int .i64 l, .int .i64 t])
    generalize x1.setRow (w.heap.size + 1) #[.int .i64 r, .int .i64 m, .int .i64 l, .int .i64 t] = x2 at HB KB KZ ⊢
    have kz0 : x2.cell? ⟨w.heap.size + 1, 0, none⟩ = some (.int .i64 r) := KZ.out.cell 0
    have kz1 : x2.cell? ⟨w.heap.size + 1, 1, none⟩ = some (.int .i64 m) := KZ.out.cell 1
    have kz2 : x2.cell? ⟨w.heap.size + 1, 2, none⟩ = some (.int .i64 l) := KZ.out.cell 2
    have kz3 : x2.cell? ⟨w.heap.size + 1, 3, none⟩ = some (.int .i64 t) := KZ.out.cell 3
    have kzl : w.heap.size + 1 < x2.heap.size := KZ.out.lt
    go_wp2_with fail
    exact bodyPost_ret (v := .agg #[.int .i64 r, .int .i64 m, .int .i64 l, .int .i64 t]) (by simp [results, Try.results14, go_sem, kz0, kz1, kz2, kz3]) rfl ⟨rfl, HB.out⟩
  by_cases hlt : now < t
  · obtain rfl := HNO.out (by simp; omega)
    clear kb0 kb1 kb2 kb3 kbl
    have kb0 : x1.cell? ⟨w.heap.size, 0, none⟩ = some (.int .i64 r) := KB.out.cell 0
    have kb1 : x1.cell? ⟨w.heap.size, 1, none⟩ = some (.int .i64 m) := KB.out.cell 1
    have kb2 : x1.cell? ⟨w.heap.size, 2, none⟩ = some (.int .i64 l) := KB.out.cell 2
    have kb3 : x1.cell? ⟨w.heap.size, 3, none⟩ = some (.int .i64 t) := KB.out.cell 3
    have kbl : w.heap.size < x1.heap.size := KB.out.lt
    go_wp2_with (with_reducible refine store_here (ty := 25) rfl ?_)
    refine halt_go ?_
    clear kb0 kb1 kb2 kb3 kbl
    refine wpList_store_row rfl 25 _ _ rfl (w.heap.size + 1) #[.int .i64 r, .int .i64 m, .int .i64 l, .int .i64 t] rfl rfl 25 #[.int .i64 0, .int .i64 0, .int .i64 0, .int .i64 0] KZ.out sizeBu rfl (by simp [Value.oneCell']) ?_
    have KB := Lib.hid (KB.out.rowOther (g := w.heap.size + 1) (by omega) #[.int .i64 r, .int .i64 m, .int .i64 l, .int .i64 t]); have KZ := Lib.hid (Blk.row (cs := #[.int .i64 r, .int .i64 m, .int .i64 l, .int .i64 t]) KZ.out); have HB := Lib.hid (Below.row HB.out (g := w.heap.size + 1) (by omega) #[.int .i64 r, .int .i64 m, .int .i64 l, .int .i64 t])
    generalize x1.setRow (w.heap.size + 1) #[.int .i64 r, .int .i64 m, .int .i64 l, .int .i64 t] = x2 at HB KB KZ ⊢
    have kz0 : x2.cell? ⟨w.heap.size + 1, 0, none⟩ = some (.int .i64 r) := KZ.out.cell 0
    have kz1 : x2.cell? ⟨w.heap.size + 1, 1, none⟩ = some (.int .i64 m) := KZ.out.cell 1
    have kz2 : x2.cell? ⟨w.heap.size + 1, 2, none⟩ = some (.int .i64 l) := KZ.out.cell 2
    have kz3 : x2.cell? ⟨w.heap.size + 1, 3, none⟩ = some (.int .i64 t) := KZ.out.cell 3
    have kzl : w.heap.size + 1 < x2.heap.size := KZ.out.lt
    go_wp2_with fail
    exact bodyPost_ret (v := .agg #[.int .i64 r, .int .i64 m, .int .i64 l, .int .i64 t]) (by simp [results, Try.results14, go_sem, kz0, kz1, kz2, kz3]) rfl ⟨rfl, HB.out⟩
  obtain ⟨hm, rfl⟩ := HYES.out (by simp) (by simp) (by omega)
  obtain ⟨q1, q2, q3, q4⟩ := bu_small hm
  clear hm
  by_cases hb : m < l + r * (now - t)
  · obtain rfl := (HLV.out.symm.trans (if_pos hb)).symm
    clear HLV
    clear kb0 kb1 kb2 kb3 kbl
    have kb0 : x1.cell? ⟨w.heap.size, 0, none⟩ = some (.int .i64 r) := KB.out.cell 0
    have kb1 : x1.cell? ⟨w.heap.size, 1, none⟩ = some (.int .i64 m) := KB.out.cell 1
    have kb2 : x1.cell? ⟨w.heap.size, 2, none⟩ = some (.int .i64 l) := KB.out.cell 2
    have kb3 : x1.cell? ⟨w.heap.size, 3, none⟩ = some (.int .i64 t) := KB.out.cell 3
    have kbl : w.heap.size < x1.heap.size := KB.out.lt
    have kbf := KB.out.frozen
    have kby := KB.out.shape
    go_wp2_with (with_reducible refine store_here (ty := 25) rfl ?_)
    refine halt_go ?_
    clear kb0 kb1 kb2 kb3 kbl kbf kby
    have HB := Lib.hid ((((HB.out.setCell (p := ⟨w.heap.size, 2, none⟩) (by simp <;> omega) (.int .i64 (l + r * (now - t)))).setCell (p := ⟨w.heap.size, 2, none⟩) (by simp <;> omega) (.int .i64 m)).setCell (p := ⟨w.heap.size, 3, none⟩) (by simp <;> omega) (.int .i64 now))); have KB := Lib.hid ((((KB.out.set 2 (.int .i64 (l + r * (now - t)))).set 2 (.int .i64 m)).set 3 (.int .i64 now))); have KZ := Lib.hid ((((KZ.out.other (j := 2) (g := w.heap.size) (by omega) (.int .i64 (l + r * (now - t)))).other (j := 2) (g := w.heap.size) (by omega) (.int .i64 m)).other (j := 3) (g := w.heap.size) (by omega) (.int .i64 now)))
    generalize ((x1.setCell ⟨w.heap.size, 2, none⟩ (.int .i64 (l + r * (now - t)))).setCell ⟨w.heap.size, 2, none⟩ (.int .i64 m)).setCell ⟨w.heap.size, 3, none⟩ (.int .i64 now) = x2 at HB KB KZ ⊢
    refine wpList_store_row rfl 25 _ _ rfl (w.heap.size + 1) #[.int .i64 r, .int .i64 m, .int .i64 m, .int .i64 now] rfl rfl 25 #[.int .i64 0, .int .i64 0, .int .i64 0, .int .i64 0] KZ.out sizeBu rfl (by simp [Value.oneCell']) ?_
    have KB := Lib.hid (KB.out.rowOther (g := w.heap.size + 1) (by omega) #[.int .i64 r, .int .i64 m, .int .i64 m, .int .i64 now]); have KZ := Lib.hid (Blk.row (cs := #[.int .i64 r, .int .i64 m, .int .i64 m, .int .i64 now]) KZ.out); have HB := Lib.hid (Below.row HB.out (g := w.heap.size + 1) (by omega) #[.int .i64 r, .int .i64 m, .int .i64 m, .int .i64 now])
    generalize x2.setRow (w.heap.size + 1) #[.int .i64 r, .int .i64 m, .int .i64 m, .int .i64 now] = x3 at HB KB KZ ⊢
    have kz0 : x3.cell? ⟨w.heap.size + 1, 0, none⟩ = some (.int .i64 r) := KZ.out.cell 0
    have kz1 : x3.cell? ⟨w.heap.size + 1, 1, none⟩ = some (.int .i64 m) := KZ.out.cell 1
    have kz2 : x3.cell? ⟨w.heap.size + 1, 2, none⟩ = some (.int .i64 m) := KZ.out.cell 2
    have kz3 : x3.cell? ⟨w.heap.size + 1, 3, none⟩ = some (.int .i64 now) := KZ.out.cell 3
    have kzl : w.heap.size + 1 < x3.heap.size := KZ.out.lt
    go_wp2_with fail
    exact bodyPost_ret (v := .agg #[.int .i64 r, .int .i64 m, .int .i64 m, .int .i64 now]) (by simp [results, Try.results14, go_sem, kz0, kz1, kz2, kz3]) rfl ⟨rfl, HB.out⟩
  · obtain rfl := (HLV.out.symm.trans (if_neg hb)).symm
    clear HLV
    clear kb0 kb1 kb2 kb3 kbl
    have kb0 : x1.cell? ⟨w.heap.size, 0, none⟩ = some (.int .i64 r) := KB.out.cell 0
    have kb1 : x1.cell? ⟨w.heap.size, 1, none⟩ = some (.int .i64 m) := KB.out.cell 1
    have kb2 : x1.cell? ⟨w.heap.size, 2, none⟩ = some (.int .i64 l) := KB.out.cell 2
    have kb3 : x1.cell? ⟨w.heap.size, 3, none⟩ = some (.int .i64 t) := KB.out.cell 3
    have kbl : w.heap.size < x1.heap.size := KB.out.lt
    have kbf := KB.out.frozen
    have kby := KB.out.shape
    go_wp2_with (with_reducible refine store_here (ty := 25) rfl ?_)
    refine halt_go ?_
    clear kb0 kb1 kb2 kb3 kbl kbf kby
    have HB := Lib.hid (((HB.out.setCell (p := ⟨w.heap.size, 2, none⟩) (by simp <;> omega) (.int .i64 (l + r * (now - t)))).setCell (p := ⟨w.heap.size, 3, none⟩) (by simp <;> omega) (.int .i64 now))); have KB := Lib.hid (((KB.out.set 2 (.int .i64 (l + r * (now - t)))).set 3 (.int .i64 now))); have KZ := Lib.hid (((KZ.out.other (j := 2) (g := w.heap.size) (by omega) (.int .i64 (l + r * (now - t)))).other (j := 3) (g := w.heap.size) (by omega) (.int .i64 now)))
    generalize (x1.setCell ⟨w.heap.size, 2, none⟩ (.int .i64 (l + r * (now - t)))).setCell ⟨w.heap.size, 3, none⟩ (.int .i64 now) = x2 at HB KB KZ ⊢
    refine wpList_store_row rfl 25 _ _ rfl (w.heap.size + 1) #[.int .i64 r, .int .i64 m, .int .i64 (l + r * (now - t)), .int .i64 now] rfl rfl 25 #[.int .i64 0, .int .i64 0, .int .i64 0, .int .i64 0] KZ.out sizeBu rfl (by simp [Value.oneCell']) ?_
    have KB := Lib.hid (KB.out.rowOther (g := w.heap.size + 1) (by omega) #[.int .i64 r, .int .i64 m, .int .i64 (l + r * (now - t)), .int .i64 now]); have KZ := Lib.hid (Blk.row (cs := #[.int .i64 r, .int .i64 m, .int .i64 (l + r * (now - t)), .int .i64 now]) KZ.out); have HB := Lib.hid (Below.row HB.out (g := w.heap.size + 1) (by omega) #[.int .i64 r, .int .i64 m, .int .i64 (l + r * (now - t)), .int .i64 now])
    generalize x2.setRow (w.heap.size + 1) #[.int .i64 r, .int .i64 m, .int .i64 (l + r * (now - t)), .int .i64 now] = x3 at HB KB KZ ⊢
    have kz0 : x3.cell? ⟨w.heap.size + 1, 0, none⟩ = some (.int .i64 r) := KZ.out.cell 0
    have kz1 : x3.cell? ⟨w.heap.size + 1, 1, none⟩ = some (.int .i64 m) := KZ.out.cell 1
    have kz2 : x3.cell? ⟨w.heap.size + 1, 2, none⟩ = some (.int .i64 (l + r * (now - t))) := KZ.out.cell 2
    have kz3 : x3.cell? ⟨w.heap.size + 1, 3, none⟩ = some (.int .i64 now) := KZ.out.cell 3
    have kzl : w.heap.size + 1 < x3.heap.size := KZ.out.lt
    go_wp2_with fail
    exact bodyPost_ret (v := .agg #[.int .i64 r, .int .i64 m, .int .i64 (l + r * (now - t)), .int .i64 now]) (by simp [results, Try.results14, go_sem, kz0, kz1, kz2, kz3]) rfl ⟨rfl, HB.out⟩

theorem fill_level {b : Bu} {now : Int} (h : buMay b now) : 0 ≤ (fillBu b now).level ∧ (fillBu b now).level ≤ 1000000 ∧ (fillBu b now).level ≤ (fillBu b now).burst := by
  have hs := bu_small (r := b.rate) (m := b.burst) (l := b.level) (t := b.tm) h
  obtain ⟨⟨⟨h1, h2⟩, ⟨h3, h4⟩, ⟨h5, h6⟩, h7, h8⟩, ⟨h9, h10⟩, h11⟩ := id h
  unfold fillBu
  rw [if_pos h]
  simp only [lvOf]
  split <;> omega
set_option linter.unusedSimpArgs false in
set_option maxRecDepth 20000 in
set_option maxHeartbeats 4000000 in
theorem spend_spec (b : Bu) (now n : Int) (w : World) : Calls Try.prog 12 #[b.val, .int .i64 now, .int .i64 n] w fun e w' => e = .returned (.tuple #[(spendBu b now n).val, .bool (decide (mayB b now n))]) ∧ Below w.heap.size w w' := by
  have hk := bucketOk_spec b
  have hn := time5_spec now
  have hf := fill_spec b now
  obtain ⟨d1, hd1⟩ : ∃ d, decide (buOk b) = d := ⟨_, rfl⟩
  obtain ⟨d2, hd2⟩ : ∃ d, decide (0 ≤ now ∧ now ≤ 1000000000) = d := ⟨_, rfl⟩
  rw [hd1] at hk
  rw [hd2] at hn
  obtain ⟨y, hy⟩ : ∃ y, spendBu b now n = y := ⟨_, rfl⟩
  obtain ⟨ok, hok⟩ : ∃ k, decide (mayB b now n) = k := ⟨_, rfl⟩
  rw [hy, hok]
  have hno : ¬ (d1 = true ∧ d2 = true ∧ b.tm ≤ now ∧ 0 ≤ n ∧ n ≤ (fillBu b now).level) → y = fillBu b now ∧ ok = false := fun k => by
    have hm : ¬ mayB b now n := fun h => k ⟨hd1 ▸ decide_eq_true h.1.1, hd2 ▸ decide_eq_true h.1.2.1, h.1.2.2, h.2.1, h.2.2⟩
    exact ⟨by rw [← hy]; exact if_neg hm, by rw [← hok]; exact decide_eq_false hm⟩
  have hyes : d1 = true → d2 = true → b.tm ≤ now → 0 ≤ n → n ≤ (fillBu b now).level → y = ⟨(fillBu b now).rate, (fillBu b now).burst, (fillBu b now).level - n, (fillBu b now).tm⟩ ∧ ok = true ∧ IntKind.i64.wrap ((fillBu b now).level - n) = (fillBu b now).level - n := fun k1 k2 k3 k4 k5 => by
    have hm : mayB b now n := ⟨⟨of_decide_eq_true (hd1.trans k1), of_decide_eq_true (hd2.trans k2), k3⟩, k4, k5⟩
    have hv := fill_level hm.1
    exact ⟨by rw [← hy]; exact if_pos hm, by rw [← hok]; exact decide_eq_true hm, wrap_in (by omega) (by omega)⟩
  generalize fillBu b now = z at hf hno hyes
  obtain ⟨r, m, l, t⟩ := b
  obtain ⟨zr, zm, zl, zt⟩ := z
  unfold Bu.val at hk hf ⊢
  simp only at hk hf hno hyes
  have HK := Lib.hid hk; have HN := Lib.hid hn; have HF := Lib.hid hf; have HNO := Lib.hid hno; have HYES := Lib.hid hyes
  have hB : Below w.heap.size w ((w.alloc (.cells #[.int .i64 r, .int .i64 m, .int .i64 l, .int .i64 t] 25)).alloc (.cells #[.int .i64 0, .int .i64 0, .int .i64 0, .int .i64 0] 25)) := (((Below.refl _ _).alloc (by simp) _).alloc (by simp) _)
  have hKB : Blk ((w.alloc (.cells #[.int .i64 r, .int .i64 m, .int .i64 l, .int .i64 t] 25)).alloc (.cells #[.int .i64 0, .int .i64 0, .int .i64 0, .int .i64 0] 25)) (w.heap.size) #[.int .i64 r, .int .i64 m, .int .i64 l, .int .i64 t] 25 := ((blk_new _ _ (by simp)).alloc _)
  have hKZ : Blk ((w.alloc (.cells #[.int .i64 r, .int .i64 m, .int .i64 l, .int .i64 t] 25)).alloc (.cells #[.int .i64 0, .int .i64 0, .int .i64 0, .int .i64 0] 25)) (w.heap.size + 1) #[.int .i64 0, .int .i64 0, .int .i64 0, .int .i64 0] 25 := (blk_new _ _ (by simp))
  have HB := Lib.hid hB; have KB := Lib.hid hKB; have KZ := Lib.hid hKZ
  clear hB hKB hKZ hk hn hf hno hyes hd1 hd2 hy hok
  go_enter Try.func12, Try.ntmps12
  go_wp2_with fail
  refine (HK.out _).mono ?_
  rintro e x1 ⟨rfl, hbq⟩
  have KB := Lib.hid (KB.out.after hbq)
  have KZ := Lib.hid (KZ.out.after hbq)
  have HB := Lib.hid (HB.out.trans (hbq.mono HB.out.size))
  clear hbq
  cases d1
  · obtain ⟨rfl, rfl⟩ := HNO.out (by simp)
    have kb0 : x1.cell? ⟨w.heap.size, 0, none⟩ = some (.int .i64 r) := KB.out.cell 0
    have kb1 : x1.cell? ⟨w.heap.size, 1, none⟩ = some (.int .i64 m) := KB.out.cell 1
    have kb2 : x1.cell? ⟨w.heap.size, 2, none⟩ = some (.int .i64 l) := KB.out.cell 2
    have kb3 : x1.cell? ⟨w.heap.size, 3, none⟩ = some (.int .i64 t) := KB.out.cell 3
    have kbl : w.heap.size < x1.heap.size := KB.out.lt
    go_wp2_with fail
    refine (HF.out _).mono ?_
    rintro e x2 ⟨rfl, hbq⟩
    clear kb0 kb1 kb2 kb3 kbl
    have KB := Lib.hid (KB.out.after hbq)
    have KZ := Lib.hid (KZ.out.after hbq)
    have HB := Lib.hid (HB.out.trans (hbq.mono HB.out.size))
    clear hbq
    have kb0 : x2.cell? ⟨w.heap.size, 0, none⟩ = some (.int .i64 r) := KB.out.cell 0
    have kb1 : x2.cell? ⟨w.heap.size, 1, none⟩ = some (.int .i64 m) := KB.out.cell 1
    have kb2 : x2.cell? ⟨w.heap.size, 2, none⟩ = some (.int .i64 l) := KB.out.cell 2
    have kb3 : x2.cell? ⟨w.heap.size, 3, none⟩ = some (.int .i64 t) := KB.out.cell 3
    have kbl : w.heap.size < x2.heap.size := KB.out.lt
    have kz0 : x2.cell? ⟨w.heap.size + 1, 0, none⟩ = some (.int .i64 0) := KZ.out.cell 0
    have kz1 : x2.cell? ⟨w.heap.size + 1, 1, none⟩ = some (.int .i64 0) := KZ.out.cell 1
    have kz2 : x2.cell? ⟨w.heap.size + 1, 2, none⟩ = some (.int .i64 0) := KZ.out.cell 2
    have kz3 : x2.cell? ⟨w.heap.size + 1, 3, none⟩ = some (.int .i64 0) := KZ.out.cell 3
    have kzl : w.heap.size + 1 < x2.heap.size := KZ.out.lt
    go_wp2_with (with_reducible refine store_here (ty := 25) rfl ?_)
    refine halt_go ?_
    clear kb0 kb1 kb2 kb3 kbl kz0 kz1 kz2 kz3 kzl
    refine wpList_store_row rfl 25 _ _ rfl (w.heap.size) #[.int .i64 zr, .int .i64 zm, .int .i64 zl, .int .i64 zt] rfl rfl 25 #[.int .i64 r, .int .i64 m, .int .i64 l, .int .i64 t] KB.out sizeBu rfl (by simp [Value.oneCell']) ?_
    have KB := Lib.hid (Blk.row (cs := #[.int .i64 zr, .int .i64 zm, .int .i64 zl, .int .i64 zt]) KB.out); have KZ := Lib.hid (KZ.out.rowOther (g := w.heap.size) (by omega) #[.int .i64 zr, .int .i64 zm, .int .i64 zl, .int .i64 zt]); have HB := Lib.hid (Below.row HB.out (g := w.heap.size) (by omega) #[.int .i64 zr, .int .i64 zm, .int .i64 zl, .int .i64 zt])
    generalize x2.setRow (w.heap.size) #[.int .i64 zr, .int .i64 zm, .int .i64 zl, .int .i64 zt] = x3 at HB KB KZ ⊢
    have kb0 : x3.cell? ⟨w.heap.size, 0, none⟩ = some (.int .i64 zr) := KB.out.cell 0
    have kb1 : x3.cell? ⟨w.heap.size, 1, none⟩ = some (.int .i64 zm) := KB.out.cell 1
    have kb2 : x3.cell? ⟨w.heap.size, 2, none⟩ = some (.int .i64 zl) := KB.out.cell 2
    have kb3 : x3.cell? ⟨w.heap.size, 3, none⟩ = some (.int .i64 zt) := KB.out.cell 3
    have kbl : w.heap.size < x3.heap.size := KB.out.lt
    go_wp2_with (with_reducible refine store_here (ty := 25) rfl ?_)
    refine halt_go ?_
    clear kb0 kb1 kb2 kb3 kbl
    refine wpList_store_row rfl 25 _ _ rfl (w.heap.size + 1) #[.int .i64 zr, .int .i64 zm, .int .i64 zl, .int .i64 zt] rfl rfl 25 #[.int .i64 0, .int .i64 0, .int .i64 0, .int .i64 0] KZ.out sizeBu rfl (by simp [Value.oneCell']) ?_
    have KB := Lib.hid (KB.out.rowOther (g := w.heap.size + 1) (by omega) #[.int .i64 zr, .int .i64 zm, .int .i64 zl, .int .i64 zt]); have KZ := Lib.hid (Blk.row (cs := #[.int .i64 zr, .int .i64 zm, .int .i64 zl, .int .i64 zt]) KZ.out); have HB := Lib.hid (Below.row HB.out (g := w.heap.size + 1) (by omega) #[.int .i64 zr, .int .i64 zm, .int .i64 zl, .int .i64 zt])
    generalize x3.setRow (w.heap.size + 1) #[.int .i64 zr, .int .i64 zm, .int .i64 zl, .int .i64 zt] = x4 at HB KB KZ ⊢
    have kz0 : x4.cell? ⟨w.heap.size + 1, 0, none⟩ = some (.int .i64 zr) := KZ.out.cell 0
    have kz1 : x4.cell? ⟨w.heap.size + 1, 1, none⟩ = some (.int .i64 zm) := KZ.out.cell 1
    have kz2 : x4.cell? ⟨w.heap.size + 1, 2, none⟩ = some (.int .i64 zl) := KZ.out.cell 2
    have kz3 : x4.cell? ⟨w.heap.size + 1, 3, none⟩ = some (.int .i64 zt) := KZ.out.cell 3
    have kzl : w.heap.size + 1 < x4.heap.size := KZ.out.lt
    go_wp2_with fail
    exact bodyPost_ret (v := .tuple #[.agg #[.int .i64 zr, .int .i64 zm, .int .i64 zl, .int .i64 zt], .bool false]) (by simp [results, Try.results12, go_sem, kz0, kz1, kz2, kz3]) rfl ⟨rfl, HB.out⟩
  have kb0 : x1.cell? ⟨w.heap.size, 0, none⟩ = some (.int .i64 r) := KB.out.cell 0
  have kb1 : x1.cell? ⟨w.heap.size, 1, none⟩ = some (.int .i64 m) := KB.out.cell 1
  have kb2 : x1.cell? ⟨w.heap.size, 2, none⟩ = some (.int .i64 l) := KB.out.cell 2
  have kb3 : x1.cell? ⟨w.heap.size, 3, none⟩ = some (.int .i64 t) := KB.out.cell 3
  have kbl : w.heap.size < x1.heap.size := KB.out.lt
  go_wp2_with fail
  refine (HN.out _).mono ?_
  rintro e ww ⟨rfl, rfl⟩
  cases d2
  · obtain ⟨rfl, rfl⟩ := HNO.out (by simp)
    clear kb0 kb1 kb2 kb3 kbl
    have kb0 : x1.cell? ⟨w.heap.size, 0, none⟩ = some (.int .i64 r) := KB.out.cell 0
    have kb1 : x1.cell? ⟨w.heap.size, 1, none⟩ = some (.int .i64 m) := KB.out.cell 1
    have kb2 : x1.cell? ⟨w.heap.size, 2, none⟩ = some (.int .i64 l) := KB.out.cell 2
    have kb3 : x1.cell? ⟨w.heap.size, 3, none⟩ = some (.int .i64 t) := KB.out.cell 3
    have kbl : w.heap.size < x1.heap.size := KB.out.lt
    go_wp2_with fail
    refine (HF.out _).mono ?_
    rintro e x2 ⟨rfl, hbq⟩
    clear kb0 kb1 kb2 kb3 kbl
    have KB := Lib.hid (KB.out.after hbq)
    have KZ := Lib.hid (KZ.out.after hbq)
    have HB := Lib.hid (HB.out.trans (hbq.mono HB.out.size))
    clear hbq
    have kb0 : x2.cell? ⟨w.heap.size, 0, none⟩ = some (.int .i64 r) := KB.out.cell 0
    have kb1 : x2.cell? ⟨w.heap.size, 1, none⟩ = some (.int .i64 m) := KB.out.cell 1
    have kb2 : x2.cell? ⟨w.heap.size, 2, none⟩ = some (.int .i64 l) := KB.out.cell 2
    have kb3 : x2.cell? ⟨w.heap.size, 3, none⟩ = some (.int .i64 t) := KB.out.cell 3
    have kbl : w.heap.size < x2.heap.size := KB.out.lt
    have kz0 : x2.cell? ⟨w.heap.size + 1, 0, none⟩ = some (.int .i64 0) := KZ.out.cell 0
    have kz1 : x2.cell? ⟨w.heap.size + 1, 1, none⟩ = some (.int .i64 0) := KZ.out.cell 1
    have kz2 : x2.cell? ⟨w.heap.size + 1, 2, none⟩ = some (.int .i64 0) := KZ.out.cell 2
    have kz3 : x2.cell? ⟨w.heap.size + 1, 3, none⟩ = some (.int .i64 0) := KZ.out.cell 3
    have kzl : w.heap.size + 1 < x2.heap.size := KZ.out.lt
    go_wp2_with (with_reducible refine store_here (ty := 25) rfl ?_)
    refine halt_go ?_
    clear kb0 kb1 kb2 kb3 kbl kz0 kz1 kz2 kz3 kzl
    refine wpList_store_row rfl 25 _ _ rfl (w.heap.size) #[.int .i64 zr, .int .i64 zm, .int .i64 zl, .int .i64 zt] rfl rfl 25 #[.int .i64 r, .int .i64 m, .int .i64 l, .int .i64 t] KB.out sizeBu rfl (by simp [Value.oneCell']) ?_
    have KB := Lib.hid (Blk.row (cs := #[.int .i64 zr, .int .i64 zm, .int .i64 zl, .int .i64 zt]) KB.out); have KZ := Lib.hid (KZ.out.rowOther (g := w.heap.size) (by omega) #[.int .i64 zr, .int .i64 zm, .int .i64 zl, .int .i64 zt]); have HB := Lib.hid (Below.row HB.out (g := w.heap.size) (by omega) #[.int .i64 zr, .int .i64 zm, .int .i64 zl, .int .i64 zt])
    generalize x2.setRow (w.heap.size) #[.int .i64 zr, .int .i64 zm, .int .i64 zl, .int .i64 zt] = x3 at HB KB KZ ⊢
    have kb0 : x3.cell? ⟨w.heap.size, 0, none⟩ = some (.int .i64 zr) := KB.out.cell 0
    have kb1 : x3.cell? ⟨w.heap.size, 1, none⟩ = some (.int .i64 zm) := KB.out.cell 1
    have kb2 : x3.cell? ⟨w.heap.size, 2, none⟩ = some (.int .i64 zl) := KB.out.cell 2
    have kb3 : x3.cell? ⟨w.heap.size, 3, none⟩ = some (.int .i64 zt) := KB.out.cell 3
    have kbl : w.heap.size < x3.heap.size := KB.out.lt
    go_wp2_with (with_reducible refine store_here (ty := 25) rfl ?_)
    refine halt_go ?_
    clear kb0 kb1 kb2 kb3 kbl
    refine wpList_store_row rfl 25 _ _ rfl (w.heap.size + 1) #[.int .i64 zr, .int .i64 zm, .int .i64 zl, .int .i64 zt] rfl rfl 25 #[.int .i64 0, .int .i64 0, .int .i64 0, .int .i64 0] KZ.out sizeBu rfl (by simp [Value.oneCell']) ?_
    have KB := Lib.hid (KB.out.rowOther (g := w.heap.size + 1) (by omega) #[.int .i64 zr, .int .i64 zm, .int .i64 zl, .int .i64 zt]); have KZ := Lib.hid (Blk.row (cs := #[.int .i64 zr, .int .i64 zm, .int .i64 zl, .int .i64 zt]) KZ.out); have HB := Lib.hid (Below.row HB.out (g := w.heap.size + 1) (by omega) #[.int .i64 zr, .int .i64 zm, .int .i64 zl, .int .i64 zt])
    generalize x3.setRow (w.heap.size + 1) #[.int .i64 zr, .int .i64 zm, .int .i64 zl, .int .i64 zt] = x4 at HB KB KZ ⊢
    have kz0 : x4.cell? ⟨w.heap.size + 1, 0, none⟩ = some (.int .i64 zr) := KZ.out.cell 0
    have kz1 : x4.cell? ⟨w.heap.size + 1, 1, none⟩ = some (.int .i64 zm) := KZ.out.cell 1
    have kz2 : x4.cell? ⟨w.heap.size + 1, 2, none⟩ = some (.int .i64 zl) := KZ.out.cell 2
    have kz3 : x4.cell? ⟨w.heap.size + 1, 3, none⟩ = some (.int .i64 zt) := KZ.out.cell 3
    have kzl : w.heap.size + 1 < x4.heap.size := KZ.out.lt
    go_wp2_with fail
    exact bodyPost_ret (v := .tuple #[.agg #[.int .i64 zr, .int .i64 zm, .int .i64 zl, .int .i64 zt], .bool false]) (by simp [results, Try.results12, go_sem, kz0, kz1, kz2, kz3]) rfl ⟨rfl, HB.out⟩
  by_cases hge : t ≤ now
  · by_cases h0 : 0 ≤ n
    · clear kb0 kb1 kb2 kb3 kbl
      have kb0 : x1.cell? ⟨w.heap.size, 0, none⟩ = some (.int .i64 r) := KB.out.cell 0
      have kb1 : x1.cell? ⟨w.heap.size, 1, none⟩ = some (.int .i64 m) := KB.out.cell 1
      have kb2 : x1.cell? ⟨w.heap.size, 2, none⟩ = some (.int .i64 l) := KB.out.cell 2
      have kb3 : x1.cell? ⟨w.heap.size, 3, none⟩ = some (.int .i64 t) := KB.out.cell 3
      have kbl : w.heap.size < x1.heap.size := KB.out.lt
      go_wp2_with fail
      refine (HF.out _).mono ?_
      rintro e x2 ⟨rfl, hbq⟩
      clear kb0 kb1 kb2 kb3 kbl
      have KB := Lib.hid (KB.out.after hbq)
      have KZ := Lib.hid (KZ.out.after hbq)
      have HB := Lib.hid (HB.out.trans (hbq.mono HB.out.size))
      clear hbq
      have kb0 : x2.cell? ⟨w.heap.size, 0, none⟩ = some (.int .i64 r) := KB.out.cell 0
      have kb1 : x2.cell? ⟨w.heap.size, 1, none⟩ = some (.int .i64 m) := KB.out.cell 1
      have kb2 : x2.cell? ⟨w.heap.size, 2, none⟩ = some (.int .i64 l) := KB.out.cell 2
      have kb3 : x2.cell? ⟨w.heap.size, 3, none⟩ = some (.int .i64 t) := KB.out.cell 3
      have kbl : w.heap.size < x2.heap.size := KB.out.lt
      have kz0 : x2.cell? ⟨w.heap.size + 1, 0, none⟩ = some (.int .i64 0) := KZ.out.cell 0
      have kz1 : x2.cell? ⟨w.heap.size + 1, 1, none⟩ = some (.int .i64 0) := KZ.out.cell 1
      have kz2 : x2.cell? ⟨w.heap.size + 1, 2, none⟩ = some (.int .i64 0) := KZ.out.cell 2
      have kz3 : x2.cell? ⟨w.heap.size + 1, 3, none⟩ = some (.int .i64 0) := KZ.out.cell 3
      have kzl : w.heap.size + 1 < x2.heap.size := KZ.out.lt
      go_wp2_with (with_reducible refine store_here (ty := 25) rfl ?_)
      refine halt_go ?_
      clear kb0 kb1 kb2 kb3 kbl kz0 kz1 kz2 kz3 kzl
      refine wpList_store_row rfl 25 _ _ rfl (w.heap.size) #[.int .i64 zr, .int .i64 zm, .int .i64 zl, .int .i64 zt] rfl rfl 25 #[.int .i64 r, .int .i64 m, .int .i64 l, .int .i64 t] KB.out sizeBu rfl (by simp [Value.oneCell']) ?_
      have KB := Lib.hid (Blk.row (cs := #[.int .i64 zr, .int .i64 zm, .int .i64 zl, .int .i64 zt]) KB.out); have KZ := Lib.hid (KZ.out.rowOther (g := w.heap.size) (by omega) #[.int .i64 zr, .int .i64 zm, .int .i64 zl, .int .i64 zt]); have HB := Lib.hid (Below.row HB.out (g := w.heap.size) (by omega) #[.int .i64 zr, .int .i64 zm, .int .i64 zl, .int .i64 zt])
      generalize x2.setRow (w.heap.size) #[.int .i64 zr, .int .i64 zm, .int .i64 zl, .int .i64 zt] = x3 at HB KB KZ ⊢
      by_cases hle : zl < n
      · obtain ⟨rfl, rfl⟩ := HNO.out (by simp; omega)
        have kb0 : x3.cell? ⟨w.heap.size, 0, none⟩ = some (.int .i64 zr) := KB.out.cell 0
        have kb1 : x3.cell? ⟨w.heap.size, 1, none⟩ = some (.int .i64 zm) := KB.out.cell 1
        have kb2 : x3.cell? ⟨w.heap.size, 2, none⟩ = some (.int .i64 zl) := KB.out.cell 2
        have kb3 : x3.cell? ⟨w.heap.size, 3, none⟩ = some (.int .i64 zt) := KB.out.cell 3
        have kbl : w.heap.size < x3.heap.size := KB.out.lt
        go_wp2_with (with_reducible refine store_here (ty := 25) rfl ?_)
        refine halt_go ?_
        clear kb0 kb1 kb2 kb3 kbl
        refine wpList_store_row rfl 25 _ _ rfl (w.heap.size + 1) #[.int .i64 zr, .int .i64 zm, .int .i64 zl, .int .i64 zt] rfl rfl 25 #[.int .i64 0, .int .i64 0, .int .i64 0, .int .i64 0] KZ.out sizeBu rfl (by simp [Value.oneCell']) ?_
        have KB := Lib.hid (KB.out.rowOther (g := w.heap.size + 1) (by omega) #[.int .i64 zr, .int .i64 zm, .int .i64 zl, .int .i64 zt]); have KZ := Lib.hid (Blk.row (cs := #[.int .i64 zr, .int .i64 zm, .int .i64 zl, .int .i64 zt]) KZ.out); have HB := Lib.hid (Below.row HB.out (g := w.heap.size + 1) (by omega) #[.int .i64 zr, .int .i64 zm, .int .i64 zl, .int .i64 zt])
        generalize x3.setRow (w.heap.size + 1) #[.int .i64 zr, .int .i64 zm, .int .i64 zl, .int .i64 zt] = x4 at HB KB KZ ⊢
        have kz0 : x4.cell? ⟨w.heap.size + 1, 0, none⟩ = some (.int .i64 zr) := KZ.out.cell 0
        have kz1 : x4.cell? ⟨w.heap.size + 1, 1, none⟩ = some (.int .i64 zm) := KZ.out.cell 1
        have kz2 : x4.cell? ⟨w.heap.size + 1, 2, none⟩ = some (.int .i64 zl) := KZ.out.cell 2
        have kz3 : x4.cell? ⟨w.heap.size + 1, 3, none⟩ = some (.int .i64 zt) := KZ.out.cell 3
        have kzl : w.heap.size + 1 < x4.heap.size := KZ.out.lt
        go_wp2_with fail
        exact bodyPost_ret (v := .tuple #[.agg #[.int .i64 zr, .int .i64 zm, .int .i64 zl, .int .i64 zt], .bool false]) (by simp [results, Try.results12, go_sem, kz0, kz1, kz2, kz3]) rfl ⟨rfl, HB.out⟩
      obtain ⟨rfl, rfl, hw⟩ := HYES.out (by simp) (by simp) hge h0 (by omega)
      have kb0 : x3.cell? ⟨w.heap.size, 0, none⟩ = some (.int .i64 zr) := KB.out.cell 0
      have kb1 : x3.cell? ⟨w.heap.size, 1, none⟩ = some (.int .i64 zm) := KB.out.cell 1
      have kb2 : x3.cell? ⟨w.heap.size, 2, none⟩ = some (.int .i64 zl) := KB.out.cell 2
      have kb3 : x3.cell? ⟨w.heap.size, 3, none⟩ = some (.int .i64 zt) := KB.out.cell 3
      have kbl : w.heap.size < x3.heap.size := KB.out.lt
      have kbf := KB.out.frozen
      have kby := KB.out.shape
      go_wp2_with (with_reducible refine store_here (ty := 25) rfl ?_)
      refine halt_go ?_
      clear kb0 kb1 kb2 kb3 kbl kbf kby
      have HB := Lib.hid ((HB.out.setCell (p := ⟨w.heap.size, 2, none⟩) (by simp <;> omega) (.int .i64 (zl - n)))); have KB := Lib.hid ((KB.out.set 2 (.int .i64 (zl - n)))); have KZ := Lib.hid ((KZ.out.other (j := 2) (g := w.heap.size) (by omega) (.int .i64 (zl - n))))
      generalize x3.setCell ⟨w.heap.size, 2, none⟩ (.int .i64 (zl - n)) = x4 at HB KB KZ ⊢
      refine wpList_store_row rfl 25 _ _ rfl (w.heap.size + 1) #[.int .i64 zr, .int .i64 zm, .int .i64 (zl - n), .int .i64 zt] rfl rfl 25 #[.int .i64 0, .int .i64 0, .int .i64 0, .int .i64 0] KZ.out sizeBu rfl (by simp [Value.oneCell']) ?_
      have KB := Lib.hid (KB.out.rowOther (g := w.heap.size + 1) (by omega) #[.int .i64 zr, .int .i64 zm, .int .i64 (zl - n), .int .i64 zt]); have KZ := Lib.hid (Blk.row (cs := #[.int .i64 zr, .int .i64 zm, .int .i64 (zl - n), .int .i64 zt]) KZ.out); have HB := Lib.hid (Below.row HB.out (g := w.heap.size + 1) (by omega) #[.int .i64 zr, .int .i64 zm, .int .i64 (zl - n), .int .i64 zt])
      generalize x4.setRow (w.heap.size + 1) #[.int .i64 zr, .int .i64 zm, .int .i64 (zl - n), .int .i64 zt] = x5 at HB KB KZ ⊢
      have kz0 : x5.cell? ⟨w.heap.size + 1, 0, none⟩ = some (.int .i64 zr) := KZ.out.cell 0
      have kz1 : x5.cell? ⟨w.heap.size + 1, 1, none⟩ = some (.int .i64 zm) := KZ.out.cell 1
      have kz2 : x5.cell? ⟨w.heap.size + 1, 2, none⟩ = some (.int .i64 (zl - n)) := KZ.out.cell 2
      have kz3 : x5.cell? ⟨w.heap.size + 1, 3, none⟩ = some (.int .i64 zt) := KZ.out.cell 3
      have kzl : w.heap.size + 1 < x5.heap.size := KZ.out.lt
      go_wp2_with fail
      exact bodyPost_ret (v := .tuple #[.agg #[.int .i64 zr, .int .i64 zm, .int .i64 (zl - n), .int .i64 zt], .bool true]) (by simp [results, Try.results12, go_sem, kz0, kz1, kz2, kz3]) rfl ⟨rfl, HB.out⟩
    obtain ⟨rfl, rfl⟩ := HNO.out (by simp; omega)
    clear kb0 kb1 kb2 kb3 kbl
    have kb0 : x1.cell? ⟨w.heap.size, 0, none⟩ = some (.int .i64 r) := KB.out.cell 0
    have kb1 : x1.cell? ⟨w.heap.size, 1, none⟩ = some (.int .i64 m) := KB.out.cell 1
    have kb2 : x1.cell? ⟨w.heap.size, 2, none⟩ = some (.int .i64 l) := KB.out.cell 2
    have kb3 : x1.cell? ⟨w.heap.size, 3, none⟩ = some (.int .i64 t) := KB.out.cell 3
    have kbl : w.heap.size < x1.heap.size := KB.out.lt
    go_wp2_with fail
    refine (HF.out _).mono ?_
    rintro e x2 ⟨rfl, hbq⟩
    clear kb0 kb1 kb2 kb3 kbl
    have KB := Lib.hid (KB.out.after hbq)
    have KZ := Lib.hid (KZ.out.after hbq)
    have HB := Lib.hid (HB.out.trans (hbq.mono HB.out.size))
    clear hbq
    have kb0 : x2.cell? ⟨w.heap.size, 0, none⟩ = some (.int .i64 r) := KB.out.cell 0
    have kb1 : x2.cell? ⟨w.heap.size, 1, none⟩ = some (.int .i64 m) := KB.out.cell 1
    have kb2 : x2.cell? ⟨w.heap.size, 2, none⟩ = some (.int .i64 l) := KB.out.cell 2
    have kb3 : x2.cell? ⟨w.heap.size, 3, none⟩ = some (.int .i64 t) := KB.out.cell 3
    have kbl : w.heap.size < x2.heap.size := KB.out.lt
    have kz0 : x2.cell? ⟨w.heap.size + 1, 0, none⟩ = some (.int .i64 0) := KZ.out.cell 0
    have kz1 : x2.cell? ⟨w.heap.size + 1, 1, none⟩ = some (.int .i64 0) := KZ.out.cell 1
    have kz2 : x2.cell? ⟨w.heap.size + 1, 2, none⟩ = some (.int .i64 0) := KZ.out.cell 2
    have kz3 : x2.cell? ⟨w.heap.size + 1, 3, none⟩ = some (.int .i64 0) := KZ.out.cell 3
    have kzl : w.heap.size + 1 < x2.heap.size := KZ.out.lt
    go_wp2_with (with_reducible refine store_here (ty := 25) rfl ?_)
    refine halt_go ?_
    clear kb0 kb1 kb2 kb3 kbl kz0 kz1 kz2 kz3 kzl
    refine wpList_store_row rfl 25 _ _ rfl (w.heap.size) #[.int .i64 zr, .int .i64 zm, .int .i64 zl, .int .i64 zt] rfl rfl 25 #[.int .i64 r, .int .i64 m, .int .i64 l, .int .i64 t] KB.out sizeBu rfl (by simp [Value.oneCell']) ?_
    have KB := Lib.hid (Blk.row (cs := #[.int .i64 zr, .int .i64 zm, .int .i64 zl, .int .i64 zt]) KB.out); have KZ := Lib.hid (KZ.out.rowOther (g := w.heap.size) (by omega) #[.int .i64 zr, .int .i64 zm, .int .i64 zl, .int .i64 zt]); have HB := Lib.hid (Below.row HB.out (g := w.heap.size) (by omega) #[.int .i64 zr, .int .i64 zm, .int .i64 zl, .int .i64 zt])
    generalize x2.setRow (w.heap.size) #[.int .i64 zr, .int .i64 zm, .int .i64 zl, .int .i64 zt] = x3 at HB KB KZ ⊢
    have kb0 : x3.cell? ⟨w.heap.size, 0, none⟩ = some (.int .i64 zr) := KB.out.cell 0
    have kb1 : x3.cell? ⟨w.heap.size, 1, none⟩ = some (.int .i64 zm) := KB.out.cell 1
    have kb2 : x3.cell? ⟨w.heap.size, 2, none⟩ = some (.int .i64 zl) := KB.out.cell 2
    have kb3 : x3.cell? ⟨w.heap.size, 3, none⟩ = some (.int .i64 zt) := KB.out.cell 3
    have kbl : w.heap.size < x3.heap.size := KB.out.lt
    go_wp2_with (with_reducible refine store_here (ty := 25) rfl ?_)
    refine halt_go ?_
    clear kb0 kb1 kb2 kb3 kbl
    refine wpList_store_row rfl 25 _ _ rfl (w.heap.size + 1) #[.int .i64 zr, .int .i64 zm, .int .i64 zl, .int .i64 zt] rfl rfl 25 #[.int .i64 0, .int .i64 0, .int .i64 0, .int .i64 0] KZ.out sizeBu rfl (by simp [Value.oneCell']) ?_
    have KB := Lib.hid (KB.out.rowOther (g := w.heap.size + 1) (by omega) #[.int .i64 zr, .int .i64 zm, .int .i64 zl, .int .i64 zt]); have KZ := Lib.hid (Blk.row (cs := #[.int .i64 zr, .int .i64 zm, .int .i64 zl, .int .i64 zt]) KZ.out); have HB := Lib.hid (Below.row HB.out (g := w.heap.size + 1) (by omega) #[.int .i64 zr, .int .i64 zm, .int .i64 zl, .int .i64 zt])
    generalize x3.setRow (w.heap.size + 1) #[.int .i64 zr, .int .i64 zm, .int .i64 zl, .int .i64 zt] = x4 at HB KB KZ ⊢
    have kz0 : x4.cell? ⟨w.heap.size + 1, 0, none⟩ = some (.int .i64 zr) := KZ.out.cell 0
    have kz1 : x4.cell? ⟨w.heap.size + 1, 1, none⟩ = some (.int .i64 zm) := KZ.out.cell 1
    have kz2 : x4.cell? ⟨w.heap.size + 1, 2, none⟩ = some (.int .i64 zl) := KZ.out.cell 2
    have kz3 : x4.cell? ⟨w.heap.size + 1, 3, none⟩ = some (.int .i64 zt) := KZ.out.cell 3
    have kzl : w.heap.size + 1 < x4.heap.size := KZ.out.lt
    go_wp2_with fail
    exact bodyPost_ret (v := .tuple #[.agg #[.int .i64 zr, .int .i64 zm, .int .i64 zl, .int .i64 zt], .bool false]) (by simp [results, Try.results12, go_sem, kz0, kz1, kz2, kz3]) rfl ⟨rfl, HB.out⟩
  obtain ⟨rfl, rfl⟩ := HNO.out (by simp; omega)
  clear kb0 kb1 kb2 kb3 kbl
  have kb0 : x1.cell? ⟨w.heap.size, 0, none⟩ = some (.int .i64 r) := KB.out.cell 0
  have kb1 : x1.cell? ⟨w.heap.size, 1, none⟩ = some (.int .i64 m) := KB.out.cell 1
  have kb2 : x1.cell? ⟨w.heap.size, 2, none⟩ = some (.int .i64 l) := KB.out.cell 2
  have kb3 : x1.cell? ⟨w.heap.size, 3, none⟩ = some (.int .i64 t) := KB.out.cell 3
  have kbl : w.heap.size < x1.heap.size := KB.out.lt
  go_wp2_with fail
  refine (HF.out _).mono ?_
  rintro e x2 ⟨rfl, hbq⟩
  clear kb0 kb1 kb2 kb3 kbl
  have KB := Lib.hid (KB.out.after hbq)
  have KZ := Lib.hid (KZ.out.after hbq)
  have HB := Lib.hid (HB.out.trans (hbq.mono HB.out.size))
  clear hbq
  have kb0 : x2.cell? ⟨w.heap.size, 0, none⟩ = some (.int .i64 r) := KB.out.cell 0
  have kb1 : x2.cell? ⟨w.heap.size, 1, none⟩ = some (.int .i64 m) := KB.out.cell 1
  have kb2 : x2.cell? ⟨w.heap.size, 2, none⟩ = some (.int .i64 l) := KB.out.cell 2
  have kb3 : x2.cell? ⟨w.heap.size, 3, none⟩ = some (.int .i64 t) := KB.out.cell 3
  have kbl : w.heap.size < x2.heap.size := KB.out.lt
  have kz0 : x2.cell? ⟨w.heap.size + 1, 0, none⟩ = some (.int .i64 0) := KZ.out.cell 0
  have kz1 : x2.cell? ⟨w.heap.size + 1, 1, none⟩ = some (.int .i64 0) := KZ.out.cell 1
  have kz2 : x2.cell? ⟨w.heap.size + 1, 2, none⟩ = some (.int .i64 0) := KZ.out.cell 2
  have kz3 : x2.cell? ⟨w.heap.size + 1, 3, none⟩ = some (.int .i64 0) := KZ.out.cell 3
  have kzl : w.heap.size + 1 < x2.heap.size := KZ.out.lt
  go_wp2_with (with_reducible refine store_here (ty := 25) rfl ?_)
  refine halt_go ?_
  clear kb0 kb1 kb2 kb3 kbl kz0 kz1 kz2 kz3 kzl
  refine wpList_store_row rfl 25 _ _ rfl (w.heap.size) #[.int .i64 zr, .int .i64 zm, .int .i64 zl, .int .i64 zt] rfl rfl 25 #[.int .i64 r, .int .i64 m, .int .i64 l, .int .i64 t] KB.out sizeBu rfl (by simp [Value.oneCell']) ?_
  have KB := Lib.hid (Blk.row (cs := #[.int .i64 zr, .int .i64 zm, .int .i64 zl, .int .i64 zt]) KB.out); have KZ := Lib.hid (KZ.out.rowOther (g := w.heap.size) (by omega) #[.int .i64 zr, .int .i64 zm, .int .i64 zl, .int .i64 zt]); have HB := Lib.hid (Below.row HB.out (g := w.heap.size) (by omega) #[.int .i64 zr, .int .i64 zm, .int .i64 zl, .int .i64 zt])
  generalize x2.setRow (w.heap.size) #[.int .i64 zr, .int .i64 zm, .int .i64 zl, .int .i64 zt] = x3 at HB KB KZ ⊢
  have kb0 : x3.cell? ⟨w.heap.size, 0, none⟩ = some (.int .i64 zr) := KB.out.cell 0
  have kb1 : x3.cell? ⟨w.heap.size, 1, none⟩ = some (.int .i64 zm) := KB.out.cell 1
  have kb2 : x3.cell? ⟨w.heap.size, 2, none⟩ = some (.int .i64 zl) := KB.out.cell 2
  have kb3 : x3.cell? ⟨w.heap.size, 3, none⟩ = some (.int .i64 zt) := KB.out.cell 3
  have kbl : w.heap.size < x3.heap.size := KB.out.lt
  go_wp2_with (with_reducible refine store_here (ty := 25) rfl ?_)
  refine halt_go ?_
  clear kb0 kb1 kb2 kb3 kbl
  refine wpList_store_row rfl 25 _ _ rfl (w.heap.size + 1) #[.int .i64 zr, .int .i64 zm, .int .i64 zl, .int .i64 zt] rfl rfl 25 #[.int .i64 0, .int .i64 0, .int .i64 0, .int .i64 0] KZ.out sizeBu rfl (by simp [Value.oneCell']) ?_
  have KB := Lib.hid (KB.out.rowOther (g := w.heap.size + 1) (by omega) #[.int .i64 zr, .int .i64 zm, .int .i64 zl, .int .i64 zt]); have KZ := Lib.hid (Blk.row (cs := #[.int .i64 zr, .int .i64 zm, .int .i64 zl, .int .i64 zt]) KZ.out); have HB := Lib.hid (Below.row HB.out (g := w.heap.size + 1) (by omega) #[.int .i64 zr, .int .i64 zm, .int .i64 zl, .int .i64 zt])
  generalize x3.setRow (w.heap.size + 1) #[.int .i64 zr, .int .i64 zm, .int .i64 zl, .int .i64 zt] = x4 at HB KB KZ ⊢
  have kz0 : x4.cell? ⟨w.heap.size + 1, 0, none⟩ = some (.int .i64 zr) := KZ.out.cell 0
  have kz1 : x4.cell? ⟨w.heap.size + 1, 1, none⟩ = some (.int .i64 zm) := KZ.out.cell 1
  have kz2 : x4.cell? ⟨w.heap.size + 1, 2, none⟩ = some (.int .i64 zl) := KZ.out.cell 2
  have kz3 : x4.cell? ⟨w.heap.size + 1, 3, none⟩ = some (.int .i64 zt) := KZ.out.cell 3
  have kzl : w.heap.size + 1 < x4.heap.size := KZ.out.lt
  go_wp2_with fail
  exact bodyPost_ret (v := .tuple #[.agg #[.int .i64 zr, .int .i64 zm, .int .i64 zl, .int .i64 zt], .bool false]) (by simp [results, Try.results12, go_sem, kz0, kz1, kz2, kz3]) rfl ⟨rfl, HB.out⟩
end Go.Proofs.Ytjpimcckpbpahaa
