/- Buckets: the program's chapter 7. -/
import Derived.Test.YtjpimcckpbpahaaBu
import Derived.Deep.RegionHeld3
namespace Go.Proofs.Ytjpimcckpbpahaa
open Go.RowKit

theorem tok_impl (x : Int) (w : World) : Calls Try.prog 30 #[.int .i64 x] w fun e w' => e = .returned (.bool (decide (0 ≤ x ∧ x ≤ 1000000))) ∧ w = w' := by
  obtain ⟨d, hd⟩ : ∃ d, decide (0 ≤ x ∧ x ≤ 1000000) = d := ⟨_, rfl⟩
  rw [hd]
  by_cases h0 : 0 ≤ x
  · by_cases h1 : x ≤ 1000000
    · obtain rfl : d = true := by rw [← hd]; exact decide_eq_true (by omega)
      clear hd
      go_enter Try.func30, Try.ntmps30
      go_wp2_with fail
      go_ret
      exact ⟨rfl, rfl⟩
    · obtain rfl : d = false := by rw [← hd]; exact decide_eq_false (by omega)
      clear hd
      go_enter Try.func30, Try.ntmps30
      go_wp2_with fail
      go_ret
      exact ⟨rfl, rfl⟩
  · obtain rfl : d = false := by rw [← hd]; exact decide_eq_false (by omega)
    clear hd
    go_enter Try.func30, Try.ntmps30
    go_wp2_with fail
    go_ret
    exact ⟨rfl, rfl⟩
theorem keep_level (l : Int) (w : World) : Calls Try.prog 29 #[.int .i64 l] w fun e w' => e = .returned (.tuple #[.int .i64 l, .bool true]) ∧ Below w.heap.size w w' := by
  go_enter Try.func29, Try.ntmps29
  go_wp2_with fail
  exact bodyPost_ret (v := .tuple #[.int .i64 l, .bool true]) (by simp [results, Try.results29, go_sem]) rfl ⟨rfl, Below.refl _ _⟩
theorem take_level (l n : Int) (nb : Nat) (w : World) (hc : w.cell? ⟨nb, 0, none⟩ = some (.int .i64 n)) : Calls Try.prog 27 #[.int .i64 l, .pointer (some ⟨nb, 0, none⟩)] w fun e w' => e = .returned (.tuple #[.int .i64 (IntKind.i64.wrap (l - n)), .bool (decide (0 ≤ n ∧ n ≤ l))]) ∧ Below w.heap.size w w' := by
  by_cases h0 : 0 ≤ n
  · by_cases h1 : n ≤ l
    · rw [show decide (0 ≤ n ∧ n ≤ l) = true from decide_eq_true ⟨h0, h1⟩]
      go_enter Try.func27, Try.ntmps27
      go_wp2_with fail
      go_region
      go_wp2_with fail
      exact bodyPost_ret (v := .tuple #[.int .i64 (IntKind.i64.wrap (l - n)), .bool true]) (by simp [results, Try.results27, go_sem] <;> first | exact (IntWalk.i64_left _).symm | exact ⟨(IntWalk.i64_left _).symm, by omega⟩) rfl ⟨rfl, Below.drew (Below.refl _ _)⟩
    · rw [show decide (0 ≤ n ∧ n ≤ l) = false from decide_eq_false (fun h => h1 h.2)]
      go_enter Try.func27, Try.ntmps27
      go_wp2_with fail
      go_region
      go_wp2_with fail
      exact bodyPost_ret (v := .tuple #[.int .i64 (IntKind.i64.wrap (l - n)), .bool false]) (by simp [results, Try.results27, go_sem] <;> first | exact (IntWalk.i64_left _).symm | exact ⟨(IntWalk.i64_left _).symm, by omega⟩) rfl ⟨rfl, Below.drew (Below.refl _ _)⟩
  · rw [show decide (0 ≤ n ∧ n ≤ l) = false from decide_eq_false (fun h => h0 h.1)]
    have hd0 : decide (0 ≤ n) = false := decide_eq_false h0
    go_enter Try.func27, Try.ntmps27
    go_wp2_with fail
    go_region
    go_wp2_with fail
    exact bodyPost_ret (v := .tuple #[.int .i64 (IntKind.i64.wrap (l - n)), .bool false]) (by simp [results, Try.results27, go_sem] <;> first | exact (IntWalk.i64_left _).symm | exact ⟨(IntWalk.i64_left _).symm, by omega⟩) rfl ⟨rfl, Below.drew (Below.refl _ _)⟩

set_option linter.unusedSimpArgs false in
set_option maxRecDepth 20000 in
set_option maxHeartbeats 4000000 in
theorem bucketOk_impl (b : Bu) (w : World) : Calls Try.prog 15 #[b.val] w fun e w' => e = .returned (.bool (decide (buOk b))) ∧ Below w.heap.size w w' := by
  obtain ⟨r, m, l, t⟩ := b
  rw [buOk_and]
  have h1 := tok_impl r
  have h2 := tok_impl m
  have h4 := time_impl t
  generalize decide (0 ≤ r ∧ r ≤ 1000000) = d1 at h1 ⊢
  generalize decide (0 ≤ m ∧ m ≤ 1000000) = d2 at h2 ⊢
  obtain ⟨d3, hd3⟩ : ∃ d, decide (0 ≤ l ∧ l ≤ m) = d := ⟨_, rfl⟩
  rw [hd3]
  have HD3 := Lib.hid hd3
  clear hd3
  generalize decide (0 ≤ t ∧ t ≤ 1000000000) = d4 at h4 ⊢
  unfold Bu.val
  have H1 := Lib.hid h1; have H2 := Lib.hid h2; have H4 := Lib.hid h4
  have hB : Below w.heap.size w (w.alloc (.cells #[.int .i64 r, .int .i64 m, .int .i64 l, .int .i64 t] 25)) := ((Below.refl _ _).alloc (by simp) _)
  have hKB : Blk (w.alloc (.cells #[.int .i64 r, .int .i64 m, .int .i64 l, .int .i64 t] 25)) (w.heap.size) #[.int .i64 r, .int .i64 m, .int .i64 l, .int .i64 t] 25 := (blk_new _ _ (by simp))
  have HB := Lib.hid hB; have KB := Lib.hid hKB
  clear hB hKB h1 h2 h4
  go_enter Try.func15, Try.ntmps15
  go_wp2_with fail
  refine (H1.out _).mono ?_
  rintro e ww ⟨rfl, rfl⟩
  cases d1
  · go_wp2_with fail
    go_ret
    exact ⟨rfl, HB.out⟩
  go_wp2_with fail
  refine (H2.out _).mono ?_
  rintro e ww ⟨rfl, rfl⟩
  cases d2
  · go_wp2_with fail
    go_ret
    exact ⟨rfl, HB.out⟩
  by_cases k0 : 0 ≤ l
  · by_cases k1 : l ≤ m
    · obtain rfl : d3 = true := by rw [← HD3.out]; exact decide_eq_true ⟨k0, k1⟩
      go_wp2_with fail
      refine (H4.out _).mono ?_
      rintro e ww ⟨rfl, rfl⟩
      cases d4
      · go_wp2_with fail
        go_ret
        exact ⟨rfl, HB.out⟩
      go_wp2_with fail
      go_ret
      exact ⟨rfl, HB.out⟩
    obtain rfl : d3 = false := by rw [← HD3.out]; exact decide_eq_false (fun h => k1 h.2)
    go_wp2_with fail
    go_ret
    exact ⟨rfl, HB.out⟩
  obtain rfl : d3 = false := by rw [← HD3.out]; exact decide_eq_false (fun h => k0 h.1)
  go_wp2_with fail
  go_ret
  exact ⟨rfl, HB.out⟩

set_option linter.unusedSimpArgs false in
set_option maxRecDepth 20000 in
set_option maxHeartbeats 4000000 in
theorem newBucket_impl (r m t : Int) (w : World) : Calls Try.prog 18 #[.int .i64 r, .int .i64 m, .int .i64 t] w fun e w' => e = .returned (newBu r m t).val ∧ Below w.heap.size w w' := by
  have hk := bucketOk_impl ⟨r, m, m, t⟩
  unfold newBu
  unfold Bu.val at hk
  simp only at hk
  by_cases k : buOk ⟨r, m, m, t⟩
  · rw [decide_eq_true k] at hk
    rw [if_pos k]
    unfold Bu.val
    have HK := Lib.hid hk
    have hB : Below w.heap.size w ((w.alloc (.cells #[.int .i64 0, .int .i64 0, .int .i64 0, .int .i64 0] 25)).alloc (.cells #[.int .i64 r, .int .i64 m, .int .i64 m, .int .i64 t] 25)) := (((Below.refl _ _).alloc (by simp) _).alloc (by simp) _)
    have hKZ : Blk ((w.alloc (.cells #[.int .i64 0, .int .i64 0, .int .i64 0, .int .i64 0] 25)).alloc (.cells #[.int .i64 r, .int .i64 m, .int .i64 m, .int .i64 t] 25)) (w.heap.size) #[.int .i64 0, .int .i64 0, .int .i64 0, .int .i64 0] 25 := ((blk_new _ _ (by simp)).alloc _)
    have hKB : Blk ((w.alloc (.cells #[.int .i64 0, .int .i64 0, .int .i64 0, .int .i64 0] 25)).alloc (.cells #[.int .i64 r, .int .i64 m, .int .i64 m, .int .i64 t] 25)) (w.heap.size + 1) #[.int .i64 r, .int .i64 m, .int .i64 m, .int .i64 t] 25 := (blk_new _ _ (by simp))
    have HB := Lib.hid hB; have KZ := Lib.hid hKZ; have KB := Lib.hid hKB
    clear hB hKZ hKB hk k
    go_enter Try.func18, Try.ntmps18
    go_wp2_with fail
    refine (HK.out _).mono ?_
    rintro e x1 ⟨rfl, hbq⟩
    have KZ := Lib.hid (KZ.out.after hbq)
    have KB := Lib.hid (KB.out.after hbq)
    have HB := Lib.hid (HB.out.trans (hbq.mono HB.out.size))
    clear hbq
    have kb0 : x1.cell? ⟨w.heap.size + 1, 0, none⟩ = some (.int .i64 r) := KB.out.cell 0
    have kb1 : x1.cell? ⟨w.heap.size + 1, 1, none⟩ = some (.int .i64 m) := KB.out.cell 1
    have kb2 : x1.cell? ⟨w.heap.size + 1, 2, none⟩ = some (.int .i64 m) := KB.out.cell 2
    have kb3 : x1.cell? ⟨w.heap.size + 1, 3, none⟩ = some (.int .i64 t) := KB.out.cell 3
    have kbl : w.heap.size + 1 < x1.heap.size := KB.out.lt
    go_wp2_with (with_reducible refine store_here (ty := 25) rfl ?_)
    refine halt_go ?_
    clear kb0 kb1 kb2 kb3 kbl
    refine wpList_store_row rfl 25 _ _ rfl (w.heap.size) #[.int .i64 r, .int .i64 m, .int .i64 m, .int .i64 t] rfl rfl 25 #[.int .i64 0, .int .i64 0, .int .i64 0, .int .i64 0] KZ.out sizeBu rfl (by simp [Value.oneCell']) ?_
    have KZ := Lib.hid (Blk.row (cs := #[.int .i64 r, .int .i64 m, .int .i64 m, .int .i64 t]) KZ.out); have KB := Lib.hid (KB.out.rowOther (g := w.heap.size) (by omega) #[.int .i64 r, .int .i64 m, .int .i64 m, .int .i64 t]); have HB := Lib.hid (Below.row HB.out (g := w.heap.size) (by omega) #[.int .i64 r, .int .i64 m, .int .i64 m, .int .i64 t])
    generalize x1.setRow (w.heap.size) #[.int .i64 r, .int .i64 m, .int .i64 m, .int .i64 t] = x2 at HB KZ KB ⊢
    have kz0 : x2.cell? ⟨w.heap.size, 0, none⟩ = some (.int .i64 r) := KZ.out.cell 0
    have kz1 : x2.cell? ⟨w.heap.size, 1, none⟩ = some (.int .i64 m) := KZ.out.cell 1
    have kz2 : x2.cell? ⟨w.heap.size, 2, none⟩ = some (.int .i64 m) := KZ.out.cell 2
    have kz3 : x2.cell? ⟨w.heap.size, 3, none⟩ = some (.int .i64 t) := KZ.out.cell 3
    have kzl : w.heap.size < x2.heap.size := KZ.out.lt
    go_wp2_with fail
    exact bodyPost_ret (v := .agg #[.int .i64 r, .int .i64 m, .int .i64 m, .int .i64 t]) (by simp [results, Try.results18, go_sem, kz0, kz1, kz2, kz3]) rfl ⟨rfl, HB.out⟩
  · rw [decide_eq_false k] at hk
    rw [if_neg k]
    unfold Bu.val Bu.zero
    have HK := Lib.hid hk
    have hB : Below w.heap.size w ((w.alloc (.cells #[.int .i64 0, .int .i64 0, .int .i64 0, .int .i64 0] 25)).alloc (.cells #[.int .i64 r, .int .i64 m, .int .i64 m, .int .i64 t] 25)) := (((Below.refl _ _).alloc (by simp) _).alloc (by simp) _)
    have hKZ : Blk ((w.alloc (.cells #[.int .i64 0, .int .i64 0, .int .i64 0, .int .i64 0] 25)).alloc (.cells #[.int .i64 r, .int .i64 m, .int .i64 m, .int .i64 t] 25)) (w.heap.size) #[.int .i64 0, .int .i64 0, .int .i64 0, .int .i64 0] 25 := ((blk_new _ _ (by simp)).alloc _)
    have hKB : Blk ((w.alloc (.cells #[.int .i64 0, .int .i64 0, .int .i64 0, .int .i64 0] 25)).alloc (.cells #[.int .i64 r, .int .i64 m, .int .i64 m, .int .i64 t] 25)) (w.heap.size + 1) #[.int .i64 r, .int .i64 m, .int .i64 m, .int .i64 t] 25 := (blk_new _ _ (by simp))
    have HB := Lib.hid hB; have KZ := Lib.hid hKZ; have KB := Lib.hid hKB
    clear hB hKZ hKB hk k
    go_enter Try.func18, Try.ntmps18
    go_wp2_with fail
    refine (HK.out _).mono ?_
    rintro e x1 ⟨rfl, hbq⟩
    have KZ := Lib.hid (KZ.out.after hbq)
    have KB := Lib.hid (KB.out.after hbq)
    have HB := Lib.hid (HB.out.trans (hbq.mono HB.out.size))
    clear hbq
    have kb0 : x1.cell? ⟨w.heap.size + 1, 0, none⟩ = some (.int .i64 r) := KB.out.cell 0
    have kb1 : x1.cell? ⟨w.heap.size + 1, 1, none⟩ = some (.int .i64 m) := KB.out.cell 1
    have kb2 : x1.cell? ⟨w.heap.size + 1, 2, none⟩ = some (.int .i64 m) := KB.out.cell 2
    have kb3 : x1.cell? ⟨w.heap.size + 1, 3, none⟩ = some (.int .i64 t) := KB.out.cell 3
    have kbl : w.heap.size + 1 < x1.heap.size := KB.out.lt
    go_wp2_with (with_reducible refine store_here (ty := 25) rfl ?_)
    refine halt_go ?_
    clear kb0 kb1 kb2 kb3 kbl
    refine wpList_store_row rfl 25 _ _ rfl (w.heap.size) #[.int .i64 0, .int .i64 0, .int .i64 0, .int .i64 0] rfl rfl 25 #[.int .i64 0, .int .i64 0, .int .i64 0, .int .i64 0] KZ.out sizeBu rfl (by simp [Value.oneCell']) ?_
    have KZ := Lib.hid (Blk.row (cs := #[.int .i64 0, .int .i64 0, .int .i64 0, .int .i64 0]) KZ.out); have KB := Lib.hid (KB.out.rowOther (g := w.heap.size) (by omega) #[.int .i64 0, .int .i64 0, .int .i64 0, .int .i64 0]); have HB := Lib.hid (Below.row HB.out (g := w.heap.size) (by omega) #[.int .i64 0, .int .i64 0, .int .i64 0, .int .i64 0])
    generalize x1.setRow (w.heap.size) #[.int .i64 0, .int .i64 0, .int .i64 0, .int .i64 0] = x2 at HB KZ KB ⊢
    have kz0 : x2.cell? ⟨w.heap.size, 0, none⟩ = some (.int .i64 0) := KZ.out.cell 0
    have kz1 : x2.cell? ⟨w.heap.size, 1, none⟩ = some (.int .i64 0) := KZ.out.cell 1
    have kz2 : x2.cell? ⟨w.heap.size, 2, none⟩ = some (.int .i64 0) := KZ.out.cell 2
    have kz3 : x2.cell? ⟨w.heap.size, 3, none⟩ = some (.int .i64 0) := KZ.out.cell 3
    have kzl : w.heap.size < x2.heap.size := KZ.out.lt
    go_wp2_with fail
    exact bodyPost_ret (v := .agg #[.int .i64 0, .int .i64 0, .int .i64 0, .int .i64 0]) (by simp [results, Try.results18, go_sem, kz0, kz1, kz2, kz3]) rfl ⟨rfl, HB.out⟩

set_option linter.unusedSimpArgs false in
set_option maxRecDepth 20000 in
set_option maxHeartbeats 4000000 in
theorem drawAt_fill (b : Bu) (now : Int) (w : World) : Calls Try.prog 26 #[b.val, .int .i64 now, .func (.func 29) #[] #[]] w fun e w' => e = .returned (.tuple #[(fillBu b now).val, .bool (decide (buMay b now))]) ∧ Below w.heap.size w w' := by
  have hk := bucketOk_impl b
  have hn := time_impl now
  obtain ⟨d1, hd1⟩ : ∃ d, decide (buOk b) = d := ⟨_, rfl⟩
  obtain ⟨d2, hd2⟩ : ∃ d, decide (0 ≤ now ∧ now ≤ 1000000000) = d := ⟨_, rfl⟩
  rw [hd1] at hk
  rw [hd2] at hn
  obtain ⟨y, hy⟩ : ∃ y, fillBu b now = y := ⟨_, rfl⟩
  obtain ⟨ok, hok⟩ : ∃ k, decide (buMay b now) = k := ⟨_, rfl⟩
  rw [hy, hok]
  obtain ⟨lv, hlv⟩ : ∃ lv, lvOf b now = lv := ⟨_, rfl⟩
  have hfl : buMay b now → fillBu b now = ⟨b.rate, b.burst, lv, now⟩ := fun h => by rw [← hlv]; exact if_pos h
  have hfn : ¬ buMay b now → fillBu b now = b := fun h => if_neg h
  have hno : ¬ (d1 = true ∧ d2 = true ∧ b.tm ≤ now) → y = b ∧ ok = false := fun k => by
    have hm : ¬ buMay b now := fun h => k ⟨hd1 ▸ decide_eq_true h.1, hd2 ▸ decide_eq_true h.2.1, h.2.2⟩
    exact ⟨by rw [← hy]; exact hfn hm, by rw [← hok]; exact decide_eq_false hm⟩
  have hmay : d1 = true → d2 = true → b.tm ≤ now → buMay b now := fun k1 k2 k3 => ⟨of_decide_eq_true (hd1.trans k1), of_decide_eq_true (hd2.trans k2), k3⟩
  have hy1 : buMay b now → y = ⟨b.rate, b.burst, lv, now⟩ ∧ ok = true := fun hm => ⟨by rw [← hy]; exact hfl hm, by rw [← hok]; exact decide_eq_true hm⟩
  unfold lvOf at hlv
  obtain ⟨r, m, l, t⟩ := b
  unfold Bu.val at hk ⊢
  simp only at hk hno hmay hy1 hlv
  have HK := Lib.hid hk; have HN := Lib.hid hn; have HNO := Lib.hid hno; have HMAY := Lib.hid hmay; have HY1 := Lib.hid hy1; have HLV := Lib.hid hlv
  have hB : Below w.heap.size w ((w.alloc (.cells #[.int .i64 r, .int .i64 m, .int .i64 l, .int .i64 t] 25)).alloc (.cells #[.int .i64 0, .int .i64 0, .int .i64 0, .int .i64 0] 25)) := (((Below.refl _ _).alloc (by simp) _).alloc (by simp) _)
  have hKB : Blk ((w.alloc (.cells #[.int .i64 r, .int .i64 m, .int .i64 l, .int .i64 t] 25)).alloc (.cells #[.int .i64 0, .int .i64 0, .int .i64 0, .int .i64 0] 25)) (w.heap.size) #[.int .i64 r, .int .i64 m, .int .i64 l, .int .i64 t] 25 := ((blk_new _ _ (by simp)).alloc _)
  have hKZ : Blk ((w.alloc (.cells #[.int .i64 r, .int .i64 m, .int .i64 l, .int .i64 t] 25)).alloc (.cells #[.int .i64 0, .int .i64 0, .int .i64 0, .int .i64 0] 25)) (w.heap.size + 1) #[.int .i64 0, .int .i64 0, .int .i64 0, .int .i64 0] 25 := (blk_new _ _ (by simp))
  have HB := Lib.hid hB; have KB := Lib.hid hKB; have KZ := Lib.hid hKZ
  clear hB hKB hKZ hk hn hno hmay hy1 hlv hd1 hd2 hy hok hfl hfn
  go_enter Try.func26, Try.ntmps26
  go_wp2_with fail
  refine (HK.out _).mono ?_
  rintro e x1 ⟨rfl, hbq⟩
  have KB := Lib.hid (KB.out.after hbq)
  have KZ := Lib.hid (KZ.out.after hbq)
  have HB := Lib.hid (HB.out.trans (hbq.mono HB.out.size))
  clear hbq
  cases d1
  · obtain ⟨rfl, rfl⟩ := HNO.out (by simp)
    have kb0 : x1.cell? ⟨w.heap.size, 0, none⟩ = some (.int .i64 r) := KB.out.cell 0
    have kb1 : x1.cell? ⟨w.heap.size, 1, none⟩ = some (.int .i64 m) := KB.out.cell 1
    have kb2 : x1.cell? ⟨w.heap.size, 2, none⟩ = some (.int .i64 l) := KB.out.cell 2
    have kb3 : x1.cell? ⟨w.heap.size, 3, none⟩ = some (.int .i64 t) := KB.out.cell 3
    have kbl : w.heap.size < x1.heap.size := KB.out.lt
    go_wp2_with (with_reducible refine store_here (ty := 25) rfl ?_)
    refine halt_go ?_
    clear kb0 kb1 kb2 kb3 kbl
    refine wpList_store_row rfl 25 _ _ rfl (w.heap.size + 1) #[.int .i64 r, .int .i64 m, .int .i64 l, .int .i64 t] rfl rfl 25 #[.int .i64 0, .int .i64 0, .int .i64 0, .int .i64 0] KZ.out sizeBu rfl (by simp [Value.oneCell']) ?_
    have KB := Lib.hid (KB.out.rowOther (g := w.heap.size + 1) (by omega) #[.int .i64 r, .int .i64 m, .int .i64 l, .int .i64 t]); have KZ := Lib.hid (Blk.row (cs := #[.int .i64 r, .int .i64 m, .int .i64 l, .int .i64 t]) KZ.out); have HB := Lib.hid (Below.row HB.out (g := w.heap.size + 1) (by omega) #[.int .i64 r, .int .i64 m, .int .i64 l, .int .i64 t])
    generalize x1.setRow (w.heap.size + 1) #[.int .i64 r, .int .i64 m, .int .i64 l, .int .i64 t] = x2 at HB KB KZ ⊢
    have kz0 : x2.cell? ⟨w.heap.size + 1, 0, none⟩ = some (.int .i64 r) := KZ.out.cell 0
    have kz1 : x2.cell? ⟨w.heap.size + 1, 1, none⟩ = some (.int .i64 m) := KZ.out.cell 1
    have kz2 : x2.cell? ⟨w.heap.size + 1, 2, none⟩ = some (.int .i64 l) := KZ.out.cell 2
    have kz3 : x2.cell? ⟨w.heap.size + 1, 3, none⟩ = some (.int .i64 t) := KZ.out.cell 3
    have kzl : w.heap.size + 1 < x2.heap.size := KZ.out.lt
    go_wp2_with fail
    exact bodyPost_ret (v := .tuple #[.agg #[.int .i64 r, .int .i64 m, .int .i64 l, .int .i64 t], .bool false]) (by simp [results, Try.results26, go_sem, kz0, kz1, kz2, kz3]) rfl ⟨rfl, HB.out⟩
  have kb0 : x1.cell? ⟨w.heap.size, 0, none⟩ = some (.int .i64 r) := KB.out.cell 0
  have kb1 : x1.cell? ⟨w.heap.size, 1, none⟩ = some (.int .i64 m) := KB.out.cell 1
  have kb2 : x1.cell? ⟨w.heap.size, 2, none⟩ = some (.int .i64 l) := KB.out.cell 2
  have kb3 : x1.cell? ⟨w.heap.size, 3, none⟩ = some (.int .i64 t) := KB.out.cell 3
  have kbl : w.heap.size < x1.heap.size := KB.out.lt
  go_wp2_with fail
  refine (HN.out _).mono ?_
  rintro e ww ⟨rfl, rfl⟩
  cases d2
  · obtain ⟨rfl, rfl⟩ := HNO.out (by simp)
    clear kb0 kb1 kb2 kb3 kbl
    have kb0 : x1.cell? ⟨w.heap.size, 0, none⟩ = some (.int .i64 r) := KB.out.cell 0
    have kb1 : x1.cell? ⟨w.heap.size, 1, none⟩ = some (.int .i64 m) := KB.out.cell 1
    have kb2 : x1.cell? ⟨w.heap.size, 2, none⟩ = some (.int .i64 l) := KB.out.cell 2
    have kb3 : x1.cell? ⟨w.heap.size, 3, none⟩ = some (.int .i64 t) := KB.out.cell 3
    have kbl : w.heap.size < x1.heap.size := KB.out.lt
    go_wp2_with (with_reducible refine store_here (ty := 25) rfl ?_)
    refine halt_go ?_
    clear kb0 kb1 kb2 kb3 kbl
    refine wpList_store_row rfl 25 _ _ rfl (w.heap.size + 1) #[.int .i64 r, .int .i64 m, .int .i64 l, .int .i64 t] rfl rfl 25 #[.int .i64 0, .int .i64 0, .int .i64 0, .int .i64 0] KZ.out sizeBu rfl (by simp [Value.oneCell']) ?_
    have KB := Lib.hid (KB.out.rowOther (g := w.heap.size + 1) (by omega) #[.int .i64 r, .int .i64 m, .int .i64 l, .int .i64 t]); have KZ := Lib.hid (Blk.row (cs := #[.int .i64 r, .int .i64 m, .int .i64 l, .int .i64 t]) KZ.out); have HB := Lib.hid (Below.row HB.out (g := w.heap.size + 1) (by omega) #[.int .i64 r, .int .i64 m, .int .i64 l, .int .i64 t])
    generalize x1.setRow (w.heap.size + 1) #[.int .i64 r, .int .i64 m, .int .i64 l, .int .i64 t] = x2 at HB KB KZ ⊢
    have kz0 : x2.cell? ⟨w.heap.size + 1, 0, none⟩ = some (.int .i64 r) := KZ.out.cell 0
    have kz1 : x2.cell? ⟨w.heap.size + 1, 1, none⟩ = some (.int .i64 m) := KZ.out.cell 1
    have kz2 : x2.cell? ⟨w.heap.size + 1, 2, none⟩ = some (.int .i64 l) := KZ.out.cell 2
    have kz3 : x2.cell? ⟨w.heap.size + 1, 3, none⟩ = some (.int .i64 t) := KZ.out.cell 3
    have kzl : w.heap.size + 1 < x2.heap.size := KZ.out.lt
    go_wp2_with fail
    exact bodyPost_ret (v := .tuple #[.agg #[.int .i64 r, .int .i64 m, .int .i64 l, .int .i64 t], .bool false]) (by simp [results, Try.results26, go_sem, kz0, kz1, kz2, kz3]) rfl ⟨rfl, HB.out⟩
  by_cases hlt : now < t
  · obtain ⟨rfl, rfl⟩ := HNO.out (by simp; omega)
    clear kb0 kb1 kb2 kb3 kbl
    have kb0 : x1.cell? ⟨w.heap.size, 0, none⟩ = some (.int .i64 r) := KB.out.cell 0
    have kb1 : x1.cell? ⟨w.heap.size, 1, none⟩ = some (.int .i64 m) := KB.out.cell 1
    have kb2 : x1.cell? ⟨w.heap.size, 2, none⟩ = some (.int .i64 l) := KB.out.cell 2
    have kb3 : x1.cell? ⟨w.heap.size, 3, none⟩ = some (.int .i64 t) := KB.out.cell 3
    have kbl : w.heap.size < x1.heap.size := KB.out.lt
    go_wp2_with (with_reducible refine store_here (ty := 25) rfl ?_)
    refine halt_go ?_
    clear kb0 kb1 kb2 kb3 kbl
    refine wpList_store_row rfl 25 _ _ rfl (w.heap.size + 1) #[.int .i64 r, .int .i64 m, .int .i64 l, .int .i64 t] rfl rfl 25 #[.int .i64 0, .int .i64 0, .int .i64 0, .int .i64 0] KZ.out sizeBu rfl (by simp [Value.oneCell']) ?_
    have KB := Lib.hid (KB.out.rowOther (g := w.heap.size + 1) (by omega) #[.int .i64 r, .int .i64 m, .int .i64 l, .int .i64 t]); have KZ := Lib.hid (Blk.row (cs := #[.int .i64 r, .int .i64 m, .int .i64 l, .int .i64 t]) KZ.out); have HB := Lib.hid (Below.row HB.out (g := w.heap.size + 1) (by omega) #[.int .i64 r, .int .i64 m, .int .i64 l, .int .i64 t])
    generalize x1.setRow (w.heap.size + 1) #[.int .i64 r, .int .i64 m, .int .i64 l, .int .i64 t] = x2 at HB KB KZ ⊢
    have kz0 : x2.cell? ⟨w.heap.size + 1, 0, none⟩ = some (.int .i64 r) := KZ.out.cell 0
    have kz1 : x2.cell? ⟨w.heap.size + 1, 1, none⟩ = some (.int .i64 m) := KZ.out.cell 1
    have kz2 : x2.cell? ⟨w.heap.size + 1, 2, none⟩ = some (.int .i64 l) := KZ.out.cell 2
    have kz3 : x2.cell? ⟨w.heap.size + 1, 3, none⟩ = some (.int .i64 t) := KZ.out.cell 3
    have kzl : w.heap.size + 1 < x2.heap.size := KZ.out.lt
    go_wp2_with fail
    exact bodyPost_ret (v := .tuple #[.agg #[.int .i64 r, .int .i64 m, .int .i64 l, .int .i64 t], .bool false]) (by simp [results, Try.results26, go_sem, kz0, kz1, kz2, kz3]) rfl ⟨rfl, HB.out⟩
  have hm := HMAY.out (by simp) (by simp) (by omega)
  obtain ⟨q1, q2, q3, q4⟩ := bu_small hm
  have HY := Lib.hid (HY1.out hm)
  clear hm HY1
  by_cases hb : m < l + r * (now - t)
  · obtain rfl := (HLV.out.symm.trans (if_pos hb)).symm
    clear HLV
    clear kb0 kb1 kb2 kb3 kbl
    have kb0 : x1.cell? ⟨w.heap.size, 0, none⟩ = some (.int .i64 r) := KB.out.cell 0
    have kb1 : x1.cell? ⟨w.heap.size, 1, none⟩ = some (.int .i64 m) := KB.out.cell 1
    have kb2 : x1.cell? ⟨w.heap.size, 2, none⟩ = some (.int .i64 l) := KB.out.cell 2
    have kb3 : x1.cell? ⟨w.heap.size, 3, none⟩ = some (.int .i64 t) := KB.out.cell 3
    have kbl : w.heap.size < x1.heap.size := KB.out.lt
    have kbf := KB.out.frozen
    have kby := KB.out.shape
    go_wp2_with fail
    clear kb0 kb1 kb2 kb3 kbl kbf kby
    have HB := Lib.hid (((HB.out.setCell (p := ⟨w.heap.size, 2, none⟩) (by simp <;> omega) (.int .i64 (m))).setCell (p := ⟨w.heap.size, 3, none⟩) (by simp <;> omega) (.int .i64 now))); have KB := Lib.hid (((KB.out.set 2 (.int .i64 (m))).set 3 (.int .i64 now))); have KZ := Lib.hid (((KZ.out.other (j := 2) (g := w.heap.size) (by omega) (.int .i64 (m))).other (j := 3) (g := w.heap.size) (by omega) (.int .i64 now)))
    generalize (x1.setCell ⟨w.heap.size, 2, none⟩ (.int .i64 (m))).setCell ⟨w.heap.size, 3, none⟩ (.int .i64 now) = x2 at HB KB KZ ⊢
    refine (keep_level _ _).mono ?_
    rintro e x3 ⟨rfl, hbq⟩
    have KB := Lib.hid (KB.out.after hbq)
    have KZ := Lib.hid (KZ.out.after hbq)
    have HB := Lib.hid (HB.out.trans (hbq.mono HB.out.size))
    clear hbq
    obtain ⟨rfl, rfl⟩ := HY.out
    have kb0 : x3.cell? ⟨w.heap.size, 0, none⟩ = some (.int .i64 r) := KB.out.cell 0
    have kb1 : x3.cell? ⟨w.heap.size, 1, none⟩ = some (.int .i64 m) := KB.out.cell 1
    have kb2 : x3.cell? ⟨w.heap.size, 2, none⟩ = some (.int .i64 (m)) := KB.out.cell 2
    have kb3 : x3.cell? ⟨w.heap.size, 3, none⟩ = some (.int .i64 now) := KB.out.cell 3
    have kbl : w.heap.size < x3.heap.size := KB.out.lt
    have kbf := KB.out.frozen
    have kby := KB.out.shape
    go_wp2_with (with_reducible refine store_here (ty := 25) rfl ?_)
    refine halt_go ?_
    clear kb0 kb1 kb2 kb3 kbl kbf kby
    have HB := Lib.hid ((HB.out.setCell (p := ⟨w.heap.size, 2, none⟩) (by simp <;> omega) (.int .i64 (m)))); have KB := Lib.hid ((KB.out.set 2 (.int .i64 (m)))); have KZ := Lib.hid ((KZ.out.other (j := 2) (g := w.heap.size) (by omega) (.int .i64 (m))))
    generalize x3.setCell ⟨w.heap.size, 2, none⟩ (.int .i64 (m)) = x4 at HB KB KZ ⊢
    refine wpList_store_row rfl 25 _ _ rfl (w.heap.size + 1) #[.int .i64 r, .int .i64 m, .int .i64 (m), .int .i64 now] rfl rfl 25 #[.int .i64 0, .int .i64 0, .int .i64 0, .int .i64 0] KZ.out sizeBu rfl (by simp [Value.oneCell']) ?_
    have KB := Lib.hid (KB.out.rowOther (g := w.heap.size + 1) (by omega) #[.int .i64 r, .int .i64 m, .int .i64 (m), .int .i64 now]); have KZ := Lib.hid (Blk.row (cs := #[.int .i64 r, .int .i64 m, .int .i64 (m), .int .i64 now]) KZ.out); have HB := Lib.hid (Below.row HB.out (g := w.heap.size + 1) (by omega) #[.int .i64 r, .int .i64 m, .int .i64 (m), .int .i64 now])
    generalize x4.setRow (w.heap.size + 1) #[.int .i64 r, .int .i64 m, .int .i64 (m), .int .i64 now] = x5 at HB KB KZ ⊢
    have kz0 : x5.cell? ⟨w.heap.size + 1, 0, none⟩ = some (.int .i64 r) := KZ.out.cell 0
    have kz1 : x5.cell? ⟨w.heap.size + 1, 1, none⟩ = some (.int .i64 m) := KZ.out.cell 1
    have kz2 : x5.cell? ⟨w.heap.size + 1, 2, none⟩ = some (.int .i64 (m)) := KZ.out.cell 2
    have kz3 : x5.cell? ⟨w.heap.size + 1, 3, none⟩ = some (.int .i64 now) := KZ.out.cell 3
    have kzl : w.heap.size + 1 < x5.heap.size := KZ.out.lt
    go_wp2_with fail
    exact bodyPost_ret (v := .tuple #[.agg #[.int .i64 r, .int .i64 m, .int .i64 (m), .int .i64 now], .bool true]) (by simp [results, Try.results26, go_sem, kz0, kz1, kz2, kz3]) rfl ⟨rfl, HB.out⟩
  · obtain rfl := HLV.out.symm.trans (if_neg hb)
    clear HLV
    clear kb0 kb1 kb2 kb3 kbl
    have kb0 : x1.cell? ⟨w.heap.size, 0, none⟩ = some (.int .i64 r) := KB.out.cell 0
    have kb1 : x1.cell? ⟨w.heap.size, 1, none⟩ = some (.int .i64 m) := KB.out.cell 1
    have kb2 : x1.cell? ⟨w.heap.size, 2, none⟩ = some (.int .i64 l) := KB.out.cell 2
    have kb3 : x1.cell? ⟨w.heap.size, 3, none⟩ = some (.int .i64 t) := KB.out.cell 3
    have kbl : w.heap.size < x1.heap.size := KB.out.lt
    have kbf := KB.out.frozen
    have kby := KB.out.shape
    go_wp2_with fail
    clear kb0 kb1 kb2 kb3 kbl kbf kby
    have HB := Lib.hid (((HB.out.setCell (p := ⟨w.heap.size, 2, none⟩) (by simp <;> omega) (.int .i64 (l + r * (now - t)))).setCell (p := ⟨w.heap.size, 3, none⟩) (by simp <;> omega) (.int .i64 now))); have KB := Lib.hid (((KB.out.set 2 (.int .i64 (l + r * (now - t)))).set 3 (.int .i64 now))); have KZ := Lib.hid (((KZ.out.other (j := 2) (g := w.heap.size) (by omega) (.int .i64 (l + r * (now - t)))).other (j := 3) (g := w.heap.size) (by omega) (.int .i64 now)))
    generalize (x1.setCell ⟨w.heap.size, 2, none⟩ (.int .i64 (l + r * (now - t)))).setCell ⟨w.heap.size, 3, none⟩ (.int .i64 now) = x2 at HB KB KZ ⊢
    refine (keep_level _ _).mono ?_
    rintro e x3 ⟨rfl, hbq⟩
    have KB := Lib.hid (KB.out.after hbq)
    have KZ := Lib.hid (KZ.out.after hbq)
    have HB := Lib.hid (HB.out.trans (hbq.mono HB.out.size))
    clear hbq
    obtain ⟨rfl, rfl⟩ := HY.out
    have kb0 : x3.cell? ⟨w.heap.size, 0, none⟩ = some (.int .i64 r) := KB.out.cell 0
    have kb1 : x3.cell? ⟨w.heap.size, 1, none⟩ = some (.int .i64 m) := KB.out.cell 1
    have kb2 : x3.cell? ⟨w.heap.size, 2, none⟩ = some (.int .i64 (l + r * (now - t))) := KB.out.cell 2
    have kb3 : x3.cell? ⟨w.heap.size, 3, none⟩ = some (.int .i64 now) := KB.out.cell 3
    have kbl : w.heap.size < x3.heap.size := KB.out.lt
    have kbf := KB.out.frozen
    have kby := KB.out.shape
    go_wp2_with (with_reducible refine store_here (ty := 25) rfl ?_)
    refine halt_go ?_
    clear kb0 kb1 kb2 kb3 kbl kbf kby
    have HB := Lib.hid ((HB.out.setCell (p := ⟨w.heap.size, 2, none⟩) (by simp <;> omega) (.int .i64 (l + r * (now - t))))); have KB := Lib.hid ((KB.out.set 2 (.int .i64 (l + r * (now - t))))); have KZ := Lib.hid ((KZ.out.other (j := 2) (g := w.heap.size) (by omega) (.int .i64 (l + r * (now - t)))))
    generalize x3.setCell ⟨w.heap.size, 2, none⟩ (.int .i64 (l + r * (now - t))) = x4 at HB KB KZ ⊢
    refine wpList_store_row rfl 25 _ _ rfl (w.heap.size + 1) #[.int .i64 r, .int .i64 m, .int .i64 (l + r * (now - t)), .int .i64 now] rfl rfl 25 #[.int .i64 0, .int .i64 0, .int .i64 0, .int .i64 0] KZ.out sizeBu rfl (by simp [Value.oneCell']) ?_
    have KB := Lib.hid (KB.out.rowOther (g := w.heap.size + 1) (by omega) #[.int .i64 r, .int .i64 m, .int .i64 (l + r * (now - t)), .int .i64 now]); have KZ := Lib.hid (Blk.row (cs := #[.int .i64 r, .int .i64 m, .int .i64 (l + r * (now - t)), .int .i64 now]) KZ.out); have HB := Lib.hid (Below.row HB.out (g := w.heap.size + 1) (by omega) #[.int .i64 r, .int .i64 m, .int .i64 (l + r * (now - t)), .int .i64 now])
    generalize x4.setRow (w.heap.size + 1) #[.int .i64 r, .int .i64 m, .int .i64 (l + r * (now - t)), .int .i64 now] = x5 at HB KB KZ ⊢
    have kz0 : x5.cell? ⟨w.heap.size + 1, 0, none⟩ = some (.int .i64 r) := KZ.out.cell 0
    have kz1 : x5.cell? ⟨w.heap.size + 1, 1, none⟩ = some (.int .i64 m) := KZ.out.cell 1
    have kz2 : x5.cell? ⟨w.heap.size + 1, 2, none⟩ = some (.int .i64 (l + r * (now - t))) := KZ.out.cell 2
    have kz3 : x5.cell? ⟨w.heap.size + 1, 3, none⟩ = some (.int .i64 now) := KZ.out.cell 3
    have kzl : w.heap.size + 1 < x5.heap.size := KZ.out.lt
    go_wp2_with fail
    exact bodyPost_ret (v := .tuple #[.agg #[.int .i64 r, .int .i64 m, .int .i64 (l + r * (now - t)), .int .i64 now], .bool true]) (by simp [results, Try.results26, go_sem, kz0, kz1, kz2, kz3]) rfl ⟨rfl, HB.out⟩

set_option linter.unusedSimpArgs false in
set_option maxRecDepth 20000 in
set_option maxHeartbeats 4000000 in
theorem drawAt_spend (b : Bu) (now n : Int) (nb : Nat) (w : World) (hN : Blk w nb #[.int .i64 n] 3) : Calls Try.prog 26 #[b.val, .int .i64 now, .func (.func 27) #[] #[.pointer (some ⟨nb, 0, none⟩)]] w fun e w' => e = .returned (.tuple #[(spendBu b now n).val, .bool (decide (mayB b now n))]) ∧ Below w.heap.size w w' := by
  have hk := bucketOk_impl b
  have hn := time_impl now
  obtain ⟨d1, hd1⟩ : ∃ d, decide (buOk b) = d := ⟨_, rfl⟩
  obtain ⟨d2, hd2⟩ : ∃ d, decide (0 ≤ now ∧ now ≤ 1000000000) = d := ⟨_, rfl⟩
  rw [hd1] at hk
  rw [hd2] at hn
  obtain ⟨y, hy⟩ : ∃ y, spendBu b now n = y := ⟨_, rfl⟩
  obtain ⟨ok, hok⟩ : ∃ k, decide (mayB b now n) = k := ⟨_, rfl⟩
  rw [hy, hok]
  obtain ⟨lv, hlv⟩ : ∃ lv, lvOf b now = lv := ⟨_, rfl⟩
  have hfl : buMay b now → fillBu b now = ⟨b.rate, b.burst, lv, now⟩ := fun h => by rw [← hlv]; exact if_pos h
  have hfn : ¬ buMay b now → fillBu b now = b := fun h => if_neg h
  have hno : ¬ (d1 = true ∧ d2 = true ∧ b.tm ≤ now) → y = b ∧ ok = false := fun k => by
    have hm : ¬ buMay b now := fun h => k ⟨hd1 ▸ decide_eq_true h.1, hd2 ▸ decide_eq_true h.2.1, h.2.2⟩
    have hm2 : ¬ mayB b now n := fun h => hm h.1
    exact ⟨by rw [← hy]; exact (if_neg hm2).trans (hfn hm), by rw [← hok]; exact decide_eq_false hm2⟩
  have hmay : d1 = true → d2 = true → b.tm ≤ now → buMay b now := fun k1 k2 k3 => ⟨of_decide_eq_true (hd1.trans k1), of_decide_eq_true (hd2.trans k2), k3⟩
  have hy1 : buMay b now → 0 ≤ n ∧ n ≤ lv → y = ⟨b.rate, b.burst, lv - n, now⟩ ∧ ok = true ∧ IntKind.i64.wrap (lv - n) = lv - n := fun hm hl => by
    have hf := hfl hm
    have hv := fill_level hm
    rw [hf] at hv
    simp only at hv
    have hm2 : mayB b now n := ⟨hm, hl.1, by rw [hf]; exact hl.2⟩
    refine ⟨by rw [← hy]; exact (if_pos hm2).trans (by rw [hf]), by rw [← hok]; exact decide_eq_true hm2, wrap_in (by omega) (by omega)⟩
  have hy0 : buMay b now → ¬ (0 ≤ n ∧ n ≤ lv) → y = ⟨b.rate, b.burst, lv, now⟩ ∧ ok = false := fun hm hl => by
    have hf := hfl hm
    have hm2 : ¬ mayB b now n := fun h => hl ⟨h.2.1, by have := h.2.2; rw [hf] at this; exact this⟩
    exact ⟨by rw [← hy]; exact (if_neg hm2).trans hf, by rw [← hok]; exact decide_eq_false hm2⟩
  unfold lvOf at hlv
  obtain ⟨r, m, l, t⟩ := b
  unfold Bu.val at hk ⊢
  simp only at hk hno hmay hy1 hlv hy0
  have HK := Lib.hid hk; have HN := Lib.hid hn; have HNO := Lib.hid hno; have HMAY := Lib.hid hmay; have HY1 := Lib.hid hy1; have HLV := Lib.hid hlv; have HY0 := Lib.hid hy0; have hnb := hN.lt
  have hB : Below w.heap.size w ((w.alloc (.cells #[.int .i64 r, .int .i64 m, .int .i64 l, .int .i64 t] 25)).alloc (.cells #[.int .i64 0, .int .i64 0, .int .i64 0, .int .i64 0] 25)) := (((Below.refl _ _).alloc (by simp) _).alloc (by simp) _)
  have hKB : Blk ((w.alloc (.cells #[.int .i64 r, .int .i64 m, .int .i64 l, .int .i64 t] 25)).alloc (.cells #[.int .i64 0, .int .i64 0, .int .i64 0, .int .i64 0] 25)) (w.heap.size) #[.int .i64 r, .int .i64 m, .int .i64 l, .int .i64 t] 25 := ((blk_new _ _ (by simp)).alloc _)
  have hKZ : Blk ((w.alloc (.cells #[.int .i64 r, .int .i64 m, .int .i64 l, .int .i64 t] 25)).alloc (.cells #[.int .i64 0, .int .i64 0, .int .i64 0, .int .i64 0] 25)) (w.heap.size + 1) #[.int .i64 0, .int .i64 0, .int .i64 0, .int .i64 0] 25 := (blk_new _ _ (by simp))
  have hKN : Blk ((w.alloc (.cells #[.int .i64 r, .int .i64 m, .int .i64 l, .int .i64 t] 25)).alloc (.cells #[.int .i64 0, .int .i64 0, .int .i64 0, .int .i64 0] 25)) (nb) #[.int .i64 n] 3 := ((hN.alloc _).alloc _)
  have HB := Lib.hid hB; have KB := Lib.hid hKB; have KZ := Lib.hid hKZ; have KN := Lib.hid hKN
  clear hB hKB hKZ hKN hk hn hno hmay hy1 hlv hd1 hd2 hy hok hfl hfn hy0
  go_enter Try.func26, Try.ntmps26
  go_wp2_with fail
  refine (HK.out _).mono ?_
  rintro e x1 ⟨rfl, hbq⟩
  have KB := Lib.hid (KB.out.after hbq)
  have KZ := Lib.hid (KZ.out.after hbq)
  have KN := Lib.hid (KN.out.after hbq)
  have HB := Lib.hid (HB.out.trans (hbq.mono HB.out.size))
  clear hbq
  cases d1
  · obtain ⟨rfl, rfl⟩ := HNO.out (by simp)
    have kb0 : x1.cell? ⟨w.heap.size, 0, none⟩ = some (.int .i64 r) := KB.out.cell 0
    have kb1 : x1.cell? ⟨w.heap.size, 1, none⟩ = some (.int .i64 m) := KB.out.cell 1
    have kb2 : x1.cell? ⟨w.heap.size, 2, none⟩ = some (.int .i64 l) := KB.out.cell 2
    have kb3 : x1.cell? ⟨w.heap.size, 3, none⟩ = some (.int .i64 t) := KB.out.cell 3
    have kbl : w.heap.size < x1.heap.size := KB.out.lt
    go_wp2_with (with_reducible refine store_here (ty := 25) rfl ?_)
    refine halt_go ?_
    clear kb0 kb1 kb2 kb3 kbl
    refine wpList_store_row rfl 25 _ _ rfl (w.heap.size + 1) #[.int .i64 r, .int .i64 m, .int .i64 l, .int .i64 t] rfl rfl 25 #[.int .i64 0, .int .i64 0, .int .i64 0, .int .i64 0] KZ.out sizeBu rfl (by simp [Value.oneCell']) ?_
    have KB := Lib.hid (KB.out.rowOther (g := w.heap.size + 1) (by omega) #[.int .i64 r, .int .i64 m, .int .i64 l, .int .i64 t]); have KZ := Lib.hid (Blk.row (cs := #[.int .i64 r, .int .i64 m, .int .i64 l, .int .i64 t]) KZ.out); have KN := Lib.hid (KN.out.rowOther (g := w.heap.size + 1) (by omega) #[.int .i64 r, .int .i64 m, .int .i64 l, .int .i64 t]); have HB := Lib.hid (Below.row HB.out (g := w.heap.size + 1) (by omega) #[.int .i64 r, .int .i64 m, .int .i64 l, .int .i64 t])
    generalize x1.setRow (w.heap.size + 1) #[.int .i64 r, .int .i64 m, .int .i64 l, .int .i64 t] = x2 at HB KB KZ KN ⊢
    have kz0 : x2.cell? ⟨w.heap.size + 1, 0, none⟩ = some (.int .i64 r) := KZ.out.cell 0
    have kz1 : x2.cell? ⟨w.heap.size + 1, 1, none⟩ = some (.int .i64 m) := KZ.out.cell 1
    have kz2 : x2.cell? ⟨w.heap.size + 1, 2, none⟩ = some (.int .i64 l) := KZ.out.cell 2
    have kz3 : x2.cell? ⟨w.heap.size + 1, 3, none⟩ = some (.int .i64 t) := KZ.out.cell 3
    have kzl : w.heap.size + 1 < x2.heap.size := KZ.out.lt
    go_wp2_with fail
    exact bodyPost_ret (v := .tuple #[.agg #[.int .i64 r, .int .i64 m, .int .i64 l, .int .i64 t], .bool false]) (by simp [results, Try.results26, go_sem, kz0, kz1, kz2, kz3]) rfl ⟨rfl, HB.out⟩
  have kb0 : x1.cell? ⟨w.heap.size, 0, none⟩ = some (.int .i64 r) := KB.out.cell 0
  have kb1 : x1.cell? ⟨w.heap.size, 1, none⟩ = some (.int .i64 m) := KB.out.cell 1
  have kb2 : x1.cell? ⟨w.heap.size, 2, none⟩ = some (.int .i64 l) := KB.out.cell 2
  have kb3 : x1.cell? ⟨w.heap.size, 3, none⟩ = some (.int .i64 t) := KB.out.cell 3
  have kbl : w.heap.size < x1.heap.size := KB.out.lt
  go_wp2_with fail
  refine (HN.out _).mono ?_
  rintro e ww ⟨rfl, rfl⟩
  cases d2
  · obtain ⟨rfl, rfl⟩ := HNO.out (by simp)
    clear kb0 kb1 kb2 kb3 kbl
    have kb0 : x1.cell? ⟨w.heap.size, 0, none⟩ = some (.int .i64 r) := KB.out.cell 0
    have kb1 : x1.cell? ⟨w.heap.size, 1, none⟩ = some (.int .i64 m) := KB.out.cell 1
    have kb2 : x1.cell? ⟨w.heap.size, 2, none⟩ = some (.int .i64 l) := KB.out.cell 2
    have kb3 : x1.cell? ⟨w.heap.size, 3, none⟩ = some (.int .i64 t) := KB.out.cell 3
    have kbl : w.heap.size < x1.heap.size := KB.out.lt
    go_wp2_with (with_reducible refine store_here (ty := 25) rfl ?_)
    refine halt_go ?_
    clear kb0 kb1 kb2 kb3 kbl
    refine wpList_store_row rfl 25 _ _ rfl (w.heap.size + 1) #[.int .i64 r, .int .i64 m, .int .i64 l, .int .i64 t] rfl rfl 25 #[.int .i64 0, .int .i64 0, .int .i64 0, .int .i64 0] KZ.out sizeBu rfl (by simp [Value.oneCell']) ?_
    have KB := Lib.hid (KB.out.rowOther (g := w.heap.size + 1) (by omega) #[.int .i64 r, .int .i64 m, .int .i64 l, .int .i64 t]); have KZ := Lib.hid (Blk.row (cs := #[.int .i64 r, .int .i64 m, .int .i64 l, .int .i64 t]) KZ.out); have KN := Lib.hid (KN.out.rowOther (g := w.heap.size + 1) (by omega) #[.int .i64 r, .int .i64 m, .int .i64 l, .int .i64 t]); have HB := Lib.hid (Below.row HB.out (g := w.heap.size + 1) (by omega) #[.int .i64 r, .int .i64 m, .int .i64 l, .int .i64 t])
    generalize x1.setRow (w.heap.size + 1) #[.int .i64 r, .int .i64 m, .int .i64 l, .int .i64 t] = x2 at HB KB KZ KN ⊢
    have kz0 : x2.cell? ⟨w.heap.size + 1, 0, none⟩ = some (.int .i64 r) := KZ.out.cell 0
    have kz1 : x2.cell? ⟨w.heap.size + 1, 1, none⟩ = some (.int .i64 m) := KZ.out.cell 1
    have kz2 : x2.cell? ⟨w.heap.size + 1, 2, none⟩ = some (.int .i64 l) := KZ.out.cell 2
    have kz3 : x2.cell? ⟨w.heap.size + 1, 3, none⟩ = some (.int .i64 t) := KZ.out.cell 3
    have kzl : w.heap.size + 1 < x2.heap.size := KZ.out.lt
    go_wp2_with fail
    exact bodyPost_ret (v := .tuple #[.agg #[.int .i64 r, .int .i64 m, .int .i64 l, .int .i64 t], .bool false]) (by simp [results, Try.results26, go_sem, kz0, kz1, kz2, kz3]) rfl ⟨rfl, HB.out⟩
  by_cases hlt : now < t
  · obtain ⟨rfl, rfl⟩ := HNO.out (by simp; omega)
    clear kb0 kb1 kb2 kb3 kbl
    have kb0 : x1.cell? ⟨w.heap.size, 0, none⟩ = some (.int .i64 r) := KB.out.cell 0
    have kb1 : x1.cell? ⟨w.heap.size, 1, none⟩ = some (.int .i64 m) := KB.out.cell 1
    have kb2 : x1.cell? ⟨w.heap.size, 2, none⟩ = some (.int .i64 l) := KB.out.cell 2
    have kb3 : x1.cell? ⟨w.heap.size, 3, none⟩ = some (.int .i64 t) := KB.out.cell 3
    have kbl : w.heap.size < x1.heap.size := KB.out.lt
    go_wp2_with (with_reducible refine store_here (ty := 25) rfl ?_)
    refine halt_go ?_
    clear kb0 kb1 kb2 kb3 kbl
    refine wpList_store_row rfl 25 _ _ rfl (w.heap.size + 1) #[.int .i64 r, .int .i64 m, .int .i64 l, .int .i64 t] rfl rfl 25 #[.int .i64 0, .int .i64 0, .int .i64 0, .int .i64 0] KZ.out sizeBu rfl (by simp [Value.oneCell']) ?_
    have KB := Lib.hid (KB.out.rowOther (g := w.heap.size + 1) (by omega) #[.int .i64 r, .int .i64 m, .int .i64 l, .int .i64 t]); have KZ := Lib.hid (Blk.row (cs := #[.int .i64 r, .int .i64 m, .int .i64 l, .int .i64 t]) KZ.out); have KN := Lib.hid (KN.out.rowOther (g := w.heap.size + 1) (by omega) #[.int .i64 r, .int .i64 m, .int .i64 l, .int .i64 t]); have HB := Lib.hid (Below.row HB.out (g := w.heap.size + 1) (by omega) #[.int .i64 r, .int .i64 m, .int .i64 l, .int .i64 t])
    generalize x1.setRow (w.heap.size + 1) #[.int .i64 r, .int .i64 m, .int .i64 l, .int .i64 t] = x2 at HB KB KZ KN ⊢
    have kz0 : x2.cell? ⟨w.heap.size + 1, 0, none⟩ = some (.int .i64 r) := KZ.out.cell 0
    have kz1 : x2.cell? ⟨w.heap.size + 1, 1, none⟩ = some (.int .i64 m) := KZ.out.cell 1
    have kz2 : x2.cell? ⟨w.heap.size + 1, 2, none⟩ = some (.int .i64 l) := KZ.out.cell 2
    have kz3 : x2.cell? ⟨w.heap.size + 1, 3, none⟩ = some (.int .i64 t) := KZ.out.cell 3
    have kzl : w.heap.size + 1 < x2.heap.size := KZ.out.lt
    go_wp2_with fail
    exact bodyPost_ret (v := .tuple #[.agg #[.int .i64 r, .int .i64 m, .int .i64 l, .int .i64 t], .bool false]) (by simp [results, Try.results26, go_sem, kz0, kz1, kz2, kz3]) rfl ⟨rfl, HB.out⟩
  have hm := HMAY.out (by simp) (by simp) (by omega)
  obtain ⟨q1, q2, q3, q4⟩ := bu_small hm
  have HY := Lib.hid (HY1.out hm); have HZ := Lib.hid (HY0.out hm)
  clear hm HY1 HY0
  by_cases hb : m < l + r * (now - t)
  · obtain rfl := (HLV.out.symm.trans (if_pos hb)).symm
    clear HLV
    clear kb0 kb1 kb2 kb3 kbl
    have kb0 : x1.cell? ⟨w.heap.size, 0, none⟩ = some (.int .i64 r) := KB.out.cell 0
    have kb1 : x1.cell? ⟨w.heap.size, 1, none⟩ = some (.int .i64 m) := KB.out.cell 1
    have kb2 : x1.cell? ⟨w.heap.size, 2, none⟩ = some (.int .i64 l) := KB.out.cell 2
    have kb3 : x1.cell? ⟨w.heap.size, 3, none⟩ = some (.int .i64 t) := KB.out.cell 3
    have kbl : w.heap.size < x1.heap.size := KB.out.lt
    have kbf := KB.out.frozen
    have kby := KB.out.shape
    go_wp2_with fail
    clear kb0 kb1 kb2 kb3 kbl kbf kby
    have HB := Lib.hid (((HB.out.setCell (p := ⟨w.heap.size, 2, none⟩) (by simp <;> omega) (.int .i64 (m))).setCell (p := ⟨w.heap.size, 3, none⟩) (by simp <;> omega) (.int .i64 now))); have KB := Lib.hid (((KB.out.set 2 (.int .i64 (m))).set 3 (.int .i64 now))); have KZ := Lib.hid (((KZ.out.other (j := 2) (g := w.heap.size) (by omega) (.int .i64 (m))).other (j := 3) (g := w.heap.size) (by omega) (.int .i64 now))); have KN := Lib.hid (((KN.out.other (j := 2) (g := w.heap.size) (by omega) (.int .i64 (m))).other (j := 3) (g := w.heap.size) (by omega) (.int .i64 now)))
    generalize (x1.setCell ⟨w.heap.size, 2, none⟩ (.int .i64 (m))).setCell ⟨w.heap.size, 3, none⟩ (.int .i64 now) = x2 at HB KB KZ KN ⊢
    refine (take_level (m) n nb _ (KN.out.cell 0)).mono ?_
    rintro e x3 ⟨rfl, hbq⟩
    have KB := Lib.hid (KB.out.after hbq)
    have KZ := Lib.hid (KZ.out.after hbq)
    have KN := Lib.hid (KN.out.after hbq)
    have HB := Lib.hid (HB.out.trans (hbq.mono HB.out.size))
    clear hbq
    by_cases hn : 0 ≤ n ∧ n ≤ m
    · rw [decide_eq_true hn]
      obtain ⟨rfl, rfl, hw⟩ := HY.out hn
      rw [hw]
      clear hn
      have kb0 : x3.cell? ⟨w.heap.size, 0, none⟩ = some (.int .i64 r) := KB.out.cell 0
      have kb1 : x3.cell? ⟨w.heap.size, 1, none⟩ = some (.int .i64 m) := KB.out.cell 1
      have kb2 : x3.cell? ⟨w.heap.size, 2, none⟩ = some (.int .i64 (m)) := KB.out.cell 2
      have kb3 : x3.cell? ⟨w.heap.size, 3, none⟩ = some (.int .i64 now) := KB.out.cell 3
      have kbl : w.heap.size < x3.heap.size := KB.out.lt
      have kbf := KB.out.frozen
      have kby := KB.out.shape
      go_wp2_with (with_reducible refine store_here (ty := 25) rfl ?_)
      refine halt_go ?_
      clear kb0 kb1 kb2 kb3 kbl kbf kby
      have HB := Lib.hid ((HB.out.setCell (p := ⟨w.heap.size, 2, none⟩) (by simp <;> omega) (.int .i64 (m - n)))); have KB := Lib.hid ((KB.out.set 2 (.int .i64 (m - n)))); have KZ := Lib.hid ((KZ.out.other (j := 2) (g := w.heap.size) (by omega) (.int .i64 (m - n)))); have KN := Lib.hid ((KN.out.other (j := 2) (g := w.heap.size) (by omega) (.int .i64 (m - n))))
      generalize x3.setCell ⟨w.heap.size, 2, none⟩ (.int .i64 (m - n)) = x4 at HB KB KZ KN ⊢
      refine wpList_store_row rfl 25 _ _ rfl (w.heap.size + 1) #[.int .i64 r, .int .i64 m, .int .i64 (m - n), .int .i64 now] rfl rfl 25 #[.int .i64 0, .int .i64 0, .int .i64 0, .int .i64 0] KZ.out sizeBu rfl (by simp [Value.oneCell']) ?_
      have KB := Lib.hid (KB.out.rowOther (g := w.heap.size + 1) (by omega) #[.int .i64 r, .int .i64 m, .int .i64 (m - n), .int .i64 now]); have KZ := Lib.hid (Blk.row (cs := #[.int .i64 r, .int .i64 m, .int .i64 (m - n), .int .i64 now]) KZ.out); have KN := Lib.hid (KN.out.rowOther (g := w.heap.size + 1) (by omega) #[.int .i64 r, .int .i64 m, .int .i64 (m - n), .int .i64 now]); have HB := Lib.hid (Below.row HB.out (g := w.heap.size + 1) (by omega) #[.int .i64 r, .int .i64 m, .int .i64 (m - n), .int .i64 now])
      generalize x4.setRow (w.heap.size + 1) #[.int .i64 r, .int .i64 m, .int .i64 (m - n), .int .i64 now] = x5 at HB KB KZ KN ⊢
      have kz0 : x5.cell? ⟨w.heap.size + 1, 0, none⟩ = some (.int .i64 r) := KZ.out.cell 0
      have kz1 : x5.cell? ⟨w.heap.size + 1, 1, none⟩ = some (.int .i64 m) := KZ.out.cell 1
      have kz2 : x5.cell? ⟨w.heap.size + 1, 2, none⟩ = some (.int .i64 (m - n)) := KZ.out.cell 2
      have kz3 : x5.cell? ⟨w.heap.size + 1, 3, none⟩ = some (.int .i64 now) := KZ.out.cell 3
      have kzl : w.heap.size + 1 < x5.heap.size := KZ.out.lt
      go_wp2_with fail
      exact bodyPost_ret (v := .tuple #[.agg #[.int .i64 r, .int .i64 m, .int .i64 (m - n), .int .i64 now], .bool true]) (by simp [results, Try.results26, go_sem, kz0, kz1, kz2, kz3]) rfl ⟨rfl, HB.out⟩
    rw [decide_eq_false hn]
    obtain ⟨rfl, rfl⟩ := HZ.out hn
    clear hn
    have kb0 : x3.cell? ⟨w.heap.size, 0, none⟩ = some (.int .i64 r) := KB.out.cell 0
    have kb1 : x3.cell? ⟨w.heap.size, 1, none⟩ = some (.int .i64 m) := KB.out.cell 1
    have kb2 : x3.cell? ⟨w.heap.size, 2, none⟩ = some (.int .i64 (m)) := KB.out.cell 2
    have kb3 : x3.cell? ⟨w.heap.size, 3, none⟩ = some (.int .i64 now) := KB.out.cell 3
    have kbl : w.heap.size < x3.heap.size := KB.out.lt
    go_wp2_with (with_reducible refine store_here (ty := 25) rfl ?_)
    refine halt_go ?_
    clear kb0 kb1 kb2 kb3 kbl
    refine wpList_store_row rfl 25 _ _ rfl (w.heap.size + 1) #[.int .i64 r, .int .i64 m, .int .i64 (m), .int .i64 now] rfl rfl 25 #[.int .i64 0, .int .i64 0, .int .i64 0, .int .i64 0] KZ.out sizeBu rfl (by simp [Value.oneCell']) ?_
    have KB := Lib.hid (KB.out.rowOther (g := w.heap.size + 1) (by omega) #[.int .i64 r, .int .i64 m, .int .i64 (m), .int .i64 now]); have KZ := Lib.hid (Blk.row (cs := #[.int .i64 r, .int .i64 m, .int .i64 (m), .int .i64 now]) KZ.out); have KN := Lib.hid (KN.out.rowOther (g := w.heap.size + 1) (by omega) #[.int .i64 r, .int .i64 m, .int .i64 (m), .int .i64 now]); have HB := Lib.hid (Below.row HB.out (g := w.heap.size + 1) (by omega) #[.int .i64 r, .int .i64 m, .int .i64 (m), .int .i64 now])
    generalize x3.setRow (w.heap.size + 1) #[.int .i64 r, .int .i64 m, .int .i64 (m), .int .i64 now] = x4 at HB KB KZ KN ⊢
    have kz0 : x4.cell? ⟨w.heap.size + 1, 0, none⟩ = some (.int .i64 r) := KZ.out.cell 0
    have kz1 : x4.cell? ⟨w.heap.size + 1, 1, none⟩ = some (.int .i64 m) := KZ.out.cell 1
    have kz2 : x4.cell? ⟨w.heap.size + 1, 2, none⟩ = some (.int .i64 (m)) := KZ.out.cell 2
    have kz3 : x4.cell? ⟨w.heap.size + 1, 3, none⟩ = some (.int .i64 now) := KZ.out.cell 3
    have kzl : w.heap.size + 1 < x4.heap.size := KZ.out.lt
    go_wp2_with fail
    exact bodyPost_ret (v := .tuple #[.agg #[.int .i64 r, .int .i64 m, .int .i64 (m), .int .i64 now], .bool false]) (by simp [results, Try.results26, go_sem, kz0, kz1, kz2, kz3]) rfl ⟨rfl, HB.out⟩
  · obtain rfl := HLV.out.symm.trans (if_neg hb)
    clear HLV
    clear kb0 kb1 kb2 kb3 kbl
    have kb0 : x1.cell? ⟨w.heap.size, 0, none⟩ = some (.int .i64 r) := KB.out.cell 0
    have kb1 : x1.cell? ⟨w.heap.size, 1, none⟩ = some (.int .i64 m) := KB.out.cell 1
    have kb2 : x1.cell? ⟨w.heap.size, 2, none⟩ = some (.int .i64 l) := KB.out.cell 2
    have kb3 : x1.cell? ⟨w.heap.size, 3, none⟩ = some (.int .i64 t) := KB.out.cell 3
    have kbl : w.heap.size < x1.heap.size := KB.out.lt
    have kbf := KB.out.frozen
    have kby := KB.out.shape
    go_wp2_with fail
    clear kb0 kb1 kb2 kb3 kbl kbf kby
    have HB := Lib.hid (((HB.out.setCell (p := ⟨w.heap.size, 2, none⟩) (by simp <;> omega) (.int .i64 (l + r * (now - t)))).setCell (p := ⟨w.heap.size, 3, none⟩) (by simp <;> omega) (.int .i64 now))); have KB := Lib.hid (((KB.out.set 2 (.int .i64 (l + r * (now - t)))).set 3 (.int .i64 now))); have KZ := Lib.hid (((KZ.out.other (j := 2) (g := w.heap.size) (by omega) (.int .i64 (l + r * (now - t)))).other (j := 3) (g := w.heap.size) (by omega) (.int .i64 now))); have KN := Lib.hid (((KN.out.other (j := 2) (g := w.heap.size) (by omega) (.int .i64 (l + r * (now - t)))).other (j := 3) (g := w.heap.size) (by omega) (.int .i64 now)))
    generalize (x1.setCell ⟨w.heap.size, 2, none⟩ (.int .i64 (l + r * (now - t)))).setCell ⟨w.heap.size, 3, none⟩ (.int .i64 now) = x2 at HB KB KZ KN ⊢
    refine (take_level (l + r * (now - t)) n nb _ (KN.out.cell 0)).mono ?_
    rintro e x3 ⟨rfl, hbq⟩
    have KB := Lib.hid (KB.out.after hbq)
    have KZ := Lib.hid (KZ.out.after hbq)
    have KN := Lib.hid (KN.out.after hbq)
    have HB := Lib.hid (HB.out.trans (hbq.mono HB.out.size))
    clear hbq
    by_cases hn : 0 ≤ n ∧ n ≤ l + r * (now - t)
    · rw [decide_eq_true hn]
      obtain ⟨rfl, rfl, hw⟩ := HY.out hn
      rw [hw]
      clear hn
      have kb0 : x3.cell? ⟨w.heap.size, 0, none⟩ = some (.int .i64 r) := KB.out.cell 0
      have kb1 : x3.cell? ⟨w.heap.size, 1, none⟩ = some (.int .i64 m) := KB.out.cell 1
      have kb2 : x3.cell? ⟨w.heap.size, 2, none⟩ = some (.int .i64 (l + r * (now - t))) := KB.out.cell 2
      have kb3 : x3.cell? ⟨w.heap.size, 3, none⟩ = some (.int .i64 now) := KB.out.cell 3
      have kbl : w.heap.size < x3.heap.size := KB.out.lt
      have kbf := KB.out.frozen
      have kby := KB.out.shape
      go_wp2_with (with_reducible refine store_here (ty := 25) rfl ?_)
      refine halt_go ?_
      clear kb0 kb1 kb2 kb3 kbl kbf kby
      have HB := Lib.hid ((HB.out.setCell (p := ⟨w.heap.size, 2, none⟩) (by simp <;> omega) (.int .i64 (l + r * (now - t) - n)))); have KB := Lib.hid ((KB.out.set 2 (.int .i64 (l + r * (now - t) - n)))); have KZ := Lib.hid ((KZ.out.other (j := 2) (g := w.heap.size) (by omega) (.int .i64 (l + r * (now - t) - n)))); have KN := Lib.hid ((KN.out.other (j := 2) (g := w.heap.size) (by omega) (.int .i64 (l + r * (now - t) - n))))
      generalize x3.setCell ⟨w.heap.size, 2, none⟩ (.int .i64 (l + r * (now - t) - n)) = x4 at HB KB KZ KN ⊢
      refine wpList_store_row rfl 25 _ _ rfl (w.heap.size + 1) #[.int .i64 r, .int .i64 m, .int .i64 (l + r * (now - t) - n), .int .i64 now] rfl rfl 25 #[.int .i64 0, .int .i64 0, .int .i64 0, .int .i64 0] KZ.out sizeBu rfl (by simp [Value.oneCell']) ?_
      have KB := Lib.hid (KB.out.rowOther (g := w.heap.size + 1) (by omega) #[.int .i64 r, .int .i64 m, .int .i64 (l + r * (now - t) - n), .int .i64 now]); have KZ := Lib.hid (Blk.row (cs := #[.int .i64 r, .int .i64 m, .int .i64 (l + r * (now - t) - n), .int .i64 now]) KZ.out); have KN := Lib.hid (KN.out.rowOther (g := w.heap.size + 1) (by omega) #[.int .i64 r, .int .i64 m, .int .i64 (l + r * (now - t) - n), .int .i64 now]); have HB := Lib.hid (Below.row HB.out (g := w.heap.size + 1) (by omega) #[.int .i64 r, .int .i64 m, .int .i64 (l + r * (now - t) - n), .int .i64 now])
      generalize x4.setRow (w.heap.size + 1) #[.int .i64 r, .int .i64 m, .int .i64 (l + r * (now - t) - n), .int .i64 now] = x5 at HB KB KZ KN ⊢
      have kz0 : x5.cell? ⟨w.heap.size + 1, 0, none⟩ = some (.int .i64 r) := KZ.out.cell 0
      have kz1 : x5.cell? ⟨w.heap.size + 1, 1, none⟩ = some (.int .i64 m) := KZ.out.cell 1
      have kz2 : x5.cell? ⟨w.heap.size + 1, 2, none⟩ = some (.int .i64 (l + r * (now - t) - n)) := KZ.out.cell 2
      have kz3 : x5.cell? ⟨w.heap.size + 1, 3, none⟩ = some (.int .i64 now) := KZ.out.cell 3
      have kzl : w.heap.size + 1 < x5.heap.size := KZ.out.lt
      go_wp2_with fail
      exact bodyPost_ret (v := .tuple #[.agg #[.int .i64 r, .int .i64 m, .int .i64 (l + r * (now - t) - n), .int .i64 now], .bool true]) (by simp [results, Try.results26, go_sem, kz0, kz1, kz2, kz3]) rfl ⟨rfl, HB.out⟩
    rw [decide_eq_false hn]
    obtain ⟨rfl, rfl⟩ := HZ.out hn
    clear hn
    have kb0 : x3.cell? ⟨w.heap.size, 0, none⟩ = some (.int .i64 r) := KB.out.cell 0
    have kb1 : x3.cell? ⟨w.heap.size, 1, none⟩ = some (.int .i64 m) := KB.out.cell 1
    have kb2 : x3.cell? ⟨w.heap.size, 2, none⟩ = some (.int .i64 (l + r * (now - t))) := KB.out.cell 2
    have kb3 : x3.cell? ⟨w.heap.size, 3, none⟩ = some (.int .i64 now) := KB.out.cell 3
    have kbl : w.heap.size < x3.heap.size := KB.out.lt
    go_wp2_with (with_reducible refine store_here (ty := 25) rfl ?_)
    refine halt_go ?_
    clear kb0 kb1 kb2 kb3 kbl
    refine wpList_store_row rfl 25 _ _ rfl (w.heap.size + 1) #[.int .i64 r, .int .i64 m, .int .i64 (l + r * (now - t)), .int .i64 now] rfl rfl 25 #[.int .i64 0, .int .i64 0, .int .i64 0, .int .i64 0] KZ.out sizeBu rfl (by simp [Value.oneCell']) ?_
    have KB := Lib.hid (KB.out.rowOther (g := w.heap.size + 1) (by omega) #[.int .i64 r, .int .i64 m, .int .i64 (l + r * (now - t)), .int .i64 now]); have KZ := Lib.hid (Blk.row (cs := #[.int .i64 r, .int .i64 m, .int .i64 (l + r * (now - t)), .int .i64 now]) KZ.out); have KN := Lib.hid (KN.out.rowOther (g := w.heap.size + 1) (by omega) #[.int .i64 r, .int .i64 m, .int .i64 (l + r * (now - t)), .int .i64 now]); have HB := Lib.hid (Below.row HB.out (g := w.heap.size + 1) (by omega) #[.int .i64 r, .int .i64 m, .int .i64 (l + r * (now - t)), .int .i64 now])
    generalize x3.setRow (w.heap.size + 1) #[.int .i64 r, .int .i64 m, .int .i64 (l + r * (now - t)), .int .i64 now] = x4 at HB KB KZ KN ⊢
    have kz0 : x4.cell? ⟨w.heap.size + 1, 0, none⟩ = some (.int .i64 r) := KZ.out.cell 0
    have kz1 : x4.cell? ⟨w.heap.size + 1, 1, none⟩ = some (.int .i64 m) := KZ.out.cell 1
    have kz2 : x4.cell? ⟨w.heap.size + 1, 2, none⟩ = some (.int .i64 (l + r * (now - t))) := KZ.out.cell 2
    have kz3 : x4.cell? ⟨w.heap.size + 1, 3, none⟩ = some (.int .i64 now) := KZ.out.cell 3
    have kzl : w.heap.size + 1 < x4.heap.size := KZ.out.lt
    go_wp2_with fail
    exact bodyPost_ret (v := .tuple #[.agg #[.int .i64 r, .int .i64 m, .int .i64 (l + r * (now - t)), .int .i64 now], .bool false]) (by simp [results, Try.results26, go_sem, kz0, kz1, kz2, kz3]) rfl ⟨rfl, HB.out⟩

set_option linter.unusedSimpArgs false in
set_option maxRecDepth 20000 in
set_option maxHeartbeats 4000000 in
theorem fill_impl (b : Bu) (now : Int) (w : World) : Calls Try.prog 13 #[b.val, .int .i64 now] w fun e w' => e = .returned (fillBu b now).val ∧ Below w.heap.size w w' := by
  have hk := drawAt_fill b now
  generalize decide (buMay b now) = ok at hk
  generalize fillBu b now = z at hk ⊢
  obtain ⟨r, m, l, t⟩ := b
  obtain ⟨zr, zm, zl, zt⟩ := z
  unfold Bu.val at hk ⊢
  simp only at hk
  have HK := Lib.hid hk
  have hB : Below w.heap.size w ((w.alloc (.cells #[.int .i64 r, .int .i64 m, .int .i64 l, .int .i64 t] 25)).alloc (.cells #[.int .i64 0, .int .i64 0, .int .i64 0, .int .i64 0] 25)) := (((Below.refl _ _).alloc (by simp) _).alloc (by simp) _)
  have hKB : Blk ((w.alloc (.cells #[.int .i64 r, .int .i64 m, .int .i64 l, .int .i64 t] 25)).alloc (.cells #[.int .i64 0, .int .i64 0, .int .i64 0, .int .i64 0] 25)) (w.heap.size) #[.int .i64 r, .int .i64 m, .int .i64 l, .int .i64 t] 25 := ((blk_new _ _ (by simp)).alloc _)
  have hKZ : Blk ((w.alloc (.cells #[.int .i64 r, .int .i64 m, .int .i64 l, .int .i64 t] 25)).alloc (.cells #[.int .i64 0, .int .i64 0, .int .i64 0, .int .i64 0] 25)) (w.heap.size + 1) #[.int .i64 0, .int .i64 0, .int .i64 0, .int .i64 0] 25 := (blk_new _ _ (by simp))
  have HB := Lib.hid hB; have KB := Lib.hid hKB; have KZ := Lib.hid hKZ
  clear hB hKB hKZ hk
  go_enter Try.func13, Try.ntmps13
  go_wp2_with fail
  refine (HK.out _).mono ?_
  rintro e x1 ⟨rfl, hbq⟩
  have KB := Lib.hid (KB.out.after hbq)
  have KZ := Lib.hid (KZ.out.after hbq)
  have HB := Lib.hid (HB.out.trans (hbq.mono HB.out.size))
  clear hbq
  have hbq : Below x1.heap.size x1 (x1.alloc (.cells #[.int .i64 0, .int .i64 0, .int .i64 0, .int .i64 0] 25)) := (Below.refl _ _).alloc (Nat.le_refl _) _
  have hnq : Blk (x1.alloc (.cells #[.int .i64 0, .int .i64 0, .int .i64 0, .int .i64 0] 25)) x1.heap.size #[.int .i64 0, .int .i64 0, .int .i64 0, .int .i64 0] 25 := blk_new _ _ rfl
  have hleKF : w.heap.size ≤ x1.heap.size := HB.out.size
  have hltKBKF := KB.out.lt
  have hltKZKF := KZ.out.lt
  have KB := Lib.hid (KB.out.after hbq)
  have KZ := Lib.hid (KZ.out.after hbq)
  have HB := Lib.hid (HB.out.trans (hbq.mono HB.out.size))
  have KF := Lib.hid hnq
  clear hbq hnq
  go_wp2_with (with_reducible refine store_here (ty := 25) rfl ?_)
  refine halt_go ?_
  refine wpList_store_row rfl 25 _ _ rfl (x1.heap.size) #[.int .i64 zr, .int .i64 zm, .int .i64 zl, .int .i64 zt] rfl rfl 25 #[.int .i64 0, .int .i64 0, .int .i64 0, .int .i64 0] KF.out sizeBu rfl (by simp [Value.oneCell']) ?_
  have KB := Lib.hid (KB.out.rowOther (g := x1.heap.size) (by omega) #[.int .i64 zr, .int .i64 zm, .int .i64 zl, .int .i64 zt]); have KZ := Lib.hid (KZ.out.rowOther (g := x1.heap.size) (by omega) #[.int .i64 zr, .int .i64 zm, .int .i64 zl, .int .i64 zt]); have KF := Lib.hid (Blk.row (cs := #[.int .i64 zr, .int .i64 zm, .int .i64 zl, .int .i64 zt]) KF.out); have HB := Lib.hid (Below.row HB.out (g := x1.heap.size) (by omega) #[.int .i64 zr, .int .i64 zm, .int .i64 zl, .int .i64 zt])
  generalize (x1.alloc (.cells #[.int .i64 0, .int .i64 0, .int .i64 0, .int .i64 0] 25)).setRow (x1.heap.size) #[.int .i64 zr, .int .i64 zm, .int .i64 zl, .int .i64 zt] = x2 at HB KB KZ KF ⊢
  have kf0 : x2.cell? ⟨x1.heap.size, 0, none⟩ = some (.int .i64 zr) := KF.out.cell 0
  have kf1 : x2.cell? ⟨x1.heap.size, 1, none⟩ = some (.int .i64 zm) := KF.out.cell 1
  have kf2 : x2.cell? ⟨x1.heap.size, 2, none⟩ = some (.int .i64 zl) := KF.out.cell 2
  have kf3 : x2.cell? ⟨x1.heap.size, 3, none⟩ = some (.int .i64 zt) := KF.out.cell 3
  have kfl : x1.heap.size < x2.heap.size := KF.out.lt
  go_wp2_with (with_reducible refine store_here (ty := 25) rfl ?_)
  refine halt_go ?_
  clear kf0 kf1 kf2 kf3 kfl
  refine wpList_store_row rfl 25 _ _ rfl (w.heap.size + 1) #[.int .i64 zr, .int .i64 zm, .int .i64 zl, .int .i64 zt] rfl rfl 25 #[.int .i64 0, .int .i64 0, .int .i64 0, .int .i64 0] KZ.out sizeBu rfl (by simp [Value.oneCell']) ?_
  have KB := Lib.hid (KB.out.rowOther (g := w.heap.size + 1) (by omega) #[.int .i64 zr, .int .i64 zm, .int .i64 zl, .int .i64 zt]); have KZ := Lib.hid (Blk.row (cs := #[.int .i64 zr, .int .i64 zm, .int .i64 zl, .int .i64 zt]) KZ.out); have KF := Lib.hid (KF.out.rowOther (g := w.heap.size + 1) (by omega) #[.int .i64 zr, .int .i64 zm, .int .i64 zl, .int .i64 zt]); have HB := Lib.hid (Below.row HB.out (g := w.heap.size + 1) (by omega) #[.int .i64 zr, .int .i64 zm, .int .i64 zl, .int .i64 zt])
  generalize x2.setRow (w.heap.size + 1) #[.int .i64 zr, .int .i64 zm, .int .i64 zl, .int .i64 zt] = x3 at HB KB KZ KF ⊢
  have kz0 : x3.cell? ⟨w.heap.size + 1, 0, none⟩ = some (.int .i64 zr) := KZ.out.cell 0
  have kz1 : x3.cell? ⟨w.heap.size + 1, 1, none⟩ = some (.int .i64 zm) := KZ.out.cell 1
  have kz2 : x3.cell? ⟨w.heap.size + 1, 2, none⟩ = some (.int .i64 zl) := KZ.out.cell 2
  have kz3 : x3.cell? ⟨w.heap.size + 1, 3, none⟩ = some (.int .i64 zt) := KZ.out.cell 3
  have kzl : w.heap.size + 1 < x3.heap.size := KZ.out.lt
  go_wp2_with fail
  exact bodyPost_ret (v := .agg #[.int .i64 zr, .int .i64 zm, .int .i64 zl, .int .i64 zt]) (by simp [results, Try.results13, go_sem, kz0, kz1, kz2, kz3]) rfl ⟨rfl, HB.out⟩

set_option linter.unusedSimpArgs false in
set_option maxRecDepth 20000 in
set_option maxHeartbeats 4000000 in
theorem spend_impl (b : Bu) (now n : Int) (w : World) : Calls Try.prog 11 #[b.val, .int .i64 now, .int .i64 n] w fun e w' => e = .returned (.tuple #[(spendBu b now n).val, .bool (decide (mayB b now n))]) ∧ Below w.heap.size w w' := by
  have hk := drawAt_spend b now n
  generalize decide (mayB b now n) = ok at hk ⊢
  generalize spendBu b now n = z at hk ⊢
  obtain ⟨r, m, l, t⟩ := b
  obtain ⟨zr, zm, zl, zt⟩ := z
  unfold Bu.val at hk ⊢
  simp only at hk
  have HK := Lib.hid hk
  have hB : Below w.heap.size w (((w.alloc (.cells #[.int .i64 r, .int .i64 m, .int .i64 l, .int .i64 t] 25)).alloc (.cells #[.int .i64 n] 3)).alloc (.cells #[.int .i64 0, .int .i64 0, .int .i64 0, .int .i64 0] 25)) := ((((Below.refl _ _).alloc (by simp) _).alloc (by simp) _).alloc (by simp; omega) _)
  have hKB : Blk (((w.alloc (.cells #[.int .i64 r, .int .i64 m, .int .i64 l, .int .i64 t] 25)).alloc (.cells #[.int .i64 n] 3)).alloc (.cells #[.int .i64 0, .int .i64 0, .int .i64 0, .int .i64 0] 25)) (w.heap.size) #[.int .i64 r, .int .i64 m, .int .i64 l, .int .i64 t] 25 := (((blk_new _ _ (by simp)).alloc _).alloc _)
  have hKN : Blk (((w.alloc (.cells #[.int .i64 r, .int .i64 m, .int .i64 l, .int .i64 t] 25)).alloc (.cells #[.int .i64 n] 3)).alloc (.cells #[.int .i64 0, .int .i64 0, .int .i64 0, .int .i64 0] 25)) (w.heap.size + 1) #[.int .i64 n] 3 := ((blk_new _ _ (by simp)).alloc _)
  have hKZ : Blk (((w.alloc (.cells #[.int .i64 r, .int .i64 m, .int .i64 l, .int .i64 t] 25)).alloc (.cells #[.int .i64 n] 3)).alloc (.cells #[.int .i64 0, .int .i64 0, .int .i64 0, .int .i64 0] 25)) (w.heap.size + 1 + 1) #[.int .i64 0, .int .i64 0, .int .i64 0, .int .i64 0] 25 := (blk_new _ _ (by simp))
  have HB := Lib.hid hB; have KB := Lib.hid hKB; have KN := Lib.hid hKN; have KZ := Lib.hid hKZ
  clear hB hKB hKN hKZ hk
  go_enter Try.func11, Try.ntmps11
  go_wp2_with fail
  refine (HK.out _ _ KN.out).mono ?_
  rintro e x1 ⟨rfl, hbq⟩
  have KB := Lib.hid (KB.out.after hbq)
  have KN := Lib.hid (KN.out.after hbq)
  have KZ := Lib.hid (KZ.out.after hbq)
  have HB := Lib.hid (HB.out.trans (hbq.mono HB.out.size))
  clear hbq
  have kb0 : x1.cell? ⟨w.heap.size, 0, none⟩ = some (.int .i64 r) := KB.out.cell 0
  have kb1 : x1.cell? ⟨w.heap.size, 1, none⟩ = some (.int .i64 m) := KB.out.cell 1
  have kb2 : x1.cell? ⟨w.heap.size, 2, none⟩ = some (.int .i64 l) := KB.out.cell 2
  have kb3 : x1.cell? ⟨w.heap.size, 3, none⟩ = some (.int .i64 t) := KB.out.cell 3
  have kbl : w.heap.size < x1.heap.size := KB.out.lt
  have kn0 : x1.cell? ⟨w.heap.size + 1, 0, none⟩ = some (.int .i64 n) := KN.out.cell 0
  have knl : w.heap.size + 1 < x1.heap.size := KN.out.lt
  have kz0 : x1.cell? ⟨w.heap.size + 1 + 1, 0, none⟩ = some (.int .i64 0) := KZ.out.cell 0
  have kz1 : x1.cell? ⟨w.heap.size + 1 + 1, 1, none⟩ = some (.int .i64 0) := KZ.out.cell 1
  have kz2 : x1.cell? ⟨w.heap.size + 1 + 1, 2, none⟩ = some (.int .i64 0) := KZ.out.cell 2
  have kz3 : x1.cell? ⟨w.heap.size + 1 + 1, 3, none⟩ = some (.int .i64 0) := KZ.out.cell 3
  have kzl : w.heap.size + 1 + 1 < x1.heap.size := KZ.out.lt
  go_wp2_with (with_reducible refine store_here (ty := 25) rfl ?_)
  refine halt_go ?_
  clear kb0 kb1 kb2 kb3 kbl kn0 knl kz0 kz1 kz2 kz3 kzl
  refine wpList_store_row rfl 25 _ _ rfl (w.heap.size + 1 + 1) #[.int .i64 zr, .int .i64 zm, .int .i64 zl, .int .i64 zt] rfl rfl 25 #[.int .i64 0, .int .i64 0, .int .i64 0, .int .i64 0] KZ.out sizeBu rfl (by simp [Value.oneCell']) ?_
  have KB := Lib.hid (KB.out.rowOther (g := w.heap.size + 1 + 1) (by omega) #[.int .i64 zr, .int .i64 zm, .int .i64 zl, .int .i64 zt]); have KN := Lib.hid (KN.out.rowOther (g := w.heap.size + 1 + 1) (by omega) #[.int .i64 zr, .int .i64 zm, .int .i64 zl, .int .i64 zt]); have KZ := Lib.hid (Blk.row (cs := #[.int .i64 zr, .int .i64 zm, .int .i64 zl, .int .i64 zt]) KZ.out); have HB := Lib.hid (Below.row HB.out (g := w.heap.size + 1 + 1) (by omega) #[.int .i64 zr, .int .i64 zm, .int .i64 zl, .int .i64 zt])
  generalize x1.setRow (w.heap.size + 1 + 1) #[.int .i64 zr, .int .i64 zm, .int .i64 zl, .int .i64 zt] = x2 at HB KB KN KZ ⊢
  have kz0 : x2.cell? ⟨w.heap.size + 1 + 1, 0, none⟩ = some (.int .i64 zr) := KZ.out.cell 0
  have kz1 : x2.cell? ⟨w.heap.size + 1 + 1, 1, none⟩ = some (.int .i64 zm) := KZ.out.cell 1
  have kz2 : x2.cell? ⟨w.heap.size + 1 + 1, 2, none⟩ = some (.int .i64 zl) := KZ.out.cell 2
  have kz3 : x2.cell? ⟨w.heap.size + 1 + 1, 3, none⟩ = some (.int .i64 zt) := KZ.out.cell 3
  have kzl : w.heap.size + 1 + 1 < x2.heap.size := KZ.out.lt
  go_wp2_with fail
  exact bodyPost_ret (v := .tuple #[.agg #[.int .i64 zr, .int .i64 zm, .int .i64 zl, .int .i64 zt], .bool ok]) (by simp [results, Try.results11, go_sem, kz0, kz1, kz2, kz3]) rfl ⟨rfl, HB.out⟩
end Go.Proofs.Ytjpimcckpbpahaa
