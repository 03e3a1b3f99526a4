/- Vectors: the program's chapter 8 but for Best and IdText. -/
import Derived.Test.YtbcpfciegamaeaaVcP
import Derived.Deep.RegionHeld3
namespace Go.Proofs.Ytbcpfciegamaeaa
open Go.RowKit

theorem single_vc (m : Int) (w : World) : Calls Try.prog 41 #[.int .i64 m] w fun e w' => e = .returned (.bool (decide (isMac m) && !decide (isGrp m))) ∧ w = w' := by
  have h2 := macOk_impl m
  have h3 := group_impl m
  generalize decide (isMac m) = b2 at *
  generalize decide (isGrp m) = b3 at *
  have H2 := Lib.hid h2; have H3 := Lib.hid h3
  clear h2 h3
  go_enter Try.func41, Try.ntmps41
  go_wp2_with fail
  refine (H2.out _).mono ?_
  rintro e w1 ⟨rfl, rfl⟩
  cases b2
  · go_wp2_with fail
    go_ret
    exact ⟨rfl, rfl⟩
  go_wp2_with fail
  refine (H3.out _).mono ?_
  rintro e w1 ⟨rfl, rfl⟩
  go_wp2_with fail
  go_ret
  exact ⟨by cases b3 <;> rfl, rfl⟩

theorem idOk_impl (n : Int) (ht : n ≤ 9223372036854775807) (w : World) : Calls Try.prog 38 #[.int .i64 n] w fun e w' => e = .returned (.bool (decide (idOk n))) ∧ w = w' := by
  have h2 := single_vc (n % 281474976710656)
  obtain ⟨r, hr⟩ : ∃ r, decide (idOk n) = r := ⟨_, rfl⟩
  obtain ⟨g, hg⟩ : ∃ g, (decide (isMac (n % 281474976710656)) && !decide (isGrp (n % 281474976710656))) = g := ⟨_, rfl⟩
  rw [hr]
  rw [hg] at h2
  have H2 := Lib.hid h2
  by_cases h0 : 0 ≤ n
  case neg =>
    obtain rfl : r = false := by rw [← hr]; exact decide_eq_false (fun k => h0 k.1.1)
    clear h2 hr hg ht
    go_enter Try.func38, Try.ntmps38
    go_wp2_with fail
    go_ret
    exact ⟨rfl, rfl⟩
  have hd : n.tdiv 281474976710656 = n / 281474976710656 := Int.tdiv_eq_ediv_of_nonneg h0
  have hw : wrap64 (n / 281474976710656) = n / 281474976710656 := IntWalk.wrap64_in _ (by omega)
  by_cases h1 : n / 281474976710656 ≤ 15
  case neg =>
    obtain rfl : r = false := by rw [← hr]; exact decide_eq_false (fun k => h1 (by have := k.1.2; omega))
    clear h2 hr hg ht
    go_enter Try.func38, Try.ntmps38
    go_wp2_with fail
    go_ret
    exact ⟨rfl, rfl⟩
  have hm : n.tmod 281474976710656 = n % 281474976710656 := Int.tmod_eq_emod_of_nonneg h0
  obtain rfl : r = g := by
    have hk : isMac (n % 281474976710656) := by unfold isMac; omega
    have hl : 0 ≤ n ∧ n ≤ 4503599627370495 := by omega
    rw [← hr, ← hg]
    unfold idOk
    by_cases k : isGrp (n % 281474976710656) <;> simp [hk, hl, k]
  clear h2 hr hg ht
  go_enter Try.func38, Try.ntmps38
  go_wp2_with fail
  refine (H2.out _).mono ?_
  rintro e ww ⟨rfl, rfl⟩
  go_wp2_with fail
  go_ret
  exact ⟨rfl, rfl⟩

theorem id_impl (rank mac : Int) (w : World) : Calls Try.prog 20 #[.int .i64 rank, .int .i64 mac] w fun e w' => e = .returned (.int .i64 (idOf rank mac)) ∧ w = w' := by
  have h2 := single_vc mac
  obtain ⟨r, hr⟩ : ∃ r, idOf rank mac = r := ⟨_, rfl⟩
  rw [hr]
  by_cases k0 : 0 ≤ rank
  case neg =>
    obtain rfl : r = -1 := by rw [← hr]; exact if_neg (fun h => k0 h.1.1)
    have k0' : rank < 0 := by omega
    clear h2 hr k0
    go_enter Try.func20, Try.ntmps20
    go_wp2_with fail
    go_ret
    exact ⟨rfl, rfl⟩
  have k0' : ¬ rank < 0 := by omega
  by_cases k1 : rank ≤ 15
  case neg =>
    obtain rfl : r = -1 := by rw [← hr]; exact if_neg (fun h => k1 h.1.2)
    have k1' : 15 < rank := by omega
    clear h2 hr k1
    go_enter Try.func20, Try.ntmps20
    go_wp2_with fail
    go_ret
    exact ⟨rfl, rfl⟩
  have k1' : ¬ 15 < rank := by omega
  by_cases k2 : isMac mac ∧ ¬ isGrp mac
  case neg =>
    obtain rfl : r = -1 := by rw [← hr]; exact if_neg (fun h => k2 h.2)
    have hf : (decide (isMac mac) && !decide (isGrp mac)) = false := by
      by_cases a : isMac mac <;> by_cases b : isGrp mac <;> simp [a, b]
      exact k2 ⟨a, b⟩
    rw [hf] at h2
    have H2 := Lib.hid h2
    clear h2 hr hf k2
    go_enter Try.func20, Try.ntmps20
    go_wp2_with fail
    refine (H2.out _).mono ?_
    rintro e ww ⟨rfl, rfl⟩
    go_wp2_with fail
    go_ret
    exact ⟨rfl, rfl⟩
  have hm := k2.1
  unfold isMac at hm
  have w1 : wrap64 (rank * 281474976710656) = rank * 281474976710656 := IntWalk.wrap64_in _ (by omega)
  have w2 : wrap64 (rank * 281474976710656 + mac) = rank * 281474976710656 + mac := IntWalk.wrap64_in _ (by omega)
  obtain rfl : r = rank * 281474976710656 + mac := by rw [← hr]; exact if_pos ⟨⟨k0, k1⟩, k2⟩
  rw [decide_eq_true k2.1, decide_eq_false k2.2] at h2
  have H2 := Lib.hid (show ∀ w, Calls Try.prog 41 #[.int .i64 mac] w fun e w' => e = .returned (.bool true) ∧ w = w' from h2)
  clear h2 hr k2 hm
  go_enter Try.func20, Try.ntmps20
  go_wp2_with fail
  refine (H2.out _).mono ?_
  rintro e ww ⟨rfl, rfl⟩
  go_wp2_with fail
  go_ret
  exact ⟨congrArg (fun x => Ending.returned (Value.int .i64 x)) w2, rfl⟩

set_option linter.unusedVariables false in
set_option linter.unusedSimpArgs false in
set_option maxRecDepth 20000 in
set_option maxHeartbeats 4000000 in
theorem vectorOk_impl (v : Vc) (hv : v.fit) (w : World) : Calls Try.prog 18 #[v.val] w fun e w' => e = .returned (.bool (decide (vcOk v))) ∧ Below w.heap.size w w' := by
  obtain ⟨r, c, b, p⟩ := v
  have h1 := idOk_impl r hv.1
  have h2 := idOk_impl b hv.2
  have hand := vcOk_and r c b p
  obtain ⟨z, hz⟩ : ∃ z, decide (vcOk ⟨r, c, b, p⟩) = z := ⟨_, rfl⟩
  rw [hz] at hand ⊢
  generalize decide (idOk r) = d1 at *
  generalize decide (idOk b) = d2 at *
  have HZ := Lib.hid hand
  unfold Vc.val
  have H1 := Lib.hid h1; have H2 := Lib.hid h2
  have hB : Below w.heap.size w (w.alloc (.cells #[.int .i64 r, .int .i64 c, .int .i64 b, .int .i64 p] 25)) := ((Below.refl _ _).alloc (by simp) _)
  have hKV : Blk (w.alloc (.cells #[.int .i64 r, .int .i64 c, .int .i64 b, .int .i64 p] 25)) (w.heap.size) #[.int .i64 r, .int .i64 c, .int .i64 b, .int .i64 p] 25 := (blk_new _ _ (by simp))
  have HB := Lib.hid hB; have KV := Lib.hid hKV
  clear hB hKV h1 h2 hand hz hv
  go_enter Try.func18, Try.ntmps18
  go_wp2_with fail
  refine (H1.out _).mono ?_
  rintro e ww ⟨rfl, rfl⟩
  cases d1
  · obtain rfl : z = false := by
      rw [HZ.out]
      rfl
    have kv0 : (w.alloc (.cells #[.int .i64 r, .int .i64 c, .int .i64 b, .int .i64 p] 25)).cell? ⟨w.heap.size, 0, none⟩ = some (.int .i64 r) := KV.out.cell 0
    have kv1 : (w.alloc (.cells #[.int .i64 r, .int .i64 c, .int .i64 b, .int .i64 p] 25)).cell? ⟨w.heap.size, 1, none⟩ = some (.int .i64 c) := KV.out.cell 1
    have kv2 : (w.alloc (.cells #[.int .i64 r, .int .i64 c, .int .i64 b, .int .i64 p] 25)).cell? ⟨w.heap.size, 2, none⟩ = some (.int .i64 b) := KV.out.cell 2
    have kv3 : (w.alloc (.cells #[.int .i64 r, .int .i64 c, .int .i64 b, .int .i64 p] 25)).cell? ⟨w.heap.size, 3, none⟩ = some (.int .i64 p) := KV.out.cell 3
    have kvl : w.heap.size < (w.alloc (.cells #[.int .i64 r, .int .i64 c, .int .i64 b, .int .i64 p] 25)).heap.size := KV.out.lt
    go_wp2_with fail
    go_ret
    exact ⟨rfl, HB.out⟩
  by_cases c0 : 0 ≤ c
  case neg =>
    obtain rfl : z = false := by
      rw [HZ.out]
      rw [decide_eq_false (p := 0 ≤ c ∧ c ≤ 200000000) (by omega)]
      cases d2 <;> rfl
    have kv0 : (w.alloc (.cells #[.int .i64 r, .int .i64 c, .int .i64 b, .int .i64 p] 25)).cell? ⟨w.heap.size, 0, none⟩ = some (.int .i64 r) := KV.out.cell 0
    have kv1 : (w.alloc (.cells #[.int .i64 r, .int .i64 c, .int .i64 b, .int .i64 p] 25)).cell? ⟨w.heap.size, 1, none⟩ = some (.int .i64 c) := KV.out.cell 1
    have kv2 : (w.alloc (.cells #[.int .i64 r, .int .i64 c, .int .i64 b, .int .i64 p] 25)).cell? ⟨w.heap.size, 2, none⟩ = some (.int .i64 b) := KV.out.cell 2
    have kv3 : (w.alloc (.cells #[.int .i64 r, .int .i64 c, .int .i64 b, .int .i64 p] 25)).cell? ⟨w.heap.size, 3, none⟩ = some (.int .i64 p) := KV.out.cell 3
    have kvl : w.heap.size < (w.alloc (.cells #[.int .i64 r, .int .i64 c, .int .i64 b, .int .i64 p] 25)).heap.size := KV.out.lt
    go_wp2_with fail
    go_ret
    exact ⟨rfl, HB.out⟩
  by_cases c1 : c ≤ 200000000
  case neg =>
    obtain rfl : z = false := by
      rw [HZ.out]
      rw [decide_eq_false (p := 0 ≤ c ∧ c ≤ 200000000) (by omega)]
      cases d2 <;> rfl
    have kv0 : (w.alloc (.cells #[.int .i64 r, .int .i64 c, .int .i64 b, .int .i64 p] 25)).cell? ⟨w.heap.size, 0, none⟩ = some (.int .i64 r) := KV.out.cell 0
    have kv1 : (w.alloc (.cells #[.int .i64 r, .int .i64 c, .int .i64 b, .int .i64 p] 25)).cell? ⟨w.heap.size, 1, none⟩ = some (.int .i64 c) := KV.out.cell 1
    have kv2 : (w.alloc (.cells #[.int .i64 r, .int .i64 c, .int .i64 b, .int .i64 p] 25)).cell? ⟨w.heap.size, 2, none⟩ = some (.int .i64 b) := KV.out.cell 2
    have kv3 : (w.alloc (.cells #[.int .i64 r, .int .i64 c, .int .i64 b, .int .i64 p] 25)).cell? ⟨w.heap.size, 3, none⟩ = some (.int .i64 p) := KV.out.cell 3
    have kvl : w.heap.size < (w.alloc (.cells #[.int .i64 r, .int .i64 c, .int .i64 b, .int .i64 p] 25)).heap.size := KV.out.lt
    go_wp2_with fail
    go_ret
    exact ⟨rfl, HB.out⟩
  have kv0 : (w.alloc (.cells #[.int .i64 r, .int .i64 c, .int .i64 b, .int .i64 p] 25)).cell? ⟨w.heap.size, 0, none⟩ = some (.int .i64 r) := KV.out.cell 0
  have kv1 : (w.alloc (.cells #[.int .i64 r, .int .i64 c, .int .i64 b, .int .i64 p] 25)).cell? ⟨w.heap.size, 1, none⟩ = some (.int .i64 c) := KV.out.cell 1
  have kv2 : (w.alloc (.cells #[.int .i64 r, .int .i64 c, .int .i64 b, .int .i64 p] 25)).cell? ⟨w.heap.size, 2, none⟩ = some (.int .i64 b) := KV.out.cell 2
  have kv3 : (w.alloc (.cells #[.int .i64 r, .int .i64 c, .int .i64 b, .int .i64 p] 25)).cell? ⟨w.heap.size, 3, none⟩ = some (.int .i64 p) := KV.out.cell 3
  have kvl : w.heap.size < (w.alloc (.cells #[.int .i64 r, .int .i64 c, .int .i64 b, .int .i64 p] 25)).heap.size := KV.out.lt
  go_wp2_with fail
  refine (H2.out _).mono ?_
  rintro e ww ⟨rfl, rfl⟩
  clear kv0 kv1 kv2 kv3 kvl
  cases d2
  · obtain rfl : z = false := by
      rw [HZ.out]
      rfl
    have kv0 : (w.alloc (.cells #[.int .i64 r, .int .i64 c, .int .i64 b, .int .i64 p] 25)).cell? ⟨w.heap.size, 0, none⟩ = some (.int .i64 r) := KV.out.cell 0
    have kv1 : (w.alloc (.cells #[.int .i64 r, .int .i64 c, .int .i64 b, .int .i64 p] 25)).cell? ⟨w.heap.size, 1, none⟩ = some (.int .i64 c) := KV.out.cell 1
    have kv2 : (w.alloc (.cells #[.int .i64 r, .int .i64 c, .int .i64 b, .int .i64 p] 25)).cell? ⟨w.heap.size, 2, none⟩ = some (.int .i64 b) := KV.out.cell 2
    have kv3 : (w.alloc (.cells #[.int .i64 r, .int .i64 c, .int .i64 b, .int .i64 p] 25)).cell? ⟨w.heap.size, 3, none⟩ = some (.int .i64 p) := KV.out.cell 3
    have kvl : w.heap.size < (w.alloc (.cells #[.int .i64 r, .int .i64 c, .int .i64 b, .int .i64 p] 25)).heap.size := KV.out.lt
    go_wp2_with fail
    go_ret
    exact ⟨rfl, HB.out⟩
  by_cases p0 : 1 ≤ p
  case neg =>
    obtain rfl : z = false := by
      rw [HZ.out]
      rw [decide_eq_false (p := 1 ≤ p ∧ p ≤ 16) (by omega), decide_eq_true (p := 0 ≤ c ∧ c ≤ 200000000) (by omega)]
      rfl
    have kv0 : (w.alloc (.cells #[.int .i64 r, .int .i64 c, .int .i64 b, .int .i64 p] 25)).cell? ⟨w.heap.size, 0, none⟩ = some (.int .i64 r) := KV.out.cell 0
    have kv1 : (w.alloc (.cells #[.int .i64 r, .int .i64 c, .int .i64 b, .int .i64 p] 25)).cell? ⟨w.heap.size, 1, none⟩ = some (.int .i64 c) := KV.out.cell 1
    have kv2 : (w.alloc (.cells #[.int .i64 r, .int .i64 c, .int .i64 b, .int .i64 p] 25)).cell? ⟨w.heap.size, 2, none⟩ = some (.int .i64 b) := KV.out.cell 2
    have kv3 : (w.alloc (.cells #[.int .i64 r, .int .i64 c, .int .i64 b, .int .i64 p] 25)).cell? ⟨w.heap.size, 3, none⟩ = some (.int .i64 p) := KV.out.cell 3
    have kvl : w.heap.size < (w.alloc (.cells #[.int .i64 r, .int .i64 c, .int .i64 b, .int .i64 p] 25)).heap.size := KV.out.lt
    go_wp2_with fail
    go_ret
    exact ⟨rfl, HB.out⟩
  by_cases p1 : p ≤ 16
  case neg =>
    obtain rfl : z = false := by
      rw [HZ.out]
      rw [decide_eq_false (p := 1 ≤ p ∧ p ≤ 16) (by omega), decide_eq_true (p := 0 ≤ c ∧ c ≤ 200000000) (by omega)]
      rfl
    have kv0 : (w.alloc (.cells #[.int .i64 r, .int .i64 c, .int .i64 b, .int .i64 p] 25)).cell? ⟨w.heap.size, 0, none⟩ = some (.int .i64 r) := KV.out.cell 0
    have kv1 : (w.alloc (.cells #[.int .i64 r, .int .i64 c, .int .i64 b, .int .i64 p] 25)).cell? ⟨w.heap.size, 1, none⟩ = some (.int .i64 c) := KV.out.cell 1
    have kv2 : (w.alloc (.cells #[.int .i64 r, .int .i64 c, .int .i64 b, .int .i64 p] 25)).cell? ⟨w.heap.size, 2, none⟩ = some (.int .i64 b) := KV.out.cell 2
    have kv3 : (w.alloc (.cells #[.int .i64 r, .int .i64 c, .int .i64 b, .int .i64 p] 25)).cell? ⟨w.heap.size, 3, none⟩ = some (.int .i64 p) := KV.out.cell 3
    have kvl : w.heap.size < (w.alloc (.cells #[.int .i64 r, .int .i64 c, .int .i64 b, .int .i64 p] 25)).heap.size := KV.out.lt
    go_wp2_with fail
    go_ret
    exact ⟨congrArg (fun x => Ending.returned (Value.bool x)) (decide_eq_false (show ¬ p ≤ 16 by omega)), HB.out⟩
  obtain rfl : z = true := by
    rw [HZ.out, decide_eq_true (p := 1 ≤ p ∧ p ≤ 16) (by omega), decide_eq_true (p := 0 ≤ c ∧ c ≤ 200000000) (by omega)]
    rfl
  have kv0 : (w.alloc (.cells #[.int .i64 r, .int .i64 c, .int .i64 b, .int .i64 p] 25)).cell? ⟨w.heap.size, 0, none⟩ = some (.int .i64 r) := KV.out.cell 0
  have kv1 : (w.alloc (.cells #[.int .i64 r, .int .i64 c, .int .i64 b, .int .i64 p] 25)).cell? ⟨w.heap.size, 1, none⟩ = some (.int .i64 c) := KV.out.cell 1
  have kv2 : (w.alloc (.cells #[.int .i64 r, .int .i64 c, .int .i64 b, .int .i64 p] 25)).cell? ⟨w.heap.size, 2, none⟩ = some (.int .i64 b) := KV.out.cell 2
  have kv3 : (w.alloc (.cells #[.int .i64 r, .int .i64 c, .int .i64 b, .int .i64 p] 25)).cell? ⟨w.heap.size, 3, none⟩ = some (.int .i64 p) := KV.out.cell 3
  have kvl : w.heap.size < (w.alloc (.cells #[.int .i64 r, .int .i64 c, .int .i64 b, .int .i64 p] 25)).heap.size := KV.out.lt
  go_wp2_with fail
  go_ret
  exact ⟨rfl, HB.out⟩
end Go.Proofs.Ytbcpfciegamaeaa
