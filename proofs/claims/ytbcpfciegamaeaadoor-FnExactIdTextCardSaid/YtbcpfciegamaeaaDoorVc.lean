/- Vectors: their values, what is right, their order; the model's chapter 8 but for Best. -/
import Derived.Test.YtbcpfciegamaeaaDoorRowB
import Derived.Test.YtbcpfciegamaeaaDoorTm
import Derived.Test.YtbcpfciegamaeaaDoorMac
import Derived.IntWalk
import Derived.Deep.RegionHeld3
import Derived.Deep.DeepCutAuto
namespace Go.Proofs.YtbcpfciegamaeaaDoor
open Go.RowKit

structure Vc where
  root : Int
  cost : Int
  bridge : Int
  port : Int
deriving DecidableEq
instance : Inhabited Vc := ⟨⟨0, 0, 0, 0⟩⟩
/-- a vector as the program holds it -/
def Vc.val (v : Vc) : Value := .agg #[.int .i64 v.root, .int .i64 v.cost, .int .i64 v.bridge, .int .i64 v.port]
def Vc.cs (v : Vc) : List Value := [.int .i64 v.root, .int .i64 v.cost, .int .i64 v.bridge, .int .i64 v.port]
def Vc.zero : Vc := ⟨0, 0, 0, 0⟩
/-- a bridge's number -/
def idOk (n : Int) : Prop := (0 ≤ n ∧ n ≤ 4503599627370495) ∧ ¬ isGrp (n % 281474976710656)
instance (n : Int) : Decidable (idOk n) := by unfold idOk; infer_instance
def idOf (rank mac : Int) : Int := if (0 ≤ rank ∧ rank ≤ 15) ∧ isMac mac ∧ ¬ isGrp mac then rank * 281474976710656 + mac else -1
/-- a vector is right -/
def vcOk (v : Vc) : Prop := idOk v.root ∧ idOk v.bridge ∧ (0 ≤ v.cost ∧ v.cost ≤ 200000000) ∧ (1 ≤ v.port ∧ v.port ≤ 16)
instance (v : Vc) : Decidable (vcOk v) := by unfold vcOk; infer_instance
def cmpN (a b : Int) : Int := if a < b then -1 else if b < a then 1 else 0
/-- the order of vectors -/
def cmpVc (a b : Vc) : Int := if cmpN a.root b.root ≠ 0 then cmpN a.root b.root else if cmpN a.cost b.cost ≠ 0 then cmpN a.cost b.cost else if cmpN a.bridge b.bridge ≠ 0 then cmpN a.bridge b.bridge else cmpN a.port b.port
def mayThrough (v : Vc) (cost bridge port : Int) : Prop := vcOk v ∧ (1 ≤ cost ∧ cost ≤ 200000000) ∧ vcOk ⟨v.root, v.cost + cost, bridge, port⟩
instance (v : Vc) (cost bridge port : Int) : Decidable (mayThrough v cost bridge port) := by unfold mayThrough; infer_instance
def through (v : Vc) (cost bridge port : Int) : Vc := if mayThrough v cost bridge port then ⟨v.root, v.cost + cost, bridge, port⟩ else Vc.zero

/-- the numbers that are divided are an int's -/
def Vc.fit (v : Vc) : Prop := v.root ≤ 9223372036854775807 ∧ v.bridge ≤ 9223372036854775807
theorem wf_top {x : Int} (h : (Lit.int .i64 x).wf = true) : x ≤ 9223372036854775807 := by
  simp [Lit.wf, IntKind.min, IntKind.max, IntKind.signed, IntKind.bits] at h
  omega
theorem idOf_top (rank mac : Int) : idOf rank mac ≤ 9223372036854775807 := by
  unfold idOf
  split
  · rename_i h
    have h2 := h.2.1
    unfold isMac at h2
    omega
  · omega
theorem through_fit {v : Vc} {cost bridge port : Int} (hv : v.fit) (hb : bridge ≤ 9223372036854775807) : (through v cost bridge port).fit := by
  unfold through
  split
  · exact ⟨hv.1, hb⟩
  · exact ⟨by decide, by decide⟩

theorem sizeVc : (Tryd.prog.info? 25).map (·.size) = some 4 := by kernel_rfl
theorem vcOk_and (r c b p : Int) : decide (vcOk ⟨r, c, b, p⟩) = (decide (idOk r) && (decide (idOk b) && (decide (0 ≤ c ∧ c ≤ 200000000) && decide (1 ≤ p ∧ p ≤ 16)))) := by
  unfold vcOk
  exact and4

theorem isId_spec (n : Int) (w : World) : Calls Tryd.prog 33 #[.int .i64 n] w fun e w' => e = .returned (.bool (decide (idOk n))) ∧ w = w' := by
  have h1 := in_any5 n 0 4503599627370495
  have h2 := group_spec (n % 281474976710656)
  obtain ⟨r, hr⟩ : ∃ r, decide (idOk n) = r := ⟨_, rfl⟩
  obtain ⟨g, hg⟩ : ∃ g, decide (isGrp (n % 281474976710656)) = g := ⟨_, rfl⟩
  rw [hr]
  rw [hg] at h2
  have H2 := Lib.hid h2
  by_cases h : 0 ≤ n ∧ n ≤ 4503599627370495
  · rw [decide_eq_true h] at h1
    have hm : n.tmod 281474976710656 = n % 281474976710656 := Int.tmod_eq_emod_of_nonneg h.1
    obtain rfl : r = !g := by
      rw [← hr, ← hg]
      unfold idOk
      by_cases k : isGrp (n % 281474976710656) <;> simp [h, k]
    have H1 := Lib.hid h1
    clear h1 h2 hr hg h
    go_enter Tryd.func33, Tryd.ntmps33
    go_wp2_with fail
    refine (H1.out _).mono ?_
    rintro e ww ⟨rfl, rfl⟩
    go_wp2_with fail
    refine (H2.out _).mono ?_
    rintro e ww ⟨rfl, rfl⟩
    go_wp2_with fail
    go_ret
    exact ⟨rfl, rfl⟩
  · rw [decide_eq_false h] at h1
    obtain rfl : r = false := by rw [← hr]; exact decide_eq_false (fun k => h k.1)
    have H1 := Lib.hid h1
    clear h1 h2 hr hg h
    go_enter Tryd.func33, Tryd.ntmps33
    go_wp2_with fail
    refine (H1.out _).mono ?_
    rintro e ww ⟨rfl, rfl⟩
    go_wp2_with fail
    go_ret
    exact ⟨rfl, rfl⟩

theorem id_spec (rank mac : Int) (w : World) : Calls Tryd.prog 11 #[.int .i64 rank, .int .i64 mac] w fun e w' => e = .returned (.int .i64 (idOf rank mac)) ∧ w = w' := by
  have h1 := in_any5 rank 0 15
  have h2 := macOk_spec mac
  have h3 := group_spec mac
  obtain ⟨r, hr⟩ : ∃ r, idOf rank mac = r := ⟨_, rfl⟩
  rw [hr]
  by_cases k1 : 0 ≤ rank ∧ rank ≤ 15
  · by_cases k2 : isMac mac
    · by_cases k3 : isGrp mac
      · obtain rfl : r = -1 := by rw [← hr]; exact if_neg (fun h => h.2.2 k3)
        rw [decide_eq_true k1] at h1; rw [decide_eq_true k2] at h2; rw [decide_eq_true k3] at h3
        have H1 := Lib.hid h1; have H2 := Lib.hid h2; have H3 := Lib.hid h3
        clear h1 h2 h3 k1 k2 k3 hr
        go_enter Tryd.func11, Tryd.ntmps11
        go_wp2_with fail
        refine (H1.out _).mono ?_
        rintro e ww ⟨rfl, rfl⟩
        go_wp2_with fail
        refine (H2.out _).mono ?_
        rintro e ww ⟨rfl, rfl⟩
        go_wp2_with fail
        refine (H3.out _).mono ?_
        rintro e ww ⟨rfl, rfl⟩
        go_wp2_with fail
        go_ret
        exact ⟨rfl, rfl⟩
      · have hm := k2
        unfold isMac at hm
        have w1 : wrap64 (rank * 281474976710656) = rank * 281474976710656 := IntWalk.wrap64_in _ (by omega)
        have w2 : wrap64 (rank * 281474976710656 + mac) = rank * 281474976710656 + mac := IntWalk.wrap64_in _ (by omega)
        obtain rfl : r = rank * 281474976710656 + mac := by rw [← hr]; exact if_pos ⟨k1, k2, k3⟩
        rw [decide_eq_true k1] at h1; rw [decide_eq_true k2] at h2; rw [decide_eq_false k3] at h3
        have H1 := Lib.hid h1; have H2 := Lib.hid h2; have H3 := Lib.hid h3
        clear h1 h2 h3 k2 k3 hr
        go_enter Tryd.func11, Tryd.ntmps11
        go_wp2_with fail
        refine (H1.out _).mono ?_
        rintro e ww ⟨rfl, rfl⟩
        go_wp2_with fail
        refine (H2.out _).mono ?_
        rintro e ww ⟨rfl, rfl⟩
        go_wp2_with fail
        refine (H3.out _).mono ?_
        rintro e ww ⟨rfl, rfl⟩
        go_wp2_with fail
        go_ret
        exact ⟨rfl, rfl⟩
    · obtain rfl : r = -1 := by rw [← hr]; exact if_neg (fun h => k2 h.2.1)
      rw [decide_eq_true k1] at h1; rw [decide_eq_false k2] at h2
      have H1 := Lib.hid h1; have H2 := Lib.hid h2
      clear h1 h2 h3 k1 k2 hr
      go_enter Tryd.func11, Tryd.ntmps11
      go_wp2_with fail
      refine (H1.out _).mono ?_
      rintro e ww ⟨rfl, rfl⟩
      go_wp2_with fail
      refine (H2.out _).mono ?_
      rintro e ww ⟨rfl, rfl⟩
      go_wp2_with fail
      go_ret
      exact ⟨rfl, rfl⟩
  · obtain rfl : r = -1 := by rw [← hr]; exact if_neg (fun h => k1 h.1)
    rw [decide_eq_false k1] at h1
    have H1 := Lib.hid h1
    clear h1 h2 h3 k1 hr
    go_enter Tryd.func11, Tryd.ntmps11
    go_wp2_with fail
    refine (H1.out _).mono ?_
    rintro e ww ⟨rfl, rfl⟩
    go_wp2_with fail
    go_ret
    exact ⟨rfl, rfl⟩

set_option linter.unusedVariables false in
set_option linter.unusedSimpArgs false in
set_option maxRecDepth 20000 in
set_option maxHeartbeats 4000000 in
theorem vectorOk_spec (v : Vc) (w : World) : Calls Tryd.prog 22 #[v.val] w fun e w' => e = .returned (.bool (decide (vcOk v))) ∧ Below w.heap.size w w' := by
  obtain ⟨r, c, b, p⟩ := v
  rw [vcOk_and]
  have h1 := isId_spec r
  have h2 := isId_spec b
  have h3 := in_any5 c 0 200000000
  have h4 := in_any5 p 1 16
  generalize decide (idOk r) = d1 at h1 ⊢
  generalize decide (idOk b) = d2 at h2 ⊢
  generalize decide (0 ≤ c ∧ c ≤ 200000000) = d3 at h3 ⊢
  generalize decide (1 ≤ p ∧ p ≤ 16) = d4 at h4 ⊢
  unfold Vc.val
  have H1 := Lib.hid h1; have H2 := Lib.hid h2; have H3 := Lib.hid h3; have H4 := Lib.hid h4
  have hB : Below w.heap.size w (w.alloc (.cells #[.int .i64 r, .int .i64 c, .int .i64 b, .int .i64 p] 25)) := ((Below.refl _ _).alloc (by simp) _)
  have hKV : Blk (w.alloc (.cells #[.int .i64 r, .int .i64 c, .int .i64 b, .int .i64 p] 25)) (w.heap.size) #[.int .i64 r, .int .i64 c, .int .i64 b, .int .i64 p] 25 := (blk_new _ _ (by simp))
  have HB := Lib.hid hB; have KV := Lib.hid hKV
  clear hB hKV h1 h2 h3 h4
  go_enter Tryd.func22, Tryd.ntmps22
  go_wp2_with fail
  refine (H1.out _).mono ?_
  rintro e ww ⟨rfl, rfl⟩
  cases d1
  · go_wp2_with fail
    go_ret
    exact ⟨rfl, HB.out⟩
  go_wp2_with fail
  refine (H2.out _).mono ?_
  rintro e ww ⟨rfl, rfl⟩
  cases d2
  · go_wp2_with fail
    go_ret
    exact ⟨rfl, HB.out⟩
  go_wp2_with fail
  refine (H3.out _).mono ?_
  rintro e ww ⟨rfl, rfl⟩
  cases d3
  · go_wp2_with fail
    go_ret
    exact ⟨rfl, HB.out⟩
  go_wp2_with fail
  refine (H4.out _).mono ?_
  rintro e ww ⟨rfl, rfl⟩
  cases d4
  · go_wp2_with fail
    go_ret
    exact ⟨rfl, HB.out⟩
  go_wp2_with fail
  go_ret
  exact ⟨rfl, HB.out⟩

set_option linter.unusedVariables false in
set_option linter.unusedSimpArgs false in
set_option maxRecDepth 20000 in
set_option maxHeartbeats 4000000 in
theorem through_spec (v : Vc) (cost bridge port : Int) (w : World) : Calls Tryd.prog 8 #[v.val, .int .i64 cost, .int .i64 bridge, .int .i64 port] w fun e w' => e = .returned (through v cost bridge port).val ∧ Below w.heap.size w w' := by
  have h1 := vectorOk_spec v
  have h2 := in_any5 cost 1 200000000
  have h3 := vectorOk_spec ⟨v.root, v.cost + cost, bridge, port⟩
  obtain ⟨z, hz⟩ : ∃ z, through v cost bridge port = z := ⟨_, rfl⟩
  rw [hz]
  obtain ⟨d1, hd1⟩ : ∃ d, decide (vcOk v) = d := ⟨_, rfl⟩
  rw [hd1] at h1
  obtain ⟨d2, hd2⟩ : ∃ d, decide (1 ≤ cost ∧ cost ≤ 200000000) = d := ⟨_, rfl⟩
  rw [hd2] at h2
  obtain ⟨d3, hd3⟩ : ∃ d, decide (vcOk ⟨v.root, v.cost + cost, bridge, port⟩) = d := ⟨_, rfl⟩
  rw [hd3] at h3
  have hno : ¬ (d1 = true ∧ d2 = true ∧ d3 = true) → z = Vc.zero := fun k => by rw [← hz]; exact if_neg (fun h => k ⟨hd1 ▸ decide_eq_true h.1, hd2 ▸ decide_eq_true h.2.1, hd3 ▸ decide_eq_true h.2.2⟩)
  have hyes : d1 = true → d2 = true → d3 = true → z = ⟨v.root, v.cost + cost, bridge, port⟩ := fun k1 k2 k3 => by rw [← hz]; exact if_pos ⟨of_decide_eq_true (hd1.trans k1), of_decide_eq_true (hd2.trans k2), of_decide_eq_true (hd3.trans k3)⟩
  have hwr : d1 = true → d2 = true → wrap64 (v.cost + cost) = v.cost + cost := fun k1 k2 => by
    have a := of_decide_eq_true (hd1.trans k1)
    have b := of_decide_eq_true (hd2.trans k2)
    exact IntWalk.wrap64_in _ (by have := a.2.2.1; omega)
  obtain ⟨r, c, b, p⟩ := v
  unfold Vc.val at h1 h3 ⊢
  simp only at h1 h3 hno hyes hwr
  unfold Vc.zero at hno
  have H1 := Lib.hid h1; have H2 := Lib.hid h2; have H3 := Lib.hid h3; have HNO := Lib.hid hno; have HYES := Lib.hid hyes; have HWR := Lib.hid hwr
  have hB : Below w.heap.size w ((w.alloc (.cells #[.int .i64 r, .int .i64 c, .int .i64 b, .int .i64 p] 25)).alloc (.cells #[.int .i64 0, .int .i64 0, .int .i64 0, .int .i64 0] 25)) := (((Below.refl _ _).alloc (by simp) _).alloc (by simp) _)
  have hKV : Blk ((w.alloc (.cells #[.int .i64 r, .int .i64 c, .int .i64 b, .int .i64 p] 25)).alloc (.cells #[.int .i64 0, .int .i64 0, .int .i64 0, .int .i64 0] 25)) (w.heap.size) #[.int .i64 r, .int .i64 c, .int .i64 b, .int .i64 p] 25 := ((blk_new _ _ (by simp)).alloc _)
  have hKZ : Blk ((w.alloc (.cells #[.int .i64 r, .int .i64 c, .int .i64 b, .int .i64 p] 25)).alloc (.cells #[.int .i64 0, .int .i64 0, .int .i64 0, .int .i64 0] 25)) (w.heap.size + 1) #[.int .i64 0, .int .i64 0, .int .i64 0, .int .i64 0] 25 := (blk_new _ _ (by simp))
  have HB := Lib.hid hB; have KV := Lib.hid hKV; have KZ := Lib.hid hKZ
  clear hB hKV hKZ h1 h2 h3 hno hyes hwr hd1 hd2 hd3 hz
  go_enter Tryd.func8, Tryd.ntmps8
  go_wp2_with fail
  refine (H1.out _).mono ?_
  rintro e x1 ⟨rfl, hbq⟩
  have KV := Lib.hid (KV.out.after hbq)
  have KZ := Lib.hid (KZ.out.after hbq)
  have HB := Lib.hid (HB.out.trans (hbq.mono HB.out.size))
  clear hbq
  cases d1
  · obtain rfl := HNO.out (by simp)
    have kv0 : x1.cell? ⟨w.heap.size, 0, none⟩ = some (.int .i64 r) := KV.out.cell 0
    have kv1 : x1.cell? ⟨w.heap.size, 1, none⟩ = some (.int .i64 c) := KV.out.cell 1
    have kv2 : x1.cell? ⟨w.heap.size, 2, none⟩ = some (.int .i64 b) := KV.out.cell 2
    have kv3 : x1.cell? ⟨w.heap.size, 3, none⟩ = some (.int .i64 p) := KV.out.cell 3
    have kvl : w.heap.size < x1.heap.size := KV.out.lt
    go_wp2_with (with_reducible refine store_here (ty := 25) rfl ?_)
    refine halt_go ?_
    clear kv0 kv1 kv2 kv3 kvl
    refine wpList_store_row rfl 25 _ _ rfl (w.heap.size + 1) #[.int .i64 0, .int .i64 0, .int .i64 0, .int .i64 0] rfl rfl 25 #[.int .i64 0, .int .i64 0, .int .i64 0, .int .i64 0] KZ.out sizeVc rfl (by simp [Value.oneCell']) ?_
    have KV := Lib.hid (KV.out.rowOther (g := w.heap.size + 1) (by omega) #[.int .i64 0, .int .i64 0, .int .i64 0, .int .i64 0]); have KZ := Lib.hid (Blk.row (cs := #[.int .i64 0, .int .i64 0, .int .i64 0, .int .i64 0]) KZ.out); have HB := Lib.hid (Below.row HB.out (g := w.heap.size + 1) (by omega) #[.int .i64 0, .int .i64 0, .int .i64 0, .int .i64 0])
    generalize x1.setRow (w.heap.size + 1) #[.int .i64 0, .int .i64 0, .int .i64 0, .int .i64 0] = x2 at HB KV KZ ⊢
    have kz0 : x2.cell? ⟨w.heap.size + 1, 0, none⟩ = some (.int .i64 0) := KZ.out.cell 0
    have kz1 : x2.cell? ⟨w.heap.size + 1, 1, none⟩ = some (.int .i64 0) := KZ.out.cell 1
    have kz2 : x2.cell? ⟨w.heap.size + 1, 2, none⟩ = some (.int .i64 0) := KZ.out.cell 2
    have kz3 : x2.cell? ⟨w.heap.size + 1, 3, none⟩ = some (.int .i64 0) := KZ.out.cell 3
    have kzl : w.heap.size + 1 < x2.heap.size := KZ.out.lt
    go_wp2_with fail
    exact bodyPost_ret (v := .agg #[.int .i64 0, .int .i64 0, .int .i64 0, .int .i64 0]) (by simp [results, Tryd.results8, go_sem, kz0, kz1, kz2, kz3]) rfl ⟨rfl, HB.out⟩
  have kv0 : x1.cell? ⟨w.heap.size, 0, none⟩ = some (.int .i64 r) := KV.out.cell 0
  have kv1 : x1.cell? ⟨w.heap.size, 1, none⟩ = some (.int .i64 c) := KV.out.cell 1
  have kv2 : x1.cell? ⟨w.heap.size, 2, none⟩ = some (.int .i64 b) := KV.out.cell 2
  have kv3 : x1.cell? ⟨w.heap.size, 3, none⟩ = some (.int .i64 p) := KV.out.cell 3
  have kvl : w.heap.size < x1.heap.size := KV.out.lt
  go_wp2_with fail
  refine (H2.out _).mono ?_
  rintro e ww ⟨rfl, rfl⟩
  cases d2
  · obtain rfl := HNO.out (by simp)
    clear kv0 kv1 kv2 kv3 kvl
    have kv0 : x1.cell? ⟨w.heap.size, 0, none⟩ = some (.int .i64 r) := KV.out.cell 0
    have kv1 : x1.cell? ⟨w.heap.size, 1, none⟩ = some (.int .i64 c) := KV.out.cell 1
    have kv2 : x1.cell? ⟨w.heap.size, 2, none⟩ = some (.int .i64 b) := KV.out.cell 2
    have kv3 : x1.cell? ⟨w.heap.size, 3, none⟩ = some (.int .i64 p) := KV.out.cell 3
    have kvl : w.heap.size < x1.heap.size := KV.out.lt
    go_wp2_with (with_reducible refine store_here (ty := 25) rfl ?_)
    refine halt_go ?_
    clear kv0 kv1 kv2 kv3 kvl
    refine wpList_store_row rfl 25 _ _ rfl (w.heap.size + 1) #[.int .i64 0, .int .i64 0, .int .i64 0, .int .i64 0] rfl rfl 25 #[.int .i64 0, .int .i64 0, .int .i64 0, .int .i64 0] KZ.out sizeVc rfl (by simp [Value.oneCell']) ?_
    have KV := Lib.hid (KV.out.rowOther (g := w.heap.size + 1) (by omega) #[.int .i64 0, .int .i64 0, .int .i64 0, .int .i64 0]); have KZ := Lib.hid (Blk.row (cs := #[.int .i64 0, .int .i64 0, .int .i64 0, .int .i64 0]) KZ.out); have HB := Lib.hid (Below.row HB.out (g := w.heap.size + 1) (by omega) #[.int .i64 0, .int .i64 0, .int .i64 0, .int .i64 0])
    generalize x1.setRow (w.heap.size + 1) #[.int .i64 0, .int .i64 0, .int .i64 0, .int .i64 0] = x2 at HB KV KZ ⊢
    have kz0 : x2.cell? ⟨w.heap.size + 1, 0, none⟩ = some (.int .i64 0) := KZ.out.cell 0
    have kz1 : x2.cell? ⟨w.heap.size + 1, 1, none⟩ = some (.int .i64 0) := KZ.out.cell 1
    have kz2 : x2.cell? ⟨w.heap.size + 1, 2, none⟩ = some (.int .i64 0) := KZ.out.cell 2
    have kz3 : x2.cell? ⟨w.heap.size + 1, 3, none⟩ = some (.int .i64 0) := KZ.out.cell 3
    have kzl : w.heap.size + 1 < x2.heap.size := KZ.out.lt
    go_wp2_with fail
    exact bodyPost_ret (v := .agg #[.int .i64 0, .int .i64 0, .int .i64 0, .int .i64 0]) (by simp [results, Tryd.results8, go_sem, kz0, kz1, kz2, kz3]) rfl ⟨rfl, HB.out⟩
  have hw := HWR.out (by simp) (by simp)
  clear kv0 kv1 kv2 kv3 kvl
  have pkv0 : x1.cell? ⟨w.heap.size, 0, none⟩ = some (.int .i64 r) := KV.out.cell 0
  have pkv1 : x1.cell? ⟨w.heap.size, 1, none⟩ = some (.int .i64 c) := KV.out.cell 1
  have pkv2 : x1.cell? ⟨w.heap.size, 2, none⟩ = some (.int .i64 b) := KV.out.cell 2
  have pkv3 : x1.cell? ⟨w.heap.size, 3, none⟩ = some (.int .i64 p) := KV.out.cell 3
  have hbq : Below x1.heap.size x1 (x1.alloc (.cells #[.int .i64 r, .int .i64 (c + cost), .int .i64 bridge, .int .i64 port] 25)) := (Below.refl _ _).alloc (Nat.le_refl _) _
  have hnq : Blk (x1.alloc (.cells #[.int .i64 r, .int .i64 (c + cost), .int .i64 bridge, .int .i64 port] 25)) x1.heap.size #[.int .i64 r, .int .i64 (c + cost), .int .i64 bridge, .int .i64 port] 25 := blk_new _ _ rfl
  have hleKN : w.heap.size ≤ x1.heap.size := HB.out.size
  have hltKVKN := KV.out.lt
  have hltKZKN := KZ.out.lt
  have KV := Lib.hid (KV.out.after hbq)
  have KZ := Lib.hid (KZ.out.after hbq)
  have HB := Lib.hid (HB.out.trans (hbq.mono HB.out.size))
  have KN := Lib.hid hnq
  have HLTKN := Lib.hid (And.intro hleKN (And.intro hltKVKN (And.intro hltKZKN trivial)))
  clear hbq hnq hleKN hltKVKN hltKZKN
  go_wp2_with fail
  clear pkv0 pkv1 pkv2 pkv3
  generalize x1.alloc (.cells #[.int .i64 r, .int .i64 (c + cost), .int .i64 bridge, .int .i64 port] 25) = x2 at KV KZ KN HB ⊢
  generalize x1.heap.size = e2 at KN HLTKN ⊢
  clear hw
  refine (H3.out _).mono ?_
  rintro e x3 ⟨rfl, hbq⟩
  have KV := Lib.hid (KV.out.after hbq)
  have KZ := Lib.hid (KZ.out.after hbq)
  have KN := Lib.hid (KN.out.after hbq)
  have HB := Lib.hid (HB.out.trans (hbq.mono HB.out.size))
  clear hbq
  cases d3
  · obtain rfl := HNO.out (by simp)
    have kn0 : x3.cell? ⟨e2, 0, none⟩ = some (.int .i64 r) := KN.out.cell 0
    have kn1 : x3.cell? ⟨e2, 1, none⟩ = some (.int .i64 (c + cost)) := KN.out.cell 1
    have kn2 : x3.cell? ⟨e2, 2, none⟩ = some (.int .i64 bridge) := KN.out.cell 2
    have kn3 : x3.cell? ⟨e2, 3, none⟩ = some (.int .i64 port) := KN.out.cell 3
    have knl : e2 < x3.heap.size := KN.out.lt
    go_wp2_with (with_reducible refine store_here (ty := 25) rfl ?_)
    refine halt_go ?_
    clear kn0 kn1 kn2 kn3 knl
    refine wpList_store_row rfl 25 _ _ rfl (w.heap.size + 1) #[.int .i64 0, .int .i64 0, .int .i64 0, .int .i64 0] rfl rfl 25 #[.int .i64 0, .int .i64 0, .int .i64 0, .int .i64 0] KZ.out sizeVc rfl (by simp [Value.oneCell']) ?_
    have KV := Lib.hid (KV.out.rowOther (g := w.heap.size + 1) (by have := HLTKN.out; omega) #[.int .i64 0, .int .i64 0, .int .i64 0, .int .i64 0]); have KZ := Lib.hid (Blk.row (cs := #[.int .i64 0, .int .i64 0, .int .i64 0, .int .i64 0]) KZ.out); have KN := Lib.hid (KN.out.rowOther (g := w.heap.size + 1) (by have := HLTKN.out; omega) #[.int .i64 0, .int .i64 0, .int .i64 0, .int .i64 0]); have HB := Lib.hid (Below.row HB.out (g := w.heap.size + 1) (by have := HLTKN.out; omega) #[.int .i64 0, .int .i64 0, .int .i64 0, .int .i64 0])
    generalize x3.setRow (w.heap.size + 1) #[.int .i64 0, .int .i64 0, .int .i64 0, .int .i64 0] = x4 at HB KV KZ KN ⊢
    have kz0 : x4.cell? ⟨w.heap.size + 1, 0, none⟩ = some (.int .i64 0) := KZ.out.cell 0
    have kz1 : x4.cell? ⟨w.heap.size + 1, 1, none⟩ = some (.int .i64 0) := KZ.out.cell 1
    have kz2 : x4.cell? ⟨w.heap.size + 1, 2, none⟩ = some (.int .i64 0) := KZ.out.cell 2
    have kz3 : x4.cell? ⟨w.heap.size + 1, 3, none⟩ = some (.int .i64 0) := KZ.out.cell 3
    have kzl : w.heap.size + 1 < x4.heap.size := KZ.out.lt
    go_wp2_with fail
    exact bodyPost_ret (v := .agg #[.int .i64 0, .int .i64 0, .int .i64 0, .int .i64 0]) (by simp [results, Tryd.results8, go_sem, kz0, kz1, kz2, kz3]) rfl ⟨rfl, HB.out⟩
  obtain rfl := HYES.out (by simp) (by simp) (by simp)
  have kn0 : x3.cell? ⟨e2, 0, none⟩ = some (.int .i64 r) := KN.out.cell 0
  have kn1 : x3.cell? ⟨e2, 1, none⟩ = some (.int .i64 (c + cost)) := KN.out.cell 1
  have kn2 : x3.cell? ⟨e2, 2, none⟩ = some (.int .i64 bridge) := KN.out.cell 2
  have kn3 : x3.cell? ⟨e2, 3, none⟩ = some (.int .i64 port) := KN.out.cell 3
  have knl : e2 < x3.heap.size := KN.out.lt
  go_wp2_with (with_reducible refine store_here (ty := 25) rfl ?_)
  refine halt_go ?_
  clear kn0 kn1 kn2 kn3 knl
  refine wpList_store_row rfl 25 _ _ rfl (w.heap.size + 1) #[.int .i64 r, .int .i64 (c + cost), .int .i64 bridge, .int .i64 port] rfl rfl 25 #[.int .i64 0, .int .i64 0, .int .i64 0, .int .i64 0] KZ.out sizeVc rfl (by simp [Value.oneCell']) ?_
  have KV := Lib.hid (KV.out.rowOther (g := w.heap.size + 1) (by have := HLTKN.out; omega) #[.int .i64 r, .int .i64 (c + cost), .int .i64 bridge, .int .i64 port]); have KZ := Lib.hid (Blk.row (cs := #[.int .i64 r, .int .i64 (c + cost), .int .i64 bridge, .int .i64 port]) KZ.out); have KN := Lib.hid (KN.out.rowOther (g := w.heap.size + 1) (by have := HLTKN.out; omega) #[.int .i64 r, .int .i64 (c + cost), .int .i64 bridge, .int .i64 port]); have HB := Lib.hid (Below.row HB.out (g := w.heap.size + 1) (by have := HLTKN.out; omega) #[.int .i64 r, .int .i64 (c + cost), .int .i64 bridge, .int .i64 port])
  generalize x3.setRow (w.heap.size + 1) #[.int .i64 r, .int .i64 (c + cost), .int .i64 bridge, .int .i64 port] = x4 at HB KV KZ KN ⊢
  have kz0 : x4.cell? ⟨w.heap.size + 1, 0, none⟩ = some (.int .i64 r) := KZ.out.cell 0
  have kz1 : x4.cell? ⟨w.heap.size + 1, 1, none⟩ = some (.int .i64 (c + cost)) := KZ.out.cell 1
  have kz2 : x4.cell? ⟨w.heap.size + 1, 2, none⟩ = some (.int .i64 bridge) := KZ.out.cell 2
  have kz3 : x4.cell? ⟨w.heap.size + 1, 3, none⟩ = some (.int .i64 port) := KZ.out.cell 3
  have kzl : w.heap.size + 1 < x4.heap.size := KZ.out.lt
  go_wp2_with fail
  exact bodyPost_ret (v := .agg #[.int .i64 r, .int .i64 (c + cost), .int .i64 bridge, .int .i64 port]) (by simp [results, Tryd.results8, go_sem, kz0, kz1, kz2, kz3]) rfl ⟨rfl, HB.out⟩
end Go.Proofs.YtbcpfciegamaeaaDoor
