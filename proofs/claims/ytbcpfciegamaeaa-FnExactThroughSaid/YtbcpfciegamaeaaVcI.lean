/- Through of the program. -/
import Derived.Test.YtbcpfciegamaeaaVcIa
import Derived.Test.YtbcpfciegamaeaaVcIc
import Derived.Deep.RegionHeld3
namespace Go.Proofs.Ytbcpfciegamaeaa
open Go.RowKit

set_option linter.unusedVariables false in
set_option linter.unusedSimpArgs false in
set_option maxRecDepth 20000 in
set_option maxHeartbeats 4000000 in
theorem through_impl (v : Vc) (cost bridge port : Int) (hv : v.fit) (hbr : bridge ≤ 9223372036854775807) (w : World) : Calls Try.prog 23 #[v.val, .int .i64 cost, .int .i64 bridge, .int .i64 port] w fun e w' => e = .returned (through v cost bridge port).val ∧ Below w.heap.size w w' := by
  have h1 := vectorOk_impl v hv
  obtain ⟨sm, hsm⟩ : ∃ x, wrap64 (v.cost + cost) = x := ⟨_, rfl⟩
  have h3 := vectorOk_impl ⟨v.root, sm, bridge, port⟩ ⟨hv.1, hbr⟩
  obtain ⟨z, hz⟩ : ∃ z, through v cost bridge port = z := ⟨_, rfl⟩
  rw [hz]
  obtain ⟨d1, hd1⟩ : ∃ d, decide (vcOk v) = d := ⟨_, rfl⟩
  rw [hd1] at h1
  obtain ⟨d3, hd3⟩ : ∃ d, decide (vcOk ⟨v.root, sm, bridge, port⟩) = d := ⟨_, rfl⟩
  rw [hd3] at h3
  have hwr : d1 = true → (1 ≤ cost ∧ cost ≤ 200000000) → sm = v.cost + cost := fun k1 b => by
    have a := of_decide_eq_true (hd1.trans k1)
    rw [← hsm]
    exact IntWalk.wrap64_in _ (by have := a.2.2.1; omega)
  have hno : ¬ (d1 = true ∧ (1 ≤ cost ∧ cost ≤ 200000000) ∧ d3 = true) → z = Vc.zero := fun k => by
    rw [← hz]
    refine if_neg (fun h => ?_)
    have k1 : d1 = true := hd1 ▸ decide_eq_true h.1
    refine k ⟨k1, h.2.1, ?_⟩
    rw [← hd3, hwr k1 h.2.1]
    exact decide_eq_true h.2.2
  have hyes : d1 = true → (1 ≤ cost ∧ cost ≤ 200000000) → d3 = true → z = ⟨v.root, sm, bridge, port⟩ := fun k1 k2 k3 => by
    have e := hwr k1 k2
    rw [e] at hd3 ⊢
    rw [← hz]
    exact if_pos ⟨of_decide_eq_true (hd1.trans k1), k2, of_decide_eq_true (hd3.trans k3)⟩
  obtain ⟨r, c, b, p⟩ := v
  unfold Vc.val at h1 h3 ⊢
  simp only at h1 h3 hno hyes hsm
  unfold Vc.zero at hno
  have H1 := Lib.hid h1; have H3 := Lib.hid h3; have HNO := Lib.hid hno; have HYES := Lib.hid hyes; have HSM := Lib.hid hsm
  have hB : Below w.heap.size w ((w.alloc (.cells #[.int .i64 r, .int .i64 c, .int .i64 b, .int .i64 p] 25)).alloc (.cells #[.int .i64 0, .int .i64 0, .int .i64 0, .int .i64 0] 25)) := (((Below.refl _ _).alloc (by simp) _).alloc (by simp) _)
  have hKV : Blk ((w.alloc (.cells #[.int .i64 r, .int .i64 c, .int .i64 b, .int .i64 p] 25)).alloc (.cells #[.int .i64 0, .int .i64 0, .int .i64 0, .int .i64 0] 25)) (w.heap.size) #[.int .i64 r, .int .i64 c, .int .i64 b, .int .i64 p] 25 := ((blk_new _ _ (by simp)).alloc _)
  have hKZ : Blk ((w.alloc (.cells #[.int .i64 r, .int .i64 c, .int .i64 b, .int .i64 p] 25)).alloc (.cells #[.int .i64 0, .int .i64 0, .int .i64 0, .int .i64 0] 25)) (w.heap.size + 1) #[.int .i64 0, .int .i64 0, .int .i64 0, .int .i64 0] 25 := (blk_new _ _ (by simp))
  have HB := Lib.hid hB; have KV := Lib.hid hKV; have KZ := Lib.hid hKZ
  clear hB hKV hKZ h1 h3 hno hyes hwr hd1 hd3 hz hsm hv hbr
  go_enter Try.func23, Try.ntmps23
  go_upto_region 1 with fail
  generalize (w.alloc (.cells #[.int .i64 r, .int .i64 c, .int .i64 b, .int .i64 p] 25)).alloc (.cells #[.int .i64 0, .int .i64 0, .int .i64 0, .int .i64 0] 25) = x0 at HB KV KZ ⊢
  have hsm := HSM.out
  have pv0 := KV.out.cell 0
  have pv1 := KV.out.cell 1
  have pv2 := KV.out.cell 2
  have pv3 := KV.out.cell 3
  have hbq : Below x0.heap.size x0 (x0.alloc (.cells #[.int .i64 0, .int .i64 0, .int .i64 0, .int .i64 0] 25)) := (Below.refl _ _).alloc (Nat.le_refl _) _
  have hnq : Blk (x0.alloc (.cells #[.int .i64 0, .int .i64 0, .int .i64 0, .int .i64 0] 25)) x0.heap.size #[.int .i64 0, .int .i64 0, .int .i64 0, .int .i64 0] 25 := blk_new _ _ rfl
  have hleKF : w.heap.size ≤ x0.heap.size := HB.out.size
  have hltKVKF := KV.out.lt
  have hltKZKF := KZ.out.lt
  have KV := Lib.hid (KV.out.after hbq)
  have KZ := Lib.hid (KZ.out.after hbq)
  have HB := Lib.hid (HB.out.trans (hbq.mono HB.out.size))
  have KF := Lib.hid hnq
  clear hbq hnq
  go_wp2_with (with_reducible refine store_here (ty := 25) rfl ?_)
  refine halt_go ?_
  refine wpList_store_row rfl 25 _ _ rfl (x0.heap.size) #[.int .i64 r, .int .i64 sm, .int .i64 bridge, .int .i64 port] rfl rfl 25 #[.int .i64 0, .int .i64 0, .int .i64 0, .int .i64 0] KF.out sizeVc rfl (by simp [Value.oneCell']) ?_
  have KV := Lib.hid (KV.out.rowOther (g := x0.heap.size) (by omega) #[.int .i64 r, .int .i64 sm, .int .i64 bridge, .int .i64 port]); have KZ := Lib.hid (KZ.out.rowOther (g := x0.heap.size) (by omega) #[.int .i64 r, .int .i64 sm, .int .i64 bridge, .int .i64 port]); have KF := Lib.hid (Blk.row (cs := #[.int .i64 r, .int .i64 sm, .int .i64 bridge, .int .i64 port]) KF.out); have HB := Lib.hid (Below.row HB.out (g := x0.heap.size) (by omega) #[.int .i64 r, .int .i64 sm, .int .i64 bridge, .int .i64 port])
  generalize (x0.alloc (.cells #[.int .i64 0, .int .i64 0, .int .i64 0, .int .i64 0] 25)).setRow (x0.heap.size) #[.int .i64 r, .int .i64 sm, .int .i64 bridge, .int .i64 port] = x1 at HB KV KZ KF ⊢
  clear hsm pv0 pv1 pv2 pv3
  have kv0 : x1.cell? ⟨w.heap.size, 0, none⟩ = some (.int .i64 r) := KV.out.cell 0
  have kv1 : x1.cell? ⟨w.heap.size, 1, none⟩ = some (.int .i64 c) := KV.out.cell 1
  have kv2 : x1.cell? ⟨w.heap.size, 2, none⟩ = some (.int .i64 b) := KV.out.cell 2
  have kv3 : x1.cell? ⟨w.heap.size, 3, none⟩ = some (.int .i64 p) := KV.out.cell 3
  have kvl : w.heap.size < x1.heap.size := KV.out.lt
  go_wp2_with fail
  refine (H1.out _).mono ?_
  rintro e x2 ⟨rfl, hbq⟩
  clear kv0 kv1 kv2 kv3 kvl
  have KV := Lib.hid (KV.out.after hbq)
  have KZ := Lib.hid (KZ.out.after hbq)
  have KF := Lib.hid (KF.out.after hbq)
  have HB := Lib.hid (HB.out.trans (hbq.mono HB.out.size))
  clear hbq
  cases d1
  · obtain rfl := HNO.out (by simp)
    have kf0 : x2.cell? ⟨x0.heap.size, 0, none⟩ = some (.int .i64 r) := KF.out.cell 0
    have kf1 : x2.cell? ⟨x0.heap.size, 1, none⟩ = some (.int .i64 sm) := KF.out.cell 1
    have kf2 : x2.cell? ⟨x0.heap.size, 2, none⟩ = some (.int .i64 bridge) := KF.out.cell 2
    have kf3 : x2.cell? ⟨x0.heap.size, 3, none⟩ = some (.int .i64 port) := KF.out.cell 3
    have kfl : x0.heap.size < x2.heap.size := KF.out.lt
    go_wp2_with (with_reducible refine store_here (ty := 25) rfl ?_)
    refine halt_go ?_
    clear kf0 kf1 kf2 kf3 kfl
    refine wpList_store_row rfl 25 _ _ rfl (w.heap.size + 1) #[.int .i64 0, .int .i64 0, .int .i64 0, .int .i64 0] rfl rfl 25 #[.int .i64 0, .int .i64 0, .int .i64 0, .int .i64 0] KZ.out sizeVc rfl (by simp [Value.oneCell']) ?_
    have KV := Lib.hid (KV.out.rowOther (g := w.heap.size + 1) (by omega) #[.int .i64 0, .int .i64 0, .int .i64 0, .int .i64 0]); have KZ := Lib.hid (Blk.row (cs := #[.int .i64 0, .int .i64 0, .int .i64 0, .int .i64 0]) KZ.out); have KF := Lib.hid (KF.out.rowOther (g := w.heap.size + 1) (by omega) #[.int .i64 0, .int .i64 0, .int .i64 0, .int .i64 0]); have HB := Lib.hid (Below.row HB.out (g := w.heap.size + 1) (by omega) #[.int .i64 0, .int .i64 0, .int .i64 0, .int .i64 0])
    generalize x2.setRow (w.heap.size + 1) #[.int .i64 0, .int .i64 0, .int .i64 0, .int .i64 0] = x3 at HB KV KZ KF ⊢
    have kz0 : x3.cell? ⟨w.heap.size + 1, 0, none⟩ = some (.int .i64 0) := KZ.out.cell 0
    have kz1 : x3.cell? ⟨w.heap.size + 1, 1, none⟩ = some (.int .i64 0) := KZ.out.cell 1
    have kz2 : x3.cell? ⟨w.heap.size + 1, 2, none⟩ = some (.int .i64 0) := KZ.out.cell 2
    have kz3 : x3.cell? ⟨w.heap.size + 1, 3, none⟩ = some (.int .i64 0) := KZ.out.cell 3
    have kzl : w.heap.size + 1 < x3.heap.size := KZ.out.lt
    go_wp2_with fail
    exact bodyPost_ret (v := .agg #[.int .i64 0, .int .i64 0, .int .i64 0, .int .i64 0]) (by simp [results, Try.results23, go_sem, kz0, kz1, kz2, kz3]) rfl ⟨rfl, HB.out⟩
  by_cases k0 : 1 ≤ cost
  case neg =>
    have k0' : cost < 1 := by omega
    obtain rfl := HNO.out (by simp; omega)
    have kf0 : x2.cell? ⟨x0.heap.size, 0, none⟩ = some (.int .i64 r) := KF.out.cell 0
    have kf1 : x2.cell? ⟨x0.heap.size, 1, none⟩ = some (.int .i64 sm) := KF.out.cell 1
    have kf2 : x2.cell? ⟨x0.heap.size, 2, none⟩ = some (.int .i64 bridge) := KF.out.cell 2
    have kf3 : x2.cell? ⟨x0.heap.size, 3, none⟩ = some (.int .i64 port) := KF.out.cell 3
    have kfl : x0.heap.size < x2.heap.size := KF.out.lt
    go_wp2_with (with_reducible refine store_here (ty := 25) rfl ?_)
    refine halt_go ?_
    clear kf0 kf1 kf2 kf3 kfl
    refine wpList_store_row rfl 25 _ _ rfl (w.heap.size + 1) #[.int .i64 0, .int .i64 0, .int .i64 0, .int .i64 0] rfl rfl 25 #[.int .i64 0, .int .i64 0, .int .i64 0, .int .i64 0] KZ.out sizeVc rfl (by simp [Value.oneCell']) ?_
    have KV := Lib.hid (KV.out.rowOther (g := w.heap.size + 1) (by omega) #[.int .i64 0, .int .i64 0, .int .i64 0, .int .i64 0]); have KZ := Lib.hid (Blk.row (cs := #[.int .i64 0, .int .i64 0, .int .i64 0, .int .i64 0]) KZ.out); have KF := Lib.hid (KF.out.rowOther (g := w.heap.size + 1) (by omega) #[.int .i64 0, .int .i64 0, .int .i64 0, .int .i64 0]); have HB := Lib.hid (Below.row HB.out (g := w.heap.size + 1) (by omega) #[.int .i64 0, .int .i64 0, .int .i64 0, .int .i64 0])
    generalize x2.setRow (w.heap.size + 1) #[.int .i64 0, .int .i64 0, .int .i64 0, .int .i64 0] = x3 at HB KV KZ KF ⊢
    have kz0 : x3.cell? ⟨w.heap.size + 1, 0, none⟩ = some (.int .i64 0) := KZ.out.cell 0
    have kz1 : x3.cell? ⟨w.heap.size + 1, 1, none⟩ = some (.int .i64 0) := KZ.out.cell 1
    have kz2 : x3.cell? ⟨w.heap.size + 1, 2, none⟩ = some (.int .i64 0) := KZ.out.cell 2
    have kz3 : x3.cell? ⟨w.heap.size + 1, 3, none⟩ = some (.int .i64 0) := KZ.out.cell 3
    have kzl : w.heap.size + 1 < x3.heap.size := KZ.out.lt
    go_wp2_with fail
    exact bodyPost_ret (v := .agg #[.int .i64 0, .int .i64 0, .int .i64 0, .int .i64 0]) (by simp [results, Try.results23, go_sem, kz0, kz1, kz2, kz3]) rfl ⟨rfl, HB.out⟩
  have k0' : ¬ cost < 1 := by omega
  by_cases k1 : cost ≤ 200000000
  case neg =>
    have k1' : 200000000 < cost := by omega
    obtain rfl := HNO.out (by simp; omega)
    have kf0 : x2.cell? ⟨x0.heap.size, 0, none⟩ = some (.int .i64 r) := KF.out.cell 0
    have kf1 : x2.cell? ⟨x0.heap.size, 1, none⟩ = some (.int .i64 sm) := KF.out.cell 1
    have kf2 : x2.cell? ⟨x0.heap.size, 2, none⟩ = some (.int .i64 bridge) := KF.out.cell 2
    have kf3 : x2.cell? ⟨x0.heap.size, 3, none⟩ = some (.int .i64 port) := KF.out.cell 3
    have kfl : x0.heap.size < x2.heap.size := KF.out.lt
    go_wp2_with (with_reducible refine store_here (ty := 25) rfl ?_)
    refine halt_go ?_
    clear kf0 kf1 kf2 kf3 kfl
    refine wpList_store_row rfl 25 _ _ rfl (w.heap.size + 1) #[.int .i64 0, .int .i64 0, .int .i64 0, .int .i64 0] rfl rfl 25 #[.int .i64 0, .int .i64 0, .int .i64 0, .int .i64 0] KZ.out sizeVc rfl (by simp [Value.oneCell']) ?_
    have KV := Lib.hid (KV.out.rowOther (g := w.heap.size + 1) (by omega) #[.int .i64 0, .int .i64 0, .int .i64 0, .int .i64 0]); have KZ := Lib.hid (Blk.row (cs := #[.int .i64 0, .int .i64 0, .int .i64 0, .int .i64 0]) KZ.out); have KF := Lib.hid (KF.out.rowOther (g := w.heap.size + 1) (by omega) #[.int .i64 0, .int .i64 0, .int .i64 0, .int .i64 0]); have HB := Lib.hid (Below.row HB.out (g := w.heap.size + 1) (by omega) #[.int .i64 0, .int .i64 0, .int .i64 0, .int .i64 0])
    generalize x2.setRow (w.heap.size + 1) #[.int .i64 0, .int .i64 0, .int .i64 0, .int .i64 0] = x3 at HB KV KZ KF ⊢
    have kz0 : x3.cell? ⟨w.heap.size + 1, 0, none⟩ = some (.int .i64 0) := KZ.out.cell 0
    have kz1 : x3.cell? ⟨w.heap.size + 1, 1, none⟩ = some (.int .i64 0) := KZ.out.cell 1
    have kz2 : x3.cell? ⟨w.heap.size + 1, 2, none⟩ = some (.int .i64 0) := KZ.out.cell 2
    have kz3 : x3.cell? ⟨w.heap.size + 1, 3, none⟩ = some (.int .i64 0) := KZ.out.cell 3
    have kzl : w.heap.size + 1 < x3.heap.size := KZ.out.lt
    go_wp2_with fail
    exact bodyPost_ret (v := .agg #[.int .i64 0, .int .i64 0, .int .i64 0, .int .i64 0]) (by simp [results, Try.results23, go_sem, kz0, kz1, kz2, kz3]) rfl ⟨rfl, HB.out⟩
  have k1' : ¬ 200000000 < cost := by omega
  have kf0 : x2.cell? ⟨x0.heap.size, 0, none⟩ = some (.int .i64 r) := KF.out.cell 0
  have kf1 : x2.cell? ⟨x0.heap.size, 1, none⟩ = some (.int .i64 sm) := KF.out.cell 1
  have kf2 : x2.cell? ⟨x0.heap.size, 2, none⟩ = some (.int .i64 bridge) := KF.out.cell 2
  have kf3 : x2.cell? ⟨x0.heap.size, 3, none⟩ = some (.int .i64 port) := KF.out.cell 3
  have kfl : x0.heap.size < x2.heap.size := KF.out.lt
  go_wp2_with fail
  refine (H3.out _).mono ?_
  rintro e x3 ⟨rfl, hbq⟩
  clear kf0 kf1 kf2 kf3 kfl
  have KV := Lib.hid (KV.out.after hbq)
  have KZ := Lib.hid (KZ.out.after hbq)
  have KF := Lib.hid (KF.out.after hbq)
  have HB := Lib.hid (HB.out.trans (hbq.mono HB.out.size))
  clear hbq
  cases d3
  · obtain rfl := HNO.out (by simp)
    have kf0 : x3.cell? ⟨x0.heap.size, 0, none⟩ = some (.int .i64 r) := KF.out.cell 0
    have kf1 : x3.cell? ⟨x0.heap.size, 1, none⟩ = some (.int .i64 sm) := KF.out.cell 1
    have kf2 : x3.cell? ⟨x0.heap.size, 2, none⟩ = some (.int .i64 bridge) := KF.out.cell 2
    have kf3 : x3.cell? ⟨x0.heap.size, 3, none⟩ = some (.int .i64 port) := KF.out.cell 3
    have kfl : x0.heap.size < x3.heap.size := KF.out.lt
    go_wp2_with (with_reducible refine store_here (ty := 25) rfl ?_)
    refine halt_go ?_
    clear kf0 kf1 kf2 kf3 kfl
    refine wpList_store_row rfl 25 _ _ rfl (w.heap.size + 1) #[.int .i64 0, .int .i64 0, .int .i64 0, .int .i64 0] rfl rfl 25 #[.int .i64 0, .int .i64 0, .int .i64 0, .int .i64 0] KZ.out sizeVc rfl (by simp [Value.oneCell']) ?_
    have KV := Lib.hid (KV.out.rowOther (g := w.heap.size + 1) (by omega) #[.int .i64 0, .int .i64 0, .int .i64 0, .int .i64 0]); have KZ := Lib.hid (Blk.row (cs := #[.int .i64 0, .int .i64 0, .int .i64 0, .int .i64 0]) KZ.out); have KF := Lib.hid (KF.out.rowOther (g := w.heap.size + 1) (by omega) #[.int .i64 0, .int .i64 0, .int .i64 0, .int .i64 0]); have HB := Lib.hid (Below.row HB.out (g := w.heap.size + 1) (by omega) #[.int .i64 0, .int .i64 0, .int .i64 0, .int .i64 0])
    generalize x3.setRow (w.heap.size + 1) #[.int .i64 0, .int .i64 0, .int .i64 0, .int .i64 0] = x4 at HB KV KZ KF ⊢
    have kz0 : x4.cell? ⟨w.heap.size + 1, 0, none⟩ = some (.int .i64 0) := KZ.out.cell 0
    have kz1 : x4.cell? ⟨w.heap.size + 1, 1, none⟩ = some (.int .i64 0) := KZ.out.cell 1
    have kz2 : x4.cell? ⟨w.heap.size + 1, 2, none⟩ = some (.int .i64 0) := KZ.out.cell 2
    have kz3 : x4.cell? ⟨w.heap.size + 1, 3, none⟩ = some (.int .i64 0) := KZ.out.cell 3
    have kzl : w.heap.size + 1 < x4.heap.size := KZ.out.lt
    go_wp2_with fail
    exact bodyPost_ret (v := .agg #[.int .i64 0, .int .i64 0, .int .i64 0, .int .i64 0]) (by simp [results, Try.results23, go_sem, kz0, kz1, kz2, kz3]) rfl ⟨rfl, HB.out⟩
  obtain rfl := HYES.out (by simp) ⟨k0, k1⟩ (by simp)
  have kf0 : x3.cell? ⟨x0.heap.size, 0, none⟩ = some (.int .i64 r) := KF.out.cell 0
  have kf1 : x3.cell? ⟨x0.heap.size, 1, none⟩ = some (.int .i64 sm) := KF.out.cell 1
  have kf2 : x3.cell? ⟨x0.heap.size, 2, none⟩ = some (.int .i64 bridge) := KF.out.cell 2
  have kf3 : x3.cell? ⟨x0.heap.size, 3, none⟩ = some (.int .i64 port) := KF.out.cell 3
  have kfl : x0.heap.size < x3.heap.size := KF.out.lt
  go_wp2_with (with_reducible refine store_here (ty := 25) rfl ?_)
  refine halt_go ?_
  clear kf0 kf1 kf2 kf3 kfl
  refine wpList_store_row rfl 25 _ _ rfl (w.heap.size + 1) #[.int .i64 r, .int .i64 sm, .int .i64 bridge, .int .i64 port] rfl rfl 25 #[.int .i64 0, .int .i64 0, .int .i64 0, .int .i64 0] KZ.out sizeVc rfl (by simp [Value.oneCell']) ?_
  have KV := Lib.hid (KV.out.rowOther (g := w.heap.size + 1) (by omega) #[.int .i64 r, .int .i64 sm, .int .i64 bridge, .int .i64 port]); have KZ := Lib.hid (Blk.row (cs := #[.int .i64 r, .int .i64 sm, .int .i64 bridge, .int .i64 port]) KZ.out); have KF := Lib.hid (KF.out.rowOther (g := w.heap.size + 1) (by omega) #[.int .i64 r, .int .i64 sm, .int .i64 bridge, .int .i64 port]); have HB := Lib.hid (Below.row HB.out (g := w.heap.size + 1) (by omega) #[.int .i64 r, .int .i64 sm, .int .i64 bridge, .int .i64 port])
  generalize x3.setRow (w.heap.size + 1) #[.int .i64 r, .int .i64 sm, .int .i64 bridge, .int .i64 port] = x4 at HB KV KZ KF ⊢
  have kz0 : x4.cell? ⟨w.heap.size + 1, 0, none⟩ = some (.int .i64 r) := KZ.out.cell 0
  have kz1 : x4.cell? ⟨w.heap.size + 1, 1, none⟩ = some (.int .i64 sm) := KZ.out.cell 1
  have kz2 : x4.cell? ⟨w.heap.size + 1, 2, none⟩ = some (.int .i64 bridge) := KZ.out.cell 2
  have kz3 : x4.cell? ⟨w.heap.size + 1, 3, none⟩ = some (.int .i64 port) := KZ.out.cell 3
  have kzl : w.heap.size + 1 < x4.heap.size := KZ.out.lt
  go_wp2_with fail
  exact bodyPost_ret (v := .agg #[.int .i64 r, .int .i64 sm, .int .i64 bridge, .int .i64 port]) (by simp [results, Try.results23, go_sem, kz0, kz1, kz2, kz3]) rfl ⟨rfl, HB.out⟩
end Go.Proofs.Ytbcpfciegamaeaa
