/- The walk of FnThrough. -/
import Derived.Test.YtbcpfciegamaeaaDoorVcI
import Derived.Test.YtbcpfciegamaeaaDoorIdI
import Derived.Test.YtbcpfciegamaeaaDoorVcP
import Derived.Test.YtbcpfciegamaeaaDoorDrVd
import Derived.Test.YtbcpfciegamaeaaDoorBig
import Derived.Deep.RegionHeld3
namespace Go.Proofs.YtbcpfciegamaeaaDoor
open Go.RowKit

theorem through_may {v : Vc} {cost bridge port : Int} (h : mayThrough v cost bridge port) : vcOk ⟨v.root, v.cost + cost, bridge, port⟩ ∧ 0 ≤ v.cost ∧ 1 ≤ cost ∧ cmpVc v ⟨v.root, v.cost + cost, bridge, port⟩ < 0 := by
  obtain ⟨h1, h2, h3⟩ := h
  refine ⟨h3, h1.2.2.1.1, h2.1, ?_⟩
  have hc : cmpVc v ⟨v.root, v.cost + cost, bridge, port⟩ ≤ 0 := by rw [cmpVc_le]; exact .inr ⟨rfl, .inl (by simp only; omega)⟩
  have hn : ¬ cmpVc v ⟨v.root, v.cost + cost, bridge, port⟩ = 0 := fun e => by
    have e2 := (cmpVc_zero _ _).1 e
    have e3 := congrArg Vc.cost e2
    simp only at e3
    omega
  omega
theorem idOf_text {rank mac : Int} (h : 0 ≤ idOf rank mac) : idText (idOf rank mac) = ⟨(Lib.itoa rank).toArray⟩ ++ ⟨#[46]⟩ ++ ⟨(macL mac).toArray⟩ ∧ (0 ≤ rank ∧ rank ≤ 15) ∧ isMac mac := by
  unfold idOf at h ⊢
  by_cases k : (0 ≤ rank ∧ rank ≤ 15) ∧ isMac mac ∧ ¬ isGrp mac
  · rw [if_pos k]
    obtain ⟨k1, k2, k3⟩ := k
    have k2' := k2
    unfold isMac at k2'
    have e1 : (rank * 281474976710656 + mac) / 281474976710656 = rank := by omega
    have e2 : (rank * 281474976710656 + mac) % 281474976710656 = mac := by omega
    refine ⟨?_, k1, k2⟩
    unfold idText
    rw [if_pos ⟨⟨by omega, by omega⟩, by rw [e2]; exact k3⟩, e1, e2]
  · rw [if_neg k] at h
    omega

set_option linter.unusedVariables false in
set_option linter.unusedSimpArgs false in
set_option maxRecDepth 20000 in
set_option maxHeartbeats 4000000 in
theorem walk_FnThrough (a : Option Addr) (len cap : Nat) (zs : List Int) (w : World) (hrow : IsRow .u8 w a len cap zs) (ht : Tab w) :
    Calls Tryd.prog 3 #[.slice a len cap] w fun e w' => e = .returned (.bool true) ∧ Below w.heap.size w w' := by
  have hlow := hrow.low
  have hmax : len ≤ 9223372036854775807 := by
    rcases hrow with ⟨_, rfl, _⟩ | ⟨_, _, h1, h2, _⟩
    · omega
    · unfold maxLen at h2; omega
  by_cases hl : len ≤ 1048576
  case neg =>
    go_enter Tryd.func3, Tryd.ntmps3
    go_wp2_with fail
    refine (big_yes a len cap w (by omega)).mono ?_
    rintro e w' ⟨rfl, rfl⟩
    go_wp2_with fail
    go_ret
    exact ⟨rfl, Below.refl _ _⟩
  go_enter Tryd.func3, Tryd.ntmps3
  go_wp2_with fail
  refine (big_no a len cap w hl).mono ?_
  rintro e w9 ⟨rfl, rfl⟩
  go_wp2_with fail
  refine (drawThrough_any w a len cap zs hl hrow hlow).mono ?_
  rintro e x0 ⟨v, cost, bridge, port, rfl, hfv, hfb, hb1⟩
  have HB := Lib.hid hb1
  clear hb1
  have hi := through_impl v cost bridge port hfv hfb
  have hs := through_spec v cost bridge port
  have hk := vectorOk_impl (through v cost bridge port) (through_fit hfv hfb)
  have hc := compare_impl v (through v cost bridge port)
  have hno : ¬ mayThrough v cost bridge port → through v cost bridge port = Vc.zero := fun h => if_neg h
  have hyes : mayThrough v cost bridge port → through v cost bridge port = ⟨v.root, v.cost + cost, bridge, port⟩ ∧ vcOk (through v cost bridge port) ∧ 0 ≤ v.cost ∧ 1 ≤ cost ∧ cmpVc v (through v cost bridge port) < 0 := fun h => by
    have e : through v cost bridge port = ⟨v.root, v.cost + cost, bridge, port⟩ := if_pos h
    rw [e]
    exact ⟨rfl, through_may h⟩
  have hm : mayThrough v cost bridge port ∨ ¬ mayThrough v cost bridge port := Decidable.em _
  generalize mayThrough v cost bridge port = mp at hno hyes hm
  generalize through v cost bridge port = y at hi hs hk hc hno hyes
  obtain ⟨cv, hcv⟩ : ∃ n, cmpVc v y = n := ⟨_, rfl⟩
  rw [hcv] at hc hyes
  obtain ⟨ok, hok⟩ : ∃ n, decide (vcOk y) = n := ⟨_, rfl⟩
  rw [hok] at hk
  have hyes2 : mp → y = ⟨v.root, v.cost + cost, bridge, port⟩ ∧ ok = true ∧ 0 ≤ v.cost ∧ 1 ≤ cost ∧ cv < 0 := fun h => ⟨(hyes h).1, by rw [← hok]; exact decide_eq_true (hyes h).2.1, (hyes h).2.2⟩
  obtain ⟨ar, ac, ab, ap⟩ := v
  obtain ⟨yr, yc, yb, yp⟩ := y
  unfold Vc.val at hi hs hk hc ⊢
  simp only at hi hs hk hc hno hyes2 ⊢
  have HI := Lib.hid hi; have HS := Lib.hid hs; have HK := Lib.hid hk; have HCV := Lib.hid hc; have HNO := Lib.hid hno; have HYES := Lib.hid hyes2; have HT := Lib.hid ht; have HM := Lib.hid hm
  clear hfv hfb hi hs hk hc hno hyes hyes2 hcv hok ht hm
  have hbq : Below x0.heap.size x0 (x0.alloc (.cells #[.int .i64 ar, .int .i64 ac, .int .i64 ab, .int .i64 ap] 25)) := (Below.refl _ _).alloc (Nat.le_refl _) _
  have hnq : Blk (x0.alloc (.cells #[.int .i64 ar, .int .i64 ac, .int .i64 ab, .int .i64 ap] 25)) x0.heap.size #[.int .i64 ar, .int .i64 ac, .int .i64 ab, .int .i64 ap] 25 := blk_new _ _ rfl
  have hleKA : w.heap.size ≤ x0.heap.size := HB.out.size
  have HB := Lib.hid (HB.out.trans (hbq.mono HB.out.size))
  have KA := Lib.hid hnq
  have HLTKA := Lib.hid (And.intro hleKA trivial)
  clear hbq hnq hleKA 
  have ka0 : (x0.alloc (.cells #[.int .i64 ar, .int .i64 ac, .int .i64 ab, .int .i64 ap] 25)).cell? ⟨x0.heap.size, 0, none⟩ = some (.int .i64 ar) := KA.out.cell 0
  have ka1 : (x0.alloc (.cells #[.int .i64 ar, .int .i64 ac, .int .i64 ab, .int .i64 ap] 25)).cell? ⟨x0.heap.size, 1, none⟩ = some (.int .i64 ac) := KA.out.cell 1
  have ka2 : (x0.alloc (.cells #[.int .i64 ar, .int .i64 ac, .int .i64 ab, .int .i64 ap] 25)).cell? ⟨x0.heap.size, 2, none⟩ = some (.int .i64 ab) := KA.out.cell 2
  have ka3 : (x0.alloc (.cells #[.int .i64 ar, .int .i64 ac, .int .i64 ab, .int .i64 ap] 25)).cell? ⟨x0.heap.size, 3, none⟩ = some (.int .i64 ap) := KA.out.cell 3
  have kal : x0.heap.size < (x0.alloc (.cells #[.int .i64 ar, .int .i64 ac, .int .i64 ab, .int .i64 ap] 25)).heap.size := KA.out.lt
  go_wp2_with fail
  clear ka0 ka1 ka2 ka3 kal
  generalize x0.alloc (.cells #[.int .i64 ar, .int .i64 ac, .int .i64 ab, .int .i64 ap] 25) = x1 at KA HB ⊢
  generalize x0.heap.size = e1 at KA HLTKA ⊢
  refine (HI.out _).mono ?_
  rintro e x2 ⟨rfl, hbq⟩
  have KA := Lib.hid (KA.out.after hbq)
  have HB := Lib.hid (HB.out.trans (hbq.mono HB.out.size))
  clear hbq
  have hbq : Below x2.heap.size x2 (x2.alloc (.cells #[.int .i64 yr, .int .i64 yc, .int .i64 yb, .int .i64 yp] 25)) := (Below.refl _ _).alloc (Nat.le_refl _) _
  have hnq : Blk (x2.alloc (.cells #[.int .i64 yr, .int .i64 yc, .int .i64 yb, .int .i64 yp] 25)) x2.heap.size #[.int .i64 yr, .int .i64 yc, .int .i64 yb, .int .i64 yp] 25 := blk_new _ _ rfl
  have hleKY : w.heap.size ≤ x2.heap.size := HB.out.size
  have hltKAKY := KA.out.lt
  have KA := Lib.hid (KA.out.after hbq)
  have HB := Lib.hid (HB.out.trans (hbq.mono HB.out.size))
  have KY := Lib.hid hnq
  have HLTKY := Lib.hid (And.intro hleKY (And.intro hltKAKY trivial))
  clear hbq hnq hleKY hltKAKY
  have ka0 : (x2.alloc (.cells #[.int .i64 yr, .int .i64 yc, .int .i64 yb, .int .i64 yp] 25)).cell? ⟨e1, 0, none⟩ = some (.int .i64 ar) := KA.out.cell 0
  have ka1 : (x2.alloc (.cells #[.int .i64 yr, .int .i64 yc, .int .i64 yb, .int .i64 yp] 25)).cell? ⟨e1, 1, none⟩ = some (.int .i64 ac) := KA.out.cell 1
  have ka2 : (x2.alloc (.cells #[.int .i64 yr, .int .i64 yc, .int .i64 yb, .int .i64 yp] 25)).cell? ⟨e1, 2, none⟩ = some (.int .i64 ab) := KA.out.cell 2
  have ka3 : (x2.alloc (.cells #[.int .i64 yr, .int .i64 yc, .int .i64 yb, .int .i64 yp] 25)).cell? ⟨e1, 3, none⟩ = some (.int .i64 ap) := KA.out.cell 3
  have kal : e1 < (x2.alloc (.cells #[.int .i64 yr, .int .i64 yc, .int .i64 yb, .int .i64 yp] 25)).heap.size := KA.out.lt
  go_wp2_with fail
  clear ka0 ka1 ka2 ka3 kal
  generalize x2.alloc (.cells #[.int .i64 yr, .int .i64 yc, .int .i64 yb, .int .i64 yp] 25) = x3 at KA KY HB ⊢
  generalize x2.heap.size = e3 at KY HLTKY ⊢
  refine wp_region_held_drew (S := fun w' => Below x3.heap.size x3 w') (by kernel_rfl) (Below.drew (Below.refl _ _)) (fun hHeld => ?_)
  refine wpAnyH_take (i := 0) (v := ?v55) rfl (by kernel_rfl) (by kernel_rfl) (by kernel_rfl) (fun _ _ _ h => h) (Or.inl ⟨by rfl, ?h55⟩) hHeld ?r55
  case h55 => intro wq hS; have cKA0 : wq.cell? ⟨e1, 0, none⟩ = some (.int .i64 ar) := (KA.out.after hS).cell 0; have cKA1 : wq.cell? ⟨e1, 1, none⟩ = some (.int .i64 ac) := (KA.out.after hS).cell 1; have cKA2 : wq.cell? ⟨e1, 2, none⟩ = some (.int .i64 ab) := (KA.out.after hS).cell 2; have cKA3 : wq.cell? ⟨e1, 3, none⟩ = some (.int .i64 ap) := (KA.out.after hS).cell 3; have cKY0 : wq.cell? ⟨e3, 0, none⟩ = some (.int .i64 yr) := (KY.out.after hS).cell 0; have cKY1 : wq.cell? ⟨e3, 1, none⟩ = some (.int .i64 yc) := (KY.out.after hS).cell 1; have cKY2 : wq.cell? ⟨e3, 2, none⟩ = some (.int .i64 yb) := (KY.out.after hS).cell 2; have cKY3 : wq.cell? ⟨e3, 3, none⟩ = some (.int .i64 yp) := (KY.out.after hS).cell 3; go_simp; with_reducible rfl
  try simp only [Act.put, List.getElem_toArray, List.getElem_cons_zero, List.getElem_cons_succ, List.setIfInBounds_toArray, List.set_cons_zero, List.set_cons_succ]
  refine wpAnyH_take (i := 1) (v := ?v56) rfl (by kernel_rfl) (by kernel_rfl) (by kernel_rfl) (fun _ _ _ h => h) (Or.inl ⟨by rfl, ?h56⟩) hHeld ?r56
  case h56 => intro wq hS; have cKA0 : wq.cell? ⟨e1, 0, none⟩ = some (.int .i64 ar) := (KA.out.after hS).cell 0; have cKA1 : wq.cell? ⟨e1, 1, none⟩ = some (.int .i64 ac) := (KA.out.after hS).cell 1; have cKA2 : wq.cell? ⟨e1, 2, none⟩ = some (.int .i64 ab) := (KA.out.after hS).cell 2; have cKA3 : wq.cell? ⟨e1, 3, none⟩ = some (.int .i64 ap) := (KA.out.after hS).cell 3; have cKY0 : wq.cell? ⟨e3, 0, none⟩ = some (.int .i64 yr) := (KY.out.after hS).cell 0; have cKY1 : wq.cell? ⟨e3, 1, none⟩ = some (.int .i64 yc) := (KY.out.after hS).cell 1; have cKY2 : wq.cell? ⟨e3, 2, none⟩ = some (.int .i64 yb) := (KY.out.after hS).cell 2; have cKY3 : wq.cell? ⟨e3, 3, none⟩ = some (.int .i64 yp) := (KY.out.after hS).cell 3; go_simp; with_reducible rfl
  try simp only [Act.put, List.getElem_toArray, List.getElem_cons_zero, List.getElem_cons_succ, List.setIfInBounds_toArray, List.set_cons_zero, List.set_cons_succ]
  refine wpAnyH_take (i := 2) (v := ?v57) rfl (by kernel_rfl) (by kernel_rfl) (by kernel_rfl) (fun _ _ _ h => h) (Or.inl ⟨by rfl, ?h57⟩) hHeld ?r57
  case h57 => intro wq hS; go_simp; with_reducible rfl
  try simp only [Act.put, List.getElem_toArray, List.getElem_cons_zero, List.getElem_cons_succ, List.setIfInBounds_toArray, List.set_cons_zero, List.set_cons_succ]
  refine wpAnyH_take (i := 3) (v := ?v58) rfl (by kernel_rfl) (by kernel_rfl) (by kernel_rfl) (fun _ _ _ h => h) (Or.inl ⟨by rfl, ?h58⟩) hHeld ?r58
  case h58 => intro wq hS; go_simp; with_reducible rfl
  try simp only [Act.put, List.getElem_toArray, List.getElem_cons_zero, List.getElem_cons_succ, List.setIfInBounds_toArray, List.set_cons_zero, List.set_cons_succ]
  refine wpAnyH_take (i := 4) (v := ?v59) rfl (by kernel_rfl) (by kernel_rfl) (by kernel_rfl) (fun _ _ _ h => h) (Or.inl ⟨by rfl, ?h59⟩) hHeld ?r59
  case h59 => intro wq hS; go_simp; with_reducible rfl
  try simp only [Act.put, List.getElem_toArray, List.getElem_cons_zero, List.getElem_cons_succ, List.setIfInBounds_toArray, List.set_cons_zero, List.set_cons_succ]
  refine wpAnyH_ready (rs := [5]) (by kernel_rfl) (by simp) ?_
  refine AllReadyH.cons rfl (fun K hK => ?_) AllReadyH.nil
  go_simp
  refine (HS.out _).mono ?_
  rintro e xe ⟨rfl, hbe⟩
  refine hK.out _ _ (hHeld.trans (hbe.mono hHeld.size)) (fun hHeld => ?_)
  clear hK K
  try simp only [Act.put, List.getElem_toArray, List.getElem_cons_zero, List.getElem_cons_succ, List.setIfInBounds_toArray, List.set_cons_zero, List.set_cons_succ]
  refine wpAnyH_take (i := 6) (v := ?v60) rfl (by kernel_rfl) (by kernel_rfl) (by kernel_rfl) (fun _ _ _ h => h) (Or.inl ⟨by rfl, ?h60⟩) hHeld ?r60
  case h60 => intro wq hS; go_simp; with_reducible rfl
  try simp only [Act.put, List.getElem_toArray, List.getElem_cons_zero, List.getElem_cons_succ, List.setIfInBounds_toArray, List.set_cons_zero, List.set_cons_succ]
  refine wpAnyH_done (by kernel_rfl) ?_ _
  have hbq := hHeld
  clear hHeld hbe
  have KA := Lib.hid (KA.out.after hbq)
  have KY := Lib.hid (KY.out.after hbq)
  have HB := Lib.hid (HB.out.trans (hbq.mono HB.out.size))
  clear hbq
  go_wp2_with fail
  refine (drawId_any _ a len cap zs hl (hrow.below hlow HB.out) (fun x hx hc => Nat.lt_of_lt_of_le (hlow x hx hc) HB.out.size)).mono ?_
  rintro e x4 ⟨rank, mac, rfl, hbq⟩
  have KA := Lib.hid (KA.out.after hbq)
  have KY := Lib.hid (KY.out.after hbq)
  have HB := Lib.hid (HB.out.trans (hbq.mono HB.out.size))
  clear hbq
  clear hrow hlow
  have h1 := fun w => calls_bel (id_impl rank mac w)
  have h2 := fun w => calls_bel (id_spec rank mac w)
  have htx := idOf_text (rank := rank) (mac := mac)
  have h3 := fun (w : World) (h : Tab w) => idText_impl (idOf rank mac) (idOf_top _ _) w h
  generalize idOf rank mac = id at h1 h2 h3 htx
  generalize idText id = tx at h3 htx
  have H1 := Lib.hid h1; have H2 := Lib.hid h2; have H3 := Lib.hid h3; have HTX := Lib.hid htx
  clear h1 h2 h3 htx
  go_wp2_with fail
  refine (H1.out _).mono ?_
  rintro e x5 ⟨rfl, hbq⟩
  have KA := Lib.hid (KA.out.after hbq)
  have KY := Lib.hid (KY.out.after hbq)
  have HB := Lib.hid (HB.out.trans (hbq.mono HB.out.size))
  clear hbq
  go_wp2_with fail
  refine (H2.out _).mono ?_
  rintro e x6 ⟨rfl, hbq⟩
  have KA := Lib.hid (KA.out.after hbq)
  have KY := Lib.hid (KY.out.after hbq)
  have HB := Lib.hid (HB.out.trans (hbq.mono HB.out.size))
  clear hbq
  have q1 : (id != id) = false := by simp
  by_cases hid : 0 ≤ id
  · obtain ⟨htx, hrk, hmc⟩ := HTX.out hid
    have h4 := fun w => dec_any rank w (by omega) (by omega)
    have h5 := fun w => macText_spec mac hmc w
    have hl := itoa_small hrk.1 hrk.2
    obtain ⟨A, hA⟩ : ∃ A : ByteArray, (⟨(Lib.itoa rank).toArray⟩ : ByteArray) = A := ⟨_, rfl⟩
    obtain ⟨B, hB⟩ : ∃ B : ByteArray, (⟨(macL mac).toArray⟩ : ByteArray) = B := ⟨_, rfl⟩
    have hAs : A.size ≤ 2 := by rw [← hA]; exact hl
    have hBs : B.size = 17 := by rw [← hB]; rfl
    rw [hA] at h4
    rw [hB] at h5
    rw [hA, hB] at htx
    have HCAT := Lib.hid htx.symm
    have H4 := Lib.hid h4; have H5 := Lib.hid h5
    have hsz1 : ¬ 9223372036854775807 < A.size + 1 := by omega
    have hsz2 : ¬ 9223372036854775807 < A.size + 1 + B.size := by omega
    clear h4 h5 hA hB hl hrk hmc hBs HTX htx
    go_wp2_with fail
    refine (H3.out _ (HT.out.after HB.out)).mono ?_
    rintro e x7 ⟨rfl, hbq⟩
    have KA := Lib.hid (KA.out.after hbq)
    have KY := Lib.hid (KY.out.after hbq)
    have HB := Lib.hid (HB.out.trans (hbq.mono HB.out.size))
    clear hbq
    go_wp2_with fail
    refine (H4.out _).mono ?_
    rintro e ww ⟨rfl, rfl⟩
    go_wp2_with fail
    refine (H5.out _).mono ?_
    rintro e x8 ⟨rfl, hbq⟩
    have KA := Lib.hid (KA.out.after hbq)
    have KY := Lib.hid (KY.out.after hbq)
    have HB := Lib.hid (HB.out.trans (hbq.mono HB.out.size))
    clear hbq
    have hcat := HCAT.out
    rcases HM.out with hmp | hmp
    · obtain ⟨hz, rfl, h0, h1, hcv⟩ := HYES.out hmp
      cases hz
      have hcn : ¬ (ac + cost = 0) := by omega
      have hcn2 : (ac + cost == 0) = false := by simp; omega
      have hgt : ac < ac + cost := by omega
      by_cases hr0 : ar = 0
      · subst hr0
        have ka0 : x8.cell? ⟨e1, 0, none⟩ = some (.int .i64 0) := KA.out.cell 0
        have ka1 : x8.cell? ⟨e1, 1, none⟩ = some (.int .i64 ac) := KA.out.cell 1
        have ka2 : x8.cell? ⟨e1, 2, none⟩ = some (.int .i64 ab) := KA.out.cell 2
        have ka3 : x8.cell? ⟨e1, 3, none⟩ = some (.int .i64 ap) := KA.out.cell 3
        have kal : e1 < x8.heap.size := KA.out.lt
        have ky0 : x8.cell? ⟨e3, 0, none⟩ = some (.int .i64 0) := KY.out.cell 0
        have ky1 : x8.cell? ⟨e3, 1, none⟩ = some (.int .i64 (ac + cost)) := KY.out.cell 1
        have ky2 : x8.cell? ⟨e3, 2, none⟩ = some (.int .i64 bridge) := KY.out.cell 2
        have ky3 : x8.cell? ⟨e3, 3, none⟩ = some (.int .i64 port) := KY.out.cell 3
        have kyl : e3 < x8.heap.size := KY.out.lt
        go_wp2_with fail
        refine (HK.out _).mono ?_
        rintro e x9 ⟨rfl, hbq⟩
        clear ka0 ka1 ka2 ka3 kal ky0 ky1 ky2 ky3 kyl
        have KA := Lib.hid (KA.out.after hbq)
        have KY := Lib.hid (KY.out.after hbq)
        have HB := Lib.hid (HB.out.trans (hbq.mono HB.out.size))
        clear hbq
        have ka0 : x9.cell? ⟨e1, 0, none⟩ = some (.int .i64 0) := KA.out.cell 0
        have ka1 : x9.cell? ⟨e1, 1, none⟩ = some (.int .i64 ac) := KA.out.cell 1
        have ka2 : x9.cell? ⟨e1, 2, none⟩ = some (.int .i64 ab) := KA.out.cell 2
        have ka3 : x9.cell? ⟨e1, 3, none⟩ = some (.int .i64 ap) := KA.out.cell 3
        have kal : e1 < x9.heap.size := KA.out.lt
        have ky0 : x9.cell? ⟨e3, 0, none⟩ = some (.int .i64 0) := KY.out.cell 0
        have ky1 : x9.cell? ⟨e3, 1, none⟩ = some (.int .i64 (ac + cost)) := KY.out.cell 1
        have ky2 : x9.cell? ⟨e3, 2, none⟩ = some (.int .i64 bridge) := KY.out.cell 2
        have ky3 : x9.cell? ⟨e3, 3, none⟩ = some (.int .i64 port) := KY.out.cell 3
        have kyl : e3 < x9.heap.size := KY.out.lt
        go_wp2_with fail
        refine (HCV.out _).mono ?_
        rintro e x10 ⟨rfl, hbq⟩
        clear ka0 ka1 ka2 ka3 kal ky0 ky1 ky2 ky3 kyl
        have KA := Lib.hid (KA.out.after hbq)
        have KY := Lib.hid (KY.out.after hbq)
        have HB := Lib.hid (HB.out.trans (hbq.mono HB.out.size))
        clear hbq
        go_wp2_with fail
        go_ret
        exact ⟨rfl, HB.out⟩
      have hr1 : (ar == 0) = false := by simp [hr0]
      have ka0 : x8.cell? ⟨e1, 0, none⟩ = some (.int .i64 ar) := KA.out.cell 0
      have ka1 : x8.cell? ⟨e1, 1, none⟩ = some (.int .i64 ac) := KA.out.cell 1
      have ka2 : x8.cell? ⟨e1, 2, none⟩ = some (.int .i64 ab) := KA.out.cell 2
      have ka3 : x8.cell? ⟨e1, 3, none⟩ = some (.int .i64 ap) := KA.out.cell 3
      have kal : e1 < x8.heap.size := KA.out.lt
      have ky0 : x8.cell? ⟨e3, 0, none⟩ = some (.int .i64 ar) := KY.out.cell 0
      have ky1 : x8.cell? ⟨e3, 1, none⟩ = some (.int .i64 (ac + cost)) := KY.out.cell 1
      have ky2 : x8.cell? ⟨e3, 2, none⟩ = some (.int .i64 bridge) := KY.out.cell 2
      have ky3 : x8.cell? ⟨e3, 3, none⟩ = some (.int .i64 port) := KY.out.cell 3
      have kyl : e3 < x8.heap.size := KY.out.lt
      go_wp2_with fail
      refine (HK.out _).mono ?_
      rintro e x9 ⟨rfl, hbq⟩
      clear ka0 ka1 ka2 ka3 kal ky0 ky1 ky2 ky3 kyl
      have KA := Lib.hid (KA.out.after hbq)
      have KY := Lib.hid (KY.out.after hbq)
      have HB := Lib.hid (HB.out.trans (hbq.mono HB.out.size))
      clear hbq
      have ka0 : x9.cell? ⟨e1, 0, none⟩ = some (.int .i64 ar) := KA.out.cell 0
      have ka1 : x9.cell? ⟨e1, 1, none⟩ = some (.int .i64 ac) := KA.out.cell 1
      have ka2 : x9.cell? ⟨e1, 2, none⟩ = some (.int .i64 ab) := KA.out.cell 2
      have ka3 : x9.cell? ⟨e1, 3, none⟩ = some (.int .i64 ap) := KA.out.cell 3
      have kal : e1 < x9.heap.size := KA.out.lt
      have ky0 : x9.cell? ⟨e3, 0, none⟩ = some (.int .i64 ar) := KY.out.cell 0
      have ky1 : x9.cell? ⟨e3, 1, none⟩ = some (.int .i64 (ac + cost)) := KY.out.cell 1
      have ky2 : x9.cell? ⟨e3, 2, none⟩ = some (.int .i64 bridge) := KY.out.cell 2
      have ky3 : x9.cell? ⟨e3, 3, none⟩ = some (.int .i64 port) := KY.out.cell 3
      have kyl : e3 < x9.heap.size := KY.out.lt
      go_wp2_with fail
      refine (HCV.out _).mono ?_
      rintro e x10 ⟨rfl, hbq⟩
      clear ka0 ka1 ka2 ka3 kal ky0 ky1 ky2 ky3 kyl
      have KA := Lib.hid (KA.out.after hbq)
      have KY := Lib.hid (KY.out.after hbq)
      have HB := Lib.hid (HB.out.trans (hbq.mono HB.out.size))
      clear hbq
      go_wp2_with fail
      go_ret
      exact ⟨rfl, HB.out⟩
    have hz := HNO.out hmp
    unfold Vc.zero at hz
    cases hz
    have ky0 : x8.cell? ⟨e3, 0, none⟩ = some (.int .i64 0) := KY.out.cell 0
    have ky1 : x8.cell? ⟨e3, 1, none⟩ = some (.int .i64 0) := KY.out.cell 1
    have ky2 : x8.cell? ⟨e3, 2, none⟩ = some (.int .i64 0) := KY.out.cell 2
    have ky3 : x8.cell? ⟨e3, 3, none⟩ = some (.int .i64 0) := KY.out.cell 3
    have kyl : e3 < x8.heap.size := KY.out.lt
    go_wp2_with fail
    go_ret
    exact ⟨rfl, HB.out⟩
  rcases HM.out with hmp | hmp
  · obtain ⟨hz, rfl, h0, h1, hcv⟩ := HYES.out hmp
    cases hz
    have hcn : ¬ (ac + cost = 0) := by omega
    have hcn2 : (ac + cost == 0) = false := by simp; omega
    have hgt : ac < ac + cost := by omega
    by_cases hr0 : ar = 0
    · subst hr0
      have ka0 : x6.cell? ⟨e1, 0, none⟩ = some (.int .i64 0) := KA.out.cell 0
      have ka1 : x6.cell? ⟨e1, 1, none⟩ = some (.int .i64 ac) := KA.out.cell 1
      have ka2 : x6.cell? ⟨e1, 2, none⟩ = some (.int .i64 ab) := KA.out.cell 2
      have ka3 : x6.cell? ⟨e1, 3, none⟩ = some (.int .i64 ap) := KA.out.cell 3
      have kal : e1 < x6.heap.size := KA.out.lt
      have ky0 : x6.cell? ⟨e3, 0, none⟩ = some (.int .i64 0) := KY.out.cell 0
      have ky1 : x6.cell? ⟨e3, 1, none⟩ = some (.int .i64 (ac + cost)) := KY.out.cell 1
      have ky2 : x6.cell? ⟨e3, 2, none⟩ = some (.int .i64 bridge) := KY.out.cell 2
      have ky3 : x6.cell? ⟨e3, 3, none⟩ = some (.int .i64 port) := KY.out.cell 3
      have kyl : e3 < x6.heap.size := KY.out.lt
      go_wp2_with fail
      refine (HK.out _).mono ?_
      rintro e x7 ⟨rfl, hbq⟩
      clear ka0 ka1 ka2 ka3 kal ky0 ky1 ky2 ky3 kyl
      have KA := Lib.hid (KA.out.after hbq)
      have KY := Lib.hid (KY.out.after hbq)
      have HB := Lib.hid (HB.out.trans (hbq.mono HB.out.size))
      clear hbq
      have ka0 : x7.cell? ⟨e1, 0, none⟩ = some (.int .i64 0) := KA.out.cell 0
      have ka1 : x7.cell? ⟨e1, 1, none⟩ = some (.int .i64 ac) := KA.out.cell 1
      have ka2 : x7.cell? ⟨e1, 2, none⟩ = some (.int .i64 ab) := KA.out.cell 2
      have ka3 : x7.cell? ⟨e1, 3, none⟩ = some (.int .i64 ap) := KA.out.cell 3
      have kal : e1 < x7.heap.size := KA.out.lt
      have ky0 : x7.cell? ⟨e3, 0, none⟩ = some (.int .i64 0) := KY.out.cell 0
      have ky1 : x7.cell? ⟨e3, 1, none⟩ = some (.int .i64 (ac + cost)) := KY.out.cell 1
      have ky2 : x7.cell? ⟨e3, 2, none⟩ = some (.int .i64 bridge) := KY.out.cell 2
      have ky3 : x7.cell? ⟨e3, 3, none⟩ = some (.int .i64 port) := KY.out.cell 3
      have kyl : e3 < x7.heap.size := KY.out.lt
      go_wp2_with fail
      refine (HCV.out _).mono ?_
      rintro e x8 ⟨rfl, hbq⟩
      clear ka0 ka1 ka2 ka3 kal ky0 ky1 ky2 ky3 kyl
      have KA := Lib.hid (KA.out.after hbq)
      have KY := Lib.hid (KY.out.after hbq)
      have HB := Lib.hid (HB.out.trans (hbq.mono HB.out.size))
      clear hbq
      go_wp2_with fail
      go_ret
      exact ⟨rfl, HB.out⟩
    have hr1 : (ar == 0) = false := by simp [hr0]
    have ka0 : x6.cell? ⟨e1, 0, none⟩ = some (.int .i64 ar) := KA.out.cell 0
    have ka1 : x6.cell? ⟨e1, 1, none⟩ = some (.int .i64 ac) := KA.out.cell 1
    have ka2 : x6.cell? ⟨e1, 2, none⟩ = some (.int .i64 ab) := KA.out.cell 2
    have ka3 : x6.cell? ⟨e1, 3, none⟩ = some (.int .i64 ap) := KA.out.cell 3
    have kal : e1 < x6.heap.size := KA.out.lt
    have ky0 : x6.cell? ⟨e3, 0, none⟩ = some (.int .i64 ar) := KY.out.cell 0
    have ky1 : x6.cell? ⟨e3, 1, none⟩ = some (.int .i64 (ac + cost)) := KY.out.cell 1
    have ky2 : x6.cell? ⟨e3, 2, none⟩ = some (.int .i64 bridge) := KY.out.cell 2
    have ky3 : x6.cell? ⟨e3, 3, none⟩ = some (.int .i64 port) := KY.out.cell 3
    have kyl : e3 < x6.heap.size := KY.out.lt
    go_wp2_with fail
    refine (HK.out _).mono ?_
    rintro e x7 ⟨rfl, hbq⟩
    clear ka0 ka1 ka2 ka3 kal ky0 ky1 ky2 ky3 kyl
    have KA := Lib.hid (KA.out.after hbq)
    have KY := Lib.hid (KY.out.after hbq)
    have HB := Lib.hid (HB.out.trans (hbq.mono HB.out.size))
    clear hbq
    have ka0 : x7.cell? ⟨e1, 0, none⟩ = some (.int .i64 ar) := KA.out.cell 0
    have ka1 : x7.cell? ⟨e1, 1, none⟩ = some (.int .i64 ac) := KA.out.cell 1
    have ka2 : x7.cell? ⟨e1, 2, none⟩ = some (.int .i64 ab) := KA.out.cell 2
    have ka3 : x7.cell? ⟨e1, 3, none⟩ = some (.int .i64 ap) := KA.out.cell 3
    have kal : e1 < x7.heap.size := KA.out.lt
    have ky0 : x7.cell? ⟨e3, 0, none⟩ = some (.int .i64 ar) := KY.out.cell 0
    have ky1 : x7.cell? ⟨e3, 1, none⟩ = some (.int .i64 (ac + cost)) := KY.out.cell 1
    have ky2 : x7.cell? ⟨e3, 2, none⟩ = some (.int .i64 bridge) := KY.out.cell 2
    have ky3 : x7.cell? ⟨e3, 3, none⟩ = some (.int .i64 port) := KY.out.cell 3
    have kyl : e3 < x7.heap.size := KY.out.lt
    go_wp2_with fail
    refine (HCV.out _).mono ?_
    rintro e x8 ⟨rfl, hbq⟩
    clear ka0 ka1 ka2 ka3 kal ky0 ky1 ky2 ky3 kyl
    have KA := Lib.hid (KA.out.after hbq)
    have KY := Lib.hid (KY.out.after hbq)
    have HB := Lib.hid (HB.out.trans (hbq.mono HB.out.size))
    clear hbq
    go_wp2_with fail
    go_ret
    exact ⟨rfl, HB.out⟩
  have hz := HNO.out hmp
  unfold Vc.zero at hz
  cases hz
  have ky0 : x6.cell? ⟨e3, 0, none⟩ = some (.int .i64 0) := KY.out.cell 0
  have ky1 : x6.cell? ⟨e3, 1, none⟩ = some (.int .i64 0) := KY.out.cell 1
  have ky2 : x6.cell? ⟨e3, 2, none⟩ = some (.int .i64 0) := KY.out.cell 2
  have ky3 : x6.cell? ⟨e3, 3, none⟩ = some (.int .i64 0) := KY.out.cell 3
  have kyl : e3 < x6.heap.size := KY.out.lt
  go_wp2_with fail
  go_ret
  exact ⟨rfl, HB.out⟩
end Go.Proofs.YtbcpfciegamaeaaDoor
