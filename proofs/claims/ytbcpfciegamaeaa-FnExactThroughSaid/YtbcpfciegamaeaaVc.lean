/- Vectors: their values, what is right, their order; the model's chapter 8 but for Best. -/
import Derived.Test.YtbcpfciegamaeaaRowB
import Derived.Test.YtbcpfciegamaeaaTm
import Derived.Test.YtbcpfciegamaeaaMac
import Derived.IntWalk
import Derived.Deep.RegionHeld3
import Derived.Deep.DeepCutAuto
namespace Go.Proofs.Ytbcpfciegamaeaa
open Go.RowKit

structure Vc where
  root : Int
  cost : Int
  bridge : Int
  port : Int
deriving DecidableEq
instance : Inhabited Vc := ⟨⟨0, 0, 0, 0⟩⟩
/-- a vector as the program holds it -/
def Vc.val (v : Vc) : Value := .agg #[.int .i64 v.root, .int .i64 v.cost, .int .i64 v.bridge, .int .i64 v.port]
def Vc.cs (v : Vc) : List Value := [.int .i64 v.root, .int .i64 v.cost, .int .i64 v.bridge, .int .i64 v.port]
def Vc.zero : Vc := ⟨0, 0, 0, 0⟩
/-- a bridge's number -/
def idOk (n : Int) : Prop := (0 ≤ n ∧ n ≤ 4503599627370495) ∧ ¬ isGrp (n % 281474976710656)
instance (n : Int) : Decidable (idOk n) := by unfold idOk; infer_instance
def idOf (rank mac : Int) : Int := if (0 ≤ rank ∧ rank ≤ 15) ∧ isMac mac ∧ ¬ isGrp mac then rank * 281474976710656 + mac else -1
/-- a vector is right -/
def vcOk (v : Vc) : Prop := idOk v.root ∧ idOk v.bridge ∧ (0 ≤ v.cost ∧ v.cost ≤ 200000000) ∧ (1 ≤ v.port ∧ v.port ≤ 16)
instance (v : Vc) : Decidable (vcOk v) := by unfold vcOk; infer_instance
def cmpN (a b : Int) : Int := if a < b then -1 else if b < a then 1 else 0
/-- the order of vectors -/
def cmpVc (a b : Vc) : Int := if cmpN a.root b.root ≠ 0 then cmpN a.root b.root else if cmpN a.cost b.cost ≠ 0 then cmpN a.cost b.cost else if cmpN a.bridge b.bridge ≠ 0 then cmpN a.bridge b.bridge else cmpN a.port b.port
def mayThrough (v : Vc) (cost bridge port : Int) : Prop := vcOk v ∧ (1 ≤ cost ∧ cost ≤ 200000000) ∧ vcOk ⟨v.root, v.cost + cost, bridge, port⟩
instance (v : Vc) (cost bridge port : Int) : Decidable (mayThrough v cost bridge port) := by unfold mayThrough; infer_instance
def through (v : Vc) (cost bridge port : Int) : Vc := if mayThrough v cost bridge port then ⟨v.root, v.cost + cost, bridge, port⟩ else Vc.zero

/-- the numbers that are divided are an int's -/
def Vc.fit (v : Vc) : Prop := v.root ≤ 9223372036854775807 ∧ v.bridge ≤ 9223372036854775807
theorem wf_top {x : Int} (h : (Lit.int .i64 x).wf = true) : x ≤ 9223372036854775807 := by
  simp [Lit.wf, IntKind.min, IntKind.max, IntKind.signed, IntKind.bits] at h
  omega
theorem idOf_top (rank mac : Int) : idOf rank mac ≤ 9223372036854775807 := by
  unfold idOf
  split
  · rename_i h
    have h2 := h.2.1
    unfold isMac at h2
    omega
  · omega
theorem through_fit {v : Vc} {cost bridge port : Int} (hv : v.fit) (hb : bridge ≤ 9223372036854775807) : (through v cost bridge port).fit := by
  unfold through
  split
  · exact ⟨hv.1, hb⟩
  · exact ⟨by decide, by decide⟩

theorem sizeVc : (Try.prog.info? 25).map (·.size) = some 4 := by kernel_rfl
theorem vcOk_and (r c b p : Int) : decide (vcOk ⟨r, c, b, p⟩) = (decide (idOk r) && (decide (idOk b) && (decide (0 ≤ c ∧ c ≤ 200000000) && decide (1 ≤ p ∧ p ≤ 16)))) := by
  unfold vcOk
  exact and4

theorem isId_spec (n : Int) (w : World) : Calls Try.prog 36 #[.int .i64 n] w fun e w' => e = .returned (.bool (decide (idOk n))) ∧ w = w' := by
  have h1 := in_any5 n 0 4503599627370495
  have h2 := group_spec (n % 281474976710656)
  obtain ⟨r, hr⟩ : ∃ r, decide (idOk n) = r := ⟨_, rfl⟩
  obtain ⟨g, hg⟩ : ∃ g, decide (isGrp (n % 281474976710656)) = g := ⟨_, rfl⟩
  rw [hr]
  rw [hg] at h2
  have H2 := Lib.hid h2
  by_cases h : 0 ≤ n ∧ n ≤ 4503599627370495
  · rw [decide_eq_true h] at h1
    have hm : n.tmod 281474976710656 = n % 281474976710656 := Int.tmod_eq_emod_of_nonneg h.1
    obtain rfl : r = !g := by
      rw [← hr, ← hg]
      unfold idOk
      by_cases k : isGrp (n % 281474976710656) <;> simp [h, k]
    have H1 := Lib.hid h1
    clear h1 h2 hr hg h
    go_enter Try.func36, Try.ntmps36
    go_wp2_with fail
    refine (H1.out _).mono ?_
    rintro e ww ⟨rfl, rfl⟩
    go_wp2_with fail
    refine (H2.out _).mono ?_
    rintro e ww ⟨rfl, rfl⟩
    go_wp2_with fail
    go_ret
    exact ⟨rfl, rfl⟩
  · rw [decide_eq_false h] at h1
    obtain rfl : r = false := by rw [← hr]; exact decide_eq_false (fun k => h k.1)
    have H1 := Lib.hid h1
    clear h1 h2 hr hg h
    go_enter Try.func36, Try.ntmps36
    go_wp2_with fail
    refine (H1.out _).mono ?_
    rintro e ww ⟨rfl, rfl⟩
    go_wp2_with fail
    go_ret
    exact ⟨rfl, rfl⟩

theorem id_spec (rank mac : Int) (w : World) : Calls Try.prog 19 #[.int .i64 rank, .int .i64 mac] w fun e w' => e = .returned (.int .i64 (idOf rank mac)) ∧ w = w' := by
  have h1 := in_any5 rank 0 15
  have h2 := macOk_spec mac
  have h3 := group_spec mac
  obtain ⟨r, hr⟩ : ∃ r, idOf rank mac = r := ⟨_, rfl⟩
  rw [hr]
  by_cases k1 : 0 ≤ rank ∧ rank ≤ 15
  · by_cases k2 : isMac mac
    · by_cases k3 : isGrp mac
      · obtain rfl : r = -1 := by rw [← hr]; exact if_neg (fun h => h.2.2 k3)
        rw [decide_eq_true k1] at h1; rw [decide_eq_true k2] at h2; rw [decide_eq_true k3] at h3
        have H1 := Lib.hid h1; have H2 := Lib.hid h2; have H3 := Lib.hid h3
        clear h1 h2 h3 k1 k2 k3 hr
        go_enter Try.func19, Try.ntmps19
        go_wp2_with fail
        refine (H1.out _).mono ?_
        rintro e ww ⟨rfl, rfl⟩
        go_wp2_with fail
        refine (H2.out _).mono ?_
        rintro e ww ⟨rfl, rfl⟩
        go_wp2_with fail
        refine (H3.out _).mono ?_
        rintro e ww ⟨rfl, rfl⟩
        go_wp2_with fail
        go_ret
        exact ⟨rfl, rfl⟩
      · have hm := k2
        unfold isMac at hm
        have w1 : wrap64 (rank * 281474976710656) = rank * 281474976710656 := IntWalk.wrap64_in _ (by omega)
        have w2 : wrap64 (rank * 281474976710656 + mac) = rank * 281474976710656 + mac := IntWalk.wrap64_in _ (by omega)
        obtain rfl : r = rank * 281474976710656 + mac := by rw [← hr]; exact if_pos ⟨k1, k2, k3⟩
        rw [decide_eq_true k1] at h1; rw [decide_eq_true k2] at h2; rw [decide_eq_false k3] at h3
        have H1 := Lib.hid h1; have H2 := Lib.hid h2; have H3 := Lib.hid h3
        clear h1 h2 h3 k2 k3 hr
        go_enter Try.func19, Try.ntmps19
        go_wp2_with fail
        refine (H1.out _).mono ?_
        rintro e ww ⟨rfl, rfl⟩
        go_wp2_with fail
        refine (H2.out _).mono ?_
        rintro e ww ⟨rfl, rfl⟩
        go_wp2_with fail
        refine (H3.out _).mono ?_
        rintro e ww ⟨rfl, rfl⟩
        go_wp2_with fail
        go_ret
        exact ⟨rfl, rfl⟩
    · obtain rfl : r = -1 := by rw [← hr]; exact if_neg (fun h => k2 h.2.1)
      rw [decide_eq_true k1] at h1; rw [decide_eq_false k2] at h2
      have H1 := Lib.hid h1; have H2 := Lib.hid h2
      clear h1 h2 h3 k1 k2 hr
      go_enter Try.func19, Try.ntmps19
      go_wp2_with fail
      refine (H1.out _).mono ?_
      rintro e ww ⟨rfl, rfl⟩
      go_wp2_with fail
      refine (H2.out _).mono ?_
      rintro e ww ⟨rfl, rfl⟩
      go_wp2_with fail
      go_ret
      exact ⟨rfl, rfl⟩
  · obtain rfl : r = -1 := by rw [← hr]; exact if_neg (fun h => k1 h.1)
    rw [decide_eq_false k1] at h1
    have H1 := Lib.hid h1
    clear h1 h2 h3 k1 hr
    go_enter Try.func19, Try.ntmps19
    go_wp2_with fail
    refine (H1.out _).mono ?_
    rintro e ww ⟨rfl, rfl⟩
    go_wp2_with fail
    go_ret
    exact ⟨rfl, rfl⟩

theorem less_spec (a b : Int) (w : World) : Calls Try.prog 32 #[.int .i64 a, .int .i64 b] w fun e w' => e = .returned (.int .i64 (cmpN a b)) ∧ Below w.heap.size w w' := by
  obtain ⟨r, hr⟩ : ∃ r, cmpN a b = r := ⟨_, rfl⟩
  rw [hr]
  unfold cmpN at hr
  by_cases h0 : a < b
  · obtain rfl : r = -1 := by rw [← hr]; exact if_pos h0
    clear hr
    go_enter Try.func32, Try.ntmps32
    go_wp2_with fail
    go_ret
    exact ⟨rfl, Below.refl _ _⟩
  · rw [if_neg h0] at hr
    by_cases h1 : b < a
    · obtain rfl : r = 1 := by rw [← hr]; exact if_pos h1
      clear hr
      go_enter Try.func32, Try.ntmps32
      go_wp2_with fail
      go_ret
      exact ⟨rfl, Below.refl _ _⟩
    · obtain rfl : r = 0 := by rw [← hr]; exact if_neg h1
      clear hr
      go_enter Try.func32, Try.ntmps32
      go_wp2_with fail
      go_ret
      exact ⟨rfl, Below.refl _ _⟩

set_option linter.unusedVariables false in
set_option linter.unusedSimpArgs false in
set_option maxRecDepth 20000 in
set_option maxHeartbeats 4000000 in
theorem vectorOk_spec (v : Vc) (w : World) : Calls Try.prog 17 #[v.val] w fun e w' => e = .returned (.bool (decide (vcOk v))) ∧ Below w.heap.size w w' := by
  obtain ⟨r, c, b, p⟩ := v
  rw [vcOk_and]
  have h1 := isId_spec r
  have h2 := isId_spec b
  have h3 := in_any5 c 0 200000000
  have h4 := in_any5 p 1 16
  generalize decide (idOk r) = d1 at h1 ⊢
  generalize decide (idOk b) = d2 at h2 ⊢
  generalize decide (0 ≤ c ∧ c ≤ 200000000) = d3 at h3 ⊢
  generalize decide (1 ≤ p ∧ p ≤ 16) = d4 at h4 ⊢
  unfold Vc.val
  have H1 := Lib.hid h1; have H2 := Lib.hid h2; have H3 := Lib.hid h3; have H4 := Lib.hid h4
  have hB : Below w.heap.size w (w.alloc (.cells #[.int .i64 r, .int .i64 c, .int .i64 b, .int .i64 p] 25)) := ((Below.refl _ _).alloc (by simp) _)
  have hKV : Blk (w.alloc (.cells #[.int .i64 r, .int .i64 c, .int .i64 b, .int .i64 p] 25)) (w.heap.size) #[.int .i64 r, .int .i64 c, .int .i64 b, .int .i64 p] 25 := (blk_new _ _ (by simp))
  have HB := Lib.hid hB; have KV := Lib.hid hKV
  clear hB hKV h1 h2 h3 h4
  go_enter Try.func17, Try.ntmps17
  go_wp2_with fail
  refine (H1.out _).mono ?_
  rintro e ww ⟨rfl, rfl⟩
  cases d1
  · go_wp2_with fail
    go_ret
    exact ⟨rfl, HB.out⟩
  go_wp2_with fail
  refine (H2.out _).mono ?_
  rintro e ww ⟨rfl, rfl⟩
  cases d2
  · go_wp2_with fail
    go_ret
    exact ⟨rfl, HB.out⟩
  go_wp2_with fail
  refine (H3.out _).mono ?_
  rintro e ww ⟨rfl, rfl⟩
  cases d3
  · go_wp2_with fail
    go_ret
    exact ⟨rfl, HB.out⟩
  go_wp2_with fail
  refine (H4.out _).mono ?_
  rintro e ww ⟨rfl, rfl⟩
  cases d4
  · go_wp2_with fail
    go_ret
    exact ⟨rfl, HB.out⟩
  go_wp2_with fail
  go_ret
  exact ⟨rfl, HB.out⟩

set_option linter.unusedVariables false in
set_option linter.unusedSimpArgs false in
set_option maxRecDepth 20000 in
set_option maxHeartbeats 4000000 in
theorem compare_spec (a b : Vc) (w : World) : Calls Try.prog 13 #[a.val, b.val] w fun e w' => e = .returned (.int .i64 (cmpVc a b)) ∧ Below w.heap.size w w' := by
  obtain ⟨z, hz⟩ : ∃ z, cmpVc a b = z := ⟨_, rfl⟩
  rw [hz]
  unfold cmpVc at hz
  obtain ⟨ar, ac, ab, ap⟩ := a
  obtain ⟨br, bc, bb, bp⟩ := b
  simp only at hz
  unfold Vc.val
  have HZ := Lib.hid hz
  have hB : Below w.heap.size w ((w.alloc (.cells #[.int .i64 ar, .int .i64 ac, .int .i64 ab, .int .i64 ap] 25)).alloc (.cells #[.int .i64 br, .int .i64 bc, .int .i64 bb, .int .i64 bp] 25)) := (((Below.refl _ _).alloc (by simp) _).alloc (by simp) _)
  have hKA : Blk ((w.alloc (.cells #[.int .i64 ar, .int .i64 ac, .int .i64 ab, .int .i64 ap] 25)).alloc (.cells #[.int .i64 br, .int .i64 bc, .int .i64 bb, .int .i64 bp] 25)) (w.heap.size) #[.int .i64 ar, .int .i64 ac, .int .i64 ab, .int .i64 ap] 25 := ((blk_new _ _ (by simp)).alloc _)
  have hKB : Blk ((w.alloc (.cells #[.int .i64 ar, .int .i64 ac, .int .i64 ab, .int .i64 ap] 25)).alloc (.cells #[.int .i64 br, .int .i64 bc, .int .i64 bb, .int .i64 bp] 25)) (w.heap.size + 1) #[.int .i64 br, .int .i64 bc, .int .i64 bb, .int .i64 bp] 25 := (blk_new _ _ (by simp))
  have HB := Lib.hid hB; have KA := Lib.hid hKA; have KB := Lib.hid hKB
  clear hB hKA hKB hz
  go_enter Try.func13, Try.ntmps13
  go_upto_region 1 with fail
  have HX : Hid (Below ((w.alloc (.cells #[.int .i64 ar, .int .i64 ac, .int .i64 ab, .int .i64 ap] 25)).alloc (.cells #[.int .i64 br, .int .i64 bc, .int .i64 bb, .int .i64 bp] 25)).heap.size ((w.alloc (.cells #[.int .i64 ar, .int .i64 ac, .int .i64 ab, .int .i64 ap] 25)).alloc (.cells #[.int .i64 br, .int .i64 bc, .int .i64 bb, .int .i64 bp] 25)) ((w.alloc (.cells #[.int .i64 ar, .int .i64 ac, .int .i64 ab, .int .i64 ap] 25)).alloc (.cells #[.int .i64 br, .int .i64 bc, .int .i64 bb, .int .i64 bp] 25))) := Lib.hid (Below.refl _ _)
  generalize ((w.alloc (.cells #[.int .i64 ar, .int .i64 ac, .int .i64 ab, .int .i64 ap] 25)).alloc (.cells #[.int .i64 br, .int .i64 bc, .int .i64 bb, .int .i64 bp] 25)) = x0 at HB KA KB HX ⊢
  go_cut [5, 6] (fun sp sq wx => ∃ e1 e2, sp = .slice (some ⟨e1, 0, none⟩) 4 4 ∧ sq = .slice (some ⟨e2, 0, none⟩) 4 4 ∧ Hid (Blk wx e1 #[.int .i64 ar, .int .i64 ac, .int .i64 ab, .int .i64 ap] 3) ∧ Hid (Blk wx e2 #[.int .i64 br, .int .i64 bc, .int .i64 bb, .int .i64 bp] 3) ∧ Hid (Below x0.heap.size x0 wx))
  case first =>
    refine wp_region_held_drew (S := fun w' => Below x0.heap.size x0 w') (by kernel_rfl) (Below.drew (Below.refl _ _)) (fun hHeld => ?_)
    refine wpAnyH_take (i := 0) (v := ?v1) rfl (by kernel_rfl) (by kernel_rfl) (by kernel_rfl) (fun _ _ _ h => h) (Or.inl ⟨by rfl, ?h1⟩) hHeld ?r1
    case h1 => intro wq hS; go_simp; with_reducible rfl
    try simp only [Act.put, List.getElem_toArray, List.getElem_cons_zero, List.getElem_cons_succ, List.setIfInBounds_toArray, List.set_cons_zero, List.set_cons_succ]
    refine wpAnyH_take (i := 1) (v := ?v2) rfl (by kernel_rfl) (by kernel_rfl) (by kernel_rfl) (fun _ _ _ h => h) (Or.inl ⟨by rfl, ?h2⟩) hHeld ?r2
    case h2 => intro wq hS; have c0 : wq.cell? ⟨w.heap.size, 0, none⟩ = some (.int .i64 ar) := (KA.out.after hS).cell 0; have c1 : wq.cell? ⟨w.heap.size, 1, none⟩ = some (.int .i64 ac) := (KA.out.after hS).cell 1; have c2 : wq.cell? ⟨w.heap.size, 2, none⟩ = some (.int .i64 ab) := (KA.out.after hS).cell 2; have c3 : wq.cell? ⟨w.heap.size, 3, none⟩ = some (.int .i64 ap) := (KA.out.after hS).cell 3; go_simp; with_reducible rfl
    try simp only [Act.put, List.getElem_toArray, List.getElem_cons_zero, List.getElem_cons_succ, List.setIfInBounds_toArray, List.set_cons_zero, List.set_cons_succ]
    refine wpAnyH_take (i := 2) (v := ?v3) rfl (by kernel_rfl) (by kernel_rfl) (by kernel_rfl) (fun _ _ _ h => h) (Or.inl ⟨by rfl, ?h3⟩) hHeld ?r3
    case h3 => intro wq hS; go_simp; with_reducible rfl
    try simp only [Act.put, List.getElem_toArray, List.getElem_cons_zero, List.getElem_cons_succ, List.setIfInBounds_toArray, List.set_cons_zero, List.set_cons_succ]
    refine wpAnyH_take (i := 3) (v := ?v4) rfl (by kernel_rfl) (by kernel_rfl) (by kernel_rfl) (fun _ _ _ h => h) (Or.inl ⟨by rfl, ?h4⟩) hHeld ?r4
    case h4 => intro wq hS; have c0 : wq.cell? ⟨w.heap.size, 0, none⟩ = some (.int .i64 ar) := (KA.out.after hS).cell 0; have c1 : wq.cell? ⟨w.heap.size, 1, none⟩ = some (.int .i64 ac) := (KA.out.after hS).cell 1; have c2 : wq.cell? ⟨w.heap.size, 2, none⟩ = some (.int .i64 ab) := (KA.out.after hS).cell 2; have c3 : wq.cell? ⟨w.heap.size, 3, none⟩ = some (.int .i64 ap) := (KA.out.after hS).cell 3; go_simp; with_reducible rfl
    try simp only [Act.put, List.getElem_toArray, List.getElem_cons_zero, List.getElem_cons_succ, List.setIfInBounds_toArray, List.set_cons_zero, List.set_cons_succ]
    refine wpAnyH_take (i := 4) (v := ?v5) rfl (by kernel_rfl) (by kernel_rfl) (by kernel_rfl) (fun _ _ _ h => h) (Or.inl ⟨by rfl, ?h5⟩) hHeld ?r5
    case h5 => intro wq hS; go_simp; with_reducible rfl
    try simp only [Act.put, List.getElem_toArray, List.getElem_cons_zero, List.getElem_cons_succ, List.setIfInBounds_toArray, List.set_cons_zero, List.set_cons_succ]
    refine wpAnyH_take (i := 5) (v := ?v6) rfl (by kernel_rfl) (by kernel_rfl) (by kernel_rfl) (fun _ _ _ h => h) (Or.inl ⟨by rfl, ?h6⟩) hHeld ?r6
    case h6 => intro wq hS; have c0 : wq.cell? ⟨w.heap.size, 0, none⟩ = some (.int .i64 ar) := (KA.out.after hS).cell 0; have c1 : wq.cell? ⟨w.heap.size, 1, none⟩ = some (.int .i64 ac) := (KA.out.after hS).cell 1; have c2 : wq.cell? ⟨w.heap.size, 2, none⟩ = some (.int .i64 ab) := (KA.out.after hS).cell 2; have c3 : wq.cell? ⟨w.heap.size, 3, none⟩ = some (.int .i64 ap) := (KA.out.after hS).cell 3; go_simp; with_reducible rfl
    try simp only [Act.put, List.getElem_toArray, List.getElem_cons_zero, List.getElem_cons_succ, List.setIfInBounds_toArray, List.set_cons_zero, List.set_cons_succ]
    refine wpAnyH_take (i := 6) (v := ?v7) rfl (by kernel_rfl) (by kernel_rfl) (by kernel_rfl) (fun _ _ _ h => h) (Or.inl ⟨by rfl, ?h7⟩) hHeld ?r7
    case h7 => intro wq hS; go_simp; with_reducible rfl
    try simp only [Act.put, List.getElem_toArray, List.getElem_cons_zero, List.getElem_cons_succ, List.setIfInBounds_toArray, List.set_cons_zero, List.set_cons_succ]
    refine wpAnyH_take (i := 7) (v := ?v8) rfl (by kernel_rfl) (by kernel_rfl) (by kernel_rfl) (fun _ _ _ h => h) (Or.inl ⟨by rfl, ?h8⟩) hHeld ?r8
    case h8 => intro wq hS; have c0 : wq.cell? ⟨w.heap.size, 0, none⟩ = some (.int .i64 ar) := (KA.out.after hS).cell 0; have c1 : wq.cell? ⟨w.heap.size, 1, none⟩ = some (.int .i64 ac) := (KA.out.after hS).cell 1; have c2 : wq.cell? ⟨w.heap.size, 2, none⟩ = some (.int .i64 ab) := (KA.out.after hS).cell 2; have c3 : wq.cell? ⟨w.heap.size, 3, none⟩ = some (.int .i64 ap) := (KA.out.after hS).cell 3; go_simp; with_reducible rfl
    try simp only [Act.put, List.getElem_toArray, List.getElem_cons_zero, List.getElem_cons_succ, List.setIfInBounds_toArray, List.set_cons_zero, List.set_cons_succ]
    refine wpAnyH_take (i := 9) (v := ?v9) rfl (by kernel_rfl) (by kernel_rfl) (by kernel_rfl) (fun _ _ _ h => h) (Or.inl ⟨by rfl, ?h9⟩) hHeld ?r9
    case h9 => intro wq hS; go_simp; with_reducible rfl
    try simp only [Act.put, List.getElem_toArray, List.getElem_cons_zero, List.getElem_cons_succ, List.setIfInBounds_toArray, List.set_cons_zero, List.set_cons_succ]
    refine wpAnyH_take (i := 10) (v := ?v10) rfl (by kernel_rfl) (by kernel_rfl) (by kernel_rfl) (fun _ _ _ h => h) (Or.inl ⟨by rfl, ?h10⟩) hHeld ?r10
    case h10 => intro wq hS; have c0 : wq.cell? ⟨w.heap.size + 1, 0, none⟩ = some (.int .i64 br) := (KB.out.after hS).cell 0; have c1 : wq.cell? ⟨w.heap.size + 1, 1, none⟩ = some (.int .i64 bc) := (KB.out.after hS).cell 1; have c2 : wq.cell? ⟨w.heap.size + 1, 2, none⟩ = some (.int .i64 bb) := (KB.out.after hS).cell 2; have c3 : wq.cell? ⟨w.heap.size + 1, 3, none⟩ = some (.int .i64 bp) := (KB.out.after hS).cell 3; go_simp; with_reducible rfl
    try simp only [Act.put, List.getElem_toArray, List.getElem_cons_zero, List.getElem_cons_succ, List.setIfInBounds_toArray, List.set_cons_zero, List.set_cons_succ]
    refine wpAnyH_take (i := 11) (v := ?v11) rfl (by kernel_rfl) (by kernel_rfl) (by kernel_rfl) (fun _ _ _ h => h) (Or.inl ⟨by rfl, ?h11⟩) hHeld ?r11
    case h11 => intro wq hS; go_simp; with_reducible rfl
    try simp only [Act.put, List.getElem_toArray, List.getElem_cons_zero, List.getElem_cons_succ, List.setIfInBounds_toArray, List.set_cons_zero, List.set_cons_succ]
    refine wpAnyH_take (i := 12) (v := ?v12) rfl (by kernel_rfl) (by kernel_rfl) (by kernel_rfl) (fun _ _ _ h => h) (Or.inl ⟨by rfl, ?h12⟩) hHeld ?r12
    case h12 => intro wq hS; have c0 : wq.cell? ⟨w.heap.size + 1, 0, none⟩ = some (.int .i64 br) := (KB.out.after hS).cell 0; have c1 : wq.cell? ⟨w.heap.size + 1, 1, none⟩ = some (.int .i64 bc) := (KB.out.after hS).cell 1; have c2 : wq.cell? ⟨w.heap.size + 1, 2, none⟩ = some (.int .i64 bb) := (KB.out.after hS).cell 2; have c3 : wq.cell? ⟨w.heap.size + 1, 3, none⟩ = some (.int .i64 bp) := (KB.out.after hS).cell 3; go_simp; with_reducible rfl
    try simp only [Act.put, List.getElem_toArray, List.getElem_cons_zero, List.getElem_cons_succ, List.setIfInBounds_toArray, List.set_cons_zero, List.set_cons_succ]
    refine wpAnyH_take (i := 13) (v := ?v13) rfl (by kernel_rfl) (by kernel_rfl) (by kernel_rfl) (fun _ _ _ h => h) (Or.inl ⟨by rfl, ?h13⟩) hHeld ?r13
    case h13 => intro wq hS; go_simp; with_reducible rfl
    try simp only [Act.put, List.getElem_toArray, List.getElem_cons_zero, List.getElem_cons_succ, List.setIfInBounds_toArray, List.set_cons_zero, List.set_cons_succ]
    refine wpAnyH_take (i := 14) (v := ?v14) rfl (by kernel_rfl) (by kernel_rfl) (by kernel_rfl) (fun _ _ _ h => h) (Or.inl ⟨by rfl, ?h14⟩) hHeld ?r14
    case h14 => intro wq hS; have c0 : wq.cell? ⟨w.heap.size + 1, 0, none⟩ = some (.int .i64 br) := (KB.out.after hS).cell 0; have c1 : wq.cell? ⟨w.heap.size + 1, 1, none⟩ = some (.int .i64 bc) := (KB.out.after hS).cell 1; have c2 : wq.cell? ⟨w.heap.size + 1, 2, none⟩ = some (.int .i64 bb) := (KB.out.after hS).cell 2; have c3 : wq.cell? ⟨w.heap.size + 1, 3, none⟩ = some (.int .i64 bp) := (KB.out.after hS).cell 3; go_simp; with_reducible rfl
    try simp only [Act.put, List.getElem_toArray, List.getElem_cons_zero, List.getElem_cons_succ, List.setIfInBounds_toArray, List.set_cons_zero, List.set_cons_succ]
    refine wpAnyH_take (i := 15) (v := ?v15) rfl (by kernel_rfl) (by kernel_rfl) (by kernel_rfl) (fun _ _ _ h => h) (Or.inl ⟨by rfl, ?h15⟩) hHeld ?r15
    case h15 => intro wq hS; go_simp; with_reducible rfl
    try simp only [Act.put, List.getElem_toArray, List.getElem_cons_zero, List.getElem_cons_succ, List.setIfInBounds_toArray, List.set_cons_zero, List.set_cons_succ]
    refine wpAnyH_take (i := 16) (v := ?v16) rfl (by kernel_rfl) (by kernel_rfl) (by kernel_rfl) (fun _ _ _ h => h) (Or.inl ⟨by rfl, ?h16⟩) hHeld ?r16
    case h16 => intro wq hS; have c0 : wq.cell? ⟨w.heap.size + 1, 0, none⟩ = some (.int .i64 br) := (KB.out.after hS).cell 0; have c1 : wq.cell? ⟨w.heap.size + 1, 1, none⟩ = some (.int .i64 bc) := (KB.out.after hS).cell 1; have c2 : wq.cell? ⟨w.heap.size + 1, 2, none⟩ = some (.int .i64 bb) := (KB.out.after hS).cell 2; have c3 : wq.cell? ⟨w.heap.size + 1, 3, none⟩ = some (.int .i64 bp) := (KB.out.after hS).cell 3; go_simp; with_reducible rfl
    try simp only [Act.put, List.getElem_toArray, List.getElem_cons_zero, List.getElem_cons_succ, List.setIfInBounds_toArray, List.set_cons_zero, List.set_cons_succ]
    refine wpAnyH_ready (rs := [8, 17]) (by kernel_rfl) (by simp) ?_
    refine AllReadyH.cons rfl (fun K hK => ?_) ?_
    · go_simp
      refine hK.out _ _ (((Below.refl _ _).alloc (Nat.le_refl _) _).drew) (fun hHeld => ?_)
      clear hK K
      try simp only [Act.put, List.getElem_toArray, List.getElem_cons_zero, List.getElem_cons_succ, List.setIfInBounds_toArray, List.set_cons_zero, List.set_cons_succ]
      refine wpAnyH_take (i := 18) (v := ?v17) rfl (by kernel_rfl) (by kernel_rfl) (by kernel_rfl) (fun _ _ _ h => h) (Or.inl ⟨by rfl, ?h17⟩) hHeld ?r17
      case h17 => intro wq hS; go_simp; with_reducible rfl
      try simp only [Act.put, List.getElem_toArray, List.getElem_cons_zero, List.getElem_cons_succ, List.setIfInBounds_toArray, List.set_cons_zero, List.set_cons_succ]
      refine wpAnyH_ready (rs := [17]) (by kernel_rfl) (by simp) ?_
      refine AllReadyH.cons rfl (fun K hK => ?_) AllReadyH.nil
      go_simp
      refine hK.out _ _ ((((Below.refl _ _).alloc (Nat.le_refl _) _).alloc (by simp) _).drew) (fun hHeld => ?_)
      clear hK K
      try simp only [Act.put, List.getElem_toArray, List.getElem_cons_zero, List.getElem_cons_succ, List.setIfInBounds_toArray, List.set_cons_zero, List.set_cons_succ]
      refine wpAnyH_take (i := 19) (v := ?v18) rfl (by kernel_rfl) (by kernel_rfl) (by kernel_rfl) (fun _ _ _ h => h) (Or.inl ⟨by rfl, ?h18⟩) hHeld ?r18
      case h18 => intro wq hS; go_simp; with_reducible rfl
      try simp only [Act.put, List.getElem_toArray, List.getElem_cons_zero, List.getElem_cons_succ, List.setIfInBounds_toArray, List.set_cons_zero, List.set_cons_succ]
      refine wpAnyH_done (by kernel_rfl) ?_ _
      go_wp2_with fail
      go_meet
      exact ⟨_, _, rfl, rfl, Lib.hid ((blk_new _ _ rfl).alloc _).drew, Lib.hid (blk_new _ _ (by simp)).drew, Lib.hid (((Below.refl _ _).alloc (Nat.le_refl _) _).alloc (by simp) _).drew⟩
    refine AllReadyH.cons rfl (fun K hK => ?_) AllReadyH.nil
    · go_simp
      refine hK.out _ _ (((Below.refl _ _).alloc (Nat.le_refl _) _).drew) (fun hHeld => ?_)
      clear hK K
      try simp only [Act.put, List.getElem_toArray, List.getElem_cons_zero, List.getElem_cons_succ, List.setIfInBounds_toArray, List.set_cons_zero, List.set_cons_succ]
      refine wpAnyH_ready (rs := [8]) (by kernel_rfl) (by simp) ?_
      refine AllReadyH.cons rfl (fun K hK => ?_) AllReadyH.nil
      go_simp
      refine hK.out _ _ ((((Below.refl _ _).alloc (Nat.le_refl _) _).alloc (by simp) _).drew) (fun hHeld => ?_)
      clear hK K
      try simp only [Act.put, List.getElem_toArray, List.getElem_cons_zero, List.getElem_cons_succ, List.setIfInBounds_toArray, List.set_cons_zero, List.set_cons_succ]
      refine wpAnyH_take (i := 18) (v := ?v19) rfl (by kernel_rfl) (by kernel_rfl) (by kernel_rfl) (fun _ _ _ h => h) (Or.inl ⟨by rfl, ?h19⟩) hHeld ?r19
      case h19 => intro wq hS; go_simp; with_reducible rfl
      try simp only [Act.put, List.getElem_toArray, List.getElem_cons_zero, List.getElem_cons_succ, List.setIfInBounds_toArray, List.set_cons_zero, List.set_cons_succ]
      refine wpAnyH_take (i := 19) (v := ?v20) rfl (by kernel_rfl) (by kernel_rfl) (by kernel_rfl) (fun _ _ _ h => h) (Or.inl ⟨by rfl, ?h20⟩) hHeld ?r20
      case h20 => intro wq hS; go_simp; with_reducible rfl
      try simp only [Act.put, List.getElem_toArray, List.getElem_cons_zero, List.getElem_cons_succ, List.setIfInBounds_toArray, List.set_cons_zero, List.set_cons_succ]
      refine wpAnyH_done (by kernel_rfl) ?_ _
      go_wp2_with fail
      go_meet
      exact ⟨_, _, rfl, rfl, Lib.hid (blk_new _ _ (by simp)).drew, Lib.hid ((blk_new _ _ rfl).alloc _).drew, Lib.hid (((Below.refl _ _).alloc (Nat.le_refl _) _).alloc (by simp) _).drew⟩
  case rest =>
    obtain ⟨e1, e2, rfl, rfl, KX, KY, HBC⟩ := hcut
    have HB := Lib.hid (HB.out.trans (HBC.out.mono HB.out.size))
    clear KA KB HBC HX
    go_wp2_with fail
    refine wp_loop_rounds 5 ?_
    rw [rounds_succ]
    go_wp2_with fail
    obtain ⟨n0, hn0⟩ : ∃ n, cmpN ar br = n := ⟨_, rfl⟩
    have hl := less_spec ar br
    rw [hn0] at hl
    have HL := Lib.hid hl; have HN0 := Lib.hid hn0
    clear hl hn0
    refine wp_region_held_drew (S := fun w' => Below wc.heap.size wc w') (by kernel_rfl) (Below.drew (Below.refl _ _)) (fun hHeld => ?_)
    refine wpAnyH_take (i := 0) (v := ?v21) rfl (by kernel_rfl) (by kernel_rfl) (by kernel_rfl) (fun _ _ _ h => h) (Or.inl ⟨by rfl, ?h21⟩) hHeld ?r21
    case h21 => intro wq hS; go_simp; with_reducible rfl
    try simp only [Act.put, List.getElem_toArray, List.getElem_cons_zero, List.getElem_cons_succ, List.setIfInBounds_toArray, List.set_cons_zero, List.set_cons_succ]
    refine wpAnyH_take (i := 1) (v := ?v22) rfl (by kernel_rfl) (by kernel_rfl) (by kernel_rfl) (fun _ _ _ h => h) (Or.inl ⟨by rfl, ?h22⟩) hHeld ?r22
    case h22 => intro wq hS; go_simp; with_reducible rfl
    try simp only [Act.put, List.getElem_toArray, List.getElem_cons_zero, List.getElem_cons_succ, List.setIfInBounds_toArray, List.set_cons_zero, List.set_cons_succ]
    refine wpAnyH_take (i := 2) (v := ?v23) rfl (by kernel_rfl) (by kernel_rfl) (by kernel_rfl) (fun _ _ _ h => h) (Or.inl ⟨by rfl, ?h23⟩) hHeld ?r23
    case h23 => intro wq hS; go_simp; with_reducible rfl
    try simp only [Act.put, List.getElem_toArray, List.getElem_cons_zero, List.getElem_cons_succ, List.setIfInBounds_toArray, List.set_cons_zero, List.set_cons_succ]
    refine wpAnyH_take (i := 3) (v := ?v24) rfl (by kernel_rfl) (by kernel_rfl) (by kernel_rfl) (fun _ _ _ h => h) (Or.inl ⟨by rfl, ?h24⟩) hHeld ?r24
    case h24 => intro wq hS; have c0 : wq.cell? ⟨e1, 0, none⟩ = some (.int .i64 ar) := (KX.out.after hS).cell 0; have c1 : wq.cell? ⟨e1, 1, none⟩ = some (.int .i64 ac) := (KX.out.after hS).cell 1; have c2 : wq.cell? ⟨e1, 2, none⟩ = some (.int .i64 ab) := (KX.out.after hS).cell 2; have c3 : wq.cell? ⟨e1, 3, none⟩ = some (.int .i64 ap) := (KX.out.after hS).cell 3; have d0 : wq.cell? ⟨e2, 0, none⟩ = some (.int .i64 br) := (KY.out.after hS).cell 0; have d1 : wq.cell? ⟨e2, 1, none⟩ = some (.int .i64 bc) := (KY.out.after hS).cell 1; have d2 : wq.cell? ⟨e2, 2, none⟩ = some (.int .i64 bb) := (KY.out.after hS).cell 2; have d3 : wq.cell? ⟨e2, 3, none⟩ = some (.int .i64 bp) := (KY.out.after hS).cell 3; go_simp; with_reducible rfl
    try simp only [Act.put, List.getElem_toArray, List.getElem_cons_zero, List.getElem_cons_succ, List.setIfInBounds_toArray, List.set_cons_zero, List.set_cons_succ]
    refine wpAnyH_take (i := 4) (v := ?v25) rfl (by kernel_rfl) (by kernel_rfl) (by kernel_rfl) (fun _ _ _ h => h) (Or.inl ⟨by rfl, ?h25⟩) hHeld ?r25
    case h25 => intro wq hS; go_simp; with_reducible rfl
    try simp only [Act.put, List.getElem_toArray, List.getElem_cons_zero, List.getElem_cons_succ, List.setIfInBounds_toArray, List.set_cons_zero, List.set_cons_succ]
    refine wpAnyH_take (i := 5) (v := ?v26) rfl (by kernel_rfl) (by kernel_rfl) (by kernel_rfl) (fun _ _ _ h => h) (Or.inl ⟨by rfl, ?h26⟩) hHeld ?r26
    case h26 => intro wq hS; go_simp; with_reducible rfl
    try simp only [Act.put, List.getElem_toArray, List.getElem_cons_zero, List.getElem_cons_succ, List.setIfInBounds_toArray, List.set_cons_zero, List.set_cons_succ]
    refine wpAnyH_take (i := 6) (v := ?v27) rfl (by kernel_rfl) (by kernel_rfl) (by kernel_rfl) (fun _ _ _ h => h) (Or.inl ⟨by rfl, ?h27⟩) hHeld ?r27
    case h27 => intro wq hS; go_simp; with_reducible rfl
    try simp only [Act.put, List.getElem_toArray, List.getElem_cons_zero, List.getElem_cons_succ, List.setIfInBounds_toArray, List.set_cons_zero, List.set_cons_succ]
    refine wpAnyH_take (i := 7) (v := ?v28) rfl (by kernel_rfl) (by kernel_rfl) (by kernel_rfl) (fun _ _ _ h => h) (Or.inl ⟨by rfl, ?h28⟩) hHeld ?r28
    case h28 => intro wq hS; have c0 : wq.cell? ⟨e1, 0, none⟩ = some (.int .i64 ar) := (KX.out.after hS).cell 0; have c1 : wq.cell? ⟨e1, 1, none⟩ = some (.int .i64 ac) := (KX.out.after hS).cell 1; have c2 : wq.cell? ⟨e1, 2, none⟩ = some (.int .i64 ab) := (KX.out.after hS).cell 2; have c3 : wq.cell? ⟨e1, 3, none⟩ = some (.int .i64 ap) := (KX.out.after hS).cell 3; have d0 : wq.cell? ⟨e2, 0, none⟩ = some (.int .i64 br) := (KY.out.after hS).cell 0; have d1 : wq.cell? ⟨e2, 1, none⟩ = some (.int .i64 bc) := (KY.out.after hS).cell 1; have d2 : wq.cell? ⟨e2, 2, none⟩ = some (.int .i64 bb) := (KY.out.after hS).cell 2; have d3 : wq.cell? ⟨e2, 3, none⟩ = some (.int .i64 bp) := (KY.out.after hS).cell 3; go_simp; with_reducible rfl
    try simp only [Act.put, List.getElem_toArray, List.getElem_cons_zero, List.getElem_cons_succ, List.setIfInBounds_toArray, List.set_cons_zero, List.set_cons_succ]
    refine wpAnyH_ready (rs := [8]) (by kernel_rfl) (by simp) ?_
    refine AllReadyH.cons rfl (fun K hK => ?_) AllReadyH.nil
    go_simp
    refine (HL.out _).mono ?_
    rintro e y0 ⟨rfl, hbe⟩
    refine hK.out _ _ (hHeld.trans (hbe.mono hHeld.size)) (fun hHeld => ?_)
    clear hK K
    try simp only [Act.put, List.getElem_toArray, List.getElem_cons_zero, List.getElem_cons_succ, List.setIfInBounds_toArray, List.set_cons_zero, List.set_cons_succ]
    refine wpAnyH_take (i := 9) (v := ?v29) rfl (by kernel_rfl) (by kernel_rfl) (by kernel_rfl) (fun _ _ _ h => h) (Or.inl ⟨by rfl, ?h29⟩) hHeld ?r29
    case h29 => intro wq hS; go_simp; with_reducible rfl
    try simp only [Act.put, List.getElem_toArray, List.getElem_cons_zero, List.getElem_cons_succ, List.setIfInBounds_toArray, List.set_cons_zero, List.set_cons_succ]
    refine wpAnyH_done (by kernel_rfl) ?_ _
    have hbq := hHeld
    clear hHeld hbe HL
    have KX := Lib.hid (KX.out.after hbq)
    have KY := Lib.hid (KY.out.after hbq)
    have HB := Lib.hid (HB.out.trans (hbq.mono HB.out.size))
    clear hbq
    by_cases k0 : n0 = 0
    case neg =>
      have hz : z = n0 := by
        rw [← HZ.out]
        rw [HN0.out, if_pos k0]
      subst hz
      have kq : (z != 0) = true := by simp [k0]
      skip
      go_wp2_with fail
      go_ret
      exact ⟨rfl, HB.out⟩
    have kq0 : (n0 != 0) = false := by simp [k0]
    go_wp2_with fail
    clear kq0
    rw [rounds_succ]
    go_wp2_with fail
    obtain ⟨n1, hn1⟩ : ∃ n, cmpN ac bc = n := ⟨_, rfl⟩
    have hl := less_spec ac bc
    rw [hn1] at hl
    have HL := Lib.hid hl; have HN1 := Lib.hid hn1
    clear hl hn1
    refine wp_region_held_drew (S := fun w' => Below y0.heap.size y0 w') (by kernel_rfl) (Below.drew (Below.refl _ _)) (fun hHeld => ?_)
    refine wpAnyH_take (i := 0) (v := ?v30) rfl (by kernel_rfl) (by kernel_rfl) (by kernel_rfl) (fun _ _ _ h => h) (Or.inl ⟨by rfl, ?h30⟩) hHeld ?r30
    case h30 => intro wq hS; go_simp; with_reducible rfl
    try simp only [Act.put, List.getElem_toArray, List.getElem_cons_zero, List.getElem_cons_succ, List.setIfInBounds_toArray, List.set_cons_zero, List.set_cons_succ]
    refine wpAnyH_take (i := 1) (v := ?v31) rfl (by kernel_rfl) (by kernel_rfl) (by kernel_rfl) (fun _ _ _ h => h) (Or.inl ⟨by rfl, ?h31⟩) hHeld ?r31
    case h31 => intro wq hS; go_simp; with_reducible rfl
    try simp only [Act.put, List.getElem_toArray, List.getElem_cons_zero, List.getElem_cons_succ, List.setIfInBounds_toArray, List.set_cons_zero, List.set_cons_succ]
    refine wpAnyH_take (i := 2) (v := ?v32) rfl (by kernel_rfl) (by kernel_rfl) (by kernel_rfl) (fun _ _ _ h => h) (Or.inl ⟨by rfl, ?h32⟩) hHeld ?r32
    case h32 => intro wq hS; go_simp; with_reducible rfl
    try simp only [Act.put, List.getElem_toArray, List.getElem_cons_zero, List.getElem_cons_succ, List.setIfInBounds_toArray, List.set_cons_zero, List.set_cons_succ]
    refine wpAnyH_take (i := 3) (v := ?v33) rfl (by kernel_rfl) (by kernel_rfl) (by kernel_rfl) (fun _ _ _ h => h) (Or.inl ⟨by rfl, ?h33⟩) hHeld ?r33
    case h33 => intro wq hS; have c0 : wq.cell? ⟨e1, 0, none⟩ = some (.int .i64 ar) := (KX.out.after hS).cell 0; have c1 : wq.cell? ⟨e1, 1, none⟩ = some (.int .i64 ac) := (KX.out.after hS).cell 1; have c2 : wq.cell? ⟨e1, 2, none⟩ = some (.int .i64 ab) := (KX.out.after hS).cell 2; have c3 : wq.cell? ⟨e1, 3, none⟩ = some (.int .i64 ap) := (KX.out.after hS).cell 3; have d0 : wq.cell? ⟨e2, 0, none⟩ = some (.int .i64 br) := (KY.out.after hS).cell 0; have d1 : wq.cell? ⟨e2, 1, none⟩ = some (.int .i64 bc) := (KY.out.after hS).cell 1; have d2 : wq.cell? ⟨e2, 2, none⟩ = some (.int .i64 bb) := (KY.out.after hS).cell 2; have d3 : wq.cell? ⟨e2, 3, none⟩ = some (.int .i64 bp) := (KY.out.after hS).cell 3; go_simp; with_reducible rfl
    try simp only [Act.put, List.getElem_toArray, List.getElem_cons_zero, List.getElem_cons_succ, List.setIfInBounds_toArray, List.set_cons_zero, List.set_cons_succ]
    refine wpAnyH_take (i := 4) (v := ?v34) rfl (by kernel_rfl) (by kernel_rfl) (by kernel_rfl) (fun _ _ _ h => h) (Or.inl ⟨by rfl, ?h34⟩) hHeld ?r34
    case h34 => intro wq hS; go_simp; with_reducible rfl
    try simp only [Act.put, List.getElem_toArray, List.getElem_cons_zero, List.getElem_cons_succ, List.setIfInBounds_toArray, List.set_cons_zero, List.set_cons_succ]
    refine wpAnyH_take (i := 5) (v := ?v35) rfl (by kernel_rfl) (by kernel_rfl) (by kernel_rfl) (fun _ _ _ h => h) (Or.inl ⟨by rfl, ?h35⟩) hHeld ?r35
    case h35 => intro wq hS; go_simp; with_reducible rfl
    try simp only [Act.put, List.getElem_toArray, List.getElem_cons_zero, List.getElem_cons_succ, List.setIfInBounds_toArray, List.set_cons_zero, List.set_cons_succ]
    refine wpAnyH_take (i := 6) (v := ?v36) rfl (by kernel_rfl) (by kernel_rfl) (by kernel_rfl) (fun _ _ _ h => h) (Or.inl ⟨by rfl, ?h36⟩) hHeld ?r36
    case h36 => intro wq hS; go_simp; with_reducible rfl
    try simp only [Act.put, List.getElem_toArray, List.getElem_cons_zero, List.getElem_cons_succ, List.setIfInBounds_toArray, List.set_cons_zero, List.set_cons_succ]
    refine wpAnyH_take (i := 7) (v := ?v37) rfl (by kernel_rfl) (by kernel_rfl) (by kernel_rfl) (fun _ _ _ h => h) (Or.inl ⟨by rfl, ?h37⟩) hHeld ?r37
    case h37 => intro wq hS; have c0 : wq.cell? ⟨e1, 0, none⟩ = some (.int .i64 ar) := (KX.out.after hS).cell 0; have c1 : wq.cell? ⟨e1, 1, none⟩ = some (.int .i64 ac) := (KX.out.after hS).cell 1; have c2 : wq.cell? ⟨e1, 2, none⟩ = some (.int .i64 ab) := (KX.out.after hS).cell 2; have c3 : wq.cell? ⟨e1, 3, none⟩ = some (.int .i64 ap) := (KX.out.after hS).cell 3; have d0 : wq.cell? ⟨e2, 0, none⟩ = some (.int .i64 br) := (KY.out.after hS).cell 0; have d1 : wq.cell? ⟨e2, 1, none⟩ = some (.int .i64 bc) := (KY.out.after hS).cell 1; have d2 : wq.cell? ⟨e2, 2, none⟩ = some (.int .i64 bb) := (KY.out.after hS).cell 2; have d3 : wq.cell? ⟨e2, 3, none⟩ = some (.int .i64 bp) := (KY.out.after hS).cell 3; go_simp; with_reducible rfl
    try simp only [Act.put, List.getElem_toArray, List.getElem_cons_zero, List.getElem_cons_succ, List.setIfInBounds_toArray, List.set_cons_zero, List.set_cons_succ]
    refine wpAnyH_ready (rs := [8]) (by kernel_rfl) (by simp) ?_
    refine AllReadyH.cons rfl (fun K hK => ?_) AllReadyH.nil
    go_simp
    refine (HL.out _).mono ?_
    rintro e y1 ⟨rfl, hbe⟩
    refine hK.out _ _ (hHeld.trans (hbe.mono hHeld.size)) (fun hHeld => ?_)
    clear hK K
    try simp only [Act.put, List.getElem_toArray, List.getElem_cons_zero, List.getElem_cons_succ, List.setIfInBounds_toArray, List.set_cons_zero, List.set_cons_succ]
    refine wpAnyH_take (i := 9) (v := ?v38) rfl (by kernel_rfl) (by kernel_rfl) (by kernel_rfl) (fun _ _ _ h => h) (Or.inl ⟨by rfl, ?h38⟩) hHeld ?r38
    case h38 => intro wq hS; go_simp; with_reducible rfl
    try simp only [Act.put, List.getElem_toArray, List.getElem_cons_zero, List.getElem_cons_succ, List.setIfInBounds_toArray, List.set_cons_zero, List.set_cons_succ]
    refine wpAnyH_done (by kernel_rfl) ?_ _
    have hbq := hHeld
    clear hHeld hbe HL
    have KX := Lib.hid (KX.out.after hbq)
    have KY := Lib.hid (KY.out.after hbq)
    have HB := Lib.hid (HB.out.trans (hbq.mono HB.out.size))
    clear hbq
    by_cases k1 : n1 = 0
    case neg =>
      have hz : z = n1 := by
        rw [← HZ.out]
        rw [HN0.out, k0, if_neg (by simp)]
        rw [HN1.out, if_pos k1]
      subst hz
      have kq : (z != 0) = true := by simp [k1]
      clear k0
      go_wp2_with fail
      go_ret
      exact ⟨rfl, HB.out⟩
    have kq1 : (n1 != 0) = false := by simp [k1]
    go_wp2_with fail
    clear kq1
    rw [rounds_succ]
    go_wp2_with fail
    obtain ⟨n2, hn2⟩ : ∃ n, cmpN ab bb = n := ⟨_, rfl⟩
    have hl := less_spec ab bb
    rw [hn2] at hl
    have HL := Lib.hid hl; have HN2 := Lib.hid hn2
    clear hl hn2
    refine wp_region_held_drew (S := fun w' => Below y1.heap.size y1 w') (by kernel_rfl) (Below.drew (Below.refl _ _)) (fun hHeld => ?_)
    refine wpAnyH_take (i := 0) (v := ?v39) rfl (by kernel_rfl) (by kernel_rfl) (by kernel_rfl) (fun _ _ _ h => h) (Or.inl ⟨by rfl, ?h39⟩) hHeld ?r39
    case h39 => intro wq hS; go_simp; with_reducible rfl
    try simp only [Act.put, List.getElem_toArray, List.getElem_cons_zero, List.getElem_cons_succ, List.setIfInBounds_toArray, List.set_cons_zero, List.set_cons_succ]
    refine wpAnyH_take (i := 1) (v := ?v40) rfl (by kernel_rfl) (by kernel_rfl) (by kernel_rfl) (fun _ _ _ h => h) (Or.inl ⟨by rfl, ?h40⟩) hHeld ?r40
    case h40 => intro wq hS; go_simp; with_reducible rfl
    try simp only [Act.put, List.getElem_toArray, List.getElem_cons_zero, List.getElem_cons_succ, List.setIfInBounds_toArray, List.set_cons_zero, List.set_cons_succ]
    refine wpAnyH_take (i := 2) (v := ?v41) rfl (by kernel_rfl) (by kernel_rfl) (by kernel_rfl) (fun _ _ _ h => h) (Or.inl ⟨by rfl, ?h41⟩) hHeld ?r41
    case h41 => intro wq hS; go_simp; with_reducible rfl
    try simp only [Act.put, List.getElem_toArray, List.getElem_cons_zero, List.getElem_cons_succ, List.setIfInBounds_toArray, List.set_cons_zero, List.set_cons_succ]
    refine wpAnyH_take (i := 3) (v := ?v42) rfl (by kernel_rfl) (by kernel_rfl) (by kernel_rfl) (fun _ _ _ h => h) (Or.inl ⟨by rfl, ?h42⟩) hHeld ?r42
    case h42 => intro wq hS; have c0 : wq.cell? ⟨e1, 0, none⟩ = some (.int .i64 ar) := (KX.out.after hS).cell 0; have c1 : wq.cell? ⟨e1, 1, none⟩ = some (.int .i64 ac) := (KX.out.after hS).cell 1; have c2 : wq.cell? ⟨e1, 2, none⟩ = some (.int .i64 ab) := (KX.out.after hS).cell 2; have c3 : wq.cell? ⟨e1, 3, none⟩ = some (.int .i64 ap) := (KX.out.after hS).cell 3; have d0 : wq.cell? ⟨e2, 0, none⟩ = some (.int .i64 br) := (KY.out.after hS).cell 0; have d1 : wq.cell? ⟨e2, 1, none⟩ = some (.int .i64 bc) := (KY.out.after hS).cell 1; have d2 : wq.cell? ⟨e2, 2, none⟩ = some (.int .i64 bb) := (KY.out.after hS).cell 2; have d3 : wq.cell? ⟨e2, 3, none⟩ = some (.int .i64 bp) := (KY.out.after hS).cell 3; go_simp; with_reducible rfl
    try simp only [Act.put, List.getElem_toArray, List.getElem_cons_zero, List.getElem_cons_succ, List.setIfInBounds_toArray, List.set_cons_zero, List.set_cons_succ]
    refine wpAnyH_take (i := 4) (v := ?v43) rfl (by kernel_rfl) (by kernel_rfl) (by kernel_rfl) (fun _ _ _ h => h) (Or.inl ⟨by rfl, ?h43⟩) hHeld ?r43
    case h43 => intro wq hS; go_simp; with_reducible rfl
    try simp only [Act.put, List.getElem_toArray, List.getElem_cons_zero, List.getElem_cons_succ, List.setIfInBounds_toArray, List.set_cons_zero, List.set_cons_succ]
    refine wpAnyH_take (i := 5) (v := ?v44) rfl (by kernel_rfl) (by kernel_rfl) (by kernel_rfl) (fun _ _ _ h => h) (Or.inl ⟨by rfl, ?h44⟩) hHeld ?r44
    case h44 => intro wq hS; go_simp; with_reducible rfl
    try simp only [Act.put, List.getElem_toArray, List.getElem_cons_zero, List.getElem_cons_succ, List.setIfInBounds_toArray, List.set_cons_zero, List.set_cons_succ]
    refine wpAnyH_take (i := 6) (v := ?v45) rfl (by kernel_rfl) (by kernel_rfl) (by kernel_rfl) (fun _ _ _ h => h) (Or.inl ⟨by rfl, ?h45⟩) hHeld ?r45
    case h45 => intro wq hS; go_simp; with_reducible rfl
    try simp only [Act.put, List.getElem_toArray, List.getElem_cons_zero, List.getElem_cons_succ, List.setIfInBounds_toArray, List.set_cons_zero, List.set_cons_succ]
    refine wpAnyH_take (i := 7) (v := ?v46) rfl (by kernel_rfl) (by kernel_rfl) (by kernel_rfl) (fun _ _ _ h => h) (Or.inl ⟨by rfl, ?h46⟩) hHeld ?r46
    case h46 => intro wq hS; have c0 : wq.cell? ⟨e1, 0, none⟩ = some (.int .i64 ar) := (KX.out.after hS).cell 0; have c1 : wq.cell? ⟨e1, 1, none⟩ = some (.int .i64 ac) := (KX.out.after hS).cell 1; have c2 : wq.cell? ⟨e1, 2, none⟩ = some (.int .i64 ab) := (KX.out.after hS).cell 2; have c3 : wq.cell? ⟨e1, 3, none⟩ = some (.int .i64 ap) := (KX.out.after hS).cell 3; have d0 : wq.cell? ⟨e2, 0, none⟩ = some (.int .i64 br) := (KY.out.after hS).cell 0; have d1 : wq.cell? ⟨e2, 1, none⟩ = some (.int .i64 bc) := (KY.out.after hS).cell 1; have d2 : wq.cell? ⟨e2, 2, none⟩ = some (.int .i64 bb) := (KY.out.after hS).cell 2; have d3 : wq.cell? ⟨e2, 3, none⟩ = some (.int .i64 bp) := (KY.out.after hS).cell 3; go_simp; with_reducible rfl
    try simp only [Act.put, List.getElem_toArray, List.getElem_cons_zero, List.getElem_cons_succ, List.setIfInBounds_toArray, List.set_cons_zero, List.set_cons_succ]
    refine wpAnyH_ready (rs := [8]) (by kernel_rfl) (by simp) ?_
    refine AllReadyH.cons rfl (fun K hK => ?_) AllReadyH.nil
    go_simp
    refine (HL.out _).mono ?_
    rintro e y2 ⟨rfl, hbe⟩
    refine hK.out _ _ (hHeld.trans (hbe.mono hHeld.size)) (fun hHeld => ?_)
    clear hK K
    try simp only [Act.put, List.getElem_toArray, List.getElem_cons_zero, List.getElem_cons_succ, List.setIfInBounds_toArray, List.set_cons_zero, List.set_cons_succ]
    refine wpAnyH_take (i := 9) (v := ?v47) rfl (by kernel_rfl) (by kernel_rfl) (by kernel_rfl) (fun _ _ _ h => h) (Or.inl ⟨by rfl, ?h47⟩) hHeld ?r47
    case h47 => intro wq hS; go_simp; with_reducible rfl
    try simp only [Act.put, List.getElem_toArray, List.getElem_cons_zero, List.getElem_cons_succ, List.setIfInBounds_toArray, List.set_cons_zero, List.set_cons_succ]
    refine wpAnyH_done (by kernel_rfl) ?_ _
    have hbq := hHeld
    clear hHeld hbe HL
    have KX := Lib.hid (KX.out.after hbq)
    have KY := Lib.hid (KY.out.after hbq)
    have HB := Lib.hid (HB.out.trans (hbq.mono HB.out.size))
    clear hbq
    by_cases k2 : n2 = 0
    case neg =>
      have hz : z = n2 := by
        rw [← HZ.out]
        rw [HN0.out, k0, if_neg (by simp)]
        rw [HN1.out, k1, if_neg (by simp)]
        rw [HN2.out, if_pos k2]
      subst hz
      have kq : (z != 0) = true := by simp [k2]
      clear k0 k1
      go_wp2_with fail
      go_ret
      exact ⟨rfl, HB.out⟩
    have kq2 : (n2 != 0) = false := by simp [k2]
    go_wp2_with fail
    clear kq2
    rw [rounds_succ]
    go_wp2_with fail
    obtain ⟨n3, hn3⟩ : ∃ n, cmpN ap bp = n := ⟨_, rfl⟩
    have hl := less_spec ap bp
    rw [hn3] at hl
    have HL := Lib.hid hl; have HN3 := Lib.hid hn3
    clear hl hn3
    refine wp_region_held_drew (S := fun w' => Below y2.heap.size y2 w') (by kernel_rfl) (Below.drew (Below.refl _ _)) (fun hHeld => ?_)
    refine wpAnyH_take (i := 0) (v := ?v48) rfl (by kernel_rfl) (by kernel_rfl) (by kernel_rfl) (fun _ _ _ h => h) (Or.inl ⟨by rfl, ?h48⟩) hHeld ?r48
    case h48 => intro wq hS; go_simp; with_reducible rfl
    try simp only [Act.put, List.getElem_toArray, List.getElem_cons_zero, List.getElem_cons_succ, List.setIfInBounds_toArray, List.set_cons_zero, List.set_cons_succ]
    refine wpAnyH_take (i := 1) (v := ?v49) rfl (by kernel_rfl) (by kernel_rfl) (by kernel_rfl) (fun _ _ _ h => h) (Or.inl ⟨by rfl, ?h49⟩) hHeld ?r49
    case h49 => intro wq hS; go_simp; with_reducible rfl
    try simp only [Act.put, List.getElem_toArray, List.getElem_cons_zero, List.getElem_cons_succ, List.setIfInBounds_toArray, List.set_cons_zero, List.set_cons_succ]
    refine wpAnyH_take (i := 2) (v := ?v50) rfl (by kernel_rfl) (by kernel_rfl) (by kernel_rfl) (fun _ _ _ h => h) (Or.inl ⟨by rfl, ?h50⟩) hHeld ?r50
    case h50 => intro wq hS; go_simp; with_reducible rfl
    try simp only [Act.put, List.getElem_toArray, List.getElem_cons_zero, List.getElem_cons_succ, List.setIfInBounds_toArray, List.set_cons_zero, List.set_cons_succ]
    refine wpAnyH_take (i := 3) (v := ?v51) rfl (by kernel_rfl) (by kernel_rfl) (by kernel_rfl) (fun _ _ _ h => h) (Or.inl ⟨by rfl, ?h51⟩) hHeld ?r51
    case h51 => intro wq hS; have c0 : wq.cell? ⟨e1, 0, none⟩ = some (.int .i64 ar) := (KX.out.after hS).cell 0; have c1 : wq.cell? ⟨e1, 1, none⟩ = some (.int .i64 ac) := (KX.out.after hS).cell 1; have c2 : wq.cell? ⟨e1, 2, none⟩ = some (.int .i64 ab) := (KX.out.after hS).cell 2; have c3 : wq.cell? ⟨e1, 3, none⟩ = some (.int .i64 ap) := (KX.out.after hS).cell 3; have d0 : wq.cell? ⟨e2, 0, none⟩ = some (.int .i64 br) := (KY.out.after hS).cell 0; have d1 : wq.cell? ⟨e2, 1, none⟩ = some (.int .i64 bc) := (KY.out.after hS).cell 1; have d2 : wq.cell? ⟨e2, 2, none⟩ = some (.int .i64 bb) := (KY.out.after hS).cell 2; have d3 : wq.cell? ⟨e2, 3, none⟩ = some (.int .i64 bp) := (KY.out.after hS).cell 3; go_simp; with_reducible rfl
    try simp only [Act.put, List.getElem_toArray, List.getElem_cons_zero, List.getElem_cons_succ, List.setIfInBounds_toArray, List.set_cons_zero, List.set_cons_succ]
    refine wpAnyH_take (i := 4) (v := ?v52) rfl (by kernel_rfl) (by kernel_rfl) (by kernel_rfl) (fun _ _ _ h => h) (Or.inl ⟨by rfl, ?h52⟩) hHeld ?r52
    case h52 => intro wq hS; go_simp; with_reducible rfl
    try simp only [Act.put, List.getElem_toArray, List.getElem_cons_zero, List.getElem_cons_succ, List.setIfInBounds_toArray, List.set_cons_zero, List.set_cons_succ]
    refine wpAnyH_take (i := 5) (v := ?v53) rfl (by kernel_rfl) (by kernel_rfl) (by kernel_rfl) (fun _ _ _ h => h) (Or.inl ⟨by rfl, ?h53⟩) hHeld ?r53
    case h53 => intro wq hS; go_simp; with_reducible rfl
    try simp only [Act.put, List.getElem_toArray, List.getElem_cons_zero, List.getElem_cons_succ, List.setIfInBounds_toArray, List.set_cons_zero, List.set_cons_succ]
    refine wpAnyH_take (i := 6) (v := ?v54) rfl (by kernel_rfl) (by kernel_rfl) (by kernel_rfl) (fun _ _ _ h => h) (Or.inl ⟨by rfl, ?h54⟩) hHeld ?r54
    case h54 => intro wq hS; go_simp; with_reducible rfl
    try simp only [Act.put, List.getElem_toArray, List.getElem_cons_zero, List.getElem_cons_succ, List.setIfInBounds_toArray, List.set_cons_zero, List.set_cons_succ]
    refine wpAnyH_take (i := 7) (v := ?v55) rfl (by kernel_rfl) (by kernel_rfl) (by kernel_rfl) (fun _ _ _ h => h) (Or.inl ⟨by rfl, ?h55⟩) hHeld ?r55
    case h55 => intro wq hS; have c0 : wq.cell? ⟨e1, 0, none⟩ = some (.int .i64 ar) := (KX.out.after hS).cell 0; have c1 : wq.cell? ⟨e1, 1, none⟩ = some (.int .i64 ac) := (KX.out.after hS).cell 1; have c2 : wq.cell? ⟨e1, 2, none⟩ = some (.int .i64 ab) := (KX.out.after hS).cell 2; have c3 : wq.cell? ⟨e1, 3, none⟩ = some (.int .i64 ap) := (KX.out.after hS).cell 3; have d0 : wq.cell? ⟨e2, 0, none⟩ = some (.int .i64 br) := (KY.out.after hS).cell 0; have d1 : wq.cell? ⟨e2, 1, none⟩ = some (.int .i64 bc) := (KY.out.after hS).cell 1; have d2 : wq.cell? ⟨e2, 2, none⟩ = some (.int .i64 bb) := (KY.out.after hS).cell 2; have d3 : wq.cell? ⟨e2, 3, none⟩ = some (.int .i64 bp) := (KY.out.after hS).cell 3; go_simp; with_reducible rfl
    try simp only [Act.put, List.getElem_toArray, List.getElem_cons_zero, List.getElem_cons_succ, List.setIfInBounds_toArray, List.set_cons_zero, List.set_cons_succ]
    refine wpAnyH_ready (rs := [8]) (by kernel_rfl) (by simp) ?_
    refine AllReadyH.cons rfl (fun K hK => ?_) AllReadyH.nil
    go_simp
    refine (HL.out _).mono ?_
    rintro e y3 ⟨rfl, hbe⟩
    refine hK.out _ _ (hHeld.trans (hbe.mono hHeld.size)) (fun hHeld => ?_)
    clear hK K
    try simp only [Act.put, List.getElem_toArray, List.getElem_cons_zero, List.getElem_cons_succ, List.setIfInBounds_toArray, List.set_cons_zero, List.set_cons_succ]
    refine wpAnyH_take (i := 9) (v := ?v56) rfl (by kernel_rfl) (by kernel_rfl) (by kernel_rfl) (fun _ _ _ h => h) (Or.inl ⟨by rfl, ?h56⟩) hHeld ?r56
    case h56 => intro wq hS; go_simp; with_reducible rfl
    try simp only [Act.put, List.getElem_toArray, List.getElem_cons_zero, List.getElem_cons_succ, List.setIfInBounds_toArray, List.set_cons_zero, List.set_cons_succ]
    refine wpAnyH_done (by kernel_rfl) ?_ _
    have hbq := hHeld
    clear hHeld hbe HL
    have KX := Lib.hid (KX.out.after hbq)
    have KY := Lib.hid (KY.out.after hbq)
    have HB := Lib.hid (HB.out.trans (hbq.mono HB.out.size))
    clear hbq
    by_cases k3 : n3 = 0
    case neg =>
      have hz : z = n3 := by
        rw [← HZ.out]
        rw [HN0.out, k0, if_neg (by simp)]
        rw [HN1.out, k1, if_neg (by simp)]
        rw [HN2.out, k2, if_neg (by simp)]
        rw [HN3.out]
      subst hz
      have kq : (z != 0) = true := by simp [k3]
      clear k0 k1 k2
      go_wp2_with fail
      go_ret
      exact ⟨rfl, HB.out⟩
    have kq3 : (n3 != 0) = false := by simp [k3]
    go_wp2_with fail
    clear kq3
    have hz : z = 0 := by
      rw [← HZ.out]
      rw [HN0.out, k0, if_neg (by simp)]
      rw [HN1.out, k1, if_neg (by simp)]
      rw [HN2.out, k2, if_neg (by simp)]
      rw [HN3.out, k3]
    subst hz
    rw [rounds_succ]
    go_wp2_with fail
    go_ret
    exact ⟨rfl, HB.out⟩

set_option linter.unusedVariables false in
set_option linter.unusedSimpArgs false in
set_option maxRecDepth 20000 in
set_option maxHeartbeats 4000000 in
theorem through_spec (v : Vc) (cost bridge port : Int) (w : World) : Calls Try.prog 22 #[v.val, .int .i64 cost, .int .i64 bridge, .int .i64 port] w fun e w' => e = .returned (through v cost bridge port).val ∧ Below w.heap.size w w' := by
  have h1 := vectorOk_spec v
  have h2 := in_any5 cost 1 200000000
  have h3 := vectorOk_spec ⟨v.root, v.cost + cost, bridge, port⟩
  obtain ⟨z, hz⟩ : ∃ z, through v cost bridge port = z := ⟨_, rfl⟩
  rw [hz]
  obtain ⟨d1, hd1⟩ : ∃ d, decide (vcOk v) = d := ⟨_, rfl⟩
  rw [hd1] at h1
  obtain ⟨d2, hd2⟩ : ∃ d, decide (1 ≤ cost ∧ cost ≤ 200000000) = d := ⟨_, rfl⟩
  rw [hd2] at h2
  obtain ⟨d3, hd3⟩ : ∃ d, decide (vcOk ⟨v.root, v.cost + cost, bridge, port⟩) = d := ⟨_, rfl⟩
  rw [hd3] at h3
  have hno : ¬ (d1 = true ∧ d2 = true ∧ d3 = true) → z = Vc.zero := fun k => by rw [← hz]; exact if_neg (fun h => k ⟨hd1 ▸ decide_eq_true h.1, hd2 ▸ decide_eq_true h.2.1, hd3 ▸ decide_eq_true h.2.2⟩)
  have hyes : d1 = true → d2 = true → d3 = true → z = ⟨v.root, v.cost + cost, bridge, port⟩ := fun k1 k2 k3 => by rw [← hz]; exact if_pos ⟨of_decide_eq_true (hd1.trans k1), of_decide_eq_true (hd2.trans k2), of_decide_eq_true (hd3.trans k3)⟩
  have hwr : d1 = true → d2 = true → wrap64 (v.cost + cost) = v.cost + cost := fun k1 k2 => by
    have a := of_decide_eq_true (hd1.trans k1)
    have b := of_decide_eq_true (hd2.trans k2)
    exact IntWalk.wrap64_in _ (by have := a.2.2.1; omega)
  obtain ⟨r, c, b, p⟩ := v
  unfold Vc.val at h1 h3 ⊢
  simp only at h1 h3 hno hyes hwr
  unfold Vc.zero at hno
  have H1 := Lib.hid h1; have H2 := Lib.hid h2; have H3 := Lib.hid h3; have HNO := Lib.hid hno; have HYES := Lib.hid hyes; have HWR := Lib.hid hwr
  have hB : Below w.heap.size w ((w.alloc (.cells #[.int .i64 r, .int .i64 c, .int .i64 b, .int .i64 p] 25)).alloc (.cells #[.int .i64 0, .int .i64 0, .int .i64 0, .int .i64 0] 25)) := (((Below.refl _ _).alloc (by simp) _).alloc (by simp) _)
  have hKV : Blk ((w.alloc (.cells #[.int .i64 r, .int .i64 c, .int .i64 b, .int .i64 p] 25)).alloc (.cells #[.int .i64 0, .int .i64 0, .int .i64 0, .int .i64 0] 25)) (w.heap.size) #[.int .i64 r, .int .i64 c, .int .i64 b, .int .i64 p] 25 := ((blk_new _ _ (by simp)).alloc _)
  have hKZ : Blk ((w.alloc (.cells #[.int .i64 r, .int .i64 c, .int .i64 b, .int .i64 p] 25)).alloc (.cells #[.int .i64 0, .int .i64 0, .int .i64 0, .int .i64 0] 25)) (w.heap.size + 1) #[.int .i64 0, .int .i64 0, .int .i64 0, .int .i64 0] 25 := (blk_new _ _ (by simp))
  have HB := Lib.hid hB; have KV := Lib.hid hKV; have KZ := Lib.hid hKZ
  clear hB hKV hKZ h1 h2 h3 hno hyes hwr hd1 hd2 hd3 hz
  go_enter Try.func22, Try.ntmps22
  go_wp2_with fail
  refine (H1.out _).mono ?_
  rintro e x1 ⟨rfl, hbq⟩
  have KV := Lib.hid (KV.out.after hbq)
  have KZ := Lib.hid (KZ.out.after hbq)
  have HB := Lib.hid (HB.out.trans (hbq.mono HB.out.size))
  clear hbq
  cases d1
  · obtain rfl := HNO.out (by simp)
    have kv0 : x1.cell? ⟨w.heap.size, 0, none⟩ = some (.int .i64 r) := KV.out.cell 0
    have kv1 : x1.cell? ⟨w.heap.size, 1, none⟩ = some (.int .i64 c) := KV.out.cell 1
    have kv2 : x1.cell? ⟨w.heap.size, 2, none⟩ = some (.int .i64 b) := KV.out.cell 2
    have kv3 : x1.cell? ⟨w.heap.size, 3, none⟩ = some (.int .i64 p) := KV.out.cell 3
    have kvl : w.heap.size < x1.heap.size := KV.out.lt
    go_wp2_with (with_reducible refine store_here (ty := 25) rfl ?_)
    refine halt_go ?_
    clear kv0 kv1 kv2 kv3 kvl
    refine wpList_store_row rfl 25 _ _ rfl (w.heap.size + 1) #[.int .i64 0, .int .i64 0, .int .i64 0, .int .i64 0] rfl rfl 25 #[.int .i64 0, .int .i64 0, .int .i64 0, .int .i64 0] KZ.out sizeVc rfl (by simp [Value.oneCell']) ?_
    have KV := Lib.hid (KV.out.rowOther (g := w.heap.size + 1) (by omega) #[.int .i64 0, .int .i64 0, .int .i64 0, .int .i64 0]); have KZ := Lib.hid (Blk.row (cs := #[.int .i64 0, .int .i64 0, .int .i64 0, .int .i64 0]) KZ.out); have HB := Lib.hid (Below.row HB.out (g := w.heap.size + 1) (by omega) #[.int .i64 0, .int .i64 0, .int .i64 0, .int .i64 0])
    generalize x1.setRow (w.heap.size + 1) #[.int .i64 0, .int .i64 0, .int .i64 0, .int .i64 0] = x2 at HB KV KZ ⊢
    have kz0 : x2.cell? ⟨w.heap.size + 1, 0, none⟩ = some (.int .i64 0) := KZ.out.cell 0
    have kz1 : x2.cell? ⟨w.heap.size + 1, 1, none⟩ = some (.int .i64 0) := KZ.out.cell 1
    have kz2 : x2.cell? ⟨w.heap.size + 1, 2, none⟩ = some (.int .i64 0) := KZ.out.cell 2
    have kz3 : x2.cell? ⟨w.heap.size + 1, 3, none⟩ = some (.int .i64 0) := KZ.out.cell 3
    have kzl : w.heap.size + 1 < x2.heap.size := KZ.out.lt
    go_wp2_with fail
    exact bodyPost_ret (v := .agg #[.int .i64 0, .int .i64 0, .int .i64 0, .int .i64 0]) (by simp [results, Try.results22, go_sem, kz0, kz1, kz2, kz3]) rfl ⟨rfl, HB.out⟩
  have kv0 : x1.cell? ⟨w.heap.size, 0, none⟩ = some (.int .i64 r) := KV.out.cell 0
  have kv1 : x1.cell? ⟨w.heap.size, 1, none⟩ = some (.int .i64 c) := KV.out.cell 1
  have kv2 : x1.cell? ⟨w.heap.size, 2, none⟩ = some (.int .i64 b) := KV.out.cell 2
  have kv3 : x1.cell? ⟨w.heap.size, 3, none⟩ = some (.int .i64 p) := KV.out.cell 3
  have kvl : w.heap.size < x1.heap.size := KV.out.lt
  go_wp2_with fail
  refine (H2.out _).mono ?_
  rintro e ww ⟨rfl, rfl⟩
  cases d2
  · obtain rfl := HNO.out (by simp)
    clear kv0 kv1 kv2 kv3 kvl
    have kv0 : x1.cell? ⟨w.heap.size, 0, none⟩ = some (.int .i64 r) := KV.out.cell 0
    have kv1 : x1.cell? ⟨w.heap.size, 1, none⟩ = some (.int .i64 c) := KV.out.cell 1
    have kv2 : x1.cell? ⟨w.heap.size, 2, none⟩ = some (.int .i64 b) := KV.out.cell 2
    have kv3 : x1.cell? ⟨w.heap.size, 3, none⟩ = some (.int .i64 p) := KV.out.cell 3
    have kvl : w.heap.size < x1.heap.size := KV.out.lt
    go_wp2_with (with_reducible refine store_here (ty := 25) rfl ?_)
    refine halt_go ?_
    clear kv0 kv1 kv2 kv3 kvl
    refine wpList_store_row rfl 25 _ _ rfl (w.heap.size + 1) #[.int .i64 0, .int .i64 0, .int .i64 0, .int .i64 0] rfl rfl 25 #[.int .i64 0, .int .i64 0, .int .i64 0, .int .i64 0] KZ.out sizeVc rfl (by simp [Value.oneCell']) ?_
    have KV := Lib.hid (KV.out.rowOther (g := w.heap.size + 1) (by omega) #[.int .i64 0, .int .i64 0, .int .i64 0, .int .i64 0]); have KZ := Lib.hid (Blk.row (cs := #[.int .i64 0, .int .i64 0, .int .i64 0, .int .i64 0]) KZ.out); have HB := Lib.hid (Below.row HB.out (g := w.heap.size + 1) (by omega) #[.int .i64 0, .int .i64 0, .int .i64 0, .int .i64 0])
    generalize x1.setRow (w.heap.size + 1) #[.int .i64 0, .int .i64 0, .int .i64 0, .int .i64 0] = x2 at HB KV KZ ⊢
    have kz0 : x2.cell? ⟨w.heap.size + 1, 0, none⟩ = some (.int .i64 0) := KZ.out.cell 0
    have kz1 : x2.cell? ⟨w.heap.size + 1, 1, none⟩ = some (.int .i64 0) := KZ.out.cell 1
    have kz2 : x2.cell? ⟨w.heap.size + 1, 2, none⟩ = some (.int .i64 0) := KZ.out.cell 2
    have kz3 : x2.cell? ⟨w.heap.size + 1, 3, none⟩ = some (.int .i64 0) := KZ.out.cell 3
    have kzl : w.heap.size + 1 < x2.heap.size := KZ.out.lt
    go_wp2_with fail
    exact bodyPost_ret (v := .agg #[.int .i64 0, .int .i64 0, .int .i64 0, .int .i64 0]) (by simp [results, Try.results22, go_sem, kz0, kz1, kz2, kz3]) rfl ⟨rfl, HB.out⟩
  have hw := HWR.out (by simp) (by simp)
  clear kv0 kv1 kv2 kv3 kvl
  have pkv0 : x1.cell? ⟨w.heap.size, 0, none⟩ = some (.int .i64 r) := KV.out.cell 0
  have pkv1 : x1.cell? ⟨w.heap.size, 1, none⟩ = some (.int .i64 c) := KV.out.cell 1
  have pkv2 : x1.cell? ⟨w.heap.size, 2, none⟩ = some (.int .i64 b) := KV.out.cell 2
  have pkv3 : x1.cell? ⟨w.heap.size, 3, none⟩ = some (.int .i64 p) := KV.out.cell 3
  have hbq : Below x1.heap.size x1 (x1.alloc (.cells #[.int .i64 r, .int .i64 (c + cost), .int .i64 bridge, .int .i64 port] 25)) := (Below.refl _ _).alloc (Nat.le_refl _) _
  have hnq : Blk (x1.alloc (.cells #[.int .i64 r, .int .i64 (c + cost), .int .i64 bridge, .int .i64 port] 25)) x1.heap.size #[.int .i64 r, .int .i64 (c + cost), .int .i64 bridge, .int .i64 port] 25 := blk_new _ _ rfl
  have hleKN : w.heap.size ≤ x1.heap.size := HB.out.size
  have hltKVKN := KV.out.lt
  have hltKZKN := KZ.out.lt
  have KV := Lib.hid (KV.out.after hbq)
  have KZ := Lib.hid (KZ.out.after hbq)
  have HB := Lib.hid (HB.out.trans (hbq.mono HB.out.size))
  have KN := Lib.hid hnq
  have HLTKN := Lib.hid (And.intro hleKN (And.intro hltKVKN (And.intro hltKZKN trivial)))
  clear hbq hnq hleKN hltKVKN hltKZKN
  go_wp2_with fail
  clear pkv0 pkv1 pkv2 pkv3
  generalize x1.alloc (.cells #[.int .i64 r, .int .i64 (c + cost), .int .i64 bridge, .int .i64 port] 25) = x2 at KV KZ KN HB ⊢
  generalize x1.heap.size = e2 at KN HLTKN ⊢
  clear hw
  refine (H3.out _).mono ?_
  rintro e x3 ⟨rfl, hbq⟩
  have KV := Lib.hid (KV.out.after hbq)
  have KZ := Lib.hid (KZ.out.after hbq)
  have KN := Lib.hid (KN.out.after hbq)
  have HB := Lib.hid (HB.out.trans (hbq.mono HB.out.size))
  clear hbq
  cases d3
  · obtain rfl := HNO.out (by simp)
    have kn0 : x3.cell? ⟨e2, 0, none⟩ = some (.int .i64 r) := KN.out.cell 0
    have kn1 : x3.cell? ⟨e2, 1, none⟩ = some (.int .i64 (c + cost)) := KN.out.cell 1
    have kn2 : x3.cell? ⟨e2, 2, none⟩ = some (.int .i64 bridge) := KN.out.cell 2
    have kn3 : x3.cell? ⟨e2, 3, none⟩ = some (.int .i64 port) := KN.out.cell 3
    have knl : e2 < x3.heap.size := KN.out.lt
    go_wp2_with (with_reducible refine store_here (ty := 25) rfl ?_)
    refine halt_go ?_
    clear kn0 kn1 kn2 kn3 knl
    refine wpList_store_row rfl 25 _ _ rfl (w.heap.size + 1) #[.int .i64 0, .int .i64 0, .int .i64 0, .int .i64 0] rfl rfl 25 #[.int .i64 0, .int .i64 0, .int .i64 0, .int .i64 0] KZ.out sizeVc rfl (by simp [Value.oneCell']) ?_
    have KV := Lib.hid (KV.out.rowOther (g := w.heap.size + 1) (by have := HLTKN.out; omega) #[.int .i64 0, .int .i64 0, .int .i64 0, .int .i64 0]); have KZ := Lib.hid (Blk.row (cs := #[.int .i64 0, .int .i64 0, .int .i64 0, .int .i64 0]) KZ.out); have KN := Lib.hid (KN.out.rowOther (g := w.heap.size + 1) (by have := HLTKN.out; omega) #[.int .i64 0, .int .i64 0, .int .i64 0, .int .i64 0]); have HB := Lib.hid (Below.row HB.out (g := w.heap.size + 1) (by have := HLTKN.out; omega) #[.int .i64 0, .int .i64 0, .int .i64 0, .int .i64 0])
    generalize x3.setRow (w.heap.size + 1) #[.int .i64 0, .int .i64 0, .int .i64 0, .int .i64 0] = x4 at HB KV KZ KN ⊢
    have kz0 : x4.cell? ⟨w.heap.size + 1, 0, none⟩ = some (.int .i64 0) := KZ.out.cell 0
    have kz1 : x4.cell? ⟨w.heap.size + 1, 1, none⟩ = some (.int .i64 0) := KZ.out.cell 1
    have kz2 : x4.cell? ⟨w.heap.size + 1, 2, none⟩ = some (.int .i64 0) := KZ.out.cell 2
    have kz3 : x4.cell? ⟨w.heap.size + 1, 3, none⟩ = some (.int .i64 0) := KZ.out.cell 3
    have kzl : w.heap.size + 1 < x4.heap.size := KZ.out.lt
    go_wp2_with fail
    exact bodyPost_ret (v := .agg #[.int .i64 0, .int .i64 0, .int .i64 0, .int .i64 0]) (by simp [results, Try.results22, go_sem, kz0, kz1, kz2, kz3]) rfl ⟨rfl, HB.out⟩
  obtain rfl := HYES.out (by simp) (by simp) (by simp)
  have kn0 : x3.cell? ⟨e2, 0, none⟩ = some (.int .i64 r) := KN.out.cell 0
  have kn1 : x3.cell? ⟨e2, 1, none⟩ = some (.int .i64 (c + cost)) := KN.out.cell 1
  have kn2 : x3.cell? ⟨e2, 2, none⟩ = some (.int .i64 bridge) := KN.out.cell 2
  have kn3 : x3.cell? ⟨e2, 3, none⟩ = some (.int .i64 port) := KN.out.cell 3
  have knl : e2 < x3.heap.size := KN.out.lt
  go_wp2_with (with_reducible refine store_here (ty := 25) rfl ?_)
  refine halt_go ?_
  clear kn0 kn1 kn2 kn3 knl
  refine wpList_store_row rfl 25 _ _ rfl (w.heap.size + 1) #[.int .i64 r, .int .i64 (c + cost), .int .i64 bridge, .int .i64 port] rfl rfl 25 #[.int .i64 0, .int .i64 0, .int .i64 0, .int .i64 0] KZ.out sizeVc rfl (by simp [Value.oneCell']) ?_
  have KV := Lib.hid (KV.out.rowOther (g := w.heap.size + 1) (by have := HLTKN.out; omega) #[.int .i64 r, .int .i64 (c + cost), .int .i64 bridge, .int .i64 port]); have KZ := Lib.hid (Blk.row (cs := #[.int .i64 r, .int .i64 (c + cost), .int .i64 bridge, .int .i64 port]) KZ.out); have KN := Lib.hid (KN.out.rowOther (g := w.heap.size + 1) (by have := HLTKN.out; omega) #[.int .i64 r, .int .i64 (c + cost), .int .i64 bridge, .int .i64 port]); have HB := Lib.hid (Below.row HB.out (g := w.heap.size + 1) (by have := HLTKN.out; omega) #[.int .i64 r, .int .i64 (c + cost), .int .i64 bridge, .int .i64 port])
  generalize x3.setRow (w.heap.size + 1) #[.int .i64 r, .int .i64 (c + cost), .int .i64 bridge, .int .i64 port] = x4 at HB KV KZ KN ⊢
  have kz0 : x4.cell? ⟨w.heap.size + 1, 0, none⟩ = some (.int .i64 r) := KZ.out.cell 0
  have kz1 : x4.cell? ⟨w.heap.size + 1, 1, none⟩ = some (.int .i64 (c + cost)) := KZ.out.cell 1
  have kz2 : x4.cell? ⟨w.heap.size + 1, 2, none⟩ = some (.int .i64 bridge) := KZ.out.cell 2
  have kz3 : x4.cell? ⟨w.heap.size + 1, 3, none⟩ = some (.int .i64 port) := KZ.out.cell 3
  have kzl : w.heap.size + 1 < x4.heap.size := KZ.out.lt
  go_wp2_with fail
  exact bodyPost_ret (v := .agg #[.int .i64 r, .int .i64 (c + cost), .int .i64 bridge, .int .i64 port]) (by simp [results, Try.results22, go_sem, kz0, kz1, kz2, kz3]) rfl ⟨rfl, HB.out⟩
end Go.Proofs.Ytbcpfciegamaeaa
