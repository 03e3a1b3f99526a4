/- IgmpOk and IgmpTo of the program. -/
import Derived.Test.YtgnckbcpnailbabIg
import Derived.Test.YtgnckbcpnailbabDest
import Derived.Test.YtgnckbcpnailbabPutIgS
import Derived.Deep.RegionHeld3
namespace Go.Proofs.Ytgnckbcpnailbab
open Go.RowKit

theorem ip_ok_impl (n : Int) (w : World) : Calls Try.prog 24 #[.int .i64 n] w fun e w' => e = .returned (.bool (decide (0 ≤ n ∧ n ≤ 4294967295))) ∧ w = w' := by
  by_cases h0 : 0 ≤ n
  · by_cases h1 : n < 4294967296
    · rw [decide_eq_true (show 0 ≤ n ∧ n ≤ 4294967295 by omega)]
      go_enter Try.func24, Try.ntmps24
      go_wp2_with fail
      go_ret
      exact ⟨rfl, rfl⟩
    · rw [decide_eq_false (show ¬ (0 ≤ n ∧ n ≤ 4294967295) by omega)]
      go_enter Try.func24, Try.ntmps24
      go_wp2_with fail
      go_ret
      exact ⟨rfl, rfl⟩
  · rw [decide_eq_false (show ¬ (0 ≤ n ∧ n ≤ 4294967295) by omega)]
    go_enter Try.func24, Try.ntmps24
    go_wp2_with fail
    go_ret
    exact ⟨rfl, rfl⟩

def igTimeOk (g : Ig) : Prop := if g.kind = 17 then 0 ≤ g.time ∧ g.time ≤ 255 else g.time = 0
instance (g : Ig) : Decidable (igTimeOk g) := by unfold igTimeOk; infer_instance
def igGroupOk (g : Ig) : Prop := 0 ≤ grpOf g.group ∨ g.kind = 17 ∧ g.group = 0
instance (g : Ig) : Decidable (igGroupOk g) := by unfold igGroupOk; infer_instance
theorem igOk_parts (g : Ig) : igOk g ↔ igKind g.kind ∧ igTimeOk g ∧ igGroupOk g ∧ (0 ≤ g.src ∧ g.src ≤ 4294967295) := by
  obtain ⟨kind, time, group, src⟩ := g
  simp only [igKind, igTimeOk, igGroupOk]
  by_cases k17 : kind = 17
  · subst k17
    rw [igOk_17]
    simp
    omega
  · by_cases hk : kind = 18 ∨ kind = 22 ∨ kind = 23
    · rw [igOk_k _ _ _ _ hk]
      simp only [k17, if_false, false_and, or_false, false_or, hk, true_and]
      omega
    · have := igOk_no kind time group src k17 hk
      simp only [this, k17, hk, or_self, false_and]

theorem igTime_impl (g : Ig) (w : World) : Calls Try.prog 22 #[g.val] w fun e w' => e = .returned (.bool (decide (igTimeOk g))) ∧ Below w.heap.size w w' := by
  have hb : Below w.heap.size w (w.alloc (.cells #[.int .i64 g.kind, .int .i64 g.time, .int .i64 g.group, .int .i64 g.src] 23)) := (Below.refl _ _).alloc (Nat.le_refl _) _
  obtain ⟨kind, time, group, src⟩ := g
  unfold igTimeOk Ig.val
  simp only at hb ⊢
  by_cases k17 : kind = 17
  · subst k17
    simp only [if_true]
    by_cases h0 : 0 ≤ time
    · go_enter Try.func22, Try.ntmps22
      go_wp2_with fail
      go_ret
      exact ⟨by simp [h0], hb⟩
    · have h0' : ¬ (0 ≤ time) := h0
      go_enter Try.func22, Try.ntmps22
      go_wp2_with fail
      go_ret
      exact ⟨by rw [decide_eq_false (by simp [h0'])]; rfl, hb⟩
  · have hq : (kind != 17) = true := by simp [k17]
    rw [show (decide (if kind = 17 then 0 ≤ time ∧ time ≤ 255 else time = 0)) = (time == 0) by simp [k17]; rfl]
    go_enter Try.func22, Try.ntmps22
    go_wp2_with fail
    go_ret
    exact ⟨rfl, hb⟩

theorem igGroup_impl (g : Ig) (w : World) : Calls Try.prog 23 #[g.val] w fun e w' => e = .returned (.bool (decide (igGroupOk g))) ∧ Below w.heap.size w w' := by
  have hb : Below w.heap.size w (w.alloc (.cells #[.int .i64 g.kind, .int .i64 g.time, .int .i64 g.group, .int .i64 g.src] 23)) := (Below.refl _ _).alloc (Nat.le_refl _) _
  obtain ⟨kind, time, group, src⟩ := g
  unfold Ig.val
  simp only at hb ⊢
  have hG := groupOf_impl group
  obtain ⟨go, hgo⟩ : ∃ go, grpOf group = go := ⟨_, rfl⟩
  have hd : igGroupOk ⟨kind, time, group, src⟩ ↔ (0 ≤ go ∨ kind = 17 ∧ group = 0) := by unfold igGroupOk; rw [hgo]
  rw [hgo] at hG
  have HG := Lib.hid hG
  clear hG hgo
  by_cases h0 : 0 ≤ go
  · rw [decide_eq_true (hd.2 (Or.inl h0))]
    clear hd
    go_enter Try.func23, Try.ntmps23
    go_wp2_with fail
    refine (HG.out _).mono ?_
    rintro e w1 ⟨rfl, rfl⟩
    go_wp2_with fail
    go_ret
    exact ⟨rfl, hb⟩
  · have h0' : ¬ (0 ≤ go) := h0
    have HZ := Lib.hid (decide_eq_false h0)
    by_cases k17 : kind = 17
    · rw [show decide (igGroupOk ⟨kind, time, group, src⟩) = (group == 0) by rw [Bool.eq_iff_iff, decide_eq_true_iff, hd]; simp [h0', k17]]
      clear hd
      subst k17
      go_enter Try.func23, Try.ntmps23
      go_wp2_with fail
      refine (HG.out _).mono ?_
      rintro e w1 ⟨rfl, rfl⟩
      go_wp2_with fail
      go_ret
      exact ⟨by simp only [HZ.out]; rfl, hb⟩
    · have hq : (kind == 17) = false := by simp [k17]
      rw [decide_eq_false (fun h => by have := hd.1 h; omega)]
      clear hd
      go_enter Try.func23, Try.ntmps23
      go_wp2_with fail
      refine (HG.out _).mono ?_
      rintro e w1 ⟨rfl, rfl⟩
      go_wp2_with fail
      go_ret
      exact ⟨by simp only [HZ.out]; rfl, hb⟩

theorem cell0 {w w1 : World} {c0 c1 c2 c3 : Value} {t : TypeId} (hb : Below (w.alloc (.cells #[c0, c1, c2, c3] t)).heap.size (w.alloc (.cells #[c0, c1, c2, c3] t)) w1) :
    w1.cell? ⟨w.heap.size, 0, none⟩ = some c0 ∧ w1.cell? ⟨w.heap.size, 1, none⟩ = some c1 ∧ w1.cell? ⟨w.heap.size, 2, none⟩ = some c2 ∧ w1.cell? ⟨w.heap.size, 3, none⟩ = some c3 := cells4 hb

theorem igmpOk_impl (g : Ig) (w : World) : Calls Try.prog 17 #[g.val] w fun e w' => e = .returned (.bool (decide (igOk g))) ∧ Below w.heap.size w w' := by
  have hT := igTime_impl g
  have hG := igGroup_impl g
  have hS := ip_ok_impl g.src
  have hK := fun (w : World) (b : Nat) (h : w.ownsMap Try.prog 3 fnElem b 4 destD) => dest_known h g.kind
  have hd : decide (igOk g) = (decide (igKind g.kind) && (decide (igTimeOk g) && (decide (igGroupOk g) && decide (0 ≤ g.src ∧ g.src ≤ 4294967295)))) := by
    rw [Bool.eq_iff_iff]
    simp only [decide_eq_true_iff, Bool.and_eq_true]
    exact igOk_parts g
  rw [hd]
  clear hd
  generalize decide (igKind g.kind) = bk at *
  generalize decide (igTimeOk g) = bt at *
  generalize decide (igGroupOk g) = bg at *
  generalize decide (0 ≤ g.src ∧ g.src ≤ 4294967295) = bs at *
  obtain ⟨kind, time, group, src⟩ := g
  unfold Ig.val at *
  simp only at hT hG hS hK ⊢
  have HT := Lib.hid hT; have HG := Lib.hid hG; have HS := Lib.hid hS; have HK := Lib.hid hK
  clear hT hG hS hK
  go_enter Try.func17, Try.ntmps17
  go_wp2_with fail
  have hc := cells4 (Below.refl (w.alloc (.cells #[.int .i64 kind, .int .i64 time, .int .i64 group, .int .i64 src] 23)).heap.size _)
  have hsz1 : w.heap.size < (w.alloc (.cells #[.int .i64 kind, .int .i64 time, .int .i64 group, .int .i64 src] 23)).heap.size := by simp
  have hbw1 : Below w.heap.size w (w.alloc (.cells #[.int .i64 kind, .int .i64 time, .int .i64 group, .int .i64 src] 23)) := (Below.refl _ _).alloc (Nat.le_refl _) _
  generalize w.alloc (.cells #[.int .i64 kind, .int .i64 time, .int .i64 group, .int .i64 src] 23) = w1 at hc hsz1 hbw1 ⊢
  have HC := Lib.hid hc; have HBW := Lib.hid hbw1
  have hB := Below.refl w1.heap.size w1
  obtain ⟨k0, k1, k2, k3⟩ := hc
  clear hbw1
  go_region_held3 (fun w' => Below w1.heap.size w1 w' ∧ w'.cell? ⟨w.heap.size, 0, none⟩ = some (.int .i64 kind) ∧ w'.cell? ⟨w.heap.size, 1, none⟩ = some (.int .i64 time) ∧ w'.cell? ⟨w.heap.size, 2, none⟩ = some (.int .i64 group) ∧ w'.cell? ⟨w.heap.size, 3, none⟩ = some (.int .i64 src)) (first | exact ⟨by assumption, by assumption, by assumption, by assumption, by assumption⟩ | exact ⟨Below.drew (by assumption), by assumption, by assumption, by assumption, by assumption⟩) (first | (go_at_call 21; refine (dest_spec _).mono ?_; rintro e w5 ⟨rfl, hb5, ho5⟩; obtain ⟨hB5, m0, m1, m2, m3⟩ := held4 (by first | assumption | exact Below.drew (by assumption)) hb5 hsz1 HC.out; obtain ⟨vk, hvk⟩ := HK.out _ w1.heap.size ho5))
  clear k0 k1 k2 k3 hb5 ho5 hvk hB
  have HCE := Lib.hid (fun w' (h : Below w5.heap.size w5 w') => held4 hB5 h hsz1 HC.out)
  have HB5 := Lib.hid hB5
  clear hB5
  cases bk
  · go_wp2_with fail
    go_ret
    exact ⟨rfl, HBW.out.trans (HB5.out.mono HBW.out.size)⟩
  go_wp2_with fail
  refine (HT.out _).mono ?_
  rintro e w6 ⟨rfl, hb6⟩
  obtain ⟨hB6, n0, n1, n2, n3⟩ := HCE.out w6 hb6
  clear m0 m1 m2 m3
  cases bt
  · clear hb6
    go_wp2_with fail
    go_ret
    exact ⟨rfl, HBW.out.trans (hB6.mono HBW.out.size)⟩
  have HB6 := Lib.hid hB6; have H6 := Lib.hid hb6
  clear hB6 hb6
  go_wp2_with fail
  refine (HG.out _).mono ?_
  rintro e w7 ⟨rfl, hb7⟩
  obtain ⟨hB7, m0, m1, m2, m3⟩ := HCE.out w7 (H6.out.trans (hb7.mono H6.out.size))
  clear n0 n1 n2 n3 hb7
  have HB7 := Lib.hid hB7
  clear hB7
  cases bg
  · go_wp2_with fail
    go_ret
    exact ⟨rfl, HBW.out.trans (HB7.out.mono HBW.out.size)⟩
  go_wp2_with fail
  refine (HS.out _).mono ?_
  rintro e w8 ⟨rfl, rfl⟩
  go_wp2_with fail
  go_ret
  exact ⟨by cases bs <;> rfl, HBW.out.trans (HB7.out.mono HBW.out.size)⟩

theorem asked_impl (group : Int) (w : World) : Calls Try.prog 27 #[.int .i64 group] w fun e w' => e = .returned (.int .i64 (if group = 0 then 3758096385 else group)) ∧ w = w' := by
  by_cases h : group = 0
  · subst h
    go_enter Try.func27, Try.ntmps27
    go_wp2_with fail
    go_ret
    exact ⟨rfl, rfl⟩
  · rw [if_neg h]
    have hq : (group == 0) = false := by simp [h]
    go_enter Try.func27, Try.ntmps27
    go_wp2_with fail
    go_ret
    exact ⟨rfl, rfl⟩
theorem itself_impl (group : Int) (w : World) : Calls Try.prog 28 #[.int .i64 group] w fun e w' => e = .returned (.int .i64 group) ∧ w = w' := by
  go_enter Try.func28, Try.ntmps28
  go_wp2_with fail
  go_ret
  exact ⟨rfl, rfl⟩
theorem routers_impl (group : Int) (w : World) : Calls Try.prog 29 #[.int .i64 group] w fun e w' => e = .returned (.int .i64 3758096386) ∧ w = w' := by
  go_enter Try.func29, Try.ntmps29
  go_wp2_with fail
  go_ret
  exact ⟨rfl, rfl⟩
/-- the map's function at a packet's kind: it is entered, and answers where the packet goes -/
theorem destF_to (g : Ig) (h : igOk g) : ∃ f, destF g.kind = f ∧ (∀ args w, (callFunc f args).run Try.prog w = .ok (.enter f args) w) ∧
    ∀ w, Calls Try.prog f #[.int .i64 g.group] w fun e w' => e = .returned (.int .i64 (igTo g)) ∧ w = w' := by
  have hk := ((igOk_parts g).1 h).1
  have ht : igTo g = if g.kind = 17 ∧ g.group = 0 then 3758096385 else if g.kind = 23 then 3758096386 else g.group := by unfold igTo; rw [if_neg (fun k => k h)]
  rw [ht]
  clear ht h
  obtain ⟨kind, time, group, src⟩ := g
  simp only at hk ⊢
  rcases hk with rfl | rfl | rfl | rfl
  · refine ⟨27, rfl, fun args w => by kernel_rfl, fun w => (asked_impl group w).mono ?_⟩
    rintro e w' ⟨rfl, rfl⟩
    exact ⟨by simp, rfl⟩
  · exact ⟨28, rfl, fun args w => by kernel_rfl, fun w => itself_impl group w⟩
  · exact ⟨28, rfl, fun args w => by kernel_rfl, fun w => itself_impl group w⟩
  · exact ⟨29, rfl, fun args w => by kernel_rfl, fun w => routers_impl group w⟩

theorem igmpTo_impl (g : Ig) (w : World) : Calls Try.prog 19 #[g.val] w fun e w' => e = .returned (.int .i64 (igTo g)) ∧ Below w.heap.size w w' := by
  have hI := igmpOk_impl g
  by_cases hok : igOk g
  case neg =>
    have ht : igTo g = -1 := by unfold igTo; rw [if_pos hok]
    rw [ht]
    rw [decide_eq_false hok] at hI
    clear ht hok
    obtain ⟨kind, time, group, src⟩ := g
    unfold Ig.val at *
    simp only at hI ⊢
    have HI := Lib.hid hI; clear hI
    go_enter Try.func19, Try.ntmps19
    go_wp2_with fail
    refine (HI.out _).mono ?_
    rintro e w1 ⟨rfl, hb1⟩
    have hfin := ((Below.refl w.heap.size w).alloc (Nat.le_refl _) _).trans (hb1.mono (by simp))
    clear hb1
    go_wp2_with fail
    go_ret
    exact ⟨rfl, hfin⟩
  obtain ⟨f, hf, hen, hF⟩ := destF_to g hok
  have hL := fun (w : World) (b : Nat) (h : w.ownsMap Try.prog 3 fnElem b 4 destD) => dest_look h g.kind ((igOk_parts g).1 hok).1
  rw [hf] at hL
  rw [decide_eq_true hok] at hI
  clear hok hf
  generalize igTo g = r at *
  obtain ⟨kind, time, group, src⟩ := g
  unfold Ig.val at *
  simp only at hI hL hF ⊢
  have HI := Lib.hid hI; have HL := Lib.hid hL; have HF := Lib.hid hF
  clear hI hL hF
  go_enter Try.func19, Try.ntmps19
  go_wp2_with fail
  refine (HI.out _).mono ?_
  rintro e w1 ⟨rfl, hb1⟩
  have hc := cells4 hb1
  have hsz1 : w.heap.size < w1.heap.size := by have := hb1.size; simp at this; omega
  have hbw1 := ((Below.refl w.heap.size w).alloc (Nat.le_refl _) _).trans (hb1.mono (by simp))
  have HC := Lib.hid hc; have HBW := Lib.hid hbw1
  have hB := Below.refl w1.heap.size w1
  obtain ⟨k0, k1, k2, k3⟩ := hc
  clear hb1 hbw1
  go_wp2_with fail
  go_region_held3 (fun w' => Below w1.heap.size w1 w' ∧ w'.cell? ⟨w.heap.size, 0, none⟩ = some (.int .i64 kind) ∧ w'.cell? ⟨w.heap.size, 1, none⟩ = some (.int .i64 time) ∧ w'.cell? ⟨w.heap.size, 2, none⟩ = some (.int .i64 group) ∧ w'.cell? ⟨w.heap.size, 3, none⟩ = some (.int .i64 src)) (first | exact ⟨by assumption, by assumption, by assumption, by assumption, by assumption⟩ | exact ⟨Below.drew (by assumption), by assumption, by assumption, by assumption, by assumption⟩) (first | (go_at_call 21; refine (dest_spec _).mono ?_; rintro e w5 ⟨rfl, hb5, ho5⟩; obtain ⟨hB5, m0, m1, m2, m3⟩ := held4 (by first | assumption | exact Below.drew (by assumption)) hb5 hsz1 HC.out; have hvk := HL.out _ w1.heap.size ho5) | (refine (HF.out _).mono ?_; rintro e w6 ⟨rfl, rfl⟩))
  clear k0 k1 k2 k3 m0 m1 m2 m3 hb5 ho5 hvk hB hen
  have hfin := HBW.out.trans (hB5.mono HBW.out.size)
  clear hB5
  go_wp2_with fail
  go_ret
  exact ⟨rfl, hfin⟩
end Go.Proofs.Ytgnckbcpnailbab
