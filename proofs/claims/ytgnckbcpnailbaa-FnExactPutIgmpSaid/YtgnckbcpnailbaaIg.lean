/- IGMP packets: their values, what is right; IgmpOk and IgmpTo of the model. -/
import Derived.Test.YtgnckbcpnailbaaMac
import Derived.WalkSmall
namespace Go.Proofs.Ytgnckbcpnailbaa
open Go.RowKit

structure Ig where
  kind : Int
  time : Int
  group : Int
  src : Int

/-- a packet as the program holds it -/
def Ig.val (g : Ig) : Value := .agg #[.int .i64 g.kind, .int .i64 g.time, .int .i64 g.group, .int .i64 g.src]
def Ig.zero : Ig := ⟨0, 0, 0, 0⟩

/-- a packet is right -/
def igOk (g : Ig) : Prop :=
  (g.kind = 17 ∧ (0 ≤ grpOf g.group ∨ g.group = 0) ∧ (0 ≤ g.time ∧ g.time ≤ 255) ∨ (g.kind = 18 ∨ g.kind = 22 ∨ g.kind = 23) ∧ 0 ≤ grpOf g.group ∧ g.time = 0) ∧ (0 ≤ g.src ∧ g.src ≤ 4294967295)
instance (g : Ig) : Decidable (igOk g) := by unfold igOk; infer_instance

/-- where it goes -/
def igTo (g : Ig) : Int := if ¬ igOk g then -1 else if g.kind = 17 ∧ g.group = 0 then 3758096385 else if g.kind = 23 then 3758096386 else g.group

theorem in_any (x a b : Int) (w : World) : Calls Try.prog 29 #[.int .i64 x, .int .i64 a, .int .i64 b] w fun e w' => e = .returned (.bool (decide (a ≤ x ∧ x ≤ b))) ∧ w = w' := by
  by_cases h : a ≤ x ∧ x ≤ b
  · refine (in_yes x a b w h.1 h.2).mono ?_
    rintro e w' ⟨rfl, rfl⟩
    exact ⟨by rw [decide_eq_true h], rfl⟩
  · refine (in_no x a b w h).mono ?_
    rintro e w' ⟨rfl, rfl⟩
    exact ⟨by rw [decide_eq_false h], rfl⟩

theorem igOk_17 (time group src : Int) : igOk ⟨17, time, group, src⟩ ↔ ((0 ≤ grpOf group ∨ group = 0) ∧ (0 ≤ time ∧ time ≤ 255)) ∧ (0 ≤ src ∧ src ≤ 4294967295) := by unfold igOk; simp
theorem igOk_k (kind time group src : Int) (hk : kind = 18 ∨ kind = 22 ∨ kind = 23) : igOk ⟨kind, time, group, src⟩ ↔ (0 ≤ grpOf group ∧ time = 0) ∧ (0 ≤ src ∧ src ≤ 4294967295) := by
  have h17 : ¬ kind = 17 := by omega
  unfold igOk
  simp only [h17, hk, false_and, true_and, false_or]
theorem igOk_no (kind time group src : Int) (h17 : ¬ kind = 17) (hk : ¬ (kind = 18 ∨ kind = 22 ∨ kind = 23)) : ¬ igOk ⟨kind, time, group, src⟩ := by
  unfold igOk
  simp only [h17, hk, false_and, or_self, not_false_iff]

set_option maxHeartbeats 4000000 in
theorem igmpOk_spec (g : Ig) (w : World) : Calls Try.prog 12 #[g.val] w fun e w' => e = .returned (.bool (decide (igOk g))) ∧ Below w.heap.size w w' := by
  obtain ⟨kind, time, group, src⟩ := g
  unfold Ig.val
  simp only
  have hbz : ∀ o, Below w.heap.size w (w.alloc o) := fun o => (Below.refl _ _).alloc (Nat.le_refl _) o
  have hG := groupOf_spec group
  obtain ⟨go, hgo⟩ : ∃ go, grpOf group = go := ⟨_, rfl⟩
  rw [hgo] at hG
  have HG := Lib.hid hG; have HGO := Lib.hid hgo
  clear hG hgo
  have hT := in_any time 0 255
  have hS := in_any src 0 4294967295
  obtain ⟨sb, hsb⟩ : ∃ sb, decide (0 ≤ src ∧ src ≤ 4294967295) = sb := ⟨_, rfl⟩
  rw [hsb] at hS
  have HS := Lib.hid hS; have HSB := Lib.hid hsb
  clear hS hsb
  have hd : ∀ p : Prop, ∀ _ : Decidable p, (igOk ⟨kind, time, group, src⟩ ↔ p ∧ (0 ≤ src ∧ src ≤ 4294967295)) → p → decide (igOk ⟨kind, time, group, src⟩) = sb := by
    intro p _ h hp
    rw [← HSB.out, decide_eq_decide]
    exact ⟨fun k => (h.1 k).2, fun k => h.2 ⟨hp, k⟩⟩
  have HD := Lib.hid hd
  clear hd
  by_cases k17 : kind = 17
  · subst k17
    by_cases hg : 0 ≤ go
    · have HGR : Hid (0 ≤ grpOf group ∨ group = 0) := Lib.hid (Or.inl (by rw [HGO.out]; exact hg))
      by_cases ht : 0 ≤ time ∧ time ≤ 255
      · rw [decide_eq_true ht] at hT
        have HT := Lib.hid hT; have HTR := Lib.hid ht
        clear hT ht
        go_enter Try.func12, Try.ntmps12
        go_wp2_with fail
        refine (HG.out _).mono ?_
        rintro e w1 ⟨rfl, rfl⟩
        go_wp2_with fail
        refine (HT.out _).mono ?_
        rintro e w1 ⟨rfl, rfl⟩
        go_wp2_with fail
        refine (HS.out _).mono ?_
        rintro e w1 ⟨rfl, rfl⟩
        go_wp2_with fail
        go_ret
        exact ⟨by rw [HD.out _ inferInstance (igOk_17 _ _ _) ⟨HGR.out, HTR.out⟩]; rfl, hbz _⟩
      · rw [decide_eq_false ht] at hT
        have HT := Lib.hid hT; have HNO : Hid (¬ ((0 ≤ grpOf group ∨ group = 0) ∧ (0 ≤ time ∧ time ≤ 255))) := Lib.hid (fun h => ht h.2)
        clear hT ht
        go_enter Try.func12, Try.ntmps12
        go_wp2_with fail
        refine (HG.out _).mono ?_
        rintro e w1 ⟨rfl, rfl⟩
        go_wp2_with fail
        refine (HT.out _).mono ?_
        rintro e w1 ⟨rfl, rfl⟩
        go_wp2_with fail
        go_ret
        exact ⟨by rw [decide_eq_false (fun k => HNO.out ((igOk_17 _ _ _).1 k).1)]; rfl, hbz _⟩
    · by_cases h0 : group = 0
      · have HGR : Hid (0 ≤ grpOf group ∨ group = 0) := Lib.hid (Or.inr h0)
        have hg' : go < 0 := by omega
        have hb0 : (group == 0) = true := by simp [h0]
        clear h0
        by_cases ht : 0 ≤ time ∧ time ≤ 255
        · rw [decide_eq_true ht] at hT
          have HT := Lib.hid hT; have HTR := Lib.hid ht
          clear hT ht
          go_enter Try.func12, Try.ntmps12
          go_wp2_with fail
          refine (HG.out _).mono ?_
          rintro e w1 ⟨rfl, rfl⟩
          go_wp2_with fail
          refine (HT.out _).mono ?_
          rintro e w1 ⟨rfl, rfl⟩
          go_wp2_with fail
          refine (HS.out _).mono ?_
          rintro e w1 ⟨rfl, rfl⟩
          go_wp2_with fail
          go_ret
          exact ⟨by rw [HD.out _ inferInstance (igOk_17 _ _ _) ⟨HGR.out, HTR.out⟩]; rfl, hbz _⟩
        · rw [decide_eq_false ht] at hT
          have HT := Lib.hid hT; have HNO : Hid (¬ ((0 ≤ grpOf group ∨ group = 0) ∧ (0 ≤ time ∧ time ≤ 255))) := Lib.hid (fun h => ht h.2)
          clear hT ht
          go_enter Try.func12, Try.ntmps12
          go_wp2_with fail
          refine (HG.out _).mono ?_
          rintro e w1 ⟨rfl, rfl⟩
          go_wp2_with fail
          refine (HT.out _).mono ?_
          rintro e w1 ⟨rfl, rfl⟩
          go_wp2_with fail
          go_ret
          exact ⟨by rw [decide_eq_false (fun k => HNO.out ((igOk_17 _ _ _).1 k).1)]; rfl, hbz _⟩
      · have HNO : Hid (¬ ((0 ≤ grpOf group ∨ group = 0) ∧ (0 ≤ time ∧ time ≤ 255))) := Lib.hid (fun h => by have e := HGO.out; rcases h.1 with h | h; exact hg (e ▸ h); exact h0 h)
        have hg' : go < 0 := by omega
        by_cases ht : 0 ≤ time ∧ time ≤ 255
        · rw [decide_eq_true ht] at hT
          have HT := Lib.hid hT; clear hT ht
          go_enter Try.func12, Try.ntmps12
          go_wp2_with fail
          refine (HG.out _).mono ?_
          rintro e w1 ⟨rfl, rfl⟩
          go_wp2_with fail
          refine (HT.out _).mono ?_
          rintro e w1 ⟨rfl, rfl⟩
          go_wp2_with fail
          go_ret
          exact ⟨by rw [decide_eq_false (fun k => HNO.out ((igOk_17 _ _ _).1 k).1)]; rfl, hbz _⟩
        · rw [decide_eq_false ht] at hT
          have HT := Lib.hid hT; clear hT ht
          go_enter Try.func12, Try.ntmps12
          go_wp2_with fail
          refine (HG.out _).mono ?_
          rintro e w1 ⟨rfl, rfl⟩
          go_wp2_with fail
          refine (HT.out _).mono ?_
          rintro e w1 ⟨rfl, rfl⟩
          go_wp2_with fail
          go_ret
          exact ⟨by rw [decide_eq_false (fun k => HNO.out ((igOk_17 _ _ _).1 k).1)]; rfl, hbz _⟩
  · clear hT
    by_cases hk : kind = 18 ∨ kind = 22 ∨ kind = 23
    · rcases hk with rfl | rfl | rfl
      · by_cases hg : 0 ≤ go
        · by_cases ht : time = 0
          · subst ht
            have HGR : Hid (0 ≤ grpOf group) := Lib.hid (by rw [HGO.out]; exact hg)
            go_enter Try.func12, Try.ntmps12
            go_wp2_with fail
            refine (HG.out _).mono ?_
            rintro e w1 ⟨rfl, rfl⟩
            go_wp2_with fail
            refine (HS.out _).mono ?_
            rintro e w1 ⟨rfl, rfl⟩
            go_wp2_with fail
            go_ret
            exact ⟨by rw [HD.out _ inferInstance (igOk_k _ _ _ _ (by decide)) ⟨HGR.out, rfl⟩]; rfl, hbz _⟩
          · have HNO : Hid (¬ (0 ≤ grpOf group ∧ time = 0)) := Lib.hid (fun h => ht h.2)
            go_enter Try.func12, Try.ntmps12
            go_wp2_with fail
            refine (HG.out _).mono ?_
            rintro e w1 ⟨rfl, rfl⟩
            go_wp2_with fail
            go_ret
            exact ⟨by rw [decide_eq_false (fun k => HNO.out ((igOk_k _ _ _ _ (by decide)).1 k).1)]; rfl, hbz _⟩
        · have HNO : Hid (¬ (0 ≤ grpOf group ∧ time = 0)) := Lib.hid (fun h => hg (by rw [← HGO.out]; exact h.1))
          have hg' : go < 0 := by omega
          go_enter Try.func12, Try.ntmps12
          go_wp2_with fail
          refine (HG.out _).mono ?_
          rintro e w1 ⟨rfl, rfl⟩
          go_wp2_with fail
          go_ret
          exact ⟨by rw [decide_eq_false (fun k => HNO.out ((igOk_k _ _ _ _ (by decide)).1 k).1)]; rfl, hbz _⟩
      · by_cases hg : 0 ≤ go
        · by_cases ht : time = 0
          · subst ht
            have HGR : Hid (0 ≤ grpOf group) := Lib.hid (by rw [HGO.out]; exact hg)
            go_enter Try.func12, Try.ntmps12
            go_wp2_with fail
            refine (HG.out _).mono ?_
            rintro e w1 ⟨rfl, rfl⟩
            go_wp2_with fail
            refine (HS.out _).mono ?_
            rintro e w1 ⟨rfl, rfl⟩
            go_wp2_with fail
            go_ret
            exact ⟨by rw [HD.out _ inferInstance (igOk_k _ _ _ _ (by decide)) ⟨HGR.out, rfl⟩]; rfl, hbz _⟩
          · have HNO : Hid (¬ (0 ≤ grpOf group ∧ time = 0)) := Lib.hid (fun h => ht h.2)
            go_enter Try.func12, Try.ntmps12
            go_wp2_with fail
            refine (HG.out _).mono ?_
            rintro e w1 ⟨rfl, rfl⟩
            go_wp2_with fail
            go_ret
            exact ⟨by rw [decide_eq_false (fun k => HNO.out ((igOk_k _ _ _ _ (by decide)).1 k).1)]; rfl, hbz _⟩
        · have HNO : Hid (¬ (0 ≤ grpOf group ∧ time = 0)) := Lib.hid (fun h => hg (by rw [← HGO.out]; exact h.1))
          have hg' : go < 0 := by omega
          go_enter Try.func12, Try.ntmps12
          go_wp2_with fail
          refine (HG.out _).mono ?_
          rintro e w1 ⟨rfl, rfl⟩
          go_wp2_with fail
          go_ret
          exact ⟨by rw [decide_eq_false (fun k => HNO.out ((igOk_k _ _ _ _ (by decide)).1 k).1)]; rfl, hbz _⟩
      · by_cases hg : 0 ≤ go
        · by_cases ht : time = 0
          · subst ht
            have HGR : Hid (0 ≤ grpOf group) := Lib.hid (by rw [HGO.out]; exact hg)
            go_enter Try.func12, Try.ntmps12
            go_wp2_with fail
            refine (HG.out _).mono ?_
            rintro e w1 ⟨rfl, rfl⟩
            go_wp2_with fail
            refine (HS.out _).mono ?_
            rintro e w1 ⟨rfl, rfl⟩
            go_wp2_with fail
            go_ret
            exact ⟨by rw [HD.out _ inferInstance (igOk_k _ _ _ _ (by decide)) ⟨HGR.out, rfl⟩]; rfl, hbz _⟩
          · have HNO : Hid (¬ (0 ≤ grpOf group ∧ time = 0)) := Lib.hid (fun h => ht h.2)
            go_enter Try.func12, Try.ntmps12
            go_wp2_with fail
            refine (HG.out _).mono ?_
            rintro e w1 ⟨rfl, rfl⟩
            go_wp2_with fail
            go_ret
            exact ⟨by rw [decide_eq_false (fun k => HNO.out ((igOk_k _ _ _ _ (by decide)).1 k).1)]; rfl, hbz _⟩
        · have HNO : Hid (¬ (0 ≤ grpOf group ∧ time = 0)) := Lib.hid (fun h => hg (by rw [← HGO.out]; exact h.1))
          have hg' : go < 0 := by omega
          go_enter Try.func12, Try.ntmps12
          go_wp2_with fail
          refine (HG.out _).mono ?_
          rintro e w1 ⟨rfl, rfl⟩
          go_wp2_with fail
          go_ret
          exact ⟨by rw [decide_eq_false (fun k => HNO.out ((igOk_k _ _ _ _ (by decide)).1 k).1)]; rfl, hbz _⟩
    · have n18 : ¬ kind = 18 := fun h => hk (.inl h)
      have n22 : ¬ kind = 22 := fun h => hk (.inr (.inl h))
      have n23 : ¬ kind = 23 := fun h => hk (.inr (.inr h))
      have HK := Lib.hid hk; clear hk
      go_enter Try.func12, Try.ntmps12
      go_wp2_with fail
      refine (HG.out _).mono ?_
      rintro e w1 ⟨rfl, rfl⟩
      go_wp2_with fail
      go_ret
      exact ⟨by rw [decide_eq_false (igOk_no _ _ _ _ k17 HK.out)]; rfl, hbz _⟩

theorem igmpTo_spec (g : Ig) (w : World) : Calls Try.prog 22 #[g.val] w fun e w' => e = .returned (.int .i64 (igTo g)) ∧ Below w.heap.size w w' := by
  have hI := igmpOk_spec g
  by_cases hok : igOk g
  case neg =>
    have ht : igTo g = -1 := by unfold igTo; rw [if_pos hok]
    rw [ht]
    rw [decide_eq_false hok] at hI
    clear ht hok
    obtain ⟨kind, time, group, src⟩ := g
    unfold Ig.val at *
    simp only at hI ⊢
    have HI := Lib.hid hI; clear hI
    go_enter Try.func22, Try.ntmps22
    go_wp2_with fail
    refine (HI.out _).mono ?_
    rintro e w1 ⟨rfl, hb1⟩
    have hfin := ((Below.refl w.heap.size w).alloc (Nat.le_refl _) _).trans (hb1.mono (by simp))
    clear hb1
    go_wp2_with fail
    go_ret
    exact ⟨rfl, hfin⟩
  have ht : igTo g = if g.kind = 17 ∧ g.group = 0 then 3758096385 else if g.kind = 23 then 3758096386 else g.group := by unfold igTo; rw [if_neg (fun h => h hok)]
  rw [ht]
  rw [decide_eq_true hok] at hI
  clear ht hok
  obtain ⟨kind, time, group, src⟩ := g
  unfold Ig.val at *
  simp only at hI ⊢
  have HI := Lib.hid hI; clear hI
  by_cases h17 : kind = 17
  · subst h17
    by_cases h0 : group = 0
    · subst h0
      rw [if_pos ⟨rfl, rfl⟩]
      go_enter Try.func22, Try.ntmps22
      go_wp2_with fail
      refine (HI.out _).mono ?_
      rintro e w1 ⟨rfl, hb1⟩
      have k0 : w1.cell? ⟨w.heap.size, 0, none⟩ = some (.int .i64 17) := by rw [hb1.cell (p := ⟨w.heap.size, 0, none⟩) (by simp), World.cell?_alloc_at (hn := rfl)]; rfl
      have k2 : w1.cell? ⟨w.heap.size, 2, none⟩ = some (.int .i64 0) := by rw [hb1.cell (p := ⟨w.heap.size, 2, none⟩) (by simp), World.cell?_alloc_at (hn := rfl)]; rfl
      have hfin := ((Below.refl w.heap.size w).alloc (Nat.le_refl _) _).trans (hb1.mono (by simp))
      clear hb1
      go_wp2_with fail
      go_ret
      exact ⟨rfl, hfin⟩
    · rw [if_neg (fun h => h0 h.2), if_neg (by decide)]
      go_enter Try.func22, Try.ntmps22
      go_wp2_with fail
      refine (HI.out _).mono ?_
      rintro e w1 ⟨rfl, hb1⟩
      have k0 : w1.cell? ⟨w.heap.size, 0, none⟩ = some (.int .i64 17) := by rw [hb1.cell (p := ⟨w.heap.size, 0, none⟩) (by simp), World.cell?_alloc_at (hn := rfl)]; rfl
      have k2 : w1.cell? ⟨w.heap.size, 2, none⟩ = some (.int .i64 group) := by rw [hb1.cell (p := ⟨w.heap.size, 2, none⟩) (by simp), World.cell?_alloc_at (hn := rfl)]; rfl
      have hfin := ((Below.refl w.heap.size w).alloc (Nat.le_refl _) _).trans (hb1.mono (by simp))
      clear hb1
      go_wp2_with fail
      go_ret
      exact ⟨rfl, hfin⟩
  · rw [if_neg (fun h => h17 h.1)]
    by_cases h23 : kind = 23
    · subst h23
      rw [if_pos rfl]
      go_enter Try.func22, Try.ntmps22
      go_wp2_with fail
      refine (HI.out _).mono ?_
      rintro e w1 ⟨rfl, hb1⟩
      have k0 : w1.cell? ⟨w.heap.size, 0, none⟩ = some (.int .i64 23) := by rw [hb1.cell (p := ⟨w.heap.size, 0, none⟩) (by simp), World.cell?_alloc_at (hn := rfl)]; rfl
      have k2 : w1.cell? ⟨w.heap.size, 2, none⟩ = some (.int .i64 group) := by rw [hb1.cell (p := ⟨w.heap.size, 2, none⟩) (by simp), World.cell?_alloc_at (hn := rfl)]; rfl
      have hfin := ((Below.refl w.heap.size w).alloc (Nat.le_refl _) _).trans (hb1.mono (by simp))
      clear hb1
      go_wp2_with fail
      go_ret
      exact ⟨rfl, hfin⟩
    · rw [if_neg h23]
      go_enter Try.func22, Try.ntmps22
      go_wp2_with fail
      refine (HI.out _).mono ?_
      rintro e w1 ⟨rfl, hb1⟩
      have k0 : w1.cell? ⟨w.heap.size, 0, none⟩ = some (.int .i64 kind) := by rw [hb1.cell (p := ⟨w.heap.size, 0, none⟩) (by simp), World.cell?_alloc_at (hn := rfl)]; rfl
      have k2 : w1.cell? ⟨w.heap.size, 2, none⟩ = some (.int .i64 group) := by rw [hb1.cell (p := ⟨w.heap.size, 2, none⟩) (by simp), World.cell?_alloc_at (hn := rfl)]; rfl
      have hfin := ((Below.refl w.heap.size w).alloc (Nat.le_refl _) _).trans (hb1.mono (by simp))
      clear hb1
      go_wp2_with fail
      go_ret
      exact ⟨rfl, hfin⟩
end Go.Proofs.Ytgnckbcpnailbaa
