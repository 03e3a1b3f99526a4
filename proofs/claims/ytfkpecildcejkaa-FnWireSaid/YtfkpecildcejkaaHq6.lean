/- The program's ports: whether one is right, what comes in by it. -/
import Derived.Test.YtfkpecildcejkaaHp6
import Derived.Test.YtfkpecildcejkaaFrI
namespace Go.Proofs.Ytfkpecildcejkaa
open Go.RowKit

theorem acc_impl (x : Int) (w : World) : Calls Try.prog 57 #[.int .i64 x] w fun e w' => e = .returned (.bool (decide (0 ≤ x ∧ x ≤ 2))) ∧ w = w' := by
  obtain ⟨d, hd⟩ : ∃ d, decide (0 ≤ x ∧ x ≤ 2) = d := ⟨_, rfl⟩
  rw [hd]
  obtain ⟨d0, hd0⟩ : ∃ d, (x == 0) = d := ⟨_, rfl⟩
  obtain ⟨d1, hd1⟩ : ∃ d, (x == 1) = d := ⟨_, rfl⟩
  obtain ⟨d2, hd2⟩ : ∃ d, (x == 2) = d := ⟨_, rfl⟩
  have hdd : d = (d0 || d1 || d2) := by
    rw [← hd, ← hd0, ← hd1, ← hd2, Bool.eq_iff_iff]
    simp only [decide_eq_true_eq, Bool.or_eq_true, beq_iff_eq]
    omega
  subst hdd
  clear hd
  go_enter Try.func57, Try.ntmps57
  cases d0
  · cases d1
    · go_wp2_with fail
      go_ret
      exact ⟨by cases d2 <;> rfl, rfl⟩
    · go_wp2_with fail
      go_ret
      exact ⟨rfl, rfl⟩
  · go_wp2_with fail
    go_ret
    exact ⟨rfl, rfl⟩

theorem nets_ends {xs : List Int} {k : Nat} (hn : xs.length = k + 1) (h20 : k + 1 ≤ 20) (hp : xs.Pairwise (· < ·)) (h0 : 1 ≤ xs[0]'(by omega) ∧ xs[0]'(by omega) ≤ 4094) (h1 : 1 ≤ xs[k]'(by omega) ∧ xs[k]'(by omega) ≤ 4094) : nets xs := by
  refine ⟨by omega, fun x hx => ?_, hp⟩
  obtain ⟨j, hj, rfl⟩ := List.getElem_of_mem hx
  have hg := List.pairwise_iff_getElem.1 hp
  have e0 : xs[0]'(by omega) ≤ xs[j] := by
    by_cases h : j = 0
    · subst h; exact Int.le_refl _
    · have := hg 0 j (by omega) hj (by omega); omega
  have e1 : xs[j] ≤ xs[k]'(by omega) := by
    by_cases h : j = k
    · subst h; exact Int.le_refl _
    · have := hg j k hj (by omega) (by omega); omega
  omega

theorem list_impl (xs : List Int) (a : Option Addr) (n cap : Nat) (w : World) (hn : xs.length = n) (hx : SlIn kdI w a xs) (hsz : n ≤ 2097152) :
    Calls Try.prog 83 #[.slice a n cap] w fun e w' => e = .returned (.bool (decide (nets xs))) ∧ Below w.heap.size w w' := by
  obtain ⟨r, hr⟩ : ∃ r, decide (nets xs) = r := ⟨_, rfl⟩
  have hA := asc_impl xs a n cap w hn hx hsz
  obtain ⟨q, hq⟩ : ∃ q, decide (xs.Pairwise (· < ·)) = q := ⟨_, rfl⟩
  rw [hq] at hA
  rw [hr]
  cases n with
  | zero =>
    obtain rfl := List.eq_nil_of_length_eq_zero hn
    obtain rfl : r = true := by rw [← hr]; exact decide_eq_true ⟨by simp, by simp, List.Pairwise.nil⟩
    clear hr hx hn hA hq
    go_enter Try.func83, Try.ntmps83
    go_wp2_with fail
    go_ret
    exact ⟨rfl, Below.refl _ _⟩
  | succ k =>
    have hz : ((k : Int) + 1 == 0) = false := by rw [beq_eq_false_iff_ne]; omega
    by_cases h20 : k + 1 ≤ 20
    · have h20i : (k : Int) + 1 ≤ 20 := by omega
      obtain ⟨g, o, rfl, _, hc0⟩ := intAt hx 0 (by omega)
      obtain ⟨g', o', e, _, hc1⟩ := intAt hx k (by omega)
      cases e
      have e1 : IntKind.i64.wrap (k : Int) = (k : Int) := IntWalk.i64_in _ (by omega)
      have e3 : (k : Int) < (k : Int) + 1 := by omega
      have e4 : (0 : Int) < (k : Int) + 1 := by omega
      have e5 : (0 : Int) ≤ (k : Int) := by omega
      have hC0 := fun w' hb => (hc0 w' hb).1
      have hC1 := fun w' hb => (hc1 w' hb).1
      have hE := fun hp h0 h1 => nets_ends hn h20 hp h0 h1
      have hN0 := fun (h : nets xs) => h.2.1 _ (List.getElem_mem (by omega : 0 < xs.length))
      have hN1 := fun (h : nets xs) => h.2.1 _ (List.getElem_mem (by omega : k < xs.length))
      generalize xs[0]'(by omega) = y0 at hC0 hE hN0
      generalize xs[k]'(by omega) = y1 at hC1 hE hN1
      have hV0 := vid_impl y0
      have hV1 := vid_impl y1
      obtain ⟨b0, hb0⟩ : ∃ b, decide (1 ≤ y0 ∧ y0 ≤ 4094) = b := ⟨_, rfl⟩
      obtain ⟨b1, hb1⟩ : ∃ b, decide (1 ≤ y1 ∧ y1 ≤ 4094) = b := ⟨_, rfl⟩
      rw [hb0] at hV0
      rw [hb1] at hV1
      have HA := Lib.hid hA; have HQ := Lib.hid hq; have HR := Lib.hid hr; have HE := Lib.hid hE; have HN0 := Lib.hid hN0; have HN1 := Lib.hid hN1; have HC0 := Lib.hid hC0; have HC1 := Lib.hid hC1; have HV0 := Lib.hid hV0; have HV1 := Lib.hid hV1; have HB0 := Lib.hid hb0; have HB1 := Lib.hid hb1
      clear hA hq hr hE hN0 hN1 hC0 hC1 hV0 hV1 hb0 hb1 hc0 hc1 hx hn
      simp only [Nat.add_zero] at HC0
      go_enter Try.func83, Try.ntmps83
      go_wp2_with fail
      refine HA.out.mono ?_
      rintro e w1 ⟨rfl, hb1⟩
      have c0 := HC0.out w1 hb1
      have c1 := HC1.out w1 hb1
      have HB := Lib.hid hb1
      clear hb1
      cases q
      · obtain rfl : r = false := by rw [← HR.out]; exact decide_eq_false (fun h => of_decide_eq_false HQ.out h.2.2)
        go_wp2_with fail
        go_ret
        exact ⟨rfl, HB.out⟩
      go_wp2_with fail
      refine (HV0.out _).mono ?_
      rintro e w2 ⟨rfl, rfl⟩
      cases b0
      · obtain rfl : r = false := by rw [← HR.out]; exact decide_eq_false (fun h => of_decide_eq_false HB0.out (HN0.out h))
        go_wp2_with fail
        go_ret
        exact ⟨rfl, HB.out⟩
      go_wp2_with fail
      refine (HV1.out _).mono ?_
      rintro e w2 ⟨rfl, rfl⟩
      obtain rfl : r = b1 := by
        rw [← HR.out, ← HB1.out, Bool.eq_iff_iff, decide_eq_true_iff, decide_eq_true_iff]
        exact ⟨fun h => HN1.out h, fun h => HE.out (of_decide_eq_true HQ.out) (of_decide_eq_true HB0.out) h⟩
      go_wp2_with fail
      go_ret
      exact ⟨rfl, HB.out⟩
    · have h20i : ¬ ((k : Int) + 1 ≤ 20) := by omega
      obtain rfl : r = false := by rw [← hr]; exact decide_eq_false (fun h => by have := h.1; omega)
      clear hr hx hn hA hq
      go_enter Try.func83, Try.ntmps83
      go_wp2_with fail
      go_ret
      exact ⟨rfl, Below.refl _ _⟩
end Go.Proofs.Ytfkpecildcejkaa
