/- The methods of ageQueue. -/
import Derived.Test.YtleebmbnjdoinaaSort
import Derived.Test.YtleebmbnjdoinaaHp
import Derived.Deep.RegionWith
namespace Go.Proofs.Ytleebmbnjdoinaa
open Go.RowKit

/-- heard earlier; or at one time, and ahead -/
def older (a b : Rw) : Prop := a.at_ < b.at_ ∨ a.at_ = b.at_ ∧ ahead a b
instance (a b : Rw) : Decidable (older a b) := by unfold older ahead; infer_instance
theorem ageCmp_lt (a b : Rw) : orI (cmpI a.at_ b.at_) (keyCmp a b) < 0 ↔ older a b := by
  unfold orI older
  have h1 := cmpI_lt a.at_ b.at_; have h2 := cmpI_zero a.at_ b.at_; have h3 := keyCmp_lt a b
  by_cases h : cmpI a.at_ b.at_ = 0
  · rw [if_pos h, h3]
    rw [h2] at h
    exact ⟨fun k => .inr ⟨h, k⟩, fun k => by rcases k with k | k; (exact absurd h (by omega)); exact k.2⟩
  · rw [if_neg h, h1]
    rw [h2] at h
    exact ⟨fun k => .inl k, fun k => by rcases k with k | k; (exact k); exact absurd k.1 h⟩

theorem len_q (a : Option Addr) (n cap : Nat) (w : World) : Calls Try.prog 74 #[.slice a n cap] w fun e w' => e = .returned (.int .i64 n) ∧ w = w' := by
  go_enter Try.func74, Try.ntmps74
  go_wp2_with fail
  go_ret
  exact ⟨rfl, rfl⟩

theorem front_q {w : World} {a : Option Addr} {n cap : Nat} {d : List Rw} (h : SlIn kdRw w a d) (hn : d.length = n) (h0 : 0 < n) :
    Calls Try.prog 82 #[.slice a n cap] w fun e w' => e = .returned (.agg #[.int .i64 (d[0]'(by omega)).vid, .int .i64 (d[0]'(by omega)).mac, .int .i64 (d[0]'(by omega)).port, .int .i64 (d[0]'(by omega)).at_, .bool (d[0]'(by omega)).fixed]) ∧ Below w.heap.size w w' := by
  obtain ⟨g, o, rfl, hg, hK⟩ := rowAt h 0 (by omega)
  obtain ⟨c0, c1, c2, c3, c4⟩ := (hK w (Below.refl _ _)).1
  generalize d[0]'(by omega) = x at *
  obtain ⟨x0, x1, x2, x3, x4⟩ := x
  simp only [Nat.zero_mul, Nat.add_zero] at c0 c1 c2 c3 c4 ⊢
  have h0' : (0 : Int) < (n : Int) := by omega
  have HB := Lib.hid (fun o => (Below.refl w.heap.size w).alloc (Nat.le_refl _) o)
  clear hK h h0
  go_enter Try.func82, Try.ntmps82
  go_wp2_with fail
  exact bodyPost_ret (v := .agg #[.int .i64 x0, .int .i64 x1, .int .i64 x2, .int .i64 x3, .bool x4]) (by simp [results, Try.results82, go_sem]) rfl ⟨rfl, HB.out _⟩

set_option linter.unusedSimpArgs false in
set_option maxRecDepth 20000 in
set_option maxHeartbeats 1000000 in
theorem less_q {w : World} {a : Option Addr} {n cap : Nat} {d : List Rw} (h : SlIn kdRw w a d) (hn : d.length = n) (i j : Nat) (hi : i < n) (hj : j < n) :
    Calls Try.prog 132 #[.slice a n cap, .int .i64 (i : Nat), .int .i64 (j : Nat)] w fun e w' => e = .returned (.bool (decide (older (d[i]'(by omega)) (d[j]'(by omega))))) ∧ Grew w w' := by
  have hC := compare_any
  have hO := or_any
  have hix : i < d.length := by omega
  have hjx : j < d.length := by omega
  have hi' : (i : Int) < (n : Int) := by omega
  have hj' : (j : Int) < (n : Int) := by omega
  obtain ⟨g, o, rfl, hg, hI'⟩ := rowAt h i hix
  obtain ⟨_, _, e, _, hJ'⟩ := rowAt h j hjx
  cases e
  have hI := fun w' (hb : Grew w w') => (hI' w' hb.below).1
  have hJ := fun w' (hb : Grew w w') => (hJ' w' hb.below).1
  have hKI := fun w' => key_any d[i] w'
  have hKJ := fun w' => key_any d[j] w'
  have hKC := fun w' => kcompare_any d[i].vid d[i].mac d[j].vid d[j].mac w'
  have hd : decide (orI (cmpI d[i].at_ d[j].at_) (keyCmp d[i] d[j]) < 0) = decide (older d[i] d[j]) := by
    rw [Bool.eq_iff_iff, decide_eq_true_iff, decide_eq_true_iff]
    exact ageCmp_lt _ _
  rw [show orI (cmpI d[i].vid d[j].vid) (cmpI d[i].mac d[j].mac) = keyCmp d[i] d[j] from rfl] at hKC
  generalize keyCmp d[i] d[j] = kc at hKC hd
  generalize decide (older d[i] d[j]) = res at hd ⊢
  generalize d[i] = x at *
  generalize d[j] = y at *
  obtain ⟨i0, i1, i2, ai, i4⟩ := x
  obtain ⟨j0, j1, j2, aj, j4⟩ := y
  unfold Rw.val RowAt at *
  simp only at hI hJ hKI hKJ hKC hd
  have HC := Lib.hid hC; have HO := Lib.hid hO; have HKI := Lib.hid hKI; have HKJ := Lib.hid hKJ; have HKC := Lib.hid hKC; have HD := Lib.hid hd
  clear hC hO hKI hKJ hKC hd hI' hJ' hix hjx h hn hi hj
  go_enter Try.func132, Try.ntmps132
  go_upto_region 1 with fail
  refine wp_region_held_drew (S := fun w' => Grew w w') (by kernel_rfl) ((Grew.refl _).drew) (fun hHeld => ?_)
  refine wpAnyH_take (i := 0) (v := ?v1) rfl (by kernel_rfl) (by kernel_rfl) (by kernel_rfl) (fun _ _ _ h => h) (Or.inl ⟨by rfl, ?h1⟩) hHeld ?r1
  case h1 => intro wq hS; go_simp; with_reducible rfl
  try simp only [Act.put, List.getElem_toArray, List.getElem_cons_zero, List.getElem_cons_succ, List.setIfInBounds_toArray, List.set_cons_zero, List.set_cons_succ]
  refine wpAnyH_take (i := 1) (v := ?v2) rfl (by kernel_rfl) (by kernel_rfl) (by kernel_rfl) (fun _ _ _ h => h) (Or.inl ⟨by rfl, ?h2⟩) hHeld ?r2
  case h2 => intro wq hS; go_simp; with_reducible rfl
  try simp only [Act.put, List.getElem_toArray, List.getElem_cons_zero, List.getElem_cons_succ, List.setIfInBounds_toArray, List.set_cons_zero, List.set_cons_succ]
  refine wpAnyH_take (i := 2) (v := ?v3) rfl (by kernel_rfl) (by kernel_rfl) (by kernel_rfl) (fun _ _ _ h => h) (Or.inl ⟨by rfl, ?h3⟩) hHeld ?r3
  case h3 => intro wq hS; go_simp; with_reducible rfl
  try simp only [Act.put, List.getElem_toArray, List.getElem_cons_zero, List.getElem_cons_succ, List.setIfInBounds_toArray, List.set_cons_zero, List.set_cons_succ]
  refine wpAnyH_take (i := 3) (v := ?v4) rfl (by kernel_rfl) (by kernel_rfl) (by kernel_rfl) (fun _ _ _ h => h) (Or.inl ⟨by rfl, ?h4⟩) hHeld ?r4
  case h4 => intro wq hS; go_simp; with_reducible rfl
  try simp only [Act.put, List.getElem_toArray, List.getElem_cons_zero, List.getElem_cons_succ, List.setIfInBounds_toArray, List.set_cons_zero, List.set_cons_succ]
  refine wpAnyH_take (i := 4) (v := ?v5) rfl (by kernel_rfl) (by kernel_rfl) (by kernel_rfl) (fun _ _ _ h => h) (Or.inl ⟨by rfl, ?h5⟩) hHeld ?r5
  case h5 => intro wq hS; obtain ⟨c0, c1, c2, c3, c4⟩ := hI wq hS; go_simp; with_reducible rfl
  try simp only [Act.put, List.getElem_toArray, List.getElem_cons_zero, List.getElem_cons_succ, List.setIfInBounds_toArray, List.set_cons_zero, List.set_cons_succ]
  refine wpAnyH_take (i := 5) (v := ?v6) rfl (by kernel_rfl) (by kernel_rfl) (by kernel_rfl) (fun _ _ _ h => h) (Or.inl ⟨by rfl, ?h6⟩) hHeld ?r6
  case h6 => intro wq hS; go_simp; with_reducible rfl
  try simp only [Act.put, List.getElem_toArray, List.getElem_cons_zero, List.getElem_cons_succ, List.setIfInBounds_toArray, List.set_cons_zero, List.set_cons_succ]
  refine wpAnyH_take (i := 6) (v := ?v7) rfl (by kernel_rfl) (by kernel_rfl) (by kernel_rfl) (fun _ _ _ h => h) (Or.inl ⟨by rfl, ?h7⟩) hHeld ?r7
  case h7 => intro wq hS; go_simp; with_reducible rfl
  try simp only [Act.put, List.getElem_toArray, List.getElem_cons_zero, List.getElem_cons_succ, List.setIfInBounds_toArray, List.set_cons_zero, List.set_cons_succ]
  refine wpAnyH_take (i := 7) (v := ?v8) rfl (by kernel_rfl) (by kernel_rfl) (by kernel_rfl) (fun _ _ _ h => h) (Or.inl ⟨by rfl, ?h8⟩) hHeld ?r8
  case h8 => intro wq hS; go_simp; with_reducible rfl
  try simp only [Act.put, List.getElem_toArray, List.getElem_cons_zero, List.getElem_cons_succ, List.setIfInBounds_toArray, List.set_cons_zero, List.set_cons_succ]
  refine wpAnyH_take (i := 8) (v := ?v9) rfl (by kernel_rfl) (by kernel_rfl) (by kernel_rfl) (fun _ _ _ h => h) (Or.inl ⟨by rfl, ?h9⟩) hHeld ?r9
  case h9 => intro wq hS; go_simp; with_reducible rfl
  try simp only [Act.put, List.getElem_toArray, List.getElem_cons_zero, List.getElem_cons_succ, List.setIfInBounds_toArray, List.set_cons_zero, List.set_cons_succ]
  refine wpAnyH_take (i := 9) (v := ?v10) rfl (by kernel_rfl) (by kernel_rfl) (by kernel_rfl) (fun _ _ _ h => h) (Or.inl ⟨by rfl, ?h10⟩) hHeld ?r10
  case h10 => intro wq hS; obtain ⟨c0, c1, c2, c3, c4⟩ := hJ wq hS; go_simp; with_reducible rfl
  try simp only [Act.put, List.getElem_toArray, List.getElem_cons_zero, List.getElem_cons_succ, List.setIfInBounds_toArray, List.set_cons_zero, List.set_cons_succ]
  refine wpAnyH_take (i := 11) (v := ?v11) rfl (by kernel_rfl) (by kernel_rfl) (by kernel_rfl) (fun _ _ _ h => h) (Or.inl ⟨by rfl, ?h11⟩) hHeld ?r11
  case h11 => intro wq hS; go_simp; with_reducible rfl
  try simp only [Act.put, List.getElem_toArray, List.getElem_cons_zero, List.getElem_cons_succ, List.setIfInBounds_toArray, List.set_cons_zero, List.set_cons_succ]
  refine wpAnyH_take (i := 12) (v := ?v12) rfl (by kernel_rfl) (by kernel_rfl) (by kernel_rfl) (fun _ _ _ h => h) (Or.inl ⟨by rfl, ?h12⟩) hHeld ?r12
  case h12 => intro wq hS; go_simp; with_reducible rfl
  try simp only [Act.put, List.getElem_toArray, List.getElem_cons_zero, List.getElem_cons_succ, List.setIfInBounds_toArray, List.set_cons_zero, List.set_cons_succ]
  refine wpAnyH_take (i := 13) (v := ?v13) rfl (by kernel_rfl) (by kernel_rfl) (by kernel_rfl) (fun _ _ _ h => h) (Or.inl ⟨by rfl, ?h13⟩) hHeld ?r13
  case h13 => intro wq hS; go_simp; with_reducible rfl
  try simp only [Act.put, List.getElem_toArray, List.getElem_cons_zero, List.getElem_cons_succ, List.setIfInBounds_toArray, List.set_cons_zero, List.set_cons_succ]
  refine wpAnyH_take (i := 14) (v := ?v14) rfl (by kernel_rfl) (by kernel_rfl) (by kernel_rfl) (fun _ _ _ h => h) (Or.inl ⟨by rfl, ?h14⟩) hHeld ?r14
  case h14 => intro wq hS; obtain ⟨c0, c1, c2, c3, c4⟩ := hI wq hS; go_simp; with_reducible rfl
  try simp only [Act.put, List.getElem_toArray, List.getElem_cons_zero, List.getElem_cons_succ, List.setIfInBounds_toArray, List.set_cons_zero, List.set_cons_succ]
  refine wpAnyH_take (i := 16) (v := ?v15) rfl (by kernel_rfl) (by kernel_rfl) (by kernel_rfl) (fun _ _ _ h => h) (Or.inl ⟨by rfl, ?h15⟩) hHeld ?r15
  case h15 => intro wq hS; go_simp; with_reducible rfl
  try simp only [Act.put, List.getElem_toArray, List.getElem_cons_zero, List.getElem_cons_succ, List.setIfInBounds_toArray, List.set_cons_zero, List.set_cons_succ]
  refine wpAnyH_take (i := 17) (v := ?v16) rfl (by kernel_rfl) (by kernel_rfl) (by kernel_rfl) (fun _ _ _ h => h) (Or.inl ⟨by rfl, ?h16⟩) hHeld ?r16
  case h16 => intro wq hS; go_simp; with_reducible rfl
  try simp only [Act.put, List.getElem_toArray, List.getElem_cons_zero, List.getElem_cons_succ, List.setIfInBounds_toArray, List.set_cons_zero, List.set_cons_succ]
  refine wpAnyH_take (i := 18) (v := ?v17) rfl (by kernel_rfl) (by kernel_rfl) (by kernel_rfl) (fun _ _ _ h => h) (Or.inl ⟨by rfl, ?h17⟩) hHeld ?r17
  case h17 => intro wq hS; go_simp; with_reducible rfl
  try simp only [Act.put, List.getElem_toArray, List.getElem_cons_zero, List.getElem_cons_succ, List.setIfInBounds_toArray, List.set_cons_zero, List.set_cons_succ]
  refine wpAnyH_take (i := 19) (v := ?v18) rfl (by kernel_rfl) (by kernel_rfl) (by kernel_rfl) (fun _ _ _ h => h) (Or.inl ⟨by rfl, ?h18⟩) hHeld ?r18
  case h18 => intro wq hS; obtain ⟨c0, c1, c2, c3, c4⟩ := hJ wq hS; go_simp; with_reducible rfl
  try simp only [Act.put, List.getElem_toArray, List.getElem_cons_zero, List.getElem_cons_succ, List.setIfInBounds_toArray, List.set_cons_zero, List.set_cons_succ]
  refine wpAnyH_ready (rs := [10]) (by kernel_rfl) (by simp) ?_
  refine AllReadyH.cons rfl (fun K hK => ?_) AllReadyH.nil
  go_simp
  refine (HC.out _ _ _).mono ?_
  rintro e w2 ⟨rfl, rfl⟩
  refine hK.out _ _ (hHeld) (fun hHeld => ?_)
  clear hK K
  try simp only [Act.put, List.getElem_toArray, List.getElem_cons_zero, List.getElem_cons_succ, List.setIfInBounds_toArray, List.set_cons_zero, List.set_cons_succ]
  refine wpAnyH_ready (rs := [15]) (by kernel_rfl) (by simp) ?_
  refine AllReadyH.cons rfl (fun K hK => ?_) AllReadyH.nil
  go_simp
  refine (HKI.out _).mono ?_
  rintro e w3 ⟨rfl, hg3⟩
  refine hK.out _ _ (hHeld.trans hg3) (fun hHeld => ?_)
  clear hK K
  try simp only [Act.put, List.getElem_toArray, List.getElem_cons_zero, List.getElem_cons_succ, List.setIfInBounds_toArray, List.set_cons_zero, List.set_cons_succ]
  refine wpAnyH_ready (rs := [20]) (by kernel_rfl) (by simp) ?_
  refine AllReadyH.cons rfl (fun K hK => ?_) AllReadyH.nil
  go_simp
  refine (HKJ.out _).mono ?_
  rintro e w4 ⟨rfl, hg4⟩
  refine hK.out _ _ (hHeld.trans hg4) (fun hHeld => ?_)
  clear hK K
  try simp only [Act.put, List.getElem_toArray, List.getElem_cons_zero, List.getElem_cons_succ, List.setIfInBounds_toArray, List.set_cons_zero, List.set_cons_succ]
  refine wpAnyH_ready (rs := [21]) (by kernel_rfl) (by simp) ?_
  refine AllReadyH.cons rfl (fun K hK => ?_) AllReadyH.nil
  go_simp
  refine (HKC.out _).mono ?_
  rintro e w5 ⟨rfl, hg5⟩
  refine hK.out _ _ (hHeld.trans hg5) (fun hHeld => ?_)
  clear hK K
  try simp only [Act.put, List.getElem_toArray, List.getElem_cons_zero, List.getElem_cons_succ, List.setIfInBounds_toArray, List.set_cons_zero, List.set_cons_succ]
  refine wpAnyH_ready (rs := [22]) (by kernel_rfl) (by simp) ?_
  refine AllReadyH.cons rfl (fun K hK => ?_) AllReadyH.nil
  go_simp
  refine hK.out _ _ (hHeld.alloc _) (fun hHeld => ?_)
  clear hK K
  try simp only [Act.put, List.getElem_toArray, List.getElem_cons_zero, List.getElem_cons_succ, List.setIfInBounds_toArray, List.set_cons_zero, List.set_cons_succ]
  refine wpAnyH_ready (rs := [23]) (by kernel_rfl) (by simp) ?_
  refine AllReadyH.cons rfl (fun K hK => ?_) AllReadyH.nil
  go_simp
  refine (HO.out (cmpI ai aj) kc _ _ (by simp [World.cell?_alloc_at]) (by simp [World.cell?_alloc_at])).mono ?_
  rintro e w6 ⟨rfl, rfl⟩
  refine hK.out _ _ (hHeld) (fun hHeld => ?_)
  clear hK K
  try simp only [Act.put, List.getElem_toArray, List.getElem_cons_zero, List.getElem_cons_succ, List.setIfInBounds_toArray, List.set_cons_zero, List.set_cons_succ]
  refine wpAnyH_take (i := 24) (v := ?v19) rfl (by kernel_rfl) (by kernel_rfl) (by kernel_rfl) (fun _ _ _ h => h) (Or.inl ⟨by rfl, ?h19⟩) hHeld ?r19
  case h19 => intro wq hS; go_simp; with_reducible rfl
  try simp only [Act.put, List.getElem_toArray, List.getElem_cons_zero, List.getElem_cons_succ, List.setIfInBounds_toArray, List.set_cons_zero, List.set_cons_succ]
  refine wpAnyH_take (i := 25) (v := ?v20) rfl (by kernel_rfl) (by kernel_rfl) (by kernel_rfl) (fun _ _ _ h => h) (Or.inl ⟨by rfl, ?h20⟩) hHeld ?r20
  case h20 => intro wq hS; go_simp; with_reducible rfl
  try simp only [Act.put, List.getElem_toArray, List.getElem_cons_zero, List.getElem_cons_succ, List.setIfInBounds_toArray, List.set_cons_zero, List.set_cons_succ]
  refine wpAnyH_done (by kernel_rfl) ?_ _
  have hfin := hHeld
  clear hHeld hg3 hg4 hg5 hI hJ
  go_wp2_with fail
  go_ret
  exact ⟨by rw [← HD.out]; rfl, hfin⟩

theorem setCells_from (w : World) (g p : Nat) (x : Rw) : setFrom w g p x.cs = ((((w.setCell ⟨g, p, none⟩ (.int .i64 x.vid)).setCell ⟨g, p + 1, none⟩ (.int .i64 x.mac)).setCell ⟨g, p + 2, none⟩ (.int .i64 x.port)).setCell ⟨g, p + 3, none⟩ (.int .i64 x.at_)).setCell ⟨g, p + 4, none⟩ (.bool x.fixed) := rfl
/-- a row of the call's own written over -/
theorem own_put {w : World} {base g n cap : Nat} {d : List Rw} (h : OwnRw w base (.slice (some ⟨g, 0, none⟩) n cap) d) (hn : d.length = n) (k : Nat) (hk : k < n) (x : Rw) :
    OwnRw (setFrom w g (k * 5) x.cs) base (.slice (some ⟨g, 0, none⟩) n cap) (d.set k x) ∧ Turned [g] w (setFrom w g (k * 5) x.cs) := by
  subst hn
  obtain ⟨hl, h' | ⟨g', cap', cur, h', hb, hg, hnc, hcm, hcs, htake⟩⟩ := h
  · simp at h'
  simp only [Value.slice.injEq, Option.some.injEq, Addr.mk.injEq, and_true] at h'
  obtain ⟨rfl, _, rfl⟩ := h'
  have hx : x.cs.length = 5 := rfl
  obtain ⟨cur', c1, c2, c3, c4⟩ := setFrom_spec g x.cs w (k * 5) cur hg (by rw [hx, hcs]; have : (k + 1) * 5 ≤ cap * 5 := Nat.mul_le_mul_right 5 (by omega); omega)
  refine ⟨⟨?_, .inr ⟨g, cap, cur', by rw [List.length_set], hb, c1, by rw [List.length_set]; exact hnc, hcm, by rw [c2, hcs], ?_⟩⟩, c4⟩
  · exact flat_len kdRw _
  · rw [List.length_set]
    apply List.ext_getElem?
    intro i
    by_cases hi : i < d.length * 5
    · rw [List.getElem?_take_of_lt hi, Array.getElem?_toList, c3, hx]
      have e0 : (cur.toList.take (d.length * 5))[i]? = (d.flatMap Rw.cs)[i]? := by rw [htake]
      rw [List.getElem?_take_of_lt hi, Array.getElem?_toList] at e0
      have hk5 : i / 5 < d.length := by omega
      have e2 : i / 5 * kdRw.sz + i % 5 = i := by show i / 5 * 5 + i % 5 = i; omega
      have e := flat_get kdRw (d.set k x) (i / 5) (by simpa using hk5) (i % 5) (by show i % 5 < 5; omega)
      rw [e2] at e
      show _ = ((d.set k x).flatMap kdRw.cs)[i]?
      rw [e]
      by_cases hc : k * 5 ≤ i ∧ i < k * 5 + 5
      · rw [if_pos hc]
        have hik : i / 5 = k := by omega
        subst hik
        rw [List.getElem_set_self]
        show x.cs[i - i / 5 * 5]? = x.cs[i % 5]?
        rw [show i - i / 5 * 5 = i % 5 by omega]
      · rw [if_neg hc, e0]
        have hik : k ≠ i / 5 := by omega
        rw [List.getElem_set_ne hik]
        have e3 := flat_get kdRw d (i / 5) hk5 (i % 5) (by show i % 5 < 5; omega)
        rw [e2] at e3
        exact e3
    · rw [List.getElem?_take_eq_none (by omega), List.getElem?_eq_none (by
        have := flat_len kdRw (d.set k x)
        show ((d.set k x).flatMap kdRw.cs).length ≤ i
        rw [this, List.length_set]
        show d.length * 5 ≤ i
        omega)]

/-- two rows exchanged -/
def swapL (d : List Rw) (i j : Nat) : List Rw := (d.set i (d.getD j default)).set j (d.getD i default)
theorem swapL_len (d : List Rw) (i j : Nat) : (swapL d i j).length = d.length := by simp [swapL]

/-- a struct stored, at a step of a region that draws -/
theorem step_store {P : Program} {w : World} {ops : Array Oper} {o : Oper} {a : Act} {K : Act → World → Prop} {Q : Exit → Act → World → Prop} {E : Prop} (hgd : o.guard = none) (ty : TypeId) (x y : Operand) (ho : o.op = .store ty x y)
    (b p : Nat) (cells : Array Value) (hx : a.eval x = .pointer (some ⟨b, p, none⟩)) (hy : a.eval y = .agg cells) (ht : w.there b p cells.size) (hi : (P.info? ty).map (·.size) = some cells.size) (h1 : cells.all (·.oneCell') = true)
    (h : K (a.put o.dst undef) (w.setCells b p cells.toList)) : if Region.wanted o (yielded ops a.tmps) = true then Oper.wp P o a w K Q else E := by
  have hw : Region.wanted o (yielded ops a.tmps) = true := by simp [Region.wanted, hgd]
  rw [if_pos hw]
  exact wp_store_mid ty x y ho b p cells hx hy ht hi h1 h
theorem there_blk {w : World} {g : Nat} {cur : Array Value} {t : TypeId} (h : Blk w g cur t) (p n : Nat) (hn : p + n ≤ cur.size) : w.there g p n := fun j hj => by
  refine ⟨?_, h.frozen _⟩
  rw [h.cell, Array.getElem?_eq_getElem (by omega)]
  rfl
theorem sizeInfoRow : (Try.prog.info? 34).map (·.size) = some 5 := by kernel_rfl

set_option linter.unusedSimpArgs false in
set_option maxRecDepth 20000 in
set_option maxHeartbeats 1000000 in
theorem swap_q {w : World} {base n cap : Nat} {a : Option Addr} {d : List Rw} (h : OwnRw w base (.slice a n cap) d) (hn : d.length = n) (i j : Nat) (hi : i < n) (hj : j < n) :
    Calls Try.prog 135 #[.slice a n cap, .int .i64 (i : Nat), .int .i64 (j : Nat)] w fun e w' => e = .returned (.tuple #[]) ∧ OwnRw w' base (.slice a n cap) (swapL d i j) ∧ Turned (blkOf a) w w' := by
  obtain ⟨g, rfl⟩ : ∃ g, a = some ⟨g, 0, none⟩ := by
    obtain ⟨_, h' | ⟨g, _, _, h', _⟩⟩ := h
    · simp at h'; omega
    · simp at h'; exact ⟨g, h'.1⟩
  have hix : i < d.length := by omega
  have hjx : j < d.length := by omega
  have hi' : (i : Int) < (n : Int) := by omega
  have hj' : (j : Int) < (n : Int) := by omega
  have hB : ∃ cur, w.heap[g]? = some (.cells cur 34 (0, 0)) ∧ n * 5 ≤ cur.size := by
    obtain ⟨_, h' | ⟨g', c', cur, h', _, hg, hnc, _, hcs, _⟩⟩ := h
    · simp at h'
    · simp at h'; obtain ⟨rfl, _, rfl⟩ := h'; exact ⟨cur, hg, by rw [hcs]; exact Nat.mul_le_mul_right 5 (by omega)⟩
  obtain ⟨cur, hcur, hcsz⟩ := hB
  obtain ⟨a', cap', e, hs, _, _, _⟩ := SlIn.of_owns (K := kdRw) (by unfold OwnRw at h; rw [hn] at h; exact h) hn
  cases e
  obtain ⟨g', o, e, _, hI'⟩ := rowAt hs i hix
  cases e
  obtain ⟨_, _, e, _, hJ'⟩ := rowAt hs j hjx
  cases e
  have hI := (hI' w (Below.refl _ _)).1
  have hJ := (hJ' w (Below.refl _ _)).1
  have hp1 := own_put (w := w.drew) h hn i hi d[j]
  have hp2 := own_put hp1.1 (by rw [List.length_set]; exact hn) j hj d[i]
  have hsw : (d.set i d[j]).set j d[i] = swapL d i j := by
    unfold swapL
    rw [List.getD_eq_getElem?_getD, List.getD_eq_getElem?_getD, List.getElem?_eq_getElem hix, List.getElem?_eq_getElem hjx]
    rfl
  have hfin := hp2.1
  rw [hsw] at hfin
  have hT : Turned [g] w (setFrom (setFrom w.drew g (i * 5) d[j].cs) g (j * 5) d[i].cs) := ((Turned.refl [g] w).drew.trans1 hp1.2).trans1 hp2.2
  have kB : Blk w.drew g cur 34 := hcur
  have hi5 : i * 5 + 5 ≤ cur.size := by have : (i + 1) * 5 ≤ n * 5 := Nat.mul_le_mul_right 5 hi; omega
  have hj5 : j * 5 + 5 ≤ cur.size := by have : (j + 1) * 5 ≤ n * 5 := Nat.mul_le_mul_right 5 hj; omega
  obtain ⟨cur2, hc2, hcz2, _⟩ := setFrom_spec g d[j].cs w.drew (i * 5) cur kB (by have : d[j].cs.length = 5 := rfl; omega)
  have kB2 : Blk (setFrom w.drew g (i * 5) d[j].cs) g cur2 34 := hc2
  have ht1 := there_blk kB (i * 5) 5 hi5
  have ht2 := there_blk kB2 (j * 5) 5 (by omega)
  generalize d[i] = x at *
  generalize d[j] = y at *
  obtain ⟨i0, i1, i2, i3, i4⟩ := x
  obtain ⟨j0, j1, j2, j3, j4⟩ := y
  obtain ⟨W1, hW1⟩ : ∃ W1, setFrom w.drew g (i * 5) (Rw.cs ⟨j0, j1, j2, j3, j4⟩) = W1 := ⟨_, rfl⟩
  rw [hW1] at hfin hT ht2
  obtain ⟨W2, hW2⟩ : ∃ W2, setFrom W1 g (j * 5) (Rw.cs ⟨i0, i1, i2, i3, i4⟩) = W2 := ⟨_, rfl⟩
  rw [hW2] at hfin hT
  rw [← setCells_eq] at hW1 hW2
  replace hW1 : w.drew.setCells g (i * 5) (#[Value.int .i64 j0, .int .i64 j1, .int .i64 j2, .int .i64 j3, .bool j4]).toList = W1 := hW1
  replace hW2 : W1.setCells g (j * 5) (#[Value.int .i64 i0, .int .i64 i1, .int .i64 i2, .int .i64 i3, .bool i4]).toList = W2 := hW2
  unfold RowAt at hI hJ
  simp only [Nat.zero_add] at hI hJ
  have HF := Lib.hid hfin; have HT := Lib.hid hT; have HT1 := Lib.hid ht1; have HT2 := Lib.hid ht2; have HW1 := Lib.hid hW1; have HW2 := Lib.hid hW2
  obtain ⟨p0, p1, p2, p3, p4⟩ := hI
  obtain ⟨q0, q1, q2, q3, q4⟩ := hJ
  clear hfin hT kB kB2 hp1 hp2 hsw hI' hJ' hs h hcur hcsz hc2 hcz2 hix hjx hn ht1 ht2 hW1 hW2 hi5 hj5
  go_enter Try.func135, Try.ntmps135
  refine wp_region_held_drew (S := fun _ => True) (by kernel_rfl) (trivial) (fun hHeld => ?_)
  refine wpAnyH_take (i := 0) (v := ?v21) rfl (by kernel_rfl) (by kernel_rfl) (by kernel_rfl) (fun _ _ _ h => h) (Or.inl ⟨by rfl, ?h21⟩) hHeld ?r21
  case h21 => intro wq hS; go_simp; with_reducible rfl
  try simp only [Act.put, List.getElem_toArray, List.getElem_cons_zero, List.getElem_cons_succ, List.setIfInBounds_toArray, List.set_cons_zero, List.set_cons_succ]
  refine wpAnyH_take (i := 1) (v := ?v22) rfl (by kernel_rfl) (by kernel_rfl) (by kernel_rfl) (fun _ _ _ h => h) (Or.inl ⟨by rfl, ?h22⟩) hHeld ?r22
  case h22 => intro wq hS; go_simp; with_reducible rfl
  try simp only [Act.put, List.getElem_toArray, List.getElem_cons_zero, List.getElem_cons_succ, List.setIfInBounds_toArray, List.set_cons_zero, List.set_cons_succ]
  refine wpAnyH_take (i := 2) (v := ?v23) rfl (by kernel_rfl) (by kernel_rfl) (by kernel_rfl) (fun _ _ _ h => h) (Or.inl ⟨by rfl, ?h23⟩) hHeld ?r23
  case h23 => intro wq hS; go_simp; with_reducible rfl
  try simp only [Act.put, List.getElem_toArray, List.getElem_cons_zero, List.getElem_cons_succ, List.setIfInBounds_toArray, List.set_cons_zero, List.set_cons_succ]
  refine wpAnyH_take (i := 3) (v := ?v24) rfl (by kernel_rfl) (by kernel_rfl) (by kernel_rfl) (fun _ _ _ h => h) (Or.inl ⟨by rfl, ?h24⟩) hHeld ?r24
  case h24 => intro wq hS; go_simp; with_reducible rfl
  try simp only [Act.put, List.getElem_toArray, List.getElem_cons_zero, List.getElem_cons_succ, List.setIfInBounds_toArray, List.set_cons_zero, List.set_cons_succ]
  refine wpAnyH_take (i := 4) (v := ?v25) rfl (by kernel_rfl) (by kernel_rfl) (by kernel_rfl) (fun _ _ _ h => h) (Or.inl ⟨by rfl, ?h25⟩) hHeld ?r25
  case h25 => intro wq hS; go_simp; with_reducible rfl
  try simp only [Act.put, List.getElem_toArray, List.getElem_cons_zero, List.getElem_cons_succ, List.setIfInBounds_toArray, List.set_cons_zero, List.set_cons_succ]
  refine wpAnyH_take (i := 5) (v := ?v26) rfl (by kernel_rfl) (by kernel_rfl) (by kernel_rfl) (fun _ _ _ h => h) (Or.inl ⟨by rfl, ?h26⟩) hHeld ?r26
  case h26 => intro wq hS; go_simp; with_reducible rfl
  try simp only [Act.put, List.getElem_toArray, List.getElem_cons_zero, List.getElem_cons_succ, List.setIfInBounds_toArray, List.set_cons_zero, List.set_cons_succ]
  refine wpAnyH_take (i := 6) (v := ?v27) rfl (by kernel_rfl) (by kernel_rfl) (by kernel_rfl) (fun _ _ _ h => h) (Or.inl ⟨by rfl, ?h27⟩) hHeld ?r27
  case h27 => intro wq hS; go_simp; with_reducible rfl
  try simp only [Act.put, List.getElem_toArray, List.getElem_cons_zero, List.getElem_cons_succ, List.setIfInBounds_toArray, List.set_cons_zero, List.set_cons_succ]
  refine wpAnyH_take (i := 8) (v := ?v28) rfl (by kernel_rfl) (by kernel_rfl) (by kernel_rfl) (fun _ _ _ h => h) (Or.inl ⟨by rfl, ?h28⟩) hHeld ?r28
  case h28 => intro wq hS; go_simp; with_reducible rfl
  try simp only [Act.put, List.getElem_toArray, List.getElem_cons_zero, List.getElem_cons_succ, List.setIfInBounds_toArray, List.set_cons_zero, List.set_cons_succ]
  refine wpAnyH_take (i := 9) (v := ?v29) rfl (by kernel_rfl) (by kernel_rfl) (by kernel_rfl) (fun _ _ _ h => h) (Or.inl ⟨by rfl, ?h29⟩) hHeld ?r29
  case h29 => intro wq hS; go_simp; with_reducible rfl
  try simp only [Act.put, List.getElem_toArray, List.getElem_cons_zero, List.getElem_cons_succ, List.setIfInBounds_toArray, List.set_cons_zero, List.set_cons_succ]
  refine wpAnyH_take (i := 10) (v := ?v30) rfl (by kernel_rfl) (by kernel_rfl) (by kernel_rfl) (fun _ _ _ h => h) (Or.inl ⟨by rfl, ?h30⟩) hHeld ?r30
  case h30 => intro wq hS; go_simp; with_reducible rfl
  try simp only [Act.put, List.getElem_toArray, List.getElem_cons_zero, List.getElem_cons_succ, List.setIfInBounds_toArray, List.set_cons_zero, List.set_cons_succ]
  refine wpAnyH_ready (rs := [7, 11]) (by kernel_rfl) (by simp) ?_
  refine AllReadyH.cons rfl (fun K hK => ?_) ?_
  · go_simp
    refine hK.out _ _ (trivial) (fun hHeld => ?_)
    clear hK K
    try simp only [Act.put, List.getElem_toArray, List.getElem_cons_zero, List.getElem_cons_succ, List.setIfInBounds_toArray, List.set_cons_zero, List.set_cons_succ]
    refine wpAnyH_ready (rs := [11]) (by kernel_rfl) (by simp) ?_
    refine AllReadyH.cons rfl (fun K hK => ?_) AllReadyH.nil
    go_simp
    refine hK.out _ _ (trivial) (fun hHeld => ?_)
    clear hK K
    try simp only [Act.put, List.getElem_toArray, List.getElem_cons_zero, List.getElem_cons_succ, List.setIfInBounds_toArray, List.set_cons_zero, List.set_cons_succ]
    refine wpAnyH_take (i := 12) (v := ?v31) rfl (by kernel_rfl) (by kernel_rfl) (by kernel_rfl) (fun _ _ _ h => h) (Or.inl ⟨by rfl, ?h31⟩) hHeld ?r31
    case h31 => intro wq hS; go_simp; with_reducible rfl
    try simp only [Act.put, List.getElem_toArray, List.getElem_cons_zero, List.getElem_cons_succ, List.setIfInBounds_toArray, List.set_cons_zero, List.set_cons_succ]
    clear p0 p1 p2 p3 p4 q0 q1 q2 q3 q4
    refine wpAnyH_ready (rs := [13]) (by kernel_rfl) (by simp) ?_
    refine AllReadyH.cons rfl (fun K hK => ?_) AllReadyH.nil
    refine step_store rfl 34 (.tmp 18) (.tmp 13) rfl g (i * 5) #[.int .i64 j0, .int .i64 j1, .int .i64 j2, .int .i64 j3, .bool j4] rfl rfl HT1.out sizeInfoRow (by simp [Value.oneCell']) ?_
    rw [HW1.out]
    refine hK.out _ _ (trivial) (fun hHeld => ?_)
    clear hK K
    try simp only [Act.put, List.getElem_toArray, List.getElem_cons_zero, List.getElem_cons_succ, List.setIfInBounds_toArray, List.set_cons_zero, List.set_cons_succ]
    refine wpAnyH_take (i := 14) (v := ?v32) rfl (by kernel_rfl) (by kernel_rfl) (by kernel_rfl) (fun _ _ _ h => h) (Or.inl ⟨by rfl, ?h32⟩) hHeld ?r32
    case h32 => intro wq hS; go_simp; with_reducible rfl
    try simp only [Act.put, List.getElem_toArray, List.getElem_cons_zero, List.getElem_cons_succ, List.setIfInBounds_toArray, List.set_cons_zero, List.set_cons_succ]
    refine wpAnyH_ready (rs := [15]) (by kernel_rfl) (by simp) ?_
    refine AllReadyH.cons rfl (fun K hK => ?_) AllReadyH.nil
    refine step_store rfl 34 (.tmp 19) (.tmp 17) rfl g (j * 5) #[.int .i64 i0, .int .i64 i1, .int .i64 i2, .int .i64 i3, .bool i4] rfl rfl HT2.out sizeInfoRow (by simp [Value.oneCell']) ?_
    rw [HW2.out]
    refine hK.out _ _ (trivial) (fun hHeld => ?_)
    clear hK K
    try simp only [Act.put, List.getElem_toArray, List.getElem_cons_zero, List.getElem_cons_succ, List.setIfInBounds_toArray, List.set_cons_zero, List.set_cons_succ]
    refine wpAnyH_done (by kernel_rfl) ?_ _
    have hF := HF.out
    have hT := HT.out
    go_end0
    exact ⟨rfl, hF, hT⟩
  refine AllReadyH.cons rfl (fun K hK => ?_) AllReadyH.nil
  · go_simp
    refine hK.out _ _ (trivial) (fun hHeld => ?_)
    clear hK K
    try simp only [Act.put, List.getElem_toArray, List.getElem_cons_zero, List.getElem_cons_succ, List.setIfInBounds_toArray, List.set_cons_zero, List.set_cons_succ]
    refine wpAnyH_ready (rs := [7]) (by kernel_rfl) (by simp) ?_
    refine AllReadyH.cons rfl (fun K hK => ?_) AllReadyH.nil
    go_simp
    refine hK.out _ _ (trivial) (fun hHeld => ?_)
    clear hK K
    try simp only [Act.put, List.getElem_toArray, List.getElem_cons_zero, List.getElem_cons_succ, List.setIfInBounds_toArray, List.set_cons_zero, List.set_cons_succ]
    refine wpAnyH_take (i := 12) (v := ?v33) rfl (by kernel_rfl) (by kernel_rfl) (by kernel_rfl) (fun _ _ _ h => h) (Or.inl ⟨by rfl, ?h33⟩) hHeld ?r33
    case h33 => intro wq hS; go_simp; with_reducible rfl
    try simp only [Act.put, List.getElem_toArray, List.getElem_cons_zero, List.getElem_cons_succ, List.setIfInBounds_toArray, List.set_cons_zero, List.set_cons_succ]
    clear p0 p1 p2 p3 p4 q0 q1 q2 q3 q4
    refine wpAnyH_ready (rs := [13]) (by kernel_rfl) (by simp) ?_
    refine AllReadyH.cons rfl (fun K hK => ?_) AllReadyH.nil
    refine step_store rfl 34 (.tmp 18) (.tmp 13) rfl g (i * 5) #[.int .i64 j0, .int .i64 j1, .int .i64 j2, .int .i64 j3, .bool j4] rfl rfl HT1.out sizeInfoRow (by simp [Value.oneCell']) ?_
    rw [HW1.out]
    refine hK.out _ _ (trivial) (fun hHeld => ?_)
    clear hK K
    try simp only [Act.put, List.getElem_toArray, List.getElem_cons_zero, List.getElem_cons_succ, List.setIfInBounds_toArray, List.set_cons_zero, List.set_cons_succ]
    refine wpAnyH_take (i := 14) (v := ?v34) rfl (by kernel_rfl) (by kernel_rfl) (by kernel_rfl) (fun _ _ _ h => h) (Or.inl ⟨by rfl, ?h34⟩) hHeld ?r34
    case h34 => intro wq hS; go_simp; with_reducible rfl
    try simp only [Act.put, List.getElem_toArray, List.getElem_cons_zero, List.getElem_cons_succ, List.setIfInBounds_toArray, List.set_cons_zero, List.set_cons_succ]
    refine wpAnyH_ready (rs := [15]) (by kernel_rfl) (by simp) ?_
    refine AllReadyH.cons rfl (fun K hK => ?_) AllReadyH.nil
    refine step_store rfl 34 (.tmp 19) (.tmp 17) rfl g (j * 5) #[.int .i64 i0, .int .i64 i1, .int .i64 i2, .int .i64 i3, .bool i4] rfl rfl HT2.out sizeInfoRow (by simp [Value.oneCell']) ?_
    rw [HW2.out]
    refine hK.out _ _ (trivial) (fun hHeld => ?_)
    clear hK K
    try simp only [Act.put, List.getElem_toArray, List.getElem_cons_zero, List.getElem_cons_succ, List.setIfInBounds_toArray, List.set_cons_zero, List.set_cons_succ]
    refine wpAnyH_done (by kernel_rfl) ?_ _
    have hF := HF.out
    have hT := HT.out
    go_end0
    exact ⟨rfl, hF, hT⟩
theorem assertRow (v : Value) (w : World) : (Instr.typeAssert (.iface 34 v) 20 34 false).run Try.prog w = .ok v w := by kernel_rfl
/-- a queue: its box, its rows -/
def QAt (w : World) (bq base : Nat) (a : Option Addr) (d : List Rw) : Prop := ∃ cap, Blk w bq #[.slice a d.length cap] 105 ∧ OwnRw w base (.slice a d.length cap) d
theorem q_ne_r : 105 ≠ 34 := by decide
/-- the box is no row -/
theorem box_other {w : World} {bq base : Nat} {v u : Value} {d : List Rw} (hK : Blk w bq #[u] 105) (hO : OwnRw w base v d) : v.ownBlock ≠ some bq := by
  intro e
  obtain ⟨_, h' | ⟨g', c', cur, h', _, hg, _⟩⟩ := hO
  · rw [h'.1] at e; simp [Value.ownBlock] at e
  · rw [h'] at e
    simp [Value.ownBlock] at e
    subst e
    unfold Blk at hK
    rw [hg] at hK
    simp only [Option.some.injEq, Obj.cells.injEq] at hK
    exact q_ne_r hK.2.1.symm

set_option linter.unusedSimpArgs false in
set_option maxRecDepth 20000 in
set_option maxHeartbeats 1000000 in
theorem push_q {w : World} {bq base : Nat} {a : Option Addr} {d : List Rw} (h : QAt w bq base a d) (hd : d.length ≤ 100000) (hb : base ≤ w.heap.size) (r : Rw) :
    Calls Try.prog 134 #[.pointer (some ⟨bq, 0, none⟩), .iface 34 r.val] w fun e w' => e = .returned (.tuple #[]) ∧ ∃ a', QAt w' bq base a' (d ++ [r]) ∧ Turned (bq :: blkOf a) w w' ∧ ∀ b ∈ blkOf a', b ∈ blkOf a ∨ w.heap.size ≤ b := by
  obtain ⟨cap, hK, hO⟩ := h
  obtain ⟨i0, hi, hz0, hz1, hz2⟩ := info_parts infoRow
  have hbx := box_other hK hO
  obtain ⟨n, hn⟩ : ∃ n, d.length = n := ⟨_, rfl⟩
  unfold OwnRw at hO
  rw [hn] at hK hO hbx hd
  have c0 : w.cell? ⟨bq, 0, none⟩ = some (.slice a n cap) := hK.cell 0
  have HK := Lib.hid hK; have HO := Lib.hid hO; have HN := Lib.hid hn; have HBX := Lib.hid hbx
  clear hK hO hn hbx
  obtain ⟨r0, r1, r2, r3, r4⟩ := r
  unfold Rw.val
  simp only
  have has := assertRow
  go_enter Try.func134, Try.ntmps134
  refine wp_region_held_drew (S := fun _ => True) (by kernel_rfl) (trivial) (fun hHeld => ?_)
  refine wpAnyH_take (i := 0) (v := ?v35) rfl (by kernel_rfl) (by kernel_rfl) (by kernel_rfl) (fun _ _ _ h => h) (Or.inl ⟨by rfl, ?h35⟩) hHeld ?r35
  case h35 => intro wq hS; go_simp; with_reducible rfl
  try simp only [Act.put, List.getElem_toArray, List.getElem_cons_zero, List.getElem_cons_succ, List.setIfInBounds_toArray, List.set_cons_zero, List.set_cons_succ]
  refine wpAnyH_take (i := 1) (v := ?v36) rfl (by kernel_rfl) (by kernel_rfl) (by kernel_rfl) (fun _ _ _ h => h) (Or.inl ⟨by rfl, ?h36⟩) hHeld ?r36
  case h36 => intro wq hS; go_simp; with_reducible rfl
  try simp only [Act.put, List.getElem_toArray, List.getElem_cons_zero, List.getElem_cons_succ, List.setIfInBounds_toArray, List.set_cons_zero, List.set_cons_succ]
  refine wpAnyH_take (i := 2) (v := ?v37) rfl (by kernel_rfl) (by kernel_rfl) (by kernel_rfl) (fun _ _ _ h => h) (Or.inl ⟨by rfl, ?h37⟩) hHeld ?r37
  case h37 => intro wq hS; go_simp; with_reducible rfl
  try simp only [Act.put, List.getElem_toArray, List.getElem_cons_zero, List.getElem_cons_succ, List.setIfInBounds_toArray, List.set_cons_zero, List.set_cons_succ]
  refine wpAnyH_take (i := 4) (v := ?v38) rfl (by kernel_rfl) (by kernel_rfl) (by kernel_rfl) (fun _ _ _ h => h) (Or.inl ⟨by rfl, ?h38⟩) hHeld ?r38
  case h38 => intro wq hS; go_simp; with_reducible rfl
  try simp only [Act.put, List.getElem_toArray, List.getElem_cons_zero, List.getElem_cons_succ, List.setIfInBounds_toArray, List.set_cons_zero, List.set_cons_succ]
  refine wpAnyH_take (i := 5) (v := ?v39) rfl (by kernel_rfl) (by kernel_rfl) (by kernel_rfl) (fun _ _ _ h => h) (Or.inl ⟨by rfl, ?h39⟩) hHeld ?r39
  case h39 => intro wq hS; go_simp; with_reducible rfl
  try simp only [Act.put, List.getElem_toArray, List.getElem_cons_zero, List.getElem_cons_succ, List.setIfInBounds_toArray, List.set_cons_zero, List.set_cons_succ]
  refine wpAnyH_ready (rs := [3, 6]) (by kernel_rfl) (by simp) ?_
  refine AllReadyH.cons rfl (fun K hK => ?_) ?_
  · go_simp
    refine hK.out _ _ (trivial) (fun hHeld => ?_)
    clear hK K
    try simp only [Act.put, List.getElem_toArray, List.getElem_cons_zero, List.getElem_cons_succ, List.setIfInBounds_toArray, List.set_cons_zero, List.set_cons_succ]
    refine wpAnyH_ready (rs := [6]) (by kernel_rfl) (by simp) ?_
    refine AllReadyH.cons rfl (fun K hK => ?_) AllReadyH.nil
    go_simp
    refine hK.out _ _ (trivial) (fun hHeld => ?_)
    clear hK K
    try simp only [Act.put, List.getElem_toArray, List.getElem_cons_zero, List.getElem_cons_succ, List.setIfInBounds_toArray, List.set_cons_zero, List.set_cons_succ]
    refine wpAnyH_ready (rs := [7]) (by kernel_rfl) (by simp) ?_
    refine AllReadyH.cons rfl (fun K hK => ?_) AllReadyH.nil
    refine step_append_lies _ rfl (.tmp 7) (.tmp 10) 105 rfl base 34 i0 (.agg #[.int .i64 0, .int .i64 0, .int .i64 0, .int .i64 0, .bool false]) 5 40 Try.underlying105 hi hz0 hz1 hz2 rfl (by decide) (.slice a n cap) _ _ rfl (World.ownsRow.alloc (World.ownsRow.drew HO.out) _) ⟨w.heap.size, 0, none⟩ 1 1 [.int .i64 r0, .int .i64 r1, .int .i64 r2, .int .i64 r3, .bool r4] rfl rfl (cells_new w _ _) (by simp [Value.oneCell']) (by decide) (by unfold maxLen; omega) (by omega) (by simp; omega) _ rfl ?_
    intro ga ca w5 hown5 hgrow5 hat5 hlt5
    replace hgrow5 : (w.alloc (.cells #[.int .i64 r0, .int .i64 r1, .int .i64 r2, .int .i64 r3, .bool r4] 34)).grownBy w5 (Value.slice a n cap).ownBlock := ⟨hgrow5.os, hgrow5.tape, hgrow5.output, hgrow5.size, hgrow5.block⟩
    refine hK.out _ _ (trivial) (fun hHeld => ?_)
    clear hK K
    try simp only [Act.put, List.getElem_toArray, List.getElem_cons_zero, List.getElem_cons_succ, List.setIfInBounds_toArray, List.set_cons_zero, List.set_cons_succ]
    refine wpAnyH_take (i := 8) (v := ?v40) rfl (by kernel_rfl) (by kernel_rfl) (by kernel_rfl) (fun _ _ _ h => h) (Or.inl ⟨by rfl, ?h40⟩) hHeld ?r40
    case h40 => intro wq hS; go_simp; with_reducible rfl
    try simp only [Act.put, List.getElem_toArray, List.getElem_cons_zero, List.getElem_cons_succ, List.setIfInBounds_toArray, List.set_cons_zero, List.set_cons_succ]
    refine wpAnyH_ready (rs := [9]) (by kernel_rfl) (by simp) ?_
    refine AllReadyH.cons rfl (fun K hK => ?_) AllReadyH.nil
    have hB5 : Blk w5 bq #[.slice a n cap] 105 := (hgrow5.block _ (by have := HK.out.lt; simp; omega) (fun e => HBX.out e.symm)).trans (HK.out.alloc _)
    have z5 := hB5.frozen 0
    have c5 : w5.cell? ⟨bq, 0, none⟩ = some (.slice a n cap) := hB5.cell 0
    go_simp
    refine hK.out _ _ (trivial) (fun hHeld => ?_)
    clear hK K
    try simp only [Act.put, List.getElem_toArray, List.getElem_cons_zero, List.getElem_cons_succ, List.setIfInBounds_toArray, List.set_cons_zero, List.set_cons_succ]
    refine wpAnyH_done (by kernel_rfl) ?_ _
    clear c5 z5 c0
    have hB6 := hB5.set 0 (.slice (some ⟨ga, 0, none⟩) (n + 1) ca)
    have hown6 : OwnRw w5 base (.slice (some ⟨ga, 0, none⟩) (n + 1) ca) (d ++ [(⟨r0, r1, r2, r3, r4⟩ : Rw)]) := by
      unfold OwnRw
      rw [List.length_append, List.flatMap_append, HN.out]
      simpa [Rw.cs] using hown5
    have hown7 := own_setOther hown6 hB5 q_ne_r (j := 0) (.slice (some ⟨ga, 0, none⟩) (n + 1) ca)
    have hT := (turned_in (B := bq :: blkOf a) ((Turned.refl _ w).alloc (.cells #[.int .i64 r0, .int .i64 r1, .int .i64 r2, .int .i64 r3, .bool r4] 34)) hgrow5 (fun b hb => by cases a with | none => simp [Value.ownBlock] at hb | some x => obtain ⟨xb, xo, xs⟩ := x; simp [Value.ownBlock] at hb; simp [blkOf, hb])).setCell (p := ⟨bq, 0, none⟩) (by simp) (.slice (some ⟨ga, 0, none⟩) (n + 1) ca)
    have hnew : ∀ b ∈ blkOf (some (⟨ga, 0, none⟩ : Addr)), b ∈ blkOf a ∨ w.heap.size ≤ b := by
      intro b hb
      simp [blkOf] at hb
      subst hb
      rcases hat5 with e | e
      · refine .inl ?_
        cases a with
        | none => simp [Value.ownBlock] at e
        | some x => obtain ⟨xb, xo, xs⟩ := x; simp [Value.ownBlock] at e; simp [blkOf, e]
      · simp at e; exact .inr (by omega)
    clear hgrow5 hat5 hlt5 hown5 hown6 hB5 hHeld
    go_end0
    exact ⟨rfl, some ⟨ga, 0, none⟩, ⟨ca, by rw [List.length_append, HN.out]; exact hB6, by rw [List.length_append, HN.out]; exact hown7⟩, hT, hnew⟩
  refine AllReadyH.cons rfl (fun K hK => ?_) AllReadyH.nil
  · go_simp
    refine hK.out _ _ (trivial) (fun hHeld => ?_)
    clear hK K
    try simp only [Act.put, List.getElem_toArray, List.getElem_cons_zero, List.getElem_cons_succ, List.setIfInBounds_toArray, List.set_cons_zero, List.set_cons_succ]
    refine wpAnyH_ready (rs := [3]) (by kernel_rfl) (by simp) ?_
    refine AllReadyH.cons rfl (fun K hK => ?_) AllReadyH.nil
    have c1 : (w.alloc (.cells #[.int .i64 r0, .int .i64 r1, .int .i64 r2, .int .i64 r3, .bool r4] 34)).cell? ⟨bq, 0, none⟩ = some (.slice a n cap) := (HK.out.alloc _).cell 0
    go_simp
    clear c1
    refine hK.out _ _ (trivial) (fun hHeld => ?_)
    clear hK K
    try simp only [Act.put, List.getElem_toArray, List.getElem_cons_zero, List.getElem_cons_succ, List.setIfInBounds_toArray, List.set_cons_zero, List.set_cons_succ]
    refine wpAnyH_ready (rs := [7]) (by kernel_rfl) (by simp) ?_
    refine AllReadyH.cons rfl (fun K hK => ?_) AllReadyH.nil
    refine step_append_lies _ rfl (.tmp 7) (.tmp 10) 105 rfl base 34 i0 (.agg #[.int .i64 0, .int .i64 0, .int .i64 0, .int .i64 0, .bool false]) 5 40 Try.underlying105 hi hz0 hz1 hz2 rfl (by decide) (.slice a n cap) _ _ rfl (World.ownsRow.alloc (World.ownsRow.drew HO.out) _) ⟨w.heap.size, 0, none⟩ 1 1 [.int .i64 r0, .int .i64 r1, .int .i64 r2, .int .i64 r3, .bool r4] rfl rfl (cells_new w _ _) (by simp [Value.oneCell']) (by decide) (by unfold maxLen; omega) (by omega) (by simp; omega) _ rfl ?_
    intro ga ca w5 hown5 hgrow5 hat5 hlt5
    replace hgrow5 : (w.alloc (.cells #[.int .i64 r0, .int .i64 r1, .int .i64 r2, .int .i64 r3, .bool r4] 34)).grownBy w5 (Value.slice a n cap).ownBlock := ⟨hgrow5.os, hgrow5.tape, hgrow5.output, hgrow5.size, hgrow5.block⟩
    refine hK.out _ _ (trivial) (fun hHeld => ?_)
    clear hK K
    try simp only [Act.put, List.getElem_toArray, List.getElem_cons_zero, List.getElem_cons_succ, List.setIfInBounds_toArray, List.set_cons_zero, List.set_cons_succ]
    refine wpAnyH_take (i := 8) (v := ?v41) rfl (by kernel_rfl) (by kernel_rfl) (by kernel_rfl) (fun _ _ _ h => h) (Or.inl ⟨by rfl, ?h41⟩) hHeld ?r41
    case h41 => intro wq hS; go_simp; with_reducible rfl
    try simp only [Act.put, List.getElem_toArray, List.getElem_cons_zero, List.getElem_cons_succ, List.setIfInBounds_toArray, List.set_cons_zero, List.set_cons_succ]
    refine wpAnyH_ready (rs := [9]) (by kernel_rfl) (by simp) ?_
    refine AllReadyH.cons rfl (fun K hK => ?_) AllReadyH.nil
    have hB5 : Blk w5 bq #[.slice a n cap] 105 := (hgrow5.block _ (by have := HK.out.lt; simp; omega) (fun e => HBX.out e.symm)).trans (HK.out.alloc _)
    have z5 := hB5.frozen 0
    have c5 : w5.cell? ⟨bq, 0, none⟩ = some (.slice a n cap) := hB5.cell 0
    go_simp
    refine hK.out _ _ (trivial) (fun hHeld => ?_)
    clear hK K
    try simp only [Act.put, List.getElem_toArray, List.getElem_cons_zero, List.getElem_cons_succ, List.setIfInBounds_toArray, List.set_cons_zero, List.set_cons_succ]
    refine wpAnyH_done (by kernel_rfl) ?_ _
    clear c5 z5 c0
    have hB6 := hB5.set 0 (.slice (some ⟨ga, 0, none⟩) (n + 1) ca)
    have hown6 : OwnRw w5 base (.slice (some ⟨ga, 0, none⟩) (n + 1) ca) (d ++ [(⟨r0, r1, r2, r3, r4⟩ : Rw)]) := by
      unfold OwnRw
      rw [List.length_append, List.flatMap_append, HN.out]
      simpa [Rw.cs] using hown5
    have hown7 := own_setOther hown6 hB5 q_ne_r (j := 0) (.slice (some ⟨ga, 0, none⟩) (n + 1) ca)
    have hT := (turned_in (B := bq :: blkOf a) ((Turned.refl _ w).alloc (.cells #[.int .i64 r0, .int .i64 r1, .int .i64 r2, .int .i64 r3, .bool r4] 34)) hgrow5 (fun b hb => by cases a with | none => simp [Value.ownBlock] at hb | some x => obtain ⟨xb, xo, xs⟩ := x; simp [Value.ownBlock] at hb; simp [blkOf, hb])).setCell (p := ⟨bq, 0, none⟩) (by simp) (.slice (some ⟨ga, 0, none⟩) (n + 1) ca)
    have hnew : ∀ b ∈ blkOf (some (⟨ga, 0, none⟩ : Addr)), b ∈ blkOf a ∨ w.heap.size ≤ b := by
      intro b hb
      simp [blkOf] at hb
      subst hb
      rcases hat5 with e | e
      · refine .inl ?_
        cases a with
        | none => simp [Value.ownBlock] at e
        | some x => obtain ⟨xb, xo, xs⟩ := x; simp [Value.ownBlock] at e; simp [blkOf, e]
      · simp at e; exact .inr (by omega)
    clear hgrow5 hat5 hlt5 hown5 hown6 hB5 hHeld
    go_end0
    exact ⟨rfl, some ⟨ga, 0, none⟩, ⟨ca, by rw [List.length_append, HN.out]; exact hB6, by rw [List.length_append, HN.out]; exact hown7⟩, hT, hnew⟩
end Go.Proofs.Ytleebmbnjdoinaa

