/- Look of the program. -/
import Derived.Test.YtleebmbnjdoinaaTiOk
import Derived.Laws.StructEq
namespace Go.Proofs.Ytleebmbnjdoinaa
open Go.RowKit

theorem eqKey (a b c d : Int) (w : World) : (binOp .eql 66 (.agg #[.int .i64 a, .int .i64 b]) (.agg #[.int .i64 c, .int .i64 d])).run Try.prog w = .ok (.bool (a == c && b == d)) w := by
  have u3 := Try.underlying3
  have a3 := Try.isAgg3
  have z3 := Try.sizeOf3
  have hS : Try.prog.underlying 66 = some (.struct (Try.prog.fieldsOf 66)) := by kernel_rfl
  have hp : Try.prog.stoodInHeld 66 = false := by kernel_rfl
  rw [run_eql_struct, show (10000 : Nat) = 9999 + 1 from rfl, run_equalIn_agg w 9999 66 _ _ hS hp]
  simp only [Program.fieldsOf, Try.underlying66]
  go_simp
  by_cases h1 : a = c <;> by_cases h2 : b = d <;> simp [h1, h2]
theorem guardKey (op : BinOp) (p q : Operand) (a b c d : Int) (w : World) : (eqGuard op 66 p q (.agg #[.int .i64 a, .int .i64 b]) (.agg #[.int .i64 c, .int .i64 d])).run Try.prog w = .ok () w :=
  run_eqGuard_agg w op _ p q _ _ (by kernel_rfl)

set_option linter.unusedSimpArgs false in
set_option maxHeartbeats 2000000 in
theorem look_impl {w : World} {B : List Nat} {v : Value} {t : Tb} (h : TabIn w B v t) (x y : Int) :
    Calls Try.prog 18 #[v, .int .i64 x, .int .i64 y] w fun e w' => e = .returned (.int .i64 (look t x y)) ∧ Below w.heap.size w w' := by
  have hO := fun w' (hb : Below w.heap.size w w') => tableOk_impl (h.after hb)
  obtain ⟨a, cap, rfl, hs, _, hl, _⟩ := h
  obtain ⟨rs, most⟩ := t
  unfold tabVal at hO ⊢
  simp only at hO hs hl ⊢
  have hb1 : Below w.heap.size w (w.alloc (.cells #[.slice a rs.length cap, .int .i64 most] 26)) := (Below.refl _ _).alloc (Nat.le_refl _) _
  have kA : Blk (w.alloc (.cells #[.slice a rs.length cap, .int .i64 most] 26)) w.heap.size #[.slice a rs.length cap, .int .i64 most] 26 := blk_new _ _ rfl
  have HB1 := Lib.hid hb1; have HKA := Lib.hid kA; have HO := Lib.hid hO
  have HSL := Lib.hid (hs.after hb1)
  clear hO kA hs
  by_cases hok : tabOk ⟨rs, most⟩
  case neg =>
    have hlk : look ⟨rs, most⟩ x y = -1 := by unfold look; rw [if_neg hok]
    rw [hlk]
    clear hb1 hlk
    go_enter Try.func18, Try.ntmps18
    go_wp2_with fail
    refine (HO.out _ HB1.out).mono ?_
    rintro e w2 ⟨rfl, hb2⟩
    rw [decide_eq_false hok]
    have hfin := HB1.out.trans (hb2.mono HB1.out.size)
    clear hb2
    go_wp2_with fail
    go_ret
    exact ⟨rfl, hfin⟩
  have hlk : look ⟨rs, most⟩ x y = portOf (tabFind rs x y) := by unfold look; rw [if_pos hok]
  rw [hlk]
  have hs64 : rs.length ≤ 64 := by have := hok.1.2; have := hok.2.1; simp only at *; omega
  clear hb1 hlk
  obtain ⟨n, hn⟩ : ∃ n, rs.length = n := ⟨_, rfl⟩
  rw [hn] at HB1 HKA HO HSL hs64 ⊢
  have HN := Lib.hid hn; have HOK := Lib.hid hok
  clear hn hl hok
  go_enter Try.func18, Try.ntmps18
  go_wp2_with fail
  refine (HO.out _ HB1.out).mono ?_
  rintro e w2 ⟨rfl, hb2⟩
  rw [decide_eq_true HOK.out]
  have kA := HKA.out.after hb2
  have HSL2 := Lib.hid ((HSL.out.after hb2).after ((Below.refl _ _).alloc (Nat.le_refl _) (.cells #[.int .i64 x, .int .i64 y] 66)))
  have HKY := Lib.hid (blk_new (w := w2) (b := w2.heap.size) #[.int .i64 x, .int .i64 y] 66 rfl)
  have HB3 := Lib.hid ((HB1.out.trans (hb2.mono HB1.out.size)).alloc (Nat.le_trans HB1.out.size hb2.size) (.cells #[.int .i64 x, .int .i64 y] 66))
  have c0 : w2.cell? ⟨w.heap.size, 0, none⟩ = some (.slice a n cap) := kA.cell 0
  have c1 : w2.cell? ⟨w.heap.size, 1, none⟩ = some (.int .i64 most) := kA.cell 1
  have hlt2 : w.heap.size < w2.heap.size := kA.lt
  clear hb2 kA
  go_wp2_with fail
  clear c0 c1 hlt2
  generalize w2.alloc (.cells #[.int .i64 x, .int .i64 y] 66) = w3 at HSL2 HKY HB3 ⊢
  go_loopw [19] (fun i wr => ∃ k : Nat, i = .int .i64 (k : Nat) ∧ k ≤ n ∧ Below w3.heap.size w3 wr ∧ Hid (∀ j (hj : j < k) (h : j < rs.length), hit x y (rs[j]'h) = false))
    (fun i _ => n - (intOf i).toNat)
  case atStart => exact ⟨0, rfl, Nat.zero_le _, Below.refl _ _, Lib.hid (fun j hj => absurd hj (by omega))⟩
  case round =>
    obtain ⟨k, rfl, hk, hWR, HG'⟩ := hrel
    have HWR := Lib.hid hWR
    clear hWR
    by_cases hlt : k < n
    · have hkx : k < rs.length := by rw [HN.out]; exact hlt
      have HG := Lib.hid (fun j (hj : j < k) => HG'.out j hj (by omega))
      obtain ⟨g, o, rfl, _, hK'⟩ := rowAt HSL2.out k hkx
      obtain ⟨d0, d1, d2, d3, d4⟩ := (hK' wr HWR.out).1
      clear hK'
      have hKX := fun w' => key_any rs[k] w'
      obtain ⟨x0, hx0⟩ : ∃ x, rs[k].vid = x := ⟨_, rfl⟩
      obtain ⟨x1, hx1⟩ : ∃ x, rs[k].mac = x := ⟨_, rfl⟩
      obtain ⟨x2, hx2⟩ : ∃ x, rs[k].port = x := ⟨_, rfl⟩
      obtain ⟨x3, hx3⟩ : ∃ x, rs[k].at_ = x := ⟨_, rfl⟩
      obtain ⟨x4, hx4⟩ : ∃ x, rs[k].fixed = x := ⟨_, rfl⟩
      have hval : rs[k].val = .agg #[.int .i64 x0, .int .i64 x1, .int .i64 x2, .int .i64 x3, .bool x4] := by unfold Rw.val; rw [hx0, hx1, hx2, hx3, hx4]
      rw [hx0] at d0
      rw [hx1] at d1
      rw [hx2] at d2
      rw [hx3] at d3
      rw [hx4] at d4
      rw [hval, hx0, hx1] at hKX
      have HKX := Lib.hid hKX; have HX0 := Lib.hid hx0; have HX1 := Lib.hid hx1; have HX2 := Lib.hid hx2
      have HB4 := Lib.hid (Below.alloc (Below.refl wr.heap.size wr) (Nat.le_refl _) (.cells #[.int .i64 x0, .int .i64 x1, .int .i64 x2, .int .i64 x3, .bool x4] 34))
      have HKR := Lib.hid (blk_new (w := wr) (b := wr.heap.size) #[.int .i64 x0, .int .i64 x1, .int .i64 x2, .int .i64 x3, .bool x4] 34 rfl)
      have HKY4 := Lib.hid (HKY.out.after HWR.out)
      clear hKX hx0 hx1 hx2 hx3 hx4 hval
      go_upto_region 7 with fail
      clear d0 d1 d2 d3 d4
      generalize wr.alloc (.cells #[.int .i64 x0, .int .i64 x1, .int .i64 x2, .int .i64 x3, .bool x4] 34) = w4 at HB4 HKR ⊢
      have hK : ∀ w', Below w4.heap.size w4 w' → RowAt w' wr.heap.size 0 ⟨x0, x1, x2, x3, x4⟩ := fun w' hb => ⟨(HKR.out.after hb).cell 0, (HKR.out.after hb).cell 1, (HKR.out.after hb).cell 2, (HKR.out.after hb).cell 3, (HKR.out.after hb).cell 4⟩
      have hA : ∀ w', Below w4.heap.size w4 w' → w'.cell? ⟨w2.heap.size, 0, none⟩ = some (.int .i64 x) := fun w' hb => ((HKY4.out.after HB4.out).after hb).cell 0
      have hB : ∀ w', Below w4.heap.size w4 w' → w'.cell? ⟨w2.heap.size, 1, none⟩ = some (.int .i64 y) := fun w' hb => ((HKY4.out.after HB4.out).after hb).cell 1
      unfold RowAt at hK
      simp only [Nat.zero_add] at hK
      refine wp_region_held_drew (S := fun w' => Below w4.heap.size w4 w') (by kernel_rfl) (Below.drew (Below.refl _ _)) (fun hHeld => ?_)
      refine wpAnyH_take (i := 0) (v := ?v1) rfl (by kernel_rfl) (by kernel_rfl) (by kernel_rfl) (fun _ _ _ h => h) (Or.inl ⟨by rfl, ?h1⟩) hHeld ?r1
      case h1 => intro wq hS; obtain ⟨c0, c1, c2, c3, c4⟩ := hK wq hS; go_simp; with_reducible rfl
      try simp only [Act.put, List.getElem_toArray, List.getElem_cons_zero, List.getElem_cons_succ, List.setIfInBounds_toArray, List.set_cons_zero, List.set_cons_succ]
      refine wpAnyH_take (i := 2) (v := ?v2) rfl (by kernel_rfl) (by kernel_rfl) (by kernel_rfl) (fun _ _ _ h => h) (Or.inl ⟨by rfl, ?h2⟩) hHeld ?r2
      case h2 => intro wq hS; have cA := hA wq hS; have cB := hB wq hS; go_simp; with_reducible rfl
      try simp only [Act.put, List.getElem_toArray, List.getElem_cons_zero, List.getElem_cons_succ, List.setIfInBounds_toArray, List.set_cons_zero, List.set_cons_succ]
      refine wpAnyH_ready (rs := [1]) (by kernel_rfl) (by simp) ?_
      refine AllReadyH.cons rfl (fun K hK => ?_) AllReadyH.nil
      go_simp
      refine (HKX.out _).mono ?_
      rintro e w5 ⟨rfl, hg5⟩
      have hb5 := hg5.below
      refine hK.out _ _ (hHeld.trans (hb5.mono hHeld.size)) (fun hHeld => ?_)
      clear hK K
      try simp only [Act.put, List.getElem_toArray, List.getElem_cons_zero, List.getElem_cons_succ, List.setIfInBounds_toArray, List.set_cons_zero, List.set_cons_succ]
      refine wpAnyH_take (i := 3) (v := ?v3) rfl (by kernel_rfl) (by kernel_rfl) (by kernel_rfl) (fun _ _ _ h => h) (Or.inl ⟨by rfl, ?h3⟩) hHeld ?r3
      case h3 => intro wq hS; have q1 := eqKey x0 x1 x y; have q2 := fun op p q => guardKey op p q x0 x1 x y; go_simp; with_reducible rfl
      try simp only [Act.put, List.getElem_toArray, List.getElem_cons_zero, List.getElem_cons_succ, List.setIfInBounds_toArray, List.set_cons_zero, List.set_cons_succ]
      refine wpAnyH_done (by kernel_rfl) ?_ _
      have hbf := HB4.out.trans (hHeld.mono HB4.out.size)
      have hR := hK _ hHeld
      have HBF := Lib.hid hbf
      clear hHeld hbf hb5 hg5 hK hA hB
      by_cases hh : (x0 == x && x1 == y) = true
      · have HH := Lib.hid (show hit x y rs[k] = true by unfold hit; rw [HX0.out, HX1.out]; simpa using hh)
        have HF := Lib.hid (find_some k hkx HH.out HG.out)
        rw [hh]
        obtain ⟨c0, c1, c2, c3, c4⟩ := hR
        clear hh
        go_wp2_with fail
        go_ret
        exact ⟨by rw [HF.out]; show _ = Ending.returned (Value.int .i64 rs[k].port); rw [HX2.out]; rfl, HB3.out.trans ((HWR.out.trans (HBF.out.mono HWR.out.size)).mono HB3.out.size)⟩
      · have HH := Lib.hid (show hit x y rs[k] = false by unfold hit; rw [HX0.out, HX1.out]; simpa using hh)
        rw [Bool.eq_false_iff.2 hh]
        clear hh hR
        go_wp2_with fail
        go_roundw
        case rel => exact ⟨k + 1, by go_num, by omega, HWR.out.trans (HBF.out.mono HWR.out.size), Lib.hid (fun j hj _ => by by_cases e : j = k; (subst e; exact HH.out); exact HG.out j (by omega))⟩
        case measure => simp [intOf]; omega
    · have hke : k = n := by omega
      have hlt' : ¬ ((k : Int) < (n : Int)) := by omega
      have HF := Lib.hid (find_none (fun j (hj : j < rs.length) => HG'.out j (by rw [HN.out] at hj; omega) hj))
      go_wp2_with fail
      go_ret
      exact ⟨by rw [HF.out]; rfl, HB3.out.trans (HWR.out.mono HB3.out.size)⟩
end Go.Proofs.Ytleebmbnjdoinaa

