/- The program's sets with one number left out. -/
import Derived.Test.YtfkpecildcejkaaSw
namespace Go.Proofs.Ytfkpecildcejkaa
open Go.RowKit Go.Shelf Go.Sort Go.Lib

theorem OwnI.lower {w : World} {base base' : Nat} {v : Value} {xs : List Int} (h : OwnI w base v xs) (hb : base' ≤ base) : OwnI w base' v xs := by
  refine ⟨h.1, ?_⟩
  rcases h.2 with h' | ⟨g, cap, cur, h1, h2, h3⟩
  · exact .inl h'
  · exact .inr ⟨g, cap, cur, h1, Nat.le_trans hb h2, h3⟩
theorem OwnI.front {W : World} {base g n cap : Nat} {xs ys : List Int} (h : W.ownsRow base 3 1 (.slice (some ⟨g, 0, none⟩) n cap) n ((xs ++ ys).map (Value.int .i64))) (hl : (xs ++ ys).length = n) : OwnI W base (.slice (some ⟨g, 0, none⟩) xs.length cap) xs := by
  obtain ⟨hx, h' | ⟨g', cap', cur, h', hb, hg, hnc, hcm, hcs, htake⟩⟩ := h
  · simp at h'
  simp only [Value.slice.injEq, Option.some.injEq, Addr.mk.injEq, and_true, true_and] at h'
  obtain ⟨rfl, rfl⟩ := h'
  rw [List.length_append] at hl
  refine ⟨by simp, .inr ⟨g, cap, cur, rfl, hb, hg, by omega, hcm, hcs, ?_⟩⟩
  have e : (cur.toList.take (n * 1)).take (xs.length * 1) = cur.toList.take (xs.length * 1) := by rw [List.take_take, Nat.min_eq_left (by omega)]
  rw [← e, htake, List.map_append]
  exact List.take_left' (by simp)

theorem strike_gives (n x : Int) (B : Nat) (W : World) (hc : W.cell? ⟨B, 0, none⟩ = some (.int .i64 n)) :
    FnGives Try.prog 82 #[.pointer (some ⟨B, 0, none⟩)] #[.int .i64 x] (.bool (decide (x = n))) W := by
  show Calls Try.prog 82 #[.int .i64 x, .pointer (some ⟨B, 0, none⟩)] W _
  obtain ⟨r, hr⟩ : ∃ r, decide (x = n) = r := ⟨_, rfl⟩
  have hq : (x == n) = r := by rw [← hr]; rfl
  rw [hr]
  clear hr
  go_enter Try.func82, Try.ntmps82
  go_wp2_with fail
  go_ret
  exact ⟨rfl, 0, rfl⟩
theorem strike_pred (n : Int) (B : Nat) (w : World) (hB : B < w.heap.size) (hcell : w.cell? ⟨B, 0, none⟩ = some (.int .i64 n)) :
    PredAt Try.prog 82 #[.pointer (some ⟨B, 0, none⟩)] (Value.int .i64) (fun x => decide (x = n)) w :=
  fun W x hb => strike_gives n x B W ((hb.cell (p := ⟨B, 0, none⟩) hB).trans hcell)
theorem strike_over (n : Int) (B blk off size : Nat) (w : World) (hB : B < w.heap.size) (hne : B ≠ blk) (hcell : w.cell? ⟨B, 0, none⟩ = some (.int .i64 n)) :
    PredOver Try.prog 82 #[.pointer (some ⟨B, 0, none⟩)] (Value.int .i64) (fun x => decide (x = n)) blk off size w :=
  fun q os dk x _ => strike_gives n x B _ (by
    unfold sortWorld
    rw [cell?_grow _ _ _ (by show B < (putRow _ _ _ _ _).heap.size; rw [size_putRow]; exact hB), cell?_putRow_other _ _ blk off _ _ (Or.inl hne)]
    exact hcell)

theorem del_impl {W : World} {base : Nat} {v : Value} {xs : List Int} (n : Int) (B : Nat) (h : OwnI W base v xs) (hB : B < base) (hcell : W.cell? ⟨B, 0, none⟩ = some (.int .i64 n)) (hsz : xs.length ≤ 2097152) (hbase : base ≤ W.heap.size) :
    Calls Try.prog 80 #[v, .func (.func 82) #[] #[.pointer (some ⟨B, 0, none⟩)]] W fun e w' =>
      ∃ v', e = .returned v' ∧ OwnI w' base v' (without xs n) ∧ Below base W w' := by
  obtain ⟨hx, h' | ⟨g, cap, cur, rfl, hbg, hg, hnc, hcm, hcs, htake⟩⟩ := h
  · obtain ⟨rfl, h0⟩ := h'
    obtain rfl := List.eq_nil_of_length_eq_zero h0
    have hI := AnyE.slices_IndexFunc_empty (P := Try.prog) (ρ := lays6Del_ren) { lays6Del with } none 0 (.func (.func 82) #[] #[.pointer (some ⟨B, 0, none⟩)]) W
    change Calls Try.prog 92 _ _ _ at hI
    have HI := Lib.hid hI
    clear hI hcell
    go_enter Try.func80, Try.ntmps80
    go_wp2_with fail
    refine HI.out.mono ?_
    rintro e w1 ⟨rfl, rfl⟩
    go_wp2_with fail
    go_ret
    exact ⟨_, rfl, ownI_nil _ _, Below.refl _ _⟩
  · rw [Nat.mul_one] at htake
    have eg : ∀ args w, (callFunc 82 args).run Try.prog w = .ok (.enter 82 args) w := enters_of Try.func82 (by kernel_rfl) rfl
    have hH := holds_of_blockI hg htake
    have hcon := AnyE.slices_DeleteFunc lays6Del (Value.int .i64) (fun _ => rfl) (fun x => decide (x = n)) 82 #[.pointer (some ⟨B, 0, none⟩)] eg 0 Try.zeroValue3 g 0 cap xs.toArray W
      (strike_pred n B W (by omega) hcell) (strike_over n B g 0 _ W (by omega) (by omega) hcell) hH (by simp; omega) (by simpa using hnc)
    change Calls Try.prog 80 _ _ _ at hcon
    rw [show xs.toArray.size = xs.length by simp] at hcon
    refine hcon.mono ?_
    rintro e w' ⟨rfl, q, rfl⟩
    have ek : (xs.toArray.toList.filter fun x => !decide (x = n)) = without xs n := by
      unfold without
      simp
    rw [ek]
    have hle : (without xs n).length ≤ xs.length := without_len xs n
    have hts : (without xs n ++ List.replicate (xs.length - (without xs n).length) 0).length = xs.length := by
      rw [List.length_append, List.length_replicate]; omega
    have ho := ownsRow_sortedI (os := #[]) (n := q) hts hbg hg hnc hcm hcs
    have hgr := grownBy_sortedI (w := W) (g := g) (n := q) (os := #[]) (without xs n ++ List.replicate (xs.length - (without xs n).length) 0).toArray
    rw [grow_empty] at ho hgr
    exact ⟨_, rfl, OwnI.front ho hts, (Below.refl base W).grown hgr hbase (fun k e => by cases e; exact hbg)⟩
end Go.Proofs.Ytfkpecildcejkaa
