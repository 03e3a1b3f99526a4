/- The values of a map of rows, collected in a slice: maps.Values, slices.AppendSeq, slices.Collect. -/
import Derived.Test.YtleebmbnjdoinaaRset
import Derived.Test.YtleebmbnjdoinaaTbC
import Derived.Shelf.AbstractIn
import Derived.RangeFuncMany
import Derived.RangeFuncLeaves
import Derived.RangeFuncGives
import Derived.Sort.MapsRangeIn
import Derived.Sort.KeysCollected
import Derived.WalkKit
import Derived.OwnWalkIn
import Derived.TacticsInMore
import Derived.RegionIn
import Derived.LoopNIn
import Derived.LoopIn
import Derived.Maps.AppendAt
import Derived.Shelf.SlIter.Collect
namespace Go.Proofs.Ytleebmbnjdoinaa
open Go.RowKit Go.Maps Go.Sort Go.Shelf

/-- maps.Values(m): the map is boxed; the function value captures the box. -/
theorem values_in (F : Fence) (n : Nat) (hf : F.fn 71) (hro : F.round = none) (mb : Option Nat) (w : World) :
    CallsIn F n Try.prog 71 #[.map mb] w fun e w' =>
      e = .returned (.func (.func 91) #[] #[.pointer (some ⟨w.heap.size, 0, none⟩)]) ∧ w' = w.alloc (.cells #[.map mb] 62) := by
  refine callsIn_of_wp Try.func71 rfl hf ?_ hro
  simp only [Try.ntmps71, List.size_toArray, List.length_cons, List.length_nil, Nat.reduceAdd, Nat.reduceSub, Array.replicate_succ, Array.replicate_zero, List.push_toArray, List.append_toArray, List.nil_append, List.cons_append]
  gi_wp2
  go_ret
  exact ⟨rfl, rfl⟩

/-- what has come, of L, where 'left' is still to come -/
def Come (L : List Rw) (left : Lit → Bool) (ss : List Rw) : Prop := ss.Nodup ∧ ∀ r, r ∈ ss ↔ r ∈ L ∧ left r.kl = false
theorem come_start {L : List Rw} (h : Rows L) : Come L (has (dOf L)) [] := by
  refine ⟨List.nodup_nil, fun r => ⟨fun hr => (by cases hr), fun hr => ?_⟩⟩
  have hf := hr.2
  unfold Rw.kl at hf
  rw [dOf_has h (h.2 r hr.1).1 (h.2 r hr.1).2.1] at hf
  unfold tabFind at hf
  rw [Option.isSome_eq_false_iff, Option.isNone_iff_eq_none, List.find?_eq_none] at hf
  exact absurd (decide_eq_true (show r.vid = r.vid ∧ r.mac = r.mac from ⟨rfl, rfl⟩)) (hf r hr.1)
theorem same_kl {L : List Rw} (h : Rows L) {a b : Rw} (ha : a ∈ L) (hb : b ∈ L) : a.kl.sameKey b.kl = decide (a = b) := by
  rw [Bool.eq_iff_iff, decide_eq_true_iff]
  constructor
  · intro e
    exact h.one ha hb (Rw.kl_inj (h.2 a ha) (h.2 b hb) (WideAt.sameKey_eq e))
  · rintro rfl
    exact WideAt.sameKey_self kl_isKey
theorem Come.step {L : List Rw} (h : Rows L) {left : Lit → Bool} {ss : List Rw} (hC : Come L left ss) {r : Rw} (hr : r ∈ L) (hl : left r.kl = true) : Come L (fun z => left z && !z.sameKey r.kl) (ss ++ [r]) := by
  refine ⟨?_, fun x => ?_⟩
  · rw [List.nodup_append]
    refine ⟨hC.1, by simp, fun a ha b hb e => ?_⟩
    rw [List.mem_singleton] at hb
    subst e
    subst hb
    rw [((hC.2 a).1 ha).2] at hl
    cases hl
  · rw [List.mem_append, List.mem_singleton, hC.2 x]
    constructor
    · rintro (⟨h1, h2⟩ | rfl)
      · exact ⟨h1, by simp [h2]⟩
      · refine ⟨hr, ?_⟩
        show (left x.kl && !x.kl.sameKey x.kl) = false
        rw [WideAt.sameKey_self (show WideAt.IsKeyLit x.kl from kl_isKey)]
        simp
    · rintro ⟨h1, h2⟩
      simp only [same_kl h h1 hr, Bool.and_eq_false_iff, Bool.not_eq_false', decide_eq_true_eq] at h2
      rcases h2 with h2 | h2
      · exact .inl ⟨h1, h2⟩
      · exact .inr h2
theorem Come.all {L : List Rw} (h : Rows L) {left : Lit → Bool} {ss : List Rw} (hC : Come L left ss) (hl : ∀ kl, left kl = false) : ss.Perm L :=
  (List.perm_ext_iff_of_nodup hC.1 h.nodup).2 fun r => by rw [hC.2 r, hl]; simp
/-- what the step hands out is a row of the map -/
theorem row_of_step {L : List Rw} (h : Rows L) {x1 x2 : Int} {c : Rw} {kl : Lit} {yd : DataW Unit} {yp : List MemPlace} {left : Lit → Bool} (hkey : keyOf Try.prog 66 (keyV x1 x2) = some kl)
    (hlk : left kl = true) (hsub : ∀ z, left z = true → has (dOf L) z = true) (hv : rowElem c.val = some (yd, yp)) (hat : ∀ zd, (dOf L).atKey kl zd = yd) : c ∈ L ∧ kl = c.kl ∧ x1 = c.vid ∧ x2 = c.mac := by
  obtain ⟨a, b', e, hx, hy, rfl⟩ := keyOf_inv hkey
  unfold keyV at e
  simp at e
  obtain ⟨e1, e2⟩ := e
  have hh := hsub _ hlk
  rw [dOf_has h hx hy, Option.isSome_iff_exists] at hh
  obtain ⟨r', hr'⟩ := hh
  have hm := List.mem_of_find?_eq_some hr'
  have hk := List.find?_some hr'
  unfold hit at hk
  obtain ⟨k1, k2⟩ := of_decide_eq_true hk
  have ha := dOf_at h hm (rowD default)
  unfold Rw.kl at ha
  rw [k1, k2, hat] at ha
  rw [rowElem_mk] at hv
  obtain rfl := rowD_inj ((Prod.mk.inj (Option.some.inj hv)).1.trans ha)
  exact ⟨hm, by unfold Rw.kl; rw [k1, k2], by rw [e1, k1], by rw [e2, k2]⟩

set_option maxRecDepth 100000 in
set_option maxHeartbeats 1000000 in
/-- the iterator: each row comes once -/
theorem values1_in (F : Fence) (n : Nat) (h91 : F.fn 91) (hro : F.round = none) (hn : 1 ≤ n) (l Bm b nn : Nat) (L : List Rw) (J : List Rw → World → Prop)
    (hY : ∀ pre (x : Rw) W, J pre W → pre.length < L.length → YieldAt F (n - 1) Try.prog l #[x.val] W fun e W' => e = .returned (.bool true) ∧ J (pre ++ [x]) W' ∧ KeepsWalks W W')
    (W : World) (hJ : AbidesFrom W.heap.size J) (hm : W.cell? ⟨Bm, 0, none⟩ = some (.map (some b))) (hRM : RM W b nn L) (h0 : J [] W) :
    CallsIn F n Try.prog 91 #[.func (.yield l) #[] #[], .pointer (some ⟨Bm, 0, none⟩)] W fun e W' => (∃ v, e = .returned v) ∧ ∃ ss : List Rw, ss.Perm L ∧ J ss W' := by
  refine callsIn_of_wp Try.func91 rfl h91 ?_ hro
  simp only [Try.ntmps91, List.size_toArray, List.length_cons, List.length_nil, Nat.reduceAdd, Nat.reduceSub, Array.replicate_succ, Array.replicate_zero, List.push_toArray, List.append_toArray, List.nil_append, List.cons_append]
  gi_wp2_with (first
    | (gi_at_range; refine wpListIn_range_own _ rfl _ 62 rfl 66 34 lawK Try.underlying62 _ b nn _ rfl hRM.1 ?_; intro w0 hrg0 hg0 hs0)
    | gi_in)
  go_frame
  gi_loopw [4] (fun _ wr => ∃ (left : Lit → Bool) (cnt : Nat) (ss : List Rw), wr.ranges Try.prog 66 rowElem b W.heap.size nn (dOf L) left cnt ∧ ss.length + cnt ≤ L.length ∧ Come L left ss ∧ (∀ z, left z = true → has (dOf L) z = true) ∧ J ss wr)
    (fun _ wr => wr.rangeLeft b W.heap.size)
  case atStart =>
    exact ⟨_, _, [], hrg0, by simp [dOf_size], come_start hRM.2, fun _ h => h, hJ [] W w0 none h0 hg0 (fun r e => by cases e)⟩
  case round =>
    obtain ⟨left, cnt, ss, hrg, hcs, hC, hsub, hJs⟩ := hrel
    gi_wp2_with (first
      | (gi_at_next; refine wpListIn_next_ranges _ rfl _ rfl 66 lawK rowElem (fun p : Int × Int => keyV p.1 p.2) Rw.val (fun key kl hk => by obtain ⟨x, y, hx, _⟩ := keyOf_inv hk; exact ⟨(x, y), hx⟩) (fun v y hv => by obtain ⟨c, hc, _⟩ := rowElem_inv hv; exact ⟨c, hc⟩) b W.heap.size nn _ _ _ rfl hrg ?_ ?_)
      | gi_in)
    · intro hc0 hl0
      gi_wp2
      go_end0
      exact ⟨⟨_, rfl⟩, ss, hC.all hRM.2 hl0, hJs⟩
    · intro x1 x2 c kl yd yp w2 cnt2 hkey hlk hv hat hrg2 hlt hg2 hs2 hen
      obtain ⟨hcL, rfl, rfl, rfl⟩ := row_of_step hRM.2 hkey hlk hsub hv hat
      have hJ2 : J ss w2 := hJ ss wr w2 (some W.heap.size) hJs hg2 (fun r e => by cases e; exact ⟨Nat.le_refl _, hrg.iter_walk⟩)
      have hC2 := hC.step hRM.2 hcL hlk
      obtain ⟨c0, c1, c2, c3, c4⟩ := c
      have hJ3 : J ss (w2.alloc (.cells #[.int .i64 c0, .int .i64 c1, .int .i64 c2, .int .i64 c3, .bool c4] 34)) := hJ ss w2 _ none hJ2 (World.grownBy_alloc w2 _ none) (fun r e => by cases e)
      obtain ⟨fn, tmps, assign, body, hy, hR⟩ := hY ss ⟨c0, c1, c2, c3, c4⟩ _ hJ3 (by omega)
      unfold Rw.val at hen hy ⊢
      unfold keyV at hen ⊢
      simp only at hen hy ⊢
      clear hs2 hkey hv hat
      gi_wp2
      refine hR.mono ?_
      rintro e W3 ⟨rfl, hJ4, hk3⟩
      have hrg3 := (hrg2.alloc (.cells #[.int .i64 c0, .int .i64 c1, .int .i64 c2, .int .i64 c3, .bool c4] 34)).of_walks hk3
      clear hy hR hen
      gi_wp2
      go_roundw
      case rel => exact ⟨_, cnt2, ss ++ [⟨c0, c1, c2, c3, c4⟩], hrg3, by simp; omega, hC2, fun z hz => hsub z (by simp at hz; exact hz.1), hJ4⟩
      case measure => rw [hrg3.left_eq, hrg.left_eq]; exact hlt
end Go.Proofs.Ytleebmbnjdoinaa
