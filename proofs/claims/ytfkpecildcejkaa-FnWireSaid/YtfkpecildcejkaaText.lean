/- l01Text: a text of so many bytes is drawn. -/
import Derived.Test.YtfkpecildcejkaaTextL
import Derived.Test.YtfkpecildcejkaaDraw
import Derived.Test.YtfkpecildcejkaaStrs
import Derived.Laws.OwnMore
import Derived.Laws.IdiomStrings
import Derived.Maps.AppendAt
namespace Go.Proofs.Ytfkpecildcejkaa
open Go.RowKit

theorem curF_grow {B c len : Nat} {zs : List Int} {s : Nat × Int} {w w' : World} {r : Option Nat} (hc : CurF B c len zs s w) (hg : w.grownBy w' r) (hr : ∀ g, r = some g → c < g) : CurF B c len zs s w' := by
  obtain ⟨a, cap, hB, hblk, hrow, hlow, hi⟩ := hc
  have hlt : c < w.heap.size := (Array.getElem?_eq_some_iff.1 hblk).1
  refine ⟨a, cap, hB, (hg.block c hlt (fun e => by have := hr c e.symm; omega)).trans hblk, ?_, hlow, hi⟩
  rcases hrow with h | ⟨x, rfl, h1, h2, h3, h4, h5⟩
  · exact .inl h
  · refine .inr ⟨x, rfl, h1, h2, h3, fun i hi => hg.cell (h4 i hi) ?_, h5⟩
    have hx := hlow x rfl (by omega)
    have e : (x.add i).block = x.block := by unfold Addr.add; split <;> rfl
    rw [e]
    intro he
    have := hr x.block he.symm
    omega
theorem curF_of {B c len : Nat} {w : World} (h : Cur B c len w) : ∃ zs s, CurF B c len zs s w := by
  obtain ⟨a, cap, zs, i, h, hB, hblk, hrow, hlow, hi0, hi1⟩ := h
  obtain ⟨j, rfl⟩ := Int.eq_ofNat_of_zero_le hi0
  exact ⟨zs, (j, h), a, cap, hB, hblk, hrow, hlow, by show j ≤ len; omega⟩
theorem CurF.cur {B c len : Nat} {zs : List Int} {s : Nat × Int} {w : World} (h : CurF B c len zs s w) : Cur B c len w := by
  obtain ⟨a, cap, hB, hblk, hrow, hlow, hi⟩ := h
  exact ⟨a, cap, zs, (s.1 : Int), s.2, hB, hblk, hrow, hlow, by omega, by omega⟩
theorem CurF.lt {B c len : Nat} {zs : List Int} {s : Nat × Int} {w : World} (h : CurF B c len zs s w) : c < w.heap.size := by
  obtain ⟨a, cap, hB, hblk, _⟩ := h
  exact (Array.getElem?_eq_some_iff.1 hblk).1
theorem grown_own {a b d : World} {c : Nat} {r : Option Nat} (h : a.grownBy b (some c)) (k : b.grownBy d r) (hr : ∀ g, r = some g → a.heap.size ≤ g) : a.grownBy d (some c) :=
  ⟨k.os.trans h.os, k.tape.trans h.tape, k.output.trans h.output, Nat.le_trans h.size k.size, fun i hi hn => (k.block i (Nat.lt_of_lt_of_le hi h.size) (fun e => by have := hr i e.symm; omega)).trans (h.block i hi hn)⟩

/-- the state of a text under way -/
def TextSt (B c len : Nat) (zs : List Int) (w : World) (v : Value) (l : List UInt8) (s : Nat × Int) (wr : World) : Prop :=
  wr.ownsRow w.heap.size 5 1 v l.length (byteVals l) ∧ CurF B c len zs s wr ∧ w.grownBy wr (some c)

theorem TextSt.drew {B c len : Nat} {zs : List Int} {w : World} {v : Value} {l : List UInt8} {s t : Nat × Int} {wr w1 : World} (h : TextSt B c len zs w v l s wr) (hlt : c < w.heap.size) (hc : CurF B c len zs t w1) (hg : wr.grownBy w1 (some c)) : TextSt B c len zs w v l t w1 := by
  refine ⟨h.1.kept hg ?_, hc, grown_trans h.2.2 hg⟩
  cases hv : v.ownBlock with
  | none => exact .inl rfl
  | some g =>
    right
    have := (h.1.lt g hv).1
    intro e
    cases e
    omega

/-- the measure of a text under way: what it lacks, and the cursor's own -/
noncomputable def textM (n len c : Nat) (v : Value) (w : World) : Nat :=
  (match v with | .slice _ m _ => n - m | _ => 0) * ((len + 1) * lcgM) + (match w.cell? ⟨c, 1, none⟩, w.cell? ⟨c, 2, none⟩ with | some (.int _ i), some (.int _ h) => curM len (i.toNat, h) | _, _ => 0)

theorem textM_eq {B c len : Nat} {zs : List Int} {w : World} {v : Value} {l : List UInt8} {s : Nat × Int} {wr : World} (h : TextSt B c len zs w v l s wr) (n : Nat) : textM n len c v wr = (n - l.length) * ((len + 1) * lcgM) + curM len s := by
  obtain ⟨hrow, ⟨a, cap, hB, hblk, _⟩, _⟩ := h
  have c1 : wr.cell? ⟨c, 1, none⟩ = some (.int .i64 s.1) := by simp [World.cell?, hblk]
  have c2 : wr.cell? ⟨c, 2, none⟩ = some (.int .i64 s.2) := by simp [World.cell?, hblk]
  unfold textM
  rw [c1, c2]
  simp only [Int.toNat_natCast]
  rcases hrow.2 with ⟨rfl, h0⟩ | ⟨g, cap, cur, rfl, _⟩
  · simp only [h0]
  · rfl

theorem textM_more {n m k len : Nat} {s t : Nat × Int} (h : m < k) (hm : m < n) : (n - k) * ((len + 1) * lcgM) + curM len t < (n - m) * ((len + 1) * lcgM) + curM len s := by
  have h1 := curM_lt len t
  have h2 : (n - k) * ((len + 1) * lcgM) ≤ (n - m - 1) * ((len + 1) * lcgM) := Nat.mul_le_mul_right _ (by omega)
  have h3 : (n - m) * ((len + 1) * lcgM) = (n - m - 1) * ((len + 1) * lcgM) + (len + 1) * lcgM := by
    have e : n - m = (n - m - 1) + 1 := by omega
    rw [e, Nat.add_mul, Nat.one_mul]
    rfl
  omega

theorem TextSt.more {B c len : Nat} {zs : List Int} {w : World} {v v' : Value} {l : List UInt8} {s : Nat × Int} {wr wa w1 : World} {y : Int} (h : TextSt B c len zs w v l s wr) (hlt : c < w.heap.size)
    (hga : wr.grownBy wa none) (hown : w1.ownsRow w.heap.size 5 1 v' (l.length + 1) (byteVals l ++ [.int .u8 y])) (hg : wa.grownBy w1 v.ownBlock) (h0 : 0 ≤ y) (h1 : y < 256) :
    TextSt B c len zs w v' (l ++ [UInt8.ofNat y.toNat]) s w1 := by
  have hb : ∀ g, v.ownBlock = some g → w.heap.size ≤ g := fun g e => (h.1.lt g e).1
  refine ⟨?_, curF_grow (curF_grow h.2.1 hga (fun g e => by cases e)) hg (fun g e => by have := hb g e; omega), grown_own (grown_own h.2.2 hga (fun g e => by cases e)) hg hb⟩
  have e : ((UInt8.ofNat y.toNat).toNat : Int) = y := by rw [UInt8.toNat_ofNat']; omega
  rw [byteVals_snoc, e, List.length_append]
  exact hown

theorem TextSt.slice {B c len : Nat} {zs : List Int} {w : World} {v : Value} {l : List UInt8} {s : Nat × Int} {wr : World} (h : TextSt B c len zs w v l s wr) : ∃ ao cap, v = .slice ao l.length cap := by
  rcases h.1.2 with ⟨rfl, h0⟩ | ⟨g, cap, cur, rfl, _⟩
  · exact ⟨none, 0, by rw [h0]⟩
  · exact ⟨_, cap, rfl⟩

set_option maxHeartbeats 2000000 in
set_option maxRecDepth 100000 in
theorem text_any (B c len n : Nat) (hn : n ≤ 200) (w : World) (hl : len ≤ 1048576) (hc : Cur B c len w) :
    Calls Try.prog 87 #[.pointer (some ⟨c, 0, none⟩), .int .i64 n] w fun e w' => ∃ s : ByteArray, s.size = n ∧ e = .returned (.string s) ∧ Cur B c len w' ∧ w.grownBy w' (some c) := by
  obtain ⟨i0, hi, hz0, hz1, hz2⟩ := info_parts info5
  obtain ⟨zs, s0, hc0⟩ := curF_of hc
  have hlt := hc0.lt
  clear hc
  go_enter Try.func87, Try.ntmps87
  go_wp2_with fail
  have hst0 : TextSt B c len zs w (.slice (some ⟨w.heap.size, 0, none⟩) 0 0) [] s0 (w.alloc (.cells #[] 5)) :=
    ⟨World.ownsRow_made _ _ 0 (Nat.le_refl _) (by unfold maxLen; omega) rfl, curF_grow hc0 (World.grownBy_alloc _ _ none) (fun g e => by cases e), World.grownBy_alloc _ _ _⟩
  clear hc0
  go_loopw [5] (fun v wr => ∃ (l : List UInt8) (s : Nat × Int), l.length ≤ n + 20 ∧ TextSt B c len zs w v l s wr) (fun v wr => textM n len c v wr)
  case atStart => exact ⟨[], s0, by simp, hst0⟩
  case round =>
    obtain ⟨l, s, hll, hst⟩ := hrel
    have hm := textM_eq hst n
    by_cases hgo : l.length < n
    · obtain ⟨ao, cap, rfl⟩ := hst.slice
      have hbl := belowF_low len zs 5 (by decide) s
      have hsel := below_st len zs 5 s
      obtain ⟨q, hq⟩ : ∃ q, (belowF len zs 5 s).1 = q := ⟨_, rfl⟩
      go_wp2_with fail
      refine (below_fun B c len zs s 5 (by decide) (by decide) wr hl hst.2.1).mono ?_
      rintro e w1 ⟨rfl, hc1, hg1⟩
      have hst1 := hst.drew hlt hc1 hg1
      rw [hq] at hbl ⊢
      rw [hsel] at hst1
      have HQ := Lib.hid hq; clear hq
      clear hsel hc1 hg1
      have HM := Lib.hid hm; clear hm
      have hq5 : q = 0 ∨ q = 1 ∨ q = 2 ∨ 3 ≤ q := by omega
      rcases hq5 with rfl | rfl | rfl | hq3
      · go_wp2_with fail
        refine (byte_fun B c len zs _ w1 hl hst1.2.1).mono ?_
        rintro e w2 ⟨rfl, hc2, hg2⟩
        have hst2 := hst1.drew hlt hc2 hg2
        have hbb := byteF_low len zs (next1 len s)
        generalize (byteF len zs (next1 len s)).1 = y at hbb
        generalize (byteF len zs (next1 len s)).2 = s2 at hst2
        clear hc2 hg2
        go_wp2_with (at_builtin; refine wpList_append_own _ rfl _ _ 22 rfl w.heap.size 5 i0 (.int .u8 0) 1 1 Try.underlying22 hi hz0 hz1 hz2 rfl (by decide) _ _ _ rfl (hst2.1.alloc _) ⟨w2.heap.size, 0, none⟩ 1 1 [_] rfl rfl (cell_one_new _ _ _) (by simp [Value.oneCell']) (by unfold maxLen; omega) (by omega) (by have := hst2.2.2.size; simp; omega) ?_)
        intro v' w3 hown3 hgrow3 _
        have hst3 := hst2.more hlt (World.grownBy_alloc _ _ none) hown3 hgrow3 hbb.1 hbb.2
        clear hown3 hgrow3
        have hm3 := textM_eq hst3 n
        have HST := Lib.hid hst3; clear hst3 hst2
        have HM3 := Lib.hid hm3; clear hm3
        go_wp2
        go_roundw
        case rel => exact ⟨_, _, by simp; omega, HST.out⟩
        case measure => rw [HM3.out, HM.out]; exact textM_more (by simp) hgo
      · go_wp2_with fail
        refine (below_fun B c len zs _ 9 (by decide) (by decide) w1 hl hst1.2.1).mono ?_
        rintro e w2 ⟨rfl, hc2, hg2⟩
        have hst2 := hst1.drew hlt hc2 hg2
        rw [below_st] at hst2
        have hkb := belowF_low len zs 9 (by decide) (next1 len s)
        generalize (belowF len zs 9 (next1 len s)).1 = k at hkb
        obtain ⟨k, rfl⟩ := Int.eq_ofNat_of_zero_le hkb.1
        clear hc2 hg2
        go_wp2_with fail
        refine (below_fun B c len zs _ 4 (by decide) (by decide) w2 hl hst2.2.1).mono ?_
        rintro e w3 ⟨rfl, hc3, hg3⟩
        have hst3 := hst2.drew hlt hc3 hg3
        rw [below_st] at hst3
        have hxb := belowF_low len zs 4 (by decide) (next1 len (next1 len s))
        generalize (belowF len zs 4 (next1 len (next1 len s))).1 = x at hxb
        clear hc3 hg3
        have hcm := curM_three len zs s (.inl HQ.out)
        generalize next1 len (next1 len (next1 len s)) = s3 at hst3 hcm
        have HC := Lib.hid hcm; clear hcm
        clear hst1 hst2
        go_wp2_with fail
        go_loopw [5, 8] (fun v iv wr => ∃ (l' : List UInt8) (j : Nat), iv = .int .i64 j ∧ j ≤ k ∧ l'.length = l.length + j ∧ TextSt B c len zs w v l' s3 wr) (fun _ iv _ => k - (intOf iv).toNat)
        case atStart => exact ⟨l, 0, rfl, Nat.zero_le _, rfl, hst3⟩
        case round =>
          obtain ⟨l', j, rfl, hj, hll', hst4⟩ := hrel
          by_cases hjk : j < k
          · obtain ⟨ao4, cap4, rfl⟩ := hst4.slice
            go_wp2_with (at_builtin; refine wpList_append_own _ rfl _ _ 22 rfl w.heap.size 5 i0 (.int .u8 0) 1 1 Try.underlying22 hi hz0 hz1 hz2 rfl (by decide) _ _ _ rfl (hst4.1.alloc _) ⟨wr.heap.size, 0, none⟩ 1 1 [_] rfl rfl (cell_one_new _ _ _) (by simp [Value.oneCell']) (by unfold maxLen; omega) (by omega) (by have := hst4.2.2.size; simp; omega) ?_)
            intro v' w5 hown5 hgrow5 _
            rw [← hll'] at hgrow5
            try rw [← hll'] at hown5
            have hst5 := hst4.more (y := 97 + x) hlt (World.grownBy_alloc _ _ none) hown5 hgrow5 (by omega) (by omega)
            clear hown5 hgrow5
            have HST := Lib.hid hst5; clear hst5 hst4
            go_wp2
            go_roundw
            case rel => exact ⟨_, j + 1, by go_num, by omega, by simp; omega, HST.out⟩
            case measure => simp [intOf]; omega
          · obtain rfl : j = k := by omega
            have hm4 := textM_eq hst4 n
            have HST := Lib.hid hst4; clear hst4
            have HM4 := Lib.hid hm4; clear hm4
            go_wp2_with fail
            go_roundw
            case rel => exact ⟨_, _, by omega, HST.out⟩
            case measure =>
              rw [HM4.out, HM.out]
              by_cases hj0 : j = 0
              · subst hj0
                rw [hll', Nat.add_zero]
                have := HC.out
                omega
              · exact textM_more (by omega) hgo
      · by_cases hl0 : l.length = 0
        · have hl0' : ¬ (0 < (l.length : Int)) := by omega
          have hcm := curM_one len zs s (.inr HQ.out)
          have hm1 := textM_eq hst1 n
          clear hl0
          have HC := Lib.hid hcm; clear hcm
          have HST := Lib.hid hst1; clear hst1
          have HM1 := Lib.hid hm1; clear hm1
          go_wp2_with fail
          go_roundw
          case rel => exact ⟨l, _, by omega, HST.out⟩
          case measure =>
            rw [HM1.out, HM.out]
            have := HC.out
            omega
        · have hl1 : 0 < (l.length : Int) := by omega
          go_wp2_with fail
          refine (below_fun B c len zs _ (l.length : Int) (by omega) (by omega) w1 hl hst1.2.1).mono ?_
          rintro e w2 ⟨rfl, hc2, hg2⟩
          have hst2 := hst1.drew hlt hc2 hg2
          rw [below_st] at hst2
          have hfb := belowF_low len zs (l.length : Int) (by omega) (next1 len s)
          generalize (belowF len zs (l.length : Int) (next1 len s)).1 = f at hfb
          obtain ⟨f, rfl⟩ := Int.eq_ofNat_of_zero_le hfb.1
          clear hc2 hg2
          go_wp2_with fail
          refine (below_fun B c len zs _ 20 (by decide) (by decide) w2 hl hst2.2.1).mono ?_
          rintro e w3 ⟨rfl, hc3, hg3⟩
          have hst3 := hst2.drew hlt hc3 hg3
          rw [below_st] at hst3
          have hkb := belowF_low len zs 20 (by decide) (next1 len (next1 len s))
          generalize (belowF len zs 20 (next1 len (next1 len s))).1 = k at hkb
          obtain ⟨k, rfl⟩ := Int.eq_ofNat_of_zero_le hkb.1
          clear hc3 hg3
          have hcm := curM_three len zs s (.inr HQ.out)
          generalize next1 len (next1 len (next1 len s)) = s3 at hst3 hcm
          have HC := Lib.hid hcm; clear hcm
          clear hst1 hst2
          have hfl : f < l.length := by omega
          have hk20 : k < 20 := by omega
          go_wp2_with fail
          go_loopw [5, 11] (fun v iv wr => ∃ (l' : List UInt8) (j : Nat), iv = .int .i64 j ∧ j ≤ k ∧ l'.length = l.length + j ∧ TextSt B c len zs w v l' s3 wr) (fun _ iv _ => k - (intOf iv).toNat)
          case atStart => exact ⟨l, 0, rfl, Nat.zero_le _, rfl, hst3⟩
          case round =>
            obtain ⟨l', j, rfl, hj, hll', hst4⟩ := hrel
            by_cases hjk : j < k
            · obtain ⟨g, cap4, hg4, hg4'⟩ : ∃ g cap, u5 = .slice (some ⟨g, 0, none⟩) l'.length cap ∧ True := by
                rcases hst4.1.2 with ⟨_, h0⟩ | ⟨g, cap, cur, hv, _⟩
                · omega
                · exact ⟨g, cap, hv, trivial⟩
              subst hg4
              have hfj : f + j < l'.length := by omega
              have hca := World.ownsRow.cellAt hst4.1 (f + j) (by omega)
              have hyb : l'[f + j].toNat < 256 := l'[f + j].toNat_lt
              rw [show (byteVals l')[f + j]? = some (.int .u8 ((l'[f + j].toNat : Nat) : Int)) from by simp [byteVals, hfj]] at hca
              generalize l'[f + j].toNat = y at hca hyb
              have hsum : (f : Int) + (j : Int) < (l'.length : Int) := by omega
              go_wp2_with (at_builtin; refine wpList_append_own _ rfl _ _ 22 rfl w.heap.size 5 i0 (.int .u8 0) 1 1 Try.underlying22 hi hz0 hz1 hz2 rfl (by decide) _ _ _ rfl (hst4.1.alloc _) ⟨wr.heap.size, 0, none⟩ 1 1 [_] rfl rfl (cell_one_new _ _ _) (by simp [Value.oneCell']) (by unfold maxLen; omega) (by omega) (by have := hst4.2.2.size; simp; omega) ?_)
              intro v' w5 hown5 hgrow5 _
              rw [← hll'] at hown5
              try rw [← hll'] at hgrow5
              have hst5 := hst4.more (y := (y : Int)) hlt (World.grownBy_alloc _ _ none) hown5 hgrow5 (by omega) (by omega)
              clear hown5 hgrow5
              have HST := Lib.hid hst5; clear hst5 hst4
              go_wp2
              go_roundw
              case rel => exact ⟨_, j + 1, by go_num, by omega, by simp; omega, HST.out⟩
              case measure => simp [intOf]; omega
            · obtain rfl : j = k := by omega
              have hm4 := textM_eq hst4 n
              have HST := Lib.hid hst4; clear hst4
              have HM4 := Lib.hid hm4; clear hm4
              go_wp2_with fail
              go_roundw
              case rel => exact ⟨_, _, by omega, HST.out⟩
              case measure =>
                rw [HM4.out, HM.out]
                by_cases hj0 : j = 0
                · subst hj0
                  rw [hll', Nat.add_zero]
                  have := HC.out
                  omega
                · exact textM_more (by omega) hgo
      · go_wp2_with fail
        refine (below_fun B c len zs _ 26 (by decide) (by decide) w1 hl hst1.2.1).mono ?_
        rintro e w2 ⟨rfl, hc2, hg2⟩
        have hst2 := hst1.drew hlt hc2 hg2
        have hbb := belowF_low len zs 26 (by decide) (next1 len s)
        generalize (belowF len zs 26 (next1 len s)).1 = y at hbb
        generalize (belowF len zs 26 (next1 len s)).2 = s2 at hst2
        clear hc2 hg2
        go_wp2_with (at_builtin; refine wpList_append_own _ rfl _ _ 22 rfl w.heap.size 5 i0 (.int .u8 0) 1 1 Try.underlying22 hi hz0 hz1 hz2 rfl (by decide) _ _ _ rfl (hst2.1.alloc _) ⟨w2.heap.size, 0, none⟩ 1 1 [_] rfl rfl (cell_one_new _ _ _) (by simp [Value.oneCell']) (by unfold maxLen; omega) (by omega) (by have := hst2.2.2.size; simp; omega) ?_)
        intro v' w3 hown3 hgrow3 _
        have hst3 := hst2.more (y := 97 + y) hlt (World.grownBy_alloc _ _ none) hown3 hgrow3 (by omega) (by omega)
        clear hown3 hgrow3
        have hm3 := textM_eq hst3 n
        have HST := Lib.hid hst3; clear hst3 hst2
        have HM3 := Lib.hid hm3; clear hm3
        go_wp2
        go_roundw
        case rel => exact ⟨_, _, by simp; omega, HST.out⟩
        case measure => rw [HM3.out, HM.out]; exact textM_more (by simp) hgo
    · have hge : n ≤ l.length := by omega
      have hn' : (n : Int) ≤ (l.length : Int) := by omega
      have hsz : (⟨(l.take n).toArray⟩ : ByteArray).size = n := by
        show ((l.take n).toArray).size = n
        rw [List.size_toArray, List.length_take]
        omega
      have HZ := Lib.hid hsz; clear hsz hm
      rcases hst.1.2 with ⟨rfl, h0⟩ | ⟨g, cap, cur, rfl, _, _, hcap, _⟩
      · obtain rfl : n = 0 := by omega
        have hcv := run_string_owned (l := []) (World.ownsRow_nil wr w.heap.size 5 1)
        have HST := Lib.hid hst; clear hst
        go_wp2_with fail
        go_ret
        exact ⟨_, rfl, rfl, HST.out.2.1.cur, HST.out.2.2⟩
      · have hpre := ownsRow_prefix hst.1 hge
        rw [show (byteVals l).take n = byteVals (l.take n) from by simp only [byteVals, List.map_take]] at hpre
        have hcv := run_string_owned hpre
        clear hpre
        have hc' : (n : Int) ≤ (cap : Int) := by omega
        have HST := Lib.hid hst; clear hst
        go_wp2_with fail
        go_ret
        exact ⟨_, HZ.out, rfl, HST.out.2.1.cur, HST.out.2.2⟩
end Go.Proofs.Ytfkpecildcejkaa
