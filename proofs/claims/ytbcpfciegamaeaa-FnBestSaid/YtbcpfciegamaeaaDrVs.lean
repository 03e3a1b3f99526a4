/- The drawn lists of vectors. -/
import Derived.Test.YtbcpfciegamaeaaDrVc
import Derived.Test.YtbcpfciegamaeaaVcS
import Derived.Test.YtbcpfciegamaeaaOw
namespace Go.Proofs.Ytbcpfciegamaeaa
open Go.RowKit

def DrewVcs (w : World) (e : Ending) (w' : World) : Prop := ∃ (xs : List Vc) (a : Option Addr) (cap : Nat), e = .returned (.slice a xs.length cap) ∧ SlIn kdVc w' a xs ∧ xs.length ≤ 5 ∧ (∀ x ∈ xs, x.fit) ∧ Below w.heap.size w w'
set_option linter.unusedVariables false in
set_option linter.unusedSimpArgs false in
set_option maxRecDepth 20000 in
set_option maxHeartbeats 4000000 in
theorem drawBest_any (w : World) (a : Option Addr) (len cap : Nat) (zs : List Int) (hl : len ≤ 1048576) (hrow : IsRow .u8 w a len cap zs) (hlow : ∀ x, a = some x → 0 < cap → x.block < w.heap.size) :
    Calls Try.prog 14 #[.slice a len cap] w (DrewVcs w) := by
  obtain ⟨i0, hI0, hI1, hI2, hI3⟩ := info_parts infoVc
  go_enter Try.func14, Try.ntmps14
  go_wp2_with fail
  refine (new_any w a len cap zs hl hrow hlow).mono ?_
  rintro e x1 ⟨rfl, hc1, hb1, hs1⟩
  have ho1 : OwnS kdVc (x1.alloc (.cells #[] 25)) x1.heap.size (.slice (some ⟨x1.heap.size, 0, none⟩) 0 0) [] := own_none kdVc x1 _ rfl
  have hc1' : Cur w.heap.size w.heap.size len (x1.alloc (.cells #[] 25)) := cur_alloc hc1 _ _
  have hb1' : Below w.heap.size w (x1.alloc (.cells #[] 25)) := hb1.alloc hb1.size _
  have HO := Lib.hid ho1; have HC := Lib.hid hc1'; have HB := Lib.hid hb1'; have HL := Lib.hid hs1; have HXL := Lib.hid (show x1.heap.size ≤ (x1.alloc (.cells #[] 25)).heap.size by simp)
  clear ho1 hc1 hc1' hb1 hb1' hs1 hrow hlow
  go_wp2_with fail
  generalize x1.alloc (.cells #[] 25) = x2 at HO HC HB HXL ⊢
  generalize x1.heap.size = b1 at HO HL HXL ⊢
  refine (below_any w.heap.size w.heap.size len 5 (by decide) (by decide) _ hl HC.out).mono ?_
  rintro e x3 ⟨m, rfl, hm0, hm1, hc3, hg3⟩
  have HO := Lib.hid (HO.out.kept hg3 HL.out); have HB := Lib.hid (HB.out.grown hg3 HB.out.size (fun k e => by cases e; omega)); have HC := Lib.hid hc3; have HXL := Lib.hid (Nat.le_trans HXL.out hg3.size)
  clear hc3 hg3
  go_wp2_with fail
  go_loopw [4, 6] (fun l i wr => ∃ (k : Nat) (xs : List Vc) (va : Option Addr) (vc : Nat), l = .slice va k vc ∧ i = .int .i64 (k : Nat) ∧ (k : Int) ≤ m ∧ xs.length = k ∧ Hid (OwnS kdVc wr b1 (.slice va k vc) xs) ∧ Hid (Cur w.heap.size w.heap.size len wr) ∧ Hid (Below w.heap.size w wr) ∧ Hid (b1 ≤ wr.heap.size) ∧ Hid (∀ x ∈ xs, x.fit))
    (fun _ i _ => m.toNat - (intOf i).toNat)
  case atStart => exact ⟨0, [], _, _, rfl, rfl, hm0, rfl, HO, HC, HB, HXL, Lib.hid (fun x hx => absurd hx (by simp))⟩
  case round =>
    obtain ⟨k, xs, va, vc, rfl, rfl, hk, hxs, HO, HC, HB, HXL, HFT⟩ := hrel
    by_cases hlt : (k : Int) < m
    · go_wp2_with fail
      refine (any8_any w.heap.size w.heap.size len _ hl HC.out).mono ?_
      rintro e y1 ⟨⟨zr, zc, zb, zp⟩, rfl, hft1, hc1, hg1⟩
      have HFT := Lib.hid (show ∀ x ∈ xs ++ [⟨zr, zc, zb, zp⟩], x.fit from fun x hx => by
        rcases List.mem_append.1 hx with h | h
        · exact HFT.out x h
        · obtain rfl := List.mem_singleton.1 h
          exact hft1)
      clear hft1
      unfold Vc.val
      simp only
      have hB : Blk (y1.alloc (.cells #[.int .i64 zr, .int .i64 zc, .int .i64 zb, .int .i64 zp] 25)) y1.heap.size #[.int .i64 zr, .int .i64 zc, .int .i64 zb, .int .i64 zp] 25 := blk_new _ _ rfl
      have hS := blk_src (P := Try.prog) (n := 4) (tx := 29) Try.underlying29 hB rfl (by intro u hu; simp at hu; rcases hu with rfl | rfl | rfl | rfl <;> rfl)
      have HS := Lib.hid hS; have HO1 := Lib.hid ((HO.out.kept hg1 HL.out).alloc (.cells #[.int .i64 zr, .int .i64 zc, .int .i64 zb, .int .i64 zp] 25))
      have HC1 := Lib.hid (cur_alloc hc1 #[.int .i64 zr, .int .i64 zc, .int .i64 zb, .int .i64 zp] 25)
      have hb1 := HB.out.grown hg1 HB.out.size (fun k e => by cases e; omega)
      have HB1 := Lib.hid (hb1.alloc hb1.size (.cells #[.int .i64 zr, .int .i64 zc, .int .i64 zb, .int .i64 zp] 25))
      have HXL1 := Lib.hid (show b1 ≤ (y1.alloc (.cells #[.int .i64 zr, .int .i64 zc, .int .i64 zb, .int .i64 zp] 25)).heap.size by have := HXL.out; have := hg1.size; simp; omega)
      clear hB hS hc1 hg1 hb1
      go_wp2_with (at_builtin; apply halt_here)
      refine halt_go ?_
      generalize y1.alloc (.cells #[.int .i64 zr, .int .i64 zc, .int .i64 zb, .int .i64 zp] 25) = y2 at HS HO1 HC1 HB1 HXL1 ⊢
      generalize y1.heap.size = b2 at HS ⊢
      have ho := HO1.out
      unfold OwnS at ho
      rw [hxs] at ho
      refine list_append_src _ rfl (.tmp 17) (.tmp 20) 29 29 rfl b1 25 i0 (.agg #[.int .i64 0, .int .i64 0, .int .i64 0, .int .i64 0]) 4 32 Try.underlying29 hI0 hI1 hI2 hI3 rfl (.slice va k vc) k (xs.flatMap kdVc.cs) rfl ho (.slice (some ⟨b2, 0, none⟩) 1 1) 1 _ rfl HS.out (by unfold maxLen; omega) (by omega) HXL1.out ?_
      intro va' vc' w9 hown9 hgrow9
      have ho9 : OwnS kdVc w9 b1 (.slice va' (k + 1) vc') (xs ++ [⟨zr, zc, zb, zp⟩]) := by
        have := OwnS.append (K := kdVc) (xs := xs) (x := ⟨zr, zc, zb, zp⟩) (a := va') (c := vc') (w := w9) (base := b1) (by rw [hxs]; exact hown9)
        rw [List.length_append, hxs] at this
        exact this
      have hr : ∀ b, (Value.slice va k vc).ownBlock = some b → w.heap.size < b := fun b hb => by have := (World.ownsRow.lt ho b hb).1; have := HL.out; omega
      have HO9 := Lib.hid ho9; have HC9 := Lib.hid (cur_own HC1.out hgrow9 hr); have HB9 := Lib.hid (HB1.out.grown hgrow9 HB1.out.size (fun b hb => by have := hr b hb; omega)); have HXL9 := Lib.hid (Nat.le_trans HXL1.out hgrow9.size)
      clear ho9 hr ho hown9 hgrow9 HS HO1 HC1 HB1 HXL1
      go_wp2_with fail
      go_roundw
      case rel => exact ⟨k + 1, _, _, _, rfl, by go_num, by omega, by rw [List.length_append, hxs]; rfl, HO9, HC9, HB9, HXL9, HFT⟩
      case measure => simp [intOf]; omega
    · have hq : ¬ ((k : Int) < m) := hlt
      obtain ⟨a', c', e', hs, _, _, _⟩ := HO.out.sl
      cases e'
      have HSL := Lib.hid hs
      clear hs
      clear hxs
      have hlen : xs.length ≤ 5 := by omega
      go_wp2_with fail
      go_ret
      exact ⟨xs, _, _, rfl, HSL.out, hlen, HFT.out, HB.out⟩
end Go.Proofs.Ytbcpfciegamaeaa
