/- The drawn frames, right or not: what l03Any and DrawPutFrame answer. -/
import Derived.Test.YtfkpecildcejkaaDrawFr
namespace Go.Proofs.Ytfkpecildcejkaa
open Go.RowKit

set_option maxRecDepth 20000 in
theorem grown_own' {w w' : World} {c : Option Nat} (h : w.grownBy w' none) : w.grownBy w' c := ⟨h.os, h.tape, h.output, h.size, fun k hk _ => h.block k hk (fun e => by cases e)⟩
set_option maxRecDepth 20000 in
theorem cur_grow {B c len : Nat} {w w' : World} (hc : Cur B c len w) (hg : w.grownBy w' none) : Cur B c len w' := by
  obtain ⟨zs, s, h⟩ := curF_of hc
  exact (curF_grow h hg (fun g e => by cases e)).cur

set_option maxHeartbeats 1000000 in
set_option maxRecDepth 20000 in
theorem anyFr_any (B c len : Nat) (w : World) (hl : len ≤ 1048576) (hc : Cur B c len w) :
    Calls Try.prog 40 #[.pointer (some ⟨c, 0, none⟩)] w (DrawnFr B c len w) := by
  obtain ⟨i0, hi, hz0, hz1, hz2⟩ := info_parts info5
  have hlt := cur_lt hc
  have hz := frBlk_new w 0 0 false 0 0 0 ⟨#[]⟩
  have hgz := grown_new (World.grownBy.refl w (some c)) (.cells #[.int .i64 0, .int .i64 0, .bool false, .int .i64 0, .int .i64 0, .int .i64 0, .string ⟨#[]⟩] 28)
  have hcz := cur_alloc hc #[.int .i64 0, .int .i64 0, .bool false, .int .i64 0, .int .i64 0, .int .i64 0, .string ⟨#[]⟩] 28
  go_enter Try.func40, Try.ntmps40
  go_wp2_with fail
  generalize w.alloc (.cells #[.int .i64 0, .int .i64 0, .bool false, .int .i64 0, .int .i64 0, .int .i64 0, .string ⟨#[]⟩] 28) = w0 at hz hgz hcz ⊢
  have HZ := Lib.hid hz; clear hz
  refine (make_any B c len _ hl hcz).mono ?_
  rintro e w3 ⟨⟨dst, src, tagged, vid, pri, type, body⟩, rfl, hbs, hc3, hg3⟩
  unfold Fr.val
  simp only at hbs ⊢
  have hS4 : MS B c len w (w3.alloc (.cells #[.int .i64 dst, .int .i64 src, .bool tagged, .int .i64 vid, .int .i64 pri, .int .i64 type, .string body] 28)) w.heap.size w3.heap.size ⟨dst, src, tagged, vid, pri, type, body⟩ :=
    ⟨cur_alloc hc3 _ _, grown_new (grown_trans hgz hg3) _, ((FrBlk.grown HZ.out hg3 hlt).alloc _), frBlk_new w3 _ _ _ _ _ _ _, Nat.le_refl _, Nat.lt_of_lt_of_le HZ.out.lt hg3.size, hlt⟩
  have HBS := Lib.hid hbs
  clear hg3 hgz hc3 hcz hc hbs
  go_wp2_with fail
  generalize w3.alloc (.cells #[.int .i64 dst, .int .i64 src, .bool tagged, .int .i64 vid, .int .i64 pri, .int .i64 type, .string body] 28) = w4 at hS4 ⊢
  generalize w3.heap.size = b3 at hS4 ⊢
  refine (below_any B c len 16 (by decide) (by decide) _ hl hS4.cur).mono ?_
  rintro e w5 ⟨k, rfl, hk0, hk1, hc5, hg5⟩
  have hS5 := hS4.call hc5 hg5
  clear hS4 hc5 hg5
  have hk : k = 0 ∨ k = 1 ∨ k = 2 ∨ k = 3 ∨ k = 4 ∨ k = 5 ∨ 6 ≤ k := by omega
  rcases hk with rfl | rfl | rfl | rfl | rfl | rfl | hk6
  · go_wp2_with fail
    refine (pickInt_any B c len w5.heap.size 4 4 [0, 4095, -1, 5] (by decide) (by decide) _ hl (cur_alloc hS5.cur _ _) (by have := cur_lt hS5.cur; omega) ?_).mono ?_
    · intro i hi
      rw [World.cell?_alloc_at (hn := rfl)]
      match i, hi with
      | 0, _ | 1, _ | 2, _ | 3, _ => rfl
    rintro e w6 ⟨i6, _, rfl, hc6, hg6⟩
    generalize [0, 4095, -1, 5].getD i6 (0 : Int) = z6
    have hS6 := (hS5.alloc _ _).call hc6 hg6
    clear hS5 hc6 hg6
    obtain ⟨hfz, hsh, c0, c1, c2, c3, c4, c5, c6⟩ := hS6.blk3.facts
    have HS6 := Lib.hid hS6; clear hS6
    simp only at *
    have hS7 := HS6.out.store (frBlk_3 HS6.out.blk3 z6)
    obtain ⟨yfz, ysh, e0, e1, e2, e3, e4, e5, e6⟩ := hS7.blk3.facts
    obtain ⟨zfz, zsh, d0, d1, d2, d3, d4, d5, d6⟩ := hS7.blk2.facts
    have HS := Lib.hid hS7; clear hS7 HS6
    simp only at *
    go_wp2_with fail
    exact any_ret (g := ⟨dst, src, tagged, z6, pri, type, body⟩) HS.out (HBS.out) rfl rfl
  · go_wp2_with fail
    refine (pickInt_any B c len w5.heap.size 4 4 [0, 1535, 33024, 65536] (by decide) (by decide) _ hl (cur_alloc hS5.cur _ _) (by have := cur_lt hS5.cur; omega) ?_).mono ?_
    · intro i hi
      rw [World.cell?_alloc_at (hn := rfl)]
      match i, hi with
      | 0, _ | 1, _ | 2, _ | 3, _ => rfl
    rintro e w6 ⟨i6, _, rfl, hc6, hg6⟩
    generalize [0, 1535, 33024, 65536].getD i6 (0 : Int) = z6
    have hS6 := (hS5.alloc _ _).call hc6 hg6
    clear hS5 hc6 hg6
    obtain ⟨hfz, hsh, c0, c1, c2, c3, c4, c5, c6⟩ := hS6.blk3.facts
    have HS6 := Lib.hid hS6; clear hS6
    simp only at *
    have hS7 := HS6.out.store (frBlk_5 HS6.out.blk3 z6)
    obtain ⟨yfz, ysh, e0, e1, e2, e3, e4, e5, e6⟩ := hS7.blk3.facts
    obtain ⟨zfz, zsh, d0, d1, d2, d3, d4, d5, d6⟩ := hS7.blk2.facts
    have HS := Lib.hid hS7; clear hS7 HS6
    simp only at *
    go_wp2_with fail
    exact any_ret (g := ⟨dst, src, tagged, vid, pri, z6, body⟩) HS.out (HBS.out) rfl rfl
  · go_wp2_with fail
    refine (any2_any B c len _ hl hS5.cur).mono ?_
    rintro e w6 ⟨x, rfl, _, _, hc6, hg6⟩
    have hS6 := hS5.call hc6 hg6
    clear hS5 hc6 hg6
    obtain ⟨hfz, hsh, c0, c1, c2, c3, c4, c5, c6⟩ := hS6.blk3.facts
    have HS6 := Lib.hid hS6; clear hS6
    simp only at *
    have hS7 := HS6.out.store (frBlk_1 HS6.out.blk3 x)
    obtain ⟨yfz, ysh, e0, e1, e2, e3, e4, e5, e6⟩ := hS7.blk3.facts
    obtain ⟨zfz, zsh, d0, d1, d2, d3, d4, d5, d6⟩ := hS7.blk2.facts
    have HS := Lib.hid hS7; clear hS7 HS6
    simp only at *
    go_wp2_with fail
    exact any_ret (g := ⟨dst, x, tagged, vid, pri, type, body⟩) HS.out (HBS.out) rfl rfl
  · go_wp2_with fail
    refine (any2_any B c len _ hl hS5.cur).mono ?_
    rintro e w6 ⟨x, rfl, _, _, hc6, hg6⟩
    have hS6 := hS5.call hc6 hg6
    clear hS5 hc6 hg6
    obtain ⟨hfz, hsh, c0, c1, c2, c3, c4, c5, c6⟩ := hS6.blk3.facts
    have HS6 := Lib.hid hS6; clear hS6
    simp only at *
    have hS7 := HS6.out.store (frBlk_0 HS6.out.blk3 x)
    obtain ⟨yfz, ysh, e0, e1, e2, e3, e4, e5, e6⟩ := hS7.blk3.facts
    obtain ⟨zfz, zsh, d0, d1, d2, d3, d4, d5, d6⟩ := hS7.blk2.facts
    have HS := Lib.hid hS7; clear hS7 HS6
    simp only at *
    go_wp2_with fail
    exact any_ret (g := ⟨x, src, tagged, vid, pri, type, body⟩) HS.out (HBS.out) rfl rfl
  · go_wp2_with fail
    refine (below_any B c len 3 (by decide) (by decide) _ hl hS5.cur).mono ?_
    rintro e w6 ⟨x, rfl, hx0, hx1, hc6, hg6⟩
    have hS6 := hS5.call hc6 hg6
    clear hS5 hc6 hg6
    obtain ⟨n, rfl⟩ := Int.eq_ofNat_of_zero_le hx0
    go_wp2_with (at_make; refine wpList_make_full _ rfl _ _ 22 rfl w6.heap.size 5 i0 (.int .u8 0) 1 Try.underlying22 hi hz0 hz1 .i64 .i64 _ _ (1499 + n) rfl rfl (by omega) (by omega) (by rw [hz2]; omega) (by unfold maxLen; omega) (Nat.le_refl _) ?_)
    intro w7 hown hgrow
    have hown0 : w7.ownsRow w6.heap.size 5 1 (.slice (some ⟨w6.heap.size, 0, none⟩) (1499 + n) (1499 + n)) (1499 + n) (byteVals (List.replicate (1499 + n) 0)) := by
      have e : (madeCells #[Value.int .u8 0] (1499 + n)).toList = byteVals (List.replicate (1499 + n) 0) := by
        rw [toList_madeCells_one]; simp [byteVals]
      rw [← e]; exact hown
    have hcv := run_string_owned hown0
    generalize hx : (⟨(List.replicate (1499 + n) (0 : UInt8)).toArray⟩ : ByteArray) = x at hcv
    have hsz : x.size ≤ 1600 := by rw [← hx]; show ((List.replicate (1499 + n) (0 : UInt8)).toArray).size ≤ 1600; simp; omega
    have HSZ := Lib.hid hsz
    have hS8 := hS6.call (cur_grow hS6.cur hgrow) (grown_own' hgrow)
    clear hS6 hown hown0 hgrow hx hsz
    obtain ⟨hfz, hsh, c0, c1, c2, c3, c4, c5, c6⟩ := hS8.blk3.facts
    have HS8 := Lib.hid hS8; clear hS8
    simp only at *
    have hS9 := HS8.out.store (frBlk_6 HS8.out.blk3 x)
    obtain ⟨yfz, ysh, e0, e1, e2, e3, e4, e5, e6⟩ := hS9.blk3.facts
    obtain ⟨zfz, zsh, d0, d1, d2, d3, d4, d5, d6⟩ := hS9.blk2.facts
    have HS := Lib.hid hS9; clear hS9 HS8
    simp only at *
    go_wp2_with fail
    exact any_ret (g := ⟨dst, src, tagged, vid, pri, type, x⟩) HS.out HSZ.out rfl rfl
  · go_wp2_with fail
    refine (pickInt_any B c len w5.heap.size 3 3 [8, -1, 0] (by decide) (by decide) _ hl (cur_alloc hS5.cur _ _) (by have := cur_lt hS5.cur; omega) ?_).mono ?_
    · intro i hi
      rw [World.cell?_alloc_at (hn := rfl)]
      match i, hi with
      | 0, _ | 1, _ | 2, _ => rfl
    rintro e w6 ⟨i6, _, rfl, hc6, hg6⟩
    generalize [8, -1, 0].getD i6 (0 : Int) = z6
    have hS6 := (hS5.alloc _ _).call hc6 hg6
    clear hS5 hc6 hg6
    obtain ⟨hfz, hsh, c0, c1, c2, c3, c4, c5, c6⟩ := hS6.blk3.facts
    have HS6 := Lib.hid hS6; clear hS6
    simp only at *
    have hS7 := HS6.out.store (frBlk_4 HS6.out.blk3 z6)
    obtain ⟨yfz, ysh, e0, e1, e2, e3, e4, e5, e6⟩ := hS7.blk3.facts
    obtain ⟨zfz, zsh, d0, d1, d2, d3, d4, d5, d6⟩ := hS7.blk2.facts
    have HS := Lib.hid hS7; clear hS7 HS6
    simp only at *
    go_wp2_with fail
    exact any_ret (g := ⟨dst, src, tagged, vid, z6, type, body⟩) HS.out (HBS.out) rfl rfl
  · obtain ⟨hfz, hsh, c0, c1, c2, c3, c4, c5, c6⟩ := hS5.blk3.facts
    obtain ⟨zfz, zsh, d0, d1, d2, d3, d4, d5, d6⟩ := hS5.blk2.facts
    have HS := Lib.hid hS5; clear hS5
    simp only at *
    go_wp2_with fail
    exact any_ret (g := ⟨dst, src, tagged, vid, pri, type, body⟩) HS.out HBS.out rfl rfl

/-- some frame is drawn; below the heap's end nothing has turned -/
def DrewFr (w : World) (e : Ending) (w' : World) : Prop := ∃ f : Fr, e = .returned f.val ∧ f.body.size ≤ 1600 ∧ Below w.heap.size w w'

end Go.Proofs.Ytfkpecildcejkaa
