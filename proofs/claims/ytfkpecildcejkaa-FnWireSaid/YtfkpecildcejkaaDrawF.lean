/- The drawn inputs' cursor as a function of the code. -/
import Derived.Test.YtfkpecildcejkaaDraw
namespace Go.Proofs.Ytfkpecildcejkaa
open Go.RowKit

/-- THE CURSOR at a place and a number -/
def CurF (B c len : Nat) (zs : List Int) (s : Nat × Int) (w : World) : Prop :=
  ∃ (a : Option Addr) (cap : Nat), B ≤ c ∧ w.heap[c]? = some (.cells #[.slice a len cap, .int .i64 s.1, .int .i64 s.2] 81 (0, 0)) ∧
    IsRow .u8 w a len cap zs ∧ (∀ x, a = some x → 0 < cap → x.block < B) ∧ s.1 ≤ len

theorem IsRow.atZ {w : World} {a : Option Addr} {len cap : Nat} {zs : List Int} (h : IsRow .u8 w a len cap zs) {j : Nat} (hj : j < len) :
    ∃ b off, a = some ⟨b, off, none⟩ ∧ w.cell? ⟨b, off + j, none⟩ = some (.int .u8 (zs.getD j 0)) ∧ 0 ≤ zs.getD j 0 ∧ zs.getD j 0 < 256 := by
  rcases h with ⟨_, rfl, _⟩ | ⟨x, rfl, h1, h2, h3, h4, h5⟩
  · omega
  · obtain ⟨b, off, spot⟩ := x
    have hcc := h4 j (by omega)
    have hspot : spot = none := by have := World.cell?_spot (h4 0 (by omega)); simpa [Addr.add] using this
    subst hspot
    rw [Addr.add_lit] at hcc
    have hwf := h5 (zs.getD j 0) (by rw [List.getD_eq_getElem?_getD, List.getElem?_eq_getElem (by omega)]; exact List.getElem_mem _)
    have hb : 0 ≤ zs.getD j 0 ∧ zs.getD j 0 ≤ 255 := by simpa [Lit.wf, IntKind.min, IntKind.max, IntKind.signed, IntKind.bits] using hwf
    exact ⟨b, off, rfl, hcc, hb.1, by omega⟩

def hashF (h : Int) : Int := wrap64 (wrap64 (h * 6364136223846793005) + 1442695040888963407)

def byteF (len : Nat) (zs : List Int) (s : Nat × Int) : Int × (Nat × Int) :=
  let x := bits .xor .i64 (hashF s.2 / 8589934592) (hashF s.2 / 35184372088832)
  if s.1 < len then ((x + zs.getD s.1 0) % 256, (s.1 + 1, hashF s.2)) else (x % 256, (s.1, hashF s.2))
theorem byteF_low (len : Nat) (zs : List Int) (s : Nat × Int) : 0 ≤ (byteF len zs s).1 ∧ (byteF len zs s).1 < 256 := by
  unfold byteF
  simp only
  split
  · exact ⟨Int.emod_nonneg _ (by decide), Int.emod_lt_of_pos _ (by decide)⟩
  · exact ⟨Int.emod_nonneg _ (by decide), Int.emod_lt_of_pos _ (by decide)⟩

/-- the number that comes, and the cursor's state behind it -/
def DrawnF (B c len : Nat) (zs : List Int) (f : (Nat × Int) → Int × (Nat × Int)) (s : Nat × Int) (w : World) (e : Ending) (w' : World) : Prop :=
  e = .returned (.int .i64 (f s).1) ∧ CurF B c len zs (f s).2 w' ∧ w.grownBy w' (some c)

theorem byte_fun (B c len : Nat) (zs : List Int) (s : Nat × Int) (w : World) (hl : len ≤ 1048576) (hc : CurF B c len zs s w) :
    Calls Try.prog 85 #[.pointer (some ⟨c, 0, none⟩)] w (DrawnF B c len zs (byteF len zs) s w) := by
  obtain ⟨i, h⟩ := s
  obtain ⟨a, cap, hB, hblk, hrow, hlow, hi1⟩ := hc
  simp only at hblk hi1
  have c0 : w.cell? ⟨c, 0, none⟩ = some (.slice a len cap) := by simp [World.cell?, hblk]
  have c1 : w.cell? ⟨c, 1, none⟩ = some (.int .i64 i) := by simp [World.cell?, hblk]
  have c2 : w.cell? ⟨c, 2, none⟩ = some (.int .i64 h) := by simp [World.cell?, hblk]
  have f0 : ∀ j, w.frozen? ⟨c, j, none⟩ = false := by intro j; simp [World.frozen?, hblk]
  have b255 := bits_and_255
  go_enter Try.func85, Try.ntmps85
  go_wp2_with fail
  generalize hh : wrap64 (wrap64 (h * 6364136223846793005) + 1442695040888963407) = h1
  have hblk1 : (w.setCell ⟨c, 2, none⟩ (.int .i64 h1)).heap[c]? = some (.cells #[.slice a len cap, .int .i64 i, .int .i64 h1] 81 (0, 0)) := heap_setCell_same w c 2 _ _ _ hblk
  have hg1 := grown_setCell w ⟨c, 2, none⟩ (.int .i64 h1)
  obtain ⟨w1, hw1⟩ : ∃ w1, w.setCell ⟨c, 2, none⟩ (.int .i64 h1) = w1 := ⟨_, rfl⟩
  rw [hw1] at hblk1 hg1 ⊢
  clear hw1 c0 c1 c2 f0
  have hrow1 := hrow.grown hlow hB hg1
  have c0 : w1.cell? ⟨c, 0, none⟩ = some (.slice a len cap) := by simp [World.cell?, hblk1]
  have c1 : w1.cell? ⟨c, 1, none⟩ = some (.int .i64 i) := by simp [World.cell?, hblk1]
  have c2 : w1.cell? ⟨c, 2, none⟩ = some (.int .i64 h1) := by simp [World.cell?, hblk1]
  have f1 : w1.frozen? ⟨c, 1, none⟩ = false := by simp [World.frozen?, hblk1]
  have HB1 := Lib.hid hblk1; clear hblk1
  by_cases hlt : i < len
  · obtain ⟨b, off, rfl, hcell, hz0, hz1⟩ := hrow1.atZ hlt
    have hjl : (i : Int) < (len : Int) := by omega
    generalize hz : zs.getD i 0 = z at hcell hz0 hz1
    go_quiet (fail)
    go_wp2_with fail
    go_quiet (fail)
    go_wp2_with fail
    go_quiet (fail)
    go_wp2_with fail
    go_ret
    have hB0 : byteF len zs (i, h) = ((bits .xor .i64 (h1 / 8589934592) (h1 / 35184372088832) + z) % 256, (i + 1, h1)) := by
      unfold byteF hashF
      simp only [hh, hz, if_pos hlt]
    unfold DrawnF
    rw [hB0]
    refine ⟨rfl, ⟨some ⟨b, off, none⟩, cap, hB, ?_, ?_, hlow, by show i + 1 ≤ len; omega⟩, ?_⟩
    · exact heap_setCell_same (World.drewN _ _) c 1 _ _ _ HB1.out
    · exact hrow1.grown hlow hB (grown_trans (by repeat (first | exact World.grownBy.refl _ _ | refine grown_drewN ?_ _)) (grown_setCell _ ⟨c, 1, none⟩ _))
    · exact grown_trans (by repeat (first | exact hg1 | refine grown_drewN ?_ _)) (grown_setCell _ ⟨c, 1, none⟩ _)
  · go_quiet (fail)
    go_wp2_with fail
    go_quiet (fail)
    go_wp2_with fail
    go_ret
    have hB0 : byteF len zs (i, h) = (bits .xor .i64 (h1 / 8589934592) (h1 / 35184372088832) % 256, (i, h1)) := by
      unfold byteF hashF
      simp only [hh, if_neg hlt]
    unfold DrawnF
    rw [hB0]
    refine ⟨rfl, ⟨a, cap, hB, HB1.out, ?_, hlow, by show i ≤ len; omega⟩, by repeat (first | exact hg1 | refine grown_drewN ?_ _)⟩
    exact hrow1.grown hlow hB (by repeat (first | exact World.grownBy.refl _ _ | refine grown_drewN ?_ _))

/-- a number below n -/
def belowF (len : Nat) (zs : List Int) (n : Int) (s : Nat × Int) : Int × (Nat × Int) := ((byteF len zs s).1 % n, (byteF len zs s).2)
theorem belowF_low (len : Nat) (zs : List Int) (n : Int) (h : 1 ≤ n) (s : Nat × Int) : 0 ≤ (belowF len zs n s).1 ∧ (belowF len zs n s).1 < n :=
  ⟨Int.emod_nonneg _ (by omega), Int.emod_lt_of_pos _ (by omega)⟩
theorem below_fun (B c len : Nat) (zs : List Int) (s : Nat × Int) (n : Int) (h1 : 1 ≤ n) (h2 : n ≤ 256) (w : World) (hl : len ≤ 1048576) (hc : CurF B c len zs s w) :
    Calls Try.prog 70 #[.pointer (some ⟨c, 0, none⟩), .int .i64 n] w (DrawnF B c len zs (belowF len zs n) s w) := by
  go_enter Try.func70, Try.ntmps70
  have hbl := byteF_low len zs s
  go_wp2_with (go_at_call 85; refine (byte_fun B c len zs s _ hl (by assumption)).mono ?_; rintro e w1 ⟨rfl, hc1, hg1⟩)
  go_ret
  exact ⟨rfl, hc1, hg1⟩

theorem bits_and_30 (n : Int) : bits .and .i64 n 1073741823 = n % 1073741824 := by
  show IntKind.i64.wrap (((BitVec.ofInt 64 n &&& BitVec.ofInt 64 1073741823).toNat : Nat) : Int) = n % 1073741824
  rw [BitVec.toNat_and, ofInt64_toNat, ofInt64_toNat]
  have e2 : (1073741823 : Int) % 18446744073709551616 = ((2 ^ 30 - 1 : Nat) : Int) := by decide
  rw [e2, Int.toNat_natCast, Nat.and_two_pow_sub_one_eq_mod]
  have e3 : (((n % 18446744073709551616).toNat % 2 ^ 30 : Nat) : Int) = n % 1073741824 := by
    rw [Int.natCast_emod, Int.toNat_of_nonneg (by omega)]
    have : ((2 ^ 30 : Nat) : Int) = 1073741824 := by decide
    rw [this]
    omega
  rw [e3]
  have r0 := Int.emod_nonneg n (show (1073741824 : Int) ≠ 0 by omega)
  have r1 := Int.emod_lt_of_pos n (show (0 : Int) < 1073741824 by omega)
  generalize n % 1073741824 = r at r0 r1
  simp [IntKind.wrap, IntKind.bits, IntKind.signed]
  omega

/-- the number that the bytes mix to -/
def newH (len : Nat) (zs : List Int) : Nat → Int
  | 0 => 687687 + (len : Int)
  | k + 1 => bits .and .i64 (newH len zs k * 131 + zs.getD k 0 + 7) 1073741823

set_option maxRecDepth 100000 in
theorem new_fun (w : World) (a : Option Addr) (len cap : Nat) (zs : List Int) (hl : len ≤ 1048576) (hrow : IsRow .u8 w a len cap zs) (hlow : ∀ x, a = some x → 0 < cap → x.block < w.heap.size) :
    Calls Try.prog 37 #[.slice a len cap] w fun e w' => e = .returned (.pointer (some ⟨w.heap.size, 0, none⟩)) ∧ CurF w.heap.size w.heap.size len zs (0, newH len zs (min len 4000)) w' ∧ Below w.heap.size w w' ∧ w.heap.size < w'.heap.size := by
  go_enter Try.func37, Try.ntmps37
  go_wp2_with fail
  go_loop [3, 4] (fun v i => ∃ (k : Nat) (h : Int), i = .int .i64 k ∧ v = .int .i64 h ∧ k ≤ len ∧ k ≤ 4000 ∧ h = newH len zs k ∧ 0 ≤ h ∧ h ≤ 4294967296) (fun _ i => len - (intOf i).toNat)
  case atStart => exact ⟨0, 687687 + (len : Int), rfl, rfl, Nat.zero_le _, by omega, rfl, by omega, by omega⟩
  case round =>
    obtain ⟨k, h, rfl, rfl, hk, hk4, hh, hh0, hh1⟩ := hrel
    have HH := Lib.hid hh; clear hh
    by_cases hlt : k < len
    · by_cases h4 : k < 4000
      · obtain ⟨b, off, rfl, hcell, hz0, hz1⟩ := hrow.atZ hlt
        generalize hz : zs.getD k 0 = z at hcell hz0 hz1
        have HZ := Lib.hid hz; clear hz
        go_wp2_with fail
        go_round
        case rel =>
          refine ⟨k + 1, _, by go_num, rfl, by omega, by omega, ?_, ?_, ?_⟩
          · show _ = bits .and .i64 (newH len zs k * 131 + zs.getD k 0 + 7) 1073741823
            rw [← HH.out, HZ.out]
          · rw [bits_and_30]; omega
          · rw [bits_and_30]; omega
        case measure => simp [intOf]; omega
      · obtain rfl : k = 4000 := by omega
        have hm : min len 4000 = 4000 := by omega
        rw [HH.out]
        go_wp2_with fail
        go_ret
        exact ⟨rfl, ⟨a, cap, Nat.le_refl _, heap_new _ _, hrow.below hlow ((Below.refl _ w).alloc (Nat.le_refl _) _), hlow, Nat.zero_le _⟩, (Below.refl _ _).alloc (Nat.le_refl _) _, by simp⟩
    · have hlt' : (len : Int) ≤ (k : Int) := by omega
      have hm : min len 4000 = k := by omega
      rw [HH.out]
      go_wp2_with fail
      go_ret
      exact ⟨rfl, ⟨a, cap, Nat.le_refl _, heap_new _ _, hrow.below hlow ((Below.refl _ w).alloc (Nat.le_refl _) _), hlow, Nat.zero_le _⟩, (Below.refl _ _).alloc (Nat.le_refl _) _, by simp⟩
end Go.Proofs.Ytfkpecildcejkaa
