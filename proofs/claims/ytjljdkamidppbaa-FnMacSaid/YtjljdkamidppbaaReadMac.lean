/- ReadMac: what the program and the model answer. -/
import Derived.Test.YtjljdkamidppbaaMacText
import Derived.Test.YtjljdkamidppbaaRead
import Derived.Test.YtjljdkamidppbaaBld
import Derived.Laws.StructEq
namespace Go.Proofs.Ytjljdkamidppbaa
open Go.RowKit

theorem eq5 (a b c d e : Int) (w : World) : (Op.equalIn 10000 55 (.agg #[.int .u8 a, .int .u8 b, .int .u8 c, .int .u8 d, .int .u8 e]) (.agg #[.int .u8 58, .int .u8 58, .int .u8 58, .int .u8 58, .int .u8 58])).run Try.prog w = .ok (a == 58 && b == 58 && c == 58 && d == 58 && e == 58) w := by
  have u3 := Try.underlying5
  have a3 := Try.isAgg5
  have z3 := Try.sizeOf5
  rw [show (10000 : Nat) = 9999 + 1 from rfl, Op.equalIn]
  simp only [Sem.run_bind, run_underlying Try.underlying55, Result.andThen_ok]
  simp only [Std.Legacy.Range.forIn_eq_forIn_range', Std.Legacy.Range.size, Nat.sub_zero, Nat.add_sub_cancel, Nat.div_one, List.range'_succ, List.range'_zero, List.forIn_cons, List.forIn_nil]
  go_simp
  by_cases h1 : a = 58 <;> by_cases h2 : b = 58 <;> by_cases h3 : c = 58 <;> by_cases h4 : d = 58 <;> by_cases h5 : e = 58 <;> simp [h1, h2, h3, h4, h5]

/-- the separators' places hold colons -/
def colons (s : ByteArray) (hs : s.size = 17) : Bool := (s[2]'(by omega)).toNat == 58 && (s[5]'(by omega)).toNat == 58 && (s[8]'(by omega)).toNat == 58 && (s[11]'(by omega)).toNat == 58 && (s[14]'(by omega)).toNat == 58

/-- the first 2k digits of an address's text -/
def digsK (s : ByteArray) : Nat → List UInt8
  | 0 => []
  | k + 1 => digsK s k ++ (s.extract (3 * k) (3 * k + 2)).data.toList
theorem digsK_len (s : ByteArray) (hs : s.size = 17) : ∀ k, k ≤ 6 → (digsK s k).length = 2 * k
  | 0, _ => rfl
  | k + 1, h => by
    have e : (s.extract (3 * k) (3 * k + 2)).data.toList.length = 2 := by
      rw [Array.length_toList]
      show (s.extract (3 * k) (3 * k + 2)).size = 2
      rw [ByteArray.size_extract]
      omega
    rw [digsK, List.length_append, digsK_len s hs k (by omega), e]
    omega

/-- what ReadMac answers -/
def readM (s : ByteArray) : Int := if h : s.size = 17 then (if colons s h then rdL 16 (digsK s 6) 0 else -1) else -1

set_option maxHeartbeats 1000000 in
theorem readMac_impl (s : ByteArray) (w : World) (hs : s.size = 17) :
    Calls Try.prog 31 #[.string s] w fun e w' => e = .returned (.int .i64 (readM s)) ∧ Below w.heap.size w w' := by
  have heq := eq5 ((s[2]'(by omega)).toNat : Int) ((s[5]'(by omega)).toNat : Int) ((s[8]'(by omega)).toNat : Int) ((s[11]'(by omega)).toNat : Int) ((s[14]'(by omega)).toNat : Int)
  have hr : readM s = if colons s hs then rdL 16 (digsK s 6) 0 else -1 := by unfold readM; rw [dif_pos hs]
  rw [hr]
  clear hr
  by_cases hc : colons s hs = true
  · have hb : (((s[2]'(by omega)).toNat : Int) == 58 && ((s[5]'(by omega)).toNat : Int) == 58 && ((s[8]'(by omega)).toNat : Int) == 58 && ((s[11]'(by omega)).toNat : Int) == 58 && ((s[14]'(by omega)).toNat : Int) == 58) = true := by
      simp only [colons, Bool.and_eq_true, beq_iff_eq] at hc ⊢
      omega
    rw [hb] at heq
    clear hb
    rw [if_pos hc]
    have HC := Lib.hid hc; clear hc
    go_enter Try.func31, Try.ntmps31
    go_wp2_with fail
    refine wp_loop_rounds 6 ?_
    iterate 6 (rw [rounds_succ]; go_wp2_with fail)
    clear heq
    generalize hw1 : w.alloc (Obj.cells #[Value.int IntKind.u8 ((s[2]'(by omega)).toNat : Int), Value.int IntKind.u8 ((s[5]'(by omega)).toNat : Int), Value.int IntKind.u8 ((s[8]'(by omega)).toNat : Int), Value.int IntKind.u8 ((s[11]'(by omega)).toNat : Int), Value.int IntKind.u8 ((s[14]'(by omega)).toNat : Int)] 55) = w1
    have hsz1 : w1.heap.size = w.heap.size + 1 := by rw [← hw1]; simp
    have hb0 : Below w.heap.size w w1 := by rw [← hw1]; exact (Below.refl _ _).alloc (Nat.le_refl _) _
    clear hw1
    rw [← hsz1]
    clear hsz1
    have hbl := Lib.fresh_isBuilder 58 5 w1
    have hb1 : Below w1.heap.size w1 (w1.alloc (.cells #[.pointer none, .slice none 0 0] 58)) := (Below.refl _ _).alloc (Nat.le_refl _) _
    generalize w1.alloc (.cells #[.pointer none, .slice none 0 0] 58) = w2 at hbl hb1 ⊢
    go_loopw [24] (fun i wr => ∃ k : Nat, k ≤ 6 ∧ i = .int .i64 k ∧ Lib.IsBuilder 58 5 w1.heap.size w1.heap.size (Lib.byteCells (digsK s k)) wr ∧ Below w1.heap.size w1 wr) (fun i _ => 6 - (intOf i).toNat)
    case atStart => exact ⟨0, by omega, rfl, hbl, hb1⟩
    case round =>
      obtain ⟨k, hk, rfl, hbk, hbw⟩ := hrel
      by_cases hlt : k < 6
      · go_wp2_with fail
        refine (bld_write _ _ _ _ _ hbk (by rw [Lib.byteCells_length, digsK_len s hs k hk, ByteArray.size_extract]; omega) hbw.size).mono ?_
        rintro e w3 ⟨rfl, hbk3, hbw3⟩
        go_wp2_with fail
        go_roundw
        case rel => exact ⟨k + 1, by omega, by go_num, by rw [digsK, Lib.byteCells_append]; exact hbk3, hbw.trans hbw3⟩
        case measure => simp [intOf]; omega
      · obtain rfl : k = 6 := by omega
        go_wp2_with fail
        refine (bld_string _ _ _ _ hbk hbw.size).mono ?_
        rintro e w3 ⟨rfl, hbw3⟩
        have hdl := digsK_len s hs 6 (by omega)
        go_wp2_with fail
        refine (readHex_impl _ _ (by show 1 ≤ (digsK s 6).toArray.size; rw [List.size_toArray]; omega) (by show (digsK s 6).toArray.size ≤ 12; rw [List.size_toArray]; omega)).mono ?_
        rintro e w4 ⟨rfl, hbw4⟩
        go_wp2_with fail
        go_ret
        exact ⟨rfl, hb0.trans (((hbw.trans hbw3).trans (hbw4.mono (hbw.trans hbw3).size)).mono hb0.size)⟩
  · have hb : (((s[2]'(by omega)).toNat : Int) == 58 && ((s[5]'(by omega)).toNat : Int) == 58 && ((s[8]'(by omega)).toNat : Int) == 58 && ((s[11]'(by omega)).toNat : Int) == 58 && ((s[14]'(by omega)).toNat : Int) == 58) = false := by
      rw [← Bool.not_eq_true]
      intro h
      apply hc
      simp only [colons, Bool.and_eq_true, beq_iff_eq] at h ⊢
      omega
    rw [hb] at heq
    clear hb
    rw [if_neg hc]
    have HC := Lib.hid hc; clear hc
    go_enter Try.func31, Try.ntmps31
    go_wp2_with fail
    refine wp_loop_rounds 6 ?_
    iterate 6 (rw [rounds_succ]; go_wp2_with fail)
    go_ret
    exact ⟨rfl, (Below.refl _ _).alloc (Nat.le_refl _) _⟩

theorem readMac_impl_no (s : ByteArray) (w : World) (hs : s.size ≠ 17) :
    Calls Try.prog 31 #[.string s] w fun e w' => e = .returned (.int .i64 (-1)) ∧ w = w' := by
  have hs' : ¬ ((s.size : Int) = 17) := by omega
  go_enter Try.func31, Try.ntmps31
  go_wp2_with fail
  go_ret
  exact ⟨rfl, rfl⟩
end Go.Proofs.Ytjljdkamidppbaa
