/- GetFrame of the program. -/
import Derived.Test.YtfkpecildcejkaaFrI
import Derived.Test.YtfkpecildcejkaaIn
import Derived.Shelf.SlicesE.Equal
import Derived.Shelf.SlicesE.Reverse
import Derived.ArgAppend
import Derived.Laws.IdiomStrings
import Derived.Below
import Derived.Lib.Hide
import Derived.Test.YtfkpecildcejkaaCrcL
import Derived.WalkKit
import Derived.Outline
import Derived.WalkLawsBesides
import Derived.WalkSpells
import Derived.Test.YtfkpecildcejkaaPutFrS
import Derived.Test.YtfkpecildcejkaaGetFrS
import Derived.ScopeJumps
import Derived.WalkMore
namespace Go.Proofs.Ytfkpecildcejkaa
open Go.RowKit

theorem and_12 (n : Nat) : n &&& 2 ^ 12 = n / 2 ^ 12 % 2 * 2 ^ 12 := by
  have e : n / 2 ^ 12 % 2 = (n.testBit 12).toNat := (Nat.toNat_testBit n 12).symm
  rw [e]
  apply Nat.eq_of_testBit_eq
  intro j
  rw [Nat.testBit_and, Nat.testBit_two_pow]
  cases h : n.testBit 12
  · by_cases hj : 12 = j
    · subst hj; simp [h]
    · simp [hj]
  · by_cases hj : 12 = j
    · subst hj; rw [h]; decide
    · simp only [Bool.toNat_true, Nat.one_mul, Nat.testBit_two_pow, hj, decide_false, Bool.and_false]

theorem bits_and_12 (n : Nat) (h : n < 65536) : bits .and .i64 (n : Int) 4096 = ((n / 4096 % 2 * 4096 : Nat) : Int) := by
  show IntKind.i64.wrap (((BitVec.ofInt 64 (n : Int) &&& BitVec.ofInt 64 4096).toNat : Nat) : Int) = _
  rw [BitVec.toNat_and, ofInt64_toNat, show (BitVec.ofInt 64 4096).toNat = 2 ^ 12 from by decide]
  have e : ((n : Int) % 18446744073709551616).toNat = n := by omega
  rw [e, and_12]
  simp [IntKind.wrap, IntKind.bits, IntKind.signed]
  omega

/-- what is cut off behind doesn't matter to a number ahead of it -/
theorem getK_cut (s : ByteArray) (m i k : Nat) (h : i + k ≤ m) : getK (s.extract 0 m) i k = getK s i k := by
  unfold getK
  have e : (s.extract 0 m).data.toList = s.data.toList.take m := by
    rw [ByteArray.data_extract, Array.toList_extract]
    simp
  rw [e, List.drop_take, List.take_take, Nat.min_eq_left (by omega)]

theorem cut_cut (s : ByteArray) (m i : Nat) (hm : m ≤ s.size) : (s.extract 0 m).extract i (s.extract 0 m).size = s.extract i m := by
  apply ByteArray.ext
  apply Array.toList_inj.1
  have hs : (s.extract 0 m).size = m := by rw [ByteArray.size_extract]; omega
  rw [hs]
  rw [ByteArray.data_extract, Array.toList_extract, ByteArray.data_extract, Array.toList_extract, ByteArray.data_extract, Array.toList_extract]
  simp only [List.extract, List.drop_zero, Nat.sub_zero, List.drop_take, List.take_take, Nat.min_self]

/-- some number of two bytes, or -1 -/
def SomeTwo (w : World) (e : Ending) (w' : World) : Prop := ∃ n : Int, e = .returned (.int .i64 n) ∧ -1 ≤ n ∧ n ≤ 65535 ∧ w = w'
/-- what holds where the text jumps to its one label: the code is set, the frame is in its block -/
def AtRefused (s : ByteArray) (w : World) (a' : Act) (w' : World) : Prop :=
  ∃ (code : Int) (g : Fr) (u1 u4 u5 u6 u7 u8 u9 u10 u11 u12 u13 u14 u15 u16 u17 u18 u19 u20 u21 u22 u23 u24 u25 u26 u27 u28 u29 u30 u31 u32 u33 u34 u35 u36 u37 u38 u39 u40 u41 u42 u43 u44 u45 u46 u47 u48 u49 u50 u51 u52 u53 u54 u55 u56 u57 u58 u59 u60 u61 u62 u63 u64 u65 u66 u67 u68 u69 u70 u71 : Value), a' = { tmps := #[.string s, u1, .pointer (some ⟨w.heap.size, 0, none⟩), .int .i64 code, u4, u5, u6, u7, u8, u9, u10, u11, u12, u13, u14, u15, u16, u17, u18, u19, u20, u21, u22, u23, u24, u25, u26, u27, u28, u29, u30, u31, u32, u33, u34, u35, u36, u37, u38, u39, u40, u41, u42, u43, u44, u45, u46, u47, u48, u49, u50, u51, u52, u53, u54, u55, u56, u57, u58, u59, u60, u61, u62, u63, u64, u65, u66, u67, u68, u69, u70, u71], defers := [] } ∧ FrBlk w' w.heap.size g ∧ Below w.heap.size w w' ∧ getF2 s = (Fr.zero, code)

theorem frBlk_new (w : World) (dst src : Int) (tagged : Bool) (vid pri type : Int) (body : ByteArray) : FrBlk (w.alloc (.cells #[.int .i64 dst, .int .i64 src, .bool tagged, .int .i64 vid, .int .i64 pri, .int .i64 type, .string body] 28)) w.heap.size ⟨dst, src, tagged, vid, pri, type, body⟩ := heap_at w _

end Go.Proofs.Ytfkpecildcejkaa
