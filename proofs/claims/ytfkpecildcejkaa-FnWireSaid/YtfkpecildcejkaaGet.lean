/- GetNum: what the program and the model answer. -/
import Derived.Test.YtfkpecildcejkaaIn
import Derived.WalkKit
import Derived.Outline
import Derived.Lib.Hide
import Derived.WalkLawsBesides
import Derived.WalkSpells
namespace Go.Proofs.Ytfkpecildcejkaa
open Go.RowKit

/-- the number that the first k bytes from place j on make -/
def getK (s : ByteArray) (j k : Nat) : Nat := getL ((s.data.toList.drop j).take k) 0
theorem getK_zero (s : ByteArray) (j : Nat) : getK s j 0 = 0 := rfl
theorem getK_succ (s : ByteArray) (j k : Nat) (h : j + k < s.size) : getK s j (k + 1) = getK s j k * 256 + (s[j + k]).toNat := by
  unfold getK
  rw [take_snoc_get _ k (s[j + k]) (by rw [List.getElem?_drop, Array.getElem?_toList, Array.getElem?_eq_getElem (show j + k < s.data.size from h)]; rfl), getL_snoc]
theorem getK_lt (s : ByteArray) (j k : Nat) (h : k ≤ 5) : getK s j k < 1099511627776 := by
  have h1 := getL_lt ((s.data.toList.drop j).take k) 0
  have h2 : ((s.data.toList.drop j).take k).length ≤ 5 := Nat.le_trans (List.length_take_le _ _) h
  have h3 : 256 ^ ((s.data.toList.drop j).take k).length ≤ 256 ^ 5 := Nat.pow_le_pow_right (by decide) h2
  unfold getK
  omega

end Go.Proofs.Ytfkpecildcejkaa
