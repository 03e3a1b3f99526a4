/- GetFrame of the model. -/
import Derived.Test.YtfkpecildcejkaaPutFrS
import Derived.Test.YtfkpecildcejkaaGet
import Derived.Lib.Builder
namespace Go.Proofs.Ytfkpecildcejkaa
open Go.RowKit

/-- what is left to be looked at, when a frame's fields are read -/
def getF3 (f : Fr) : Fr × Int := if ¬ typeOk f.type then (Fr.zero, 5) else if isGrp f.src then (Fr.zero, 6) else if 1500 < f.body.size then (Fr.zero, 2) else (f, 0)
/-- .. behind the checksum -/
def getF2 (s : ByteArray) : Fr × Int :=
  if getK s 12 2 = 33024 then
    if s.size < 22 then (Fr.zero, 4)
    else if (1 ≤ (getK s 14 2 : Int) % 4096 ∧ (getK s 14 2 : Int) % 4096 ≤ 4094) ∧ (getK s 14 2 : Int) / 4096 % 2 = 0 then
      getF3 ⟨(getK s 0 6 : Nat), (getK s 6 6 : Nat), true, (getK s 14 2 : Int) % 4096, (getK s 14 2 : Int) / 8192, (getK s 16 2 : Nat), s.extract 18 (s.size - 4)⟩
    else (Fr.zero, 4)
  else getF3 ⟨(getK s 0 6 : Nat), (getK s 6 6 : Nat), false, 0, 0, (getK s 12 2 : Nat), s.extract 14 (s.size - 4)⟩
/-- what GetFrame answers -/
def getF (s : ByteArray) : Fr × Int :=
  if s.size < 18 then (Fr.zero, 1) else if 1522 < s.size then (Fr.zero, 2)
  else if sumL (s.extract 0 (s.size - 4)).data.toList = (s.extract (s.size - 4) s.size).data.toList then getF2 s else (Fr.zero, 3)

theorem getK_two (s : ByteArray) (i : Nat) : getK s i 2 < 65536 := by
  have h := getL_lt ((s.data.toList.drop i).take 2) 0
  have h2 : 256 ^ ((s.data.toList.drop i).take 2).length ≤ 256 ^ 2 := Nat.pow_le_pow_right (by decide) (List.length_take_le _ _)
  unfold getK
  omega
/-- the block of a frame's variable -/
def FrBlk (w : World) (b : Nat) (f : Fr) : Prop := w.heap[b]? = some (.cells #[.int .i64 f.dst, .int .i64 f.src, .bool f.tagged, .int .i64 f.vid, .int .i64 f.pri, .int .i64 f.type, .string f.body] 28)
theorem FrBlk.put {w : World} {b : Nat} {g : Fr} (h : FrBlk w b g) (f : Fr) :
    FrBlk (((((((w.setCell ⟨b, 0, none⟩ (.int .i64 f.dst)).setCell ⟨b, 1, none⟩ (.int .i64 f.src)).setCell ⟨b, 2, none⟩ (.bool f.tagged)).setCell ⟨b, 3, none⟩ (.int .i64 f.vid)).setCell ⟨b, 4, none⟩ (.int .i64 f.pri)).setCell ⟨b, 5, none⟩ (.int .i64 f.type)).setCell ⟨b, 6, none⟩ (.string f.body)) b f := by
  have h0 : (w.setCell ⟨b, 0, none⟩ (.int .i64 f.dst)).heap[b]? = _ := heap_setCell_same w b 0 _ _ _ h
  have h1 : ((w.setCell ⟨b, 0, none⟩ (.int .i64 f.dst)).setCell ⟨b, 1, none⟩ (.int .i64 f.src)).heap[b]? = _ := heap_setCell_same (w.setCell ⟨b, 0, none⟩ (.int .i64 f.dst)) b 1 _ _ _ h0
  have h2 : (((w.setCell ⟨b, 0, none⟩ (.int .i64 f.dst)).setCell ⟨b, 1, none⟩ (.int .i64 f.src)).setCell ⟨b, 2, none⟩ (.bool f.tagged)).heap[b]? = _ := heap_setCell_same ((w.setCell ⟨b, 0, none⟩ (.int .i64 f.dst)).setCell ⟨b, 1, none⟩ (.int .i64 f.src)) b 2 _ _ _ h1
  have h3 : ((((w.setCell ⟨b, 0, none⟩ (.int .i64 f.dst)).setCell ⟨b, 1, none⟩ (.int .i64 f.src)).setCell ⟨b, 2, none⟩ (.bool f.tagged)).setCell ⟨b, 3, none⟩ (.int .i64 f.vid)).heap[b]? = _ := heap_setCell_same (((w.setCell ⟨b, 0, none⟩ (.int .i64 f.dst)).setCell ⟨b, 1, none⟩ (.int .i64 f.src)).setCell ⟨b, 2, none⟩ (.bool f.tagged)) b 3 _ _ _ h2
  have h4 : (((((w.setCell ⟨b, 0, none⟩ (.int .i64 f.dst)).setCell ⟨b, 1, none⟩ (.int .i64 f.src)).setCell ⟨b, 2, none⟩ (.bool f.tagged)).setCell ⟨b, 3, none⟩ (.int .i64 f.vid)).setCell ⟨b, 4, none⟩ (.int .i64 f.pri)).heap[b]? = _ := heap_setCell_same ((((w.setCell ⟨b, 0, none⟩ (.int .i64 f.dst)).setCell ⟨b, 1, none⟩ (.int .i64 f.src)).setCell ⟨b, 2, none⟩ (.bool f.tagged)).setCell ⟨b, 3, none⟩ (.int .i64 f.vid)) b 4 _ _ _ h3
  have h5 : ((((((w.setCell ⟨b, 0, none⟩ (.int .i64 f.dst)).setCell ⟨b, 1, none⟩ (.int .i64 f.src)).setCell ⟨b, 2, none⟩ (.bool f.tagged)).setCell ⟨b, 3, none⟩ (.int .i64 f.vid)).setCell ⟨b, 4, none⟩ (.int .i64 f.pri)).setCell ⟨b, 5, none⟩ (.int .i64 f.type)).heap[b]? = _ := heap_setCell_same (((((w.setCell ⟨b, 0, none⟩ (.int .i64 f.dst)).setCell ⟨b, 1, none⟩ (.int .i64 f.src)).setCell ⟨b, 2, none⟩ (.bool f.tagged)).setCell ⟨b, 3, none⟩ (.int .i64 f.vid)).setCell ⟨b, 4, none⟩ (.int .i64 f.pri)) b 5 _ _ _ h4
  have h6 : (((((((w.setCell ⟨b, 0, none⟩ (.int .i64 f.dst)).setCell ⟨b, 1, none⟩ (.int .i64 f.src)).setCell ⟨b, 2, none⟩ (.bool f.tagged)).setCell ⟨b, 3, none⟩ (.int .i64 f.vid)).setCell ⟨b, 4, none⟩ (.int .i64 f.pri)).setCell ⟨b, 5, none⟩ (.int .i64 f.type)).setCell ⟨b, 6, none⟩ (.string f.body)).heap[b]? = _ := heap_setCell_same ((((((w.setCell ⟨b, 0, none⟩ (.int .i64 f.dst)).setCell ⟨b, 1, none⟩ (.int .i64 f.src)).setCell ⟨b, 2, none⟩ (.bool f.tagged)).setCell ⟨b, 3, none⟩ (.int .i64 f.vid)).setCell ⟨b, 4, none⟩ (.int .i64 f.pri)).setCell ⟨b, 5, none⟩ (.int .i64 f.type)) b 6 _ _ _ h5
  unfold FrBlk
  rw [h6]
  simp
theorem FrBlk.alloc {w : World} {b : Nat} {g : Fr} (h : FrBlk w b g) (o : Obj) : FrBlk (w.alloc o) b g := by
  have hlt : b < w.heap.size := (Array.getElem?_eq_some_iff.1 h).1
  exact (Below.heap_alloc w o b hlt).trans h
theorem below_put {a w : World} {B b : Nat} (h : Below B a w) (hb : B ≤ b) (f : Fr) :
    Below B a (((((((w.setCell ⟨b, 0, none⟩ (.int .i64 f.dst)).setCell ⟨b, 1, none⟩ (.int .i64 f.src)).setCell ⟨b, 2, none⟩ (.bool f.tagged)).setCell ⟨b, 3, none⟩ (.int .i64 f.vid)).setCell ⟨b, 4, none⟩ (.int .i64 f.pri)).setCell ⟨b, 5, none⟩ (.int .i64 f.type)).setCell ⟨b, 6, none⟩ (.string f.body)) :=
  ((((((h.setCell hb _).setCell hb _).setCell hb _).setCell hb _).setCell hb _).setCell hb _).setCell hb _

theorem below_puta {a w : World} {b : Nat} {f : Fr} (h : Below a.heap.size a w) (hb : a.heap.size ≤ b) (o : Obj) :
    Below a.heap.size a ((((((((w.setCell ⟨b, 0, none⟩ (.int .i64 f.dst)).setCell ⟨b, 1, none⟩ (.int .i64 f.src)).setCell ⟨b, 2, none⟩ (.bool f.tagged)).setCell ⟨b, 3, none⟩ (.int .i64 f.vid)).setCell ⟨b, 4, none⟩ (.int .i64 f.pri)).setCell ⟨b, 5, none⟩ (.int .i64 f.type)).setCell ⟨b, 6, none⟩ (.string f.body)).alloc o) :=
  (below_put h hb f).alloc (below_put h hb f).size o

def GotF (w : World) (x : Fr × Int) (e : Ending) (w' : World) : Prop := e = .returned (.tuple #[x.1.val, .int .i64 x.2]) ∧ Below w.heap.size w w'

end Go.Proofs.Ytfkpecildcejkaa
