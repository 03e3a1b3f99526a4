/- PutFrame of the model. -/
import Derived.Test.YtfkpecildcejkaaFr
import Derived.Test.YtfkpecildcejkaaCrcL
import Derived.Test.YtfkpecildcejkaaIn
import Derived.WalkKit
import Derived.Outline
import Derived.Lib.Hide
import Derived.WalkLawsBesides
import Derived.WalkSpells
import Derived.Laws.OwnMore
import Derived.Laws.IdiomStrings
import Derived.Maps.AppendAt
import Derived.StillTailTactics
import Derived.Deep.RegionHeld3
import Derived.IntWalk
namespace Go.Proofs.Ytfkpecildcejkaa
open Go.RowKit

/-- the checksum's bytes, the lowest one first -/
def sumL (l : List UInt8) : List UInt8 := (putL (crc l : Nat) 4).reverse
theorem sumL_len (l : List UInt8) : (sumL l).length = 4 := by unfold sumL; rw [List.length_reverse, putL_length]
/-- a frame's bytes ahead of the checksum -/
def frHead (f : Fr) : List UInt8 := putL f.dst 6 ++ putL f.src 6 ++ (if f.tagged = true then putL 33024 2 ++ putL (8192 * f.pri + f.vid) 2 else []) ++ (putL f.type 2 ++ f.body.data.toList)
def frL (f : Fr) : List UInt8 := frHead f ++ sumL (frHead f)

theorem heap_at (w : World) (o : Obj) : (w.alloc o).heap[w.heap.size]? = some o := by show (w.heap.push o)[w.heap.size]? = some o; simp

theorem held_on {w1 cur w5 : World} {b j : Nat} {v : Value} (hA : Below w1.heap.size w1 cur) (hb : Below cur.heap.size cur w5) (hlt : b < w1.heap.size) (hc : cur.cell? ⟨b, j, none⟩ = some v) : w5.cell? ⟨b, j, none⟩ = some v :=
  (hb.cell (p := ⟨b, j, none⟩) (Nat.lt_of_lt_of_le hlt hA.size)).trans hc

end Go.Proofs.Ytfkpecildcejkaa
