/- GetIgmp of the model. -/
import Derived.Test.YtgnckbcpnailbaaPutIgS
import Derived.Test.YtgnckbcpnailbaaGet
import Derived.Lib.Builder
import Derived.Deep.RegionWith
import Derived.Deep.Cut
import Derived.IntWalk
namespace Go.Proofs.Ytgnckbcpnailbaa
open Go.RowKit

/-- the packet that bytes tell, right or not -/
def igRead (s : ByteArray) : Ig := ⟨(getK s 24 1 : Nat), (getK s 25 1 : Nat), (getK s 28 4 : Nat), (getK s 12 4 : Nat)⟩
/-- what GetIgmp answers -/
def getIg (s : ByteArray) : Ig × Bool := if s.size = 32 ∧ igOk (igRead s) ∧ igL (igRead s) = s.data.toList then (igRead s, true) else (Ig.zero, false)

def IgBlk (w : World) (b : Nat) (g : Ig) : Prop := w.heap[b]? = some (.cells #[.int .i64 g.kind, .int .i64 g.time, .int .i64 g.group, .int .i64 g.src] 25)
theorem igBlk_new (w : World) (a b c d : Int) : IgBlk (w.alloc (.cells #[.int .i64 a, .int .i64 b, .int .i64 c, .int .i64 d] 25)) w.heap.size ⟨a, b, c, d⟩ := by
  show (w.heap.push _)[w.heap.size]? = _
  simp
theorem IgBlk.lt {w : World} {b : Nat} {g : Ig} (h : IgBlk w b g) : b < w.heap.size := (Array.getElem?_eq_some_iff.1 h).1
theorem IgBlk.alloc {w : World} {b : Nat} {g : Ig} (h : IgBlk w b g) (o : Obj) : IgBlk (w.alloc o) b g := (Below.heap_alloc w o b h.lt).trans h
theorem IgBlk.below {w w1 : World} {b B : Nat} {g : Ig} (h : IgBlk w b g) (hb : Below B w w1) (hlt : b < B) : IgBlk w1 b g := (hb.block b hlt).trans h
theorem IgBlk.put {w : World} {b : Nat} {g : Ig} (h : IgBlk w b g) (f : Ig) :
    IgBlk ((((w.setCell ⟨b, 0, none⟩ (.int .i64 f.kind)).setCell ⟨b, 1, none⟩ (.int .i64 f.time)).setCell ⟨b, 2, none⟩ (.int .i64 f.group)).setCell ⟨b, 3, none⟩ (.int .i64 f.src)) b f := by
  have h0 : (w.setCell ⟨b, 0, none⟩ (.int .i64 f.kind)).heap[b]? = _ := heap_setCell_same w b 0 _ _ _ h
  have h1 : ((w.setCell ⟨b, 0, none⟩ (.int .i64 f.kind)).setCell ⟨b, 1, none⟩ (.int .i64 f.time)).heap[b]? = _ := heap_setCell_same _ b 1 _ _ _ h0
  have h2 : (((w.setCell ⟨b, 0, none⟩ (.int .i64 f.kind)).setCell ⟨b, 1, none⟩ (.int .i64 f.time)).setCell ⟨b, 2, none⟩ (.int .i64 f.group)).heap[b]? = _ := heap_setCell_same _ b 2 _ _ _ h1
  have h3 : ((((w.setCell ⟨b, 0, none⟩ (.int .i64 f.kind)).setCell ⟨b, 1, none⟩ (.int .i64 f.time)).setCell ⟨b, 2, none⟩ (.int .i64 f.group)).setCell ⟨b, 3, none⟩ (.int .i64 f.src)).heap[b]? = _ := heap_setCell_same _ b 3 _ _ _ h2
  unfold IgBlk
  rw [h3]
  simp
theorem below_putIg {a w : World} {B b : Nat} (h : Below B a w) (hb : B ≤ b) (f : Ig) :
    Below B a ((((w.setCell ⟨b, 0, none⟩ (.int .i64 f.kind)).setCell ⟨b, 1, none⟩ (.int .i64 f.time)).setCell ⟨b, 2, none⟩ (.int .i64 f.group)).setCell ⟨b, 3, none⟩ (.int .i64 f.src)) :=
  (((h.setCell hb _).setCell hb _).setCell hb _).setCell hb _
/-- what the walk wants of a packet's block in a later world -/
theorem IgBlk.facts {w : World} {b : Nat} {g : Ig} (h : IgBlk w b g) : (∀ j, w.frozen? ⟨b, j, none⟩ = false) ∧ w.shape? b = some (25, 4) ∧
    w.cell? ⟨b, 0, none⟩ = some (.int .i64 g.kind) ∧ w.cell? ⟨b, 1, none⟩ = some (.int .i64 g.time) ∧ w.cell? ⟨b, 2, none⟩ = some (.int .i64 g.group) ∧ w.cell? ⟨b, 3, none⟩ = some (.int .i64 g.src) := by
  have c : ∀ j, w.cell? ⟨b, j, none⟩ = (#[Value.int .i64 g.kind, .int .i64 g.time, .int .i64 g.group, .int .i64 g.src] : Array Value)[j]? := fun j => Lib.cell_of_heap h j
  refine ⟨fun j => Lib.frozen_of_heap h j, ?_, c 0, c 1, c 2, c 3⟩
  simp [World.shape?, IgBlk] at h ⊢
  simp [h]

def GotIg (w : World) (x : Ig × Bool) (e : Ending) (w' : World) : Prop := e = .returned (.tuple #[x.1.val, .bool x.2]) ∧ Below w.heap.size w w'

theorem getK_one (s : ByteArray) (i : Nat) (h : i < s.size) : getK s i 1 = (s[i]'h).toNat := by
  have e := getK_succ s i 0 (by omega)
  rw [getK_zero] at e
  simpa using e

end Go.Proofs.Ytgnckbcpnailbaa
