/- A port as an argument, opened. -/
import Derived.Test.YtfkpecildcejkaaPn
import Derived.Test.YtfkpecildcejkaaIj
namespace Go.Proofs.Ytfkpecildcejkaa
open Go.RowKit Go.ChangeShapes Go.WideShapes

theorem szPort_in {v : Value} {p : Pt} {w : World} (h : PortArg w v p) (hn : p.ins.length ≤ 9223372036854775807 ∧ p.plain.length ≤ 9223372036854775807) (left : Int) (hl : 0 ≤ left) (hl' : left ≤ 1048576) :
    Calls Try.prog 27 #[v, .int .i64 left] w fun e w' => e = .returned (.int .i64 (if ((p.ins.length + p.plain.length : Nat) : Int) ≤ left then left - ((p.ins.length + p.plain.length : Nat) : Int) else -1)) ∧ Below w.heap.size w w' := by
  obtain ⟨a, ca, b, cb, rfl, _⟩ := h
  refine (szPort_any p.pvid a b p.ins.length ca p.plain.length cb p.acc left w hn.1 hn.2 hl hl').mono ?_
  rintro e w' ⟨rfl, hb⟩
  refine ⟨?_, hb⟩
  rw [Int.natCast_add, Int.sub_sub]

structure PtA where
  a : Option Addr
  ca : Nat
  b : Option Addr
  cb : Nat
  p : Pt
def PtA.val (x : PtA) : Value := ptVal x.p.pvid x.a x.p.ins.length x.ca x.b x.p.plain.length x.cb x.p.acc
def PtA.ok (x : PtA) (w : World) : Prop := PortArg w x.val x.p ∧ x.p.ins.length ≤ 9223372036854775807 ∧ x.p.plain.length ≤ 9223372036854775807

theorem int_cells {H : Type} {enc : TypeId × Value → H} {w : World} {base : Nat} {spare : Nat → Bool} {held : Bool} {fuel : Nat} {cs : List Value} {y : DataW H × List MemPlace}
    (h : DataW.trod enc Try.prog w base spare held fuel 3 cs = some y) : ∃ x : Int, cs = intCs x ∧ wf64 x := by
  obtain ⟨n0, e0, _, w0⟩ := DataW.trod_int Try.underlying3 h
  exact ⟨n0, e0, w0⟩
set_option maxRecDepth 20000 in
theorem open_port {H : Type} {enc : TypeId × Value → H} {w : World} {base : Nat} {spare : Nat → Bool} {held : Bool} {r : Reach} {b0 : Nat} {v : Value} {d : DataW H} {p : List MemPlace}
    (hv : Value.okWide Try.prog w r b0 44 v) (h : DataW.Trod enc Try.prog w base spare held 44 v d p) : ∃ x : PtA, v = x.val ∧ x.ok w := by
  obtain ⟨cs, rfl, hsz, hf⟩ := open_fields Try.underlying44 (by kernel_rfl) (by kernel_rfl) hv h
  obtain ⟨l⟩ := cs
  match l, hsz with
  | [c0, c1, c2, c3], _ =>
    obtain ⟨_, _, _, rfl', t0⟩ := hf 0 _ rfl
    cases rfl'
    obtain ⟨_, _, _, rfl', t1⟩ := hf 1 _ rfl
    cases rfl'
    obtain ⟨_, _, _, rfl', t2⟩ := hf 2 _ rfl
    cases rfl'
    obtain ⟨_, _, _, rfl', t3⟩ := hf 3 _ rfl
    cases rfl'
    obtain ⟨n0, e0, _, w0⟩ := DataW.trod_int Try.underlying3 t0
    obtain ⟨n3, e3, _, w3⟩ := DataW.trod_int Try.underlying3 t3
    simp only [List.cons.injEq, and_true] at e0 e3
    subst e0 e3
    obtain ⟨a, ca, xs, rfl, hs, hok, hl⟩ := open_sl (cells := intCs) (ok := wf64) (sz := 1) Try.underlying24 (by kernel_rfl) (by decide) (fun h => int_cells h) t1
    obtain ⟨b, cb, ys, rfl, hs2, hok2, hl2⟩ := open_sl (cells := intCs) (ok := wf64) (sz := 1) Try.underlying24 (by kernel_rfl) (by decide) (fun h => int_cells h) t2
    unfold maxLen at hl hl2
    exact ⟨⟨a, ca, b, cb, ⟨n0, xs, ys, n3⟩⟩, rfl, ⟨a, ca, b, cb, rfl, hs, hs2, w0, hok, hok2, w3⟩, by simp only; omega⟩

/-- the frame's size, whatever is left -/
theorem szFrame_left (f : Fr) (left : Int) (w : World) (hb : f.body.size ≤ maxLen) (hl : 0 ≤ left) (hl' : left ≤ 1048576) :
    Calls Try.prog 31 #[f.val, .int .i64 left] w fun e w' => e = .returned (.int .i64 (if (f.body.size : Int) ≤ left then left - (f.body.size : Int) else -1)) ∧ Below w.heap.size w w' := by
  obtain ⟨dst, src, tagged, vid, pri, type, body⟩ := f
  have hb0 : ∀ o, Below w.heap.size w (w.alloc o) := fun o => (Below.refl _ _).alloc (Nat.le_refl _) o
  unfold maxLen at hb
  simp only at hb ⊢
  unfold Fr.val
  have HB := Lib.hid hb0
  clear hb0
  by_cases h : (body.size : Int) ≤ left
  · rw [if_pos h]
    have h' : ¬ (left - (body.size : Int) < 0) := by omega
    go_enter Try.func31, Try.ntmps31
    go_wp2_with fail
    go_ret
    exact ⟨rfl, HB.out _⟩
  · rw [if_neg h]
    have h' : left - (body.size : Int) < 0 := by omega
    go_enter Try.func31, Try.ntmps31
    go_wp2_with fail
    go_ret
    exact ⟨rfl, HB.out _⟩
end Go.Proofs.Ytfkpecildcejkaa
