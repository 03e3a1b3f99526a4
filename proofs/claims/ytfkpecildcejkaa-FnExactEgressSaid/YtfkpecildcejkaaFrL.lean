/- Frames in the laws: what szFrame, toFrame and eqFrame answer; a frame as an argument, opened. -/
import Derived.Test.YtfkpecildcejkaaFr
import Derived.Test.YtfkpecildcejkaaOpenF
import Derived.WalkKit
import Derived.ProofKit
import Derived.OpenShut
import Derived.ShutString
import Derived.ChangeOld
import Derived.Below
import Derived.Deep.Fields
import Derived.ChangeArms
namespace Go.Proofs.Ytfkpecildcejkaa
open Go.RowKit Go.ChangeShapes Go.WideShapes

theorem array7 {cs : Array Value} (h : cs.size = 7) : ∃ c0 c1 c2 c3 c4 c5 c6, cs = #[c0, c1, c2, c3, c4, c5, c6] := by
  obtain ⟨l⟩ := cs
  match l, h with
  | [c0, c1, c2, c3, c4, c5, c6], _ => exact ⟨c0, c1, c2, c3, c4, c5, c6, rfl⟩

/-- the cells of a new block of seven, in a later world -/
theorem cells7 {w w1 : World} {c0 c1 c2 c3 c4 c5 c6 : Value} {t : TypeId} (hb : Below (w.alloc (.cells #[c0, c1, c2, c3, c4, c5, c6] t)).heap.size (w.alloc (.cells #[c0, c1, c2, c3, c4, c5, c6] t)) w1) :
    w1.cell? ⟨w.heap.size, 0, none⟩ = some c0 ∧ w1.cell? ⟨w.heap.size, 1, none⟩ = some c1 ∧ w1.cell? ⟨w.heap.size, 2, none⟩ = some c2 ∧ w1.cell? ⟨w.heap.size, 3, none⟩ = some c3 ∧ w1.cell? ⟨w.heap.size, 4, none⟩ = some c4 ∧ w1.cell? ⟨w.heap.size, 5, none⟩ = some c5 ∧ w1.cell? ⟨w.heap.size, 6, none⟩ = some c6 := by
  have h : ∀ j, w1.cell? ⟨w.heap.size, j, none⟩ = (#[c0, c1, c2, c3, c4, c5, c6] : Array Value)[j]? := fun j => by
    rw [hb.cell (p := ⟨w.heap.size, j, none⟩) (by simp), World.cell?_alloc_at (hn := rfl)]
  exact ⟨h 0, h 1, h 2, h 3, h 4, h 5, h 6⟩

/-- its numbers are an int's -/
def Fr.fits (f : Fr) : Prop := (Lit.int .i64 f.dst).wf = true ∧ (Lit.int .i64 f.src).wf = true ∧ (Lit.int .i64 f.vid).wf = true ∧ (Lit.int .i64 f.pri).wf = true ∧ (Lit.int .i64 f.type).wf = true ∧ f.body.size ≤ maxLen

set_option maxRecDepth 20000 in
theorem open_frame {H : Type} {enc : TypeId × Value → H} {w : World} {base : Nat} {spare : Nat → Bool} {held : Bool} {r : Reach} {b0 : Nat} {v : Value} {d : DataW H} {p : List MemPlace}
    (hv : Value.okWide Try.prog w r b0 50 v) (h : DataW.Trod enc Try.prog w base spare held 50 v d p) : ∃ f : Fr, v = f.val ∧ f.fits := by
  obtain ⟨cs, rfl, hsz, hf⟩ := open_fields Try.underlying50 (by kernel_rfl) (by kernel_rfl) hv h
  obtain ⟨c0, c1, c2, c3, c4, c5, c6, rfl⟩ := array7 hsz
  obtain ⟨_, _, _, rfl', t0⟩ := hf 0 _ rfl
  cases rfl'
  obtain ⟨_, _, _, rfl', t1⟩ := hf 1 _ rfl
  cases rfl'
  obtain ⟨_, _, _, rfl', t2⟩ := hf 2 _ rfl
  cases rfl'
  obtain ⟨_, _, _, rfl', t3⟩ := hf 3 _ rfl
  cases rfl'
  obtain ⟨_, _, _, rfl', t4⟩ := hf 4 _ rfl
  cases rfl'
  obtain ⟨_, _, _, rfl', t5⟩ := hf 5 _ rfl
  cases rfl'
  obtain ⟨_, _, _, rfl', t6⟩ := hf 6 _ rfl
  cases rfl'
  obtain ⟨n0, e0, _, w0⟩ := DataW.trod_int Try.underlying3 t0
  obtain ⟨n1, e1, _, w1⟩ := DataW.trod_int Try.underlying3 t1
  obtain ⟨n2, e2, _⟩ := DataW.trod_bool Try.underlying4 t2
  obtain ⟨n3, e3, _, w3⟩ := DataW.trod_int Try.underlying3 t3
  obtain ⟨n4, e4, _, w4⟩ := DataW.trod_int Try.underlying3 t4
  obtain ⟨n5, e5, _, w5⟩ := DataW.trod_int Try.underlying3 t5
  obtain ⟨n6, e6, _, w6⟩ := DataW.trod_string Try.underlying9 t6
  simp only [List.cons.injEq, and_true] at e0 e1 e2 e3 e4 e5 e6
  subst e0 e1 e2 e3 e4 e5 e6
  exact ⟨⟨n0, n1, n2, n3, n4, n5, n6⟩, rfl, w0, w1, w3, w4, w5, w6⟩

theorem szFrame_any (f : Fr) (w : World) (hb : f.body.size ≤ maxLen) : Calls Try.prog 31 #[f.val, .int .i64 1048576] w fun e w' => e = .returned (.int .i64 (if f.body.size ≤ 1048576 then 1048576 - (f.body.size : Int) else -1)) ∧ Below w.heap.size w w' := by
  obtain ⟨dst, src, tagged, vid, pri, type, body⟩ := f
  unfold Fr.val maxLen at *
  simp only at hb ⊢
  by_cases hl : body.size ≤ 1048576
  · rw [if_pos hl]
    have hl' : ¬ (1048576 < (body.size : Int)) := by omega
    go_enter Try.func31, Try.ntmps31
    go_wp2_with fail
    go_ret
    exact ⟨rfl, (Below.refl _ _).alloc (Nat.le_refl _) _⟩
  · rw [if_neg hl]
    have hl' : 1048576 < (body.size : Int) := by omega
    go_enter Try.func31, Try.ntmps31
    go_wp2_with fail
    go_ret
    exact ⟨rfl, (Below.refl _ _).alloc (Nat.le_refl _) _⟩

theorem toFrame_any (f : Fr) (w : World) : Calls Try.prog 32 #[f.val] w fun e w' => e = .returned f.val ∧ Below w.heap.size w w' := by
  obtain ⟨dst, src, tagged, vid, pri, type, body⟩ := f
  unfold Fr.val
  go_enter Try.func32, Try.ntmps32
  go_wp2_with fail
  exact bodyPost_ret (v := .agg #[.int .i64 dst, .int .i64 src, .bool tagged, .int .i64 vid, .int .i64 pri, .int .i64 type, .string body]) (by simp [results, Try.results32, go_sem]) rfl ⟨rfl, (((Below.refl _ _).alloc (Nat.le_refl _) _).alloc (by simp) _).alloc (by simp; omega) _⟩

theorem eqFrame_same (f : Fr) (w : World) : Calls Try.prog 33 #[f.val, f.val] w fun e w' => e = .returned (.bool true) ∧ Below w.heap.size w w' := by
  obtain ⟨dst, src, tagged, vid, pri, type, body⟩ := f
  unfold Fr.val
  go_enter Try.func33, Try.ntmps33
  go_wp2_with fail
  go_ret
  exact ⟨rfl, ((Below.refl _ _).alloc (Nat.le_refl _) _).alloc (by simp) _⟩
end Go.Proofs.Ytfkpecildcejkaa
