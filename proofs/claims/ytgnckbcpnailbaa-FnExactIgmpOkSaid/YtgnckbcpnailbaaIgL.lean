/- IGMP packets in the laws: what toIgmp and eqIgmp answer; a packet as an argument, opened. -/
import Derived.Test.YtgnckbcpnailbaaIg
import Derived.Test.YtgnckbcpnailbaaOpenF
namespace Go.Proofs.Ytgnckbcpnailbaa
open Go.RowKit Go.ChangeShapes Go.WideShapes

theorem array4 {cs : Array Value} (h : cs.size = 4) : ∃ c0 c1 c2 c3, cs = #[c0, c1, c2, c3] := by
  obtain ⟨l⟩ := cs
  match l, h with
  | [c0, c1, c2, c3], _ => exact ⟨c0, c1, c2, c3, rfl⟩

/-- its numbers are an int's -/
def Ig.fits (g : Ig) : Prop := (Lit.int .i64 g.kind).wf = true ∧ (Lit.int .i64 g.time).wf = true ∧ (Lit.int .i64 g.group).wf = true ∧ (Lit.int .i64 g.src).wf = true

theorem open_igmp {H : Type} {enc : TypeId × Value → H} {w : World} {base : Nat} {spare : Nat → Bool} {held : Bool} {r : Reach} {b0 : Nat} {v : Value} {d : DataW H} {p : List MemPlace}
    (hv : Value.okWide Try.prog w r b0 36 v) (h : DataW.Trod enc Try.prog w base spare held 36 v d p) : ∃ g : Ig, v = g.val ∧ g.fits := by
  obtain ⟨cs, rfl, hsz, hf⟩ := open_fields Try.underlying36 (by kernel_rfl) (by kernel_rfl) hv h
  obtain ⟨c0, c1, c2, c3, rfl⟩ := array4 hsz
  obtain ⟨_, _, _, rfl', t0⟩ := hf 0 _ rfl
  cases rfl'
  obtain ⟨_, _, _, rfl', t1⟩ := hf 1 _ rfl
  cases rfl'
  obtain ⟨_, _, _, rfl', t2⟩ := hf 2 _ rfl
  cases rfl'
  obtain ⟨_, _, _, rfl', t3⟩ := hf 3 _ rfl
  cases rfl'
  obtain ⟨n0, e0, _, w0⟩ := DataW.trod_int Try.underlying3 t0
  obtain ⟨n1, e1, _, w1⟩ := DataW.trod_int Try.underlying3 t1
  obtain ⟨n2, e2, _, w2⟩ := DataW.trod_int Try.underlying3 t2
  obtain ⟨n3, e3, _, w3⟩ := DataW.trod_int Try.underlying3 t3
  simp only [List.cons.injEq, and_true] at e0 e1 e2 e3
  subst e0 e1 e2 e3
  exact ⟨⟨n0, n1, n2, n3⟩, rfl, w0, w1, w2, w3⟩

theorem toIgmp_any (g : Ig) (w : World) : Calls Try.prog 20 #[g.val] w fun e w' => e = .returned g.val ∧ Below w.heap.size w w' := by
  obtain ⟨kind, time, group, src⟩ := g
  unfold Ig.val
  go_enter Try.func20, Try.ntmps20
  go_wp2_with fail
  exact bodyPost_ret (v := .agg #[.int .i64 kind, .int .i64 time, .int .i64 group, .int .i64 src]) (by simp [results, Try.results20, go_sem]) rfl ⟨rfl, (((Below.refl _ _).alloc (Nat.le_refl _) _).alloc (by simp) _).alloc (by simp; omega) _⟩

end Go.Proofs.Ytgnckbcpnailbaa
