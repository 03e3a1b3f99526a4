/- Buckets in the laws: what toBucket and eqBucket answer; a bucket as an argument, opened. -/
import Derived.Test.YtjpimcckpbpahaaBu
import Derived.Test.YtjpimcckpbpahaaOpenF
namespace Go.Proofs.Ytjpimcckpbpahaa
open Go.RowKit Go.ChangeShapes Go.WideShapes

/-- its numbers are an int's -/
def Bu.fits (g : Bu) : Prop := (Lit.int .i64 g.rate).wf = true ∧ (Lit.int .i64 g.burst).wf = true ∧ (Lit.int .i64 g.level).wf = true ∧ (Lit.int .i64 g.tm).wf = true

theorem open_bucket {H : Type} {enc : TypeId × Value → H} {w : World} {base : Nat} {spare : Nat → Bool} {held : Bool} {r : Reach} {b0 : Nat} {v : Value} {d : DataW H} {p : List MemPlace}
    (hv : Value.okWide Try.prog w r b0 37 v) (h : DataW.Trod enc Try.prog w base spare held 37 v d p) : ∃ g : Bu, v = g.val ∧ g.fits := by
  obtain ⟨cs, rfl, hsz, hf⟩ := open_fields Try.underlying37 (by kernel_rfl) (by kernel_rfl) hv h
  obtain ⟨c0, c1, c2, c3, rfl⟩ := array4 hsz
  obtain ⟨_, _, _, rfl', t0⟩ := hf 0 _ rfl
  cases rfl'
  obtain ⟨_, _, _, rfl', t1⟩ := hf 1 _ rfl
  cases rfl'
  obtain ⟨_, _, _, rfl', t2⟩ := hf 2 _ rfl
  cases rfl'
  obtain ⟨_, _, _, rfl', t3⟩ := hf 3 _ rfl
  cases rfl'
  obtain ⟨n0, e0, _, w0⟩ := DataW.trod_int Try.underlying3 t0
  obtain ⟨n1, e1, _, w1⟩ := DataW.trod_int Try.underlying3 t1
  obtain ⟨n2, e2, _, w2⟩ := DataW.trod_int Try.underlying3 t2
  obtain ⟨n3, e3, _, w3⟩ := DataW.trod_int Try.underlying3 t3
  simp only [List.cons.injEq, and_true] at e0 e1 e2 e3
  subst e0 e1 e2 e3
  exact ⟨⟨n0, n1, n2, n3⟩, rfl, w0, w1, w2, w3⟩

theorem toBucket_any (g : Bu) (w : World) : Calls Try.prog 21 #[g.val] w fun e w' => e = .returned g.val ∧ Below w.heap.size w w' := by
  obtain ⟨r, m, l, t⟩ := g
  unfold Bu.val
  go_enter Try.func21, Try.ntmps21
  go_wp2_with fail
  exact bodyPost_ret (v := .agg #[.int .i64 r, .int .i64 m, .int .i64 l, .int .i64 t]) (by simp [results, Try.results21, go_sem]) rfl ⟨rfl, (((Below.refl _ _).alloc (Nat.le_refl _) _).alloc (by simp) _).alloc (by simp; omega) _⟩

theorem eqBucket_same (g : Bu) (w : World) : Calls Try.prog 22 #[g.val, g.val] w fun e w' => e = .returned (.bool true) ∧ Below w.heap.size w w' := by
  obtain ⟨r, m, l, t⟩ := g
  unfold Bu.val
  go_enter Try.func22, Try.ntmps22
  go_wp2_with fail
  go_ret
  exact ⟨rfl, ((Below.refl _ _).alloc (Nat.le_refl _) _).alloc (by simp) _⟩
end Go.Proofs.Ytjpimcckpbpahaa
