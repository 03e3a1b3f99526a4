/- What a set of the program holds. -/
import Derived.Test.YtfkpecildcejkaaNs
import Derived.Shelf.SlicesE.Index
namespace Go.Proofs.Ytfkpecildcejkaa
open Go.RowKit Go.Shelf

def lays6Has_ren : Go.Shelf.Ren := ⟨fun | 31 => 73 | 29 => 89 | n => n, fun | 22 => 64 | 23 => 3 | 4 => 4 | 3 => 3 | 0 => 0 | n => n, fun | n => n⟩
theorem lays6Has : Go.Proofs.SlLaysE.n31 Try.prog lays6Has_ren := {
  mixed := by kernel_rfl
  f29 := ⟨Try.f89.name, by decide, Try.func89.trans (congrArg some (by kernel_rfl))⟩
  f31 := ⟨Try.f73.name, by decide, Try.func73.trans (congrArg some (by kernel_rfl))⟩
  t0 := Try.underlying0
  a0 := Try.isAgg0
  z0 := Try.sizeOf0
  v0 := Try.zeroValue0
  t3 := Try.underlying3
  a3 := Try.isAgg3
  z3 := Try.sizeOf3
  v3 := Try.zeroValue3
  t4 := Try.underlying4
  a4 := Try.isAgg4
  z4 := Try.sizeOf4
  v4 := Try.zeroValue4
  t22 := Try.underlying64
  a22 := Try.isAgg64
  z22 := Try.sizeOf64
  v22 := Try.zeroValue64
  a23 := Try.isAgg3
  z23 := Try.sizeOf3 }

theorem has_lib (xs : List Int) (a : Option Addr) (n cap : Nat) (x : Int) (w : World) (hn : xs.length = n) (hx : SlIn kdI w a xs) (hsz : n ≤ 2097152) :
    Calls Try.prog 73 #[.slice a n cap, .int .i64 x] w fun e w' => e = .returned (.bool (decide (x ∈ xs))) ∧ w' = w := by
  by_cases h0 : n = 0
  · subst h0
    obtain rfl := List.eq_nil_of_length_eq_zero hn
    exact AnyE.slices_Contains_empty lays6Has a cap (.int .i64 x) w
  · have h1 : 0 < xs.length := by omega
    obtain ⟨g, o, rfl, _, _⟩ := intAt hx 0 h1
    have hc : ∀ j, j < xs.length → w.cell? ⟨g, o + j, none⟩ = some (.int .i64 xs[j]!) := by
      intro j hj
      obtain ⟨g', o', e, _, hA⟩ := intAt hx j hj
      simp only [Option.some.injEq, Addr.mk.injEq, and_true] at e
      obtain ⟨rfl, rfl⟩ := e
      rw [(hA w (Below.refl _ _)).1, getElem!_pos xs j hj]
    have hcon := AnyE.slices_Contains lays6Has (Value.int .i64) (fun x y => x == y) (EqlAt.int _ _ .i64) g o n cap xs x w (by omega) (by omega) hc
    refine hcon.mono ?_
    rintro e w' ⟨rfl, rfl⟩
    refine ⟨?_, rfl⟩
    rw [List.take_of_length_le (by omega)]
    congr 2
    rw [Bool.eq_iff_iff]
    simp

theorem has_impl (xs : List Int) (a : Option Addr) (n cap : Nat) (x : Int) (w : World) (hn : xs.length = n) (hx : SlIn kdI w a xs) (hsz : n ≤ 2097152) :
    Calls Try.prog 43 #[.slice a n cap, .int .i64 x] w fun e w' => e = .returned (.bool (decide (x ∈ xs))) ∧ w' = w := by
  have h := has_lib xs a n cap x w hn hx hsz
  generalize decide (x ∈ xs) = r at h ⊢
  have H := Lib.hid h
  clear h hn hx
  go_enter Try.func43, Try.ntmps43
  go_wp2_with fail
  refine H.out.mono ?_
  rintro e w' ⟨rfl, rfl⟩
  go_wp2_with fail
  go_ret
  exact ⟨rfl, rfl⟩
end Go.Proofs.Ytfkpecildcejkaa
