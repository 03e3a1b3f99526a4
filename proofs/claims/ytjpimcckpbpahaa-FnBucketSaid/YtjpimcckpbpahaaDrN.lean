/- Draws of numbers that an int holds, and of times. -/
import Derived.Test.YtjpimcckpbpahaaDraw
import Derived.Test.YtjpimcckpbpahaaDrawM
namespace Go.Proofs.Ytjpimcckpbpahaa
open Go.RowKit

def DrawnWf (B c len : Nat) (w : World) (e : Ending) (w' : World) : Prop := ∃ x : Int, e = .returned (.int .i64 x) ∧ (Lit.int .i64 x).wf = true ∧ Cur B c len w' ∧ w.grownBy w' (some c)

theorem getD_all {p : Int → Bool} {zs : List Int} (h : zs.all p = true) {i : Nat} (hi : i < zs.length) : p (zs.getD i 0) = true := by
  rw [List.getD_eq_getElem?_getD, List.getElem?_eq_getElem hi]
  exact List.all_eq_true.1 h _ (List.getElem_mem hi)

theorem wf_in {x : Int} (h0 : -9223372036854775808 ≤ x) (h1 : x ≤ 9223372036854775807) : (Lit.int .i64 x).wf = true := by
  simp [Lit.wf, IntKind.min, IntKind.max, IntKind.signed, IntKind.bits]
  omega

/-- a number is picked from a row of numbers -/
theorem pickWf {B c len g m cap : Nat} {zs : List Int} (hm1 : 1 ≤ m) (hm2 : m ≤ 256) {w : World} (hl : len ≤ 1048576) (hc : Cur B c len w) (hne : g ≠ c) (hlen : zs.length = m) (hwf : (zs.all fun x => (Lit.int .i64 x).wf) = true)
    (hcell : ∀ i, i < m → w.cell? ⟨g, i, none⟩ = some (.int .i64 (zs.getD i 0))) :
    Calls Try.prog 25 #[.pointer (some ⟨c, 0, none⟩), .slice (some ⟨g, 0, none⟩) m cap] w (DrawnWf B c len w) := by
  refine (pickInt_any B c len g m cap zs hm1 hm2 w hl hc hne hcell).mono ?_
  rintro e w' ⟨i, hi, rfl, hc', hg⟩
  exact ⟨_, rfl, getD_all hwf (by omega), hc', hg⟩

theorem below_wf (B c len : Nat) (n : Int) (h1 : 1 ≤ n) (h2 : n ≤ 4294967296) (w : World) (hl : len ≤ 1048576) (hc : Cur B c len w) :
    Calls Try.prog 34 #[.pointer (some ⟨c, 0, none⟩), .int .i64 n] w (DrawnWf B c len w) := by
  refine (below_any B c len n h1 h2 w hl hc).mono ?_
  rintro e w' ⟨x, rfl, h3, h4, hc', hg⟩
  exact ⟨x, rfl, wf_in (by omega) (by omega), hc', hg⟩

set_option maxHeartbeats 1000000 in
theorem now5_any (B c len : Nat) (w : World) (hl : len ≤ 1048576) (hc : Cur B c len w) :
    Calls Try.prog 35 #[.pointer (some ⟨c, 0, none⟩)] w (DrawnWf B c len w) := by
  have hlt := cur_lt hc
  go_enter Try.func35, Try.ntmps35
  go_wp2_with fail
  · refine (below_wf B c len 400 (by decide) (by decide) w hl hc).mono ?_
    rintro e w1 ⟨x, rfl, hx, hc1, hg1⟩
    go_wp2_with fail
    have hl1 := cur_lt hc1
    refine (pickWf (m := 7) (zs := [0, 5, 10, 300, 305, 1000000000, x]) (by decide) (by decide) hl (cur_alloc hc1 _ _) (by omega) rfl (by simp only [List.all_cons, hx, List.all_nil, Bool.and_true]; decide) ?_).mono ?_
    · intro i hi
      rw [World.cell?_alloc_at (hn := rfl)]
      match i, hi with
      | 0, _ | 1, _ | 2, _ | 3, _ | 4, _ | 5, _ | 6, _ => rfl
    · rintro e w3 ⟨z, rfl, hwf, hc3, hg3⟩
      go_wp2_with fail
      go_ret
      exact ⟨z, rfl, hwf, hc3, grown_trans hg1 (grown_trans (World.grownBy_alloc _ _ _) hg3)⟩

end Go.Proofs.Ytjpimcckpbpahaa
