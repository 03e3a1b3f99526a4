/- Draws of numbers that an int holds, and of times. -/
import Derived.Test.YtbcpfciegamaeaaDraw
import Derived.Test.YtbcpfciegamaeaaDrawM
namespace Go.Proofs.Ytbcpfciegamaeaa
open Go.RowKit

def DrawnWf (B c len : Nat) (w : World) (e : Ending) (w' : World) : Prop := ∃ x : Int, e = .returned (.int .i64 x) ∧ (Lit.int .i64 x).wf = true ∧ Cur B c len w' ∧ w.grownBy w' (some c)

theorem getD_all {p : Int → Bool} {zs : List Int} (h : zs.all p = true) {i : Nat} (hi : i < zs.length) : p (zs.getD i 0) = true := by
  rw [List.getD_eq_getElem?_getD, List.getElem?_eq_getElem hi]
  exact List.all_eq_true.1 h _ (List.getElem_mem hi)

theorem wf_in {x : Int} (h0 : -9223372036854775808 ≤ x) (h1 : x ≤ 9223372036854775807) : (Lit.int .i64 x).wf = true := by
  simp [Lit.wf, IntKind.min, IntKind.max, IntKind.signed, IntKind.bits]
  omega

/-- a number is picked from a row of numbers -/
theorem pickWf {B c len g m cap : Nat} {zs : List Int} (hm1 : 1 ≤ m) (hm2 : m ≤ 256) {w : World} (hl : len ≤ 1048576) (hc : Cur B c len w) (hne : g ≠ c) (hlen : zs.length = m) (hwf : (zs.all fun x => (Lit.int .i64 x).wf) = true)
    (hcell : ∀ i, i < m → w.cell? ⟨g, i, none⟩ = some (.int .i64 (zs.getD i 0))) :
    Calls Try.prog 43 #[.pointer (some ⟨c, 0, none⟩), .slice (some ⟨g, 0, none⟩) m cap] w (DrawnWf B c len w) := by
  refine (pickInt_any B c len g m cap zs hm1 hm2 w hl hc hne hcell).mono ?_
  rintro e w' ⟨i, hi, rfl, hc', hg⟩
  exact ⟨_, rfl, getD_all hwf (by omega), hc', hg⟩

theorem below_wf (B c len : Nat) (n : Int) (h1 : 1 ≤ n) (h2 : n ≤ 4294967296) (w : World) (hl : len ≤ 1048576) (hc : Cur B c len w) :
    Calls Try.prog 33 #[.pointer (some ⟨c, 0, none⟩), .int .i64 n] w (DrawnWf B c len w) := by
  refine (below_any B c len n h1 h2 w hl hc).mono ?_
  rintro e w' ⟨x, rfl, h3, h4, hc', hg⟩
  exact ⟨x, rfl, wf_in (by omega) (by omega), hc', hg⟩

end Go.Proofs.Ytbcpfciegamaeaa
