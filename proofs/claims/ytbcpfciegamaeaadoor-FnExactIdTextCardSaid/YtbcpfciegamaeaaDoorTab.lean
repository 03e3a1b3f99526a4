/- The table of powers of ten that strconv.Itoa reads: that it lies as the row lists it, and that it lies on where nothing old turns. -/
import Derived.Test.YtbcpfciegamaeaaDoorRows
import Derived.WalkKit
import Derived.Lib.LaidTab
import Derived.Lib.ItoaNum
import Derived.WalkSmall
namespace Go.Proofs.YtbcpfciegamaeaaDoor
open Go.RowKit

theorem tabIs_of_mem {P : Program} {W : World} {name : String} {k : IntKind} {zs : List Int} {g : Nat} {t e : TypeId} {n : Nat}
    (hg : P.globalNamed name = some g) (hty : (P.globals[g]?).map (·.type) = some t) (ht : P.underlying t = some (.array n e)) (he : P.underlying e = some (.int k)) (hce : P.cellsOf e = 1) (hct : P.cellsOf t = n) :
    ∀ (l : List (String × DataW Unit)) (ps : List MemPlace), DataW.LaidVars P W l ps → (name, Lib.tabData k zs) ∈ l → Lib.TabIs P W name k zs
  | [], _, _, hm => by cases hm
  | (nm, d) :: l, ps, h, hm => by
    obtain ⟨g', t', cs, fuel, p, q, hg', ht', hvar, hd, hrest, _⟩ := h
    by_cases hx : (name, Lib.tabData (H := Unit) k zs) = (nm, d)
    · cases hx
      obtain rfl := Option.some.inj (hg.symm.trans hg')
      obtain rfl := Option.some.inj (hty.symm.trans ht')
      unfold Lib.TabIs
      rw [hvar, ← Lib.cells_of_tab ht he hce hct hd]
    · exact tabIs_of_mem hg hty ht he hce hct l q hrest ((List.mem_cons.1 hm).resolve_left hx)

/-- the table as Itoa's contract asks it -/
def Tab (w : World) : Prop := Lib.TabIs Tryd.prog w "internal/strconv.uint64pow10" .u64 Lib.pow10Tab

theorem pow10_data : Rows.laid_internal_strconv_uint64pow10 (H := Unit) = Lib.tabData .u64 Lib.pow10Tab := by rfl

theorem tab_of_laid {W : World} {l : List (String × DataW Unit)} (h : laidMetH Tryd.prog l W) (hm : ("internal/strconv.uint64pow10", Rows.laid_internal_strconv_uint64pow10) ∈ l) (hf : (l.filter fun x => x.2.handleName?.isSome).isEmpty = true) : Tab W := by
  unfold laidMetH at h
  have hn : (l.filter fun x => x.2.handleName?.isSome) = [] := List.isEmpty_iff.1 hf
  rw [hn] at h
  obtain ⟨ps, hv, _⟩ := h
  rw [pow10_data] at hm
  exact tabIs_of_mem (g := 0) (t := 72) (e := 64) (n := 20) (by kernel_rfl) (by kernel_rfl) Tryd.underlying72 Tryd.underlying64 (by kernel_rfl) (by kernel_rfl) l ps hv hm

theorem tab_global : Tryd.prog.globalNamed "internal/strconv.uint64pow10" = some 0 := by kernel_rfl
end Go.Proofs.YtbcpfciegamaeaaDoor
