/- Rows of the address table: their values and cells; how a row of rows lies in memory. -/
import Derived.Test.YtfkpecildcejkaaSl
import Derived.Deep.RegionHeld3
import Derived.Deep.RegionWith
namespace Go.Proofs.Ytfkpecildcejkaa
open Go.RowKit

structure Rw where
  vid : Int
  mac : Int
  port : Int
  at_ : Int
  fixed : Bool
deriving DecidableEq

instance : Inhabited Rw := ⟨⟨0, 0, 0, 0, false⟩⟩
def Rw.cs (r : Rw) : List Value := [.int .i64 r.vid, .int .i64 r.mac, .int .i64 r.port, .int .i64 r.at_, .bool r.fixed]
/-- a row as the program holds it -/
def Rw.val (r : Rw) : Value := .agg #[.int .i64 r.vid, .int .i64 r.mac, .int .i64 r.port, .int .i64 r.at_, .bool r.fixed]
/-- the cells of a row at place p -/
def RowAt (w : World) (g p : Nat) (r : Rw) : Prop :=
  w.cell? ⟨g, p, none⟩ = some (.int .i64 r.vid) ∧ w.cell? ⟨g, p + 1, none⟩ = some (.int .i64 r.mac) ∧ w.cell? ⟨g, p + 2, none⟩ = some (.int .i64 r.port) ∧ w.cell? ⟨g, p + 3, none⟩ = some (.int .i64 r.at_) ∧ w.cell? ⟨g, p + 4, none⟩ = some (.bool r.fixed)
end Go.Proofs.Ytfkpecildcejkaa
