/- Frames: their values, what is right; FrameOk of the model. -/
import Derived.Test.YtleebmbnjdoinaaMac
import Derived.WalkSmall
namespace Go.Proofs.Ytleebmbnjdoinaa
open Go.RowKit

structure Fr where
  dst : Int
  src : Int
  tagged : Bool
  vid : Int
  pri : Int
  type : Int
  body : ByteArray

/-- a frame as the program holds it -/
def Fr.val (f : Fr) : Value := .agg #[.int .i64 f.dst, .int .i64 f.src, .bool f.tagged, .int .i64 f.vid, .int .i64 f.pri, .int .i64 f.type, .string f.body]
def Fr.zero : Fr := ⟨0, 0, false, 0, 0, 0, ⟨#[]⟩⟩

def typeOk (t : Int) : Prop := (1536 ≤ t ∧ t ≤ 65535) ∧ t ≠ 33024
instance (t : Int) : Decidable (typeOk t) := by unfold typeOk; infer_instance
def tagOk (f : Fr) : Prop := if f.tagged = true then (1 ≤ f.vid ∧ f.vid ≤ 4094) ∧ (0 ≤ f.pri ∧ f.pri ≤ 7) else f.vid = 0 ∧ f.pri = 0
instance (f : Fr) : Decidable (tagOk f) := by unfold tagOk; infer_instance
/-- a frame is right -/
def frOk (f : Fr) : Prop := isMac f.dst ∧ isMac f.src ∧ ¬ isGrp f.src ∧ tagOk f ∧ typeOk f.type ∧ f.body.size ≤ 1500
instance (f : Fr) : Decidable (frOk f) := by unfold frOk; infer_instance

end Go.Proofs.Ytleebmbnjdoinaa
