/- appendSum and sumOk of the program. -/
import Derived.Test.YtfkpecildcejkaaByt
import Derived.Test.YtfkpecildcejkaaCrcI
import Derived.Test.YtfkpecildcejkaaPutFrS
namespace Go.Proofs.Ytfkpecildcejkaa
open Go.RowKit

theorem below_setCells {B b : Nat} (hB : B ≤ b) : ∀ (vs : List Value) (o : Nat) {a w : World}, Below B a w → Below B a (w.setCells b o vs)
  | [], _, _, _, h => h
  | v :: r, o, _, _, h => below_setCells hB r (o + 1) (h.setCell (p := ⟨b, o, none⟩) hB v)

theorem byteAt_setCells {w : World} {g cap : Nat} {l s : List UInt8} (h : ByteAt w g l) (hf : FreeAt w g cap) (hc : l.length + s.length ≤ cap) : ByteAt (w.setCells g l.length (byteVals s)) g (l ++ s) := by
  intro j hj
  rw [List.length_append] at hj
  by_cases hjl : j < l.length
  · rw [World.cell?_setCells_out g _ _ _ _ (fun _ _ => .inl hjl), List.getElem_append_left hjl]
    exact h j hjl
  · obtain ⟨i, rfl⟩ : ∃ i, j = l.length + i := ⟨j - l.length, by omega⟩
    have hi : i < s.length := by omega
    have e := World.cell?_setCells_in g (byteVals s) l.length w (fun k hk => (hf _ (by rw [byteVals_length] at hk; omega)).1) i (by rw [byteVals_length]; exact hi)
    rw [List.getElem_append_right (by omega)]
    simp only [Nat.add_sub_cancel_left]
    rw [e]
    simp [byteVals]

/-- a row of bytes that the call owns, and that isn't empty, has an address -/
theorem owned_at {w : World} {base n : Nat} {v : Value} {l : List UInt8} (h : w.ownsRow base 5 1 v n (byteVals l)) (hn : 0 < n) : ∃ g cap, v = .slice (some ⟨g, 0, none⟩) n cap ∧ base ≤ g ∧ ByteAt w g l := by
  rcases h.2 with ⟨rfl, h0⟩ | ⟨g, cap, cur, rfl, hb, hg, hnc, hcm, hcs, htake⟩
  · omega
  · exact ⟨g, cap, rfl, hb, byteAt_of_list fun j u hu => by have e := World.ownsRow.cells h (g := g) rfl j u hu; rwa [Addr.add_lit, Nat.zero_add] at e⟩

def SumRet (B : Nat) (l : List UInt8) (w : World) (e : Ending) (w' : World) : Prop :=
  ∃ g' cap', e = .returned (.slice (some ⟨g', 0, none⟩) (l.length + 4) cap') ∧ ByteAt w' g' (l ++ sumL l) ∧ Below B w w'

/-- what the last four bytes should be -/
def sumOk (s : ByteArray) : Prop := sumL (s.extract 0 (s.size - 4)).data.toList = (s.extract (s.size - 4) s.size).data.toList
instance (s : ByteArray) : Decidable (sumOk s) := by unfold sumOk; infer_instance

theorem sumOk_take (s : ByteArray) (h : 4 ≤ s.size) : decide (s.data.toList.take (s.size - 4) ++ sumL (s.data.toList.take (s.size - 4)) = s.data.toList) = decide (sumOk s) := by
  have e1 : (s.extract 0 (s.size - 4)).data.toList = s.data.toList.take (s.size - 4) := by
    rw [ByteArray.data_extract, Array.toList_extract]
    simp
  have hl : s.data.toList.length = s.size := by rw [Array.length_toList]; rfl
  have e2 : (s.extract (s.size - 4) s.size).data.toList = s.data.toList.drop (s.size - 4) := by
    rw [ByteArray.data_extract, Array.toList_extract]
    simp only [List.extract]
    rw [List.take_of_length_le (by rw [List.length_drop]; omega)]
  rw [decide_eq_decide]
  unfold sumOk
  rw [e1, e2]
  refine ⟨fun k => ?_, fun k => ?_⟩
  · exact List.append_cancel_left (k.trans (List.take_append_drop (s.size - 4) s.data.toList).symm)
  · rw [k, List.take_append_drop]

end Go.Proofs.Ytfkpecildcejkaa
