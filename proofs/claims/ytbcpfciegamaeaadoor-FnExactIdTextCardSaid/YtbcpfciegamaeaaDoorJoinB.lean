/- joinBytes: the texts of a string's bytes, joined; whatever function makes the texts. -/
import Derived.Test.YtbcpfciegamaeaaDoorIn
import Derived.Test.YtbcpfciegamaeaaDoorStrs
import Derived.Test.YtbcpfciegamaeaaDoorShelf
import Derived.WalkKit
import Derived.Outline
import Derived.Lib.Hide
import Derived.WalkLawsBesides
import Derived.WalkSpells
namespace Go.Proofs.YtbcpfciegamaeaaDoor
open Go.RowKit

theorem strVals_made (m : Nat) : (madeCells #[Value.string .empty] m).toList = strVals (List.replicate m ByteArray.empty) := by
  rw [toList_madeCells_one]; simp [strVals]

theorem sfilled_at (l : List ByteArray) (k m : Nat) (hk : k < m) (hl : l.length = m) : (strVals (l.take k ++ List.replicate (m - k) .empty))[k]? = some (.string .empty) := by
  have e : (l.take k).length = k := by rw [List.length_take]; omega
  simp only [strVals, List.getElem?_map]
  rw [List.getElem?_append_right (by omega), e]
  simp [show 0 < m - k by omega]

theorem sfilled_set (l : List ByteArray) (k m : Nat) (b : ByteArray) (hk : k < m) (hl : l.length = m) (hb : l[k]? = some b) :
    (strVals (l.take k ++ List.replicate (m - k) .empty)).set k (.string b) = strVals (l.take (k + 1) ++ List.replicate (m - (k + 1)) .empty) := by
  have e : (l.take k).length = k := by rw [List.length_take]; omega
  have et : l.take (k + 1) = l.take k ++ [b] := by rw [List.take_add_one, hb]; rfl
  rw [et, show m - k = (m - (k + 1)) + 1 from by omega, List.replicate_succ]
  simp only [strVals, List.map_append, List.map_cons]
  have e' : (List.map Value.string (l.take k)).length = k := by rw [List.length_map]; exact e
  rw [List.set_append_right _ _ (Nat.le_of_eq e'), e', Nat.sub_self]
  simp

theorem lens_small (l : List (List UInt8)) (h : ∀ x ∈ l, x.length ≤ 20) : Lib.lens l ≤ 20 * l.length := by
  induction l with
  | nil => simp [Lib.lens]
  | cons x l ih =>
    have h1 := h x (List.mem_cons_self ..)
    have h2 := ih (fun y hy => h y (List.mem_cons_of_mem _ hy))
    simp only [Lib.lens, List.map_cons, List.sum_cons, List.length_cons] at h2 ⊢
    omega
theorem join_small (l : List (List UInt8)) (c : UInt8) (h : ∀ x ∈ l, x.length ≤ 20) (hl : l.length ≤ 6) : (Lib.join l [c]).length ≤ 140737488355328 := by
  cases l with
  | nil => simp [Lib.join_nil]
  | cons x r =>
    have h1 := lens_small _ h
    rw [Lib.join_length]
    simp only [List.length_cons, List.length_nil] at h1 hl ⊢
    omega

theorem joinB (g : FuncId) (T : UInt8 → List UInt8) (sep : UInt8) (s : ByteArray) (hs : s.size ≤ 6) (hT : ∀ b, (T b).length ≤ 20) (w : World)
    (hen : ∀ args w, (callFunc g args).run Tryd.prog w = .ok (.enter g args) w)
    (hg : ∀ (b : UInt8) (w' : World), Below w.heap.size w w' → Calls Tryd.prog g #[.int .i64 (b.toNat : Int)] w' fun e w2 => e = .returned (.string ⟨(T b).toArray⟩) ∧ Below w'.heap.size w' w2) :
    Calls Tryd.prog 42 #[.string s, .string ⟨#[sep]⟩, .func (.func g) #[] #[]] w fun e w' => e = .returned (.string ⟨(Lib.join (s.data.toList.map T) [sep]).toArray⟩) ∧ Below w.heap.size w w' := by
  obtain ⟨i0, hi, hz0, hz1, hz2⟩ := info_parts infoS
  obtain ⟨m, hm⟩ : ∃ m, s.size = m := ⟨_, rfl⟩
  obtain ⟨ts, hts⟩ : ∃ ts : List ByteArray, ts = s.data.toList.map (fun b => ⟨(T b).toArray⟩) := ⟨_, rfl⟩
  have hlen : ts.length = m := by rw [hts, List.length_map, Array.length_toList, ← hm]; rfl
  have hget : ∀ k (h : k < s.size), ts[k]? = some ⟨(T (s[k]'h)).toArray⟩ := by
    intro k h
    rw [hts, List.getElem?_map, Array.getElem?_toList, Array.getElem?_eq_getElem (show k < s.data.size from h)]
    rfl
  have HTS := Lib.hid hts; clear hts
  have HG := Lib.hid hget; clear hget
  go_enter Tryd.func42, Tryd.ntmps42
  go_wp2_with (at_make; refine wpList_make_full _ rfl _ _ 51 rfl w.heap.size 9 i0 (.string .empty) 1 Tryd.underlying51 hi hz0 hz1 .i64 .i64 _ _ m rfl rfl rfl rfl (by rw [hz2]; omega) (by unfold maxLen; omega) (Nat.le_refl _) ?_)
  intro w1 hown hgrow
  have hb1 : Below w.heap.size w w1 := (Below.refl _ _).grown hgrow (Nat.le_refl _) (fun k e => by cases e)
  have hown0 : w1.ownsRow w.heap.size 9 1 (.slice (some ⟨w.heap.size, 0, none⟩) m m) m (strVals (ts.take 0 ++ List.replicate (m - 0) .empty)) := by
    rw [strVals_made] at hown
    simpa using hown
  clear hown hgrow
  go_wp2
  go_loopw [14] (fun i wr => ∃ k : Nat, k ≤ m ∧ i = .int .i64 k ∧ wr.ownsRow w.heap.size 9 1 (.slice (some ⟨w.heap.size, 0, none⟩) m m) m (strVals (ts.take k ++ List.replicate (m - k) .empty)) ∧ Below w.heap.size w wr)
    (fun i _ => m - (intOf i).toNat)
  case atStart => exact ⟨0, Nat.zero_le _, rfl, hown0, hb1⟩
  case round =>
    obtain ⟨k, hk, rfl, hown, hb⟩ := hrel
    by_cases hlt : k < m
    · have hlt' : k < s.size := by omega
      have hca : wr.cell? ⟨w.heap.size, k, none⟩ = some (.string .empty) := by rw [World.ownsRow.cellAt hown k (by omega)]; exact sfilled_at _ k m hlt hlen
      have hfz := World.ownsRow.frozenAt hown k
      obtain ⟨b, hbk⟩ : ∃ b, s[k]'hlt' = b := ⟨_, rfl⟩
      have hgk := HG.out k hlt'
      rw [hbk] at hgk
      go_wp2_with fail
      have hbc : b.toNat < 256 := b.toNat_lt
      rw [show wrap64 (b.toNat : Int) = (b.toNat : Int) from by unfold wrap64; omega]
      refine (hg b wr hb).mono ?_
      rintro e w2 ⟨rfl, hb2⟩
      have hsz : w.heap.size < wr.heap.size := by have := World.ownsRow.lt hown w.heap.size rfl; omega
      have hown2 : w2.ownsRow w.heap.size 9 1 (.slice (some ⟨w.heap.size, 0, none⟩) m m) m (strVals (ts.take k ++ List.replicate (m - k) .empty)) := ownsRow_below hown hb2 (fun g' e => by cases e; exact hsz)
      have hca2 : w2.cell? ⟨w.heap.size, k, none⟩ = some (.string .empty) := by rw [World.ownsRow.cellAt hown2 k (by omega)]; exact sfilled_at _ k m hlt hlen
      have hfz2 := World.ownsRow.frozenAt hown2 k
      have hst := World.ownsRow.stored hown2 k (.string ⟨(T b).toArray⟩)
      rw [sfilled_set _ k m _ hlt hlen hgk] at hst
      have HS := Lib.hid hst; clear hst
      clear hca hfz
      go_wp2
      go_roundw
      case rel => exact ⟨k + 1, by omega, by go_num, HS.out.1, (hb.trans (hb2.mono hb.size)).setCell (Nat.le_refl _) _⟩
      case measure => simp [intOf]; omega
    · obtain rfl : k = m := by omega
      have hown' : wr.ownsRow w.heap.size 9 1 (.slice (some ⟨w.heap.size, 0, none⟩) ts.length k) ts.length (strVals ts) := by
        have e : ts.take k ++ List.replicate (k - k) .empty = ts := by
          rw [List.take_of_length_le (by omega)]; simp
        rw [e] at hown; rw [hlen]; exact hown
      have hsz : w.heap.size < wr.heap.size := by
        have := World.ownsRow.lt hown w.heap.size rfl; omega
      have hL : (Lib.join (ts.map (·.data.toList)) [sep]).length ≤ 140737488355328 := by
        refine join_small _ _ ?_ (by rw [List.length_map]; omega)
        rw [HTS.out, List.map_map]
        intro x hx
        obtain ⟨b, _, rfl⟩ := List.mem_map.1 hx
        exact hT b
      have hcells : ∀ (j : Nat) x, ts[j]? = some x → wr.cell? ⟨w.heap.size, 0 + j, none⟩ = some (.string x) := by
        intro j x hx
        obtain ⟨hj, rfl⟩ := List.getElem?_eq_some_iff.1 hx
        rw [Nat.zero_add, World.ownsRow.cellAt hown' j (by omega), strVals_get ts j hj]
      have hJ := Tryd.strings_Join w.heap.size 0 k ts ⟨#[sep]⟩ wr hcells hsz (by omega) (by omega) hL
      rw [hlen] at hJ
      have HJ := Lib.hid hJ; clear hJ hcells hown'
      go_wp2_with fail
      refine HJ.out.mono ?_
      rintro e w2 ⟨rfl, hb2⟩
      go_wp2
      go_ret
      refine ⟨?_, hb.trans (hb2.mono hb.size)⟩
      rw [HTS.out, List.map_map]
      rfl
end Go.Proofs.YtbcpfciegamaeaaDoor
