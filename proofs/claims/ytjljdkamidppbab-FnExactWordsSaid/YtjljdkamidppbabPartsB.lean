/- The iterator over a text's words: what it yields. -/
import Derived.Test.YtjljdkamidppbabParts
import Derived.RangeFuncNested
import Derived.RangeFuncBound
import Derived.RangeFuncCalls
import Derived.RangeFuncLeaves
import Derived.RangeFuncBox
import Derived.Shelf.Abstract
import Derived.Shelf.RegionOpen
import Derived.WalkKit
import Derived.OwnWalkIn
import Derived.TacticsInMore
import Derived.LoopNIn
import Derived.LoopIn
import Derived.Lib.OthersKept
import Derived.Outline
import Derived.WalkSpells
namespace Go.Proofs.Ytjljdkamidppbab
open Go.RowKit Go.Shelf
attribute [local go_sem] Oper.semAt_some

theorem bl_in (F : Fence) (n : Nat) (hf : F.fn 26) (hro : F.round = none) (c : Int) (w : World) :
    CallsIn F n Try.prog 26 #[.int .i32 c] w fun e w' => e = .returned (.bool (blR c)) ∧ w' = w := by
  refine callsIn_of_wp Try.func26 rfl hf ?_ hro
  simp only [Try.ntmps26, List.size_toArray, List.length_cons, List.length_nil, Nat.reduceAdd, Nat.reduceSub, Array.replicate_succ, Array.replicate_zero, List.push_toArray, List.append_toArray, List.nil_append, List.cons_append]
  gi_wp2
  all_goals go_ret
  all_goals exact ⟨by simp [blR, *], rfl⟩

set_option maxRecDepth 100000 in
set_option maxHeartbeats 4000000 in
/-- the iterator over the parts: it yields them all, in order, or stops where a round says no more -/
theorem parts1_bl (F : Fence) (n : Nat) (h51 : F.fn 38) (hfs : F.fn 26) (hro : F.round = none) (hn : 1 ≤ n) (l Bs : Nat) (s : ByteArray) (hsz : s.size ≤ 1048576)
    (J Jx : List ByteArray → World → Prop) (W : World) (hJ : AbidesFrom W.heap.size J)
    (hY : ∀ pre x W1, J pre W1 → pre.length < s.size + 1 → YieldAt F (n - 1) Try.prog l #[.string x] W1 fun e W' =>
      (e = .returned (.bool true) ∧ J (pre ++ [x]) W' ∧ KeepsBoxes Bs W1 W') ∨ (e = .returned (.bool false) ∧ Jx (pre ++ [x]) W'))
    (hB : Bs + 1 < W.heap.size) (hB0 : W.cell? ⟨Bs, 0, none⟩ = some (.string s)) (hB1 : W.cell? ⟨Bs + 1, 0, none⟩ = some (.func (.func 26) #[] #[])) (h0 : J [] W) :
    CallsIn F n Try.prog 38 #[.func (.yield l) #[] #[], .pointer (some ⟨Bs, 0, none⟩), .pointer (some ⟨Bs + 1, 0, none⟩)] W fun e W' => (∃ v, e = .returned v) ∧
      ((∃ ys : List ByteArray, ys.map (·.data.toList) = partsL isBL s.data.toList [] ∧ J ys W') ∨ (∃ pre, True ∧ Jx pre W')) := by
  refine callsIn_of_wp Try.func38 rfl h51 ?_ hro
  simp only [Try.ntmps38, List.size_toArray, List.length_cons, List.length_nil, Nat.reduceAdd, Nat.reduceSub, Array.replicate_succ, Array.replicate_zero, List.push_toArray, List.append_toArray, List.nil_append, List.cons_append]
  gi_wp2
  gi_loopw [4] (fun st wr => ∃ (pre : List ByteArray) (pos start : Nat), st = .int .i64 start ∧ wr.heap[W.heap.size]? = some (.stringIter s pos) ∧ start ≤ pos ∧ pos ≤ s.size ∧ pre.length ≤ start ∧
      wr.cell? ⟨Bs, 0, none⟩ = some (.string s) ∧ wr.cell? ⟨Bs + 1, 0, none⟩ = some (.func (.func 26) #[] #[]) ∧
      Hid (pre.map (·.data.toList) ++ partsL isBL (s.data.toList.drop pos) ((s.data.toList.drop start).take (pos - start)) = partsL isBL s.data.toList []) ∧ J pre wr)
    (fun _ wr => s.size - wr.iterPos W.heap.size)
  case atStart =>
    refine ⟨[], 0, 0, rfl, World.iter_heap W s 0, Nat.le_refl _, Nat.zero_le _, Nat.le_refl _, ?_, ?_, Lib.hid (by simp), ?_⟩
    · exact block_cell hB0 (Below.heap_alloc W _ Bs (by omega))
    · exact block_cell hB1 (Below.heap_alloc W _ (Bs + 1) (by omega))
    · exact hJ [] W _ none h0 (World.grownBy_alloc W _ none) (fun r e => by cases e)
  case round =>
    obtain ⟨pre, pos, start, rfl, hit, hsp, hps, hpl, hc0, hc1, hx, hJs⟩ := hrel
    have hit2 : ∀ pos', (wr.iterAt W.heap.size s pos').heap[W.heap.size]? = some (.stringIter s pos') := fun pos' => Lib.iterAt_heap wr _ s pos pos' hit
    have hJ2 : ∀ pos', J pre (wr.iterAt W.heap.size s pos') := fun pos' => hJ pre wr _ (some W.heap.size) hJs (grown_iterAt wr _ s pos') (fun r e => by cases e; exact ⟨Nat.le_refl _, _, hit, rfl⟩)
    have hcA : ∀ pos', (wr.iterAt W.heap.size s pos').cell? ⟨Bs, 0, none⟩ = some (.string s) := fun pos' => block_cell hc0 (Lib.iterAt_other wr _ _ s pos' (by omega))
    have hcB : ∀ pos', (wr.iterAt W.heap.size s pos').cell? ⟨Bs + 1, 0, none⟩ = some (.func (.func 26) #[] #[]) := fun pos' => block_cell hc1 (Lib.iterAt_other wr _ _ s pos' (by omega))
    have hpos : wr.iterPos W.heap.size = pos := by unfold World.iterPos; rw [hit]
    have hpos2 : ∀ pos', (wr.iterAt W.heap.size s pos').iterPos W.heap.size = pos' := fun pos' => by unfold World.iterPos; rw [hit2]
    have HP := Lib.hid hpos; have HP2 := Lib.hid hpos2; have HIT := Lib.hid hit2; have HJ2 := Lib.hid hJ2
    have hc0W := hc0
    clear hpos hpos2 hit2 hJ2 hc0 hc1
    by_cases hlt : pos < s.size
    · by_cases ha : (s[pos]'hlt).toNat < 128
      · have hnx : ∀ ty, (Instr.next (.pointer (some ⟨W.heap.size, 0, none⟩)) true ty).run Try.prog wr = _ := fun ty => Lib.run_next_ascii_at wr W.heap.size s pos ty hit hlt ha
        have hc0' := hcA (pos + 1)
        have hc1' := hcB (pos + 1)
        have HCA := Lib.hid hcA; have HCB := Lib.hid hcB; have HI := Lib.hid hit
        clear hcA hcB hit
        cases hsep : isBL (s[pos]'hlt) with
        | true =>
          have hs1 : blR ((s[pos]'hlt).toNat : Int) = true := (bl_rune _).trans hsep
          have HX := parts_sep isBL s start pos hlt hsep
          have HX := Lib.hid HX
          have HS := Lib.hid hsep; clear hsep
          obtain ⟨fn, tmps, assign, body, hy, hR⟩ := hY pre (s.extract start pos) _ (HJ2.out (pos + 1)) (by omega)
          gi_wp2_with (gi_at_call 26; refine (bl_in F _ hfs hro _ _).mono ?_; rintro e w' ⟨rfl, rfl⟩)
          refine hR.mono ?_
          rintro e W3 (⟨rfl, hJ3, hk3⟩ | ⟨rfl, hJx3⟩)
          · have h3 := hk3.1.same _ _ (HIT.out (pos + 1)) rfl
            have hc03 := block_cell hc0' hk3.2.1
            have hc13 := block_cell hc1' hk3.2.2
            have H3 := Lib.hid h3; clear h3
            gi_wp2
            go_roundw
            case rel =>
              refine ⟨pre ++ [s.extract start pos], pos + 1, pos + 1, by go_num, H3.out, Nat.le_refl _, by omega, by simp; omega, hc03, hc13, Lib.hid ?_, hJ3⟩
              rw [← hx.out, HX.out]
              simp
            case measure =>
              have e3 : W3.iterPos W.heap.size = pos + 1 := by unfold World.iterPos; rw [H3.out]
              rw [e3, HP.out]
              omega
          · gi_wp2
            refine bodyPost_ret (results_none rfl _ _ _) rfl ?_
            exact ⟨⟨_, rfl⟩, .inr ⟨_, trivial, hJx3⟩⟩
        | false =>
          have hs1 : blR ((s[pos]'hlt).toNat : Int) = false := (bl_rune _).trans hsep
          have HX := parts_on isBL s start pos 1 hsp (by omega) (fun j hj hj1 => by (obtain rfl : j = 0 := by omega); exact hsep)
          have HX := Lib.hid HX
          clear hsep
          gi_wp2_with (gi_at_call 26; refine (bl_in F _ hfs hro _ _).mono ?_; rintro e w' ⟨rfl, rfl⟩)
          go_roundw
          case rel =>
            exact ⟨pre, pos + 1, start, rfl, HIT.out (pos + 1), by omega, by omega, hpl, HCA.out _, HCB.out _, Lib.hid (by rw [← hx.out, HX.out]), HJ2.out _⟩
          case measure => rw [HP2.out, HP.out]; omega
      · have hnx : ∀ ty, (Instr.next (.pointer (some ⟨W.heap.size, 0, none⟩)) true ty).run Try.prog wr = _ := fun ty => Lib.run_next_any_at wr W.heap.size s pos ty hit hlt
        obtain ⟨hw1, hw2, hw3⟩ := decode_wide s pos hlt (by omega)
        have hhi := decode_high s pos hlt (by omega)
        have HX := parts_on isBL s start pos (Utf8.decode s pos).2 hsp hw2 (fun j hj hj1 => bl_high _ (hw3 j hj hj1))
        have HX := Lib.hid HX
        have hs1 : blR ((Utf8.decode s pos).1 : Int) = false := bl_far _ (by omega)
        clear hw3
        generalize Utf8.decode s pos = d at *
        have hc0' := hcA (pos + d.2)
        have hc1' := hcB (pos + d.2)
        have HCA := Lib.hid hcA; have HCB := Lib.hid hcB; have HI := Lib.hid hit
        clear hcA hcB hit
        gi_wp2_with (gi_at_call 26; refine (bl_in F _ hfs hro _ _).mono ?_; rintro e w' ⟨rfl, rfl⟩)
        go_roundw
        case rel =>
          exact ⟨pre, pos + d.2, start, rfl, HIT.out _, by omega, hw2, hpl, HCA.out _, HCB.out _, Lib.hid (by rw [← hx.out, HX.out]), HJ2.out _⟩
        case measure => rw [HP2.out, HP.out]; omega
    · obtain rfl : pos = s.size := by omega
      have hnx : ∀ ty, (Instr.next (.pointer (some ⟨W.heap.size, 0, none⟩)) true ty).run Try.prog wr = _ := fun ty => Lib.run_next_end_at wr W.heap.size s s.size ty hit hlt
      have HI := Lib.hid hit
      have HL := Lib.hid (parts_end isBL s start)
      obtain ⟨fn, tmps, assign, body, hy, hR⟩ := hY pre (s.extract start s.size) wr hJs (by omega)
      have hcs := hc0W
      gi_wp2
      refine hR.mono ?_
      rintro e W3 (⟨rfl, hJ3, hk3⟩ | ⟨rfl, hJx3⟩)
      · gi_wp2
        go_end0
        exact ⟨⟨_, rfl⟩, .inl ⟨pre ++ [s.extract start s.size], by rw [← hx.out, HL.out]; simp, hJ3⟩⟩
      · gi_wp2
        go_end0
        exact ⟨⟨_, rfl⟩, .inr ⟨_, trivial, hJx3⟩⟩
end Go.Proofs.Ytjljdkamidppbab
