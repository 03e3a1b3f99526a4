/- Rows of strings: the laws' own helpers that compare, mark and hold them. -/
import Derived.Test.YtjljdkamidppbaaIn
import Derived.Test.YtjljdkamidppbaaDig
import Derived.WalkKit
import Derived.Outline
import Derived.Lib.Hide
import Derived.WalkLawsBesides
import Derived.WalkSpells
import Derived.WalkSmall
import Derived.Deep.QuietTactic
import Derived.BigQuiet
import Derived.Deep.RegionHeld3
namespace Go.Proofs.Ytjljdkamidppbaa
open Go.RowKit

theorem infoS : (Try.prog.info? 9).map (fun i => (i.zero, i.size, i.bytes)) = some (some (.string .empty), 1, 16) := by kernel_rfl
def strVals (l : List ByteArray) : List Value := l.map Value.string
theorem strVals_length (l : List ByteArray) : (strVals l).length = l.length := by simp [strVals]
theorem strVals_get (l : List ByteArray) (i : Nat) (h : i < l.length) : (strVals l)[i]? = some (.string l[i]) := by simp [strVals, h]
theorem strs_ext {ys zs : List ByteArray} (h : ys.map (·.data.toList) = zs.map (·.data.toList)) : ys = zs := by
  induction ys generalizing zs with
  | nil => cases zs with
    | nil => rfl
    | cons z zs => cases h
  | cons y ys ih => cases zs with
    | nil => cases h
    | cons z zs =>
      simp only [List.map_cons, List.cons.injEq] at h
      rw [ih h.2]
      have e : y = z := by
        apply ByteArray.ext
        exact Array.toList_inj.1 h.1
      rw [e]

/-- slice value v reads as the strings ys -/
def ReadS (w : World) (v : Value) (ys : List ByteArray) : Prop :=
  (v = .slice none 0 0 ∧ ys = []) ∨ ∃ g cap, v = .slice (some ⟨g, 0, none⟩) ys.length cap ∧ ∀ i (h : i < ys.length), w.cell? ⟨g, i, none⟩ = some (.string ys[i])
theorem readS_of_owns {w : World} {base : Nat} {v : Value} {ys : List ByteArray} (h : w.ownsRow base 9 1 v ys.length (strVals ys)) : ReadS w v ys := by
  rcases h.2 with ⟨rfl, h0⟩ | ⟨g, cap, cur, rfl, _⟩
  · exact .inl ⟨rfl, List.eq_nil_of_length_eq_zero h0⟩
  · refine .inr ⟨g, cap, rfl, fun i hi => ?_⟩
    rw [h.cellAt i (by omega), strVals_get ys i hi]
theorem ReadS.drewN {w : World} {v : Value} {ys : List ByteArray} (h : ReadS w v ys) (n : Nat) : ReadS (w.drewN n) v ys := h

theorem eqS_yes (a b : Value) (ys : List ByteArray) (hl : ys.length ≤ 9223372036854775807) (w : World) (ha : ReadS w a ys) (hb : ReadS w b ys) :
    Calls Try.prog 40 #[a, b] w fun e w' => e = .returned (.bool true) ∧ ∃ n, w' = w.drewN n := by
  rcases ha with ⟨rfl, rfl⟩ | ⟨g, cap, rfl, hg⟩
  · rcases hb with ⟨rfl, _⟩ | ⟨g, cap, rfl, hg⟩
    · go_enter Try.func40, Try.ntmps40
      go_wp2
      refine wp_loop_rounds 1 ?_
      rw [rounds_succ]
      go_wp2
      go_ret
      exact ⟨rfl, 0, rfl⟩
    · go_enter Try.func40, Try.ntmps40
      go_wp2
      refine wp_loop_rounds 1 ?_
      rw [rounds_succ]
      go_wp2
      go_ret
      exact ⟨rfl, 0, rfl⟩
  · rcases hb with ⟨rfl, rfl⟩ | ⟨g2, cap2, rfl, hg2⟩
    · go_enter Try.func40, Try.ntmps40
      go_wp2
      refine wp_loop_rounds 1 ?_
      rw [rounds_succ]
      go_wp2
      go_ret
      exact ⟨rfl, 0, rfl⟩
    · have HG := Lib.hid hg; have HG2 := Lib.hid hg2; clear hg hg2
      go_enter Try.func40, Try.ntmps40
      go_wp2
      go_loopw [5] (fun i wr => ∃ k n : Nat, i = .int .i64 k ∧ k ≤ ys.length ∧ Hid (wr = w.drewN n)) (fun i _ => ys.length - (intOf i).toNat)
      case atStart => exact ⟨0, 0, rfl, Nat.zero_le _, Lib.hid rfl⟩
      case round =>
        obtain ⟨k, n, rfl, hk, HW⟩ := hrel
        by_cases hlt : k < ys.length
        · have h1 : wr.cell? ⟨g, k, none⟩ = some (.string ys[k]) := by rw [HW.out]; exact HG.out k hlt
          have h2 : wr.cell? ⟨g2, k, none⟩ = some (.string ys[k]) := by rw [HW.out]; exact HG2.out k hlt
          generalize ys[k] = y at h1 h2
          go_wp2
          go_quiet (fail)
          go_wp2
          go_roundw
          case rel => exact ⟨k + 1, _, by go_num, by omega, Lib.hid (by rw [HW.out, World.drewN_drewN])⟩
          case measure => simp [intOf]; omega
        · go_wp2
          go_ret
          exact ⟨rfl, n, HW.out⟩

/-- the mark of number k -/
def markB (k : Nat) : ByteArray := ⟨(109 :: Lib.decDigits k).toArray⟩

theorem markText_any (k : Nat) (h1 : 1 ≤ k) (h2 : k ≤ 4194304) (w : World) :
    Calls Try.prog 64 #[.int .i64 (k : Int)] w fun e w' => e = .returned (.string (markB k)) ∧ Below w.heap.size w w' := by
  have hlen : Lib.nDigits k ≤ 20 := nDigits_le 19 k (by omega)
  go_enter Try.func64, Try.ntmps64
  go_wp2
  go_loopw [0, 3] (fun i v wr => ∃ (m : Nat) (o : List UInt8), i = .int .i64 m ∧ v = .string ⟨o.toArray⟩ ∧ m ≤ k ∧ o.length ≤ 20 ∧ Hid (decR m ++ o = Lib.decDigits k) ∧ Below w.heap.size w wr) (fun i _ _ => (intOf i).toNat)
  case atStart => exact ⟨k, [], rfl, rfl, Nat.le_refl _, by simp, Lib.hid (by simp [decR]; omega), Below.refl _ _⟩
  case round =>
    obtain ⟨m, o, rfl, rfl, hm, ho, Hr, hb⟩ := hrel
    by_cases hz : m = 0
    · subst hz
      go_wp2
      go_ret
      refine ⟨?_, hb⟩
      unfold markB
      rw [← Hr.out]
      rfl
    · have hs := decR_step m hz o
      have hl : (UInt8.ofNat (48 + m % 10) :: o).length ≤ 20 := by
        have h2 := congrArg List.length (hs.symm.trans Hr.out)
        rw [List.length_append, Lib.decDigits_length] at h2
        omega
      have e : (((UInt8.ofNat (48 + m % 10)).toNat : Nat) : Int) = 48 + (m : Int) % 10 := by rw [UInt8.toNat_ofNat']; omega
      generalize UInt8.ofNat (48 + m % 10) = c at hs hl e
      have Hl := Lib.hid hl; clear hl
      have HS := Lib.hid hs; clear hs
      have hm0 : 0 < (m : Int) := by omega
      have hcv : (convert 22 9 (.slice (some ⟨wr.heap.size, 0, none⟩) 1 1)).run Try.prog (wr.alloc (.cells #[.int .u8 (48 + (m : Int) % 10)] 5)) = .ok (.string ⟨#[c]⟩) (wr.alloc (.cells #[.int .u8 (48 + (m : Int) % 10)] 5)) := by
        refine run_convert_bytes_back _ 22 9 5 ⟨wr.heap.size, 0, none⟩ 1 [c] Try.underlying22 Try.underlying5 Try.underlying9 ?_
        intro j hj
        obtain rfl : j = 0 := by simp at hj; exact hj
        show World.cell? _ _ = some (.int .u8 ((c.toNat : Nat) : Int))
        rw [e]
        exact World.cell?_alloc_at _ _ _ _ rfl
      have hcat : ({ data := #[c] } : ByteArray) ++ { data := o.toArray } = { data := (c :: o).toArray } := by
        apply ByteArray.ext
        rw [ByteArray.data_append]
        simp
      have HC := Lib.hid hcat; clear hcat e
      go_wp2
      go_roundw
      case rel => exact ⟨m / 10, c :: o, by go_num, by rw [HC.out], by omega, Hl.out, Lib.hid (HS.out.symm.trans Hr.out), hb.alloc hb.size _⟩
      case measure => simp [intOf]; omega

/-- the marks from number k on, n of them -/
def marks (k n : Nat) : List ByteArray := (List.range n).map fun i => markB (k + i)
theorem marks_length (k n : Nat) : (marks k n).length = n := by simp [marks]
theorem marks_get (k n i : Nat) (h : i < n) : (marks k n)[i]? = some (markB (k + i)) := by simp [marks, h]

theorem set_marks (k n j : Nat) (ys : List ByteArray) (hl : ys.length = n) (hj : j < n) :
    (strVals (marks k j ++ ys.drop j)).set j (.string (markB (k + j))) = strVals (marks k (j + 1) ++ ys.drop (j + 1)) := by
  have e1 : (strVals (marks k j)).length = j := by rw [strVals_length, marks_length]
  have e2 : ys.drop j = ys[j] :: ys.drop (j + 1) := List.drop_eq_getElem_cons (by omega)
  have e3 : marks k (j + 1) = marks k j ++ [markB (k + j)] := by simp [marks, List.range_succ]
  rw [e2, e3]
  unfold strVals at *
  rw [List.map_append, List.set_append_right _ _ (by omega), e1, Nat.sub_self, List.map_cons, List.set_cons_zero, List.map_append, List.map_append, List.append_assoc]
  rfl

theorem ownsRow_below {w w' : World} {B base : Nat} {e : TypeId} {size : Nat} {v : Value} {n : Nat} {xs : List Value} (h : w.ownsRow base e size v n xs) (hb : Below B w w') (hB : ∀ g, v.ownBlock = some g → g < B) : w'.ownsRow base e size v n xs := by
  refine ⟨h.1, ?_⟩
  rcases h.2 with h' | ⟨g, cap, cur, h1, h2, h3, h4⟩
  · exact .inl h'
  · refine .inr ⟨g, cap, cur, h1, h2, ?_, h4⟩
    rw [hb.block g (hB g (by rw [h1]; rfl))]
    exact h3
theorem grown_of_below {w w' : World} (h : Below w.heap.size w w') (r : Option Nat) : w.grownBy w' r := ⟨h.os, h.tape, h.output, h.size, fun k hk _ => h.block k hk⟩
theorem grown_trans' {a b c : World} {r : Option Nat} (h : a.grownBy b r) (k : b.grownBy c r) : a.grownBy c r :=
  ⟨k.os.trans h.os, k.tape.trans h.tape, k.output.trans h.output, Nat.le_trans h.size k.size, fun i hi hr => (k.block i (Nat.lt_of_lt_of_le hi h.size) hr).trans (h.block i hi hr)⟩

theorem markS_any (base : Nat) (v : Value) (ys : List ByteArray) (k : Nat) (h1 : 1 ≤ k) (h2 : k + ys.length ≤ 4194304) (w : World) (h : w.ownsRow base 9 1 v ys.length (strVals ys)) :
    Calls Try.prog 41 #[v, .int .i64 (k : Int)] w fun e w' => e = .returned (.int .i64 ((k + ys.length : Nat) : Int)) ∧ w'.ownsRow base 9 1 v ys.length (strVals (marks k ys.length)) ∧ w.grownBy w' v.ownBlock := by
  generalize hn : ys.length = n at *
  rcases h.2 with ⟨rfl, rfl⟩ | ⟨g, cap, cur, rfl, hbg, _⟩
  · go_enter Try.func41, Try.ntmps41
    go_wp2
    refine wp_loop_rounds 1 ?_
    rw [rounds_succ]
    go_wp2
    go_ret
    exact ⟨rfl, World.ownsRow_nil _ _ _ _, World.grownBy.refl _ _⟩
  · have HN := Lib.hid hn; clear hn
    go_enter Try.func41, Try.ntmps41
    go_wp2
    go_loopw [1, 5] (fun q i wr => ∃ j : Nat, i = .int .i64 j ∧ q = .int .i64 ((k : Int) + j) ∧ j ≤ n ∧ wr.ownsRow base 9 1 (.slice (some ⟨g, 0, none⟩) n cap) n (strVals (marks k j ++ ys.drop j)) ∧ w.grownBy wr (some g)) (fun _ i _ => n - (intOf i).toNat)
    case atStart => exact ⟨0, rfl, by simp, Nat.zero_le _, by simpa [marks] using h, World.grownBy.refl _ _⟩
    case round =>
      obtain ⟨j, rfl, rfl, hj, hown, hgr⟩ := hrel
      by_cases hlt : j < n
      · go_wp2_with fail
        rw [show (k : Int) + (j : Int) = ((k + j : Nat) : Int) from by omega]
        refine (markText_any (k + j) (by omega) (by omega) _).mono ?_
        rintro e w1 ⟨rfl, hb1⟩
        have hgl := (hown.lt g rfl).2
        have hown1 : w1.ownsRow base 9 1 (.slice (some ⟨g, 0, none⟩) n cap) n (strVals (marks k j ++ ys.drop j)) := ownsRow_below hown hb1 (fun g' e => by cases e; exact hgl)
        have hgr1 := grown_trans' hgr (grown_of_below hb1 (some g))
        have hfz := World.ownsRow.frozenAt hown1 j
        have hca : w1.cell? ⟨g, j, none⟩ = some (.string (ys[j]'(by rw [HN.out]; exact hlt))) := by
          rw [World.ownsRow.cellAt hown1 j (by omega)]
          unfold strVals
          rw [List.map_append, List.getElem?_append_right (by rw [List.length_map, marks_length]; exact Nat.le_refl _), List.length_map, marks_length, Nat.sub_self, List.drop_eq_getElem_cons (by rw [HN.out]; exact hlt)]
          rfl
        have hst := World.ownsRow.stored hown1 j (.string (markB (k + j)))
        rw [set_marks k n j ys HN.out hlt] at hst
        have HS := Lib.hid hst; clear hst hown hown1 hb1
        generalize ys[j]'(by rw [HN.out]; exact hlt) = y at hca
        go_wp2_with fail
        go_roundw
        case rel => exact ⟨j + 1, by go_num, by go_num, by omega, HS.out.1, grown_trans' hgr1 HS.out.2⟩
        case measure => simp [intOf]; omega
      · obtain rfl : j = n := by omega
        go_wp2
        go_ret
        refine ⟨by go_num, ?_, hgr⟩
        have e : marks k j ++ ys.drop j = marks k j := by rw [List.drop_of_length_le (by rw [HN.out]; exact Nat.le_refl _), List.append_nil]
        rw [e] at hown
        exact hown

theorem markText_sum (k j : Nat) (h1 : 1 ≤ k) (h2 : k + j ≤ 4194304) (w : World) :
    Calls Try.prog 64 #[.int .i64 ((k : Int) + (j : Int))] w fun e w' => e = .returned (.string (markB (k + j))) ∧ Below w.heap.size w w' := by
  have h := markText_any (k + j) (by omega) h2 w
  rw [Int.natCast_add] at h
  exact h

/-- a row that bears its marks is held to bear them -/
theorem heldS_any (v : Value) (k n : Nat) (h1 : 1 ≤ k) (h2 : k + n ≤ 4194304) (w : World) (h : ReadS w v (marks k n)) (hlow : ∀ g, v.ownBlock = some g → g < w.heap.size) :
    Calls Try.prog 42 #[v, .int .i64 (k : Int)] w fun e w' => e = .returned (.int .i64 ((k + n : Nat) : Int)) ∧ Below w.heap.size w w' := by
  rcases h with ⟨rfl, hm⟩ | ⟨g, cap, rfl, hg⟩
  · obtain rfl : n = 0 := by have := congrArg List.length hm; rw [marks_length] at this; exact this
    go_enter Try.func42, Try.ntmps42
    go_wp2
    refine wp_loop_rounds 1 ?_
    rw [rounds_succ]
    go_wp2
    go_ret
    exact ⟨rfl, Below.refl _ _⟩
  · have hgl := hlow g rfl
    rw [marks_length]
    have hg' : ∀ i, i < n → w.cell? ⟨g, i, none⟩ = some (.string (markB (k + i))) := fun i hi => by
      rw [hg i (by rw [marks_length]; exact hi)]
      simp [marks]
    clear hg
    have HG := Lib.hid hg'; clear hg'
    go_enter Try.func42, Try.ntmps42
    go_wp2
    go_loopw [1, 5] (fun q i wr => ∃ j : Nat, i = .int .i64 j ∧ q = .int .i64 ((k : Int) + j) ∧ j ≤ n ∧ Below w.heap.size w wr) (fun _ i _ => n - (intOf i).toNat)
    case atStart => exact ⟨0, rfl, by simp, Nat.zero_le _, Below.refl _ _⟩
    case round =>
      obtain ⟨j, rfl, rfl, hj, hb⟩ := hrel
      by_cases hlt : j < n
      · have hc : wr.cell? ⟨g, j, none⟩ = some (.string (markB (k + j))) := (hb.cell (p := ⟨g, j, none⟩) hgl).trans (HG.out j hlt)
        have hw0 : Below wr.heap.size wr wr := Below.refl _ _
        have hgr : g < wr.heap.size := Nat.lt_of_lt_of_le hgl hb.size
        have hcw : ∀ w', Below wr.heap.size wr w' → w'.cell? ⟨g, j, none⟩ = some (.string (markB (k + j))) := fun w' hb' => (hb'.cell (p := ⟨g, j, none⟩) hgr).trans hc
        have HCW := Lib.hid hcw; clear hcw
        go_wp2_with fail
        go_region_held3 (fun w' => w'.cell? ⟨g, j, none⟩ = some (.string (markB (k + j))) ∧ Below wr.heap.size wr w') (first | exact ⟨HCW.out _ (by assumption), by assumption⟩ | exact ⟨HCW.out _ (Below.drew (by assumption)), Below.drew (by assumption)⟩) (first | (go_at_call 64; refine (markText_sum k j h1 (by omega) _).mono ?_; rintro e w7 ⟨rfl, hb7⟩; have hb8 : Below wr.heap.size wr w7 := carry_below (And.right (a := World.cell? _ _ = _) (by assumption)) hb7))
        go_wp2_with fail
        go_roundw
        case rel => exact ⟨j + 1, by go_num, by go_num, by omega, carry_below hb hb8⟩
        case measure => simp [intOf]; omega
      · obtain rfl : j = n := by omega
        go_wp2
        go_ret
        exact ⟨by go_num, hb⟩
theorem cell_box {w : World} {b : Nat} {v : Value} {t : TypeId} (h : w.heap[b]? = some (.cells #[v] t)) : w.cell? ⟨b, 0, none⟩ = some v := by simp [World.cell?, h]
theorem ownsRow_lower {w : World} {base base' : Nat} {e : TypeId} {size : Nat} {v : Value} {n : Nat} {xs : List Value} (h : w.ownsRow base e size v n xs) (hb : base' ≤ base) : w.ownsRow base' e size v n xs := by
  refine ⟨h.1, ?_⟩
  rcases h.2 with h' | ⟨g, cap, cur, h1, h2, h3⟩
  · exact .inl h'
  · exact .inr ⟨g, cap, cur, h1, Nat.le_trans hb h2, h3⟩
theorem ownsRow_cap {w : World} {base : Nat} {e : TypeId} {size g n cap : Nat} {xs : List Value} (h : w.ownsRow base e size (.slice (some ⟨g, 0, none⟩) n cap) n xs) : n ≤ cap ∧ cap ≤ maxLen ∧ base ≤ g := by
  rcases h.2 with ⟨h', _⟩ | ⟨g', cap', cur, h', hb, hg, hnc, hcm, _⟩
  · cases h'
  · simp only [Value.slice.injEq, Option.some.injEq, Addr.mk.injEq, and_true, true_and] at h'
    obtain ⟨rfl, rfl⟩ := h'
    exact ⟨hnc, hcm, hb⟩
theorem ownsRow_prefix {w : World} {base : Nat} {e : TypeId} {g n cap m : Nat} {xs : List Value} (h : w.ownsRow base e 1 (.slice (some ⟨g, 0, none⟩) n cap) n xs) (hm : m ≤ n) : w.ownsRow base e 1 (.slice (some ⟨g, 0, none⟩) m cap) m (xs.take m) := by
  rcases h.2 with ⟨h', _⟩ | ⟨g', cap', cur, h', hb, hg, hnc, hcm, hcs, htake⟩
  · cases h'
  · simp only [Value.slice.injEq, Option.some.injEq, Addr.mk.injEq, and_true, true_and] at h'
    obtain ⟨rfl, rfl⟩ := h'
    refine ⟨?_, .inr ⟨g, cap, cur, rfl, hb, hg, by omega, hcm, hcs, ?_⟩⟩
    · have := h.1; rw [List.length_take]; omega
    · rw [← htake, List.take_take, show min m (n * 1) = m * 1 from by omega]

def GotStrs (w : World) (ls : List (List UInt8)) (e : Ending) (w' : World) : Prop :=
  ∃ (v : Value) (ys : List ByteArray), e = .returned v ∧ ys.map (·.data.toList) = ls ∧ w'.ownsRow w.heap.size 9 1 v ys.length (strVals ys) ∧ Below w.heap.size w w'
end Go.Proofs.Ytjljdkamidppbaa
