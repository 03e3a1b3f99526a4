/- PutIgmp of the program. -/
import Derived.Test.YtgnckbcpnailbaaIgI
import Derived.Test.YtgnckbcpnailbaaNumsI
import Derived.Deep.RegionHeld3
import Derived.Deep.Cut
namespace Go.Proofs.Ytgnckbcpnailbaa
open Go.RowKit

/-- a row of numbers in memory -/
def IsInts (w : World) (b : Nat) (ns : List Int) : Prop := b < w.heap.size ∧ ∀ i (h : i < ns.length), w.cell? ⟨b, i, none⟩ = some (.int .i64 (ns[i]'h))
theorem ints_new {w : World} {b : Nat} {cs : Array Value} {ns : List Int} {t : TypeId} (hb : b = w.heap.size) (hc : cs.toList = ns.map (fun n => Value.int .i64 n)) : IsInts (w.alloc (.cells cs t)) b ns := by
  subst hb
  refine ⟨by simp, fun i h => ?_⟩
  rw [World.cell?_alloc_at (hn := rfl), ← Array.getElem?_toList, hc, List.getElem?_map, List.getElem?_eq_getElem h]
  rfl
theorem IsInts.below {w w1 : World} {b : Nat} {ns : List Int} (h : IsInts w b ns) (hb : Below w.heap.size w w1) : IsInts w1 b ns :=
  ⟨Nat.lt_of_lt_of_le h.1 hb.size, fun i hi => (hb.cell (p := ⟨b, i, none⟩) h.1).trans (h.2 i hi)⟩
theorem IsInts.alloc {w : World} {b : Nat} {ns : List Int} (h : IsInts w b ns) (o : Obj) : IsInts (w.alloc o) b ns := h.below ((Below.refl _ _).alloc (Nat.le_refl _) o)
theorem IsInts.drew {w : World} {b : Nat} {ns : List Int} (h : IsInts w b ns) : IsInts w.drew b ns := h
theorem putNums_at (many : Int) (ns : List Int) (b len : Nat) (w : World) (h1 : 1 ≤ many) (h2 : many ≤ 6) (hlen : ns.length = len) (hn : len ≤ 10) (h : IsInts w b ns) :
    Calls Try.prog 26 #[.int .i64 many, .slice (some ⟨b, 0, none⟩) len len] w fun e w' => e = .returned (.string ⟨(flatL ns many.toNat).toArray⟩) ∧ Below w.heap.size w w' :=
  putNums_impl many ns b len w h1 h2 hlen hn h.1 h.2

theorem s_of {P Q : Prop} (h : P → Q) (p : P) : P ∧ Q := ⟨p, h p⟩
theorem below_alloc1 {a w : World} (h : Below a.heap.size a w) (o : Obj) : Below a.heap.size a (w.alloc o) := h.alloc h.size o

theorem putIgmp_impl_no (g : Ig) (h : ¬ igOk g) (w : World) : Calls Try.prog 11 #[g.val] w fun e w' => e = .returned (.string ⟨#[]⟩) ∧ Below w.heap.size w w' := by
  have hI := igmpOk_impl g
  rw [decide_eq_false h] at hI
  clear h
  obtain ⟨kind, time, group, src⟩ := g
  unfold Ig.val at *
  simp only at hI ⊢
  have HI := Lib.hid hI; clear hI
  go_enter Try.func11, Try.ntmps11
  go_wp2_with fail
  refine (HI.out _).mono ?_
  rintro e w1 ⟨rfl, hb1⟩
  have hfin := ((Below.refl w.heap.size w).alloc (Nat.le_refl _) _).trans (hb1.mono (by simp))
  clear hb1
  go_wp2_with fail
  go_ret
  exact ⟨rfl, hfin⟩

set_option maxHeartbeats 1000000 in
theorem putIgmp_impl (g : Ig) (h : igOk g) (w : World) : Calls Try.prog 11 #[g.val] w fun e w' => e = .returned (.string ⟨(igL g).toArray⟩) ∧ Below w.heap.size w w' := by
  have hI := igmpOk_impl g
  have hT := igmpTo_impl g
  rw [decide_eq_true h] at hI
  clear h
  obtain ⟨to, hto⟩ : ∃ to, igTo g = to := ⟨_, rfl⟩
  rw [hto] at hT
  have HTO := Lib.hid hto
  clear hto
  obtain ⟨kind, time, group, src⟩ := g
  unfold Ig.val at *
  simp only at hI hT ⊢
  have HI := Lib.hid hI; have HT := Lib.hid hT; clear hI hT
  go_enter Try.func11, Try.ntmps11
  go_wp2_with fail
  refine (HI.out _).mono ?_
  rintro e w1 ⟨rfl, hb1⟩
  have hc := cells4 hb1
  have hsz1 : w.heap.size < w1.heap.size := by have := hb1.size; simp at this; omega
  have hbw1 := ((Below.refl w.heap.size w).alloc (Nat.le_refl _) _).trans (hb1.mono (by simp))
  have HC := Lib.hid hc; have HBW := Lib.hid hbw1
  clear hb1 hc hbw1
  go_wp2_with fail
  have hN := ints_new (w := w1) (t := 3) (cs := #[.int .i64 70, .int .i64 192, .int .i64 0, .int .i64 32, .int .i64 0, .int .i64 0, .int .i64 0, .int .i64 0, .int .i64 1, .int .i64 2]) (ns := [70, 192, 0, 32, 0, 0, 0, 0, 1, 2]) rfl rfl
  refine (putNums_at 1 [70, 192, 0, 32, 0, 0, 0, 0, 1, 2] _ 10 _ (by decide) (by decide) rfl (by decide) hN).mono ?_
  rintro e w2 ⟨rfl, hb2⟩
  have hB2 := (((Below.refl w1.heap.size w1).alloc (Nat.le_refl _) (.cells #[.int .i64 70, .int .i64 192, .int .i64 0, .int .i64 32, .int .i64 0, .int .i64 0, .int .i64 0, .int .i64 0, .int .i64 1, .int .i64 2] 3))).trans (hb2.mono (by simp))
  obtain ⟨o1, ho1⟩ : ∃ o : ByteArray, (⟨(flatL [70, 192, 0, 32, 0, 0, 0, 0, 1, 2] (Int.toNat 1)).toArray⟩ : ByteArray) = o := ⟨_, rfl⟩
  have h1l : o1.data.toList = igA := by rw [← ho1]; rfl
  rw [ho1]
  have H1L := Lib.hid h1l
  have hcc := fun w' (h : Below w1.heap.size w1 w') => (⟨(h.cell (p := ⟨w.heap.size, 0, none⟩) hsz1).trans HC.out.1, (h.cell (p := ⟨w.heap.size, 1, none⟩) hsz1).trans HC.out.2.1, (h.cell (p := ⟨w.heap.size, 2, none⟩) hsz1).trans HC.out.2.2.1, (h.cell (p := ⟨w.heap.size, 3, none⟩) hsz1).trans HC.out.2.2.2⟩ : _ ∧ _ ∧ _ ∧ _)
  have HCC := Lib.hid hcc
  clear hN hb2 ho1 h1l hcc
  obtain ⟨k0, k1, k2, k3⟩ := HCC.out w2 hB2
  simp only
  go_wp2_with fail
  go_cut [4] from 12 (fun s4 wx => s4 = .string ⟨(flatL [src, to] 4).toArray⟩ ∧ Below w1.heap.size w1 wx)
  case first =>
    go_region_held3 (fun w' => Below w1.heap.size w1 w' ∧ w'.cell? ⟨w.heap.size, 0, none⟩ = some (.int .i64 kind) ∧ w'.cell? ⟨w.heap.size, 1, none⟩ = some (.int .i64 time) ∧ w'.cell? ⟨w.heap.size, 2, none⟩ = some (.int .i64 group) ∧ w'.cell? ⟨w.heap.size, 3, none⟩ = some (.int .i64 src)) ((refine s_of (HCC.out _) ?_; first | assumption | exact Below.drew (by assumption) | exact below_alloc1 (by assumption) _ | exact below_alloc1 (Below.drew (by assumption)) _)) (first | (go_at_call 13; refine (HT.out _).mono ?_; rintro e w5 ⟨rfl, hb5⟩; have hB5 := (Below.drew hB2).trans (hb5.mono (Below.drew hB2).size); obtain ⟨m0, m1, m2, m3⟩ := HCC.out w5 hB5) | (go_at_call 26; refine (putNums_at 4 [src, to] _ 2 _ (by decide) (by decide) rfl (by decide) (ints_new (by simp) rfl)).mono ?_; rintro e w6 ⟨rfl, hb6⟩; have hB6 := carry_below (below_alloc1 hB5 _) hb6))
    go_wp2_with fail
    go_meet
    exact ⟨rfl, hB6⟩
  case rest =>
  obtain ⟨rfl, hBc⟩ := hcut
  clear k0 k1 k2 k3 hB2
  go_wp2_with fail
  have hN := ints_new (w := wc) (t := 3) (cs := #[.int .i64 148, .int .i64 4, .int .i64 0, .int .i64 0]) (ns := [148, 4, 0, 0]) rfl rfl
  refine (putNums_at 1 [148, 4, 0, 0] _ 4 _ (by decide) (by decide) rfl (by decide) hN).mono ?_
  rintro e w3 ⟨rfl, hb3⟩
  have hB3 := carry_below (below_alloc1 hBc _) hb3
  obtain ⟨o3, ho3⟩ : ∃ o : ByteArray, (⟨(flatL [148, 4, 0, 0] (Int.toNat 1)).toArray⟩ : ByteArray) = o := ⟨_, rfl⟩
  have h3l : o3.data.toList = [148, 4, 0, 0] := by rw [← ho3]; rfl
  rw [ho3]
  have H3L := Lib.hid h3l
  obtain ⟨o2, ho2⟩ : ∃ o : ByteArray, (⟨(flatL [src, to] 4).toArray⟩ : ByteArray) = o := ⟨_, rfl⟩
  have h2l : o2.data.toList = putL src 4 ++ putL to 4 := by rw [← ho2]; simp [flatL]
  rw [ho2]
  have H2L := Lib.hid h2l
  clear hN hb3 ho3 h3l ho2 h2l hBc
  obtain ⟨k0, k1, k2, k3⟩ := HCC.out w3 hB3
  simp only
  go_wp2_with fail
  go_cut [6] from 20 (fun s6 wx => s6 = .string ⟨(withL (flatL [kind, time] 1) (flatL [group] 4)).toArray⟩ ∧ Below w1.heap.size w1 wx)
  case first =>
    go_region_held3 (fun w' => Below w1.heap.size w1 w' ∧ w'.cell? ⟨w.heap.size, 0, none⟩ = some (.int .i64 kind) ∧ w'.cell? ⟨w.heap.size, 1, none⟩ = some (.int .i64 time) ∧ w'.cell? ⟨w.heap.size, 2, none⟩ = some (.int .i64 group) ∧ w'.cell? ⟨w.heap.size, 3, none⟩ = some (.int .i64 src)) ((refine s_of (HCC.out _) ?_; (repeat first | (with_reducible assumption) | (with_reducible refine Below.drew ?_) | (with_reducible refine below_alloc1 ?_ _)))) (first | (go_at_call 26; with_reducible refine (putNums_at 1 [kind, time] _ 2 _ (by decide) (by decide) (by simp) (by decide) (by (repeat first | ((with_reducible refine ints_new ?_ ?_) <;> (simp; done)) | (with_reducible refine IsInts.drew ?_) | (with_reducible refine IsInts.alloc ?_ _) | (with_reducible refine IsInts.below ?_ hb7)))).mono ?_; rintro e w6 ⟨rfl, hb6⟩; have hB6 := carry_below (a := w1) (by (repeat first | (with_reducible assumption) | (with_reducible refine Below.drew ?_) | (with_reducible refine below_alloc1 ?_ _))) hb6) | (go_at_call 26; with_reducible refine (putNums_at 4 [group] _ 1 _ (by decide) (by decide) (by simp) (by decide) (by (repeat first | ((with_reducible refine ints_new ?_ ?_) <;> (simp; done)) | (with_reducible refine IsInts.drew ?_) | (with_reducible refine IsInts.alloc ?_ _) | (with_reducible refine IsInts.below ?_ hb6)))).mono ?_; rintro e w7 ⟨rfl, hb7⟩; have hB7 := carry_below (a := w1) (by (repeat first | (with_reducible assumption) | (with_reducible refine Below.drew ?_) | (with_reducible refine below_alloc1 ?_ _))) hb7) | (go_at_call 27; with_reducible refine (withSum_impl _ _ _ (by rw [bytes_size, flatL_length]; simp) (by rw [bytes_size, flatL_length]; simp)).mono ?_; rintro e w8 ⟨rfl, hb8⟩; have hB8 := carry_below (a := w1) (by (repeat first | (with_reducible assumption) | (with_reducible refine Below.drew ?_) | (with_reducible refine below_alloc1 ?_ _))) hb8))
    all_goals
      go_wp2_with fail
      go_meet
      exact ⟨rfl, hB8⟩
  case rest =>
  obtain ⟨rfl, hBd⟩ := hcut
  clear k0 k1 k2 k3 hB3
  obtain ⟨o6, ho6⟩ : ∃ o : ByteArray, (⟨(withL (flatL [kind, time] 1) (flatL [group] 4)).toArray⟩ : ByteArray) = o := ⟨_, rfl⟩
  have h6l : o6.data.toList = withL (igK ⟨kind, time, group, src⟩) (putL group 4) := by rw [← ho6]; simp [flatL, igK]
  have h6z : o6.size ≤ 8 := by rw [← ho6, bytes_size]; simp only [withL, List.length_append, putL_length, flatL_length]; simp
  rw [ho6]
  have H6L := Lib.hid h6l
  have h1z : o1.size = 10 := by have e : o1.size = o1.data.toList.length := by rw [Array.length_toList]; rfl
                                rw [e, H1L.out]; rfl
  have h2z : o2.size = 8 := by have e : o2.size = o2.data.toList.length := by rw [Array.length_toList]; rfl
                               rw [e, H2L.out, List.length_append, putL_length, putL_length]
  have h3z : o3.size = 4 := by have e : o3.size = o3.data.toList.length := by rw [Array.length_toList]; rfl
                               rw [e, H3L.out]; rfl
  have h23 : (o2 ++ o3).size = 12 := by rw [ByteArray.size_append]; omega
  have hW := fun w => withSum_impl o1 (o2 ++ o3) w (by omega) (by omega)
  have hl23 : (o2 ++ o3).data.toList = igB ⟨kind, time, group, src⟩ := by simp only [ByteArray.data_append, Array.toList_append, H2L.out, H3L.out, igB, HTO.out]
  rw [H1L.out, hl23] at hW
  obtain ⟨o7, ho7⟩ : ∃ o : ByteArray, (⟨(withL igA (igB ⟨kind, time, group, src⟩)).toArray⟩ : ByteArray) = o := ⟨_, rfl⟩
  have h7l : o7.data.toList = withL igA (igB ⟨kind, time, group, src⟩) := by rw [← ho7]
  have h7z : o7.size = 24 := by
    have e : o7.size = o7.data.toList.length := by rw [Array.length_toList]; rfl
    rw [e, h7l]
    simp only [withL, List.length_append, putL_length, ← hl23]
    have e2 : (o2 ++ o3).data.toList.length = (o2 ++ o3).size := by rw [Array.length_toList]; rfl
    rw [e2, h23]; rfl
  rw [ho7] at hW
  have H7L := Lib.hid h7l; have HW := Lib.hid hW
  have n1 : ¬ (9223372036854775807 < o2.size + o3.size) := by omega
  have n2 : ¬ (9223372036854775807 < o7.size + o6.size) := by omega
  clear ho6 h6l h6z h1z h2z h3z h23 hl23 ho7 h7l h7z hW
  go_wp2_with fail
  refine (HW.out _).mono ?_
  rintro e w9 ⟨rfl, hb9⟩
  have hfin := HBW.out.trans ((carry_below hBd hb9).mono HBW.out.size)
  clear hb9 hBd
  go_wp2_with fail
  go_ret
  refine ⟨congrArg (fun b => Ending.returned (.string b)) (ByteArray.ext (Array.toList_inj.1 ?_)), hfin⟩
  simp only [ByteArray.data_append, Array.toList_append, H6L.out, H7L.out, igL, withL, List.append_assoc]
end Go.Proofs.Ytgnckbcpnailbaa
