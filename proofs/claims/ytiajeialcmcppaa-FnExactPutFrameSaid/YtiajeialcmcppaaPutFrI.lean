/- PutFrame of the program. -/
import Derived.Test.YtiajeialcmcppaaFrI
import Derived.Test.YtiajeialcmcppaaSumI
namespace Go.Proofs.Ytiajeialcmcppaa
open Go.RowKit

theorem putFrame_impl_no (f : Fr) (h : ¬ frOk f) (hbs : f.body.size ≤ 1048576) (w : World) :
    Calls Try.prog 10 #[f.val] w fun e w' => e = .returned (.string ⟨#[]⟩) ∧ Below w.heap.size w w' := by
  have hd := decide_eq_false h
  have hf := fun w => frameOk_impl f hbs w
  rw [hd] at hf
  obtain ⟨dst, src, tagged, vid, pri, type, body⟩ := f
  unfold Fr.val at hf ⊢
  simp only at hbs hf ⊢
  have HF := Lib.hid hf; clear hf hd h
  go_enter Try.func10, Try.ntmps10
  go_wp2_with fail
  refine (HF.out _).mono ?_
  rintro e w1 ⟨rfl, hb1⟩
  go_wp2_with fail
  go_ret
  exact ⟨rfl, ((Below.refl _ _).alloc (Nat.le_refl _) _).trans (hb1.mono (by simp))⟩

set_option maxHeartbeats 1000000 in
theorem putFrame_impl (f : Fr) (h : frOk f) (w : World) :
    Calls Try.prog 10 #[f.val] w fun e w' => e = .returned (.string ⟨(frL f).toArray⟩) ∧ Below w.heap.size w w' := by
  have hbs : f.body.size ≤ 1500 := h.2.2.2.2.2
  have hd := decide_eq_true h
  have hf := fun w => frameOk_impl f (by omega) w
  rw [hd] at hf
  have htg := h.2.2.2.1
  clear hd h
  obtain ⟨dst, src, tagged, vid, pri, type, body⟩ := f
  unfold Fr.val at hf ⊢
  simp only at hbs hf ⊢
  have HF := Lib.hid hf; clear hf
  have hb0 : ∀ o, Below w.heap.size w (w.alloc o) := fun o => (Below.refl _ _).alloc (Nat.le_refl _) o
  have h1 := putL_length dst 6
  have h2 := putL_length src 6
  have h3 := putL_length 33024 2
  have h4 := putL_length (8192 * pri + vid) 2
  have h5 := putL_length type 2
  cases tagged
  · go_enter Try.func10, Try.ntmps10
    go_wp2_with fail
    refine (HF.out _).mono ?_
    rintro e w1 ⟨rfl, hb1⟩
    have hbw1 := (hb0 _).trans (hb1.mono (hb0 _).size)
    have hsz1 : w.heap.size < w1.heap.size := by have := hb1.size; simp at this; omega
    have hk : ∀ j, j < 7 → w1.cell? ⟨w.heap.size, j, none⟩ = (#[Value.int .i64 dst, .int .i64 src, .bool false, .int .i64 vid, .int .i64 pri, .int .i64 type, .string body] : Array Value)[j]? := by
      intro j _
      rw [hb1.cell (p := ⟨w.heap.size, j, none⟩) (by simp), World.cell?_alloc_at (hn := rfl)]
    have k0 : w1.cell? ⟨w.heap.size, 0, none⟩ = some (.int .i64 dst) := hk 0 (by decide)
    have k1 : w1.cell? ⟨w.heap.size, 1, none⟩ = some (.int .i64 src) := hk 1 (by decide)
    have k2 : w1.cell? ⟨w.heap.size, 2, none⟩ = some (.bool false) := hk 2 (by decide)
    have k5 : w1.cell? ⟨w.heap.size, 5, none⟩ = some (.int .i64 type) := hk 5 (by decide)
    have k6 : w1.cell? ⟨w.heap.size, 6, none⟩ = some (.string body) := hk 6 (by decide)
    clear hk hb1
    have hB := Below.refl w1.heap.size w1
    go_wp2_with fail
    go_region_held3 (fun w' => Below w1.heap.size w1 w' ∧ w'.cell? ⟨w.heap.size, 0, none⟩ = some (.int .i64 dst) ∧ w'.cell? ⟨w.heap.size, 1, none⟩ = some (.int .i64 src)) (first | exact ⟨by assumption, by assumption, by assumption⟩ | exact ⟨Below.drew (by assumption), by assumption, by assumption⟩) (first | (go_at_call 23; refine (put_impl _ 6 _ (by decide) (by decide)).mono ?_; rintro e w5 ⟨rfl, hb5⟩; have hB5 : Below w1.heap.size w1 w5 := carry_below (by first | assumption | exact Below.drew (by assumption)) hb5; have k05 : w5.cell? ⟨w.heap.size, 0, none⟩ = some (.int .i64 dst) := held_on (w1 := w1) (by first | assumption | exact Below.drew (by assumption)) hb5 hsz1 (by assumption); have k15 : w5.cell? ⟨w.heap.size, 1, none⟩ = some (.int .i64 src) := held_on (w1 := w1) (by first | assumption | exact Below.drew (by assumption)) hb5 hsz1 (by assumption)))
    have k2' : w5.cell? ⟨w.heap.size, 2, none⟩ = some (.bool false) := (hB5.cell (p := ⟨w.heap.size, 2, none⟩) hsz1).trans k2
    have k5' : w5.cell? ⟨w.heap.size, 5, none⟩ = some (.int .i64 type) := (hB5.cell (p := ⟨w.heap.size, 5, none⟩) hsz1).trans k5
    have k6' : w5.cell? ⟨w.heap.size, 6, none⟩ = some (.string body) := (hB5.cell (p := ⟨w.heap.size, 6, none⟩) hsz1).trans k6
    clear k05 k15 hb5
    have hcat : ¬ 9223372036854775807 < 2 + body.size ∧ ¬ 9223372036854775807 < 12 + (2 + body.size) := by omega
    go_wp2_with fail
    go_region_held3 (fun w' => Below w1.heap.size w1 w' ∧ w'.cell? ⟨w.heap.size, 5, none⟩ = some (.int .i64 type) ∧ w'.cell? ⟨w.heap.size, 6, none⟩ = some (.string body)) (first | exact ⟨by assumption, by assumption, by assumption⟩ | exact ⟨Below.drew (by assumption), by assumption, by assumption⟩) (first | (go_at_call 23; refine (put_impl _ 2 _ (by decide) (by decide)).mono ?_; rintro e w6 ⟨rfl, hb6⟩; have hB6 : Below w1.heap.size w1 w6 := carry_below (by first | assumption | exact Below.drew (by assumption)) hb6; have k56 : w6.cell? ⟨w.heap.size, 5, none⟩ = some (.int .i64 type) := held_on (w1 := w1) (by first | assumption | exact Below.drew (by assumption)) hb6 hsz1 (by assumption); have k66 : w6.cell? ⟨w.heap.size, 6, none⟩ = some (.string body) := held_on (w1 := w1) (by first | assumption | exact Below.drew (by assumption)) hb6 hsz1 (by assumption)))
    clear k56 k66 hb6 hcat
    generalize hout : ({ data := (putL dst 6).toArray } ++ { data := (putL src 6).toArray } ++ ({ data := (putL type 2).toArray } ++ body) : ByteArray) = out
    have hol : out.data.toList = frHead ⟨dst, src, false, vid, pri, type, body⟩ := by
      rw [← hout]
      simp only [frHead, ByteArray.data_append, Array.toList_append, Bool.false_eq_true, if_false, List.append_nil, List.append_assoc]
    have hos : out.size ≤ 1514 := by
      have e : out.size = out.data.toList.length := by rw [Array.length_toList]; rfl
      rw [e, hol]
      simp only [frHead, Bool.false_eq_true, if_false, List.length_append, List.length_nil, h1, h2, h5, Array.length_toList]
      have e2 : body.data.size = body.size := rfl
      omega
    clear hout
    have HO := Lib.hid hol; clear hol
    obtain ⟨C, ob, hcv, hC, HN⟩ := bytes_new w6 out
    have hll : out.data.toList.length = out.size := by rw [Array.length_toList]; rfl
    have HL := Lib.hid hll
    clear hll
    go_wp2_with fail
    have hap := appendSum_any (w6.alloc ob).drew w6.heap.size w6.heap.size C out.data.toList (by rw [HL.out]; omega) HN.out.1 HN.out.2.1 (Nat.le_of_lt HN.out.2.2.2) (fun _ => Nat.le_refl _) HN.out.2.2.2
    rw [HL.out] at hap
    refine hap.mono ?_
    rintro e w7 ⟨g', cap', rfl, hat, hb7⟩
    clear hap hcv
    have hst := run_string_at (cap := cap') hat
    rw [List.length_append, sumL_len, HL.out] at hst
    rw [HL.out]
    have hfin := hbw1.trans ((hB6.trans ((HN.out.2.2.1.trans hb7).mono hB6.size)).mono hbw1.size)
    have HFIN := Lib.hid hfin
    clear hfin hat hb7
    go_wp2_with fail
    go_ret
    exact ⟨by rw [HO.out]; rfl, HFIN.out⟩
  · go_enter Try.func10, Try.ntmps10
    go_wp2_with fail
    refine (HF.out _).mono ?_
    rintro e w1 ⟨rfl, hb1⟩
    have hbw1 := (hb0 _).trans (hb1.mono (hb0 _).size)
    have hsz1 : w.heap.size < w1.heap.size := by have := hb1.size; simp at this; omega
    have hk : ∀ j, j < 7 → w1.cell? ⟨w.heap.size, j, none⟩ = (#[Value.int .i64 dst, .int .i64 src, .bool true, .int .i64 vid, .int .i64 pri, .int .i64 type, .string body] : Array Value)[j]? := by
      intro j _
      rw [hb1.cell (p := ⟨w.heap.size, j, none⟩) (by simp), World.cell?_alloc_at (hn := rfl)]
    have k0 : w1.cell? ⟨w.heap.size, 0, none⟩ = some (.int .i64 dst) := hk 0 (by decide)
    have k1 : w1.cell? ⟨w.heap.size, 1, none⟩ = some (.int .i64 src) := hk 1 (by decide)
    have k2 : w1.cell? ⟨w.heap.size, 2, none⟩ = some (.bool true) := hk 2 (by decide)
    have k3 : w1.cell? ⟨w.heap.size, 3, none⟩ = some (.int .i64 vid) := hk 3 (by decide)
    have k4 : w1.cell? ⟨w.heap.size, 4, none⟩ = some (.int .i64 pri) := hk 4 (by decide)
    have k5 : w1.cell? ⟨w.heap.size, 5, none⟩ = some (.int .i64 type) := hk 5 (by decide)
    have k6 : w1.cell? ⟨w.heap.size, 6, none⟩ = some (.string body) := hk 6 (by decide)
    clear hk hb1
    have hB := Below.refl w1.heap.size w1
    go_wp2_with fail
    go_region_held3 (fun w' => Below w1.heap.size w1 w' ∧ w'.cell? ⟨w.heap.size, 0, none⟩ = some (.int .i64 dst) ∧ w'.cell? ⟨w.heap.size, 1, none⟩ = some (.int .i64 src)) (first | exact ⟨by assumption, by assumption, by assumption⟩ | exact ⟨Below.drew (by assumption), by assumption, by assumption⟩) (first | (go_at_call 23; refine (put_impl _ 6 _ (by decide) (by decide)).mono ?_; rintro e w5 ⟨rfl, hb5⟩; have hB5 : Below w1.heap.size w1 w5 := carry_below (by first | assumption | exact Below.drew (by assumption)) hb5; have k05 : w5.cell? ⟨w.heap.size, 0, none⟩ = some (.int .i64 dst) := held_on (w1 := w1) (by first | assumption | exact Below.drew (by assumption)) hb5 hsz1 (by assumption); have k15 : w5.cell? ⟨w.heap.size, 1, none⟩ = some (.int .i64 src) := held_on (w1 := w1) (by first | assumption | exact Below.drew (by assumption)) hb5 hsz1 (by assumption)))
    have k2' : w5.cell? ⟨w.heap.size, 2, none⟩ = some (.bool true) := (hB5.cell (p := ⟨w.heap.size, 2, none⟩) hsz1).trans k2
    have k3' : w5.cell? ⟨w.heap.size, 3, none⟩ = some (.int .i64 vid) := (hB5.cell (p := ⟨w.heap.size, 3, none⟩) hsz1).trans k3
    have k4' : w5.cell? ⟨w.heap.size, 4, none⟩ = some (.int .i64 pri) := (hB5.cell (p := ⟨w.heap.size, 4, none⟩) hsz1).trans k4
    clear k05 k15 hb5
    have hr : (1 ≤ vid ∧ vid ≤ 4094) ∧ (0 ≤ pri ∧ pri ≤ 7) := htg
    have x1 : IntKind.i64.wrap (8192 * pri) = 8192 * pri := IntWalk.i64_in _ (by omega)
    have x2 : IntKind.i64.wrap (8192 * pri + vid) = 8192 * pri + vid := IntWalk.i64_in _ (by omega)
    go_wp2_with fail
    go_region_held3 (fun w' => Below w1.heap.size w1 w' ∧ w'.cell? ⟨w.heap.size, 3, none⟩ = some (.int .i64 vid) ∧ w'.cell? ⟨w.heap.size, 4, none⟩ = some (.int .i64 pri)) (first | exact ⟨by assumption, by assumption, by assumption⟩ | exact ⟨Below.drew (by assumption), by assumption, by assumption⟩) (first | (go_at_call 23; refine (put_impl _ 2 _ (by decide) (by decide)).mono ?_; rintro e w8 ⟨rfl, hb8⟩; have hB8 : Below w1.heap.size w1 w8 := carry_below (by first | assumption | exact Below.drew (by assumption)) hb8; have k38 : w8.cell? ⟨w.heap.size, 3, none⟩ = some (.int .i64 vid) := held_on (w1 := w1) (by first | assumption | exact Below.drew (by assumption)) hb8 hsz1 (by assumption); have k48 : w8.cell? ⟨w.heap.size, 4, none⟩ = some (.int .i64 pri) := held_on (w1 := w1) (by first | assumption | exact Below.drew (by assumption)) hb8 hsz1 (by assumption)))
    have k5' : w8.cell? ⟨w.heap.size, 5, none⟩ = some (.int .i64 type) := (hB8.cell (p := ⟨w.heap.size, 5, none⟩) hsz1).trans k5
    have k6' : w8.cell? ⟨w.heap.size, 6, none⟩ = some (.string body) := (hB8.cell (p := ⟨w.heap.size, 6, none⟩) hsz1).trans k6
    clear k38 k48 hb8 x1 x2
    have hcat : ¬ 9223372036854775807 < 2 + body.size ∧ ¬ 9223372036854775807 < 16 + (2 + body.size) := by omega
    go_wp2_with fail
    go_region_held3 (fun w' => Below w1.heap.size w1 w' ∧ w'.cell? ⟨w.heap.size, 5, none⟩ = some (.int .i64 type) ∧ w'.cell? ⟨w.heap.size, 6, none⟩ = some (.string body)) (first | exact ⟨by assumption, by assumption, by assumption⟩ | exact ⟨Below.drew (by assumption), by assumption, by assumption⟩) (first | (go_at_call 23; refine (put_impl _ 2 _ (by decide) (by decide)).mono ?_; rintro e w6 ⟨rfl, hb6⟩; have hB6 : Below w1.heap.size w1 w6 := carry_below (by first | assumption | exact Below.drew (by assumption)) hb6; have k56 : w6.cell? ⟨w.heap.size, 5, none⟩ = some (.int .i64 type) := held_on (w1 := w1) (by first | assumption | exact Below.drew (by assumption)) hb6 hsz1 (by assumption); have k66 : w6.cell? ⟨w.heap.size, 6, none⟩ = some (.string body) := held_on (w1 := w1) (by first | assumption | exact Below.drew (by assumption)) hb6 hsz1 (by assumption)))
    clear k56 k66 hb6 hcat
    generalize hout : ({ data := (putL dst 6).toArray } ++ { data := (putL src 6).toArray } ++ ({ data := (putL 33024 2).toArray } ++ { data := (putL (8192 * pri + vid) 2).toArray }) ++ ({ data := (putL type 2).toArray } ++ body) : ByteArray) = out
    have hol : out.data.toList = frHead ⟨dst, src, true, vid, pri, type, body⟩ := by
      rw [← hout]
      simp only [frHead, ByteArray.data_append, Array.toList_append, if_true, List.append_assoc]
    have hos : out.size ≤ 1518 := by
      have e : out.size = out.data.toList.length := by rw [Array.length_toList]; rfl
      rw [e, hol]
      simp only [frHead, if_true, List.length_append, h1, h2, h3, h4, h5, Array.length_toList]
      have e2 : body.data.size = body.size := rfl
      omega
    clear hout
    have HO := Lib.hid hol; clear hol
    obtain ⟨C, ob, hcv, hC, HN⟩ := bytes_new w6 out
    have hll : out.data.toList.length = out.size := by rw [Array.length_toList]; rfl
    have HL := Lib.hid hll
    clear hll
    go_wp2_with fail
    have hap := appendSum_any (w6.alloc ob).drew w6.heap.size w6.heap.size C out.data.toList (by rw [HL.out]; omega) HN.out.1 HN.out.2.1 (Nat.le_of_lt HN.out.2.2.2) (fun _ => Nat.le_refl _) HN.out.2.2.2
    rw [HL.out] at hap
    refine hap.mono ?_
    rintro e w7 ⟨g', cap', rfl, hat, hb7⟩
    clear hap hcv
    have hst := run_string_at (cap := cap') hat
    rw [List.length_append, sumL_len, HL.out] at hst
    rw [HL.out]
    have hfin := hbw1.trans ((hB6.trans ((HN.out.2.2.1.trans hb7).mono hB6.size)).mono hbw1.size)
    have HFIN := Lib.hid hfin
    clear hfin hat hb7
    go_wp2_with fail
    go_ret
    exact ⟨by rw [HO.out]; rfl, HFIN.out⟩
end Go.Proofs.Ytiajeialcmcppaa
