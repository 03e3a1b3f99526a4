/- PutFrame of the model. -/
import Derived.Test.YtiajeialcmcppaaFr
import Derived.Test.YtiajeialcmcppaaCrcS
import Derived.Test.YtiajeialcmcppaaPut
import Derived.StillTailTactics
import Derived.Deep.RegionHeld3
import Derived.IntWalk
namespace Go.Proofs.Ytiajeialcmcppaa
open Go.RowKit

/-- the checksum's bytes, the lowest one first -/
def sumL (l : List UInt8) : List UInt8 := (putL (crc l : Nat) 4).reverse
theorem sumL_len (l : List UInt8) : (sumL l).length = 4 := by unfold sumL; rw [List.length_reverse, putL_length]
/-- a frame's bytes ahead of the checksum -/
def frHead (f : Fr) : List UInt8 := putL f.dst 6 ++ putL f.src 6 ++ (if f.tagged = true then putL 33024 2 ++ putL (8192 * f.pri + f.vid) 2 else []) ++ (putL f.type 2 ++ f.body.data.toList)
def frL (f : Fr) : List UInt8 := frHead f ++ sumL (frHead f)

theorem heap_at (w : World) (o : Obj) : (w.alloc o).heap[w.heap.size]? = some o := by show (w.heap.push o)[w.heap.size]? = some o; simp

theorem sum_spec (s : ByteArray) (w : World) (hs : s.size ≤ 1048576) :
    Calls Try.prog 39 #[.string s] w fun e w' => e = .returned (.string ⟨(sumL s.data.toList).toArray⟩) ∧ Below w.heap.size w w' := by
  go_enter Try.func39, Try.ntmps39
  go_wp2_with fail
  refine (crc_spec s w (by omega)).mono ?_
  rintro e w1 ⟨rfl, rfl⟩
  go_wp2_with fail
  refine (put_spec _ 4 w (by decide) (by decide)).mono ?_
  rintro e w1 ⟨rfl, hb1⟩
  have hl := putL_length (crc s.data.toList : Nat) 4
  have e4 : ∃ a b c d, putL (crc s.data.toList : Nat) (4 : Int).toNat = [a, b, c, d] := ⟨_, _, _, _, rfl⟩
  obtain ⟨a, b, c, d, hp⟩ := e4
  rw [hp]
  have hr : sumL s.data.toList = [d, c, b, a] := by
    unfold sumL
    rw [show (4 : Nat) = (4 : Int).toNat from rfl, hp]
    rfl
  have HR := Lib.hid hr
  clear hl hp hr
  go_wp2_with fail
  go_still_tail 8, (by kernel_rfl)
  have hown : ((w1.alloc (.cells #[.int .u8 ((({ data := #[a, b, c, d] } : ByteArray)[3]'(by show 3 < 4; decide)).toNat : Int), .int .u8 ((({ data := #[a, b, c, d] } : ByteArray)[2]'(by show 2 < 4; decide)).toNat : Int), .int .u8 ((({ data := #[a, b, c, d] } : ByteArray)[1]'(by show 1 < 4; decide)).toNat : Int), .int .u8 ((({ data := #[a, b, c, d] } : ByteArray)[0]'(by show 0 < 4; decide)).toNat : Int)] 5)).drew).ownsRow w1.heap.size 5 1 (.slice (some ⟨w1.heap.size, 0, none⟩) 4 4) 4 (byteVals [d, c, b, a]) :=
    ⟨rfl, .inr ⟨w1.heap.size, 4, _, rfl, Nat.le_refl _, heap_at w1 _, Nat.le_refl _, by unfold maxLen; omega, rfl, rfl⟩⟩
  have hcv := run_string_owned hown
  clear hown
  go_wp2_with fail
  go_ret
  exact ⟨by rw [HR.out]; rfl, (hb1.alloc hb1.size _).drew⟩

theorem held_on {w1 cur w5 : World} {b j : Nat} {v : Value} (hA : Below w1.heap.size w1 cur) (hb : Below cur.heap.size cur w5) (hlt : b < w1.heap.size) (hc : cur.cell? ⟨b, j, none⟩ = some v) : w5.cell? ⟨b, j, none⟩ = some v :=
  (hb.cell (p := ⟨b, j, none⟩) (Nat.lt_of_lt_of_le hlt hA.size)).trans hc

theorem putFrame_no (f : Fr) (h : ¬ frOk f) (hbs : f.body.size ≤ 1048576) (w : World) :
    Calls Try.prog 19 #[f.val] w fun e w' => e = .returned (.string ⟨#[]⟩) ∧ Below w.heap.size w w' := by
  have hd := decide_eq_false h
  have hf := fun w => frameOk_spec f hbs w
  rw [hd] at hf
  obtain ⟨dst, src, tagged, vid, pri, type, body⟩ := f
  unfold Fr.val at hf ⊢
  simp only at hbs hf ⊢
  have HF := Lib.hid hf; clear hf hd h
  go_enter Try.func19, Try.ntmps19
  go_wp2_with fail
  refine (HF.out _).mono ?_
  rintro e w1 ⟨rfl, hb1⟩
  go_wp2_with fail
  go_ret
  exact ⟨rfl, ((Below.refl _ _).alloc (Nat.le_refl _) _).trans (hb1.mono (by simp))⟩

set_option maxHeartbeats 1000000 in
theorem putFrame_spec (f : Fr) (h : frOk f) (w : World) :
    Calls Try.prog 19 #[f.val] w fun e w' => e = .returned (.string ⟨(frL f).toArray⟩) ∧ Below w.heap.size w w' := by
  have hbs : f.body.size ≤ 1500 := h.2.2.2.2.2
  have hd := decide_eq_true h
  have hf := fun w => frameOk_spec f (by omega) w
  rw [hd] at hf
  have htg := h.2.2.2.1
  clear hd h
  obtain ⟨dst, src, tagged, vid, pri, type, body⟩ := f
  unfold Fr.val at hf ⊢
  simp only at hbs hf ⊢
  have HF := Lib.hid hf; clear hf
  have hb0 : ∀ o, Below w.heap.size w (w.alloc o) := fun o => (Below.refl _ _).alloc (Nat.le_refl _) o
  have h1 := putL_length dst 6
  have h2 := putL_length src 6
  have h3 := putL_length 33024 2
  have h4 := putL_length (8192 * pri + vid) 2
  have h5 := putL_length type 2
  cases tagged
  · go_enter Try.func19, Try.ntmps19
    go_wp2_with fail
    refine (HF.out _).mono ?_
    rintro e w1 ⟨rfl, hb1⟩
    have hbw1 := (hb0 _).trans (hb1.mono (hb0 _).size)
    have hsz1 : w.heap.size < w1.heap.size := by have := hb1.size; simp at this; omega
    have hk : ∀ j, j < 7 → w1.cell? ⟨w.heap.size, j, none⟩ = (#[Value.int .i64 dst, .int .i64 src, .bool false, .int .i64 vid, .int .i64 pri, .int .i64 type, .string body] : Array Value)[j]? := by
      intro j _
      rw [hb1.cell (p := ⟨w.heap.size, j, none⟩) (by simp), World.cell?_alloc_at (hn := rfl)]
    have k0 : w1.cell? ⟨w.heap.size, 0, none⟩ = some (.int .i64 dst) := hk 0 (by decide)
    have k1 : w1.cell? ⟨w.heap.size, 1, none⟩ = some (.int .i64 src) := hk 1 (by decide)
    have k2 : w1.cell? ⟨w.heap.size, 2, none⟩ = some (.bool false) := hk 2 (by decide)
    have k5 : w1.cell? ⟨w.heap.size, 5, none⟩ = some (.int .i64 type) := hk 5 (by decide)
    have k6 : w1.cell? ⟨w.heap.size, 6, none⟩ = some (.string body) := hk 6 (by decide)
    clear hk hb1
    have hB := Below.refl w1.heap.size w1
    go_wp2_with fail
    go_region_held3 (fun w' => Below w1.heap.size w1 w' ∧ w'.cell? ⟨w.heap.size, 0, none⟩ = some (.int .i64 dst) ∧ w'.cell? ⟨w.heap.size, 1, none⟩ = some (.int .i64 src)) (first | exact ⟨by assumption, by assumption, by assumption⟩ | exact ⟨Below.drew (by assumption), by assumption, by assumption⟩) (first | (go_at_call 41; refine (put_spec _ 6 _ (by decide) (by decide)).mono ?_; rintro e w5 ⟨rfl, hb5⟩; have hB5 : Below w1.heap.size w1 w5 := carry_below (by first | assumption | exact Below.drew (by assumption)) hb5; have k05 : w5.cell? ⟨w.heap.size, 0, none⟩ = some (.int .i64 dst) := held_on (w1 := w1) (by first | assumption | exact Below.drew (by assumption)) hb5 hsz1 (by assumption); have k15 : w5.cell? ⟨w.heap.size, 1, none⟩ = some (.int .i64 src) := held_on (w1 := w1) (by first | assumption | exact Below.drew (by assumption)) hb5 hsz1 (by assumption)))
    have k2' : w5.cell? ⟨w.heap.size, 2, none⟩ = some (.bool false) := (hB5.cell (p := ⟨w.heap.size, 2, none⟩) hsz1).trans k2
    have k5' : w5.cell? ⟨w.heap.size, 5, none⟩ = some (.int .i64 type) := (hB5.cell (p := ⟨w.heap.size, 5, none⟩) hsz1).trans k5
    have k6' : w5.cell? ⟨w.heap.size, 6, none⟩ = some (.string body) := (hB5.cell (p := ⟨w.heap.size, 6, none⟩) hsz1).trans k6
    clear k05 k15 hb5
    have hcat : ¬ 9223372036854775807 < 14 + body.size := by omega
    go_wp2_with fail
    go_region_held3 (fun w' => Below w1.heap.size w1 w' ∧ w'.cell? ⟨w.heap.size, 5, none⟩ = some (.int .i64 type) ∧ w'.cell? ⟨w.heap.size, 6, none⟩ = some (.string body)) (first | exact ⟨by assumption, by assumption, by assumption⟩ | exact ⟨Below.drew (by assumption), by assumption, by assumption⟩) (first | (go_at_call 41; refine (put_spec _ 2 _ (by decide) (by decide)).mono ?_; rintro e w6 ⟨rfl, hb6⟩; have hB6 : Below w1.heap.size w1 w6 := carry_below (by first | assumption | exact Below.drew (by assumption)) hb6; have k56 : w6.cell? ⟨w.heap.size, 5, none⟩ = some (.int .i64 type) := held_on (w1 := w1) (by first | assumption | exact Below.drew (by assumption)) hb6 hsz1 (by assumption); have k66 : w6.cell? ⟨w.heap.size, 6, none⟩ = some (.string body) := held_on (w1 := w1) (by first | assumption | exact Below.drew (by assumption)) hb6 hsz1 (by assumption)))
    clear k56 k66 hb6 hcat
    generalize hout : ({ data := (putL dst 6).toArray } ++ { data := (putL src 6).toArray } ++ { data := (putL type 2).toArray } ++ body : ByteArray) = out
    have hol : out.data.toList = frHead ⟨dst, src, false, vid, pri, type, body⟩ := by
      rw [← hout]
      simp only [frHead, ByteArray.data_append, Array.toList_append, Bool.false_eq_true, if_false, List.append_nil, List.append_assoc]
    have hos : out.size ≤ 1514 := by
      have e : out.size = out.data.toList.length := by rw [Array.length_toList]; rfl
      rw [e, hol]
      simp only [frHead, Bool.false_eq_true, if_false, List.length_append, List.length_nil, h1, h2, h5, Array.length_toList]
      have e2 : body.data.size = body.size := rfl
      omega
    clear hout
    have HO := Lib.hid hol; clear hol
    go_wp2_with fail
    refine (sum_spec out _ (by omega)).mono ?_
    rintro e w7 ⟨rfl, hb7⟩
    rw [HO.out]
    have hsl := sumL_len (frHead ⟨dst, src, false, vid, pri, type, body⟩)
    have hcat : ¬ 9223372036854775807 < out.size + 4 := by omega
    go_wp2_with fail
    go_ret
    refine ⟨congrArg (fun b => Ending.returned (.string b)) (ByteArray.ext (Array.toList_inj.1 ?_)), hbw1.trans ((hB6.trans (hb7.mono hB6.size)).mono hbw1.size)⟩
    rw [ByteArray.data_append, Array.toList_append, HO.out]
    rfl
  · go_enter Try.func19, Try.ntmps19
    go_wp2_with fail
    refine (HF.out _).mono ?_
    rintro e w1 ⟨rfl, hb1⟩
    have hbw1 := (hb0 _).trans (hb1.mono (hb0 _).size)
    have hsz1 : w.heap.size < w1.heap.size := by have := hb1.size; simp at this; omega
    have hk : ∀ j, j < 7 → w1.cell? ⟨w.heap.size, j, none⟩ = (#[Value.int .i64 dst, .int .i64 src, .bool true, .int .i64 vid, .int .i64 pri, .int .i64 type, .string body] : Array Value)[j]? := by
      intro j _
      rw [hb1.cell (p := ⟨w.heap.size, j, none⟩) (by simp), World.cell?_alloc_at (hn := rfl)]
    have k0 : w1.cell? ⟨w.heap.size, 0, none⟩ = some (.int .i64 dst) := hk 0 (by decide)
    have k1 : w1.cell? ⟨w.heap.size, 1, none⟩ = some (.int .i64 src) := hk 1 (by decide)
    have k2 : w1.cell? ⟨w.heap.size, 2, none⟩ = some (.bool true) := hk 2 (by decide)
    have k3 : w1.cell? ⟨w.heap.size, 3, none⟩ = some (.int .i64 vid) := hk 3 (by decide)
    have k4 : w1.cell? ⟨w.heap.size, 4, none⟩ = some (.int .i64 pri) := hk 4 (by decide)
    have k5 : w1.cell? ⟨w.heap.size, 5, none⟩ = some (.int .i64 type) := hk 5 (by decide)
    have k6 : w1.cell? ⟨w.heap.size, 6, none⟩ = some (.string body) := hk 6 (by decide)
    clear hk hb1
    have hB := Below.refl w1.heap.size w1
    go_wp2_with fail
    go_region_held3 (fun w' => Below w1.heap.size w1 w' ∧ w'.cell? ⟨w.heap.size, 0, none⟩ = some (.int .i64 dst) ∧ w'.cell? ⟨w.heap.size, 1, none⟩ = some (.int .i64 src)) (first | exact ⟨by assumption, by assumption, by assumption⟩ | exact ⟨Below.drew (by assumption), by assumption, by assumption⟩) (first | (go_at_call 41; refine (put_spec _ 6 _ (by decide) (by decide)).mono ?_; rintro e w5 ⟨rfl, hb5⟩; have hB5 : Below w1.heap.size w1 w5 := carry_below (by first | assumption | exact Below.drew (by assumption)) hb5; have k05 : w5.cell? ⟨w.heap.size, 0, none⟩ = some (.int .i64 dst) := held_on (w1 := w1) (by first | assumption | exact Below.drew (by assumption)) hb5 hsz1 (by assumption); have k15 : w5.cell? ⟨w.heap.size, 1, none⟩ = some (.int .i64 src) := held_on (w1 := w1) (by first | assumption | exact Below.drew (by assumption)) hb5 hsz1 (by assumption)))
    have k2' : w5.cell? ⟨w.heap.size, 2, none⟩ = some (.bool true) := (hB5.cell (p := ⟨w.heap.size, 2, none⟩) hsz1).trans k2
    have k3' : w5.cell? ⟨w.heap.size, 3, none⟩ = some (.int .i64 vid) := (hB5.cell (p := ⟨w.heap.size, 3, none⟩) hsz1).trans k3
    have k4' : w5.cell? ⟨w.heap.size, 4, none⟩ = some (.int .i64 pri) := (hB5.cell (p := ⟨w.heap.size, 4, none⟩) hsz1).trans k4
    clear k05 k15 hb5
    have hr : (1 ≤ vid ∧ vid ≤ 4094) ∧ (0 ≤ pri ∧ pri ≤ 7) := htg
    have x1 : IntKind.i64.wrap (8192 * pri) = 8192 * pri := IntWalk.i64_in _ (by omega)
    have x2 : IntKind.i64.wrap (8192 * pri + vid) = 8192 * pri + vid := IntWalk.i64_in _ (by omega)
    go_wp2_with fail
    go_region_held3 (fun w' => Below w1.heap.size w1 w' ∧ w'.cell? ⟨w.heap.size, 3, none⟩ = some (.int .i64 vid) ∧ w'.cell? ⟨w.heap.size, 4, none⟩ = some (.int .i64 pri)) (first | exact ⟨by assumption, by assumption, by assumption⟩ | exact ⟨Below.drew (by assumption), by assumption, by assumption⟩) (first | (go_at_call 41; refine (put_spec _ 2 _ (by decide) (by decide)).mono ?_; rintro e w8 ⟨rfl, hb8⟩; have hB8 : Below w1.heap.size w1 w8 := carry_below (by first | assumption | exact Below.drew (by assumption)) hb8; have k38 : w8.cell? ⟨w.heap.size, 3, none⟩ = some (.int .i64 vid) := held_on (w1 := w1) (by first | assumption | exact Below.drew (by assumption)) hb8 hsz1 (by assumption); have k48 : w8.cell? ⟨w.heap.size, 4, none⟩ = some (.int .i64 pri) := held_on (w1 := w1) (by first | assumption | exact Below.drew (by assumption)) hb8 hsz1 (by assumption)))
    have k5' : w8.cell? ⟨w.heap.size, 5, none⟩ = some (.int .i64 type) := (hB8.cell (p := ⟨w.heap.size, 5, none⟩) hsz1).trans k5
    have k6' : w8.cell? ⟨w.heap.size, 6, none⟩ = some (.string body) := (hB8.cell (p := ⟨w.heap.size, 6, none⟩) hsz1).trans k6
    clear k38 k48 hb8 x1 x2
    have hcat : ¬ 9223372036854775807 < 18 + body.size := by omega
    go_wp2_with fail
    go_region_held3 (fun w' => Below w1.heap.size w1 w' ∧ w'.cell? ⟨w.heap.size, 5, none⟩ = some (.int .i64 type) ∧ w'.cell? ⟨w.heap.size, 6, none⟩ = some (.string body)) (first | exact ⟨by assumption, by assumption, by assumption⟩ | exact ⟨Below.drew (by assumption), by assumption, by assumption⟩) (first | (go_at_call 41; refine (put_spec _ 2 _ (by decide) (by decide)).mono ?_; rintro e w6 ⟨rfl, hb6⟩; have hB6 : Below w1.heap.size w1 w6 := carry_below (by first | assumption | exact Below.drew (by assumption)) hb6; have k56 : w6.cell? ⟨w.heap.size, 5, none⟩ = some (.int .i64 type) := held_on (w1 := w1) (by first | assumption | exact Below.drew (by assumption)) hb6 hsz1 (by assumption); have k66 : w6.cell? ⟨w.heap.size, 6, none⟩ = some (.string body) := held_on (w1 := w1) (by first | assumption | exact Below.drew (by assumption)) hb6 hsz1 (by assumption)))
    clear k56 k66 hb6 hcat
    generalize hout : ({ data := (putL dst 6).toArray } ++ { data := (putL src 6).toArray } ++ { data := (putL 33024 2).toArray } ++ { data := (putL (8192 * pri + vid) 2).toArray } ++ { data := (putL type 2).toArray } ++ body : ByteArray) = out
    have hol : out.data.toList = frHead ⟨dst, src, true, vid, pri, type, body⟩ := by
      rw [← hout]
      simp only [frHead, ByteArray.data_append, Array.toList_append, if_true, List.append_assoc]
    have hos : out.size ≤ 1518 := by
      have e : out.size = out.data.toList.length := by rw [Array.length_toList]; rfl
      rw [e, hol]
      simp only [frHead, if_true, List.length_append, h1, h2, h3, h4, h5, Array.length_toList]
      have e2 : body.data.size = body.size := rfl
      omega
    clear hout
    have HO := Lib.hid hol; clear hol
    go_wp2_with fail
    refine (sum_spec out _ (by omega)).mono ?_
    rintro e w7 ⟨rfl, hb7⟩
    rw [HO.out]
    have hsl := sumL_len (frHead ⟨dst, src, true, vid, pri, type, body⟩)
    have hcat : ¬ 9223372036854775807 < out.size + 4 := by omega
    go_wp2_with fail
    go_ret
    refine ⟨congrArg (fun b => Ending.returned (.string b)) (ByteArray.ext (Array.toList_inj.1 ?_)), hbw1.trans ((hB6.trans (hb7.mono hB6.size)).mono hbw1.size)⟩
    rw [ByteArray.data_append, Array.toList_append, HO.out]
    rfl
end Go.Proofs.Ytiajeialcmcppaa
