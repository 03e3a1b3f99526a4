/- MacText: what the program and the model answer. -/
import Derived.Test.YtbcpfciegamaeaaDoorMac
import Derived.Test.YtbcpfciegamaeaaDoorHex
import Derived.Test.YtbcpfciegamaeaaDoorPut
import Derived.Test.YtbcpfciegamaeaaDoorJoinB
import Derived.Deep.QuietTactic
import Derived.BigQuiet
namespace Go.Proofs.YtbcpfciegamaeaaDoor
open Go.RowKit

/-- the digit at place i of an address -/
def macD (m : Int) (i : Nat) : UInt8 := hexD (m / 2 ^ (4 * i) % 16)
/-- an address's text -/
def macL (m : Int) : List UInt8 := [macD m 11, macD m 10, 58, macD m 9, macD m 8, 58, macD m 7, macD m 6, 58, macD m 5, macD m 4, 58, macD m 3, macD m 2, 58, macD m 1, macD m 0]

theorem hexL_mac (m : Int) : hexL m 12 = [macD m 11, macD m 10, macD m 9, macD m 8, macD m 7, macD m 6, macD m 5, macD m 4, macD m 3, macD m 2, macD m 1, macD m 0] := rfl

theorem byte_hex (x : Int) : hexL (((UInt8.ofNat (x % 256).toNat).toNat : Nat) : Int) 2 = [hexD (x / 16 % 16), hexD (x % 16)] := by
  rw [ofNat_toNat_emod]
  simp only [hexL]
  rw [show x % 256 / 2 ^ (4 * 1) % 16 = x / 16 % 16 from by omega, show x % 256 / 2 ^ (4 * 0) % 16 = x % 16 from by omega]

theorem join_mac (m : Int) : Lib.join ((putL m 6).map fun b => hexL (b.toNat : Int) 2) [58] = macL m := by
  have e : ∀ j, macD m j = hexD (m / 2 ^ (4 * j) % 16) := fun _ => rfl
  simp only [putL, List.map_cons, List.map_nil, byte_hex, Lib.join_cons, Lib.joinTail, List.flatten_cons, List.flatten_nil, List.cons_append, List.nil_append, macL, e]
  simp only [Nat.reduceMul]
  simp
  refine ⟨?_, ?_, ?_, ?_, ?_⟩ <;> congr 1 <;> omega

theorem mac_slices (m : Int) (s : ByteArray) (hs : s = ⟨(hexL m 12).toArray⟩) :
    s.extract 0 2 ++ ⟨#[58]⟩ ++ s.extract 2 4 ++ ⟨#[58]⟩ ++ s.extract 4 6 ++ ⟨#[58]⟩ ++ s.extract 6 8 ++ ⟨#[58]⟩ ++ s.extract 8 10 ++ ⟨#[58]⟩ ++ s.extract 10 12 = ⟨(macL m).toArray⟩ := by
  have e : ∀ a b, (s.extract a b).data.toList = ((hexL m 12).drop a).take (b - a) := by
    intro a b
    rw [hs, ByteArray.data_extract, Array.toList_extract]
  apply ByteArray.ext
  apply Array.toList_inj.1
  simp only [ByteArray.data_append, Array.toList_append, e]
  rfl

theorem mac1 (b : UInt8) (w : World) :
    Calls Tryd.prog 44 #[.int .i64 (b.toNat : Int)] w fun e w' => e = .returned (.string ⟨(hexL (b.toNat : Int) 2).toArray⟩) ∧ Below w.heap.size w w' := by
  go_enter Tryd.func44, Tryd.ntmps44
  go_wp2_with fail
  refine (hex_impl (b.toNat : Int) 2 w (by omega) (by decide) (by decide)).mono ?_
  rintro e w1 ⟨rfl, hb⟩
  go_wp2
  go_ret
  exact ⟨rfl, hb⟩

theorem mac1_enters (args : Array Value) (w : World) : (callFunc 44 args).run Tryd.prog w = .ok (.enter 44 args) w :=
  enters_of Tryd.func44 (by kernel_rfl) rfl args w

theorem macText_impl (m : Int) (h : isMac m) (w : World) :
    Calls Tryd.prog 30 #[.int .i64 m] w fun e w' => e = .returned (.string ⟨(macL m).toArray⟩) ∧ Below w.heap.size w w' := by
  have hd := decide_eq_true h
  go_enter Tryd.func30, Tryd.ntmps30
  go_wp2_with (go_at_call 39; refine (macOk_impl m _).mono ?_; rintro e w' ⟨rfl, rfl⟩; rw [hd])
  refine (put_impl m 6 _ (by decide) (by decide)).mono ?_
  rintro e w1 ⟨rfl, hb1⟩
  go_wp2_with fail
  refine (joinB 44 (fun b => hexL (b.toNat : Int) 2) 58 ⟨(putL m 6).toArray⟩ (by show ((putL m 6).toArray).size ≤ 6; rw [List.size_toArray, putL_length]; omega) (fun b => by rw [hexL_length]; omega) w1 mac1_enters (fun b w' _ => mac1 b w')).mono ?_
  rintro e w2 ⟨rfl, hb2⟩
  go_wp2
  go_ret
  refine ⟨?_, hb1.trans (hb2.mono hb1.size)⟩
  show Ending.returned (Value.string _) = _
  rw [join_mac]

theorem macText_impl_no (m : Int) (h : ¬ isMac m) (w : World) :
    Calls Tryd.prog 30 #[.int .i64 m] w fun e w' => e = .returned (.string ⟨#[]⟩) ∧ w = w' := by
  have hd := decide_eq_false h
  go_enter Tryd.func30, Tryd.ntmps30
  go_wp2_with (go_at_call 39; refine (macOk_impl m _).mono ?_; rintro e w' ⟨rfl, rfl⟩; rw [hd])
  go_ret
  exact ⟨rfl, rfl⟩

theorem macText_spec_no (m : Int) (h : ¬ isMac m) (w : World) :
    Calls Tryd.prog 14 #[.int .i64 m] w fun e w' => e = .returned (.string ⟨#[]⟩) ∧ w = w' := by
  have hd := decide_eq_false h
  go_enter Tryd.func14, Tryd.ntmps14
  go_wp2_with (go_at_call 26; refine (macOk_spec m _).mono ?_; rintro e w' ⟨rfl, rfl⟩; rw [hd])
  go_ret
  exact ⟨rfl, rfl⟩

theorem macText_spec (m : Int) (h : isMac m) (w : World) :
    Calls Tryd.prog 14 #[.int .i64 m] w fun e w' => e = .returned (.string ⟨(macL m).toArray⟩) ∧ Below w.heap.size w w' := by
  have hd := decide_eq_true h
  have h0 := h.1
  have h1 := h.2
  have H := Lib.hid h; clear h
  obtain ⟨s, hs⟩ : ∃ s : ByteArray, s = ⟨(hexL m 12).toArray⟩ := ⟨_, rfl⟩
  have hx := hex_spec m 12 w h0 (by decide) (by decide) (by omega)
  rw [show (12 : Int).toNat = 12 from rfl, ← hs] at hx
  have hsz : s.size = 12 := by rw [hs]; show (hexL m 12).toArray.size = 12; rw [List.size_toArray, hexL_length]
  have HS := Lib.hid hs; clear hs
  go_enter Tryd.func14, Tryd.ntmps14
  go_wp2_with (first | (go_at_call 26; refine (macOk_spec m _).mono ?_; rintro e w' ⟨rfl, rfl⟩; rw [hd]) | (go_at_call 31; refine hx.mono ?_; rintro e w' ⟨rfl, rfl⟩))
  go_quiet (fail)
  go_wp2
  go_ret
  exact ⟨by rw [← mac_slices m s HS.out]; rfl, below_drewN (Below.refl _ _) _⟩
end Go.Proofs.YtbcpfciegamaeaaDoor
