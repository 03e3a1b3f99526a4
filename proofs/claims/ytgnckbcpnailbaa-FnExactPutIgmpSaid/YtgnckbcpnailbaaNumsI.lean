/- putNums and withSum16 of the program. -/
import Derived.Test.YtgnckbcpnailbaaSumPI
import Derived.Test.YtgnckbcpnailbaaPut
import Derived.Deep.RegionHeld3
namespace Go.Proofs.Ytgnckbcpnailbaa
open Go.RowKit

/-- the numbers' bytes, one behind the other -/
def flatL (ns : List Int) (m : Nat) : List UInt8 := ns.flatMap (fun n => putL n m)
theorem flatL_snoc (ns : List Int) (m k : Nat) (h : k < ns.length) : flatL (ns.take (k + 1)) m = flatL (ns.take k) m ++ putL (ns[k]'h) m := by
  unfold flatL
  rw [List.take_succ_eq_append_getElem h, List.flatMap_append]
  simp
theorem flatL_length (ns : List Int) (m : Nat) : (flatL ns m).length = ns.length * m := by
  induction ns with
  | nil => simp [flatL]
  | cons a l ih =>
    have e : flatL (a :: l) m = putL a m ++ flatL l m := rfl
    rw [e, List.length_append, putL_length, ih, List.length_cons, Nat.succ_mul, Nat.add_comm]
theorem bytes_append (a b : List UInt8) : (⟨a.toArray⟩ : ByteArray) ++ ⟨b.toArray⟩ = ⟨(a ++ b).toArray⟩ :=
  ByteArray.ext (Array.toList_inj.1 (by simp))
theorem bytes_size (a : List UInt8) : (⟨a.toArray⟩ : ByteArray).size = a.length := rfl

theorem putNums_impl (many : Int) (ns : List Int) (b len : Nat) (w : World) (h1 : 1 ≤ many) (h2 : many ≤ 6) (hlen : ns.length = len) (hn : len ≤ 10) (hb : b < w.heap.size)
    (hc : ∀ i (h : i < ns.length), w.cell? ⟨b, i, none⟩ = some (.int .i64 (ns[i]'h))) :
    Calls Try.prog 26 #[.int .i64 many, .slice (some ⟨b, 0, none⟩) len len] w fun e w' => e = .returned (.string ⟨(flatL ns many.toNat).toArray⟩) ∧ Below w.heap.size w w' := by
  obtain ⟨m, rfl⟩ := Int.eq_ofNat_of_zero_le (show 0 ≤ many by omega)
  simp only [Int.toNat_natCast]
  have hP := fun n w => put_impl n m w h1 h2
  simp only [Int.toNat_natCast] at hP
  have HP := Lib.hid hP; have HC := Lib.hid hc
  clear hP hc
  go_enter Try.func26, Try.ntmps26
  go_wp2_with fail
  go_loopw [5, 10] (fun v i wr => ∃ k : Nat, k ≤ len ∧ i = .int .i64 (k : Nat) ∧ v = .string ⟨(flatL (ns.take k) m).toArray⟩ ∧ Below w.heap.size w wr)
    (fun _ i _ => len - (intOf i).toNat)
  case atStart => exact ⟨0, Nat.zero_le _, rfl, rfl, Below.refl _ _⟩
  case round =>
    obtain ⟨k, hk, rfl, rfl, hB⟩ := hrel
    by_cases hlt : k < len
    · have hkl : k < ns.length := by omega
      have hcell := (hB.cell (p := ⟨b, k, none⟩) hb).trans (HC.out k hkl)
      obtain ⟨x, hx⟩ : ∃ x, ns[k]'hkl = x := ⟨_, rfl⟩
      rw [hx] at hcell
      have hsn := flatL_snoc ns m k hkl
      rw [hx] at hsn
      have hfl := flatL_length (ns.take k) m
      rw [List.length_take_of_le (by omega)] at hfl
      have hkm : k * m ≤ 60 := Nat.mul_le_mul (show k ≤ 10 by omega) (show m ≤ 6 by omega)
      obtain ⟨s, hs⟩ : ∃ s : ByteArray, (⟨(flatL (ns.take k) m).toArray⟩ : ByteArray) = s := ⟨_, rfl⟩
      have hss : s.size ≤ 60 := by rw [← hs, bytes_size]; omega
      rw [hs]
      obtain ⟨p, hp⟩ : ∃ p : ByteArray, (⟨(putL x m).toArray⟩ : ByteArray) = p := ⟨_, rfl⟩
      have hps : p.size ≤ 6 := by rw [← hp, bytes_size, putL_length]; omega
      have hPx := HP.out x
      rw [hp] at hPx
      have hcat : s ++ p = ⟨(flatL (ns.take (k + 1)) m).toArray⟩ := by rw [← hs, ← hp, bytes_append, hsn]
      have HPX := Lib.hid hPx; have HCAT := Lib.hid hcat
      have hno : ¬ (9223372036854775807 < s.size + p.size) := by omega
      clear hx hsn hfl hkm hs hp hPx hcat
      go_wp2_with fail
      refine (HPX.out _).mono ?_
      rintro e w2 ⟨rfl, hb2⟩
      have hB2 := hB.trans (hb2.mono hB.size)
      clear hcell hB hb2
      go_wp2_with fail
      go_roundw
      case rel => exact ⟨k + 1, by omega, by go_num, by rw [HCAT.out], hB2⟩
      case measure => simp [intOf]; omega
    · have hke : k = ns.length := by omega
      have e : ns.take k = ns := List.take_of_length_le (by omega)
      rw [e]
      have hlt' : ¬ ((k : Int) < (len : Int)) := by omega
      go_wp2_with fail
      go_ret
      exact ⟨rfl, hB⟩

/-- two parts with the checksum of both between them -/
def withL (a b : List UInt8) : List UInt8 := a ++ putL (sum16 (a ++ [0, 0] ++ b) : Nat) 2 ++ b
theorem withSum_impl (s t : ByteArray) (w : World) (hs : s.size ≤ 100) (ht : t.size ≤ 100) :
    Calls Try.prog 27 #[.string s, .string t] w fun e w' => e = .returned (.string ⟨(withL s.data.toList t.data.toList).toArray⟩) ∧ Below w.heap.size w w' := by
  have hP0 := fun w => put_impl 0 2 w (by decide) (by decide)
  rw [show putL 0 (2 : Int).toNat = [0, 0] from rfl] at hP0
  obtain ⟨o, ho⟩ : ∃ o : ByteArray, (⟨#[0, 0]⟩ : ByteArray) = o := ⟨_, rfl⟩
  have hol : o.data.toList = [0, 0] := by rw [← ho]
  have hoz : o.size = 2 := by rw [← ho]; rfl
  rw [show (⟨[0, 0].toArray⟩ : ByteArray) = o from ho] at hP0
  clear ho
  obtain ⟨u, hu⟩ : ∃ u : ByteArray, s ++ o ++ t = u := ⟨_, rfl⟩
  have hul : u.data.toList = s.data.toList ++ [0, 0] ++ t.data.toList := by rw [← hu]; simp only [ByteArray.data_append, Array.toList_append, hol]
  have huz : u.size ≤ 1048576 := by rw [← hu, ByteArray.size_append, ByteArray.size_append]; omega
  have hS := fun w => sum16_impl u w huz
  rw [hul] at hS
  obtain ⟨c, hc⟩ : ∃ c, sum16 (s.data.toList ++ [0, 0] ++ t.data.toList) = c := ⟨_, rfl⟩
  have hP1 := fun w => put_impl (c : Nat) 2 w (by decide) (by decide)
  rw [show (2 : Int).toNat = 2 from rfl] at hP1
  obtain ⟨p, hp⟩ : ∃ p : ByteArray, (⟨(putL (c : Nat) 2).toArray⟩ : ByteArray) = p := ⟨_, rfl⟩
  have hpz : p.size = 2 := by rw [← hp, bytes_size, putL_length]
  rw [hp] at hP1
  rw [hc] at hS
  have hfin : s ++ p ++ t = ⟨(withL s.data.toList t.data.toList).toArray⟩ := by
    refine ByteArray.ext (Array.toList_inj.1 ?_)
    rw [← hp]
    simp only [withL, hc, ByteArray.data_append, Array.toList_append]
  have hso : (s ++ o).size = s.size + 2 := by rw [ByteArray.size_append, hoz]
  have hsp : (s ++ p).size = s.size + 2 := by rw [ByteArray.size_append, hpz]
  have HP0 := Lib.hid hP0; have HP1 := Lib.hid hP1; have HS := Lib.hid hS; have HU := Lib.hid hu; have HF := Lib.hid hfin
  have n1 : ¬ (9223372036854775807 < s.size + o.size) := by omega
  have n2 : ¬ (9223372036854775807 < (s ++ o).size + t.size) := by omega
  have n3 : ¬ (9223372036854775807 < s.size + p.size) := by omega
  have n4 : ¬ (9223372036854775807 < (s ++ p).size + t.size) := by omega
  clear hP0 hP1 hS hu hfin hul huz hc hp hpz hso hsp hol hoz
  go_enter Try.func27, Try.ntmps27
  go_wp2_with fail
  refine (HP0.out _).mono ?_
  rintro e w1 ⟨rfl, hb1⟩
  go_wp2_with fail
  rw [HU.out]
  refine (HS.out _).mono ?_
  rintro e w2 ⟨rfl, rfl⟩
  go_wp2_with fail
  refine (HP1.out _).mono ?_
  rintro e w2 ⟨rfl, hb2⟩
  have hB := hb1.trans (hb2.mono hb1.size)
  clear hb1 hb2
  go_wp2_with fail
  go_ret
  exact ⟨by rw [← HF.out]; rfl, hB⟩
end Go.Proofs.Ytgnckbcpnailbaa
