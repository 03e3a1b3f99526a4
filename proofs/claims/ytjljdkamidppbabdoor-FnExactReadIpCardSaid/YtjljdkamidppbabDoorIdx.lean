/- strings.IndexRune at an ASCII string: what it answers at every rune that a range over a string can give. -/
import Derived.Test.YtjljdkamidppbabDoorRows
import Derived.WalkKit
import Derived.Outline
import Derived.Lib.Hide
import Derived.Lib.Bytealg
import Derived.WalkLawsBesides
import Derived.WalkSpells
import Derived.Laws.Runes
import Derived.WalkMore
import Derived.Deep.QuietTactic
import Derived.BigQuiet
namespace Go.Proofs.YtjljdkamidppbabDoor
open Go.RowKit

theorem slite_IndexByte (s : ByteArray) (c : Int) (w : World) :
    Calls Tryd.prog 50 #[.string s, .int .u8 c] w fun e w' => e = .returned (.int .i64 (firstIdx s c.toNat.toUInt8)) ∧ w = w' := by
  go_enter Tryd.func50, Tryd.ntmps50
  go_wp2
  rw [run_callFunc_extern Tryd.func57 (by kernel_rfl) (by kernel_rfl) (by kernel_rfl) (e := Extern.BytealgIndexByte.indexByte) (by kernel_rfl), run_indexByte_string]
  simp only [Result.andThen]
  rw [Oper.upon_value]
  go_wp2
  go_ret
  exact ⟨rfl, rfl⟩

theorem strings_IndexByte (s : ByteArray) (c : Int) (w : World) :
    Calls Tryd.prog 39 #[.string s, .int .u8 c] w fun e w' => e = .returned (.int .i64 (firstIdx s c.toNat.toUInt8)) ∧ w = w' := by
  go_enter Tryd.func39, Tryd.ntmps39
  go_wp2_with (go_at_call 50; refine (slite_IndexByte _ _ _).mono ?_; rintro e w' ⟨rfl, rfl⟩)
  go_ret
  exact ⟨rfl, rfl⟩

set_option maxHeartbeats 2000000 in
set_option maxRecDepth 1000000 in
theorem idx_ascii (s : ByteArray) (r : Int) (w : World) (h0 : 0 ≤ r) (h1 : r < 128) :
    Calls Tryd.prog 31 #[.string s, .int .i32 r] w fun e w' => e = .returned (.int .i64 (firstIdx s r.toNat.toUInt8)) ∧ w = w' := by
  go_enter Tryd.func31, Tryd.ntmps31
  go_wp2_with (go_at_call 39; refine (strings_IndexByte _ _ _).mono ?_; rintro e w' ⟨rfl, rfl⟩)
  go_ret
  exact ⟨rfl, rfl⟩

theorem valid_yes (r : Int) (w : World) (h : Utf8.valid r = true) : Calls Tryd.prog 40 #[.int .i32 r] w fun e w' => e = .returned (.bool true) ∧ w = w' := by
  rw [validRune_eq] at h
  unfold validRune at h
  have h' := of_decide_eq_true h
  clear h
  by_cases h1 : 0 ≤ r ∧ r < 55296
  · obtain ⟨h2, h3⟩ := h1
    go_enter Tryd.func40, Tryd.ntmps40
    go_wp2
    go_ret
    exact ⟨rfl, rfl⟩
  · have h2 : 57343 < r := by omega
    have h3 : r ≤ 1114111 := by omega
    clear h' h1
    go_enter Tryd.func40, Tryd.ntmps40
    go_wp2
    go_ret
    exact ⟨rfl, rfl⟩

theorem valid_no (r : Int) (w : World) (h : Utf8.valid r = false) : Calls Tryd.prog 40 #[.int .i32 r] w fun e w' => e = .returned (.bool false) ∧ w = w' := by
  rw [validRune_eq] at h
  unfold validRune at h
  have h' := of_decide_eq_false h
  clear h
  by_cases h1 : r < 0
  · have h2 : r < 55296 := by omega
    have h3 : r ≤ 57343 := by omega
    clear h'
    go_enter Tryd.func40, Tryd.ntmps40
    go_wp2
    go_ret
    exact ⟨rfl, rfl⟩
  · have h2 : 55296 ≤ r := by omega
    by_cases h3 : r ≤ 57343
    · clear h' h1
      go_enter Tryd.func40, Tryd.ntmps40
      go_wp2
      go_ret
      exact ⟨rfl, rfl⟩
    · have h4 : 1114111 < r := by omega
      clear h' h1
      go_enter Tryd.func40, Tryd.ntmps40
      go_wp2
      go_ret
      exact ⟨rfl, rfl⟩

set_option maxHeartbeats 2000000 in
set_option maxRecDepth 1000000 in
/-- a rune beyond ASCII, not the error's: it stands in no ASCII string -/
theorem idx_high (s : ByteArray) (r : Int) (w : World) (hs : ∀ b ∈ s.data.toList, b.toNat < 128) (h4 : 4 ≤ s.size) (h16 : s.size ≤ 16) (h0 : 128 ≤ r) (h1 : r ≠ 65533) (hv : Utf8.valid r = true) :
    Calls Tryd.prog 31 #[.string s, .int .i32 r] w fun e w' => e = .returned (.int .i64 (-1)) ∧ ∃ k, w' = w.drewN k := by
  obtain ⟨e1, e2, e3⟩ := encode_facts r hv h0
  have hr : (r == 65533) = false := by simpa using h1
  go_enter Tryd.func31, Tryd.ntmps31
  go_wp2_with (go_at_call 40; refine (valid_yes _ _ hv).mono ?_; rintro e w' ⟨rfl, rfl⟩)
  go_step3
  go_wp2_with fail
  generalize Utf8.encode r = t at *
  obtain ⟨m, hm⟩ : ∃ m, m + 1 = t.size := ⟨t.size - 1, by omega⟩
  have hm1 : m < t.size := by omega
  have hm2 : m < s.size := by omega
  have hlast : 128 ≤ (t[m]'hm1).toNat := by
    have := e3 (by omega)
    simpa [← hm] using this
  have hfirst : (s[m]'hm2).toNat < 128 := hs _ (Array.getElem_mem_toList (xs := s.data) hm2)
  rw [show ((t.size : Int) - 1) = (m : Int) from by omega]
  have HM := Lib.hid hm
  clear hm e3
  refine wp_loop_rounds 1 ?_
  rw [rounds_succ]
  go_wp2_with fail
  go_step3
  go_wp2_with fail
  have hne : (((s[m]'hm2).toNat : Int) == ((t[m]'hm1).toNat : Int)) = false := by rw [beq_eq_false_iff_ne]; omega
  have hne' : (((s[m]'hm2).toNat : Int) != ((t[m]'hm1).toNat : Int)) = true := by rw [bne_iff_ne]; omega
  go_quiet (fail)
  generalize hw2 : w.drewN nq = w2
  have HW := Lib.hid hw2; clear hw2
  go_wp2_with fail
  have hsl : ((m : Int) + 1) ≤ (s.size : Int) := by omega
  have hix : firstIdx (s.extract (m + 1) s.size) (t[m]'hm1) < 0 := by rw [firstIdx_ascii s (m + 1) s.size _ hs hlast]; decide
  go_quiet ((go_at_call 39; exact Calls.quiet_of_same ((strings_IndexByte _ _ _).mono fun e w' h => ⟨h.1, h.2.symm⟩)))
  go_wp2_with fail
  simp only [Exit.noGoto_ret, Exit.inBlock, Exit.then]
  go_ret
  refine ⟨rfl, ?_⟩
  rw [← HW.out, World.drewN_drewN]
  exact ⟨_, rfl⟩

set_option maxHeartbeats 2000000 in
set_option maxRecDepth 1000000 in
theorem idx_bad (s : ByteArray) (r : Int) (w : World) (h0 : 128 ≤ r) (h1 : r ≠ 65533) (hv : Utf8.valid r = false) :
    Calls Tryd.prog 31 #[.string s, .int .i32 r] w fun e w' => e = .returned (.int .i64 (-1)) ∧ w = w' := by
  have hr : (r == 65533) = false := by simpa using h1
  go_enter Tryd.func31, Tryd.ntmps31
  go_wp2_with (go_at_call 40; refine (valid_no _ _ hv).mono ?_; rintro e w' ⟨rfl, rfl⟩)
  go_ret
  exact ⟨rfl, rfl⟩

set_option maxHeartbeats 2000000 in
set_option maxRecDepth 1000000 in
/-- the error's rune: a range over the string, which meets none -/
theorem idx_err (s : ByteArray) (w : World) (hs : ∀ b ∈ s.data.toList, b.toNat < 128) :
    Calls Tryd.prog 31 #[.string s, .int .i32 65533] w fun e w' => e = .returned (.int .i64 (-1)) ∧ Below w.heap.size w w' := by
  go_enter Tryd.func31, Tryd.ntmps31
  go_wp2_with fail
  go_loopw [] (fun wr => ∃ p : Nat, p ≤ s.size ∧ wr = w.iter s p) (fun wr => s.size - wr.iterPos w.heap.size)
  case atStart => exact ⟨0, Nat.zero_le _, rfl⟩
  case round =>
    obtain ⟨p, hp, rfl⟩ := hrel
    by_cases hlt : p < s.size
    · have ha : (s[p]'hlt).toNat < 128 := hs _ (Array.getElem_mem_toList (xs := s.data) hlt)
      have hne : (((s[p]'hlt).toNat : Int) == 65533) = false := by rw [beq_eq_false_iff_ne]; omega
      have hnx : ∀ ty, (Instr.next (.pointer (some ⟨w.heap.size, 0, none⟩)) true ty).run Tryd.prog (w.iter s p) = _ := fun ty => run_next_ascii w s p ty hlt ha
      go_wp2_with fail
      go_roundw
      case rel => exact ⟨p + 1, by omega, rfl⟩
      case measure => simp; omega
    · have hnx : ∀ ty, (Instr.next (.pointer (some ⟨w.heap.size, 0, none⟩)) true ty).run Tryd.prog (w.iter s p) = _ := fun ty => run_next_end w s p ty hlt
      go_wp2_with fail
      go_ret
      exact ⟨rfl, (Below.refl _ _).alloc (Nat.le_refl _) _⟩
end Go.Proofs.YtjljdkamidppbabDoor
