/- Rows in the laws: copied in, marked, held. -/
import Derived.Test.YtleebmbnjdoinaaRw
namespace Go.Proofs.Ytleebmbnjdoinaa
open Go.RowKit

theorem toRow_any (r : Rw) (w : World) : Calls Try.prog 84 #[r.val] w fun e w' => e = .returned r.val ∧ Below w.heap.size w w' := by
  obtain ⟨a0, a1, a2, a3, a4⟩ := r
  unfold Rw.val
  go_enter Try.func84, Try.ntmps84
  go_wp2_with fail
  exact bodyPost_ret (v := .agg #[.int .i64 a0, .int .i64 a1, .int .i64 a2, .int .i64 a3, .bool a4]) (by simp [results, Try.results84, go_sem]) rfl ⟨rfl, (((Below.refl _ _).alloc (Nat.le_refl _) _).alloc (by simp) _).alloc (by simp; omega) _⟩

theorem szRowS_any (a : Option Addr) (n cap : Nat) (left : Int) (w : World) (hn : n ≤ 9223372036854775807) (hl : 0 ≤ left) (hl' : left ≤ 1048576) :
    Calls Try.prog 58 #[.slice a n cap, .int .i64 left] w fun e w' => e = .returned (.int .i64 (if (n : Int) ≤ left then left - n else -1)) ∧ w = w' := by
  by_cases h : (n : Int) ≤ left
  · rw [if_pos h]
    have h' : ¬ (left - (n : Int) < 0) := by omega
    go_enter Try.func58, Try.ntmps58
    go_wp2_with fail
    go_ret
    exact ⟨rfl, rfl⟩
  · rw [if_neg h]
    have h' : left - (n : Int) < 0 := by omega
    go_enter Try.func58, Try.ntmps58
    go_wp2_with fail
    go_ret
    exact ⟨rfl, rfl⟩

/-- what a mark leaves from number k on -/
def markR (k : Int) : Rw := ⟨k, k + 1, k + 1 + 1, k + 1 + 1 + 1, (k + 1 + 1 + 1 + 1) % 3 == 0⟩
def markRs (k : Int) : Nat → List Rw
  | 0 => []
  | n + 1 => markRs k n ++ [markR (k + 5 * n)]
theorem markRs_len (k : Int) : ∀ n, (markRs k n).length = n
  | 0 => rfl
  | n + 1 => by simp [markRs, markRs_len k n]

theorem markRowS_any (xs : List Rw) (a : Option Addr) (n cap : Nat) (k0 : Int) (w : World) (hn : xs.length = n) (hx : SlIn kdRw w a xs) (hsz : n ≤ 2097152) (h0 : 0 ≤ k0) (h1 : k0 ≤ 1099511627776) :
    Calls Try.prog 61 #[.slice a n cap, .int .i64 k0] w fun e w' => e = .returned (.int .i64 (k0 + 5 * n)) ∧ Turned (blkN a n) w w' ∧ SlIn kdRw w' a (markRs k0 n) := by
  have HX := Lib.hid hx; have HN := Lib.hid hn
  clear hx hn
  go_enter Try.func61, Try.ntmps61
  go_wp2_with fail
  go_loopw [1, 5] (fun q i wr => ∃ k : Nat, i = .int .i64 (k : Nat) ∧ q = .int .i64 (k0 + 5 * (k : Int)) ∧ k ≤ n ∧ Turned (blkN a n) w wr ∧ Hid (SlIn kdRw wr a (markRs k0 k ++ xs.drop k)))
    (fun _ i _ => n - (intOf i).toNat)
  case atStart => exact ⟨0, rfl, by simp, Nat.zero_le _, Turned.refl _ _, Lib.hid (by simpa [markRs] using HX.out)⟩
  case round =>
    obtain ⟨k, rfl, rfl, hk, hT, HS⟩ := hrel
    by_cases hlt : k < n
    · have hkx : k < (markRs k0 k ++ xs.drop k).length := by rw [List.length_append, markRs_len, List.length_drop, HN.out]; omega
      obtain ⟨g, o, rfl, hg, hA⟩ := rowAt HS.out k hkx
      obtain ⟨⟨c0, c1, c2, c3, c4⟩, hfz⟩ := hA wr (Below.refl _ _)
      clear hA
      go_wp2_with fail
      have hn0 : n ≠ 0 := by omega
      rw [blkN_some hn0] at hT
      have hput := HS.out.put k hkx (markR (k0 + 5 * (k : Int)))
      rw [set_drop (markRs_len k0 k) _ (by rw [List.length_drop, HN.out]; omega), List.drop_drop] at hput
      have HP := Lib.hid hput
      clear c0 c1 c2 c3 c4 hfz hput
      go_roundw
      case rel => exact ⟨k + 1, by go_num, by go_num, by omega, by rw [blkN_some hn0]; exact hT.trans1 HP.out.2, Lib.hid HP.out.1⟩
      case measure => simp [intOf]; omega
    · have hke : k = n := by omega
      have hlt' : ¬ ((k : Int) < (n : Int)) := by omega
      have hs : SlIn kdRw wr a (markRs k0 n) := by
        have e := HS.out
        rw [hke, List.drop_of_length_le (by rw [HN.out]; exact Nat.le_refl _), List.append_nil] at e
        exact e
      have HS2 := Lib.hid hs
      subst hke
      clear HS hs
      go_wp2_with fail
      go_ret
      exact ⟨rfl, hT, HS2.out⟩

theorem markRs_get (k0 : Int) : ∀ (n k : Nat) (h : k < (markRs k0 n).length), (markRs k0 n)[k]'h = markR (k0 + 5 * (k : Int))
  | 0, k, h => absurd h (by simp [markRs])
  | n + 1, k, h => by
    simp only [markRs]
    by_cases hk : k < n
    · rw [List.getElem_append_left (by rw [markRs_len]; exact hk)]
      exact markRs_get k0 n k _
    · have h' : k < n + 1 := by rw [markRs_len] at h; exact h
      obtain rfl : k = n := by omega
      rw [List.getElem_append_right (by rw [markRs_len]; exact Nat.le_refl _)]
      simp

theorem heldRowS_any (a : Option Addr) (n cap : Nat) (k0 : Int) (w : World) (hx : SlIn kdRw w a (markRs k0 n)) (hsz : n ≤ 2097152) (h0 : 0 ≤ k0) (h1 : k0 ≤ 1099511627776) :
    Calls Try.prog 62 #[.slice a n cap, .int .i64 k0] w fun e w' => e = .returned (.int .i64 (k0 + 5 * n)) ∧ w = w' := by
  have HX := Lib.hid hx
  clear hx
  go_enter Try.func62, Try.ntmps62
  go_wp2_with fail
  go_loop [1, 5] (fun q i => ∃ k : Nat, i = .int .i64 (k : Nat) ∧ q = .int .i64 (k0 + 5 * (k : Int)) ∧ k ≤ n)
    (fun _ i => n - (intOf i).toNat)
  case atStart => exact ⟨0, rfl, by simp, Nat.zero_le _⟩
  case round =>
    obtain ⟨k, rfl, rfl, hk⟩ := hrel
    by_cases hlt : k < n
    · obtain ⟨g, o, rfl, hg, hA⟩ := rowAt HX.out k (by rw [markRs_len]; exact hlt)
      obtain ⟨⟨c0, c1, c2, c3, c4⟩, _⟩ := hA w (Below.refl _ _)
      rw [markRs_get] at c0 c1 c2 c3 c4
      simp only [markR] at c0 c1 c2 c3 c4
      clear hA
      go_wp2_with fail
      go_round
      case rel => exact ⟨k + 1, by go_num, by go_num, by omega⟩
      case measure => simp [intOf]; omega
    · have hke : k = n := by omega
      have hlt' : ¬ ((k : Int) < (n : Int)) := by omega
      subst hke
      go_wp2_with fail
      go_ret
      exact ⟨rfl, rfl⟩
end Go.Proofs.Ytleebmbnjdoinaa
