/- l05At and Look of the model. -/
import Derived.Test.YtleebmbnjdoinaaTbOk
namespace Go.Proofs.Ytleebmbnjdoinaa
open Go.RowKit

def hit (v m : Int) (r : Rw) : Bool := decide (r.vid = v ∧ r.mac = m)
/-- the place of the row of a Vid and a Mac, or -1 -/
def IsAt (rs : List Rw) (v m i : Int) : Prop := (i = -1 ∧ ∀ j (h : j < rs.length), hit v m (rs[j]'h) = false) ∨ ∃ (j : Nat) (h : j < rs.length), i = (j : Int) ∧ hit v m (rs[j]'h) = true ∧ ∀ k (hk : k < j), hit v m (rs[k]'(by omega)) = false

set_option maxHeartbeats 1000000 in
theorem at5_spec {w : World} {B : List Nat} {v : Value} {t : Tb} (h : TabIn w B v t) (x y : Int) :
    Calls Try.prog 45 #[v, .int .i64 x, .int .i64 y] w fun e w' => (∃ i, e = .returned (.int .i64 i) ∧ IsAt t.rows x y i) ∧ Below w.heap.size w w' := by
  obtain ⟨a, cap, rfl, hs, _, hl, _⟩ := h
  obtain ⟨rs, most⟩ := t
  simp only at hs hl ⊢
  have hb1 : Below w.heap.size w (w.alloc (.cells #[.slice a rs.length cap, .int .i64 most] 26)) := (Below.refl _ _).alloc (Nat.le_refl _) _
  have kA : Blk (w.alloc (.cells #[.slice a rs.length cap, .int .i64 most] 26)) w.heap.size #[.slice a rs.length cap, .int .i64 most] 26 := blk_new _ _ rfl
  replace hs := hs.after hb1
  obtain ⟨n, hn⟩ : ∃ n, rs.length = n := ⟨_, rfl⟩
  unfold tabVal
  rw [hn] at hb1 kA hs hl ⊢
  have HB1 := Lib.hid hb1; have HKA := Lib.hid kA; have HSL := Lib.hid hs; have HN := Lib.hid hn
  have c0 : (w.alloc (.cells #[.slice a n cap, .int .i64 most] 26)).cell? ⟨w.heap.size, 0, none⟩ = some (.slice a n cap) := kA.cell 0
  clear hn hs kA hb1
  go_enter Try.func45, Try.ntmps45
  go_wp2_with fail
  generalize w.alloc (.cells #[.slice a n cap, .int .i64 most] 26) = w1 at HB1 HKA HSL c0 ⊢
  go_loop [7] (fun i => ∃ k : Nat, i = .int .i64 (k : Nat) ∧ k ≤ n ∧ Hid (∀ j (_ : j < k) (h : j < rs.length), hit x y (rs[j]'h) = false))
    (fun i => n - (intOf i).toNat)
  case atStart => exact ⟨0, rfl, Nat.zero_le _, Lib.hid (fun j hj => absurd hj (by omega))⟩
  case round =>
    obtain ⟨k, rfl, hk, HG⟩ := hrel
    by_cases hlt : k < n
    · have hkx : k < rs.length := by rw [HN.out]; exact hlt
      obtain ⟨g, o, rfl, _, hK'⟩ := rowAt HSL.out k hkx
      obtain ⟨k0, k1, k2, k3, k4⟩ := (hK' w1 (Below.refl _ _)).1
      clear hK'
      have hit_k : hit x y rs[k] = decide (rs[k].vid = x ∧ rs[k].mac = y) := rfl
      have hkey : ∀ b, hit x y rs[k] = b → Hid (hit x y rs[k] = b) := fun b h => Lib.hid h
      generalize hr : rs[k] = r at k0 k1 k2 k3 k4 hit_k
      obtain ⟨r0, r1, r2, r3, r4⟩ := r
      simp only at k0 k1 hit_k
      by_cases h0 : r0 = x
      · by_cases h1 : r1 = y
        · have HH := Lib.hid (show hit x y rs[k] = true by rw [hr, hit_k]; exact decide_eq_true ⟨h0, h1⟩)
          subst h0 h1
          clear hit_k hkey hr
          go_wp2_with fail
          go_ret
          exact ⟨⟨_, rfl, .inr ⟨k, hkx, rfl, HH.out, fun j hj => HG.out j hj (by omega)⟩⟩, HB1.out⟩
        · have HH := Lib.hid (show hit x y rs[k] = false by rw [hr, hit_k]; exact decide_eq_false (fun h => h1 h.2))
          have hq : (r1 == y) = false := by simp [h1]
          subst h0
          clear hit_k hkey hr
          go_wp2_with fail
          go_round
          case rel => exact ⟨k + 1, by go_num, by omega, Lib.hid (fun j hj hl => by by_cases e : j = k; (subst e; exact HH.out); exact HG.out j (by omega) hl)⟩
          case measure => simp [intOf]; omega
      · have HH := Lib.hid (show hit x y rs[k] = false by rw [hr, hit_k]; exact decide_eq_false (fun h => h0 h.1))
        have hq : (r0 == x) = false := by simp [h0]
        clear hit_k hkey hr
        go_wp2_with fail
        go_round
        case rel => exact ⟨k + 1, by go_num, by omega, Lib.hid (fun j hj hl => by by_cases e : j = k; (subst e; exact HH.out); exact HG.out j (by omega) hl)⟩
        case measure => simp [intOf]; omega
    · have hke : k = n := by omega
      have hlt' : ¬ ((k : Int) < (n : Int)) := by omega
      have HA := Lib.hid (show IsAt rs x y (-1) from .inl ⟨rfl, fun j hj => HG.out j (by rw [HN.out] at hj; omega) hj⟩)
      go_wp2_with fail
      go_ret
      exact ⟨⟨_, rfl, HA.out⟩, HB1.out⟩

/-- the row of a Vid and a Mac -/
def tabFind (rs : List Rw) (v m : Int) : Option Rw := rs.find? (hit v m)
theorem find_none {rs : List Rw} {v m : Int} (h : ∀ j (h : j < rs.length), hit v m (rs[j]'h) = false) : tabFind rs v m = none := by
  unfold tabFind
  rw [List.find?_eq_none]
  intro x hx
  obtain ⟨j, hj, rfl⟩ := List.getElem_of_mem hx
  rw [h j hj]
  decide
theorem find_some {rs : List Rw} {v m : Int} (j : Nat) (hj : j < rs.length) (h : hit v m (rs[j]'hj) = true) (hn : ∀ k (hk : k < j), hit v m (rs[k]'(by omega)) = false) : tabFind rs v m = some rs[j] := by
  unfold tabFind
  rw [List.find?_eq_some_iff_getElem]
  exact ⟨h, j, hj, rfl, fun k hk => by rw [hn k hk]; rfl⟩

def portOf : Option Rw → Int
  | some r => r.port
  | none => -1
noncomputable def look (t : Tb) (v m : Int) : Int := if tabOk t then portOf (tabFind t.rows v m) else -1

theorem look_spec {w : World} {B : List Nat} {v : Value} {t : Tb} (h : TabIn w B v t) (x y : Int) :
    Calls Try.prog 32 #[v, .int .i64 x, .int .i64 y] w fun e w' => e = .returned (.int .i64 (look t x y)) ∧ Below w.heap.size w w' := by
  have hO := fun w' (hb : Below w.heap.size w w') => tableOk_spec (h.after hb)
  have hA := fun w' (hb : Below w.heap.size w w') => at5_spec (h.after hb) x y
  obtain ⟨a, cap, rfl, hs, _, hl, _⟩ := h
  obtain ⟨rs, most⟩ := t
  unfold tabVal at hO hA ⊢
  simp only at hO hA hs hl ⊢
  have hb1 : Below w.heap.size w (w.alloc (.cells #[.slice a rs.length cap, .int .i64 most] 26)) := (Below.refl _ _).alloc (Nat.le_refl _) _
  have kA : Blk (w.alloc (.cells #[.slice a rs.length cap, .int .i64 most] 26)) w.heap.size #[.slice a rs.length cap, .int .i64 most] 26 := blk_new _ _ rfl
  have HB1 := Lib.hid hb1; have HKA := Lib.hid kA; have HO := Lib.hid hO; have HA := Lib.hid hA
  have HSL := Lib.hid (hs.after hb1)
  clear hO hA kA hs
  by_cases hok : tabOk ⟨rs, most⟩
  case neg =>
    have hlk : look ⟨rs, most⟩ x y = -1 := by unfold look; rw [if_neg hok]
    rw [hlk]
    clear hb1 hlk
    go_enter Try.func32, Try.ntmps32
    go_wp2_with fail
    refine (HO.out _ HB1.out).mono ?_
    rintro e w2 ⟨rfl, hb2⟩
    rw [decide_eq_false hok]
    have hfin := HB1.out.trans (hb2.mono HB1.out.size)
    clear hb2
    go_wp2_with fail
    go_ret
    exact ⟨rfl, hfin⟩
  have hlk : look ⟨rs, most⟩ x y = portOf (tabFind rs x y) := by unfold look; rw [if_pos hok]
  rw [hlk]
  clear hb1 hlk
  go_enter Try.func32, Try.ntmps32
  go_wp2_with fail
  refine (HO.out _ HB1.out).mono ?_
  rintro e w2 ⟨rfl, hb2⟩
  rw [decide_eq_true hok]
  have kA := HKA.out.after hb2
  have c0 : w2.cell? ⟨w.heap.size, 0, none⟩ = some (.slice a rs.length cap) := kA.cell 0
  have c1 : w2.cell? ⟨w.heap.size, 1, none⟩ = some (.int .i64 most) := kA.cell 1
  have HB2 := Lib.hid (HB1.out.trans (hb2.mono HB1.out.size)); have HKA2 := Lib.hid kA; have HSL2 := Lib.hid (HSL.out.after hb2)
  clear kA hb2
  go_wp2_with fail
  refine (HA.out _ HB2.out).mono ?_
  rintro e w3 ⟨⟨i, rfl, hi⟩, hb3⟩
  have HB3 := Lib.hid (HB2.out.trans (hb3.mono HB2.out.size))
  clear c0 c1
  rcases hi with ⟨rfl, hnone⟩ | ⟨j, hj, rfl, hh, hbe⟩
  · have HF := Lib.hid (find_none hnone)
    clear hnone hb3
    go_wp2_with fail
    go_ret
    exact ⟨by rw [HF.out]; rfl, HB3.out⟩
  · have HF := Lib.hid (find_some j hj hh hbe)
    have kA := HKA2.out.after hb3
    have c0 : w3.cell? ⟨w.heap.size, 0, none⟩ = some (.slice a rs.length cap) := kA.cell 0
    obtain ⟨g, o, rfl, _, hK'⟩ := rowAt (HSL2.out.after hb3) j hj
    obtain ⟨k0, k1, k2, k3, k4⟩ := (hK' w3 (Below.refl _ _)).1
    have hj1 : (j : Int) < (rs.length : Int) := by omega
    clear hb3 hh hbe kA hK' k0 k1 k3 k4
    go_wp2_with fail
    go_ret
    exact ⟨by rw [HF.out]; rfl, HB3.out⟩
end Go.Proofs.Ytleebmbnjdoinaa
