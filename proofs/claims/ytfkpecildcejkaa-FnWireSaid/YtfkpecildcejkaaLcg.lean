/- The drawn numbers' generator comes by each of its states: plain lemmas. No Go program is named here. -/
import Derived.Test.YtfkpecildcejkaaRows
namespace Go.Proofs.Ytfkpecildcejkaa

def itN (f : Nat → Nat) : Nat → Nat → Nat
  | 0, x => x
  | n + 1, x => itN f n (f x)
theorem itN_zero (f : Nat → Nat) (x : Nat) : itN f 0 x = x := rfl
theorem itN_succ (f : Nat → Nat) (n x : Nat) : itN f (n + 1) x = itN f n (f x) := rfl
theorem itN_add (f : Nat → Nat) (m : Nat) : ∀ n x, itN f (n + m) x = itN f m (itN f n x) := by
  intro n
  induction n with
  | zero => intro x; rw [Nat.zero_add, itN_zero]
  | succ n ih => intro x; rw [show n + 1 + m = (n + m) + 1 from by omega, itN_succ, itN_succ, ih]
def lcgM : Nat := 18446744073709551616
/-- one step of the generator -/
def lcg (x : Nat) : Nat := (x * 6364136223846793005 + 1442695040888963407) % lcgM
theorem lcgM_pos : 0 < lcgM := by unfold lcgM; decide
theorem lcg_lt (x : Nat) : lcg x < lcgM := by unfold lcg; exact Nat.mod_lt _ lcgM_pos
def lcgN (n x : Nat) : Nat := itN lcg n x
theorem lcgN_zero (x : Nat) : lcgN 0 x = x := by unfold lcgN; rw [itN_zero]
theorem lcgN_succ (n x : Nat) : lcgN (n + 1) x = lcgN n (lcg x) := by unfold lcgN; rw [itN_succ]
theorem lcgN_add (m n x : Nat) : lcgN (n + m) x = lcgN m (lcgN n x) := by unfold lcgN; rw [itN_add]
theorem lcgN_lt (n : Nat) : ∀ x, x < lcgM → lcgN n x < lcgM := by
  induction n with
  | zero => intro x h; rw [lcgN_zero]; exact h
  | succ n ih => intro x _; rw [lcgN_succ]; exact ih _ (lcg_lt x)
theorem lcgN_one (x : Nat) : lcgN 1 x = (x * 6364136223846793005 + 1442695040888963407) % lcgM := by
  rw [show 1 = 0 + 1 from rfl, lcgN_succ, lcgN_zero]
  unfold lcg
  rfl

/-- P steps at once: the factor A and the summand C -/
def lcgJ (P A C : Nat) : Prop := ∀ x, x < lcgM → lcgN P x = (x * A + C) % lcgM
theorem lcgJ_double {P A C : Nat} (h : lcgJ P A C) : lcgJ (2 * P) (A * A % lcgM) ((A * C + C) % lcgM) := by
  intro x hx
  have h1 := h x hx
  have h2 := h (lcgN P x) (lcgN_lt P x hx)
  rw [show 2 * P = P + P from by omega, lcgN_add, h2, h1]
  rw [Nat.add_mod, Nat.mul_mod, Nat.mod_mod, ← Nat.mul_mod, ← Nat.add_mod, Nat.add_mod (x * (A * A % lcgM)), Nat.mul_mod x, Nat.mod_mod, ← Nat.mul_mod, Nat.mod_mod, ← Nat.add_mod]
  rw [show (x * A + C) * A + C = x * (A * A) + (A * C + C) from by rw [Nat.add_mul, Nat.mul_assoc, Nat.mul_comm C A, Nat.add_assoc]]

/-- at each of f doublings the factor is 1 and the summand half the modulus, as far as the next bit -/
def lcgChk : Nat → Nat → Nat → Nat → Bool
  | 0, _, _, _ => true
  | f + 1, P, A, C => A % (2 * P) == 1 && (C % (2 * P) == P && lcgChk f (2 * P) (A * A % lcgM) ((A * C + C) % lcgM))
set_option maxRecDepth 10000 in
theorem lcg_chk : lcgChk 64 1 6364136223846793005 1442695040888963407 = true := by decide +kernel

theorem lcg_bits : ∀ (f P A C : Nat), 0 < P → lcgJ P A C → lcgChk f P A C = true → lcgM = P * 2 ^ f → ∀ j, j < f → ∀ x, x < lcgM → lcgN (P * 2 ^ j) x % (P * 2 ^ (j + 1)) = (x + P * 2 ^ j) % (P * 2 ^ (j + 1))
  | 0, _, _, _, _, _, _, _, j, hj, _, _ => absurd hj (Nat.not_lt_zero _)
  | f + 1, P, A, C, hP, hJ, hc, hM, j, hj, x, hx => by
    simp only [lcgChk, Bool.and_eq_true, beq_iff_eq] at hc
    obtain ⟨h1, h2, h3⟩ := hc
    cases j with
    | zero =>
      have hd : 2 * P ∣ lcgM := ⟨2 ^ f, by rw [hM, Nat.pow_succ]; ac_rfl⟩
      rw [Nat.pow_zero, Nat.mul_one, show P * 2 ^ (0 + 1) = 2 * P from by omega, hJ x hx, Nat.mod_mod_of_dvd _ hd, Nat.add_mod, Nat.mul_mod, h1, h2, Nat.mul_one, Nat.mod_mod]
      conv => rhs; rw [Nat.add_mod]
      rw [Nat.mod_eq_of_lt (show P < 2 * P by omega)]
    | succ j =>
      have ih := lcg_bits f (2 * P) _ _ (by omega) (lcgJ_double hJ) h3 (by rw [hM, Nat.pow_succ]; ac_rfl) j (by omega) x hx
      have e : ∀ q, P * 2 ^ (q + 1) = 2 * P * 2 ^ q := fun q => by rw [Nat.pow_succ]; ac_rfl
      rw [e j, e (j + 1)]
      exact ih

theorem lcgM_pow : lcgM = 1 * 2 ^ 64 := by unfold lcgM; decide
theorem lcgM_pow' : lcgM = 2 ^ 64 := by unfold lcgM; decide
/-- 2^k steps turn bit k and none below it -/
theorem lcg_bit (k : Nat) (hk : k < 64) (x : Nat) (hx : x < lcgM) : lcgN (2 ^ k) x % 2 ^ (k + 1) = (x + 2 ^ k) % 2 ^ (k + 1) := by
  have h := lcg_bits 64 1 _ _ (by decide) (fun x _ => lcgN_one x) lcg_chk lcgM_pow k hk x hx
  rw [Nat.one_mul, Nat.one_mul] at h
  exact h

theorem lcg_reach (d : Nat) : ∀ k, k + d = 64 → ∀ x y, x < lcgM → y < lcgM → x % 2 ^ k = y % 2 ^ k → ∃ n, n < 2 ^ 64 + 1 - 2 ^ k ∧ lcgN n x = y := by
  induction d with
  | zero =>
    intro k hk x y hx hy h
    obtain rfl : k = 64 := by omega
    rw [← lcgM_pow', Nat.mod_eq_of_lt hx, Nat.mod_eq_of_lt hy] at h
    exact ⟨0, by omega, by rw [lcgN_zero]; exact h⟩
  | succ d ih =>
    intro k hk x y hx hy h
    have hp := Nat.two_pow_pos k
    have hp2 : 2 ^ (k + 1) = 2 ^ k * 2 := Nat.pow_succ ..
    have hle : 2 ^ (k + 1) ≤ 2 ^ 64 := Nat.pow_le_pow_right (by decide) (by omega)
    by_cases h1 : x % 2 ^ (k + 1) = y % 2 ^ (k + 1)
    · obtain ⟨n, hn, he⟩ := ih (k + 1) (by omega) x y hx hy h1
      exact ⟨n, by omega, he⟩
    · have hb := lcg_bit k (by omega) x hx
      have h2 : lcgN (2 ^ k) x % 2 ^ (k + 1) = y % 2 ^ (k + 1) := by
        rw [hb]
        have ex := Nat.div_add_mod (x % 2 ^ (k + 1)) (2 ^ k)
        have ey := Nat.div_add_mod (y % 2 ^ (k + 1)) (2 ^ k)
        have hdv : 2 ^ k ∣ 2 ^ (k + 1) := Nat.pow_dvd_pow 2 (by omega)
        rw [Nat.mod_mod_of_dvd _ hdv] at ex ey
        have lx : x % 2 ^ (k + 1) < 2 ^ (k + 1) := Nat.mod_lt _ (by omega)
        have ly : y % 2 ^ (k + 1) < 2 ^ (k + 1) := Nat.mod_lt _ (by omega)
        rw [← Nat.mod_add_mod]
        generalize x % 2 ^ (k + 1) = X at ex lx h1 ⊢
        generalize y % 2 ^ (k + 1) = Y at ey ly h1 ⊢
        have qx : X / 2 ^ k < 2 := by rw [Nat.div_lt_iff_lt_mul hp]; omega
        have qy : Y / 2 ^ k < 2 := by rw [Nat.div_lt_iff_lt_mul hp]; omega
        have cx : X / 2 ^ k = 0 ∨ X / 2 ^ k = 1 := by generalize X / 2 ^ k = Q at qx; omega
        have cy : Y / 2 ^ k = 0 ∨ Y / 2 ^ k = 1 := by generalize Y / 2 ^ k = Q at qy; omega
        rw [h] at ex
        rcases cx with cx | cx <;> rcases cy with cy | cy <;> rw [cx] at ex <;> rw [cy] at ey <;> simp only [Nat.mul_zero, Nat.mul_one, Nat.zero_add] at ex ey
        · exact absurd (by omega) h1
        · rw [Nat.mod_eq_of_lt (by omega)]; omega
        · have : X + 2 ^ k = Y + 2 ^ (k + 1) := by omega
          rw [this, Nat.add_mod_right, Nat.mod_eq_of_lt ly]
        · exact absurd (by omega) h1
      obtain ⟨n, hn, he⟩ := ih (k + 1) (by omega) (lcgN (2 ^ k) x) y (lcgN_lt _ _ hx) hy h2
      exact ⟨2 ^ k + n, by omega, by rw [lcgN_add]; exact he⟩

/-- each state comes by, behind each other one -/
theorem lcg_all (x y : Nat) (hx : x < lcgM) (hy : y < lcgM) : ∃ n, n < lcgM ∧ lcgN n x = y := by
  obtain ⟨n, hn, he⟩ := lcg_reach 64 0 rfl x y hx hy (by rw [Nat.pow_zero, Nat.mod_one, Nat.mod_one])
  exact ⟨n, by rw [lcgM_pow']; omega, he⟩

/-- how many steps it takes to come by state 8 -/
noncomputable def lcgD (x : Nat) : Nat := Classical.epsilon fun n => (n < lcgM ∧ lcgN n x = 8) ∧ ∀ m, m < n → lcgN m x ≠ 8
theorem lcg_least (p : Nat → Prop) : ∀ n, p n → ∃ m, m ≤ n ∧ p m ∧ ∀ j, j < m → ¬ p j := by
  intro n
  induction n using Nat.strongRecOn with
  | _ n ih =>
    intro h
    by_cases hs : ∃ j, j < n ∧ p j
    · obtain ⟨j, hj, hp⟩ := hs
      obtain ⟨m, hm, hpm, hl⟩ := ih j hj hp
      exact ⟨m, by omega, hpm, hl⟩
    · exact ⟨n, Nat.le_refl _, h, fun j hj hp => hs ⟨j, hj, hp⟩⟩
theorem lcgD_spec (x : Nat) (hx : x < lcgM) : lcgD x < lcgM ∧ lcgN (lcgD x) x = 8 ∧ ∀ m, m < lcgD x → lcgN m x ≠ 8 := by
  have hex : ∃ n, (n < lcgM ∧ lcgN n x = 8) ∧ ∀ m, m < n → lcgN m x ≠ 8 := by
    obtain ⟨n, hn, he⟩ := lcg_all x 8 hx (by unfold lcgM; decide)
    obtain ⟨m, hm, hp, hl⟩ := lcg_least (fun j => lcgN j x = 8) n he
    exact ⟨m, ⟨by omega, hp⟩, hl⟩
  have h := Classical.epsilon_spec hex
  exact ⟨h.1.1, h.1.2, h.2⟩
theorem lcgD_zero (x : Nat) (hx : x < lcgM) : lcgD x = 0 ↔ x = 8 := by
  obtain ⟨_, h2, h3⟩ := lcgD_spec x hx
  constructor
  · intro h; rw [h, lcgN_zero] at h2; exact h2
  · intro h
    by_cases h0 : lcgD x = 0
    · exact h0
    · exact absurd (by rw [lcgN_zero]; exact h) (h3 0 (by omega))
theorem lcgD_step (x : Nat) (hx : x < lcgM) (h : x ≠ 8) : lcgD (lcg x) + 1 = lcgD x := by
  obtain ⟨_, h2, h3⟩ := lcgD_spec x hx
  obtain ⟨_, k2, k3⟩ := lcgD_spec (lcg x) (lcg_lt x)
  have h0 : lcgD x ≠ 0 := fun e => h ((lcgD_zero x hx).1 e)
  obtain ⟨d, hd⟩ : ∃ d, lcgD x = d + 1 := ⟨lcgD x - 1, by omega⟩
  rw [hd] at h2 h3 ⊢
  have e1 : lcgN d (lcg x) = 8 := by rw [← lcgN_succ]; exact h2
  have le1 : lcgD (lcg x) ≤ d := by
    rcases Nat.lt_or_ge d (lcgD (lcg x)) with hlt | hge
    · exact absurd e1 (k3 d hlt)
    · exact hge
  have le2 : d ≤ lcgD (lcg x) := by
    rcases Nat.lt_or_ge (lcgD (lcg x)) d with hlt | hge
    · exact absurd (by rw [lcgN_succ]; exact k2) (h3 (lcgD (lcg x) + 1) (by omega))
    · exact hge
  omega
end Go.Proofs.Ytfkpecildcejkaa
