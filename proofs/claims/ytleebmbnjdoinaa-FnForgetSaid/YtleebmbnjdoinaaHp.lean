/- Heaps, plainly. -/
import Derived.Test.YtleebmbnjdoinaaIn
namespace Go.Proofs.Ytleebmbnjdoinaa
/-- a strict order in which 'neither is less' is transitive -/
structure Ord' {α : Type} (lt : α → α → Bool) : Prop where
  irrefl : ∀ x, lt x x = false
  trans : ∀ x y z, lt x y = true → lt y z = true → lt x z = true
  ntrans : ∀ x y z, lt x y = false → lt y z = false → lt x z = false

variable {α : Type} {lt : α → α → Bool}
theorem Ord'.asymm (O : Ord' lt) {x y : α} (h : lt x y = true) : lt y x = false := by
  cases h' : lt y x
  · rfl
  · have := O.trans x y x h h'
    rw [O.irrefl] at this
    cases this
/-- less than what isn't less -/
theorem Ord'.not_of (O : Ord' lt) {x y z : α} (h : lt x y = false) (h' : lt z y = true) : lt x z = false := by
  cases e : lt x z
  · rfl
  · rw [O.trans x z y e h'] at h; cases h

/-- two places exchanged -/
def swp (f : Nat → α) (i j : Nat) : Nat → α := fun k => if k = i then f j else if k = j then f i else f k
theorem swp_l (f : Nat → α) (i j : Nat) : swp f i j i = f j := by simp [swp]
theorem swp_r (f : Nat → α) (i j : Nat) : swp f i j j = f i := by simp only [swp]; by_cases h : j = i <;> simp [h]
theorem swp_o (f : Nat → α) {i j k : Nat} (hi : k ≠ i) (hj : k ≠ j) : swp f i j k = f k := by simp [swp, hi, hj]

/-- none of the first n stands before its parent -/
def Hp (lt : α → α → Bool) (f : Nat → α) (n : Nat) : Prop := ∀ i, 0 < i → i < n → lt (f i) (f ((i - 1) / 2)) = false
/-- .. but for j, perhaps -/
def HpUp (lt : α → α → Bool) (f : Nat → α) (n j : Nat) : Prop :=
  (∀ i, 0 < i → i < n → i ≠ j → lt (f i) (f ((i - 1) / 2)) = false) ∧
  (∀ i, 0 < i → i < n → (i - 1) / 2 = j → 0 < j → lt (f i) (f ((j - 1) / 2)) = false)
/-- .. but for i's children, perhaps -/
def HpDn (lt : α → α → Bool) (f : Nat → α) (n i : Nat) : Prop :=
  (∀ c, 0 < c → c < n → (c - 1) / 2 ≠ i → lt (f c) (f ((c - 1) / 2)) = false) ∧
  (∀ c, 0 < c → c < n → (c - 1) / 2 = i → 0 < i → lt (f c) (f ((i - 1) / 2)) = false)

theorem Hp.mono {f : Nat → α} {n m : Nat} (h : Hp lt f n) (hm : m ≤ n) : Hp lt f m := fun i h0 h1 => h i h0 (by omega)
theorem Hp.congr {f g : Nat → α} {n : Nat} (h : Hp lt f n) (e : ∀ k, k < n → g k = f k) : Hp lt g n := fun i h0 h1 => by
  rw [e i h1, e _ (by omega)]; exact h i h0 h1
/-- the first is the least -/
theorem Hp.least (O : Ord' lt) {f : Nat → α} {n : Nat} (h : Hp lt f n) : ∀ i, i < n → lt (f i) (f 0) = false := by
  intro i
  induction i using Nat.strongRecOn with
  | ind i ih =>
    intro hi
    by_cases h0 : i = 0
    · rw [h0]; exact O.irrefl _
    · exact O.ntrans _ _ _ (h i (by omega) hi) (ih ((i - 1) / 2) (by omega) (by omega))
theorem HpUp.start {f : Nat → α} {n : Nat} (h : Hp lt f n) : HpUp lt f (n + 1) n :=
  ⟨fun i h0 h1 hne => h i h0 (by omega), fun i h0 h1 hp _ => by omega⟩
theorem HpUp.done0 {f : Nat → α} {n : Nat} (h : HpUp lt f n 0) : Hp lt f n := fun i h0 h1 => h.1 i h0 h1 (by omega)
theorem HpUp.done {f : Nat → α} {n j : Nat} (h : HpUp lt f n j) (hj : lt (f j) (f ((j - 1) / 2)) = false) : Hp lt f n := fun i h0 h1 => by
  by_cases e : i = j
  · rw [e]; exact hj
  · exact h.1 i h0 h1 e
theorem HpUp.step (O : Ord' lt) {f : Nat → α} {n j : Nat} (h : HpUp lt f n j) (h0 : 0 < j) (hj : j < n) (hl : lt (f j) (f ((j - 1) / 2)) = true) :
    HpUp lt (swp f ((j - 1) / 2) j) n ((j - 1) / 2) := by
  obtain ⟨p, hp⟩ : ∃ p, (j - 1) / 2 = p := ⟨_, rfl⟩
  rw [hp] at hl ⊢
  have hpj : p ≠ j := by omega
  refine ⟨fun i i0 i1 ip => ?_, fun i i0 i1 ip p0 => ?_⟩
  · by_cases e : i = j
    · subst e
      rw [swp_r, hp, swp_l]
      exact O.asymm hl
    · rw [swp_o f ip e]
      by_cases e1 : (i - 1) / 2 = j
      · rw [e1, swp_r]
        have := h.2 i i0 i1 e1 h0
        rwa [hp] at this
      · by_cases e2 : (i - 1) / 2 = p
        · rw [e2, swp_l]
          have := h.1 i i0 i1 e
          rw [e2] at this
          exact O.not_of this hl
        · rw [swp_o f e2 e1]
          exact h.1 i i0 i1 e
  · rw [swp_o f (k := (p - 1) / 2) (by omega) (by omega)]
    have hpp := h.1 p p0 (by omega) hpj
    by_cases e : i = j
    · subst e
      rw [swp_r]
      exact hpp
    · rw [swp_o f (by omega) e]
      have := h.1 i i0 i1 e
      rw [ip] at this
      exact O.ntrans _ _ _ this hpp
/-- the first is gone, the last in its place -/
theorem HpDn.start {f g : Nat → α} {n : Nat} (h : Hp lt f (n + 1)) (e : ∀ k, 0 < k → k < n → g k = f k) : HpDn lt g n 0 :=
  ⟨fun c c0 c1 hp => by rw [e c c0 c1, e _ (by omega) (by omega)]; exact h c c0 (by omega), fun c _ _ _ h0 => absurd h0 (by omega)⟩
theorem HpDn.leaf {f : Nat → α} {n i : Nat} (h : HpDn lt f n i) (hi : n ≤ 2 * i + 1) : Hp lt f n := fun c c0 c1 => h.1 c c0 c1 (by omega)
/-- j: the child of i that is to be held against it -/
def LeastChild (lt : α → α → Bool) (f : Nat → α) (n i j : Nat) : Prop := (j = 2 * i + 1 ∨ j = 2 * i + 2) ∧ j < n ∧ ∀ c, 0 < c → c < n → (c - 1) / 2 = i → lt (f c) (f j) = false
theorem HpDn.done (O : Ord' lt) {f : Nat → α} {n i j : Nat} (h : HpDn lt f n i) (hj : LeastChild lt f n i j) (hl : lt (f j) (f i) = false) : Hp lt f n := fun c c0 c1 => by
  by_cases e : (c - 1) / 2 = i
  · rw [e]; exact O.ntrans _ _ _ (hj.2.2 c c0 c1 e) hl
  · exact h.1 c c0 c1 e
theorem HpDn.step (O : Ord' lt) {f : Nat → α} {n i j : Nat} (h : HpDn lt f n i) (hj : LeastChild lt f n i j) (hl : lt (f j) (f i) = true) : HpDn lt (swp f i j) n j := by
  obtain ⟨hj0, hjn, hjl⟩ := hj
  have hpj : (j - 1) / 2 = i := by omega
  have hne : i ≠ j := by omega
  refine ⟨fun c c0 c1 cp => ?_, fun c c0 c1 cp _ => ?_⟩
  · by_cases e : c = j
    · subst e
      rw [swp_r, hpj, swp_l]
      exact O.asymm hl
    · by_cases e1 : c = i
      · subst e1
        rw [swp_l, swp_o f (k := (c - 1) / 2) (by omega) cp]
        exact h.2 j (by omega) hjn hpj c0
      · rw [swp_o f e1 e]
        by_cases e2 : (c - 1) / 2 = i
        · rw [e2, swp_l]
          exact hjl c c0 c1 e2
        · rw [swp_o f e2 cp]
          exact h.1 c c0 c1 e2
  · rw [swp_o f (k := c) (by omega) (by omega), hpj, swp_l]
    have := h.1 c c0 c1 (by omega)
    rwa [cp] at this
theorem least_one {f : Nat → α} {n i : Nat} (O : Ord' lt) (h1 : 2 * i + 1 < n) (h2 : n ≤ 2 * i + 2 ∨ lt (f (2 * i + 2)) (f (2 * i + 1)) = false) : LeastChild lt f n i (2 * i + 1) :=
  ⟨Or.inl rfl, h1, fun c c0 c1 cp => by
    by_cases e : c = 2 * i + 1
    · rw [e]; exact O.irrefl _
    · obtain rfl : c = 2 * i + 2 := by omega
      rcases h2 with h2 | h2
      · omega
      · exact h2⟩
theorem least_two {f : Nat → α} {n i : Nat} (O : Ord' lt) (h1 : 2 * i + 2 < n) (h2 : lt (f (2 * i + 2)) (f (2 * i + 1)) = true) : LeastChild lt f n i (2 * i + 2) :=
  ⟨Or.inr rfl, h1, fun c c0 c1 cp => by
    by_cases e : c = 2 * i + 2
    · rw [e]; exact O.irrefl _
    · obtain rfl : c = 2 * i + 1 := by omega
      exact O.asymm h2⟩
end Go.Proofs.Ytleebmbnjdoinaa
