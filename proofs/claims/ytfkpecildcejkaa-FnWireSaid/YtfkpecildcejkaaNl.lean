/- Lists of numbers: what stands in one, put in, left out; ports as plain data, what is right, what comes in and goes out. -/
import Derived.Test.YtfkpecildcejkaaFr
namespace Go.Proofs.Ytfkpecildcejkaa
open Go.RowKit

/-- at most twenty nets, ascending -/
def nets (l : List Int) : Prop := l.length ≤ 20 ∧ (∀ x ∈ l, 1 ≤ x ∧ x ≤ 4094) ∧ l.Pairwise (· < ·)
instance (l : List Int) : Decidable (nets l) := by unfold nets; infer_instance
def without (l : List Int) (n : Int) : List Int := l.filter (fun x => decide (x ≠ n))
def putN (l : List Int) (n : Int) : List Int := l.filter (fun x => decide (x < n)) ++ n :: l.filter (fun x => decide (n < x))

structure Pt where
  pvid : Int
  ins : List Int
  plain : List Int
  acc : Int
deriving DecidableEq

def portOk (p : Pt) : Prop := (1 ≤ p.pvid ∧ p.pvid ≤ 4094) ∧ nets p.ins ∧ nets p.plain ∧ (0 ≤ p.acc ∧ p.acc ≤ 2) ∧ ∀ x ∈ p.plain, x ∈ p.ins
instance (p : Pt) : Decidable (portOk p) := by unfold portOk; infer_instance

def wantM (p : Pt) (vid : Int) (u : Bool) : Pt := ⟨p.pvid, putN p.ins vid, if u then putN (without p.plain vid) vid else without p.plain vid, p.acc⟩
def setM (p : Pt) (vid : Int) (u : Bool) : Pt := if portOk p ∧ portOk (wantM p vid u) then wantM p vid u else p
def dropM (p : Pt) (vid : Int) : Pt := if portOk p then ⟨p.pvid, without p.ins vid, without p.plain vid, p.acc⟩ else p

/-- the net that a frame comes in by, if it may -/
def netOf (p : Pt) (f : Fr) : Int := if f.tagged then f.vid else p.pvid
def mayIn (p : Pt) (f : Fr) : Prop := portOk p ∧ frOk f ∧ ¬ (f.tagged = true ∧ p.acc = 2) ∧ ¬ (f.tagged = false ∧ p.acc = 1) ∧ netOf p f ∈ p.ins
instance (p : Pt) (f : Fr) : Decidable (mayIn p f) := by unfold mayIn; infer_instance
def outFr (p : Pt) (vid : Int) (f : Fr) (pri : Int) : Fr := if vid ∈ p.plain then ⟨f.dst, f.src, false, 0, 0, f.type, f.body⟩ else ⟨f.dst, f.src, true, vid, pri, f.type, f.body⟩
def mayOut (p : Pt) (vid : Int) (f : Fr) (pri : Int) : Prop := portOk p ∧ vid ∈ p.ins ∧ frOk (outFr p vid f pri)
instance (p : Pt) (vid : Int) (f : Fr) (pri : Int) : Decidable (mayOut p vid f pri) := by unfold mayOut; infer_instance

theorem mem_without {l : List Int} {n x : Int} : x ∈ without l n ↔ x ∈ l ∧ x ≠ n := by simp [without]
theorem without_len (l : List Int) (n : Int) : (without l n).length ≤ l.length := List.length_filter_le _ _
theorem without_asc {l : List Int} (h : l.Pairwise (· < ·)) (n : Int) : (without l n).Pairwise (· < ·) := h.filter _
theorem mem_putN {l : List Int} {n x : Int} : x ∈ putN l n ↔ x = n ∨ x ∈ l := by
  simp only [putN, List.mem_append, List.mem_filter, List.mem_cons, decide_eq_true_eq]
  constructor
  · rintro (⟨h, _⟩ | h | ⟨h, _⟩)
    · exact Or.inr h
    · exact Or.inl h
    · exact Or.inr h
  · rintro (h | h)
    · exact Or.inr (Or.inl h)
    · rcases Int.lt_trichotomy x n with h1 | h1 | h1
      · exact Or.inl ⟨h, h1⟩
      · exact Or.inr (Or.inl h1)
      · exact Or.inr (Or.inr ⟨h, h1⟩)
theorem putN_asc {l : List Int} (h : l.Pairwise (· < ·)) (n : Int) : (putN l n).Pairwise (· < ·) := by
  unfold putN
  rw [List.pairwise_append]
  refine ⟨h.filter _, List.pairwise_cons.2 ⟨fun x hx => ?_, h.filter _⟩, fun a ha b hb => ?_⟩
  · simpa using (List.mem_filter.1 hx).2
  · have h1 : a < n := by simpa using (List.mem_filter.1 ha).2
    rcases List.mem_cons.1 hb with rfl | hb
    · exact h1
    · have h2 : n < b := by simpa using (List.mem_filter.1 hb).2
      omega
theorem parts_len (l : List Int) (n : Int) : (l.filter (fun x => decide (x < n))).length + (l.filter (fun x => decide (n < x))).length ≤ l.length := by
  induction l with
  | nil => simp
  | cons a l ih =>
    simp only [List.filter_cons]
    by_cases h1 : a < n
    · have h2 : ¬ n < a := by omega
      simp only [h1, h2, decide_true, decide_false, if_true, Bool.false_eq_true, if_false, List.length_cons]
      omega
    · by_cases h2 : n < a
      · simp only [h1, h2, decide_true, decide_false, if_true, Bool.false_eq_true, if_false, List.length_cons]
        omega
      · simp only [h1, h2, decide_false, Bool.false_eq_true, if_false, List.length_cons]
        omega
theorem putN_len (l : List Int) (n : Int) : (putN l n).length ≤ l.length + 1 := by
  have := parts_len l n
  simp only [putN, List.length_append, List.length_cons]
  omega
/-- two ascending lists with the same members are one -/
theorem asc_ext : ∀ {l m : List Int}, l.Pairwise (· < ·) → m.Pairwise (· < ·) → (∀ x, x ∈ l ↔ x ∈ m) → l = m
  | [], [], _, _, _ => rfl
  | [], b :: m, _, _, h => absurd ((h b).2 (by simp)) (by simp)
  | a :: l, [], _, _, h => absurd ((h a).1 (by simp)) (by simp)
  | a :: l, b :: m, hl, hm, h => by
    rw [List.pairwise_cons] at hl hm
    have hab : a = b := by
      rcases List.mem_cons.1 ((h a).1 (by simp)) with e | e
      · exact e
      · rcases List.mem_cons.1 ((h b).2 (by simp)) with k | k
        · exact k.symm
        · have h1 := hm.1 a e
          have h2 := hl.1 b k
          omega
    subst hab
    rw [asc_ext hl.2 hm.2 (fun x => ?_)]
    have hx := h x
    simp only [List.mem_cons] at hx
    constructor
    · intro k
      rcases hx.1 (Or.inr k) with e | e
      · subst e; exact absurd (hl.1 x k) (by omega)
      · exact e
    · intro k
      rcases hx.2 (Or.inr k) with e | e
      · subst e; exact absurd (hm.1 x k) (by omega)
      · exact e
theorem putN_of_mem {l : List Int} (h : l.Pairwise (· < ·)) {n : Int} (hn : n ∈ l) : putN l n = l :=
  asc_ext (putN_asc h n) h fun x => by
    rw [mem_putN]
    exact ⟨fun k => k.elim (fun e => e ▸ hn) id, Or.inr⟩
theorem without_of_not {l : List Int} {n : Int} (hn : n ∉ l) : without l n = l := by
  unfold without
  rw [List.filter_eq_self]
  intro x hx
  simp only [decide_eq_true_eq]
  exact fun e => hn (e ▸ hx)
theorem put_without {l : List Int} (h : l.Pairwise (· < ·)) (n : Int) : putN (without l n) n = putN l n :=
  asc_ext (putN_asc (without_asc h n) n) (putN_asc h n) fun x => by
    rw [mem_putN, mem_putN, mem_without]
    by_cases e : x = n <;> simp [e]

theorem nets_without {l : List Int} (h : nets l) (n : Int) : nets (without l n) :=
  ⟨Nat.le_trans (without_len l n) h.1, fun x hx => h.2.1 x (mem_without.1 hx).1, without_asc h.2.2 n⟩
theorem nets_put {l : List Int} (h : nets l) {n : Int} (h1 : 1 ≤ n) (h2 : n ≤ 4094) (hl : l.length ≤ 19 ∨ n ∈ l) : nets (putN l n) := by
  refine ⟨?_, fun x hx => ?_, putN_asc h.2.2 n⟩
  · rcases hl with hl | hl
    · have := putN_len l n
      omega
    · rw [putN_of_mem h.2.2 hl]; exact h.1
  · rcases mem_putN.1 hx with e | e
    · subst e; exact ⟨h1, h2⟩
    · exact h.2.1 x e
/-- ascending lists, one in the other, the one is no longer -/
theorem asc_sub_len : ∀ {l m : List Int}, l.Pairwise (· < ·) → m.Pairwise (· < ·) → (∀ x ∈ l, x ∈ m) → l.length ≤ m.length
  | [], _, _, _, _ => Nat.zero_le _
  | a :: l, [], _, _, h => absurd (h a (by simp)) (by simp)
  | a :: l, b :: m, hl, hm, h => by
    rw [List.pairwise_cons] at hl hm
    have h1 : l.length ≤ m.length := asc_sub_len hl.2 hm.2 fun x hx => by
      rcases List.mem_cons.1 (h x (List.mem_cons_of_mem _ hx)) with e | e
      · subst e
        have k1 := hl.1 x hx
        rcases List.mem_cons.1 (h a (by simp)) with k | k
        · omega
        · have := hm.1 a k
          omega
      · exact e
    simpa using h1
theorem want_ok {p : Pt} (h : portOk p) {vid : Int} (h1 : 1 ≤ vid) (h2 : vid ≤ 4094) (hl : p.ins.length ≤ 19 ∨ vid ∈ p.ins) (u : Bool) : portOk (wantM p vid u) := by
  obtain ⟨a, b, c, d, e⟩ := h
  have hs : ∀ x ∈ (wantM p vid u).plain, x = vid ∨ x ∈ p.plain := by
    intro x hx
    unfold wantM at hx
    cases u
    · exact Or.inr (mem_without.1 hx).1
    · rcases mem_putN.1 hx with k | k
      · exact Or.inl k
      · exact Or.inr (mem_without.1 k).1
  have hI : nets (putN p.ins vid) := nets_put b h1 h2 hl
  have hsub : ∀ x ∈ (wantM p vid u).plain, x ∈ putN p.ins vid := by
    intro x hx
    rw [mem_putN]
    exact (hs x hx).imp id (e x)
  have hA : (wantM p vid u).plain.Pairwise (· < ·) := by
    unfold wantM
    cases u
    · exact without_asc c.2.2 vid
    · exact putN_asc (without_asc c.2.2 vid) vid
  refine ⟨a, hI, ⟨?_, fun x hx => hI.2.1 x (hsub x hx), hA⟩, d, hsub⟩
  exact Nat.le_trans (asc_sub_len hA hI.2.2 hsub) hI.1
theorem set_ok {p : Pt} (h : portOk p) (vid : Int) (u : Bool) : portOk (setM p vid u) := by
  unfold setM
  split
  · rename_i k; exact k.2
  · exact h
theorem set_ok_iff (p : Pt) (vid : Int) (u : Bool) : portOk (setM p vid u) ↔ portOk p := by
  constructor
  · intro h
    unfold setM at h
    split at h
    · rename_i k; exact k.1
    · exact h
  · exact fun h => set_ok h vid u
theorem drop_ok {p : Pt} (h : portOk p) (vid : Int) : portOk (dropM p vid) := by
  unfold dropM
  rw [if_pos h]
  obtain ⟨a, b, c, d, e⟩ := h
  refine ⟨a, nets_without b vid, nets_without c vid, d, fun x hx => ?_⟩
  rw [mem_without] at hx ⊢
  exact ⟨e x hx.1, hx.2⟩
theorem drop_out {p : Pt} (h : portOk p) (vid : Int) : vid ∉ (dropM p vid).ins := by
  unfold dropM
  rw [if_pos h]
  simp [mem_without]
theorem set_in {p : Pt} (h : portOk p) {vid : Int} (h1 : 1 ≤ vid) (h2 : vid ≤ 4094) (hl : p.ins.length ≤ 19) (u : Bool) : vid ∈ (setM p vid u).ins ∧ (vid ∈ (setM p vid u).plain ↔ u = true) := by
  unfold setM
  rw [if_pos ⟨h, want_ok h h1 h2 (Or.inl hl) u⟩]
  refine ⟨mem_putN.2 (Or.inl rfl), ?_⟩
  unfold wantM
  cases u
  · simp [mem_without]
  · simp [mem_putN]
/-- what goes out in a net comes in by it -/
theorem out_in {p : Pt} {vid pri : Int} {f : Fr} (h : mayOut p vid f pri) (q : Pt) (hq : q = ⟨if (outFr p vid f pri).tagged = true then p.pvid else vid, p.ins, p.plain, 0⟩) :
    mayIn q (outFr p vid f pri) ∧ netOf q (outFr p vid f pri) = vid := by
  obtain ⟨a, b, c⟩ := h
  have hv := a.2.1.2.1 vid b
  have hn : netOf q (outFr p vid f pri) = vid := by
    subst hq
    unfold netOf outFr
    by_cases k : vid ∈ p.plain <;> simp [k]
  refine ⟨⟨?_, c, ?_, ?_, ?_⟩, hn⟩
  · subst hq
    obtain ⟨a1, a2, a3, a4, a5⟩ := a
    refine ⟨?_, a2, a3, ⟨Int.le_refl 0, show (0 : Int) ≤ 2 by decide⟩, a5⟩
    simp only
    split
    · exact a1
    · exact hv
  · subst hq; simp
  · subst hq; simp
  · rw [hn]; subst hq; exact b
end Go.Proofs.Ytfkpecildcejkaa
