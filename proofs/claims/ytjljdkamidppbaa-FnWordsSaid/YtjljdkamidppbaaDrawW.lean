/- The drawn texts: words and lines. -/
import Derived.Test.YtjljdkamidppbaaDrawF
namespace Go.Proofs.Ytjljdkamidppbaa
open Go.RowKit

/-- n picks, one behind the other -/
def picksF (len : Nat) (zs : List Int) (ts : List ByteArray) : Nat → ByteArray × (Nat × Int) → ByteArray × (Nat × Int)
  | 0, s => s
  | k + 1, s => ((picksF len zs ts k s).1 ++ ts.getD (belowF len zs ts.length (picksF len zs ts k s).2).1.toNat .empty, (belowF len zs ts.length (picksF len zs ts k s).2).2)
theorem picksF_size (len : Nat) (zs : List Int) (ts : List ByteArray) (h : ∀ t ∈ ts, t.size ≤ 2) (k : Nat) (s : ByteArray × (Nat × Int)) : (picksF len zs ts k s).1.size ≤ s.1.size + 2 * k := by
  induction k with
  | zero => simp [picksF]
  | succ k ih =>
    simp only [picksF]
    rw [ByteArray.size_append]
    have : (ts.getD (belowF len zs ts.length (picksF len zs ts k s).2).1.toNat .empty).size ≤ 2 := by
      rw [List.getD_eq_getElem?_getD]
      cases hg : ts[(belowF len zs ts.length (picksF len zs ts k s).2).1.toNat]? with
      | none => simp
      | some t => exact h t (List.mem_of_getElem? hg)
    omega

def startF (len : Nat) (zs : List Int) : Nat × Int := (0, newH len zs (min len 4000))
def wordOpts : List ByteArray := [⟨#[97]⟩, ⟨#[32]⟩, ⟨#[98, 99]⟩, ⟨#[9]⟩, .empty, ⟨#[10]⟩]
def lineOpts : List ByteArray := [⟨#[97]⟩, ⟨#[10]⟩, ⟨#[98, 99]⟩, ⟨#[10]⟩, .empty]
def drawnText (ts : List ByteArray) (len : Nat) (zs : List Int) (n : Int) : ByteArray := (picksF len zs ts (belowF len zs n (startF len zs)).1.toNat (.empty, (belowF len zs n (startF len zs)).2)).1

theorem drawWords_fun (w : World) (a : Option Addr) (len cap : Nat) (zs : List Int) (hl : len ≤ 1048576) (hrow : IsRow .u8 w a len cap zs) (hlow : ∀ x, a = some x → 0 < cap → x.block < w.heap.size) :
    Calls Try.prog 18 #[.slice a len cap] w fun e w' => e = .returned (.string (drawnText wordOpts len zs 7)) ∧ Below w.heap.size w w' := by
  have hbl := belowF_low len zs 7 (by decide) (startF len zs)
  obtain ⟨n, hn⟩ := Int.eq_ofNat_of_zero_le hbl.1
  have hn6 : n ≤ 6 := by omega
  clear hbl
  go_enter Try.func18, Try.ntmps18
  go_wp2_with fail
  refine (new_fun w a len cap zs hl hrow hlow).mono ?_
  rintro e w1 ⟨rfl, hc1, hb1, hs1⟩
  go_wp2_with fail
  refine (below_fun _ _ _ _ _ 7 (by decide) (by decide) _ hl hc1).mono ?_
  rintro e w2 ⟨rfl, hc2, hg2⟩
  have hn' : (belowF len zs 7 (0, newH len zs (min len 4000))).1 = (n : Int) := hn
  rw [hn']
  have hb2 : Below w.heap.size w w2 := hb1.trans ((grown_below hg2 (Nat.le_refl _) (by omega)).mono (by omega))
  have hs2 := Nat.lt_of_lt_of_le hs1 hg2.size
  generalize hst : (belowF len zs 7 (0, newH len zs (min len 4000))).2 = st at hc2
  have HN := Lib.hid hn; have HST := Lib.hid hst; clear hn hn' hst hc1 hg2 hs1 hb1
  go_wp2_with fail
  go_loopw [4, 6] (fun s i wr => ∃ k : Nat, i = .int .i64 k ∧ k ≤ n ∧ s = .string (picksF len zs wordOpts k (.empty, st)).1 ∧ CurF w.heap.size w.heap.size len zs (picksF len zs wordOpts k (.empty, st)).2 wr ∧ Below w.heap.size w wr ∧ w.heap.size < wr.heap.size) (fun _ i _ => n - (intOf i).toNat)
  case atStart => exact ⟨0, rfl, Nat.zero_le _, rfl, hc2, hb2, hs2⟩
  case round =>
    obtain ⟨k, rfl, hk, rfl, hc, hb, hs⟩ := hrel
    by_cases hlt : k < n
    · have hcB : w.heap.size < wr.heap.size := hs
      have hw2 : ∀ (cs : Array Value) t, CurF w.heap.size w.heap.size len zs (picksF len zs wordOpts k (.empty, st)).2 (wr.alloc (.cells cs t)) := fun cs t => by
        obtain ⟨a', cap', h1, h2, h3, h4, h5⟩ := hc
        exact ⟨a', cap', h1, (Below.heap_alloc wr _ _ hcB).trans h2, h3.below h4 ((Below.refl _ wr).alloc (by omega) _), h4, h5⟩
      have hsz := picksF_size len zs wordOpts (by decide) k (.empty, st)
      go_wp2_with fail
      refine (pick_fun _ _ len zs _ wr.heap.size 6 6 wordOpts (by decide) (by decide) _ hl (hw2 _ _) (by omega) ?_).mono ?_
      · intro i hi
        rw [World.cell?_alloc_at (hn := rfl)]
        match i, hi with
        | 0, _ => rfl
        | 1, _ => rfl
        | 2, _ => rfl
        | 3, _ => rfl
        | 4, _ => rfl
        | 5, _ => rfl
      · rintro e w3 ⟨rfl, hc3, hg3⟩
        have hsz2 := picksF_size len zs wordOpts (by decide) (k + 1) (.empty, st)
        have hb3 : Below w.heap.size w w3 := hb.trans (((Below.refl _ wr).alloc (by omega) _).trans (grown_below hg3 (Nat.le_refl _) (by simp; omega)))
        have hs3 : w.heap.size < w3.heap.size := Nat.lt_of_lt_of_le hcB (Nat.le_trans (by simp) hg3.size)
        have hnx : picksF len zs wordOpts (k + 1) (.empty, st) = ((picksF len zs wordOpts k (.empty, st)).1 ++ wordOpts.getD (belowF len zs ((6 : Nat) : Int) (picksF len zs wordOpts k (.empty, st)).2).1.toNat .empty, (belowF len zs ((6 : Nat) : Int) (picksF len zs wordOpts k (.empty, st)).2).2) := rfl
        rw [hnx] at hsz2
        simp only [ByteArray.size_append, ByteArray.size_empty, Nat.zero_add] at hsz2
        generalize hp : wordOpts.getD (belowF len zs ((6 : Nat) : Int) (picksF len zs wordOpts k (.empty, st)).2).1.toNat .empty = p at hnx hsz2
        generalize (belowF len zs ((6 : Nat) : Int) (picksF len zs wordOpts k (.empty, st)).2).2 = st2 at hnx hc3
        generalize (picksF len zs wordOpts k (.empty, st)).1 = acc at hnx hsz2
        have HNX := Lib.hid hnx; clear hnx hp
        go_wp2_with fail
        go_roundw
        case rel => exact ⟨k + 1, by go_num, by omega, by rw [HNX.out], by rw [HNX.out]; exact hc3, hb3, hs3⟩
        case measure => simp [intOf]; omega
    · obtain rfl : k = n := by omega
      go_wp2_with fail
      go_ret
      refine ⟨?_, hb⟩
      unfold drawnText startF
      have h1 := HN.out
      unfold startF at h1
      rw [h1, HST.out]
      rfl
theorem drawLines_fun (w : World) (a : Option Addr) (len cap : Nat) (zs : List Int) (hl : len ≤ 1048576) (hrow : IsRow .u8 w a len cap zs) (hlow : ∀ x, a = some x → 0 < cap → x.block < w.heap.size) :
    Calls Try.prog 19 #[.slice a len cap] w fun e w' => e = .returned (.string (drawnText lineOpts len zs 6)) ∧ Below w.heap.size w w' := by
  have hbl := belowF_low len zs 6 (by decide) (startF len zs)
  obtain ⟨n, hn⟩ := Int.eq_ofNat_of_zero_le hbl.1
  have hn6 : n ≤ 5 := by omega
  clear hbl
  go_enter Try.func19, Try.ntmps19
  go_wp2_with fail
  refine (new_fun w a len cap zs hl hrow hlow).mono ?_
  rintro e w1 ⟨rfl, hc1, hb1, hs1⟩
  go_wp2_with fail
  refine (below_fun _ _ _ _ _ 6 (by decide) (by decide) _ hl hc1).mono ?_
  rintro e w2 ⟨rfl, hc2, hg2⟩
  have hn' : (belowF len zs 6 (0, newH len zs (min len 4000))).1 = (n : Int) := hn
  rw [hn']
  have hb2 : Below w.heap.size w w2 := hb1.trans ((grown_below hg2 (Nat.le_refl _) (by omega)).mono (by omega))
  have hs2 := Nat.lt_of_lt_of_le hs1 hg2.size
  generalize hst : (belowF len zs 6 (0, newH len zs (min len 4000))).2 = st at hc2
  have HN := Lib.hid hn; have HST := Lib.hid hst; clear hn hn' hst hc1 hg2 hs1 hb1
  go_wp2_with fail
  go_loopw [4, 6] (fun s i wr => ∃ k : Nat, i = .int .i64 k ∧ k ≤ n ∧ s = .string (picksF len zs lineOpts k (.empty, st)).1 ∧ CurF w.heap.size w.heap.size len zs (picksF len zs lineOpts k (.empty, st)).2 wr ∧ Below w.heap.size w wr ∧ w.heap.size < wr.heap.size) (fun _ i _ => n - (intOf i).toNat)
  case atStart => exact ⟨0, rfl, Nat.zero_le _, rfl, hc2, hb2, hs2⟩
  case round =>
    obtain ⟨k, rfl, hk, rfl, hc, hb, hs⟩ := hrel
    by_cases hlt : k < n
    · have hcB : w.heap.size < wr.heap.size := hs
      have hw2 : ∀ (cs : Array Value) t, CurF w.heap.size w.heap.size len zs (picksF len zs lineOpts k (.empty, st)).2 (wr.alloc (.cells cs t)) := fun cs t => by
        obtain ⟨a', cap', h1, h2, h3, h4, h5⟩ := hc
        exact ⟨a', cap', h1, (Below.heap_alloc wr _ _ hcB).trans h2, h3.below h4 ((Below.refl _ wr).alloc (by omega) _), h4, h5⟩
      have hsz := picksF_size len zs lineOpts (by decide) k (.empty, st)
      go_wp2_with fail
      refine (pick_fun _ _ len zs _ wr.heap.size 5 5 lineOpts (by decide) (by decide) _ hl (hw2 _ _) (by omega) ?_).mono ?_
      · intro i hi
        rw [World.cell?_alloc_at (hn := rfl)]
        match i, hi with
        | 0, _ => rfl
        | 1, _ => rfl
        | 2, _ => rfl
        | 3, _ => rfl
        | 4, _ => rfl
      · rintro e w3 ⟨rfl, hc3, hg3⟩
        have hsz2 := picksF_size len zs lineOpts (by decide) (k + 1) (.empty, st)
        have hb3 : Below w.heap.size w w3 := hb.trans (((Below.refl _ wr).alloc (by omega) _).trans (grown_below hg3 (Nat.le_refl _) (by simp; omega)))
        have hs3 : w.heap.size < w3.heap.size := Nat.lt_of_lt_of_le hcB (Nat.le_trans (by simp) hg3.size)
        have hnx : picksF len zs lineOpts (k + 1) (.empty, st) = ((picksF len zs lineOpts k (.empty, st)).1 ++ lineOpts.getD (belowF len zs ((5 : Nat) : Int) (picksF len zs lineOpts k (.empty, st)).2).1.toNat .empty, (belowF len zs ((5 : Nat) : Int) (picksF len zs lineOpts k (.empty, st)).2).2) := rfl
        rw [hnx] at hsz2
        simp only [ByteArray.size_append, ByteArray.size_empty, Nat.zero_add] at hsz2
        generalize hp : lineOpts.getD (belowF len zs ((5 : Nat) : Int) (picksF len zs lineOpts k (.empty, st)).2).1.toNat .empty = p at hnx hsz2
        generalize (belowF len zs ((5 : Nat) : Int) (picksF len zs lineOpts k (.empty, st)).2).2 = st2 at hnx hc3
        generalize (picksF len zs lineOpts k (.empty, st)).1 = acc at hnx hsz2
        have HNX := Lib.hid hnx; clear hnx hp
        go_wp2_with fail
        go_roundw
        case rel => exact ⟨k + 1, by go_num, by omega, by rw [HNX.out], by rw [HNX.out]; exact hc3, hb3, hs3⟩
        case measure => simp [intOf]; omega
    · obtain rfl : k = n := by omega
      go_wp2_with fail
      go_ret
      refine ⟨?_, hb⟩
      unfold drawnText startF
      have h1 := HN.out
      unfold startF at h1
      rw [h1, HST.out]
      rfl

theorem drawnText_size (ts : List ByteArray) (h : ∀ t ∈ ts, t.size ≤ 2) (len : Nat) (zs : List Int) (n : Int) (hn : 1 ≤ n) (hn2 : n ≤ 100) : (drawnText ts len zs n).size ≤ 200 := by
  have h1 := belowF_low len zs n hn (startF len zs)
  have h2 := picksF_size len zs ts h (belowF len zs n (startF len zs)).1.toNat (.empty, (belowF len zs n (startF len zs)).2)
  unfold drawnText
  simp only [ByteArray.size_empty] at h2
  omega
end Go.Proofs.Ytjljdkamidppbaa
