/- container/heap over ageQueue. -/
import Derived.Test.YtleebmbnjdoinaaQue2
namespace Go.Proofs.Ytleebmbnjdoinaa
open Go.RowKit

def ltR (a b : Rw) : Bool := decide (older a b)
theorem ordR : Ord' ltR where
  irrefl x := decide_eq_false (fun h => by unfold older ahead at h; omega)
  trans x y z h1 h2 := by
    unfold ltR at *
    have h1 := of_decide_eq_true h1
    have h2 := of_decide_eq_true h2
    exact decide_eq_true (by unfold older ahead at *; omega)
  ntrans x y z h1 h2 := by
    unfold ltR at *
    have h1 := of_decide_eq_false h1
    have h2 := of_decide_eq_false h2
    exact decide_eq_false (by unfold older ahead at *; omega)
/-- a list as a function of the place -/
def fn (d : List Rw) : Nat → Rw := fun k => d.getD k default
theorem fn_get {d : List Rw} {k : Nat} (h : k < d.length) : fn d k = d[k] := by unfold fn; exact getD_eq h
theorem fn_swap {d : List Rw} {i j : Nat} (hi : i < d.length) (hj : j < d.length) : fn (swapL d i j) = swp (fn d) i j := by
  funext k
  unfold fn swapL swp
  rw [List.getD_eq_getElem?_getD, List.getElem?_set, List.getElem?_set]
  simp only [List.length_set]
  by_cases h1 : j = k
  · subst h1
    rw [if_pos rfl, if_pos hj]
    by_cases h2 : j = i
    · subst h2; rw [if_pos rfl]; rfl
    · rw [if_neg h2, if_pos rfl]; rfl
  · rw [if_neg h1]
    by_cases h2 : i = k
    · subst h2
      rw [if_pos rfl, if_pos hi, if_pos rfl]; rfl
    · rw [if_neg h2, if_neg (Ne.symm h2), if_neg (Ne.symm h1), List.getD_eq_getElem?_getD]
theorem perm_swap (d : List Rw) {i j : Nat} (hi : i < d.length) (hj : j < d.length) : (swapL d i j).Perm d := by
  have h := Array.swap_perm (xs := d.toArray) (i := i) (j := j) (by simpa using hi) (by simpa using hj)
  have e : (d.toArray.swap i j (by simpa using hi) (by simpa using hj)).toList = swapL d i j := by
    unfold swapL
    rw [getD_eq hi, getD_eq hj]
    simp [Array.swap]
  have h2 := h.toList
  rw [e] at h2
  simpa using h2

theorem w64_in {x : Int} (h0 : -9223372036854775808 ≤ x) (h1 : x ≤ 9223372036854775807) : wrap64 x = x := by unfold wrap64; omega
theorem QAt.after {w w' : World} {bq base : Nat} {a : Option Addr} {d : List Rw} (h : QAt w bq base a d) (hb : Below w.heap.size w w') : QAt w' bq base a d :=
  h.keep (Turned.of_below (B := []) hb) (by simp) (fun _ _ => by simp)

/-- the box is no row -/
theorem box_out {w : World} {bq base n cap : Nat} {a : Option Addr} {u : Value} {d : List Rw} (hK : Blk w bq #[u] 105) (hO : OwnRw w base (.slice a n cap) d) : bq ∉ blkOf a := by
  have h := box_other hK hO
  intro hm
  cases a with
  | none => cases hm
  | some x =>
    obtain ⟨b, o, s⟩ := x
    simp [blkOf] at hm
    subst hm
    obtain ⟨_, h' | ⟨g', c', cur, h', _⟩⟩ := hO
    · simp at h'
    · simp at h'; obtain ⟨⟨rfl, rfl, rfl⟩, _⟩ := h'; simp [Value.ownBlock] at h
set_option maxRecDepth 100000 in
theorem up_any {w : World} {bq base : Nat} {a : Option Addr} {d : List Rw} (h : QAt w bq base a d) (n : Nat) (hn : d.length = n) (hn6 : n ≤ 1000000) (j : Nat) (hj : j < n) (hH : HpUp ltR (fn d) n j) :
    Calls Try.prog 98 #[.iface 94 (.pointer (some ⟨bq, 0, none⟩)), .int .i64 (j : Nat)] w fun e w' => e = .returned (.tuple #[]) ∧ ∃ d', QAt w' bq base a d' ∧ d'.Perm d ∧ Hp ltR (fn d') n ∧ Turned (blkOf a) w w' := by
  have H := Lib.hid h; have HH := Lib.hid hH; have HN := Lib.hid hn
  clear h hH hn
  go_enter Try.func98, Try.ntmps98
  go_wp2_with fail
  go_loopw [1] (fun q wr => ∃ (k : Nat) (dd : List Rw), q = .int .i64 (k : Nat) ∧ k < n ∧ Hid (QAt wr bq base a dd) ∧ Hid (dd.Perm d) ∧ Hid (HpUp ltR (fn dd) n k) ∧ Hid (Turned (blkOf a) w wr)) (fun q _ => (intOf q).toNat)
  case atStart => exact ⟨j, d, rfl, hj, H, Lib.hid (List.Perm.refl _), HH, Lib.hid (Turned.refl _ _)⟩
  case round =>
    obtain ⟨k, dd, rfl, hk, HQ, HP, HU, HT⟩ := hrel
    have HL := Lib.hid (show dd.length = n by rw [HP.out.length_eq, HN.out])
    rcases Nat.eq_zero_or_pos k with rfl | hpos
    · have HF := Lib.hid HU.out.done0
      go_wp2_with fail
      go_end0
      exact ⟨rfl, dd, HQ.out, HP.out, HF.out, HT.out⟩
    · obtain ⟨k', rfl⟩ : ∃ k', k = k' + 1 := ⟨k - 1, by omega⟩
      obtain ⟨p, hp⟩ : ∃ p, k' / 2 = p := ⟨_, rfl⟩
      have h1 : wrap64 (k' : Int) = (k' : Int) := w64_in (by omega) (by omega)
      have h2 : (k' : Int).tdiv 2 = (p : Int) := by rw [← hp]; exact (Int.ofNat_tdiv k' 2)
      have h3 : wrap64 (p : Int) = (p : Int) := w64_in (by omega) (by omega)
      have h4 : ¬ ((p : Int) = (k' : Int) + 1) := by omega
      have hpn : p < n := by omega
      obtain ⟨cap, hK, hO⟩ := HQ.out
      rw [HL.out] at hK hO
      have c0 := hK.cell 0
      have mL := m_Less (w := wr) (bq := bq) (v := .slice a n cap) (by simpa using c0)
      have HSL : SlIn kdRw wr a dd := by
        obtain ⟨a', cap', e, hs, _⟩ := SlIn.of_owns (K := kdRw) (by unfold OwnRw at hO; rw [HL.out] at hO; exact hO) HL.out
        cases e
        exact hs
      have hle := less_q HSL HL.out (cap := cap) (k' + 1) p hk hpn
      have HLE := Lib.hid hle; have HO := Lib.hid hO; have HK0 := Lib.hid hK; have HP2 := Lib.hid hp
      clear hle hO hK c0 HSL hp
      go_upto_region 1 with fail
      go_wp2_with fail
      refine HLE.out.mono ?_
      rintro e w2 ⟨rfl, hg2⟩
      by_cases hold : older (dd[k' + 1]'(by rw [HL.out]; exact hk)) (dd[p]'(by rw [HL.out]; exact hpn))
      · rw [decide_eq_true hold]
        have hkl : k' + 1 < dd.length := by rw [HL.out]; exact hk
        have hpl : p < dd.length := by rw [HL.out]; exact hpn
        have e : (k' + 1 - 1) / 2 = p := by rw [← HP2.out]; rfl
        have hst := HU.out.step ordR (by omega) hk (by rw [e, fn_get hkl, fn_get hpl]; exact decide_eq_true hold)
        rw [e, ← fn_swap hpl hkl] at hst
        have hK2 := HK0.out.after hg2.below
        have hO2 := own_below HO.out hg2.below
        have c2 := hK2.cell 0
        have mS := m_Swap (w := w2) (bq := bq) (v := .slice a n cap) (by simpa using c2)
        have hsw := swap_q hO2 HL.out p (k' + 1) hpn hk
        have hper := (perm_swap dd hpl hkl).trans HP.out
        have HST := Lib.hid hst; have HSW := Lib.hid hsw; have HPER := Lib.hid hper; have HK2 := Lib.hid hK2; have HBO := Lib.hid (box_out hK2 hO2)
        have HT2 := Lib.hid (HT.out.trans1 (Turned.of_below (hg2.below)))
        have HLS := Lib.hid (show (swapL dd p (k' + 1)).length = n by rw [swapL_len, HL.out])
        clear hst hsw hper hK2 hO2 c2 hold mL e hkl hpl hg2
        go_wp2_with fail
        refine HSW.out.mono ?_
        rintro e w3 ⟨rfl, hO3, hT3⟩
        have HQ3 := Lib.hid (show QAt w3 bq base a (swapL dd p (k' + 1)) from ⟨cap, by rw [HLS.out]; exact HK2.out.turned hT3 HBO.out, by rw [HLS.out]; exact hO3⟩)
        have HT3 := Lib.hid (HT2.out.trans1 hT3)
        clear hO3 hT3 mS
        go_wp2_with fail
        go_roundw
        case rel => exact ⟨p, swapL dd p (k' + 1), rfl, hpn, HQ3, HPER, HST, HT3⟩
        case measure => have := HP2.out; simp [intOf]; omega
      · rw [decide_eq_false hold]
        have HQ2 := Lib.hid (HQ.out.after hg2.below)
        have HT2 := Lib.hid (HT.out.trans1 (Turned.of_below (hg2.below)))
        have HF := Lib.hid (HU.out.done (by
          have e : (k' + 1 - 1) / 2 = p := by rw [← HP2.out]; rfl
          rw [e, fn_get (by rw [HL.out]; exact hk), fn_get (by rw [HL.out]; exact hpn)]
          exact decide_eq_false hold))
        clear hg2 hold mL
        go_wp2_with fail
        go_end0
        exact ⟨rfl, dd, HQ2.out, HP.out, HF.out, HT2.out⟩

theorem Turned.trans_new {B C : List Nat} {w w1 w2 : World} (h : Turned B w w1) (k : Turned C w1 w2) (hC : ∀ c ∈ C, c ∈ B ∨ w.heap.size ≤ c) : Turned B w w2 :=
  ⟨k.os.trans h.os, k.tape.trans h.tape, k.output.trans h.output, Nat.le_trans h.size k.size, fun i hi hn => (k.block i (Nat.lt_of_lt_of_le hi h.size) (fun hm => by rcases hC i hm with e | e; exact hn e; omega)).trans (h.block i hi hn)⟩

set_option maxRecDepth 100000 in
theorem hpush_any {w : World} {bq base : Nat} {a : Option Addr} {d : List Rw} (h : QAt w bq base a d) (hd : d.length ≤ 100000) (hb : base ≤ w.heap.size) (r : Rw) (hH : Hp ltR (fn d) d.length) :
    Calls Try.prog 92 #[.iface 94 (.pointer (some ⟨bq, 0, none⟩)), .iface 34 r.val] w fun e w' => e = .returned (.tuple #[]) ∧ ∃ a' d', QAt w' bq base a' d' ∧ d'.Perm (r :: d) ∧ Hp ltR (fn d') d'.length ∧ Turned (bq :: blkOf a) w w' ∧ ∀ b ∈ blkOf a', b ∈ blkOf a ∨ w.heap.size ≤ b := by
  have hp := push_q h hd hb r
  have mP := m_Push
  have HPU := Lib.hid hp; have HH := Lib.hid hH
  clear hp h hH
  go_enter Try.func92, Try.ntmps92
  go_wp2_with fail
  refine HPU.out.mono ?_
  rintro e w1 ⟨rfl, a', hQ, hT, hnew⟩
  obtain ⟨cap, hK, hO⟩ := hQ
  have hl : (d ++ [r]).length = d.length + 1 := by simp
  rw [hl] at hK hO
  have c0 := hK.cell 0
  have mL := m_Len (w := w1) (bq := bq) (v := .slice a' (d.length + 1) cap) (by simpa using c0)
  have hle := len_q a' (d.length + 1) cap
  have hup := up_any (w := w1) (bq := bq) (base := base) (a := a') (d := d ++ [r]) ⟨cap, by rw [hl]; exact hK, by rw [hl]; exact hO⟩ (d.length + 1) hl (by omega) d.length (by omega) (by
    refine HpUp.start (f := fn (d ++ [r])) (n := d.length) (HH.out.congr (fun k hk => ?_))
    unfold fn
    rw [List.getD_eq_getElem?_getD, List.getD_eq_getElem?_getD, List.getElem?_append_left hk])
  have hw1 : wrap64 (d.length : Int) = (d.length : Int) := w64_in (by omega) (by omega)
  have HT := Lib.hid hT; have HNEW := Lib.hid hnew; have HUP := Lib.hid hup; have HLE := Lib.hid hle
  clear hT hnew hup hle hK hO c0 mP
  go_wp2_with fail
  refine (HLE.out _).mono ?_
  rintro e w2 ⟨rfl, rfl⟩
  go_wp2_with fail
  refine HUP.out.mono ?_
  rintro e w3 ⟨rfl, d', hQ', hperm, hHp, hT'⟩
  have hT3 := HT.out.trans_new hT' (fun b hb => by rcases HNEW.out b hb with h | h; exact .inl (List.mem_cons_of_mem _ h); exact .inr h)
  have hl' : d'.length = d.length + 1 := by rw [hperm.length_eq, hl]
  have hpp := hperm.trans (List.perm_append_singleton r d)
  clear hperm hT' mL
  go_wp2_with fail
  go_end0
  exact ⟨rfl, a', d', hQ', hpp, by rw [hl']; exact hHp, hT3, HNEW.out⟩

theorem own_sl {w : World} {base n cap : Nat} {a : Option Addr} {d : List Rw} (h : OwnRw w base (.slice a n cap) d) (hn : d.length = n) : SlIn kdRw w a d := by
  obtain ⟨a', cap', e, hs, _⟩ := SlIn.of_owns (K := kdRw) (by unfold OwnRw at h; rw [hn] at h; exact h) hn
  cases e
  exact hs

set_option maxRecDepth 100000 in
set_option maxHeartbeats 1000000 in
theorem down_any {w : World} {bq base : Nat} {a : Option Addr} {d : List Rw} (h : QAt w bq base a d) (n m : Nat) (hn : d.length = n) (hm : m ≤ n) (hn6 : n ≤ 1000000) (hH : HpDn ltR (fn d) m 0) :
    Calls Try.prog 99 #[.iface 94 (.pointer (some ⟨bq, 0, none⟩)), .int .i64 0, .int .i64 (m : Nat)] w fun e w' => (∃ v, e = .returned v) ∧ ∃ d', QAt w' bq base a d' ∧ d'.Perm d ∧ Hp ltR (fn d') m ∧ (∀ k, m ≤ k → fn d' k = fn d k) ∧ Turned (blkOf a) w w' := by
  have H := Lib.hid h; have HH := Lib.hid hH; have HN := Lib.hid hn
  clear h hH hn
  go_enter Try.func99, Try.ntmps99
  go_wp2_with fail
  go_loopw [7] (fun q wr => ∃ (i : Nat) (dd : List Rw), q = .int .i64 (i : Nat) ∧ i ≤ n ∧ Hid (QAt wr bq base a dd) ∧ Hid (dd.Perm d) ∧ Hid (HpDn ltR (fn dd) m i) ∧ Hid (∀ k, m ≤ k → fn dd k = fn d k) ∧ Hid (Turned (blkOf a) w wr)) (fun q _ => n - (intOf q).toNat)
  case atStart => exact ⟨0, d, rfl, Nat.zero_le _, H, Lib.hid (List.Perm.refl _), HH, Lib.hid (fun _ _ => rfl), Lib.hid (Turned.refl _ _)⟩
  case round =>
    obtain ⟨i, dd, rfl, hi, HQ, HP, HU, HK, HT⟩ := hrel
    have HL := Lib.hid (show dd.length = n by rw [HP.out.length_eq, HN.out])
    have h1 : wrap64 (2 * (i : Int)) = 2 * (i : Int) := w64_in (by omega) (by omega)
    have h2 : wrap64 (2 * (i : Int) + 1) = 2 * (i : Int) + 1 := w64_in (by omega) (by omega)
    have h3 : wrap64 (2 * (i : Int) + 1 + 1) = 2 * (i : Int) + 1 + 1 := w64_in (by omega) (by omega)
    have EJ : ((2 * i + 1 : Nat) : Int) = 2 * (i : Int) + 1 := by omega
    have EK : ((2 * i + 2 : Nat) : Int) = 2 * (i : Int) + 1 + 1 := by omega
    have HEJ := Lib.hid EJ; have HEK := Lib.hid EK
    clear EJ EK
    by_cases hleaf : m ≤ 2 * i + 1
    · have HF := Lib.hid (HU.out.leaf (by omega))
      have hl1 : (m : Int) ≤ 2 * (i : Int) + 1 := by omega
      go_wp2_with fail
      go_ret
      exact ⟨⟨_, rfl⟩, dd, HQ.out, HP.out, HF.out, HK.out, HT.out⟩
    · have hl1 : ¬ ((m : Int) ≤ 2 * (i : Int) + 1) := by omega
      have hl2 : ¬ (2 * (i : Int) + 1 < 0) := by omega
      obtain ⟨cap, hK0, hO⟩ := HQ.out
      rw [HL.out] at hK0 hO
      have HO := Lib.hid hO; have HK0 := Lib.hid hK0
      clear hO hK0
      by_cases h2m : 2 * i + 2 < m
      · have hl3 : 2 * (i : Int) + 1 + 1 < (m : Int) := by omega
        have c0 := HK0.out.cell 0
        have mL := m_Less (w := wr) (bq := bq) (v := .slice a n cap) (by simpa using c0)
        have hle := less_q (own_sl HO.out HL.out) HL.out (cap := cap) (2 * i + 2) (2 * i + 1) (by omega) (by omega)
        rw [HEJ.out, HEK.out] at hle
        have HLE := Lib.hid hle
        have hjl : 2 * i + 1 < dd.length := by rw [HL.out]; omega
        have hj2l : 2 * i + 2 < dd.length := by rw [HL.out]; omega
        clear hle c0
        go_wp2_with fail
        refine HLE.out.mono ?_
        rintro e w2 ⟨rfl, hg2⟩
        have HK2 := Lib.hid (HK0.out.after hg2.below)
        have HO2 := Lib.hid (own_below HO.out hg2.below)
        have HQ2 := Lib.hid (HQ.out.after hg2.below)
        have HT2 := Lib.hid (HT.out.trans1 (Turned.of_below hg2.below))
        clear HLE HO HK0 HQ HT
        have HO := HO2; have HK0 := HK2; have HQ := HQ2; have HT := HT2
        clear hg2 mL HO2 HK2 HQ2 HT2
        by_cases hol : older (dd[2 * i + 2]'hj2l) (dd[2 * i + 1]'hjl)
        · rw [decide_eq_true hol]
          have hlc : LeastChild ltR (fn dd) m i (2 * i + 2) := least_two (f := fn dd) (n := m) (i := i) ordR (by omega) (by rw [fn_get hj2l, fn_get hjl]; exact decide_eq_true hol)
          clear hol hjl hj2l
          have hJl : (2 * i + 2) < dd.length := by rw [HL.out]; omega
          have hil : i < dd.length := by rw [HL.out]; omega
          have HLC := Lib.hid (hlc)
          have c0 := HK0.out.cell 0
          have mL := m_Less (w := w2) (bq := bq) (v := .slice a n cap) (by simpa using c0)
          have hle := less_q (own_sl HO.out HL.out) HL.out (cap := cap) (2 * i + 2) i (by omega) (by omega)
          rw [HEK.out] at hle
          have HLE := Lib.hid hle
          clear hle c0
          go_wp2_with fail
          refine HLE.out.mono ?_
          rintro e w8 ⟨rfl, hg8⟩
          have HK8 := Lib.hid (HK0.out.after hg8.below)
          have HO8 := Lib.hid (own_below HO.out hg8.below)
          have HQ8 := Lib.hid (HQ.out.after hg8.below)
          have HT8 := Lib.hid (HT.out.trans1 (Turned.of_below hg8.below))
          clear hg8 mL
          by_cases hold : older (dd[(2 * i + 2)]'hJl) (dd[i]'hil)
          · rw [decide_eq_true hold]
            have HST := Lib.hid (HU.out.step ordR HLC.out (by rw [fn_get hJl, fn_get hil]; exact decide_eq_true hold))
            have c8 := HK8.out.cell 0
            have mS := m_Swap (w := w8) (bq := bq) (v := .slice a n cap) (by simpa using c8)
            have hsw := swap_q HO8.out HL.out i (2 * i + 2) (by omega) (by omega)
            rw [HEK.out] at hsw
            have HSW := Lib.hid hsw
            have HPER := Lib.hid ((perm_swap dd hil hJl).trans HP.out)
            have HLS := Lib.hid (show (swapL dd i (2 * i + 2)).length = n by rw [swapL_len, HL.out])
            have HBO := Lib.hid (box_out HK8.out HO8.out)
            have HKP := Lib.hid (show ∀ k, m ≤ k → fn (swapL dd i (2 * i + 2)) k = fn d k from fun k hk => by rw [fn_swap hil hJl, swp_o _ (by omega) (by have := HLC.out.2.1; omega)]; exact HK.out k hk)
            have HST2 := Lib.hid (show HpDn ltR (fn (swapL dd i (2 * i + 2))) m (2 * i + 2) by rw [fn_swap hil hJl]; exact HST.out)
            clear hsw c8 hold hJl hil
            go_wp2_with fail
            refine HSW.out.mono ?_
            rintro e w9 ⟨rfl, hO9, hT9⟩
            have HQ9 := Lib.hid (show QAt w9 bq base a (swapL dd i (2 * i + 2)) from ⟨cap, by rw [HLS.out]; exact HK8.out.turned hT9 HBO.out, by rw [HLS.out]; exact hO9⟩)
            have HT9 := Lib.hid (HT8.out.trans1 hT9)
            clear hO9 hT9 mS
            go_wp2_with fail
            go_roundw
            case rel => exact ⟨(2 * i + 2), swapL dd i (2 * i + 2), by go_num, by omega, HQ9, HPER, HST2, HKP, HT9⟩
            case measure => simp [intOf]; omega
          · rw [decide_eq_false hold]
            have HF := Lib.hid (HU.out.done ordR HLC.out (by rw [fn_get hJl, fn_get hil]; exact decide_eq_false hold))
            clear hold hJl hil
            go_wp2_with fail
            go_ret
            exact ⟨⟨_, rfl⟩, dd, HQ8.out, HP.out, HF.out, HK.out, HT8.out⟩
        · rw [decide_eq_false hol]
          have hlc : LeastChild ltR (fn dd) m i (2 * i + 1) := least_one (f := fn dd) (n := m) (i := i) ordR (by omega) (.inr (by rw [fn_get hj2l, fn_get hjl]; exact decide_eq_false hol))
          clear hol hjl hj2l
          have hJl : (2 * i + 1) < dd.length := by rw [HL.out]; omega
          have hil : i < dd.length := by rw [HL.out]; omega
          have HLC := Lib.hid (hlc)
          have c0 := HK0.out.cell 0
          have mL := m_Less (w := w2) (bq := bq) (v := .slice a n cap) (by simpa using c0)
          have hle := less_q (own_sl HO.out HL.out) HL.out (cap := cap) (2 * i + 1) i (by omega) (by omega)
          rw [HEJ.out] at hle
          have HLE := Lib.hid hle
          clear hle c0
          go_wp2_with fail
          refine HLE.out.mono ?_
          rintro e w8 ⟨rfl, hg8⟩
          have HK8 := Lib.hid (HK0.out.after hg8.below)
          have HO8 := Lib.hid (own_below HO.out hg8.below)
          have HQ8 := Lib.hid (HQ.out.after hg8.below)
          have HT8 := Lib.hid (HT.out.trans1 (Turned.of_below hg8.below))
          clear hg8 mL
          by_cases hold : older (dd[(2 * i + 1)]'hJl) (dd[i]'hil)
          · rw [decide_eq_true hold]
            have HST := Lib.hid (HU.out.step ordR HLC.out (by rw [fn_get hJl, fn_get hil]; exact decide_eq_true hold))
            have c8 := HK8.out.cell 0
            have mS := m_Swap (w := w8) (bq := bq) (v := .slice a n cap) (by simpa using c8)
            have hsw := swap_q HO8.out HL.out i (2 * i + 1) (by omega) (by omega)
            rw [HEJ.out] at hsw
            have HSW := Lib.hid hsw
            have HPER := Lib.hid ((perm_swap dd hil hJl).trans HP.out)
            have HLS := Lib.hid (show (swapL dd i (2 * i + 1)).length = n by rw [swapL_len, HL.out])
            have HBO := Lib.hid (box_out HK8.out HO8.out)
            have HKP := Lib.hid (show ∀ k, m ≤ k → fn (swapL dd i (2 * i + 1)) k = fn d k from fun k hk => by rw [fn_swap hil hJl, swp_o _ (by omega) (by have := HLC.out.2.1; omega)]; exact HK.out k hk)
            have HST2 := Lib.hid (show HpDn ltR (fn (swapL dd i (2 * i + 1))) m (2 * i + 1) by rw [fn_swap hil hJl]; exact HST.out)
            clear hsw c8 hold hJl hil
            go_wp2_with fail
            refine HSW.out.mono ?_
            rintro e w9 ⟨rfl, hO9, hT9⟩
            have HQ9 := Lib.hid (show QAt w9 bq base a (swapL dd i (2 * i + 1)) from ⟨cap, by rw [HLS.out]; exact HK8.out.turned hT9 HBO.out, by rw [HLS.out]; exact hO9⟩)
            have HT9 := Lib.hid (HT8.out.trans1 hT9)
            clear hO9 hT9 mS
            go_wp2_with fail
            go_roundw
            case rel => exact ⟨(2 * i + 1), swapL dd i (2 * i + 1), by go_num, by omega, HQ9, HPER, HST2, HKP, HT9⟩
            case measure => simp [intOf]; omega
          · rw [decide_eq_false hold]
            have HF := Lib.hid (HU.out.done ordR HLC.out (by rw [fn_get hJl, fn_get hil]; exact decide_eq_false hold))
            clear hold hJl hil
            go_wp2_with fail
            go_ret
            exact ⟨⟨_, rfl⟩, dd, HQ8.out, HP.out, HF.out, HK.out, HT8.out⟩
      · have hl3 : ¬ (2 * (i : Int) + 1 + 1 < (m : Int)) := by omega
        have hlc : LeastChild ltR (fn dd) m i (2 * i + 1) := least_one (f := fn dd) (n := m) (i := i) ordR (by omega) (.inl (by omega))
        have hJl : (2 * i + 1) < dd.length := by rw [HL.out]; omega
        have hil : i < dd.length := by rw [HL.out]; omega
        have HLC := Lib.hid (hlc)
        have c0 := HK0.out.cell 0
        have mL := m_Less (w := wr) (bq := bq) (v := .slice a n cap) (by simpa using c0)
        have hle := less_q (own_sl HO.out HL.out) HL.out (cap := cap) (2 * i + 1) i (by omega) (by omega)
        rw [HEJ.out] at hle
        have HLE := Lib.hid hle
        clear hle c0
        go_wp2_with fail
        refine HLE.out.mono ?_
        rintro e w8 ⟨rfl, hg8⟩
        have HK8 := Lib.hid (HK0.out.after hg8.below)
        have HO8 := Lib.hid (own_below HO.out hg8.below)
        have HQ8 := Lib.hid (HQ.out.after hg8.below)
        have HT8 := Lib.hid (HT.out.trans1 (Turned.of_below hg8.below))
        clear hg8 mL
        by_cases hold : older (dd[(2 * i + 1)]'hJl) (dd[i]'hil)
        · rw [decide_eq_true hold]
          have HST := Lib.hid (HU.out.step ordR HLC.out (by rw [fn_get hJl, fn_get hil]; exact decide_eq_true hold))
          have c8 := HK8.out.cell 0
          have mS := m_Swap (w := w8) (bq := bq) (v := .slice a n cap) (by simpa using c8)
          have hsw := swap_q HO8.out HL.out i (2 * i + 1) (by omega) (by omega)
          rw [HEJ.out] at hsw
          have HSW := Lib.hid hsw
          have HPER := Lib.hid ((perm_swap dd hil hJl).trans HP.out)
          have HLS := Lib.hid (show (swapL dd i (2 * i + 1)).length = n by rw [swapL_len, HL.out])
          have HBO := Lib.hid (box_out HK8.out HO8.out)
          have HKP := Lib.hid (show ∀ k, m ≤ k → fn (swapL dd i (2 * i + 1)) k = fn d k from fun k hk => by rw [fn_swap hil hJl, swp_o _ (by omega) (by have := HLC.out.2.1; omega)]; exact HK.out k hk)
          have HST2 := Lib.hid (show HpDn ltR (fn (swapL dd i (2 * i + 1))) m (2 * i + 1) by rw [fn_swap hil hJl]; exact HST.out)
          clear hsw c8 hold hJl hil
          go_wp2_with fail
          refine HSW.out.mono ?_
          rintro e w9 ⟨rfl, hO9, hT9⟩
          have HQ9 := Lib.hid (show QAt w9 bq base a (swapL dd i (2 * i + 1)) from ⟨cap, by rw [HLS.out]; exact HK8.out.turned hT9 HBO.out, by rw [HLS.out]; exact hO9⟩)
          have HT9 := Lib.hid (HT8.out.trans1 hT9)
          clear hO9 hT9 mS
          go_wp2_with fail
          go_roundw
          case rel => exact ⟨(2 * i + 1), swapL dd i (2 * i + 1), by go_num, by omega, HQ9, HPER, HST2, HKP, HT9⟩
          case measure => simp [intOf]; omega
        · rw [decide_eq_false hold]
          have HF := Lib.hid (HU.out.done ordR HLC.out (by rw [fn_get hJl, fn_get hil]; exact decide_eq_false hold))
          clear hold hJl hil
          go_wp2_with fail
          go_ret
          exact ⟨⟨_, rfl⟩, dd, HQ8.out, HP.out, HF.out, HK.out, HT8.out⟩
end Go.Proofs.Ytleebmbnjdoinaa
