/- container/heap.Pop over ageQueue. -/
import Derived.Test.YtleebmbnjdoinaaHeap
namespace Go.Proofs.Ytleebmbnjdoinaa
open Go.RowKit

theorem pop_perm {d d2 : List Rw} {k : Nat} (hl : d.length = k + 1) (hp : d2.Perm d) (hk : fn d2 k = fn d 0) : (d2.take k).Perm d.tail := by
  have hl2 : d2.length = k + 1 := by rw [hp.length_eq, hl]
  have e2 : d2 = d2.take k ++ [d2[k]'(by omega)] := by
    have h := List.take_succ_eq_append_getElem (l := d2) (i := k) (by omega)
    rwa [List.take_of_length_le (by omega)] at h
  rw [fn_get (by omega), fn_get (by omega)] at hk
  obtain ⟨x, t, rfl⟩ : ∃ x t, d = x :: t := by cases d with | nil => simp at hl | cons x t => exact ⟨x, t, rfl⟩
  simp only [List.getElem_cons_zero] at hk
  rw [hk] at e2
  have h3 : (x :: d2.take k).Perm (x :: t) := ((List.perm_append_singleton x (d2.take k)).symm.trans (by rw [← e2])).trans hp
  exact h3.cons_inv

set_option maxRecDepth 100000 in
set_option maxHeartbeats 1000000 in
theorem hpop_any {w : World} {bq base : Nat} {a : Option Addr} {d : List Rw} (h : QAt w bq base a d) (k : Nat) (hk : d.length = k + 1) (hk6 : k ≤ 100000) (hH : Hp ltR (fn d) (k + 1)) :
    Calls Try.prog 93 #[.iface 94 (.pointer (some ⟨bq, 0, none⟩))] w fun e w' => (∃ v, e = .returned v) ∧ ∃ d', QAt w' bq base a d' ∧ d'.Perm d.tail ∧ Hp ltR (fn d') d'.length ∧ Turned (bq :: blkOf a) w w' := by
  obtain ⟨cap, hK, hO⟩ := h
  rw [hk] at hK hO
  have hbo := box_out hK hO
  have h0l : 0 < d.length := by omega
  have hkl : k < d.length := by omega
  have c0 := hK.cell 0
  have mL := m_Len (w := w) (bq := bq) (v := .slice a (k + 1) cap) (by simpa using c0)
  have mS := m_Swap (w := w) (bq := bq) (v := .slice a (k + 1) cap) (by simpa using c0)
  have mP := m_Pop
  have hle := len_q a (k + 1) cap
  have hsw := swap_q hO hk 0 k (by omega) (by omega)
  have hw1 : wrap64 (k : Int) = (k : Int) := w64_in (by omega) (by omega)
  have HK := Lib.hid hK; have HLE := Lib.hid hle; have HSW := Lib.hid hsw; have HBO := Lib.hid hbo; have HH := Lib.hid hH; have HL := Lib.hid hk
  clear hK hO hle hsw hbo c0 hH
  go_enter Try.func93, Try.ntmps93
  go_wp2_with fail
  refine (HLE.out _).mono ?_
  rintro e w1 ⟨rfl, rfl⟩
  go_wp2_with fail
  refine HSW.out.mono ?_
  rintro e w2 ⟨rfl, hO2, hT2⟩
  have hl1 : (swapL d 0 k).length = k + 1 := by rw [swapL_len, HL.out]
  have HQ2 := Lib.hid (show QAt w2 bq base a (swapL d 0 k) from ⟨cap, by rw [hl1]; exact HK.out.turned hT2 HBO.out, by rw [hl1]; exact hO2⟩)
  have hdn := down_any HQ2.out (k + 1) k hl1 (by omega) (by omega) (HpDn.start HH.out (fun j h1 h2 => by rw [fn_swap h0l hkl, swp_o _ (by omega) (by omega)]))
  have HDN := Lib.hid hdn; have HT2 := Lib.hid hT2; have HL1 := Lib.hid hl1
  clear hdn hO2 hT2 hl1 mL mS
  go_wp2_with fail
  refine HDN.out.mono ?_
  rintro e w3 ⟨⟨v3, rfl⟩, d2, hQ3, hp3, hH3, hs3, hT3⟩
  have hl2 : d2.length = k + 1 := by rw [hp3.length_eq, HL1.out]
  have hpp := pop_perm HL.out (hp3.trans (perm_swap d h0l hkl)) (by rw [hs3 k (Nat.le_refl _), fn_swap h0l hkl, swp_r])
  have hpo := pop_q hQ3 k hl2 hk6
  have hlt : (d2.take k).length = k := by rw [List.length_take]; omega
  have hfin : Hp ltR (fn (d2.take k)) (d2.take k).length := by
    rw [hlt]
    refine hH3.congr (fun j hj => ?_)
    unfold fn
    rw [List.getD_eq_getElem?_getD, List.getD_eq_getElem?_getD, List.getElem?_take_of_lt hj]
  have HPO := Lib.hid hpo; have HPP := Lib.hid hpp; have HF := Lib.hid hfin; have HT3 := Lib.hid (HT2.out.trans1 hT3)
  clear hpo hpp hfin hT3 hH3 hp3 hs3 hQ3
  go_wp2_with fail
  refine HPO.out.mono ?_
  rintro e w4 ⟨⟨v4, rfl⟩, hQ4, hT4⟩
  have HT4 := Lib.hid (show Turned (bq :: blkOf a) w w4 from ⟨hT4.os.trans HT3.out.os, hT4.tape.trans HT3.out.tape, hT4.output.trans HT3.out.output, Nat.le_trans HT3.out.size hT4.size, fun i hi hn => (hT4.block i (Nat.lt_of_lt_of_le hi HT3.out.size) (by simp at hn; simp [hn])).trans (HT3.out.block i hi (by simp at hn; exact hn.2))⟩)
  have HQ4 := Lib.hid hQ4
  clear hT4 hQ4 mP
  go_wp2_with fail
  go_ret
  exact ⟨⟨_, rfl⟩, d2.take k, HQ4.out, HPP.out, HF.out, HT4.out⟩
end Go.Proofs.Ytleebmbnjdoinaa
