/- Pop of ageQueue; its methods behind heap.Interface. -/
import Derived.Test.YtleebmbnjdoinaaQue
namespace Go.Proofs.Ytleebmbnjdoinaa
open Go.RowKit

theorem QAt.base_le {w : World} {bq base : Nat} {a : Option Addr} {d : List Rw} (h : QAt w bq base a d) : ∀ b ∈ blkOf a, base ≤ b ∧ b < w.heap.size := by
  obtain ⟨cap, hK, _, h' | ⟨g', c', cur, h', hb, hg, _⟩⟩ := h
  · intro b hb
    have := h'.1
    simp at this
    obtain ⟨rfl, _⟩ := this
    cases hb
  · intro b hm
    simp at h'
    obtain ⟨rfl, _⟩ := h'
    simp [blkOf] at hm
    subst hm
    exact ⟨hb, (Array.getElem?_eq_some_iff.1 hg).1⟩
theorem QAt.lt {w : World} {bq base : Nat} {a : Option Addr} {d : List Rw} (h : QAt w bq base a d) : bq < w.heap.size := by
  obtain ⟨cap, hK, _⟩ := h
  exact hK.lt
theorem QAt.keep {w w' : World} {bq base : Nat} {a : Option Addr} {d : List Rw} (h : QAt w bq base a d) {B : List Nat} (hT : Turned B w w') (h1 : bq ∉ B) (h2 : ∀ b ∈ blkOf a, b ∉ B) : QAt w' bq base a d := by
  have hb := h.base_le
  obtain ⟨cap, hK, hl, h' | ⟨g', c', cur, h', hbb, hg, hr⟩⟩ := h
  · exact ⟨cap, hK.turned hT h1, hl, .inl h'⟩
  · refine ⟨cap, hK.turned hT h1, hl, .inr ⟨g', c', cur, h', hbb, ?_, hr⟩⟩
    simp at h'
    obtain ⟨rfl, _⟩ := h'
    exact (hT.block g' (hb g' (by simp [blkOf])).2 (h2 g' (by simp [blkOf]))).trans hg

set_option linter.unusedSimpArgs false in
set_option maxRecDepth 20000 in
theorem pop_q {w : World} {bq base : Nat} {a : Option Addr} {d : List Rw} (h : QAt w bq base a d) (k : Nat) (hk : d.length = k + 1) (hd : k ≤ 100000) :
    Calls Try.prog 133 #[.pointer (some ⟨bq, 0, none⟩)] w fun e w' => (∃ v, e = .returned v) ∧ QAt w' bq base a (d.take k) ∧ Turned [bq] w w' := by
  obtain ⟨cap, hK, hO⟩ := h
  have hO0 := hO
  have hcap : k + 1 ≤ cap ∧ ∃ g, a = some ⟨g, 0, none⟩ := by
    obtain ⟨_, h' | ⟨g', c', cur, h', hb, hg, hnc, _⟩⟩ := hO0
    · have := h'.1; simp at this; omega
    · simp at h'; obtain ⟨rfl, rfl⟩ := h'; exact ⟨by omega, g', rfl⟩
  obtain ⟨hcap, g, rfl⟩ := hcap
  rw [hk] at hK hO
  have hpre := own_prefix hO (k := k) (by omega)
  obtain ⟨a', cap', e, hs, _, _, _⟩ := SlIn.of_owns (K := kdRw) (by unfold OwnRw at hO; rw [hk] at hO; exact hO) hk
  cases e
  have HPRE := Lib.hid hpre; have HK := Lib.hid hK; have HKK := Lib.hid hk
  obtain ⟨g', o, e, _, hI'⟩ := rowAt hs k (by omega)
  cases e
  obtain ⟨c0, c1, c2, c3, c4⟩ := (hI' w (Below.refl _ _)).1
  generalize d[k]'(by omega) = x at *
  obtain ⟨x0, x1, x2, x3, x4⟩ := x
  simp only [Nat.zero_add] at c0 c1 c2 c3 c4
  have b0 : w.cell? ⟨bq, 0, none⟩ = some (.slice (some ⟨g, 0, none⟩) (k + 1) cap) := hK.cell 0
  have hw1 : IntKind.i64.wrap (k : Int) = (k : Int) := IntWalk.i64_in _ (by omega)
  have hi0 : 0 ≤ (k : Int) + 1 := by omega
  have hi1 : (k : Int) < (k : Int) + 1 := by omega
  have hi2 : (k : Int) ≤ (cap : Int) := by omega
  have hrow : Blk (w.alloc (.cells #[.int .i64 x0, .int .i64 x1, .int .i64 x2, .int .i64 x3, .bool x4] 34)) w.heap.size #[.int .i64 x0, .int .i64 x1, .int .i64 x2, .int .i64 x3, .bool x4] 34 := blk_new _ _ rfl
  have hK1 := hK.alloc (.cells #[.int .i64 x0, .int .i64 x1, .int .i64 x2, .int .i64 x3, .bool x4] 34)
  have hP1 := own_below hpre ((Below.refl _ _).alloc (Nat.le_refl _) (.cells #[.int .i64 x0, .int .i64 x1, .int .i64 x2, .int .i64 x3, .bool x4] 34))
  have hT1 := (Turned.refl [bq] w).alloc (.cells #[.int .i64 x0, .int .i64 x1, .int .i64 x2, .int .i64 x3, .bool x4] 34)
  have hne : w.heap.size ≠ bq := by have := hK.lt; omega
  have HR1 := Lib.hid hrow; have HK1 := Lib.hid hK1; have HP1 := Lib.hid hP1; have HT1 := Lib.hid hT1; have HNE := Lib.hid hne
  clear hpre hO hO0 hs hI' hK hk hrow hK1 hP1 hT1 hne
  go_enter Try.func133, Try.ntmps133
  go_upto_region 3 with fail
  clear b0 c0 c1 c2 c3 c4
  generalize w.alloc (.cells #[.int .i64 x0, .int .i64 x1, .int .i64 x2, .int .i64 x3, .bool x4] 34) = w1 at HR1 HK1 HP1 HT1 ⊢
  have b0 : w1.cell? ⟨bq, 0, none⟩ = some (.slice (some ⟨g, 0, none⟩) (k + 1) cap) := HK1.out.cell 0
  have z0 := HK1.out.frozen
  have y0 := HK1.out.shape
  go_upto_region 4 with fail
  clear b0 z0 y0
  have hK2 := HK1.out.set 0 (.slice (some ⟨g, 0, none⟩) k cap)
  have hP2 := own_setOther HP1.out HK1.out q_ne_r (j := 0) (.slice (some ⟨g, 0, none⟩) k cap)
  have hR2 := HR1.out.other HNE.out (j := 0) (.slice (some ⟨g, 0, none⟩) k cap)
  have hT2 := HT1.out.setCell (p := ⟨bq, 0, none⟩) (by simp) (.slice (some ⟨g, 0, none⟩) k cap)
  have HK2 := Lib.hid hK2; have HP2 := Lib.hid hP2; have HT2 := Lib.hid hT2; have HR2 := Lib.hid hR2
  clear hK2 hP2 hT2 hR2
  generalize w1.setCell ⟨bq, 0, none⟩ (.slice (some ⟨g, 0, none⟩) k cap) = w2 at HK2 HP2 HT2 HR2 ⊢
  have c0 := HR2.out.cell 0
  have c1 := HR2.out.cell 1
  have c2 := HR2.out.cell 2
  have c3 := HR2.out.cell 3
  have c4 := HR2.out.cell 4
  simp at c0 c1 c2 c3 c4
  go_wp2_with fail
  go_ret
  refine ⟨⟨_, rfl⟩, ⟨cap, ?_, ?_⟩, HT2.out⟩
  · have e : (d.take k).length = k := by rw [List.length_take, HKK.out]; omega
    rw [e]; simpa using HK2.out
  · have e : (d.take k).length = k := by rw [List.length_take, HKK.out]; omega
    rw [e]; exact HP2.out

/-! ### behind heap.Interface -/
/-- what a type's list of methods says of a name, with no path -/
def methOf (P : Program) (t : TypeId) (name : String) : Option (FuncId × Bool) := (P.info? t).bind fun i => (i.methods.find? (fun x => x.name == name)).bind fun m => if m.path.isEmpty then m.func else none
theorem methOf_some {P : Program} {t : TypeId} {name : String} {r : FuncId × Bool} (h : methOf P t name = some r) : ∃ i m, P.info? t = some i ∧ i.methods.find? (fun x => x.name == name) = some m ∧ m.path = #[] ∧ m.func = some r := by
  unfold methOf at h
  rw [Option.bind_eq_some_iff] at h
  obtain ⟨i, h1, h⟩ := h
  rw [Option.bind_eq_some_iff] at h
  obtain ⟨m, h2, h⟩ := h
  split at h
  · rename_i hp
    exact ⟨i, m, h1, h2, by simpa using hp, h⟩
  · cases h
theorem wrapNil (a : Addr) (s : String) (w : World) : (Builtin.ssaWrapNilChk_ #[94] 94 #[.pointer (some a), strVal "", strVal s]).run Try.prog w = .ok (.pointer (some a)) w := rfl
set_option linter.unusedSimpArgs false in
theorem m_Len {w : World} {bq : Nat} {v : Value} (h : w.cell? ⟨bq, 0, none⟩ = some v) (n : Nat) : (method (n + 1) 94 (.pointer (some ⟨bq, 0, none⟩)) "Len").run Try.prog w = .ok (74, v) w := by
  obtain ⟨i, m, h1, h2, h3, h4⟩ := methOf_some (show methOf Try.prog 94 "Len" = some (74, false) by kernel_rfl)
  have hu := Try.underlying94
  unfold method
  simp only [Sem.run_bind, typeInfo, h2, h3, h4, receiverAt, Place.get]
  go_simp
  have hwn := fun s => wrapNil ⟨bq, 0, none⟩ s w
  simp only [follow]
  go_simp
set_option linter.unusedSimpArgs false in
theorem m_Less {w : World} {bq : Nat} {v : Value} (h : w.cell? ⟨bq, 0, none⟩ = some v) (n : Nat) : (method (n + 1) 94 (.pointer (some ⟨bq, 0, none⟩)) "Less").run Try.prog w = .ok (132, v) w := by
  obtain ⟨i, m, h1, h2, h3, h4⟩ := methOf_some (show methOf Try.prog 94 "Less" = some (132, false) by kernel_rfl)
  have hu := Try.underlying94
  unfold method
  simp only [Sem.run_bind, typeInfo, h2, h3, h4, receiverAt, Place.get]
  go_simp
  have hwn := fun s => wrapNil ⟨bq, 0, none⟩ s w
  simp only [follow]
  go_simp
set_option linter.unusedSimpArgs false in
theorem m_Swap {w : World} {bq : Nat} {v : Value} (h : w.cell? ⟨bq, 0, none⟩ = some v) (n : Nat) : (method (n + 1) 94 (.pointer (some ⟨bq, 0, none⟩)) "Swap").run Try.prog w = .ok (135, v) w := by
  obtain ⟨i, m, h1, h2, h3, h4⟩ := methOf_some (show methOf Try.prog 94 "Swap" = some (135, false) by kernel_rfl)
  have hu := Try.underlying94
  unfold method
  simp only [Sem.run_bind, typeInfo, h2, h3, h4, receiverAt, Place.get]
  go_simp
  have hwn := fun s => wrapNil ⟨bq, 0, none⟩ s w
  simp only [follow]
  go_simp
theorem m_Push (n bq : Nat) (w : World) : (method (n + 1) 94 (.pointer (some ⟨bq, 0, none⟩)) "Push").run Try.prog w = .ok (134, .pointer (some ⟨bq, 0, none⟩)) w := by kernel_rfl
theorem m_Pop (n bq : Nat) (w : World) : (method (n + 1) 94 (.pointer (some ⟨bq, 0, none⟩)) "Pop").run Try.prog w = .ok (133, .pointer (some ⟨bq, 0, none⟩)) w := by kernel_rfl
end Go.Proofs.Ytleebmbnjdoinaa
