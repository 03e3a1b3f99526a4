/- 'destinations' of the program: the map of function values that it makes, and what a look-up in it finds. -/
import Derived.Test.YtgnckbcpnailbaaIn
import Derived.Maps.OwnSet
namespace Go.Proofs.Ytgnckbcpnailbaa
open Go.RowKit Go.Maps

theorem law_int : Keyed Try.prog 3 := int_keyed Try.underlying3
theorem zero_fn (w : World) : (zeroValue 33).run Try.prog w = .ok .nilFunc w := by kernel_rfl

/-- how a function value reads: by its number -/
def fnElem : Value → Option (DataW Unit × List MemPlace)
  | .func (.func f) a b => if a.size = 0 ∧ b.size = 0 then some (.lit (.int .i64 (f : Nat)), []) else none
  | .nilFunc => some (.nil, [])
  | _ => none
theorem fnElem_mk (f : Nat) : fnElem (.func (.func f) #[] #[]) = some (.lit (.int .i64 (f : Nat)), []) := by simp [fnElem]
theorem fnElem_inv {v : Value} {f : Nat} {ps : List MemPlace} (h : fnElem v = some (.lit (.int .i64 (f : Nat)), ps)) : v = .func (.func f) #[] #[] := by
  unfold fnElem at h
  split at h
  · split at h
    · rename_i hc
      simp only [Array.size_eq_zero_iff] at hc
      obtain ⟨rfl, rfl⟩ := hc
      simp at h
      have e := Int.ofNat_inj.1 h.1
      rw [e]
    · cases h
  · simp at h
  · cases h

/-- what the map reads as -/
def destD : DataW Unit := ((((DataW.map []).put (.int .i64 17) (.lit (.int .i64 (44 : Nat)))).put (.int .i64 18) (.lit (.int .i64 (45 : Nat)))).put (.int .i64 22) (.lit (.int .i64 (45 : Nat)))).put (.int .i64 23) (.lit (.int .i64 (46 : Nat)))

theorem dest_spec (w : World) : Calls Try.prog 30 #[] w fun e w' => e = .returned (.map (some w.heap.size)) ∧ Below w.heap.size w w' ∧ w'.ownsMap Try.prog 3 fnElem w.heap.size 4 destD := by
  have hmm := @run_makeMap Try.prog
  have hk : ∀ n : Int, (Lit.int .i64 n).wf = true → keyOf Try.prog 3 (.int .i64 n) = some (.int .i64 n) := fun n h => keyOf_int_mk Try.underlying3 h
  obtain ⟨w1, r1, o1, g1⟩ := (World.ownsMap_made w Try.prog 3 fnElem).update law_int Try.underlying46 (by decide) (hk 17 (by decide)) (fnElem_mk 44)
  obtain ⟨w2, r2, o2, g2⟩ := o1.update law_int Try.underlying46 (by decide) (hk 18 (by decide)) (fnElem_mk 45)
  obtain ⟨w3, r3, o3, g3⟩ := o2.update law_int Try.underlying46 (by decide) (hk 22 (by decide)) (fnElem_mk 45)
  obtain ⟨w4, r4, o4, g4⟩ := o3.update law_int Try.underlying46 (by decide) (hk 23 (by decide)) (fnElem_mk 46)
  have hb0 : Below w.heap.size w (w.alloc (.map #[] 0)) := (Below.refl _ _).alloc (Nat.le_refl _) _
  have hs : ∀ k, some w.heap.size = some k → w.heap.size ≤ k := fun k e => by cases e; exact Nat.le_refl _
  have hb1 := hb0.grown g1 hb0.size hs
  have hb2 := hb1.grown g2 hb1.size hs
  have hb3 := hb2.grown g3 hb2.size hs
  have hb4 := hb3.grown g4 hb3.size hs
  have HB := Lib.hid hb4; have HO := Lib.hid o4
  clear hk o1 o2 o3 o4 g1 g2 g3 g4 hb0 hb1 hb2 hb3 hb4 hs
  go_enter Try.func30, Try.ntmps30
  go_wp2_with fail
  go_ret
  exact ⟨rfl, HB.out, HO.out⟩

/-- the kinds that the map knows -/
def igKind (k : Int) : Prop := k = 17 ∨ k = 18 ∨ k = 22 ∨ k = 23
instance (k : Int) : Decidable (igKind k) := by unfold igKind; infer_instance
theorem destD_eq : destD = .map [(.int .i64 17, .lit (.int .i64 (44 : Nat))), (.int .i64 18, .lit (.int .i64 (45 : Nat))), (.int .i64 22, .lit (.int .i64 (45 : Nat))), (.int .i64 23, .lit (.int .i64 (46 : Nat)))] := by rfl
theorem destD_has (k : Int) : Maps.has destD (.int .i64 k) = decide (igKind k) := by
  rw [destD_eq, Bool.eq_iff_iff, decide_eq_true_iff]
  simp only [Maps.has, List.any_cons, List.any_nil, Lit.sameKey, Bool.or_eq_true, decide_eq_true_eq, true_and, igKind, Bool.false_eq_true]
  exact ⟨fun h => by rcases h with h | h | h | h | h <;> first | exact h.elim | simp [← h], fun h => by rcases h with h | h | h | h <;> simp [h]⟩
/-- the function that the map holds at a kind -/
def destF (k : Int) : Nat := if k = 17 then 44 else if k = 23 then 46 else 45
theorem destD_at (k : Int) (hk : igKind k) (z : DataW Unit) : destD.atKey (.int .i64 k) z = .lit (.int .i64 (destF k : Nat)) := by
  rw [destD_eq]
  rcases hk with rfl | rfl | rfl | rfl <;> rfl

/-- 'dest[k]' at a kind that it knows -/
theorem dest_look {w : World} {b : Nat} (hown : w.ownsMap Try.prog 3 fnElem b 4 destD) (k : Int) (hk : igKind k) :
    (Instr.lookup 46 (.map (some b)) (.int .i64 k) false).run Try.prog w = .ok (.func (.func (destF k)) #[] #[]) w := by
  have hw : (Lit.int .i64 k).wf = true := by rcases hk with rfl | rfl | rfl | rfl <;> decide
  obtain ⟨v, ps, hrun, hv⟩ := hown.lookup law_int Try.underlying46 (zero_fn w) (zd := .nil) (zp := []) rfl (keyOf_int_mk Try.underlying3 hw)
  rw [destD_at k hk] at hv
  rw [hrun, fnElem_inv hv]

/-- '_, known := dest[k]' -/
theorem dest_known {w : World} {b : Nat} (hown : w.ownsMap Try.prog 3 fnElem b 4 destD) (k : Int) :
    ∃ v, (Instr.lookup 46 (.map (some b)) (.int .i64 k) true).run Try.prog w = .ok (.tuple #[v, .bool (decide (igKind k))]) w := by
  by_cases hw : (Lit.int .i64 k).wf = true
  · obtain ⟨v, ps, hrun, _⟩ := hown.look_ok law_int Try.underlying46 (zero_fn w) (zd := .nil) (zp := []) rfl (keyOf_int_mk Try.underlying3 hw)
    rw [destD_has] at hrun
    exact ⟨v, hrun⟩
  have hn : ¬ igKind k := by rintro (rfl | rfl | rfl | rfl) <;> exact hw (by decide)
  obtain ⟨es, clock, hb, F, _, _⟩ := hown
  have hk : ∀ x ∈ es.toList, ∃ q : Int, x.key = .int .i64 q ∧ (Lit.int .i64 q).wf = true := by
    intro x hx
    obtain ⟨l, hl⟩ := F.keys x hx
    have hu := Try.underlying3
    generalize x.key = v at hl
    cases v <;> simp [keyOf, mapKey, hu] at hl
    obtain ⟨⟨rfl, h2⟩, _⟩ := hl
    exact ⟨_, rfl, h2⟩
  have hz := zero_fn w
  rcases MapKept.findNow_spec (d := .int .i64) (k := .int .i64 k) rfl es.toList 0 (fun x hx => by obtain ⟨q, e, _⟩ := hk x hx; rw [e]; exact rfl) with ⟨h1, _⟩ | ⟨j, e, _, h2, h3⟩
  · have c1 := fun em => MapKept.run_checkKey (P := Try.prog) (w := w) (k := .int .i64 k) Try.underlying3 rfl em 9999
    have c2 := MapKept.run_findKey (P := Try.prog) (w := w) Try.underlying3 h1
    exact ⟨.nilFunc, by rw [decide_eq_false hn]; simp [Instr.lookup, run_underlying Try.underlying46, MapKept.run_getObj_map hb, c1, c2, hz, Result.andThen]⟩
  · obtain ⟨q, e1, e2⟩ := hk e (List.mem_of_getElem? h2)
    rw [h3] at e1
    cases e1
    exact absurd e2 hw
end Go.Proofs.Ytgnckbcpnailbaa
