/- Rows in a map by Vid and Mac: how the map reads; what a store, a look-up, a delete, a range make of it. -/
import Derived.Test.YtleebmbnjdoinaaOrd
import Derived.Test.YtleebmbnjdoinaaTbL
import Derived.Maps.RangeWalk
import Derived.DeepKeys4
namespace Go.Proofs.Ytleebmbnjdoinaa
open Go.RowKit Go.Maps Go.ChangeMaps

/-! ### keys -/
theorem laidP : laidOutB Try.prog = true := by kernel_rfl
theorem lawK : Keyed Try.prog 66 := Keyed.of_law (deep_law_laid laidP (m := 2) (by omega) (of_decide_eq_true (by kernel_rfl)) (by kernel_rfl) (by rw [Try.underlying66]))
def keyL (x y : Int) : Lit := .string (keyBytes [.int .i64 x, .int .i64 y])
theorem keyTy : Try.prog.keyType 66 = true := by kernel_rfl
theorem cellsK : Try.prog.cellsOf 66 = 2 := by kernel_rfl
theorem cellsI : Try.prog.cellsOf 3 = 1 := by kernel_rfl
theorem rowK : 66 < Try.prog.types.size := of_decide_eq_true (by kernel_rfl)
theorem succ_of_lt {m n : Nat} (h : m < n) : ∃ k, n = k + 1 := ⟨n - 1, by omega⟩
theorem depthK : ∃ n, Try.prog.types.size = n + 1 := succ_of_lt rowK
theorem lits_int (n : Nat) {x : Int} (hx : (Lit.int .i64 x).wf = true) : Try.prog.keyLits (n + 1) 3 [.int .i64 x] = some [.int .i64 x] := by
  unfold Program.keyLits
  rw [Try.underlying3]
  simp [hx]
theorem lits_inv {P : Program} {t : TypeId} (ht : P.underlying t = some (.int .i64)) (n : Nat) {v : Value} {l : List Lit} (h : P.keyLits (n + 1) t [v] = some l) : ∃ x, v = .int .i64 x ∧ (Lit.int .i64 x).wf = true ∧ l = [.int .i64 x] := by
  unfold Program.keyLits at h
  rw [ht] at h
  cases v <;> simp at h
  obtain ⟨⟨rfl, h1⟩, rfl⟩ := h
  exact ⟨_, rfl, h1, rfl⟩
theorem key_two {P : Program} {T : TypeId} {fs : Array Field} (hT : P.underlying T = some (.struct fs)) (hc : P.cellsOf T = 2) {v : Value} {l : Lit} (h : keyOf P T v = some l) : ∃ a b, v = .agg #[a, b] := by
  unfold keyOf at h
  rw [hT] at h
  simp only at h
  split at h
  · rename_i hc'
    simp only [Bool.and_eq_true] at hc'
    have hf := hc'.2
    unfold Value.formed at hf
    rw [hT, hc] at hf
    cases v with
    | agg cs =>
      simp only [beq_iff_eq] at hf
      obtain ⟨xs⟩ := cs
      simp only [List.size_toArray] at hf
      match xs, hf with
      | [a, b], _ => exact ⟨a, b, rfl⟩
    | _ => simp at hf
  · cases h
theorem lits_key (n : Nat) (a b : Value) : Try.prog.keyLits (n + 1 + 1) 66 [a, b] = (Try.prog.keyLits (n + 1) 3 [a]).bind fun la => (Try.prog.keyLits (n + 1) 3 [b]).map fun lb => la ++ lb := by
  conv => lhs; unfold Program.keyLits
  rw [Try.underlying66]
  simp only [cellsK]
  rw [if_pos ⟨rfl, by simp⟩]
  simp only [List.mapM_cons, List.mapM_nil, cellsI, List.drop_zero, List.take_succ_cons, List.take_zero, List.drop_succ_cons]
  cases Try.prog.keyLits (n + 1) 3 [a] <;> cases Try.prog.keyLits (n + 1) 3 [b] <;> simp
theorem keyOf_eq (a b : Value) : ∃ n, keyOf Try.prog 66 (.agg #[a, b]) = ((Try.prog.keyLits (n + 1) 3 [a]).bind fun la => (Try.prog.keyLits (n + 1) 3 [b]).map fun lb => la ++ lb).map fun ls => .string (keyBytes ls) := by
  obtain ⟨n, hn⟩ := depthK
  refine ⟨n, ?_⟩
  unfold keyOf
  rw [Try.underlying66, hn]
  have hf : (Value.agg #[a, b]).formed Try.prog 66 = true := by
    unfold Value.formed
    simp only
    rw [Try.underlying66, cellsK]
    rfl
  simp only [keyTy, hf, Bool.and_self, if_true]
  show (Try.prog.keyLits (n + 1 + 1) 66 [a, b]).map _ = _
  rw [lits_key]
theorem keyOf_mk {x y : Int} (hx : (Lit.int .i64 x).wf = true) (hy : (Lit.int .i64 y).wf = true) : keyOf Try.prog 66 (keyV x y) = some (keyL x y) := by
  obtain ⟨n, hn⟩ := keyOf_eq (.int .i64 x) (.int .i64 y)
  unfold keyV
  rw [hn, lits_int n hx, lits_int n hy]
  rfl
theorem keyOf_inv {v : Value} {l : Lit} (h : keyOf Try.prog 66 v = some l) : ∃ x y, v = keyV x y ∧ (Lit.int .i64 x).wf = true ∧ (Lit.int .i64 y).wf = true ∧ l = keyL x y := by
  have hv := key_two Try.underlying66 cellsK h
  obtain ⟨a, b, rfl⟩ := hv
  obtain ⟨n, hn⟩ := keyOf_eq a b
  rw [hn] at h
  cases ha : Try.prog.keyLits (n + 1) 3 [a] with
  | none => rw [ha] at h; cases h
  | some la =>
    cases hb : Try.prog.keyLits (n + 1) 3 [b] with
    | none => rw [ha, hb] at h; cases h
    | some lb =>
      rw [ha, hb] at h
      obtain ⟨x, rfl, hx, rfl⟩ := lits_inv Try.underlying3 n ha
      obtain ⟨y, rfl, hy, rfl⟩ := lits_inv Try.underlying3 n hb
      cases h
      exact ⟨x, y, rfl, hx, hy, rfl⟩
theorem keyL_inj {x y x' y' : Int} (hx : (Lit.int .i64 x).wf = true) (hy : (Lit.int .i64 y).wf = true) (hx' : (Lit.int .i64 x').wf = true) (hy' : (Lit.int .i64 y').wf = true) (h : keyL x y = keyL x' y') : x = x' ∧ y = y' := by
  have e := lawK.inj (keyOf_mk hx hy) (h ▸ keyOf_mk hx' hy')
  unfold keyV at e
  simp at e
  exact e

/-! ### how rows read -/
def rowD (r : Rw) : DataW Unit := .agg [.lit (.int .i64 r.vid), .lit (.int .i64 r.mac), .lit (.int .i64 r.port), .lit (.int .i64 r.at_), .lit (.bool r.fixed)]
theorem rowD_inj {a b : Rw} (h : rowD a = rowD b) : a = b := by
  obtain ⟨a0, a1, a2, a3, a4⟩ := a
  obtain ⟨b0, b1, b2, b3, b4⟩ := b
  simp [rowD] at h
  simp [h]
theorem val_inj {a b : Rw} (h : a.val = b.val) : a = b := by
  obtain ⟨a0, a1, a2, a3, a4⟩ := a
  obtain ⟨b0, b1, b2, b3, b4⟩ := b
  simp [Rw.val] at h
  simp [h]
open Classical in
noncomputable def rowElem (v : Value) : Option (DataW Unit × List MemPlace) := if h : ∃ r : Rw, v = r.val then some (rowD h.choose, []) else none
theorem rowElem_mk (r : Rw) : rowElem r.val = some (rowD r, []) := by
  unfold rowElem
  have h : ∃ r' : Rw, r.val = r'.val := ⟨r, rfl⟩
  rw [dif_pos h, ← val_inj h.choose_spec]
theorem rowElem_inv {v : Value} {z : DataW Unit × List MemPlace} (h : rowElem v = some z) : ∃ r : Rw, v = r.val ∧ z = (rowD r, []) := by
  unfold rowElem at h
  split at h
  · rename_i hc
    cases h
    exact ⟨_, hc.choose_spec, rfl⟩
  · cases h

def Rw.kl (r : Rw) : Lit := keyL r.vid r.mac
theorem Rw.keyOf {r : Rw} (h : r.fits) : keyOf Try.prog 66 (keyV r.vid r.mac) = some r.kl := keyOf_mk h.1 h.2.1
theorem Rw.kl_inj {a b : Rw} (ha : a.fits) (hb : b.fits) (h : a.kl = b.kl) : a.vid = b.vid ∧ a.mac = b.mac := keyL_inj ha.1 ha.2.1 hb.1 hb.2.1 h
theorem kl_isKey {x y : Int} : WideAt.IsKeyLit (keyL x y) := trivial

def ent (r : Rw) : Lit × DataW Unit := (r.kl, rowD r)
noncomputable def dOf (L : List Rw) : DataW Unit := .map ((L.map ent).foldr DataW.insert [])
/-- no two of one key; all fit -/
def Rows (L : List Rw) : Prop := L.Pairwise (fun a b => ¬ (a.vid = b.vid ∧ a.mac = b.mac)) ∧ ∀ r ∈ L, r.fits
theorem Rows.filter {L : List Rw} (h : Rows L) (p : Rw → Bool) : Rows (L.filter p) := ⟨h.1.filter p, fun r hr => h.2 r (List.mem_filter.1 hr).1⟩
theorem Rows.perm {L M : List Rw} (h : Rows L) (hp : L.Perm M) : Rows M := ⟨(hp.pairwise_iff (fun {_ _} hne e => hne ⟨e.1.symm, e.2.symm⟩)).1 h.1, fun r hr => h.2 r (hp.mem_iff.2 hr)⟩
theorem Rows.one {L : List Rw} (h : Rows L) {a b : Rw} (ha : a ∈ L) (hb : b ∈ L) (e : a.vid = b.vid ∧ a.mac = b.mac) : a = b := by
  obtain ⟨i, hi, rfl⟩ := List.getElem_of_mem ha
  obtain ⟨j, hj, rfl⟩ := List.getElem_of_mem hb
  rcases Nat.lt_trichotomy i j with hij | rfl | hij
  · exact absurd e (List.pairwise_iff_getElem.1 h.1 i j hi hj hij)
  · rfl
  · exact absurd ⟨e.1.symm, e.2.symm⟩ (List.pairwise_iff_getElem.1 h.1 j i hj hi hij)
theorem Rows.nodup {L : List Rw} (h : Rows L) : L.Nodup := h.1.imp (fun {_ _} hne e => hne (by rw [e]; exact ⟨rfl, rfl⟩))
theorem Rows.keys {L : List Rw} (h : Rows L) : Keys (KeysOf Try.prog 66) (L.map ent) := by
  intro p hp
  obtain ⟨r, hr, rfl⟩ := List.mem_map.1 hp
  exact ⟨_, Rw.keyOf (h.2 r hr)⟩
theorem Rows.apart {L : List Rw} (h : Rows L) : (L.map ent).Pairwise (fun p q => p.1 ≠ q.1) := by
  rw [List.pairwise_map]
  refine h.1.imp_of_mem ?_
  intro a b ha hb hne e
  exact hne (Rw.kl_inj (h.2 a ha) (h.2 b hb) e)
theorem Rows.rising {L : List Rw} (h : Rows L) : DataW.rising ((L.map ent).foldr DataW.insert []) = true := rising_of_pairwise _ (sorted_sorted lawK.one _ h.keys h.apart)
theorem dOf_perm {L M : List Rw} (h : Rows L) (hp : L.Perm M) : dOf L = dOf M := by
  unfold dOf
  refine congrArg _ (eq_of_perm_sorted ?_ (sorted_sorted lawK.one _ h.keys h.apart) (sorted_sorted lawK.one _ (h.perm hp).keys (h.perm hp).apart))
  exact (WideShapes.sorted_perm _).trans ((hp.map ent).trans (WideShapes.sorted_perm _).symm)
theorem notKey_ent {r : Rw} (hr : r.fits) {x y : Int} (hx : (Lit.int .i64 x).wf = true) (hy : (Lit.int .i64 y).wf = true) : notKey (keyL x y) (ent r) = !hit x y r := by
  rw [Bool.eq_iff_iff, notKey_iff kl_isKey]
  unfold hit
  rw [Bool.not_eq_true', decide_eq_false_iff_not]
  refine not_congr ⟨fun e => keyL_inj hr.1 hr.2.1 hx hy e, fun e => ?_⟩
  show keyL r.vid r.mac = _
  rw [e.1, e.2]
theorem filter_ent {L : List Rw} (h : Rows L) {x y : Int} (hx : (Lit.int .i64 x).wf = true) (hy : (Lit.int .i64 y).wf = true) : (L.map ent).filter (notKey (keyL x y)) = (L.filter (fun r => !hit x y r)).map ent := by
  rw [List.filter_map]
  refine congrArg _ (List.filter_congr (fun r hr => ?_))
  exact notKey_ent (h.2 r hr) hx hy
theorem dOf_put {L : List Rw} (h : Rows L) {r : Rw} (hr : r.fits) : (dOf L).put r.kl (rowD r) = dOf (r :: L.filter (fun x => !hit r.vid r.mac x)) := by
  unfold dOf
  rw [DataW.put_eq]
  refine congrArg _ (Eq.symm ?_)
  refine sorted_put lawK.one ⟨_, Rw.keyOf hr⟩ h.keys h.apart ?_
  show ((r :: L.filter (fun x => !hit r.vid r.mac x)).map ent).Perm (ent r :: _)
  rw [List.map_cons]
  unfold Rw.kl
  rw [filter_ent h hr.1 hr.2.1]
theorem dOf_del {L : List Rw} (h : Rows L) {x y : Int} (hx : (Lit.int .i64 x).wf = true) (hy : (Lit.int .i64 y).wf = true) : (dOf L).del (keyL x y) = dOf (L.filter (fun r => !hit x y r)) := by
  unfold dOf
  rw [DataW.del_eq]
  refine congrArg _ (Eq.symm ?_)
  refine sorted_del lawK.one h.keys h.apart ?_
  rw [filter_ent h hx hy]
theorem Rows.put {L : List Rw} (h : Rows L) {r : Rw} (hr : r.fits) : Rows (r :: L.filter (fun x => !hit r.vid r.mac x)) := by
  refine ⟨List.pairwise_cons.2 ⟨fun x hx e => ?_, h.1.filter _⟩, fun x hx => ?_⟩
  · have := (List.mem_filter.1 hx).2
    unfold hit at this
    rw [Bool.not_eq_true', decide_eq_false_iff_not] at this
    exact this ⟨e.1.symm, e.2.symm⟩
  · rcases List.mem_cons.1 hx with rfl | hx
    · exact hr
    · exact h.2 x (List.mem_filter.1 hx).1
theorem dOf_size (L : List Rw) : Maps.size (dOf L) = L.length := by simp [dOf, Maps.size, length_sorted]
theorem dOf_has {L : List Rw} (h : Rows L) {x y : Int} (hx : (Lit.int .i64 x).wf = true) (hy : (Lit.int .i64 y).wf = true) : Maps.has (dOf L) (keyL x y) = (tabFind L x y).isSome := by
  unfold dOf tabFind
  rw [has_eq, Bool.eq_iff_iff, List.any_eq_true, List.find?_isSome]
  constructor
  · rintro ⟨p, hp, hs⟩
    obtain ⟨r, hr, rfl⟩ := List.mem_map.1 ((WideShapes.sorted_perm _).mem_iff.1 hp)
    refine ⟨r, hr, ?_⟩
    have e := notKey_ent (h.2 r hr) hx hy
    unfold notKey at e
    rw [hs] at e
    simpa using e.symm
  · rintro ⟨r, hr, e⟩
    refine ⟨ent r, (WideShapes.sorted_perm _).mem_iff.2 (List.mem_map.2 ⟨r, hr, rfl⟩), ?_⟩
    have e' := notKey_ent (h.2 r hr) hx hy
    unfold notKey at e'
    rw [e] at e'
    simpa using e'
theorem dOf_at {L : List Rw} (h : Rows L) {r : Rw} (hr : r ∈ L) (z : DataW Unit) : (dOf L).atKey r.kl z = rowD r :=
  (WideShapes.atKey_sorted (L.map ent) h.rising r.kl kl_isKey).2 (ent r) (List.mem_map.2 ⟨r, hr, rfl⟩) rfl z
theorem dOf_at_none {L : List Rw} (h : Rows L) {x y : Int} (hx : (Lit.int .i64 x).wf = true) (hy : (Lit.int .i64 y).wf = true) (hn : tabFind L x y = none) (z : DataW Unit) : (dOf L).atKey (keyL x y) z = z := by
  refine (WideShapes.atKey_sorted (L.map ent) h.rising _ kl_isKey).1 (fun p hp e => ?_) z
  obtain ⟨r, hr, rfl⟩ := List.mem_map.1 hp
  have := keyL_inj (h.2 r hr).1 (h.2 r hr).2.1 hx hy e
  exact absurd (decide_eq_true this) (List.find?_eq_none.1 hn r hr)

/-! ### a map of rows -/
/-- block b is a map of the rows L, at most n of them -/
def RM (w : World) (b n : Nat) (L : List Rw) : Prop := w.ownsMap Try.prog 66 rowElem b n (dOf L) ∧ Rows L
theorem RM.lt {w : World} {b n : Nat} {L : List Rw} (h : RM w b n L) : b < w.heap.size := h.1.lt
theorem RM.perm {w : World} {b n : Nat} {L M : List Rw} (h : RM w b n L) (hp : L.Perm M) : RM w b n M := ⟨dOf_perm h.2 hp ▸ h.1, h.2.perm hp⟩
theorem RM.mono {w : World} {b n m : Nat} {L : List Rw} (h : RM w b n L) (hm : n ≤ m) : RM w b m L := ⟨h.1.mono hm, h.2⟩
theorem RM.keep {w w' : World} {b n : Nat} {L : List Rw} (h : RM w b n L) (hk : w'.heap[b]? = w.heap[b]?) : RM w' b n L := by
  obtain ⟨⟨es, clock, hb, r⟩, h2⟩ := h
  exact ⟨⟨es, clock, hk.trans hb, r⟩, h2⟩
theorem RM.after {w w' : World} {b n : Nat} {L : List Rw} (h : RM w b n L) (hb : Below w.heap.size w w') : RM w' b n L := h.keep (hb.block b h.lt)
theorem RM.turned {w w' : World} {b n : Nat} {L : List Rw} {B : List Nat} (h : RM w b n L) (hT : Turned B w w') (hb : b ∉ B) : RM w' b n L := h.keep (hT.block b h.lt hb)
theorem RM.len_le {w : World} {b n : Nat} {L : List Rw} (h : RM w b n L) : L.length ≤ n := by have := h.1.size_le; rwa [dOf_size] at this
theorem RM.made (w : World) : RM (w.alloc (.map #[] 0)) w.heap.size 0 [] := ⟨World.ownsMap_made w Try.prog 66 rowElem, ⟨List.Pairwise.nil, fun r hr => by cases hr⟩⟩
theorem turned_of_map {w w' : World} {b : Nat} (h : w.mapTurned w' b) : Turned [b] w w' :=
  ⟨h.grown.os, h.grown.tape, h.grown.output, h.grown.size, fun k hk hn => h.grown.block k hk (fun e => hn (by cases e; simp))⟩
theorem zeroRow (w : World) : (zeroValue 34).run Try.prog w = .ok (Rw.val ⟨0, 0, 0, 0, false⟩) w := by kernel_rfl
theorem RM.store {w : World} {b n : Nat} {L : List Rw} (h : RM w b n L) {r : Rw} (hr : r.fits) (hn : n ≤ 1000000) :
    ∃ w', (Instr.mapUpdate 62 (.map (some b)) (keyV r.vid r.mac) r.val).run Try.prog w = .ok () w' ∧ RM w' b (n + 1) (r :: L.filter (fun x => !hit r.vid r.mac x)) ∧ Turned [b] w w' := by
  obtain ⟨w', h1, h2, h3⟩ := h.1.store lawK Try.underlying62 (by unfold maxLen; omega) (Rw.keyOf hr) (rowElem_mk r)
  rw [dOf_put h.2 hr] at h2
  exact ⟨w', h1, ⟨h2, h.2.put hr⟩, turned_of_map h3⟩
theorem RM.drop {w : World} {b n : Nat} {L : List Rw} (h : RM w b n L) {x y : Int} (hx : (Lit.int .i64 x).wf = true) (hy : (Lit.int .i64 y).wf = true) (ty : TypeId) :
    ∃ w', (Builtin.delete_ #[62, 66] ty #[.map (some b), keyV x y]).run Try.prog w = .ok (.tuple #[]) w' ∧ RM w' b n (L.filter (fun r => !hit x y r)) ∧ Turned [b] w w' := by
  obtain ⟨w', h1, h2, h3⟩ := h.1.drop lawK Try.underlying62 (keyOf_mk hx hy) ty
  rw [dOf_del h.2 hx hy] at h2
  exact ⟨w', h1, ⟨h2, h.2.filter _⟩, turned_of_map h3⟩
theorem RM.look {w : World} {b n : Nat} {L : List Rw} (h : RM w b n L) {x y : Int} (hx : (Lit.int .i64 x).wf = true) (hy : (Lit.int .i64 y).wf = true) :
    (Instr.lookup 62 (.map (some b)) (keyV x y) true).run Try.prog w = .ok (.tuple #[((tabFind L x y).getD ⟨0, 0, 0, 0, false⟩).val, .bool (tabFind L x y).isSome]) w := by
  obtain ⟨v, ps, hrun, hv⟩ := h.1.look_ok lawK Try.underlying62 (zeroRow w) (rowElem_mk ⟨0, 0, 0, 0, false⟩) (keyOf_mk hx hy)
  rw [hrun, dOf_has h.2 hx hy]
  obtain ⟨r, rfl, e⟩ := rowElem_inv hv
  cases hf : tabFind L x y with
  | none =>
    rw [dOf_at_none h.2 hx hy hf] at e
    rw [← rowD_inj (Prod.mk.inj e).1]
    rfl
  | some r' =>
    have hm := List.mem_of_find?_eq_some hf
    have hh := List.find?_some hf
    unfold hit at hh
    obtain ⟨e1, e2⟩ := of_decide_eq_true hh
    have ea := dOf_at h.2 hm (rowD ⟨0, 0, 0, 0, false⟩)
    unfold Rw.kl at ea
    rw [e1, e2] at ea
    rw [ea] at e
    rw [← rowD_inj (Prod.mk.inj e).1]
    rfl
theorem RM.len {w : World} {b n : Nat} {L : List Rw} (h : RM w b n L) (ty : TypeId) : (Builtin.len_ #[62] ty #[.map (some b)]).run Try.prog w = .ok (.int .i64 L.length) w := by
  have := h.1.len Try.underlying62 ty
  rwa [dOf_size] at this
end Go.Proofs.Ytleebmbnjdoinaa
