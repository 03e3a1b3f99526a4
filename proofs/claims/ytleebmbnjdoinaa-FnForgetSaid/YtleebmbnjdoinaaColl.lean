/- slices.AppendSeq and slices.Collect over the values of a map of rows. -/
import Derived.Test.YtleebmbnjdoinaaVals
import Derived.Test.YtleebmbnjdoinaaTbLn
namespace Go.Proofs.Ytleebmbnjdoinaa
open Go.RowKit Go.Maps Go.Sort Go.Shelf

/-- the loop's record -/
def apRec (A B : Code) (fn : FuncId) (sv : Value) (Bs D : Nat) (st : LoopState) (pend : Option Code) : Loop :=
  { state := st, pending := pend, fn, tmps := #[.slice none 0 0, sv, .pointer (some ⟨Bs, 0, none⟩), undef, .slice none 0 0, undef, sv, undef, undef, undef, undef, undef, undef], params := #[7], assign := A, body := B, defers := D }

/-- between two rounds -/
structure ApAt (A B : Code) (w0 : World) (fn : FuncId) (sv : Value) (Bs l D : Nat) (ss : List Rw) (W : World) : Prop where
  box : ∃ v, W.heap[Bs]? = some (.cells #[v] 24 (0, 0)) ∧ W.ownsRow w0.heap.size 34 5 v ss.length (ss.flatMap Rw.cs)
  L : W.heap[l]? = some (.loop (apRec A B fn sv Bs D .ready none))
  K : W.heap[D]? = some (.deferred (some []))
  below : Below w0.heap.size w0 W

theorem ap_abides (A B0 : Code) (w0 : World) (fn : FuncId) (sv : Value) (Bs l D B : Nat) (hB : w0.heap.size ≤ B) : AbidesFrom B (ApAt A B0 w0 fn sv Bs l D) := fun s W W' row h hg hrow => by
  have hrow' : ∀ r, row = some r → ∃ o : Obj, W.heap[r]? = some o ∧ o.isWalk = true := fun r e => (hrow r e).2
  obtain ⟨v, hv, hr⟩ := h.box
  exact ⟨⟨v, (grownBy_keeps hg hrow' hv rfl).trans hv, ownsRow_abides_a hr hg hrow'⟩, (grownBy_keeps hg hrow' h.L rfl).trans h.L, (grownBy_keeps hg hrow' h.K rfl).trans h.K,
    h.below.grown hg h.below.size (fun k e => Nat.le_trans hB (hrow k e).1)⟩

set_option maxRecDepth 100000 in
set_option maxHeartbeats 2000000 in
theorem apYield (A B : Code) (F : Fence) (m : Nat) (w0 : World) (fn : FuncId) (hfn : F.fn fn) (sv : Value) (Bs l D : Nat) (hBl : Bs ≠ l) (hDl : D ≠ l) (hDB : D ≠ Bs) (h0B : w0.heap.size ≤ Bs) (h0l : w0.heap.size ≤ l)
    (N : Nat) (hN : N ≤ 1000000) (ss : List Rw) (x : Rw) (W : World) (h : ApAt A B w0 fn sv Bs l D ss W) (hlen : ss.length < N) 
    (hA : ∀ (x : Rw) (W : World) (K : Act → World → Prop), K { tmps := #[.slice none 0 0, sv, .pointer (some ⟨Bs, 0, none⟩), undef, .slice none 0 0, .pointer (some ⟨W.heap.size, 0, none⟩), sv, x.val, undef, undef, undef, undef, undef], defers := [] } (W.alloc (.cells x.cs.toArray 34)) → A.wpIn (F.inRound l) m Try.prog (Exit.then K (fun _ _ _ => False)) { tmps := #[.slice none 0 0, sv, .pointer (some ⟨Bs, 0, none⟩), undef, .slice none 0 0, undef, sv, x.val, undef, undef, undef, undef, undef], defers := [] } W)
    (hB : ∀ (x : Rw) (W : World) (bl n : Nat) (v : Value) (xs : List Value) (Q : Exit → Act → World → Prop), Blk W bl x.cs.toArray 34 → W.heap[Bs]? = some (.cells #[v] 24 (0, 0)) → W.ownsRow w0.heap.size 34 5 v n xs → n ≤ 1000000 → w0.heap.size ≤ W.heap.size →
      (∀ a' c' w3 act, w3.ownsRow w0.heap.size 34 5 (.slice a' (n + 1) c') (n + 1) (xs ++ x.cs) → (W.alloc (.cells x.cs.toArray 34)).grownBy w3 v.ownBlock → w3.heap[Bs]? = some (.cells #[v] 24 (0, 0)) → Q .normal act (w3.setCell ⟨Bs, 0, none⟩ (.slice a' (n + 1) c'))) →
      B.wpIn (F.inRound l) m Try.prog Q { tmps := #[.slice none 0 0, sv, .pointer (some ⟨Bs, 0, none⟩), undef, .slice none 0 0, .pointer (some ⟨bl, 0, none⟩), sv, x.val, undef, undef, undef, undef, undef], defers := [] } W) :
    YieldAt F m Try.prog l #[x.val] W fun e W' => e = .returned (.bool true) ∧ ApAt A B w0 fn sv Bs l D (ss ++ [x]) W' ∧ KeepsWalks W W' := by
  obtain ⟨v, hv, hrow⟩ := h.box
  refine ⟨fn, #[.slice none 0 0, sv, .pointer (some ⟨Bs, 0, none⟩), undef, .slice none 0 0, undef, sv, x.val, undef, undef, undef, undef, undef], A, B, by simpa [apRec] using run_yield (P := Try.prog) (args := #[x.val]) h.L rfl, roundIn_of_wpIn hfn ?_⟩
  obtain ⟨x0, x1, x2, x3, x4⟩ := x
  unfold Rw.val
  simp only
  have hl0 : l < W.heap.size := (Array.getElem?_eq_some_iff.1 h.L).1
  have hB0 : Bs < W.heap.size := (Array.getElem?_eq_some_iff.1 hv).1
  have hD0 : D < W.heap.size := (Array.getElem?_eq_some_iff.1 h.K).1
  obtain ⟨Wa, hWa⟩ : ∃ Wa, W.alloc (.cells #[.int .i64 x0, .int .i64 x1, .int .i64 x2, .int .i64 x3, .bool x4] 34) = Wa := ⟨_, rfl⟩
  have hsa : Wa.heap.size = W.heap.size + 1 := by rw [← hWa]; simp
  have hold : ∀ k, k < W.heap.size → Wa.heap[k]? = W.heap[k]? := fun k hk => by rw [← hWa]; exact Below.heap_alloc _ _ k hk
  have kR : Blk Wa W.heap.size #[.int .i64 x0, .int .i64 x1, .int .i64 x2, .int .i64 x3, .bool x4] 34 := by rw [← hWa]; exact blk_new _ _ rfl
  have hva : Wa.heap[Bs]? = some (.cells #[v] 24 (0, 0)) := (hold Bs hB0).trans hv
  have hLa : Wa.heap[l]? = some (.loop (apRec A B fn sv Bs D .ready none)) := (hold l hl0).trans h.L
  have hKa : Wa.heap[D]? = some (.deferred (some [])) := (hold D hD0).trans h.K
  have hrowa : Wa.ownsRow w0.heap.size 34 5 v ss.length (ss.flatMap Rw.cs) := by rw [← hWa]; exact hrow.alloc _
  have hba : Below w0.heap.size w0 Wa := by rw [← hWa]; exact h.below.alloc h.below.size _
  have hka : KeepsWalks W Wa := by rw [← hWa]; exact KeepsWalks.alloc _ _
  have hbr := run_beginRound (P := Try.prog) hLa rfl
  obtain ⟨W2, hW2⟩ : ∃ W2, Wa.putObj l (.loop { apRec A B fn sv Bs D .ready none with state := .busy }) = W2 := ⟨_, rfl⟩
  rw [hW2] at hbr
  have hg2 : Wa.grownBy W2 (some l) := by rw [← hW2]; exact grownBy_putObj_a _ _ _
  have hk2 : KeepsWalks W W2 := hka.trans (by rw [← hW2]; exact KeepsWalks.putObj _ hLa rfl)
  have hv2 : W2.heap[Bs]? = some (.cells #[v] 24 (0, 0)) := by rw [← hW2]; exact (World.putObj_heap_other hBl).trans hva
  have hK2 : W2.heap[D]? = some (.deferred (some [])) := by rw [← hW2]; exact (World.putObj_heap_other hDl).trans hKa
  have hL2 : W2.heap[l]? = some (.loop { apRec A B fn sv Bs D .ready none with state := .busy }) := by rw [← hW2]; exact World.putObj_heap_same (by omega)
  have hrow2 : W2.ownsRow w0.heap.size 34 5 v ss.length (ss.flatMap Rw.cs) := hrowa.kept hg2 (ownsRow_ne_a hrowa hLa (fun cur e => by cases e))
  have hb2 : Below w0.heap.size w0 W2 := hba.grown hg2 hba.size (fun k e => by cases e; exact h0l)
  have kR2 : Blk W2 W.heap.size #[.int .i64 x0, .int .i64 x1, .int .i64 x2, .int .i64 x3, .bool x4] 34 := (hg2.block _ (by omega) (fun e => by cases e; omega)).trans kR
  have hs2 : W2.heap.size = W.heap.size + 1 := by rw [← hW2]; simp [hsa]
  have hbr' : (Instr.beginRound l).run Try.prog (W.alloc (.cells #[.int .i64 x0, .int .i64 x1, .int .i64 x2, .int .i64 x3, .bool x4] 34)) = .ok () W2 := by rw [hWa]; exact hbr
  clear hW2 hWa hold kR hva hLa hKa hrowa hba hka hbr hg2 hsa hv hrow h
  have HV2 := Lib.hid hv2; have HK2 := Lib.hid hK2; have HL2 := Lib.hid hL2; have HR2 := Lib.hid hrow2; have HB2 := Lib.hid hb2; have HW2 := Lib.hid hk2; have HKR := Lib.hid kR2; have HS2 := Lib.hid hs2
  clear hv2 hK2 hL2 hrow2 hb2 hk2 kR2 hs2
  refine hA ⟨x0, x1, x2, x3, x4⟩ W _ ?_
  refine ⟨W2, hbr', ?_⟩
  clear hbr'
  refine hB ⟨x0, x1, x2, x3, x4⟩ W2 W.heap.size ss.length v _ _ HKR.out HV2.out HR2.out (by omega) HB2.out.size ?_
  intro a' cap' w3 act hown' hg3 hv3
  have hBlt : Bs < W2.heap.size := (Array.getElem?_eq_some_iff.1 HV2.out).1
  have hl2 : l < W2.heap.size := (Array.getElem?_eq_some_iff.1 HL2.out).1
  have hDlt : D < W2.heap.size := (Array.getElem?_eq_some_iff.1 HK2.out).1
  have ne_of : ∀ {j : Nat} {o : Obj}, W2.heap[j]? = some o → (∀ cur, o ≠ .cells cur 34 (0, 0)) → some j ≠ v.ownBlock := fun hj hno => by
    rcases ownsRow_ne_a HR2.out hj hno with e | e
    · rw [e]; simp
    · exact fun e' => e e'.symm
  have hown2 : w3.ownsRow w0.heap.size 34 5 (.slice a' (ss.length + 1) cap') (ss.length + 1) ((ss ++ [(⟨x0, x1, x2, x3, x4⟩ : Rw)]).flatMap Rw.cs) := by
    rw [List.flatMap_append]
    simpa [Rw.cs] using hown'
  have HOWN := Lib.hid hown2
  have hg3' : (W2.alloc (.cells #[.int .i64 x0, .int .i64 x1, .int .i64 x2, .int .i64 x3, .bool x4] 34)).grownBy w3 v.ownBlock := hg3
  have hL3 : w3.heap[l]? = some (.loop { apRec A B fn sv Bs D .ready none with state := .busy }) := (hg3'.block l (by simp; omega) (ne_of HL2.out (fun cur e => by cases e))).trans ((Below.heap_alloc _ _ l hl2).trans HL2.out)
  have hK3 : w3.heap[D]? = some (.deferred (some [])) := (hg3'.block D (by simp; omega) (ne_of HK2.out (fun cur e => by cases e))).trans ((Below.heap_alloc _ _ D hDlt).trans HK2.out)
  have hb3 : Below w0.heap.size w0 w3 := (HB2.out.alloc HB2.out.size _).grown hg3' (by have := HB2.out.size; simp; omega) (fun k e => (HR2.out.lt k e).1)
  have hk3 : KeepsWalks W w3 := (HW2.out.trans (KeepsWalks.alloc _ _)).trans (KeepsWalks.of_grownBy hg3' (ownsRow_not_walk_a (HR2.out.alloc _)))
  have HV3 := Lib.hid hv3; have HL3 := Lib.hid hL3; have HK3 := Lib.hid hK3; have HB3 := Lib.hid hb3; have HW3 := Lib.hid hk3
  clear hg3 hg3' hown' hown2 hv3 hL3 hK3 hb3 hk3 ne_of hBlt hl2 hDlt
  obtain ⟨w4, hw4⟩ : ∃ w4, w3.setCell ⟨Bs, 0, none⟩ (.slice a' (ss.length + 1) cap') = w4 := ⟨_, rfl⟩
  rw [hw4]
  have hg4 : w3.grownBy w4 (some Bs) := by rw [← hw4]; exact grownBy_setCell0_a _ _ _
  have hv4 : w4.heap[Bs]? = some (.cells #[.slice a' (ss.length + 1) cap'] 24 (0, 0)) := by rw [← hw4]; exact heap_setCell_box_a _ HV3.out
  have hL4 : w4.heap[l]? = some (.loop { apRec A B fn sv Bs D .ready none with state := .busy }) := (hg4.block l (Array.getElem?_eq_some_iff.1 HL3.out).1 (fun e => hBl (by cases e; rfl))).trans HL3.out
  have hK4 : w4.heap[D]? = some (.deferred (some [])) := (hg4.block D (Array.getElem?_eq_some_iff.1 HK3.out).1 (fun e => hDB (by cases e; rfl))).trans HK3.out
  have hrow4 := HOWN.out.kept hg4 (ownsRow_ne_a HOWN.out HV3.out (fun cur e => by cases e))
  have hl4 : l < w4.heap.size := (Array.getElem?_eq_some_iff.1 hL4).1
  have hb4 : Below w0.heap.size w0 w4 := HB3.out.grown hg4 HB3.out.size (fun k e => by cases e; exact h0B)
  have hk4 : KeepsWalks W w4 := HW3.out.trans (by rw [← hw4]; exact KeepsWalks.setCell _ _ _)
  clear hw4
  refine ⟨_, _, run_endRound none hL4, rfl, ⟨⟨_, (World.putObj_heap_other hBl).trans hv4, ?_⟩, World.putObj_heap_same hl4, (World.putObj_heap_other hDl).trans hK4, hb4.grown (grownBy_putObj_a _ _ _) hb4.size (fun k e => by cases e; exact h0l)⟩, hk4.trans (KeepsWalks.putObj _ hL4 rfl)⟩
  have := hrow4.kept (grownBy_putObj_a w4 l (.loop { { apRec A B fn sv Bs D .ready none with state := .busy } with state := if (none : Option Code).isNone then .ready else .done, pending := none })) (ownsRow_ne_a hrow4 hL4 (fun cur e => by cases e))
  simpa using this

set_option maxRecDepth 100000 in
set_option maxHeartbeats 2000000 in
theorem rangeRows {A B : Code} {Q : Exit → Act → World → Prop} (F : Fence) (n : Nat) (h91 : F.fn 91) (hro : F.round = none) (hn : 2 ≤ n) (Bm b nn : Nat) (L : List Rw) (hN : L.length ≤ 1000000) (w W0 : World) (g : Nat) (lb : Array Value) (hg : g = 91) (hlb : lb = #[.pointer (some ⟨Bm, 0, none⟩)])
    (hs0 : W0.heap.size = w.heap.size + 1) (hv0 : W0.heap[w.heap.size]? = some (.cells #[.slice none 0 0] 24 (0, 0))) (hb0 : Below w.heap.size w W0) (hm : w.cell? ⟨Bm, 0, none⟩ = some (.map (some b))) (hBm : Bm < w.heap.size) (hRM : RM w b nn L)
    (hA : ∀ (l : Nat) (x : Rw) (W : World) (K : Act → World → Prop), K { tmps := #[.slice none 0 0, .func (.func g) #[] lb, .pointer (some ⟨w.heap.size, 0, none⟩), undef, .slice none 0 0, .pointer (some ⟨W.heap.size, 0, none⟩), .func (.func g) #[] lb, x.val, undef, undef, undef, undef, undef], defers := [] } (W.alloc (.cells x.cs.toArray 34)) → A.wpIn (F.inRound l) (n - 1 - 1) Try.prog (Exit.then K (fun _ _ _ => False)) { tmps := #[.slice none 0 0, .func (.func g) #[] lb, .pointer (some ⟨w.heap.size, 0, none⟩), undef, .slice none 0 0, undef, .func (.func g) #[] lb, x.val, undef, undef, undef, undef, undef], defers := [] } W)
    (hB : ∀ (l : Nat) (x : Rw) (W : World) (bl m : Nat) (v : Value) (xs : List Value) (Q : Exit → Act → World → Prop), Blk W bl x.cs.toArray 34 → W.heap[w.heap.size]? = some (.cells #[v] 24 (0, 0)) → W.ownsRow w.heap.size 34 5 v m xs → m ≤ 1000000 → w.heap.size ≤ W.heap.size →
      (∀ a' c' w3 act, w3.ownsRow w.heap.size 34 5 (.slice a' (m + 1) c') (m + 1) (xs ++ x.cs) → (W.alloc (.cells x.cs.toArray 34)).grownBy w3 v.ownBlock → w3.heap[w.heap.size]? = some (.cells #[v] 24 (0, 0)) → Q .normal act (w3.setCell ⟨w.heap.size, 0, none⟩ (.slice a' (m + 1) c'))) →
      B.wpIn (F.inRound l) (n - 1 - 1) Try.prog Q { tmps := #[.slice none 0 0, .func (.func g) #[] lb, .pointer (some ⟨w.heap.size, 0, none⟩), undef, .slice none 0 0, .pointer (some ⟨bl, 0, none⟩), .func (.func g) #[] lb, x.val, undef, undef, undef, undef, undef], defers := [] } W)
    (hdone : ∀ (W3 : World) (v : Value) (ss : List Rw), ss.Perm L → W3.heap[w.heap.size]? = some (.cells #[v] 24 (0, 0)) → W3.ownsRow w.heap.size 34 5 v ss.length (ss.flatMap Rw.cs) → W3.heap[W0.heap.size]? = some (.deferred (some [])) → Below w.heap.size w W3 →
      Q .normal { tmps := #[.slice none 0 0, .func (.func g) #[] lb, .pointer (some ⟨w.heap.size, 0, none⟩), undef, .slice none 0 0, undef, .func (.func g) #[] lb, undef, undef, undef, undef, undef, undef], defers := [{ target := .collected W0.heap.size, args := #[] }] } W3) :
    (Code.rangeFunc (.tmp 6) #[7] A B).wpIn F n Try.prog Q { tmps := #[.slice none 0 0, .func (.func g) #[] lb, .pointer (some ⟨w.heap.size, 0, none⟩), undef, .slice none 0 0, undef, .func (.func g) #[] lb, undef, undef, undef, undef, undef, undef], defers := [] } W0 := by
  have h1 : 1 ≤ n := by omega
  have eg : ∀ args w, (callFunc g args).run Try.prog w = .ok (.enter g args) w := by rw [hg]; exact enters_of Try.func91 (by kernel_rfl) rfl
  have hFg : F.fn g := by rw [hg]; exact h91
  refine wpIn_rangeFunc ?_
  intro fn hfn
  rw [hro]
  obtain ⟨W1, hW1⟩ : ∃ W1, (W0.alloc (.deferred (some []))).alloc (.loop (apRec A B fn (.func (.func g) #[] lb) w.heap.size W0.heap.size .ready none)) = W1 := ⟨_, rfl⟩
  have hold : ∀ k, k < W0.heap.size → W1.heap[k]? = W0.heap[k]? := fun k hk => by
    rw [← hW1]; exact (Below.heap_alloc _ _ k (by simp; omega)).trans (Below.heap_alloc _ _ k hk)
  have hb1 : Below w.heap.size w W1 := by rw [← hW1]; exact (hb0.alloc hb0.size _).alloc (by have := hb0.size; simp; omega) _
  have hs1 : W1.heap.size = W0.heap.size + 2 := by rw [← hW1]; simp
  have hM : ApAt A B w fn (.func (.func g) #[] lb) w.heap.size (W0.heap.size + 1) W0.heap.size [] W1 :=
    ⟨⟨_, (hold w.heap.size (by omega)).trans hv0, ⟨rfl, .inl ⟨rfl, rfl⟩⟩⟩,
     by rw [← hW1]; have := World.alloc_heap_new (W0.alloc (.deferred (some []))) (.loop (apRec A B fn (.func (.func g) #[] lb) w.heap.size W0.heap.size .ready none)); rwa [World.size_alloc] at this,
     by rw [← hW1]; exact (Below.heap_alloc _ _ _ (by simp)).trans (World.alloc_heap_new W0 _), hb1⟩
  refine ⟨W0.heap.size + 1, [{ target := .collected W0.heap.size, args := #[] }], W1, { target := .fn (.func g) lb, args := #[.func (.yield (W0.heap.size + 1)) #[] #[]] }, W1, g,
    #[.func (.yield (W0.heap.size + 1)) #[] #[]] ++ lb, W1, ?_, ?_, ?_, ?_, fun _ => h1, ?_⟩
  · rw [← hW1]; exact run_enterLoop_outer _ _ _ _ _
  · simp [resolve, go_sem]
  · intro f' hf'; simp [Target.leads] at hf'; subst hf'; exact hFg
  · simp [invoke, go_sem, eg]
  · have hv := values1_in F (n - 1) h91 hro (by omega) (W0.heap.size + 1) Bm b nn L (ApAt A B w fn (.func (.func g) #[] lb) w.heap.size (W0.heap.size + 1) W0.heap.size)
      (fun pre x W hJ hl => apYield A B F (n - 1 - 1) w fn hfn _ w.heap.size (W0.heap.size + 1) W0.heap.size (by omega) (by omega) (by omega) (Nat.le_refl _) (by omega) L.length hN pre x W hJ hl (hA _) (hB _))
      W1 (ap_abides A B _ _ _ _ _ _ _ hb1.size) ((hb1.cell (p := ⟨Bm, 0, none⟩) hBm).trans hm) (hRM.after hb1) hM
    rw [← hg] at hv
    have ha : #[Value.func (Fn.yield (W0.heap.size + 1)) #[] #[], Value.pointer (some ⟨Bm, 0, none⟩)] = #[Value.func (Fn.yield (W0.heap.size + 1)) #[] #[]] ++ lb := by rw [hlb]; rfl
    rw [ha] at hv
    refine hv.mono ?_
    clear hv
    rintro e W2 ⟨⟨v0, rfl⟩, ss, hS, h2⟩
    obtain ⟨v, hv, hrow⟩ := h2.box
    have hend := run_endLoop (P := Try.prog) h2.L (by simp [apRec])
    obtain ⟨W3, hW3⟩ : ∃ W3, W2.putObj (W0.heap.size + 1) (.loop { apRec A B fn (.func (.func g) #[] lb) w.heap.size W0.heap.size .ready none with state := .exhausted }) = W3 := ⟨_, rfl⟩
    rw [hW3] at hend
    have hg3 : W2.grownBy W3 (some (W0.heap.size + 1)) := by rw [← hW3]; exact grownBy_putObj_a _ _ _
    have hv3 : W3.heap[w.heap.size]? = some (.cells #[v] 24 (0, 0)) := by rw [← hW3]; exact (World.putObj_heap_other (by omega)).trans hv
    have hK3 : W3.heap[W0.heap.size]? = some (.deferred (some [])) := by rw [← hW3]; exact (World.putObj_heap_other (by omega)).trans h2.K
    have hrow3 := hrow.kept hg3 (ownsRow_ne_a hrow h2.L (fun cur e => by cases e))
    have hb3 : Below w.heap.size w W3 := h2.below.grown hg3 h2.below.size (fun k e => by cases e; omega)
    clear hW3
    refine ⟨none, W3, hend, ?_⟩
    exact hdone W3 v ss hS hv3 hrow3 hK3 hb3
set_option maxRecDepth 100000 in
set_option maxHeartbeats 2000000 in
theorem appendSeq_in (F : Fence) (n : Nat) (h95 : F.fn 95) (h91 : F.fn 91) (hro : F.round = none) (hn : 2 ≤ n) (Bm b nn : Nat) (L : List Rw) (hN : L.length ≤ 1000000) (w : World) (hm : w.cell? ⟨Bm, 0, none⟩ = some (.map (some b))) (hBm : Bm < w.heap.size) (hRM : RM w b nn L) :
    CallsIn F n Try.prog 95 #[.slice none 0 0, .func (.func 91) #[] #[.pointer (some ⟨Bm, 0, none⟩)]] w fun e w' => ∃ (v : Value) (ss : List Rw), e = .returned v ∧ ss.Perm L ∧ OwnRw w' w.heap.size v ss ∧ Below w.heap.size w w' := by
  have h1 : 1 ≤ n := by omega
  obtain ⟨g, hg⟩ : ∃ g, g = 91 := ⟨_, rfl⟩
  obtain ⟨lb, hlb⟩ : ∃ lb : Array Value, lb = #[.pointer (some ⟨Bm, 0, none⟩)] := ⟨_, rfl⟩
  have eg : ∀ args w, (callFunc g args).run Try.prog w = .ok (.enter g args) w := by rw [hg]; exact enters_of Try.func91 (by kernel_rfl) rfl
  have hFg : F.fn g := by rw [hg]; exact h91
  rw [← hg, ← hlb]
  refine callsIn_of_wp_marks Try.func95 rfl h95 ?_ hro
  simp only [Try.ntmps95, List.size_toArray, List.length_cons, List.length_nil, Nat.reduceAdd, Nat.reduceSub, Array.replicate_succ, Array.replicate_zero, List.push_toArray, List.append_toArray, List.nil_append, List.cons_append]
  gi_wp2
  have hs0 : (w.alloc (.cells #[.slice none 0 0] 24)).heap.size = w.heap.size + 1 := by simp
  have hv0 : (w.alloc (.cells #[.slice none 0 0] 24)).heap[w.heap.size]? = some (.cells #[.slice none 0 0] 24 (0, 0)) := World.alloc_heap_new w _
  have hb0 : Below w.heap.size w (w.alloc (.cells #[.slice none 0 0] 24)) := (Below.refl _ w).alloc (Nat.le_refl _) _
  obtain ⟨i0, hi, hz0, hz1, hz2⟩ := info_parts infoRow
  have HG0 := Lib.hid hg; have HLB := Lib.hid hlb
  clear hg hlb eg hFg
  refine rangeRows F n h91 hro hn Bm b nn L hN w _ g lb HG0.out HLB.out hs0 hv0 hb0 hm hBm hRM ?hA ?hB ?hdone
  case hA =>
    rintro l ⟨x0, x1, x2, x3, x4⟩ W K hK
    unfold Rw.val Rw.cs at *
    simp only at *
    gi_wp2_with ((rw [Oper.semAt_eq _ _ _ (fun c h => by cases h)]; go_simp; try go_bits))
    exact hK
  case hB =>
    rintro l ⟨x0, x1, x2, x3, x4⟩ W bl m v xs Q hbl hbs hown hm6 hsz hK
    unfold Rw.val Rw.cs at *
    simp only at *
    have c0 : W.cell? ⟨bl, 0, none⟩ = some (.int .i64 x0) := hbl.cell 0
    have c1 : W.cell? ⟨bl, 1, none⟩ = some (.int .i64 x1) := hbl.cell 1
    have c2 : W.cell? ⟨bl, 2, none⟩ = some (.int .i64 x2) := hbl.cell 2
    have c3 : W.cell? ⟨bl, 3, none⟩ = some (.int .i64 x3) := hbl.cell 3
    have c4 : W.cell? ⟨bl, 4, none⟩ = some (.bool x4) := hbl.cell 4
    have c5 : W.cell? ⟨w.heap.size, 0, none⟩ = some v := (cell_of_box_a hbs).1
    have HBS := Lib.hid hbs; have HOWN := Lib.hid hown; have HK := Lib.hid hK; have HBL := Lib.hid hbl
    clear hbs hown hK hbl
    gi_wp2_with (first
      | (gi_at_builtin; apply stop_here)
      | (rw [Oper.semAt_eq _ _ _ (fun c h => by cases h)]; go_simp; try go_bits))
    refine stop_go ?_
    clear c0 c1 c2 c3 c4 c5
    have hBlt : w.heap.size < W.heap.size := (Array.getElem?_eq_some_iff.1 HBS.out).1
    have hne : some w.heap.size ≠ v.ownBlock := by
      rcases ownsRow_ne_a HOWN.out HBS.out (fun cur e => by cases e) with e | e
      · rw [e]; simp
      · exact fun e' => e e'.symm
    refine wpListIn_append_own _ rfl _ _ 24 rfl w.heap.size 34 i0 (.agg #[.int .i64 0, .int .i64 0, .int .i64 0, .int .i64 0, .bool false]) 5 40 Try.underlying24 hi hz0 hz1 hz2 rfl (by decide) _ _ _ rfl (HOWN.out.alloc _) ⟨W.heap.size, 0, none⟩ 1 1 [.int .i64 x0, .int .i64 x1, .int .i64 x2, .int .i64 x3, .bool x4] rfl rfl (cells_new _ _ _) (by simp [Value.oneCell']) (by unfold maxLen; omega) (by omega) (by simp; omega) ?_
    intro v' w3 hown' hg3 _
    have hv3 : w3.heap[w.heap.size]? = some (.cells #[v] 24 (0, 0)) := (hg3.block _ (by simp; omega) hne).trans ((Below.heap_alloc _ _ _ hBlt).trans HBS.out)
    obtain ⟨hc3, hf3⟩ := cell_of_box_a hv3
    obtain ⟨a', cap', rfl⟩ := own_form hown'
    have HO := Lib.hid hown'; have HG := Lib.hid hg3; have HV := Lib.hid hv3
    clear hown' hg3 hv3 hne hBlt
    go_frame
    gi_wp2_with ((rw [Oper.semAt_eq _ _ _ (fun c h => by cases h)]; go_simp; try go_bits))
    exact HK.out a' cap' w3 _ HO.out HG.out HV.out
  case hdone =>
    intro W3 v ss hS hv3 hrow3 hK3 hb3
    obtain ⟨hc3, hf3⟩ := cell_of_box_a hv3
    have HR := Lib.hid hrow3; have HK3 := Lib.hid hK3; have HB3 := Lib.hid hb3
    clear hrow3 hK3 hb3 hv3
    gi_wp2
    refine ⟨by simp, .inl ⟨_, _, rfl, run_takeDeferred HK3.out, ?_⟩⟩
    exact ⟨_, results_tmp rfl _ _ _, v, ss, rfl, hS, HR.out.kept (grownBy_putObj_a _ _ _) (ownsRow_ne_a HR.out HK3.out (fun cur e => by cases e)), HB3.out.grown (grownBy_putObj_a _ _ _) HB3.out.size (fun k e => by cases e; simp)⟩

theorem collect_in (F : Fence) (n : Nat) (h89 : F.fn 89) (h95 : F.fn 95) (h91 : F.fn 91) (hro : F.round = none) (hn : 3 ≤ n) (Bm b nn : Nat) (L : List Rw) (hN : L.length ≤ 1000000) (w : World) (hm : w.cell? ⟨Bm, 0, none⟩ = some (.map (some b))) (hBm : Bm < w.heap.size) (hRM : RM w b nn L) :
    CallsIn F n Try.prog 89 #[.func (.func 91) #[] #[.pointer (some ⟨Bm, 0, none⟩)]] w fun e w' => ∃ (v : Value) (ss : List Rw), e = .returned v ∧ ss.Perm L ∧ OwnRw w' w.heap.size v ss ∧ Below w.heap.size w w' := by
  have h1 : 1 ≤ n := by omega
  refine callsIn_of_wp Try.func89 rfl h89 ?_ hro
  simp only [Try.ntmps89, List.size_toArray, List.length_cons, List.length_nil, Nat.reduceAdd, Nat.reduceSub, Array.replicate_succ, Array.replicate_zero, List.push_toArray, List.append_toArray, List.nil_append, List.cons_append]
  gi_wp2_with (gi_at_call 95; refine (appendSeq_in F (n - 1) h95 h91 hro (by omega) Bm b nn L hN _ hm hBm hRM).mono ?_; rintro e w' ⟨v, ss, rfl, hS, hrow, hb⟩)
  go_ret
  exact ⟨v, ss, rfl, hS, hrow, hb⟩
theorem collect_impl (Bm b nn : Nat) (L : List Rw) (hN : L.length ≤ 1000000) (w : World) (hm : w.cell? ⟨Bm, 0, none⟩ = some (.map (some b))) (hBm : Bm < w.heap.size) (hRM : RM w b nn L) :
    Calls Try.prog 89 #[.func (.func 91) #[] #[.pointer (some ⟨Bm, 0, none⟩)]] w fun e w' => ∃ (v : Value) (ss : List Rw), e = .returned v ∧ ss.Perm L ∧ OwnRw w' w.heap.size v ss ∧ Below w.heap.size w w' := by
  refine (callsIn_wide (n := 8)).1 ?_
  exact collect_in Fence.wide 8 trivial trivial trivial rfl (by decide) Bm b nn L hN w hm hBm hRM
theorem values_impl (mb : Option Nat) (w : World) : Calls Try.prog 71 #[.map mb] w fun e w' => e = .returned (.func (.func 91) #[] #[.pointer (some ⟨w.heap.size, 0, none⟩)]) ∧ w' = w.alloc (.cells #[.map mb] 62) :=
  (callsIn_wide (n := 8)).1 (values_in Fence.wide 8 trivial rfl mb w)
end Go.Proofs.Ytleebmbnjdoinaa
