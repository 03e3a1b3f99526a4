/- l05Put and l05Copy of the model. -/
import Derived.Test.YtleebmbnjdoinaaTbL
import Derived.Maps.AppendAt
import Derived.Deep.DeepCutAuto
import Derived.Deep.AppendLies
namespace Go.Proofs.Ytleebmbnjdoinaa
open Go.RowKit

/-- a slice of rows that the call owns -/
def OwnRw (w : World) (base : Nat) (v : Value) (xs : List Rw) : Prop := w.ownsRow base 34 5 v xs.length (xs.flatMap Rw.cs)
def putOne (r : Rw) (s : Bool × List Rw) (x : Rw) : Bool × List Rw := if (!s.1 && !decide (ahead x r)) = true then (true, s.2 ++ [r]) else s
def putTwo (r : Rw) (s : Bool × List Rw) (x : Rw) : Bool × List Rw := if (!decide (x.vid = r.vid ∧ x.mac = r.mac)) = true then (s.1, s.2 ++ [x]) else s
def putStep (r : Rw) (s : Bool × List Rw) (x : Rw) : Bool × List Rw := putTwo r (putOne r s x) x
def putAt (r : Rw) (rs : List Rw) (k : Nat) : Bool × List Rw := (rs.take k).foldl (putStep r) (false, [])
/-- the rows with a row in its place -/
def putRows (r : Rw) (rs : List Rw) : List Rw := if (putAt r rs rs.length).1 then (putAt r rs rs.length).2 else (putAt r rs rs.length).2 ++ [r]
theorem putAt_succ (r : Rw) (rs : List Rw) (k : Nat) (h : k < rs.length) : putAt r rs (k + 1) = putStep r (putAt r rs k) (rs[k]'h) := by
  unfold putAt
  rw [List.take_succ_eq_append_getElem h, List.foldl_append]
  rfl
theorem putAt_len (r : Rw) (rs : List Rw) : ∀ k, (putAt r rs k).2.length ≤ 2 * k
  | 0 => by simp [putAt]
  | k + 1 => by
    have ih := putAt_len r rs k
    by_cases h : k < rs.length
    · rw [putAt_succ r rs k h]
      unfold putStep putTwo putOne
      split <;> split <;> simp <;> omega
    · have e : putAt r rs (k + 1) = putAt r rs k := by unfold putAt; rw [List.take_of_length_le (by omega), List.take_of_length_le (by omega)]
      rw [e]; omega

theorem putAt_mem (r : Rw) (rs : List Rw) : ∀ k x, x ∈ (putAt r rs k).2 → x = r ∨ x ∈ rs
  | 0, x, h => by simp [putAt] at h
  | k + 1, x, h => by
    by_cases hk : k < rs.length
    · rw [putAt_succ r rs k hk] at h
      have ih := putAt_mem r rs k x
      have h1 : x ∈ (putOne r (putAt r rs k) (rs[k]'hk)).2 → x = r ∨ x ∈ rs := by
        unfold putOne
        split
        · intro h; rcases List.mem_append.1 h with h | h
          · exact ih h
          · exact .inl (List.mem_singleton.1 h)
        · exact ih
      unfold putStep putTwo at h
      split at h
      · rcases List.mem_append.1 h with h | h
        · exact h1 h
        · exact .inr (by rw [List.mem_singleton.1 h]; exact List.getElem_mem hk)
      · exact h1 h
    · have e : putAt r rs (k + 1) = putAt r rs k := by unfold putAt; rw [List.take_of_length_le (by omega), List.take_of_length_le (by omega)]
      rw [e] at h
      exact putAt_mem r rs k x h
theorem putRows_mem {r : Rw} {rs : List Rw} {x : Rw} (h : x ∈ putRows r rs) : x = r ∨ x ∈ rs := by
  unfold putRows at h
  split at h
  · exact putAt_mem r rs _ x h
  · rcases List.mem_append.1 h with h | h
    · exact putAt_mem r rs _ x h
    · exact .inl (List.mem_singleton.1 h)
theorem putRows_fits {r : Rw} {rs : List Rw} (hr : r.fits) (h : ∀ x ∈ rs, x.fits) {x : Rw} (hx : x ∈ putRows r rs) : x.fits := by
  rcases putRows_mem hx with rfl | hx
  · exact hr
  · exact h x hx

theorem own_below {w w' : World} {base : Nat} {v : Value} {xs : List Rw} (h : OwnRw w base v xs) (hb : Below w.heap.size w w') : OwnRw w' base v xs :=
  World.ownsRow.kept (row := none) h ⟨hb.os, hb.tape, hb.output, hb.size, fun k hk _ => hb.block k hk⟩ (by cases v.ownBlock <;> simp)

/-- where a walk is to stop -/
def Stop (p : Prop) : Prop := p
theorem stop_here {p : Prop} (h : Stop p) : p := h
theorem stop_go {p : Prop} (h : p) : Stop p := h
theorem own_form {w : World} {base n : Nat} {v : Value} {e : TypeId} {sz : Nat} {xs : List Value} (h : w.ownsRow base e sz v n xs) : ∃ a cap, v = .slice a n cap := by
  rcases h.2 with ⟨rfl, rfl⟩ | ⟨g, cap, cur, rfl, _⟩
  · exact ⟨none, 0, rfl⟩
  · exact ⟨_, _, rfl⟩
theorem cells_new (w : World) (cs : List Value) (t : TypeId) : ∀ j u, cs[j]? = some u → (w.alloc (.cells cs.toArray t)).cell? ((⟨w.heap.size, 0, none⟩ : Addr).add j) = some u := by
  intro j u hj
  rw [Addr.add_lit, Nat.zero_add, World.cell?_alloc_at (hn := rfl)]
  simpa using hj
theorem turned_grown {B : List Nat} {w w1 w2 : World} {row : Option Nat} (h : Turned B w w1) (hg : w1.grownBy w2 row) (hr : ∀ b, row = some b → w.heap.size ≤ b) : Turned B w w2 :=
  ⟨hg.os.trans h.os, hg.tape.trans h.tape, hg.output.trans h.output, Nat.le_trans h.size hg.size, fun k hk hn => (hg.block k (Nat.lt_of_lt_of_le hk h.size) (fun e => by have := hr k e.symm; omega)).trans (h.block k hk hn)⟩
theorem turned_in {B : List Nat} {w w1 w2 : World} {row : Option Nat} (h : Turned B w w1) (hg : w1.grownBy w2 row) (hr : ∀ b, row = some b → b ∈ B) : Turned B w w2 :=
  ⟨hg.os.trans h.os, hg.tape.trans h.tape, hg.output.trans h.output, Nat.le_trans h.size hg.size, fun k hk hn => (hg.block k (Nat.lt_of_lt_of_le hk h.size) (fun e => hn (hr k e.symm))).trans (h.block k hk hn)⟩
theorem own_setCell {w : World} {base b j n : Nat} {v : Value} {e : TypeId} {sz : Nat} {xs : List Value} (h : w.ownsRow base e sz v n xs) (hb : b < base) (u : Value) : (w.setCell ⟨b, j, none⟩ u).ownsRow base e sz v n xs :=
  World.ownsRow.kept (row := some b) h ⟨rfl, rfl, rfl, by simp [World.setCell], fun k _ hk => Below.heap_setCell w ⟨b, j, none⟩ u k (fun e => hk (by rw [e]))⟩ (by
    cases hv : v.ownBlock with
    | none => exact .inl rfl
    | some g => exact .inr (fun e => by cases e; have := (World.ownsRow.lt h _ hv).1; omega))

set_option linter.unusedSimpArgs false in
set_option maxRecDepth 20000 in
set_option maxHeartbeats 4000000 in
theorem put5_spec {w : World} {B : List Nat} {v : Value} {t : Tb} (h : TabIn w B v t) (r : Rw) (hr : r.fits) (hlen : t.rows.length ≤ 1000000) :
    Calls Try.prog 48 #[v, r.val] w (GotTab w ⟨putRows r t.rows, t.most⟩) := by
  obtain ⟨a, cap, rfl, hs, _, hl, hfit⟩ := h
  obtain ⟨rs, most⟩ := t
  obtain ⟨rr, hrr⟩ : ∃ q, r = q := ⟨r, rfl⟩
  have hah : ∀ x w, Calls Try.prog 50 #[x.val, r.val] w fun e w' => e = .returned (.bool (decide (ahead x rr))) ∧ Below w.heap.size w w' := by subst hrr; exact fun x => ahead5_spec x _
  obtain ⟨res, hres⟩ : ∃ q, putRows r rs = q := ⟨_, rfl⟩
  have hres' : putRows rr rs = res := by rw [← hrr]; exact hres
  rw [hres]
  clear hres
  have hrv : r = rr := hrr
  rw [hrr] at hr
  clear hrr
  obtain ⟨r0, r1, r2, r3, r4⟩ := r
  simp only at hs hl hlen
  unfold tabVal
  unfold Rw.val at hah ⊢
  simp only at hah ⊢
  obtain ⟨i0, hi, hz0, hz1, hz2⟩ := info_parts infoRow
  obtain ⟨n, hn⟩ : ∃ n, rs.length = n := ⟨_, rfl⟩
  rw [hn] at hl hlen ⊢
  have hb3 : Below w.heap.size w ((((w.alloc (.cells #[.slice a n cap, .int .i64 most] 26)).alloc (.cells #[.int .i64 r0, .int .i64 r1, .int .i64 r2, .int .i64 r3, .bool r4] 34)).alloc (.cells #[.slice none 0 0, .int .i64 0] 26)).alloc (.cells #[.slice none 0 0, .int .i64 most] 26)) := ((((Below.refl _ _).alloc (Nat.le_refl _) _).alloc (by simp) _).alloc (by simp; omega) _).alloc (by simp; omega) _
  have f0 : Blk ((((w.alloc (.cells #[.slice a n cap, .int .i64 most] 26)).alloc (.cells #[.int .i64 r0, .int .i64 r1, .int .i64 r2, .int .i64 r3, .bool r4] 34)).alloc (.cells #[.slice none 0 0, .int .i64 0] 26)).alloc (.cells #[.slice none 0 0, .int .i64 most] 26)) w.heap.size #[.slice a n cap, .int .i64 most] 26 := (((blk_new _ _ rfl).alloc _).alloc _).alloc _
  have f1 : Blk ((((w.alloc (.cells #[.slice a n cap, .int .i64 most] 26)).alloc (.cells #[.int .i64 r0, .int .i64 r1, .int .i64 r2, .int .i64 r3, .bool r4] 34)).alloc (.cells #[.slice none 0 0, .int .i64 0] 26)).alloc (.cells #[.slice none 0 0, .int .i64 most] 26)) (w.heap.size + 1) #[.int .i64 r0, .int .i64 r1, .int .i64 r2, .int .i64 r3, .bool r4] 34 := ((blk_new _ _ (by simp)).alloc _).alloc _
  have f2 : Blk ((((w.alloc (.cells #[.slice a n cap, .int .i64 most] 26)).alloc (.cells #[.int .i64 r0, .int .i64 r1, .int .i64 r2, .int .i64 r3, .bool r4] 34)).alloc (.cells #[.slice none 0 0, .int .i64 0] 26)).alloc (.cells #[.slice none 0 0, .int .i64 most] 26)) (w.heap.size + 1 + 1) #[.slice none 0 0, .int .i64 0] 26 := (blk_new _ _ (by simp)).alloc _
  have f3 : Blk ((((w.alloc (.cells #[.slice a n cap, .int .i64 most] 26)).alloc (.cells #[.int .i64 r0, .int .i64 r1, .int .i64 r2, .int .i64 r3, .bool r4] 34)).alloc (.cells #[.slice none 0 0, .int .i64 0] 26)).alloc (.cells #[.slice none 0 0, .int .i64 most] 26)) (w.heap.size + 1 + 1 + 1) #[.slice none 0 0, .int .i64 most] 26 := blk_new _ _ (by simp)
  have hs3 := hs.after hb3
  have HB3 := Lib.hid hb3; have F0 := Lib.hid f0; have F1 := Lib.hid f1; have F2 := Lib.hid f2; have F3 := Lib.hid f3; have HS3 := Lib.hid hs3; have HLT := Lib.hid hs.lt
  have HN := Lib.hid hn; have HFIT := Lib.hid hfit; have HRF := Lib.hid hr; have HRES := Lib.hid hres'; have HAH := Lib.hid hah; have HRR := Lib.hid hrv
  clear hn hs hfit hr hs3 hb3 f0 f1 f2 f3 hres' hah hrv
  go_enter Try.func48, Try.ntmps48
  go_wp2_with fail
  generalize ((((w.alloc (.cells #[.slice a n cap, .int .i64 most] 26)).alloc (.cells #[.int .i64 r0, .int .i64 r1, .int .i64 r2, .int .i64 r3, .bool r4] 34)).alloc (.cells #[.slice none 0 0, .int .i64 0] 26)).alloc (.cells #[.slice none 0 0, .int .i64 most] 26)) = w3 at HB3 F0 F1 F2 F3 HS3 ⊢
  go_loopw [6, 7] (fun d i wr => ∃ (k : Nat) (s : Bool × List Rw) (v : Value), i = .int .i64 (k : Nat) ∧ d = .bool s.1 ∧ k ≤ n ∧ Hid (putAt rr rs k = s) ∧ Turned [w.heap.size + 1 + 1 + 1] w3 wr ∧ Hid (Blk wr (w.heap.size + 1 + 1 + 1) #[v, .int .i64 most] 26) ∧ Hid (OwnRw wr w3.heap.size v s.2))
    (fun _ i _ => n - (intOf i).toNat)
  case atStart => exact ⟨0, (false, []), .slice none 0 0, rfl, rfl, Nat.zero_le _, Lib.hid rfl, Turned.refl _ _, F3, Lib.hid (World.ownsRow_nil _ _ _ _)⟩
  case round =>
    obtain ⟨k, ⟨d, acc⟩, v, rfl, rfl, hk, HP, hT, HO, HW⟩ := hrel
    simp only
    have kA := F0.out.turned hT (by simp only [List.mem_singleton]; omega)
    have kR := F1.out.turned hT (by simp only [List.mem_singleton]; omega)
    have d0 : wr.cell? ⟨w.heap.size, 0, none⟩ = some (.slice a n cap) := kA.cell 0
    by_cases hlt : k < n
    · have hkx : k < rs.length := by rw [HN.out]; exact hlt
      have hS3 : ∀ w', Turned [w.heap.size + 1 + 1 + 1] w3 w' → SlIn kdRw w' a rs := fun w' h => HS3.out.turned h (fun y hy hne => by have := HLT.out y hy hne; simp only [List.mem_singleton]; omega)
      obtain ⟨g, o, rfl, hgl, hX⟩ := rowAt (hS3 wr hT) k hkx
      have hA : ∀ w', Below wr.heap.size wr w' → w'.cell? ⟨w.heap.size, 0, none⟩ = some (.slice (some ⟨g, o, none⟩) n cap) ∧
          (w'.cell? ⟨w.heap.size + 1, 0, none⟩ = some (.int .i64 r0) ∧ w'.cell? ⟨w.heap.size + 1, 1, none⟩ = some (.int .i64 r1) ∧ w'.cell? ⟨w.heap.size + 1, 2, none⟩ = some (.int .i64 r2) ∧ w'.cell? ⟨w.heap.size + 1, 3, none⟩ = some (.int .i64 r3) ∧ w'.cell? ⟨w.heap.size + 1, 4, none⟩ = some (.bool r4)) ∧
          RowAt w' g (o + k * 5) rs[k] := fun w' hb => ⟨(kA.after hb).cell 0, ⟨(kR.after hb).cell 0, (kR.after hb).cell 1, (kR.after hb).cell 2, (kR.after hb).cell 3, (kR.after hb).cell 4⟩, (hX w' hb).1⟩
      clear hX
      obtain ⟨x, hx⟩ : ∃ x, rs[k] = x := ⟨_, rfl⟩
      rw [hx] at hA
      have HAX := Lib.hid (HAH.out x)
      have HX := Lib.hid hx
      clear hx
      obtain ⟨ax, hax⟩ : ∃ q, decide (ahead x rr) = q := ⟨_, rfl⟩
      have HAX2 := HAX.out
      rw [hax] at HAX2
      have HAXQ := Lib.hid hax
      replace HAX := Lib.hid HAX2
      clear hax HAX2
      obtain ⟨x0, x1, x2, x3, x4⟩ := x
      unfold RowAt at hA
      simp only at HAX hA
      go_upto_region 6 with fail
      clear d0 kA kR
      go_cut [29] (fun s29 wx => s29 = .bool (!d && !ax) ∧ Below wr.heap.size wr wx)
      case first =>
        cases d
        case true =>
          refine wp_region_held_drew (S := fun w' => Below wr.heap.size wr w') (by kernel_rfl) (Below.drew (Below.refl _ _)) (fun hHeld => ?_)
          refine wpAnyH_take (i := 0) (v := ?v1) rfl (by kernel_rfl) (by kernel_rfl) (by kernel_rfl) (fun _ _ _ h => h) (Or.inl ⟨by rfl, ?h1⟩) hHeld ?r1
          case h1 => intro wq hS; go_simp; with_reducible rfl
          try simp only [Act.put, List.getElem_toArray, List.getElem_cons_zero, List.getElem_cons_succ, List.setIfInBounds_toArray, List.set_cons_zero, List.set_cons_succ]
          refine wpAnyH_take (i := 1) (v := ?v2) rfl (by kernel_rfl) (by kernel_rfl) (by kernel_rfl) (fun _ _ _ h => h) (Or.inl ⟨by rfl, ?h2⟩) hHeld ?r2
          case h2 => intro wq hS; go_simp; with_reducible rfl
          try simp only [Act.put, List.getElem_toArray, List.getElem_cons_zero, List.getElem_cons_succ, List.setIfInBounds_toArray, List.set_cons_zero, List.set_cons_succ]
          refine wpAnyH_take (i := 2) (v := ?v3) rfl (by kernel_rfl) (by kernel_rfl) (by kernel_rfl) (fun _ _ _ h => h) (Or.inl ⟨by rfl, ?h3⟩) hHeld ?r3
          case h3 => intro wq hS; go_simp; with_reducible rfl
          try simp only [Act.put, List.getElem_toArray, List.getElem_cons_zero, List.getElem_cons_succ, List.setIfInBounds_toArray, List.set_cons_zero, List.set_cons_succ]
          refine wpAnyH_take (i := 3) (v := undef) rfl (by kernel_rfl) (by kernel_rfl) (by kernel_rfl) (fun _ _ _ h => h) (Or.inr ⟨by rfl, rfl⟩) hHeld ?r4
          try simp only [Act.put, List.getElem_toArray, List.getElem_cons_zero, List.getElem_cons_succ, List.setIfInBounds_toArray, List.set_cons_zero, List.set_cons_succ]
          refine wpAnyH_take (i := 4) (v := undef) rfl (by kernel_rfl) (by kernel_rfl) (by kernel_rfl) (fun _ _ _ h => h) (Or.inr ⟨by rfl, rfl⟩) hHeld ?r5
          try simp only [Act.put, List.getElem_toArray, List.getElem_cons_zero, List.getElem_cons_succ, List.setIfInBounds_toArray, List.set_cons_zero, List.set_cons_succ]
          refine wpAnyH_take (i := 5) (v := undef) rfl (by kernel_rfl) (by kernel_rfl) (by kernel_rfl) (fun _ _ _ h => h) (Or.inr ⟨by rfl, rfl⟩) hHeld ?r6
          try simp only [Act.put, List.getElem_toArray, List.getElem_cons_zero, List.getElem_cons_succ, List.setIfInBounds_toArray, List.set_cons_zero, List.set_cons_succ]
          refine wpAnyH_take (i := 6) (v := undef) rfl (by kernel_rfl) (by kernel_rfl) (by kernel_rfl) (fun _ _ _ h => h) (Or.inr ⟨by rfl, rfl⟩) hHeld ?r7
          try simp only [Act.put, List.getElem_toArray, List.getElem_cons_zero, List.getElem_cons_succ, List.setIfInBounds_toArray, List.set_cons_zero, List.set_cons_succ]
          refine wpAnyH_take (i := 7) (v := undef) rfl (by kernel_rfl) (by kernel_rfl) (by kernel_rfl) (fun _ _ _ h => h) (Or.inr ⟨by rfl, rfl⟩) hHeld ?r8
          try simp only [Act.put, List.getElem_toArray, List.getElem_cons_zero, List.getElem_cons_succ, List.setIfInBounds_toArray, List.set_cons_zero, List.set_cons_succ]
          refine wpAnyH_take (i := 8) (v := undef) rfl (by kernel_rfl) (by kernel_rfl) (by kernel_rfl) (fun _ _ _ h => h) (Or.inr ⟨by rfl, rfl⟩) hHeld ?r9
          try simp only [Act.put, List.getElem_toArray, List.getElem_cons_zero, List.getElem_cons_succ, List.setIfInBounds_toArray, List.set_cons_zero, List.set_cons_succ]
          refine wpAnyH_take (i := 9) (v := undef) rfl (by kernel_rfl) (by kernel_rfl) (by kernel_rfl) (fun _ _ _ h => h) (Or.inr ⟨by rfl, rfl⟩) hHeld ?r10
          try simp only [Act.put, List.getElem_toArray, List.getElem_cons_zero, List.getElem_cons_succ, List.setIfInBounds_toArray, List.set_cons_zero, List.set_cons_succ]
          refine wpAnyH_take (i := 10) (v := undef) rfl (by kernel_rfl) (by kernel_rfl) (by kernel_rfl) (fun _ _ _ h => h) (Or.inr ⟨by rfl, rfl⟩) hHeld ?r11
          try simp only [Act.put, List.getElem_toArray, List.getElem_cons_zero, List.getElem_cons_succ, List.setIfInBounds_toArray, List.set_cons_zero, List.set_cons_succ]
          refine wpAnyH_take (i := 11) (v := ?v12) rfl (by kernel_rfl) (by kernel_rfl) (by kernel_rfl) (fun _ _ _ h => h) (Or.inl ⟨by rfl, ?h12⟩) hHeld ?r12
          case h12 => intro wq hS; go_simp; with_reducible rfl
          try simp only [Act.put, List.getElem_toArray, List.getElem_cons_zero, List.getElem_cons_succ, List.setIfInBounds_toArray, List.set_cons_zero, List.set_cons_succ]
          refine wpAnyH_done (by kernel_rfl) ?_ _
          go_wp2_with fail
          go_meet
          exact ⟨rfl, hHeld⟩
        case false =>
          refine wp_region_held_drew (S := fun w' => Below wr.heap.size wr w') (by kernel_rfl) (Below.drew (Below.refl _ _)) (fun hHeld => ?_)
          refine wpAnyH_take (i := 0) (v := ?v13) rfl (by kernel_rfl) (by kernel_rfl) (by kernel_rfl) (fun _ _ _ h => h) (Or.inl ⟨by rfl, ?h13⟩) hHeld ?r13
          case h13 => intro wq hS; go_simp; with_reducible rfl
          try simp only [Act.put, List.getElem_toArray, List.getElem_cons_zero, List.getElem_cons_succ, List.setIfInBounds_toArray, List.set_cons_zero, List.set_cons_succ]
          refine wpAnyH_take (i := 1) (v := ?v14) rfl (by kernel_rfl) (by kernel_rfl) (by kernel_rfl) (fun _ _ _ h => h) (Or.inl ⟨by rfl, ?h14⟩) hHeld ?r14
          case h14 => intro wq hS; go_simp; with_reducible rfl
          try simp only [Act.put, List.getElem_toArray, List.getElem_cons_zero, List.getElem_cons_succ, List.setIfInBounds_toArray, List.set_cons_zero, List.set_cons_succ]
          refine wpAnyH_take (i := 2) (v := ?v15) rfl (by kernel_rfl) (by kernel_rfl) (by kernel_rfl) (fun _ _ _ h => h) (Or.inl ⟨by rfl, ?h15⟩) hHeld ?r15
          case h15 => intro wq hS; go_simp; with_reducible rfl
          try simp only [Act.put, List.getElem_toArray, List.getElem_cons_zero, List.getElem_cons_succ, List.setIfInBounds_toArray, List.set_cons_zero, List.set_cons_succ]
          refine wpAnyH_take (i := 3) (v := ?v16) rfl (by kernel_rfl) (by kernel_rfl) (by kernel_rfl) (fun _ _ _ h => h) (Or.inl ⟨by rfl, ?h16⟩) hHeld ?r16
          case h16 => intro wq hS; go_simp; with_reducible rfl
          try simp only [Act.put, List.getElem_toArray, List.getElem_cons_zero, List.getElem_cons_succ, List.setIfInBounds_toArray, List.set_cons_zero, List.set_cons_succ]
          refine wpAnyH_take (i := 4) (v := ?v17) rfl (by kernel_rfl) (by kernel_rfl) (by kernel_rfl) (fun _ _ _ h => h) (Or.inl ⟨by rfl, ?h17⟩) hHeld ?r17
          case h17 => intro wq hS; have q0 := (hA wq hS).1; go_simp; with_reducible rfl
          try simp only [Act.put, List.getElem_toArray, List.getElem_cons_zero, List.getElem_cons_succ, List.setIfInBounds_toArray, List.set_cons_zero, List.set_cons_succ]
          refine wpAnyH_take (i := 5) (v := ?v18) rfl (by kernel_rfl) (by kernel_rfl) (by kernel_rfl) (fun _ _ _ h => h) (Or.inl ⟨by rfl, ?h18⟩) hHeld ?r18
          case h18 => intro wq hS; go_simp; with_reducible rfl
          try simp only [Act.put, List.getElem_toArray, List.getElem_cons_zero, List.getElem_cons_succ, List.setIfInBounds_toArray, List.set_cons_zero, List.set_cons_succ]
          refine wpAnyH_take (i := 6) (v := ?v19) rfl (by kernel_rfl) (by kernel_rfl) (by kernel_rfl) (fun _ _ _ h => h) (Or.inl ⟨by rfl, ?h19⟩) hHeld ?r19
          case h19 => intro wq hS; go_simp; with_reducible rfl
          try simp only [Act.put, List.getElem_toArray, List.getElem_cons_zero, List.getElem_cons_succ, List.setIfInBounds_toArray, List.set_cons_zero, List.set_cons_succ]
          refine wpAnyH_take (i := 7) (v := ?v20) rfl (by kernel_rfl) (by kernel_rfl) (by kernel_rfl) (fun _ _ _ h => h) (Or.inl ⟨by rfl, ?h20⟩) hHeld ?r20
          case h20 => intro wq hS; obtain ⟨c0, c1, c2, c3, c4⟩ := (hA wq hS).2.2; go_simp; with_reducible rfl
          try simp only [Act.put, List.getElem_toArray, List.getElem_cons_zero, List.getElem_cons_succ, List.setIfInBounds_toArray, List.set_cons_zero, List.set_cons_succ]
          refine wpAnyH_take (i := 8) (v := ?v21) rfl (by kernel_rfl) (by kernel_rfl) (by kernel_rfl) (fun _ _ _ h => h) (Or.inl ⟨by rfl, ?h21⟩) hHeld ?r21
          case h21 => intro wq hS; obtain ⟨y0, y1, y2, y3, y4⟩ := (hA wq hS).2.1; go_simp; with_reducible rfl
          try simp only [Act.put, List.getElem_toArray, List.getElem_cons_zero, List.getElem_cons_succ, List.setIfInBounds_toArray, List.set_cons_zero, List.set_cons_succ]
          refine wpAnyH_ready (rs := [9]) (by kernel_rfl) (by simp) ?_
          refine AllReadyH.cons rfl (fun K hK => ?_) AllReadyH.nil
          go_simp
          refine (HAX.out _).mono ?_
          rintro e w2 ⟨rfl, hb2⟩
          refine hK.out _ _ (hHeld.trans (hb2.mono hHeld.size)) (fun hHeld => ?_)
          clear hK K
          try simp only [Act.put, List.getElem_toArray, List.getElem_cons_zero, List.getElem_cons_succ, List.setIfInBounds_toArray, List.set_cons_zero, List.set_cons_succ]
          refine wpAnyH_take (i := 10) (v := ?v22) rfl (by kernel_rfl) (by kernel_rfl) (by kernel_rfl) (fun _ _ _ h => h) (Or.inl ⟨by rfl, ?h22⟩) hHeld ?r22
          case h22 => intro wq hS; go_simp; with_reducible rfl
          try simp only [Act.put, List.getElem_toArray, List.getElem_cons_zero, List.getElem_cons_succ, List.setIfInBounds_toArray, List.set_cons_zero, List.set_cons_succ]
          refine wpAnyH_take (i := 11) (v := ?v23) rfl (by kernel_rfl) (by kernel_rfl) (by kernel_rfl) (fun _ _ _ h => h) (Or.inl ⟨by rfl, ?h23⟩) hHeld ?r23
          case h23 => intro wq hS; go_simp; with_reducible rfl
          try simp only [Act.put, List.getElem_toArray, List.getElem_cons_zero, List.getElem_cons_succ, List.setIfInBounds_toArray, List.set_cons_zero, List.set_cons_succ]
          refine wpAnyH_done (by kernel_rfl) ?_ _
          go_wp2_with fail
          go_meet
          exact ⟨rfl, hHeld⟩
      case rest =>
        obtain ⟨rfl, hbc⟩ := hcut
        have hT2 := hT.trans1 (Turned.of_below hbc)
        replace HO := Lib.hid (HO.out.after hbc)
        replace HW := Lib.hid (own_below HW.out hbc)
        have hlenA : acc.length ≤ 2 * k := by have e := putAt_len rr rs k; rw [HP.out] at e; exact e
        go_upto_if 29 with fail
        go_cut [6] (fun s6 wx => ∃ (s : Bool × List Rw) (u : Value), s6 = .bool s.1 ∧ Hid (putOne rr (d, acc) ⟨x0, x1, x2, x3, x4⟩ = s) ∧ Turned [w.heap.size + 1 + 1 + 1] w3 wx ∧ Hid (Blk wx (w.heap.size + 1 + 1 + 1) #[u, .int .i64 most] 26) ∧ Hid (OwnRw wx w3.heap.size u s.2))
        case first =>
          have hone : putOne rr (d, acc) ⟨x0, x1, x2, x3, x4⟩ = if (!d && !ax) = true then (true, acc ++ [rr]) else (d, acc) := by unfold putOne; rw [HAXQ.out]
          have HONE := Lib.hid hone
          clear hone
          obtain ⟨c, hc⟩ : ∃ c, (!d && !ax) = c := ⟨_, rfl⟩
          rw [hc] at HONE ⊢
          clear hc
          cases c
          · go_wp2_with fail
            go_meet
            exact ⟨(d, acc), v, rfl, Lib.hid (by have e := HONE.out; simpa using e), hT2, HO, HW⟩
          · have kR := F1.out.turned hT2 (by simp only [List.mem_singleton]; omega)
            have e0 : wc.cell? ⟨w.heap.size + 1, 0, none⟩ = some (.int .i64 r0) := kR.cell 0
            have e1 : wc.cell? ⟨w.heap.size + 1, 1, none⟩ = some (.int .i64 r1) := kR.cell 1
            have e2 : wc.cell? ⟨w.heap.size + 1, 2, none⟩ = some (.int .i64 r2) := kR.cell 2
            have e3 : wc.cell? ⟨w.heap.size + 1, 3, none⟩ = some (.int .i64 r3) := kR.cell 3
            have e4 : wc.cell? ⟨w.heap.size + 1, 4, none⟩ = some (.bool r4) := kR.cell 4
            have e5 : wc.cell? ⟨w.heap.size + 1 + 1 + 1, 0, none⟩ = some v := HO.out.cell 0
            clear kR
            go_wp2_with (at_builtin; apply stop_here)
            refine stop_go ?_
            refine wpList_append_own_at _ rfl _ _ 24 rfl w3.heap.size 34 i0 (.agg #[.int .i64 0, .int .i64 0, .int .i64 0, .int .i64 0, .bool false]) 5 40 Try.underlying24 hi hz0 hz1 hz2 rfl (by decide) _ _ _ rfl (World.ownsRow.alloc HW.out _) ⟨wc.heap.size, 0, none⟩ 1 1 [.int .i64 r0, .int .i64 r1, .int .i64 r2, .int .i64 r3, .bool r4] rfl rfl (cells_new _ _ _) (by simp [Value.oneCell']) (by unfold maxLen; omega) (by omega) (by have := hT2.size; simp; omega) ?_
            intro v' w5 hown5 hgrow5 _ _
            obtain ⟨va, vc, rfl⟩ := own_form hown5
            generalize hv' : Value.slice va (acc.length + 1) vc = v' at hown5
            clear e0 e1 e2 e3 e4 e5
            have hnb : v.ownBlock ≠ some (w.heap.size + 1 + 1 + 1) := fun e => by have h1 := (World.ownsRow.lt HW.out _ e).1; have h2 := F3.out.lt; omega
            have hT5 : Turned [w.heap.size + 1 + 1 + 1] w3 w5 := by
              refine turned_grown (hT2.alloc _) hgrow5 (fun b hb => ?_)
              have h1 := (World.ownsRow.lt HW.out _ hb).1
              exact h1
            have hO5 : Blk w5 (w.heap.size + 1 + 1 + 1) #[v, .int .i64 most] 26 := (hgrow5.block _ (by have := HO.out.lt; simp; omega) (fun e => hnb e.symm)).trans (HO.out.alloc _)
            have z5 : w5.frozen? ⟨w.heap.size + 1 + 1 + 1, 0, none⟩ = false := hO5.frozen 0
            have c5 : w5.cell? ⟨w.heap.size + 1 + 1 + 1, 0, none⟩ = some v := hO5.cell 0
            have hO6 := hO5.set 0 v'
            have hT6 := hT5.setCell (p := ⟨w.heap.size + 1 + 1 + 1, 0, none⟩) (by simp) v'
            have hrv : (⟨r0, r1, r2, r3, r4⟩ : Rw) = rr := HRR.out
            have hW6 : OwnRw (w5.setCell ⟨w.heap.size + 1 + 1 + 1, 0, none⟩ v') w3.heap.size v' (acc ++ [rr]) := by
              rw [← hrv]
              unfold OwnRw
              rw [List.length_append, List.flatMap_append]
              refine own_setCell (base := w3.heap.size) ?_ (F3.out.lt) v'
              simpa [Rw.cs] using hown5
            subst hv'
            have HT6 := Lib.hid hT6; have HO6 := Lib.hid hO6; have HW6 := Lib.hid hW6
            clear hown5 hgrow5 hT5 hO5 hO6 hT6 hW6 hrv hnb
            go_wp2_with fail
            go_meet
            exact ⟨(true, acc ++ [rr]), _, rfl, Lib.hid (by have e := HONE.out; simpa using e), HT6.out, HO6, HW6⟩
        case rest =>
        obtain ⟨⟨d2, acc2⟩, v2, rfl, HP2, hT3, HO2, HW2⟩ := hcut
        simp only
        have kA9 := F0.out.turned hT3 (by simp only [List.mem_singleton]; omega)
        have kR9 := F1.out.turned hT3 (by simp only [List.mem_singleton]; omega)
        obtain ⟨_, _, e9, _, hX9⟩ := rowAt (hS3 wc hT3) k hkx
        cases e9
        rw [HX.out] at hX9
        have hA9 : ∀ w', Below wc.heap.size wc w' → w'.cell? ⟨w.heap.size, 0, none⟩ = some (.slice (some ⟨g, o, none⟩) n cap) ∧
          (w'.cell? ⟨w.heap.size + 1, 0, none⟩ = some (.int .i64 r0) ∧ w'.cell? ⟨w.heap.size + 1, 1, none⟩ = some (.int .i64 r1) ∧ w'.cell? ⟨w.heap.size + 1, 2, none⟩ = some (.int .i64 r2) ∧ w'.cell? ⟨w.heap.size + 1, 3, none⟩ = some (.int .i64 r3) ∧ w'.cell? ⟨w.heap.size + 1, 4, none⟩ = some (.bool r4)) ∧
          RowAt w' g (o + k * 5) ⟨x0, x1, x2, x3, x4⟩ := fun w' hb => ⟨(kA9.after hb).cell 0, ⟨(kR9.after hb).cell 0, (kR9.after hb).cell 1, (kR9.after hb).cell 2, (kR9.after hb).cell 3, (kR9.after hb).cell 4⟩, (hX9 w' hb).1⟩
        unfold RowAt at hA9
        simp only at hA9
        have hrv : (⟨r0, r1, r2, r3, r4⟩ : Rw) = rr := HRR.out
        have hsame : (decide ((⟨x0, x1, x2, x3, x4⟩ : Rw).vid = rr.vid ∧ (⟨x0, x1, x2, x3, x4⟩ : Rw).mac = rr.mac)) = decide (x0 = r0 ∧ x1 = r1) := by rw [← hrv]
        have HSAME := Lib.hid hsame
        have HA9 := Lib.hid hA9
        clear hsame hrv kA9 kR9 hX9 hbc hA hT hT2 hA9
        generalize wc = wd at hT3 HO2 HW2 HA9 ⊢
        go_upto_region 9 with fail
        obtain ⟨c9, hc9⟩ : ∃ c, (!decide (x0 = r0 ∧ x1 = r1)) = c := ⟨_, rfl⟩
        have HC9 := Lib.hid hc9
        clear hc9
        go_cut [55] (fun s55 wx => s55 = .bool c9 ∧ Below wd.heap.size wd wx)
        case first =>
          have hA9 := HA9.out
          by_cases h0 : x0 = r0
          · subst h0
            by_cases h1 : x1 = r1
            · subst h1
              obtain rfl : c9 = false := by rw [← HC9.out]; simp
              refine wp_region_held_drew (S := fun w' => Below wd.heap.size wd w') (by kernel_rfl) (Below.drew (Below.refl _ _)) (fun hHeld => ?_)
              refine wpAnyH_take (i := 0) (v := ?v52) rfl (by kernel_rfl) (by kernel_rfl) (by kernel_rfl) (fun _ _ _ h => h) (Or.inl ⟨by rfl, ?h52⟩) hHeld ?r52
              case h52 => intro wq hS; go_simp; with_reducible rfl
              try simp only [Act.put, List.getElem_toArray, List.getElem_cons_zero, List.getElem_cons_succ, List.setIfInBounds_toArray, List.set_cons_zero, List.set_cons_succ]
              refine wpAnyH_take (i := 1) (v := ?v53) rfl (by kernel_rfl) (by kernel_rfl) (by kernel_rfl) (fun _ _ _ h => h) (Or.inl ⟨by rfl, ?h53⟩) hHeld ?r53
              case h53 => intro wq hS; have q0 := (hA9 wq hS).1; go_simp; with_reducible rfl
              try simp only [Act.put, List.getElem_toArray, List.getElem_cons_zero, List.getElem_cons_succ, List.setIfInBounds_toArray, List.set_cons_zero, List.set_cons_succ]
              refine wpAnyH_take (i := 2) (v := ?v54) rfl (by kernel_rfl) (by kernel_rfl) (by kernel_rfl) (fun _ _ _ h => h) (Or.inl ⟨by rfl, ?h54⟩) hHeld ?r54
              case h54 => intro wq hS; go_simp; with_reducible rfl
              try simp only [Act.put, List.getElem_toArray, List.getElem_cons_zero, List.getElem_cons_succ, List.setIfInBounds_toArray, List.set_cons_zero, List.set_cons_succ]
              refine wpAnyH_take (i := 3) (v := ?v55) rfl (by kernel_rfl) (by kernel_rfl) (by kernel_rfl) (fun _ _ _ h => h) (Or.inl ⟨by rfl, ?h55⟩) hHeld ?r55
              case h55 => intro wq hS; go_simp; with_reducible rfl
              try simp only [Act.put, List.getElem_toArray, List.getElem_cons_zero, List.getElem_cons_succ, List.setIfInBounds_toArray, List.set_cons_zero, List.set_cons_succ]
              refine wpAnyH_take (i := 4) (v := ?v56) rfl (by kernel_rfl) (by kernel_rfl) (by kernel_rfl) (fun _ _ _ h => h) (Or.inl ⟨by rfl, ?h56⟩) hHeld ?r56
              case h56 => intro wq hS; go_simp; with_reducible rfl
              try simp only [Act.put, List.getElem_toArray, List.getElem_cons_zero, List.getElem_cons_succ, List.setIfInBounds_toArray, List.set_cons_zero, List.set_cons_succ]
              refine wpAnyH_take (i := 5) (v := ?v57) rfl (by kernel_rfl) (by kernel_rfl) (by kernel_rfl) (fun _ _ _ h => h) (Or.inl ⟨by rfl, ?h57⟩) hHeld ?r57
              case h57 => intro wq hS; obtain ⟨c0, c1, c2, c3, c4⟩ := (hA9 wq hS).2.2; go_simp; with_reducible rfl
              try simp only [Act.put, List.getElem_toArray, List.getElem_cons_zero, List.getElem_cons_succ, List.setIfInBounds_toArray, List.set_cons_zero, List.set_cons_succ]
              refine wpAnyH_take (i := 6) (v := ?v58) rfl (by kernel_rfl) (by kernel_rfl) (by kernel_rfl) (fun _ _ _ h => h) (Or.inl ⟨by rfl, ?h58⟩) hHeld ?r58
              case h58 => intro wq hS; go_simp; with_reducible rfl
              try simp only [Act.put, List.getElem_toArray, List.getElem_cons_zero, List.getElem_cons_succ, List.setIfInBounds_toArray, List.set_cons_zero, List.set_cons_succ]
              refine wpAnyH_take (i := 7) (v := ?v59) rfl (by kernel_rfl) (by kernel_rfl) (by kernel_rfl) (fun _ _ _ h => h) (Or.inl ⟨by rfl, ?h59⟩) hHeld ?r59
              case h59 => intro wq hS; obtain ⟨y0, y1, y2, y3, y4⟩ := (hA9 wq hS).2.1; go_simp; with_reducible rfl
              try simp only [Act.put, List.getElem_toArray, List.getElem_cons_zero, List.getElem_cons_succ, List.setIfInBounds_toArray, List.set_cons_zero, List.set_cons_succ]
              refine wpAnyH_take (i := 8) (v := ?v60) rfl (by kernel_rfl) (by kernel_rfl) (by kernel_rfl) (fun _ _ _ h => h) (Or.inl ⟨by rfl, ?h60⟩) hHeld ?r60
              case h60 => intro wq hS; go_simp; with_reducible rfl
              try simp only [Act.put, List.getElem_toArray, List.getElem_cons_zero, List.getElem_cons_succ, List.setIfInBounds_toArray, List.set_cons_zero, List.set_cons_succ]
              refine wpAnyH_take (i := 9) (v := ?v61) rfl (by kernel_rfl) (by kernel_rfl) (by kernel_rfl) (fun _ _ _ h => h) (Or.inl ⟨by rfl, ?h61⟩) hHeld ?r61
              case h61 => intro wq hS; go_simp; with_reducible rfl
              try simp only [Act.put, List.getElem_toArray, List.getElem_cons_zero, List.getElem_cons_succ, List.setIfInBounds_toArray, List.set_cons_zero, List.set_cons_succ]
              refine wpAnyH_take (i := 10) (v := ?v62) rfl (by kernel_rfl) (by kernel_rfl) (by kernel_rfl) (fun _ _ _ h => h) (Or.inl ⟨by rfl, ?h62⟩) hHeld ?r62
              case h62 => intro wq hS; go_simp; with_reducible rfl
              try simp only [Act.put, List.getElem_toArray, List.getElem_cons_zero, List.getElem_cons_succ, List.setIfInBounds_toArray, List.set_cons_zero, List.set_cons_succ]
              refine wpAnyH_take (i := 11) (v := ?v63) rfl (by kernel_rfl) (by kernel_rfl) (by kernel_rfl) (fun _ _ _ h => h) (Or.inl ⟨by rfl, ?h63⟩) hHeld ?r63
              case h63 => intro wq hS; have q0 := (hA9 wq hS).1; go_simp; with_reducible rfl
              try simp only [Act.put, List.getElem_toArray, List.getElem_cons_zero, List.getElem_cons_succ, List.setIfInBounds_toArray, List.set_cons_zero, List.set_cons_succ]
              refine wpAnyH_take (i := 12) (v := ?v64) rfl (by kernel_rfl) (by kernel_rfl) (by kernel_rfl) (fun _ _ _ h => h) (Or.inl ⟨by rfl, ?h64⟩) hHeld ?r64
              case h64 => intro wq hS; go_simp; with_reducible rfl
              try simp only [Act.put, List.getElem_toArray, List.getElem_cons_zero, List.getElem_cons_succ, List.setIfInBounds_toArray, List.set_cons_zero, List.set_cons_succ]
              refine wpAnyH_take (i := 13) (v := ?v65) rfl (by kernel_rfl) (by kernel_rfl) (by kernel_rfl) (fun _ _ _ h => h) (Or.inl ⟨by rfl, ?h65⟩) hHeld ?r65
              case h65 => intro wq hS; go_simp; with_reducible rfl
              try simp only [Act.put, List.getElem_toArray, List.getElem_cons_zero, List.getElem_cons_succ, List.setIfInBounds_toArray, List.set_cons_zero, List.set_cons_succ]
              refine wpAnyH_take (i := 14) (v := ?v66) rfl (by kernel_rfl) (by kernel_rfl) (by kernel_rfl) (fun _ _ _ h => h) (Or.inl ⟨by rfl, ?h66⟩) hHeld ?r66
              case h66 => intro wq hS; go_simp; with_reducible rfl
              try simp only [Act.put, List.getElem_toArray, List.getElem_cons_zero, List.getElem_cons_succ, List.setIfInBounds_toArray, List.set_cons_zero, List.set_cons_succ]
              refine wpAnyH_take (i := 15) (v := ?v67) rfl (by kernel_rfl) (by kernel_rfl) (by kernel_rfl) (fun _ _ _ h => h) (Or.inl ⟨by rfl, ?h67⟩) hHeld ?r67
              case h67 => intro wq hS; obtain ⟨c0, c1, c2, c3, c4⟩ := (hA9 wq hS).2.2; go_simp; with_reducible rfl
              try simp only [Act.put, List.getElem_toArray, List.getElem_cons_zero, List.getElem_cons_succ, List.setIfInBounds_toArray, List.set_cons_zero, List.set_cons_succ]
              refine wpAnyH_take (i := 16) (v := ?v68) rfl (by kernel_rfl) (by kernel_rfl) (by kernel_rfl) (fun _ _ _ h => h) (Or.inl ⟨by rfl, ?h68⟩) hHeld ?r68
              case h68 => intro wq hS; go_simp; with_reducible rfl
              try simp only [Act.put, List.getElem_toArray, List.getElem_cons_zero, List.getElem_cons_succ, List.setIfInBounds_toArray, List.set_cons_zero, List.set_cons_succ]
              refine wpAnyH_take (i := 17) (v := ?v69) rfl (by kernel_rfl) (by kernel_rfl) (by kernel_rfl) (fun _ _ _ h => h) (Or.inl ⟨by rfl, ?h69⟩) hHeld ?r69
              case h69 => intro wq hS; obtain ⟨y0, y1, y2, y3, y4⟩ := (hA9 wq hS).2.1; go_simp; with_reducible rfl
              try simp only [Act.put, List.getElem_toArray, List.getElem_cons_zero, List.getElem_cons_succ, List.setIfInBounds_toArray, List.set_cons_zero, List.set_cons_succ]
              refine wpAnyH_take (i := 18) (v := ?v70) rfl (by kernel_rfl) (by kernel_rfl) (by kernel_rfl) (fun _ _ _ h => h) (Or.inl ⟨by rfl, ?h70⟩) hHeld ?r70
              case h70 => intro wq hS; go_simp; with_reducible rfl
              try simp only [Act.put, List.getElem_toArray, List.getElem_cons_zero, List.getElem_cons_succ, List.setIfInBounds_toArray, List.set_cons_zero, List.set_cons_succ]
              refine wpAnyH_take (i := 19) (v := ?v71) rfl (by kernel_rfl) (by kernel_rfl) (by kernel_rfl) (fun _ _ _ h => h) (Or.inl ⟨by rfl, ?h71⟩) hHeld ?r71
              case h71 => intro wq hS; go_simp; with_reducible rfl
              try simp only [Act.put, List.getElem_toArray, List.getElem_cons_zero, List.getElem_cons_succ, List.setIfInBounds_toArray, List.set_cons_zero, List.set_cons_succ]
              refine wpAnyH_done (by kernel_rfl) ?_ _
              go_wp2_with fail
              go_meet
              exact ⟨rfl, hHeld⟩
            · have hq : (x1 != r1) = true := by simp [h1]
              obtain rfl : c9 = true := by rw [← HC9.out]; simp [h1]
              refine wp_region_held_drew (S := fun w' => Below wd.heap.size wd w') (by kernel_rfl) (Below.drew (Below.refl _ _)) (fun hHeld => ?_)
              refine wpAnyH_take (i := 0) (v := ?v72) rfl (by kernel_rfl) (by kernel_rfl) (by kernel_rfl) (fun _ _ _ h => h) (Or.inl ⟨by rfl, ?h72⟩) hHeld ?r72
              case h72 => intro wq hS; go_simp; with_reducible rfl
              try simp only [Act.put, List.getElem_toArray, List.getElem_cons_zero, List.getElem_cons_succ, List.setIfInBounds_toArray, List.set_cons_zero, List.set_cons_succ]
              refine wpAnyH_take (i := 1) (v := ?v73) rfl (by kernel_rfl) (by kernel_rfl) (by kernel_rfl) (fun _ _ _ h => h) (Or.inl ⟨by rfl, ?h73⟩) hHeld ?r73
              case h73 => intro wq hS; have q0 := (hA9 wq hS).1; go_simp; with_reducible rfl
              try simp only [Act.put, List.getElem_toArray, List.getElem_cons_zero, List.getElem_cons_succ, List.setIfInBounds_toArray, List.set_cons_zero, List.set_cons_succ]
              refine wpAnyH_take (i := 2) (v := ?v74) rfl (by kernel_rfl) (by kernel_rfl) (by kernel_rfl) (fun _ _ _ h => h) (Or.inl ⟨by rfl, ?h74⟩) hHeld ?r74
              case h74 => intro wq hS; go_simp; with_reducible rfl
              try simp only [Act.put, List.getElem_toArray, List.getElem_cons_zero, List.getElem_cons_succ, List.setIfInBounds_toArray, List.set_cons_zero, List.set_cons_succ]
              refine wpAnyH_take (i := 3) (v := ?v75) rfl (by kernel_rfl) (by kernel_rfl) (by kernel_rfl) (fun _ _ _ h => h) (Or.inl ⟨by rfl, ?h75⟩) hHeld ?r75
              case h75 => intro wq hS; go_simp; with_reducible rfl
              try simp only [Act.put, List.getElem_toArray, List.getElem_cons_zero, List.getElem_cons_succ, List.setIfInBounds_toArray, List.set_cons_zero, List.set_cons_succ]
              refine wpAnyH_take (i := 4) (v := ?v76) rfl (by kernel_rfl) (by kernel_rfl) (by kernel_rfl) (fun _ _ _ h => h) (Or.inl ⟨by rfl, ?h76⟩) hHeld ?r76
              case h76 => intro wq hS; go_simp; with_reducible rfl
              try simp only [Act.put, List.getElem_toArray, List.getElem_cons_zero, List.getElem_cons_succ, List.setIfInBounds_toArray, List.set_cons_zero, List.set_cons_succ]
              refine wpAnyH_take (i := 5) (v := ?v77) rfl (by kernel_rfl) (by kernel_rfl) (by kernel_rfl) (fun _ _ _ h => h) (Or.inl ⟨by rfl, ?h77⟩) hHeld ?r77
              case h77 => intro wq hS; obtain ⟨c0, c1, c2, c3, c4⟩ := (hA9 wq hS).2.2; go_simp; with_reducible rfl
              try simp only [Act.put, List.getElem_toArray, List.getElem_cons_zero, List.getElem_cons_succ, List.setIfInBounds_toArray, List.set_cons_zero, List.set_cons_succ]
              refine wpAnyH_take (i := 6) (v := ?v78) rfl (by kernel_rfl) (by kernel_rfl) (by kernel_rfl) (fun _ _ _ h => h) (Or.inl ⟨by rfl, ?h78⟩) hHeld ?r78
              case h78 => intro wq hS; go_simp; with_reducible rfl
              try simp only [Act.put, List.getElem_toArray, List.getElem_cons_zero, List.getElem_cons_succ, List.setIfInBounds_toArray, List.set_cons_zero, List.set_cons_succ]
              refine wpAnyH_take (i := 7) (v := ?v79) rfl (by kernel_rfl) (by kernel_rfl) (by kernel_rfl) (fun _ _ _ h => h) (Or.inl ⟨by rfl, ?h79⟩) hHeld ?r79
              case h79 => intro wq hS; obtain ⟨y0, y1, y2, y3, y4⟩ := (hA9 wq hS).2.1; go_simp; with_reducible rfl
              try simp only [Act.put, List.getElem_toArray, List.getElem_cons_zero, List.getElem_cons_succ, List.setIfInBounds_toArray, List.set_cons_zero, List.set_cons_succ]
              refine wpAnyH_take (i := 8) (v := ?v80) rfl (by kernel_rfl) (by kernel_rfl) (by kernel_rfl) (fun _ _ _ h => h) (Or.inl ⟨by rfl, ?h80⟩) hHeld ?r80
              case h80 => intro wq hS; go_simp; with_reducible rfl
              try simp only [Act.put, List.getElem_toArray, List.getElem_cons_zero, List.getElem_cons_succ, List.setIfInBounds_toArray, List.set_cons_zero, List.set_cons_succ]
              refine wpAnyH_take (i := 9) (v := ?v81) rfl (by kernel_rfl) (by kernel_rfl) (by kernel_rfl) (fun _ _ _ h => h) (Or.inl ⟨by rfl, ?h81⟩) hHeld ?r81
              case h81 => intro wq hS; go_simp; with_reducible rfl
              try simp only [Act.put, List.getElem_toArray, List.getElem_cons_zero, List.getElem_cons_succ, List.setIfInBounds_toArray, List.set_cons_zero, List.set_cons_succ]
              refine wpAnyH_take (i := 10) (v := ?v82) rfl (by kernel_rfl) (by kernel_rfl) (by kernel_rfl) (fun _ _ _ h => h) (Or.inl ⟨by rfl, ?h82⟩) hHeld ?r82
              case h82 => intro wq hS; go_simp; with_reducible rfl
              try simp only [Act.put, List.getElem_toArray, List.getElem_cons_zero, List.getElem_cons_succ, List.setIfInBounds_toArray, List.set_cons_zero, List.set_cons_succ]
              refine wpAnyH_take (i := 11) (v := ?v83) rfl (by kernel_rfl) (by kernel_rfl) (by kernel_rfl) (fun _ _ _ h => h) (Or.inl ⟨by rfl, ?h83⟩) hHeld ?r83
              case h83 => intro wq hS; have q0 := (hA9 wq hS).1; go_simp; with_reducible rfl
              try simp only [Act.put, List.getElem_toArray, List.getElem_cons_zero, List.getElem_cons_succ, List.setIfInBounds_toArray, List.set_cons_zero, List.set_cons_succ]
              refine wpAnyH_take (i := 12) (v := ?v84) rfl (by kernel_rfl) (by kernel_rfl) (by kernel_rfl) (fun _ _ _ h => h) (Or.inl ⟨by rfl, ?h84⟩) hHeld ?r84
              case h84 => intro wq hS; go_simp; with_reducible rfl
              try simp only [Act.put, List.getElem_toArray, List.getElem_cons_zero, List.getElem_cons_succ, List.setIfInBounds_toArray, List.set_cons_zero, List.set_cons_succ]
              refine wpAnyH_take (i := 13) (v := ?v85) rfl (by kernel_rfl) (by kernel_rfl) (by kernel_rfl) (fun _ _ _ h => h) (Or.inl ⟨by rfl, ?h85⟩) hHeld ?r85
              case h85 => intro wq hS; go_simp; with_reducible rfl
              try simp only [Act.put, List.getElem_toArray, List.getElem_cons_zero, List.getElem_cons_succ, List.setIfInBounds_toArray, List.set_cons_zero, List.set_cons_succ]
              refine wpAnyH_take (i := 14) (v := ?v86) rfl (by kernel_rfl) (by kernel_rfl) (by kernel_rfl) (fun _ _ _ h => h) (Or.inl ⟨by rfl, ?h86⟩) hHeld ?r86
              case h86 => intro wq hS; go_simp; with_reducible rfl
              try simp only [Act.put, List.getElem_toArray, List.getElem_cons_zero, List.getElem_cons_succ, List.setIfInBounds_toArray, List.set_cons_zero, List.set_cons_succ]
              refine wpAnyH_take (i := 15) (v := ?v87) rfl (by kernel_rfl) (by kernel_rfl) (by kernel_rfl) (fun _ _ _ h => h) (Or.inl ⟨by rfl, ?h87⟩) hHeld ?r87
              case h87 => intro wq hS; obtain ⟨c0, c1, c2, c3, c4⟩ := (hA9 wq hS).2.2; go_simp; with_reducible rfl
              try simp only [Act.put, List.getElem_toArray, List.getElem_cons_zero, List.getElem_cons_succ, List.setIfInBounds_toArray, List.set_cons_zero, List.set_cons_succ]
              refine wpAnyH_take (i := 16) (v := ?v88) rfl (by kernel_rfl) (by kernel_rfl) (by kernel_rfl) (fun _ _ _ h => h) (Or.inl ⟨by rfl, ?h88⟩) hHeld ?r88
              case h88 => intro wq hS; go_simp; with_reducible rfl
              try simp only [Act.put, List.getElem_toArray, List.getElem_cons_zero, List.getElem_cons_succ, List.setIfInBounds_toArray, List.set_cons_zero, List.set_cons_succ]
              refine wpAnyH_take (i := 17) (v := ?v89) rfl (by kernel_rfl) (by kernel_rfl) (by kernel_rfl) (fun _ _ _ h => h) (Or.inl ⟨by rfl, ?h89⟩) hHeld ?r89
              case h89 => intro wq hS; obtain ⟨y0, y1, y2, y3, y4⟩ := (hA9 wq hS).2.1; go_simp; with_reducible rfl
              try simp only [Act.put, List.getElem_toArray, List.getElem_cons_zero, List.getElem_cons_succ, List.setIfInBounds_toArray, List.set_cons_zero, List.set_cons_succ]
              refine wpAnyH_take (i := 18) (v := ?v90) rfl (by kernel_rfl) (by kernel_rfl) (by kernel_rfl) (fun _ _ _ h => h) (Or.inl ⟨by rfl, ?h90⟩) hHeld ?r90
              case h90 => intro wq hS; go_simp; with_reducible rfl
              try simp only [Act.put, List.getElem_toArray, List.getElem_cons_zero, List.getElem_cons_succ, List.setIfInBounds_toArray, List.set_cons_zero, List.set_cons_succ]
              refine wpAnyH_take (i := 19) (v := ?v91) rfl (by kernel_rfl) (by kernel_rfl) (by kernel_rfl) (fun _ _ _ h => h) (Or.inl ⟨by rfl, ?h91⟩) hHeld ?r91
              case h91 => intro wq hS; go_simp; with_reducible rfl
              try simp only [Act.put, List.getElem_toArray, List.getElem_cons_zero, List.getElem_cons_succ, List.setIfInBounds_toArray, List.set_cons_zero, List.set_cons_succ]
              refine wpAnyH_done (by kernel_rfl) ?_ _
              go_wp2_with fail
              go_meet
              exact ⟨rfl, hHeld⟩
          · have hq : (x0 != r0) = true := by simp [h0]
            obtain rfl : c9 = true := by rw [← HC9.out]; simp [h0]
            refine wp_region_held_drew (S := fun w' => Below wd.heap.size wd w') (by kernel_rfl) (Below.drew (Below.refl _ _)) (fun hHeld => ?_)
            refine wpAnyH_take (i := 0) (v := ?v92) rfl (by kernel_rfl) (by kernel_rfl) (by kernel_rfl) (fun _ _ _ h => h) (Or.inl ⟨by rfl, ?h92⟩) hHeld ?r92
            case h92 => intro wq hS; go_simp; with_reducible rfl
            try simp only [Act.put, List.getElem_toArray, List.getElem_cons_zero, List.getElem_cons_succ, List.setIfInBounds_toArray, List.set_cons_zero, List.set_cons_succ]
            refine wpAnyH_take (i := 1) (v := ?v93) rfl (by kernel_rfl) (by kernel_rfl) (by kernel_rfl) (fun _ _ _ h => h) (Or.inl ⟨by rfl, ?h93⟩) hHeld ?r93
            case h93 => intro wq hS; have q0 := (hA9 wq hS).1; go_simp; with_reducible rfl
            try simp only [Act.put, List.getElem_toArray, List.getElem_cons_zero, List.getElem_cons_succ, List.setIfInBounds_toArray, List.set_cons_zero, List.set_cons_succ]
            refine wpAnyH_take (i := 2) (v := ?v94) rfl (by kernel_rfl) (by kernel_rfl) (by kernel_rfl) (fun _ _ _ h => h) (Or.inl ⟨by rfl, ?h94⟩) hHeld ?r94
            case h94 => intro wq hS; go_simp; with_reducible rfl
            try simp only [Act.put, List.getElem_toArray, List.getElem_cons_zero, List.getElem_cons_succ, List.setIfInBounds_toArray, List.set_cons_zero, List.set_cons_succ]
            refine wpAnyH_take (i := 3) (v := ?v95) rfl (by kernel_rfl) (by kernel_rfl) (by kernel_rfl) (fun _ _ _ h => h) (Or.inl ⟨by rfl, ?h95⟩) hHeld ?r95
            case h95 => intro wq hS; go_simp; with_reducible rfl
            try simp only [Act.put, List.getElem_toArray, List.getElem_cons_zero, List.getElem_cons_succ, List.setIfInBounds_toArray, List.set_cons_zero, List.set_cons_succ]
            refine wpAnyH_take (i := 4) (v := ?v96) rfl (by kernel_rfl) (by kernel_rfl) (by kernel_rfl) (fun _ _ _ h => h) (Or.inl ⟨by rfl, ?h96⟩) hHeld ?r96
            case h96 => intro wq hS; go_simp; with_reducible rfl
            try simp only [Act.put, List.getElem_toArray, List.getElem_cons_zero, List.getElem_cons_succ, List.setIfInBounds_toArray, List.set_cons_zero, List.set_cons_succ]
            refine wpAnyH_take (i := 5) (v := ?v97) rfl (by kernel_rfl) (by kernel_rfl) (by kernel_rfl) (fun _ _ _ h => h) (Or.inl ⟨by rfl, ?h97⟩) hHeld ?r97
            case h97 => intro wq hS; obtain ⟨c0, c1, c2, c3, c4⟩ := (hA9 wq hS).2.2; go_simp; with_reducible rfl
            try simp only [Act.put, List.getElem_toArray, List.getElem_cons_zero, List.getElem_cons_succ, List.setIfInBounds_toArray, List.set_cons_zero, List.set_cons_succ]
            refine wpAnyH_take (i := 6) (v := ?v98) rfl (by kernel_rfl) (by kernel_rfl) (by kernel_rfl) (fun _ _ _ h => h) (Or.inl ⟨by rfl, ?h98⟩) hHeld ?r98
            case h98 => intro wq hS; go_simp; with_reducible rfl
            try simp only [Act.put, List.getElem_toArray, List.getElem_cons_zero, List.getElem_cons_succ, List.setIfInBounds_toArray, List.set_cons_zero, List.set_cons_succ]
            refine wpAnyH_take (i := 7) (v := ?v99) rfl (by kernel_rfl) (by kernel_rfl) (by kernel_rfl) (fun _ _ _ h => h) (Or.inl ⟨by rfl, ?h99⟩) hHeld ?r99
            case h99 => intro wq hS; obtain ⟨y0, y1, y2, y3, y4⟩ := (hA9 wq hS).2.1; go_simp; with_reducible rfl
            try simp only [Act.put, List.getElem_toArray, List.getElem_cons_zero, List.getElem_cons_succ, List.setIfInBounds_toArray, List.set_cons_zero, List.set_cons_succ]
            refine wpAnyH_take (i := 8) (v := ?v100) rfl (by kernel_rfl) (by kernel_rfl) (by kernel_rfl) (fun _ _ _ h => h) (Or.inl ⟨by rfl, ?h100⟩) hHeld ?r100
            case h100 => intro wq hS; go_simp; with_reducible rfl
            try simp only [Act.put, List.getElem_toArray, List.getElem_cons_zero, List.getElem_cons_succ, List.setIfInBounds_toArray, List.set_cons_zero, List.set_cons_succ]
            refine wpAnyH_take (i := 9) (v := ?v101) rfl (by kernel_rfl) (by kernel_rfl) (by kernel_rfl) (fun _ _ _ h => h) (Or.inl ⟨by rfl, ?h101⟩) hHeld ?r101
            case h101 => intro wq hS; go_simp; with_reducible rfl
            try simp only [Act.put, List.getElem_toArray, List.getElem_cons_zero, List.getElem_cons_succ, List.setIfInBounds_toArray, List.set_cons_zero, List.set_cons_succ]
            refine wpAnyH_take (i := 10) (v := undef) rfl (by kernel_rfl) (by kernel_rfl) (by kernel_rfl) (fun _ _ _ h => h) (Or.inr ⟨by rfl, rfl⟩) hHeld ?r102
            try simp only [Act.put, List.getElem_toArray, List.getElem_cons_zero, List.getElem_cons_succ, List.setIfInBounds_toArray, List.set_cons_zero, List.set_cons_succ]
            refine wpAnyH_take (i := 11) (v := undef) rfl (by kernel_rfl) (by kernel_rfl) (by kernel_rfl) (fun _ _ _ h => h) (Or.inr ⟨by rfl, rfl⟩) hHeld ?r103
            try simp only [Act.put, List.getElem_toArray, List.getElem_cons_zero, List.getElem_cons_succ, List.setIfInBounds_toArray, List.set_cons_zero, List.set_cons_succ]
            refine wpAnyH_take (i := 12) (v := undef) rfl (by kernel_rfl) (by kernel_rfl) (by kernel_rfl) (fun _ _ _ h => h) (Or.inr ⟨by rfl, rfl⟩) hHeld ?r104
            try simp only [Act.put, List.getElem_toArray, List.getElem_cons_zero, List.getElem_cons_succ, List.setIfInBounds_toArray, List.set_cons_zero, List.set_cons_succ]
            refine wpAnyH_take (i := 13) (v := undef) rfl (by kernel_rfl) (by kernel_rfl) (by kernel_rfl) (fun _ _ _ h => h) (Or.inr ⟨by rfl, rfl⟩) hHeld ?r105
            try simp only [Act.put, List.getElem_toArray, List.getElem_cons_zero, List.getElem_cons_succ, List.setIfInBounds_toArray, List.set_cons_zero, List.set_cons_succ]
            refine wpAnyH_take (i := 14) (v := undef) rfl (by kernel_rfl) (by kernel_rfl) (by kernel_rfl) (fun _ _ _ h => h) (Or.inr ⟨by rfl, rfl⟩) hHeld ?r106
            try simp only [Act.put, List.getElem_toArray, List.getElem_cons_zero, List.getElem_cons_succ, List.setIfInBounds_toArray, List.set_cons_zero, List.set_cons_succ]
            refine wpAnyH_take (i := 15) (v := undef) rfl (by kernel_rfl) (by kernel_rfl) (by kernel_rfl) (fun _ _ _ h => h) (Or.inr ⟨by rfl, rfl⟩) hHeld ?r107
            try simp only [Act.put, List.getElem_toArray, List.getElem_cons_zero, List.getElem_cons_succ, List.setIfInBounds_toArray, List.set_cons_zero, List.set_cons_succ]
            refine wpAnyH_take (i := 16) (v := undef) rfl (by kernel_rfl) (by kernel_rfl) (by kernel_rfl) (fun _ _ _ h => h) (Or.inr ⟨by rfl, rfl⟩) hHeld ?r108
            try simp only [Act.put, List.getElem_toArray, List.getElem_cons_zero, List.getElem_cons_succ, List.setIfInBounds_toArray, List.set_cons_zero, List.set_cons_succ]
            refine wpAnyH_take (i := 17) (v := undef) rfl (by kernel_rfl) (by kernel_rfl) (by kernel_rfl) (fun _ _ _ h => h) (Or.inr ⟨by rfl, rfl⟩) hHeld ?r109
            try simp only [Act.put, List.getElem_toArray, List.getElem_cons_zero, List.getElem_cons_succ, List.setIfInBounds_toArray, List.set_cons_zero, List.set_cons_succ]
            refine wpAnyH_take (i := 18) (v := undef) rfl (by kernel_rfl) (by kernel_rfl) (by kernel_rfl) (fun _ _ _ h => h) (Or.inr ⟨by rfl, rfl⟩) hHeld ?r110
            try simp only [Act.put, List.getElem_toArray, List.getElem_cons_zero, List.getElem_cons_succ, List.setIfInBounds_toArray, List.set_cons_zero, List.set_cons_succ]
            refine wpAnyH_take (i := 19) (v := ?v111) rfl (by kernel_rfl) (by kernel_rfl) (by kernel_rfl) (fun _ _ _ h => h) (Or.inl ⟨by rfl, ?h111⟩) hHeld ?r111
            case h111 => intro wq hS; go_simp; with_reducible rfl
            try simp only [Act.put, List.getElem_toArray, List.getElem_cons_zero, List.getElem_cons_succ, List.setIfInBounds_toArray, List.set_cons_zero, List.set_cons_succ]
            refine wpAnyH_done (by kernel_rfl) ?_ _
            go_wp2_with fail
            go_meet
            exact ⟨rfl, hHeld⟩
        case rest =>
        obtain ⟨rfl, hb9⟩ := hcut
        have hT4 := hT3.trans1 (Turned.of_below hb9)
        replace HO2 := Lib.hid (HO2.out.after hb9)
        replace HW2 := Lib.hid (own_below HW2.out hb9)
        have HA10 := Lib.hid (fun w' (hb : Below wc.heap.size wc w') => HA9.out w' (hb9.trans (hb.mono hb9.size)))
        have hlen2 : acc2.length ≤ 2 * k + 1 := by
          have e := HP2.out
          unfold putOne at e
          split at e <;> cases e <;> simp <;> omega
        have hstep : putAt rr rs (k + 1) = if c9 = true then (d2, acc2 ++ [⟨x0, x1, x2, x3, x4⟩]) else (d2, acc2) := by
          rw [putAt_succ rr rs k hkx, HP.out, HX.out]
          unfold putStep
          rw [HP2.out]
          unfold putTwo
          rw [HSAME.out, HC9.out]
        have HSTEP := Lib.hid hstep
        clear hstep hb9 HA9 HC9 HSAME hT3
        generalize wc = wd at hT4 HO2 HW2 HA10 ⊢
        cases c9
        · go_wp2_with fail
          go_roundw
          case rel => exact ⟨k + 1, (d2, acc2), v2, by go_num, rfl, by omega, Lib.hid (by have e := HSTEP.out; simpa using e), hT4, HO2, HW2⟩
          case measure => simp [intOf]; omega
        · go_upto_region 10 with fail
          have hob : ∀ b ∈ (w.heap.size + 1 + 1 + 1) :: v2.ownBlock.toList, w.heap.size < b := by
            intro b hb
            rcases List.mem_cons.1 hb with rfl | hb
            · omega
            · have h1 := (World.ownsRow.lt HW2.out b (by simpa using hb)).1
              have h2 := F3.out.lt
              omega
          have hF : ∀ w', Turned ((w.heap.size + 1 + 1 + 1) :: v2.ownBlock.toList) wd w' → w'.cell? ⟨w.heap.size, 0, none⟩ = some (.slice (some ⟨g, o, none⟩) n cap) ∧ RowAt w' g (o + k * 5) ⟨x0, x1, x2, x3, x4⟩ := by
            intro w' h
            have h0 := HLT.out _ rfl (fun e => by rw [e] at hkx; exact absurd hkx (by simp))
            obtain ⟨q0, _, qx⟩ := HA10.out wd (Below.refl _ _)
            have hz := F0.out.lt
            have hz2 := hT4.size
            have e0 := h.block w.heap.size (by omega) (fun hm => by have := hob _ hm; omega)
            have e1 := h.block g (by simp only at h0; omega) (fun hm => by have := hob _ hm; simp only at h0; omega)
            have cc : ∀ b j, w'.heap[b]? = wd.heap[b]? → w'.cell? ⟨b, j, none⟩ = wd.cell? ⟨b, j, none⟩ := fun b j e => World.cell?_of_block e
            exact ⟨(cc _ _ e0).trans q0, (cc _ _ e1).trans qx.1, (cc _ _ e1).trans qx.2.1, (cc _ _ e1).trans qx.2.2.1, (cc _ _ e1).trans qx.2.2.2.1, (cc _ _ e1).trans qx.2.2.2.2⟩
          unfold RowAt at hF
          simp only at hF
          have q5 : wd.cell? ⟨w.heap.size + 1 + 1 + 1, 0, none⟩ = some v2 := HO2.out.cell 0
          have hsz5 : w3.heap.size ≤ wd.heap.size := hT4.size
          have q6 : (wd.alloc (.cells #[.int .i64 x0, .int .i64 x1, .int .i64 x2, .int .i64 x3, .bool x4] 34)).cell? ⟨w.heap.size + 1 + 1 + 1, 0, none⟩ = some v2 := (HO2.out.alloc _).cell 0
          refine wp_region_held_drew (S := fun w' => Turned ((w.heap.size + 1 + 1 + 1) :: v2.ownBlock.toList) wd w') (by kernel_rfl) ((Turned.refl _ _).drew) (fun hHeld => ?_)
          refine wpAnyH_take (i := 0) (v := ?v44) rfl (by kernel_rfl) (by kernel_rfl) (by kernel_rfl) (fun _ _ _ h => h) (Or.inl ⟨by rfl, ?h44⟩) hHeld ?r44
          case h44 => intro wq hS; go_simp; with_reducible rfl
          try simp only [Act.put, List.getElem_toArray, List.getElem_cons_zero, List.getElem_cons_succ, List.setIfInBounds_toArray, List.set_cons_zero, List.set_cons_succ]
          refine wpAnyH_take (i := 2) (v := ?v45) rfl (by kernel_rfl) (by kernel_rfl) (by kernel_rfl) (fun _ _ _ h => h) (Or.inl ⟨by rfl, ?h45⟩) hHeld ?r45
          case h45 => intro wq hS; go_simp; with_reducible rfl
          try simp only [Act.put, List.getElem_toArray, List.getElem_cons_zero, List.getElem_cons_succ, List.setIfInBounds_toArray, List.set_cons_zero, List.set_cons_succ]
          refine wpAnyH_take (i := 3) (v := ?v46) rfl (by kernel_rfl) (by kernel_rfl) (by kernel_rfl) (fun _ _ _ h => h) (Or.inl ⟨by rfl, ?h46⟩) hHeld ?r46
          case h46 => intro wq hS; have q0 := (hF wq hS).1; go_simp; with_reducible rfl
          try simp only [Act.put, List.getElem_toArray, List.getElem_cons_zero, List.getElem_cons_succ, List.setIfInBounds_toArray, List.set_cons_zero, List.set_cons_succ]
          refine wpAnyH_take (i := 4) (v := ?v47) rfl (by kernel_rfl) (by kernel_rfl) (by kernel_rfl) (fun _ _ _ h => h) (Or.inl ⟨by rfl, ?h47⟩) hHeld ?r47
          case h47 => intro wq hS; go_simp; with_reducible rfl
          try simp only [Act.put, List.getElem_toArray, List.getElem_cons_zero, List.getElem_cons_succ, List.setIfInBounds_toArray, List.set_cons_zero, List.set_cons_succ]
          refine wpAnyH_take (i := 5) (v := ?v48) rfl (by kernel_rfl) (by kernel_rfl) (by kernel_rfl) (fun _ _ _ h => h) (Or.inl ⟨by rfl, ?h48⟩) hHeld ?r48
          case h48 => intro wq hS; go_simp; with_reducible rfl
          try simp only [Act.put, List.getElem_toArray, List.getElem_cons_zero, List.getElem_cons_succ, List.setIfInBounds_toArray, List.set_cons_zero, List.set_cons_succ]
          refine wpAnyH_take (i := 6) (v := ?v49) rfl (by kernel_rfl) (by kernel_rfl) (by kernel_rfl) (fun _ _ _ h => h) (Or.inl ⟨by rfl, ?h49⟩) hHeld ?r49
          case h49 => intro wq hS; obtain ⟨_, c0, c1, c2, c3, c4⟩ := hF wq hS; go_simp; with_reducible rfl
          try simp only [Act.put, List.getElem_toArray, List.getElem_cons_zero, List.getElem_cons_succ, List.setIfInBounds_toArray, List.set_cons_zero, List.set_cons_succ]
          refine wpAnyH_ready (rs := [1, 7]) (by kernel_rfl) (by simp) ?_
          refine AllReadyH.cons rfl (fun K hK => ?_) ?_
          · go_simp
            refine hK.out _ _ (hHeld) (fun hHeld => ?_)
            clear hK K
            try simp only [Act.put, List.getElem_toArray, List.getElem_cons_zero, List.getElem_cons_succ, List.setIfInBounds_toArray, List.set_cons_zero, List.set_cons_succ]
            refine wpAnyH_ready (rs := [7]) (by kernel_rfl) (by simp) ?_
            refine AllReadyH.cons rfl (fun K hK => ?_) AllReadyH.nil
            go_simp
            refine hK.out _ _ (hHeld.alloc _) (fun hHeld => ?_)
            clear hK K
            try simp only [Act.put, List.getElem_toArray, List.getElem_cons_zero, List.getElem_cons_succ, List.setIfInBounds_toArray, List.set_cons_zero, List.set_cons_succ]
            refine wpAnyH_ready (rs := [8]) (by kernel_rfl) (by simp) ?_
            refine AllReadyH.cons rfl (fun K hK => ?_) AllReadyH.nil
            refine step_append_lies _ rfl (.tmp 57) (.tmp 63) 24 rfl w3.heap.size 34 i0 (.agg #[.int .i64 0, .int .i64 0, .int .i64 0, .int .i64 0, .bool false]) 5 40 Try.underlying24 hi hz0 hz1 hz2 rfl (by decide) v2 _ _ rfl (World.ownsRow.alloc (World.ownsRow.drew HW2.out) _) ⟨wd.heap.size, 0, none⟩ 1 1 [.int .i64 x0, .int .i64 x1, .int .i64 x2, .int .i64 x3, .bool x4] rfl rfl (cells_new _ _ _) (by simp [Value.oneCell']) (by decide) (by unfold maxLen; simp only; omega) (by simp only; omega) (by simp; omega) _ rfl ?_
            intro ga ca w5 hown5 hgrow5 hat5 hlt5
            refine hK.out _ _ (turned_in hHeld hgrow5 (fun b hb => by rw [hb]; simp)) (fun hHeld => ?_)
            clear hK K
            try simp only [Act.put, List.getElem_toArray, List.getElem_cons_zero, List.getElem_cons_succ, List.setIfInBounds_toArray, List.set_cons_zero, List.set_cons_succ]
            refine wpAnyH_take (i := 9) (v := ?v50) rfl (by kernel_rfl) (by kernel_rfl) (by kernel_rfl) (fun _ _ _ h => h) (Or.inl ⟨by rfl, ?h50⟩) hHeld ?r50
            case h50 => intro wq hS; go_simp; with_reducible rfl
            try simp only [Act.put, List.getElem_toArray, List.getElem_cons_zero, List.getElem_cons_succ, List.setIfInBounds_toArray, List.set_cons_zero, List.set_cons_succ]
            refine wpAnyH_ready (rs := [10]) (by kernel_rfl) (by simp) ?_
            refine AllReadyH.cons rfl (fun K hK => ?_) AllReadyH.nil
            have hO5 : Blk w5 (w.heap.size + 1 + 1 + 1) #[v2, .int .i64 most] 26 := (hgrow5.block _ (by have := HO2.out.lt; simp; omega) (fun e => by have h1 := (World.ownsRow.lt HW2.out _ e.symm).1; have h2 := F3.out.lt; omega)).trans ((HO2.out.drew).alloc _)
            have z5 : w5.frozen? ⟨w.heap.size + 1 + 1 + 1, 0, none⟩ = false := hO5.frozen 0
            have c5 : w5.cell? ⟨w.heap.size + 1 + 1 + 1, 0, none⟩ = some v2 := hO5.cell 0
            go_simp
            refine hK.out _ _ (hHeld.setCell (by simp) _) (fun hHeld => ?_)
            clear hK K
            try simp only [Act.put, List.getElem_toArray, List.getElem_cons_zero, List.getElem_cons_succ, List.setIfInBounds_toArray, List.set_cons_zero, List.set_cons_succ]
            refine wpAnyH_done (by kernel_rfl) ?_ _
            have hT6 := (turned_grown (hT4.drew.alloc (.cells #[.int .i64 x0, .int .i64 x1, .int .i64 x2, .int .i64 x3, .bool x4] 34)) hgrow5 (fun b hb => (World.ownsRow.lt HW2.out b hb).1)).setCell (p := ⟨w.heap.size + 1 + 1 + 1, 0, none⟩) (by simp) (Value.slice (some ⟨ga, 0, none⟩) (acc2.length + 1) ca)
            have hO6 := hO5.set 0 (Value.slice (some ⟨ga, 0, none⟩) (acc2.length + 1) ca)
            have hW6 : OwnRw (w5.setCell ⟨w.heap.size + 1 + 1 + 1, 0, none⟩ (Value.slice (some ⟨ga, 0, none⟩) (acc2.length + 1) ca)) w3.heap.size (Value.slice (some ⟨ga, 0, none⟩) (acc2.length + 1) ca) (acc2 ++ [⟨x0, x1, x2, x3, x4⟩]) := by
              unfold OwnRw
              rw [List.length_append, List.flatMap_append]
              refine own_setCell (base := w3.heap.size) ?_ (F3.out.lt) _
              simpa [Rw.cs] using hown5
            have HT6 := Lib.hid hT6; have HO6 := Lib.hid hO6; have HW6 := Lib.hid hW6
            clear hT6 hO6 hW6 hown5 hgrow5 hat5 hlt5 hO5 z5 c5 hHeld hF q5 q6 hob
            go_wp2_with fail
            go_roundw
            case rel => exact ⟨k + 1, (d2, acc2 ++ [⟨x0, x1, x2, x3, x4⟩]), _, by go_num, rfl, by omega, Lib.hid (by have e := HSTEP.out; simpa using e), HT6.out, HO6, HW6⟩
            case measure => simp [intOf]; omega
          refine AllReadyH.cons rfl (fun K hK => ?_) AllReadyH.nil
          · go_simp
            refine hK.out _ _ (hHeld.alloc _) (fun hHeld => ?_)
            clear hK K
            try simp only [Act.put, List.getElem_toArray, List.getElem_cons_zero, List.getElem_cons_succ, List.setIfInBounds_toArray, List.set_cons_zero, List.set_cons_succ]
            refine wpAnyH_ready (rs := [1]) (by kernel_rfl) (by simp) ?_
            refine AllReadyH.cons rfl (fun K hK => ?_) AllReadyH.nil
            go_simp
            refine hK.out _ _ (hHeld) (fun hHeld => ?_)
            clear hK K
            try simp only [Act.put, List.getElem_toArray, List.getElem_cons_zero, List.getElem_cons_succ, List.setIfInBounds_toArray, List.set_cons_zero, List.set_cons_succ]
            refine wpAnyH_ready (rs := [8]) (by kernel_rfl) (by simp) ?_
            refine AllReadyH.cons rfl (fun K hK => ?_) AllReadyH.nil
            refine step_append_lies _ rfl (.tmp 57) (.tmp 63) 24 rfl w3.heap.size 34 i0 (.agg #[.int .i64 0, .int .i64 0, .int .i64 0, .int .i64 0, .bool false]) 5 40 Try.underlying24 hi hz0 hz1 hz2 rfl (by decide) v2 _ _ rfl (World.ownsRow.drew (World.ownsRow.alloc HW2.out _)) ⟨wd.heap.size, 0, none⟩ 1 1 [.int .i64 x0, .int .i64 x1, .int .i64 x2, .int .i64 x3, .bool x4] rfl rfl (cells_new wd _ _) (by simp [Value.oneCell']) (by decide) (by unfold maxLen; simp only; omega) (by simp only; omega) (by simp; omega) _ rfl ?_
            intro ga ca w5 hown5 hgrow5 hat5 hlt5
            refine hK.out _ _ (turned_in hHeld hgrow5 (fun b hb => by rw [hb]; simp)) (fun hHeld => ?_)
            clear hK K
            try simp only [Act.put, List.getElem_toArray, List.getElem_cons_zero, List.getElem_cons_succ, List.setIfInBounds_toArray, List.set_cons_zero, List.set_cons_succ]
            refine wpAnyH_take (i := 9) (v := ?v51) rfl (by kernel_rfl) (by kernel_rfl) (by kernel_rfl) (fun _ _ _ h => h) (Or.inl ⟨by rfl, ?h51⟩) hHeld ?r51
            case h51 => intro wq hS; go_simp; with_reducible rfl
            try simp only [Act.put, List.getElem_toArray, List.getElem_cons_zero, List.getElem_cons_succ, List.setIfInBounds_toArray, List.set_cons_zero, List.set_cons_succ]
            refine wpAnyH_ready (rs := [10]) (by kernel_rfl) (by simp) ?_
            refine AllReadyH.cons rfl (fun K hK => ?_) AllReadyH.nil
            have hO5 : Blk w5 (w.heap.size + 1 + 1 + 1) #[v2, .int .i64 most] 26 := (hgrow5.block _ (by have := HO2.out.lt; simp; omega) (fun e => by have h1 := (World.ownsRow.lt HW2.out _ e.symm).1; have h2 := F3.out.lt; omega)).trans ((HO2.out.drew).alloc _)
            have z5 : w5.frozen? ⟨w.heap.size + 1 + 1 + 1, 0, none⟩ = false := hO5.frozen 0
            have c5 : w5.cell? ⟨w.heap.size + 1 + 1 + 1, 0, none⟩ = some v2 := hO5.cell 0
            go_simp
            refine hK.out _ _ (hHeld.setCell (by simp) _) (fun hHeld => ?_)
            clear hK K
            try simp only [Act.put, List.getElem_toArray, List.getElem_cons_zero, List.getElem_cons_succ, List.setIfInBounds_toArray, List.set_cons_zero, List.set_cons_succ]
            refine wpAnyH_done (by kernel_rfl) ?_ _
            have hT6 := (turned_grown (hT4.drew.alloc (.cells #[.int .i64 x0, .int .i64 x1, .int .i64 x2, .int .i64 x3, .bool x4] 34)) hgrow5 (fun b hb => (World.ownsRow.lt HW2.out b hb).1)).setCell (p := ⟨w.heap.size + 1 + 1 + 1, 0, none⟩) (by simp) (Value.slice (some ⟨ga, 0, none⟩) (acc2.length + 1) ca)
            have hO6 := hO5.set 0 (Value.slice (some ⟨ga, 0, none⟩) (acc2.length + 1) ca)
            have hW6 : OwnRw (w5.setCell ⟨w.heap.size + 1 + 1 + 1, 0, none⟩ (Value.slice (some ⟨ga, 0, none⟩) (acc2.length + 1) ca)) w3.heap.size (Value.slice (some ⟨ga, 0, none⟩) (acc2.length + 1) ca) (acc2 ++ [⟨x0, x1, x2, x3, x4⟩]) := by
              unfold OwnRw
              rw [List.length_append, List.flatMap_append]
              refine own_setCell (base := w3.heap.size) ?_ (F3.out.lt) _
              simpa [Rw.cs] using hown5
            have HT6 := Lib.hid hT6; have HO6 := Lib.hid hO6; have HW6 := Lib.hid hW6
            clear hT6 hO6 hW6 hown5 hgrow5 hat5 hlt5 hO5 z5 c5 hHeld hF q5 q6 hob
            go_wp2_with fail
            go_roundw
            case rel => exact ⟨k + 1, (d2, acc2 ++ [⟨x0, x1, x2, x3, x4⟩]), _, by go_num, rfl, by omega, Lib.hid (by have e := HSTEP.out; simpa using e), HT6.out, HO6, HW6⟩
            case measure => simp [intOf]; omega
    · have hke : k = n := by omega
      subst hke
      have hlt' : ¬ ((k : Int) < (k : Int)) := by omega
      have c5 : wr.cell? ⟨w.heap.size + 1 + 1 + 1, 0, none⟩ = some v := HO.out.cell 0
      have hres2 : res = if d = true then acc else acc ++ [rr] := by
        rw [← HRES.out]
        unfold putRows
        rw [HN.out, HP.out]
      have HRES2 := Lib.hid hres2
      have hlenA : acc.length ≤ 2 * k := by have e := putAt_len rr rs k; rw [HP.out] at e; exact e
      have kR := F1.out.turned hT (by simp only [List.mem_singleton]; omega)
      clear hres2 kA
      go_upto_if 67 with fail
      clear d0 c5
      go_cut [] (fun wx => ∃ u, Hid (Blk wx (w.heap.size + 1 + 1 + 1) #[u, .int .i64 most] 26) ∧ Hid (OwnRw wx w3.heap.size u res) ∧ Turned [w.heap.size + 1 + 1 + 1] w3 wx)
      case first =>
        cases d
        case true =>
          have HE := Lib.hid (show res = acc by have e := HRES2.out; simpa using e)
          go_wp2_with fail
          go_meet
          exact ⟨v, HO, Lib.hid (by rw [HE.out]; exact HW.out), hT⟩
        case false =>
          have HE := Lib.hid (show res = acc ++ [rr] by have e := HRES2.out; simpa using e)
          have e0 : wr.cell? ⟨w.heap.size + 1, 0, none⟩ = some (.int .i64 r0) := kR.cell 0
          have e1 : wr.cell? ⟨w.heap.size + 1, 1, none⟩ = some (.int .i64 r1) := kR.cell 1
          have e2 : wr.cell? ⟨w.heap.size + 1, 2, none⟩ = some (.int .i64 r2) := kR.cell 2
          have e3 : wr.cell? ⟨w.heap.size + 1, 3, none⟩ = some (.int .i64 r3) := kR.cell 3
          have e4 : wr.cell? ⟨w.heap.size + 1, 4, none⟩ = some (.bool r4) := kR.cell 4
          have e5 : wr.cell? ⟨w.heap.size + 1 + 1 + 1, 0, none⟩ = some v := HO.out.cell 0
          clear kR
          go_wp2_with (at_builtin; apply stop_here)
          refine stop_go ?_
          refine wpList_append_own_at _ rfl _ _ 24 rfl w3.heap.size 34 i0 (.agg #[.int .i64 0, .int .i64 0, .int .i64 0, .int .i64 0, .bool false]) 5 40 Try.underlying24 hi hz0 hz1 hz2 rfl (by decide) _ _ _ rfl (World.ownsRow.alloc HW.out _) ⟨wr.heap.size, 0, none⟩ 1 1 [.int .i64 r0, .int .i64 r1, .int .i64 r2, .int .i64 r3, .bool r4] rfl rfl (cells_new _ _ _) (by simp [Value.oneCell']) (by unfold maxLen; omega) (by omega) (by have := hT.size; simp; omega) ?_
          intro v' w5 hown5 hgrow5 _ _
          obtain ⟨va, vc, rfl⟩ := own_form hown5
          generalize hv' : Value.slice va (acc.length + 1) vc = v' at hown5
          clear e0 e1 e2 e3 e4 e5
          have hnb : v.ownBlock ≠ some (w.heap.size + 1 + 1 + 1) := fun e => by have h1 := (World.ownsRow.lt HW.out _ e).1; have h2 := F3.out.lt; omega
          have hT5 : Turned [w.heap.size + 1 + 1 + 1] w3 w5 := turned_grown (hT.alloc _) hgrow5 (fun b hb => (World.ownsRow.lt HW.out _ hb).1)
          have hO5 : Blk w5 (w.heap.size + 1 + 1 + 1) #[v, .int .i64 most] 26 := (hgrow5.block _ (by have := HO.out.lt; simp; omega) (fun e => hnb e.symm)).trans (HO.out.alloc _)
          have z5 : w5.frozen? ⟨w.heap.size + 1 + 1 + 1, 0, none⟩ = false := hO5.frozen 0
          have c5 : w5.cell? ⟨w.heap.size + 1 + 1 + 1, 0, none⟩ = some v := hO5.cell 0
          have hO6 := hO5.set 0 v'
          have hT6 := hT5.setCell (p := ⟨w.heap.size + 1 + 1 + 1, 0, none⟩) (by simp) v'
          have hrv : (⟨r0, r1, r2, r3, r4⟩ : Rw) = rr := HRR.out
          have hW6 : OwnRw (w5.setCell ⟨w.heap.size + 1 + 1 + 1, 0, none⟩ v') w3.heap.size v' (acc ++ [rr]) := by
            rw [← hrv]
            unfold OwnRw
            rw [List.length_append, List.flatMap_append]
            refine own_setCell (base := w3.heap.size) ?_ (F3.out.lt) v'
            simpa [Rw.cs] using hown5
          subst hv'
          rw [← HE.out] at hW6
          have HT6 := Lib.hid hT6; have HO6 := Lib.hid hO6; have HW6 := Lib.hid hW6
          clear hown5 hgrow5 hT5 hO5 hO6 hT6 hW6 hrv hnb
          go_wp2_with fail
          go_meet
          exact ⟨_, HO6, HW6, HT6.out⟩
      case rest =>
      obtain ⟨u, HO, HW, hT⟩ := hcut
      obtain ⟨ua, uc, rfl⟩ := own_form HW.out
      have f2 := F2.out.turned hT (by simp only [List.mem_singleton]; omega)
      have c3 : wc.cell? ⟨w.heap.size + 1 + 1 + 1, 0, none⟩ = some (.slice ua res.length uc) := HO.out.cell 0
      have c4 : wc.cell? ⟨w.heap.size + 1 + 1 + 1, 1, none⟩ = some (.int .i64 most) := HO.out.cell 1
      have c0 : wc.cell? ⟨w.heap.size + 1 + 1, 0, none⟩ = some (.slice none 0 0) := f2.cell 0
      have c1 : wc.cell? ⟨w.heap.size + 1 + 1, 1, none⟩ = some (.int .i64 0) := f2.cell 1
      have z2 := f2.frozen
      have y2 := f2.shape
      have g2 := (f2.set 0 (.slice ua res.length uc)).set 1 (.int .i64 most)
      have hz3 := HB3.out.size
      have hB : Below w.heap.size w ((wc.setCell ⟨w.heap.size + 1 + 1, 0, none⟩ (.slice ua res.length uc)).setCell ⟨w.heap.size + 1 + 1, 1, none⟩ (.int .i64 most)) :=
        ((HB3.out.trans (hT.below hz3 (fun b hb => by simp at hb; omega))).setCell (by simp only; omega) _).setCell (by simp only; omega) _
      have hW2 : OwnRw ((wc.setCell ⟨w.heap.size + 1 + 1, 0, none⟩ (.slice ua res.length uc)).setCell ⟨w.heap.size + 1 + 1, 1, none⟩ (.int .i64 most)) w3.heap.size (.slice ua res.length uc) res :=
        own_setCell (own_setCell HW.out F2.out.lt _) F2.out.lt _
      have G2 := Lib.hid g2; have HB := Lib.hid hB; have HW2 := Lib.hid hW2
      clear f2 g2 hB hW2 kR HW HO
      go_wp2_with fail
      have r0 : ((wc.setCell ⟨w.heap.size + 1 + 1, 0, none⟩ (.slice ua res.length uc)).setCell ⟨w.heap.size + 1 + 1, 1, none⟩ (.int .i64 most)).cell? ⟨w.heap.size + 1 + 1, 0, none⟩ = some (.slice ua res.length uc) := G2.out.cell 0
      have r1 : ((wc.setCell ⟨w.heap.size + 1 + 1, 0, none⟩ (.slice ua res.length uc)).setCell ⟨w.heap.size + 1 + 1, 1, none⟩ (.int .i64 most)).cell? ⟨w.heap.size + 1 + 1, 1, none⟩ = some (.int .i64 most) := G2.out.cell 1
      have HBo := HB.out; have HWo := HW2.out
      clear G2 HB HW2 c0 c1 c3 c4 z2 y2
      generalize (wc.setCell ⟨w.heap.size + 1 + 1, 0, none⟩ (.slice ua res.length uc)).setCell ⟨w.heap.size + 1 + 1, 1, none⟩ (.int .i64 most) = W at r0 r1 HBo HWo ⊢
      obtain ⟨a', cap', e', hs', hbase', _, hcap'⟩ := SlIn.of_owns (K := kdRw) HWo rfl
      cases e'
      refine bodyPost_ret (v := .agg #[.slice ua res.length uc, .int .i64 most]) (by simp [results, Try.results48, go_sem, r0, r1]) rfl ⟨blkN ua res.length, ua, res.length, uc, most, rfl, ⟨ua, uc, rfl, hs', ⟨rfl, hcap'⟩, ?_, ?_⟩, ?_, HBo⟩
      · show res.length ≤ 2097152
        have e := HRES2.out
        by_cases hd : d = true
        · rw [if_pos hd] at e; rw [e]; omega
        · rw [if_neg hd] at e; rw [e, List.length_append]; simp; omega
      · exact ⟨fun x hx => putRows_fits HRF.out HFIT.out.1 (by rw [HRES.out]; exact hx), HFIT.out.2⟩
      · intro b hb
        unfold blkN at hb
        by_cases h0 : res.length = 0
        · rw [if_pos h0] at hb; cases hb
        · rw [if_neg h0] at hb
          cases ua with
          | none => cases hb
          | some y =>
            simp [blkOf] at hb
            have := hbase' y rfl
            omega
end Go.Proofs.Ytleebmbnjdoinaa
