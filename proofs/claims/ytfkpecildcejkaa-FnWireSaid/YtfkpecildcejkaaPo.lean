/- l06Without and l06Put of the model. -/
import Derived.Test.YtfkpecildcejkaaPt
namespace Go.Proofs.Ytfkpecildcejkaa
open Go.RowKit

theorem infoI : (Try.prog.info? 3).map (fun i => (i.zero, i.size, i.bytes)) = some (some (.int .i64 0), 1, 8) := by kernel_rfl
def OwnI (w : World) (base : Nat) (v : Value) (xs : List Int) : Prop := w.ownsRow base 3 1 v xs.length (xs.map (Value.int .i64))
theorem own_emptyI (w : World) : OwnI (w.alloc (.cells #[] 3)) w.heap.size (.slice (some ⟨w.heap.size, 0, none⟩) 0 0) [] :=
  ⟨rfl, .inr ⟨w.heap.size, 0, #[], rfl, Nat.le_refl _, by show (w.heap.push _)[w.heap.size]? = _; simp, Nat.le_refl _, by decide, rfl, rfl⟩⟩
theorem flat_int (xs : List Int) : xs.flatMap kdI.cs = xs.map (Value.int .i64) := by
  induction xs with
  | nil => rfl
  | cons x l ih => rw [List.flatMap_cons, ih]; rfl
theorem ownI_below {w w' : World} {base : Nat} {v : Value} {xs : List Int} (h : OwnI w base v xs) (hb : Below w.heap.size w w') : OwnI w' base v xs :=
  World.ownsRow.kept (row := none) h ⟨hb.os, hb.tape, hb.output, hb.size, fun k hk _ => hb.block k hk⟩ (by cases v.ownBlock <;> simp)
theorem ownI_slin {w : World} {base : Nat} {v : Value} {xs : List Int} (h : OwnI w base v xs) :
    ∃ a cap, v = .slice a xs.length cap ∧ SlIn kdI w a xs ∧ (∀ x, a = some x → base ≤ x.block) ∧ (∀ x, a = some x → x.block < w.heap.size) ∧ xs.length ≤ cap := by
  unfold OwnI at h
  rw [← flat_int] at h
  exact SlIn.of_owns (K := kdI) h rfl

/-- where a walk is to stop -/
def Halt (p : Prop) : Prop := p
theorem halt_here {p : Prop} (h : Halt p) : p := h
theorem halt_go {p : Prop} (h : p) : Halt p := h

theorem without_snoc (xs : List Int) (x y : Int) : without (xs ++ [y]) x = without xs x ++ (if y = x then [] else [y]) := by
  unfold without
  rw [List.filter_append]
  by_cases h : y = x <;> simp [h]

set_option linter.unusedSimpArgs false in
set_option maxHeartbeats 1000000 in
set_option maxRecDepth 20000 in
theorem without_spec (xs : List Int) (a : Option Addr) (n cap : Nat) (x : Int) (w : World) (hn : xs.length = n) (hx : SlIn kdI w a xs) (hsz : n ≤ 2097152) :
    Calls Try.prog 63 #[.slice a n cap, .int .i64 x] w fun e w' => ∃ v, e = .returned v ∧ OwnI w' w.heap.size v (without xs x) ∧ Below w.heap.size w w' := by
  have HX := Lib.hid hx; have HN := Lib.hid hn
  clear hx hn
  obtain ⟨i0, hi, hz0, hz1, hz2⟩ := info_parts infoI
  go_enter Try.func63, Try.ntmps63
  go_wp2_with fail
  have HFR0 := Lib.hid (show OwnI (w.alloc (.cells #[] 3)) w.heap.size (.slice (some ⟨w.heap.size, 0, none⟩) 0 0) (without (xs.take 0) x) from own_emptyI w)
  have hb0 : Below w.heap.size w (w.alloc (.cells #[] 3)) := (Below.refl _ _).alloc (Nat.le_refl _) _
  go_loopw [5, 6] (fun q i wr => ∃ (k : Nat) (v : Value), i = .int .i64 (k : Nat) ∧ v = q ∧ k ≤ n ∧ Below w.heap.size w wr ∧ Hid (OwnI wr w.heap.size v (without (xs.take k) x)))
    (fun _ i _ => n - (intOf i).toNat)
  case atStart => exact ⟨0, _, rfl, rfl, Nat.zero_le _, hb0, HFR0⟩
  case round =>
    obtain ⟨k, v, rfl, rfl, hk, hWR, HV⟩ := hrel
    clear hb0 HFR0
    by_cases hlt : k < n
    · have hkx : k < xs.length := by rw [HN.out]; exact hlt
      obtain ⟨g, o, rfl, _, hA⟩ := intAt HX.out k hkx
      have hc := (hA wr hWR).1
      clear hA
      have hsn : without (xs.take (k + 1)) x = without (xs.take k) x ++ (if xs[k] = x then [] else [xs[k]]) := by rw [List.take_succ_eq_append_getElem hkx, without_snoc]
      obtain ⟨y, hy⟩ : ∃ y, xs[k] = y := ⟨_, rfl⟩
      rw [hy] at hc hsn
      clear hy
      by_cases he : y = x
      · rw [if_pos he, List.append_nil] at hsn
        rw [← hsn] at HV
        clear hsn
        subst he
        go_wp2_with fail
        go_roundw
        case rel => exact ⟨k + 1, v, by go_num, rfl, by omega, hWR, HV⟩
        case measure => simp [intOf]; omega
      · rw [if_neg he] at hsn
        have hlv : (without (xs.take k) x).length ≤ 2097152 := Nat.le_trans (without_len _ _) (by rw [List.length_take]; omega)
        have HSN := Lib.hid hsn
        clear hsn
        obtain ⟨va, vc, rfl⟩ : ∃ va vc, v = .slice va (without (xs.take k) x).length vc := by
          obtain ⟨a1, c1, e1, _⟩ := ownI_slin HV.out
          exact ⟨a1, c1, e1⟩
        go_wp2_with (at_builtin; apply halt_here)
        refine halt_go ?_
        refine wpList_append_own_at _ rfl _ _ 24 rfl w.heap.size 3 i0 (.int .i64 0) 1 8 Try.underlying24 hi hz0 hz1 hz2 rfl (by decide) _ _ _ rfl (World.ownsRow.alloc HV.out _) ⟨wr.heap.size, 0, none⟩ 1 1 [.int .i64 y] rfl rfl (cell_one_new _ _ _) (by simp [Value.oneCell']) (by unfold maxLen; omega) (by omega) (by have := hWR.size; simp; omega) ?_
        intro v' w5 hown5 hgrow5 _ _
        have hB5 : Below w.heap.size w w5 := (hWR.alloc hWR.size _).grown hgrow5 (by have := hWR.size; simp; omega) (fun g e => (World.ownsRow.lt HV.out g e).1)
        have HV5 := Lib.hid (show OwnI w5 w.heap.size v' (without (xs.take (k + 1)) x) from by
          unfold OwnI
          rw [HSN.out, List.length_append, List.map_append]
          exact hown5)
        have HB5 := Lib.hid hB5
        clear hown5 hgrow5 hB5
        go_wp2_with fail
        go_roundw
        case rel => exact ⟨k + 1, v', by go_num, rfl, by omega, HB5.out, HV5⟩
        case measure => simp [intOf]; omega
    · have hke : k = n := by omega
      have hlt' : ¬ ((k : Int) < (n : Int)) := by omega
      have htk : xs.take k = xs := List.take_of_length_le (by rw [HN.out]; omega)
      rw [htk] at HV
      clear hke htk
      obtain ⟨va, vc, rfl⟩ : ∃ va vc, v = .slice va (without xs x).length vc := by
        obtain ⟨a1, c1, e1, _⟩ := ownI_slin HV.out
        exact ⟨a1, c1, e1⟩
      go_wp2_with fail
      go_ret
      exact ⟨_, rfl, HV.out, hWR⟩

theorem putN_lt {l : List Int} {x : Int} (h : ∀ y ∈ l, y < x) : putN l x = l ++ [x] := by
  unfold putN
  rw [List.filter_eq_self.2 (fun y hy => by simpa using h y hy), List.filter_eq_nil_iff.2 (fun y hy => by have := h y hy; simp; omega)]
theorem putN_gt {l : List Int} {x y : Int} (h : x < y) : putN (l ++ [y]) x = putN l x ++ [y] := by
  have h1 : ¬ y < x := by omega
  unfold putN
  simp [List.filter_append, h, h1]
theorem putN_eq {l : List Int} {x : Int} (h : ∀ y ∈ l, y < x) : putN (l ++ [x]) x = l ++ [x] := by
  have e := putN_lt h
  unfold putN at e ⊢
  simp only [List.filter_append]
  simpa using e

/-- how far a number is put in -/
def putTo (l : List Int) (x : Int) (d : Bool) : List Int := if d = true then putN l x else l
def doneAt (l : List Int) (x : Int) (d : Bool) : Prop := if d = true then ∃ y ∈ l, x ≤ y else ∀ y ∈ l, y < x
theorem putTo_len (l : List Int) (x : Int) (d : Bool) : (putTo l x d).length ≤ l.length + 1 := by
  unfold putTo
  split
  · exact putN_len l x
  · omega

set_option linter.unusedSimpArgs false in
set_option maxHeartbeats 1000000 in
set_option maxRecDepth 20000 in
theorem put6_spec (xs : List Int) (a : Option Addr) (n cap : Nat) (x : Int) (w : World) (hn : xs.length = n) (hx : SlIn kdI w a xs) (hsz : n ≤ 2097152) (hasc : xs.Pairwise (· < ·)) :
    Calls Try.prog 62 #[.slice a n cap, .int .i64 x] w fun e w' => ∃ v, e = .returned v ∧ OwnI w' w.heap.size v (putN xs x) ∧ Below w.heap.size w w' := by
  have HX := Lib.hid hx; have HN := Lib.hid hn; have HASC := Lib.hid hasc
  clear hx hn hasc
  obtain ⟨i0, hi, hz0, hz1, hz2⟩ := info_parts infoI
  go_enter Try.func62, Try.ntmps62
  go_wp2_with fail
  have HFR0 := Lib.hid (show OwnI (w.alloc (.cells #[] 3)) w.heap.size (.slice (some ⟨w.heap.size, 0, none⟩) 0 0) (putTo (xs.take 0) x false) from own_emptyI w)
  have hb0 : Below w.heap.size w (w.alloc (.cells #[] 3)) := (Below.refl _ _).alloc (Nat.le_refl _) _
  go_loopw [5, 6, 7] (fun q dn i wr => ∃ (k : Nat) (v : Value) (d : Bool), i = .int .i64 (k : Nat) ∧ v = q ∧ dn = .bool d ∧ k ≤ n ∧ Below w.heap.size w wr ∧ Hid (OwnI wr w.heap.size v (putTo (xs.take k) x d)) ∧ Hid (doneAt (xs.take k) x d))
    (fun _ _ i _ => n - (intOf i).toNat)
  case atStart => exact ⟨0, _, false, rfl, rfl, rfl, Nat.zero_le _, hb0, HFR0, Lib.hid (by simp [doneAt])⟩
  case round =>
    obtain ⟨k, v, d, rfl, rfl, rfl, hk, hWR, HV, HD⟩ := hrel
    clear hb0 HFR0
    by_cases hlt : k < n
    · have hkx : k < xs.length := by rw [HN.out]; exact hlt
      obtain ⟨g, o, rfl, _, hA⟩ := intAt HX.out k hkx
      have hA1 := fun w' (hb : Below w.heap.size w w') => (hA w' hb).1
      have hc := hA1 wr hWR
      clear hA
      have htk : xs.take (k + 1) = xs.take k ++ [xs[k]] := List.take_succ_eq_append_getElem hkx
      have hlt2 : ∀ z ∈ xs.take k, z < xs[k] := by
        have h := HASC.out.sublist (List.take_sublist (k + 1) xs)
        rw [htk, List.pairwise_append] at h
        exact fun z hz => h.2.2 z hz _ (by simp)
      have htl : (xs.take k).length ≤ k := by rw [List.length_take]; omega
      generalize xs[k] = y at *
      generalize xs.take k = l at *
      cases d
      · simp only [doneAt, putTo, Bool.false_eq_true, if_false] at HD HV
        by_cases hge : x ≤ y
        · by_cases he : y = x
          · subst he
            have hp : putN (xs.take (k + 1)) y = l ++ [y] := by rw [htk]; exact putN_eq HD.out
            have hd1 : doneAt (xs.take (k + 1)) y true := by rw [htk]; exact ⟨y, by simp, Int.le_refl _⟩
            have HP := Lib.hid hp; have HD1 := Lib.hid hd1
            clear hp hd1 htk hlt2 HD
            obtain ⟨va, vc, rfl⟩ : ∃ va vc, v = .slice va (l).length vc := by
              obtain ⟨a1, c1, e1, _⟩ := ownI_slin HV.out
              exact ⟨a1, c1, e1⟩
            go_wp2_with (at_builtin; apply halt_here)
            refine halt_go ?_
            refine wpList_append_own_at _ rfl _ _ 24 rfl w.heap.size 3 i0 (.int .i64 0) 1 8 Try.underlying24 hi hz0 hz1 hz2 rfl (by decide) _ _ _ rfl (World.ownsRow.alloc HV.out _) ⟨wr.heap.size, 0, none⟩ 1 1 [.int .i64 y] rfl rfl (cell_one_new _ _ _) (by simp [Value.oneCell']) (by unfold maxLen; omega) (by omega) (by have := hWR.size; simp; omega) ?_
            intro v5 w5 hown5 hgrow5 _ _
            have hB5 : Below w.heap.size w w5 := (hWR.alloc hWR.size _).grown hgrow5 (by have := hWR.size; simp; omega) (fun g e => (World.ownsRow.lt HV.out g e).1)
            have HV5 := Lib.hid (show OwnI w5 w.heap.size v5 (putTo (xs.take (k + 1)) y true) from by
              unfold OwnI
              rw [show putTo (xs.take (k + 1)) y true = l ++ [y] from HP.out, List.length_append, List.map_append]
              exact hown5)
            clear hown5 hgrow5
            have hc5 := hA1 w5 hB5
            clear hc hA1
            go_wp2_with fail
            go_roundw
            case rel => exact ⟨k + 1, v5, true, by go_num, rfl, rfl, by omega, hB5, HV5, HD1⟩
            case measure => simp [intOf]; omega
          · have hxy : x < y := by omega
            have hp : putN (xs.take (k + 1)) x = (l ++ [x]) ++ [y] := by rw [htk, putN_gt hxy, putN_lt HD.out]
            have hd1 : doneAt (xs.take (k + 1)) x true := by rw [htk]; exact ⟨y, by simp, by omega⟩
            have HP := Lib.hid hp; have HD1 := Lib.hid hd1
            clear hp hd1 htk hlt2 HD
            obtain ⟨va, vc, rfl⟩ : ∃ va vc, v = .slice va (l).length vc := by
              obtain ⟨a1, c1, e1, _⟩ := ownI_slin HV.out
              exact ⟨a1, c1, e1⟩
            go_wp2_with (at_builtin; apply halt_here)
            refine halt_go ?_
            refine wpList_append_own_at _ rfl _ _ 24 rfl w.heap.size 3 i0 (.int .i64 0) 1 8 Try.underlying24 hi hz0 hz1 hz2 rfl (by decide) _ _ _ rfl (World.ownsRow.alloc HV.out _) ⟨wr.heap.size, 0, none⟩ 1 1 [.int .i64 x] rfl rfl (cell_one_new _ _ _) (by simp [Value.oneCell']) (by unfold maxLen; omega) (by omega) (by have := hWR.size; simp; omega) ?_
            intro v5 w5 hown5 hgrow5 _ _
            have hB5 : Below w.heap.size w w5 := (hWR.alloc hWR.size _).grown hgrow5 (by have := hWR.size; simp; omega) (fun g e => (World.ownsRow.lt HV.out g e).1)
            have HV5 := Lib.hid (show OwnI w5 w.heap.size v5 (l ++ [x]) from by
              unfold OwnI
              rw [List.length_append, List.map_append]
              exact hown5)
            clear hown5 hgrow5
            have hc5 := hA1 w5 hB5
            have hl5 : (l ++ [x]).length ≤ 2097153 := by simp; omega
            clear hc hA1
            obtain ⟨m5, hm5⟩ : ∃ m, (l ++ [x]).length = m := ⟨_, rfl⟩
            obtain ⟨va5, vc5, rfl⟩ : ∃ va vc, v5 = .slice va m5 vc := by
              obtain ⟨a1, c1, e1, _⟩ := ownI_slin HV5.out
              exact ⟨a1, c1, by rw [← hm5]; exact e1⟩
            have hv5 := HV5.out
            unfold OwnI at hv5
            rw [hm5] at hv5 hl5
            replace HV5 := Lib.hid hv5
            have HM5 := Lib.hid hm5
            clear hv5 hm5
            go_wp2_with (at_builtin; apply halt_here)
            refine halt_go ?_
            refine wpList_append_own_at _ rfl _ _ 24 rfl w.heap.size 3 i0 (.int .i64 0) 1 8 Try.underlying24 hi hz0 hz1 hz2 rfl (by decide) _ _ _ rfl (World.ownsRow.alloc HV5.out _) ⟨w5.heap.size, 0, none⟩ 1 1 [.int .i64 y] rfl rfl (cell_one_new _ _ _) (by simp [Value.oneCell']) (by unfold maxLen; omega) (by omega) (by have := hB5.size; simp; omega) ?_
            intro v6 w6 hown5 hgrow5 _ _
            have hB6 : Below w.heap.size w w6 := (hB5.alloc hB5.size _).grown hgrow5 (by have := hB5.size; simp; omega) (fun g e => (World.ownsRow.lt HV5.out g e).1)
            have HV6 := Lib.hid (show OwnI w6 w.heap.size v6 (putTo (xs.take (k + 1)) x true) from by
              unfold OwnI
              rw [show putTo (xs.take (k + 1)) x true = (l ++ [x]) ++ [y] from HP.out, List.length_append, List.map_append, HM5.out]
              exact hown5)
            clear hown5 hgrow5
            clear hB5
            go_wp2_with fail
            go_roundw
            case rel => exact ⟨k + 1, v6, true, by go_num, rfl, rfl, by omega, hB6, HV6, HD1⟩
            case measure => simp [intOf]; omega
        · have hyx : y < x := by omega
          have hne : ¬ y = x := by omega
          have hd1 : doneAt (xs.take (k + 1)) x false := by
            rw [htk]
            intro z hz
            rcases List.mem_append.1 hz with h | h
            · exact HD.out z h
            · rw [List.mem_singleton] at h; subst h; exact hyx
          have HP := Lib.hid (show putTo (xs.take (k + 1)) x false = l ++ [y] from htk); have HD1 := Lib.hid hd1
          clear hd1 htk hlt2 HD
          obtain ⟨va, vc, rfl⟩ : ∃ va vc, v = .slice va (l).length vc := by
            obtain ⟨a1, c1, e1, _⟩ := ownI_slin HV.out
            exact ⟨a1, c1, e1⟩
          go_wp2_with (at_builtin; apply halt_here)
          refine halt_go ?_
          refine wpList_append_own_at _ rfl _ _ 24 rfl w.heap.size 3 i0 (.int .i64 0) 1 8 Try.underlying24 hi hz0 hz1 hz2 rfl (by decide) _ _ _ rfl (World.ownsRow.alloc HV.out _) ⟨wr.heap.size, 0, none⟩ 1 1 [.int .i64 y] rfl rfl (cell_one_new _ _ _) (by simp [Value.oneCell']) (by unfold maxLen; omega) (by omega) (by have := hWR.size; simp; omega) ?_
          intro v5 w5 hown5 hgrow5 _ _
          have hB5 : Below w.heap.size w w5 := (hWR.alloc hWR.size _).grown hgrow5 (by have := hWR.size; simp; omega) (fun g e => (World.ownsRow.lt HV.out g e).1)
          have HV5 := Lib.hid (show OwnI w5 w.heap.size v5 (putTo (xs.take (k + 1)) x false) from by
            unfold OwnI
            rw [HP.out, List.length_append, List.map_append]
            exact hown5)
          clear hown5 hgrow5
          clear hc hA1
          go_wp2_with fail
          go_roundw
          case rel => exact ⟨k + 1, v5, false, by go_num, rfl, rfl, by omega, hB5, HV5, HD1⟩
          case measure => simp [intOf]; omega
      · have hxy : x < y := by
          obtain ⟨z, hz, h1⟩ : ∃ z ∈ l, x ≤ z := HD.out
          have := hlt2 z hz
          omega
        have hne : ¬ y = x := by omega
        have hp : putTo (xs.take (k + 1)) x true = putTo l x true ++ [y] := by
          show putN (xs.take (k + 1)) x = putN l x ++ [y]
          rw [htk, putN_gt hxy]
        have hd1 : doneAt (xs.take (k + 1)) x true := by rw [htk]; exact ⟨y, by simp, by omega⟩
        have hl5 : (putTo l x true).length ≤ 2097153 := Nat.le_trans (putTo_len _ _ _) (by omega)
        have HP := Lib.hid hp; have HD1 := Lib.hid hd1
        clear hp hd1 htk hlt2 HD
        obtain ⟨va, vc, rfl⟩ : ∃ va vc, v = .slice va (putTo l x true).length vc := by
          obtain ⟨a1, c1, e1, _⟩ := ownI_slin HV.out
          exact ⟨a1, c1, e1⟩
        go_wp2_with (at_builtin; apply halt_here)
        refine halt_go ?_
        refine wpList_append_own_at _ rfl _ _ 24 rfl w.heap.size 3 i0 (.int .i64 0) 1 8 Try.underlying24 hi hz0 hz1 hz2 rfl (by decide) _ _ _ rfl (World.ownsRow.alloc HV.out _) ⟨wr.heap.size, 0, none⟩ 1 1 [.int .i64 y] rfl rfl (cell_one_new _ _ _) (by simp [Value.oneCell']) (by unfold maxLen; omega) (by omega) (by have := hWR.size; simp; omega) ?_
        intro v5 w5 hown5 hgrow5 _ _
        have hB5 : Below w.heap.size w w5 := (hWR.alloc hWR.size _).grown hgrow5 (by have := hWR.size; simp; omega) (fun g e => (World.ownsRow.lt HV.out g e).1)
        have HV5 := Lib.hid (show OwnI w5 w.heap.size v5 (putTo (xs.take (k + 1)) x true) from by
          unfold OwnI
          rw [HP.out, List.length_append, List.map_append]
          exact hown5)
        clear hown5 hgrow5
        clear hc hA1
        go_wp2_with fail
        go_roundw
        case rel => exact ⟨k + 1, v5, true, by go_num, rfl, rfl, by omega, hB5, HV5, HD1⟩
        case measure => simp [intOf]; omega
    · have hke : k = n := by omega
      have hlt' : ¬ ((k : Int) < (n : Int)) := by omega
      have htk : xs.take k = xs := List.take_of_length_le (by rw [HN.out]; omega)
      rw [htk] at HV HD
      clear hke htk
      cases d
      · simp only [doneAt, putTo, Bool.false_eq_true, if_false] at HD HV
        have hp := putN_lt HD.out
        have HP := Lib.hid hp
        have hl5 : xs.length ≤ 2097152 := by rw [HN.out]; exact hsz
        clear hp HD
        obtain ⟨va, vc, rfl⟩ : ∃ va vc, v = .slice va (xs).length vc := by
          obtain ⟨a1, c1, e1, _⟩ := ownI_slin HV.out
          exact ⟨a1, c1, e1⟩
        go_wp2_with (at_builtin; apply halt_here)
        refine halt_go ?_
        refine wpList_append_own_at _ rfl _ _ 24 rfl w.heap.size 3 i0 (.int .i64 0) 1 8 Try.underlying24 hi hz0 hz1 hz2 rfl (by decide) _ _ _ rfl (World.ownsRow.alloc HV.out _) ⟨wr.heap.size, 0, none⟩ 1 1 [.int .i64 x] rfl rfl (cell_one_new _ _ _) (by simp [Value.oneCell']) (by unfold maxLen; omega) (by omega) (by have := hWR.size; simp; omega) ?_
        intro v5 w5 hown5 hgrow5 _ _
        have hB5 : Below w.heap.size w w5 := (hWR.alloc hWR.size _).grown hgrow5 (by have := hWR.size; simp; omega) (fun g e => (World.ownsRow.lt HV.out g e).1)
        have HV5 := Lib.hid (show OwnI w5 w.heap.size v5 (putN xs x) from by
          unfold OwnI
          rw [HP.out, List.length_append, List.map_append]
          exact hown5)
        clear hown5 hgrow5
        go_wp2_with fail
        go_ret
        exact ⟨_, rfl, HV5.out, hB5⟩
      · have HV1 : Hid (OwnI wr w.heap.size v (putN xs x)) := HV
        clear HV HD
        go_wp2_with fail
        go_ret
        exact ⟨_, rfl, HV1.out, hWR⟩
end Go.Proofs.Ytfkpecildcejkaa
