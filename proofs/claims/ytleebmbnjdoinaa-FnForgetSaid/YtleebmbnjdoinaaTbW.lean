/- l05Without of the model. -/
import Derived.Test.YtleebmbnjdoinaaTbLe
namespace Go.Proofs.Ytleebmbnjdoinaa
open Go.RowKit

def kdB : Kd Bool := ⟨4, 1, fun b => [.bool b], fun _ => rfl⟩
/-- of the first k rows those that are not told to go, or fixed -/
def woAt (rs : List Rw) (gs : List Bool) : Nat → List Rw
  | 0 => []
  | k + 1 => if (!gs.getD k false || (rs.getD k default).fixed) = true then woAt rs gs k ++ [rs.getD k default] else woAt rs gs k
theorem woAt_len (rs : List Rw) (gs : List Bool) : ∀ k, (woAt rs gs k).length ≤ k
  | 0 => by simp [woAt]
  | k + 1 => by
    have ih := woAt_len rs gs k
    unfold woAt
    split <;> simp <;> omega
theorem woAt_mem (rs : List Rw) (gs : List Bool) : ∀ k, k ≤ rs.length → ∀ x ∈ woAt rs gs k, x ∈ rs
  | 0, _, x, hx => by simp [woAt] at hx
  | k + 1, hk, x, hx => by
    unfold woAt at hx
    split at hx
    · rcases List.mem_append.1 hx with h | h
      · exact woAt_mem rs gs k (by omega) x h
      · rw [List.mem_singleton.1 h, getD_eq (by omega)]
        exact List.getElem_mem _
    · exact woAt_mem rs gs k (by omega) x hx

set_option linter.unusedSimpArgs false in
set_option maxHeartbeats 4000000 in
theorem without5_spec {w : World} {B : List Nat} {v : Value} {t : Tb} (h : TabIn w B v t) (gs : List Bool) (b : Option Addr) (gcap : Nat) (hg : SlIn kdB w b gs) (hgl : gs.length = t.rows.length) :
    Calls Try.prog 57 #[v, .slice b gs.length gcap] w (GotTab w ⟨woAt t.rows gs t.rows.length, t.most⟩) := by
  obtain ⟨a, cap, rfl, hs, _, hl, hfit⟩ := h
  obtain ⟨rs, most⟩ := t
  simp only at hs hl hgl ⊢
  unfold tabVal
  obtain ⟨i0, hi, hz0, hz1, hz2⟩ := info_parts infoRow
  obtain ⟨n, hn⟩ : ∃ n, rs.length = n := ⟨_, rfl⟩
  rw [hgl]
  rw [hn] at hl hgl ⊢
  have hb3 : Below w.heap.size w (((w.alloc (.cells #[.slice a n cap, .int .i64 most] 26)).alloc (.cells #[.slice none 0 0, .int .i64 0] 26)).alloc (.cells #[.slice none 0 0, .int .i64 most] 26)) := (((Below.refl _ _).alloc (Nat.le_refl _) _).alloc (by simp) _).alloc (by simp; omega) _
  have f0 : Blk (((w.alloc (.cells #[.slice a n cap, .int .i64 most] 26)).alloc (.cells #[.slice none 0 0, .int .i64 0] 26)).alloc (.cells #[.slice none 0 0, .int .i64 most] 26)) w.heap.size #[.slice a n cap, .int .i64 most] 26 := ((blk_new _ _ rfl).alloc _).alloc _
  have f2 : Blk (((w.alloc (.cells #[.slice a n cap, .int .i64 most] 26)).alloc (.cells #[.slice none 0 0, .int .i64 0] 26)).alloc (.cells #[.slice none 0 0, .int .i64 most] 26)) (w.heap.size + 1) #[.slice none 0 0, .int .i64 0] 26 := (blk_new _ _ (by simp)).alloc _
  have f3 : Blk (((w.alloc (.cells #[.slice a n cap, .int .i64 most] 26)).alloc (.cells #[.slice none 0 0, .int .i64 0] 26)).alloc (.cells #[.slice none 0 0, .int .i64 most] 26)) (w.heap.size + 1 + 1) #[.slice none 0 0, .int .i64 most] 26 := blk_new _ _ (by simp)
  have hs3 := hs.after hb3
  have hg3 := hg.after hb3
  have HB3 := Lib.hid hb3; have F0 := Lib.hid f0; have F2 := Lib.hid f2; have F3 := Lib.hid f3; have HS3 := Lib.hid hs3; have HLT := Lib.hid hs.lt; have HG3 := Lib.hid hg3; have HGT := Lib.hid hg.lt
  have HN := Lib.hid hn; have HFIT := Lib.hid hfit; have HGL := Lib.hid hgl
  clear hn hs hfit hs3 hb3 f0 f2 f3 hg hg3 hgl
  go_enter Try.func57, Try.ntmps57
  go_wp2_with fail
  generalize (((w.alloc (.cells #[.slice a n cap, .int .i64 most] 26)).alloc (.cells #[.slice none 0 0, .int .i64 0] 26)).alloc (.cells #[.slice none 0 0, .int .i64 most] 26)) = w3 at HB3 F0 F2 F3 HS3 HG3 ⊢
  go_loopw [6] (fun i wr => ∃ (k : Nat) (acc : List Rw) (v : Value), i = .int .i64 (k : Nat) ∧ k ≤ n ∧ Hid (woAt rs gs k = acc) ∧ Turned [w.heap.size + 1 + 1] w3 wr ∧ Hid (Blk wr (w.heap.size + 1 + 1) #[v, .int .i64 most] 26) ∧ Hid (OwnRw wr w3.heap.size v acc))
    (fun i _ => n - (intOf i).toNat)
  case atStart => exact ⟨0, [], .slice none 0 0, rfl, Nat.zero_le _, Lib.hid rfl, Turned.refl _ _, F3, Lib.hid (World.ownsRow_nil _ _ _ _)⟩
  case round =>
    obtain ⟨k, acc, v2, rfl, hk, HP, hT4, HO2, HW2⟩ := hrel
    have kA := F0.out.turned hT4 (by simp only [List.mem_singleton]; omega)
    have d0 : wr.cell? ⟨w.heap.size, 0, none⟩ = some (.slice a n cap) := kA.cell 0
    have hlenA : acc.length ≤ k := by have e := woAt_len rs gs k; rw [HP.out] at e; exact e
    by_cases hlt : k < n
    · have hkx : k < rs.length := by rw [HN.out]; exact hlt
      have hkg : k < gs.length := by rw [HGL.out]; exact hlt
      have hS3 : SlIn kdRw wr a rs := HS3.out.turned hT4 (fun y hy hne => by have := HLT.out y hy hne; simp only [List.mem_singleton]; omega)
      have hG3 : SlIn kdB wr b gs := HG3.out.turned hT4 (fun y hy hne => by have := HGT.out y hy hne; simp only [List.mem_singleton]; omega)
      obtain ⟨g, o, rfl, hgl, hX⟩ := rowAt hS3 k hkx
      obtain ⟨g', o', rfl, _, hY⟩ := hG3.at k hkg
      have hGg := (hY wr (Below.refl _ _)).1 0 (by decide)
      have hgk : wr.cell? ⟨g', o' + k, none⟩ = some (.bool gs[k]) := by
        have e : o' + k * kdB.sz + 0 = o' + k := by show o' + k * 1 + 0 = o' + k; omega
        rw [e] at hGg
        exact hGg
      obtain ⟨k0, k1, k2, k3, k4⟩ := (hX wr (Below.refl _ _)).1
      have hstep : woAt rs gs (k + 1) = if (!gs[k] || rs[k].fixed) = true then acc ++ [rs[k]] else acc := by
        show (if (!gs.getD k false || (rs.getD k default).fixed) = true then woAt rs gs k ++ [rs.getD k default] else woAt rs gs k) = _
        rw [getD_eq hkx, HP.out, List.getD_eq_getElem?_getD, List.getElem?_eq_getElem hkg]
        rfl
      clear hGg hY
      obtain ⟨x, hx⟩ : ∃ x, rs[k] = x := ⟨_, rfl⟩
      obtain ⟨gb, hgb⟩ : ∃ x, gs[k] = x := ⟨_, rfl⟩
      rw [hx] at k0 k1 k2 k3 k4 hstep
      rw [hgb] at hgk hstep
      have HX := Lib.hid hx
      have hX' : ∀ w', Below wr.heap.size wr w' → RowAt w' g (o + k * 5) x := fun w' hb => by rw [← HX.out]; exact (hX w' hb).1
      have HXX := Lib.hid hX'
      clear hX hX' hx hgb
      obtain ⟨x0, x1, x2, x3, x4⟩ := x
      obtain ⟨c, hc⟩ : ∃ c, (!gb || x4) = c := ⟨_, rfl⟩
      simp only at k0 k1 k2 k3 k4 hstep
      rw [hc] at hstep
      have HSTEP := Lib.hid hstep; have HC := Lib.hid hc
      clear hstep hc
      have hHF := HXX.out wr (Below.refl _ _)
      go_upto_region 5 with fail
      go_cut [29] (fun s29 wx => s29 = .bool c ∧ wr = wx)
      case first =>
        cases gb
        · obtain rfl : c = true := by rw [← HC.out]; rfl
          go_wp2_with fail
          go_meet
          exact ⟨rfl, rfl⟩
        · obtain rfl : c = x4 := by rw [← HC.out]; simp
          go_wp2_with fail
          go_meet
          exact ⟨rfl, rfl⟩
      case rest =>
      obtain ⟨rfl, rfl⟩ := hcut
      clear d0 k0 k1 k2 k3 k4 hgk
      generalize wr = wd at hT4 HO2 HW2 HXX hHF hgl hS3 hG3 kA ⊢
      cases c
      · go_wp2_with fail
        go_roundw
        case rel => exact ⟨k + 1, acc, v2, by go_num, by omega, Lib.hid (by have e := HSTEP.out; simpa using e), hT4, HO2, HW2⟩
        case measure => simp [intOf]; omega
      · go_upto_region 6 with fail
        have hob : ∀ b ∈ (w.heap.size + 1 + 1) :: v2.ownBlock.toList, w.heap.size < b := by
          intro b hb
          rcases List.mem_cons.1 hb with rfl | hb
          · omega
          · have h1 := (World.ownsRow.lt HW2.out b (by simpa using hb)).1
            have h2 := F3.out.lt
            omega
        have hF : ∀ w', Turned ((w.heap.size + 1 + 1) :: v2.ownBlock.toList) wd w' → w'.cell? ⟨w.heap.size, 0, none⟩ = some (.slice (some ⟨g, o, none⟩) n cap) ∧ RowAt w' g (o + k * 5) ⟨x0, x1, x2, x3, x4⟩ := by
          intro w' h
          have h0 := HLT.out _ rfl (fun e => by rw [e] at hkx; exact absurd hkx (by simp))
          have q0 := kA.cell 0
          have qx := hHF
          have hz := kA.lt
          have e0 := h.block w.heap.size (by omega) (fun hm => by have := hob _ hm; omega)
          have e1 := h.block g (by simp only at h0; omega) (fun hm => by have := hob _ hm; simp only at h0; omega)
          have cc : ∀ b j, w'.heap[b]? = wd.heap[b]? → w'.cell? ⟨b, j, none⟩ = wd.cell? ⟨b, j, none⟩ := fun b j e => World.cell?_of_block e
          exact ⟨(cc _ _ e0).trans q0, (cc _ _ e1).trans qx.1, (cc _ _ e1).trans qx.2.1, (cc _ _ e1).trans qx.2.2.1, (cc _ _ e1).trans qx.2.2.2.1, (cc _ _ e1).trans qx.2.2.2.2⟩
        unfold RowAt at hF
        simp only at hF
        have q5 : wd.cell? ⟨w.heap.size + 1 + 1, 0, none⟩ = some v2 := HO2.out.cell 0
        have hsz5 : w3.heap.size ≤ wd.heap.size := hT4.size
        have q6 : (wd.alloc (.cells #[.int .i64 x0, .int .i64 x1, .int .i64 x2, .int .i64 x3, .bool x4] 34)).cell? ⟨w.heap.size + 1 + 1, 0, none⟩ = some v2 := (HO2.out.alloc _).cell 0
        clear kA hS3 hG3 hHF
        refine wp_region_held_drew (S := fun w' => Turned ((w.heap.size + 1 + 1) :: v2.ownBlock.toList) wd w') (by kernel_rfl) ((Turned.refl _ _).drew) (fun hHeld => ?_)
        refine wpAnyH_take (i := 0) (v := ?v1) rfl (by kernel_rfl) (by kernel_rfl) (by kernel_rfl) (fun _ _ _ h => h) (Or.inl ⟨by rfl, ?h1⟩) hHeld ?r1
        case h1 => intro wq hS; go_simp; with_reducible rfl
        try simp only [Act.put, List.getElem_toArray, List.getElem_cons_zero, List.getElem_cons_succ, List.setIfInBounds_toArray, List.set_cons_zero, List.set_cons_succ]
        refine wpAnyH_take (i := 2) (v := ?v2) rfl (by kernel_rfl) (by kernel_rfl) (by kernel_rfl) (fun _ _ _ h => h) (Or.inl ⟨by rfl, ?h2⟩) hHeld ?r2
        case h2 => intro wq hS; go_simp; with_reducible rfl
        try simp only [Act.put, List.getElem_toArray, List.getElem_cons_zero, List.getElem_cons_succ, List.setIfInBounds_toArray, List.set_cons_zero, List.set_cons_succ]
        refine wpAnyH_take (i := 3) (v := ?v3) rfl (by kernel_rfl) (by kernel_rfl) (by kernel_rfl) (fun _ _ _ h => h) (Or.inl ⟨by rfl, ?h3⟩) hHeld ?r3
        case h3 => intro wq hS; have q0 := (hF wq hS).1; go_simp; with_reducible rfl
        try simp only [Act.put, List.getElem_toArray, List.getElem_cons_zero, List.getElem_cons_succ, List.setIfInBounds_toArray, List.set_cons_zero, List.set_cons_succ]
        refine wpAnyH_take (i := 4) (v := ?v4) rfl (by kernel_rfl) (by kernel_rfl) (by kernel_rfl) (fun _ _ _ h => h) (Or.inl ⟨by rfl, ?h4⟩) hHeld ?r4
        case h4 => intro wq hS; go_simp; with_reducible rfl
        try simp only [Act.put, List.getElem_toArray, List.getElem_cons_zero, List.getElem_cons_succ, List.setIfInBounds_toArray, List.set_cons_zero, List.set_cons_succ]
        refine wpAnyH_take (i := 5) (v := ?v5) rfl (by kernel_rfl) (by kernel_rfl) (by kernel_rfl) (fun _ _ _ h => h) (Or.inl ⟨by rfl, ?h5⟩) hHeld ?r5
        case h5 => intro wq hS; go_simp; with_reducible rfl
        try simp only [Act.put, List.getElem_toArray, List.getElem_cons_zero, List.getElem_cons_succ, List.setIfInBounds_toArray, List.set_cons_zero, List.set_cons_succ]
        refine wpAnyH_take (i := 6) (v := ?v6) rfl (by kernel_rfl) (by kernel_rfl) (by kernel_rfl) (fun _ _ _ h => h) (Or.inl ⟨by rfl, ?h6⟩) hHeld ?r6
        case h6 => intro wq hS; obtain ⟨_, c0, c1, c2, c3, c4⟩ := hF wq hS; go_simp; with_reducible rfl
        try simp only [Act.put, List.getElem_toArray, List.getElem_cons_zero, List.getElem_cons_succ, List.setIfInBounds_toArray, List.set_cons_zero, List.set_cons_succ]
        refine wpAnyH_ready (rs := [1, 7]) (by kernel_rfl) (by simp) ?_
        refine AllReadyH.cons rfl (fun K hK => ?_) ?_
        · go_simp
          refine hK.out _ _ (hHeld) (fun hHeld => ?_)
          clear hK K
          try simp only [Act.put, List.getElem_toArray, List.getElem_cons_zero, List.getElem_cons_succ, List.setIfInBounds_toArray, List.set_cons_zero, List.set_cons_succ]
          refine wpAnyH_ready (rs := [7]) (by kernel_rfl) (by simp) ?_
          refine AllReadyH.cons rfl (fun K hK => ?_) AllReadyH.nil
          go_simp
          refine hK.out _ _ (hHeld.alloc _) (fun hHeld => ?_)
          clear hK K
          try simp only [Act.put, List.getElem_toArray, List.getElem_cons_zero, List.getElem_cons_succ, List.setIfInBounds_toArray, List.set_cons_zero, List.set_cons_succ]
          refine wpAnyH_ready (rs := [8]) (by kernel_rfl) (by simp) ?_
          refine AllReadyH.cons rfl (fun K hK => ?_) AllReadyH.nil
          refine step_append_lies _ rfl (.tmp 31) (.tmp 37) 24 rfl w3.heap.size 34 i0 (.agg #[.int .i64 0, .int .i64 0, .int .i64 0, .int .i64 0, .bool false]) 5 40 Try.underlying24 hi hz0 hz1 hz2 rfl (by decide) v2 _ _ rfl (World.ownsRow.alloc (World.ownsRow.drew HW2.out) _) ⟨wd.heap.size, 0, none⟩ 1 1 [.int .i64 x0, .int .i64 x1, .int .i64 x2, .int .i64 x3, .bool x4] rfl rfl (cells_new _ _ _) (by simp [Value.oneCell']) (by decide) (by unfold maxLen; omega) (by omega) (by simp; omega) _ rfl ?_
          intro ga ca w5 hown5 hgrow5 hat5 hlt5
          refine hK.out _ _ (turned_in hHeld hgrow5 (fun b hb => by rw [hb]; simp)) (fun hHeld => ?_)
          clear hK K
          try simp only [Act.put, List.getElem_toArray, List.getElem_cons_zero, List.getElem_cons_succ, List.setIfInBounds_toArray, List.set_cons_zero, List.set_cons_succ]
          refine wpAnyH_take (i := 9) (v := ?v7) rfl (by kernel_rfl) (by kernel_rfl) (by kernel_rfl) (fun _ _ _ h => h) (Or.inl ⟨by rfl, ?h7⟩) hHeld ?r7
          case h7 => intro wq hS; go_simp; with_reducible rfl
          try simp only [Act.put, List.getElem_toArray, List.getElem_cons_zero, List.getElem_cons_succ, List.setIfInBounds_toArray, List.set_cons_zero, List.set_cons_succ]
          refine wpAnyH_ready (rs := [10]) (by kernel_rfl) (by simp) ?_
          refine AllReadyH.cons rfl (fun K hK => ?_) AllReadyH.nil
          have hO5 : Blk w5 (w.heap.size + 1 + 1) #[v2, .int .i64 most] 26 := (hgrow5.block _ (by have := HO2.out.lt; simp; omega) (fun e => by have h1 := (World.ownsRow.lt HW2.out _ e.symm).1; have h2 := F3.out.lt; omega)).trans ((HO2.out.drew).alloc _)
          have z5 : w5.frozen? ⟨w.heap.size + 1 + 1, 0, none⟩ = false := hO5.frozen 0
          have c5 : w5.cell? ⟨w.heap.size + 1 + 1, 0, none⟩ = some v2 := hO5.cell 0
          go_simp
          refine hK.out _ _ (hHeld.setCell (by simp) _) (fun hHeld => ?_)
          clear hK K
          try simp only [Act.put, List.getElem_toArray, List.getElem_cons_zero, List.getElem_cons_succ, List.setIfInBounds_toArray, List.set_cons_zero, List.set_cons_succ]
          refine wpAnyH_done (by kernel_rfl) ?_ _
          have hT6 := (turned_grown (hT4.drew.alloc (.cells #[.int .i64 x0, .int .i64 x1, .int .i64 x2, .int .i64 x3, .bool x4] 34)) hgrow5 (fun b hb => (World.ownsRow.lt HW2.out b hb).1)).setCell (p := ⟨w.heap.size + 1 + 1, 0, none⟩) (by simp) (Value.slice (some ⟨ga, 0, none⟩) (acc.length + 1) ca)
          have hO6 := hO5.set 0 (Value.slice (some ⟨ga, 0, none⟩) (acc.length + 1) ca)
          have hW6 : OwnRw (w5.setCell ⟨w.heap.size + 1 + 1, 0, none⟩ (Value.slice (some ⟨ga, 0, none⟩) (acc.length + 1) ca)) w3.heap.size (Value.slice (some ⟨ga, 0, none⟩) (acc.length + 1) ca) (acc ++ [⟨x0, x1, x2, x3, x4⟩]) := by
            unfold OwnRw
            rw [List.length_append, List.flatMap_append]
            refine own_setCell (base := w3.heap.size) ?_ (F3.out.lt) _
            simpa [Rw.cs] using hown5
          have HT6 := Lib.hid hT6; have HO6 := Lib.hid hO6; have HW6 := Lib.hid hW6
          clear hT6 hO6 hW6 hown5 hgrow5 hat5 hlt5 hO5 z5 c5 hHeld hF q5 q6 hob
          go_wp2_with fail
          go_roundw
          case rel => exact ⟨k + 1, acc ++ [⟨x0, x1, x2, x3, x4⟩], _, by go_num, by omega, Lib.hid (by have e := HSTEP.out; simpa using e), HT6.out, HO6, HW6⟩
          case measure => simp [intOf]; omega
        refine AllReadyH.cons rfl (fun K hK => ?_) AllReadyH.nil
        · go_simp
          refine hK.out _ _ (hHeld.alloc _) (fun hHeld => ?_)
          clear hK K
          try simp only [Act.put, List.getElem_toArray, List.getElem_cons_zero, List.getElem_cons_succ, List.setIfInBounds_toArray, List.set_cons_zero, List.set_cons_succ]
          refine wpAnyH_ready (rs := [1]) (by kernel_rfl) (by simp) ?_
          refine AllReadyH.cons rfl (fun K hK => ?_) AllReadyH.nil
          go_simp
          refine hK.out _ _ (hHeld) (fun hHeld => ?_)
          clear hK K
          try simp only [Act.put, List.getElem_toArray, List.getElem_cons_zero, List.getElem_cons_succ, List.setIfInBounds_toArray, List.set_cons_zero, List.set_cons_succ]
          refine wpAnyH_ready (rs := [8]) (by kernel_rfl) (by simp) ?_
          refine AllReadyH.cons rfl (fun K hK => ?_) AllReadyH.nil
          refine step_append_lies _ rfl (.tmp 31) (.tmp 37) 24 rfl w3.heap.size 34 i0 (.agg #[.int .i64 0, .int .i64 0, .int .i64 0, .int .i64 0, .bool false]) 5 40 Try.underlying24 hi hz0 hz1 hz2 rfl (by decide) v2 _ _ rfl (World.ownsRow.drew (World.ownsRow.alloc HW2.out _)) ⟨wd.heap.size, 0, none⟩ 1 1 [.int .i64 x0, .int .i64 x1, .int .i64 x2, .int .i64 x3, .bool x4] rfl rfl (cells_new wd _ _) (by simp [Value.oneCell']) (by decide) (by unfold maxLen; omega) (by omega) (by simp; omega) _ rfl ?_
          intro ga ca w5 hown5 hgrow5 hat5 hlt5
          refine hK.out _ _ (turned_in hHeld hgrow5 (fun b hb => by rw [hb]; simp)) (fun hHeld => ?_)
          clear hK K
          try simp only [Act.put, List.getElem_toArray, List.getElem_cons_zero, List.getElem_cons_succ, List.setIfInBounds_toArray, List.set_cons_zero, List.set_cons_succ]
          refine wpAnyH_take (i := 9) (v := ?v8) rfl (by kernel_rfl) (by kernel_rfl) (by kernel_rfl) (fun _ _ _ h => h) (Or.inl ⟨by rfl, ?h8⟩) hHeld ?r8
          case h8 => intro wq hS; go_simp; with_reducible rfl
          try simp only [Act.put, List.getElem_toArray, List.getElem_cons_zero, List.getElem_cons_succ, List.setIfInBounds_toArray, List.set_cons_zero, List.set_cons_succ]
          refine wpAnyH_ready (rs := [10]) (by kernel_rfl) (by simp) ?_
          refine AllReadyH.cons rfl (fun K hK => ?_) AllReadyH.nil
          have hO5 : Blk w5 (w.heap.size + 1 + 1) #[v2, .int .i64 most] 26 := (hgrow5.block _ (by have := HO2.out.lt; simp; omega) (fun e => by have h1 := (World.ownsRow.lt HW2.out _ e.symm).1; have h2 := F3.out.lt; omega)).trans ((HO2.out.drew).alloc _)
          have z5 : w5.frozen? ⟨w.heap.size + 1 + 1, 0, none⟩ = false := hO5.frozen 0
          have c5 : w5.cell? ⟨w.heap.size + 1 + 1, 0, none⟩ = some v2 := hO5.cell 0
          go_simp
          refine hK.out _ _ (hHeld.setCell (by simp) _) (fun hHeld => ?_)
          clear hK K
          try simp only [Act.put, List.getElem_toArray, List.getElem_cons_zero, List.getElem_cons_succ, List.setIfInBounds_toArray, List.set_cons_zero, List.set_cons_succ]
          refine wpAnyH_done (by kernel_rfl) ?_ _
          have hT6 := (turned_grown (hT4.drew.alloc (.cells #[.int .i64 x0, .int .i64 x1, .int .i64 x2, .int .i64 x3, .bool x4] 34)) hgrow5 (fun b hb => (World.ownsRow.lt HW2.out b hb).1)).setCell (p := ⟨w.heap.size + 1 + 1, 0, none⟩) (by simp) (Value.slice (some ⟨ga, 0, none⟩) (acc.length + 1) ca)
          have hO6 := hO5.set 0 (Value.slice (some ⟨ga, 0, none⟩) (acc.length + 1) ca)
          have hW6 : OwnRw (w5.setCell ⟨w.heap.size + 1 + 1, 0, none⟩ (Value.slice (some ⟨ga, 0, none⟩) (acc.length + 1) ca)) w3.heap.size (Value.slice (some ⟨ga, 0, none⟩) (acc.length + 1) ca) (acc ++ [⟨x0, x1, x2, x3, x4⟩]) := by
            unfold OwnRw
            rw [List.length_append, List.flatMap_append]
            refine own_setCell (base := w3.heap.size) ?_ (F3.out.lt) _
            simpa [Rw.cs] using hown5
          have HT6 := Lib.hid hT6; have HO6 := Lib.hid hO6; have HW6 := Lib.hid hW6
          clear hT6 hO6 hW6 hown5 hgrow5 hat5 hlt5 hO5 z5 c5 hHeld hF q5 q6 hob
          go_wp2_with fail
          go_roundw
          case rel => exact ⟨k + 1, acc ++ [⟨x0, x1, x2, x3, x4⟩], _, by go_num, by omega, Lib.hid (by have e := HSTEP.out; simpa using e), HT6.out, HO6, HW6⟩
          case measure => simp [intOf]; omega
    · have hke : k = n := by omega
      have hlt' : ¬ ((k : Int) < (n : Int)) := by omega
      obtain ⟨ua, uc, rfl⟩ := own_form HW2.out
      have f2 := F2.out.turned hT4 (by simp only [List.mem_singleton]; omega)
      have c3 : wr.cell? ⟨w.heap.size + 1 + 1, 0, none⟩ = some (.slice ua acc.length uc) := HO2.out.cell 0
      have c4 : wr.cell? ⟨w.heap.size + 1 + 1, 1, none⟩ = some (.int .i64 most) := HO2.out.cell 1
      have c0 : wr.cell? ⟨w.heap.size + 1, 0, none⟩ = some (.slice none 0 0) := f2.cell 0
      have c1 : wr.cell? ⟨w.heap.size + 1, 1, none⟩ = some (.int .i64 0) := f2.cell 1
      have z2 := f2.frozen
      have y2 := f2.shape
      have g2 := (f2.set 0 (.slice ua acc.length uc)).set 1 (.int .i64 most)
      have hz3 := HB3.out.size
      have hB : Below w.heap.size w ((wr.setCell ⟨w.heap.size + 1, 0, none⟩ (.slice ua acc.length uc)).setCell ⟨w.heap.size + 1, 1, none⟩ (.int .i64 most)) :=
        ((HB3.out.trans (hT4.below hz3 (fun b hb => by simp at hb; omega))).setCell (by simp only; omega) _).setCell (by simp only; omega) _
      have hW2 : OwnRw ((wr.setCell ⟨w.heap.size + 1, 0, none⟩ (.slice ua acc.length uc)).setCell ⟨w.heap.size + 1, 1, none⟩ (.int .i64 most)) w3.heap.size (.slice ua acc.length uc) acc :=
        own_setCell (own_setCell HW2.out F2.out.lt _) F2.out.lt _
      have G2 := Lib.hid g2; have HB := Lib.hid hB; have HW := Lib.hid hW2
      have HACC := Lib.hid (show woAt rs gs n = acc by rw [← hke]; exact HP.out)
      clear f2 g2 hB hW2 HW2 HO2 kA
      go_wp2_with fail
      have r0 : ((wr.setCell ⟨w.heap.size + 1, 0, none⟩ (.slice ua acc.length uc)).setCell ⟨w.heap.size + 1, 1, none⟩ (.int .i64 most)).cell? ⟨w.heap.size + 1, 0, none⟩ = some (.slice ua acc.length uc) := G2.out.cell 0
      have r1 : ((wr.setCell ⟨w.heap.size + 1, 0, none⟩ (.slice ua acc.length uc)).setCell ⟨w.heap.size + 1, 1, none⟩ (.int .i64 most)).cell? ⟨w.heap.size + 1, 1, none⟩ = some (.int .i64 most) := G2.out.cell 1
      have HBo := HB.out; have HWo := HW.out
      clear G2 HB HW c0 c1 c3 c4 z2 y2
      generalize (wr.setCell ⟨w.heap.size + 1, 0, none⟩ (.slice ua acc.length uc)).setCell ⟨w.heap.size + 1, 1, none⟩ (.int .i64 most) = W at r0 r1 HBo HWo ⊢
      refine bodyPost_ret (v := .agg #[.slice ua acc.length uc, .int .i64 most]) (by simp [results, Try.results57, go_sem, r0, r1]) rfl ?_
      rw [HACC.out]
      exact got_own (t := ⟨acc, most⟩) HWo hz3 (by simp only; omega) ⟨fun x hx => HFIT.out.1 x (woAt_mem rs gs n (by rw [HN.out]; exact Nat.le_refl _) x (by rw [HACC.out]; exact hx)), HFIT.out.2⟩ HBo
end Go.Proofs.Ytleebmbnjdoinaa
