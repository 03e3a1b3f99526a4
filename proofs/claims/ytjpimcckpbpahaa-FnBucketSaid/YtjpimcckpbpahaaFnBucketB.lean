/- The walk of FnBucket. -/
import Derived.Test.YtjpimcckpbpahaaBuI
import Derived.Test.YtjpimcckpbpahaaDrBu
import Derived.Test.YtjpimcckpbpahaaBig
import Derived.Deep.RegionHeld3
namespace Go.Proofs.Ytjpimcckpbpahaa
open Go.RowKit

/-- filled in two steps is filled in one -/
theorem fill_twice {b : Bu} {now mid : Int} (h : buMay b now) (h0 : b.tm ≤ mid) (h1 : mid ≤ now) : fillBu (fillBu b mid) now = fillBu b now := by
  have hm : buMay b mid := ⟨h.1, ⟨by have := h.1.2.2.2.1; omega, by have := h.2.1.2; omega⟩, h0⟩
  have hv := fill_level hm
  have e1 : fillBu b mid = ⟨b.rate, b.burst, lvOf b mid, mid⟩ := if_pos hm
  have e2 : fillBu b now = ⟨b.rate, b.burst, lvOf b now, now⟩ := if_pos h
  rw [e1] at hv ⊢
  simp only at hv
  have hm2 : buMay ⟨b.rate, b.burst, lvOf b mid, mid⟩ now := ⟨⟨h.1.1, h.1.2.1, ⟨hv.1, hv.2.2⟩, hm.2.1⟩, h.2.1, h1⟩
  have e3 : fillBu ⟨b.rate, b.burst, lvOf b mid, mid⟩ now = ⟨b.rate, b.burst, lvOf ⟨b.rate, b.burst, lvOf b mid, mid⟩ now, now⟩ := if_pos hm2
  rw [e3, e2]
  congr 1
  have hr : 0 ≤ b.rate := h.1.1.1
  have d1 : b.rate * (now - b.tm) = b.rate * (mid - b.tm) + b.rate * (now - mid) := by rw [← Int.mul_add]; congr 1; omega
  have d2 : 0 ≤ b.rate * (now - mid) := Int.mul_nonneg hr (by omega)
  simp only [lvOf]
  rw [d1]
  split <;> split <;> split <;> omega
theorem fill_right {b : Bu} {now : Int} (h : buMay b now) : buOk (fillBu b now) := by
  have hv := fill_level h
  have e2 : fillBu b now = ⟨b.rate, b.burst, lvOf b now, now⟩ := if_pos h
  rw [e2] at hv ⊢
  exact ⟨h.1.1, h.1.2.1, ⟨hv.1, hv.2.2⟩, h.2.1⟩
theorem new_full (r m t : Int) : (newBu r m t).level = (newBu r m t).burst := by
  unfold newBu
  split <;> rfl
theorem mid_in {now t : Int} (h0 : 0 ≤ t) (h1 : t < now) (h2 : now ≤ 1000000000) : t ≤ IntKind.i64.wrap (t + IntKind.i64.wrap ((IntKind.i64.wrap (now - t)).tdiv 2)) ∧ IntKind.i64.wrap (t + IntKind.i64.wrap ((IntKind.i64.wrap (now - t)).tdiv 2)) ≤ now := by
  have e : IntKind.i64.wrap (now - t) = now - t := wrap_in (by omega) (by omega)
  rw [e]
  have e2 : (now - t).tdiv 2 = (now - t) / 2 := Int.tdiv_eq_ediv_of_nonneg (by omega)
  rw [e2]
  have e3 : IntKind.i64.wrap ((now - t) / 2) = (now - t) / 2 := wrap_in (by omega) (by omega)
  rw [e3]
  have e4 : IntKind.i64.wrap (t + (now - t) / 2) = t + (now - t) / 2 := wrap_in (by omega) (by omega)
  rw [e4]
  omega

set_option linter.unusedVariables false in
set_option linter.unusedSimpArgs false in
set_option maxRecDepth 20000 in
set_option maxHeartbeats 4000000 in
theorem walk_FnBucket (a : Option Addr) (len cap : Nat) (zs : List Int) (w : World) (hrow : IsRow .u8 w a len cap zs) :
    Calls Try.prog 4 #[.slice a len cap] w fun e w' => e = .returned (.bool true) ∧ Below w.heap.size w w' := by
  have hlow := hrow.low
  have hmax : len ≤ 9223372036854775807 := by
    rcases hrow with ⟨_, rfl, _⟩ | ⟨_, _, h1, h2, _⟩
    · omega
    · unfold maxLen at h2; omega
  by_cases hl : len ≤ 1048576
  case neg =>
    go_enter Try.func4, Try.ntmps4
    go_wp2_with fail
    refine (big_yes a len cap w (by omega)).mono ?_
    rintro e w' ⟨rfl, rfl⟩
    go_wp2_with fail
    go_ret
    exact ⟨rfl, Below.refl _ _⟩
  go_enter Try.func4, Try.ntmps4
  go_wp2_with fail
  refine (big_no a len cap w hl).mono ?_
  rintro e w9 ⟨rfl, rfl⟩
  go_wp2_with fail
  refine (drawFill_any w a len cap zs hl hrow hlow).mono ?_
  rintro e x0 ⟨b, now, rfl, hb1⟩
  have HB := Lib.hid hb1
  clear hb1
  obtain ⟨r, m, l, t⟩ := b
  have hi := fill_impl ⟨r, m, l, t⟩ now
  have hs := fill_spec ⟨r, m, l, t⟩ now
  have ho := bucketOk_spec ⟨r, m, l, t⟩
  have h1 := fill_impl ⟨r, m, l, t⟩ (IntKind.i64.wrap (t + IntKind.i64.wrap ((IntKind.i64.wrap (now - t)).tdiv 2)))
  have h2 := fill_impl (fillBu ⟨r, m, l, t⟩ (IntKind.i64.wrap (t + IntKind.i64.wrap ((IntKind.i64.wrap (now - t)).tdiv 2)))) now
  have hk := bucketOk_impl (fillBu ⟨r, m, l, t⟩ now)
  obtain ⟨ok, hok⟩ : ∃ k, decide (buOk ⟨r, m, l, t⟩) = k := ⟨_, rfl⟩
  rw [hok] at ho
  have hend : ok = true → t < now → now ≤ 1000000000 → fillBu (fillBu ⟨r, m, l, t⟩ (IntKind.i64.wrap (t + IntKind.i64.wrap ((IntKind.i64.wrap (now - t)).tdiv 2)))) now = fillBu ⟨r, m, l, t⟩ now ∧ buOk (fillBu ⟨r, m, l, t⟩ now) := fun k1 k2 k3 => by
    have kb : buOk ⟨r, m, l, t⟩ := of_decide_eq_true (hok.trans k1)
    have k0 := kb.2.2.2.1
    simp only at k0
    have km : buMay ⟨r, m, l, t⟩ now := ⟨kb, ⟨by omega, k3⟩, by simp only; omega⟩
    have kq := mid_in k0 k2 k3
    exact ⟨fill_twice km kq.1 kq.2, fill_right km⟩
  generalize fillBu (fillBu ⟨r, m, l, t⟩ (IntKind.i64.wrap (t + IntKind.i64.wrap ((IntKind.i64.wrap (now - t)).tdiv 2)))) now = z2 at h2 hend
  generalize fillBu ⟨r, m, l, t⟩ (IntKind.i64.wrap (t + IntKind.i64.wrap ((IntKind.i64.wrap (now - t)).tdiv 2))) = y at h1 h2
  generalize fillBu ⟨r, m, l, t⟩ now = z at hi hs hk hend
  obtain ⟨zr, zm, zl, zt⟩ := z
  obtain ⟨yr, ym, yl, yt⟩ := y
  unfold Bu.val at *
  simp only at hi hs ho h1 h2 hk ⊢
  have HI := Lib.hid hi; have HS := Lib.hid hs; have HO := Lib.hid ho; have H1 := Lib.hid h1; have H2 := Lib.hid h2; have HK := Lib.hid hk; have HEND := Lib.hid hend
  clear hi hs ho h1 h2 hk hend hok
  have hbq : Below x0.heap.size x0 (x0.alloc (.cells #[.int .i64 r, .int .i64 m, .int .i64 l, .int .i64 t] 25)) := (Below.refl _ _).alloc (Nat.le_refl _) _
  have hnq : Blk (x0.alloc (.cells #[.int .i64 r, .int .i64 m, .int .i64 l, .int .i64 t] 25)) x0.heap.size #[.int .i64 r, .int .i64 m, .int .i64 l, .int .i64 t] 25 := blk_new _ _ rfl
  have hleKB : w.heap.size ≤ x0.heap.size := HB.out.size
  have HB := Lib.hid (HB.out.trans (hbq.mono HB.out.size))
  have KB := Lib.hid hnq
  have HLTKB := Lib.hid (And.intro hleKB trivial)
  clear hbq hnq hleKB 
  have kb0 : (x0.alloc (.cells #[.int .i64 r, .int .i64 m, .int .i64 l, .int .i64 t] 25)).cell? ⟨x0.heap.size, 0, none⟩ = some (.int .i64 r) := KB.out.cell 0
  have kb1 : (x0.alloc (.cells #[.int .i64 r, .int .i64 m, .int .i64 l, .int .i64 t] 25)).cell? ⟨x0.heap.size, 1, none⟩ = some (.int .i64 m) := KB.out.cell 1
  have kb2 : (x0.alloc (.cells #[.int .i64 r, .int .i64 m, .int .i64 l, .int .i64 t] 25)).cell? ⟨x0.heap.size, 2, none⟩ = some (.int .i64 l) := KB.out.cell 2
  have kb3 : (x0.alloc (.cells #[.int .i64 r, .int .i64 m, .int .i64 l, .int .i64 t] 25)).cell? ⟨x0.heap.size, 3, none⟩ = some (.int .i64 t) := KB.out.cell 3
  have kbl : x0.heap.size < (x0.alloc (.cells #[.int .i64 r, .int .i64 m, .int .i64 l, .int .i64 t] 25)).heap.size := KB.out.lt
  go_wp2_with fail
  clear kb0 kb1 kb2 kb3 kbl
  generalize x0.alloc (.cells #[.int .i64 r, .int .i64 m, .int .i64 l, .int .i64 t] 25) = x1 at KB HB ⊢
  generalize x0.heap.size = e1 at KB HLTKB ⊢
  refine (drawNewBucket_any _ a len cap zs hl (hrow.below hlow HB.out) (fun x hx hc => Nat.lt_of_lt_of_le (hlow x hx hc) HB.out.size)).mono ?_
  rintro e x2 ⟨r', m', t', rfl, hbq⟩
  have KB := Lib.hid (KB.out.after hbq)
  have HB := Lib.hid (HB.out.trans (hbq.mono HB.out.size))
  have hn := newBucket_impl r' m' t'
  have hm := newBucket_spec r' m' t'
  have hx := bucketOk_impl (newBu r' m' t')
  have hfull := new_full r' m' t'
  generalize newBu r' m' t' = x at hn hm hx hfull
  obtain ⟨xr, xm, xl, xt⟩ := x
  simp only at hfull
  subst hfull
  unfold Bu.val at hn hm hx
  simp only at hn hm hx
  generalize decide (buOk ⟨xr, xl, xl, xt⟩) = xo at hx
  have HN := Lib.hid hn; have HM := Lib.hid hm; have HX := Lib.hid hx
  clear hn hm hx hrow hlow
  clear hbq
  go_wp2_with fail
  refine (HN.out _).mono ?_
  rintro e x3 ⟨rfl, hbq⟩
  have KB := Lib.hid (KB.out.after hbq)
  have HB := Lib.hid (HB.out.trans (hbq.mono HB.out.size))
  clear hbq
  have hbq : Below x3.heap.size x3 (x3.alloc (.cells #[.int .i64 xr, .int .i64 xl, .int .i64 xl, .int .i64 xt] 25)) := (Below.refl _ _).alloc (Nat.le_refl _) _
  have hnq : Blk (x3.alloc (.cells #[.int .i64 xr, .int .i64 xl, .int .i64 xl, .int .i64 xt] 25)) x3.heap.size #[.int .i64 xr, .int .i64 xl, .int .i64 xl, .int .i64 xt] 25 := blk_new _ _ rfl
  have hleKX : w.heap.size ≤ x3.heap.size := HB.out.size
  have hltKBKX := KB.out.lt
  have KB := Lib.hid (KB.out.after hbq)
  have HB := Lib.hid (HB.out.trans (hbq.mono HB.out.size))
  have KX := Lib.hid hnq
  have HLTKX := Lib.hid (And.intro hleKX (And.intro hltKBKX trivial))
  clear hbq hnq hleKX hltKBKX
  go_wp2_with fail
  generalize x3.alloc (.cells #[.int .i64 xr, .int .i64 xl, .int .i64 xl, .int .i64 xt] 25) = x4 at KB KX HB ⊢
  generalize x3.heap.size = e4 at KX HLTKX ⊢
  refine wp_region_held_drew (S := fun w' => Below x4.heap.size x4 w') (by kernel_rfl) (Below.drew (Below.refl _ _)) (fun hHeld => ?_)
  refine wpAnyH_take (i := 0) (v := ?v30) rfl (by kernel_rfl) (by kernel_rfl) (by kernel_rfl) (fun _ _ _ h => h) (Or.inl ⟨by rfl, ?h30⟩) hHeld ?r30
  case h30 => intro wq hS; have cKX0 : wq.cell? ⟨e4, 0, none⟩ = some (.int .i64 xr) := (KX.out.after hS).cell 0; have cKX1 : wq.cell? ⟨e4, 1, none⟩ = some (.int .i64 xl) := (KX.out.after hS).cell 1; have cKX2 : wq.cell? ⟨e4, 2, none⟩ = some (.int .i64 xl) := (KX.out.after hS).cell 2; have cKX3 : wq.cell? ⟨e4, 3, none⟩ = some (.int .i64 xt) := (KX.out.after hS).cell 3; go_simp; with_reducible rfl
  try simp only [Act.put, List.getElem_toArray, List.getElem_cons_zero, List.getElem_cons_succ, List.setIfInBounds_toArray, List.set_cons_zero, List.set_cons_succ]
  refine wpAnyH_take (i := 1) (v := ?v31) rfl (by kernel_rfl) (by kernel_rfl) (by kernel_rfl) (fun _ _ _ h => h) (Or.inl ⟨by rfl, ?h31⟩) hHeld ?r31
  case h31 => intro wq hS; go_simp; with_reducible rfl
  try simp only [Act.put, List.getElem_toArray, List.getElem_cons_zero, List.getElem_cons_succ, List.setIfInBounds_toArray, List.set_cons_zero, List.set_cons_succ]
  refine wpAnyH_take (i := 2) (v := ?v32) rfl (by kernel_rfl) (by kernel_rfl) (by kernel_rfl) (fun _ _ _ h => h) (Or.inl ⟨by rfl, ?h32⟩) hHeld ?r32
  case h32 => intro wq hS; go_simp; with_reducible rfl
  try simp only [Act.put, List.getElem_toArray, List.getElem_cons_zero, List.getElem_cons_succ, List.setIfInBounds_toArray, List.set_cons_zero, List.set_cons_succ]
  refine wpAnyH_take (i := 3) (v := ?v33) rfl (by kernel_rfl) (by kernel_rfl) (by kernel_rfl) (fun _ _ _ h => h) (Or.inl ⟨by rfl, ?h33⟩) hHeld ?r33
  case h33 => intro wq hS; go_simp; with_reducible rfl
  try simp only [Act.put, List.getElem_toArray, List.getElem_cons_zero, List.getElem_cons_succ, List.setIfInBounds_toArray, List.set_cons_zero, List.set_cons_succ]
  refine wpAnyH_ready (rs := [4]) (by kernel_rfl) (by simp) ?_
  refine AllReadyH.cons rfl (fun K hK => ?_) AllReadyH.nil
  go_simp
  refine (HM.out _).mono ?_
  rintro e xe ⟨rfl, hbe⟩
  refine hK.out _ _ (hHeld.trans (hbe.mono hHeld.size)) (fun hHeld => ?_)
  clear hK K
  try simp only [Act.put, List.getElem_toArray, List.getElem_cons_zero, List.getElem_cons_succ, List.setIfInBounds_toArray, List.set_cons_zero, List.set_cons_succ]
  refine wpAnyH_take (i := 5) (v := ?v34) rfl (by kernel_rfl) (by kernel_rfl) (by kernel_rfl) (fun _ _ _ h => h) (Or.inl ⟨by rfl, ?h34⟩) hHeld ?r34
  case h34 => intro wq hS; go_simp; with_reducible rfl
  try simp only [Act.put, List.getElem_toArray, List.getElem_cons_zero, List.getElem_cons_succ, List.setIfInBounds_toArray, List.set_cons_zero, List.set_cons_succ]
  refine wpAnyH_take (i := 6) (v := ?v35) rfl (by kernel_rfl) (by kernel_rfl) (by kernel_rfl) (fun _ _ _ h => h) (Or.inl ⟨by rfl, ?h35⟩) hHeld ?r35
  case h35 => intro wq hS; go_simp; with_reducible rfl
  try simp only [Act.put, List.getElem_toArray, List.getElem_cons_zero, List.getElem_cons_succ, List.setIfInBounds_toArray, List.set_cons_zero, List.set_cons_succ]
  refine wpAnyH_take (i := 7) (v := ?v36) rfl (by kernel_rfl) (by kernel_rfl) (by kernel_rfl) (fun _ _ _ h => h) (Or.inl ⟨by rfl, ?h36⟩) hHeld ?r36
  case h36 => intro wq hS; have cKX0 : wq.cell? ⟨e4, 0, none⟩ = some (.int .i64 xr) := (KX.out.after hS).cell 0; have cKX1 : wq.cell? ⟨e4, 1, none⟩ = some (.int .i64 xl) := (KX.out.after hS).cell 1; have cKX2 : wq.cell? ⟨e4, 2, none⟩ = some (.int .i64 xl) := (KX.out.after hS).cell 2; have cKX3 : wq.cell? ⟨e4, 3, none⟩ = some (.int .i64 xt) := (KX.out.after hS).cell 3; go_simp; with_reducible rfl
  try simp only [Act.put, List.getElem_toArray, List.getElem_cons_zero, List.getElem_cons_succ, List.setIfInBounds_toArray, List.set_cons_zero, List.set_cons_succ]
  refine wpAnyH_ready (rs := [8]) (by kernel_rfl) (by simp) ?_
  refine AllReadyH.cons rfl (fun K hK => ?_) AllReadyH.nil
  go_simp
  refine (HX.out _).mono ?_
  rintro e xf ⟨rfl, hbf⟩
  refine hK.out _ _ (hHeld.trans (hbf.mono hHeld.size)) (fun hHeld => ?_)
  clear hK K
  try simp only [Act.put, List.getElem_toArray, List.getElem_cons_zero, List.getElem_cons_succ, List.setIfInBounds_toArray, List.set_cons_zero, List.set_cons_succ]
  cases xo
  · refine wpAnyH_take (i := 9) (v := ?v37) rfl (by kernel_rfl) (by kernel_rfl) (by kernel_rfl) (fun _ _ _ h => h) (Or.inl ⟨by rfl, ?h37⟩) hHeld ?r37
    case h37 => intro wq hS; go_simp; with_reducible rfl
    try simp only [Act.put, List.getElem_toArray, List.getElem_cons_zero, List.getElem_cons_succ, List.setIfInBounds_toArray, List.set_cons_zero, List.set_cons_succ]
    refine wpAnyH_take (i := 10) (v := undef) rfl (by kernel_rfl) (by kernel_rfl) (by kernel_rfl) (fun _ _ _ h => h) (Or.inr ⟨by rfl, rfl⟩) hHeld ?r38
    try simp only [Act.put, List.getElem_toArray, List.getElem_cons_zero, List.getElem_cons_succ, List.setIfInBounds_toArray, List.set_cons_zero, List.set_cons_succ]
    refine wpAnyH_take (i := 11) (v := undef) rfl (by kernel_rfl) (by kernel_rfl) (by kernel_rfl) (fun _ _ _ h => h) (Or.inr ⟨by rfl, rfl⟩) hHeld ?r39
    try simp only [Act.put, List.getElem_toArray, List.getElem_cons_zero, List.getElem_cons_succ, List.setIfInBounds_toArray, List.set_cons_zero, List.set_cons_succ]
    refine wpAnyH_take (i := 12) (v := undef) rfl (by kernel_rfl) (by kernel_rfl) (by kernel_rfl) (fun _ _ _ h => h) (Or.inr ⟨by rfl, rfl⟩) hHeld ?r40
    try simp only [Act.put, List.getElem_toArray, List.getElem_cons_zero, List.getElem_cons_succ, List.setIfInBounds_toArray, List.set_cons_zero, List.set_cons_succ]
    refine wpAnyH_take (i := 13) (v := undef) rfl (by kernel_rfl) (by kernel_rfl) (by kernel_rfl) (fun _ _ _ h => h) (Or.inr ⟨by rfl, rfl⟩) hHeld ?r41
    try simp only [Act.put, List.getElem_toArray, List.getElem_cons_zero, List.getElem_cons_succ, List.setIfInBounds_toArray, List.set_cons_zero, List.set_cons_succ]
    refine wpAnyH_take (i := 14) (v := undef) rfl (by kernel_rfl) (by kernel_rfl) (by kernel_rfl) (fun _ _ _ h => h) (Or.inr ⟨by rfl, rfl⟩) hHeld ?r42
    try simp only [Act.put, List.getElem_toArray, List.getElem_cons_zero, List.getElem_cons_succ, List.setIfInBounds_toArray, List.set_cons_zero, List.set_cons_succ]
    refine wpAnyH_take (i := 15) (v := ?v43) rfl (by kernel_rfl) (by kernel_rfl) (by kernel_rfl) (fun _ _ _ h => h) (Or.inl ⟨by rfl, ?h43⟩) hHeld ?r43
    case h43 => intro wq hS; go_simp; with_reducible rfl
    try simp only [Act.put, List.getElem_toArray, List.getElem_cons_zero, List.getElem_cons_succ, List.setIfInBounds_toArray, List.set_cons_zero, List.set_cons_succ]
    refine wpAnyH_take (i := 16) (v := ?v44) rfl (by kernel_rfl) (by kernel_rfl) (by kernel_rfl) (fun _ _ _ h => h) (Or.inl ⟨by rfl, ?h44⟩) hHeld ?r44
    case h44 => intro wq hS; go_simp; with_reducible rfl
    try simp only [Act.put, List.getElem_toArray, List.getElem_cons_zero, List.getElem_cons_succ, List.setIfInBounds_toArray, List.set_cons_zero, List.set_cons_succ]
    refine wpAnyH_done (by kernel_rfl) ?_ _
    have hbq := hHeld
    clear hbe hbf
    clear hHeld
    have KB := Lib.hid (KB.out.after hbq)
    have KX := Lib.hid (KX.out.after hbq)
    have HB := Lib.hid (HB.out.trans (hbq.mono HB.out.size))
    clear hbq
    have kb0 : xf.cell? ⟨e1, 0, none⟩ = some (.int .i64 r) := KB.out.cell 0
    have kb1 : xf.cell? ⟨e1, 1, none⟩ = some (.int .i64 m) := KB.out.cell 1
    have kb2 : xf.cell? ⟨e1, 2, none⟩ = some (.int .i64 l) := KB.out.cell 2
    have kb3 : xf.cell? ⟨e1, 3, none⟩ = some (.int .i64 t) := KB.out.cell 3
    have kbl : e1 < xf.heap.size := KB.out.lt
    go_wp2_with fail
    refine (HI.out _).mono ?_
    rintro e x5 ⟨rfl, hbq⟩
    clear kb0 kb1 kb2 kb3 kbl
    have KB := Lib.hid (KB.out.after hbq)
    have KX := Lib.hid (KX.out.after hbq)
    have HB := Lib.hid (HB.out.trans (hbq.mono HB.out.size))
    clear hbq
    have hbq : Below x5.heap.size x5 (x5.alloc (.cells #[.int .i64 zr, .int .i64 zm, .int .i64 zl, .int .i64 zt] 25)) := (Below.refl _ _).alloc (Nat.le_refl _) _
    have hnq : Blk (x5.alloc (.cells #[.int .i64 zr, .int .i64 zm, .int .i64 zl, .int .i64 zt] 25)) x5.heap.size #[.int .i64 zr, .int .i64 zm, .int .i64 zl, .int .i64 zt] 25 := blk_new _ _ rfl
    have hleKC : w.heap.size ≤ x5.heap.size := HB.out.size
    have hltKBKC := KB.out.lt
    have hltKXKC := KX.out.lt
    have KB := Lib.hid (KB.out.after hbq)
    have KX := Lib.hid (KX.out.after hbq)
    have HB := Lib.hid (HB.out.trans (hbq.mono HB.out.size))
    have KC := Lib.hid hnq
    have HLTKC := Lib.hid (And.intro hleKC (And.intro hltKBKC (And.intro hltKXKC trivial)))
    clear hbq hnq hleKC hltKBKC hltKXKC
    have kb0 : (x5.alloc (.cells #[.int .i64 zr, .int .i64 zm, .int .i64 zl, .int .i64 zt] 25)).cell? ⟨e1, 0, none⟩ = some (.int .i64 r) := KB.out.cell 0
    have kb1 : (x5.alloc (.cells #[.int .i64 zr, .int .i64 zm, .int .i64 zl, .int .i64 zt] 25)).cell? ⟨e1, 1, none⟩ = some (.int .i64 m) := KB.out.cell 1
    have kb2 : (x5.alloc (.cells #[.int .i64 zr, .int .i64 zm, .int .i64 zl, .int .i64 zt] 25)).cell? ⟨e1, 2, none⟩ = some (.int .i64 l) := KB.out.cell 2
    have kb3 : (x5.alloc (.cells #[.int .i64 zr, .int .i64 zm, .int .i64 zl, .int .i64 zt] 25)).cell? ⟨e1, 3, none⟩ = some (.int .i64 t) := KB.out.cell 3
    have kbl : e1 < (x5.alloc (.cells #[.int .i64 zr, .int .i64 zm, .int .i64 zl, .int .i64 zt] 25)).heap.size := KB.out.lt
    go_wp2_with fail
    clear kb0 kb1 kb2 kb3 kbl
    generalize x5.alloc (.cells #[.int .i64 zr, .int .i64 zm, .int .i64 zl, .int .i64 zt] 25) = x6 at KB KX KC HB ⊢
    generalize x5.heap.size = e6 at KC HLTKC ⊢
    refine wp_region_held_drew (S := fun w' => Below x6.heap.size x6 w') (by kernel_rfl) (Below.drew (Below.refl _ _)) (fun hHeld => ?_)
    refine wpAnyH_take (i := 0) (v := ?v26) rfl (by kernel_rfl) (by kernel_rfl) (by kernel_rfl) (fun _ _ _ h => h) (Or.inl ⟨by rfl, ?h26⟩) hHeld ?r26
    case h26 => intro wq hS; have cKB0 : wq.cell? ⟨e1, 0, none⟩ = some (.int .i64 r) := (KB.out.after hS).cell 0; have cKB1 : wq.cell? ⟨e1, 1, none⟩ = some (.int .i64 m) := (KB.out.after hS).cell 1; have cKB2 : wq.cell? ⟨e1, 2, none⟩ = some (.int .i64 l) := (KB.out.after hS).cell 2; have cKB3 : wq.cell? ⟨e1, 3, none⟩ = some (.int .i64 t) := (KB.out.after hS).cell 3; have cKC0 : wq.cell? ⟨e6, 0, none⟩ = some (.int .i64 zr) := (KC.out.after hS).cell 0; have cKC1 : wq.cell? ⟨e6, 1, none⟩ = some (.int .i64 zm) := (KC.out.after hS).cell 1; have cKC2 : wq.cell? ⟨e6, 2, none⟩ = some (.int .i64 zl) := (KC.out.after hS).cell 2; have cKC3 : wq.cell? ⟨e6, 3, none⟩ = some (.int .i64 zt) := (KC.out.after hS).cell 3; go_simp; with_reducible rfl
    try simp only [Act.put, List.getElem_toArray, List.getElem_cons_zero, List.getElem_cons_succ, List.setIfInBounds_toArray, List.set_cons_zero, List.set_cons_succ]
    refine wpAnyH_take (i := 1) (v := ?v27) rfl (by kernel_rfl) (by kernel_rfl) (by kernel_rfl) (fun _ _ _ h => h) (Or.inl ⟨by rfl, ?h27⟩) hHeld ?r27
    case h27 => intro wq hS; have cKB0 : wq.cell? ⟨e1, 0, none⟩ = some (.int .i64 r) := (KB.out.after hS).cell 0; have cKB1 : wq.cell? ⟨e1, 1, none⟩ = some (.int .i64 m) := (KB.out.after hS).cell 1; have cKB2 : wq.cell? ⟨e1, 2, none⟩ = some (.int .i64 l) := (KB.out.after hS).cell 2; have cKB3 : wq.cell? ⟨e1, 3, none⟩ = some (.int .i64 t) := (KB.out.after hS).cell 3; have cKC0 : wq.cell? ⟨e6, 0, none⟩ = some (.int .i64 zr) := (KC.out.after hS).cell 0; have cKC1 : wq.cell? ⟨e6, 1, none⟩ = some (.int .i64 zm) := (KC.out.after hS).cell 1; have cKC2 : wq.cell? ⟨e6, 2, none⟩ = some (.int .i64 zl) := (KC.out.after hS).cell 2; have cKC3 : wq.cell? ⟨e6, 3, none⟩ = some (.int .i64 zt) := (KC.out.after hS).cell 3; go_simp; with_reducible rfl
    try simp only [Act.put, List.getElem_toArray, List.getElem_cons_zero, List.getElem_cons_succ, List.setIfInBounds_toArray, List.set_cons_zero, List.set_cons_succ]
    refine wpAnyH_take (i := 2) (v := ?v28) rfl (by kernel_rfl) (by kernel_rfl) (by kernel_rfl) (fun _ _ _ h => h) (Or.inl ⟨by rfl, ?h28⟩) hHeld ?r28
    case h28 => intro wq hS; go_simp; with_reducible rfl
    try simp only [Act.put, List.getElem_toArray, List.getElem_cons_zero, List.getElem_cons_succ, List.setIfInBounds_toArray, List.set_cons_zero, List.set_cons_succ]
    refine wpAnyH_ready (rs := [3]) (by kernel_rfl) (by simp) ?_
    refine AllReadyH.cons rfl (fun K hK => ?_) AllReadyH.nil
    go_simp
    refine (HS.out _).mono ?_
    rintro e xg ⟨rfl, hbg⟩
    refine hK.out _ _ (hHeld.trans (hbg.mono hHeld.size)) (fun hHeld => ?_)
    clear hK K
    try simp only [Act.put, List.getElem_toArray, List.getElem_cons_zero, List.getElem_cons_succ, List.setIfInBounds_toArray, List.set_cons_zero, List.set_cons_succ]
    refine wpAnyH_take (i := 4) (v := ?v29) rfl (by kernel_rfl) (by kernel_rfl) (by kernel_rfl) (fun _ _ _ h => h) (Or.inl ⟨by rfl, ?h29⟩) hHeld ?r29
    case h29 => intro wq hS; go_simp; with_reducible rfl
    try simp only [Act.put, List.getElem_toArray, List.getElem_cons_zero, List.getElem_cons_succ, List.setIfInBounds_toArray, List.set_cons_zero, List.set_cons_succ]
    refine wpAnyH_done (by kernel_rfl) ?_ _
    have hbq := hHeld
    clear hHeld hbg
    have KB := Lib.hid (KB.out.after hbq)
    have KX := Lib.hid (KX.out.after hbq)
    have KC := Lib.hid (KC.out.after hbq)
    have HB := Lib.hid (HB.out.trans (hbq.mono HB.out.size))
    clear hbq
    have kb0 : xg.cell? ⟨e1, 0, none⟩ = some (.int .i64 r) := KB.out.cell 0
    have kb1 : xg.cell? ⟨e1, 1, none⟩ = some (.int .i64 m) := KB.out.cell 1
    have kb2 : xg.cell? ⟨e1, 2, none⟩ = some (.int .i64 l) := KB.out.cell 2
    have kb3 : xg.cell? ⟨e1, 3, none⟩ = some (.int .i64 t) := KB.out.cell 3
    have kbl : e1 < xg.heap.size := KB.out.lt
    go_wp2_with fail
    refine (HO.out _).mono ?_
    rintro e x7 ⟨rfl, hbq⟩
    clear kb0 kb1 kb2 kb3 kbl
    have KB := Lib.hid (KB.out.after hbq)
    have KX := Lib.hid (KX.out.after hbq)
    have KC := Lib.hid (KC.out.after hbq)
    have HB := Lib.hid (HB.out.trans (hbq.mono HB.out.size))
    clear hbq
    cases ok
    · go_wp2_with fail
      go_ret
      exact ⟨rfl, HB.out⟩
    by_cases k1 : t < now
    · by_cases k2 : now ≤ 1000000000
      · obtain ⟨rfl, hok⟩ := HEND.out rfl k1 k2
        have hk := HK.out
        rw [decide_eq_true hok] at hk
        have HK := Lib.hid hk
        clear hk hok HEND
        have kb0 : x7.cell? ⟨e1, 0, none⟩ = some (.int .i64 r) := KB.out.cell 0
        have kb1 : x7.cell? ⟨e1, 1, none⟩ = some (.int .i64 m) := KB.out.cell 1
        have kb2 : x7.cell? ⟨e1, 2, none⟩ = some (.int .i64 l) := KB.out.cell 2
        have kb3 : x7.cell? ⟨e1, 3, none⟩ = some (.int .i64 t) := KB.out.cell 3
        have kbl : e1 < x7.heap.size := KB.out.lt
        have k3 : ¬ (now ≤ t) := by omega
        have k4 : ¬ (1000000000 < now) := by omega
        go_wp2_with fail
        clear k3 k4
        clear kb0 kb1 kb2 kb3 kbl
        refine wp_region_held_drew (S := fun w' => Below x7.heap.size x7 w') (by kernel_rfl) (Below.drew (Below.refl _ _)) (fun hHeld => ?_)
        refine wpAnyH_take (i := 0) (v := ?v10) rfl (by kernel_rfl) (by kernel_rfl) (by kernel_rfl) (fun _ _ _ h => h) (Or.inl ⟨by rfl, ?h10⟩) hHeld ?r10
        case h10 => intro wq hS; have cKB0 : wq.cell? ⟨e1, 0, none⟩ = some (.int .i64 r) := (KB.out.after hS).cell 0; have cKB1 : wq.cell? ⟨e1, 1, none⟩ = some (.int .i64 m) := (KB.out.after hS).cell 1; have cKB2 : wq.cell? ⟨e1, 2, none⟩ = some (.int .i64 l) := (KB.out.after hS).cell 2; have cKB3 : wq.cell? ⟨e1, 3, none⟩ = some (.int .i64 t) := (KB.out.after hS).cell 3; have cKC0 : wq.cell? ⟨e6, 0, none⟩ = some (.int .i64 zr) := (KC.out.after hS).cell 0; have cKC1 : wq.cell? ⟨e6, 1, none⟩ = some (.int .i64 zm) := (KC.out.after hS).cell 1; have cKC2 : wq.cell? ⟨e6, 2, none⟩ = some (.int .i64 zl) := (KC.out.after hS).cell 2; have cKC3 : wq.cell? ⟨e6, 3, none⟩ = some (.int .i64 zt) := (KC.out.after hS).cell 3; go_simp; with_reducible rfl
        try simp only [Act.put, List.getElem_toArray, List.getElem_cons_zero, List.getElem_cons_succ, List.setIfInBounds_toArray, List.set_cons_zero, List.set_cons_succ]
        refine wpAnyH_take (i := 1) (v := ?v11) rfl (by kernel_rfl) (by kernel_rfl) (by kernel_rfl) (fun _ _ _ h => h) (Or.inl ⟨by rfl, ?h11⟩) hHeld ?r11
        case h11 => intro wq hS; go_simp; with_reducible rfl
        try simp only [Act.put, List.getElem_toArray, List.getElem_cons_zero, List.getElem_cons_succ, List.setIfInBounds_toArray, List.set_cons_zero, List.set_cons_succ]
        refine wpAnyH_take (i := 2) (v := ?v12) rfl (by kernel_rfl) (by kernel_rfl) (by kernel_rfl) (fun _ _ _ h => h) (Or.inl ⟨by rfl, ?h12⟩) hHeld ?r12
        case h12 => intro wq hS; have cKB0 : wq.cell? ⟨e1, 0, none⟩ = some (.int .i64 r) := (KB.out.after hS).cell 0; have cKB1 : wq.cell? ⟨e1, 1, none⟩ = some (.int .i64 m) := (KB.out.after hS).cell 1; have cKB2 : wq.cell? ⟨e1, 2, none⟩ = some (.int .i64 l) := (KB.out.after hS).cell 2; have cKB3 : wq.cell? ⟨e1, 3, none⟩ = some (.int .i64 t) := (KB.out.after hS).cell 3; have cKC0 : wq.cell? ⟨e6, 0, none⟩ = some (.int .i64 zr) := (KC.out.after hS).cell 0; have cKC1 : wq.cell? ⟨e6, 1, none⟩ = some (.int .i64 zm) := (KC.out.after hS).cell 1; have cKC2 : wq.cell? ⟨e6, 2, none⟩ = some (.int .i64 zl) := (KC.out.after hS).cell 2; have cKC3 : wq.cell? ⟨e6, 3, none⟩ = some (.int .i64 zt) := (KC.out.after hS).cell 3; go_simp; with_reducible rfl
        try simp only [Act.put, List.getElem_toArray, List.getElem_cons_zero, List.getElem_cons_succ, List.setIfInBounds_toArray, List.set_cons_zero, List.set_cons_succ]
        refine wpAnyH_take (i := 3) (v := ?v13) rfl (by kernel_rfl) (by kernel_rfl) (by kernel_rfl) (fun _ _ _ h => h) (Or.inl ⟨by rfl, ?h13⟩) hHeld ?r13
        case h13 => intro wq hS; go_simp; with_reducible rfl
        try simp only [Act.put, List.getElem_toArray, List.getElem_cons_zero, List.getElem_cons_succ, List.setIfInBounds_toArray, List.set_cons_zero, List.set_cons_succ]
        refine wpAnyH_take (i := 4) (v := ?v14) rfl (by kernel_rfl) (by kernel_rfl) (by kernel_rfl) (fun _ _ _ h => h) (Or.inl ⟨by rfl, ?h14⟩) hHeld ?r14
        case h14 => intro wq hS; go_simp; with_reducible rfl
        try simp only [Act.put, List.getElem_toArray, List.getElem_cons_zero, List.getElem_cons_succ, List.setIfInBounds_toArray, List.set_cons_zero, List.set_cons_succ]
        refine wpAnyH_take (i := 5) (v := ?v15) rfl (by kernel_rfl) (by kernel_rfl) (by kernel_rfl) (fun _ _ _ h => h) (Or.inl ⟨by rfl, ?h15⟩) hHeld ?r15
        case h15 => intro wq hS; have cKB0 : wq.cell? ⟨e1, 0, none⟩ = some (.int .i64 r) := (KB.out.after hS).cell 0; have cKB1 : wq.cell? ⟨e1, 1, none⟩ = some (.int .i64 m) := (KB.out.after hS).cell 1; have cKB2 : wq.cell? ⟨e1, 2, none⟩ = some (.int .i64 l) := (KB.out.after hS).cell 2; have cKB3 : wq.cell? ⟨e1, 3, none⟩ = some (.int .i64 t) := (KB.out.after hS).cell 3; have cKC0 : wq.cell? ⟨e6, 0, none⟩ = some (.int .i64 zr) := (KC.out.after hS).cell 0; have cKC1 : wq.cell? ⟨e6, 1, none⟩ = some (.int .i64 zm) := (KC.out.after hS).cell 1; have cKC2 : wq.cell? ⟨e6, 2, none⟩ = some (.int .i64 zl) := (KC.out.after hS).cell 2; have cKC3 : wq.cell? ⟨e6, 3, none⟩ = some (.int .i64 zt) := (KC.out.after hS).cell 3; go_simp; with_reducible rfl
        try simp only [Act.put, List.getElem_toArray, List.getElem_cons_zero, List.getElem_cons_succ, List.setIfInBounds_toArray, List.set_cons_zero, List.set_cons_succ]
        refine wpAnyH_take (i := 6) (v := ?v16) rfl (by kernel_rfl) (by kernel_rfl) (by kernel_rfl) (fun _ _ _ h => h) (Or.inl ⟨by rfl, ?h16⟩) hHeld ?r16
        case h16 => intro wq hS; go_simp; with_reducible rfl
        try simp only [Act.put, List.getElem_toArray, List.getElem_cons_zero, List.getElem_cons_succ, List.setIfInBounds_toArray, List.set_cons_zero, List.set_cons_succ]
        refine wpAnyH_take (i := 7) (v := ?v17) rfl (by kernel_rfl) (by kernel_rfl) (by kernel_rfl) (fun _ _ _ h => h) (Or.inl ⟨by rfl, ?h17⟩) hHeld ?r17
        case h17 => intro wq hS; go_simp; with_reducible rfl
        try simp only [Act.put, List.getElem_toArray, List.getElem_cons_zero, List.getElem_cons_succ, List.setIfInBounds_toArray, List.set_cons_zero, List.set_cons_succ]
        refine wpAnyH_take (i := 8) (v := ?v18) rfl (by kernel_rfl) (by kernel_rfl) (by kernel_rfl) (fun _ _ _ h => h) (Or.inl ⟨by rfl, ?h18⟩) hHeld ?r18
        case h18 => intro wq hS; go_simp; with_reducible rfl
        try simp only [Act.put, List.getElem_toArray, List.getElem_cons_zero, List.getElem_cons_succ, List.setIfInBounds_toArray, List.set_cons_zero, List.set_cons_succ]
        refine wpAnyH_take (i := 10) (v := ?v19) rfl (by kernel_rfl) (by kernel_rfl) (by kernel_rfl) (fun _ _ _ h => h) (Or.inl ⟨by rfl, ?h19⟩) hHeld ?r19
        case h19 => intro wq hS; go_simp; with_reducible rfl
        try simp only [Act.put, List.getElem_toArray, List.getElem_cons_zero, List.getElem_cons_succ, List.setIfInBounds_toArray, List.set_cons_zero, List.set_cons_succ]
        refine wpAnyH_take (i := 12) (v := ?v20) rfl (by kernel_rfl) (by kernel_rfl) (by kernel_rfl) (fun _ _ _ h => h) (Or.inl ⟨by rfl, ?h20⟩) hHeld ?r20
        case h20 => intro wq hS; have cKB0 : wq.cell? ⟨e1, 0, none⟩ = some (.int .i64 r) := (KB.out.after hS).cell 0; have cKB1 : wq.cell? ⟨e1, 1, none⟩ = some (.int .i64 m) := (KB.out.after hS).cell 1; have cKB2 : wq.cell? ⟨e1, 2, none⟩ = some (.int .i64 l) := (KB.out.after hS).cell 2; have cKB3 : wq.cell? ⟨e1, 3, none⟩ = some (.int .i64 t) := (KB.out.after hS).cell 3; have cKC0 : wq.cell? ⟨e6, 0, none⟩ = some (.int .i64 zr) := (KC.out.after hS).cell 0; have cKC1 : wq.cell? ⟨e6, 1, none⟩ = some (.int .i64 zm) := (KC.out.after hS).cell 1; have cKC2 : wq.cell? ⟨e6, 2, none⟩ = some (.int .i64 zl) := (KC.out.after hS).cell 2; have cKC3 : wq.cell? ⟨e6, 3, none⟩ = some (.int .i64 zt) := (KC.out.after hS).cell 3; go_simp; with_reducible rfl
        try simp only [Act.put, List.getElem_toArray, List.getElem_cons_zero, List.getElem_cons_succ, List.setIfInBounds_toArray, List.set_cons_zero, List.set_cons_succ]
        refine wpAnyH_ready (rs := [9]) (by kernel_rfl) (by simp) ?_
        refine AllReadyH.cons rfl (fun K hK => ?_) AllReadyH.nil
        go_simp
        refine (H1.out _).mono ?_
        rintro e xh ⟨rfl, hbh⟩
        refine hK.out _ _ (hHeld.trans (hbh.mono hHeld.size)) (fun hHeld => ?_)
        clear hK K
        try simp only [Act.put, List.getElem_toArray, List.getElem_cons_zero, List.getElem_cons_succ, List.setIfInBounds_toArray, List.set_cons_zero, List.set_cons_succ]
        refine wpAnyH_ready (rs := [11]) (by kernel_rfl) (by simp) ?_
        refine AllReadyH.cons rfl (fun K hK => ?_) AllReadyH.nil
        go_simp
        refine (H2.out _).mono ?_
        rintro e xi ⟨rfl, hbi⟩
        refine hK.out _ _ (hHeld.trans (hbi.mono hHeld.size)) (fun hHeld => ?_)
        clear hK K
        try simp only [Act.put, List.getElem_toArray, List.getElem_cons_zero, List.getElem_cons_succ, List.setIfInBounds_toArray, List.set_cons_zero, List.set_cons_succ]
        refine wpAnyH_take (i := 13) (v := ?v21) rfl (by kernel_rfl) (by kernel_rfl) (by kernel_rfl) (fun _ _ _ h => h) (Or.inl ⟨by rfl, ?h21⟩) hHeld ?r21
        case h21 => intro wq hS; go_simp; with_reducible rfl
        try simp only [Act.put, List.getElem_toArray, List.getElem_cons_zero, List.getElem_cons_succ, List.setIfInBounds_toArray, List.set_cons_zero, List.set_cons_succ]
        refine wpAnyH_take (i := 14) (v := ?v22) rfl (by kernel_rfl) (by kernel_rfl) (by kernel_rfl) (fun _ _ _ h => h) (Or.inl ⟨by rfl, ?h22⟩) hHeld ?r22
        case h22 => intro wq hS; go_simp; with_reducible rfl
        try simp only [Act.put, List.getElem_toArray, List.getElem_cons_zero, List.getElem_cons_succ, List.setIfInBounds_toArray, List.set_cons_zero, List.set_cons_succ]
        refine wpAnyH_take (i := 15) (v := ?v23) rfl (by kernel_rfl) (by kernel_rfl) (by kernel_rfl) (fun _ _ _ h => h) (Or.inl ⟨by rfl, ?h23⟩) hHeld ?r23
        case h23 => intro wq hS; have cKB0 : wq.cell? ⟨e1, 0, none⟩ = some (.int .i64 r) := (KB.out.after hS).cell 0; have cKB1 : wq.cell? ⟨e1, 1, none⟩ = some (.int .i64 m) := (KB.out.after hS).cell 1; have cKB2 : wq.cell? ⟨e1, 2, none⟩ = some (.int .i64 l) := (KB.out.after hS).cell 2; have cKB3 : wq.cell? ⟨e1, 3, none⟩ = some (.int .i64 t) := (KB.out.after hS).cell 3; have cKC0 : wq.cell? ⟨e6, 0, none⟩ = some (.int .i64 zr) := (KC.out.after hS).cell 0; have cKC1 : wq.cell? ⟨e6, 1, none⟩ = some (.int .i64 zm) := (KC.out.after hS).cell 1; have cKC2 : wq.cell? ⟨e6, 2, none⟩ = some (.int .i64 zl) := (KC.out.after hS).cell 2; have cKC3 : wq.cell? ⟨e6, 3, none⟩ = some (.int .i64 zt) := (KC.out.after hS).cell 3; go_simp; with_reducible rfl
        try simp only [Act.put, List.getElem_toArray, List.getElem_cons_zero, List.getElem_cons_succ, List.setIfInBounds_toArray, List.set_cons_zero, List.set_cons_succ]
        refine wpAnyH_ready (rs := [16]) (by kernel_rfl) (by simp) ?_
        refine AllReadyH.cons rfl (fun K hK => ?_) AllReadyH.nil
        go_simp
        refine (HK.out _).mono ?_
        rintro e xj ⟨rfl, hbj⟩
        refine hK.out _ _ (hHeld.trans (hbj.mono hHeld.size)) (fun hHeld => ?_)
        clear hK K
        try simp only [Act.put, List.getElem_toArray, List.getElem_cons_zero, List.getElem_cons_succ, List.setIfInBounds_toArray, List.set_cons_zero, List.set_cons_succ]
        refine wpAnyH_take (i := 17) (v := ?v24) rfl (by kernel_rfl) (by kernel_rfl) (by kernel_rfl) (fun _ _ _ h => h) (Or.inl ⟨by rfl, ?h24⟩) hHeld ?r24
        case h24 => intro wq hS; go_simp; with_reducible rfl
        try simp only [Act.put, List.getElem_toArray, List.getElem_cons_zero, List.getElem_cons_succ, List.setIfInBounds_toArray, List.set_cons_zero, List.set_cons_succ]
        refine wpAnyH_take (i := 18) (v := ?v25) rfl (by kernel_rfl) (by kernel_rfl) (by kernel_rfl) (fun _ _ _ h => h) (Or.inl ⟨by rfl, ?h25⟩) hHeld ?r25
        case h25 => intro wq hS; go_simp; with_reducible rfl
        try simp only [Act.put, List.getElem_toArray, List.getElem_cons_zero, List.getElem_cons_succ, List.setIfInBounds_toArray, List.set_cons_zero, List.set_cons_succ]
        refine wpAnyH_done (by kernel_rfl) ?_ _
        have hbq := hHeld
        clear hHeld hbh hbi hbj
        have KB := Lib.hid (KB.out.after hbq)
        have KX := Lib.hid (KX.out.after hbq)
        have KC := Lib.hid (KC.out.after hbq)
        have HB := Lib.hid (HB.out.trans (hbq.mono HB.out.size))
        clear hbq
        go_wp2_with fail
        go_ret
        exact ⟨rfl, HB.out⟩
      have k3 : 1000000000 < now := by omega
      have kb0 : x7.cell? ⟨e1, 0, none⟩ = some (.int .i64 r) := KB.out.cell 0
      have kb1 : x7.cell? ⟨e1, 1, none⟩ = some (.int .i64 m) := KB.out.cell 1
      have kb2 : x7.cell? ⟨e1, 2, none⟩ = some (.int .i64 l) := KB.out.cell 2
      have kb3 : x7.cell? ⟨e1, 3, none⟩ = some (.int .i64 t) := KB.out.cell 3
      have kbl : e1 < x7.heap.size := KB.out.lt
      go_wp2_with fail
      go_ret
      exact ⟨rfl, HB.out⟩
    have k3 : now ≤ t := by omega
    have kb0 : x7.cell? ⟨e1, 0, none⟩ = some (.int .i64 r) := KB.out.cell 0
    have kb1 : x7.cell? ⟨e1, 1, none⟩ = some (.int .i64 m) := KB.out.cell 1
    have kb2 : x7.cell? ⟨e1, 2, none⟩ = some (.int .i64 l) := KB.out.cell 2
    have kb3 : x7.cell? ⟨e1, 3, none⟩ = some (.int .i64 t) := KB.out.cell 3
    have kbl : e1 < x7.heap.size := KB.out.lt
    go_wp2_with fail
    go_ret
    exact ⟨rfl, HB.out⟩
  · refine wpAnyH_take (i := 9) (v := ?v45) rfl (by kernel_rfl) (by kernel_rfl) (by kernel_rfl) (fun _ _ _ h => h) (Or.inl ⟨by rfl, ?h45⟩) hHeld ?r45
    case h45 => intro wq hS; go_simp; with_reducible rfl
    try simp only [Act.put, List.getElem_toArray, List.getElem_cons_zero, List.getElem_cons_succ, List.setIfInBounds_toArray, List.set_cons_zero, List.set_cons_succ]
    refine wpAnyH_take (i := 10) (v := ?v46) rfl (by kernel_rfl) (by kernel_rfl) (by kernel_rfl) (fun _ _ _ h => h) (Or.inl ⟨by rfl, ?h46⟩) hHeld ?r46
    case h46 => intro wq hS; go_simp; with_reducible rfl
    try simp only [Act.put, List.getElem_toArray, List.getElem_cons_zero, List.getElem_cons_succ, List.setIfInBounds_toArray, List.set_cons_zero, List.set_cons_succ]
    refine wpAnyH_take (i := 11) (v := ?v47) rfl (by kernel_rfl) (by kernel_rfl) (by kernel_rfl) (fun _ _ _ h => h) (Or.inl ⟨by rfl, ?h47⟩) hHeld ?r47
    case h47 => intro wq hS; have cKX0 : wq.cell? ⟨e4, 0, none⟩ = some (.int .i64 xr) := (KX.out.after hS).cell 0; have cKX1 : wq.cell? ⟨e4, 1, none⟩ = some (.int .i64 xl) := (KX.out.after hS).cell 1; have cKX2 : wq.cell? ⟨e4, 2, none⟩ = some (.int .i64 xl) := (KX.out.after hS).cell 2; have cKX3 : wq.cell? ⟨e4, 3, none⟩ = some (.int .i64 xt) := (KX.out.after hS).cell 3; go_simp; with_reducible rfl
    try simp only [Act.put, List.getElem_toArray, List.getElem_cons_zero, List.getElem_cons_succ, List.setIfInBounds_toArray, List.set_cons_zero, List.set_cons_succ]
    refine wpAnyH_take (i := 12) (v := ?v48) rfl (by kernel_rfl) (by kernel_rfl) (by kernel_rfl) (fun _ _ _ h => h) (Or.inl ⟨by rfl, ?h48⟩) hHeld ?r48
    case h48 => intro wq hS; go_simp; with_reducible rfl
    try simp only [Act.put, List.getElem_toArray, List.getElem_cons_zero, List.getElem_cons_succ, List.setIfInBounds_toArray, List.set_cons_zero, List.set_cons_succ]
    refine wpAnyH_take (i := 13) (v := ?v49) rfl (by kernel_rfl) (by kernel_rfl) (by kernel_rfl) (fun _ _ _ h => h) (Or.inl ⟨by rfl, ?h49⟩) hHeld ?r49
    case h49 => intro wq hS; have cKX0 : wq.cell? ⟨e4, 0, none⟩ = some (.int .i64 xr) := (KX.out.after hS).cell 0; have cKX1 : wq.cell? ⟨e4, 1, none⟩ = some (.int .i64 xl) := (KX.out.after hS).cell 1; have cKX2 : wq.cell? ⟨e4, 2, none⟩ = some (.int .i64 xl) := (KX.out.after hS).cell 2; have cKX3 : wq.cell? ⟨e4, 3, none⟩ = some (.int .i64 xt) := (KX.out.after hS).cell 3; go_simp; with_reducible rfl
    try simp only [Act.put, List.getElem_toArray, List.getElem_cons_zero, List.getElem_cons_succ, List.setIfInBounds_toArray, List.set_cons_zero, List.set_cons_succ]
    refine wpAnyH_take (i := 14) (v := ?v50) rfl (by kernel_rfl) (by kernel_rfl) (by kernel_rfl) (fun _ _ _ h => h) (Or.inl ⟨by rfl, ?h50⟩) hHeld ?r50
    case h50 => intro wq hS; go_simp; with_reducible rfl
    try simp only [Act.put, List.getElem_toArray, List.getElem_cons_zero, List.getElem_cons_succ, List.setIfInBounds_toArray, List.set_cons_zero, List.set_cons_succ]
    refine wpAnyH_take (i := 15) (v := ?v51) rfl (by kernel_rfl) (by kernel_rfl) (by kernel_rfl) (fun _ _ _ h => h) (Or.inl ⟨by rfl, ?h51⟩) hHeld ?r51
    case h51 => intro wq hS; go_simp; with_reducible rfl
    try simp only [Act.put, List.getElem_toArray, List.getElem_cons_zero, List.getElem_cons_succ, List.setIfInBounds_toArray, List.set_cons_zero, List.set_cons_succ]
    refine wpAnyH_take (i := 16) (v := ?v52) rfl (by kernel_rfl) (by kernel_rfl) (by kernel_rfl) (fun _ _ _ h => h) (Or.inl ⟨by rfl, ?h52⟩) hHeld ?r52
    case h52 => intro wq hS; go_simp; with_reducible rfl
    try simp only [Act.put, List.getElem_toArray, List.getElem_cons_zero, List.getElem_cons_succ, List.setIfInBounds_toArray, List.set_cons_zero, List.set_cons_succ]
    refine wpAnyH_done (by kernel_rfl) ?_ _
    have hbq := hHeld
    clear hbe hbf
    clear hHeld
    have KB := Lib.hid (KB.out.after hbq)
    have KX := Lib.hid (KX.out.after hbq)
    have HB := Lib.hid (HB.out.trans (hbq.mono HB.out.size))
    clear hbq
    have kb0 : xf.cell? ⟨e1, 0, none⟩ = some (.int .i64 r) := KB.out.cell 0
    have kb1 : xf.cell? ⟨e1, 1, none⟩ = some (.int .i64 m) := KB.out.cell 1
    have kb2 : xf.cell? ⟨e1, 2, none⟩ = some (.int .i64 l) := KB.out.cell 2
    have kb3 : xf.cell? ⟨e1, 3, none⟩ = some (.int .i64 t) := KB.out.cell 3
    have kbl : e1 < xf.heap.size := KB.out.lt
    go_wp2_with fail
    refine (HI.out _).mono ?_
    rintro e x5 ⟨rfl, hbq⟩
    clear kb0 kb1 kb2 kb3 kbl
    have KB := Lib.hid (KB.out.after hbq)
    have KX := Lib.hid (KX.out.after hbq)
    have HB := Lib.hid (HB.out.trans (hbq.mono HB.out.size))
    clear hbq
    have hbq : Below x5.heap.size x5 (x5.alloc (.cells #[.int .i64 zr, .int .i64 zm, .int .i64 zl, .int .i64 zt] 25)) := (Below.refl _ _).alloc (Nat.le_refl _) _
    have hnq : Blk (x5.alloc (.cells #[.int .i64 zr, .int .i64 zm, .int .i64 zl, .int .i64 zt] 25)) x5.heap.size #[.int .i64 zr, .int .i64 zm, .int .i64 zl, .int .i64 zt] 25 := blk_new _ _ rfl
    have hleKC : w.heap.size ≤ x5.heap.size := HB.out.size
    have hltKBKC := KB.out.lt
    have hltKXKC := KX.out.lt
    have KB := Lib.hid (KB.out.after hbq)
    have KX := Lib.hid (KX.out.after hbq)
    have HB := Lib.hid (HB.out.trans (hbq.mono HB.out.size))
    have KC := Lib.hid hnq
    have HLTKC := Lib.hid (And.intro hleKC (And.intro hltKBKC (And.intro hltKXKC trivial)))
    clear hbq hnq hleKC hltKBKC hltKXKC
    have kb0 : (x5.alloc (.cells #[.int .i64 zr, .int .i64 zm, .int .i64 zl, .int .i64 zt] 25)).cell? ⟨e1, 0, none⟩ = some (.int .i64 r) := KB.out.cell 0
    have kb1 : (x5.alloc (.cells #[.int .i64 zr, .int .i64 zm, .int .i64 zl, .int .i64 zt] 25)).cell? ⟨e1, 1, none⟩ = some (.int .i64 m) := KB.out.cell 1
    have kb2 : (x5.alloc (.cells #[.int .i64 zr, .int .i64 zm, .int .i64 zl, .int .i64 zt] 25)).cell? ⟨e1, 2, none⟩ = some (.int .i64 l) := KB.out.cell 2
    have kb3 : (x5.alloc (.cells #[.int .i64 zr, .int .i64 zm, .int .i64 zl, .int .i64 zt] 25)).cell? ⟨e1, 3, none⟩ = some (.int .i64 t) := KB.out.cell 3
    have kbl : e1 < (x5.alloc (.cells #[.int .i64 zr, .int .i64 zm, .int .i64 zl, .int .i64 zt] 25)).heap.size := KB.out.lt
    go_wp2_with fail
    clear kb0 kb1 kb2 kb3 kbl
    generalize x5.alloc (.cells #[.int .i64 zr, .int .i64 zm, .int .i64 zl, .int .i64 zt] 25) = x6 at KB KX KC HB ⊢
    generalize x5.heap.size = e6 at KC HLTKC ⊢
    refine wp_region_held_drew (S := fun w' => Below x6.heap.size x6 w') (by kernel_rfl) (Below.drew (Below.refl _ _)) (fun hHeld => ?_)
    refine wpAnyH_take (i := 0) (v := ?v26b) rfl (by kernel_rfl) (by kernel_rfl) (by kernel_rfl) (fun _ _ _ h => h) (Or.inl ⟨by rfl, ?h26b⟩) hHeld ?r26b
    case h26b => intro wq hS; have cKB0 : wq.cell? ⟨e1, 0, none⟩ = some (.int .i64 r) := (KB.out.after hS).cell 0; have cKB1 : wq.cell? ⟨e1, 1, none⟩ = some (.int .i64 m) := (KB.out.after hS).cell 1; have cKB2 : wq.cell? ⟨e1, 2, none⟩ = some (.int .i64 l) := (KB.out.after hS).cell 2; have cKB3 : wq.cell? ⟨e1, 3, none⟩ = some (.int .i64 t) := (KB.out.after hS).cell 3; have cKC0 : wq.cell? ⟨e6, 0, none⟩ = some (.int .i64 zr) := (KC.out.after hS).cell 0; have cKC1 : wq.cell? ⟨e6, 1, none⟩ = some (.int .i64 zm) := (KC.out.after hS).cell 1; have cKC2 : wq.cell? ⟨e6, 2, none⟩ = some (.int .i64 zl) := (KC.out.after hS).cell 2; have cKC3 : wq.cell? ⟨e6, 3, none⟩ = some (.int .i64 zt) := (KC.out.after hS).cell 3; go_simp; with_reducible rfl
    try simp only [Act.put, List.getElem_toArray, List.getElem_cons_zero, List.getElem_cons_succ, List.setIfInBounds_toArray, List.set_cons_zero, List.set_cons_succ]
    refine wpAnyH_take (i := 1) (v := ?v27b) rfl (by kernel_rfl) (by kernel_rfl) (by kernel_rfl) (fun _ _ _ h => h) (Or.inl ⟨by rfl, ?h27b⟩) hHeld ?r27b
    case h27b => intro wq hS; have cKB0 : wq.cell? ⟨e1, 0, none⟩ = some (.int .i64 r) := (KB.out.after hS).cell 0; have cKB1 : wq.cell? ⟨e1, 1, none⟩ = some (.int .i64 m) := (KB.out.after hS).cell 1; have cKB2 : wq.cell? ⟨e1, 2, none⟩ = some (.int .i64 l) := (KB.out.after hS).cell 2; have cKB3 : wq.cell? ⟨e1, 3, none⟩ = some (.int .i64 t) := (KB.out.after hS).cell 3; have cKC0 : wq.cell? ⟨e6, 0, none⟩ = some (.int .i64 zr) := (KC.out.after hS).cell 0; have cKC1 : wq.cell? ⟨e6, 1, none⟩ = some (.int .i64 zm) := (KC.out.after hS).cell 1; have cKC2 : wq.cell? ⟨e6, 2, none⟩ = some (.int .i64 zl) := (KC.out.after hS).cell 2; have cKC3 : wq.cell? ⟨e6, 3, none⟩ = some (.int .i64 zt) := (KC.out.after hS).cell 3; go_simp; with_reducible rfl
    try simp only [Act.put, List.getElem_toArray, List.getElem_cons_zero, List.getElem_cons_succ, List.setIfInBounds_toArray, List.set_cons_zero, List.set_cons_succ]
    refine wpAnyH_take (i := 2) (v := ?v28b) rfl (by kernel_rfl) (by kernel_rfl) (by kernel_rfl) (fun _ _ _ h => h) (Or.inl ⟨by rfl, ?h28b⟩) hHeld ?r28b
    case h28b => intro wq hS; go_simp; with_reducible rfl
    try simp only [Act.put, List.getElem_toArray, List.getElem_cons_zero, List.getElem_cons_succ, List.setIfInBounds_toArray, List.set_cons_zero, List.set_cons_succ]
    refine wpAnyH_ready (rs := [3]) (by kernel_rfl) (by simp) ?_
    refine AllReadyH.cons rfl (fun K hK => ?_) AllReadyH.nil
    go_simp
    refine (HS.out _).mono ?_
    rintro e xg ⟨rfl, hbg⟩
    refine hK.out _ _ (hHeld.trans (hbg.mono hHeld.size)) (fun hHeld => ?_)
    clear hK K
    try simp only [Act.put, List.getElem_toArray, List.getElem_cons_zero, List.getElem_cons_succ, List.setIfInBounds_toArray, List.set_cons_zero, List.set_cons_succ]
    refine wpAnyH_take (i := 4) (v := ?v29b) rfl (by kernel_rfl) (by kernel_rfl) (by kernel_rfl) (fun _ _ _ h => h) (Or.inl ⟨by rfl, ?h29b⟩) hHeld ?r29b
    case h29b => intro wq hS; go_simp; with_reducible rfl
    try simp only [Act.put, List.getElem_toArray, List.getElem_cons_zero, List.getElem_cons_succ, List.setIfInBounds_toArray, List.set_cons_zero, List.set_cons_succ]
    refine wpAnyH_done (by kernel_rfl) ?_ _
    have hbq := hHeld
    clear hHeld hbg
    have KB := Lib.hid (KB.out.after hbq)
    have KX := Lib.hid (KX.out.after hbq)
    have KC := Lib.hid (KC.out.after hbq)
    have HB := Lib.hid (HB.out.trans (hbq.mono HB.out.size))
    clear hbq
    have kb0 : xg.cell? ⟨e1, 0, none⟩ = some (.int .i64 r) := KB.out.cell 0
    have kb1 : xg.cell? ⟨e1, 1, none⟩ = some (.int .i64 m) := KB.out.cell 1
    have kb2 : xg.cell? ⟨e1, 2, none⟩ = some (.int .i64 l) := KB.out.cell 2
    have kb3 : xg.cell? ⟨e1, 3, none⟩ = some (.int .i64 t) := KB.out.cell 3
    have kbl : e1 < xg.heap.size := KB.out.lt
    go_wp2_with fail
    refine (HO.out _).mono ?_
    rintro e x7 ⟨rfl, hbq⟩
    clear kb0 kb1 kb2 kb3 kbl
    have KB := Lib.hid (KB.out.after hbq)
    have KX := Lib.hid (KX.out.after hbq)
    have KC := Lib.hid (KC.out.after hbq)
    have HB := Lib.hid (HB.out.trans (hbq.mono HB.out.size))
    clear hbq
    cases ok
    · go_wp2_with fail
      go_ret
      exact ⟨rfl, HB.out⟩
    by_cases k1 : t < now
    · by_cases k2 : now ≤ 1000000000
      · obtain ⟨rfl, hok⟩ := HEND.out rfl k1 k2
        have hk := HK.out
        rw [decide_eq_true hok] at hk
        have HK := Lib.hid hk
        clear hk hok HEND
        have kb0 : x7.cell? ⟨e1, 0, none⟩ = some (.int .i64 r) := KB.out.cell 0
        have kb1 : x7.cell? ⟨e1, 1, none⟩ = some (.int .i64 m) := KB.out.cell 1
        have kb2 : x7.cell? ⟨e1, 2, none⟩ = some (.int .i64 l) := KB.out.cell 2
        have kb3 : x7.cell? ⟨e1, 3, none⟩ = some (.int .i64 t) := KB.out.cell 3
        have kbl : e1 < x7.heap.size := KB.out.lt
        have k3 : ¬ (now ≤ t) := by omega
        have k4 : ¬ (1000000000 < now) := by omega
        go_wp2_with fail
        clear k3 k4
        clear kb0 kb1 kb2 kb3 kbl
        refine wp_region_held_drew (S := fun w' => Below x7.heap.size x7 w') (by kernel_rfl) (Below.drew (Below.refl _ _)) (fun hHeld => ?_)
        refine wpAnyH_take (i := 0) (v := ?v10b) rfl (by kernel_rfl) (by kernel_rfl) (by kernel_rfl) (fun _ _ _ h => h) (Or.inl ⟨by rfl, ?h10b⟩) hHeld ?r10b
        case h10b => intro wq hS; have cKB0 : wq.cell? ⟨e1, 0, none⟩ = some (.int .i64 r) := (KB.out.after hS).cell 0; have cKB1 : wq.cell? ⟨e1, 1, none⟩ = some (.int .i64 m) := (KB.out.after hS).cell 1; have cKB2 : wq.cell? ⟨e1, 2, none⟩ = some (.int .i64 l) := (KB.out.after hS).cell 2; have cKB3 : wq.cell? ⟨e1, 3, none⟩ = some (.int .i64 t) := (KB.out.after hS).cell 3; have cKC0 : wq.cell? ⟨e6, 0, none⟩ = some (.int .i64 zr) := (KC.out.after hS).cell 0; have cKC1 : wq.cell? ⟨e6, 1, none⟩ = some (.int .i64 zm) := (KC.out.after hS).cell 1; have cKC2 : wq.cell? ⟨e6, 2, none⟩ = some (.int .i64 zl) := (KC.out.after hS).cell 2; have cKC3 : wq.cell? ⟨e6, 3, none⟩ = some (.int .i64 zt) := (KC.out.after hS).cell 3; go_simp; with_reducible rfl
        try simp only [Act.put, List.getElem_toArray, List.getElem_cons_zero, List.getElem_cons_succ, List.setIfInBounds_toArray, List.set_cons_zero, List.set_cons_succ]
        refine wpAnyH_take (i := 1) (v := ?v11b) rfl (by kernel_rfl) (by kernel_rfl) (by kernel_rfl) (fun _ _ _ h => h) (Or.inl ⟨by rfl, ?h11b⟩) hHeld ?r11b
        case h11b => intro wq hS; go_simp; with_reducible rfl
        try simp only [Act.put, List.getElem_toArray, List.getElem_cons_zero, List.getElem_cons_succ, List.setIfInBounds_toArray, List.set_cons_zero, List.set_cons_succ]
        refine wpAnyH_take (i := 2) (v := ?v12b) rfl (by kernel_rfl) (by kernel_rfl) (by kernel_rfl) (fun _ _ _ h => h) (Or.inl ⟨by rfl, ?h12b⟩) hHeld ?r12b
        case h12b => intro wq hS; have cKB0 : wq.cell? ⟨e1, 0, none⟩ = some (.int .i64 r) := (KB.out.after hS).cell 0; have cKB1 : wq.cell? ⟨e1, 1, none⟩ = some (.int .i64 m) := (KB.out.after hS).cell 1; have cKB2 : wq.cell? ⟨e1, 2, none⟩ = some (.int .i64 l) := (KB.out.after hS).cell 2; have cKB3 : wq.cell? ⟨e1, 3, none⟩ = some (.int .i64 t) := (KB.out.after hS).cell 3; have cKC0 : wq.cell? ⟨e6, 0, none⟩ = some (.int .i64 zr) := (KC.out.after hS).cell 0; have cKC1 : wq.cell? ⟨e6, 1, none⟩ = some (.int .i64 zm) := (KC.out.after hS).cell 1; have cKC2 : wq.cell? ⟨e6, 2, none⟩ = some (.int .i64 zl) := (KC.out.after hS).cell 2; have cKC3 : wq.cell? ⟨e6, 3, none⟩ = some (.int .i64 zt) := (KC.out.after hS).cell 3; go_simp; with_reducible rfl
        try simp only [Act.put, List.getElem_toArray, List.getElem_cons_zero, List.getElem_cons_succ, List.setIfInBounds_toArray, List.set_cons_zero, List.set_cons_succ]
        refine wpAnyH_take (i := 3) (v := ?v13b) rfl (by kernel_rfl) (by kernel_rfl) (by kernel_rfl) (fun _ _ _ h => h) (Or.inl ⟨by rfl, ?h13b⟩) hHeld ?r13b
        case h13b => intro wq hS; go_simp; with_reducible rfl
        try simp only [Act.put, List.getElem_toArray, List.getElem_cons_zero, List.getElem_cons_succ, List.setIfInBounds_toArray, List.set_cons_zero, List.set_cons_succ]
        refine wpAnyH_take (i := 4) (v := ?v14b) rfl (by kernel_rfl) (by kernel_rfl) (by kernel_rfl) (fun _ _ _ h => h) (Or.inl ⟨by rfl, ?h14b⟩) hHeld ?r14b
        case h14b => intro wq hS; go_simp; with_reducible rfl
        try simp only [Act.put, List.getElem_toArray, List.getElem_cons_zero, List.getElem_cons_succ, List.setIfInBounds_toArray, List.set_cons_zero, List.set_cons_succ]
        refine wpAnyH_take (i := 5) (v := ?v15b) rfl (by kernel_rfl) (by kernel_rfl) (by kernel_rfl) (fun _ _ _ h => h) (Or.inl ⟨by rfl, ?h15b⟩) hHeld ?r15b
        case h15b => intro wq hS; have cKB0 : wq.cell? ⟨e1, 0, none⟩ = some (.int .i64 r) := (KB.out.after hS).cell 0; have cKB1 : wq.cell? ⟨e1, 1, none⟩ = some (.int .i64 m) := (KB.out.after hS).cell 1; have cKB2 : wq.cell? ⟨e1, 2, none⟩ = some (.int .i64 l) := (KB.out.after hS).cell 2; have cKB3 : wq.cell? ⟨e1, 3, none⟩ = some (.int .i64 t) := (KB.out.after hS).cell 3; have cKC0 : wq.cell? ⟨e6, 0, none⟩ = some (.int .i64 zr) := (KC.out.after hS).cell 0; have cKC1 : wq.cell? ⟨e6, 1, none⟩ = some (.int .i64 zm) := (KC.out.after hS).cell 1; have cKC2 : wq.cell? ⟨e6, 2, none⟩ = some (.int .i64 zl) := (KC.out.after hS).cell 2; have cKC3 : wq.cell? ⟨e6, 3, none⟩ = some (.int .i64 zt) := (KC.out.after hS).cell 3; go_simp; with_reducible rfl
        try simp only [Act.put, List.getElem_toArray, List.getElem_cons_zero, List.getElem_cons_succ, List.setIfInBounds_toArray, List.set_cons_zero, List.set_cons_succ]
        refine wpAnyH_take (i := 6) (v := ?v16b) rfl (by kernel_rfl) (by kernel_rfl) (by kernel_rfl) (fun _ _ _ h => h) (Or.inl ⟨by rfl, ?h16b⟩) hHeld ?r16b
        case h16b => intro wq hS; go_simp; with_reducible rfl
        try simp only [Act.put, List.getElem_toArray, List.getElem_cons_zero, List.getElem_cons_succ, List.setIfInBounds_toArray, List.set_cons_zero, List.set_cons_succ]
        refine wpAnyH_take (i := 7) (v := ?v17b) rfl (by kernel_rfl) (by kernel_rfl) (by kernel_rfl) (fun _ _ _ h => h) (Or.inl ⟨by rfl, ?h17b⟩) hHeld ?r17b
        case h17b => intro wq hS; go_simp; with_reducible rfl
        try simp only [Act.put, List.getElem_toArray, List.getElem_cons_zero, List.getElem_cons_succ, List.setIfInBounds_toArray, List.set_cons_zero, List.set_cons_succ]
        refine wpAnyH_take (i := 8) (v := ?v18b) rfl (by kernel_rfl) (by kernel_rfl) (by kernel_rfl) (fun _ _ _ h => h) (Or.inl ⟨by rfl, ?h18b⟩) hHeld ?r18b
        case h18b => intro wq hS; go_simp; with_reducible rfl
        try simp only [Act.put, List.getElem_toArray, List.getElem_cons_zero, List.getElem_cons_succ, List.setIfInBounds_toArray, List.set_cons_zero, List.set_cons_succ]
        refine wpAnyH_take (i := 10) (v := ?v19b) rfl (by kernel_rfl) (by kernel_rfl) (by kernel_rfl) (fun _ _ _ h => h) (Or.inl ⟨by rfl, ?h19b⟩) hHeld ?r19b
        case h19b => intro wq hS; go_simp; with_reducible rfl
        try simp only [Act.put, List.getElem_toArray, List.getElem_cons_zero, List.getElem_cons_succ, List.setIfInBounds_toArray, List.set_cons_zero, List.set_cons_succ]
        refine wpAnyH_take (i := 12) (v := ?v20b) rfl (by kernel_rfl) (by kernel_rfl) (by kernel_rfl) (fun _ _ _ h => h) (Or.inl ⟨by rfl, ?h20b⟩) hHeld ?r20b
        case h20b => intro wq hS; have cKB0 : wq.cell? ⟨e1, 0, none⟩ = some (.int .i64 r) := (KB.out.after hS).cell 0; have cKB1 : wq.cell? ⟨e1, 1, none⟩ = some (.int .i64 m) := (KB.out.after hS).cell 1; have cKB2 : wq.cell? ⟨e1, 2, none⟩ = some (.int .i64 l) := (KB.out.after hS).cell 2; have cKB3 : wq.cell? ⟨e1, 3, none⟩ = some (.int .i64 t) := (KB.out.after hS).cell 3; have cKC0 : wq.cell? ⟨e6, 0, none⟩ = some (.int .i64 zr) := (KC.out.after hS).cell 0; have cKC1 : wq.cell? ⟨e6, 1, none⟩ = some (.int .i64 zm) := (KC.out.after hS).cell 1; have cKC2 : wq.cell? ⟨e6, 2, none⟩ = some (.int .i64 zl) := (KC.out.after hS).cell 2; have cKC3 : wq.cell? ⟨e6, 3, none⟩ = some (.int .i64 zt) := (KC.out.after hS).cell 3; go_simp; with_reducible rfl
        try simp only [Act.put, List.getElem_toArray, List.getElem_cons_zero, List.getElem_cons_succ, List.setIfInBounds_toArray, List.set_cons_zero, List.set_cons_succ]
        refine wpAnyH_ready (rs := [9]) (by kernel_rfl) (by simp) ?_
        refine AllReadyH.cons rfl (fun K hK => ?_) AllReadyH.nil
        go_simp
        refine (H1.out _).mono ?_
        rintro e xh ⟨rfl, hbh⟩
        refine hK.out _ _ (hHeld.trans (hbh.mono hHeld.size)) (fun hHeld => ?_)
        clear hK K
        try simp only [Act.put, List.getElem_toArray, List.getElem_cons_zero, List.getElem_cons_succ, List.setIfInBounds_toArray, List.set_cons_zero, List.set_cons_succ]
        refine wpAnyH_ready (rs := [11]) (by kernel_rfl) (by simp) ?_
        refine AllReadyH.cons rfl (fun K hK => ?_) AllReadyH.nil
        go_simp
        refine (H2.out _).mono ?_
        rintro e xi ⟨rfl, hbi⟩
        refine hK.out _ _ (hHeld.trans (hbi.mono hHeld.size)) (fun hHeld => ?_)
        clear hK K
        try simp only [Act.put, List.getElem_toArray, List.getElem_cons_zero, List.getElem_cons_succ, List.setIfInBounds_toArray, List.set_cons_zero, List.set_cons_succ]
        refine wpAnyH_take (i := 13) (v := ?v21b) rfl (by kernel_rfl) (by kernel_rfl) (by kernel_rfl) (fun _ _ _ h => h) (Or.inl ⟨by rfl, ?h21b⟩) hHeld ?r21b
        case h21b => intro wq hS; go_simp; with_reducible rfl
        try simp only [Act.put, List.getElem_toArray, List.getElem_cons_zero, List.getElem_cons_succ, List.setIfInBounds_toArray, List.set_cons_zero, List.set_cons_succ]
        refine wpAnyH_take (i := 14) (v := ?v22b) rfl (by kernel_rfl) (by kernel_rfl) (by kernel_rfl) (fun _ _ _ h => h) (Or.inl ⟨by rfl, ?h22b⟩) hHeld ?r22b
        case h22b => intro wq hS; go_simp; with_reducible rfl
        try simp only [Act.put, List.getElem_toArray, List.getElem_cons_zero, List.getElem_cons_succ, List.setIfInBounds_toArray, List.set_cons_zero, List.set_cons_succ]
        refine wpAnyH_take (i := 15) (v := ?v23b) rfl (by kernel_rfl) (by kernel_rfl) (by kernel_rfl) (fun _ _ _ h => h) (Or.inl ⟨by rfl, ?h23b⟩) hHeld ?r23b
        case h23b => intro wq hS; have cKB0 : wq.cell? ⟨e1, 0, none⟩ = some (.int .i64 r) := (KB.out.after hS).cell 0; have cKB1 : wq.cell? ⟨e1, 1, none⟩ = some (.int .i64 m) := (KB.out.after hS).cell 1; have cKB2 : wq.cell? ⟨e1, 2, none⟩ = some (.int .i64 l) := (KB.out.after hS).cell 2; have cKB3 : wq.cell? ⟨e1, 3, none⟩ = some (.int .i64 t) := (KB.out.after hS).cell 3; have cKC0 : wq.cell? ⟨e6, 0, none⟩ = some (.int .i64 zr) := (KC.out.after hS).cell 0; have cKC1 : wq.cell? ⟨e6, 1, none⟩ = some (.int .i64 zm) := (KC.out.after hS).cell 1; have cKC2 : wq.cell? ⟨e6, 2, none⟩ = some (.int .i64 zl) := (KC.out.after hS).cell 2; have cKC3 : wq.cell? ⟨e6, 3, none⟩ = some (.int .i64 zt) := (KC.out.after hS).cell 3; go_simp; with_reducible rfl
        try simp only [Act.put, List.getElem_toArray, List.getElem_cons_zero, List.getElem_cons_succ, List.setIfInBounds_toArray, List.set_cons_zero, List.set_cons_succ]
        refine wpAnyH_ready (rs := [16]) (by kernel_rfl) (by simp) ?_
        refine AllReadyH.cons rfl (fun K hK => ?_) AllReadyH.nil
        go_simp
        refine (HK.out _).mono ?_
        rintro e xj ⟨rfl, hbj⟩
        refine hK.out _ _ (hHeld.trans (hbj.mono hHeld.size)) (fun hHeld => ?_)
        clear hK K
        try simp only [Act.put, List.getElem_toArray, List.getElem_cons_zero, List.getElem_cons_succ, List.setIfInBounds_toArray, List.set_cons_zero, List.set_cons_succ]
        refine wpAnyH_take (i := 17) (v := ?v24b) rfl (by kernel_rfl) (by kernel_rfl) (by kernel_rfl) (fun _ _ _ h => h) (Or.inl ⟨by rfl, ?h24b⟩) hHeld ?r24b
        case h24b => intro wq hS; go_simp; with_reducible rfl
        try simp only [Act.put, List.getElem_toArray, List.getElem_cons_zero, List.getElem_cons_succ, List.setIfInBounds_toArray, List.set_cons_zero, List.set_cons_succ]
        refine wpAnyH_take (i := 18) (v := ?v25b) rfl (by kernel_rfl) (by kernel_rfl) (by kernel_rfl) (fun _ _ _ h => h) (Or.inl ⟨by rfl, ?h25b⟩) hHeld ?r25b
        case h25b => intro wq hS; go_simp; with_reducible rfl
        try simp only [Act.put, List.getElem_toArray, List.getElem_cons_zero, List.getElem_cons_succ, List.setIfInBounds_toArray, List.set_cons_zero, List.set_cons_succ]
        refine wpAnyH_done (by kernel_rfl) ?_ _
        have hbq := hHeld
        clear hHeld hbh hbi hbj
        have KB := Lib.hid (KB.out.after hbq)
        have KX := Lib.hid (KX.out.after hbq)
        have KC := Lib.hid (KC.out.after hbq)
        have HB := Lib.hid (HB.out.trans (hbq.mono HB.out.size))
        clear hbq
        go_wp2_with fail
        go_ret
        exact ⟨rfl, HB.out⟩
      have k3 : 1000000000 < now := by omega
      have kb0 : x7.cell? ⟨e1, 0, none⟩ = some (.int .i64 r) := KB.out.cell 0
      have kb1 : x7.cell? ⟨e1, 1, none⟩ = some (.int .i64 m) := KB.out.cell 1
      have kb2 : x7.cell? ⟨e1, 2, none⟩ = some (.int .i64 l) := KB.out.cell 2
      have kb3 : x7.cell? ⟨e1, 3, none⟩ = some (.int .i64 t) := KB.out.cell 3
      have kbl : e1 < x7.heap.size := KB.out.lt
      go_wp2_with fail
      go_ret
      exact ⟨rfl, HB.out⟩
    have k3 : now ≤ t := by omega
    have kb0 : x7.cell? ⟨e1, 0, none⟩ = some (.int .i64 r) := KB.out.cell 0
    have kb1 : x7.cell? ⟨e1, 1, none⟩ = some (.int .i64 m) := KB.out.cell 1
    have kb2 : x7.cell? ⟨e1, 2, none⟩ = some (.int .i64 l) := KB.out.cell 2
    have kb3 : x7.cell? ⟨e1, 3, none⟩ = some (.int .i64 t) := KB.out.cell 3
    have kbl : e1 < x7.heap.size := KB.out.lt
    go_wp2_with fail
    go_ret
    exact ⟨rfl, HB.out⟩
end Go.Proofs.Ytjpimcckpbpahaa
