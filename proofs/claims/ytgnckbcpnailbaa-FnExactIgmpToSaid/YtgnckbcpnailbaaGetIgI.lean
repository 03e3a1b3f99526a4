/- GetIgmp of the program. -/
import Derived.Test.YtgnckbcpnailbaaPutIgI
import Derived.Test.YtgnckbcpnailbaaWIgOf
namespace Go.Proofs.Ytgnckbcpnailbaa
open Go.RowKit

theorem putIgmp_impl_all (g : Ig) (w : World) : Calls Try.prog 11 #[g.val] w fun e w' => e = .returned (.string (igBytes g)) ∧ Below w.heap.size w w' := by
  unfold igBytes
  by_cases h : igOk g
  · rw [if_pos h]; exact putIgmp_impl g h w
  · rw [if_neg h]; exact putIgmp_impl_no g h w

theorem gotIg_retI {w W : World} {b : Nat} {f : Ig} {ok : Bool} {a : Act} (hd : a.defers = []) (h2 : a.tmps.getD 2 undef = .pointer (some ⟨b, 0, none⟩)) (h3 : a.tmps.getD 3 undef = .bool ok) (hF : IgBlk W b f) (hB : Below w.heap.size w W) :
    bodyPost Try.prog Try.f14 (GotIg w (f, ok)) Exit.ret a W := by
  obtain ⟨_, _, c0, c1, c2, c3⟩ := hF.facts
  obtain ⟨tmps, defers⟩ := a
  simp only [Array.getD_eq_getD_getElem?] at hd h2 h3
  subst hd
  exact bodyPost_ret (v := .tuple #[f.val, .bool ok]) (by simp [results, Try.results14, go_sem, Ig.val, h2, h3, c0, c1, c2, c3]) rfl ⟨rfl, hB⟩

set_option maxHeartbeats 1000000 in
theorem getIgmp_impl (s : ByteArray) (w : World) (hs : s.size ≤ 1048576) :
    Calls Try.prog 14 #[.string s] w (GotIg w (getIg s)) := by
  have hbw : Below w.heap.size w (w.alloc (.cells #[.int .i64 0, .int .i64 0, .int .i64 0, .int .i64 0] 25)) := (Below.refl _ _).alloc (Nat.le_refl _) _
  by_cases h32 : s.size = 32
  case neg =>
    have hg : getIg s = (Ig.zero, false) := by unfold getIg; rw [if_neg (fun h => h32 h.1)]
    rw [hg]
    have hn : ((s.size : Int) != 32) = true := by simp; omega
    have hz := igBlk_new w 0 0 0 0
    obtain ⟨zf, zs, c0, c1, c2, c3⟩ := hz.facts
    have HZ := Lib.hid hz
    simp only at c0 c1 c2 c3
    clear hg h32 hz
    go_enter Try.func14, Try.ntmps14
    go_wp2_with fail
    exact gotIg_retI rfl rfl rfl HZ.out hbw
  obtain ⟨res, hres⟩ : ∃ r, getIg s = r := ⟨_, rfl⟩
  rw [hres]
  have HRES := Lib.hid hres; clear hres
  obtain ⟨kd, hkd⟩ : ∃ d, getK s 24 1 = d := ⟨_, rfl⟩
  obtain ⟨tm, htm⟩ : ∃ d, getK s 25 1 = d := ⟨_, rfl⟩
  obtain ⟨gr, hgr⟩ : ∃ d, getK s 28 4 = d := ⟨_, rfl⟩
  obtain ⟨sr, hsr⟩ : ∃ d, getK s 12 4 = d := ⟨_, rfl⟩
  have hx : igRead s = ⟨(kd : Nat), (tm : Nat), (gr : Nat), (sr : Nat)⟩ := by unfold igRead; rw [hkd, htm, hgr, hsr]
  have hg0 := fun w => get_impl s 24 1 w hs (by decide) (by decide) (by decide) (by omega)
  have hg1 := fun w => get_impl s 25 1 w hs (by decide) (by decide) (by decide) (by omega)
  have hg2 := fun w => get_impl s 28 4 w hs (by decide) (by decide) (by decide) (by omega)
  have hg3 := fun w => get_impl s 12 4 w hs (by decide) (by decide) (by decide) (by omega)
  rw [show (24 : Int).toNat = 24 from rfl, show (1 : Int).toNat = 1 from rfl, hkd] at hg0
  rw [show (25 : Int).toNat = 25 from rfl, show (1 : Int).toNat = 1 from rfl, htm] at hg1
  rw [show (28 : Int).toNat = 28 from rfl, show (4 : Int).toNat = 4 from rfl, hgr] at hg2
  rw [show (12 : Int).toNat = 12 from rfl, show (4 : Int).toNat = 4 from rfl, hsr] at hg3
  have hP := putIgmp_impl_all (igRead s)
  obtain ⟨t, ht⟩ : ∃ t : ByteArray, igBytes (igRead s) = t := ⟨_, rfl⟩
  rw [ht, hx] at hP
  have hts : t = s ↔ igOk (igRead s) ∧ igL (igRead s) = s.data.toList := by
    rw [← ht]
    unfold igBytes
    by_cases hok : igOk (igRead s)
    · rw [if_pos hok]
      exact ⟨fun h => ⟨hok, congrArg (fun b => b.data.toList) h⟩, fun h => ByteArray.ext (Array.toList_inj.1 h.2)⟩
    · rw [if_neg hok]
      exact ⟨fun h => by rw [← h] at h32; exact absurd h32 (by decide), fun h => absurd h.1 hok⟩
  have hgs : res = if t = s then (⟨(kd : Nat), (tm : Nat), (gr : Nat), (sr : Nat)⟩, true) else (Ig.zero, false) := by
    rw [← HRES.out, ← hx]
    unfold getIg
    by_cases h : t = s
    · rw [if_pos h, if_pos ⟨h32, hts.1 h⟩]
    · rw [if_neg h, if_neg (fun k => h (hts.2 k.2))]
  unfold Ig.val at hP
  simp only at hP
  have hn : ((s.size : Int) != 32) = false := by simp; omega
  have H0 := Lib.hid hg0; have H1 := Lib.hid hg1; have H2 := Lib.hid hg2; have H3 := Lib.hid hg3; have HP := Lib.hid hP; have HGS := Lib.hid hgs
  have hz := igBlk_new w 0 0 0 0
  have hz1 := igBlk_new (w.alloc (.cells #[.int .i64 0, .int .i64 0, .int .i64 0, .int .i64 0] 25)) (kd : Nat) (tm : Nat) (gr : Nat) (sr : Nat)
  rw [show (w.alloc (.cells #[.int .i64 0, .int .i64 0, .int .i64 0, .int .i64 0] 25)).heap.size = w.heap.size + 1 by simp] at hz1
  clear hkd htm hgr hsr hg0 hg1 hg2 hg3 hP hgs ht hts hx HRES h32
  go_enter Try.func14, Try.ntmps14
  have HZ := Lib.hid hz; have HZ1 := Lib.hid hz1; have HBW := Lib.hid hbw
  clear hz hz1 hbw
  go_wp2_with fail
  refine (H0.out _).mono ?_
  rintro e w' ⟨rfl, rfl⟩
  go_wp2_with fail
  refine (H1.out _).mono ?_
  rintro e w' ⟨rfl, rfl⟩
  go_wp2_with fail
  refine (H2.out _).mono ?_
  rintro e w' ⟨rfl, rfl⟩
  go_wp2_with fail
  refine (H3.out _).mono ?_
  rintro e w' ⟨rfl, rfl⟩
  go_wp2_with fail
  refine (HP.out _).mono ?_
  rintro e w5 ⟨rfl, hb5⟩
  have f0 := (HZ.out.alloc (.cells #[.int .i64 (kd : Nat), .int .i64 (tm : Nat), .int .i64 (gr : Nat), .int .i64 (sr : Nat)] 25)).below hb5 (IgBlk.lt (HZ.out.alloc _))
  have f1 := HZ1.out.below hb5 HZ1.out.lt
  have hB0 := HBW.out.alloc HBW.out.size (.cells #[.int .i64 (kd : Nat), .int .i64 (tm : Nat), .int .i64 (gr : Nat), .int .i64 (sr : Nat)] 25)
  have hB := hB0.trans (hb5.mono hB0.size)
  have HB := Lib.hid hB; have F0 := Lib.hid f0; have F1 := Lib.hid f1
  clear hb5 hB hB0 f0 f1 hn
  by_cases heq : t = s
  · obtain rfl : res = _ := HGS.out.trans (if_pos heq)
    have hq : (t.toList == s.toList) = true := by rw [heq]; exact beq_self_eq_true _
    clear heq HGS
    obtain ⟨zf, zs, c0, c1, c2, c3⟩ := F0.out.facts
    obtain ⟨_, _, d0, d1, d2, d3⟩ := F1.out.facts
    simp only at c0 c1 c2 c3 d0 d1 d2 d3
    go_wp2_with fail
    exact gotIg_retI rfl rfl rfl (IgBlk.put (f := ⟨(kd : Nat), (tm : Nat), (gr : Nat), (sr : Nat)⟩) F0.out) (below_putIg (f := ⟨(kd : Nat), (tm : Nat), (gr : Nat), (sr : Nat)⟩) HB.out (Nat.le_refl w.heap.size))
  · obtain rfl : res = _ := HGS.out.trans (if_neg heq)
    have hq : (t.toList == s.toList) = false := by
      rw [beq_eq_false_iff_ne, ByteArray.toList_eq, ByteArray.toList_eq]
      exact fun h => heq (ByteArray.ext (Array.toList_inj.1 h))
    clear heq HGS
    obtain ⟨zf, zs, c0, c1, c2, c3⟩ := F0.out.facts
    simp only at c0 c1 c2 c3
    go_wp2_with fail
    exact gotIg_retI rfl rfl rfl (IgBlk.put (f := Ig.zero) F0.out) (below_putIg (f := Ig.zero) HB.out (Nat.le_refl w.heap.size))
end Go.Proofs.Ytgnckbcpnailbaa
