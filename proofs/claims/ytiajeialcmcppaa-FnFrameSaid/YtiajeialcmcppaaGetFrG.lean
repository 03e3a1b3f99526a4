/- GetFrame of the program: its checks ahead of the fields. -/
import Derived.Test.YtiajeialcmcppaaGetFrI
namespace Go.Proofs.Ytiajeialcmcppaa
open Go.RowKit

theorem got_retG {w W : World} {b : Nat} {f : Fr} {code : Int} {a : Act} (hd : a.defers = []) (h2 : a.tmps.getD 2 undef = .pointer (some ⟨b, 0, none⟩)) (h3 : a.tmps.getD 3 undef = .int .i64 code) (hF : FrBlk W b f) (hB : Below w.heap.size w W) :
    bodyPost Try.prog Try.f13 (GotF w (f, code)) Exit.ret a W := by
  have c0 := Lib.cell_of_heap hF 0
  have c1 := Lib.cell_of_heap hF 1
  have c2 := Lib.cell_of_heap hF 2
  have c3 := Lib.cell_of_heap hF 3
  have c4 := Lib.cell_of_heap hF 4
  have c5 := Lib.cell_of_heap hF 5
  have c6 := Lib.cell_of_heap hF 6
  obtain ⟨tmps, defers⟩ := a
  simp only [Array.getD_eq_getD_getElem?] at hd h2 h3
  subst hd
  exact bodyPost_ret (v := .tuple #[f.val, .int .i64 code]) (by simp [results, Try.results13, go_sem, Fr.val, h2, h3, c0, c1, c2, c3, c4, c5, c6]) rfl ⟨rfl, hB⟩

/-- what the walk wants of a frame's block in a later world -/
theorem FrBlk.facts {w : World} {b : Nat} {g : Fr} (h : FrBlk w b g) : (∀ j, w.frozen? ⟨b, j, none⟩ = false) ∧ w.shape? b = some (25, 7) ∧
    w.cell? ⟨b, 0, none⟩ = some (.int .i64 g.dst) ∧ w.cell? ⟨b, 1, none⟩ = some (.int .i64 g.src) ∧ w.cell? ⟨b, 2, none⟩ = some (.bool g.tagged) ∧ w.cell? ⟨b, 3, none⟩ = some (.int .i64 g.vid) ∧ w.cell? ⟨b, 4, none⟩ = some (.int .i64 g.pri) ∧ w.cell? ⟨b, 5, none⟩ = some (.int .i64 g.type) ∧ w.cell? ⟨b, 6, none⟩ = some (.string g.body) := by
  have c : ∀ j, w.cell? ⟨b, j, none⟩ = (#[Value.int .i64 g.dst, .int .i64 g.src, .bool g.tagged, .int .i64 g.vid, .int .i64 g.pri, .int .i64 g.type, .string g.body] : Array Value)[j]? := fun j => Lib.cell_of_heap h j
  refine ⟨fun j => Lib.frozen_of_heap h j, ?_, c 0, c 1, c 2, c 3, c 4, c 5, c 6⟩
  simp [World.shape?, FrBlk] at h ⊢
  simp [h]

theorem FrBlk.below {w w1 : World} {b B : Nat} {g : Fr} (h : FrBlk w b g) (hb : Below B w w1) (hlt : b < B) : FrBlk w1 b g := (hb.block b hlt).trans h

set_option maxHeartbeats 1000000 in
theorem getFrame_impl (s : ByteArray) (w : World) (hs : s.size ≤ 1048576) :
    Calls Try.prog 13 #[.string s] w (GotF w (getF s)) := by
  have hbw : Below w.heap.size w (w.alloc (.cells #[.int .i64 0, .int .i64 0, .bool false, .int .i64 0, .int .i64 0, .int .i64 0, .string ⟨#[]⟩] 25)) := (Below.refl _ _).alloc (Nat.le_refl _) _
  by_cases h1 : s.size < 18
  · have hg : getF s = (Fr.zero, 1) := by unfold getF; rw [if_pos h1]
    rw [hg]
    have h1' : (s.size : Int) < 18 := by omega
    clear hg h1
    go_enter Try.func13, Try.ntmps13
    go_wp2_with fail
    exact got_retG rfl rfl rfl (frBlk_new w 0 0 false 0 0 0 ⟨#[]⟩) hbw
  · by_cases h2 : 1522 < s.size
    · have hg : getF s = (Fr.zero, 2) := by unfold getF; rw [if_neg h1, if_pos h2]
      rw [hg]
      have h2' : 1522 < (s.size : Int) := by omega
      clear hg h1
      go_enter Try.func13, Try.ntmps13
      go_wp2_with fail
      exact got_retG rfl rfl rfl (frBlk_new w 0 0 false 0 0 0 ⟨#[]⟩) hbw
    · have h1' : ¬ ((s.size : Int) < 18) := by omega
      have h2' : ¬ (1522 < (s.size : Int)) := by omega
      by_cases h3 : sumOk s
      · have hg : getF s = getF2 s := by unfold getF; unfold sumOk at h3; rw [if_neg h1, if_neg h2, if_pos h3]
        rw [hg]
        obtain ⟨⟨f, code⟩, hx⟩ : ∃ x, getF2 s = x := ⟨_, rfl⟩
        have hr := fun w => readFields_impl s w (by omega) (by omega)
        rw [hx] at hr ⊢
        have H3 := Lib.hid h3; have HR := Lib.hid hr
        clear hg h3 hx hr
        go_enter Try.func13, Try.ntmps13
        go_wp2_with fail
        refine (sumOk_impl s _ (by omega) hs).mono ?_
        rintro e w1 ⟨rfl, hb1⟩
        rw [decide_eq_true H3.out]
        go_wp2_with fail
        refine (HR.out _).mono ?_
        rintro e w2 ⟨rfl, hb2⟩
        have hb12 := hb1.trans (hb2.mono hb1.size)
        have hF := (frBlk_new w 0 0 false 0 0 0 ⟨#[]⟩).below hb12 (by simp)
        obtain ⟨hfz, hsh, c0, c1, c2, c3, c4, c5, c6⟩ := hF.facts
        have hbw2 := hbw.trans (hb12.mono hbw.size)
        have HF := Lib.hid hF; have HB := Lib.hid hbw2
        clear hF hbw2 hb12 hb1 hb2 hbw
        simp only at *
        unfold Fr.val
        go_wp2_with fail
        exact got_retG rfl rfl rfl (FrBlk.put (f := f) HF.out) (below_put (f := f) HB.out (Nat.le_refl w.heap.size))
      · have hg : getF s = (Fr.zero, 3) := by unfold getF; unfold sumOk at h3; rw [if_neg h1, if_neg h2, if_neg h3]
        rw [hg]
        have H3 := Lib.hid h3
        clear hg h3
        go_enter Try.func13, Try.ntmps13
        go_wp2_with fail
        refine (sumOk_impl s _ (by omega) hs).mono ?_
        rintro e w1 ⟨rfl, hb1⟩
        rw [decide_eq_false H3.out]
        have hF := (frBlk_new w 0 0 false 0 0 0 ⟨#[]⟩).below hb1 (by simp)
        obtain ⟨hfz, hsh, c0, c1, c2, c3, c4, c5, c6⟩ := hF.facts
        have hbw2 := hbw.trans (hb1.mono hbw.size)
        have HF := Lib.hid hF; have HB := Lib.hid hbw2
        clear hF hbw2 hb1 hbw
        go_wp2_with fail
        exact got_retG rfl rfl rfl (FrBlk.put (f := Fr.zero) HF.out) (below_put (f := Fr.zero) HB.out (Nat.le_refl w.heap.size))
end Go.Proofs.Ytiajeialcmcppaa
