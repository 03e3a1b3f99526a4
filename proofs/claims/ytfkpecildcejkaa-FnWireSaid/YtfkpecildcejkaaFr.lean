/- Frames: their values, what is right; FrameOk of the model. -/
import Derived.Test.YtfkpecildcejkaaMac
import Derived.WalkSmall
namespace Go.Proofs.Ytfkpecildcejkaa
open Go.RowKit

structure Fr where
  dst : Int
  src : Int
  tagged : Bool
  vid : Int
  pri : Int
  type : Int
  body : ByteArray

/-- a frame as the program holds it -/
def Fr.val (f : Fr) : Value := .agg #[.int .i64 f.dst, .int .i64 f.src, .bool f.tagged, .int .i64 f.vid, .int .i64 f.pri, .int .i64 f.type, .string f.body]
def Fr.zero : Fr := ⟨0, 0, false, 0, 0, 0, ⟨#[]⟩⟩

def typeOk (t : Int) : Prop := (1536 ≤ t ∧ t ≤ 65535) ∧ t ≠ 33024
instance (t : Int) : Decidable (typeOk t) := by unfold typeOk; infer_instance
def tagOk (f : Fr) : Prop := if f.tagged = true then (1 ≤ f.vid ∧ f.vid ≤ 4094) ∧ (0 ≤ f.pri ∧ f.pri ≤ 7) else f.vid = 0 ∧ f.pri = 0
instance (f : Fr) : Decidable (tagOk f) := by unfold tagOk; infer_instance
/-- a frame is right -/
def frOk (f : Fr) : Prop := isMac f.dst ∧ isMac f.src ∧ ¬ isGrp f.src ∧ tagOk f ∧ typeOk f.type ∧ f.body.size ≤ 1500
instance (f : Fr) : Decidable (frOk f) := by unfold frOk; infer_instance

theorem type_spec (t : Int) (w : World) : Calls Try.prog 76 #[.int .i64 t] w fun e w' => e = .returned (.bool (decide (typeOk t))) ∧ w = w' := by
  by_cases h : 1536 ≤ t ∧ t ≤ 65535
  · go_enter Try.func76, Try.ntmps76
    go_wp2_with (go_at_call 60; refine (in_yes _ _ _ _ h.1 h.2).mono ?_; rintro e w' ⟨rfl, rfl⟩)
    go_ret
    refine ⟨?_, rfl⟩
    have e : decide (typeOk t) = (t != 33024) := by
      rw [Bool.eq_iff_iff]; simp [typeOk, h]
    rw [e]; rfl
  · go_enter Try.func76, Try.ntmps76
    go_wp2_with (go_at_call 60; refine (in_no _ _ _ _ h).mono ?_; rintro e w' ⟨rfl, rfl⟩)
    go_ret
    exact ⟨by rw [decide_eq_false (fun k : typeOk t => h k.1)]; rfl, rfl⟩

set_option maxHeartbeats 2000000 in
theorem frameOk_spec (f : Fr) (hbs : f.body.size ≤ 1048576) (w : World) :
    Calls Try.prog 45 #[f.val] w fun e w' => e = .returned (.bool (decide (frOk f))) ∧ Below w.heap.size w w' := by
  obtain ⟨dst, src, tagged, vid, pri, type, body⟩ := f
  unfold Fr.val
  simp only at hbs ⊢
  cases tagged
  · by_cases hv : vid = 0
    · subst hv
      by_cases hp : pri = 0
      · subst hp
        have htag : tagOk ⟨dst, src, false, 0, 0, type, body⟩ := ⟨rfl, rfl⟩
        have HT := Lib.hid htag; clear htag
        go_enter Try.func45, Try.ntmps45
        go_wp2_with fail
        refine (macOk_spec dst _).mono ?_
        rintro e w1 ⟨rfl, rfl⟩
        by_cases h1 : isMac dst
        · rw [decide_eq_true h1]
          have H1 := Lib.hid h1; clear h1
          go_wp2_with fail
          refine (macOk_spec src _).mono ?_
          rintro e w2 ⟨rfl, rfl⟩
          by_cases h2 : isMac src
          · rw [decide_eq_true h2]
            have H2 := Lib.hid h2; clear h2
            go_wp2_with fail
            refine (group_spec src _).mono ?_
            rintro e w3 ⟨rfl, rfl⟩
            by_cases h3 : isGrp src
            · rw [decide_eq_true h3]
              have H3 := Lib.hid h3; clear h3
              go_wp2_with fail
              go_ret
              exact ⟨by rw [decide_eq_false (fun k : frOk ⟨dst, src, false, 0, 0, type, body⟩ => k.2.2.1 H3.out)]; rfl, (Below.refl _ _).alloc (Nat.le_refl _) _⟩
            · rw [decide_eq_false h3]
              have H3 := Lib.hid h3; clear h3
              go_wp2_with fail
              refine (type_spec type _).mono ?_
              rintro e w4 ⟨rfl, rfl⟩
              by_cases h5 : typeOk type
              · rw [decide_eq_true h5]
                have H5 := Lib.hid h5; clear h5
                go_wp2_with fail
                go_ret
                refine ⟨?_, (Below.refl _ _).alloc (Nat.le_refl _) _⟩
                have e : decide (frOk ⟨dst, src, false, 0, 0, type, body⟩) = decide ((body.size : Int) ≤ 1500) := by
                  rw [decide_eq_decide]
                  refine ⟨fun k => ?_, fun k => ⟨H1.out, H2.out, H3.out, HT.out, H5.out, ?_⟩⟩
                  · have h : body.size ≤ 1500 := k.2.2.2.2.2
                    omega
                  · show body.size ≤ 1500
                    omega
                rw [e]
                rfl
              · rw [decide_eq_false h5]
                have H5 := Lib.hid h5; clear h5
                go_wp2_with fail
                go_ret
                exact ⟨by rw [decide_eq_false (fun k : frOk ⟨dst, src, false, 0, 0, type, body⟩ => H5.out k.2.2.2.2.1)]; rfl, (Below.refl _ _).alloc (Nat.le_refl _) _⟩
          · rw [decide_eq_false h2]
            have H2 := Lib.hid h2; clear h2
            go_wp2_with fail
            go_ret
            exact ⟨by rw [decide_eq_false (fun k : frOk ⟨dst, src, false, 0, 0, type, body⟩ => H2.out k.2.1)]; rfl, (Below.refl _ _).alloc (Nat.le_refl _) _⟩
        · rw [decide_eq_false h1]
          have H1 := Lib.hid h1; clear h1
          go_wp2_with fail
          go_ret
          exact ⟨by rw [decide_eq_false (fun k : frOk ⟨dst, src, false, 0, 0, type, body⟩ => H1.out k.1)]; rfl, (Below.refl _ _).alloc (Nat.le_refl _) _⟩
      · have htag : ¬ tagOk ⟨dst, src, false, 0, pri, type, body⟩ := fun k => hp k.2
        have HT := Lib.hid htag; clear htag
        go_enter Try.func45, Try.ntmps45
        go_wp2_with fail
        refine (macOk_spec dst _).mono ?_
        rintro e w1 ⟨rfl, rfl⟩
        by_cases h1 : isMac dst
        · rw [decide_eq_true h1]
          have H1 := Lib.hid h1; clear h1
          go_wp2_with fail
          refine (macOk_spec src _).mono ?_
          rintro e w2 ⟨rfl, rfl⟩
          by_cases h2 : isMac src
          · rw [decide_eq_true h2]
            have H2 := Lib.hid h2; clear h2
            go_wp2_with fail
            refine (group_spec src _).mono ?_
            rintro e w3 ⟨rfl, rfl⟩
            by_cases h3 : isGrp src
            · rw [decide_eq_true h3]
              have H3 := Lib.hid h3; clear h3
              go_wp2_with fail
              go_ret
              exact ⟨by rw [decide_eq_false (fun k : frOk ⟨dst, src, false, 0, pri, type, body⟩ => k.2.2.1 H3.out)]; rfl, (Below.refl _ _).alloc (Nat.le_refl _) _⟩
            · rw [decide_eq_false h3]
              have H3 := Lib.hid h3; clear h3
              go_wp2_with fail
              go_ret
              exact ⟨by rw [decide_eq_false (fun k : frOk ⟨dst, src, false, 0, pri, type, body⟩ => HT.out k.2.2.2.1)]; rfl, (Below.refl _ _).alloc (Nat.le_refl _) _⟩
          · rw [decide_eq_false h2]
            have H2 := Lib.hid h2; clear h2
            go_wp2_with fail
            go_ret
            exact ⟨by rw [decide_eq_false (fun k : frOk ⟨dst, src, false, 0, pri, type, body⟩ => H2.out k.2.1)]; rfl, (Below.refl _ _).alloc (Nat.le_refl _) _⟩
        · rw [decide_eq_false h1]
          have H1 := Lib.hid h1; clear h1
          go_wp2_with fail
          go_ret
          exact ⟨by rw [decide_eq_false (fun k : frOk ⟨dst, src, false, 0, pri, type, body⟩ => H1.out k.1)]; rfl, (Below.refl _ _).alloc (Nat.le_refl _) _⟩
    · have htag : ¬ tagOk ⟨dst, src, false, vid, pri, type, body⟩ := fun k => hv k.1
      have HT := Lib.hid htag; clear htag
      go_enter Try.func45, Try.ntmps45
      go_wp2_with fail
      refine (macOk_spec dst _).mono ?_
      rintro e w1 ⟨rfl, rfl⟩
      by_cases h1 : isMac dst
      · rw [decide_eq_true h1]
        have H1 := Lib.hid h1; clear h1
        go_wp2_with fail
        refine (macOk_spec src _).mono ?_
        rintro e w2 ⟨rfl, rfl⟩
        by_cases h2 : isMac src
        · rw [decide_eq_true h2]
          have H2 := Lib.hid h2; clear h2
          go_wp2_with fail
          refine (group_spec src _).mono ?_
          rintro e w3 ⟨rfl, rfl⟩
          by_cases h3 : isGrp src
          · rw [decide_eq_true h3]
            have H3 := Lib.hid h3; clear h3
            go_wp2_with fail
            go_ret
            exact ⟨by rw [decide_eq_false (fun k : frOk ⟨dst, src, false, vid, pri, type, body⟩ => k.2.2.1 H3.out)]; rfl, (Below.refl _ _).alloc (Nat.le_refl _) _⟩
          · rw [decide_eq_false h3]
            have H3 := Lib.hid h3; clear h3
            go_wp2_with fail
            go_ret
            exact ⟨by rw [decide_eq_false (fun k : frOk ⟨dst, src, false, vid, pri, type, body⟩ => HT.out k.2.2.2.1)]; rfl, (Below.refl _ _).alloc (Nat.le_refl _) _⟩
        · rw [decide_eq_false h2]
          have H2 := Lib.hid h2; clear h2
          go_wp2_with fail
          go_ret
          exact ⟨by rw [decide_eq_false (fun k : frOk ⟨dst, src, false, vid, pri, type, body⟩ => H2.out k.2.1)]; rfl, (Below.refl _ _).alloc (Nat.le_refl _) _⟩
      · rw [decide_eq_false h1]
        have H1 := Lib.hid h1; clear h1
        go_wp2_with fail
        go_ret
        exact ⟨by rw [decide_eq_false (fun k : frOk ⟨dst, src, false, vid, pri, type, body⟩ => H1.out k.1)]; rfl, (Below.refl _ _).alloc (Nat.le_refl _) _⟩
  · by_cases hv : vid = 0
    · subst hv
      by_cases hp : pri = 0
      · subst hp
        have htag : ¬ tagOk ⟨dst, src, true, 0, 0, type, body⟩ := fun k => by have := k.1.1; simp only at this; omega
        have HT := Lib.hid htag; clear htag
        go_enter Try.func45, Try.ntmps45
        go_wp2_with fail
        refine (in_no 0 1 4094 _ (by decide)).mono ?_
        rintro e w0 ⟨rfl, rfl⟩
        go_wp2_with fail
        refine (macOk_spec dst _).mono ?_
        rintro e w1 ⟨rfl, rfl⟩
        by_cases h1 : isMac dst
        · rw [decide_eq_true h1]
          have H1 := Lib.hid h1; clear h1
          go_wp2_with fail
          refine (macOk_spec src _).mono ?_
          rintro e w2 ⟨rfl, rfl⟩
          by_cases h2 : isMac src
          · rw [decide_eq_true h2]
            have H2 := Lib.hid h2; clear h2
            go_wp2_with fail
            refine (group_spec src _).mono ?_
            rintro e w3 ⟨rfl, rfl⟩
            by_cases h3 : isGrp src
            · rw [decide_eq_true h3]
              have H3 := Lib.hid h3; clear h3
              go_wp2_with fail
              go_ret
              exact ⟨by rw [decide_eq_false (fun k : frOk ⟨dst, src, true, 0, 0, type, body⟩ => k.2.2.1 H3.out)]; rfl, (Below.refl _ _).alloc (Nat.le_refl _) _⟩
            · rw [decide_eq_false h3]
              have H3 := Lib.hid h3; clear h3
              go_wp2_with fail
              go_ret
              exact ⟨by rw [decide_eq_false (fun k : frOk ⟨dst, src, true, 0, 0, type, body⟩ => HT.out k.2.2.2.1)]; rfl, (Below.refl _ _).alloc (Nat.le_refl _) _⟩
          · rw [decide_eq_false h2]
            have H2 := Lib.hid h2; clear h2
            go_wp2_with fail
            go_ret
            exact ⟨by rw [decide_eq_false (fun k : frOk ⟨dst, src, true, 0, 0, type, body⟩ => H2.out k.2.1)]; rfl, (Below.refl _ _).alloc (Nat.le_refl _) _⟩
        · rw [decide_eq_false h1]
          have H1 := Lib.hid h1; clear h1
          go_wp2_with fail
          go_ret
          exact ⟨by rw [decide_eq_false (fun k : frOk ⟨dst, src, true, 0, 0, type, body⟩ => H1.out k.1)]; rfl, (Below.refl _ _).alloc (Nat.le_refl _) _⟩
      · have htag : ¬ tagOk ⟨dst, src, true, 0, pri, type, body⟩ := fun k => by have := k.1.1; simp only at this; omega
        have HT := Lib.hid htag; clear htag
        go_enter Try.func45, Try.ntmps45
        go_wp2_with fail
        refine (in_no 0 1 4094 _ (by decide)).mono ?_
        rintro e w0 ⟨rfl, rfl⟩
        go_wp2_with fail
        refine (macOk_spec dst _).mono ?_
        rintro e w1 ⟨rfl, rfl⟩
        by_cases h1 : isMac dst
        · rw [decide_eq_true h1]
          have H1 := Lib.hid h1; clear h1
          go_wp2_with fail
          refine (macOk_spec src _).mono ?_
          rintro e w2 ⟨rfl, rfl⟩
          by_cases h2 : isMac src
          · rw [decide_eq_true h2]
            have H2 := Lib.hid h2; clear h2
            go_wp2_with fail
            refine (group_spec src _).mono ?_
            rintro e w3 ⟨rfl, rfl⟩
            by_cases h3 : isGrp src
            · rw [decide_eq_true h3]
              have H3 := Lib.hid h3; clear h3
              go_wp2_with fail
              go_ret
              exact ⟨by rw [decide_eq_false (fun k : frOk ⟨dst, src, true, 0, pri, type, body⟩ => k.2.2.1 H3.out)]; rfl, (Below.refl _ _).alloc (Nat.le_refl _) _⟩
            · rw [decide_eq_false h3]
              have H3 := Lib.hid h3; clear h3
              go_wp2_with fail
              go_ret
              exact ⟨by rw [decide_eq_false (fun k : frOk ⟨dst, src, true, 0, pri, type, body⟩ => HT.out k.2.2.2.1)]; rfl, (Below.refl _ _).alloc (Nat.le_refl _) _⟩
          · rw [decide_eq_false h2]
            have H2 := Lib.hid h2; clear h2
            go_wp2_with fail
            go_ret
            exact ⟨by rw [decide_eq_false (fun k : frOk ⟨dst, src, true, 0, pri, type, body⟩ => H2.out k.2.1)]; rfl, (Below.refl _ _).alloc (Nat.le_refl _) _⟩
        · rw [decide_eq_false h1]
          have H1 := Lib.hid h1; clear h1
          go_wp2_with fail
          go_ret
          exact ⟨by rw [decide_eq_false (fun k : frOk ⟨dst, src, true, 0, pri, type, body⟩ => H1.out k.1)]; rfl, (Below.refl _ _).alloc (Nat.le_refl _) _⟩
    · by_cases hvr : 1 ≤ vid ∧ vid ≤ 4094
      · by_cases hpr : 0 ≤ pri ∧ pri ≤ 7
        · have HV := Lib.hid hvr; have HP := Lib.hid hpr
          clear hpr
          have htag : tagOk ⟨dst, src, true, vid, pri, type, body⟩ := ⟨HV.out, HP.out⟩
          have HT := Lib.hid htag; clear htag
          go_enter Try.func45, Try.ntmps45
          go_wp2_with fail
          refine (in_yes vid 1 4094 _ HV.out.1 HV.out.2).mono ?_
          rintro e w0 ⟨rfl, rfl⟩
          go_wp2_with fail
          refine (in_yes pri 0 7 _ HP.out.1 HP.out.2).mono ?_
          rintro e w0 ⟨rfl, rfl⟩
          go_wp2_with fail
          refine (macOk_spec dst _).mono ?_
          rintro e w1 ⟨rfl, rfl⟩
          by_cases h1 : isMac dst
          · rw [decide_eq_true h1]
            have H1 := Lib.hid h1; clear h1
            go_wp2_with fail
            refine (macOk_spec src _).mono ?_
            rintro e w2 ⟨rfl, rfl⟩
            by_cases h2 : isMac src
            · rw [decide_eq_true h2]
              have H2 := Lib.hid h2; clear h2
              go_wp2_with fail
              refine (group_spec src _).mono ?_
              rintro e w3 ⟨rfl, rfl⟩
              by_cases h3 : isGrp src
              · rw [decide_eq_true h3]
                have H3 := Lib.hid h3; clear h3
                go_wp2_with fail
                go_ret
                exact ⟨by rw [decide_eq_false (fun k : frOk ⟨dst, src, true, vid, pri, type, body⟩ => k.2.2.1 H3.out)]; rfl, (Below.refl _ _).alloc (Nat.le_refl _) _⟩
              · rw [decide_eq_false h3]
                have H3 := Lib.hid h3; clear h3
                go_wp2_with fail
                refine (type_spec type _).mono ?_
                rintro e w4 ⟨rfl, rfl⟩
                by_cases h5 : typeOk type
                · rw [decide_eq_true h5]
                  have H5 := Lib.hid h5; clear h5
                  go_wp2_with fail
                  go_ret
                  refine ⟨?_, (Below.refl _ _).alloc (Nat.le_refl _) _⟩
                  have e : decide (frOk ⟨dst, src, true, vid, pri, type, body⟩) = decide ((body.size : Int) ≤ 1500) := by
                    rw [decide_eq_decide]
                    refine ⟨fun k => ?_, fun k => ⟨H1.out, H2.out, H3.out, HT.out, H5.out, ?_⟩⟩
                    · have h : body.size ≤ 1500 := k.2.2.2.2.2
                      omega
                    · show body.size ≤ 1500
                      omega
                  rw [e]
                  rfl
                · rw [decide_eq_false h5]
                  have H5 := Lib.hid h5; clear h5
                  go_wp2_with fail
                  go_ret
                  exact ⟨by rw [decide_eq_false (fun k : frOk ⟨dst, src, true, vid, pri, type, body⟩ => H5.out k.2.2.2.2.1)]; rfl, (Below.refl _ _).alloc (Nat.le_refl _) _⟩
            · rw [decide_eq_false h2]
              have H2 := Lib.hid h2; clear h2
              go_wp2_with fail
              go_ret
              exact ⟨by rw [decide_eq_false (fun k : frOk ⟨dst, src, true, vid, pri, type, body⟩ => H2.out k.2.1)]; rfl, (Below.refl _ _).alloc (Nat.le_refl _) _⟩
          · rw [decide_eq_false h1]
            have H1 := Lib.hid h1; clear h1
            go_wp2_with fail
            go_ret
            exact ⟨by rw [decide_eq_false (fun k : frOk ⟨dst, src, true, vid, pri, type, body⟩ => H1.out k.1)]; rfl, (Below.refl _ _).alloc (Nat.le_refl _) _⟩
        · have HV := Lib.hid hvr; have HP := Lib.hid hpr
          clear hpr
          have htag : ¬ tagOk ⟨dst, src, true, vid, pri, type, body⟩ := fun k => HP.out k.2
          have HT := Lib.hid htag; clear htag
          go_enter Try.func45, Try.ntmps45
          go_wp2_with fail
          refine (in_yes vid 1 4094 _ HV.out.1 HV.out.2).mono ?_
          rintro e w0 ⟨rfl, rfl⟩
          go_wp2_with fail
          refine (in_no pri 0 7 _ HP.out).mono ?_
          rintro e w0 ⟨rfl, rfl⟩
          go_wp2_with fail
          refine (macOk_spec dst _).mono ?_
          rintro e w1 ⟨rfl, rfl⟩
          by_cases h1 : isMac dst
          · rw [decide_eq_true h1]
            have H1 := Lib.hid h1; clear h1
            go_wp2_with fail
            refine (macOk_spec src _).mono ?_
            rintro e w2 ⟨rfl, rfl⟩
            by_cases h2 : isMac src
            · rw [decide_eq_true h2]
              have H2 := Lib.hid h2; clear h2
              go_wp2_with fail
              refine (group_spec src _).mono ?_
              rintro e w3 ⟨rfl, rfl⟩
              by_cases h3 : isGrp src
              · rw [decide_eq_true h3]
                have H3 := Lib.hid h3; clear h3
                go_wp2_with fail
                go_ret
                exact ⟨by rw [decide_eq_false (fun k : frOk ⟨dst, src, true, vid, pri, type, body⟩ => k.2.2.1 H3.out)]; rfl, (Below.refl _ _).alloc (Nat.le_refl _) _⟩
              · rw [decide_eq_false h3]
                have H3 := Lib.hid h3; clear h3
                go_wp2_with fail
                go_ret
                exact ⟨by rw [decide_eq_false (fun k : frOk ⟨dst, src, true, vid, pri, type, body⟩ => HT.out k.2.2.2.1)]; rfl, (Below.refl _ _).alloc (Nat.le_refl _) _⟩
            · rw [decide_eq_false h2]
              have H2 := Lib.hid h2; clear h2
              go_wp2_with fail
              go_ret
              exact ⟨by rw [decide_eq_false (fun k : frOk ⟨dst, src, true, vid, pri, type, body⟩ => H2.out k.2.1)]; rfl, (Below.refl _ _).alloc (Nat.le_refl _) _⟩
          · rw [decide_eq_false h1]
            have H1 := Lib.hid h1; clear h1
            go_wp2_with fail
            go_ret
            exact ⟨by rw [decide_eq_false (fun k : frOk ⟨dst, src, true, vid, pri, type, body⟩ => H1.out k.1)]; rfl, (Below.refl _ _).alloc (Nat.le_refl _) _⟩
      · have HV := Lib.hid hvr
        have htag : ¬ tagOk ⟨dst, src, true, vid, pri, type, body⟩ := fun k => HV.out k.1
        have HT := Lib.hid htag; clear htag
        go_enter Try.func45, Try.ntmps45
        go_wp2_with fail
        refine (in_no vid 1 4094 _ HV.out).mono ?_
        rintro e w0 ⟨rfl, rfl⟩
        go_wp2_with fail
        refine (macOk_spec dst _).mono ?_
        rintro e w1 ⟨rfl, rfl⟩
        by_cases h1 : isMac dst
        · rw [decide_eq_true h1]
          have H1 := Lib.hid h1; clear h1
          go_wp2_with fail
          refine (macOk_spec src _).mono ?_
          rintro e w2 ⟨rfl, rfl⟩
          by_cases h2 : isMac src
          · rw [decide_eq_true h2]
            have H2 := Lib.hid h2; clear h2
            go_wp2_with fail
            refine (group_spec src _).mono ?_
            rintro e w3 ⟨rfl, rfl⟩
            by_cases h3 : isGrp src
            · rw [decide_eq_true h3]
              have H3 := Lib.hid h3; clear h3
              go_wp2_with fail
              go_ret
              exact ⟨by rw [decide_eq_false (fun k : frOk ⟨dst, src, true, vid, pri, type, body⟩ => k.2.2.1 H3.out)]; rfl, (Below.refl _ _).alloc (Nat.le_refl _) _⟩
            · rw [decide_eq_false h3]
              have H3 := Lib.hid h3; clear h3
              go_wp2_with fail
              go_ret
              exact ⟨by rw [decide_eq_false (fun k : frOk ⟨dst, src, true, vid, pri, type, body⟩ => HT.out k.2.2.2.1)]; rfl, (Below.refl _ _).alloc (Nat.le_refl _) _⟩
          · rw [decide_eq_false h2]
            have H2 := Lib.hid h2; clear h2
            go_wp2_with fail
            go_ret
            exact ⟨by rw [decide_eq_false (fun k : frOk ⟨dst, src, true, vid, pri, type, body⟩ => H2.out k.2.1)]; rfl, (Below.refl _ _).alloc (Nat.le_refl _) _⟩
        · rw [decide_eq_false h1]
          have H1 := Lib.hid h1; clear h1
          go_wp2_with fail
          go_ret
          exact ⟨by rw [decide_eq_false (fun k : frOk ⟨dst, src, true, vid, pri, type, body⟩ => H1.out k.1)]; rfl, (Below.refl _ _).alloc (Nat.le_refl _) _⟩
end Go.Proofs.Ytfkpecildcejkaa
