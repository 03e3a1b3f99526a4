/- GetFrame of the model. -/
import Derived.Test.YtiajeialcmcppaaPutFrS
import Derived.Test.YtiajeialcmcppaaGet
import Derived.Lib.Builder
namespace Go.Proofs.Ytiajeialcmcppaa
open Go.RowKit

/-- what is left to be looked at, when a frame's fields are read -/
def getF3 (f : Fr) : Fr × Int := if ¬ typeOk f.type then (Fr.zero, 5) else if isGrp f.src then (Fr.zero, 6) else if 1500 < f.body.size then (Fr.zero, 2) else (f, 0)
/-- .. behind the checksum -/
def getF2 (s : ByteArray) : Fr × Int :=
  if getK s 12 2 = 33024 then
    if s.size < 22 then (Fr.zero, 4)
    else if (1 ≤ (getK s 14 2 : Int) % 4096 ∧ (getK s 14 2 : Int) % 4096 ≤ 4094) ∧ (getK s 14 2 : Int) / 4096 % 2 = 0 then
      getF3 ⟨(getK s 0 6 : Nat), (getK s 6 6 : Nat), true, (getK s 14 2 : Int) % 4096, (getK s 14 2 : Int) / 8192, (getK s 16 2 : Nat), s.extract 18 (s.size - 4)⟩
    else (Fr.zero, 4)
  else getF3 ⟨(getK s 0 6 : Nat), (getK s 6 6 : Nat), false, 0, 0, (getK s 12 2 : Nat), s.extract 14 (s.size - 4)⟩
/-- what GetFrame answers -/
def getF (s : ByteArray) : Fr × Int :=
  if s.size < 18 then (Fr.zero, 1) else if 1522 < s.size then (Fr.zero, 2)
  else if sumL (s.extract 0 (s.size - 4)).data.toList = (s.extract (s.size - 4) s.size).data.toList then getF2 s else (Fr.zero, 3)

theorem getK_two (s : ByteArray) (i : Nat) : getK s i 2 < 65536 := by
  have h := getL_lt ((s.data.toList.drop i).take 2) 0
  have h2 : 256 ^ ((s.data.toList.drop i).take 2).length ≤ 256 ^ 2 := Nat.pow_le_pow_right (by decide) (List.length_take_le _ _)
  unfold getK
  omega
/-- the block of a frame's variable -/
def FrBlk (w : World) (b : Nat) (f : Fr) : Prop := w.heap[b]? = some (.cells #[.int .i64 f.dst, .int .i64 f.src, .bool f.tagged, .int .i64 f.vid, .int .i64 f.pri, .int .i64 f.type, .string f.body] 25)
theorem FrBlk.put {w : World} {b : Nat} {g : Fr} (h : FrBlk w b g) (f : Fr) :
    FrBlk (((((((w.setCell ⟨b, 0, none⟩ (.int .i64 f.dst)).setCell ⟨b, 1, none⟩ (.int .i64 f.src)).setCell ⟨b, 2, none⟩ (.bool f.tagged)).setCell ⟨b, 3, none⟩ (.int .i64 f.vid)).setCell ⟨b, 4, none⟩ (.int .i64 f.pri)).setCell ⟨b, 5, none⟩ (.int .i64 f.type)).setCell ⟨b, 6, none⟩ (.string f.body)) b f := by
  have h0 : (w.setCell ⟨b, 0, none⟩ (.int .i64 f.dst)).heap[b]? = _ := heap_setCell_same w b 0 _ _ _ h
  have h1 : ((w.setCell ⟨b, 0, none⟩ (.int .i64 f.dst)).setCell ⟨b, 1, none⟩ (.int .i64 f.src)).heap[b]? = _ := heap_setCell_same (w.setCell ⟨b, 0, none⟩ (.int .i64 f.dst)) b 1 _ _ _ h0
  have h2 : (((w.setCell ⟨b, 0, none⟩ (.int .i64 f.dst)).setCell ⟨b, 1, none⟩ (.int .i64 f.src)).setCell ⟨b, 2, none⟩ (.bool f.tagged)).heap[b]? = _ := heap_setCell_same ((w.setCell ⟨b, 0, none⟩ (.int .i64 f.dst)).setCell ⟨b, 1, none⟩ (.int .i64 f.src)) b 2 _ _ _ h1
  have h3 : ((((w.setCell ⟨b, 0, none⟩ (.int .i64 f.dst)).setCell ⟨b, 1, none⟩ (.int .i64 f.src)).setCell ⟨b, 2, none⟩ (.bool f.tagged)).setCell ⟨b, 3, none⟩ (.int .i64 f.vid)).heap[b]? = _ := heap_setCell_same (((w.setCell ⟨b, 0, none⟩ (.int .i64 f.dst)).setCell ⟨b, 1, none⟩ (.int .i64 f.src)).setCell ⟨b, 2, none⟩ (.bool f.tagged)) b 3 _ _ _ h2
  have h4 : (((((w.setCell ⟨b, 0, none⟩ (.int .i64 f.dst)).setCell ⟨b, 1, none⟩ (.int .i64 f.src)).setCell ⟨b, 2, none⟩ (.bool f.tagged)).setCell ⟨b, 3, none⟩ (.int .i64 f.vid)).setCell ⟨b, 4, none⟩ (.int .i64 f.pri)).heap[b]? = _ := heap_setCell_same ((((w.setCell ⟨b, 0, none⟩ (.int .i64 f.dst)).setCell ⟨b, 1, none⟩ (.int .i64 f.src)).setCell ⟨b, 2, none⟩ (.bool f.tagged)).setCell ⟨b, 3, none⟩ (.int .i64 f.vid)) b 4 _ _ _ h3
  have h5 : ((((((w.setCell ⟨b, 0, none⟩ (.int .i64 f.dst)).setCell ⟨b, 1, none⟩ (.int .i64 f.src)).setCell ⟨b, 2, none⟩ (.bool f.tagged)).setCell ⟨b, 3, none⟩ (.int .i64 f.vid)).setCell ⟨b, 4, none⟩ (.int .i64 f.pri)).setCell ⟨b, 5, none⟩ (.int .i64 f.type)).heap[b]? = _ := heap_setCell_same (((((w.setCell ⟨b, 0, none⟩ (.int .i64 f.dst)).setCell ⟨b, 1, none⟩ (.int .i64 f.src)).setCell ⟨b, 2, none⟩ (.bool f.tagged)).setCell ⟨b, 3, none⟩ (.int .i64 f.vid)).setCell ⟨b, 4, none⟩ (.int .i64 f.pri)) b 5 _ _ _ h4
  have h6 : (((((((w.setCell ⟨b, 0, none⟩ (.int .i64 f.dst)).setCell ⟨b, 1, none⟩ (.int .i64 f.src)).setCell ⟨b, 2, none⟩ (.bool f.tagged)).setCell ⟨b, 3, none⟩ (.int .i64 f.vid)).setCell ⟨b, 4, none⟩ (.int .i64 f.pri)).setCell ⟨b, 5, none⟩ (.int .i64 f.type)).setCell ⟨b, 6, none⟩ (.string f.body)).heap[b]? = _ := heap_setCell_same ((((((w.setCell ⟨b, 0, none⟩ (.int .i64 f.dst)).setCell ⟨b, 1, none⟩ (.int .i64 f.src)).setCell ⟨b, 2, none⟩ (.bool f.tagged)).setCell ⟨b, 3, none⟩ (.int .i64 f.vid)).setCell ⟨b, 4, none⟩ (.int .i64 f.pri)).setCell ⟨b, 5, none⟩ (.int .i64 f.type)) b 6 _ _ _ h5
  unfold FrBlk
  rw [h6]
  simp
theorem FrBlk.alloc {w : World} {b : Nat} {g : Fr} (h : FrBlk w b g) (o : Obj) : FrBlk (w.alloc o) b g := by
  have hlt : b < w.heap.size := (Array.getElem?_eq_some_iff.1 h).1
  exact (Below.heap_alloc w o b hlt).trans h
theorem below_put {a w : World} {B b : Nat} (h : Below B a w) (hb : B ≤ b) (f : Fr) :
    Below B a (((((((w.setCell ⟨b, 0, none⟩ (.int .i64 f.dst)).setCell ⟨b, 1, none⟩ (.int .i64 f.src)).setCell ⟨b, 2, none⟩ (.bool f.tagged)).setCell ⟨b, 3, none⟩ (.int .i64 f.vid)).setCell ⟨b, 4, none⟩ (.int .i64 f.pri)).setCell ⟨b, 5, none⟩ (.int .i64 f.type)).setCell ⟨b, 6, none⟩ (.string f.body)) :=
  ((((((h.setCell hb _).setCell hb _).setCell hb _).setCell hb _).setCell hb _).setCell hb _).setCell hb _

theorem below_puta {a w : World} {b : Nat} {f : Fr} (h : Below a.heap.size a w) (hb : a.heap.size ≤ b) (o : Obj) :
    Below a.heap.size a ((((((((w.setCell ⟨b, 0, none⟩ (.int .i64 f.dst)).setCell ⟨b, 1, none⟩ (.int .i64 f.src)).setCell ⟨b, 2, none⟩ (.bool f.tagged)).setCell ⟨b, 3, none⟩ (.int .i64 f.vid)).setCell ⟨b, 4, none⟩ (.int .i64 f.pri)).setCell ⟨b, 5, none⟩ (.int .i64 f.type)).setCell ⟨b, 6, none⟩ (.string f.body)).alloc o) :=
  (below_put h hb f).alloc (below_put h hb f).size o

def GotF (w : World) (x : Fr × Int) (e : Ending) (w' : World) : Prop := e = .returned (.tuple #[x.1.val, .int .i64 x.2]) ∧ Below w.heap.size w w'

theorem got_ret {w W : World} {b : Nat} {f : Fr} {code : Int} {a : Act} (hd : a.defers = []) (h2 : a.tmps.getD 2 undef = .pointer (some ⟨b, 0, none⟩)) (h3 : a.tmps.getD 3 undef = .int .i64 code) (hF : FrBlk W b f) (hB : Below w.heap.size w W) :
    bodyPost Try.prog Try.f16 (GotF w (f, code)) Exit.ret a W := by
  have c0 := Lib.cell_of_heap hF 0
  have c1 := Lib.cell_of_heap hF 1
  have c2 := Lib.cell_of_heap hF 2
  have c3 := Lib.cell_of_heap hF 3
  have c4 := Lib.cell_of_heap hF 4
  have c5 := Lib.cell_of_heap hF 5
  have c6 := Lib.cell_of_heap hF 6
  obtain ⟨tmps, defers⟩ := a
  simp only [Array.getD_eq_getD_getElem?] at hd h2 h3
  subst hd
  exact bodyPost_ret (v := .tuple #[f.val, .int .i64 code]) (by simp [results, Try.results16, go_sem, Fr.val, h2, h3, c0, c1, c2, c3, c4, c5, c6]) rfl ⟨rfl, hB⟩

set_option maxHeartbeats 2000000 in
theorem getFrame_spec (s : ByteArray) (w : World) (hs : s.size ≤ 1048576) :
    Calls Try.prog 16 #[.string s] w (GotF w (getF s)) := by
  by_cases h1 : s.size < 18
  · have hg : getF s = (Fr.zero, 1) := by unfold getF; rw [if_pos h1]
    rw [hg]
    have h1' : (s.size : Int) < 18 := by omega
    clear hg h1
    go_enter Try.func16, Try.ntmps16
    go_wp2_with fail
    refine bodyPost_ret (v := .tuple #[Fr.zero.val, .int .i64 1]) (by simp [results, Try.results16, go_sem, Fr.val, Fr.zero]) rfl ⟨rfl, (Below.refl _ _).alloc (Nat.le_refl _) _⟩
  · by_cases h2 : 1522 < s.size
    · have hg : getF s = (Fr.zero, 2) := by unfold getF; rw [if_neg h1, if_pos h2]
      rw [hg]
      have h2' : 1522 < (s.size : Int) := by omega
      clear hg
      go_enter Try.func16, Try.ntmps16
      go_wp2_with fail
      refine bodyPost_ret (v := .tuple #[Fr.zero.val, .int .i64 2]) (by simp [results, Try.results16, go_sem, Fr.val, Fr.zero]) rfl ⟨rfl, (Below.refl _ _).alloc (Nat.le_refl _) _⟩
    · have h1' : ¬ ((s.size : Int) < 18) := by omega
      have h2' : ¬ (1522 < (s.size : Int)) := by omega
      have hxs : (s.extract 0 (s.size - 4)).size ≤ 1048576 := by rw [ByteArray.size_extract]; omega
      by_cases h3 : sumL (s.extract 0 (s.size - 4)).data.toList = (s.extract (s.size - 4) s.size).data.toList
      · have hg : getF s = getF2 s := by unfold getF; rw [if_neg h1, if_neg h2, if_pos h3]
        rw [hg]
        clear hg
        have hq : ((sumL (s.data.toList.take (s.size - 4))) == (s.extract (s.size - 4) s.size).toList) = true := by
          rw [beq_iff_eq, ByteArray.toList_eq]
          have e : (s.extract 0 (s.size - 4)).data.toList = s.data.toList.take (s.size - 4) := by
            rw [ByteArray.data_extract, Array.toList_extract]
            simp
          rw [e] at h3
          exact h3
        have hslc : 4 ≤ (s.size : Int) ∧ (s.size : Int) - 4 ≤ (s.size : Int) := by omega
        clear h3
        have hn4 : ((s.size : Int) - 4).toNat = s.size - 4 := by omega
        go_enter Try.func16, Try.ntmps16
        go_wp2_with fail
        have hb0 : ∀ o, Below w.heap.size w (w.alloc o) := fun o => (Below.refl _ _).alloc (Nat.le_refl _) o
        have hbz := hb0 (.cells #[.int .i64 0, .int .i64 0, .bool false, .int .i64 0, .int .i64 0, .int .i64 0, .string ⟨#[]⟩] 25)
        have hblk := heap_at w (.cells #[.int .i64 0, .int .i64 0, .bool false, .int .i64 0, .int .i64 0, .int .i64 0, .string ⟨#[]⟩] 25)
        have hsz : w.heap.size < (w.alloc (.cells #[.int .i64 0, .int .i64 0, .bool false, .int .i64 0, .int .i64 0, .int .i64 0, .string ⟨#[]⟩] 25)).heap.size := by simp
        generalize w.alloc (.cells #[.int .i64 0, .int .i64 0, .bool false, .int .i64 0, .int .i64 0, .int .i64 0, .string ⟨#[]⟩] 25) = w1 at hbz hblk hsz ⊢
        have hB := Below.refl w1.heap.size w1
        go_region_held3 (fun w' => Below w1.heap.size w1 w') (first | assumption | exact Below.drew (by assumption)) (first | (go_at_call 39; refine (sum_spec _ _ hxs).mono ?_; rintro e w5 ⟨rfl, hb5⟩; have hB5 : Below w1.heap.size w1 w5 := carry_below (by first | assumption | exact Below.drew (by assumption)) hb5))
        clear hb5
        have hblk5 := (hB5.block w.heap.size hsz).trans hblk
        have c : ∀ j, w5.cell? ⟨w.heap.size, j, none⟩ = (#[Value.int .i64 0, .int .i64 0, .bool false, .int .i64 0, .int .i64 0, .int .i64 0, .string ⟨#[]⟩] : Array Value)[j]? := fun j => Lib.cell_of_heap hblk5 j
        have c0 := c 0
        have c1 := c 1
        have c2 := c 2
        have c3 := c 3
        have c4 := c 4
        have c5 := c 5
        have c6 := c 6
        have hfz : ∀ j, w5.frozen? ⟨w.heap.size, j, none⟩ = false := fun j => Lib.frozen_of_heap hblk5 j
        have hsh : w5.shape? w.heap.size = some (25, 7) := by simp [World.shape?, hblk5]
        clear c
        go_wp2_with fail
        refine (get_spec s 0 6 w5 hs (by decide) (by decide) (by decide) (by omega)).mono ?_
        rintro e w6 ⟨rfl, rfl⟩
        go_wp2_with fail
        refine (get_spec s 6 6 w5 hs (by decide) (by decide) (by decide) (by omega)).mono ?_
        rintro e w6 ⟨rfl, rfl⟩
        go_wp2_with fail
        refine (get_spec s 12 2 w5 hs (by decide) (by decide) (by decide) (by omega)).mono ?_
        rintro e w6 ⟨rfl, rfl⟩
        rw [show (12 : Int).toNat = 12 from rfl, show (2 : Int).toNat = 2 from rfl]
        obtain ⟨dst, hd⟩ : ∃ d, getK s 0 6 = d := ⟨_, rfl⟩
        obtain ⟨src, hsr⟩ : ∃ d, getK s 6 6 = d := ⟨_, rfl⟩
        obtain ⟨ty, hty⟩ : ∃ d, getK s 12 2 = d := ⟨_, rfl⟩
        have htyb : ty < 65536 := by rw [← hty]; exact getK_two s 12
        rw [hd, hsr, hty]
        have HK := Lib.hid (And.intro hd (And.intro hsr hty)); clear hd hsr hty
        have hbw5 : Below w.heap.size w w5 := hbz.trans (hB5.mono hbz.size)
        have hlt6 : w.heap.size < w5.heap.size := Nat.lt_of_lt_of_le hsz hB5.size
        by_cases htag : ty = 33024
        · have htag' : (ty : Int) = 33024 := by omega
          by_cases h22 : s.size < 22
          · have hres : getF2 s = (Fr.zero, 4) := by
              unfold getF2
              rw [HK.out.2.2, if_pos htag, if_pos h22]
            have h22' : (s.size : Int) < 22 := by omega
            go_wp2_with fail
            rw [hres]
            exact got_ret rfl rfl rfl (FrBlk.alloc (FrBlk.put (g := Fr.zero) (f := Fr.zero) hblk5) _) (below_puta (f := Fr.zero) hbw5 (Nat.le_refl w.heap.size) _)
          · have h22' : ¬ ((s.size : Int) < 22) := by omega
            obtain ⟨tag, htg⟩ : ∃ d, getK s 14 2 = d := ⟨_, rfl⟩
            obtain ⟨ty2, hty2⟩ : ∃ d, getK s 16 2 = d := ⟨_, rfl⟩
            have htgb : tag < 65536 := by rw [← htg]; exact getK_two s 14
            have hty2b : ty2 < 65536 := by rw [← hty2]; exact getK_two s 16
            have hg1 := get_spec s 14 2
            have hg2 := get_spec s 16 2
            rw [show (14 : Int).toNat = 14 from rfl, show (2 : Int).toNat = 2 from rfl, htg] at hg1
            rw [show (16 : Int).toNat = 16 from rfl, show (2 : Int).toNat = 2 from rfl, hty2] at hg2
            have HT2 := Lib.hid (And.intro htg hty2); clear htg hty2
            have HG1 := Lib.hid hg1; clear hg1
            have HG2 := Lib.hid hg2; clear hg2
            have H22 := Lib.hid h22; clear h22
            have HTG := Lib.hid htag; clear htag
            go_wp2_with fail
            refine (HG1.out _ hs (by decide) (by decide) (by decide) (by omega)).mono ?_
            rintro e w6 ⟨rfl, rfl⟩
            go_wp2_with fail
            refine (HG2.out _ hs (by decide) (by decide) (by decide) (by omega)).mono ?_
            rintro e w6 ⟨rfl, rfl⟩
            go_wp2_with fail
            by_cases hv : 1 ≤ (tag : Int) % 4096 ∧ (tag : Int) % 4096 ≤ 4094
            · refine (in_yes _ _ _ _ hv.1 hv.2).mono ?_
              rintro e w6 ⟨rfl, rfl⟩
              by_cases hb12 : (tag : Int) / 4096 % 2 = 1
              · have hres : getF2 s = (Fr.zero, 4) := by
                  unfold getF2
                  rw [HK.out.2.2, HT2.out.1, if_pos HTG.out, if_neg H22.out, if_neg (by omega)]
                have HV := Lib.hid hv; clear hv
                go_wp2_with fail
                rw [hres]
                exact got_ret rfl rfl rfl (FrBlk.alloc (FrBlk.put (g := Fr.zero) (f := Fr.zero) hblk5) _) (below_puta (f := Fr.zero) hbw5 (Nat.le_refl w.heap.size) _)
              · have hres0 : getF2 s = getF3 ⟨(dst : Nat), (src : Nat), true, (tag : Int) % 4096, (tag : Int) / 8192, (ty2 : Nat), s.extract 18 (s.size - 4)⟩ := by
                  unfold getF2
                  rw [HK.out.1, HK.out.2.1, HK.out.2.2, HT2.out.1, HT2.out.2, if_pos HTG.out, if_neg H22.out, if_pos ⟨hv, by omega⟩]
                have HR0 := Lib.hid hres0; clear hres0
                have HV := Lib.hid hv; clear hv
                go_wp2_with fail
                refine (type_spec (ty2 : Int) _).mono ?_
                rintro e w6 ⟨rfl, rfl⟩
                by_cases hto : typeOk (ty2 : Int)
                · rw [decide_eq_true hto]
                  have HT := Lib.hid hto; clear hto
                  go_wp2_with fail
                  refine (group_spec (src : Int) _).mono ?_
                  rintro e w6 ⟨rfl, rfl⟩
                  by_cases hgr : isGrp (src : Int)
                  · rw [decide_eq_true hgr]
                    have HG := Lib.hid hgr; clear hgr
                    go_wp2_with fail
                    have hres : getF2 s = (Fr.zero, 6) := by
                      rw [HR0.out]
                      unfold getF3
                      rw [if_neg (fun h => h HT.out), if_pos HG.out]
                    rw [hres]
                    exact got_ret rfl rfl rfl (FrBlk.alloc (FrBlk.put (g := Fr.zero) (f := Fr.zero) hblk5) _) (below_puta (f := Fr.zero) hbw5 (Nat.le_refl w.heap.size) _)
                  · rw [decide_eq_false hgr]
                    have HG := Lib.hid hgr; clear hgr
                    by_cases hbig : 1500 < (s.extract 18 (s.size - 4)).size
                    · exfalso
                      rw [ByteArray.size_extract] at hbig
                      omega
                    · have hbig' : ((s.size - 4 - 18 : Nat) : Int) ≤ 1500 := by rw [ByteArray.size_extract] at hbig; omega
                      have HBG := Lib.hid hbig; clear hbig
                      go_wp2_with fail
                      have hres : getF2 s = (⟨(dst : Nat), (src : Nat), true, (tag : Int) % 4096, (tag : Int) / 8192, (ty2 : Nat), s.extract 18 (s.size - 4)⟩, 0) := by
                        rw [HR0.out]
                        unfold getF3
                        rw [if_neg (fun h => h HT.out), if_neg HG.out, if_neg HBG.out]
                      rw [hres]
                      exact got_ret rfl rfl rfl (FrBlk.alloc (FrBlk.put (g := Fr.zero) (f := ⟨(dst : Nat), (src : Nat), true, (tag : Int) % 4096, (tag : Int) / 8192, (ty2 : Nat), s.extract 18 (s.size - 4)⟩) hblk5) _) (below_puta (f := ⟨(dst : Nat), (src : Nat), true, (tag : Int) % 4096, (tag : Int) / 8192, (ty2 : Nat), s.extract 18 (s.size - 4)⟩) hbw5 (Nat.le_refl w.heap.size) _)
                · rw [decide_eq_false hto]
                  have HT := Lib.hid hto; clear hto
                  go_wp2_with fail
                  have hres : getF2 s = (Fr.zero, 5) := by
                    rw [HR0.out]
                    unfold getF3
                    rw [if_pos HT.out]
                  rw [hres]
                  exact got_ret rfl rfl rfl (FrBlk.alloc (FrBlk.put (g := Fr.zero) (f := Fr.zero) hblk5) _) (below_puta (f := Fr.zero) hbw5 (Nat.le_refl w.heap.size) _)
            · have hres : getF2 s = (Fr.zero, 4) := by
                unfold getF2
                rw [HK.out.2.2, HT2.out.1, if_pos HTG.out, if_neg H22.out, if_neg (fun h => hv h.1)]
              refine (in_no _ _ _ _ hv).mono ?_
              rintro e w6 ⟨rfl, rfl⟩
              have HV := Lib.hid hv; clear hv
              go_wp2_with fail
              rw [hres]
              exact got_ret rfl rfl rfl (FrBlk.alloc (FrBlk.put (g := Fr.zero) (f := Fr.zero) hblk5) _) (below_puta (f := Fr.zero) hbw5 (Nat.le_refl w.heap.size) _)
        · have hres0 : getF2 s = getF3 ⟨(dst : Nat), (src : Nat), false, 0, 0, (ty : Nat), s.extract 14 (s.size - 4)⟩ := by
            unfold getF2
            rw [HK.out.1, HK.out.2.1, HK.out.2.2, if_neg htag]
          have HR0 := Lib.hid hres0; clear hres0
          have htag' : ¬ ((ty : Int) = 33024) := by omega
          go_wp2_with fail
          refine (type_spec (ty : Int) _).mono ?_
          rintro e w6 ⟨rfl, rfl⟩
          by_cases hto : typeOk (ty : Int)
          · rw [decide_eq_true hto]
            have HT := Lib.hid hto; clear hto
            go_wp2_with fail
            refine (group_spec (src : Int) _).mono ?_
            rintro e w6 ⟨rfl, rfl⟩
            by_cases hgr : isGrp (src : Int)
            · rw [decide_eq_true hgr]
              have HG := Lib.hid hgr; clear hgr
              go_wp2_with fail
              have hres : getF2 s = (Fr.zero, 6) := by
                rw [HR0.out]
                unfold getF3
                rw [if_neg (fun h => h HT.out), if_pos HG.out]
              rw [hres]
              exact got_ret rfl rfl rfl (FrBlk.alloc (FrBlk.put (g := Fr.zero) (f := Fr.zero) hblk5) _) (below_puta (f := Fr.zero) hbw5 (Nat.le_refl w.heap.size) _)
            · rw [decide_eq_false hgr]
              have HG := Lib.hid hgr; clear hgr
              by_cases hbig : 1500 < (s.extract 14 (s.size - 4)).size
              · have hbig' : ¬ (((s.size - 4 - 14 : Nat) : Int) ≤ 1500) := by rw [ByteArray.size_extract] at hbig; omega
                have HBG := Lib.hid hbig; clear hbig
                go_wp2_with fail
                have hres : getF2 s = (Fr.zero, 2) := by
                  rw [HR0.out]
                  unfold getF3
                  rw [if_neg (fun h => h HT.out), if_neg HG.out, if_pos HBG.out]
                rw [hres]
                exact got_ret rfl rfl rfl (FrBlk.alloc (FrBlk.put (g := Fr.zero) (f := Fr.zero) hblk5) _) (below_puta (f := Fr.zero) hbw5 (Nat.le_refl w.heap.size) _)
              · have hbig' : ((s.size - 4 - 14 : Nat) : Int) ≤ 1500 := by rw [ByteArray.size_extract] at hbig; omega
                have HBG := Lib.hid hbig; clear hbig
                go_wp2_with fail
                have hres : getF2 s = (⟨(dst : Nat), (src : Nat), false, 0, 0, (ty : Nat), s.extract 14 (s.size - 4)⟩, 0) := by
                  rw [HR0.out]
                  unfold getF3
                  rw [if_neg (fun h => h HT.out), if_neg HG.out, if_neg HBG.out]
                rw [hres]
                exact got_ret rfl rfl rfl (FrBlk.alloc (FrBlk.put (g := Fr.zero) (f := ⟨(dst : Nat), (src : Nat), false, 0, 0, (ty : Nat), s.extract 14 (s.size - 4)⟩) hblk5) _) (below_puta (f := ⟨(dst : Nat), (src : Nat), false, 0, 0, (ty : Nat), s.extract 14 (s.size - 4)⟩) hbw5 (Nat.le_refl w.heap.size) _)
          · rw [decide_eq_false hto]
            have HT := Lib.hid hto; clear hto
            go_wp2_with fail
            have hres : getF2 s = (Fr.zero, 5) := by
              rw [HR0.out]
              unfold getF3
              rw [if_pos HT.out]
            rw [hres]
            exact got_ret rfl rfl rfl (FrBlk.alloc (FrBlk.put (g := Fr.zero) (f := Fr.zero) hblk5) _) (below_puta (f := Fr.zero) hbw5 (Nat.le_refl w.heap.size) _)
      · have hg : getF s = (Fr.zero, 3) := by unfold getF; rw [if_neg h1, if_neg h2, if_neg h3]
        rw [hg]
        clear hg
        have hq : ((sumL (s.data.toList.take (s.size - 4))) == (s.extract (s.size - 4) s.size).toList) = false := by
          rw [beq_eq_false_iff_ne, ByteArray.toList_eq]
          have e : (s.extract 0 (s.size - 4)).data.toList = s.data.toList.take (s.size - 4) := by
            rw [ByteArray.data_extract, Array.toList_extract]
            simp
          rw [e] at h3
          exact h3
        have hslc : 4 ≤ (s.size : Int) ∧ (s.size : Int) - 4 ≤ (s.size : Int) := by omega
        clear h3
        have hn4 : ((s.size : Int) - 4).toNat = s.size - 4 := by omega
        go_enter Try.func16, Try.ntmps16
        go_wp2_with fail
        have hb0 : ∀ o, Below w.heap.size w (w.alloc o) := fun o => (Below.refl _ _).alloc (Nat.le_refl _) o
        have hbz := hb0 (.cells #[.int .i64 0, .int .i64 0, .bool false, .int .i64 0, .int .i64 0, .int .i64 0, .string ⟨#[]⟩] 25)
        have hblk := heap_at w (.cells #[.int .i64 0, .int .i64 0, .bool false, .int .i64 0, .int .i64 0, .int .i64 0, .string ⟨#[]⟩] 25)
        have hsz : w.heap.size < (w.alloc (.cells #[.int .i64 0, .int .i64 0, .bool false, .int .i64 0, .int .i64 0, .int .i64 0, .string ⟨#[]⟩] 25)).heap.size := by simp
        generalize w.alloc (.cells #[.int .i64 0, .int .i64 0, .bool false, .int .i64 0, .int .i64 0, .int .i64 0, .string ⟨#[]⟩] 25) = w1 at hbz hblk hsz ⊢
        have hB := Below.refl w1.heap.size w1
        go_region_held3 (fun w' => Below w1.heap.size w1 w') (first | assumption | exact Below.drew (by assumption)) (first | (go_at_call 39; refine (sum_spec _ _ hxs).mono ?_; rintro e w5 ⟨rfl, hb5⟩; have hB5 : Below w1.heap.size w1 w5 := carry_below (by first | assumption | exact Below.drew (by assumption)) hb5))
        clear hb5
        have hblk5 := (hB5.block w.heap.size hsz).trans hblk
        have c : ∀ j, w5.cell? ⟨w.heap.size, j, none⟩ = (#[Value.int .i64 0, .int .i64 0, .bool false, .int .i64 0, .int .i64 0, .int .i64 0, .string ⟨#[]⟩] : Array Value)[j]? := fun j => Lib.cell_of_heap hblk5 j
        have c0 := c 0
        have c1 := c 1
        have c2 := c 2
        have c3 := c 3
        have c4 := c 4
        have c5 := c 5
        have c6 := c 6
        have hfz : ∀ j, w5.frozen? ⟨w.heap.size, j, none⟩ = false := fun j => Lib.frozen_of_heap hblk5 j
        have hsh : w5.shape? w.heap.size = some (25, 7) := by simp [World.shape?, hblk5]
        clear c
        go_wp2_with fail
        exact got_ret rfl rfl rfl (FrBlk.put (g := Fr.zero) (f := Fr.zero) hblk5) (below_put (f := Fr.zero) (hbz.trans (hB5.mono hbz.size)) (Nat.le_refl w.heap.size))
end Go.Proofs.Ytiajeialcmcppaa
