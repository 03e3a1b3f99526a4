/- GetFrame of the program. -/
import Derived.Test.YtiajeialcmcppaaFrI
import Derived.Test.YtiajeialcmcppaaSumI
import Derived.Test.YtiajeialcmcppaaGetFrS
import Derived.ScopeJumps
import Derived.WalkMore
namespace Go.Proofs.Ytiajeialcmcppaa
open Go.RowKit

theorem and_12 (n : Nat) : n &&& 2 ^ 12 = n / 2 ^ 12 % 2 * 2 ^ 12 := by
  have e : n / 2 ^ 12 % 2 = (n.testBit 12).toNat := (Nat.toNat_testBit n 12).symm
  rw [e]
  apply Nat.eq_of_testBit_eq
  intro j
  rw [Nat.testBit_and, Nat.testBit_two_pow]
  cases h : n.testBit 12
  · by_cases hj : 12 = j
    · subst hj; simp [h]
    · simp [hj]
  · by_cases hj : 12 = j
    · subst hj; rw [h]; decide
    · simp only [Bool.toNat_true, Nat.one_mul, Nat.testBit_two_pow, hj, decide_false, Bool.and_false]

theorem bits_and_12 (n : Nat) (h : n < 65536) : bits .and .i64 (n : Int) 4096 = ((n / 4096 % 2 * 4096 : Nat) : Int) := by
  show IntKind.i64.wrap (((BitVec.ofInt 64 (n : Int) &&& BitVec.ofInt 64 4096).toNat : Nat) : Int) = _
  rw [BitVec.toNat_and, ofInt64_toNat, show (BitVec.ofInt 64 4096).toNat = 2 ^ 12 from by decide]
  have e : ((n : Int) % 18446744073709551616).toNat = n := by omega
  rw [e, and_12]
  simp [IntKind.wrap, IntKind.bits, IntKind.signed]
  omega

/-- what is cut off behind doesn't matter to a number ahead of it -/
theorem getK_cut (s : ByteArray) (m i k : Nat) (h : i + k ≤ m) : getK (s.extract 0 m) i k = getK s i k := by
  unfold getK
  have e : (s.extract 0 m).data.toList = s.data.toList.take m := by
    rw [ByteArray.data_extract, Array.toList_extract]
    simp
  rw [e, List.drop_take, List.take_take, Nat.min_eq_left (by omega)]

theorem cut_cut (s : ByteArray) (m i : Nat) (hm : m ≤ s.size) : (s.extract 0 m).extract i (s.extract 0 m).size = s.extract i m := by
  apply ByteArray.ext
  apply Array.toList_inj.1
  have hs : (s.extract 0 m).size = m := by rw [ByteArray.size_extract]; omega
  rw [hs]
  rw [ByteArray.data_extract, Array.toList_extract, ByteArray.data_extract, Array.toList_extract, ByteArray.data_extract, Array.toList_extract]
  simp only [List.extract, List.drop_zero, Nat.sub_zero, List.drop_take, List.take_take, Nat.min_self]

/-- some number of two bytes, or -1 -/
def SomeTwo (w : World) (e : Ending) (w' : World) : Prop := ∃ n : Int, e = .returned (.int .i64 n) ∧ -1 ≤ n ∧ n ≤ 65535 ∧ w = w'
theorem get_two (s : ByteArray) (i : Int) (w : World) (hs : s.size ≤ 1048576) (h0 : 0 ≤ i) :
    Calls Try.prog 49 #[.string s, .int .i64 i, .int .i64 2] w (SomeTwo w) := by
  by_cases h : i + 2 ≤ s.size
  · refine (get_impl s i 2 w hs (by decide) (by decide) h0 h).mono ?_
    rintro e w' ⟨rfl, rfl⟩
    have := getK_two s i.toNat
    exact ⟨_, rfl, by omega, by show ((getK s i.toNat 2 : Nat) : Int) ≤ _; omega, rfl⟩
  · refine (get_impl_no s i 2 w hs (by omega)).mono ?_
    rintro e w' ⟨rfl, rfl⟩
    exact ⟨_, rfl, by omega, by omega, rfl⟩

/-- what holds where the text jumps to its one label: the code is set, the frame is in its block -/
def AtRefused (s : ByteArray) (w : World) (a' : Act) (w' : World) : Prop :=
  ∃ (code : Int) (g : Fr) (u1 u4 u5 u6 u7 u8 u9 u10 u11 u12 u13 u14 u15 u16 u17 u18 u19 u20 u21 u22 u23 u24 u25 u26 u27 u28 u29 u30 u31 u32 u33 u34 u35 u36 u37 u38 u39 u40 u41 u42 u43 u44 u45 u46 u47 u48 u49 u50 u51 u52 u53 u54 u55 u56 u57 u58 u59 u60 u61 u62 u63 u64 u65 u66 u67 u68 u69 u70 u71 : Value), a' = { tmps := #[.string s, u1, .pointer (some ⟨w.heap.size, 0, none⟩), .int .i64 code, u4, u5, u6, u7, u8, u9, u10, u11, u12, u13, u14, u15, u16, u17, u18, u19, u20, u21, u22, u23, u24, u25, u26, u27, u28, u29, u30, u31, u32, u33, u34, u35, u36, u37, u38, u39, u40, u41, u42, u43, u44, u45, u46, u47, u48, u49, u50, u51, u52, u53, u54, u55, u56, u57, u58, u59, u60, u61, u62, u63, u64, u65, u66, u67, u68, u69, u70, u71], defers := [] } ∧ FrBlk w' w.heap.size g ∧ Below w.heap.size w w' ∧ getF2 s = (Fr.zero, code)

theorem frBlk_new (w : World) (dst src : Int) (tagged : Bool) (vid pri type : Int) (body : ByteArray) : FrBlk (w.alloc (.cells #[.int .i64 dst, .int .i64 src, .bool tagged, .int .i64 vid, .int .i64 pri, .int .i64 type, .string body] 25)) w.heap.size ⟨dst, src, tagged, vid, pri, type, body⟩ := heap_at w _

theorem got_ret' {w W : World} {b : Nat} {f : Fr} {code : Int} {a : Act} (hd : a.defers = []) (h2 : a.tmps.getD 2 undef = .pointer (some ⟨b, 0, none⟩)) (h3 : a.tmps.getD 3 undef = .int .i64 code) (hF : FrBlk W b f) (hB : Below w.heap.size w W) :
    bodyPost Try.prog Try.f34 (GotF w (f, code)) Exit.ret a W := by
  have c0 := Lib.cell_of_heap hF 0
  have c1 := Lib.cell_of_heap hF 1
  have c2 := Lib.cell_of_heap hF 2
  have c3 := Lib.cell_of_heap hF 3
  have c4 := Lib.cell_of_heap hF 4
  have c5 := Lib.cell_of_heap hF 5
  have c6 := Lib.cell_of_heap hF 6
  obtain ⟨tmps, defers⟩ := a
  simp only [Array.getD_eq_getD_getElem?] at hd h2 h3
  subst hd
  exact bodyPost_ret (v := .tuple #[f.val, .int .i64 code]) (by simp [results, Try.results34, go_sem, Fr.val, h2, h3, c0, c1, c2, c3, c4, c5, c6]) rfl ⟨rfl, hB⟩

set_option maxHeartbeats 2000000 in
theorem readFields_impl (s : ByteArray) (w : World) (h18 : 18 ≤ s.size) (hs : s.size ≤ 1522) :
    Calls Try.prog 34 #[.string s] w (GotF w (getF2 s)) := by
  have hslc : 4 ≤ (s.size : Int) ∧ (s.size : Int) - 4 ≤ (s.size : Int) := by omega
  have hn4 : ((s.size : Int) - 4).toNat = s.size - 4 := by omega
  have g0 := getK_cut s (s.size - 4) 0 6 (by omega)
  have g6 := getK_cut s (s.size - 4) 6 6 (by omega)
  have g12 := getK_cut s (s.size - 4) 12 2 (by omega)
  have g14 : 20 ≤ s.size → getK (s.extract 0 (s.size - 4)) 14 2 = getK s 14 2 := fun h => getK_cut s (s.size - 4) 14 2 (by omega)
  have g16 : 22 ≤ s.size → getK (s.extract 0 (s.size - 4)) 16 2 = getK s 16 2 := fun h => getK_cut s (s.size - 4) 16 2 (by omega)
  have b14 := cut_cut s (s.size - 4) 14 (by omega)
  have b18 := cut_cut s (s.size - 4) 18 (by omega)
  have hcs : (s.extract 0 (s.size - 4)).size = s.size - 4 := by rw [ByteArray.size_extract]; omega
  have G := Lib.hid (And.intro g0 (And.intro g6 (And.intro g12 (And.intro g14 (And.intro g16 (And.intro b14 b18))))))
  have HC := Lib.hid hcs
  clear g0 g6 g12 g14 g16 b14 b18 hcs
  go_enter Try.func34, Try.ntmps34
  go_wp2_with fail
  refine wp_scope_jumps 0 (AtRefused s w) (fun _ _ => 0) rfl ?_ ?_
  case refine_2 =>
    rintro a' w' ⟨code, g, u1, u4, u5, u6, u7, u8, u9, u10, u11, u12, u13, u14, u15, u16, u17, u18, u19, u20, u21, u22, u23, u24, u25, u26, u27, u28, u29, u30, u31, u32, u33, u34, u35, u36, u37, u38, u39, u40, u41, u42, u43, u44, u45, u46, u47, u48, u49, u50, u51, u52, u53, u54, u55, u56, u57, u58, u59, u60, u61, u62, u63, u64, u65, u66, u67, u68, u69, u70, u71, rfl, hF, hB, hres⟩
    have hfz : ∀ j, w'.frozen? ⟨w.heap.size, j, none⟩ = false := fun j => Lib.frozen_of_heap hF j
    have hsh : w'.shape? w.heap.size = some (25, 7) := by simp [World.shape?, FrBlk] at hF ⊢; simp [hF]
    have c : ∀ j, w'.cell? ⟨w.heap.size, j, none⟩ = (#[Value.int .i64 g.dst, .int .i64 g.src, .bool g.tagged, .int .i64 g.vid, .int .i64 g.pri, .int .i64 g.type, .string g.body] : Array Value)[j]? := fun j => Lib.cell_of_heap hF j
    have c0 := c 0
    have c1 := c 1
    have c2 := c 2
    have c3 := c 3
    have c4 := c 4
    have c5 := c 5
    have c6 := c 6
    clear c
    have HRES := Lib.hid hres
    clear hres
    go_wp2_with fail
    try go_step3
    try go_wp2_with fail
    simp only [Exit.jump]
    rw [HRES.out]
    exact got_ret' rfl rfl rfl (FrBlk.put (g := g) (f := Fr.zero) hF) (below_put (f := Fr.zero) hB (Nat.le_refl w.heap.size))
  go_wp2_with fail
  generalize s.extract 0 (s.size - 4) = c at G HC ⊢
  have hcs : c.size ≤ 1048576 := by have := HC.out; omega
  have hc14 : 14 ≤ c.size := by have := HC.out; omega
  refine (get_impl c 0 6 _ hcs (by decide) (by decide) (by decide) (by omega)).mono ?_
  rintro e w1 ⟨rfl, rfl⟩
  rw [show (0 : Int).toNat = 0 from rfl, show (6 : Int).toNat = 6 from rfl, G.out.1]
  go_wp2_with fail
  refine (get_impl c 6 6 _ hcs (by decide) (by decide) (by decide) (by omega)).mono ?_
  rintro e w1 ⟨rfl, rfl⟩
  rw [show (6 : Int).toNat = 6 from rfl, G.out.2.1]
  go_wp2_with fail
  refine (get_impl c 12 2 _ hcs (by decide) (by decide) (by decide) (by omega)).mono ?_
  rintro e w1 ⟨rfl, rfl⟩
  rw [show (12 : Int).toNat = 12 from rfl, show (2 : Int).toNat = 2 from rfl, G.out.2.2.1]
  obtain ⟨dst, hd⟩ : ∃ d, getK s 0 6 = d := ⟨_, rfl⟩
  obtain ⟨src, hsr⟩ : ∃ d, getK s 6 6 = d := ⟨_, rfl⟩
  obtain ⟨ty, hty⟩ : ∃ d, getK s 12 2 = d := ⟨_, rfl⟩
  have htyb : ty < 65536 := by rw [← hty]; exact getK_two s 12
  rw [hd, hsr, hty]
  have HK := Lib.hid (And.intro hd (And.intro hsr hty)); clear hd hsr hty
  by_cases htag : ty = 33024
  · have htag' : (ty : Int) = 33024 := by omega
    by_cases h22 : s.size < 22
    · have hres : getF2 s = (Fr.zero, 4) := by
        unfold getF2
        rw [HK.out.2.2, if_pos htag, if_pos h22]
      have HRES := Lib.hid hres
      clear hres htag
      have h22' : (s.size : Int) < 22 := by omega
      go_wp2_with fail
      refine (get_two c _ _ hcs (by decide)).mono ?_
      rintro e w1 ⟨n, rfl, hn0, hn1, rfl⟩
      go_wp2_with fail
      go_step3
      exact ⟨rfl, 4, _, _, _, _, _, _, _, _, _, _, _, _, _, _, _, _, _, _, _, _, _, _, _, _, _, _, _, _, _, _, _, _, _, _, _, _, _, _, _, _, _, _, _, _, _, _, _, _, _, _, _, _, _, _, _, _, _, _, _, _, _, _, _, _, _, _, _, _, _, _, rfl, frBlk_new w _ _ _ _ _ _ _, (Below.refl _ _).alloc (Nat.le_refl _) _, HRES.out⟩
    · have h22' : ¬ ((s.size : Int) < 22) := by omega
      obtain ⟨tag, htg⟩ : ∃ d, getK s 14 2 = d := ⟨_, rfl⟩
      obtain ⟨ty2, hty2⟩ : ∃ d, getK s 16 2 = d := ⟨_, rfl⟩
      have htgb : tag < 65536 := by rw [← htg]; exact getK_two s 14
      have hty2b : ty2 < 65536 := by rw [← hty2]; exact getK_two s 16
      have HT2 := Lib.hid (And.intro htg hty2); clear htg hty2
      have H22 : Hid (22 ≤ s.size) := Lib.hid (by omega)
      have H22n := Lib.hid h22; clear h22
      have HTG := Lib.hid htag; clear htag
      go_wp2_with fail
      refine (get_impl c 14 2 _ hcs (by decide) (by decide) (by decide) (by have := HC.out; omega)).mono ?_
      rintro e w1 ⟨rfl, rfl⟩
      rw [show (14 : Int).toNat = 14 from rfl, show (2 : Int).toNat = 2 from rfl, G.out.2.2.2.1 (by have := H22.out; omega), HT2.out.1]
      by_cases hv : 1 ≤ (tag : Int) % 4096 ∧ (tag : Int) % 4096 ≤ 4094
      case neg =>
        have hres : getF2 s = (Fr.zero, 4) := by
          unfold getF2
          rw [HK.out.2.2, HT2.out.1, if_pos HTG.out, if_neg H22n.out, if_neg (fun h => hv h.1)]
        have HRES := Lib.hid hres; clear hres
        have HV := Lib.hid hv; clear hv
        go_wp2_with fail
        refine (vid_impl _ _).mono ?_
        rintro e w1 ⟨rfl, rfl⟩
        rw [decide_eq_false HV.out]
        go_wp2_with fail
        go_step3
        exact ⟨rfl, 4, _, _, _, _, _, _, _, _, _, _, _, _, _, _, _, _, _, _, _, _, _, _, _, _, _, _, _, _, _, _, _, _, _, _, _, _, _, _, _, _, _, _, _, _, _, _, _, _, _, _, _, _, _, _, _, _, _, _, _, _, _, _, _, _, _, _, _, _, _, _, rfl, frBlk_new w _ _ _ _ _ _ _, (Below.refl _ _).alloc (Nat.le_refl _) _, HRES.out⟩
      have hbit := bits_and_12 tag htgb
      by_cases hb12 : (tag : Int) / 4096 % 2 = 1
      case pos =>
        have hres : getF2 s = (Fr.zero, 4) := by
          unfold getF2
          rw [HK.out.2.2, HT2.out.1, if_pos HTG.out, if_neg H22n.out, if_neg (by omega)]
        have HRES := Lib.hid hres; clear hres
        rw [show ((tag / 4096 % 2 * 4096 : Nat) : Int) = 4096 by omega] at hbit
        have HV := Lib.hid hv; clear hv
        go_wp2_with fail
        refine (vid_impl _ _).mono ?_
        rintro e w1 ⟨rfl, rfl⟩
        rw [decide_eq_true HV.out]
        go_wp2_with fail
        go_step3
        exact ⟨rfl, 4, _, _, _, _, _, _, _, _, _, _, _, _, _, _, _, _, _, _, _, _, _, _, _, _, _, _, _, _, _, _, _, _, _, _, _, _, _, _, _, _, _, _, _, _, _, _, _, _, _, _, _, _, _, _, _, _, _, _, _, _, _, _, _, _, _, _, _, _, _, _, rfl, frBlk_new w _ _ _ _ _ _ _, (Below.refl _ _).alloc (Nat.le_refl _) _, HRES.out⟩
      rw [show ((tag / 4096 % 2 * 4096 : Nat) : Int) = 0 by omega] at hbit
      have hres0 : getF2 s = getF3 ⟨(dst : Nat), (src : Nat), true, (tag : Int) % 4096, (tag : Int) / 8192, (ty2 : Nat), s.extract 18 (s.size - 4)⟩ := by
        unfold getF2
        rw [HK.out.1, HK.out.2.1, HK.out.2.2, HT2.out.1, HT2.out.2, if_pos HTG.out, if_neg H22n.out, if_pos ⟨hv, by omega⟩]
      have HR0 := Lib.hid hres0; clear hres0
      have HV := Lib.hid hv; clear hv
      have hc18 : 18 ≤ c.size := by have := HC.out; have := H22.out; omega
      go_wp2_with fail
      refine (vid_impl _ _).mono ?_
      rintro e w1 ⟨rfl, rfl⟩
      rw [decide_eq_true HV.out]
      go_wp2_with fail
      refine (get_impl c 16 2 _ hcs (by decide) (by decide) (by decide) (by have := HC.out; omega)).mono ?_
      rintro e w1 ⟨rfl, rfl⟩
      rw [show (16 : Int).toNat = 16 from rfl, show (2 : Int).toNat = 2 from rfl, G.out.2.2.2.2.1 H22.out, HT2.out.2]
      go_wp2_with fail
      refine (type_impl (ty2 : Int) _).mono ?_
      rintro e w1 ⟨rfl, rfl⟩
      by_cases hto : typeOk (ty2 : Int)
      case neg =>
        rw [decide_eq_false hto]
        have hres : getF2 s = (Fr.zero, 5) := by
          rw [HR0.out]
          unfold getF3
          rw [if_pos hto]
        have HRES := Lib.hid hres; clear hres hto
        go_wp2_with fail
        go_step3
        exact ⟨rfl, 5, _, _, _, _, _, _, _, _, _, _, _, _, _, _, _, _, _, _, _, _, _, _, _, _, _, _, _, _, _, _, _, _, _, _, _, _, _, _, _, _, _, _, _, _, _, _, _, _, _, _, _, _, _, _, _, _, _, _, _, _, _, _, _, _, _, _, _, _, _, _, rfl, frBlk_new w _ _ _ _ _ _ _, (Below.refl _ _).alloc (Nat.le_refl _) _, HRES.out⟩
      rw [decide_eq_true hto]
      have HT := Lib.hid hto; clear hto
      go_wp2_with fail
      refine (group_impl (src : Int) _).mono ?_
      rintro e w1 ⟨rfl, rfl⟩
      by_cases hgr : isGrp (src : Int)
      case pos =>
        rw [decide_eq_true hgr]
        have hres : getF2 s = (Fr.zero, 6) := by
          rw [HR0.out]
          unfold getF3
          rw [if_neg (fun h => h HT.out), if_pos hgr]
        have HRES := Lib.hid hres; clear hres hgr
        go_wp2_with fail
        go_step3
        exact ⟨rfl, 6, _, _, _, _, _, _, _, _, _, _, _, _, _, _, _, _, _, _, _, _, _, _, _, _, _, _, _, _, _, _, _, _, _, _, _, _, _, _, _, _, _, _, _, _, _, _, _, _, _, _, _, _, _, _, _, _, _, _, _, _, _, _, _, _, _, _, _, _, _, _, rfl, frBlk_new w _ _ _ _ _ _ _, (Below.refl _ _).alloc (Nat.le_refl _) _, HRES.out⟩
      rw [decide_eq_false hgr]
      have HG := Lib.hid hgr; clear hgr
      by_cases hbig : 1500 < (s.extract 18 (s.size - 4)).size
      case pos =>
        have hres : getF2 s = (Fr.zero, 2) := by
          rw [HR0.out]
          unfold getF3
          rw [if_neg (fun h => h HT.out), if_neg HG.out, if_pos hbig]
        have hb' : 1500 < ((c.size - 18 : Nat) : Int) := by rw [ByteArray.size_extract] at hbig; have := HC.out; omega
        have HRES := Lib.hid hres; clear hres hbig
        go_wp2_with fail
        go_step3
        exact ⟨rfl, 2, _, _, _, _, _, _, _, _, _, _, _, _, _, _, _, _, _, _, _, _, _, _, _, _, _, _, _, _, _, _, _, _, _, _, _, _, _, _, _, _, _, _, _, _, _, _, _, _, _, _, _, _, _, _, _, _, _, _, _, _, _, _, _, _, _, _, _, _, _, _, rfl, frBlk_new w _ _ _ _ _ _ _, (Below.refl _ _).alloc (Nat.le_refl _) _, HRES.out⟩
      have hres : getF2 s = (⟨(dst : Nat), (src : Nat), true, (tag : Int) % 4096, (tag : Int) / 8192, (ty2 : Nat), s.extract 18 (s.size - 4)⟩, 0) := by
        rw [HR0.out]
        unfold getF3
        rw [if_neg (fun h => h HT.out), if_neg HG.out, if_neg hbig]
      have hb' : ¬ (1500 < ((c.size - 18 : Nat) : Int)) := by rw [ByteArray.size_extract] at hbig; have := HC.out; omega
      have HRES := Lib.hid hres; clear hres hbig
      go_wp2_with fail
      simp only [Exit.jump]
      rw [HRES.out, ← G.out.2.2.2.2.2.2]
      exact got_ret' rfl rfl rfl (frBlk_new w _ _ _ _ _ _ _) ((Below.refl _ _).alloc (Nat.le_refl _) _)
  · have hres0 : getF2 s = getF3 ⟨(dst : Nat), (src : Nat), false, 0, 0, (ty : Nat), s.extract 14 (s.size - 4)⟩ := by
      unfold getF2
      rw [HK.out.1, HK.out.2.1, HK.out.2.2, if_neg htag]
    have HR0 := Lib.hid hres0; clear hres0
    have htag' : ¬ ((ty : Int) = 33024) := by omega
    go_wp2_with fail
    refine (get_impl c 12 2 _ hcs (by decide) (by decide) (by decide) (by have := HC.out; omega)).mono ?_
    rintro e w1 ⟨rfl, rfl⟩
    rw [show (12 : Int).toNat = 12 from rfl, show (2 : Int).toNat = 2 from rfl, G.out.2.2.1, HK.out.2.2]
    go_wp2_with fail
    refine (type_impl (ty : Int) _).mono ?_
    rintro e w1 ⟨rfl, rfl⟩
    by_cases hto : typeOk (ty : Int)
    case neg =>
      rw [decide_eq_false hto]
      have hres : getF2 s = (Fr.zero, 5) := by
        rw [HR0.out]
        unfold getF3
        rw [if_pos hto]
      have HRES := Lib.hid hres; clear hres hto
      go_wp2_with fail
      go_step3
      exact ⟨rfl, 5, _, _, _, _, _, _, _, _, _, _, _, _, _, _, _, _, _, _, _, _, _, _, _, _, _, _, _, _, _, _, _, _, _, _, _, _, _, _, _, _, _, _, _, _, _, _, _, _, _, _, _, _, _, _, _, _, _, _, _, _, _, _, _, _, _, _, _, _, _, _, rfl, frBlk_new w _ _ _ _ _ _ _, (Below.refl _ _).alloc (Nat.le_refl _) _, HRES.out⟩
    rw [decide_eq_true hto]
    have HT := Lib.hid hto; clear hto
    go_wp2_with fail
    refine (group_impl (src : Int) _).mono ?_
    rintro e w1 ⟨rfl, rfl⟩
    by_cases hgr : isGrp (src : Int)
    case pos =>
      rw [decide_eq_true hgr]
      have hres : getF2 s = (Fr.zero, 6) := by
        rw [HR0.out]
        unfold getF3
        rw [if_neg (fun h => h HT.out), if_pos hgr]
      have HRES := Lib.hid hres; clear hres hgr
      go_wp2_with fail
      go_step3
      exact ⟨rfl, 6, _, _, _, _, _, _, _, _, _, _, _, _, _, _, _, _, _, _, _, _, _, _, _, _, _, _, _, _, _, _, _, _, _, _, _, _, _, _, _, _, _, _, _, _, _, _, _, _, _, _, _, _, _, _, _, _, _, _, _, _, _, _, _, _, _, _, _, _, _, _, rfl, frBlk_new w _ _ _ _ _ _ _, (Below.refl _ _).alloc (Nat.le_refl _) _, HRES.out⟩
    rw [decide_eq_false hgr]
    have HG := Lib.hid hgr; clear hgr
    by_cases hbig : 1500 < (s.extract 14 (s.size - 4)).size
    case pos =>
      have hres : getF2 s = (Fr.zero, 2) := by
        rw [HR0.out]
        unfold getF3
        rw [if_neg (fun h => h HT.out), if_neg HG.out, if_pos hbig]
      have hb' : 1500 < ((c.size - 14 : Nat) : Int) := by rw [ByteArray.size_extract] at hbig; have := HC.out; omega
      have HRES := Lib.hid hres; clear hres hbig
      go_wp2_with fail
      go_step3
      exact ⟨rfl, 2, _, _, _, _, _, _, _, _, _, _, _, _, _, _, _, _, _, _, _, _, _, _, _, _, _, _, _, _, _, _, _, _, _, _, _, _, _, _, _, _, _, _, _, _, _, _, _, _, _, _, _, _, _, _, _, _, _, _, _, _, _, _, _, _, _, _, _, _, _, _, rfl, frBlk_new w _ _ _ _ _ _ _, (Below.refl _ _).alloc (Nat.le_refl _) _, HRES.out⟩
    have hres : getF2 s = (⟨(dst : Nat), (src : Nat), false, 0, 0, (ty : Nat), s.extract 14 (s.size - 4)⟩, 0) := by
      rw [HR0.out]
      unfold getF3
      rw [if_neg (fun h => h HT.out), if_neg HG.out, if_neg hbig]
    have hb' : ¬ (1500 < ((c.size - 14 : Nat) : Int)) := by rw [ByteArray.size_extract] at hbig; have := HC.out; omega
    have HRES := Lib.hid hres; clear hres hbig
    go_wp2_with fail
    simp only [Exit.jump]
    rw [HRES.out, ← G.out.2.2.2.2.2.1]
    exact got_ret' rfl rfl rfl (frBlk_new w _ _ _ _ _ _ _) ((Below.refl _ _).alloc (Nat.le_refl _) _)
end Go.Proofs.Ytiajeialcmcppaa
