/- FnFrame: a frame comes back from its bytes; with a bit of these turned there is none. -/
import Derived.Test.YtiajeialcmcppaaFrM
import Derived.Test.YtiajeialcmcppaaFrL
import Derived.Test.YtiajeialcmcppaaDrawFr2
import Derived.Test.YtiajeialcmcppaaPutFrI
import Derived.Test.YtiajeialcmcppaaAt
import Derived.Test.YtiajeialcmcppaaBig
import Derived.Deep.RegionHeld3
namespace Go.Proofs.Ytiajeialcmcppaa
open Go.RowKit

theorem bel_alloc {a w : World} (h : Below a.heap.size a w) (o : Obj) : Below a.heap.size a (w.alloc o) := h.alloc h.size o

theorem bel_alloc' {a w : World} (h : Below a.heap.size a w) (o : Obj) : Below a.heap.size a (w.alloc o).drew := (h.alloc h.size o).drew
theorem bel_allocD {a w : World} (h : Below a.heap.size a w.drew) (o : Obj) : Below a.heap.size a (w.alloc o).drew := ((show Below a.heap.size a w from ⟨h.os, h.tape, h.output, h.size, h.block⟩).alloc h.size o).drew
theorem bel_put {a w : World} {b : Nat} (h : Below a.heap.size a w) (hb : a.heap.size ≤ b) :
    Below a.heap.size a (((((((w.setCell ⟨b, 0, none⟩ (.int .i64 0)).setCell ⟨b, 1, none⟩ (.int .i64 0)).setCell ⟨b, 2, none⟩ (.bool false)).setCell ⟨b, 3, none⟩ (.int .i64 0)).setCell ⟨b, 4, none⟩ (.int .i64 0)).setCell ⟨b, 5, none⟩ (.int .i64 0)).setCell ⟨b, 6, none⟩ (.string ⟨#[]⟩)) := below_put (f := Fr.zero) h hb
theorem bel_put' {a w : World} {b : Nat} (h : Below a.heap.size a w) (hb : a.heap.size ≤ b) :
    Below a.heap.size a (((((((w.setCell ⟨b, 0, none⟩ (.int .i64 0)).setCell ⟨b, 1, none⟩ (.int .i64 0)).setCell ⟨b, 2, none⟩ (.bool false)).setCell ⟨b, 3, none⟩ (.int .i64 0)).setCell ⟨b, 4, none⟩ (.int .i64 0)).setCell ⟨b, 5, none⟩ (.int .i64 0)).setCell ⟨b, 6, none⟩ (.string ⟨#[]⟩)).drew := (below_put (f := Fr.zero) h hb).drew

/-- one bit of a byte turned -/
theorem turn_byte (x : UInt8) (k : Nat) (hk : k < 8) : ∃ y : UInt8, bits .xor .u8 (x.toNat : Int) (IntKind.u8.wrap (2 ^ k)) = ((y.toNat : Nat) : Int) ∧ x ≠ y := by
  have hx : x.toNat < 256 := x.toNat_lt
  have h2 : 2 ^ k < 2 ^ 8 := Nat.pow_lt_pow_right (by decide) hk
  have hw : IntKind.u8.wrap (2 ^ k) = ((2 ^ k : Nat) : Int) := by
    rw [IntKind.wrap_u8']
    have : (2 : Int) ^ k = ((2 ^ k : Nat) : Int) := by simp
    rw [this]
    generalize 2 ^ k = p at h2
    omega
  have hy : x.toNat ^^^ 2 ^ k < 256 := Nat.xor_lt_two_pow (n := 8) hx h2
  refine ⟨UInt8.ofNat (x.toNat ^^^ 2 ^ k), ?_, ?_⟩
  · rw [hw, u8_xor_nat _ _ hx (by omega), UInt8.toNat_ofNat']
    congr 1
    omega
  · intro h
    have e := congrArg UInt8.toNat h
    rw [UInt8.toNat_ofNat', Nat.mod_eq_of_lt (by omega)] at e
    have e2 := congrArg (x.toNat ^^^ ·) e
    simp only [Nat.xor_self, ← Nat.xor_assoc, Nat.zero_xor] at e2
    have := Nat.two_pow_pos k
    omega

/-- what GetFrame answers where one byte is another -/
theorem turned_get (s : ByteArray) (i : Nat) (hi : i < s.size) (y : UInt8) (hne : (s[i]'hi) ≠ y) (hs : s.size ≤ 1000000)
    (h : ∀ (p q : List UInt8) (x y : UInt8) (t : ByteArray), s.data.toList = p ++ x :: q → t.data.toList = p ++ y :: q → x ≠ y → getF t = (Fr.zero, 3)) (w : World) :
    Calls Try.prog 13 #[.string (s.extract 0 i ++ ({ data := #[y] } : ByteArray) ++ s.extract (i + 1) s.size)] w fun e w' => e = .returned (.tuple #[.agg #[.int .i64 0, .int .i64 0, .bool false, .int .i64 0, .int .i64 0, .int .i64 0, .string ⟨#[]⟩], .int .i64 3]) ∧ Below w.heap.size w w' := by
  have hl : s.data.toList.length = s.size := by rw [Array.length_toList]; rfl
  have e1 : s.data.toList = s.data.toList.take i ++ (s[i]'hi) :: s.data.toList.drop (i + 1) := by
    have e : (s[i]'hi) = s.data.toList[i]'(by omega) := by rw [Array.getElem_toList]; rfl
    rw [e, List.getElem_cons_drop, List.take_append_drop]
  have e2 : (s.extract 0 i ++ ({ data := #[y] } : ByteArray) ++ s.extract (i + 1) s.size).data.toList = s.data.toList.take i ++ y :: s.data.toList.drop (i + 1) := by
    simp only [ByteArray.data_append, Array.toList_append, ByteArray.data_extract, Array.toList_extract, List.extract, List.drop_zero, Nat.sub_zero]
    rw [List.take_of_length_le (l := s.data.toList.drop (i + 1)) (by rw [List.length_drop]; omega)]
    simp
  have hg := h _ _ _ _ _ e1 e2 hne
  have hsz : (s.extract 0 i ++ ({ data := #[y] } : ByteArray) ++ s.extract (i + 1) s.size).size ≤ 1048576 := by
    have e : (s.extract 0 i ++ ({ data := #[y] } : ByteArray) ++ s.extract (i + 1) s.size).size = (s.extract 0 i ++ ({ data := #[y] } : ByteArray) ++ s.extract (i + 1) s.size).data.toList.length := by rw [Array.length_toList]; rfl
    rw [e, e2]
    simp only [List.length_append, List.length_cons, List.length_take, List.length_drop]
    omega
  have hc := getFrame_impl (s.extract 0 i ++ ({ data := #[y] } : ByteArray) ++ s.extract (i + 1) s.size) w hsz
  rw [hg] at hc
  exact hc

/-- 'string([]byte{y})', the slice in the newest block -/
theorem run_one (wx : World) (y : UInt8) :
    ((convert 22 9 (.slice (some ⟨wx.heap.size, 0, none⟩) 1 1)).run Try.prog (wx.alloc (.cells #[.int .u8 ((y.toNat : Nat) : Int)] 5)) = .ok (.string ⟨#[y]⟩) (wx.alloc (.cells #[.int .u8 ((y.toNat : Nat) : Int)] 5))) ∧
    ((convert 22 9 (.slice (some ⟨wx.heap.size, 0, none⟩) 1 1)).run Try.prog (wx.alloc (.cells #[.int .u8 ((y.toNat : Nat) : Int)] 5)).drew = .ok (.string ⟨#[y]⟩) (wx.alloc (.cells #[.int .u8 ((y.toNat : Nat) : Int)] 5)).drew) ∧
    (∀ o, (convert 22 9 (.slice (some ⟨wx.heap.size, 0, none⟩) 1 1)).run Try.prog ((wx.alloc (.cells #[.int .u8 ((y.toNat : Nat) : Int)] 5)).alloc o) = .ok (.string ⟨#[y]⟩) ((wx.alloc (.cells #[.int .u8 ((y.toNat : Nat) : Int)] 5)).alloc o)) ∧
    (∀ o, (convert 22 9 (.slice (some ⟨wx.heap.size, 0, none⟩) 1 1)).run Try.prog ((wx.alloc (.cells #[.int .u8 ((y.toNat : Nat) : Int)] 5)).alloc o).drew = .ok (.string ⟨#[y]⟩) ((wx.alloc (.cells #[.int .u8 ((y.toNat : Nat) : Int)] 5)).alloc o).drew) := by
  have h1 : ByteAt (wx.alloc (.cells #[.int .u8 ((y.toNat : Nat) : Int)] 5)) wx.heap.size [y] := by
    intro j hj
    rw [World.cell?_alloc_at (hn := rfl)]
    match j, hj with
    | 0, _ => rfl
  have hlt : wx.heap.size < (wx.alloc (.cells #[.int .u8 ((y.toNat : Nat) : Int)] 5)).heap.size := by simp
  have h2 : ByteAt (wx.alloc (.cells #[.int .u8 ((y.toNat : Nat) : Int)] 5)).drew wx.heap.size [y] := h1.same rfl
  have h3 : ∀ o, ByteAt ((wx.alloc (.cells #[.int .u8 ((y.toNat : Nat) : Int)] 5)).alloc o) wx.heap.size [y] := fun o => h1.same (Below.heap_alloc _ o _ hlt)
  have h4 : ∀ o, ByteAt ((wx.alloc (.cells #[.int .u8 ((y.toNat : Nat) : Int)] 5)).alloc o).drew wx.heap.size [y] := fun o => (h3 o).same rfl
  exact ⟨run_string_at (cap := 1) h1, run_string_at (cap := 1) h2, fun o => run_string_at (cap := 1) (h3 o), fun o => run_string_at (cap := 1) (h4 o)⟩

theorem run_one' (w : World) (o : Obj) (y : UInt8) : (convert 22 9 (.slice (some ⟨w.heap.size + 1, 0, none⟩) 1 1)).run Try.prog ((w.alloc o).alloc (.cells #[.int .u8 ((y.toNat : Nat) : Int)] 5)).drew = .ok (.string ⟨#[y]⟩) ((w.alloc o).alloc (.cells #[.int .u8 ((y.toNat : Nat) : Int)] 5)).drew := by
  have h := (run_one (w.alloc o) y).2.1
  have e : (w.alloc o).heap.size = w.heap.size + 1 := by simp
  rw [e] at h
  exact h

/-- .. behind a frame's block -/
theorem turned_get1 {s : ByteArray} {i : Nat} {y : UInt8} (h : ∀ w, Calls Try.prog 13 #[.string (s.extract 0 i ++ ({ data := #[y] } : ByteArray) ++ s.extract (i + 1) s.size)] w fun e w' => e = .returned (.tuple #[.agg #[.int .i64 0, .int .i64 0, .bool false, .int .i64 0, .int .i64 0, .int .i64 0, .string ⟨#[]⟩], .int .i64 3]) ∧ Below w.heap.size w w') (w : World) :
    Calls Try.prog 13 #[.string (s.extract 0 i ++ ({ data := #[y] } : ByteArray) ++ s.extract (i + 1) s.size)] ((w.alloc (.cells #[.int .i64 0, .int .i64 0, .bool false, .int .i64 0, .int .i64 0, .int .i64 0, .string ⟨#[]⟩] 25)).alloc (.cells #[.int .u8 ((y.toNat : Nat) : Int)] 5)).drew fun e w' => e = .returned (.tuple #[.agg #[.int .i64 0, .int .i64 0, .bool false, .int .i64 0, .int .i64 0, .int .i64 0, .string ⟨#[]⟩], .int .i64 3]) ∧ Below w.heap.size w w' ∧ (∀ j, w'.frozen? ⟨w.heap.size, j, none⟩ = false) ∧ w'.shape? (w.heap.size) = some (25, 7) ∧ w'.cell? ⟨w.heap.size, 0, none⟩ = some (.int .i64 0) ∧ w'.cell? ⟨w.heap.size, 1, none⟩ = some (.int .i64 0) ∧ w'.cell? ⟨w.heap.size, 2, none⟩ = some (.bool false) ∧ w'.cell? ⟨w.heap.size, 3, none⟩ = some (.int .i64 0) ∧ w'.cell? ⟨w.heap.size, 4, none⟩ = some (.int .i64 0) ∧ w'.cell? ⟨w.heap.size, 5, none⟩ = some (.int .i64 0) ∧ w'.cell? ⟨w.heap.size, 6, none⟩ = some (.string ⟨#[]⟩) := by
  refine (h _).mono ?_
  rintro e w' ⟨rfl, hb⟩
  have hF : FrBlk ((w.alloc (.cells #[.int .i64 0, .int .i64 0, .bool false, .int .i64 0, .int .i64 0, .int .i64 0, .string ⟨#[]⟩] 25)).alloc (.cells #[.int .u8 ((y.toNat : Nat) : Int)] 5)).drew w.heap.size Fr.zero := (frBlk_new w 0 0 false 0 0 0 ⟨#[]⟩).alloc _
  obtain ⟨a, b, c⟩ := (hF.below hb hF.lt).facts
  exact ⟨rfl, carry_below (bel_alloc (bel_alloc (Below.refl _ _) _) _).drew hb, a, b, c⟩
theorem turned_get2 {s : ByteArray} {i : Nat} {y : UInt8} (h : ∀ w, Calls Try.prog 13 #[.string (s.extract 0 i ++ ({ data := #[y] } : ByteArray) ++ s.extract (i + 1) s.size)] w fun e w' => e = .returned (.tuple #[.agg #[.int .i64 0, .int .i64 0, .bool false, .int .i64 0, .int .i64 0, .int .i64 0, .string ⟨#[]⟩], .int .i64 3]) ∧ Below w.heap.size w w') (w : World) :
    Calls Try.prog 13 #[.string (s.extract 0 i ++ ({ data := #[y] } : ByteArray) ++ s.extract (i + 1) s.size)] ((w.alloc (.cells #[.int .u8 ((y.toNat : Nat) : Int)] 5)).alloc (.cells #[.int .i64 0, .int .i64 0, .bool false, .int .i64 0, .int .i64 0, .int .i64 0, .string ⟨#[]⟩] 25)).drew fun e w' => e = .returned (.tuple #[.agg #[.int .i64 0, .int .i64 0, .bool false, .int .i64 0, .int .i64 0, .int .i64 0, .string ⟨#[]⟩], .int .i64 3]) ∧ Below w.heap.size w w' ∧ (∀ j, w'.frozen? ⟨w.heap.size + 1, j, none⟩ = false) ∧ w'.shape? (w.heap.size + 1) = some (25, 7) ∧ w'.cell? ⟨w.heap.size + 1, 0, none⟩ = some (.int .i64 0) ∧ w'.cell? ⟨w.heap.size + 1, 1, none⟩ = some (.int .i64 0) ∧ w'.cell? ⟨w.heap.size + 1, 2, none⟩ = some (.bool false) ∧ w'.cell? ⟨w.heap.size + 1, 3, none⟩ = some (.int .i64 0) ∧ w'.cell? ⟨w.heap.size + 1, 4, none⟩ = some (.int .i64 0) ∧ w'.cell? ⟨w.heap.size + 1, 5, none⟩ = some (.int .i64 0) ∧ w'.cell? ⟨w.heap.size + 1, 6, none⟩ = some (.string ⟨#[]⟩) := by
  refine (h _).mono ?_
  rintro e w' ⟨rfl, hb⟩
  have h0 := frBlk_new (w.alloc (.cells #[.int .u8 ((y.toNat : Nat) : Int)] 5)) 0 0 false 0 0 0 ⟨#[]⟩
  rw [show (w.alloc (.cells #[.int .u8 ((y.toNat : Nat) : Int)] 5)).heap.size = w.heap.size + 1 by simp] at h0
  have hF : FrBlk ((w.alloc (.cells #[.int .u8 ((y.toNat : Nat) : Int)] 5)).alloc (.cells #[.int .i64 0, .int .i64 0, .bool false, .int .i64 0, .int .i64 0, .int .i64 0, .string ⟨#[]⟩] 25)).drew (w.heap.size + 1) Fr.zero := h0
  obtain ⟨a, b, c⟩ := (hF.below hb hF.lt).facts
  exact ⟨rfl, carry_below (bel_alloc (bel_alloc (Below.refl _ _) _) _).drew hb, a, b, c⟩

theorem turned_get3 {s : ByteArray} {i : Nat} {y : UInt8} (h : ∀ w, Calls Try.prog 13 #[.string (s.extract 0 i ++ ({ data := #[y] } : ByteArray) ++ s.extract (i + 1) s.size)] w fun e w' => e = .returned (.tuple #[.agg #[.int .i64 0, .int .i64 0, .bool false, .int .i64 0, .int .i64 0, .int .i64 0, .string ⟨#[]⟩], .int .i64 3]) ∧ Below w.heap.size w w') (w : World) :
    Calls Try.prog 13 #[.string (s.extract 0 i ++ ({ data := #[y] } : ByteArray) ++ s.extract (i + 1) s.size)] (w.alloc (.cells #[.int .u8 ((y.toNat : Nat) : Int)] 5)).drew fun e w' => e = .returned (.tuple #[.agg #[.int .i64 0, .int .i64 0, .bool false, .int .i64 0, .int .i64 0, .int .i64 0, .string ⟨#[]⟩], .int .i64 3]) ∧ Below w.heap.size w w' := by
  refine (h _).mono ?_
  rintro e w' ⟨rfl, hb⟩
  exact ⟨rfl, carry_below (bel_alloc (Below.refl _ _) _).drew hb⟩

set_option maxHeartbeats 2000000 in
theorem walk_FnFrame (a : Option Addr) (len cap : Nat) (zs : List Int) (w : World) (hrow : IsRow .u8 w a len cap zs) :
    Calls Try.prog 3 #[.slice a len cap] w fun e w' => e = .returned (.bool true) ∧ Below w.heap.size w w' := by
  have hlow := hrow.low
  have hmax : len ≤ 9223372036854775807 := by
    rcases hrow with ⟨_, rfl, _⟩ | ⟨_, _, h1, h2, _⟩
    · omega
    · unfold maxLen at h2; omega
  by_cases hl : len ≤ 1048576
  case neg =>
    go_enter Try.func3, Try.ntmps3
    go_wp2_with fail
    refine (big_yes a len cap w (by omega)).mono ?_
    rintro e w' ⟨rfl, rfl⟩
    go_wp2_with fail
    go_ret
    exact ⟨rfl, Below.refl _ _⟩
  go_enter Try.func3, Try.ntmps3
  go_wp2_with fail
  refine (big_no a len cap w hl).mono ?_
  rintro e w' ⟨rfl, rfl⟩
  go_wp2_with fail
  refine (drawPutFrame_any w a len cap zs hl hrow hlow).mono ?_
  rintro e w1 ⟨f, rfl, hbs, hb1⟩
  have hS := frameOk_spec f (by omega)
  have hI := frameOk_impl f (by omega)
  have hcs : ∀ w2, Below (w1.alloc (.cells #[.int .i64 f.dst, .int .i64 f.src, .bool f.tagged, .int .i64 f.vid, .int .i64 f.pri, .int .i64 f.type, .string f.body] 25)).heap.size (w1.alloc (.cells #[.int .i64 f.dst, .int .i64 f.src, .bool f.tagged, .int .i64 f.vid, .int .i64 f.pri, .int .i64 f.type, .string f.body] 25)) w2 → _ := fun w2 h => cells7 h
  have hbw : Below w.heap.size w (w1.alloc (.cells #[.int .i64 f.dst, .int .i64 f.src, .bool f.tagged, .int .i64 f.vid, .int .i64 f.pri, .int .i64 f.type, .string f.body] 25)) := hb1.alloc hb1.size _
  by_cases hok : frOk f
  case neg =>
    have hP := putFrame_impl_no f hok (by omega)
    rw [decide_eq_false hok] at hS hI
    clear hok hbs
    obtain ⟨dst, src, tagged, vid, pri, type, body⟩ := f
    unfold Fr.val at *
    simp only at hS hI hP hcs hbw ⊢
    have HS := Lib.hid hS; have HI := Lib.hid hI; have HP := Lib.hid hP; have HCS := Lib.hid hcs; have HBW := Lib.hid hbw; have HROW := Lib.hid hrow
    clear hS hI hP hcs hbw hrow hlow hb1
    go_wp2_with fail
    refine (HP.out _).mono ?_
    rintro e w2 ⟨rfl, hb2⟩
    obtain ⟨k0, k1, k2, k3, k4, k5, k6⟩ := HCS.out w2 hb2
    go_wp2_with fail
    refine (HS.out _).mono ?_
    rintro e w3 ⟨rfl, hb3⟩
    clear k0 k1 k2 k3 k4 k5 k6
    have hb23 := hb2.trans (hb3.mono hb2.size)
    obtain ⟨k0, k1, k2, k3, k4, k5, k6⟩ := HCS.out w3 hb23
    go_wp2_with fail
    refine (HI.out _).mono ?_
    rintro e w4 ⟨rfl, hb4⟩
    have hfin := HBW.out.trans ((hb23.trans (hb4.mono hb23.size)).mono HBW.out.size)
    clear k0 k1 k2 k3 k4 k5 k6 hb2 hb3 hb4 hb23
    go_wp2_with fail
    go_ret
    exact ⟨rfl, hfin⟩
  have hP := putFrame_impl f hok
  rw [decide_eq_true hok] at hS hI
  obtain ⟨s, hs⟩ : ∃ s : ByteArray, (⟨(frL f).toArray⟩ : ByteArray) = s := ⟨_, rfl⟩
  rw [hs] at hP
  have hsl : s.data.toList = frL f := by rw [← hs]
  have hback := frame_back f hok s hsl
  have hsz : s.size = (frL f).length := by rw [← hsl, Array.length_toList]; rfl
  rw [frL_len] at hsz
  have hs18 : 18 ≤ s.size := by split at hsz <;> omega
  have hs1 : s.size ≤ 3000 := by split at hsz <;> omega
  have hG := fun w => getFrame_impl s w (by omega)
  rw [hback] at hG
  have hturn : ∀ (p q : List UInt8) (x y : UInt8) (t : ByteArray), s.data.toList = p ++ x :: q → t.data.toList = p ++ y :: q → x ≠ y → getF t = (Fr.zero, 3) := fun p q x y t h1 h2 h3 => turned_sum f hok t p q x y (hsl ▸ h1) h2 h3
  clear hok hbs hback hsl hsz hs hI
  obtain ⟨dst, src, tagged, vid, pri, type, body⟩ := f
  unfold GotF at *
  unfold Fr.val at *
  simp only at hS hP hcs hbw hG ⊢
  have HS := Lib.hid hS; have HP := Lib.hid hP; have HCS := Lib.hid hcs; have HBW := Lib.hid hbw; have HROW := Lib.hid hrow; have HG := Lib.hid hG; have HT := Lib.hid hturn
  clear hS hP hcs hbw hrow hG hturn
  go_wp2_with fail
  refine (HP.out _).mono ?_
  rintro e w2 ⟨rfl, hb2⟩
  obtain ⟨k0, k1, k2, k3, k4, k5, k6⟩ := HCS.out w2 hb2
  go_wp2_with fail
  refine (HS.out _).mono ?_
  rintro e w3 ⟨rfl, hb3⟩
  clear k0 k1 k2 k3 k4 k5 k6
  have hb23 := hb2.trans (hb3.mono hb2.size)
  go_wp2_with fail
  refine (HG.out _).mono ?_
  rintro e w4 ⟨rfl, hb4⟩
  have hb24 := hb23.trans (hb4.mono hb23.size)
  obtain ⟨k0, k1, k2, k3, k4, k5, k6⟩ := HCS.out w4 hb24
  clear hb2 hb3 hb4 hb23
  simp only
  have hlt : w1.heap.size < w4.heap.size := by have := hb24.size; simp at this; omega
  have p0 := fun o => (((Below.refl w4.heap.size w4).alloc (Nat.le_refl _) o).cell (p := ⟨w1.heap.size, 0, none⟩) hlt).trans k0
  have p1 := fun o => (((Below.refl w4.heap.size w4).alloc (Nat.le_refl _) o).cell (p := ⟨w1.heap.size, 1, none⟩) hlt).trans k1
  have p2 := fun o => (((Below.refl w4.heap.size w4).alloc (Nat.le_refl _) o).cell (p := ⟨w1.heap.size, 2, none⟩) hlt).trans k2
  have p3 := fun o => (((Below.refl w4.heap.size w4).alloc (Nat.le_refl _) o).cell (p := ⟨w1.heap.size, 3, none⟩) hlt).trans k3
  have p4 := fun o => (((Below.refl w4.heap.size w4).alloc (Nat.le_refl _) o).cell (p := ⟨w1.heap.size, 4, none⟩) hlt).trans k4
  have p5 := fun o => (((Below.refl w4.heap.size w4).alloc (Nat.le_refl _) o).cell (p := ⟨w1.heap.size, 5, none⟩) hlt).trans k5
  have p6 := fun o => (((Below.refl w4.heap.size w4).alloc (Nat.le_refl _) o).cell (p := ⟨w1.heap.size, 6, none⟩) hlt).trans k6
  have hbw4 := HBW.out.trans (hb24.mono HBW.out.size)
  have HB4 := Lib.hid hbw4
  clear k0 k1 k2 k3 k4 k5 k6 hlt hb24 hb1 hbw4
  go_wp2_with fail
  clear p0 p1 p2 p3 p4 p5 p6
  have hb5 := HB4.out.alloc HB4.out.size (.cells #[.int .i64 dst, .int .i64 src, .bool tagged, .int .i64 vid, .int .i64 pri, .int .i64 type, .string body] 25)
  generalize w4.alloc (.cells #[.int .i64 dst, .int .i64 src, .bool tagged, .int .i64 vid, .int .i64 pri, .int .i64 type, .string body] 25) = w5 at hb5 ⊢
  have hrow5 := HROW.out.below hlow hb5
  have HR5 := Lib.hid hrow5; have HB5 := Lib.hid hb5
  clear hrow5 hb5 HCS HS HP HG HBW HB4 hlow
  refine (at_any w5 a len cap 0 zs hl (by decide) HR5.out).mono ?_
  rintro e w' ⟨x0, rfl, hx0, rfl⟩
  go_wp2_with fail
  refine (at_any w5 a len cap 1 zs hl (by decide) HR5.out).mono ?_
  rintro e w' ⟨x1, rfl, hx1, rfl⟩
  go_wp2_with fail
  obtain ⟨i, hi⟩ : ∃ i : Nat, ((x0 : Int) * 256 + (x1 : Int)) % (s.size : Int) = i := ⟨_, (Int.toNat_of_nonneg (Int.emod_nonneg _ (by omega))).symm⟩
  have hil : i < s.size := by have := Int.emod_lt_of_pos ((x0 : Int) * 256 + (x1 : Int)) (show (0 : Int) < s.size by omega); omega
  rw [hi]
  clear hi
  have hA2 : ∀ w', Below w5.heap.size w5 w' → Calls Try.prog 14 #[.slice a len cap, .int .i64 2] w' fun e w'' => e = .returned (.int .i64 (atF len zs 2 : Nat)) ∧ w' = w'' :=
    fun w' h => at_fun w' a len cap 2 zs hl (by decide) (HR5.out.below HR5.out.low h)
  have hx2 := atF_lt len zs 2 w5 a cap HR5.out
  generalize atF len zs 2 = x2 at hA2 hx2
  have HA2 := Lib.hid hA2
  clear hA2 hx0 hx1
  have hB := Below.refl w5.heap.size w5
  have i0 : (0 : Int) ≤ (i : Int) := by omega
  have i1 : (i : Int) < (s.size : Int) := by omega
  have i2 : (i : Int) ≤ (s.size : Int) := by omega
  have i3 : IntKind.i64.wrap ((i : Int) + 1) = (i : Int) + 1 := IntWalk.i64_in _ (by omega)
  have i4 : (0 : Int) ≤ (i : Int) + 1 := by omega
  have i5 : (i : Int) + 1 ≤ (s.size : Int) := by omega
  have i6 : ((i : Int) + 1).toNat = i + 1 := by omega
  obtain ⟨k, hk, hk8⟩ : ∃ k : Nat, (x2 : Int).tmod 8 = (k : Int) ∧ k < 8 := ⟨x2 % 8, rfl, Nat.mod_lt _ (by decide)⟩
  have k1 : IntKind.u64.wrap (k : Int) = (k : Int) := by simp [IntKind.wrap, IntKind.bits, IntKind.signed]; omega
  have k2 : min k 8 = k := by omega
  obtain ⟨y, hy, hne⟩ : ∃ y : UInt8, bits .xor .u8 ((s[i]'hil).toNat : Int) (IntKind.u8.wrap (2 ^ k)) = ((y.toNat : Nat) : Int) ∧ (s[i]'hil) ≠ y := turn_byte (s[i]'hil) k hk8
  have hG2 := turned_get s i hil y hne (by omega) HT.out
  have HG2 := Lib.hid hG2
  have HGA := Lib.hid (turned_get1 hG2 w5)
  have HGB := Lib.hid (turned_get2 hG2 w5)
  have HGC := Lib.hid (turned_get3 hG2 w5)
  have hcv1 := fun wx => (run_one wx y).1
  have hcv2 := fun wx => (run_one wx y).2.1
  have hcv3 := fun wx o => (run_one wx y).2.2.1 o
  have hcv4 := fun wx o => (run_one wx y).2.2.2 o
  have hcv5 := fun o => run_one' w5 o y
  clear hk8 hne hG2 hx2 HT HROW hs18 hmax
  have hsum1 : ¬ 9223372036854775807 < i + 1 := by omega
  have hsum2 : ¬ 9223372036854775807 < min i s.size + 1 := by omega
  have hsum3 : ¬ 9223372036854775807 < i + 1 + (s.size - (i + 1)) := by omega
  have hsum4 : ¬ 9223372036854775807 < min i s.size + 1 + (s.size - (i + 1)) := by omega
  go_region_with (first | (go_at_call 14; refine (HA2.out _ ?_).mono ?_; (first | exact hB.drew | exact (bel_alloc hB _).drew); rintro e w6 ⟨rfl, rfl⟩) | (go_at_call 13; (with_reducible refine (Hid.out HGA).mono ?_); rintro e w6 ⟨rfl, hB6, zfz, zsh, d0, d1, d2, d3, d4, d5, d6⟩) | (go_at_call 13; (with_reducible refine (Hid.out HGB).mono ?_); rintro e w6 ⟨rfl, hB6, zfz, zsh, d0, d1, d2, d3, d4, d5, d6⟩) | (go_at_call 13; (with_reducible refine (Hid.out HGC).mono ?_); rintro e w6 ⟨rfl, hB6⟩))
  all_goals
    go_wp2_with fail
    go_ret
    refine ⟨rfl, HB5.out.trans (Below.mono (B := w5.heap.size) ?_ HB5.out.size)⟩
    first | (with_reducible exact hB6) | (with_reducible exact bel_alloc hB6 _) | (with_reducible refine bel_put hB6 ?_ <;> simp) | (with_reducible exact bel_alloc' hB6 _) | (with_reducible refine bel_put' hB6 ?_ <;> simp)
end Go.Proofs.Ytiajeialcmcppaa
