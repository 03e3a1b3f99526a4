/- appendSum and sumOk of the program. -/
import Derived.Test.YtiajeialcmcppaaByt
import Derived.Test.YtiajeialcmcppaaCrcI
import Derived.Test.YtiajeialcmcppaaPutFrS
namespace Go.Proofs.Ytiajeialcmcppaa
open Go.RowKit

theorem below_setCells {B b : Nat} (hB : B ≤ b) : ∀ (vs : List Value) (o : Nat) {a w : World}, Below B a w → Below B a (w.setCells b o vs)
  | [], _, _, _, h => h
  | v :: r, o, _, _, h => below_setCells hB r (o + 1) (h.setCell (p := ⟨b, o, none⟩) hB v)

theorem byteAt_setCells {w : World} {g cap : Nat} {l s : List UInt8} (h : ByteAt w g l) (hf : FreeAt w g cap) (hc : l.length + s.length ≤ cap) : ByteAt (w.setCells g l.length (byteVals s)) g (l ++ s) := by
  intro j hj
  rw [List.length_append] at hj
  by_cases hjl : j < l.length
  · rw [World.cell?_setCells_out g _ _ _ _ (fun _ _ => .inl hjl), List.getElem_append_left hjl]
    exact h j hjl
  · obtain ⟨i, rfl⟩ : ∃ i, j = l.length + i := ⟨j - l.length, by omega⟩
    have hi : i < s.length := by omega
    have e := World.cell?_setCells_in g (byteVals s) l.length w (fun k hk => (hf _ (by rw [byteVals_length] at hk; omega)).1) i (by rw [byteVals_length]; exact hi)
    rw [List.getElem_append_right (by omega)]
    simp only [Nat.add_sub_cancel_left]
    rw [e]
    simp [byteVals]

/-- a row of bytes that the call owns, and that isn't empty, has an address -/
theorem owned_at {w : World} {base n : Nat} {v : Value} {l : List UInt8} (h : w.ownsRow base 5 1 v n (byteVals l)) (hn : 0 < n) : ∃ g cap, v = .slice (some ⟨g, 0, none⟩) n cap ∧ base ≤ g ∧ ByteAt w g l := by
  rcases h.2 with ⟨rfl, h0⟩ | ⟨g, cap, cur, rfl, hb, hg, hnc, hcm, hcs, htake⟩
  · omega
  · exact ⟨g, cap, rfl, hb, byteAt_of_list fun j u hu => by have e := World.ownsRow.cells h (g := g) rfl j u hu; rwa [Addr.add_lit, Nat.zero_add] at e⟩

def SumRet (B : Nat) (l : List UInt8) (w : World) (e : Ending) (w' : World) : Prop :=
  ∃ g' cap', e = .returned (.slice (some ⟨g', 0, none⟩) (l.length + 4) cap') ∧ ByteAt w' g' (l ++ sumL l) ∧ Below B w w'

theorem appendSum_any (w : World) (B g cap : Nat) (l : List UInt8) (hl : l.length ≤ 1048576) (h : ByteAt w g l) (hf : FreeAt w g cap) (hB : B ≤ w.heap.size) (hBg : l.length + 4 ≤ cap → B ≤ g) (hg : g < w.heap.size) :
    Calls Try.prog 24 #[.slice (some ⟨g, 0, none⟩) l.length cap] w (SumRet B l w) := by
  obtain ⟨i0, hi, hz0, hz1, hz2⟩ := info_parts info5
  have hcv1 := run_string_at (cap := cap) h
  go_enter Try.func24, Try.ntmps24
  go_wp2_with fail
  refine (crc_impl ⟨l.toArray⟩ w (by show l.toArray.size ≤ _; simp; omega)).mono ?_
  rintro e w0 ⟨rfl, rfl⟩
  rw [show ({ data := l.toArray } : ByteArray).data.toList = l from rfl]
  go_wp2_with fail
  refine (put_impl _ 4 w (by decide) (by decide)).mono ?_
  rintro e w1 ⟨rfl, hb1⟩
  rw [show (4 : Int).toNat = 4 from rfl]
  obtain ⟨p, hp⟩ : ∃ p, putL (crc l : Nat) 4 = p := ⟨_, rfl⟩
  have hpl : p.length = 4 := by rw [← hp]; exact putL_length _ _
  have hps : ({ data := p.toArray } : ByteArray).size = 4 := by show p.toArray.size = 4; simpa using hpl
  have hsl : sumL l = p.reverse := by unfold sumL; rw [hp]
  rw [hp]
  have HP := Lib.hid hsl
  have HL := Lib.hid hpl
  clear hp hcv1 hsl hpl
  have hcv2 := run_bytes_at w1 ⟨p.toArray⟩
  have hC := grownCap_ge w1 4 0 5
  rw [hps] at hcv2
  generalize grownCap w1 4 0 5 = C at hcv2 hC
  have hrow := bytesRow_at w1 ⟨p.toArray⟩ C (by omega) 5
  have hsz1 : (w1.alloc (.cells (bytesRow ⟨p.toArray⟩ C) 5 ((bytesRow ⟨p.toArray⟩ C).size, (bytesRow ⟨p.toArray⟩ C).size + 1))).heap.size = w1.heap.size + 1 := by simp
  have hb2 : Below w1.heap.size w1 (w1.alloc (.cells (bytesRow ⟨p.toArray⟩ C) 5 ((bytesRow ⟨p.toArray⟩ C).size, (bytesRow ⟨p.toArray⟩ C).size + 1))) := (Below.refl _ _).alloc (Nat.le_refl _) _
  generalize hob : (Obj.cells (bytesRow ⟨p.toArray⟩ C) 5 ((bytesRow ⟨p.toArray⟩ C).size, (bytesRow ⟨p.toArray⟩ C).size + 1)) = ob at hcv2 hrow hsz1 hb2
  clear hob hps
  have HR := Lib.hid hrow
  clear hrow
  have HS := Lib.hid hsz1
  clear hsz1
  go_wp2_with fail
  have hrv := rev_any (w1.alloc ob).drew w1.heap.size C p (HR.out.1.same rfl) (fun j hj => (HR.out.2.same (w' := (w1.alloc ob).drew) rfl) j (by have := HL.out; omega)) (by have := HL.out; omega)
  rw [HL.out] at hrv
  refine hrv.mono ?_
  rintro e w2 ⟨rfl, hr2, hb3⟩
  clear hrv hcv2
  have hb4 : Below w1.heap.size w1 w2 := hb2.drew.trans hb3
  have hsz2 : w1.heap.size < w2.heap.size := by have := hb3.size; have e : (w1.alloc ob).drew.heap.size = w1.heap.size + 1 := HS.out; omega
  have hb5 : Below w.heap.size w w2 := hb1.trans (hb4.mono hb1.size)
  have hgw : w2.heap[g]? = w.heap[g]? := hb5.block g hg
  have hl2 : ByteAt w2 g l := h.same hgw
  have hf2 : FreeAt w2 g cap := hf.same hgw
  rw [← HP.out] at hr2
  have hs4 := sumL_len l
  have HH := Lib.hid h; have HF := Lib.hid hf; have H5 := Lib.hid hb5; have HL2 := Lib.hid hl2; have HF2 := Lib.hid hf2; have HR2 := Lib.hid hr2; have HZ2 := Lib.hid hsz2; have HSL := Lib.hid hs4
  clear h hf hb5 hl2 hf2 hr2 hsz2 hb1 hb2 hb3 hb4 hgw hs4
  go_wp2_with (at_builtin; refine wpList_append_arg w2 rfl (.tmp 11) (.tmp 12) 22 rfl 5 i0 (.int .u8 0) 1 1 Try.underlying22 hi hz0 hz1 hz2 rfl (by decide) g 0 l.length cap (byteVals l) rfl ?lo ?olds ⟨w1.heap.size, 0, none⟩ 4 C (byteVals (sumL l)) rfl ?ln ?c1 ?c2 ?spare ?b1 ?b2 ?room ?grow)
  case lo => rw [byteVals_length, Nat.mul_one]
  case olds => exact fun j u hu => by rw [Nat.zero_add]; exact byteAt_list HL2.out j u hu
  case ln => rw [byteVals_length, HSL.out]
  case c1 => exact fun j u hu => by rw [Addr.add_lit, Nat.zero_add]; exact byteAt_list HR2.out j u hu
  case c2 =>
    intro u hu
    obtain ⟨b, _, rfl⟩ := List.mem_map.1 hu
    rfl
  case spare =>
    intro hr j hj
    rw [byteVals_length, HSL.out] at hj
    rw [Nat.zero_add, Nat.mul_one]
    exact HF2.out _ (by omega)
  case b1 => unfold maxLen; omega
  case b2 => omega
  case room =>
    intro hr
    have hfin : SumRet B l w (.returned (.slice (some ⟨g, 0, none⟩) (l.length + 4) cap)) (w2.setCells g l.length (byteVals (sumL l))) :=
      ⟨g, cap, rfl, byteAt_setCells HL2.out HF2.out (by rw [HSL.out]; exact hr), below_setCells (hBg hr) _ _ (H5.out.mono hB)⟩
    have HFIN := Lib.hid hfin
    clear hfin hr
    go_wp2
    go_ret
    exact HFIN.out
  case grow =>
    intro hr v' w' hown hgrow
    have hown' : w'.ownsRow w2.heap.size 5 1 v' (l.length + 4) (byteVals (l ++ sumL l)) := by simpa [byteVals] using hown
    obtain ⟨g', cap', rfl, hg', hat⟩ := owned_at hown' (by omega)
    have hfin : SumRet B l w (.returned (.slice (some ⟨g', 0, none⟩) (l.length + 4) cap')) w' :=
      ⟨g', cap', rfl, hat, (H5.out.mono hB).grown hgrow (Nat.le_trans hB H5.out.size) (fun k e => by cases e)⟩
    have HFIN := Lib.hid hfin
    clear hfin hr hown hown' hgrow hat
    go_wp2
    go_ret
    exact HFIN.out

/-- what the last four bytes should be -/
def sumOk (s : ByteArray) : Prop := sumL (s.extract 0 (s.size - 4)).data.toList = (s.extract (s.size - 4) s.size).data.toList
instance (s : ByteArray) : Decidable (sumOk s) := by unfold sumOk; infer_instance

theorem sumOk_take (s : ByteArray) (h : 4 ≤ s.size) : decide (s.data.toList.take (s.size - 4) ++ sumL (s.data.toList.take (s.size - 4)) = s.data.toList) = decide (sumOk s) := by
  have e1 : (s.extract 0 (s.size - 4)).data.toList = s.data.toList.take (s.size - 4) := by
    rw [ByteArray.data_extract, Array.toList_extract]
    simp
  have hl : s.data.toList.length = s.size := by rw [Array.length_toList]; rfl
  have e2 : (s.extract (s.size - 4) s.size).data.toList = s.data.toList.drop (s.size - 4) := by
    rw [ByteArray.data_extract, Array.toList_extract]
    simp only [List.extract]
    rw [List.take_of_length_le (by rw [List.length_drop]; omega)]
  rw [decide_eq_decide]
  unfold sumOk
  rw [e1, e2]
  refine ⟨fun k => ?_, fun k => ?_⟩
  · exact List.append_cancel_left (k.trans (List.take_append_drop (s.size - 4) s.data.toList).symm)
  · rw [k, List.take_append_drop]

theorem sumOk_impl (s : ByteArray) (w : World) (h4 : 4 ≤ s.size) (hs : s.size ≤ 1048576) :
    Calls Try.prog 33 #[.string s] w fun e w' => e = .returned (.bool (decide (sumOk s))) ∧ Below w.heap.size w w' := by
  have hcv := run_bytes_at w s
  have hC := grownCap_ge w s.size 0 5
  generalize grownCap w s.size 0 5 = C at hcv hC
  have hrow := bytesRow_at w s C hC 5
  have hb0 : Below w.heap.size w (w.alloc (.cells (bytesRow s C) 5 ((bytesRow s C).size, (bytesRow s C).size + 1))).drew := ((Below.refl _ _).alloc (Nat.le_refl _) _).drew
  have hsz : w.heap.size < (w.alloc (.cells (bytesRow s C) 5 ((bytesRow s C).size, (bytesRow s C).size + 1))).drew.heap.size := by show w.heap.size < (w.heap.push _).size; simp
  generalize hob : (Obj.cells (bytesRow s C) 5 ((bytesRow s C).size, (bytesRow s C).size + 1)) = ob at hcv hrow hb0 hsz
  have hrow' : ByteAt (w.alloc ob).drew w.heap.size s.data.toList ∧ FreeAt (w.alloc ob).drew w.heap.size C := ⟨hrow.1.same rfl, hrow.2.same rfl⟩
  clear hob hrow
  have HR := Lib.hid hrow'; have HB := Lib.hid hb0; have HS := Lib.hid hsz
  clear hrow' hb0 hsz
  have hn : ((s.size : Int) - 4).toNat = s.size - 4 := by omega
  go_enter Try.func33, Try.ntmps33
  go_wp2_with fail
  have hll : s.data.toList.length = s.size := by rw [Array.length_toList]; rfl
  have htl : (s.data.toList.take (s.size - 4)).length = s.size - 4 := by rw [List.length_take]; omega
  have hap := appendSum_any (w.alloc ob).drew (w.alloc ob).drew.heap.size w.heap.size (s.data.toList.take (s.size - 4)).length (s.data.toList.take (s.size - 4)) (by omega)
    ((show ByteAt (w.alloc ob).drew w.heap.size (s.data.toList.take (s.size - 4) ++ s.data.toList.drop (s.size - 4)) by rw [List.take_append_drop]; exact HR.out.1).cut)
    (fun j hj => HR.out.2 j (by omega)) (Nat.le_refl _) (fun h => by omega) HS.out
  rw [htl] at hap
  refine hap.mono ?_
  rintro e w1 ⟨g', cap', rfl, hat, hb1⟩
  clear hap
  have heq := equal_any w1 g' w.heap.size cap' C _ s.data.toList hat (HR.out.1.same (hb1.block _ HS.out)) (by rw [List.length_append, sumL_len]; omega) (by omega)
  rw [sumOk_take s h4, List.length_append, sumL_len, htl, hll] at heq
  have hbb : Below w.heap.size w w1 := HB.out.trans (hb1.mono (Nat.le_of_lt HS.out))
  have HE := Lib.hid heq; have HBB := Lib.hid hbb
  rw [htl]
  clear heq hbb hat hb1 hll htl
  have e4 : s.size - 4 + 4 = s.size := by omega
  rw [e4] at HE ⊢
  clear e4
  go_wp2_with fail
  refine HE.out.mono ?_
  rintro e w2 ⟨rfl, hb2⟩
  have hfin := HBB.out.trans (hb2.mono HBB.out.size)
  clear hb2
  go_wp2_with fail
  go_ret
  exact ⟨rfl, hfin⟩
end Go.Proofs.Ytiajeialcmcppaa
