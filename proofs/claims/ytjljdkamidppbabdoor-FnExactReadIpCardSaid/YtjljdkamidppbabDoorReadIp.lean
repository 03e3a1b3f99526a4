/- ReadIp: what the program and the model answer. -/
import Derived.Test.YtjljdkamidppbabDoorIpL
import Derived.Test.YtjljdkamidppbabDoorStrs
import Derived.Test.YtjljdkamidppbabDoorShelf
import Derived.Shelf.Strings.SplitCore
namespace Go.Proofs.YtjljdkamidppbabDoor
open Go.RowKit Go.Shelf

theorem split_one (s : ByteArray) (hs : s.size < 4294967281) (w : World) :
    Calls Tryd.prog 16 #[.string s, .string ⟨#[46]⟩] w fun e w' =>
      e = .returned (.slice (some ⟨w.heap.size, 0, none⟩) (Lib.splitB ⟨#[46]⟩ 0 (Lib.countB s ⟨#[46]⟩) s).length (Lib.splitB ⟨#[46]⟩ 0 (Lib.countB s ⟨#[46]⟩) s).length) ∧ w' = w.alloc (.cells ((Lib.splitB ⟨#[46]⟩ 0 (Lib.countB s ⟨#[46]⟩) s).map Value.string).toArray 9) := by
  have h1 : 1 ≤ ({ data := #[46] } : ByteArray).size := Nat.le_refl _
  have hle := Lib.countB_le ⟨#[46]⟩ h1 s.size s (Nat.le_refl _)
  have hlen := Lib.splitB_all ⟨#[46]⟩ h1 0 _ s rfl
  have c := Any.strings_genSplit_core Tryd.lays221 (by kernel_rfl) s ⟨#[46]⟩ 0 (-1) (Lib.countB s ⟨#[46]⟩ + 1) w hs h1 (Nat.zero_le _)
    (fun x c _ => (Tryd.strings_Index_one x 46 _).mono fun e w' ⟨he, hw⟩ => ⟨by rw [he]; show _ = Ending.returned (Value.int .i64 (Lib.index x.data.toList [46])); rw [Lib.index_one], hw⟩)
    ((Tryd.strings_Count_one s 46 w).mono fun e w' ⟨he, hw⟩ => ⟨by rw [he]; show _ = Ending.returned (Value.int .i64 ((Lib.count s.data.toList [46] : Nat) : Int)); rw [Lib.count_one]; rfl, hw⟩)
    (by decide) (by decide) (by rw [if_pos (by decide)]; omega)
  rw [Nat.add_sub_cancel, hlen] at c
  have e2 : Lib.cellsOf (Lib.splitB ⟨#[46]⟩ 0 (Lib.countB s ⟨#[46]⟩) s) (Lib.countB s ⟨#[46]⟩ + 1) = ((Lib.splitB ⟨#[46]⟩ 0 (Lib.countB s ⟨#[46]⟩) s).map Value.string).toArray := by rw [← hlen]; exact Lib.cellsOf_full _
  rw [e2] at c
  rw [hlen]
  generalize Lib.countB s ⟨#[46]⟩ = n at c
  generalize ((Lib.splitB ⟨#[46]⟩ 0 n s).map Value.string).toArray = cs at c
  have HC := Lib.hid c; clear c
  go_enter Tryd.func16, Tryd.ntmps16
  go_wp2_with fail
  refine HC.out.mono ?_
  rintro e w' ⟨rfl, rfl⟩
  go_wp2_with fail
  go_ret
  exact ⟨rfl, rfl⟩

set_option maxHeartbeats 1000000 in
theorem readIp_impl (s : ByteArray) (hs : s.size ≤ 1048576) (w : World) :
    Calls Tryd.prog 8 #[.string s] w fun e w' => e = .returned (.int .i64 (readI s.data.toList)) ∧ Below w.heap.size w w' := by
  have hsp := split_one s (by omega) w
  have hpl := split_parts s
  obtain ⟨ps, hps⟩ : ∃ ps, Lib.splitB ⟨#[46]⟩ 0 (Lib.countB s ⟨#[46]⟩) s = ps := ⟨_, rfl⟩
  rw [hps] at hsp hpl
  have hb0 : Below w.heap.size w (w.alloc (.cells (ps.map Value.string).toArray 9)) := (Below.refl _ _).alloc (Nat.le_refl _) _
  have hsz0 : w.heap.size < (w.alloc (.cells (ps.map Value.string).toArray 9)).heap.size := by simp
  have hcell : ∀ i (h : i < ps.length), (w.alloc (.cells (ps.map Value.string).toArray 9)).cell? ⟨w.heap.size, i, none⟩ = some (.string ps[i]) := by
    intro i h
    rw [World.cell?_alloc_at (hn := rfl)]
    simp [h]
  have hle : ∀ i (h : i < ps.length), (ps[i]'h).size ≤ 1048576 := by
    intro i h
    have hm : (ps[i]'h).data.toList ∈ ipParts s.data.toList := by rw [← hpl]; exact List.mem_map.2 ⟨_, List.getElem_mem h, rfl⟩
    have := parts_le isDot s.data.toList [] _ hm
    rw [len_eq, len_eq] at this
    simpa using Nat.le_trans this (by simpa using hs)
  have hmx : ps.length ≤ 1048577 := by
    have := congrArg List.length hpl
    rw [List.length_map] at this
    have h2 := partsL_len isDot s.data.toList []
    rw [len_eq] at h2
    unfold ipParts at this
    omega
  clear hps
  have HP := Lib.hid hpl; clear hpl
  have HSP := Lib.hid hsp; clear hsp
  have HC := Lib.hid hcell; clear hcell
  have HL := Lib.hid hle; clear hle
  have HB := Lib.hid hb0; clear hb0
  generalize w.alloc (.cells (ps.map Value.string).toArray 9) = w1 at HSP HC HB hsz0
  by_cases h4 : ps.length = 4
  · have hr : readI s.data.toList = ipVal (ps.map (·.data.toList)) 0 := by
      unfold readI
      rw [← HP.out, if_pos (by rw [List.length_map]; exact h4)]
    rw [hr]
    have HR := Lib.hid hr; clear hr
    have H4 := Lib.hid h4
    go_enter Tryd.func8, Tryd.ntmps8
    go_wp2_with fail
    refine HSP.out.mono ?_
    rintro e w' ⟨rfl, rfl⟩
    go_wp2_with fail
    go_loopw [4, 15] (fun v i wr => ∃ (k : Nat) (n : Int), k ≤ 4 ∧ i = .int .i64 k ∧ v = .int .i64 n ∧ 0 ≤ n ∧ Hid (n < 256 ^ k) ∧ Hid (ipVal ((ps.map (·.data.toList)).drop k) n = ipVal (ps.map (·.data.toList)) 0) ∧ Below w'.heap.size w' wr) (fun _ i _ => 4 - (intOf i).toNat)
    case atStart => exact ⟨0, 0, by omega, rfl, rfl, by omega, Lib.hid (by decide), Lib.hid rfl, Below.refl _ _⟩
    case round =>
      obtain ⟨k, n, hk, rfl, rfl, hn0, Hn, Hr, hbw⟩ := hrel
      by_cases hlt : k < 4
      · have hk' : k < ps.length := by omega
        have hck : wr.cell? ⟨w.heap.size, k, none⟩ = some (.string ps[k]) := by rw [hbw.cell (by exact hsz0)]; exact HC.out k hk'
        have hpk := HL.out k hk'
        have hdr : (ps.map (·.data.toList)).drop k = ps[k].data.toList :: (ps.map (·.data.toList)).drop (k + 1) := by
          rw [List.drop_eq_getElem_cons (by rw [List.length_map]; exact hk'), List.getElem_map]
        have hr2 := Hr.out
        rw [hdr] at hr2
        simp only [ipVal] at hr2
        have HD := Lib.hid hr2; clear hr2 hdr
        have hn1 : n ≤ 16777216 := by
          have h3 : (256 : Int) ^ k ≤ 16777216 := by
            have hk4 : k = 0 ∨ k = 1 ∨ k = 2 ∨ k = 3 := by omega
            rcases hk4 with hk4 | hk4 | hk4 | hk4 <;> rw [hk4] <;> decide
          have := Hn.out
          omega
        generalize ps[k] = p at hck hpk HD
        have hrg := readD_range p.data.toList
        have hri := readDec_impl p
        obtain ⟨r, hrr⟩ : ∃ r, readD p.data.toList = r := ⟨_, rfl⟩
        rw [hrr] at hrg hri HD
        clear hrr
        have HRI := Lib.hid hri; clear hri
        obtain ⟨hrg0, hrg1⟩ := hrg
        go_wp2_with fail
        refine (HRI.out _ hpk).mono ?_
        rintro e w2 ⟨rfl, hb2⟩
        by_cases hneg : r < 0
        · go_wp2_with fail
          go_ret
          refine ⟨?_, HB.out.trans ((hbw.trans (hb2.mono hbw.size)).mono HB.out.size)⟩
          have h5 := HD.out
          rw [if_pos (.inl hneg)] at h5
          rw [← h5]; rfl
        · by_cases hbig : 255 < r
          · have hbig' : 256 ≤ r := by omega
            go_wp2_with fail
            go_ret
            refine ⟨?_, HB.out.trans ((hbw.trans (hb2.mono hbw.size)).mono HB.out.size)⟩
            have h5 := HD.out
            rw [if_pos (.inr hbig)] at h5
            rw [← h5]; rfl
          · have hsm : r < 256 := by omega
            go_wp2_with fail
            go_roundw
            case rel =>
              have h5 := HD.out
              rw [if_neg (by omega)] at h5
              refine ⟨k + 1, n * 256 + r, by omega, by go_num, by go_num, by omega, Lib.hid ?_, Lib.hid h5, hbw.trans (hb2.mono hbw.size)⟩
              have := Hn.out
              rw [Int.pow_succ]
              omega
            case measure => simp [intOf]; omega
      · obtain rfl : k = 4 := by omega
        go_wp2_with fail
        go_ret
        refine ⟨?_, HB.out.trans (hbw.mono HB.out.size)⟩
        have h5 := Hr.out
        rw [List.drop_of_length_le (by rw [List.length_map, H4.out]; exact Nat.le_refl _)] at h5
        rw [← h5]; rfl
  · have hr : readI s.data.toList = -1 := by
      unfold readI
      rw [← HP.out, if_neg (by rw [List.length_map]; exact h4)]
    rw [hr]
    have HR := Lib.hid hr; clear hr
    have h4' : ¬ ((ps.length : Int) = 4) := by omega
    clear h4
    go_enter Tryd.func8, Tryd.ntmps8
    go_wp2_with fail
    refine HSP.out.mono ?_
    rintro e w' ⟨rfl, rfl⟩
    go_wp2_with fail
    go_ret
    exact ⟨rfl, HB.out⟩
end Go.Proofs.YtjljdkamidppbabDoor
