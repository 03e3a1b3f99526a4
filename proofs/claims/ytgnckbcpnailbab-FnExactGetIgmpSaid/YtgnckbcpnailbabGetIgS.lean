/- GetIgmp of the model. -/
import Derived.Test.YtgnckbcpnailbabPutIgS
import Derived.Test.YtgnckbcpnailbabGet
import Derived.Lib.Builder
import Derived.Deep.RegionWith
import Derived.Deep.Cut
import Derived.IntWalk
namespace Go.Proofs.Ytgnckbcpnailbab
open Go.RowKit

/-- the packet that bytes tell, right or not -/
def igRead (s : ByteArray) : Ig := ⟨(getK s 24 1 : Nat), (getK s 25 1 : Nat), (getK s 28 4 : Nat), (getK s 12 4 : Nat)⟩
/-- what GetIgmp answers -/
def getIg (s : ByteArray) : Ig × Bool := if s.size = 32 ∧ igOk (igRead s) ∧ igL (igRead s) = s.data.toList then (igRead s, true) else (Ig.zero, false)

def IgBlk (w : World) (b : Nat) (g : Ig) : Prop := w.heap[b]? = some (.cells #[.int .i64 g.kind, .int .i64 g.time, .int .i64 g.group, .int .i64 g.src] 23)
theorem igBlk_new (w : World) (a b c d : Int) : IgBlk (w.alloc (.cells #[.int .i64 a, .int .i64 b, .int .i64 c, .int .i64 d] 23)) w.heap.size ⟨a, b, c, d⟩ := by
  show (w.heap.push _)[w.heap.size]? = _
  simp
theorem IgBlk.lt {w : World} {b : Nat} {g : Ig} (h : IgBlk w b g) : b < w.heap.size := (Array.getElem?_eq_some_iff.1 h).1
theorem IgBlk.alloc {w : World} {b : Nat} {g : Ig} (h : IgBlk w b g) (o : Obj) : IgBlk (w.alloc o) b g := (Below.heap_alloc w o b h.lt).trans h
theorem IgBlk.below {w w1 : World} {b B : Nat} {g : Ig} (h : IgBlk w b g) (hb : Below B w w1) (hlt : b < B) : IgBlk w1 b g := (hb.block b hlt).trans h
theorem IgBlk.put {w : World} {b : Nat} {g : Ig} (h : IgBlk w b g) (f : Ig) :
    IgBlk ((((w.setCell ⟨b, 0, none⟩ (.int .i64 f.kind)).setCell ⟨b, 1, none⟩ (.int .i64 f.time)).setCell ⟨b, 2, none⟩ (.int .i64 f.group)).setCell ⟨b, 3, none⟩ (.int .i64 f.src)) b f := by
  have h0 : (w.setCell ⟨b, 0, none⟩ (.int .i64 f.kind)).heap[b]? = _ := heap_setCell_same w b 0 _ _ _ h
  have h1 : ((w.setCell ⟨b, 0, none⟩ (.int .i64 f.kind)).setCell ⟨b, 1, none⟩ (.int .i64 f.time)).heap[b]? = _ := heap_setCell_same _ b 1 _ _ _ h0
  have h2 : (((w.setCell ⟨b, 0, none⟩ (.int .i64 f.kind)).setCell ⟨b, 1, none⟩ (.int .i64 f.time)).setCell ⟨b, 2, none⟩ (.int .i64 f.group)).heap[b]? = _ := heap_setCell_same _ b 2 _ _ _ h1
  have h3 : ((((w.setCell ⟨b, 0, none⟩ (.int .i64 f.kind)).setCell ⟨b, 1, none⟩ (.int .i64 f.time)).setCell ⟨b, 2, none⟩ (.int .i64 f.group)).setCell ⟨b, 3, none⟩ (.int .i64 f.src)).heap[b]? = _ := heap_setCell_same _ b 3 _ _ _ h2
  unfold IgBlk
  rw [h3]
  simp
theorem below_putIg {a w : World} {B b : Nat} (h : Below B a w) (hb : B ≤ b) (f : Ig) :
    Below B a ((((w.setCell ⟨b, 0, none⟩ (.int .i64 f.kind)).setCell ⟨b, 1, none⟩ (.int .i64 f.time)).setCell ⟨b, 2, none⟩ (.int .i64 f.group)).setCell ⟨b, 3, none⟩ (.int .i64 f.src)) :=
  (((h.setCell hb _).setCell hb _).setCell hb _).setCell hb _
/-- what the walk wants of a packet's block in a later world -/
theorem IgBlk.facts {w : World} {b : Nat} {g : Ig} (h : IgBlk w b g) : (∀ j, w.frozen? ⟨b, j, none⟩ = false) ∧ w.shape? b = some (23, 4) ∧
    w.cell? ⟨b, 0, none⟩ = some (.int .i64 g.kind) ∧ w.cell? ⟨b, 1, none⟩ = some (.int .i64 g.time) ∧ w.cell? ⟨b, 2, none⟩ = some (.int .i64 g.group) ∧ w.cell? ⟨b, 3, none⟩ = some (.int .i64 g.src) := by
  have c : ∀ j, w.cell? ⟨b, j, none⟩ = (#[Value.int .i64 g.kind, .int .i64 g.time, .int .i64 g.group, .int .i64 g.src] : Array Value)[j]? := fun j => Lib.cell_of_heap h j
  refine ⟨fun j => Lib.frozen_of_heap h j, ?_, c 0, c 1, c 2, c 3⟩
  simp [World.shape?, IgBlk] at h ⊢
  simp [h]

def GotIg (w : World) (x : Ig × Bool) (e : Ending) (w' : World) : Prop := e = .returned (.tuple #[x.1.val, .bool x.2]) ∧ Below w.heap.size w w'

theorem gotIg_ret {w W : World} {b : Nat} {f : Ig} {ok : Bool} {a : Act} (hd : a.defers = []) (h2 : a.tmps.getD 2 undef = .pointer (some ⟨b, 0, none⟩)) (h3 : a.tmps.getD 3 undef = .bool ok) (hF : IgBlk W b f) (hB : Below w.heap.size w W) :
    bodyPost Try.prog Try.f4 (GotIg w (f, ok)) Exit.ret a W := by
  obtain ⟨_, _, c0, c1, c2, c3⟩ := hF.facts
  obtain ⟨tmps, defers⟩ := a
  simp only [Array.getD_eq_getD_getElem?] at hd h2 h3
  subst hd
  exact bodyPost_ret (v := .tuple #[f.val, .bool ok]) (by simp [results, Try.results4, go_sem, Ig.val, h2, h3, c0, c1, c2, c3]) rfl ⟨rfl, hB⟩

theorem getK_one (s : ByteArray) (i : Nat) (h : i < s.size) : getK s i 1 = (s[i]'h).toNat := by
  have e := getK_succ s i 0 (by omega)
  rw [getK_zero] at e
  simpa using e

set_option linter.unusedSimpArgs false in
set_option maxHeartbeats 2000000 in
theorem getIgmp_spec (s : ByteArray) (w : World) (hs : s.size ≤ 1048576) :
    Calls Try.prog 4 #[.string s] w (GotIg w (getIg s)) := by
  have hbw : Below w.heap.size w (w.alloc (.cells #[.int .i64 0, .int .i64 0, .int .i64 0, .int .i64 0] 23)) := (Below.refl _ _).alloc (Nat.le_refl _) _
  by_cases h32 : s.size = 32
  case neg =>
    have hg : getIg s = (Ig.zero, false) := by unfold getIg; rw [if_neg (fun h => h32 h.1)]
    rw [hg]
    have hn : ((s.size : Int) != 32) = true := by simp; omega
    clear hg h32
    go_enter Try.func4, Try.ntmps4
    go_wp2_with fail
    exact gotIg_ret rfl rfl rfl (igBlk_new w 0 0 0 0) hbw
  obtain ⟨res, hres⟩ : ∃ r, getIg s = r := ⟨_, rfl⟩
  rw [hres]
  have HRES := Lib.hid hres; clear hres
  have h24 : 24 < s.size := by omega
  have h25 : 25 < s.size := by omega
  have k24 := getK_one s 24 h24
  have k25 := getK_one s 25 h25
  have hx : igRead s = ⟨(getK s 24 1 : Nat), (getK s 25 1 : Nat), (getK s 28 4 : Nat), (getK s 12 4 : Nat)⟩ := rfl
  rw [k24, k25] at hx
  obtain ⟨gr, hgr⟩ : ∃ d, getK s 28 4 = d := ⟨_, rfl⟩
  obtain ⟨sr, hsr⟩ : ∃ d, getK s 12 4 = d := ⟨_, rfl⟩
  have hg1 := get_spec s 28 4
  have hg2 := get_spec s 12 4
  rw [show (28 : Int).toNat = 28 from rfl, show (4 : Int).toNat = 4 from rfl, hgr] at hg1
  rw [show (12 : Int).toNat = 12 from rfl, show (4 : Int).toNat = 4 from rfl, hsr] at hg2
  rw [hgr, hsr] at hx
  have HG1 := Lib.hid hg1; have HG2 := Lib.hid hg2
  have hsz : (24 : Int) < (s.size : Int) ∧ (25 : Int) < (s.size : Int) := by omega
  have hge : 32 ≤ s.size := by omega
  have hn : ((s.size : Int) != 32) = false := by simp; omega
  have b24 : (s[24]'h24).toNat < 256 := UInt8.toNat_lt _
  have b25 : (s[25]'h25).toNat < 256 := UInt8.toNat_lt _
  have x24 : IntKind.i64.wrap ((s[24]'h24).toNat : Int) = ((s[24]'h24).toNat : Int) := IntWalk.i64_in _ (by omega)
  have x25 : IntKind.i64.wrap ((s[25]'h25).toNat : Int) = ((s[25]'h25).toNat : Int) := IntWalk.i64_in _ (by omega)
  have HX := Lib.hid hx; have H32 := Lib.hid h32
  clear k24 k25 hgr hsr hg1 hg2 hx h32
  go_enter Try.func4, Try.ntmps4
  go_wp2_with fail
  go_cut [4] from 9 (fun s4 wx => s4 = .pointer (some ⟨w.heap.size + 1, 0, none⟩) ∧ ((w.alloc (.cells #[.int .i64 0, .int .i64 0, .int .i64 0, .int .i64 0] 23)).alloc (.cells #[.int .i64 ((s[24]'h24).toNat : Nat), .int .i64 ((s[25]'h25).toNat : Nat), .int .i64 (gr : Nat), .int .i64 (sr : Nat)] 23)).drew = wx)
  case first =>
    refine wp_region_held_drew (S := fun _ => True) (by kernel_rfl) trivial (fun hHeld => ?_)
    refine wpAnyH_take (i := 0) (v := ?v1) rfl (by kernel_rfl) (by kernel_rfl) (by kernel_rfl) (fun _ _ _ h => h) (Or.inl ⟨by rfl, ?h1⟩) trivial ?r1
    case h1 => intro w _; go_simp; with_reducible rfl
    try simp only [Act.put, List.setIfInBounds_toArray, List.set_cons_zero, List.set_cons_succ]
    refine wpAnyH_take (i := 1) (v := ?v2) rfl (by kernel_rfl) (by kernel_rfl) (by kernel_rfl) (fun _ _ _ h => h) (Or.inl ⟨by rfl, ?h2⟩) trivial ?r2
    case h2 => intro w _; go_simp; with_reducible rfl
    try simp only [Act.put, List.setIfInBounds_toArray, List.set_cons_zero, List.set_cons_succ]
    refine wpAnyH_take (i := 2) (v := ?v3) rfl (by kernel_rfl) (by kernel_rfl) (by kernel_rfl) (fun _ _ _ h => h) (Or.inl ⟨by rfl, ?h3⟩) trivial ?r3
    case h3 => intro w _; go_simp; with_reducible rfl
    try simp only [Act.put, List.setIfInBounds_toArray, List.set_cons_zero, List.set_cons_succ]
    refine wpAnyH_take (i := 3) (v := ?v4) rfl (by kernel_rfl) (by kernel_rfl) (by kernel_rfl) (fun _ _ _ h => h) (Or.inl ⟨by rfl, ?h4⟩) trivial ?r4
    case h4 => intro w _; go_simp; with_reducible rfl
    try simp only [Act.put, List.setIfInBounds_toArray, List.set_cons_zero, List.set_cons_succ]
    refine wpAnyH_take (i := 4) (v := ?v5) rfl (by kernel_rfl) (by kernel_rfl) (by kernel_rfl) (fun _ _ _ h => h) (Or.inl ⟨by rfl, ?h5⟩) trivial ?r5
    case h5 => intro w _; go_simp; with_reducible rfl
    try simp only [Act.put, List.setIfInBounds_toArray, List.set_cons_zero, List.set_cons_succ]
    refine wpAnyH_take (i := 5) (v := ?v6) rfl (by kernel_rfl) (by kernel_rfl) (by kernel_rfl) (fun _ _ _ h => h) (Or.inl ⟨by rfl, ?h6⟩) trivial ?r6
    case h6 => intro w _; go_simp; with_reducible rfl
    try simp only [Act.put, List.setIfInBounds_toArray, List.set_cons_zero, List.set_cons_succ]
    refine wpAnyH_take (i := 6) (v := ?v7) rfl (by kernel_rfl) (by kernel_rfl) (by kernel_rfl) (fun _ _ _ h => h) (Or.inl ⟨by rfl, ?h7⟩) trivial ?r7
    case h7 => intro w _; go_simp; with_reducible rfl
    try simp only [Act.put, List.setIfInBounds_toArray, List.set_cons_zero, List.set_cons_succ]
    refine wpAnyH_take (i := 8) (v := ?v8) rfl (by kernel_rfl) (by kernel_rfl) (by kernel_rfl) (fun _ _ _ h => h) (Or.inl ⟨by rfl, ?h8⟩) trivial ?r8
    case h8 => intro w _; go_simp; with_reducible rfl
    try simp only [Act.put, List.setIfInBounds_toArray, List.set_cons_zero, List.set_cons_succ]
    refine wpAnyH_ready (rs := [7, 11]) (by kernel_rfl) (by simp) ?_
    refine AllReadyH.cons rfl (fun K hK => ?_) ?_
    · go_simp
      refine (HG1.out _ hs (by decide) (by decide) (by decide) (by omega)).mono ?_
      rintro e w6 ⟨rfl, rfl⟩
      go_wp2_with fail
      refine hK.out _ _ trivial (fun hHeld => ?_)
      clear hK K
      try simp only [Act.put, List.setIfInBounds_toArray, List.set_cons_zero, List.set_cons_succ]
      refine wpAnyH_ready (rs := [9, 11]) (by kernel_rfl) (by simp) ?_
      refine AllReadyH.cons rfl (fun K hK => ?_) ?_
      · go_simp
        refine (HG2.out _ hs (by decide) (by decide) (by decide) (by omega)).mono ?_
        rintro e w6 ⟨rfl, rfl⟩
        go_wp2_with fail
        refine hK.out _ _ trivial (fun hHeld => ?_)
        clear hK K
        try simp only [Act.put, List.setIfInBounds_toArray, List.set_cons_zero, List.set_cons_succ]
        refine wpAnyH_take (i := 10) (v := ?v9) rfl (by kernel_rfl) (by kernel_rfl) (by kernel_rfl) (fun _ _ _ h => h) (Or.inl ⟨by rfl, ?h9⟩) trivial ?r9
        case h9 => intro w _; go_simp; with_reducible rfl
        try simp only [Act.put, List.setIfInBounds_toArray, List.set_cons_zero, List.set_cons_succ]
        refine wpAnyH_ready (rs := [11]) (by kernel_rfl) (by simp) ?_
        refine AllReadyH.cons rfl (fun K hK => ?_) AllReadyH.nil
        go_simp
        refine hK.out _ _ trivial (fun hHeld => ?_)
        clear hK K
        try simp only [Act.put, List.setIfInBounds_toArray, List.set_cons_zero, List.set_cons_succ]
        refine wpAnyH_ready (rs := [12]) (by kernel_rfl) (by simp) ?_
        refine AllReadyH.cons rfl (fun K hK => ?_) AllReadyH.nil
        go_simp
        refine hK.out _ _ trivial (fun hHeld => ?_)
        clear hK K
        try simp only [Act.put, List.setIfInBounds_toArray, List.set_cons_zero, List.set_cons_succ]
        refine wpAnyH_done (by kernel_rfl) ?_ _
        go_wp2_with fail
        go_meet
        exact ⟨rfl, rfl⟩
      refine AllReadyH.cons rfl (fun K hK => ?_) AllReadyH.nil
      · go_simp
        refine hK.out _ _ trivial (fun hHeld => ?_)
        clear hK K
        try simp only [Act.put, List.setIfInBounds_toArray, List.set_cons_zero, List.set_cons_succ]
        refine wpAnyH_ready (rs := [9]) (by kernel_rfl) (by simp) ?_
        refine AllReadyH.cons rfl (fun K hK => ?_) AllReadyH.nil
        go_simp
        refine (HG2.out _ hs (by decide) (by decide) (by decide) (by omega)).mono ?_
        rintro e w6 ⟨rfl, rfl⟩
        go_wp2_with fail
        refine hK.out _ _ trivial (fun hHeld => ?_)
        clear hK K
        try simp only [Act.put, List.setIfInBounds_toArray, List.set_cons_zero, List.set_cons_succ]
        refine wpAnyH_take (i := 10) (v := ?v10) rfl (by kernel_rfl) (by kernel_rfl) (by kernel_rfl) (fun _ _ _ h => h) (Or.inl ⟨by rfl, ?h10⟩) trivial ?r10
        case h10 => intro w _; go_simp; with_reducible rfl
        try simp only [Act.put, List.setIfInBounds_toArray, List.set_cons_zero, List.set_cons_succ]
        refine wpAnyH_ready (rs := [12]) (by kernel_rfl) (by simp) ?_
        refine AllReadyH.cons rfl (fun K hK => ?_) AllReadyH.nil
        go_simp
        refine hK.out _ _ trivial (fun hHeld => ?_)
        clear hK K
        try simp only [Act.put, List.setIfInBounds_toArray, List.set_cons_zero, List.set_cons_succ]
        refine wpAnyH_done (by kernel_rfl) ?_ _
        go_wp2_with fail
        go_meet
        exact ⟨rfl, rfl⟩
    refine AllReadyH.cons rfl (fun K hK => ?_) AllReadyH.nil
    · go_simp
      refine hK.out _ _ trivial (fun hHeld => ?_)
      clear hK K
      try simp only [Act.put, List.setIfInBounds_toArray, List.set_cons_zero, List.set_cons_succ]
      refine wpAnyH_ready (rs := [7]) (by kernel_rfl) (by simp) ?_
      refine AllReadyH.cons rfl (fun K hK => ?_) AllReadyH.nil
      go_simp
      refine (HG1.out _ hs (by decide) (by decide) (by decide) (by omega)).mono ?_
      rintro e w6 ⟨rfl, rfl⟩
      go_wp2_with fail
      refine hK.out _ _ trivial (fun hHeld => ?_)
      clear hK K
      try simp only [Act.put, List.setIfInBounds_toArray, List.set_cons_zero, List.set_cons_succ]
      refine wpAnyH_ready (rs := [9]) (by kernel_rfl) (by simp) ?_
      refine AllReadyH.cons rfl (fun K hK => ?_) AllReadyH.nil
      go_simp
      refine (HG2.out _ hs (by decide) (by decide) (by decide) (by omega)).mono ?_
      rintro e w6 ⟨rfl, rfl⟩
      go_wp2_with fail
      refine hK.out _ _ trivial (fun hHeld => ?_)
      clear hK K
      try simp only [Act.put, List.setIfInBounds_toArray, List.set_cons_zero, List.set_cons_succ]
      refine wpAnyH_take (i := 10) (v := ?v11) rfl (by kernel_rfl) (by kernel_rfl) (by kernel_rfl) (fun _ _ _ h => h) (Or.inl ⟨by rfl, ?h11⟩) trivial ?r11
      case h11 => intro w _; go_simp; with_reducible rfl
      try simp only [Act.put, List.setIfInBounds_toArray, List.set_cons_zero, List.set_cons_succ]
      refine wpAnyH_ready (rs := [12]) (by kernel_rfl) (by simp) ?_
      refine AllReadyH.cons rfl (fun K hK => ?_) AllReadyH.nil
      go_simp
      refine hK.out _ _ trivial (fun hHeld => ?_)
      clear hK K
      try simp only [Act.put, List.setIfInBounds_toArray, List.set_cons_zero, List.set_cons_succ]
      refine wpAnyH_done (by kernel_rfl) ?_ _
      go_wp2_with fail
      go_meet
      exact ⟨rfl, rfl⟩
  case rest =>
    obtain ⟨rfl, rfl⟩ := hcut
    clear hsz hn hge x24 x25
    have hlast : ∀ w5, Below ((w.alloc (.cells #[.int .i64 0, .int .i64 0, .int .i64 0, .int .i64 0] 23)).alloc (.cells #[.int .i64 ((s[24]'h24).toNat : Nat), .int .i64 ((s[25]'h25).toNat : Nat), .int .i64 (gr : Nat), .int .i64 (sr : Nat)] 23)).drew.heap.size ((w.alloc (.cells #[.int .i64 0, .int .i64 0, .int .i64 0, .int .i64 0] 23)).alloc (.cells #[.int .i64 ((s[24]'h24).toNat : Nat), .int .i64 ((s[25]'h25).toNat : Nat), .int .i64 (gr : Nat), .int .i64 (sr : Nat)] 23)).drew w5 →
        Below w.heap.size w w5 ∧ IgBlk w5 w.heap.size Ig.zero ∧ IgBlk w5 (w.heap.size + 1) ⟨((s[24]'h24).toNat : Nat), ((s[25]'h25).toNat : Nat), (gr : Nat), (sr : Nat)⟩ := by
      intro w5 hb
      have f0 : IgBlk ((w.alloc (.cells #[.int .i64 0, .int .i64 0, .int .i64 0, .int .i64 0] 23)).alloc (.cells #[.int .i64 ((s[24]'h24).toNat : Nat), .int .i64 ((s[25]'h25).toNat : Nat), .int .i64 (gr : Nat), .int .i64 (sr : Nat)] 23)).drew w.heap.size Ig.zero := (igBlk_new w 0 0 0 0).alloc _
      have f1 := igBlk_new (w.alloc (.cells #[.int .i64 0, .int .i64 0, .int .i64 0, .int .i64 0] 23)) ((s[24]'h24).toNat : Nat) ((s[25]'h25).toNat : Nat) (gr : Nat) (sr : Nat)
      rw [show (w.alloc (.cells #[.int .i64 0, .int .i64 0, .int .i64 0, .int .i64 0] 23)).heap.size = w.heap.size + 1 by simp] at f1
      have f1' : IgBlk ((w.alloc (.cells #[.int .i64 0, .int .i64 0, .int .i64 0, .int .i64 0] 23)).alloc (.cells #[.int .i64 ((s[24]'h24).toNat : Nat), .int .i64 ((s[25]'h25).toNat : Nat), .int .i64 (gr : Nat), .int .i64 (sr : Nat)] 23)).drew (w.heap.size + 1) ⟨((s[24]'h24).toNat : Nat), ((s[25]'h25).toNat : Nat), (gr : Nat), (sr : Nat)⟩ := f1
      have hbb : Below w.heap.size w ((w.alloc (.cells #[.int .i64 0, .int .i64 0, .int .i64 0, .int .i64 0] 23)).alloc (.cells #[.int .i64 ((s[24]'h24).toNat : Nat), .int .i64 ((s[25]'h25).toNat : Nat), .int .i64 (gr : Nat), .int .i64 (sr : Nat)] 23)).drew := (hbw.alloc hbw.size _).drew
      exact ⟨hbb.trans (hb.mono hbb.size), f0.below hb f0.lt, f1'.below hb f1'.lt⟩
    have HLAST := Lib.hid hlast
    clear hlast hbw
    have hI := igmpOk_spec (igRead s)
    by_cases hok : igOk (igRead s)
    case neg =>
      have hg : getIg s = (Ig.zero, false) := by unfold getIg; rw [if_neg (fun h => hok h.2.1)]
      rw [decide_eq_false hok, HX.out] at hI
      obtain rfl : res = _ := HRES.out.symm.trans hg
      unfold Ig.val at hI
      simp only at hI
      have HI := Lib.hid hI
      clear hg hok hI
      go_wp2_with fail
      refine (HI.out _).mono ?_
      rintro e w5 ⟨rfl, hb5⟩
      obtain ⟨hB, f0, f1⟩ := HLAST.out w5 hb5
      obtain ⟨zf, zs, c0, c1, c2, c3⟩ := f0.facts
      have HB := Lib.hid hB; have F0 := Lib.hid f0
      clear hb5 hB f0 f1
      simp only [Ig.zero] at c0 c1 c2 c3
      go_wp2_with fail
      exact gotIg_ret rfl rfl rfl (IgBlk.put (f := Ig.zero) F0.out) (below_putIg (f := Ig.zero) HB.out (Nat.le_refl w.heap.size))
    have hP := putIgmp_spec (igRead s) hok
    rw [decide_eq_true hok, HX.out] at hI
    obtain ⟨t, ht⟩ : ∃ t : ByteArray, (⟨(igL (igRead s)).toArray⟩ : ByteArray) = t := ⟨_, rfl⟩
    have htl : t.data.toList = igL (igRead s) := by rw [← ht]
    rw [ht, HX.out] at hP
    unfold Ig.val at hI hP
    simp only at hI hP
    have HI := Lib.hid hI; have HP := Lib.hid hP; have HOK := Lib.hid hok; have HTL := Lib.hid htl
    clear hI hP hok ht htl
    go_wp2_with fail
    refine (HI.out _).mono ?_
    rintro e w5 ⟨rfl, hb5⟩
    obtain ⟨hB, f0, f1⟩ := HLAST.out w5 hb5
    obtain ⟨zf, zs, c0, c1, c2, c3⟩ := f1.facts
    have HB5 := Lib.hid hb5
    clear hb5 hB f0 f1
    simp only at c0 c1 c2 c3
    go_wp2_with fail
    refine (HP.out _).mono ?_
    rintro e w6 ⟨rfl, hb6⟩
    obtain ⟨hB, f0, f1⟩ := HLAST.out w6 (HB5.out.trans (hb6.mono HB5.out.size))
    have HB := Lib.hid hB; have F0 := Lib.hid f0; have F1 := Lib.hid f1
    clear hb6 zf zs c0 c1 c2 c3 hB f0 f1
    by_cases heq : igL (igRead s) = s.data.toList
    · have hg : getIg s = (igRead s, true) := by unfold getIg; rw [if_pos ⟨H32.out, HOK.out, heq⟩]
      have hts : t = s := ByteArray.ext (Array.toList_inj.1 (HTL.out.trans heq))
      have hq : (t.toList == s.toList) = true := by rw [hts]; exact beq_self_eq_true _
      rw [HX.out] at hg
      obtain rfl : res = _ := HRES.out.symm.trans hg
      clear hg heq hts
      obtain ⟨zf, zs, c0, c1, c2, c3⟩ := F0.out.facts
      obtain ⟨_, _, d0, d1, d2, d3⟩ := F1.out.facts
      simp only [Ig.zero] at c0 c1 c2 c3 d0 d1 d2 d3
      go_wp2_with fail
      exact gotIg_ret rfl rfl rfl (IgBlk.put (f := ⟨((s[24]'h24).toNat : Nat), ((s[25]'h25).toNat : Nat), (gr : Nat), (sr : Nat)⟩) F0.out) (below_putIg (f := ⟨((s[24]'h24).toNat : Nat), ((s[25]'h25).toNat : Nat), (gr : Nat), (sr : Nat)⟩) HB.out (Nat.le_refl w.heap.size))
    · have hg : getIg s = (Ig.zero, false) := by unfold getIg; rw [if_neg (fun h => heq h.2.2)]
      have hts : ¬ t = s := fun h => heq (by rw [← HTL.out, h])
      obtain rfl : res = _ := HRES.out.symm.trans hg
      clear hg heq
      obtain ⟨zf, zs, c0, c1, c2, c3⟩ := F0.out.facts
      simp only [Ig.zero] at c0 c1 c2 c3
      have hq : (t.toList == s.toList) = false := by
        rw [beq_eq_false_iff_ne, ByteArray.toList_eq, ByteArray.toList_eq]
        exact fun h => hts (ByteArray.ext (Array.toList_inj.1 h))
      clear hts
      go_wp2_with fail
      exact gotIg_ret rfl rfl rfl (IgBlk.put (f := Ig.zero) F0.out) (below_putIg (f := Ig.zero) HB.out (Nat.le_refl w.heap.size))
end Go.Proofs.Ytgnckbcpnailbab
