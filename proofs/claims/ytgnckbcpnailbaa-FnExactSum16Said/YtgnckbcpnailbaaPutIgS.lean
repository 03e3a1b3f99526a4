/- PutIgmp of the model. -/
import Derived.Test.YtgnckbcpnailbaaIg
import Derived.Test.YtgnckbcpnailbaaSumS
import Derived.Test.YtgnckbcpnailbaaPut
import Derived.Deep.RegionHeld3
namespace Go.Proofs.Ytgnckbcpnailbaa
open Go.RowKit

/-- the bytes of the carrier behind its checksum -/
def igB (g : Ig) : List UInt8 := putL g.src 4 ++ putL (igTo g) 4 ++ [148, 4, 0, 0]
def igA : List UInt8 := [70, 192, 0, 32, 0, 0, 0, 0, 1, 2]
def igK (g : Ig) : List UInt8 := putL g.kind 1 ++ putL g.time 1
/-- a packet's bytes -/
def igL (g : Ig) : List UInt8 :=
  igA ++ putL (sum16 (igA ++ [0, 0] ++ igB g) : Nat) 2 ++ igB g ++ igK g ++ putL (sum16 (igK g ++ [0, 0] ++ putL g.group 4) : Nat) 2 ++ putL g.group 4

theorem cells4 {w w1 : World} {c0 c1 c2 c3 : Value} {t : TypeId} (hb : Below (w.alloc (.cells #[c0, c1, c2, c3] t)).heap.size (w.alloc (.cells #[c0, c1, c2, c3] t)) w1) :
    w1.cell? ⟨w.heap.size, 0, none⟩ = some c0 ∧ w1.cell? ⟨w.heap.size, 1, none⟩ = some c1 ∧ w1.cell? ⟨w.heap.size, 2, none⟩ = some c2 ∧ w1.cell? ⟨w.heap.size, 3, none⟩ = some c3 := by
  have h : ∀ j, w1.cell? ⟨w.heap.size, j, none⟩ = (#[c0, c1, c2, c3] : Array Value)[j]? := fun j => by
    rw [hb.cell (p := ⟨w.heap.size, j, none⟩) (by simp), World.cell?_alloc_at (hn := rfl)]
  exact ⟨h 0, h 1, h 2, h 3⟩

theorem putIgmp_no (g : Ig) (h : ¬ igOk g) (w : World) : Calls Try.prog 23 #[g.val] w fun e w' => e = .returned (.string ⟨#[]⟩) ∧ Below w.heap.size w w' := by
  have hI := igmpOk_spec g
  rw [decide_eq_false h] at hI
  clear h
  obtain ⟨kind, time, group, src⟩ := g
  unfold Ig.val at *
  simp only at hI ⊢
  have HI := Lib.hid hI; clear hI
  go_enter Try.func23, Try.ntmps23
  go_wp2_with fail
  refine (HI.out _).mono ?_
  rintro e w1 ⟨rfl, hb1⟩
  have hfin := ((Below.refl w.heap.size w).alloc (Nat.le_refl _) _).trans (hb1.mono (by simp))
  clear hb1
  go_wp2_with fail
  go_ret
  exact ⟨rfl, hfin⟩

theorem held4 {w1 cur w5 : World} {b : Nat} {c0 c1 c2 c3 : Value} (hA : Below w1.heap.size w1 cur) (hb : Below cur.heap.size cur w5) (hlt : b < w1.heap.size)
    (h : w1.cell? ⟨b, 0, none⟩ = some c0 ∧ w1.cell? ⟨b, 1, none⟩ = some c1 ∧ w1.cell? ⟨b, 2, none⟩ = some c2 ∧ w1.cell? ⟨b, 3, none⟩ = some c3) :
    Below w1.heap.size w1 w5 ∧ w5.cell? ⟨b, 0, none⟩ = some c0 ∧ w5.cell? ⟨b, 1, none⟩ = some c1 ∧ w5.cell? ⟨b, 2, none⟩ = some c2 ∧ w5.cell? ⟨b, 3, none⟩ = some c3 := by
  have hB := carry_below hA hb
  exact ⟨hB, (hB.cell (p := ⟨b, 0, none⟩) hlt).trans h.1, (hB.cell (p := ⟨b, 1, none⟩) hlt).trans h.2.1, (hB.cell (p := ⟨b, 2, none⟩) hlt).trans h.2.2.1, (hB.cell (p := ⟨b, 3, none⟩) hlt).trans h.2.2.2⟩

set_option maxHeartbeats 1000000 in
theorem putIgmp_spec (g : Ig) (h : igOk g) (w : World) : Calls Try.prog 23 #[g.val] w fun e w' => e = .returned (.string ⟨(igL g).toArray⟩) ∧ Below w.heap.size w w' := by
  have hI := igmpOk_spec g
  have hT := igmpTo_spec g
  rw [decide_eq_true h] at hI
  clear h
  obtain ⟨to, hto⟩ : ∃ to, igTo g = to := ⟨_, rfl⟩
  rw [hto] at hT
  have HTO := Lib.hid hto
  clear hto
  obtain ⟨kind, time, group, src⟩ := g
  unfold Ig.val at *
  simp only at hI hT ⊢
  have HI := Lib.hid hI; have HT := Lib.hid hT; clear hI hT
  have l1 := putL_length src 4
  have l2 := putL_length to 4
  have l3 := putL_length kind 1
  have l4 := putL_length time 1
  have l5 := putL_length group 4
  go_enter Try.func23, Try.ntmps23
  go_wp2_with fail
  refine (HI.out _).mono ?_
  rintro e w1 ⟨rfl, hb1⟩
  have hc := cells4 hb1
  have hsz1 : w.heap.size < w1.heap.size := by have := hb1.size; simp at this; omega
  have hbw1 := ((Below.refl w.heap.size w).alloc (Nat.le_refl _) _).trans (hb1.mono (by simp))
  have HC := Lib.hid hc
  have hB := Below.refl w1.heap.size w1
  obtain ⟨k0, k1, k2, k3⟩ := hc
  clear hb1
  go_wp2_with fail
  go_region_held3 (fun w' => Below w1.heap.size w1 w' ∧ w'.cell? ⟨w.heap.size, 0, none⟩ = some (.int .i64 kind) ∧ w'.cell? ⟨w.heap.size, 1, none⟩ = some (.int .i64 time) ∧ w'.cell? ⟨w.heap.size, 2, none⟩ = some (.int .i64 group) ∧ w'.cell? ⟨w.heap.size, 3, none⟩ = some (.int .i64 src)) (first | exact ⟨by assumption, by assumption, by assumption, by assumption, by assumption⟩ | exact ⟨Below.drew (by assumption), by assumption, by assumption, by assumption, by assumption⟩) (first | (go_at_call 39; refine (put_spec _ 4 _ (by decide) (by decide)).mono ?_; rintro e w5 ⟨rfl, hb5⟩; obtain ⟨hB5, m0, m1, m2, m3⟩ := held4 (by first | assumption | exact Below.drew (by assumption)) hb5 hsz1 HC.out) | (go_at_call 22; refine (HT.out _).mono ?_; rintro e w5 ⟨rfl, hb5⟩; obtain ⟨hB5, m0, m1, m2, m3⟩ := held4 (by first | assumption | exact Below.drew (by assumption)) hb5 hsz1 HC.out))
  clear k0 k1 k2 k3 hb5 hB
  generalize hob : ({ data := (putL src 4).toArray } ++ { data := (putL to 4).toArray } ++ { data := #[148, 4, 0, 0] } : ByteArray) = ob
  have hbl : ob.data.toList = igB ⟨kind, time, group, src⟩ := by
    rw [← hob]
    simp only [igB, HTO.out, ByteArray.data_append, Array.toList_append]
  have hbz : ob.size = 12 := by
    have e : ob.size = ob.data.toList.length := by rw [Array.length_toList]; rfl
    rw [e, hbl]
    simp only [igB, HTO.out, List.length_append, l1, l2]
    rfl
  have hbz' : ob.size ≤ 12 := by omega
  clear hob
  have HBL := Lib.hid hbl; have HBZ := Lib.hid hbz
  clear hbl hbz
  go_wp2_with fail
  generalize hoc : ({ data := #[70, 192, 0, 32, 0, 0, 0, 0, 1, 2] } ++ { data := #[0, 0] } ++ ob : ByteArray) = oc
  have hcl : oc.data.toList = igA ++ [0, 0] ++ igB ⟨kind, time, group, src⟩ := by
    rw [← hoc, ← HBL.out]
    simp only [igA, ByteArray.data_append, Array.toList_append]
  have hcz : oc.size ≤ 24 := by rw [← hoc, ByteArray.size_append, ByteArray.size_append, HBZ.out]; decide
  clear hoc
  refine (sum16_spec oc _ (by omega)).mono ?_
  rintro e w6 ⟨rfl, rfl⟩
  obtain ⟨s1, hs1⟩ : ∃ s1, sum16 (igA ++ [0, 0] ++ igB ⟨kind, time, group, src⟩) = s1 := ⟨_, rfl⟩
  rw [hcl, hs1]
  have HS1 := Lib.hid hs1
  clear hcl hs1
  go_wp2_with fail
  refine (put_spec _ 2 _ (by decide) (by decide)).mono ?_
  rintro e w6 ⟨rfl, hb6⟩
  rw [show (2 : Int).toNat = 2 from rfl]
  obtain ⟨hB6, n0, n1, n2, n3⟩ := held4 hB5 hb6 hsz1 HC.out
  obtain ⟨oq, hoq⟩ : ∃ oq : ByteArray, ({ data := (putL (s1 : Nat) 2).toArray } : ByteArray) = oq := ⟨_, rfl⟩
  have hql : oq.data.toList = putL (s1 : Nat) 2 := by rw [← hoq]
  have hqz : oq.size ≤ 2 := by
    have e : oq.size = oq.data.toList.length := by rw [Array.length_toList]; rfl
    rw [e, hql, putL_length]
    exact Nat.le_refl _
  rw [hoq]
  have HQL := Lib.hid hql
  clear hB5 m0 m1 m2 m3 hb6 hoq hql
  go_wp2_with fail
  go_region_held3 (fun w' => Below w1.heap.size w1 w' ∧ w'.cell? ⟨w.heap.size, 0, none⟩ = some (.int .i64 kind) ∧ w'.cell? ⟨w.heap.size, 1, none⟩ = some (.int .i64 time) ∧ w'.cell? ⟨w.heap.size, 2, none⟩ = some (.int .i64 group) ∧ w'.cell? ⟨w.heap.size, 3, none⟩ = some (.int .i64 src)) (first | exact ⟨by assumption, by assumption, by assumption, by assumption, by assumption⟩ | exact ⟨Below.drew (by assumption), by assumption, by assumption, by assumption, by assumption⟩) (first | (go_at_call 39; refine (put_spec _ _ _ (by decide) (by decide)).mono ?_; rintro e w7 ⟨rfl, hb7⟩; obtain ⟨hB7, m0, m1, m2, m3⟩ := held4 (by first | assumption | exact Below.drew (by assumption)) hb7 hsz1 HC.out))
  clear n0 n1 n2 n3 m0 m1 m2 m3 hb7
  generalize hok : ({ data := (putL kind 1).toArray } ++ { data := (putL time 1).toArray } : ByteArray) = ok
  have hkl : ok.data.toList = igK ⟨kind, time, group, src⟩ := by rw [← hok]; simp only [igK, ByteArray.data_append, Array.toList_append]
  have hkz : ok.size ≤ 2 := by
    have e : ok.size = ok.data.toList.length := by rw [Array.length_toList]; rfl
    rw [e, hkl]
    simp only [igK, List.length_append, l3, l4]
    exact Nat.le_refl _
  generalize hog : ({ data := (putL group 4).toArray } : ByteArray) = og
  have hgl : og.data.toList = putL group 4 := by rw [← hog]
  have hgz : og.size ≤ 4 := by
    have e : og.size = og.data.toList.length := by rw [Array.length_toList]; rfl
    rw [e, hgl, l5]
    exact Nat.le_refl _
  have HKL := Lib.hid hkl; have HGL := Lib.hid hgl
  clear hok hog hkl hgl l1 l2 l3 l4 l5
  go_wp2_with fail
  generalize hoc : (ok ++ { data := #[0, 0] } ++ og : ByteArray) = od
  have hdl : od.data.toList = igK ⟨kind, time, group, src⟩ ++ [0, 0] ++ putL group 4 := by
    rw [← hoc, ← HKL.out, ← HGL.out]
    simp only [ByteArray.data_append, Array.toList_append]
  have hdz : od.size ≤ 24 := by
    rw [← hoc, ByteArray.size_append, ByteArray.size_append]
    have e2 : ({ data := #[0, 0] } : ByteArray).size = 2 := rfl
    omega
  clear hoc
  refine (sum16_spec od _ (by omega)).mono ?_
  rintro e w8 ⟨rfl, rfl⟩
  obtain ⟨s2, hs2⟩ : ∃ s2, sum16 (igK ⟨kind, time, group, src⟩ ++ [0, 0] ++ putL group 4) = s2 := ⟨_, rfl⟩
  rw [hdl, hs2]
  have HS2 := Lib.hid hs2
  clear hdl hs2
  go_wp2_with fail
  refine (put_spec _ 2 _ (by decide) (by decide)).mono ?_
  rintro e w8 ⟨rfl, hb8⟩
  rw [show (2 : Int).toNat = 2 from rfl]
  obtain ⟨or2, hor⟩ : ∃ oq : ByteArray, ({ data := (putL (s2 : Nat) 2).toArray } : ByteArray) = oq := ⟨_, rfl⟩
  have hrl : or2.data.toList = putL (s2 : Nat) 2 := by rw [← hor]
  have hrz : or2.size ≤ 2 := by
    have e : or2.size = or2.data.toList.length := by rw [Array.length_toList]; rfl
    rw [e, hrl, putL_length]
    exact Nat.le_refl _
  rw [hor]
  have HRL := Lib.hid hrl
  have hfin := hbw1.trans ((carry_below hB7 hb8).mono hbw1.size)
  have HFIN := Lib.hid hfin
  clear hor hrl hfin hb8
  go_wp2_with fail
  go_ret
  refine ⟨congrArg (fun b => Ending.returned (.string b)) (ByteArray.ext (Array.toList_inj.1 ?_)), HFIN.out⟩
  simp only [ByteArray.data_append, Array.toList_append, HKL.out, HGL.out, HRL.out, HQL.out, HBL.out, igL, HS1.out, HS2.out]
  simp only [igA, List.append_assoc, List.cons_append, List.nil_append]
end Go.Proofs.Ytgnckbcpnailbaa
