
import Derived.Test.YtigkcillgniolaaTAA
import Derived.Test.YtigkcillgniolaaTAC
import Derived.Test.YtigkcillgniolaaTBB
import Derived.Test.YtigkcillgniolaaTBG
import Derived.Test.YtigkcillgniolaaTBS
import Derived.Test.YtigkcillgniolaaTBU
import Derived.Test.YtigkcillgniolaaTBV
set_option linter.unusedSimpArgs false
set_option linter.unusedVariables false
namespace Go.Proofs.Ytigkcillgniolaa
open Go.RowKit
open Go.RowKit Go.Maps
theorem zp8 {p : Prop} (h : p := by (repeat first | (with_reducible first | assumption | apply Holds.set4 | apply Holds.putL | ((refine Holds.new' _ _ ?_); (simp; done)) | refine Holds.alloc ?_ _ | refine Holds.drew ?_ | refine Holds.far ?_ (by simp only [ne_eq]; omega) _) | rfl)) : p := h
set_option maxRecDepth 100000 in
set_option maxHeartbeats 4000000 in
theorem Show_some (err miss full empty : Int) (G A : Option Addr) (d c : Nat) (gs : List Gr) (hs : List Hf) (w : World) (hG : GradesAt w G gs) (hgl : gs.length ≤ 4) (hgd : gs.length ≤ d) (hA : HandsAt w A hs) (hl : hs.length ≤ 6) (he : bothErr err miss gs full empty hs = 0) (hx : (boundsOf miss (fun _ => true) hs).empty = false) (j : Nat) (hj : j ≤ gs.length) (b : Bx) (hs_ : shownBx (boundsOf miss (fun _ => true) hs) gs (ix j) = some b) :
  Calls Try.prog 60 #[.agg #[.int .i64 err, .int .i64 miss, .slice G gs.length d], .agg #[.int .i64 full, .int .i64 empty, .slice A hs.length c], .int .i64 ((j : Int) - 1)] w fun e w' => e = .returned (.tuple #[.agg #[.int .i64 (b.l0 + b.t0), .int .i64 (b.l1 + b.t1), .int .i64 (b.l2 + b.t2), .int .i64 (b.l3 + b.t3)], .int .i64 0]) ∧ Below w.heap.size w w' := by
 obtain ⟨hg0, hc0⟩ := bothErr_zero he
 obtain ⟨_, _, _, i0, i1, hgr, _⟩ := gateErr_zero hg0
 obtain ⟨_, _, _, _, _, ht, hn⟩ := cartErr_zero hc0
 have HT := Lib.hid ht
 have HN := Lib.hid hn
 have HA := Lib.hid hA
 have HG := Lib.hid hG
 have HE := Lib.hid he
 have HX := Lib.hid hx
 have HR := Lib.hid hgr
 have HS := Lib.hid hs_
 have hw1 : (decide ((-1 : Int) ≤ (j : Int) - 1) && decide ((j : Int) - 1 ≤ (gs.length : Int) - 1)) = true := by simp only [Bool.and_eq_true, decide_eq_true_eq]; omega
 have HW := Lib.hid hw1
 clear hA hG he hx hg0 hc0 ht hn hgr hs_ hw1
 go_enter Try.func60, Try.ntmps60
 go_wp2_with fail
 refine (arrive_at err miss full empty G A d c gs hs _ (HG.out.up zg) (by omega) (HA.out.up zg) (by omega) HE.out).mono ?_
 rintro e w2 ⟨rfl, hb2⟩
 have Hr2 := Lib.hid (Holds.up (by exact zp8 : Holds _ (w.heap.size + 1 + 1) 28 #[.int .i64 0, .int .i64 0, .int .i64 0, .int .i64 0]) hb2)
 have Hg2 := Lib.hid (Holds.up (by exact zp8 : Holds _ (w.heap.size) 24 #[.int .i64 err, .int .i64 miss, .slice G gs.length d]) hb2)
 have HB2 : Hid (Below w.heap.size w w2) := Lib.hid (Below.trans zg (hb2.mono (by first | omega | (simp; done) | (simp; omega))))
 clear hb2
 have hsz2 := HB2.out.size
 obtain ⟨kr0, kr1, kr2, kr3⟩ := Hr2.out.c4
 have lt_r : w.heap.size + 1 + 1 < w2.heap.size := Hr2.out.lt
 obtain ⟨kg0, kg1, kg2⟩ := Hg2.out.c3
 have lt_g : w.heap.size < w2.heap.size := Hg2.out.lt
 go_wp2_with fail
 refine (within_any _ _ _ _).mono ?_
 rw [HW.out]
 rintro e w3 ⟨rfl, rfl⟩
 go_wp2_with fail
 refine (bounds_hand full empty err miss A c hs (.slice G gs.length d) _ (HA.out.up (HB2.out.trans zg)) (by omega) i0 i1 HT.out HN.out).mono ?_
 rintro e w4 ⟨rfl, hb4⟩
 clear kr0 kr1 kr2 kr3 lt_r kg0 kg1 kg2 lt_g
 have Hr4 := Lib.hid (Holds.up (by have h := Hr2.out; exact zp8 : Holds _ (w.heap.size + 1 + 1) 28 #[.int .i64 0, .int .i64 0, .int .i64 0, .int .i64 0]) hb4)
 have Ha4 := Lib.hid (Holds.up (by exact zp8 : Holds _ (w2.heap.size) 147 #[.int .i64 full, .int .i64 empty, .slice A hs.length c, .int .i64 err, .int .i64 miss, .slice G gs.length d, .func (.func 99) #[.agg #[.int .i64 full, .int .i64 empty, .slice A hs.length c]] #[]]) hb4)
 have HB4 : Hid (Below w.heap.size w w4) := Lib.hid (HB2.out.trans (Below.trans zg (hb4.mono (by have := HB2.out.size; simp; omega))))
 clear hb4
 go_wp2_with fail
 refine (empty_any (boundsOf miss (fun _ => true) hs) _).mono ?_
 rw [HX.out]
 rintro e w5 ⟨rfl, hb5⟩
 have Hr5 := Lib.hid (Hr4.out.up hb5)
 have Ha5 := Lib.hid (Ha4.out.up hb5)
 have HB5 := Lib.hid (HB4.out.trans (hb5.mono HB4.out.size))
 clear hb5
 obtain ⟨ka0, ka1, ka2, ka3, ka4, ka5, ka6⟩ := Ha5.out.c7
 have lt_a : w2.heap.size < w5.heap.size := Ha5.out.lt
 go_wp2_with fail
 refine (shown_any err miss full empty G A d c gs hs _ (HG.out.up HB5.out) hgl hgd HR.out (HA.out.up HB5.out) hl i0 i1 HT.out HN.out).mono ?_
 rintro e w6 ⟨mb, rfl, hm6, hb6⟩
 have HM := Lib.hid hm6
 have Hr6 := Lib.hid (Hr5.out.up hb6)
 have HB6 := Lib.hid (HB5.out.trans (hb6.mono HB5.out.size))
 clear hb6 hm6 ka0 ka1 ka2 ka3 ka4 ka5 ka6 lt_a
 obtain ⟨kr0, kr1, kr2, kr3⟩ := Hr6.out.c4
 obtain ⟨zr0, zr1, zr2, zr3⟩ := Hr6.out.f4
 have lt_r : w.heap.size + 1 + 1 < w6.heap.size := Hr6.out.lt
 have HH : Hid (Maps.has (shownD (boundsOf miss (fun _ => true) hs) gs (gs.length + 1)) (keyAt j) = true) := Lib.hid (by rw [shownD_has, HS.out, decide_eq_true (by omega : j < gs.length + 1)]; rfl)
 go_wp2_with (at_lookup; (refine wpList_lookup_mix _ rfl _ _ 166 rfl 3 28 (Maps.int_keyed und_int) und_map (zero_mix _) mb 10 _ rfl HM.out _ (keyAt j) rfl (key_at (j := j) (by omega)) true HH.out ?_); intro p q r s hat; (have HQ := Lib.hid (mixD_inj (hat.symm.trans (shownD_at (boundsOf miss (fun _ => true) hs) gs (mixD 0 0 0 0) (gs.length + 1) j b (by omega) HS.out)))); clear hat)
 exact ret_cell2 (t := 28) rfl rfl rfl (by have h := Hr6.out; exact zp8 : Holds _ (w.heap.size + 1 + 1) 28 #[.int .i64 p, .int .i64 q, .int .i64 r, .int .i64 s]) Try.underlying28 rfl (by kernel_rfl) rfl ⟨(by obtain ⟨e0, e1, e2, e3⟩ := HQ.out; rw [e0, e1, e2, e3]; rfl), HB6.out.trans zg⟩
set_option maxRecDepth 100000 in
set_option maxHeartbeats 4000000 in
theorem Show_none (err miss full empty : Int) (G A : Option Addr) (d c : Nat) (gs : List Gr) (hs : List Hf) (w : World) (hG : GradesAt w G gs) (hgl : gs.length ≤ 4) (hgd : gs.length ≤ d) (hA : HandsAt w A hs) (hl : hs.length ≤ 6) (he : bothErr err miss gs full empty hs = 0) (hx : (boundsOf miss (fun _ => true) hs).empty = false) (j : Nat) (hj : j ≤ gs.length) (hs_ : shownBx (boundsOf miss (fun _ => true) hs) gs (ix j) = none) :
  Calls Try.prog 60 #[.agg #[.int .i64 err, .int .i64 miss, .slice G gs.length d], .agg #[.int .i64 full, .int .i64 empty, .slice A hs.length c], .int .i64 ((j : Int) - 1)] w fun e w' => e = .returned (.tuple #[.agg #[.int .i64 0, .int .i64 0, .int .i64 0, .int .i64 0], .int .i64 6]) ∧ Below w.heap.size w w' := by
 obtain ⟨hg0, hc0⟩ := bothErr_zero he
 obtain ⟨_, _, _, i0, i1, hgr, _⟩ := gateErr_zero hg0
 obtain ⟨_, _, _, _, _, ht, hn⟩ := cartErr_zero hc0
 have HT := Lib.hid ht
 have HN := Lib.hid hn
 have HA := Lib.hid hA
 have HG := Lib.hid hG
 have HE := Lib.hid he
 have HX := Lib.hid hx
 have HR := Lib.hid hgr
 have HS := Lib.hid hs_
 have hw1 : (decide ((-1 : Int) ≤ (j : Int) - 1) && decide ((j : Int) - 1 ≤ (gs.length : Int) - 1)) = true := by simp only [Bool.and_eq_true, decide_eq_true_eq]; omega
 have HW := Lib.hid hw1
 clear hA hG he hx hg0 hc0 ht hn hgr hs_ hw1
 go_enter Try.func60, Try.ntmps60
 go_wp2_with fail
 refine (arrive_at err miss full empty G A d c gs hs _ (HG.out.up zg) (by omega) (HA.out.up zg) (by omega) HE.out).mono ?_
 rintro e w2 ⟨rfl, hb2⟩
 have Hr2 := Lib.hid (Holds.up (by exact zp8 : Holds _ (w.heap.size + 1 + 1) 28 #[.int .i64 0, .int .i64 0, .int .i64 0, .int .i64 0]) hb2)
 have Hg2 := Lib.hid (Holds.up (by exact zp8 : Holds _ (w.heap.size) 24 #[.int .i64 err, .int .i64 miss, .slice G gs.length d]) hb2)
 have HB2 : Hid (Below w.heap.size w w2) := Lib.hid (Below.trans zg (hb2.mono (by first | omega | (simp; done) | (simp; omega))))
 clear hb2
 have hsz2 := HB2.out.size
 obtain ⟨kr0, kr1, kr2, kr3⟩ := Hr2.out.c4
 have lt_r : w.heap.size + 1 + 1 < w2.heap.size := Hr2.out.lt
 obtain ⟨kg0, kg1, kg2⟩ := Hg2.out.c3
 have lt_g : w.heap.size < w2.heap.size := Hg2.out.lt
 go_wp2_with fail
 refine (within_any _ _ _ _).mono ?_
 rw [HW.out]
 rintro e w3 ⟨rfl, rfl⟩
 go_wp2_with fail
 refine (bounds_hand full empty err miss A c hs (.slice G gs.length d) _ (HA.out.up (HB2.out.trans zg)) (by omega) i0 i1 HT.out HN.out).mono ?_
 rintro e w4 ⟨rfl, hb4⟩
 clear kr0 kr1 kr2 kr3 lt_r kg0 kg1 kg2 lt_g
 have Hr4 := Lib.hid (Holds.up (by have h := Hr2.out; exact zp8 : Holds _ (w.heap.size + 1 + 1) 28 #[.int .i64 0, .int .i64 0, .int .i64 0, .int .i64 0]) hb4)
 have Ha4 := Lib.hid (Holds.up (by exact zp8 : Holds _ (w2.heap.size) 147 #[.int .i64 full, .int .i64 empty, .slice A hs.length c, .int .i64 err, .int .i64 miss, .slice G gs.length d, .func (.func 99) #[.agg #[.int .i64 full, .int .i64 empty, .slice A hs.length c]] #[]]) hb4)
 have HB4 : Hid (Below w.heap.size w w4) := Lib.hid (HB2.out.trans (Below.trans zg (hb4.mono (by have := HB2.out.size; simp; omega))))
 clear hb4
 go_wp2_with fail
 refine (empty_any (boundsOf miss (fun _ => true) hs) _).mono ?_
 rw [HX.out]
 rintro e w5 ⟨rfl, hb5⟩
 have Hr5 := Lib.hid (Hr4.out.up hb5)
 have Ha5 := Lib.hid (Ha4.out.up hb5)
 have HB5 := Lib.hid (HB4.out.trans (hb5.mono HB4.out.size))
 clear hb5
 obtain ⟨ka0, ka1, ka2, ka3, ka4, ka5, ka6⟩ := Ha5.out.c7
 have lt_a : w2.heap.size < w5.heap.size := Ha5.out.lt
 go_wp2_with fail
 refine (shown_any err miss full empty G A d c gs hs _ (HG.out.up HB5.out) hgl hgd HR.out (HA.out.up HB5.out) hl i0 i1 HT.out HN.out).mono ?_
 rintro e w6 ⟨mb, rfl, hm6, hb6⟩
 have HM := Lib.hid hm6
 have Hr6 := Lib.hid (Hr5.out.up hb6)
 have HB6 := Lib.hid (HB5.out.trans (hb6.mono HB5.out.size))
 clear hb6 hm6 ka0 ka1 ka2 ka3 ka4 ka5 ka6 lt_a
 obtain ⟨kr0, kr1, kr2, kr3⟩ := Hr6.out.c4
 obtain ⟨zr0, zr1, zr2, zr3⟩ := Hr6.out.f4
 have lt_r : w.heap.size + 1 + 1 < w6.heap.size := Hr6.out.lt
 have HH : Hid (Maps.has (shownD (boundsOf miss (fun _ => true) hs) gs (gs.length + 1)) (keyAt j) = false) := Lib.hid (by rw [shownD_has, HS.out, decide_eq_true (by omega : j < gs.length + 1)]; rfl)
 go_wp2_with (at_lookup; (refine wpList_lookup_mix _ rfl _ _ 166 rfl 3 28 (Maps.int_keyed und_int) und_map (zero_mix _) mb 10 _ rfl HM.out _ (keyAt j) rfl (key_at (j := j) (by omega)) false HH.out ?_); intro p q r s hat; clear hat)
 exact ret_cell2 (t := 28) rfl rfl rfl (by have h := Hr6.out; exact zp8 : Holds _ (w.heap.size + 1 + 1) 28 #[.int .i64 0, .int .i64 0, .int .i64 0, .int .i64 0]) Try.underlying28 rfl (by kernel_rfl) rfl ⟨rfl, HB6.out.trans zg⟩
theorem limB_iff {m0 m1 m2 m3 : Int} (h : Mix4 m0 m1 m2 m3) (g : Gr) : limB m0 m1 m2 m3 g = true ↔ g.limits.has m0 m1 m2 m3 := by
 obtain ⟨p0, p1, p2, p3, hs⟩ := h
 simp only [limB, Gr.limits, Bx.has, Bool.and_eq_true, decide_eq_true_eq]
 omega
theorem idx_spec (p : Gr → Bool) : ∀ (gs : List Gr) (s : Nat), (idxFrom p gs s = -1 ∧ ∀ g ∈ gs, p g = false) ∨ ∃ k, k < gs.length ∧ idxFrom p gs s = ((s + k : Nat) : Int) ∧ (∃ g, gs[k]? = some g ∧ p g = true) ∧ ∀ g ∈ gs.take k, p g = false := by
 intro gs
 induction gs with
 | nil => intro s; exact .inl ⟨rfl, by simp⟩
 | cons g gs ih =>
  intro s
  by_cases hp : p g = true
  ·exact .inr ⟨0, by simp, by simp [idxFrom, hp], ⟨g, by simp, hp⟩, by simp⟩
  ·have hp : p g = false := by simpa using hp
   rcases ih (s + 1) with ⟨h1, h2⟩ | ⟨k, hk, h1, ⟨x, hx, hpx⟩, h2⟩
   ·refine .inl ⟨by simp [idxFrom, hp, h1], ?_⟩
    intro x hx
    rcases List.mem_cons.1 hx with rfl | hx
    ·exact hp
    ·exact h2 x hx
   ·refine .inr ⟨k + 1, by simpa using hk, by simp only [idxFrom, hp, Bool.false_eq_true, if_false, h1]; omega, ⟨x, by simpa using hx, hpx⟩, ?_⟩
    intro y hy
    rw [List.take_succ_cons] at hy
    rcases List.mem_cons.1 hy with rfl | hy
    ·exact hp
    ·exact h2 y hy
theorem has_in {b : Bx} (o : b.ok) {gs : List Gr} {m0 m1 m2 m3 : Int} (h : Mix4 m0 m1 m2 m3) (hb : b.has m0 m1 m2 m3) : hasN gs m0 m1 m2 m3 ∈ canOf b gs := by
 have no : ∀ g, limB m0 m1 m2 m3 g = false → ¬ g.limits.has m0 m1 m2 m3 := fun g hg hh => by rw [(limB_iff h g).2 hh] at hg; cases hg
 unfold hasN
 rcases idx_spec (limB m0 m1 m2 m3) gs 0 with ⟨h1, h2⟩ | ⟨k, hk, h1, ⟨x, hx, hpx⟩, h2⟩
 ·rw [h1]
  have hg : HasGr gs m0 m1 m2 m3 none := fun g hg => no g (h2 g hg)
  cases hs : shownBx b gs none with
  | none => exact absurd hg (shownBx_none o (by simp) hs h.sum h.any hb)
  | some c => simp [canOf, hs]
 ·rw [h1]
  have hg : HasGr gs m0 m1 m2 m3 (some k) := ⟨⟨x, hx, (limB_iff h x).1 hpx⟩, fun g hg => no g (h2 g hg)⟩
  cases hs : shownBx b gs (some k) with
  | none => exact absurd hg (shownBx_none o (by intro j hj; cases hj; exact hk) hs h.sum h.any hb)
  | some c =>
   unfold canOf
   refine List.mem_append.2 (.inl (List.mem_map.2 ⟨k, List.mem_filter.2 ⟨List.mem_range.2 hk, by simp [hs]⟩, by simp⟩))
theorem fit_in {miss full emp err r0 r1 r2 r3 m0 m1 m2 m3 : Int} {gs : List Gr} {hs : List Hf} (hok : MadeOk err miss full emp r0 r1 r2 r3 gs hs) (h : Mix4 m0 m1 m2 m3) (hf : hs.all (fitH miss m0 m1 m2 m3) = true) : (boundsOf miss (fun _ => true) hs).has m0 m1 m2 m3 := by
 have hpos : ∀ x ∈ hs, 0 < x.sum := fun x hx => by have := (hok.taken x hx).n0; omega
 rw [bounds_has hpos h.sum]
 exact ⟨h.any, fun k x hx _ => fitH_iff.1 (List.all_eq_true.1 hf x (List.mem_of_getElem? hx))⟩
def RowIn (w : World) (a : Option Addr) (len cap : Nat) (zs : List Int) : Prop :=
 (a = none ∧ len = 0 ∧ cap = 0 ∧ zs = []) ∨ ∃ x, a = some x ∧ len ≤ cap ∧ cap ≤ maxLen ∧ zs.length = cap ∧ (∀ i, i < zs.length → w.cell? (x.add i) = some (.int .u8 (zs.getD i 0))) ∧ ∀ n ∈ zs, (Lit.int .u8 n).wf = true
theorem fit_real {err miss full emp m0 m1 m2 m3 : Int} {gs : List Gr} {hs : List Hf} (h : MadeOk err miss full emp m0 m1 m2 m3 gs hs) : hs.all (fitH miss m0 m1 m2 m3) = true :=
 List.all_eq_true.2 fun x hx => fitH_iff.2 (h.taken x hx).fits
theorem fit_of {err miss full emp r0 r1 r2 r3 m0 m1 m2 m3 : Int} {gs : List Gr} {hs : List Hf} (hok : MadeOk err miss full emp r0 r1 r2 r3 gs hs) (h : Mix4 m0 m1 m2 m3) (hb : (boundsOf miss (fun _ => true) hs).has m0 m1 m2 m3) : hs.all (fitH miss m0 m1 m2 m3) = true := by
 have hpos : ∀ x ∈ hs, 0 < x.sum := fun x hx => by have := (hok.taken x hx).n0; omega
 rw [bounds_has hpos h.sum] at hb
 refine List.all_eq_true.2 fun x hx => fitH_iff.2 ?_
 obtain ⟨k, hk, rfl⟩ := List.getElem_of_mem hx
 exact hb.2 k _ (List.getElem?_eq_getElem hk) rfl
theorem box_mix {b : Bx} (o : b.ok) {x0 x1 x2 x3 : Int} (h : b.has x0 x1 x2 x3) (hs : x0 + x1 + x2 + x3 = 40) : Mix4 x0 x1 x2 x3 := by
 have v0 := o.s0.bd
 have v1 := o.s1.bd
 have v2 := o.s2.bd
 have v3 := o.s3.bd
 unfold Bx.has at h
 exact ⟨by omega, by omega, by omega, by omega, hs⟩
theorem holds_has {b : Bx} {x0 x1 x2 x3 : Int} : b.holds x0 x1 x2 x3 = true ↔ b.has x0 x1 x2 x3 := by
 simp only [Bx.holds, within, Bx.has, Bool.and_eq_true, decide_eq_true_eq]
theorem some_any (err miss : Int) (G : Option Addr) (gl d : Nat) (A : Option Addr) (c : Nat) (hs : List Hf) (k : Nat) (hk : k < 4) (p : Int) (pb : -1000 ≤ p ∧ p ≤ 1000) (i0 : 0 ≤ miss) (i1 : miss ≤ 20) (w : World) (hA : HandsAt w A hs) (hl : hs.length ≤ 1000) (ht : ∀ x ∈ hs, x.taken = true) :
  Calls Try.prog 68 #[.agg #[.int .i64 err, .int .i64 miss, .slice G gl d], .slice A hs.length c, .int .i64 (k : Int), .int .i64 p] w (SomePost miss hs k p w) := by
 match k, hk with
 | 0, _ => exact some_0 err miss G gl d A c hs p pb i0 i1 w hA hl ht
 | 1, _ => exact some_1 err miss G gl d A c hs p pb i0 i1 w hA hl ht
 | 2, _ => exact some_2 err miss G gl d A c hs p pb i0 i1 w hA hl ht
 | 3, _ => exact some_3 err miss G gl d A c hs p pb i0 i1 w hA hl ht
theorem some_in {err miss full emp r0 r1 r2 r3 : Int} {gs : List Gr} {hs : List Hf} (hok : MadeOk err miss full emp r0 r1 r2 r3 gs hs) {B : Bx} (hB : boundsOf miss (fun _ => true) hs = B) (hBk : B.ok) (hBt : B.Tight) {k : Nat} (hk : k < 4) {p : Int} (h0 : bLo B k ≤ p) (h1 : p ≤ bHi B k) {w : World} {e : Ending} {w' : World} (h : SomePost miss hs k p w e w') : e = .returned (.bool true) ∧ Below w.heap.size w w' := by
 obtain ⟨r, rfl, _, hf, hb⟩ := h
 refine ⟨?_, hb⟩
 cases r with
 | true => rfl
 | false =>
  exfalso
  match k, hk, h0, h1 with
  | 0, _, h0, h1 =>
   obtain ⟨x, y, z, hz, hh⟩ := hBt.at0 h0 h1
   have hm := box_mix hBk hh hz
   have hfit := fit_of hok hm (by rw [hB]; exact hh)
   have hp := hm.p0
   have hq := hm.p1
   have hr := hm.p2
   have hs' := hm.p3
   have hz' : z = 40 - p - x - y := by omega
   have hn := hf rfl (by omega) (by omega) x y (by omega) (by omega) (by omega)
   have hn' : hs.all (fitH miss p x y (40 - p - x - y)) = false := hn
   rw [← hz', hfit] at hn'
   cases hn'
  | 1, _, h0, h1 =>
   obtain ⟨x, y, z, hz, hh⟩ := hBt.at1 h0 h1
   have hm := box_mix hBk hh hz
   have hfit := fit_of hok hm (by rw [hB]; exact hh)
   have hp := hm.p0
   have hq := hm.p1
   have hr := hm.p2
   have hs' := hm.p3
   have hz' : x = 40 - p - y - z := by omega
   have hn := hf rfl (by omega) (by omega) y z (by omega) (by omega) (by omega)
   have hn' : hs.all (fitH miss (40 - p - y - z) p y z) = false := hn
   rw [← hz', hfit] at hn'
   cases hn'
  | 2, _, h0, h1 =>
   obtain ⟨x, y, z, hz, hh⟩ := hBt.at2 h0 h1
   have hm := box_mix hBk hh hz
   have hfit := fit_of hok hm (by rw [hB]; exact hh)
   have hp := hm.p0
   have hq := hm.p1
   have hr := hm.p2
   have hs' := hm.p3
   have hz' : y = 40 - p - z - x := by omega
   have hn := hf rfl (by omega) (by omega) z x (by omega) (by omega) (by omega)
   have hn' : hs.all (fitH miss x (40 - p - z - x) p z) = false := hn
   rw [← hz', hfit] at hn'
   cases hn'
  | 3, _, h0, h1 =>
   obtain ⟨x, y, z, hz, hh⟩ := hBt.at3 h0 h1
   have hm := box_mix hBk hh hz
   have hfit := fit_of hok hm (by rw [hB]; exact hh)
   have hp := hm.p0
   have hq := hm.p1
   have hr := hm.p2
   have hs' := hm.p3
   have hz' : z = 40 - p - x - y := by omega
   have hn := hf rfl (by omega) (by omega) x y (by omega) (by omega) (by omega)
   have hn' : hs.all (fitH miss x y (40 - p - x - y) p) = false := hn
   rw [← hz', hfit] at hn'
   cases hn'
theorem some_out {err miss full emp r0 r1 r2 r3 : Int} {gs : List Gr} {hs : List Hf} (hok : MadeOk err miss full emp r0 r1 r2 r3 gs hs) {B : Bx} (hB : boundsOf miss (fun _ => true) hs = B) {k : Nat} (hk : k < 4) {p : Int} (ho : p < bLo B k ∨ bHi B k < p) {w : World} {e : Ending} {w' : World} (h : SomePost miss hs k p w e w') : e = .returned (.bool false) ∧ Below w.heap.size w w' := by
 obtain ⟨r, rfl, ht, _, hb⟩ := h
 refine ⟨?_, hb⟩
 cases r with
 | false => rfl
 | true =>
  exfalso
  obtain ⟨⟨hp0, hp1⟩, a, b, ha, hb', hle, hab⟩ := ht rfl
  match k, hk, ho with
  | 0, _, ho =>
   have hm : Mix4 p a b (40 - p - a - b) := ⟨by omega, by omega, by omega, by omega, by omega⟩
   have hh := fit_in hok hm hab
   rw [hB] at hh
   have h1 := hh.1
   have h2 : p < B.l0 ∨ B.h0 < p := ho
   omega
  | 1, _, ho =>
   have hm : Mix4 (40 - p - a - b) p a b := ⟨by omega, by omega, by omega, by omega, by omega⟩
   have hh := fit_in hok hm hab
   rw [hB] at hh
   have h1 := hh.2.1
   have h2 : p < B.l1 ∨ B.h1 < p := ho
   omega
  | 2, _, ho =>
   have hm : Mix4 b (40 - p - a - b) p a := ⟨by omega, by omega, by omega, by omega, by omega⟩
   have hh := fit_in hok hm hab
   rw [hB] at hh
   have h1 := hh.2.2.1
   have h2 : p < B.l2 ∨ B.h2 < p := ho
   omega
  | 3, _, ho =>
   have hm : Mix4 a b (40 - p - a - b) p := ⟨by omega, by omega, by omega, by omega, by omega⟩
   have hh := fit_in hok hm hab
   rw [hB] at hh
   have h1 := hh.2.2.2
   have h2 : p < B.l3 ∨ B.h3 < p := ho
   omega
theorem ix_lt {gs : List Gr} {j : Nat} (hj : j ≤ gs.length) : ∀ k, ix j = some k → k < gs.length := by
 intro k hk
 cases j with
 | zero => cases hk
 | succ i => cases hk; omega
theorem can_has (b : Bx) {gs : List Gr} {j : Nat} (hj : j ≤ gs.length) : (canOf b gs).contains ((j : Int) - 1) = (shownBx b gs (ix j)).isSome := by
 rw [Bool.eq_iff_iff, List.contains_iff_mem]
 unfold canOf
 cases j with
 | zero =>
  show _ ↔ (shownBx b gs none).isSome = true
  constructor
  ·intro h
   rcases List.mem_append.1 h with h | h
   ·obtain ⟨i, _, hi⟩ := List.mem_map.1 h
    exfalso
    have : (i : Int) = ((0 : Nat) : Int) - 1 := hi
    omega
   ·cases hs : (shownBx b gs none).isSome with
    | true => rfl
    | false => rw [hs] at h; simp at h
  ·intro h
   exact List.mem_append.2 (.inr (by rw [h]; simp))
 | succ i =>
  show _ ↔ (shownBx b gs (some i)).isSome = true
  have e : (((i + 1 : Nat) : Int) - 1) = Int.ofNat i := by show _ = (i : Int); omega
  rw [e]
  constructor
  ·intro h
   rcases List.mem_append.1 h with h | h
   ·obtain ⟨k, hk, hi⟩ := List.mem_map.1 h
    cases hi
    exact (List.mem_filter.1 hk).2
   ·cases hs : (shownBx b gs none).isSome with
    | true => rw [hs] at h; simp at h
    | false => rw [hs] at h; simp at h
  ·intro h
   exact List.mem_append.2 (.inl (List.mem_map.2 ⟨i, List.mem_filter.2 ⟨List.mem_range.2 (by omega), h⟩, rfl⟩))
theorem has_of_gr {m0 m1 m2 m3 : Int} (h : Mix4 m0 m1 m2 m3) {gs : List Gr} {j : Nat} (hg : HasGr gs m0 m1 m2 m3 (ix j)) : hasN gs m0 m1 m2 m3 = (j : Int) - 1 := by
 unfold hasN
 rcases idx_spec (limB m0 m1 m2 m3) gs 0 with ⟨h1, h2⟩ | ⟨k, hk, h1, ⟨x, hx, hpx⟩, h2⟩
 ·rw [h1]
  cases j with
  | zero => rfl
  | succ i =>
   exfalso
   obtain ⟨⟨g, hgi, hgl⟩, _⟩ := hg
   have := h2 g (List.mem_of_getElem? hgi)
   rw [(limB_iff h g).2 hgl] at this
   cases this
 ·rw [h1]
  cases j with
  | zero =>
   exfalso
   exact hg x (List.mem_of_getElem? hx) ((limB_iff h x).1 hpx)
  | succ i =>
   obtain ⟨⟨g, hgi, hgl⟩, hno⟩ := hg
   have hki : k = i := by
    rcases Nat.lt_trichotomy k i with hlt | he | hgt
    ·exact absurd ((limB_iff h x).1 hpx) (hno x (List.mem_of_getElem? (i := k) (by rw [List.getElem?_take]; simp [hlt, hx])))
    ·exact he
    ·have := h2 g (List.mem_of_getElem? (i := i) (by rw [List.getElem?_take]; simp [hgt, hgi]))
     rw [(limB_iff h g).2 hgl] at this
     cases this
   subst hki
   omega
structure ShownOk (miss : Int) (hs : List Hf) (gs : List Gr) (j : Nat) (s0 s1 s2 s3 : Int) : Prop where
 mix : Mix4 s0 s1 s2 s3
 fit : hs.all (fitH miss s0 s1 s2 s3) = true
 gr : hasN gs s0 s1 s2 s3 = (j : Int) - 1
theorem shown_ok {err miss full emp r0 r1 r2 r3 : Int} {gs : List Gr} {hs : List Hf} (hok : MadeOk err miss full emp r0 r1 r2 r3 gs hs) {B : Bx} (hB : boundsOf miss (fun _ => true) hs = B) (hBk : B.ok) {j : Nat} (hj : j ≤ gs.length) {c : Bx} (hc : shownBx B gs (ix j) = some c) : ShownOk miss hs gs j (c.l0 + c.t0) (c.l1 + c.t1) (c.l2 + c.t2) (c.l3 + c.t3) := by
 obtain ⟨⟨hs40, _⟩, hb, hg, _⟩ := shownBx_some hBk (ix_lt hj) hc
 have hm := box_mix hBk hb hs40
 exact ⟨hm, fit_of hok hm (by rw [hB]; exact hb), has_of_gr hm hg⟩
end Go.Proofs.Ytigkcillgniolaa
