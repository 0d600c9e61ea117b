import Derived.Shelf.Spec.SlicesInsert
import Derived.Deep.MidRow
import Derived.Test.YtifffonoipapgaaTAA
import Derived.Test.YtifffonoipapgaaTAC
import Derived.Test.YtifffonoipapgaaTAH
import Derived.Test.YtifffonoipapgaaTAN
import Derived.Test.YtifffonoipapgaaTAO
import Derived.Test.YtifffonoipapgaaTAU
import Derived.Test.YtifffonoipapgaaTAV
import Derived.Test.YtifffonoipapgaaTAX
import Derived.Test.YtifffonoipapgaaTBB
import Derived.Test.YtifffonoipapgaaTBC
import Derived.Test.YtifffonoipapgaaTBG
import Derived.Test.YtifffonoipapgaaTBH
set_option linter.unusedSimpArgs false
set_option linter.unusedVariables false
namespace Go.Proofs.Ytifffonoipapgaa
open Go.RowKit
theorem cell4_at {w : World} {B : Nat} {T : TypeId} {g0 g1 g2 g3 : Int} (h : Holds w B T #[.int .i64 g0, .int .i64 g1, .int .i64 g2, .int .i64 g3]) {k : Nat} (hk : k < 4) : w.cell? ⟨B, k, none⟩ = some (.int .i64 (gat g0 g1 g2 g3 k)) := by
 rw [h.cell]
 match k, hk with
 | 0, _ => rfl
 | 1, _ => rfl
 | 2, _ => rfl
 | 3, _ => rfl
def fitK (miss n g m : Int) : Bool := decide (m * n - 40 * g ≤ 40 * miss) && decide (40 * g - m * n ≤ 40 * miss)
def fitTo (miss n : Int) (g m : Nat → Int) : Nat → Bool
 | 0 => true
 | k + 1 => fitTo miss n g m k && fitK miss n (g k) (m k)
def fitH (miss m0 m1 m2 m3 : Int) (h : Hf) : Bool := fitTo miss h.sum (gat h.g0 h.g1 h.g2 h.g3) (gat m0 m1 m2 m3) 4
theorem fitTo_false {miss n : Int} {g m : Nat → Int} {k : Nat} (h : fitK miss n (g k) (m k) = false) : ∀ j, k < j → fitTo miss n g m j = false := by
 intro j
 induction j with
 | zero => intro h; omega
 | succ j ih =>
  intro hj
  unfold fitTo
  by_cases hk : k = j
  ·subst hk; rw [h, Bool.and_false]
  ·rw [ih (by omega), Bool.false_and]
theorem fitH_iff {miss m0 m1 m2 m3 : Int} {h : Hf} : fitH miss m0 m1 m2 m3 h = true ↔ h.fitsM miss m0 m1 m2 m3 := by
 simp only [fitH, fitTo, fitK, Hf.fitsM, fitsK, gat, Bool.and_eq_true, decide_eq_true_eq, Bool.true_and]
 omega
theorem gat_of {g0 g1 g2 g3 lo hi : Int} (a0 : lo ≤ g0) (a1 : lo ≤ g1) (a2 : lo ≤ g2) (a3 : lo ≤ g3) (b0 : g0 ≤ hi) (b1 : g1 ≤ hi) (b2 : g2 ≤ hi) (b3 : g3 ≤ hi) (k : Nat) : lo ≤ gat g0 g1 g2 g3 k ∧ gat g0 g1 g2 g3 k ≤ hi := by
 unfold gat
 split <;> omega
def bLo (b : Bx) (k : Nat) : Int := gat b.l0 b.l1 b.l2 b.l3 k
def bHi (b : Bx) (k : Nat) : Int := gat b.h0 b.h1 b.h2 b.h3 k
def limB (m0 m1 m2 m3 : Int) (g : Gr) : Bool := decide (g.corn ≤ m0) && decide (m1 ≤ g.chaff) && decide (m2 ≤ g.stones) && decide (m3 ≤ g.damp)
def idxFrom (p : Gr → Bool) : List Gr → Nat → Int
 | [], _ => -1
 | g :: gs, k => if p g then (k : Int) else idxFrom p gs (k + 1)
def hasN (gs : List Gr) (m0 m1 m2 m3 : Int) : Int := idxFrom (limB m0 m1 m2 m3) gs 0
theorem mix_err {m0 m1 m2 m3 : Int} (h : Mix4 m0 m1 m2 m3) : mixErr m0 m1 m2 m3 = 0 := by
 obtain ⟨p0, p1, p2, p3, hs⟩ := h
 have hw : (within m0 0 40 && within m1 0 40 && within m2 0 40 && within m3 0 40) = true := by
  simp only [within, Bool.and_eq_true, decide_eq_true_eq]
  omega
 unfold mixErr
 rw [hw]
 simp [hs]

open Go.RowKit Go.Maps
theorem zp6 {p : Prop} (h : p := by (repeat first | (with_reducible first | assumption | apply Holds.set4 | apply Holds.putL | ((refine Holds.new' _ _ ?_); (simp; done)) | refine Holds.alloc ?_ _ | refine Holds.drew ?_ | refine Holds.far ?_ (by simp only [ne_eq]; omega) _) | rfl)) : p := h
set_option maxRecDepth 100000 in
set_option maxHeartbeats 4000000 in
theorem Show_some (err miss full empty : Int) (G A : Option Addr) (d c : Nat) (gs : List Gr) (hs : List Hf) (w : World) (hG : GradesAt w G gs) (hgl : gs.length ≤ 4) (hgd : gs.length ≤ d) (hA : HandsAt w A hs) (hl : hs.length ≤ 6) (he : bothErr err miss gs full empty hs = 0) (hx : (boundsOf miss (fun _ => true) hs).empty = false) (j : Nat) (hj : j ≤ gs.length) (b : Bx) (hs_ : shownBx (boundsOf miss (fun _ => true) hs) gs (ix j) = some b) :
  Calls Try.prog 60 #[.agg #[.int .i64 err, .int .i64 miss, .slice G gs.length d], .agg #[.int .i64 full, .int .i64 empty, .slice A hs.length c], .int .i64 ((j : Int) - 1)] w fun e w' => e = .returned (.tuple #[.agg #[.int .i64 (b.l0 + b.t0), .int .i64 (b.l1 + b.t1), .int .i64 (b.l2 + b.t2), .int .i64 (b.l3 + b.t3)], .int .i64 0]) ∧ Below w.heap.size w w' := by
 obtain ⟨hg0, hc0⟩ := bothErr_zero he
 obtain ⟨_, _, _, i0, i1, hgr, _⟩ := gateErr_zero hg0
 obtain ⟨_, _, _, _, _, ht, hn⟩ := cartErr_zero hc0
 have HT := Lib.hid ht
 have HN := Lib.hid hn
 have HA := Lib.hid hA
 have HG := Lib.hid hG
 have HE := Lib.hid he
 have HX := Lib.hid hx
 have HR := Lib.hid hgr
 have HS := Lib.hid hs_
 have hw1 : (decide ((-1 : Int) ≤ (j : Int) - 1) && decide ((j : Int) - 1 ≤ (gs.length : Int) - 1)) = true := by simp only [Bool.and_eq_true, decide_eq_true_eq]; omega
 have HW := Lib.hid hw1
 clear hA hG he hx hg0 hc0 ht hn hgr hs_ hw1
 go_enter Try.func60, Try.ntmps60
 go_wp2_with fail
 refine (arrive_at err miss full empty G A d c gs hs _ (HG.out.up zg) (by omega) (HA.out.up zg) (by omega) HE.out).mono ?_
 rintro e w2 ⟨rfl, hb2⟩
 have Hr2 := Lib.hid (Holds.up (by exact zp6 : Holds _ (w.heap.size + 1 + 1) 28 #[.int .i64 0, .int .i64 0, .int .i64 0, .int .i64 0]) hb2)
 have Hg2 := Lib.hid (Holds.up (by exact zp6 : Holds _ (w.heap.size) 24 #[.int .i64 err, .int .i64 miss, .slice G gs.length d]) hb2)
 have HB2 : Hid (Below w.heap.size w w2) := Lib.hid (Below.trans zg (hb2.mono (by first | omega | (simp; done) | (simp; omega))))
 clear hb2
 have hsz2 := HB2.out.size
 obtain ⟨kr0, kr1, kr2, kr3⟩ := Hr2.out.c4
 have lt_r : w.heap.size + 1 + 1 < w2.heap.size := Hr2.out.lt
 obtain ⟨kg0, kg1, kg2⟩ := Hg2.out.c3
 have lt_g : w.heap.size < w2.heap.size := Hg2.out.lt
 go_wp2_with fail
 refine (within_any _ _ _ _).mono ?_
 rw [HW.out]
 rintro e w3 ⟨rfl, rfl⟩
 go_wp2_with fail
 refine (bounds_hand full empty err miss A c hs (.slice G gs.length d) _ (HA.out.up (HB2.out.trans zg)) (by omega) i0 i1 HT.out HN.out).mono ?_
 rintro e w4 ⟨rfl, hb4⟩
 clear kr0 kr1 kr2 kr3 lt_r kg0 kg1 kg2 lt_g
 have Hr4 := Lib.hid (Holds.up (by have h := Hr2.out; exact zp6 : Holds _ (w.heap.size + 1 + 1) 28 #[.int .i64 0, .int .i64 0, .int .i64 0, .int .i64 0]) hb4)
 have Ha4 := Lib.hid (Holds.up (by exact zp6 : Holds _ (w2.heap.size) 147 #[.int .i64 full, .int .i64 empty, .slice A hs.length c, .int .i64 err, .int .i64 miss, .slice G gs.length d, .func (.func 99) #[.agg #[.int .i64 full, .int .i64 empty, .slice A hs.length c]] #[]]) hb4)
 have HB4 : Hid (Below w.heap.size w w4) := Lib.hid (HB2.out.trans (Below.trans zg (hb4.mono (by have := HB2.out.size; simp; omega))))
 clear hb4
 go_wp2_with fail
 refine (empty_any (boundsOf miss (fun _ => true) hs) _).mono ?_
 rw [HX.out]
 rintro e w5 ⟨rfl, hb5⟩
 have Hr5 := Lib.hid (Hr4.out.up hb5)
 have Ha5 := Lib.hid (Ha4.out.up hb5)
 have HB5 := Lib.hid (HB4.out.trans (hb5.mono HB4.out.size))
 clear hb5
 obtain ⟨ka0, ka1, ka2, ka3, ka4, ka5, ka6⟩ := Ha5.out.c7
 have lt_a : w2.heap.size < w5.heap.size := Ha5.out.lt
 go_wp2_with fail
 refine (shown_any err miss full empty G A d c gs hs _ (HG.out.up HB5.out) hgl hgd HR.out (HA.out.up HB5.out) hl i0 i1 HT.out HN.out).mono ?_
 rintro e w6 ⟨mb, rfl, hm6, hb6⟩
 have HM := Lib.hid hm6
 have Hr6 := Lib.hid (Hr5.out.up hb6)
 have HB6 := Lib.hid (HB5.out.trans (hb6.mono HB5.out.size))
 clear hb6 hm6 ka0 ka1 ka2 ka3 ka4 ka5 ka6 lt_a
 obtain ⟨kr0, kr1, kr2, kr3⟩ := Hr6.out.c4
 obtain ⟨zr0, zr1, zr2, zr3⟩ := Hr6.out.f4
 have lt_r : w.heap.size + 1 + 1 < w6.heap.size := Hr6.out.lt
 have HH : Hid (Maps.has (shownD (boundsOf miss (fun _ => true) hs) gs (gs.length + 1)) (keyAt j) = true) := Lib.hid (by rw [shownD_has, HS.out, decide_eq_true (by omega : j < gs.length + 1)]; rfl)
 go_wp2_with (at_lookup; (refine wpList_lookup_mix _ rfl _ _ 166 rfl 3 28 (Maps.int_keyed und_int) und_map (zero_mix _) mb 10 _ rfl HM.out _ (keyAt j) rfl (key_at (j := j) (by omega)) true HH.out ?_); intro p q r s hat; (have HQ := Lib.hid (mixD_inj (hat.symm.trans (shownD_at (boundsOf miss (fun _ => true) hs) gs (mixD 0 0 0 0) (gs.length + 1) j b (by omega) HS.out)))); clear hat)
 exact ret_cell2 (t := 28) rfl rfl rfl (by have h := Hr6.out; exact zp6 : Holds _ (w.heap.size + 1 + 1) 28 #[.int .i64 p, .int .i64 q, .int .i64 r, .int .i64 s]) Try.underlying28 rfl (by kernel_rfl) rfl ⟨(by obtain ⟨e0, e1, e2, e3⟩ := HQ.out; rw [e0, e1, e2, e3]; rfl), HB6.out.trans zg⟩
set_option maxRecDepth 100000 in
set_option maxHeartbeats 4000000 in
theorem Show_none (err miss full empty : Int) (G A : Option Addr) (d c : Nat) (gs : List Gr) (hs : List Hf) (w : World) (hG : GradesAt w G gs) (hgl : gs.length ≤ 4) (hgd : gs.length ≤ d) (hA : HandsAt w A hs) (hl : hs.length ≤ 6) (he : bothErr err miss gs full empty hs = 0) (hx : (boundsOf miss (fun _ => true) hs).empty = false) (j : Nat) (hj : j ≤ gs.length) (hs_ : shownBx (boundsOf miss (fun _ => true) hs) gs (ix j) = none) :
  Calls Try.prog 60 #[.agg #[.int .i64 err, .int .i64 miss, .slice G gs.length d], .agg #[.int .i64 full, .int .i64 empty, .slice A hs.length c], .int .i64 ((j : Int) - 1)] w fun e w' => e = .returned (.tuple #[.agg #[.int .i64 0, .int .i64 0, .int .i64 0, .int .i64 0], .int .i64 6]) ∧ Below w.heap.size w w' := by
 obtain ⟨hg0, hc0⟩ := bothErr_zero he
 obtain ⟨_, _, _, i0, i1, hgr, _⟩ := gateErr_zero hg0
 obtain ⟨_, _, _, _, _, ht, hn⟩ := cartErr_zero hc0
 have HT := Lib.hid ht
 have HN := Lib.hid hn
 have HA := Lib.hid hA
 have HG := Lib.hid hG
 have HE := Lib.hid he
 have HX := Lib.hid hx
 have HR := Lib.hid hgr
 have HS := Lib.hid hs_
 have hw1 : (decide ((-1 : Int) ≤ (j : Int) - 1) && decide ((j : Int) - 1 ≤ (gs.length : Int) - 1)) = true := by simp only [Bool.and_eq_true, decide_eq_true_eq]; omega
 have HW := Lib.hid hw1
 clear hA hG he hx hg0 hc0 ht hn hgr hs_ hw1
 go_enter Try.func60, Try.ntmps60
 go_wp2_with fail
 refine (arrive_at err miss full empty G A d c gs hs _ (HG.out.up zg) (by omega) (HA.out.up zg) (by omega) HE.out).mono ?_
 rintro e w2 ⟨rfl, hb2⟩
 have Hr2 := Lib.hid (Holds.up (by exact zp6 : Holds _ (w.heap.size + 1 + 1) 28 #[.int .i64 0, .int .i64 0, .int .i64 0, .int .i64 0]) hb2)
 have Hg2 := Lib.hid (Holds.up (by exact zp6 : Holds _ (w.heap.size) 24 #[.int .i64 err, .int .i64 miss, .slice G gs.length d]) hb2)
 have HB2 : Hid (Below w.heap.size w w2) := Lib.hid (Below.trans zg (hb2.mono (by first | omega | (simp; done) | (simp; omega))))
 clear hb2
 have hsz2 := HB2.out.size
 obtain ⟨kr0, kr1, kr2, kr3⟩ := Hr2.out.c4
 have lt_r : w.heap.size + 1 + 1 < w2.heap.size := Hr2.out.lt
 obtain ⟨kg0, kg1, kg2⟩ := Hg2.out.c3
 have lt_g : w.heap.size < w2.heap.size := Hg2.out.lt
 go_wp2_with fail
 refine (within_any _ _ _ _).mono ?_
 rw [HW.out]
 rintro e w3 ⟨rfl, rfl⟩
 go_wp2_with fail
 refine (bounds_hand full empty err miss A c hs (.slice G gs.length d) _ (HA.out.up (HB2.out.trans zg)) (by omega) i0 i1 HT.out HN.out).mono ?_
 rintro e w4 ⟨rfl, hb4⟩
 clear kr0 kr1 kr2 kr3 lt_r kg0 kg1 kg2 lt_g
 have Hr4 := Lib.hid (Holds.up (by have h := Hr2.out; exact zp6 : Holds _ (w.heap.size + 1 + 1) 28 #[.int .i64 0, .int .i64 0, .int .i64 0, .int .i64 0]) hb4)
 have Ha4 := Lib.hid (Holds.up (by exact zp6 : Holds _ (w2.heap.size) 147 #[.int .i64 full, .int .i64 empty, .slice A hs.length c, .int .i64 err, .int .i64 miss, .slice G gs.length d, .func (.func 99) #[.agg #[.int .i64 full, .int .i64 empty, .slice A hs.length c]] #[]]) hb4)
 have HB4 : Hid (Below w.heap.size w w4) := Lib.hid (HB2.out.trans (Below.trans zg (hb4.mono (by have := HB2.out.size; simp; omega))))
 clear hb4
 go_wp2_with fail
 refine (empty_any (boundsOf miss (fun _ => true) hs) _).mono ?_
 rw [HX.out]
 rintro e w5 ⟨rfl, hb5⟩
 have Hr5 := Lib.hid (Hr4.out.up hb5)
 have Ha5 := Lib.hid (Ha4.out.up hb5)
 have HB5 := Lib.hid (HB4.out.trans (hb5.mono HB4.out.size))
 clear hb5
 obtain ⟨ka0, ka1, ka2, ka3, ka4, ka5, ka6⟩ := Ha5.out.c7
 have lt_a : w2.heap.size < w5.heap.size := Ha5.out.lt
 go_wp2_with fail
 refine (shown_any err miss full empty G A d c gs hs _ (HG.out.up HB5.out) hgl hgd HR.out (HA.out.up HB5.out) hl i0 i1 HT.out HN.out).mono ?_
 rintro e w6 ⟨mb, rfl, hm6, hb6⟩
 have HM := Lib.hid hm6
 have Hr6 := Lib.hid (Hr5.out.up hb6)
 have HB6 := Lib.hid (HB5.out.trans (hb6.mono HB5.out.size))
 clear hb6 hm6 ka0 ka1 ka2 ka3 ka4 ka5 ka6 lt_a
 obtain ⟨kr0, kr1, kr2, kr3⟩ := Hr6.out.c4
 obtain ⟨zr0, zr1, zr2, zr3⟩ := Hr6.out.f4
 have lt_r : w.heap.size + 1 + 1 < w6.heap.size := Hr6.out.lt
 have HH : Hid (Maps.has (shownD (boundsOf miss (fun _ => true) hs) gs (gs.length + 1)) (keyAt j) = false) := Lib.hid (by rw [shownD_has, HS.out, decide_eq_true (by omega : j < gs.length + 1)]; rfl)
 go_wp2_with (at_lookup; (refine wpList_lookup_mix _ rfl _ _ 166 rfl 3 28 (Maps.int_keyed und_int) und_map (zero_mix _) mb 10 _ rfl HM.out _ (keyAt j) rfl (key_at (j := j) (by omega)) false HH.out ?_); intro p q r s hat; clear hat)
 exact ret_cell2 (t := 28) rfl rfl rfl (by have h := Hr6.out; exact zp6 : Holds _ (w.heap.size + 1 + 1) 28 #[.int .i64 0, .int .i64 0, .int .i64 0, .int .i64 0]) Try.underlying28 rfl (by kernel_rfl) rfl ⟨rfl, HB6.out.trans zg⟩
theorem limB_iff {m0 m1 m2 m3 : Int} (h : Mix4 m0 m1 m2 m3) (g : Gr) : limB m0 m1 m2 m3 g = true ↔ g.limits.has m0 m1 m2 m3 := by
 obtain ⟨p0, p1, p2, p3, hs⟩ := h
 simp only [limB, Gr.limits, Bx.has, Bool.and_eq_true, decide_eq_true_eq]
 omega
theorem idx_spec (p : Gr → Bool) : ∀ (gs : List Gr) (s : Nat), (idxFrom p gs s = -1 ∧ ∀ g ∈ gs, p g = false) ∨ ∃ k, k < gs.length ∧ idxFrom p gs s = ((s + k : Nat) : Int) ∧ (∃ g, gs[k]? = some g ∧ p g = true) ∧ ∀ g ∈ gs.take k, p g = false := by
 intro gs
 induction gs with
 | nil => intro s; exact .inl ⟨rfl, by simp⟩
 | cons g gs ih =>
  intro s
  by_cases hp : p g = true
  ·exact .inr ⟨0, by simp, by simp [idxFrom, hp], ⟨g, by simp, hp⟩, by simp⟩
  ·have hp : p g = false := by simpa using hp
   rcases ih (s + 1) with ⟨h1, h2⟩ | ⟨k, hk, h1, ⟨x, hx, hpx⟩, h2⟩
   ·refine .inl ⟨by simp [idxFrom, hp, h1], ?_⟩
    intro x hx
    rcases List.mem_cons.1 hx with rfl | hx
    ·exact hp
    ·exact h2 x hx
   ·refine .inr ⟨k + 1, by simpa using hk, by simp only [idxFrom, hp, Bool.false_eq_true, if_false, h1]; omega, ⟨x, by simpa using hx, hpx⟩, ?_⟩
    intro y hy
    rw [List.take_succ_cons] at hy
    rcases List.mem_cons.1 hy with rfl | hy
    ·exact hp
    ·exact h2 y hy
theorem has_in {b : Bx} (o : b.ok) {gs : List Gr} {m0 m1 m2 m3 : Int} (h : Mix4 m0 m1 m2 m3) (hb : b.has m0 m1 m2 m3) : hasN gs m0 m1 m2 m3 ∈ canOf b gs := by
 have no : ∀ g, limB m0 m1 m2 m3 g = false → ¬ g.limits.has m0 m1 m2 m3 := fun g hg hh => by rw [(limB_iff h g).2 hh] at hg; cases hg
 unfold hasN
 rcases idx_spec (limB m0 m1 m2 m3) gs 0 with ⟨h1, h2⟩ | ⟨k, hk, h1, ⟨x, hx, hpx⟩, h2⟩
 ·rw [h1]
  have hg : HasGr gs m0 m1 m2 m3 none := fun g hg => no g (h2 g hg)
  cases hs : shownBx b gs none with
  | none => exact absurd hg (shownBx_none o (by simp) hs h.sum h.any hb)
  | some c => simp [canOf, hs]
 ·rw [h1]
  have hg : HasGr gs m0 m1 m2 m3 (some k) := ⟨⟨x, hx, (limB_iff h x).1 hpx⟩, fun g hg => no g (h2 g hg)⟩
  cases hs : shownBx b gs (some k) with
  | none => exact absurd hg (shownBx_none o (by intro j hj; cases hj; exact hk) hs h.sum h.any hb)
  | some c =>
   unfold canOf
   refine List.mem_append.2 (.inl (List.mem_map.2 ⟨k, List.mem_filter.2 ⟨List.mem_range.2 hk, by simp [hs]⟩, by simp⟩))
theorem box_mix {b : Bx} (o : b.ok) {x0 x1 x2 x3 : Int} (h : b.has x0 x1 x2 x3) (hs : x0 + x1 + x2 + x3 = 40) : Mix4 x0 x1 x2 x3 := by
 have v0 := o.s0.bd
 have v1 := o.s1.bd
 have v2 := o.s2.bd
 have v3 := o.s3.bd
 unfold Bx.has at h
 exact ⟨by omega, by omega, by omega, by omega, hs⟩
theorem holds_has {b : Bx} {x0 x1 x2 x3 : Int} : b.holds x0 x1 x2 x3 = true ↔ b.has x0 x1 x2 x3 := by
 simp only [Bx.holds, within, Bx.has, Bool.and_eq_true, decide_eq_true_eq]
theorem ix_lt {gs : List Gr} {j : Nat} (hj : j ≤ gs.length) : ∀ k, ix j = some k → k < gs.length := by
 intro k hk
 cases j with
 | zero => cases hk
 | succ i => cases hk; omega
theorem can_has (b : Bx) {gs : List Gr} {j : Nat} (hj : j ≤ gs.length) : (canOf b gs).contains ((j : Int) - 1) = (shownBx b gs (ix j)).isSome := by
 rw [Bool.eq_iff_iff, List.contains_iff_mem]
 unfold canOf
 cases j with
 | zero =>
  show _ ↔ (shownBx b gs none).isSome = true
  constructor
  ·intro h
   rcases List.mem_append.1 h with h | h
   ·obtain ⟨i, _, hi⟩ := List.mem_map.1 h
    exfalso
    have : (i : Int) = ((0 : Nat) : Int) - 1 := hi
    omega
   ·cases hs : (shownBx b gs none).isSome with
    | true => rfl
    | false => rw [hs] at h; simp at h
  ·intro h
   exact List.mem_append.2 (.inr (by rw [h]; simp))
 | succ i =>
  show _ ↔ (shownBx b gs (some i)).isSome = true
  have e : (((i + 1 : Nat) : Int) - 1) = Int.ofNat i := by show _ = (i : Int); omega
  rw [e]
  constructor
  ·intro h
   rcases List.mem_append.1 h with h | h
   ·obtain ⟨k, hk, hi⟩ := List.mem_map.1 h
    cases hi
    exact (List.mem_filter.1 hk).2
   ·cases hs : (shownBx b gs none).isSome with
    | true => rw [hs] at h; simp at h
    | false => rw [hs] at h; simp at h
  ·intro h
   exact List.mem_append.2 (.inl (List.mem_map.2 ⟨i, List.mem_filter.2 ⟨List.mem_range.2 (by omega), h⟩, rfl⟩))
theorem has_of_gr {m0 m1 m2 m3 : Int} (h : Mix4 m0 m1 m2 m3) {gs : List Gr} {j : Nat} (hg : HasGr gs m0 m1 m2 m3 (ix j)) : hasN gs m0 m1 m2 m3 = (j : Int) - 1 := by
 unfold hasN
 rcases idx_spec (limB m0 m1 m2 m3) gs 0 with ⟨h1, h2⟩ | ⟨k, hk, h1, ⟨x, hx, hpx⟩, h2⟩
 ·rw [h1]
  cases j with
  | zero => rfl
  | succ i =>
   exfalso
   obtain ⟨⟨g, hgi, hgl⟩, _⟩ := hg
   have := h2 g (List.mem_of_getElem? hgi)
   rw [(limB_iff h g).2 hgl] at this
   cases this
 ·rw [h1]
  cases j with
  | zero =>
   exfalso
   exact hg x (List.mem_of_getElem? hx) ((limB_iff h x).1 hpx)
  | succ i =>
   obtain ⟨⟨g, hgi, hgl⟩, hno⟩ := hg
   have hki : k = i := by
    rcases Nat.lt_trichotomy k i with hlt | he | hgt
    ·exact absurd ((limB_iff h x).1 hpx) (hno x (List.mem_of_getElem? (i := k) (by rw [List.getElem?_take]; simp [hlt, hx])))
    ·exact he
    ·have := h2 g (List.mem_of_getElem? (i := i) (by rw [List.getElem?_take]; simp [hgt, hgi]))
     rw [(limB_iff h g).2 hgl] at this
     cases this
   subst hki
   omega
theorem MadeOk.snoc {err miss full emp m0 m1 m2 m3 : Int} {gs : List Gr} {hs : List Hf} (h : MadeOk err miss full emp m0 m1 m2 m3 gs hs) {x : Hf} (hx : TakenOk miss m0 m1 m2 m3 x) : MadeOk err miss full emp m0 m1 m2 m3 gs (hs ++ [x]) :=
 { h with
  taken := by
   intro y hy
   rcases List.mem_append.1 hy with hy | hy
   ·exact h.taken y hy
   ·rw [List.mem_singleton] at hy; subst hy; exact hx }
theorem hands_flat {w : World} {B o : Nat} {hs : List Hf} (hc : ∀ k h, hs[k]? = some h → w.cell? ⟨B, o + k * 5, none⟩ = some (.int .i64 h.spot) ∧ w.cell? ⟨B, o + k * 5 + 1, none⟩ = some (.int .i64 h.g0) ∧
  w.cell? ⟨B, o + k * 5 + 2, none⟩ = some (.int .i64 h.g1) ∧ w.cell? ⟨B, o + k * 5 + 3, none⟩ = some (.int .i64 h.g2) ∧ w.cell? ⟨B, o + k * 5 + 4, none⟩ = some (.int .i64 h.g3)) :
  ∀ j v, (hs.flatMap Hf.cells)[j]? = some v → w.cell? ((⟨B, o, none⟩ : Addr).add j) = some v := by
 intro j v hj
 rw [Addr.add_mid]
 have hlt : j < hs.length * 5 := by rw [← flat_len Hf.cells (fun _ => rfl) hs]; exact (List.getElem?_eq_some_iff.1 hj).1
 have hk : j / 5 < hs.length := by omega
 have hx : hs[j / 5]? = some hs[j / 5] := List.getElem?_eq_getElem hk
 have h5 : j % 5 < 5 := Nat.mod_lt _ (by decide)
 have hq := flat_at Hf.cells (fun _ => rfl) hs (j / 5) (j % 5) _ hx h5
 rw [show j / 5 * 5 + j % 5 = j from by omega, hj] at hq
 obtain ⟨c0, c1, c2, c3, c4⟩ := hc _ _ hx
 have hjj : o + j = o + j / 5 * 5 + j % 5 := by omega
 rw [hjj]
 generalize j % 5 = i at hq h5
 match i, h5 with
 | 0, _ => exact c0.trans hq.symm
 | 1, _ => exact c1.trans hq.symm
 | 2, _ => exact c2.trans hq.symm
 | 3, _ => exact c3.trans hq.symm
 | 4, _ => exact c4.trans hq.symm
theorem hands_one (hs : List Hf) : ∀ v ∈ hs.flatMap Hf.cells, v.oneCell' = true := by
 intro v hv
 obtain ⟨x, _, hx⟩ := List.mem_flatMap.1 hv
 simp only [Hf.cells, List.mem_cons, List.not_mem_nil, or_false] at hx
 rcases hx with rfl | rfl | rfl | rfl | rfl <;> rfl

theorem taken_parts {h : Hf} (t : h.taken = true) : (0 ≤ h.spot ∧ h.spot ≤ 2) ∧ (0 ≤ h.g0 ∧ h.g0 ≤ 200) ∧ (0 ≤ h.g1 ∧ h.g1 ≤ 200) ∧ (0 ≤ h.g2 ∧ h.g2 ≤ 200) ∧ 0 ≤ h.g3 ∧ h.g3 ≤ 200 := by
 simpa [Hf.taken, within, and_assoc] using t
theorem enough_parts {h : Hf} (t : h.enough = true) : 10 ≤ h.g0 + h.g1 + h.g2 + h.g3 ∧ h.g0 + h.g1 + h.g2 + h.g3 ≤ 200 := by
 have t' := t
 simp only [Hf.enough, within, Hf.sum, Bool.and_eq_true, decide_eq_true_eq] at t'
 exact ⟨of_decide_eq_true t'.1, of_decide_eq_true t'.2⟩
theorem Below.of_eq {a b : World} (h : a = b) : Below a.heap.size a b := h ▸ Below.refl _ _
theorem bounds_B (B : Bx) {miss : Int} {hs : List Hf} (hB : boundsOf miss (fun _ => true) hs = B) (full empty err : Int) (A : Option Addr) (c : Nat) (gs : Value) (w : World) (hA : HandsAt w A hs) (hl : hs.length ≤ 1000)
  (m0 : 0 ≤ miss) (m1 : miss ≤ 20) (ht : ∀ x ∈ hs, x.taken = true) (he : ∀ x ∈ hs, x.enough = true) :
  Calls Try.prog 104 #[.agg #[.int .i64 full, .int .i64 empty, .slice A hs.length c, .int .i64 err, .int .i64 miss, gs, .func (.func 99) #[.agg #[.int .i64 full, .int .i64 empty, .slice A hs.length c]] #[]]] w fun e w' =>
   e = .returned (.agg #[.int .i64 B.l0, .int .i64 B.h0, .int .i64 B.l1, .int .i64 B.h1, .int .i64 B.l2, .int .i64 B.h2, .int .i64 B.l3, .int .i64 B.h3]) ∧ Below w.heap.size w w' := by
 subst hB
 exact bounds_hand full empty err miss A c hs gs w hA hl m0 m1 ht he
theorem zp7 {p : Prop} (h : p := by (repeat first | (with_reducible first | assumption | apply Holds.set2 | apply Holds.set4 | apply Holds.putL | ((refine Holds.new' _ _ ?_); (simp; done)) | refine Holds.alloc ?_ _ | refine Holds.drew ?_ | refine Holds.far ?_ (by simp only [ne_eq]; omega) _) | rfl)) : p := h
set_option maxRecDepth 100000 in
set_option maxHeartbeats 8000000 in
theorem Show_err (err miss : Int) (G : Option Addr) (d : Nat) (gs : List Gr) (full emp : Int) (A : Option Addr) (c : Nat) (hs : List Hf) (w : World) (hG : GradesAt w G gs) (hgl : gs.length ≤ 1000) (hA : HandsAt w A hs) (hl : hs.length ≤ 1000) (g : Int) (he : bothErr err miss gs full emp hs ≠ 0) :
  Calls Try.prog 60 #[.agg #[.int .i64 err, .int .i64 miss, .slice G gs.length d], .agg #[.int .i64 full, .int .i64 emp, .slice A hs.length c], .int .i64 g] w fun e w' => e = .returned (.tuple #[.agg #[.int .i64 0, .int .i64 0, .int .i64 0, .int .i64 0], .int .i64 (bothErr err miss gs full emp hs)]) ∧ Below w.heap.size w w' := by
 have HG := Lib.hid hG
 have HA := Lib.hid hA
 have HE := Lib.hid he
 clear hG hA
 have hq : (bothErr err miss gs full emp hs != 0) = true := by simpa using he
 clear he
 go_enter Try.func60, Try.ntmps60
 go_wp2_with fail
 refine (arrive_err err miss full emp G A d c gs hs _ (HG.out.up zg) hgl (HA.out.up zg) hl HE.out).mono ?_
 rintro e wa ⟨rfl, hba⟩
 have Hra := Lib.hid (Holds.up (zp7 : Holds _ (w.heap.size + 1 + 1) 28 #[.int .i64 0, .int .i64 0, .int .i64 0, .int .i64 0]) hba)
 have HSa : Hid (Below w.heap.size w wa) := Lib.hid (Below.trans zg (hba.mono (by first | exact Nat.le_refl _ | omega | (simp; done) | (simp; omega))))
 have HBa := HSa
 have hsa := HBa.out.size
 have hsta := HSa.out.size
 clear hba
 obtain ⟨kr0, kr1, kr2, kr3⟩ := Hra.out.c4
 obtain ⟨zr0, zr1, zr2, zr3⟩ := Hra.out.f4
 have lt_r : w.heap.size + 1 + 1 < wa.heap.size := Hra.out.lt
 have lt_r1 : w.heap.size + 1 + 1 < wa.heap.size + 1 := Nat.lt_succ_of_lt lt_r
 go_wp2_with fail
 refine ret_cell2 (t := 28) rfl rfl rfl ?_ Try.underlying28 rfl (by kernel_rfl) rfl ⟨rfl, HBa.out.trans zg⟩
 exact (by have h := Hra.out; exact zp7)

end Go.Proofs.Ytifffonoipapgaa
