
import Derived.Test.YtiibmkodlbobpaaQAA
import Derived.Test.YtiibmkodlbobpaaSAC
import Derived.Test.YtiibmkodlbobpaaSBW
set_option linter.unusedSimpArgs false
set_option linter.unusedVariables false
namespace Go.Proofs.Ytiibmkodlbobpaa
open Go.RowKit
theorem limB_iff {m0 m1 m2 m3 : Int} (h : Mix4 m0 m1 m2 m3) (g : Gr) : limB m0 m1 m2 m3 g = true ↔ g.limits.has m0 m1 m2 m3 := by
 obtain ⟨p0, p1, p2, p3, hs⟩ := h
 simp only [limB, Gr.limits, Bx.has, Bool.and_eq_true, decide_eq_true_eq]
 omega
theorem idx_spec (p : Gr → Bool) : ∀ (gs : List Gr) (s : Nat), (idxFrom p gs s = -1 ∧ ∀ g ∈ gs, p g = false) ∨ ∃ k, k < gs.length ∧ idxFrom p gs s = ((s + k : Nat) : Int) ∧ (∃ g, gs[k]? = some g ∧ p g = true) ∧ ∀ g ∈ gs.take k, p g = false := by
 intro gs
 induction gs with
 | nil => intro s; exact .inl ⟨rfl, by simp⟩
 | cons g gs ih =>
  intro s
  by_cases hp : p g = true
  ·exact .inr ⟨0, by simp, by simp [idxFrom, hp], ⟨g, by simp, hp⟩, by simp⟩
  ·have hp : p g = false := by simpa using hp
   rcases ih (s + 1) with ⟨h1, h2⟩ | ⟨k, hk, h1, ⟨x, hx, hpx⟩, h2⟩
   ·refine .inl ⟨by simp [idxFrom, hp, h1], ?_⟩
    intro x hx
    rcases List.mem_cons.1 hx with rfl | hx
    ·exact hp
    ·exact h2 x hx
   ·refine .inr ⟨k + 1, by simpa using hk, by simp only [idxFrom, hp, Bool.false_eq_true, if_false, h1]; omega, ⟨x, by simpa using hx, hpx⟩, ?_⟩
    intro y hy
    rw [List.take_succ_cons] at hy
    rcases List.mem_cons.1 hy with rfl | hy
    ·exact hp
    ·exact h2 y hy
theorem has_in {b : Bx} (o : b.ok) {gs : List Gr} {m0 m1 m2 m3 : Int} (h : Mix4 m0 m1 m2 m3) (hb : b.has m0 m1 m2 m3) : hasN gs m0 m1 m2 m3 ∈ canOf b gs := by
 have no : ∀ g, limB m0 m1 m2 m3 g = false → ¬ g.limits.has m0 m1 m2 m3 := fun g hg hh => by rw [(limB_iff h g).2 hh] at hg; cases hg
 unfold hasN
 rcases idx_spec (limB m0 m1 m2 m3) gs 0 with ⟨h1, h2⟩ | ⟨k, hk, h1, ⟨x, hx, hpx⟩, h2⟩
 ·rw [h1]
  have hg : HasGr gs m0 m1 m2 m3 none := fun g hg => no g (h2 g hg)
  cases hs : shownBx b gs none with
  | none => exact absurd hg (shownBx_none o (by simp) hs h.sum h.any hb)
  | some c => simp [canOf, hs]
 ·rw [h1]
  have hg : HasGr gs m0 m1 m2 m3 (some k) := ⟨⟨x, hx, (limB_iff h x).1 hpx⟩, fun g hg => no g (h2 g hg)⟩
  cases hs : shownBx b gs (some k) with
  | none => exact absurd hg (shownBx_none o (by intro j hj; cases hj; exact hk) hs h.sum h.any hb)
  | some c =>
   unfold canOf
   refine List.mem_append.2 (.inl (List.mem_map.2 ⟨k, List.mem_filter.2 ⟨List.mem_range.2 hk, by simp [hs]⟩, by simp⟩))
theorem fit_in {miss full emp err r0 r1 r2 r3 m0 m1 m2 m3 : Int} {gs : List Gr} {hs : List Hf} (hok : MadeOk err miss full emp r0 r1 r2 r3 gs hs) (h : Mix4 m0 m1 m2 m3) (hf : hs.all (fitH miss m0 m1 m2 m3) = true) : (boundsOf miss (fun _ => true) hs).has m0 m1 m2 m3 := by
 have hpos : ∀ x ∈ hs, 0 < x.sum := fun x hx => by have := (hok.taken x hx).n0; omega
 rw [bounds_has hpos h.sum]
 exact ⟨h.any, fun k x hx _ => fitH_iff.1 (List.all_eq_true.1 hf x (List.mem_of_getElem? hx))⟩
theorem one_of {l : List Int} (h : l.length = 1) : l = [l.headD 0] := by
 match l, h with
 | [a], _ => rfl
def SureRel (w8 : World) (S : Nat) (A : Option Addr) (n c : Nat) (v176 : Value) (wr : World) : Prop :=
 ∃ (i tk : Nat) (m : Int), v176 = .int .i64 (i : Int) ∧ i ≤ 8 ∧ tk ≤ 7 * i ∧ Holds wr S 172 #[.slice A n c, .int .i64 (tk : Int), .int .u32 m] ∧ w8.grownBy wr (some S)
theorem only_low {w w' : World} {S n : Nat} (h : w.grownBy w' (some S)) (hS : n ≤ S) (hn : n ≤ w.heap.size) : Below n w w' := ⟨h.os, h.tape, h.output, h.size, fun k hk => h.block k (by omega) (by simp; omega)⟩
def RowIn (w : World) (a : Option Addr) (len cap : Nat) (zs : List Int) : Prop :=
 (a = none ∧ len = 0 ∧ cap = 0 ∧ zs = []) ∨ ∃ x, a = some x ∧ len ≤ cap ∧ cap ≤ maxLen ∧ zs.length = cap ∧ (∀ i, i < zs.length → w.cell? (x.add i) = some (.int .u8 (zs.getD i 0))) ∧ ∀ n ∈ zs, (Lit.int .u8 n).wf = true
set_option maxRecDepth 100000 in
set_option maxHeartbeats 16000000 in
theorem GateSure_any (a0 : Option Addr) (len0 cap0 : Nat) (z0 : List Int) (a1 : Option Addr) (len1 cap1 : Nat) (z1 : List Int) (w : World) (w0 : RowIn w a0 len0 cap0 z0) (w1_ : RowIn w a1 len1 cap1 z1) :
  Calls Try.prog 11 #[.slice a0 len0 cap0, .slice a1 len1 cap1] w fun e w' => e = .returned (.bool true) ∧ Below w.heap.size w w' := by
 obtain ⟨hB0, hn⟩ := bytes_of w0
 obtain ⟨hB1, hn1⟩ := bytes_of w1_
 have HY0 := Lib.hid hB0
 have HY1 := Lib.hid hB1
 clear hB0 hB1 w0 w1_
 go_enter Try.func11, Try.ntmps11
 go_wp2_with fail
 refine (Fill_any a0 len0 cap0 _ hn).mono ?_
 rintro e w1 ⟨m, rfl, hS1, hb1⟩
 have HS1 := Lib.hid hS1
 have HB1 := Lib.hid hb1
 clear hS1 hb1
 go_wp2_with fail
 refine (Made_any w.heap.size a0 len0 cap0 0 m 4 6 (by decide) (by decide) (by decide) (by decide) w1 HS1.out (HY0.out.up HB1.out) hn (by decide)).mono ?_
 rintro e w2 ⟨err, miss, full, emp, m0, m1, m2, m3, gs, hs, G, H, d, q, tk1, mm, rfl, hok, hgl, hhl, hog, hoh, -, -, hg2⟩
 have hgl4 : gs.length ≤ 4 := by omega
 have hhl6 : hs.length ≤ 6 := by omega
 have HB2 := Lib.hid (HB1.out.grown hg2 (by have := HS1.out.lt; omega) (fun k hk => by cases hk; exact Nat.le_refl _))
 obtain ⟨_, _, e1, hgd, hG⟩ := hog.at_
 cases e1
 obtain ⟨_, _, e1, _, hH⟩ := hoh.at_
 cases e1
 have HG := Lib.hid hG
 have HH := Lib.hid hH
 have HOK := Lib.hid hok
 clear hok hog hoh hg2 hG hH HS1 HB1
 have hgl' : gs.length ≤ 1000 := by omega
 have hhl' : hs.length ≤ 1000 := by omega
 have HE := Lib.hid (HOK.out.both hgl4 hhl6)
 obtain ⟨e0, e1, i0, i1, y0, y1, f0, f1, _, _, _⟩ := HOK.out
 have hz2 := HB2.out.size
 have HX := Lib.hid (bounds_nonempty HOK.out.mix.sum HOK.out.has)
 obtain ⟨can, hcan⟩ : ∃ z, canOf (boundsOf miss (fun _ => true) hs) gs = z := ⟨_, rfl⟩
 have hcl : can.length ≤ 5 := by have := canOf_len (boundsOf miss (fun _ => true) hs) gs; rw [hcan] at this; omega
 have hc0 : 0 < can.length := by rw [← hcan]; exact List.length_pos_of_mem (has_in (bounds_ok miss _ hs) HOK.out.mix HOK.out.has)
 have hmem : ∀ n ∈ can, n = -1 ∨ (0 ≤ n ∧ n < gs.length) := fun n hn => canOf_mem (hcan ▸ hn)
 have HMEM := Lib.hid hmem
 clear hmem
 have HCAN := Lib.hid hcan
 clear hcan
 have HGR : Hid (∀ g ∈ gs, g.right = true) := Lib.hid (by obtain ⟨p, h⟩ := HOK.out.grades; exact h.right)
 obtain ⟨s, hs_⟩ : ∃ z, z = sureOf can := ⟨_, rfl⟩
 obtain ⟨fe, hfe⟩ : ∃ z, z = sureErr can := ⟨_, rfl⟩
 have HSU := Lib.hid hs_.symm
 have HSE := Lib.hid hfe.symm
 clear hs_ hfe
 go_wp2_with fail
 refine (Can_ok err miss full emp G H d q gs hs _ (HG.out.up (by (repeat' (first | (with_reducible first | exact Below.refl _ _ | assumption | refine Below.alloc ?_ ?_ _ | refine Below.drew ?_ | refine Below.setCell ?_ ?_ _ | exact Nat.le_refl _) | omega | (simp only [World.size_alloc, World.size_setCell, World.size_drew]; omega) | (simp; omega) | (simp; done))))) hgl' hgd (HH.out.up (by (repeat' (first | (with_reducible first | exact Below.refl _ _ | assumption | refine Below.alloc ?_ ?_ _ | refine Below.drew ?_ | refine Below.setCell ?_ ?_ _ | exact Nat.le_refl _) | omega | (simp only [World.size_alloc, World.size_setCell, World.size_drew]; omega) | (simp; omega) | (simp; done))))) hhl' HE.out HX.out).mono ?_
 rintro e w3 ⟨cv, rfl, hown, hb3⟩
 rw [HCAN.out] at hown
 obtain ⟨L, lc, rfl, hL⟩ := ints_of_row hown
 have HL := Lib.hid hL
 clear hown hL
 have Hg3 := Lib.hid (Holds.up (by (repeat first | (with_reducible first | assumption | apply Holds.set3 | apply Holds.set4 | apply Holds.putL | ((refine Holds.new' _ _ ?_); (simp; done)) | refine Holds.alloc ?_ _ | refine Holds.drew ?_ | refine Holds.far ?_ (by simp only [ne_eq]; omega) _) | rfl) : Holds _ (w2.heap.size) 24 #[.int .i64 err, .int .i64 miss, .slice G gs.length d]) hb3)
 have Hc3 := Lib.hid (Holds.up (by (repeat first | (with_reducible first | assumption | apply Holds.set3 | apply Holds.set4 | apply Holds.putL | ((refine Holds.new' _ _ ?_); (simp; done)) | refine Holds.alloc ?_ _ | refine Holds.drew ?_ | refine Holds.far ?_ (by simp only [ne_eq]; omega) _) | rfl) : Holds _ (w2.heap.size + 1) 27 #[.int .i64 full, .int .i64 emp, .slice H hs.length q]) hb3)
 have Hm3 := Lib.hid (Holds.up (by (repeat first | (with_reducible first | assumption | apply Holds.set3 | apply Holds.set4 | apply Holds.putL | ((refine Holds.new' _ _ ?_); (simp; done)) | refine Holds.alloc ?_ _ | refine Holds.drew ?_ | refine Holds.far ?_ (by simp only [ne_eq]; omega) _) | rfl) : Holds _ (w2.heap.size + 1 + 1) 28 #[.int .i64 m0, .int .i64 m1, .int .i64 m2, .int .i64 m3]) hb3)
 have HB3 : Hid (Below w2.heap.size w2 w3) := Lib.hid (Below.trans (by (repeat' (first | (with_reducible first | exact Below.refl _ _ | assumption | refine Below.alloc ?_ ?_ _ | refine Below.drew ?_ | refine Below.setCell ?_ ?_ _ | exact Nat.le_refl _) | omega | (simp only [World.size_alloc, World.size_setCell, World.size_drew]; omega) | (simp; omega) | (simp; done)))) (hb3.mono (by first | omega | (simp; done) | (simp; omega))))
 clear hb3
 obtain ⟨kg0, kg1, kg2⟩ := Hg3.out.c3
 have lt_g : w2.heap.size < w3.heap.size := Hg3.out.lt
 obtain ⟨kc0, kc1, kc2⟩ := Hc3.out.c3
 have lt_c : w2.heap.size + 1 < w3.heap.size := Hc3.out.lt
 go_wp2_with fail
 refine (Sure_ok err miss full emp G H d q gs hs _ (HG.out.up HB3.out) hgl' hgd (HH.out.up HB3.out) hhl' HE.out HX.out).mono ?_
 rw [HCAN.out, HSU.out, HSE.out]
 rintro e w4 ⟨rfl, hb4⟩
 clear kg0 kg1 kg2 lt_g kc0 kc1 kc2 lt_c
 have HB4 := Lib.hid (HB3.out.trans (hb4.mono HB3.out.size))
 have HL4 := Lib.hid (HL.out.up hb4)
 have Hg4 := Lib.hid (Hg3.out.up hb4)
 have Hc4 := Lib.hid (Hc3.out.up hb4)
 have Hm4 := Lib.hid (Hm3.out.up hb4)
 clear hb4 HB3 HL Hg3 Hc3 Hm3
 obtain ⟨kg0, kg1, kg2⟩ := Hg4.out.c3
 have lt_g : w2.heap.size < w4.heap.size := Hg4.out.lt
 obtain ⟨kc0, kc1, kc2⟩ := Hc4.out.c3
 have lt_c : w2.heap.size + 1 < w4.heap.size := Hc4.out.lt
 go_wp2_with fail
 refine (Pay_ok err miss full emp G H d q gs hs _ (HG.out.up HB4.out) hgl' hgd (HH.out.up HB4.out) hhl' HE.out HX.out).mono ?_
 rw [HCAN.out]
 obtain ⟨lo, hlo⟩ : ∃ q, q = max 0 (full - emp - 2 * err) := ⟨_, rfl⟩
 obtain ⟨hi, hhi⟩ : ∃ q, q = max 0 (full - emp + 2 * err) := ⟨_, rfl⟩
 obtain ⟨lp, hlp⟩ : ∃ q, q = loPrice gs can := ⟨_, rfl⟩
 obtain ⟨hp, hhp⟩ : ∃ q, q = hiPrice gs can := ⟨_, rfl⟩
 rw [← hlo, ← hhi, ← hlp, ← hhp]
 obtain ⟨lp0, lp1⟩ : 0 ≤ lp ∧ lp ≤ 100 := by rw [hlp]; exact lo_bd HGR.out can
 obtain ⟨hp0, hp1⟩ : 0 ≤ hp ∧ hp ≤ 100 := by rw [hhp]; exact hi_bd HGR.out can
 have hlo0 : 0 ≤ lo ∧ lo ≤ 20000 := by omega
 have hhi0 : 0 ≤ hi ∧ hi ≤ 20000 := by omega
 have hn1_ : lo ≤ hi := by omega
 have hn2_ : lo ≤ full - emp := by omega
 have hn3_ : full - emp ≤ hi := by omega
 obtain ⟨pl0, pl1⟩ := mul_bd hlo0.1 hlo0.2 lp0 lp1
 obtain ⟨ph0, ph1⟩ := mul_bd hhi0.1 hhi0.2 hp0 hp1
 have HLP := Lib.hid hlp
 have HHP := Lib.hid hhp
 have HLO := Lib.hid hlo
 have HHI := Lib.hid hhi
 clear hlp hhp hlo hhi
 rintro e w5 ⟨rfl, hb5⟩
 clear kg0 kg1 kg2 lt_g kc0 kc1 kc2 lt_c
 have HB5 := Lib.hid (HB4.out.trans (hb5.mono HB4.out.size))
 have HL5 := Lib.hid (HL4.out.up hb5)
 have Hg5 := Lib.hid (Hg4.out.up hb5)
 have Hc5 := Lib.hid (Hc4.out.up hb5)
 have Hm5 := Lib.hid (Hm4.out.up hb5)
 clear hb5 HB4 HL4 Hg4 Hc4 Hm4
 obtain ⟨kg0, kg1, kg2⟩ := Hg5.out.c3
 have lt_g : w2.heap.size < w5.heap.size := Hg5.out.lt
 obtain ⟨kc0, kc1, kc2⟩ := Hc5.out.c3
 have lt_c : w2.heap.size + 1 < w5.heap.size := Hc5.out.lt
 go_wp2_with fail
 refine (Net_ok err miss full emp G H d q gs hs _ (HG.out.up (HB5.out.trans (by (repeat' (first | (with_reducible first | exact Below.refl _ _ | assumption | refine Below.alloc ?_ ?_ _ | refine Below.drew ?_ | refine Below.setCell ?_ ?_ _ | exact Nat.le_refl _) | omega | (simp only [World.size_alloc, World.size_setCell, World.size_drew]; omega) | (simp; omega) | (simp; done)))))) hgl' (HH.out.up (HB5.out.trans (by (repeat' (first | (with_reducible first | exact Below.refl _ _ | assumption | refine Below.alloc ?_ ?_ _ | refine Below.drew ?_ | refine Below.setCell ?_ ?_ _ | exact Nat.le_refl _) | omega | (simp only [World.size_alloc, World.size_setCell, World.size_drew]; omega) | (simp; omega) | (simp; done)))))) hhl' HE.out).mono ?_
 rw [← HLO.out, ← HHI.out]
 rintro e w6 ⟨rfl, hb6⟩
 clear kg0 kg1 kg2 lt_g kc0 kc1 kc2 lt_c
 have Hg6 := Lib.hid (Holds.up (by have h := Hg5.out; exact (by (repeat first | (with_reducible first | assumption | apply Holds.set3 | apply Holds.set4 | apply Holds.putL | ((refine Holds.new' _ _ ?_); (simp; done)) | refine Holds.alloc ?_ _ | refine Holds.drew ?_ | refine Holds.far ?_ (by simp only [ne_eq]; omega) _) | rfl)) : Holds _ (w2.heap.size) 24 #[.int .i64 err, .int .i64 miss, .slice G gs.length d]) hb6)
 have Hc6 := Lib.hid (Holds.up (by have h := Hc5.out; exact (by (repeat first | (with_reducible first | assumption | apply Holds.set3 | apply Holds.set4 | apply Holds.putL | ((refine Holds.new' _ _ ?_); (simp; done)) | refine Holds.alloc ?_ _ | refine Holds.drew ?_ | refine Holds.far ?_ (by simp only [ne_eq]; omega) _) | rfl)) : Holds _ (w2.heap.size + 1) 27 #[.int .i64 full, .int .i64 emp, .slice H hs.length q]) hb6)
 have Hm6 := Lib.hid (Holds.up (by have h := Hm5.out; exact (by (repeat first | (with_reducible first | assumption | apply Holds.set3 | apply Holds.set4 | apply Holds.putL | ((refine Holds.new' _ _ ?_); (simp; done)) | refine Holds.alloc ?_ _ | refine Holds.drew ?_ | refine Holds.far ?_ (by simp only [ne_eq]; omega) _) | rfl)) : Holds _ (w2.heap.size + 1 + 1) 28 #[.int .i64 m0, .int .i64 m1, .int .i64 m2, .int .i64 m3]) hb6)
 have Hp6 := Lib.hid (Holds.up (by (repeat first | (with_reducible first | assumption | apply Holds.set3 | apply Holds.set4 | apply Holds.putL | ((refine Holds.new' _ _ ?_); (simp; done)) | refine Holds.alloc ?_ _ | refine Holds.drew ?_ | refine Holds.far ?_ (by simp only [ne_eq]; omega) _) | rfl) : Holds _ (w5.heap.size) 60 #[.int .i64 (lo * lp), .int .i64 (hi * hp)]) hb6)
 have hb6' : Below w5.heap.size w5 w6 := Below.trans (by (repeat' (first | (with_reducible first | exact Below.refl _ _ | assumption | refine Below.alloc ?_ ?_ _ | refine Below.drew ?_ | refine Below.setCell ?_ ?_ _ | exact Nat.le_refl _) | omega | (simp only [World.size_alloc, World.size_setCell, World.size_drew]; omega) | (simp; omega) | (simp; done)))) (hb6.mono (by first | omega | (simp; done) | (simp; omega)))
 have HB6 := Lib.hid (HB5.out.trans (hb6'.mono HB5.out.size))
 have HL6 := Lib.hid (HL5.out.up hb6')
 clear hb6 hb6' HB5 HL5 Hg5 Hc5 Hm5
 obtain ⟨kg0, kg1, kg2⟩ := Hg6.out.c3
 have lt_g : w2.heap.size < w6.heap.size := Hg6.out.lt
 obtain ⟨kc0, kc1, kc2⟩ := Hc6.out.c3
 have lt_c : w2.heap.size + 1 < w6.heap.size := Hc6.out.lt
 obtain ⟨km0, km1, km2, km3⟩ := Hm6.out.c4
 have lt_m : w2.heap.size + 1 + 1 < w6.heap.size := Hm6.out.lt
 obtain ⟨kp0, kp1⟩ := Hp6.out.c2
 have lt_p : w5.heap.size < w6.heap.size := Hp6.out.lt
 obtain ⟨LB, LO, rfl, hcl_⟩ := HL6.out hc0
 have hx0 := hcl_ 0 (can.headD 0) (by cases can with | nil => exact absurd hc0 (Nat.lt_irrefl 0) | cons a l => rfl)
 have HCL := Lib.hid hcl_
 clear hcl_
 simp only [Nat.add_zero] at hx0
 have hlb : LB < w6.heap.size := World.block_lt_of_cell? w6 ⟨LB, LO, none⟩ hx0
 have HX0 := Lib.hid hx0
 clear hx0
 have hlen0 : ((can.length : Int) == 0) = false := beq_eq_false_iff_ne.2 (by omega)
 by_cases hone : can.length = 1
 ·have HONE := Lib.hid hone
  clear hone
  have hfe : fe = 0 := by rw [← HSE.out, sureErr, if_pos HONE.out]
  subst hfe
  have HS_ : Hid (s = can.headD 0) := Lib.hid (by rw [← HSU.out, sureOf, if_pos HONE.out])
  have hx0 := HX0.out
  rw [← HS_.out] at hx0
  have hlen1 : ((can.length : Int) == 1) = true := beq_iff_eq.2 (by have := HONE.out; omega)
  have hgt : 0 < (can.length : Int) := by omega
  go_wp2_with fail
  go_loop [16, 17, 98] (fun v16 v17 v98 => ∃ (k : Nat) (a b : Int), v16 = .int .i64 a ∧ v17 = .int .i64 b ∧ v98 = .int .i64 (k : Int) ∧ k ≤ can.length ∧ Hid (a = loPrice gs (can.take k)) ∧ Hid (b = hiPrice gs (can.take k)) ∧ (0 ≤ a ∧ a ≤ 100) ∧ 0 ≤ b ∧ b ≤ 100) (fun _ _ v98 => can.length - (intOf v98).toNat)
  case atStart => exact ⟨0, 100, 0, rfl, rfl, rfl, Nat.zero_le _, Lib.hid rfl, Lib.hid rfl, by decide, by decide⟩
  case round =>
   obtain ⟨k, a, b, rfl, rfl, rfl, hk, ha, hb, ⟨a0_, a1_⟩, b0_, b1_⟩ := hrel
   by_cases hlt : k < can.length
   ·obtain ⟨x, hx⟩ : ∃ z, z = can[k] := ⟨_, rfl⟩
    have cx := HCL.out k can[k] (List.getElem?_eq_getElem hlt)
    rw [← hx] at cx
    have hxm := HMEM.out x (hx ▸ List.getElem_mem hlt)
    have htk : can.take (k + 1) = can.take k ++ [x] := by rw [List.take_add_one, List.getElem?_eq_getElem hlt, hx]; rfl
    have HTK := Lib.hid htk
    have HXX := Lib.hid hx
    clear htk hx
    have hpx := price_bd HGR.out x
    by_cases hx1 : x = -1
    ·subst hx1
     have HPX : Hid (0 = priceOf gs (-1)) := Lib.hid rfl
     clear hpx hxm
     go_wp2_with fail
     all_goals
      go_round
      case rel => exact ⟨k + 1, _, _, rfl, rfl, by go_num, hlt, Lib.hid (by rw [HTK.out, lo_perm, ← ha.out, ← HPX.out]; omega), Lib.hid (by rw [HTK.out, hi_perm, ← hb.out, ← HPX.out]; omega), by omega, by omega⟩
      case measure => simp [intOf]; omega
    ·have hx2 : 0 ≤ x ∧ x < gs.length := by omega
     obtain ⟨kx, rfl⟩ := Int.eq_ofNat_of_zero_le hx2.1
     have hkx : kx < gs.length := by omega
     have hne : (((kx : Int)) != -1) = true := by rw [bne_iff_ne]; omega
     obtain ⟨GBk, GO, rfl, hgc⟩ := (HG.out.up HB6.out) (by omega)
     obtain ⟨_, _, _, _, g4⟩ := hgc kx _ (List.getElem?_eq_getElem hkx)
     clear hgc
     obtain ⟨px, hpx_⟩ : ∃ z, z = gs[kx].price := ⟨_, rfl⟩
     rw [← hpx_] at g4
     have HPX : Hid (px = priceOf gs (kx : Int)) := Lib.hid (by rw [priceOf, if_neg (by omega), Int.toNat_natCast, List.getElem?_eq_getElem hkx, hpx_]; rfl)
     rw [← HPX.out] at hpx
     clear hpx_ hxm
     have hlg : GBk < w6.heap.size := World.block_lt_of_cell? w6 _ g4
     clear hx1
     go_wp2_with fail
     all_goals
      go_round
      case rel => exact ⟨k + 1, _, _, rfl, rfl, by go_num, hlt, Lib.hid (by rw [HTK.out, lo_perm, ← ha.out, ← HPX.out]; omega), Lib.hid (by rw [HTK.out, hi_perm, ← hb.out, ← HPX.out]; omega), by omega, by omega⟩
      case measure => simp [intOf]; omega
   ·have hkl : k = can.length := by omega
    have e1_ : a = lp := by rw [ha.out, hkl, List.take_length, ← HLP.out]
    have e2_ : b = hp := by rw [hb.out, hkl, List.take_length, ← HHP.out]
    subst e1_
    subst e2_
    clear hlt
    go_wp2_with fail
    refine (Fill_any a1 len1 cap1 _ hn1).mono ?_
    simp only [World.size_alloc]
    rintro e w8 ⟨sm, rfl, hS8, hb8⟩
    have Hg8 := Lib.hid (Holds.low (by have h := Hg6.out; exact (by (repeat first | (with_reducible first | assumption | apply Holds.set3 | apply Holds.set4 | apply Holds.putL | ((refine Holds.new' _ _ ?_); (simp; done)) | refine Holds.alloc ?_ _ | refine Holds.drew ?_ | refine Holds.far ?_ (by simp only [ne_eq]; omega) _) | rfl)) : Holds _ (w2.heap.size) 24 #[.int .i64 err, .int .i64 miss, .slice G gs.length d]) hb8 (by omega))
    have Hc8 := Lib.hid (Holds.low (by have h := Hc6.out; exact (by (repeat first | (with_reducible first | assumption | apply Holds.set3 | apply Holds.set4 | apply Holds.putL | ((refine Holds.new' _ _ ?_); (simp; done)) | refine Holds.alloc ?_ _ | refine Holds.drew ?_ | refine Holds.far ?_ (by simp only [ne_eq]; omega) _) | rfl)) : Holds _ (w2.heap.size + 1) 27 #[.int .i64 full, .int .i64 emp, .slice H hs.length q]) hb8 (by omega))
    have Hm8 := Lib.hid (Holds.low (by have h := Hm6.out; exact (by (repeat first | (with_reducible first | assumption | apply Holds.set3 | apply Holds.set4 | apply Holds.putL | ((refine Holds.new' _ _ ?_); (simp; done)) | refine Holds.alloc ?_ _ | refine Holds.drew ?_ | refine Holds.far ?_ (by simp only [ne_eq]; omega) _) | rfl)) : Holds _ (w2.heap.size + 1 + 1) 28 #[.int .i64 m0, .int .i64 m1, .int .i64 m2, .int .i64 m3]) hb8 (by omega))
    have hz26 : w2.heap.size + 1 + 1 < w6.heap.size := lt_m
    have hb8' : Below w6.heap.size w6 w8 := Below.trans (by (repeat' (first | (with_reducible first | exact Below.refl _ _ | assumption | refine Below.alloc ?_ ?_ _ | refine Below.drew ?_ | refine Below.setCell ?_ ?_ _ | exact Nat.le_refl _) | omega | (simp only [World.size_alloc, World.size_setCell, World.size_drew]; omega) | (simp; omega) | (simp; done)))) (hb8.mono (by omega))
    have HB8 := Lib.hid (HB6.out.trans (hb8'.mono HB6.out.size))
    have HS8 := Lib.hid hS8
    have hz8 := hb8'.size
    have hs8 := hS8.lt
    have HY8 := Lib.hid (HY1.out.up (HB2.out.trans (HB8.out.mono hz2)))
    clear kg0 kg1 kg2 lt_g kc0 kc1 kc2 lt_c km0 km1 km2 km3 lt_m kp0 kp1 lt_p hb8 hb8' hS8 Hg6 Hc6 Hm6 Hp6
    go_wp2_with fail
    go_loopw [176] (fun v176 wr => SureRel w8 (w6.heap.size + 1) a1 len1 cap1 v176 wr) (fun v176 _ => 8 - (intOf v176).toNat)
    case atStart => exact ⟨0, 0, sm, rfl, by decide, by decide, HS8.out, grow_refl _ _⟩
    case round =>
     obtain ⟨i, tk, sm2, rfl, hi8, htk, hSr, hGr⟩ := hrel
     have HSr := Lib.hid hSr
     have HGr := Lib.hid hGr
     have hszr := hGr.size
     clear hSr hGr
     have Hgr := Lib.hid (Hg8.out.grown HGr.out (by omega))
     obtain ⟨kg0, kg1, kg2⟩ := Hgr.out.c3
     have lt_g : w2.heap.size < wr.heap.size := Hgr.out.lt
     have Hcr := Lib.hid (Hc8.out.grown HGr.out (by omega))
     obtain ⟨kc0, kc1, kc2⟩ := Hcr.out.c3
     have lt_c : w2.heap.size + 1 < wr.heap.size := Hcr.out.lt
     have Hmr := Lib.hid (Hm8.out.grown HGr.out (by omega))
     obtain ⟨km0, km1, km2, km3⟩ := Hmr.out.c4
     have lt_m : w2.heap.size + 1 + 1 < wr.heap.size := Hmr.out.lt
     by_cases hlt2 : i < 8
     ·go_wp2_with fail
      refine (near_any (w6.heap.size + 1) a1 len1 cap1 tk sm2 m0 m1 m2 m3 HOK.out.mix _ HSr.out (HY8.out.grown HS8.out HGr.out) hn1 (by omega)).mono ?_
      rintro e w9 ⟨x0, x1, x2, x3, tk9, sm9, rfl, hx9, ht9, hs9, hg9⟩
      have HS9 := Lib.hid hs9
      have HX9 := Lib.hid hx9
      have HG9 := Lib.hid (HGr.out.trans hg9)
      have Hg9 := Lib.hid (Hgr.out.grown hg9 (by omega))
      have Hc9 := Lib.hid (Hcr.out.grown hg9 (by omega))
      have Hm9 := Lib.hid (Hmr.out.grown hg9 (by omega))
      clear kg0 kg1 kg2 lt_g kc0 kc1 kc2 lt_c km0 km1 km2 km3 lt_m hs9 hx9 hg9
      have hz9 := HG9.out.size
      obtain ⟨kg0, kg1, kg2⟩ := Hg9.out.c3
      have lt_g : w2.heap.size < w9.heap.size := Hg9.out.lt
      obtain ⟨kc0, kc1, kc2⟩ := Hc9.out.c3
      have lt_c : w2.heap.size + 1 < w9.heap.size := Hc9.out.lt
      have HB9 : Hid (Below w2.heap.size w2 w9) := Lib.hid (HB8.out.grown HG9.out (by omega) (fun k hk => by cases hk; omega))
      go_wp2_with fail
      refine (fits_any err miss G gs.length d H q hs x0 x1 x2 x3 ⟨HX9.out.p0, by have := HX9.out; obtain ⟨_, _, _, _, _⟩ := this; omega⟩ ⟨HX9.out.p1, by have := HX9.out; obtain ⟨_, _, _, _, _⟩ := this; omega⟩ ⟨HX9.out.p2, by have := HX9.out; obtain ⟨_, _, _, _, _⟩ := this; omega⟩ ⟨HX9.out.p3, by have := HX9.out; obtain ⟨_, _, _, _, _⟩ := this; omega⟩ i0 (by omega) _ (HH.out.up (HB9.out.trans (by (repeat' (first | (with_reducible first | exact Below.refl _ _ | assumption | refine Below.alloc ?_ ?_ _ | refine Below.drew ?_ | refine Below.setCell ?_ ?_ _ | exact Nat.le_refl _) | omega | (simp only [World.size_alloc, World.size_setCell, World.size_drew]; omega) | (simp; omega) | (simp; done)))))) hhl' (fun x hx => (HOK.out.taken x hx).taken)).mono ?_
      rintro e wa ⟨rfl, hba⟩
      have Hga := Lib.hid (Holds.up (by have h := Hg9.out; exact (by (repeat first | (with_reducible first | assumption | apply Holds.set3 | apply Holds.set4 | apply Holds.putL | ((refine Holds.new' _ _ ?_); (simp; done)) | refine Holds.alloc ?_ _ | refine Holds.drew ?_ | refine Holds.far ?_ (by simp only [ne_eq]; omega) _) | rfl)) : Holds _ (w2.heap.size) 24 #[.int .i64 err, .int .i64 miss, .slice G gs.length d]) hba)
      have Hca := Lib.hid (Holds.up (by have h := Hc9.out; exact (by (repeat first | (with_reducible first | assumption | apply Holds.set3 | apply Holds.set4 | apply Holds.putL | ((refine Holds.new' _ _ ?_); (simp; done)) | refine Holds.alloc ?_ _ | refine Holds.drew ?_ | refine Holds.far ?_ (by simp only [ne_eq]; omega) _) | rfl)) : Holds _ (w2.heap.size + 1) 27 #[.int .i64 full, .int .i64 emp, .slice H hs.length q]) hba)
      have HXa := Lib.hid (Holds.up (Holds.new w9 28 #[.int .i64 x0, .int .i64 x1, .int .i64 x2, .int .i64 x3]) hba)
      have hba' : Below w9.heap.size w9 wa := Below.trans (by (repeat' (first | (with_reducible first | exact Below.refl _ _ | assumption | refine Below.alloc ?_ ?_ _ | refine Below.drew ?_ | refine Below.setCell ?_ ?_ _ | exact Nat.le_refl _) | omega | (simp only [World.size_alloc, World.size_setCell, World.size_drew]; omega) | (simp; omega) | (simp; done)))) (hba.mono (by simp))
      have HAa := Lib.hid hba'
      have hza := hba'.size
      clear hba hba' kg0 kg1 kg2 lt_g kc0 kc1 kc2 lt_c
      obtain ⟨kg0, kg1, kg2⟩ := Hga.out.c3
      have lt_g : w2.heap.size < wa.heap.size := Hga.out.lt
      obtain ⟨kx0, kx1, kx2, kx3⟩ := HXa.out.c4
      have lx : w9.heap.size < wa.heap.size := HXa.out.lt
      cases hfb : hs.all (fitH miss x0 x1 x2 x3) with
      | false =>
       clear hfb
       go_wp2_with fail
       go_roundw
       case rel => exact ⟨i + 1, tk9, sm9, by go_num, by omega, by omega, HS9.out.up HAa.out, only_up HG9.out HAa.out⟩
       case measure => simp [intOf]; omega
      | true =>
       have hin := has_in (bounds_ok miss _ hs) HX9.out (fit_in HOK.out HX9.out hfb) (gs := gs)
       rw [HCAN.out, one_of HONE.out, ← HS_.out, List.mem_singleton] at hin
       have HIN := Lib.hid hin
       clear hin hfb
       go_wp2_with fail
       refine (has_any err miss G d gs x0 x1 x2 x3 _ (HG.out.up (HB9.out.trans (HAa.out.mono HB9.out.size))) hgl').mono ?_
       rw [HIN.out]
       rintro e wb ⟨rfl, hbb⟩
       have HBb := Lib.hid (HAa.out.trans (hbb.mono hza))
       clear hbb
       go_wp2_with fail
       go_roundw
       case rel => exact ⟨i + 1, tk9, sm9, by go_num, by omega, by omega, HS9.out.up HBb.out, only_up HG9.out HBb.out⟩
       case measure => simp [intOf]; omega
     ·have hi : i = 8 := by omega
      subst hi
      clear kg0 kg1 kg2 lt_g kc0 kc1 kc2 lt_c km0 km1 km2 km3 lt_m
      go_wp2_with fail
      refine (awake_any _).mono ?_
      rintro e wz ⟨rfl, hbz⟩
      go_wp2_with fail
      go_ret
      exact ⟨rfl, HB2.out.trans ((HB8.out.mono hz2).trans ((only_low HGr.out (by omega) (by omega) : Below w.heap.size w8 wr).trans (hbz.mono (by omega))))⟩
 ·have HONE := Lib.hid hone
  clear hone
  have hfe : fe = 6 := by rw [← HSE.out, sureErr, if_neg HONE.out]
  subst hfe
  have hlen1 : ((can.length : Int) == 1) = false := beq_eq_false_iff_ne.2 (by have := HONE.out; omega)
  go_wp2_with fail
  go_loop [16, 17, 98] (fun v16 v17 v98 => ∃ (k : Nat) (a b : Int), v16 = .int .i64 a ∧ v17 = .int .i64 b ∧ v98 = .int .i64 (k : Int) ∧ k ≤ can.length ∧ Hid (a = loPrice gs (can.take k)) ∧ Hid (b = hiPrice gs (can.take k)) ∧ (0 ≤ a ∧ a ≤ 100) ∧ 0 ≤ b ∧ b ≤ 100) (fun _ _ v98 => can.length - (intOf v98).toNat)
  case atStart => exact ⟨0, 100, 0, rfl, rfl, rfl, Nat.zero_le _, Lib.hid rfl, Lib.hid rfl, by decide, by decide⟩
  case round =>
   obtain ⟨k, a, b, rfl, rfl, rfl, hk, ha, hb, ⟨a0_, a1_⟩, b0_, b1_⟩ := hrel
   by_cases hlt : k < can.length
   ·obtain ⟨x, hx⟩ : ∃ z, z = can[k] := ⟨_, rfl⟩
    have cx := HCL.out k can[k] (List.getElem?_eq_getElem hlt)
    rw [← hx] at cx
    have hxm := HMEM.out x (hx ▸ List.getElem_mem hlt)
    have htk : can.take (k + 1) = can.take k ++ [x] := by rw [List.take_add_one, List.getElem?_eq_getElem hlt, hx]; rfl
    have HTK := Lib.hid htk
    have HXX := Lib.hid hx
    clear htk hx
    have hpx := price_bd HGR.out x
    by_cases hx1 : x = -1
    ·subst hx1
     have HPX : Hid (0 = priceOf gs (-1)) := Lib.hid rfl
     clear hpx hxm
     go_wp2_with fail
     all_goals
      go_round
      case rel => exact ⟨k + 1, _, _, rfl, rfl, by go_num, hlt, Lib.hid (by rw [HTK.out, lo_perm, ← ha.out, ← HPX.out]; omega), Lib.hid (by rw [HTK.out, hi_perm, ← hb.out, ← HPX.out]; omega), by omega, by omega⟩
      case measure => simp [intOf]; omega
    ·have hx2 : 0 ≤ x ∧ x < gs.length := by omega
     obtain ⟨kx, rfl⟩ := Int.eq_ofNat_of_zero_le hx2.1
     have hkx : kx < gs.length := by omega
     have hne : (((kx : Int)) != -1) = true := by rw [bne_iff_ne]; omega
     obtain ⟨GBk, GO, rfl, hgc⟩ := (HG.out.up HB6.out) (by omega)
     obtain ⟨_, _, _, _, g4⟩ := hgc kx _ (List.getElem?_eq_getElem hkx)
     clear hgc
     obtain ⟨px, hpx_⟩ : ∃ z, z = gs[kx].price := ⟨_, rfl⟩
     rw [← hpx_] at g4
     have HPX : Hid (px = priceOf gs (kx : Int)) := Lib.hid (by rw [priceOf, if_neg (by omega), Int.toNat_natCast, List.getElem?_eq_getElem hkx, hpx_]; rfl)
     rw [← HPX.out] at hpx
     clear hpx_ hxm
     have hlg : GBk < w6.heap.size := World.block_lt_of_cell? w6 _ g4
     clear hx1
     go_wp2_with fail
     all_goals
      go_round
      case rel => exact ⟨k + 1, _, _, rfl, rfl, by go_num, hlt, Lib.hid (by rw [HTK.out, lo_perm, ← ha.out, ← HPX.out]; omega), Lib.hid (by rw [HTK.out, hi_perm, ← hb.out, ← HPX.out]; omega), by omega, by omega⟩
      case measure => simp [intOf]; omega
   ·have hkl : k = can.length := by omega
    have e1_ : a = lp := by rw [ha.out, hkl, List.take_length, ← HLP.out]
    have e2_ : b = hp := by rw [hb.out, hkl, List.take_length, ← HHP.out]
    subst e1_
    subst e2_
    clear hlt
    go_wp2_with fail
    refine (Fill_any a1 len1 cap1 _ hn1).mono ?_
    simp only [World.size_alloc]
    rintro e w8 ⟨sm, rfl, hS8, hb8⟩
    have Hg8 := Lib.hid (Holds.low (by have h := Hg6.out; exact (by (repeat first | (with_reducible first | assumption | apply Holds.set3 | apply Holds.set4 | apply Holds.putL | ((refine Holds.new' _ _ ?_); (simp; done)) | refine Holds.alloc ?_ _ | refine Holds.drew ?_ | refine Holds.far ?_ (by simp only [ne_eq]; omega) _) | rfl)) : Holds _ (w2.heap.size) 24 #[.int .i64 err, .int .i64 miss, .slice G gs.length d]) hb8 (by omega))
    have Hc8 := Lib.hid (Holds.low (by have h := Hc6.out; exact (by (repeat first | (with_reducible first | assumption | apply Holds.set3 | apply Holds.set4 | apply Holds.putL | ((refine Holds.new' _ _ ?_); (simp; done)) | refine Holds.alloc ?_ _ | refine Holds.drew ?_ | refine Holds.far ?_ (by simp only [ne_eq]; omega) _) | rfl)) : Holds _ (w2.heap.size + 1) 27 #[.int .i64 full, .int .i64 emp, .slice H hs.length q]) hb8 (by omega))
    have Hm8 := Lib.hid (Holds.low (by have h := Hm6.out; exact (by (repeat first | (with_reducible first | assumption | apply Holds.set3 | apply Holds.set4 | apply Holds.putL | ((refine Holds.new' _ _ ?_); (simp; done)) | refine Holds.alloc ?_ _ | refine Holds.drew ?_ | refine Holds.far ?_ (by simp only [ne_eq]; omega) _) | rfl)) : Holds _ (w2.heap.size + 1 + 1) 28 #[.int .i64 m0, .int .i64 m1, .int .i64 m2, .int .i64 m3]) hb8 (by omega))
    have hz26 : w2.heap.size + 1 + 1 < w6.heap.size := lt_m
    have hb8' : Below w6.heap.size w6 w8 := Below.trans (by (repeat' (first | (with_reducible first | exact Below.refl _ _ | assumption | refine Below.alloc ?_ ?_ _ | refine Below.drew ?_ | refine Below.setCell ?_ ?_ _ | exact Nat.le_refl _) | omega | (simp only [World.size_alloc, World.size_setCell, World.size_drew]; omega) | (simp; omega) | (simp; done)))) (hb8.mono (by omega))
    have HB8 := Lib.hid (HB6.out.trans (hb8'.mono HB6.out.size))
    have HS8 := Lib.hid hS8
    have hz8 := hb8'.size
    have hs8 := hS8.lt
    have HY8 := Lib.hid (HY1.out.up (HB2.out.trans (HB8.out.mono hz2)))
    clear kg0 kg1 kg2 lt_g kc0 kc1 kc2 lt_c km0 km1 km2 km3 lt_m kp0 kp1 lt_p hb8 hb8' hS8 Hg6 Hc6 Hm6 Hp6
    go_wp2_with fail
    go_loopw [176] (fun v176 wr => SureRel w8 (w6.heap.size + 1) a1 len1 cap1 v176 wr) (fun v176 _ => 8 - (intOf v176).toNat)
    case atStart => exact ⟨0, 0, sm, rfl, by decide, by decide, HS8.out, grow_refl _ _⟩
    case round =>
     obtain ⟨i, tk, sm2, rfl, hi8, htk, hSr, hGr⟩ := hrel
     have HSr := Lib.hid hSr
     have HGr := Lib.hid hGr
     have hszr := hGr.size
     clear hSr hGr
     have Hgr := Lib.hid (Hg8.out.grown HGr.out (by omega))
     obtain ⟨kg0, kg1, kg2⟩ := Hgr.out.c3
     have lt_g : w2.heap.size < wr.heap.size := Hgr.out.lt
     have Hcr := Lib.hid (Hc8.out.grown HGr.out (by omega))
     obtain ⟨kc0, kc1, kc2⟩ := Hcr.out.c3
     have lt_c : w2.heap.size + 1 < wr.heap.size := Hcr.out.lt
     have Hmr := Lib.hid (Hm8.out.grown HGr.out (by omega))
     obtain ⟨km0, km1, km2, km3⟩ := Hmr.out.c4
     have lt_m : w2.heap.size + 1 + 1 < wr.heap.size := Hmr.out.lt
     by_cases hlt2 : i < 8
     ·go_wp2_with fail
      refine (near_any (w6.heap.size + 1) a1 len1 cap1 tk sm2 m0 m1 m2 m3 HOK.out.mix _ HSr.out (HY8.out.grown HS8.out HGr.out) hn1 (by omega)).mono ?_
      rintro e w9 ⟨x0, x1, x2, x3, tk9, sm9, rfl, hx9, ht9, hs9, hg9⟩
      have HS9 := Lib.hid hs9
      have HX9 := Lib.hid hx9
      have HG9 := Lib.hid (HGr.out.trans hg9)
      have Hg9 := Lib.hid (Hgr.out.grown hg9 (by omega))
      have Hc9 := Lib.hid (Hcr.out.grown hg9 (by omega))
      have Hm9 := Lib.hid (Hmr.out.grown hg9 (by omega))
      clear kg0 kg1 kg2 lt_g kc0 kc1 kc2 lt_c km0 km1 km2 km3 lt_m hs9 hx9 hg9
      have hz9 := HG9.out.size
      obtain ⟨kg0, kg1, kg2⟩ := Hg9.out.c3
      have lt_g : w2.heap.size < w9.heap.size := Hg9.out.lt
      obtain ⟨kc0, kc1, kc2⟩ := Hc9.out.c3
      have lt_c : w2.heap.size + 1 < w9.heap.size := Hc9.out.lt
      go_wp2_with fail
      go_roundw
      case rel => exact ⟨i + 1, tk9, sm9, by go_num, by omega, by omega, HS9.out.alloc _, only_up HG9.out ((Below.refl _ _).alloc (Nat.le_refl _) _)⟩
      case measure => simp [intOf]; omega
     ·have hi : i = 8 := by omega
      subst hi
      clear kg0 kg1 kg2 lt_g kc0 kc1 kc2 lt_c km0 km1 km2 km3 lt_m
      go_wp2_with fail
      refine (awake_any _).mono ?_
      rintro e wz ⟨rfl, hbz⟩
      go_wp2_with fail
      go_ret
      exact ⟨rfl, HB2.out.trans ((HB8.out.mono hz2).trans ((only_low HGr.out (by omega) (by omega) : Below w.heap.size w8 wr).trans (hbz.mono (by omega))))⟩
end Go.Proofs.Ytiibmkodlbobpaa
