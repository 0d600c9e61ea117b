
import Derived.Test.YtifffonoipapgaaTAA
import Derived.Test.YtifffonoipapgaaTAC
import Derived.Test.YtifffonoipapgaaTBF
import Derived.Test.YtifffonoipapgaaTBM
set_option linter.unusedSimpArgs false
set_option linter.unusedVariables false
namespace Go.Proofs.Ytifffonoipapgaa
open Go.RowKit
set_option maxRecDepth 100000 in
set_option maxHeartbeats 8000000 in
theorem refFit_any (err miss : Int) (G : Option Addr) (gl d : Nat) (y : Hf) (m0 m1 m2 m3 : Int) (q0 : 0 ≤ m0 ∧ m0 ≤ 40) (q1 : 0 ≤ m1 ∧ m1 ≤ 40) (q2 : 0 ≤ m2 ∧ m2 ≤ 40) (q3 : 0 ≤ m3 ∧ m3 ≤ 40) (i0 : 0 ≤ miss) (i1 : miss ≤ 20) (ht : y.taken = true) (w : World) :
  Calls Try.prog 96 #[.agg #[.int .i64 err, .int .i64 miss, .slice G gl d], .agg #[.int .i64 y.spot, .int .i64 y.g0, .int .i64 y.g1, .int .i64 y.g2, .int .i64 y.g3], .agg #[.int .i64 m0, .int .i64 m1, .int .i64 m2, .int .i64 m3]] w fun e w' => e = .returned (.bool (fitH miss m0 m1 m2 m3 y)) ∧ Below w.heap.size w w' := by
 have HT := Lib.hid ht
 clear ht
 obtain ⟨n, hn⟩ : ∃ z, z = y.sum := ⟨_, rfl⟩
 have HN := Lib.hid hn
 have hres : fitH miss m0 m1 m2 m3 y = fitTo miss n (gat y.g0 y.g1 y.g2 y.g3) (gat m0 m1 m2 m3) 4 := by rw [hn]; rfl
 rw [hres]
 have HRES := Lib.hid hres
 clear hres hn
 go_enter Try.func96, Try.ntmps96
 go_wp2_with fail
 go_loopw [7] (fun v7 wr => ∃ k : Nat, v7 = .int .i64 (k : Int) ∧ k ≤ 4 ∧ Hid (fitTo miss n (gat y.g0 y.g1 y.g2 y.g3) (gat m0 m1 m2 m3) k = true) ∧ Below w.heap.size w wr ∧ Holds wr (w.heap.size) 49 #[.int .i64 err, .int .i64 miss, .slice G gl d] ∧ Holds wr (w.heap.size + 1) 42 #[.int .i64 y.spot, .int .i64 y.g0, .int .i64 y.g1, .int .i64 y.g2, .int .i64 y.g3] ∧ Holds wr (w.heap.size + 1 + 1) 28 #[.int .i64 m0, .int .i64 m1, .int .i64 m2, .int .i64 m3]) (fun v7 _ => 4 - (intOf v7).toNat)
 case atStart => exact ⟨0, rfl, by decide, Lib.hid rfl, zg, by (repeat first | (with_reducible first | assumption | apply Holds.set3 | apply Holds.set4 | apply Holds.putL | ((refine Holds.new' _ _ ?_); (simp; done)) | refine Holds.alloc ?_ _ | refine Holds.drew ?_ | refine Holds.far ?_ (by simp only [ne_eq]; omega) _) | rfl), by (repeat first | (with_reducible first | assumption | apply Holds.set3 | apply Holds.set4 | apply Holds.putL | ((refine Holds.new' _ _ ?_); (simp; done)) | refine Holds.alloc ?_ _ | refine Holds.drew ?_ | refine Holds.far ?_ (by simp only [ne_eq]; omega) _) | rfl), by (repeat first | (with_reducible first | assumption | apply Holds.set3 | apply Holds.set4 | apply Holds.putL | ((refine Holds.new' _ _ ?_); (simp; done)) | refine Holds.alloc ?_ _ | refine Holds.drew ?_ | refine Holds.far ?_ (by simp only [ne_eq]; omega) _) | rfl)⟩
 case round =>
  obtain ⟨k, rfl, hk4, hft, hB, hg, hy, hm⟩ := hrel
  have HB := Lib.hid hB
  have HG := Lib.hid hg
  have HY := Lib.hid hy
  have HM := Lib.hid hm
  clear hB hg hy hm
  by_cases hk : k < 4
  ·have hki : (k : Int) < 4 := by omega
   obtain ⟨mk, hmk⟩ : ∃ z, z = gat m0 m1 m2 m3 k := ⟨_, rfl⟩
   have mb : 0 ≤ mk ∧ mk ≤ 40 := by rw [hmk]; exact gat_of q0.1 q1.1 q2.1 q3.1 q0.2 q1.2 q2.2 q3.2 k
   have HMK := Lib.hid hmk
   clear hmk
   obtain ⟨b, hb⟩ : ∃ z, fitK miss y.sum (gat y.g0 y.g1 y.g2 y.g3 k) mk = z := ⟨_, rfl⟩
   have HFB := Lib.hid hb
   clear hb
   go_wp2_with fail
   rename_i Kc hKc
   have HSL := Lib.hid (show slotsOf [some 12, some 13, some 14, some 15, some 16, some 17, some 18, some 19] = [12, 13, 14, 15, 16, 17, 18, 19] from rfl)
   refine wp_region_partsG (by kernel_rfl) [some 12, some 13, some 14, some 15, some 16, some 17, some 18, some 19] (fun jq xq w' => match jq with
    | 0 => xq 12 = .agg #[.int .i64 err, .int .i64 miss, .slice G gl d]
    | 1 => xq 13 = .agg #[.int .i64 y.spot, .int .i64 y.g0, .int .i64 y.g1, .int .i64 y.g2, .int .i64 y.g3]
    | 2 => xq 14 = .int .i64 (k : Int)
    | 3 => xq 15 = .int .i64 (k : Int)
    | 4 => xq 16 = .pointer (some ⟨w.heap.size + 1 + 1, k, none⟩)
    | 5 => xq 17 = .int .i64 mk
    | 6 => xq 18 = .bool b
    | 7 => xq 19 = .bool (!b)
    | _ => True) [[12], [13], [14], [15], [16], [17], [18], [19]] [] (fun w' => Below wr.heap.size wr w') (by kernel_rfl)  ?_ ?_ (fun w' w'' hb h => h.trans (hb.mono h.size)) (Below.refl _ _) ?_ ?_ ?_
   ·intro jq xq xq' wqq h hv
    match jq, h, hv with
    | 0, h, hv => show xq' 12 = .agg #[.int .i64 err, .int .i64 miss, .slice G gl d]; rw [← h 12 (by decide)]; exact hv
    | 1, h, hv => show xq' 13 = .agg #[.int .i64 y.spot, .int .i64 y.g0, .int .i64 y.g1, .int .i64 y.g2, .int .i64 y.g3]; rw [← h 13 (by decide)]; exact hv
    | 2, h, hv => show xq' 14 = .int .i64 (k : Int); rw [← h 14 (by decide)]; exact hv
    | 3, h, hv => show xq' 15 = .int .i64 (k : Int); rw [← h 15 (by decide)]; exact hv
    | 4, h, hv => show xq' 16 = .pointer (some ⟨w.heap.size + 1 + 1, k, none⟩); rw [← h 16 (by decide)]; exact hv
    | 5, h, hv => show xq' 17 = .int .i64 mk; rw [← h 17 (by decide)]; exact hv
    | 6, h, hv => show xq' 18 = .bool b; rw [← h 18 (by decide)]; exact hv
    | 7, h, hv => show xq' 19 = .bool (!b); rw [← h 19 (by decide)]; exact hv
    | _ + 8, _, _ => trivial
   ·intro jq xq wqq w' hb' hv
    match jq, hv with
    | 0, hv => exact hv
    | 1, hv => exact hv
    | 2, hv => exact hv
    | 3, hv => exact hv
    | 4, hv => exact hv
    | 5, hv => exact hv
    | 6, hv => exact hv
    | 7, hv => exact hv
    | _ + 8, _ => trivial
   ·intro jq hj
    match jq, hj with
    | 0, hj => exact absurd hj (by decide)
    | 1, hj => exact absurd hj (by decide)
    | 2, hj => exact absurd hj (by decide)
    | 3, hj => exact absurd hj (by decide)
    | 4, hj => exact absurd hj (by decide)
    | 5, hj => exact absurd hj (by decide)
    | 6, hj => exact absurd hj (by decide)
    | 7, hj => exact absurd hj (by decide)
    | _ + 8, _ => trivial
   ·refine ⟨?_, ?_, ?_, ?_, ?_, ?_, ?_, ?_, trivial⟩
    ·intro xq w1 hb1 hx K hK0
     have hK := fun v w' hb => hK0 v w' (.inl hb)
     clear hx hKc hK0
     obtain ⟨kHG0, kHG1, kHG2⟩ := (HG.out.up hb1).c3
     simp only [frameOf, fill, setSlot, sg, Nat.reduceBEq, if_true, if_false, Nat.reduceAdd, Nat.reduceEqDiff, HSL.out] at hK ⊢
     go_wp2_with (fail)
     exact hK _ _ (Below.refl _ _) rfl
    ·intro xq w1 hb1 hx K hK0
     have hK := fun v w' hb => hK0 v w' (.inl hb)
     clear hx hKc hK0
     obtain ⟨kHY0, kHY1, kHY2, kHY3, kHY4⟩ := (HY.out.up hb1).c5
     simp only [frameOf, fill, setSlot, sg, Nat.reduceBEq, if_true, if_false, Nat.reduceAdd, Nat.reduceEqDiff, HSL.out] at hK ⊢
     go_wp2_with (fail)
     exact hK _ _ (Below.refl _ _) rfl
    ·intro xq w1 hb1 hx K hK0
     have hK := fun v w' hb => hK0 v w' (.inl hb)
     clear hx hKc hK0
     simp only [frameOf, fill, setSlot, sg, Nat.reduceBEq, if_true, if_false, Nat.reduceAdd, Nat.reduceEqDiff, HSL.out] at hK ⊢
     go_wp2_with (fail)
     exact hK _ _ (Below.refl _ _) rfl
    ·intro xq w1 hb1 hx K hK0
     have hK := fun v w' hb => hK0 v w' (.inl hb)
     clear hx hKc hK0
     simp only [frameOf, fill, setSlot, sg, Nat.reduceBEq, if_true, if_false, Nat.reduceAdd, Nat.reduceEqDiff, HSL.out] at hK ⊢
     go_wp2_with (fail)
     exact hK _ _ (Below.refl _ _) rfl
    ·intro xq w1 hb1 hx K hK0
     have hK := fun v w' hb => hK0 v w' (.inl hb)
     have e15 : xq 15 = .int .i64 (k : Int) := hx 3 (by rfl) (by rfl)
     clear hx hKc hK0
     simp only [frameOf, fill, setSlot, sg, Nat.reduceBEq, if_true, if_false, Nat.reduceAdd, Nat.reduceEqDiff, HSL.out] at hK ⊢
     simp only [e15] at hK ⊢
     clear e15
     go_wp2_with (fail)
     exact hK _ _ (Below.refl _ _) rfl
    ·intro xq w1 hb1 hx K hK0
     have hK := fun v w' hb => hK0 v w' (.inl hb)
     have e16 : xq 16 = .pointer (some ⟨w.heap.size + 1 + 1, k, none⟩) := hx 4 (by rfl) (by rfl)
     clear hx hKc hK0
     have kmk : w1.cell? ⟨w.heap.size + 1 + 1, k, none⟩ = some (.int .i64 mk) := by rw [HMK.out]; exact cell4_at (HM.out.up hb1) hk
     simp only [frameOf, fill, setSlot, sg, Nat.reduceBEq, if_true, if_false, Nat.reduceAdd, Nat.reduceEqDiff, HSL.out] at hK ⊢
     simp only [e16] at hK ⊢
     clear e16
     go_wp2_with (fail)
     exact hK _ _ (Below.refl _ _) rfl
    ·intro xq w1 hb1 hx K hK0
     have hK := fun v w' hb => hK0 v w' (.inl hb)
     have e12 : xq 12 = .agg #[.int .i64 err, .int .i64 miss, .slice G gl d] := hx 0 (by rfl) (by rfl)
     have e13 : xq 13 = .agg #[.int .i64 y.spot, .int .i64 y.g0, .int .i64 y.g1, .int .i64 y.g2, .int .i64 y.g3] := hx 1 (by rfl) (by rfl)
     have e14 : xq 14 = .int .i64 (k : Int) := hx 2 (by rfl) (by rfl)
     have e17 : xq 17 = .int .i64 mk := hx 5 (by rfl) (by rfl)
     clear hx hKc hK0
     simp only [frameOf, fill, setSlot, sg, Nat.reduceBEq, if_true, if_false, Nat.reduceAdd, Nat.reduceEqDiff, HSL.out] at hK ⊢
     simp only [e12, e13, e14, e17] at hK ⊢
     clear e12 e13 e14 e17
     go_wp2_with (go_at_call 95; refine (refLet_any err miss G gl d y k hk mk mb.1 mb.2 i0 i1 HT.out _).mono ?_; rw [HFB.out]; rintro e w2_ ⟨rfl, hb_⟩)
     exact hK _ _ hb_ rfl
    ·intro xq w1 hb1 hx K hK0
     have hK := fun v w' hb => hK0 v w' (.inl hb)
     have e18 : xq 18 = .bool b := hx 6 (by rfl) (by rfl)
     clear hx hKc hK0
     simp only [frameOf, fill, setSlot, sg, Nat.reduceBEq, if_true, if_false, Nat.reduceAdd, Nat.reduceEqDiff, HSL.out] at hK ⊢
     simp only [e18] at hK ⊢
     clear e18
     go_wp2_with (fail)
     exact hK _ _ (Below.refl _ _) rfl
   ·intro xq w1 hb1 hx
    have e12 : xq 12 = .agg #[.int .i64 err, .int .i64 miss, .slice G gl d] := hx 0 (by decide)
    have e13 : xq 13 = .agg #[.int .i64 y.spot, .int .i64 y.g0, .int .i64 y.g1, .int .i64 y.g2, .int .i64 y.g3] := hx 1 (by decide)
    have e14 : xq 14 = .int .i64 (k : Int) := hx 2 (by decide)
    have e15 : xq 15 = .int .i64 (k : Int) := hx 3 (by decide)
    have e16 : xq 16 = .pointer (some ⟨w.heap.size + 1 + 1, k, none⟩) := hx 4 (by decide)
    have e17 : xq 17 = .int .i64 mk := hx 5 (by decide)
    have e18 : xq 18 = .bool b := hx 6 (by decide)
    have e19 : xq 19 = .bool (!b) := hx 7 (by decide)
    clear hx
    simp only [frameOf, fill, setSlot, sg, Nat.reduceBEq, if_true, if_false, Nat.reduceAdd, Nat.reduceEqDiff, HSL.out]
    simp only [e12, e13, e14, e15, e16, e17, e18, e19]
    clear e12 e13 e14 e15 e16 e17 e18 e19
    refine hKc _ _ ?_
    have HR := Lib.hid hb1
    have HBR := Lib.hid (HB.out.trans (hb1.mono HB.out.size))
    clear hb1
    cases b with
    | true =>
     have HT1 : Hid (fitTo miss n (gat y.g0 y.g1 y.g2 y.g3) (gat m0 m1 m2 m3) (k + 1) = true) := Lib.hid (by rw [fitTo, hft.out, ← HMK.out, HN.out, HFB.out]; rfl)
     go_wp2_with fail
     go_roundw
     case rel => exact ⟨k + 1, by go_num, by omega, HT1, HBR.out.trans zg, (by have h := HG.out.up HR.out; exact zp4), (by have h := HY.out.up HR.out; exact zp4), (by have h := HM.out.up HR.out; exact zp4)⟩
     case measure => first | (simp [intOf]; done) | (simp [intOf]; omega)
    | false =>
     have hfin : fitTo miss n (gat y.g0 y.g1 y.g2 y.g3) (gat m0 m1 m2 m3) 4 = false := fitTo_false (by rw [← HMK.out, HN.out]; exact HFB.out) 4 hk
     have HF := Lib.hid hfin
     clear hfin
     go_wp2_with fail
     go_ret
     exact ⟨by rw [HF.out]; rfl, HBR.out.trans zg⟩
  ·have hk' : k = 4 := by omega
   subst hk'
   go_wp2_with fail
   go_ret
   exact ⟨by rw [hft.out]; rfl, HB.out⟩
set_option maxRecDepth 100000 in
set_option maxHeartbeats 8000000 in
theorem refFits_any (err miss : Int) (G : Option Addr) (gl d : Nat) (full emp : Int) (A : Option Addr) (c : Nat) (hs : List Hf) (m0 m1 m2 m3 : Int) (q0 : 0 ≤ m0 ∧ m0 ≤ 40) (q1 : 0 ≤ m1 ∧ m1 ≤ 40) (q2 : 0 ≤ m2 ∧ m2 ≤ 40) (q3 : 0 ≤ m3 ∧ m3 ≤ 40) (i0 : 0 ≤ miss) (i1 : miss ≤ 20) (w : World) (hA : HandsAt w A hs) (hl : hs.length ≤ 1000) (ht : ∀ x ∈ hs, x.taken = true) :
  Calls Try.prog 35 #[.agg #[.int .i64 err, .int .i64 miss, .slice G gl d], .agg #[.int .i64 full, .int .i64 emp, .slice A hs.length c], .agg #[.int .i64 m0, .int .i64 m1, .int .i64 m2, .int .i64 m3]] w fun e w' => e = .returned (.bool (hs.all (fitH miss m0 m1 m2 m3))) ∧ Below w.heap.size w w' := by
 have HA := Lib.hid hA
 have HT := Lib.hid ht
 clear hA ht
 go_enter Try.func35, Try.ntmps35
 go_wp2_with fail
 go_loopw [7] (fun v7 wr => ∃ k : Nat, v7 = .int .i64 (k : Int) ∧ k ≤ hs.length ∧ Hid (hs.all (fitH miss m0 m1 m2 m3) = (hs.drop k).all (fitH miss m0 m1 m2 m3)) ∧ Below w.heap.size w wr ∧ Holds wr (w.heap.size) 49 #[.int .i64 err, .int .i64 miss, .slice G gl d] ∧ Holds wr (w.heap.size + 1) 37 #[.int .i64 full, .int .i64 emp, .slice A hs.length c] ∧ Holds wr (w.heap.size + 1 + 1) 28 #[.int .i64 m0, .int .i64 m1, .int .i64 m2, .int .i64 m3]) (fun v7 _ => hs.length - (intOf v7).toNat)
 case atStart => exact ⟨0, rfl, Nat.zero_le _, Lib.hid rfl, zg, by (repeat first | (with_reducible first | assumption | apply Holds.set3 | apply Holds.set4 | apply Holds.putL | ((refine Holds.new' _ _ ?_); (simp; done)) | refine Holds.alloc ?_ _ | refine Holds.drew ?_ | refine Holds.far ?_ (by simp only [ne_eq]; omega) _) | rfl), by (repeat first | (with_reducible first | assumption | apply Holds.set3 | apply Holds.set4 | apply Holds.putL | ((refine Holds.new' _ _ ?_); (simp; done)) | refine Holds.alloc ?_ _ | refine Holds.drew ?_ | refine Holds.far ?_ (by simp only [ne_eq]; omega) _) | rfl), by (repeat first | (with_reducible first | assumption | apply Holds.set3 | apply Holds.set4 | apply Holds.putL | ((refine Holds.new' _ _ ?_); (simp; done)) | refine Holds.alloc ?_ _ | refine Holds.drew ?_ | refine Holds.far ?_ (by simp only [ne_eq]; omega) _) | rfl)⟩
 case round =>
  obtain ⟨k, rfl, hkl, hp, hB, hg, hc, hm⟩ := hrel
  have HB := Lib.hid hB
  have HG := Lib.hid hg
  have HC := Lib.hid hc
  have HM := Lib.hid hm
  have lc := hc.lt
  obtain ⟨kc0, kc1, kc2⟩ := hc.c3
  clear hB hg hc hm
  by_cases hlt : k < hs.length
  ·have hlt' : (k : Int) < hs.length := by omega
   obtain ⟨B, o, rfl, hcell⟩ := (HA.out.up HB.out) (by omega)
   obtain ⟨c0, c1, c2, c3, c4⟩ := hcell k _ (List.getElem?_eq_getElem hlt)
   clear hcell
   have HTY := Lib.hid (HT.out _ (List.getElem_mem hlt))
   obtain ⟨y, hh⟩ : ∃ z, z = hs[k] := ⟨_, rfl⟩
   rw [← hh] at HTY c0 c1 c2 c3 c4
   have HH := Lib.hid hh
   have lB := World.block_lt_of_cell? wr _ c0
   clear hh
   obtain ⟨b, hb⟩ : ∃ z, fitH miss m0 m1 m2 m3 y = z := ⟨_, rfl⟩
   have HFB := Lib.hid hb
   clear hb
   go_wp2_with fail
   rename_i Kc hKc
   have HSL := Lib.hid (show slotsOf [some 15, some 16, some 17, some 18, some 19, some 20, some 21, some 22, some 23] = [15, 16, 17, 18, 19, 20, 21, 22, 23] from rfl)
   refine wp_region_partsG (by kernel_rfl) [some 15, some 16, some 17, some 18, some 19, some 20, some 21, some 22, some 23] (fun jq xq w' => match jq with
    | 0 => xq 15 = .agg #[.int .i64 err, .int .i64 miss, .slice G gl d]
    | 1 => xq 16 = .pointer (some ⟨w.heap.size + 1, 2, none⟩)
    | 2 => xq 17 = .slice (some ⟨B, o, none⟩) hs.length c
    | 3 => xq 18 = .int .i64 (k : Int)
    | 4 => xq 19 = .pointer (some ⟨B, o + k * 5, none⟩)
    | 5 => xq 20 = .agg #[.int .i64 y.spot, .int .i64 y.g0, .int .i64 y.g1, .int .i64 y.g2, .int .i64 y.g3]
    | 6 => xq 21 = .agg #[.int .i64 m0, .int .i64 m1, .int .i64 m2, .int .i64 m3]
    | 7 => xq 22 = .bool b
    | 8 => xq 23 = .bool (!b)
    | _ => True) [[15], [16], [17], [18], [19], [20], [21], [22], [23]] [] (fun w' => Below wr.heap.size wr w') (by kernel_rfl)  ?_ ?_ (fun w' w'' hb h => h.trans (hb.mono h.size)) (Below.refl _ _) ?_ ?_ ?_
   ·intro jq xq xq' wqq h hv
    match jq, h, hv with
    | 0, h, hv => show xq' 15 = .agg #[.int .i64 err, .int .i64 miss, .slice G gl d]; rw [← h 15 (by decide)]; exact hv
    | 1, h, hv => show xq' 16 = .pointer (some ⟨w.heap.size + 1, 2, none⟩); rw [← h 16 (by decide)]; exact hv
    | 2, h, hv => show xq' 17 = .slice (some ⟨B, o, none⟩) hs.length c; rw [← h 17 (by decide)]; exact hv
    | 3, h, hv => show xq' 18 = .int .i64 (k : Int); rw [← h 18 (by decide)]; exact hv
    | 4, h, hv => show xq' 19 = .pointer (some ⟨B, o + k * 5, none⟩); rw [← h 19 (by decide)]; exact hv
    | 5, h, hv => show xq' 20 = .agg #[.int .i64 y.spot, .int .i64 y.g0, .int .i64 y.g1, .int .i64 y.g2, .int .i64 y.g3]; rw [← h 20 (by decide)]; exact hv
    | 6, h, hv => show xq' 21 = .agg #[.int .i64 m0, .int .i64 m1, .int .i64 m2, .int .i64 m3]; rw [← h 21 (by decide)]; exact hv
    | 7, h, hv => show xq' 22 = .bool b; rw [← h 22 (by decide)]; exact hv
    | 8, h, hv => show xq' 23 = .bool (!b); rw [← h 23 (by decide)]; exact hv
    | _ + 9, _, _ => trivial
   ·intro jq xq wqq w' hb' hv
    match jq, hv with
    | 0, hv => exact hv
    | 1, hv => exact hv
    | 2, hv => exact hv
    | 3, hv => exact hv
    | 4, hv => exact hv
    | 5, hv => exact hv
    | 6, hv => exact hv
    | 7, hv => exact hv
    | 8, hv => exact hv
    | _ + 9, _ => trivial
   ·intro jq hj
    match jq, hj with
    | 0, hj => exact absurd hj (by decide)
    | 1, hj => exact absurd hj (by decide)
    | 2, hj => exact absurd hj (by decide)
    | 3, hj => exact absurd hj (by decide)
    | 4, hj => exact absurd hj (by decide)
    | 5, hj => exact absurd hj (by decide)
    | 6, hj => exact absurd hj (by decide)
    | 7, hj => exact absurd hj (by decide)
    | 8, hj => exact absurd hj (by decide)
    | _ + 9, _ => trivial
   ·refine ⟨?_, ?_, ?_, ?_, ?_, ?_, ?_, ?_, ?_, trivial⟩
    ·intro xq w1 hb1 hx K hK0
     have hK := fun v w' hb => hK0 v w' (.inl hb)
     clear hx hKc hK0
     obtain ⟨kHG0, kHG1, kHG2⟩ := (HG.out.up hb1).c3
     simp only [frameOf, fill, setSlot, sg, Nat.reduceBEq, if_true, if_false, Nat.reduceAdd, Nat.reduceEqDiff, HSL.out] at hK ⊢
     go_wp2_with (fail)
     exact hK _ _ (Below.refl _ _) rfl
    ·intro xq w1 hb1 hx K hK0
     have hK := fun v w' hb => hK0 v w' (.inl hb)
     clear hx hKc hK0
     simp only [frameOf, fill, setSlot, sg, Nat.reduceBEq, if_true, if_false, Nat.reduceAdd, Nat.reduceEqDiff, HSL.out] at hK ⊢
     go_wp2_with (fail)
     exact hK _ _ (Below.refl _ _) rfl
    ·intro xq w1 hb1 hx K hK0
     have hK := fun v w' hb => hK0 v w' (.inl hb)
     have e16 : xq 16 = .pointer (some ⟨w.heap.size + 1, 2, none⟩) := hx 1 (by rfl) (by rfl)
     clear hx hKc hK0
     have kHC2 : w1.cell? ⟨w.heap.size + 1, 2, none⟩ = some (.slice (some ⟨B, o, none⟩) hs.length c) := (HC.out.up hb1).cell 2
     simp only [frameOf, fill, setSlot, sg, Nat.reduceBEq, if_true, if_false, Nat.reduceAdd, Nat.reduceEqDiff, HSL.out] at hK ⊢
     simp only [e16] at hK ⊢
     clear e16
     go_wp2_with (fail)
     exact hK _ _ (Below.refl _ _) rfl
    ·intro xq w1 hb1 hx K hK0
     have hK := fun v w' hb => hK0 v w' (.inl hb)
     clear hx hKc hK0
     simp only [frameOf, fill, setSlot, sg, Nat.reduceBEq, if_true, if_false, Nat.reduceAdd, Nat.reduceEqDiff, HSL.out] at hK ⊢
     go_wp2_with (fail)
     exact hK _ _ (Below.refl _ _) rfl
    ·intro xq w1 hb1 hx K hK0
     have hK := fun v w' hb => hK0 v w' (.inl hb)
     have e17 : xq 17 = .slice (some ⟨B, o, none⟩) hs.length c := hx 2 (by rfl) (by rfl)
     have e18 : xq 18 = .int .i64 (k : Int) := hx 3 (by rfl) (by rfl)
     clear hx hKc hK0
     have hki : (k : Int) < hs.length := by omega
     simp only [frameOf, fill, setSlot, sg, Nat.reduceBEq, if_true, if_false, Nat.reduceAdd, Nat.reduceEqDiff, HSL.out] at hK ⊢
     simp only [e17, e18] at hK ⊢
     clear e17 e18
     go_wp2_with (fail)
     exact hK _ _ (Below.refl _ _) rfl
    ·intro xq w1 hb1 hx K hK0
     have hK := fun v w' hb => hK0 v w' (.inl hb)
     have e19 : xq 19 = .pointer (some ⟨B, o + k * 5, none⟩) := hx 4 (by rfl) (by rfl)
     clear hx hKc hK0
     have ky0 : w1.cell? ⟨B, o + k * 5, none⟩ = some (.int .i64 y.spot) := up_cell hb1 c0
     have ky1 : w1.cell? ⟨B, o + k * 5 + 1, none⟩ = some (.int .i64 y.g0) := up_cell hb1 c1
     have ky2 : w1.cell? ⟨B, o + k * 5 + 2, none⟩ = some (.int .i64 y.g1) := up_cell hb1 c2
     have ky3 : w1.cell? ⟨B, o + k * 5 + 3, none⟩ = some (.int .i64 y.g2) := up_cell hb1 c3
     have ky4 : w1.cell? ⟨B, o + k * 5 + 4, none⟩ = some (.int .i64 y.g3) := up_cell hb1 c4
     simp only [frameOf, fill, setSlot, sg, Nat.reduceBEq, if_true, if_false, Nat.reduceAdd, Nat.reduceEqDiff, HSL.out] at hK ⊢
     simp only [e19] at hK ⊢
     clear e19
     go_wp2_with (fail)
     exact hK _ _ (Below.refl _ _) rfl
    ·intro xq w1 hb1 hx K hK0
     have hK := fun v w' hb => hK0 v w' (.inl hb)
     clear hx hKc hK0
     obtain ⟨kHM0, kHM1, kHM2, kHM3⟩ := (HM.out.up hb1).c4
     simp only [frameOf, fill, setSlot, sg, Nat.reduceBEq, if_true, if_false, Nat.reduceAdd, Nat.reduceEqDiff, HSL.out] at hK ⊢
     go_wp2_with (fail)
     exact hK _ _ (Below.refl _ _) rfl
    ·intro xq w1 hb1 hx K hK0
     have hK := fun v w' hb => hK0 v w' (.inl hb)
     have e15 : xq 15 = .agg #[.int .i64 err, .int .i64 miss, .slice G gl d] := hx 0 (by rfl) (by rfl)
     have e20 : xq 20 = .agg #[.int .i64 y.spot, .int .i64 y.g0, .int .i64 y.g1, .int .i64 y.g2, .int .i64 y.g3] := hx 5 (by rfl) (by rfl)
     have e21 : xq 21 = .agg #[.int .i64 m0, .int .i64 m1, .int .i64 m2, .int .i64 m3] := hx 6 (by rfl) (by rfl)
     clear hx hKc hK0
     simp only [frameOf, fill, setSlot, sg, Nat.reduceBEq, if_true, if_false, Nat.reduceAdd, Nat.reduceEqDiff, HSL.out] at hK ⊢
     simp only [e15, e20, e21] at hK ⊢
     clear e15 e20 e21
     go_wp2_with (go_at_call 96; refine (refFit_any err miss G gl d y m0 m1 m2 m3 q0 q1 q2 q3 i0 i1 HTY.out _).mono ?_; rw [HFB.out]; rintro e w2_ ⟨rfl, hb_⟩)
     exact hK _ _ hb_ rfl
    ·intro xq w1 hb1 hx K hK0
     have hK := fun v w' hb => hK0 v w' (.inl hb)
     have e22 : xq 22 = .bool b := hx 7 (by rfl) (by rfl)
     clear hx hKc hK0
     simp only [frameOf, fill, setSlot, sg, Nat.reduceBEq, if_true, if_false, Nat.reduceAdd, Nat.reduceEqDiff, HSL.out] at hK ⊢
     simp only [e22] at hK ⊢
     clear e22
     go_wp2_with (fail)
     exact hK _ _ (Below.refl _ _) rfl
   ·intro xq w1 hb1 hx
    have e15 : xq 15 = .agg #[.int .i64 err, .int .i64 miss, .slice G gl d] := hx 0 (by decide)
    have e16 : xq 16 = .pointer (some ⟨w.heap.size + 1, 2, none⟩) := hx 1 (by decide)
    have e17 : xq 17 = .slice (some ⟨B, o, none⟩) hs.length c := hx 2 (by decide)
    have e18 : xq 18 = .int .i64 (k : Int) := hx 3 (by decide)
    have e19 : xq 19 = .pointer (some ⟨B, o + k * 5, none⟩) := hx 4 (by decide)
    have e20 : xq 20 = .agg #[.int .i64 y.spot, .int .i64 y.g0, .int .i64 y.g1, .int .i64 y.g2, .int .i64 y.g3] := hx 5 (by decide)
    have e21 : xq 21 = .agg #[.int .i64 m0, .int .i64 m1, .int .i64 m2, .int .i64 m3] := hx 6 (by decide)
    have e22 : xq 22 = .bool b := hx 7 (by decide)
    have e23 : xq 23 = .bool (!b) := hx 8 (by decide)
    clear hx
    simp only [frameOf, fill, setSlot, sg, Nat.reduceBEq, if_true, if_false, Nat.reduceAdd, Nat.reduceEqDiff, HSL.out]
    simp only [e15, e16, e17, e18, e19, e20, e21, e22, e23]
    clear e15 e16 e17 e18 e19 e20 e21 e22 e23
    refine hKc _ _ ?_
    have HR := Lib.hid hb1
    have HBR := Lib.hid (HB.out.trans (hb1.mono HB.out.size))
    clear hb1
    cases b with
    | true =>
     have HK1 : Hid (hs.all (fitH miss m0 m1 m2 m3) = (hs.drop (k + 1)).all (fitH miss m0 m1 m2 m3)) := Lib.hid (by rw [hp.out, List.drop_eq_getElem_cons hlt, List.all_cons, ← HH.out, HFB.out, Bool.true_and])
     go_wp2_with fail
     go_roundw
     case rel => exact ⟨k + 1, by go_num, hlt, HK1, HBR.out.trans zg, (by have h := HG.out.up HR.out; exact zp4), (by have h := HC.out.up HR.out; exact zp4), (by have h := HM.out.up HR.out; exact zp4)⟩
     case measure => first | (simp [intOf]; done) | (simp [intOf]; omega)
    | false =>
     have hfin : hs.all (fitH miss m0 m1 m2 m3) = false := by rw [hp.out, List.drop_eq_getElem_cons hlt, List.all_cons, ← HH.out, HFB.out, Bool.false_and]
     have HF := Lib.hid hfin
     clear hfin
     go_wp2_with fail
     go_ret
     exact ⟨by rw [HF.out]; rfl, HBR.out.trans zg⟩
  ·have hlt' : ¬ (k : Int) < hs.length := by omega
   have hkl' : k = hs.length := by omega
   have hfin : hs.all (fitH miss m0 m1 m2 m3) = true := by rw [hp.out, hkl', List.drop_length]; rfl
   have HF := Lib.hid hfin
   clear hfin hkl'
   go_wp2_with fail
   go_ret
   exact ⟨by rw [HF.out]; rfl, HB.out⟩
set_option maxRecDepth 100000 in
set_option maxHeartbeats 8000000 in
theorem refHas_any (err miss : Int) (G : Option Addr) (d : Nat) (gs : List Gr) (m0 m1 m2 m3 : Int) (w : World) (hG : GradesAt w G gs) (hgl : gs.length ≤ 1000) :
  Calls Try.prog 36 #[.agg #[.int .i64 err, .int .i64 miss, .slice G gs.length d], .agg #[.int .i64 m0, .int .i64 m1, .int .i64 m2, .int .i64 m3]] w fun e w' => e = .returned (.int .i64 (hasN gs m0 m1 m2 m3)) ∧ Below w.heap.size w w' := by
 have HG := Lib.hid hG
 clear hG
 go_enter Try.func36, Try.ntmps36
 go_wp2_with fail
 go_loopw [5] (fun v5 wr => ∃ k : Nat, v5 = .int .i64 (k : Int) ∧ k ≤ gs.length ∧ Hid (hasN gs m0 m1 m2 m3 = idxFrom (limB m0 m1 m2 m3) (gs.drop k) k) ∧ Below w.heap.size w wr ∧ Holds wr (w.heap.size) 49 #[.int .i64 err, .int .i64 miss, .slice G gs.length d] ∧ Holds wr (w.heap.size + 1) 28 #[.int .i64 m0, .int .i64 m1, .int .i64 m2, .int .i64 m3]) (fun v5 _ => gs.length - (intOf v5).toNat)
 case atStart => exact ⟨0, rfl, Nat.zero_le _, Lib.hid rfl, zg, by (repeat first | (with_reducible first | assumption | apply Holds.set3 | apply Holds.set4 | apply Holds.putL | ((refine Holds.new' _ _ ?_); (simp; done)) | refine Holds.alloc ?_ _ | refine Holds.drew ?_ | refine Holds.far ?_ (by simp only [ne_eq]; omega) _) | rfl), by (repeat first | (with_reducible first | assumption | apply Holds.set3 | apply Holds.set4 | apply Holds.putL | ((refine Holds.new' _ _ ?_); (simp; done)) | refine Holds.alloc ?_ _ | refine Holds.drew ?_ | refine Holds.far ?_ (by simp only [ne_eq]; omega) _) | rfl)⟩
 case round =>
  obtain ⟨k, rfl, hkl, hp, hB, hg, hm⟩ := hrel
  have HB := Lib.hid hB
  have HR := Lib.hid hg
  have HM := Lib.hid hm
  have lg := hg.lt
  have lm := hm.lt
  obtain ⟨kg0, kg1, kg2⟩ := hg.c3
  obtain ⟨km0, km1, km2, km3⟩ := hm.c4
  clear hB hg hm
  by_cases hlt : k < gs.length
  ·have hlt' : (k : Int) < gs.length := by omega
   obtain ⟨B, o, rfl, hcell⟩ := (HG.out.up HB.out) (by omega)
   obtain ⟨c0, c1, c2, c3, c4⟩ := hcell k _ (List.getElem?_eq_getElem hlt)
   clear hcell
   obtain ⟨g, hh⟩ : ∃ z, z = gs[k] := ⟨_, rfl⟩
   rw [← hh] at c0 c1 c2 c3 c4
   have HH := Lib.hid hh
   have lB := World.block_lt_of_cell? wr _ c0
   clear hh
   by_cases t0 : g.corn ≤ m0
   ·by_cases t1 : m1 ≤ g.chaff
    ·by_cases t2 : m2 ≤ g.stones
     ·by_cases t3 : m3 ≤ g.damp
      ·have hf : hasN gs m0 m1 m2 m3 = (k : Int) := by rw [hp.out, List.drop_eq_getElem_cons hlt, idxFrom, ← HH.out, limB, decide_eq_true t0, decide_eq_true t1, decide_eq_true t2, decide_eq_true t3]; rfl
       have HF := Lib.hid hf
       clear hf
       go_wp2_with fail
       go_ret
       exact ⟨by rw [HF.out]; rfl, HB.out.trans zg⟩
      ·have HK1 : Hid (hasN gs m0 m1 m2 m3 = idxFrom (limB m0 m1 m2 m3) (gs.drop (k + 1)) (k + 1)) := Lib.hid (by rw [hp.out, List.drop_eq_getElem_cons hlt, idxFrom, ← HH.out, limB, decide_eq_false t3]; simp)
       go_wp2_with fail
       go_roundw
       case rel => exact ⟨k + 1, by go_num, hlt, HK1, HB.out.trans zg, (by have h := HR.out; exact zp4), (by have h := HM.out; exact zp4)⟩
       case measure => first | (simp [intOf]; done) | (simp [intOf]; omega)
     ·have HK1 : Hid (hasN gs m0 m1 m2 m3 = idxFrom (limB m0 m1 m2 m3) (gs.drop (k + 1)) (k + 1)) := Lib.hid (by rw [hp.out, List.drop_eq_getElem_cons hlt, idxFrom, ← HH.out, limB, decide_eq_false t2]; simp)
      go_wp2_with fail
      go_roundw
      case rel => exact ⟨k + 1, by go_num, hlt, HK1, HB.out.trans zg, (by have h := HR.out; exact zp4), (by have h := HM.out; exact zp4)⟩
      case measure => first | (simp [intOf]; done) | (simp [intOf]; omega)
    ·have HK1 : Hid (hasN gs m0 m1 m2 m3 = idxFrom (limB m0 m1 m2 m3) (gs.drop (k + 1)) (k + 1)) := Lib.hid (by rw [hp.out, List.drop_eq_getElem_cons hlt, idxFrom, ← HH.out, limB, decide_eq_false t1]; simp)
     go_wp2_with fail
     go_roundw
     case rel => exact ⟨k + 1, by go_num, hlt, HK1, HB.out.trans zg, (by have h := HR.out; exact zp4), (by have h := HM.out; exact zp4)⟩
     case measure => first | (simp [intOf]; done) | (simp [intOf]; omega)
   ·have HK1 : Hid (hasN gs m0 m1 m2 m3 = idxFrom (limB m0 m1 m2 m3) (gs.drop (k + 1)) (k + 1)) := Lib.hid (by rw [hp.out, List.drop_eq_getElem_cons hlt, idxFrom, ← HH.out, limB, decide_eq_false t0]; simp)
    go_wp2_with fail
    go_roundw
    case rel => exact ⟨k + 1, by go_num, hlt, HK1, HB.out.trans zg, (by have h := HR.out; exact zp4), (by have h := HM.out; exact zp4)⟩
    case measure => first | (simp [intOf]; done) | (simp [intOf]; omega)
  ·have hlt' : ¬ (k : Int) < gs.length := by omega
   have hkl' : k = gs.length := by omega
   have hf : hasN gs m0 m1 m2 m3 = -1 := by rw [hp.out, hkl', List.drop_length]; rfl
   have HF := Lib.hid hf
   clear hf hkl'
   go_wp2_with fail
   go_ret
   exact ⟨by rw [HF.out]; rfl, HB.out⟩
end Go.Proofs.Ytifffonoipapgaa
