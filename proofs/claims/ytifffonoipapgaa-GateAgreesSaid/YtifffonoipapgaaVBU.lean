
import Derived.Test.YtifffonoipapgaaVAA
import Derived.Test.YtifffonoipapgaaVAC
import Derived.Test.YtifffonoipapgaaVBF
import Derived.Test.YtifffonoipapgaaVBS
import Derived.Test.YtifffonoipapgaaVBT
set_option linter.unusedSimpArgs false
set_option linter.unusedVariables false
namespace Go.Proofs.Ytifffonoipapgaa
open Go.RowKit
set_option maxRecDepth 100000 in
set_option maxHeartbeats 8000000 in
theorem refFit_any (err miss : Int) (G : Option Addr) (gl d : Nat) (y : Hf) (m0 m1 m2 m3 : Int) (q0 : 0 ≤ m0 ∧ m0 ≤ 40) (q1 : 0 ≤ m1 ∧ m1 ≤ 40) (q2 : 0 ≤ m2 ∧ m2 ≤ 40) (q3 : 0 ≤ m3 ∧ m3 ≤ 40) (i0 : 0 ≤ miss) (i1 : miss ≤ 20) (ht : y.taken = true) (w : World) :
  Calls Try.prog 96 #[.agg #[.int .i64 err, .int .i64 miss, .slice G gl d], .agg #[.int .i64 y.spot, .int .i64 y.g0, .int .i64 y.g1, .int .i64 y.g2, .int .i64 y.g3], .agg #[.int .i64 m0, .int .i64 m1, .int .i64 m2, .int .i64 m3]] w fun e w' => e = .returned (.bool (fitH miss m0 m1 m2 m3 y)) ∧ Below w.heap.size w w' := by
 have HT := Lib.hid ht
 clear ht
 obtain ⟨n, hn⟩ : ∃ z, z = y.sum := ⟨_, rfl⟩
 have HN := Lib.hid hn
 have hres : fitH miss m0 m1 m2 m3 y = fitTo miss n (gat y.g0 y.g1 y.g2 y.g3) (gat m0 m1 m2 m3) 4 := by rw [hn]; rfl
 rw [hres]
 have HRES := Lib.hid hres
 clear hres hn
 go_enter Try.func96, Try.ntmps96
 go_wp2_with fail
 go_loopw [7] (fun v7 wr => ∃ k : Nat, v7 = .int .i64 (k : Int) ∧ k ≤ 4 ∧ Hid (fitTo miss n (gat y.g0 y.g1 y.g2 y.g3) (gat m0 m1 m2 m3) k = true) ∧ Below w.heap.size w wr ∧ Holds wr (w.heap.size) 49 #[.int .i64 err, .int .i64 miss, .slice G gl d] ∧ Holds wr (w.heap.size + 1) 42 #[.int .i64 y.spot, .int .i64 y.g0, .int .i64 y.g1, .int .i64 y.g2, .int .i64 y.g3] ∧ Holds wr (w.heap.size + 1 + 1) 28 #[.int .i64 m0, .int .i64 m1, .int .i64 m2, .int .i64 m3]) (fun v7 _ => 4 - (intOf v7).toNat)
 case atStart => exact ⟨0, rfl, by decide, Lib.hid rfl, zg, by (repeat first | (with_reducible first | assumption | apply Holds.set3 | apply Holds.set4 | apply Holds.putL | ((refine Holds.new' _ _ ?_); (simp; done)) | refine Holds.alloc ?_ _ | refine Holds.drew ?_ | refine Holds.far ?_ (by simp only [ne_eq]; omega) _) | rfl), by (repeat first | (with_reducible first | assumption | apply Holds.set3 | apply Holds.set4 | apply Holds.putL | ((refine Holds.new' _ _ ?_); (simp; done)) | refine Holds.alloc ?_ _ | refine Holds.drew ?_ | refine Holds.far ?_ (by simp only [ne_eq]; omega) _) | rfl), by (repeat first | (with_reducible first | assumption | apply Holds.set3 | apply Holds.set4 | apply Holds.putL | ((refine Holds.new' _ _ ?_); (simp; done)) | refine Holds.alloc ?_ _ | refine Holds.drew ?_ | refine Holds.far ?_ (by simp only [ne_eq]; omega) _) | rfl)⟩
 case round =>
  obtain ⟨k, rfl, hk4, hft, hB, hg, hy, hm⟩ := hrel
  have HB := Lib.hid hB
  have HG := Lib.hid hg
  have HY := Lib.hid hy
  have HM := Lib.hid hm
  clear hB hg hy hm
  by_cases hk : k < 4
  ·have hki : (k : Int) < 4 := by omega
   obtain ⟨mk, hmk⟩ : ∃ z, z = gat m0 m1 m2 m3 k := ⟨_, rfl⟩
   have mb : 0 ≤ mk ∧ mk ≤ 40 := by rw [hmk]; exact gat_of q0.1 q1.1 q2.1 q3.1 q0.2 q1.2 q2.2 q3.2 k
   have HMK := Lib.hid hmk
   clear hmk
   obtain ⟨b, hb⟩ : ∃ z, fitK miss y.sum (gat y.g0 y.g1 y.g2 y.g3 k) mk = z := ⟨_, rfl⟩
   have HFB := Lib.hid hb
   clear hb
   go_wp2_with fail
   rename_i Kc hKc
   have HSL := Lib.hid (show slotsOf [some 12, some 13, some 14, some 15, some 16, some 17, some 18, some 19] = [12, 13, 14, 15, 16, 17, 18, 19] from rfl)
   refine wp_region_partsG (by kernel_rfl) [some 12, some 13, some 14, some 15, some 16, some 17, some 18, some 19] (fun jq xq w' => match jq with
    | 0 => xq 12 = .agg #[.int .i64 err, .int .i64 miss, .slice G gl d]
    | 1 => xq 13 = .agg #[.int .i64 y.spot, .int .i64 y.g0, .int .i64 y.g1, .int .i64 y.g2, .int .i64 y.g3]
    | 2 => xq 14 = .int .i64 (k : Int)
    | 3 => xq 15 = .int .i64 (k : Int)
    | 4 => xq 16 = .pointer (some ⟨w.heap.size + 1 + 1, k, none⟩)
    | 5 => xq 17 = .int .i64 mk
    | 6 => xq 18 = .bool b
    | 7 => xq 19 = .bool (!b)
    | _ => True) [[12], [13], [14], [15], [16], [17], [18], [19]] [] (fun w' => Below wr.heap.size wr w') (by kernel_rfl)  ?_ ?_ (fun w' w'' hb h => h.trans (hb.mono h.size)) (Below.refl _ _) ?_ ?_ ?_
   ·intro jq xq xq' wqq h hv
    match jq, h, hv with
    | 0, h, hv => show xq' 12 = .agg #[.int .i64 err, .int .i64 miss, .slice G gl d]; rw [← h 12 (by decide)]; exact hv
    | 1, h, hv => show xq' 13 = .agg #[.int .i64 y.spot, .int .i64 y.g0, .int .i64 y.g1, .int .i64 y.g2, .int .i64 y.g3]; rw [← h 13 (by decide)]; exact hv
    | 2, h, hv => show xq' 14 = .int .i64 (k : Int); rw [← h 14 (by decide)]; exact hv
    | 3, h, hv => show xq' 15 = .int .i64 (k : Int); rw [← h 15 (by decide)]; exact hv
    | 4, h, hv => show xq' 16 = .pointer (some ⟨w.heap.size + 1 + 1, k, none⟩); rw [← h 16 (by decide)]; exact hv
    | 5, h, hv => show xq' 17 = .int .i64 mk; rw [← h 17 (by decide)]; exact hv
    | 6, h, hv => show xq' 18 = .bool b; rw [← h 18 (by decide)]; exact hv
    | 7, h, hv => show xq' 19 = .bool (!b); rw [← h 19 (by decide)]; exact hv
    | _ + 8, _, _ => trivial
   ·intro jq xq wqq w' hb' hv
    match jq, hv with
    | 0, hv => exact hv
    | 1, hv => exact hv
    | 2, hv => exact hv
    | 3, hv => exact hv
    | 4, hv => exact hv
    | 5, hv => exact hv
    | 6, hv => exact hv
    | 7, hv => exact hv
    | _ + 8, _ => trivial
   ·intro jq hj
    match jq, hj with
    | 0, hj => exact absurd hj (by decide)
    | 1, hj => exact absurd hj (by decide)
    | 2, hj => exact absurd hj (by decide)
    | 3, hj => exact absurd hj (by decide)
    | 4, hj => exact absurd hj (by decide)
    | 5, hj => exact absurd hj (by decide)
    | 6, hj => exact absurd hj (by decide)
    | 7, hj => exact absurd hj (by decide)
    | _ + 8, _ => trivial
   ·refine ⟨?_, ?_, ?_, ?_, ?_, ?_, ?_, ?_, trivial⟩
    ·intro xq w1 hb1 hx K hK0
     have hK := fun v w' hb => hK0 v w' (.inl hb)
     clear hx hKc hK0
     obtain ⟨kHG0, kHG1, kHG2⟩ := (HG.out.up hb1).c3
     simp only [frameOf, fill, setSlot, sg, Nat.reduceBEq, if_true, if_false, Nat.reduceAdd, Nat.reduceEqDiff, HSL.out] at hK ⊢
     go_wp2_with (fail)
     exact hK _ _ (Below.refl _ _) rfl
    ·intro xq w1 hb1 hx K hK0
     have hK := fun v w' hb => hK0 v w' (.inl hb)
     clear hx hKc hK0
     obtain ⟨kHY0, kHY1, kHY2, kHY3, kHY4⟩ := (HY.out.up hb1).c5
     simp only [frameOf, fill, setSlot, sg, Nat.reduceBEq, if_true, if_false, Nat.reduceAdd, Nat.reduceEqDiff, HSL.out] at hK ⊢
     go_wp2_with (fail)
     exact hK _ _ (Below.refl _ _) rfl
    ·intro xq w1 hb1 hx K hK0
     have hK := fun v w' hb => hK0 v w' (.inl hb)
     clear hx hKc hK0
     simp only [frameOf, fill, setSlot, sg, Nat.reduceBEq, if_true, if_false, Nat.reduceAdd, Nat.reduceEqDiff, HSL.out] at hK ⊢
     go_wp2_with (fail)
     exact hK _ _ (Below.refl _ _) rfl
    ·intro xq w1 hb1 hx K hK0
     have hK := fun v w' hb => hK0 v w' (.inl hb)
     clear hx hKc hK0
     simp only [frameOf, fill, setSlot, sg, Nat.reduceBEq, if_true, if_false, Nat.reduceAdd, Nat.reduceEqDiff, HSL.out] at hK ⊢
     go_wp2_with (fail)
     exact hK _ _ (Below.refl _ _) rfl
    ·intro xq w1 hb1 hx K hK0
     have hK := fun v w' hb => hK0 v w' (.inl hb)
     have e15 : xq 15 = .int .i64 (k : Int) := hx 3 (by rfl) (by rfl)
     clear hx hKc hK0
     simp only [frameOf, fill, setSlot, sg, Nat.reduceBEq, if_true, if_false, Nat.reduceAdd, Nat.reduceEqDiff, HSL.out] at hK ⊢
     simp only [e15] at hK ⊢
     clear e15
     go_wp2_with (fail)
     exact hK _ _ (Below.refl _ _) rfl
    ·intro xq w1 hb1 hx K hK0
     have hK := fun v w' hb => hK0 v w' (.inl hb)
     have e16 : xq 16 = .pointer (some ⟨w.heap.size + 1 + 1, k, none⟩) := hx 4 (by rfl) (by rfl)
     clear hx hKc hK0
     have kmk : w1.cell? ⟨w.heap.size + 1 + 1, k, none⟩ = some (.int .i64 mk) := by rw [HMK.out]; exact cell4_at (HM.out.up hb1) hk
     simp only [frameOf, fill, setSlot, sg, Nat.reduceBEq, if_true, if_false, Nat.reduceAdd, Nat.reduceEqDiff, HSL.out] at hK ⊢
     simp only [e16] at hK ⊢
     clear e16
     go_wp2_with (fail)
     exact hK _ _ (Below.refl _ _) rfl
    ·intro xq w1 hb1 hx K hK0
     have hK := fun v w' hb => hK0 v w' (.inl hb)
     have e12 : xq 12 = .agg #[.int .i64 err, .int .i64 miss, .slice G gl d] := hx 0 (by rfl) (by rfl)
     have e13 : xq 13 = .agg #[.int .i64 y.spot, .int .i64 y.g0, .int .i64 y.g1, .int .i64 y.g2, .int .i64 y.g3] := hx 1 (by rfl) (by rfl)
     have e14 : xq 14 = .int .i64 (k : Int) := hx 2 (by rfl) (by rfl)
     have e17 : xq 17 = .int .i64 mk := hx 5 (by rfl) (by rfl)
     clear hx hKc hK0
     simp only [frameOf, fill, setSlot, sg, Nat.reduceBEq, if_true, if_false, Nat.reduceAdd, Nat.reduceEqDiff, HSL.out] at hK ⊢
     simp only [e12, e13, e14, e17] at hK ⊢
     clear e12 e13 e14 e17
     go_wp2_with (go_at_call 95; refine (refLet_any err miss G gl d y k hk mk mb.1 mb.2 i0 i1 HT.out _).mono ?_; rw [HFB.out]; rintro e w2_ ⟨rfl, hb_⟩)
     exact hK _ _ hb_ rfl
    ·intro xq w1 hb1 hx K hK0
     have hK := fun v w' hb => hK0 v w' (.inl hb)
     have e18 : xq 18 = .bool b := hx 6 (by rfl) (by rfl)
     clear hx hKc hK0
     simp only [frameOf, fill, setSlot, sg, Nat.reduceBEq, if_true, if_false, Nat.reduceAdd, Nat.reduceEqDiff, HSL.out] at hK ⊢
     simp only [e18] at hK ⊢
     clear e18
     go_wp2_with (fail)
     exact hK _ _ (Below.refl _ _) rfl
   ·intro xq w1 hb1 hx
    have e12 : xq 12 = .agg #[.int .i64 err, .int .i64 miss, .slice G gl d] := hx 0 (by decide)
    have e13 : xq 13 = .agg #[.int .i64 y.spot, .int .i64 y.g0, .int .i64 y.g1, .int .i64 y.g2, .int .i64 y.g3] := hx 1 (by decide)
    have e14 : xq 14 = .int .i64 (k : Int) := hx 2 (by decide)
    have e15 : xq 15 = .int .i64 (k : Int) := hx 3 (by decide)
    have e16 : xq 16 = .pointer (some ⟨w.heap.size + 1 + 1, k, none⟩) := hx 4 (by decide)
    have e17 : xq 17 = .int .i64 mk := hx 5 (by decide)
    have e18 : xq 18 = .bool b := hx 6 (by decide)
    have e19 : xq 19 = .bool (!b) := hx 7 (by decide)
    clear hx
    simp only [frameOf, fill, setSlot, sg, Nat.reduceBEq, if_true, if_false, Nat.reduceAdd, Nat.reduceEqDiff, HSL.out]
    simp only [e12, e13, e14, e15, e16, e17, e18, e19]
    clear e12 e13 e14 e15 e16 e17 e18 e19
    refine hKc _ _ ?_
    have HR := Lib.hid hb1
    have HBR := Lib.hid (HB.out.trans (hb1.mono HB.out.size))
    clear hb1
    cases b with
    | true =>
     have HT1 : Hid (fitTo miss n (gat y.g0 y.g1 y.g2 y.g3) (gat m0 m1 m2 m3) (k + 1) = true) := Lib.hid (by rw [fitTo, hft.out, ← HMK.out, HN.out, HFB.out]; rfl)
     go_wp2_with fail
     go_roundw
     case rel => exact ⟨k + 1, by go_num, by omega, HT1, HBR.out.trans zg, (by have h := HG.out.up HR.out; exact zp4), (by have h := HY.out.up HR.out; exact zp4), (by have h := HM.out.up HR.out; exact zp4)⟩
     case measure => first | (simp [intOf]; done) | (simp [intOf]; omega)
    | false =>
     have hfin : fitTo miss n (gat y.g0 y.g1 y.g2 y.g3) (gat m0 m1 m2 m3) 4 = false := fitTo_false (by rw [← HMK.out, HN.out]; exact HFB.out) 4 hk
     have HF := Lib.hid hfin
     clear hfin
     go_wp2_with fail
     go_ret
     exact ⟨by rw [HF.out]; rfl, HBR.out.trans zg⟩
  ·have hk' : k = 4 := by omega
   subst hk'
   go_wp2_with fail
   go_ret
   exact ⟨by rw [hft.out]; rfl, HB.out⟩
theorem row5_at {w : World} {B n : Nat} {e : TypeId} {v : Value} {xs : List Value} (h : w.ownsRow B e 5 v n xs) {b : Nat} {t : TypeId} {cs : Array Value} (s : Holds w b t cs) (ht : t ≠ e) : v.ownBlock ≠ some b := by
 intro hb
 obtain ⟨_, ⟨rfl, _⟩ | ⟨g, cap, cur, rfl, _, hg, _⟩⟩ := h
 ·cases hb
 ·cases hb; have := s.symm.trans hg; simp at this; first | exact ht this.2 | exact ht this.2.1
theorem held_row {w w' : World} {b : Nat} {t : TypeId} {cs : Array Value} (s : Holds w b t cs) {row : Option Nat} (g : w.grownBy w' row) (hne : row ≠ some b) : Holds w' b t cs := (g.block b s.lt (fun e => hne e.symm)).trans s
theorem info_come : (Try.prog.info? 42).map (fun i => (i.zero, i.size, i.bytes)) = some (some (.agg #[.int .i64 0, .int .i64 0, .int .i64 0, .int .i64 0, .int .i64 0]), 5, 40) := by kernel_rfl
theorem und_come : Try.prog.underlying 35 = some (.slice 42) := by kernel_rfl
theorem come_at {w : World} {B : Nat} {v : Value} {hs : List Hf} (h : w.ownsRow B 42 5 v hs.length (hs.flatMap Hf.cells)) : ∃ A q, v = .slice A hs.length q ∧ hs.length ≤ q ∧ HandsAt w A hs := by
 obtain ⟨A, q, rfl, hq, hc⟩ := row5_val h
 refine ⟨A, q, rfl, hq, fun h0 => ?_⟩
 obtain ⟨g, rfl, _, hcell⟩ := hc h0
 refine ⟨g, 0, rfl, fun k x hx => ?_⟩
 have f := fun j (hj : j < 5) => flat_at Hf.cells (fun _ => rfl) hs k j x hx hj
 simp only [Nat.zero_add]
 exact ⟨hcell (k * 5) _ (f 0 (by decide)), hcell (k * 5 + 1) _ (f 1 (by decide)), hcell (k * 5 + 2) _ (f 2 (by decide)), hcell (k * 5 + 3) _ (f 3 (by decide)), hcell (k * 5 + 4) _ (f 4 (by decide))⟩
theorem come_snoc {w : World} {B : Nat} {v : Value} {hs : List Hf} {i : Nat} {y : Hf} (hy : hs[i]? = some y) (h : w.ownsRow B 42 5 v (i + 1) ((hs.take i).flatMap Hf.cells ++ y.cells)) : w.ownsRow B 42 5 v (i + 1) ((hs.take (i + 1)).flatMap Hf.cells) := by
 have e : hs.take (i + 1) = hs.take i ++ [y] := by rw [List.take_add_one, hy]; rfl
 rw [e, List.flatMap_append]
 simpa using h
theorem zp8 {p : Prop} (h : p := by (repeat first | (with_reducible first | assumption | apply Holds.set3 | apply Holds.putL | ((refine Holds.new' _ _ ?_); (simp; done)) | refine Holds.alloc ?_ _ | refine Holds.drew ?_ | refine Holds.far ?_ (by simp only [ne_eq]; omega) _) | rfl)) : p := h
set_option maxRecDepth 100000 in
set_option maxHeartbeats 4000000 in
theorem come_any (full emp : Int) (A : Option Addr) (c : Nat) (hs : List Hf) (w : World) (hA : HandsAt w A hs) (hl : hs.length ≤ 1000) :
  Calls Try.prog 20 #[.agg #[.int .i64 full, .int .i64 emp, .slice A hs.length c]] w fun e w' => ∃ A' c', e = .returned (.agg #[.int .i64 full, .int .i64 emp, .slice A' hs.length c']) ∧ w'.ownsRow w.heap.size 42 5 (.slice A' hs.length c') hs.length (hs.flatMap Hf.cells) ∧ Below w.heap.size w w' := by
 have HA := Lib.hid hA
 clear hA
 obtain ⟨ti, hti, hti0, hti1, hti2⟩ := info_parts info_come
 go_enter Try.func20, Try.ntmps20
 go_wp2_with fail
 go_loopw [14] (fun v14 wr => ∃ (i : Nat) (sv : Value), v14 = .int .i64 (i : Int) ∧ i ≤ hs.length ∧ Holds wr (w.heap.size + 1) 37 #[.int .i64 0, .int .i64 0, .slice none 0 0] ∧ Holds wr (w.heap.size + 1 + 1) 37 #[.int .i64 full, .int .i64 emp, sv] ∧ wr.ownsRow (w.heap.size + 1 + 1 + 1) 42 5 sv i ((hs.take i).flatMap Hf.cells) ∧ Below w.heap.size w wr) (fun v14 _ => hs.length - (intOf v14).toNat)
 case atStart => exact ⟨0, .slice none 0 0, rfl, Nat.zero_le _, by (repeat first | (with_reducible first | assumption | apply Holds.set3 | apply Holds.putL | ((refine Holds.new' _ _ ?_); (simp; done)) | refine Holds.alloc ?_ _ | refine Holds.drew ?_ | refine Holds.far ?_ (by simp only [ne_eq]; omega) _) | rfl), by (repeat first | (with_reducible first | assumption | apply Holds.set3 | apply Holds.putL | ((refine Holds.new' _ _ ?_); (simp; done)) | refine Holds.alloc ?_ _ | refine Holds.drew ?_ | refine Holds.far ?_ (by simp only [ne_eq]; omega) _) | rfl), ⟨rfl, .inl ⟨rfl, rfl⟩⟩, zg⟩
 case round =>
  obtain ⟨i, sv, rfl, hi, hres, hout, hrow, hB⟩ := hrel
  obtain ⟨SA, sc, esv, hsc, _⟩ := row5_val hrow
  subst esv
  have HRES := Lib.hid hres
  have HOUT := Lib.hid hout
  have HROW := Lib.hid hrow
  have HB := Lib.hid hB
  have lr := hres.lt
  have lo := hout.lt
  clear hres hrow hB
  obtain ⟨ko0, ko1, ko2⟩ := hout.c3
  clear hout
  by_cases hlt : i < hs.length
  ·have hlt' : (i : Int) < hs.length := by omega
   obtain ⟨y, hy⟩ : ∃ g, hs[i]? = some g := ⟨_, List.getElem?_eq_getElem hlt⟩
   obtain ⟨E0, oo, rfl, hcell⟩ := (HA.out.up HB.out) (by omega)
   obtain ⟨ke0, ke1, ke2, ke3, ke4⟩ := hcell i y hy
   have HY := Lib.hid hy
   have lE := World.block_lt_of_cell? wr _ ke0
   clear hcell hy
   go_wp2_with (at_builtin; (refine wpList_append_own _ rfl _ _ 35 rfl (w.heap.size + 1 + 1 + 1) 42 ti _ 5 40 und_come hti hti0 hti1 hti2 rfl (by decide) _ _ _ rfl (row5_up HROW.out zg) ⟨_, 0, none⟩ 1 1 y.cells rfl rfl (holds_news (Holds.new' _ _ (by simp))) (hand_one _) (by unfold maxLen; omega) (by omega) (by simp; omega) ?_); intro v5 w5 hown5 hgrow5 _; obtain ⟨A5, c5, rfl, _⟩ := row5_val hown5; have HG5 := Lib.hid hgrow5; have HO5 := Lib.hid (come_snoc HY.out hown5); have HOUT5 := Lib.hid (held_row (by have h := HOUT.out; exact zp8 : Holds _ (w.heap.size + 1 + 1) 37 #[.int .i64 full, .int .i64 emp, .slice SA i sc]) hgrow5 (row5_at (row5_up HROW.out zg) (by have h := HOUT.out; exact zp8 : Holds _ (w.heap.size + 1 + 1) 37 #[.int .i64 full, .int .i64 emp, .slice SA i sc]) (by decide))); have HRES5 := Lib.hid (held_row (by have h := HRES.out; exact zp8 : Holds _ (w.heap.size + 1) 37 #[.int .i64 0, .int .i64 0, .slice none 0 0]) hgrow5 (row5_at (row5_up HROW.out zg) (by have h := HRES.out; exact zp8 : Holds _ (w.heap.size + 1) 37 #[.int .i64 0, .int .i64 0, .slice none 0 0]) (by decide))); have hb5 : Below w.heap.size w w5 := Below.grown (HB.out.trans zg) hgrow5 (by simp; omega) (fun k hk => by have := row5_block HROW.out k hk; omega); have HB5 := Lib.hid hb5; have lo5 := HOUT5.out.lt; have ko5 : w5.cell? ⟨w.heap.size + 1 + 1, 2, none⟩ = some (.slice SA i sc) := HOUT5.out.cell 2; have zo5 : w5.frozen? ⟨w.heap.size + 1 + 1, 2, none⟩ = false := HOUT5.out.frozen 2; clear hown5 hgrow5 hb5)
   go_roundw
   case rel => exact ⟨i + 1, _, by go_num, by omega, (by have h := HRES5.out; exact zp8), (by have h := HOUT5.out; exact zp8), row5_far HO5.out (by simp only []; omega) _, HB5.out.trans zg⟩
   case measure => first | (simp [intOf]; done) | (simp [intOf]; omega)
  ·have hie : i = hs.length := by omega
   subst hie
   obtain ⟨kr0, kr1, kr2⟩ := HRES.out.c3
   obtain ⟨zr0, zr1, zr2⟩ := HRES.out.f3
   have hrow := HROW.out
   go_wp2_with fail
   refine ret_cell (t := 37) (cs := #[.int .i64 full, .int .i64 emp, .slice SA hs.length sc]) rfl rfl (by have h := HRES.out; exact zp8) Try.underlying37 rfl (by kernel_rfl) rfl ⟨SA, sc, rfl, ?_, HB.out.trans zg⟩
   rw [List.take_length] at hrow
   exact row5_mono (row5_far (row5_far (row5_far hrow (p := ⟨w.heap.size + 1, 0, none⟩) (by simp only []; omega) _) (p := ⟨w.heap.size + 1, 1, none⟩) (by simp only []; omega) _) (p := ⟨w.heap.size + 1, 2, none⟩) (by simp only []; omega) _) (by omega)
theorem info_theirs : (Try.prog.info? 139).map (fun i => (i.zero, i.size, i.bytes)) = some (some (.agg #[.int .i64 0, .int .i64 0, .int .i64 0, .int .i64 0, .int .i64 0]), 5, 40) := by kernel_rfl
theorem und_theirs : Try.prog.underlying 47 = some (.slice 139) := by kernel_rfl
theorem theirs_at {w : World} {B : Nat} {v : Value} {hs : List Gr} (h : w.ownsRow B 139 5 v hs.length (hs.flatMap Gr.cells)) : ∃ A q, v = .slice A hs.length q ∧ hs.length ≤ q ∧ GradesAt w A hs := by
 obtain ⟨A, q, rfl, hq, hc⟩ := row5_val h
 refine ⟨A, q, rfl, hq, fun h0 => ?_⟩
 obtain ⟨g, rfl, _, hcell⟩ := hc h0
 refine ⟨g, 0, rfl, fun k x hx => ?_⟩
 have f := fun j (hj : j < 5) => flat_at Gr.cells (fun _ => rfl) hs k j x hx hj
 simp only [Nat.zero_add]
 exact ⟨hcell (k * 5) _ (f 0 (by decide)), hcell (k * 5 + 1) _ (f 1 (by decide)), hcell (k * 5 + 2) _ (f 2 (by decide)), hcell (k * 5 + 3) _ (f 3 (by decide)), hcell (k * 5 + 4) _ (f 4 (by decide))⟩
theorem theirs_snoc {w : World} {B : Nat} {v : Value} {hs : List Gr} {i : Nat} {y : Gr} (hy : hs[i]? = some y) (h : w.ownsRow B 139 5 v (i + 1) ((hs.take i).flatMap Gr.cells ++ y.cells)) : w.ownsRow B 139 5 v (i + 1) ((hs.take (i + 1)).flatMap Gr.cells) := by
 have e : hs.take (i + 1) = hs.take i ++ [y] := by rw [List.take_add_one, hy]; rfl
 rw [e, List.flatMap_append]
 simpa using h
set_option maxRecDepth 100000 in
set_option maxHeartbeats 4000000 in
theorem theirs_any (err miss : Int) (A : Option Addr) (c : Nat) (hs : List Gr) (w : World) (hA : GradesAt w A hs) (hl : hs.length ≤ 1000) :
  Calls Try.prog 24 #[.agg #[.int .i64 err, .int .i64 miss, .slice A hs.length c]] w fun e w' => ∃ A' c', e = .returned (.agg #[.int .i64 err, .int .i64 miss, .slice A' hs.length c']) ∧ w'.ownsRow w.heap.size 139 5 (.slice A' hs.length c') hs.length (hs.flatMap Gr.cells) ∧ Below w.heap.size w w' := by
 have HA := Lib.hid hA
 clear hA
 obtain ⟨ti, hti, hti0, hti1, hti2⟩ := info_parts info_theirs
 go_enter Try.func24, Try.ntmps24
 go_wp2_with fail
 go_loopw [14] (fun v14 wr => ∃ (i : Nat) (sv : Value), v14 = .int .i64 (i : Int) ∧ i ≤ hs.length ∧ Holds wr (w.heap.size + 1) 49 #[.int .i64 0, .int .i64 0, .slice none 0 0] ∧ Holds wr (w.heap.size + 1 + 1) 49 #[.int .i64 err, .int .i64 miss, sv] ∧ wr.ownsRow (w.heap.size + 1 + 1 + 1) 139 5 sv i ((hs.take i).flatMap Gr.cells) ∧ Below w.heap.size w wr) (fun v14 _ => hs.length - (intOf v14).toNat)
 case atStart => exact ⟨0, .slice none 0 0, rfl, Nat.zero_le _, by (repeat first | (with_reducible first | assumption | apply Holds.set3 | apply Holds.putL | ((refine Holds.new' _ _ ?_); (simp; done)) | refine Holds.alloc ?_ _ | refine Holds.drew ?_ | refine Holds.far ?_ (by simp only [ne_eq]; omega) _) | rfl), by (repeat first | (with_reducible first | assumption | apply Holds.set3 | apply Holds.putL | ((refine Holds.new' _ _ ?_); (simp; done)) | refine Holds.alloc ?_ _ | refine Holds.drew ?_ | refine Holds.far ?_ (by simp only [ne_eq]; omega) _) | rfl), ⟨rfl, .inl ⟨rfl, rfl⟩⟩, zg⟩
 case round =>
  obtain ⟨i, sv, rfl, hi, hres, hout, hrow, hB⟩ := hrel
  obtain ⟨SA, sc, esv, hsc, _⟩ := row5_val hrow
  subst esv
  have HRES := Lib.hid hres
  have HOUT := Lib.hid hout
  have HROW := Lib.hid hrow
  have HB := Lib.hid hB
  have lr := hres.lt
  have lo := hout.lt
  clear hres hrow hB
  obtain ⟨ko0, ko1, ko2⟩ := hout.c3
  clear hout
  by_cases hlt : i < hs.length
  ·have hlt' : (i : Int) < hs.length := by omega
   obtain ⟨y, hy⟩ : ∃ g, hs[i]? = some g := ⟨_, List.getElem?_eq_getElem hlt⟩
   obtain ⟨E0, oo, rfl, hcell⟩ := (HA.out.up HB.out) (by omega)
   obtain ⟨ke0, ke1, ke2, ke3, ke4⟩ := hcell i y hy
   have HY := Lib.hid hy
   have lE := World.block_lt_of_cell? wr _ ke0
   clear hcell hy
   go_wp2_with (at_builtin; (refine wpList_append_own _ rfl _ _ 47 rfl (w.heap.size + 1 + 1 + 1) 139 ti _ 5 40 und_theirs hti hti0 hti1 hti2 rfl (by decide) _ _ _ rfl (row5_up HROW.out zg) ⟨_, 0, none⟩ 1 1 y.cells rfl rfl (holds_news (Holds.new' _ _ (by simp))) (grade_one _) (by unfold maxLen; omega) (by omega) (by simp; omega) ?_); intro v5 w5 hown5 hgrow5 _; obtain ⟨A5, c5, rfl, _⟩ := row5_val hown5; have HG5 := Lib.hid hgrow5; have HO5 := Lib.hid (theirs_snoc HY.out hown5); have HOUT5 := Lib.hid (held_row (by have h := HOUT.out; exact zp8 : Holds _ (w.heap.size + 1 + 1) 49 #[.int .i64 err, .int .i64 miss, .slice SA i sc]) hgrow5 (row5_at (row5_up HROW.out zg) (by have h := HOUT.out; exact zp8 : Holds _ (w.heap.size + 1 + 1) 49 #[.int .i64 err, .int .i64 miss, .slice SA i sc]) (by decide))); have HRES5 := Lib.hid (held_row (by have h := HRES.out; exact zp8 : Holds _ (w.heap.size + 1) 49 #[.int .i64 0, .int .i64 0, .slice none 0 0]) hgrow5 (row5_at (row5_up HROW.out zg) (by have h := HRES.out; exact zp8 : Holds _ (w.heap.size + 1) 49 #[.int .i64 0, .int .i64 0, .slice none 0 0]) (by decide))); have hb5 : Below w.heap.size w w5 := Below.grown (HB.out.trans zg) hgrow5 (by simp; omega) (fun k hk => by have := row5_block HROW.out k hk; omega); have HB5 := Lib.hid hb5; have lo5 := HOUT5.out.lt; have ko5 : w5.cell? ⟨w.heap.size + 1 + 1, 2, none⟩ = some (.slice SA i sc) := HOUT5.out.cell 2; have zo5 : w5.frozen? ⟨w.heap.size + 1 + 1, 2, none⟩ = false := HOUT5.out.frozen 2; clear hown5 hgrow5 hb5)
   go_roundw
   case rel => exact ⟨i + 1, _, by go_num, by omega, (by have h := HRES5.out; exact zp8), (by have h := HOUT5.out; exact zp8), row5_far HO5.out (by simp only []; omega) _, HB5.out.trans zg⟩
   case measure => first | (simp [intOf]; done) | (simp [intOf]; omega)
  ·have hie : i = hs.length := by omega
   subst hie
   obtain ⟨kr0, kr1, kr2⟩ := HRES.out.c3
   obtain ⟨zr0, zr1, zr2⟩ := HRES.out.f3
   have hrow := HROW.out
   go_wp2_with fail
   refine ret_cell (t := 49) (cs := #[.int .i64 err, .int .i64 miss, .slice SA hs.length sc]) rfl rfl (by have h := HRES.out; exact zp8) Try.underlying49 rfl (by kernel_rfl) rfl ⟨SA, sc, rfl, ?_, HB.out.trans zg⟩
   rw [List.take_length] at hrow
   exact row5_mono (row5_far (row5_far (row5_far hrow (p := ⟨w.heap.size + 1, 0, none⟩) (by simp only []; omega) _) (p := ⟨w.heap.size + 1, 1, none⟩) (by simp only []; omega) _) (p := ⟨w.heap.size + 1, 2, none⟩) (by simp only []; omega) _) (by omega)
end Go.Proofs.Ytifffonoipapgaa
