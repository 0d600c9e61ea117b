
import Derived.Test.YtokafjkinkafiaaGreatVAA
import Derived.Test.YtokafjkinkafiaaGreatVAC
set_option linter.unusedSimpArgs false
set_option linter.unusedVariables false
namespace Go.Proofs.YtokafjkinkafiaaGreat
open Go.RowKit
set_option maxRecDepth 100000 in
set_option maxHeartbeats 4000000 in
theorem hasBin_any (b : Br) (A : Option Addr) (c n : Nat) (hn : n ≤ 1000) (bin : Int) (w : World) :
  Calls Tryz.prog 21 #[.agg #[.int .i64 b.cool, .int .i64 b.gangs, .int .i64 b.r0, .int .i64 b.r1, .int .i64 b.r2, .int .i64 b.r3, .int .i64 b.r4, .int .i64 b.r5, .slice A n c], .int .i64 bin] w fun e w' => e = .returned (.bool (within bin 0 (n - 1))) ∧ Below w.heap.size w w' := by
 go_enter Tryz.func21, Tryz.ntmps21
 go_wp2_with (go_at_call 42; refine (within_any _ _ _ _).mono ?_; rintro e w' ⟨rfl, rfl⟩)
 go_ret
 exact ⟨rfl, zg⟩
set_option maxRecDepth 100000 in
set_option maxHeartbeats 4000000 in
theorem checkBin_any (b : Br) (A : Option Addr) (c : Nat) (bs : List Bn) (bin : Int) (w : World) (hA : BinsAt w A bs) (hl : bs.length ≤ 1000) :
  Calls Tryz.prog 23 #[.agg #[.int .i64 b.cool, .int .i64 b.gangs, .int .i64 b.r0, .int .i64 b.r1, .int .i64 b.r2, .int .i64 b.r3, .int .i64 b.r4, .int .i64 b.r5, .slice A bs.length c], .int .i64 bin] w fun e w' => e = .returned (.int .i64 (binErr b bs bin)) ∧ Below w.heap.size w w' := by
 have HA := Lib.hid hA
 clear hA
 have HX := Lib.hid (Holds.new w 26 #[.int .i64 b.cool, .int .i64 b.gangs, .int .i64 b.r0, .int .i64 b.r1, .int .i64 b.r2, .int .i64 b.r3, .int .i64 b.r4, .int .i64 b.r5, .slice A bs.length c])
 obtain ⟨E, hE⟩ : ∃ z, barnErr b bs = z := ⟨_, rfl⟩
 have HEQ := Lib.hid hE
 by_cases h0 : E = 0
 ·subst h0
  have hgood := hE
  have HE := Lib.hid hE
  cases hk : within bin 0 ((bs.length : Int) - 1) with
  | false =>
   go_enter Tryz.func23, Tryz.ntmps23
   go_wp2_with (first
    | (go_at_call 40; refine (Check_any b A c bs _ (HA.out.up zg) hl).mono ?_; simp only [hE]; rintro e w2 ⟨rfl, hb2⟩; have HX2 := Lib.hid (HX.out.up hb2); have hs2 : w.heap.size + 1 ≤ w2.heap.size := (by have h := hb2.size; simp only [World.size_alloc] at h; exact h); have hB2 : Below w.heap.size w w2 := Below.trans zg (hb2.mono (by simp)); have lt2 : w.heap.size < w2.heap.size := (by omega); have k0 : w2.cell? ⟨w.heap.size, 0, none⟩ = some (.int .i64 b.cool) := HX2.out.cell 0; have k1 : w2.cell? ⟨w.heap.size, 1, none⟩ = some (.int .i64 b.gangs) := HX2.out.cell 1; have k2 : w2.cell? ⟨w.heap.size, 2, none⟩ = some (.int .i64 b.r0) := HX2.out.cell 2; have k3 : w2.cell? ⟨w.heap.size, 3, none⟩ = some (.int .i64 b.r1) := HX2.out.cell 3; have k4 : w2.cell? ⟨w.heap.size, 4, none⟩ = some (.int .i64 b.r2) := HX2.out.cell 4; have k5 : w2.cell? ⟨w.heap.size, 5, none⟩ = some (.int .i64 b.r3) := HX2.out.cell 5; have k6 : w2.cell? ⟨w.heap.size, 6, none⟩ = some (.int .i64 b.r4) := HX2.out.cell 6; have k7 : w2.cell? ⟨w.heap.size, 7, none⟩ = some (.int .i64 b.r5) := HX2.out.cell 7; have k8 : w2.cell? ⟨w.heap.size, 8, none⟩ = some (.slice A bs.length c) := HX2.out.cell 8)
    | (go_at_call 21; refine (hasBin_any b A c bs.length hl bin _).mono ?_; simp only [hk]; rintro e w3 ⟨rfl, hb3⟩)
    )
   go_ret
   exact ⟨by rw [binErr_not HE.out hk]; rfl, hB2.trans (hb3.mono (by omega))⟩
  | true =>
   go_enter Tryz.func23, Tryz.ntmps23
   go_wp2_with (first
    | (go_at_call 40; refine (Check_any b A c bs _ (HA.out.up zg) hl).mono ?_; simp only [hE]; rintro e w2 ⟨rfl, hb2⟩; have HX2 := Lib.hid (HX.out.up hb2); have hs2 : w.heap.size + 1 ≤ w2.heap.size := (by have h := hb2.size; simp only [World.size_alloc] at h; exact h); have hB2 : Below w.heap.size w w2 := Below.trans zg (hb2.mono (by simp)); have lt2 : w.heap.size < w2.heap.size := (by omega); have k0 : w2.cell? ⟨w.heap.size, 0, none⟩ = some (.int .i64 b.cool) := HX2.out.cell 0; have k1 : w2.cell? ⟨w.heap.size, 1, none⟩ = some (.int .i64 b.gangs) := HX2.out.cell 1; have k2 : w2.cell? ⟨w.heap.size, 2, none⟩ = some (.int .i64 b.r0) := HX2.out.cell 2; have k3 : w2.cell? ⟨w.heap.size, 3, none⟩ = some (.int .i64 b.r1) := HX2.out.cell 3; have k4 : w2.cell? ⟨w.heap.size, 4, none⟩ = some (.int .i64 b.r2) := HX2.out.cell 4; have k5 : w2.cell? ⟨w.heap.size, 5, none⟩ = some (.int .i64 b.r3) := HX2.out.cell 5; have k6 : w2.cell? ⟨w.heap.size, 6, none⟩ = some (.int .i64 b.r4) := HX2.out.cell 6; have k7 : w2.cell? ⟨w.heap.size, 7, none⟩ = some (.int .i64 b.r5) := HX2.out.cell 7; have k8 : w2.cell? ⟨w.heap.size, 8, none⟩ = some (.slice A bs.length c) := HX2.out.cell 8)
    | (go_at_call 21; refine (hasBin_any b A c bs.length hl bin _).mono ?_; simp only [hk]; rintro e w3 ⟨rfl, hb3⟩)
    )
   go_ret
   exact ⟨by rw [binErr_ok HE.out hk]; rfl, hB2.trans (hb3.mono (by omega))⟩
 ·have HN0 := Lib.hid h0
  have hne0 : (E == 0) = false := by simpa using h0
  go_enter Tryz.func23, Tryz.ntmps23
  go_wp2_with (go_at_call 40; refine (Check_any b A c bs _ (HA.out.up zg) hl).mono ?_; simp only [hE]; rintro e w2 ⟨rfl, hb2⟩; have HX2 := Lib.hid (HX.out.up hb2); have hs2 : w.heap.size + 1 ≤ w2.heap.size := (by have h := hb2.size; simp only [World.size_alloc] at h; exact h); have hB2 : Below w.heap.size w w2 := Below.trans zg (hb2.mono (by simp)); have lt2 : w.heap.size < w2.heap.size := (by omega); have k0 : w2.cell? ⟨w.heap.size, 0, none⟩ = some (.int .i64 b.cool) := HX2.out.cell 0; have k1 : w2.cell? ⟨w.heap.size, 1, none⟩ = some (.int .i64 b.gangs) := HX2.out.cell 1; have k2 : w2.cell? ⟨w.heap.size, 2, none⟩ = some (.int .i64 b.r0) := HX2.out.cell 2; have k3 : w2.cell? ⟨w.heap.size, 3, none⟩ = some (.int .i64 b.r1) := HX2.out.cell 3; have k4 : w2.cell? ⟨w.heap.size, 4, none⟩ = some (.int .i64 b.r2) := HX2.out.cell 4; have k5 : w2.cell? ⟨w.heap.size, 5, none⟩ = some (.int .i64 b.r3) := HX2.out.cell 5; have k6 : w2.cell? ⟨w.heap.size, 6, none⟩ = some (.int .i64 b.r4) := HX2.out.cell 6; have k7 : w2.cell? ⟨w.heap.size, 7, none⟩ = some (.int .i64 b.r5) := HX2.out.cell 7; have k8 : w2.cell? ⟨w.heap.size, 8, none⟩ = some (.slice A bs.length c) := HX2.out.cell 8)
  go_ret
  exact ⟨by rw [binErr_barn (by rw [HEQ.out]; exact HN0.out), HEQ.out]; rfl, hB2⟩
theorem greatest_one (a b : Int) (B : Nat) (w : World) (hB : w.cell? ⟨B, 0, none⟩ = some (.int .i64 b)) :
  Calls Tryz.prog 76 #[.int .i64 a, .slice (some ⟨B, 0, none⟩) 1 1] w fun e w' => e = .returned (.int .i64 (max a b)) ∧ w = w' := by
 by_cases h : b > a
 all_goals
  go_enter Tryz.func76, Tryz.ntmps76
  go_wp2
  (refine wp_loop_rounds 2 ?_; repeat any_goals (rw [rounds_succ]; go_wp2))
  go_ret
  simp
  omega
theorem rise_nat {w : World} {B : Nat} {t : TypeId} {b : Br} {v : Value} {l : Nat} (h : Holds w B t #[.int .i64 b.cool, .int .i64 b.gangs, .int .i64 b.r0, .int .i64 b.r1, .int .i64 b.r2, .int .i64 b.r3, .int .i64 b.r4, .int .i64 b.r5, v]) (hl : l < 6) : w.cell? ⟨B, 2 + l, none⟩ = some (.int .i64 (b.rise (l : Int))) := by
 refine rise_cell h ?_
 unfold Br.rise
 rw [List.getD_eq_getElem?_getD, Int.toNat_natCast, List.getElem?_eq_getElem (by simp [Br.rises]; omega)]
 rfl
set_option maxRecDepth 100000 in
set_option maxHeartbeats 4000000 in
theorem rises_any (b : Br) (A : Option Addr) (c : Nat) (bs : List Bn)  (w : World) (hA : BinsAt w A bs) (hl : bs.length ≤ 1000) (k : Nat) (x : Bn) (hx : bs[k]? = some x) (l m : Nat) (hlo : x.lo = l) (hhi : x.hi = m) (hl6 : l < 6) (hh6 : m < 6) :
  Calls Tryz.prog 26 #[.agg #[.int .i64 b.cool, .int .i64 b.gangs, .int .i64 b.r0, .int .i64 b.r1, .int .i64 b.r2, .int .i64 b.r3, .int .i64 b.r4, .int .i64 b.r5, .slice A bs.length c], .int .i64 (k : Int)] w fun e w' => e = .returned (.agg #[.int .i64 (b.rise l), .int .i64 (b.rise m)]) ∧ Below w.heap.size w w' := by
 have h6l : (l : Int) < 6 := by omega
 have h6h : (m : Int) < 6 := by omega
 obtain ⟨E0, oo, rfl, hcell⟩ := hA (by have := (List.getElem?_eq_some_iff.1 hx).1; omega)
 have hk : k < bs.length := (List.getElem?_eq_some_iff.1 hx).1
 have hk' : (k : Int) < bs.length := by omega
 have ke2 : w.cell? ⟨E0, oo + k * 4 + 2, none⟩ = some (.int .i64 x.lo) := hcell k x hx 2 _ rfl
 have ke3 : w.cell? ⟨E0, oo + k * 4 + 3, none⟩ = some (.int .i64 x.hi) := hcell k x hx 3 _ rfl
 have lE : E0 < w.heap.size := World.block_lt_of_cell? w _ ke2
 have ke3' : w.cell? ⟨E0, oo + k * 4 + 2 + 1, none⟩ = some (.int .i64 x.hi) := ke3
 rw [hlo] at ke2
 rw [hhi] at ke3 ke3'
 have HL6 := Lib.hid hl6
 have HH6 := Lib.hid hh6
 clear hcell hA hx hlo hhi
 go_enter Tryz.func26, Tryz.ntmps26
 go_wp2_with fail
 rename_i Kc hKc
 have HSL := Lib.hid (show slotsOf [some 12, some 13, some 14, some 15, some 16, some 17, some 18, some 19, some 20, some 21, some 22, none] = [12, 13, 14, 15, 16, 17, 18, 19, 20, 21, 22] from rfl)
 refine wp_region_partsG (by kernel_rfl) [some 12, some 13, some 14, some 15, some 16, some 17, some 18, some 19, some 20, some 21, some 22, none] (fun jq xq w' => match jq with
  | 0 => xq 12 = .pointer (some ⟨w.heap.size + 1 + 1, 0, none⟩)
  | 1 => xq 13 = .int .i64 (l : Int)
  | 2 => xq 14 = .pointer (some ⟨w.heap.size, 2, none⟩)
  | 3 => xq 15 = .pointer (some ⟨w.heap.size, 2 + l, none⟩)
  | 4 => xq 16 = .int .i64 (b.rise l)
  | 5 => xq 17 = .pointer (some ⟨w.heap.size + 1 + 1, 1, none⟩)
  | 6 => xq 18 = .int .i64 (m : Int)
  | 7 => xq 19 = .pointer (some ⟨w.heap.size, 2, none⟩)
  | 8 => xq 20 = .pointer (some ⟨w.heap.size, 2 + m, none⟩)
  | 9 => xq 21 = .int .i64 (b.rise m)
  | 10 => xq 22 = .agg #[.int .i64 (b.rise l), .int .i64 (b.rise m)]
  | 11 => Holds w' (w.heap.size + 1) 40 #[.int .i64 (b.rise l), .int .i64 (b.rise m)]
  | 12 => Holds w' (w.heap.size + 1) 40 #[.int .i64 0, .int .i64 0]
  | _ => True) [[12], [13], [14], [15], [16], [17], [18], [19], [20], [21], [22], [], []] [(11, 12)] (fun w' => Below w.heap.size w w' ∧ w.heap.size + 1 + 1 + 1 ≤ w'.heap.size ∧ Holds w' (w.heap.size) 26 #[.int .i64 b.cool, .int .i64 b.gangs, .int .i64 b.r0, .int .i64 b.r1, .int .i64 b.r2, .int .i64 b.r3, .int .i64 b.r4, .int .i64 b.r5, .slice (some ⟨E0, oo, none⟩) bs.length c] ∧ Holds w' (w.heap.size + 1 + 1) 40 #[.int .i64 (l : Int), .int .i64 (m : Int)]) (by kernel_rfl)  ?_ ?_ (fun w' w'' hb g => ⟨g.1.trans (hb.mono g.1.size), Nat.le_trans g.2.1 hb.size, g.2.2.1.up hb, g.2.2.2.up hb⟩) (⟨zg, by (simp; done), by (repeat first | (with_reducible first | assumption | apply Holds.set4 | apply Holds.set2 | apply Holds.putL | ((refine Holds.new' _ _ ?_); (simp; done)) | refine Holds.alloc ?_ _ | refine Holds.drew ?_ | refine Holds.far ?_ (by simp only [ne_eq]; omega) _) | rfl), by (repeat first | (with_reducible first | assumption | apply Holds.set4 | apply Holds.set2 | apply Holds.putL | ((refine Holds.new' _ _ ?_); (simp; done)) | refine Holds.alloc ?_ _ | refine Holds.drew ?_ | refine Holds.far ?_ (by simp only [ne_eq]; omega) _) | rfl)⟩) ?_ ?_ ?_
 ·intro jq xq xq' wqq h hv
  match jq, h, hv with
  | 0, h, hv => show xq' 12 = .pointer (some ⟨w.heap.size + 1 + 1, 0, none⟩); rw [← h 12 (by decide)]; exact hv
  | 1, h, hv => show xq' 13 = .int .i64 (l : Int); rw [← h 13 (by decide)]; exact hv
  | 2, h, hv => show xq' 14 = .pointer (some ⟨w.heap.size, 2, none⟩); rw [← h 14 (by decide)]; exact hv
  | 3, h, hv => show xq' 15 = .pointer (some ⟨w.heap.size, 2 + l, none⟩); rw [← h 15 (by decide)]; exact hv
  | 4, h, hv => show xq' 16 = .int .i64 (b.rise l); rw [← h 16 (by decide)]; exact hv
  | 5, h, hv => show xq' 17 = .pointer (some ⟨w.heap.size + 1 + 1, 1, none⟩); rw [← h 17 (by decide)]; exact hv
  | 6, h, hv => show xq' 18 = .int .i64 (m : Int); rw [← h 18 (by decide)]; exact hv
  | 7, h, hv => show xq' 19 = .pointer (some ⟨w.heap.size, 2, none⟩); rw [← h 19 (by decide)]; exact hv
  | 8, h, hv => show xq' 20 = .pointer (some ⟨w.heap.size, 2 + m, none⟩); rw [← h 20 (by decide)]; exact hv
  | 9, h, hv => show xq' 21 = .int .i64 (b.rise m); rw [← h 21 (by decide)]; exact hv
  | 10, h, hv => show xq' 22 = .agg #[.int .i64 (b.rise l), .int .i64 (b.rise m)]; rw [← h 22 (by decide)]; exact hv
  | 11, h, hv => exact hv
  | 12, h, hv => exact hv
  | _ + 13, _, _ => trivial
 ·intro jq xq wqq w' hb' hv
  match jq, hv with
  | 0, hv => exact hv
  | 1, hv => exact hv
  | 2, hv => exact hv
  | 3, hv => exact hv
  | 4, hv => exact hv
  | 5, hv => exact hv
  | 6, hv => exact hv
  | 7, hv => exact hv
  | 8, hv => exact hv
  | 9, hv => exact hv
  | 10, hv => exact hv
  | 11, h0 => exact h0.up hb'
  | 12, h0 => exact h0.up hb'
  | _ + 13, _ => trivial
 ·intro jq hj
  match jq, hj with
  | 0, hj => exact absurd hj (by decide)
  | 1, hj => exact absurd hj (by decide)
  | 2, hj => exact absurd hj (by decide)
  | 3, hj => exact absurd hj (by decide)
  | 4, hj => exact absurd hj (by decide)
  | 5, hj => exact absurd hj (by decide)
  | 6, hj => exact absurd hj (by decide)
  | 7, hj => exact absurd hj (by decide)
  | 8, hj => exact absurd hj (by decide)
  | 9, hj => exact absurd hj (by decide)
  | 10, hj => exact absurd hj (by decide)
  | 11, hj => exact absurd hj (by decide)
  | 12, _ => exact (show Holds _ (w.heap.size + 1) 40 #[.int .i64 0, .int .i64 0] from by (repeat first | (with_reducible first | assumption | apply Holds.set4 | apply Holds.set2 | apply Holds.putL | ((refine Holds.new' _ _ ?_); (simp; done)) | refine Holds.alloc ?_ _ | refine Holds.drew ?_ | refine Holds.far ?_ (by simp only [ne_eq]; omega) _) | rfl))
  | _ + 13, _ => trivial
 ·refine ⟨?_, ?_, ?_, ?_, ?_, ?_, ?_, ?_, ?_, ?_, ?_, ?_, trivial⟩
  ·intro xq w1 hb1 hx K hK0
   have hK := fun v w' hb => hK0 v w' (.inl hb)
   clear hx hKc hK0
   simp only [frameOf, fill, setSlot, sg, Nat.reduceBEq, if_true, if_false, Nat.reduceAdd, Nat.reduceEqDiff, HSL.out] at hK ⊢
   go_wp2_with (fail)
   exact hK _ _ (Below.refl _ _) rfl
  ·intro xq w1 hb1 hx K hK0
   have hK := fun v w' hb => hK0 v w' (.inl hb)
   have e12 : xq 12 = .pointer (some ⟨w.heap.size + 1 + 1, 0, none⟩) := hx 0 (by rfl) (by rfl)
   clear hx hKc hK0
   have q13 : w1.cell? ⟨w.heap.size + 1 + 1, 0, none⟩ = some (.int .i64 (l : Int)) := hb1.2.2.2.cell 0
   simp only [frameOf, fill, setSlot, sg, Nat.reduceBEq, if_true, if_false, Nat.reduceAdd, Nat.reduceEqDiff, HSL.out] at hK ⊢
   simp only [e12] at hK ⊢
   clear e12
   go_wp2_with (fail)
   exact hK _ _ (Below.refl _ _) rfl
  ·intro xq w1 hb1 hx K hK0
   have hK := fun v w' hb => hK0 v w' (.inl hb)
   clear hx hKc hK0
   simp only [frameOf, fill, setSlot, sg, Nat.reduceBEq, if_true, if_false, Nat.reduceAdd, Nat.reduceEqDiff, HSL.out] at hK ⊢
   go_wp2_with (fail)
   exact hK _ _ (Below.refl _ _) rfl
  ·intro xq w1 hb1 hx K hK0
   have hK := fun v w' hb => hK0 v w' (.inl hb)
   have e13 : xq 13 = .int .i64 (l : Int) := hx 1 (by rfl) (by rfl)
   have e14 : xq 14 = .pointer (some ⟨w.heap.size, 2, none⟩) := hx 2 (by rfl) (by rfl)
   clear hx hKc hK0
   have h6 := h6l
   simp only [frameOf, fill, setSlot, sg, Nat.reduceBEq, if_true, if_false, Nat.reduceAdd, Nat.reduceEqDiff, HSL.out] at hK ⊢
   simp only [e13, e14] at hK ⊢
   clear e13 e14
   go_wp2_with (fail)
   exact hK _ _ (Below.refl _ _) rfl
  ·intro xq w1 hb1 hx K hK0
   have hK := fun v w' hb => hK0 v w' (.inl hb)
   have e15 : xq 15 = .pointer (some ⟨w.heap.size, 2 + l, none⟩) := hx 3 (by rfl) (by rfl)
   clear hx hKc hK0
   have q16 := rise_nat hb1.2.2.1 HL6.out
   simp only [frameOf, fill, setSlot, sg, Nat.reduceBEq, if_true, if_false, Nat.reduceAdd, Nat.reduceEqDiff, HSL.out] at hK ⊢
   simp only [e15] at hK ⊢
   clear e15
   go_wp2_with (fail)
   exact hK _ _ (Below.refl _ _) rfl
  ·intro xq w1 hb1 hx K hK0
   have hK := fun v w' hb => hK0 v w' (.inl hb)
   clear hx hKc hK0
   simp only [frameOf, fill, setSlot, sg, Nat.reduceBEq, if_true, if_false, Nat.reduceAdd, Nat.reduceEqDiff, HSL.out] at hK ⊢
   go_wp2_with (fail)
   exact hK _ _ (Below.refl _ _) rfl
  ·intro xq w1 hb1 hx K hK0
   have hK := fun v w' hb => hK0 v w' (.inl hb)
   have e17 : xq 17 = .pointer (some ⟨w.heap.size + 1 + 1, 1, none⟩) := hx 5 (by rfl) (by rfl)
   clear hx hKc hK0
   have q18 : w1.cell? ⟨w.heap.size + 1 + 1, 1, none⟩ = some (.int .i64 (m : Int)) := hb1.2.2.2.cell 1
   simp only [frameOf, fill, setSlot, sg, Nat.reduceBEq, if_true, if_false, Nat.reduceAdd, Nat.reduceEqDiff, HSL.out] at hK ⊢
   simp only [e17] at hK ⊢
   clear e17
   go_wp2_with (fail)
   exact hK _ _ (Below.refl _ _) rfl
  ·intro xq w1 hb1 hx K hK0
   have hK := fun v w' hb => hK0 v w' (.inl hb)
   clear hx hKc hK0
   simp only [frameOf, fill, setSlot, sg, Nat.reduceBEq, if_true, if_false, Nat.reduceAdd, Nat.reduceEqDiff, HSL.out] at hK ⊢
   go_wp2_with (fail)
   exact hK _ _ (Below.refl _ _) rfl
  ·intro xq w1 hb1 hx K hK0
   have hK := fun v w' hb => hK0 v w' (.inl hb)
   have e18 : xq 18 = .int .i64 (m : Int) := hx 6 (by rfl) (by rfl)
   have e19 : xq 19 = .pointer (some ⟨w.heap.size, 2, none⟩) := hx 7 (by rfl) (by rfl)
   clear hx hKc hK0
   have h6 := h6h
   simp only [frameOf, fill, setSlot, sg, Nat.reduceBEq, if_true, if_false, Nat.reduceAdd, Nat.reduceEqDiff, HSL.out] at hK ⊢
   simp only [e18, e19] at hK ⊢
   clear e18 e19
   go_wp2_with (fail)
   exact hK _ _ (Below.refl _ _) rfl
  ·intro xq w1 hb1 hx K hK0
   have hK := fun v w' hb => hK0 v w' (.inl hb)
   have e20 : xq 20 = .pointer (some ⟨w.heap.size, 2 + m, none⟩) := hx 8 (by rfl) (by rfl)
   clear hx hKc hK0
   have q21 := rise_nat hb1.2.2.1 HH6.out
   simp only [frameOf, fill, setSlot, sg, Nat.reduceBEq, if_true, if_false, Nat.reduceAdd, Nat.reduceEqDiff, HSL.out] at hK ⊢
   simp only [e20] at hK ⊢
   clear e20
   go_wp2_with (fail)
   exact hK _ _ (Below.refl _ _) rfl
  ·intro xq w1 hb1 hx K hK0
   have hK := fun v w' hb => hK0 v w' (.inl hb)
   have e16 : xq 16 = .int .i64 (b.rise l) := hx 4 (by rfl) (by rfl)
   have e21 : xq 21 = .int .i64 (b.rise m) := hx 9 (by rfl) (by rfl)
   clear hx hKc hK0
   simp only [frameOf, fill, setSlot, sg, Nat.reduceBEq, if_true, if_false, Nat.reduceAdd, Nat.reduceEqDiff, HSL.out] at hK ⊢
   simp only [e16, e21] at hK ⊢
   clear e16 e21
   go_wp2_with (fail)
   exact hK _ _ (Below.refl _ _) rfl
  ·intro xq w1 hb1 hx K hK0
   have hK := fun v w' hb => hK0 v w' (.inr hb)
   have e22 : xq 22 = .agg #[.int .i64 (b.rise l), .int .i64 (b.rise m)] := hx 10 (by rfl) (by rfl)
   have fi4_0 : Holds w1 (w.heap.size + 1) 40 #[.int .i64 0, .int .i64 0] := hx 12 (by rfl) (by rfl)
   clear hx hKc hK0
   have lt4 : w.heap.size + 1 < w1.heap.size := by have := hb1.2.1; omega
   obtain ⟨k40, k41⟩ := fi4_0.c2
   obtain ⟨z40, z41⟩ := fi4_0.f2
   simp only [frameOf, fill, setSlot, sg, Nat.reduceBEq, if_true, if_false, Nat.reduceAdd, Nat.reduceEqDiff, HSL.out] at hK ⊢
   have E22 := Lib.hid e22
   simp only [e22] at hK ⊢
   clear e22
   go_wp2_with (fail)
   refine hK undef _ ⟨(by have h := hb1; exact ⟨h.1.trans zg, by simp only [World.size_setCell]; exact h.2.1, by (have h' := h.2.2.1; (repeat first | (with_reducible first | assumption | apply Holds.set4 | apply Holds.set2 | apply Holds.putL | ((refine Holds.new' _ _ ?_); (simp; done)) | refine Holds.alloc ?_ _ | refine Holds.drew ?_ | refine Holds.far ?_ (by simp only [ne_eq]; omega) _) | rfl)), by (have h' := h.2.2.2; (repeat first | (with_reducible first | assumption | apply Holds.set4 | apply Holds.set2 | apply Holds.putL | ((refine Holds.new' _ _ ?_); (simp; done)) | refine Holds.alloc ?_ _ | refine Holds.drew ?_ | refine Holds.far ?_ (by simp only [ne_eq]; omega) _) | rfl))⟩), ?_⟩ (Holds.set2 _ _ fi4_0)
   intro jq xq hd hne hv
   match jq, hd, hne, hv with
   | 0, _, _, hv => exact hv
   | 1, _, _, hv => exact hv
   | 2, _, _, hv => exact hv
   | 3, _, _, hv => exact hv
   | 4, _, _, hv => exact hv
   | 5, _, _, hv => exact hv
   | 6, _, _, hv => exact hv
   | 7, _, _, hv => exact hv
   | 8, _, _, hv => exact hv
   | 9, _, _, hv => exact hv
   | 10, _, _, hv => exact hv
   | 11, _, hne, _ => exact absurd rfl hne
   | 12, hd, _, _ => exact absurd hd (by decide)
   | _ + 13, _, _, _ => trivial
 ·intro xq w1 hb1 hx
  have e12 : xq 12 = .pointer (some ⟨w.heap.size + 1 + 1, 0, none⟩) := hx 0 (by decide)
  have e13 : xq 13 = .int .i64 (l : Int) := hx 1 (by decide)
  have e14 : xq 14 = .pointer (some ⟨w.heap.size, 2, none⟩) := hx 2 (by decide)
  have e15 : xq 15 = .pointer (some ⟨w.heap.size, 2 + l, none⟩) := hx 3 (by decide)
  have e16 : xq 16 = .int .i64 (b.rise l) := hx 4 (by decide)
  have e17 : xq 17 = .pointer (some ⟨w.heap.size + 1 + 1, 1, none⟩) := hx 5 (by decide)
  have e18 : xq 18 = .int .i64 (m : Int) := hx 6 (by decide)
  have e19 : xq 19 = .pointer (some ⟨w.heap.size, 2, none⟩) := hx 7 (by decide)
  have e20 : xq 20 = .pointer (some ⟨w.heap.size, 2 + m, none⟩) := hx 8 (by decide)
  have e21 : xq 21 = .int .i64 (b.rise m) := hx 9 (by decide)
  have e22 : xq 22 = .agg #[.int .i64 (b.rise l), .int .i64 (b.rise m)] := hx 10 (by decide)
  have fn11_0 : Holds w1 (w.heap.size + 1) 40 #[.int .i64 (b.rise l), .int .i64 (b.rise m)] := hx 11 (by decide)
  clear hx
  simp only [frameOf, fill, setSlot, sg, Nat.reduceBEq, if_true, if_false, Nat.reduceAdd, Nat.reduceEqDiff, HSL.out]
  simp only [e12, e13, e14, e15, e16, e17, e18, e19, e20, e21, e22]
  clear e12 e13 e14 e15 e16 e17 e18 e19 e20 e21 e22
  refine hKc _ _ ?_
  go_wp2_with fail
  refine ret_cell (t := 40) (cs := #[.int .i64 (b.rise l), .int .i64 (b.rise m)]) rfl rfl fn11_0 Tryz.underlying40 rfl (by kernel_rfl) rfl ⟨rfl, hb1.1⟩
theorem fld_lo (a b : Int) (w : World) : (Instr.field 40 (.agg #[.int .i64 a, .int .i64 b]) 0).run Tryz.prog w = .ok (.int .i64 a) w := by kernel_rfl
theorem fld_hi (a b : Int) (w : World) : (Instr.field 40 (.agg #[.int .i64 a, .int .i64 b]) 1).run Tryz.prog w = .ok (.int .i64 b) w := by kernel_rfl
attribute [local go_sem] fld_lo fld_hi
set_option maxRecDepth 100000 in
set_option maxHeartbeats 4000000 in
theorem neverWarms_any (b : Br) (A : Option Addr) (c : Nat) (bs : List Bn)  (w : World) (hA : BinsAt w A bs) (hl : bs.length ≤ 1000) (k : Nat) (x : Bn) (hx : bs[k]? = some x) (l m : Nat) (hlo : x.lo = l) (hhi : x.hi = m) (hl6 : l < 6) (hh6 : m < 6) :
  Calls Tryz.prog 75 #[.agg #[.int .i64 b.cool, .int .i64 b.gangs, .int .i64 b.r0, .int .i64 b.r1, .int .i64 b.r2, .int .i64 b.r3, .int .i64 b.r4, .int .i64 b.r5, .slice A bs.length c], .int .i64 (k : Int)] w fun e w' => e = .returned (.bool (b.rise m == 0)) ∧ Below w.heap.size w w' := by
 have HA := Lib.hid hA
 clear hA
 have HX := Lib.hid hx
 clear hx
 have HLO := Lib.hid hlo
 have HHI := Lib.hid hhi
 clear hlo hhi
 obtain ⟨r, hr⟩ : ∃ z, b.rise m = z := ⟨_, rfl⟩
 have HR := Lib.hid hr
 by_cases hz : r = 0
 ·subst hz
  go_enter Tryz.func75, Tryz.ntmps75
  go_wp2_with (go_at_call 26; refine (rises_any b A c bs _ (HA.out.up zg) hl k x HX.out l m HLO.out HHI.out hl6 hh6).mono ?_; simp only [hr]; rintro e w2 ⟨rfl, hb2⟩)
  go_ret
  exact ⟨by rw [HR.out]; first | rfl | simp [hz], Below.trans zg (hb2.mono (by simp))⟩
 ·have hzb : (r == 0) = false := by simpa using hz
  go_enter Tryz.func75, Tryz.ntmps75
  go_wp2_with (go_at_call 26; refine (rises_any b A c bs _ (HA.out.up zg) hl k x HX.out l m HLO.out HHI.out hl6 hh6).mono ?_; simp only [hr]; rintro e w2 ⟨rfl, hb2⟩)
  go_ret
  exact ⟨by rw [HR.out]; first | rfl | simp [hz], Below.trans zg (hb2.mono (by simp))⟩
set_option maxRecDepth 100000 in
set_option maxHeartbeats 4000000 in
theorem daysFrom_never (b : Br) (A : Option Addr) (c : Nat) (bs : List Bn)  (w : World) (hA : BinsAt w A bs) (hl : bs.length ≤ 1000) (k : Nat) (x : Bn) (hx : bs[k]? = some x) (l m : Nat) (hlo : x.lo = l) (hhi : x.hi = m) (hl6 : l < 6) (hh6 : m < 6) (g : Int) (hr : b.rise m = 0) :
  Calls Tryz.prog 46 #[.agg #[.int .i64 b.cool, .int .i64 b.gangs, .int .i64 b.r0, .int .i64 b.r1, .int .i64 b.r2, .int .i64 b.r3, .int .i64 b.r4, .int .i64 b.r5, .slice A bs.length c], .int .i64 (k : Int), .int .i64 g] w fun e w' => e = .returned (.int .i64 1000000) ∧ Below w.heap.size w w' := by
 have HA := Lib.hid hA
 clear hA
 have HX := Lib.hid hx
 clear hx
 have HLO := Lib.hid hlo
 have HHI := Lib.hid hhi
 clear hlo hhi
 have HRB : Hid ((b.rise m == 0) = true) := Lib.hid (by rw [hr]; rfl)
 clear hr
 go_enter Tryz.func46, Tryz.ntmps46
 go_wp2_with (go_at_call 75; refine (neverWarms_any b A c bs _ (HA.out.up zg) hl k x HX.out l m HLO.out HHI.out hl6 hh6).mono ?_; rw [HRB.out]; rintro e w2 ⟨rfl, hb2⟩)
 go_ret
 exact ⟨rfl, Below.trans zg (hb2.mono (by simp))⟩
theorem zp0 {p : Prop} (h : p := by (repeat first | (with_reducible first | assumption | apply Holds.set4 | apply Holds.set2 | apply Holds.putL | ((refine Holds.new' _ _ ?_); (simp; done)) | refine Holds.alloc ?_ _ | refine Holds.drew ?_ | refine Holds.far ?_ (by simp only [ne_eq]; omega) _) | rfl)) : p := h
set_option maxRecDepth 100000 in
set_option maxHeartbeats 4000000 in
theorem daysFrom_days (b : Br) (A : Option Addr) (c : Nat) (bs : List Bn)  (w : World) (hA : BinsAt w A bs) (hl : bs.length ≤ 1000) (k : Nat) (x : Bn) (hx : bs[k]? = some x) (l m : Nat) (hlo : x.lo = l) (hhi : x.hi = m) (hl6 : l < 6) (hh6 : m < 6) (g : Int) (hg0 : 0 ≤ g) (hg1 : g ≤ 60) (hm0 : 0 ≤ x.mark) (hm1 : x.mark ≤ 60) (hr0 : 1 ≤ b.rise m) (hr1 : b.rise m ≤ 20) :
  Calls Tryz.prog 46 #[.agg #[.int .i64 b.cool, .int .i64 b.gangs, .int .i64 b.r0, .int .i64 b.r1, .int .i64 b.r2, .int .i64 b.r3, .int .i64 b.r4, .int .i64 b.r5, .slice A bs.length c], .int .i64 (k : Int), .int .i64 g] w fun e w' => e = .returned (.int .i64 (max 0 (x.mark - g) / b.rise m)) ∧ Below w.heap.size w w' := by
 have HA := Lib.hid hA
 clear hA
 have HX := Lib.hid hx
 clear hx
 have HLO := Lib.hid hlo
 have HHI := Lib.hid hhi
 clear hlo hhi
 have HRB : Hid ((b.rise m == 0) = false) := Lib.hid (by simp; omega)
 obtain ⟨r, hr⟩ : ∃ z, b.rise m = z := ⟨_, rfl⟩
 rw [hr]
 rw [hr] at hr0 hr1
 obtain ⟨q, hq⟩ : ∃ z, x.mark - g = z := ⟨_, rfl⟩
 have hq0 : -60 ≤ q := by omega
 have hq1 : q ≤ 60 := by omega
 have HQ := Lib.hid hq
 have HR := Lib.hid hr
 clear hq hr
 go_enter Tryz.func46, Tryz.ntmps46
 go_wp2_with (go_at_call 75; refine (neverWarms_any b A c bs _ (HA.out.up zg) hl k x HX.out l m HLO.out HHI.out hl6 hh6).mono ?_; rw [HRB.out]; rintro e w2 ⟨rfl, hb2⟩; have hB2 : Below w.heap.size w w2 := Below.trans zg (hb2.mono (by simp)); have HX2 := Lib.hid (Holds.up (zp0 : Holds _ w.heap.size 26 #[.int .i64 b.cool, .int .i64 b.gangs, .int .i64 b.r0, .int .i64 b.r1, .int .i64 b.r2, .int .i64 b.r3, .int .i64 b.r4, .int .i64 b.r5, .slice A bs.length c]) hb2); have lt2 : w.heap.size < w2.heap.size := HX2.out.lt; have hs2 := hB2.size)
 have kb8 : w2.cell? ⟨w.heap.size, 8, none⟩ = some (.slice A bs.length c) := HX2.out.cell 8
 have kb0 : w2.cell? ⟨w.heap.size, 0, none⟩ = some (.int .i64 b.cool) := HX2.out.cell 0
 have kb1 : w2.cell? ⟨w.heap.size, 1, none⟩ = some (.int .i64 b.gangs) := HX2.out.cell 1
 have kb2 : w2.cell? ⟨w.heap.size, 2, none⟩ = some (.int .i64 b.r0) := HX2.out.cell 2
 have kb3 : w2.cell? ⟨w.heap.size, 3, none⟩ = some (.int .i64 b.r1) := HX2.out.cell 3
 have kb4 : w2.cell? ⟨w.heap.size, 4, none⟩ = some (.int .i64 b.r2) := HX2.out.cell 4
 have kb5 : w2.cell? ⟨w.heap.size, 5, none⟩ = some (.int .i64 b.r3) := HX2.out.cell 5
 have kb6 : w2.cell? ⟨w.heap.size, 6, none⟩ = some (.int .i64 b.r4) := HX2.out.cell 6
 have kb7 : w2.cell? ⟨w.heap.size, 7, none⟩ = some (.int .i64 b.r5) := HX2.out.cell 7
 obtain ⟨E0, oo, rfl, hcell⟩ := (HA.out.up hB2) (by have := (List.getElem?_eq_some_iff.1 HX.out).1; omega)
 have hk : k < bs.length := (List.getElem?_eq_some_iff.1 HX.out).1
 have hk' : (k : Int) < bs.length := by omega
 have ke1 : w2.cell? ⟨E0, oo + k * 4 + 1, none⟩ = some (.int .i64 x.mark) := hcell k x HX.out 1 _ rfl
 have lE : E0 < w2.heap.size := World.block_lt_of_cell? w2 _ ke1
 clear hcell
 rename_i Kc hKc
 have HSL := Lib.hid (show slotsOf [some 10, some 11, some 12, some 13, some 14, some 15, some 16, some 17, some 18, some 19, some 20, some 21, some 22, some 23, some 24, some 6] = [10, 11, 12, 13, 14, 15, 16, 17, 18, 19, 20, 21, 22, 23, 24, 6] from rfl)
 refine wp_region_partsG (by kernel_rfl) [some 10, some 11, some 12, some 13, some 14, some 15, some 16, some 17, some 18, some 19, some 20, some 21, some 22, some 23, some 24, some 6] (fun jq xq w' => match jq with
  | 0 => xq 10 = .pointer (some ⟨w.heap.size, 8, none⟩)
  | 1 => xq 11 = .slice (some ⟨E0, oo, none⟩) bs.length c
  | 2 => xq 12 = .int .i64 (k : Int)
  | 3 => xq 13 = .pointer (some ⟨E0, oo + k * 4, none⟩)
  | 4 => xq 14 = .pointer (some ⟨E0, oo + k * 4 + 1, none⟩)
  | 5 => xq 15 = .int .i64 x.mark
  | 6 => xq 16 = .int .i64 g
  | 7 => xq 17 = .int .i64 q
  | 8 => ∃ b, xq 18 = .slice (some ⟨b, 0, none⟩) 1 1 ∧ Holds w' b 3 #[.int .i64 q]
  | 9 => xq 19 = .int .i64 (max 0 q)
  | 10 => xq 20 = .agg #[.int .i64 b.cool, .int .i64 b.gangs, .int .i64 b.r0, .int .i64 b.r1, .int .i64 b.r2, .int .i64 b.r3, .int .i64 b.r4, .int .i64 b.r5, .slice (some ⟨E0, oo, none⟩) bs.length c]
  | 11 => xq 21 = .int .i64 (k : Int)
  | 12 => xq 22 = .agg #[.int .i64 (b.rise l), .int .i64 r]
  | 13 => xq 23 = .int .i64 r
  | 14 => xq 24 = .int .i64 (max 0 q / r)
  | 15 => xq 6 = .int .i64 (max 0 q / r)
  | _ => True) [[10], [11], [12], [13], [14], [15], [16], [17], [18], [19], [20], [21], [22], [23], [24], [6]] [] (fun w' => Below w2.heap.size w2 w') (by kernel_rfl)  ?_ ?_ (fun w' w'' hb h => h.trans (hb.mono h.size)) (Below.refl _ _) ?_ ?_ ?_
 ·intro jq xq xq' wqq h hv
  match jq, h, hv with
  | 0, h, hv => show xq' 10 = .pointer (some ⟨w.heap.size, 8, none⟩); rw [← h 10 (by decide)]; exact hv
  | 1, h, hv => show xq' 11 = .slice (some ⟨E0, oo, none⟩) bs.length c; rw [← h 11 (by decide)]; exact hv
  | 2, h, hv => show xq' 12 = .int .i64 (k : Int); rw [← h 12 (by decide)]; exact hv
  | 3, h, hv => show xq' 13 = .pointer (some ⟨E0, oo + k * 4, none⟩); rw [← h 13 (by decide)]; exact hv
  | 4, h, hv => show xq' 14 = .pointer (some ⟨E0, oo + k * 4 + 1, none⟩); rw [← h 14 (by decide)]; exact hv
  | 5, h, hv => show xq' 15 = .int .i64 x.mark; rw [← h 15 (by decide)]; exact hv
  | 6, h, hv => show xq' 16 = .int .i64 g; rw [← h 16 (by decide)]; exact hv
  | 7, h, hv => show xq' 17 = .int .i64 q; rw [← h 17 (by decide)]; exact hv
  | 8, h, hv => show ∃ b, xq' 18 = .slice (some ⟨b, 0, none⟩) 1 1 ∧ Holds wqq b 3 #[.int .i64 q]; rw [← h 18 (by decide)]; exact hv
  | 9, h, hv => show xq' 19 = .int .i64 (max 0 q); rw [← h 19 (by decide)]; exact hv
  | 10, h, hv => show xq' 20 = .agg #[.int .i64 b.cool, .int .i64 b.gangs, .int .i64 b.r0, .int .i64 b.r1, .int .i64 b.r2, .int .i64 b.r3, .int .i64 b.r4, .int .i64 b.r5, .slice (some ⟨E0, oo, none⟩) bs.length c]; rw [← h 20 (by decide)]; exact hv
  | 11, h, hv => show xq' 21 = .int .i64 (k : Int); rw [← h 21 (by decide)]; exact hv
  | 12, h, hv => show xq' 22 = .agg #[.int .i64 (b.rise l), .int .i64 r]; rw [← h 22 (by decide)]; exact hv
  | 13, h, hv => show xq' 23 = .int .i64 r; rw [← h 23 (by decide)]; exact hv
  | 14, h, hv => show xq' 24 = .int .i64 (max 0 q / r); rw [← h 24 (by decide)]; exact hv
  | 15, h, hv => show xq' 6 = .int .i64 (max 0 q / r); rw [← h 6 (by decide)]; exact hv
  | _ + 16, _, _ => trivial
 ·intro jq xq wqq w' hb' hv
  match jq, hv with
  | 0, hv => exact hv
  | 1, hv => exact hv
  | 2, hv => exact hv
  | 3, hv => exact hv
  | 4, hv => exact hv
  | 5, hv => exact hv
  | 6, hv => exact hv
  | 7, hv => exact hv
  | 8, ⟨b0, h0, h1⟩ => exact ⟨b0, h0, h1.up hb'⟩
  | 9, hv => exact hv
  | 10, hv => exact hv
  | 11, hv => exact hv
  | 12, hv => exact hv
  | 13, hv => exact hv
  | 14, hv => exact hv
  | 15, hv => exact hv
  | _ + 16, _ => trivial
 ·intro jq hj
  match jq, hj with
  | 0, hj => exact absurd hj (by decide)
  | 1, hj => exact absurd hj (by decide)
  | 2, hj => exact absurd hj (by decide)
  | 3, hj => exact absurd hj (by decide)
  | 4, hj => exact absurd hj (by decide)
  | 5, hj => exact absurd hj (by decide)
  | 6, hj => exact absurd hj (by decide)
  | 7, hj => exact absurd hj (by decide)
  | 8, hj => exact absurd hj (by decide)
  | 9, hj => exact absurd hj (by decide)
  | 10, hj => exact absurd hj (by decide)
  | 11, hj => exact absurd hj (by decide)
  | 12, hj => exact absurd hj (by decide)
  | 13, hj => exact absurd hj (by decide)
  | 14, hj => exact absurd hj (by decide)
  | 15, hj => exact absurd hj (by decide)
  | _ + 16, _ => trivial
 ·refine ⟨?_, ?_, ?_, ?_, ?_, ?_, ?_, ?_, ?_, ?_, ?_, ?_, ?_, ?_, ?_, ?_, trivial⟩
  ·intro xq w1 hb1 hx K hK0
   have hK := fun v w' hb => hK0 v w' (.inl hb)
   clear hx hKc hK0
   simp only [frameOf, fill, setSlot, sg, Nat.reduceBEq, if_true, if_false, Nat.reduceAdd, Nat.reduceEqDiff, HSL.out] at hK ⊢
   go_wp2_with (fail)
   exact hK _ _ (Below.refl _ _) rfl
  ·intro xq w1 hb1 hx K hK0
   have hK := fun v w' hb => hK0 v w' (.inl hb)
   have e10 : xq 10 = .pointer (some ⟨w.heap.size, 8, none⟩) := hx 0 (by rfl) (by rfl)
   clear hx hKc hK0
   have kk8 : w1.cell? ⟨w.heap.size, 8, none⟩ = some (.slice (some ⟨E0, oo, none⟩) bs.length c) := up_cell hb1 kb8
   simp only [frameOf, fill, setSlot, sg, Nat.reduceBEq, if_true, if_false, Nat.reduceAdd, Nat.reduceEqDiff, HSL.out] at hK ⊢
   simp only [e10] at hK ⊢
   clear e10
   go_wp2_with (fail)
   exact hK _ _ (Below.refl _ _) rfl
  ·intro xq w1 hb1 hx K hK0
   have hK := fun v w' hb => hK0 v w' (.inl hb)
   clear hx hKc hK0
   simp only [frameOf, fill, setSlot, sg, Nat.reduceBEq, if_true, if_false, Nat.reduceAdd, Nat.reduceEqDiff, HSL.out] at hK ⊢
   go_wp2_with (fail)
   exact hK _ _ (Below.refl _ _) rfl
  ·intro xq w1 hb1 hx K hK0
   have hK := fun v w' hb => hK0 v w' (.inl hb)
   have e11 : xq 11 = .slice (some ⟨E0, oo, none⟩) bs.length c := hx 1 (by rfl) (by rfl)
   have e12 : xq 12 = .int .i64 (k : Int) := hx 2 (by rfl) (by rfl)
   clear hx hKc hK0
   simp only [frameOf, fill, setSlot, sg, Nat.reduceBEq, if_true, if_false, Nat.reduceAdd, Nat.reduceEqDiff, HSL.out] at hK ⊢
   simp only [e11, e12] at hK ⊢
   clear e11 e12
   go_wp2_with (fail)
   exact hK _ _ (Below.refl _ _) rfl
  ·intro xq w1 hb1 hx K hK0
   have hK := fun v w' hb => hK0 v w' (.inl hb)
   have e13 : xq 13 = .pointer (some ⟨E0, oo + k * 4, none⟩) := hx 3 (by rfl) (by rfl)
   clear hx hKc hK0
   simp only [frameOf, fill, setSlot, sg, Nat.reduceBEq, if_true, if_false, Nat.reduceAdd, Nat.reduceEqDiff, HSL.out] at hK ⊢
   simp only [e13] at hK ⊢
   clear e13
   go_wp2_with (fail)
   exact hK _ _ (Below.refl _ _) rfl
  ·intro xq w1 hb1 hx K hK0
   have hK := fun v w' hb => hK0 v w' (.inl hb)
   have e14 : xq 14 = .pointer (some ⟨E0, oo + k * 4 + 1, none⟩) := hx 4 (by rfl) (by rfl)
   clear hx hKc hK0
   have ke1' := up_cell hb1 ke1
   simp only [frameOf, fill, setSlot, sg, Nat.reduceBEq, if_true, if_false, Nat.reduceAdd, Nat.reduceEqDiff, HSL.out] at hK ⊢
   simp only [e14] at hK ⊢
   clear e14
   go_wp2_with (fail)
   exact hK _ _ (Below.refl _ _) rfl
  ·intro xq w1 hb1 hx K hK0
   have hK := fun v w' hb => hK0 v w' (.inl hb)
   clear hx hKc hK0
   simp only [frameOf, fill, setSlot, sg, Nat.reduceBEq, if_true, if_false, Nat.reduceAdd, Nat.reduceEqDiff, HSL.out] at hK ⊢
   go_wp2_with (fail)
   exact hK _ _ (Below.refl _ _) rfl
  ·intro xq w1 hb1 hx K hK0
   have hK := fun v w' hb => hK0 v w' (.inl hb)
   have e15 : xq 15 = .int .i64 x.mark := hx 5 (by rfl) (by rfl)
   have e16 : xq 16 = .int .i64 g := hx 6 (by rfl) (by rfl)
   clear hx hKc hK0
   have hq := HQ.out
   simp only [frameOf, fill, setSlot, sg, Nat.reduceBEq, if_true, if_false, Nat.reduceAdd, Nat.reduceEqDiff, HSL.out] at hK ⊢
   simp only [e15, e16] at hK ⊢
   clear e15 e16
   go_wp2_with (fail)
   first | exact hK _ _ (Below.refl _ _) rfl | exact hK _ _ (Below.refl _ _) (by rw [hq])
  ·intro xq w1 hb1 hx K hK0
   have hK := fun v w' hb => hK0 v w' (.inl hb)
   have e17 : xq 17 = .int .i64 q := hx 7 (by rfl) (by rfl)
   clear hx hKc hK0
   simp only [frameOf, fill, setSlot, sg, Nat.reduceBEq, if_true, if_false, Nat.reduceAdd, Nat.reduceEqDiff, HSL.out] at hK ⊢
   simp only [e17] at hK ⊢
   clear e17
   go_wp2_with (fail)
   exact hK _ _ ((Below.refl _ _).alloc (Nat.le_refl _) _) ⟨_, rfl, Holds.new _ _ _⟩
  ·intro xq w1 hb1 hx K hK0
   have hK := fun v w' hb => hK0 v w' (.inl hb)
   obtain ⟨b18, e18, f18_0⟩ := hx 8 (by rfl) (by rfl)
   clear hx hKc hK0
   have kc := f18_0.cell 0
   simp only [frameOf, fill, setSlot, sg, Nat.reduceBEq, if_true, if_false, Nat.reduceAdd, Nat.reduceEqDiff, HSL.out] at hK ⊢
   simp only [e18] at hK ⊢
   clear e18
   go_wp2_with (go_at_call 76; refine (greatest_one 0 q b18 _ kc).mono ?_; rintro e w2_ ⟨rfl, rfl⟩)
   exact hK _ _ (Below.refl _ _) rfl
  ·intro xq w1 hb1 hx K hK0
   have hK := fun v w' hb => hK0 v w' (.inl hb)
   clear hx hKc hK0
   have kk0 : w1.cell? ⟨w.heap.size, 0, none⟩ = some (.int .i64 b.cool) := up_cell hb1 kb0
   have kk1 : w1.cell? ⟨w.heap.size, 1, none⟩ = some (.int .i64 b.gangs) := up_cell hb1 kb1
   have kk2 : w1.cell? ⟨w.heap.size, 2, none⟩ = some (.int .i64 b.r0) := up_cell hb1 kb2
   have kk3 : w1.cell? ⟨w.heap.size, 3, none⟩ = some (.int .i64 b.r1) := up_cell hb1 kb3
   have kk4 : w1.cell? ⟨w.heap.size, 4, none⟩ = some (.int .i64 b.r2) := up_cell hb1 kb4
   have kk5 : w1.cell? ⟨w.heap.size, 5, none⟩ = some (.int .i64 b.r3) := up_cell hb1 kb5
   have kk6 : w1.cell? ⟨w.heap.size, 6, none⟩ = some (.int .i64 b.r4) := up_cell hb1 kb6
   have kk7 : w1.cell? ⟨w.heap.size, 7, none⟩ = some (.int .i64 b.r5) := up_cell hb1 kb7
   have kk8 : w1.cell? ⟨w.heap.size, 8, none⟩ = some (.slice (some ⟨E0, oo, none⟩) bs.length c) := up_cell hb1 kb8
   simp only [frameOf, fill, setSlot, sg, Nat.reduceBEq, if_true, if_false, Nat.reduceAdd, Nat.reduceEqDiff, HSL.out] at hK ⊢
   go_wp2_with (fail)
   exact hK _ _ (Below.refl _ _) rfl
  ·intro xq w1 hb1 hx K hK0
   have hK := fun v w' hb => hK0 v w' (.inl hb)
   clear hx hKc hK0
   simp only [frameOf, fill, setSlot, sg, Nat.reduceBEq, if_true, if_false, Nat.reduceAdd, Nat.reduceEqDiff, HSL.out] at hK ⊢
   go_wp2_with (fail)
   exact hK _ _ (Below.refl _ _) rfl
  ·intro xq w1 hb1 hx K hK0
   have hK := fun v w' hb => hK0 v w' (.inl hb)
   have e20 : xq 20 = .agg #[.int .i64 b.cool, .int .i64 b.gangs, .int .i64 b.r0, .int .i64 b.r1, .int .i64 b.r2, .int .i64 b.r3, .int .i64 b.r4, .int .i64 b.r5, .slice (some ⟨E0, oo, none⟩) bs.length c] := hx 10 (by rfl) (by rfl)
   have e21 : xq 21 = .int .i64 (k : Int) := hx 11 (by rfl) (by rfl)
   clear hx hKc hK0
   simp only [frameOf, fill, setSlot, sg, Nat.reduceBEq, if_true, if_false, Nat.reduceAdd, Nat.reduceEqDiff, HSL.out] at hK ⊢
   simp only [e20, e21] at hK ⊢
   clear e20 e21
   go_wp2_with (go_at_call 26; refine (rises_any b (some ⟨E0, oo, none⟩) c bs _ (HA.out.up (hB2.trans (hb1.mono hs2))) hl k x HX.out l m HLO.out HHI.out hl6 hh6).mono ?_; rw [HR.out]; rintro e w2_ ⟨rfl, hb_⟩)
   exact hK _ _ hb_ rfl
  ·intro xq w1 hb1 hx K hK0
   have hK := fun v w' hb => hK0 v w' (.inl hb)
   have e22 : xq 22 = .agg #[.int .i64 (b.rise l), .int .i64 r] := hx 12 (by rfl) (by rfl)
   clear hx hKc hK0
   simp only [frameOf, fill, setSlot, sg, Nat.reduceBEq, if_true, if_false, Nat.reduceAdd, Nat.reduceEqDiff, HSL.out] at hK ⊢
   simp only [e22] at hK ⊢
   clear e22
   go_wp2_with (fail)
   exact hK _ _ (Below.refl _ _) rfl
  ·intro xq w1 hb1 hx K hK0
   have hK := fun v w' hb => hK0 v w' (.inl hb)
   have e19 : xq 19 = .int .i64 (max 0 q) := hx 9 (by rfl) (by rfl)
   have e23 : xq 23 = .int .i64 r := hx 13 (by rfl) (by rfl)
   clear hx hKc hK0
   have hmx0 : 0 ≤ max 0 q := by omega
   have hmx1 : max 0 q ≤ 60 := by omega
   simp only [frameOf, fill, setSlot, sg, Nat.reduceBEq, if_true, if_false, Nat.reduceAdd, Nat.reduceEqDiff, HSL.out] at hK ⊢
   simp only [e19, e23] at hK ⊢
   clear e19 e23
   go_wp2_with (fail)
   first | exact hK _ _ (Below.refl _ _) rfl | exact hK _ _ (Below.refl _ _) (by go_num)
  ·intro xq w1 hb1 hx K hK0
   have hK := fun v w' hb => hK0 v w' (.inl hb)
   have e24 : xq 24 = .int .i64 (max 0 q / r) := hx 14 (by rfl) (by rfl)
   clear hx hKc hK0
   simp only [frameOf, fill, setSlot, sg, Nat.reduceBEq, if_true, if_false, Nat.reduceAdd, Nat.reduceEqDiff, HSL.out] at hK ⊢
   simp only [e24] at hK ⊢
   clear e24
   go_wp2_with (fail)
   exact hK _ _ (Below.refl _ _) rfl
 ·intro xq w1 hb1 hx
  have e10 : xq 10 = .pointer (some ⟨w.heap.size, 8, none⟩) := hx 0 (by decide)
  have e11 : xq 11 = .slice (some ⟨E0, oo, none⟩) bs.length c := hx 1 (by decide)
  have e12 : xq 12 = .int .i64 (k : Int) := hx 2 (by decide)
  have e13 : xq 13 = .pointer (some ⟨E0, oo + k * 4, none⟩) := hx 3 (by decide)
  have e14 : xq 14 = .pointer (some ⟨E0, oo + k * 4 + 1, none⟩) := hx 4 (by decide)
  have e15 : xq 15 = .int .i64 x.mark := hx 5 (by decide)
  have e16 : xq 16 = .int .i64 g := hx 6 (by decide)
  have e17 : xq 17 = .int .i64 q := hx 7 (by decide)
  obtain ⟨b18, e18, f18_0⟩ := hx 8 (by decide)
  have e19 : xq 19 = .int .i64 (max 0 q) := hx 9 (by decide)
  have e20 : xq 20 = .agg #[.int .i64 b.cool, .int .i64 b.gangs, .int .i64 b.r0, .int .i64 b.r1, .int .i64 b.r2, .int .i64 b.r3, .int .i64 b.r4, .int .i64 b.r5, .slice (some ⟨E0, oo, none⟩) bs.length c] := hx 10 (by decide)
  have e21 : xq 21 = .int .i64 (k : Int) := hx 11 (by decide)
  have e22 : xq 22 = .agg #[.int .i64 (b.rise l), .int .i64 r] := hx 12 (by decide)
  have e23 : xq 23 = .int .i64 r := hx 13 (by decide)
  have e24 : xq 24 = .int .i64 (max 0 q / r) := hx 14 (by decide)
  have e6 : xq 6 = .int .i64 (max 0 q / r) := hx 15 (by decide)
  clear hx
  simp only [frameOf, fill, setSlot, sg, Nat.reduceBEq, if_true, if_false, Nat.reduceAdd, Nat.reduceEqDiff, HSL.out]
  simp only [e10, e11, e12, e13, e14, e15, e16, e17, e18, e19, e20, e21, e22, e23, e24, e6]
  clear e10 e11 e12 e13 e14 e15 e16 e17 e18 e19 e20 e21 e22 e23 e24 e6
  refine hKc _ _ ?_
  go_wp2_with fail
  go_ret
  exact ⟨by rw [HQ.out]; rfl, hB2.trans (hb1.mono hs2)⟩
theorem good_bin {b : Br} {bs : List Bn} {k : Nat} {x : Bn} (h : barnErr b bs = 0) (hx : bs[k]? = some x) : ∃ l m : Nat, x.lo = l ∧ x.hi = m ∧ l < 6 ∧ m < 6 ∧ 0 ≤ x.mark ∧ x.mark ≤ 60 ∧ 0 ≤ x.warm ∧ x.warm ≤ x.mark ∧ 0 ≤ b.cool ∧ b.cool ≤ 60 ∧ (b.rise m = 0 ∨ (6 ≤ b.rise m ∧ b.rise m ≤ 20)) := by
 obtain ⟨_, hc, _, hr, hb, _, _⟩ := barn_right h
 have hx' := List.all_eq_true.1 hb x (List.mem_of_getElem? hx)
 simp only [Bn.inRange, within, Bool.and_eq_true, decide_eq_true_eq] at hx' hc
 obtain ⟨⟨⟨a1, a2⟩, a3, a4⟩, ⟨a5, a6⟩, a7, a8⟩ := hx'
 refine ⟨x.lo.toNat, x.hi.toNat, by omega, by omega, by omega, by omega, a1, a2, a3, a4, hc.1, hc.2, ?_⟩
 exact riseOk_cases (rise_in hr _)
set_option maxRecDepth 100000 in
set_option maxHeartbeats 4000000 in
theorem daysFrom_any (b : Br) (A : Option Addr) (c : Nat) (bs : List Bn)  (w : World) (hA : BinsAt w A bs) (hl : bs.length ≤ 1000) (k : Nat) (x : Bn) (hx : bs[k]? = some x) (l m : Nat) (hlo : x.lo = l) (hhi : x.hi = m) (hl6 : l < 6) (hh6 : m < 6) (g : Int) (hg0 : 0 ≤ g) (hg1 : g ≤ 60) (hm0 : 0 ≤ x.mark) (hm1 : x.mark ≤ 60) (hr : b.rise m = 0 ∨ (6 ≤ b.rise m ∧ b.rise m ≤ 20)) :
  Calls Tryz.prog 46 #[.agg #[.int .i64 b.cool, .int .i64 b.gangs, .int .i64 b.r0, .int .i64 b.r1, .int .i64 b.r2, .int .i64 b.r3, .int .i64 b.r4, .int .i64 b.r5, .slice A bs.length c], .int .i64 (k : Int), .int .i64 g] w fun e w' => e = .returned (.int .i64 (daysOf (b.rise m) g x.mark)) ∧ Below w.heap.size w w' := by
 by_cases h0 : b.rise m = 0
 ·unfold daysOf; rw [if_pos h0]; exact daysFrom_never b A c bs w hA hl k x hx l m hlo hhi hl6 hh6 g h0
 ·unfold daysOf; rw [if_neg h0]; exact daysFrom_days b A c bs w hA hl k x hx l m hlo hhi hl6 hh6 g hg0 hg1 hm0 hm1 (by omega) (by omega)
set_option maxRecDepth 100000 in
set_option maxHeartbeats 4000000 in
theorem lasts_any (b : Br) (A : Option Addr) (c : Nat) (bs : List Bn)  (w : World) (hA : BinsAt w A bs) (hl : bs.length ≤ 1000) (hE : barnErr b bs = 0) (k : Nat) (x : Bn) (hx : bs[k]? = some x) :
  Calls Tryz.prog 25 #[.agg #[.int .i64 b.cool, .int .i64 b.gangs, .int .i64 b.r0, .int .i64 b.r1, .int .i64 b.r2, .int .i64 b.r3, .int .i64 b.r4, .int .i64 b.r5, .slice A bs.length c], .int .i64 (k : Int)] w fun e w' => e = .returned (.int .i64 (daysOf (b.rise x.hi) b.cool x.mark)) ∧ Below w.heap.size w w' := by
 obtain ⟨l, m, hlo, hhi, hl6, hm6, hm0, hm1, hw0, hw1, hc0, hc1, hr⟩ := good_bin hE hx
 rw [hhi]
 have HA := Lib.hid hA
 have HX := Lib.hid hx
 have HLO := Lib.hid hlo
 have HHI := Lib.hid hhi
 have HR := Lib.hid hr
 obtain ⟨D, hD⟩ : ∃ z, daysOf (b.rise m) b.cool x.mark = z := ⟨_, rfl⟩
 rw [hD]
 have HD := Lib.hid hD
 clear hA hx hlo hhi hr hD hE
 go_enter Tryz.func25, Tryz.ntmps25
 go_wp2_with (go_at_call 46; refine (daysFrom_any b A c bs _ (HA.out.up zg) hl k x HX.out l m HLO.out HHI.out hl6 hm6 b.cool hc0 hc1 hm0 hm1 HR.out).mono ?_; rw [HD.out]; rintro e w2 ⟨rfl, hb2⟩)
 go_ret
 exact ⟨rfl, Below.trans zg (hb2.mono (by simp))⟩
set_option maxRecDepth 100000 in
set_option maxHeartbeats 4000000 in
theorem left_any (b : Br) (A : Option Addr) (c : Nat) (bs : List Bn)  (w : World) (hA : BinsAt w A bs) (hl : bs.length ≤ 1000) (hE : barnErr b bs = 0) (k : Nat) (x : Bn) (hx : bs[k]? = some x) :
  Calls Tryz.prog 24 #[.agg #[.int .i64 b.cool, .int .i64 b.gangs, .int .i64 b.r0, .int .i64 b.r1, .int .i64 b.r2, .int .i64 b.r3, .int .i64 b.r4, .int .i64 b.r5, .slice A bs.length c], .int .i64 (k : Int)] w fun e w' => e = .returned (.int .i64 (daysOf (b.rise x.hi) x.warm x.mark)) ∧ Below w.heap.size w w' := by
 obtain ⟨l, m, hlo, hhi, hl6, hm6, hm0, hm1, hw0, hw1, hc0, hc1, hr⟩ := good_bin hE hx
 rw [hhi]
 have HA := Lib.hid hA
 have HX := Lib.hid hx
 have HLO := Lib.hid hlo
 have HHI := Lib.hid hhi
 have HR := Lib.hid hr
 obtain ⟨D, hD⟩ : ∃ z, daysOf (b.rise m) x.warm x.mark = z := ⟨_, rfl⟩
 rw [hD]
 have HD := Lib.hid hD
 have hw60 : x.warm ≤ 60 := by omega
 obtain ⟨E0, oo, rfl, hcell⟩ := hA (by have := (List.getElem?_eq_some_iff.1 hx).1; omega)
 have hk : k < bs.length := (List.getElem?_eq_some_iff.1 hx).1
 have hk' : (k : Int) < bs.length := by omega
 have ke0 : w.cell? ⟨E0, oo + k * 4, none⟩ = some (.int .i64 x.warm) := hcell k x hx 0 _ rfl
 have lE : E0 < w.heap.size := World.block_lt_of_cell? w _ ke0
 have KE := Lib.hid ke0
 clear hcell hA hx hlo hhi hr hD hE
 go_enter Tryz.func24, Tryz.ntmps24
 go_wp2_with fail
 rename_i Kc hKc
 have HSL := Lib.hid (show slotsOf [some 5, some 6, some 7, some 8, some 9, some 10, some 11, some 12, some 13, some 4] = [5, 6, 7, 8, 9, 10, 11, 12, 13, 4] from rfl)
 refine wp_region_partsG (by kernel_rfl) [some 5, some 6, some 7, some 8, some 9, some 10, some 11, some 12, some 13, some 4] (fun jq xq w' => match jq with
  | 0 => xq 5 = .agg #[.int .i64 b.cool, .int .i64 b.gangs, .int .i64 b.r0, .int .i64 b.r1, .int .i64 b.r2, .int .i64 b.r3, .int .i64 b.r4, .int .i64 b.r5, .slice (some ⟨E0, oo, none⟩) bs.length c]
  | 1 => xq 6 = .int .i64 (k : Int)
  | 2 => xq 7 = .pointer (some ⟨w.heap.size, 8, none⟩)
  | 3 => xq 8 = .slice (some ⟨E0, oo, none⟩) bs.length c
  | 4 => xq 9 = .int .i64 (k : Int)
  | 5 => xq 10 = .pointer (some ⟨E0, oo + k * 4, none⟩)
  | 6 => xq 11 = .pointer (some ⟨E0, oo + k * 4, none⟩)
  | 7 => xq 12 = .int .i64 x.warm
  | 8 => xq 13 = .int .i64 D
  | 9 => xq 4 = .int .i64 D
  | _ => True) [[5], [6], [7], [8], [9], [10], [11], [12], [13], [4]] [] (fun w' => Below w.heap.size w w' ∧ Holds w' w.heap.size 26 #[.int .i64 b.cool, .int .i64 b.gangs, .int .i64 b.r0, .int .i64 b.r1, .int .i64 b.r2, .int .i64 b.r3, .int .i64 b.r4, .int .i64 b.r5, .slice (some ⟨E0, oo, none⟩) bs.length c]) (by kernel_rfl)  ?_ ?_ (fun w' w'' hb g => ⟨g.1.trans (hb.mono g.1.size), g.2.up hb⟩) (⟨zg, by (repeat first | (with_reducible first | assumption | apply Holds.set4 | apply Holds.set2 | apply Holds.putL | ((refine Holds.new' _ _ ?_); (simp; done)) | refine Holds.alloc ?_ _ | refine Holds.drew ?_ | refine Holds.far ?_ (by simp only [ne_eq]; omega) _) | rfl)⟩) ?_ ?_ ?_
 ·intro jq xq xq' wqq h hv
  match jq, h, hv with
  | 0, h, hv => show xq' 5 = .agg #[.int .i64 b.cool, .int .i64 b.gangs, .int .i64 b.r0, .int .i64 b.r1, .int .i64 b.r2, .int .i64 b.r3, .int .i64 b.r4, .int .i64 b.r5, .slice (some ⟨E0, oo, none⟩) bs.length c]; rw [← h 5 (by decide)]; exact hv
  | 1, h, hv => show xq' 6 = .int .i64 (k : Int); rw [← h 6 (by decide)]; exact hv
  | 2, h, hv => show xq' 7 = .pointer (some ⟨w.heap.size, 8, none⟩); rw [← h 7 (by decide)]; exact hv
  | 3, h, hv => show xq' 8 = .slice (some ⟨E0, oo, none⟩) bs.length c; rw [← h 8 (by decide)]; exact hv
  | 4, h, hv => show xq' 9 = .int .i64 (k : Int); rw [← h 9 (by decide)]; exact hv
  | 5, h, hv => show xq' 10 = .pointer (some ⟨E0, oo + k * 4, none⟩); rw [← h 10 (by decide)]; exact hv
  | 6, h, hv => show xq' 11 = .pointer (some ⟨E0, oo + k * 4, none⟩); rw [← h 11 (by decide)]; exact hv
  | 7, h, hv => show xq' 12 = .int .i64 x.warm; rw [← h 12 (by decide)]; exact hv
  | 8, h, hv => show xq' 13 = .int .i64 D; rw [← h 13 (by decide)]; exact hv
  | 9, h, hv => show xq' 4 = .int .i64 D; rw [← h 4 (by decide)]; exact hv
  | _ + 10, _, _ => trivial
 ·intro jq xq wqq w' hb' hv
  match jq, hv with
  | 0, hv => exact hv
  | 1, hv => exact hv
  | 2, hv => exact hv
  | 3, hv => exact hv
  | 4, hv => exact hv
  | 5, hv => exact hv
  | 6, hv => exact hv
  | 7, hv => exact hv
  | 8, hv => exact hv
  | 9, hv => exact hv
  | _ + 10, _ => trivial
 ·intro jq hj
  match jq, hj with
  | 0, hj => exact absurd hj (by decide)
  | 1, hj => exact absurd hj (by decide)
  | 2, hj => exact absurd hj (by decide)
  | 3, hj => exact absurd hj (by decide)
  | 4, hj => exact absurd hj (by decide)
  | 5, hj => exact absurd hj (by decide)
  | 6, hj => exact absurd hj (by decide)
  | 7, hj => exact absurd hj (by decide)
  | 8, hj => exact absurd hj (by decide)
  | 9, hj => exact absurd hj (by decide)
  | _ + 10, _ => trivial
 ·refine ⟨?_, ?_, ?_, ?_, ?_, ?_, ?_, ?_, ?_, ?_, trivial⟩
  ·intro xq w1 hb1 hx K hK0
   have hK := fun v w' hb => hK0 v w' (.inl hb)
   clear hx hKc hK0
   have kk0 : w1.cell? ⟨w.heap.size, 0, none⟩ = some (.int .i64 b.cool) := hb1.2.cell 0
   have kk1 : w1.cell? ⟨w.heap.size, 1, none⟩ = some (.int .i64 b.gangs) := hb1.2.cell 1
   have kk2 : w1.cell? ⟨w.heap.size, 2, none⟩ = some (.int .i64 b.r0) := hb1.2.cell 2
   have kk3 : w1.cell? ⟨w.heap.size, 3, none⟩ = some (.int .i64 b.r1) := hb1.2.cell 3
   have kk4 : w1.cell? ⟨w.heap.size, 4, none⟩ = some (.int .i64 b.r2) := hb1.2.cell 4
   have kk5 : w1.cell? ⟨w.heap.size, 5, none⟩ = some (.int .i64 b.r3) := hb1.2.cell 5
   have kk6 : w1.cell? ⟨w.heap.size, 6, none⟩ = some (.int .i64 b.r4) := hb1.2.cell 6
   have kk7 : w1.cell? ⟨w.heap.size, 7, none⟩ = some (.int .i64 b.r5) := hb1.2.cell 7
   have kk8 : w1.cell? ⟨w.heap.size, 8, none⟩ = some (.slice (some ⟨E0, oo, none⟩) bs.length c) := hb1.2.cell 8
   simp only [frameOf, fill, setSlot, sg, Nat.reduceBEq, if_true, if_false, Nat.reduceAdd, Nat.reduceEqDiff, HSL.out] at hK ⊢
   go_wp2_with (fail)
   exact hK _ _ (Below.refl _ _) rfl
  ·intro xq w1 hb1 hx K hK0
   have hK := fun v w' hb => hK0 v w' (.inl hb)
   clear hx hKc hK0
   simp only [frameOf, fill, setSlot, sg, Nat.reduceBEq, if_true, if_false, Nat.reduceAdd, Nat.reduceEqDiff, HSL.out] at hK ⊢
   go_wp2_with (fail)
   exact hK _ _ (Below.refl _ _) rfl
  ·intro xq w1 hb1 hx K hK0
   have hK := fun v w' hb => hK0 v w' (.inl hb)
   clear hx hKc hK0
   simp only [frameOf, fill, setSlot, sg, Nat.reduceBEq, if_true, if_false, Nat.reduceAdd, Nat.reduceEqDiff, HSL.out] at hK ⊢
   go_wp2_with (fail)
   exact hK _ _ (Below.refl _ _) rfl
  ·intro xq w1 hb1 hx K hK0
   have hK := fun v w' hb => hK0 v w' (.inl hb)
   have e7 : xq 7 = .pointer (some ⟨w.heap.size, 8, none⟩) := hx 2 (by rfl) (by rfl)
   clear hx hKc hK0
   have kk8 : w1.cell? ⟨w.heap.size, 8, none⟩ = some (.slice (some ⟨E0, oo, none⟩) bs.length c) := hb1.2.cell 8
   simp only [frameOf, fill, setSlot, sg, Nat.reduceBEq, if_true, if_false, Nat.reduceAdd, Nat.reduceEqDiff, HSL.out] at hK ⊢
   simp only [e7] at hK ⊢
   clear e7
   go_wp2_with (fail)
   exact hK _ _ (Below.refl _ _) rfl
  ·intro xq w1 hb1 hx K hK0
   have hK := fun v w' hb => hK0 v w' (.inl hb)
   clear hx hKc hK0
   simp only [frameOf, fill, setSlot, sg, Nat.reduceBEq, if_true, if_false, Nat.reduceAdd, Nat.reduceEqDiff, HSL.out] at hK ⊢
   go_wp2_with (fail)
   exact hK _ _ (Below.refl _ _) rfl
  ·intro xq w1 hb1 hx K hK0
   have hK := fun v w' hb => hK0 v w' (.inl hb)
   have e8 : xq 8 = .slice (some ⟨E0, oo, none⟩) bs.length c := hx 3 (by rfl) (by rfl)
   have e9 : xq 9 = .int .i64 (k : Int) := hx 4 (by rfl) (by rfl)
   clear hx hKc hK0
   simp only [frameOf, fill, setSlot, sg, Nat.reduceBEq, if_true, if_false, Nat.reduceAdd, Nat.reduceEqDiff, HSL.out] at hK ⊢
   simp only [e8, e9] at hK ⊢
   clear e8 e9
   go_wp2_with (fail)
   exact hK _ _ (Below.refl _ _) rfl
  ·intro xq w1 hb1 hx K hK0
   have hK := fun v w' hb => hK0 v w' (.inl hb)
   have e10 : xq 10 = .pointer (some ⟨E0, oo + k * 4, none⟩) := hx 5 (by rfl) (by rfl)
   clear hx hKc hK0
   simp only [frameOf, fill, setSlot, sg, Nat.reduceBEq, if_true, if_false, Nat.reduceAdd, Nat.reduceEqDiff, HSL.out] at hK ⊢
   simp only [e10] at hK ⊢
   clear e10
   go_wp2_with (fail)
   exact hK _ _ (Below.refl _ _) rfl
  ·intro xq w1 hb1 hx K hK0
   have hK := fun v w' hb => hK0 v w' (.inl hb)
   have e11 : xq 11 = .pointer (some ⟨E0, oo + k * 4, none⟩) := hx 6 (by rfl) (by rfl)
   clear hx hKc hK0
   have ke' := up_cell hb1.1 KE.out
   simp only [frameOf, fill, setSlot, sg, Nat.reduceBEq, if_true, if_false, Nat.reduceAdd, Nat.reduceEqDiff, HSL.out] at hK ⊢
   simp only [e11] at hK ⊢
   clear e11
   go_wp2_with (fail)
   exact hK _ _ (Below.refl _ _) rfl
  ·intro xq w1 hb1 hx K hK0
   have hK := fun v w' hb => hK0 v w' (.inl hb)
   have e5 : xq 5 = .agg #[.int .i64 b.cool, .int .i64 b.gangs, .int .i64 b.r0, .int .i64 b.r1, .int .i64 b.r2, .int .i64 b.r3, .int .i64 b.r4, .int .i64 b.r5, .slice (some ⟨E0, oo, none⟩) bs.length c] := hx 0 (by rfl) (by rfl)
   have e6 : xq 6 = .int .i64 (k : Int) := hx 1 (by rfl) (by rfl)
   have e12 : xq 12 = .int .i64 x.warm := hx 7 (by rfl) (by rfl)
   clear hx hKc hK0
   simp only [frameOf, fill, setSlot, sg, Nat.reduceBEq, if_true, if_false, Nat.reduceAdd, Nat.reduceEqDiff, HSL.out] at hK ⊢
   simp only [e5, e6, e12] at hK ⊢
   clear e5 e6 e12
   go_wp2_with (go_at_call 46; refine (daysFrom_any b (some ⟨E0, oo, none⟩) c bs _ (HA.out.up (hb1.1)) hl k x HX.out l m HLO.out HHI.out hl6 hm6 x.warm hw0 hw60 hm0 hm1 HR.out).mono ?_; rw [HD.out]; rintro e w2_ ⟨rfl, hb_⟩)
   exact hK _ _ hb_ rfl
  ·intro xq w1 hb1 hx K hK0
   have hK := fun v w' hb => hK0 v w' (.inl hb)
   have e13 : xq 13 = .int .i64 D := hx 8 (by rfl) (by rfl)
   clear hx hKc hK0
   simp only [frameOf, fill, setSlot, sg, Nat.reduceBEq, if_true, if_false, Nat.reduceAdd, Nat.reduceEqDiff, HSL.out] at hK ⊢
   simp only [e13] at hK ⊢
   clear e13
   go_wp2_with (fail)
   exact hK _ _ (Below.refl _ _) rfl
 ·intro xq w1 hb1 hx
  have e5 : xq 5 = .agg #[.int .i64 b.cool, .int .i64 b.gangs, .int .i64 b.r0, .int .i64 b.r1, .int .i64 b.r2, .int .i64 b.r3, .int .i64 b.r4, .int .i64 b.r5, .slice (some ⟨E0, oo, none⟩) bs.length c] := hx 0 (by decide)
  have e6 : xq 6 = .int .i64 (k : Int) := hx 1 (by decide)
  have e7 : xq 7 = .pointer (some ⟨w.heap.size, 8, none⟩) := hx 2 (by decide)
  have e8 : xq 8 = .slice (some ⟨E0, oo, none⟩) bs.length c := hx 3 (by decide)
  have e9 : xq 9 = .int .i64 (k : Int) := hx 4 (by decide)
  have e10 : xq 10 = .pointer (some ⟨E0, oo + k * 4, none⟩) := hx 5 (by decide)
  have e11 : xq 11 = .pointer (some ⟨E0, oo + k * 4, none⟩) := hx 6 (by decide)
  have e12 : xq 12 = .int .i64 x.warm := hx 7 (by decide)
  have e13 : xq 13 = .int .i64 D := hx 8 (by decide)
  have e4 : xq 4 = .int .i64 D := hx 9 (by decide)
  clear hx
  simp only [frameOf, fill, setSlot, sg, Nat.reduceBEq, if_true, if_false, Nat.reduceAdd, Nat.reduceEqDiff, HSL.out]
  simp only [e5, e6, e7, e8, e9, e10, e11, e12, e13, e4]
  clear e5 e6 e7 e8 e9 e10 e11 e12 e13 e4
  refine hKc _ _ ?_
  go_wp2_with fail
  go_ret
  exact ⟨rfl, hb1.1⟩
end Go.Proofs.YtokafjkinkafiaaGreat
