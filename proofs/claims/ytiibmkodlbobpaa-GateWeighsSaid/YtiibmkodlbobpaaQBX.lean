
import Derived.Test.YtiibmkodlbobpaaQAA
import Derived.Test.YtiibmkodlbobpaaQAC
import Derived.Test.YtiibmkodlbobpaaQBW
set_option linter.unusedSimpArgs false
set_option linter.unusedVariables false
namespace Go.Proofs.Ytiibmkodlbobpaa
open Go.RowKit
def WgRel (w5 : World) (lo hi : Int) (B : Bx) (v13 v14 v56 : Value) (wr : World) : Prop :=
 ∃ (k : Nat) (least most : Int), v13 = .int .i64 least ∧ v14 = .int .i64 most ∧ v56 = .int .i64 (k : Int) ∧ k ≤ 4 ∧ Hid (least = wsum lo (bxl B) k) ∧ Hid (most = wsum hi (bxh B) k) ∧ (0 ≤ least ∧ least ≤ 20500 * k) ∧ (0 ≤ most ∧ most ≤ 20500 * k) ∧ Below w5.heap.size w5 wr
set_option maxRecDepth 100000 in
set_option maxHeartbeats 16000000 in
theorem GateWeighs_any (a0 : Option Addr) (len0 cap0 : Nat) (z0 : List Int) (a1 a2 : Int) (w : World) (w0 : (a0 = none ∧ len0 = 0 ∧ cap0 = 0 ∧ z0 = []) ∨ ∃ x, a0 = some x ∧ len0 ≤ cap0 ∧ cap0 ≤ maxLen ∧ z0.length = cap0 ∧ (∀ i, i < z0.length → w.cell? (x.add i) = some (.int .u8 (z0.getD i 0))) ∧ ∀ n ∈ z0, (Lit.int .u8 n).wf = true)
  (w1_ : (Lit.int .u8 a1).wf = true) (w2_ : (Lit.int .u8 a2).wf = true) :
  Calls Try.prog 14 #[.slice a0 len0 cap0, .int .u8 a1, .int .u8 a2] w fun e w' => e = .returned (.bool true) ∧ Below w.heap.size w w' := by
 obtain ⟨hB0, hn⟩ := bytes_of w0
 obtain ⟨a10, a11⟩ := u8_in w1_
 obtain ⟨a20, a21⟩ := u8_in w2_
 have HB0 := Lib.hid hB0
 clear hB0 w0 w1_ w2_
 go_enter Try.func14, Try.ntmps14
 go_wp2_with fail
 refine (Fill_any a0 len0 cap0 _ hn).mono ?_
 rintro e w1 ⟨m, rfl, hS1, hb1⟩
 have HS1 := Lib.hid hS1
 have HB1 := Lib.hid hb1
 have hlw := hS1.lt
 clear hS1 hb1
 go_wp2_with fail
 refine (Made_any w.heap.size a0 len0 cap0 0 m 1 6 (by decide) (by decide) (by decide) (by decide) w1 HS1.out (HB0.out.up HB1.out) hn (by decide)).mono ?_
 rintro e w2 ⟨err, miss, full, emp, m0, m1, m2, m3, gs, hs, G, H, d, q, tk1, mm, rfl, hok, hgl, hhl, hog, hoh, -, -, hg2⟩
 have HB2 := Lib.hid (HB1.out.grown hg2 (by omega) (fun k hk => by cases hk; exact Nat.le_refl _))
 obtain ⟨_, _, e1, _, hG⟩ := hog.at_
 cases e1
 obtain ⟨_, _, e1, _, hH⟩ := hoh.at_
 cases e1
 have HG := Lib.hid hG
 have HH := Lib.hid hH
 have HOK := Lib.hid hok
 clear hok hog hoh hg2 hG hH HS1 HB1
 have hgl' : gs.length ≤ 1000 := by omega
 have hhl' : hs.length ≤ 1000 := by omega
 have HE := Lib.hid (HOK.out.both (by omega) (by omega))
 obtain ⟨e0, e1, i0, i1, y0, y1, f0, f1, _, _, _⟩ := HOK.out
 have hz2 := HB2.out.size
 go_wp2_with fail
 refine (Net_ok err miss full emp G H d q gs hs _ (HG.out.up (by (repeat' (first | (with_reducible first | exact Below.refl _ _ | assumption | refine Below.alloc ?_ ?_ _ | refine Below.drew ?_ | refine Below.setCell ?_ ?_ _ | exact Nat.le_refl _) | omega | (simp only [World.size_alloc, World.size_setCell, World.size_drew]; omega) | (simp; omega) | (simp; done))))) hgl' (HH.out.up (by (repeat' (first | (with_reducible first | exact Below.refl _ _ | assumption | refine Below.alloc ?_ ?_ _ | refine Below.drew ?_ | refine Below.setCell ?_ ?_ _ | exact Nat.le_refl _) | omega | (simp only [World.size_alloc, World.size_setCell, World.size_drew]; omega) | (simp; omega) | (simp; done))))) hhl' HE.out).mono ?_
 rintro e w3 ⟨rfl, hb3⟩
 obtain ⟨lo, hlo⟩ : ∃ q, q = max 0 (full - emp - 2 * err) := ⟨_, rfl⟩
 obtain ⟨hi, hhi⟩ : ∃ q, q = max 0 (full - emp + 2 * err) := ⟨_, rfl⟩
 rw [← hlo, ← hhi]
 have Hg3 := Lib.hid (Holds.up (by (repeat first | (with_reducible first | assumption | apply Holds.set3 | apply Holds.set4 | apply Holds.putL | ((refine Holds.new' _ _ ?_); (simp; done)) | refine Holds.alloc ?_ _ | refine Holds.drew ?_ | refine Holds.far ?_ (by simp only [ne_eq]; omega) _) | rfl) : Holds _ (w2.heap.size) 24 #[.int .i64 err, .int .i64 miss, .slice G gs.length d]) hb3)
 have Hc3 := Lib.hid (Holds.up (by (repeat first | (with_reducible first | assumption | apply Holds.set3 | apply Holds.set4 | apply Holds.putL | ((refine Holds.new' _ _ ?_); (simp; done)) | refine Holds.alloc ?_ _ | refine Holds.drew ?_ | refine Holds.far ?_ (by simp only [ne_eq]; omega) _) | rfl) : Holds _ (w2.heap.size + 1) 27 #[.int .i64 full, .int .i64 emp, .slice H hs.length q]) hb3)
 have Hm3 := Lib.hid (Holds.up (by (repeat first | (with_reducible first | assumption | apply Holds.set3 | apply Holds.set4 | apply Holds.putL | ((refine Holds.new' _ _ ?_); (simp; done)) | refine Holds.alloc ?_ _ | refine Holds.drew ?_ | refine Holds.far ?_ (by simp only [ne_eq]; omega) _) | rfl) : Holds _ (w2.heap.size + 1 + 1) 28 #[.int .i64 m0, .int .i64 m1, .int .i64 m2, .int .i64 m3]) hb3)
 have HB3 : Hid (Below w2.heap.size w2 w3) := Lib.hid (Below.trans (by (repeat' (first | (with_reducible first | exact Below.refl _ _ | assumption | refine Below.alloc ?_ ?_ _ | refine Below.drew ?_ | refine Below.setCell ?_ ?_ _ | exact Nat.le_refl _) | omega | (simp only [World.size_alloc, World.size_setCell, World.size_drew]; omega) | (simp; omega) | (simp; done)))) (hb3.mono (by simp; omega)))
 have hz3 : w2.heap.size + 1 + 1 < w3.heap.size := Hm3.out.lt
 clear hb3
 obtain ⟨kg0, kg1, kg2⟩ := Hg3.out.c3
 obtain ⟨kc0, kc1, kc2⟩ := Hc3.out.c3
 obtain ⟨km0, km1, km2, km3⟩ := Hm3.out.c4
 obtain ⟨r1, hr1⟩ : ∃ q, q = a1 % (2 * err + 1) := ⟨_, rfl⟩
 obtain ⟨r2, hr2⟩ : ∃ q, q = a2 % (2 * err + 1) := ⟨_, rfl⟩
 have r10 : 0 ≤ r1 ∧ r1 ≤ 2 * err := by rw [hr1]; exact ⟨Int.emod_nonneg _ (by omega), by have := Int.emod_lt_of_pos a1 (show 0 < 2 * err + 1 by omega); omega⟩
 have r20 : 0 ≤ r2 ∧ r2 ≤ 2 * err := by rw [hr2]; exact ⟨Int.emod_nonneg _ (by omega), by have := Int.emod_lt_of_pos a2 (show 0 < 2 * err + 1 by omega); omega⟩
 obtain ⟨wg, hwg⟩ : ∃ q, q = max 0 (full - emp + r1 - r2) := ⟨_, rfl⟩
 have hwl : lo ≤ wg := by omega
 have hwh : wg ≤ hi := by omega
 have hlo0 : 0 ≤ lo := by omega
 have hhi1 : hi ≤ 20000 := by omega
 have HR1 := Lib.hid hr1
 have HR2 := Lib.hid hr2
 have HWG := Lib.hid hwg
 have HLO := Lib.hid hlo
 have HHI := Lib.hid hhi
 clear hr1 hr2 hwg hlo hhi
 go_wp2_with fail
 rename_i Kc hKc
 have HSL := Lib.hid (show slotsOf [some 34, some 35, some 36, some 37, some 38, some 39, some 40, some 41, some 42, some 43, some 44, some 45, some 46, some 47, some 48, some 49, some 50, some 51, some 52, some 53, some 54, some 55, some 12] = [34, 35, 36, 37, 38, 39, 40, 41, 42, 43, 44, 45, 46, 47, 48, 49, 50, 51, 52, 53, 54, 55, 12] from rfl)
 refine wp_region_partsG (by kernel_rfl) [some 34, some 35, some 36, some 37, some 38, some 39, some 40, some 41, some 42, some 43, some 44, some 45, some 46, some 47, some 48, some 49, some 50, some 51, some 52, some 53, some 54, some 55, some 12] (fun jq xq w' => match jq with
  | 0 => xq 34 = .pointer (some ⟨w2.heap.size + 1, 0, none⟩)
  | 1 => xq 35 = .int .i64 full
  | 2 => xq 36 = .pointer (some ⟨w2.heap.size + 1, 1, none⟩)
  | 3 => xq 37 = .int .i64 emp
  | 4 => xq 38 = .int .i64 (full - emp)
  | 5 => xq 39 = .int .u8 a1
  | 6 => xq 40 = .int .i64 a1
  | 7 => xq 41 = .pointer (some ⟨w2.heap.size, 0, none⟩)
  | 8 => xq 42 = .int .i64 err
  | 9 => xq 43 = .int .i64 (2 * err)
  | 10 => xq 44 = .int .i64 (2 * err + 1)
  | 11 => xq 45 = .int .i64 r1
  | 12 => xq 46 = .int .i64 (full - emp + r1)
  | 13 => xq 47 = .int .u8 a2
  | 14 => xq 48 = .int .i64 a2
  | 15 => xq 49 = .pointer (some ⟨w2.heap.size, 0, none⟩)
  | 16 => xq 50 = .int .i64 err
  | 17 => xq 51 = .int .i64 (2 * err)
  | 18 => xq 52 = .int .i64 (2 * err + 1)
  | 19 => xq 53 = .int .i64 r2
  | 20 => xq 54 = .int .i64 (full - emp + r1 - r2)
  | 21 => xq 55 = .int .i64 wg
  | 22 => xq 12 = .int .i64 wg
  | _ => True) [[34], [35], [36], [37], [38], [39], [40], [41], [42], [43], [44], [45], [46], [47], [48], [49], [50], [51], [52], [53], [54], [55], [12]] [] (fun w' => Below w3.heap.size w3 w' ∧ Holds w' w3.heap.size 60 #[.int .i64 lo, .int .i64 hi]) (by kernel_rfl) ?_ ?_ (fun w' w'' hb h => ⟨h.1.trans (hb.mono h.1.size), h.2.up hb⟩) (⟨by (repeat' (first | (with_reducible first | exact Below.refl _ _ | assumption | refine Below.alloc ?_ ?_ _ | refine Below.drew ?_ | refine Below.setCell ?_ ?_ _ | exact Nat.le_refl _) | omega | (simp only [World.size_alloc, World.size_setCell, World.size_drew]; omega) | (simp; omega) | (simp; done))), Holds.new _ _ _⟩) ?_ ?_ ?_
 ·intro jq xq xq' wq h hv
  match jq, h, hv with
  | 0, h, hv => show xq' 34 = .pointer (some ⟨w2.heap.size + 1, 0, none⟩); rw [← h 34 (by decide)]; exact hv
  | 1, h, hv => show xq' 35 = .int .i64 full; rw [← h 35 (by decide)]; exact hv
  | 2, h, hv => show xq' 36 = .pointer (some ⟨w2.heap.size + 1, 1, none⟩); rw [← h 36 (by decide)]; exact hv
  | 3, h, hv => show xq' 37 = .int .i64 emp; rw [← h 37 (by decide)]; exact hv
  | 4, h, hv => show xq' 38 = .int .i64 (full - emp); rw [← h 38 (by decide)]; exact hv
  | 5, h, hv => show xq' 39 = .int .u8 a1; rw [← h 39 (by decide)]; exact hv
  | 6, h, hv => show xq' 40 = .int .i64 a1; rw [← h 40 (by decide)]; exact hv
  | 7, h, hv => show xq' 41 = .pointer (some ⟨w2.heap.size, 0, none⟩); rw [← h 41 (by decide)]; exact hv
  | 8, h, hv => show xq' 42 = .int .i64 err; rw [← h 42 (by decide)]; exact hv
  | 9, h, hv => show xq' 43 = .int .i64 (2 * err); rw [← h 43 (by decide)]; exact hv
  | 10, h, hv => show xq' 44 = .int .i64 (2 * err + 1); rw [← h 44 (by decide)]; exact hv
  | 11, h, hv => show xq' 45 = .int .i64 r1; rw [← h 45 (by decide)]; exact hv
  | 12, h, hv => show xq' 46 = .int .i64 (full - emp + r1); rw [← h 46 (by decide)]; exact hv
  | 13, h, hv => show xq' 47 = .int .u8 a2; rw [← h 47 (by decide)]; exact hv
  | 14, h, hv => show xq' 48 = .int .i64 a2; rw [← h 48 (by decide)]; exact hv
  | 15, h, hv => show xq' 49 = .pointer (some ⟨w2.heap.size, 0, none⟩); rw [← h 49 (by decide)]; exact hv
  | 16, h, hv => show xq' 50 = .int .i64 err; rw [← h 50 (by decide)]; exact hv
  | 17, h, hv => show xq' 51 = .int .i64 (2 * err); rw [← h 51 (by decide)]; exact hv
  | 18, h, hv => show xq' 52 = .int .i64 (2 * err + 1); rw [← h 52 (by decide)]; exact hv
  | 19, h, hv => show xq' 53 = .int .i64 r2; rw [← h 53 (by decide)]; exact hv
  | 20, h, hv => show xq' 54 = .int .i64 (full - emp + r1 - r2); rw [← h 54 (by decide)]; exact hv
  | 21, h, hv => show xq' 55 = .int .i64 wg; rw [← h 55 (by decide)]; exact hv
  | 22, h, hv => show xq' 12 = .int .i64 wg; rw [← h 12 (by decide)]; exact hv
  | _ + 23, _, _ => trivial
 ·intro jq xq wq w' hb' hv
  match jq, hv with
  | 0, hv => exact hv
  | 1, hv => exact hv
  | 2, hv => exact hv
  | 3, hv => exact hv
  | 4, hv => exact hv
  | 5, hv => exact hv
  | 6, hv => exact hv
  | 7, hv => exact hv
  | 8, hv => exact hv
  | 9, hv => exact hv
  | 10, hv => exact hv
  | 11, hv => exact hv
  | 12, hv => exact hv
  | 13, hv => exact hv
  | 14, hv => exact hv
  | 15, hv => exact hv
  | 16, hv => exact hv
  | 17, hv => exact hv
  | 18, hv => exact hv
  | 19, hv => exact hv
  | 20, hv => exact hv
  | 21, hv => exact hv
  | 22, hv => exact hv
  | _ + 23, _ => trivial
 ·intro jq hj
  match jq, hj with
  | 0, hj => exact absurd hj (by decide)
  | 1, hj => exact absurd hj (by decide)
  | 2, hj => exact absurd hj (by decide)
  | 3, hj => exact absurd hj (by decide)
  | 4, hj => exact absurd hj (by decide)
  | 5, hj => exact absurd hj (by decide)
  | 6, hj => exact absurd hj (by decide)
  | 7, hj => exact absurd hj (by decide)
  | 8, hj => exact absurd hj (by decide)
  | 9, hj => exact absurd hj (by decide)
  | 10, hj => exact absurd hj (by decide)
  | 11, hj => exact absurd hj (by decide)
  | 12, hj => exact absurd hj (by decide)
  | 13, hj => exact absurd hj (by decide)
  | 14, hj => exact absurd hj (by decide)
  | 15, hj => exact absurd hj (by decide)
  | 16, hj => exact absurd hj (by decide)
  | 17, hj => exact absurd hj (by decide)
  | 18, hj => exact absurd hj (by decide)
  | 19, hj => exact absurd hj (by decide)
  | 20, hj => exact absurd hj (by decide)
  | 21, hj => exact absurd hj (by decide)
  | 22, hj => exact absurd hj (by decide)
  | _ + 23, _ => trivial
 ·refine ⟨?_, ?_, ?_, ?_, ?_, ?_, ?_, ?_, ?_, ?_, ?_, ?_, ?_, ?_, ?_, ?_, ?_, ?_, ?_, ?_, ?_, ?_, ?_, trivial⟩
  ·intro xq w5 hb5_ hx K hK0
   have hK := fun v w' hb => hK0 v w' (.inl hb)
   clear hx hKc hK0
   simp only [frameOf, fill, setSlot, sg, Nat.reduceBEq, if_true, if_false, Nat.reduceAdd, Nat.reduceEqDiff, HSL.out] at hK ⊢
   go_wp2_with (fail)
   exact hK _ _ (Below.refl _ _) rfl
  ·intro xq w5 hb5_ hx K hK0
   have hK := fun v w' hb => hK0 v w' (.inl hb)
   have e34 : xq 34 = .pointer (some ⟨w2.heap.size + 1, 0, none⟩) := hx 0 (by rfl) (by rfl)
   clear hx hKc hK0
   have hc_ := Hc3.out.low hb5_.1 (by omega)
   obtain ⟨kc0, kc1, kc2⟩ := hc_.c3
   clear hc_
   simp only [frameOf, fill, setSlot, sg, Nat.reduceBEq, if_true, if_false, Nat.reduceAdd, Nat.reduceEqDiff, HSL.out] at hK ⊢
   simp only [e34] at hK ⊢
   clear e34
   go_wp2_with (fail)
   exact hK _ _ (Below.refl _ _) rfl
  ·intro xq w5 hb5_ hx K hK0
   have hK := fun v w' hb => hK0 v w' (.inl hb)
   clear hx hKc hK0
   simp only [frameOf, fill, setSlot, sg, Nat.reduceBEq, if_true, if_false, Nat.reduceAdd, Nat.reduceEqDiff, HSL.out] at hK ⊢
   go_wp2_with (fail)
   exact hK _ _ (Below.refl _ _) rfl
  ·intro xq w5 hb5_ hx K hK0
   have hK := fun v w' hb => hK0 v w' (.inl hb)
   have e36 : xq 36 = .pointer (some ⟨w2.heap.size + 1, 1, none⟩) := hx 2 (by rfl) (by rfl)
   clear hx hKc hK0
   have hc_ := Hc3.out.low hb5_.1 (by omega)
   obtain ⟨kc0, kc1, kc2⟩ := hc_.c3
   clear hc_
   simp only [frameOf, fill, setSlot, sg, Nat.reduceBEq, if_true, if_false, Nat.reduceAdd, Nat.reduceEqDiff, HSL.out] at hK ⊢
   simp only [e36] at hK ⊢
   clear e36
   go_wp2_with (fail)
   exact hK _ _ (Below.refl _ _) rfl
  ·intro xq w5 hb5_ hx K hK0
   have hK := fun v w' hb => hK0 v w' (.inl hb)
   have e35 : xq 35 = .int .i64 full := hx 1 (by rfl) (by rfl)
   have e37 : xq 37 = .int .i64 emp := hx 3 (by rfl) (by rfl)
   clear hx hKc hK0
   simp only [frameOf, fill, setSlot, sg, Nat.reduceBEq, if_true, if_false, Nat.reduceAdd, Nat.reduceEqDiff, HSL.out] at hK ⊢
   simp only [e35, e37] at hK ⊢
   clear e35 e37
   go_wp2_with (fail)
   exact hK _ _ (Below.refl _ _) rfl
  ·intro xq w5 hb5_ hx K hK0
   have hK := fun v w' hb => hK0 v w' (.inl hb)
   clear hx hKc hK0
   simp only [frameOf, fill, setSlot, sg, Nat.reduceBEq, if_true, if_false, Nat.reduceAdd, Nat.reduceEqDiff, HSL.out] at hK ⊢
   go_wp2_with (fail)
   exact hK _ _ (Below.refl _ _) rfl
  ·intro xq w5 hb5_ hx K hK0
   have hK := fun v w' hb => hK0 v w' (.inl hb)
   have e39 : xq 39 = .int .u8 a1 := hx 5 (by rfl) (by rfl)
   clear hx hKc hK0
   simp only [frameOf, fill, setSlot, sg, Nat.reduceBEq, if_true, if_false, Nat.reduceAdd, Nat.reduceEqDiff, HSL.out] at hK ⊢
   simp only [e39] at hK ⊢
   clear e39
   go_wp2_with (fail)
   exact hK _ _ (Below.refl _ _) rfl
  ·intro xq w5 hb5_ hx K hK0
   have hK := fun v w' hb => hK0 v w' (.inl hb)
   clear hx hKc hK0
   simp only [frameOf, fill, setSlot, sg, Nat.reduceBEq, if_true, if_false, Nat.reduceAdd, Nat.reduceEqDiff, HSL.out] at hK ⊢
   go_wp2_with (fail)
   exact hK _ _ (Below.refl _ _) rfl
  ·intro xq w5 hb5_ hx K hK0
   have hK := fun v w' hb => hK0 v w' (.inl hb)
   have e41 : xq 41 = .pointer (some ⟨w2.heap.size, 0, none⟩) := hx 7 (by rfl) (by rfl)
   clear hx hKc hK0
   have hg_ := Hg3.out.low hb5_.1 (by omega)
   obtain ⟨kg0, kg1, kg2⟩ := hg_.c3
   clear hg_
   simp only [frameOf, fill, setSlot, sg, Nat.reduceBEq, if_true, if_false, Nat.reduceAdd, Nat.reduceEqDiff, HSL.out] at hK ⊢
   simp only [e41] at hK ⊢
   clear e41
   go_wp2_with (fail)
   exact hK _ _ (Below.refl _ _) rfl
  ·intro xq w5 hb5_ hx K hK0
   have hK := fun v w' hb => hK0 v w' (.inl hb)
   have e42 : xq 42 = .int .i64 err := hx 8 (by rfl) (by rfl)
   clear hx hKc hK0
   simp only [frameOf, fill, setSlot, sg, Nat.reduceBEq, if_true, if_false, Nat.reduceAdd, Nat.reduceEqDiff, HSL.out] at hK ⊢
   simp only [e42] at hK ⊢
   clear e42
   go_wp2_with (fail)
   exact hK _ _ (Below.refl _ _) rfl
  ·intro xq w5 hb5_ hx K hK0
   have hK := fun v w' hb => hK0 v w' (.inl hb)
   have e43 : xq 43 = .int .i64 (2 * err) := hx 9 (by rfl) (by rfl)
   clear hx hKc hK0
   simp only [frameOf, fill, setSlot, sg, Nat.reduceBEq, if_true, if_false, Nat.reduceAdd, Nat.reduceEqDiff, HSL.out] at hK ⊢
   simp only [e43] at hK ⊢
   clear e43
   go_wp2_with (fail)
   exact hK _ _ (Below.refl _ _) rfl
  ·intro xq w5 hb5_ hx K hK0
   have hK := fun v w' hb => hK0 v w' (.inl hb)
   have e40 : xq 40 = .int .i64 a1 := hx 6 (by rfl) (by rfl)
   have e44 : xq 44 = .int .i64 (2 * err + 1) := hx 10 (by rfl) (by rfl)
   clear hx hKc hK0
   simp only [frameOf, fill, setSlot, sg, Nat.reduceBEq, if_true, if_false, Nat.reduceAdd, Nat.reduceEqDiff, HSL.out] at hK ⊢
   simp only [e40, e44] at hK ⊢
   clear e40 e44
   go_wp2_with (fail)
   exact hK _ _ (Below.refl _ _) (by rw [HR1.out])
  ·intro xq w5 hb5_ hx K hK0
   have hK := fun v w' hb => hK0 v w' (.inl hb)
   have e38 : xq 38 = .int .i64 (full - emp) := hx 4 (by rfl) (by rfl)
   have e45 : xq 45 = .int .i64 r1 := hx 11 (by rfl) (by rfl)
   clear hx hKc hK0
   simp only [frameOf, fill, setSlot, sg, Nat.reduceBEq, if_true, if_false, Nat.reduceAdd, Nat.reduceEqDiff, HSL.out] at hK ⊢
   simp only [e38, e45] at hK ⊢
   clear e38 e45
   go_wp2_with (fail)
   exact hK _ _ (Below.refl _ _) rfl
  ·intro xq w5 hb5_ hx K hK0
   have hK := fun v w' hb => hK0 v w' (.inl hb)
   clear hx hKc hK0
   simp only [frameOf, fill, setSlot, sg, Nat.reduceBEq, if_true, if_false, Nat.reduceAdd, Nat.reduceEqDiff, HSL.out] at hK ⊢
   go_wp2_with (fail)
   exact hK _ _ (Below.refl _ _) rfl
  ·intro xq w5 hb5_ hx K hK0
   have hK := fun v w' hb => hK0 v w' (.inl hb)
   have e47 : xq 47 = .int .u8 a2 := hx 13 (by rfl) (by rfl)
   clear hx hKc hK0
   simp only [frameOf, fill, setSlot, sg, Nat.reduceBEq, if_true, if_false, Nat.reduceAdd, Nat.reduceEqDiff, HSL.out] at hK ⊢
   simp only [e47] at hK ⊢
   clear e47
   go_wp2_with (fail)
   exact hK _ _ (Below.refl _ _) rfl
  ·intro xq w5 hb5_ hx K hK0
   have hK := fun v w' hb => hK0 v w' (.inl hb)
   clear hx hKc hK0
   simp only [frameOf, fill, setSlot, sg, Nat.reduceBEq, if_true, if_false, Nat.reduceAdd, Nat.reduceEqDiff, HSL.out] at hK ⊢
   go_wp2_with (fail)
   exact hK _ _ (Below.refl _ _) rfl
  ·intro xq w5 hb5_ hx K hK0
   have hK := fun v w' hb => hK0 v w' (.inl hb)
   have e49 : xq 49 = .pointer (some ⟨w2.heap.size, 0, none⟩) := hx 15 (by rfl) (by rfl)
   clear hx hKc hK0
   have hg_ := Hg3.out.low hb5_.1 (by omega)
   obtain ⟨kg0, kg1, kg2⟩ := hg_.c3
   clear hg_
   simp only [frameOf, fill, setSlot, sg, Nat.reduceBEq, if_true, if_false, Nat.reduceAdd, Nat.reduceEqDiff, HSL.out] at hK ⊢
   simp only [e49] at hK ⊢
   clear e49
   go_wp2_with (fail)
   exact hK _ _ (Below.refl _ _) rfl
  ·intro xq w5 hb5_ hx K hK0
   have hK := fun v w' hb => hK0 v w' (.inl hb)
   have e50 : xq 50 = .int .i64 err := hx 16 (by rfl) (by rfl)
   clear hx hKc hK0
   simp only [frameOf, fill, setSlot, sg, Nat.reduceBEq, if_true, if_false, Nat.reduceAdd, Nat.reduceEqDiff, HSL.out] at hK ⊢
   simp only [e50] at hK ⊢
   clear e50
   go_wp2_with (fail)
   exact hK _ _ (Below.refl _ _) rfl
  ·intro xq w5 hb5_ hx K hK0
   have hK := fun v w' hb => hK0 v w' (.inl hb)
   have e51 : xq 51 = .int .i64 (2 * err) := hx 17 (by rfl) (by rfl)
   clear hx hKc hK0
   simp only [frameOf, fill, setSlot, sg, Nat.reduceBEq, if_true, if_false, Nat.reduceAdd, Nat.reduceEqDiff, HSL.out] at hK ⊢
   simp only [e51] at hK ⊢
   clear e51
   go_wp2_with (fail)
   exact hK _ _ (Below.refl _ _) rfl
  ·intro xq w5 hb5_ hx K hK0
   have hK := fun v w' hb => hK0 v w' (.inl hb)
   have e48 : xq 48 = .int .i64 a2 := hx 14 (by rfl) (by rfl)
   have e52 : xq 52 = .int .i64 (2 * err + 1) := hx 18 (by rfl) (by rfl)
   clear hx hKc hK0
   simp only [frameOf, fill, setSlot, sg, Nat.reduceBEq, if_true, if_false, Nat.reduceAdd, Nat.reduceEqDiff, HSL.out] at hK ⊢
   simp only [e48, e52] at hK ⊢
   clear e48 e52
   go_wp2_with (fail)
   exact hK _ _ (Below.refl _ _) (by rw [HR2.out])
  ·intro xq w5 hb5_ hx K hK0
   have hK := fun v w' hb => hK0 v w' (.inl hb)
   have e46 : xq 46 = .int .i64 (full - emp + r1) := hx 12 (by rfl) (by rfl)
   have e53 : xq 53 = .int .i64 r2 := hx 19 (by rfl) (by rfl)
   clear hx hKc hK0
   simp only [frameOf, fill, setSlot, sg, Nat.reduceBEq, if_true, if_false, Nat.reduceAdd, Nat.reduceEqDiff, HSL.out] at hK ⊢
   simp only [e46, e53] at hK ⊢
   clear e46 e53
   go_wp2_with (fail)
   exact hK _ _ (Below.refl _ _) rfl
  ·intro xq w5 hb5_ hx K hK0
   have hK := fun v w' hb => hK0 v w' (.inl hb)
   have e54 : xq 54 = .int .i64 (full - emp + r1 - r2) := hx 20 (by rfl) (by rfl)
   clear hx hKc hK0
   simp only [frameOf, fill, setSlot, sg, Nat.reduceBEq, if_true, if_false, Nat.reduceAdd, Nat.reduceEqDiff, HSL.out] at hK ⊢
   simp only [e54] at hK ⊢
   clear e54
   go_wp2_with (fail)
   all_goals exact hK _ _ (Below.refl _ _) (congrArg (Value.int .i64) (by have := HWG.out; omega))
  ·intro xq w5 hb5_ hx K hK0
   have hK := fun v w' hb => hK0 v w' (.inl hb)
   have e55 : xq 55 = .int .i64 wg := hx 21 (by rfl) (by rfl)
   clear hx hKc hK0
   simp only [frameOf, fill, setSlot, sg, Nat.reduceBEq, if_true, if_false, Nat.reduceAdd, Nat.reduceEqDiff, HSL.out] at hK ⊢
   simp only [e55] at hK ⊢
   clear e55
   go_wp2_with (fail)
   exact hK _ _ (Below.refl _ _) rfl
 ·intro xq w5 hb5_ hx
  have e34 : xq 34 = .pointer (some ⟨w2.heap.size + 1, 0, none⟩) := hx 0 (by decide)
  have e35 : xq 35 = .int .i64 full := hx 1 (by decide)
  have e36 : xq 36 = .pointer (some ⟨w2.heap.size + 1, 1, none⟩) := hx 2 (by decide)
  have e37 : xq 37 = .int .i64 emp := hx 3 (by decide)
  have e38 : xq 38 = .int .i64 (full - emp) := hx 4 (by decide)
  have e39 : xq 39 = .int .u8 a1 := hx 5 (by decide)
  have e40 : xq 40 = .int .i64 a1 := hx 6 (by decide)
  have e41 : xq 41 = .pointer (some ⟨w2.heap.size, 0, none⟩) := hx 7 (by decide)
  have e42 : xq 42 = .int .i64 err := hx 8 (by decide)
  have e43 : xq 43 = .int .i64 (2 * err) := hx 9 (by decide)
  have e44 : xq 44 = .int .i64 (2 * err + 1) := hx 10 (by decide)
  have e45 : xq 45 = .int .i64 r1 := hx 11 (by decide)
  have e46 : xq 46 = .int .i64 (full - emp + r1) := hx 12 (by decide)
  have e47 : xq 47 = .int .u8 a2 := hx 13 (by decide)
  have e48 : xq 48 = .int .i64 a2 := hx 14 (by decide)
  have e49 : xq 49 = .pointer (some ⟨w2.heap.size, 0, none⟩) := hx 15 (by decide)
  have e50 : xq 50 = .int .i64 err := hx 16 (by decide)
  have e51 : xq 51 = .int .i64 (2 * err) := hx 17 (by decide)
  have e52 : xq 52 = .int .i64 (2 * err + 1) := hx 18 (by decide)
  have e53 : xq 53 = .int .i64 r2 := hx 19 (by decide)
  have e54 : xq 54 = .int .i64 (full - emp + r1 - r2) := hx 20 (by decide)
  have e55 : xq 55 = .int .i64 wg := hx 21 (by decide)
  have e12 : xq 12 = .int .i64 wg := hx 22 (by decide)
  clear hx
  simp only [frameOf, fill, setSlot, sg, Nat.reduceBEq, if_true, if_false, Nat.reduceAdd, Nat.reduceEqDiff, HSL.out]
  simp only [e34, e35, e36, e37, e38, e39, e40, e41, e42, e43, e44, e45, e46, e47, e48, e49, e50, e51, e52, e53, e54, e55, e12]
  clear e34 e35 e36 e37 e38 e39 e40 e41 e42 e43 e44 e45 e46 e47 e48 e49 e50 e51 e52 e53 e54 e55 e12
  refine hKc _ _ ?_
  have hb5 := hb5_
  have HX := Lib.hid hb5.1
  have HN5 := Lib.hid hb5.2
  have Hg5 := Lib.hid (Hg3.out.low hb5.1 (by omega))
  have Hc5 := Lib.hid (Hc3.out.low hb5.1 (by omega))
  have Hm5 := Lib.hid (Hm3.out.low hb5.1 (by omega))
  have HB5 : Hid (Below w2.heap.size w2 w5) := Lib.hid (HB3.out.trans (hb5.1.mono (by omega)))
  have hz5 : w3.heap.size < w5.heap.size := hb5.2.lt
  clear hb5 hb5_ kg0 kg1 kg2 kc0 kc1 kc2 km0 km1 km2 km3 Hg3 Hc3 Hm3
  obtain ⟨B, hBx⟩ : ∃ z, boundsOf miss (fun _ => true) hs = z := ⟨_, rfl⟩
  have hBh : B.has m0 m1 m2 m3 := hBx ▸ HOK.out.has
  have hBk : B.ok := hBx ▸ bounds_ok miss _ hs
  have hBe : B.empty = false := hBx ▸ bounds_nonempty HOK.out.mix.sum HOK.out.has
  have HBX := Lib.hid hBx
  have HBH := Lib.hid hBh
  have HBK := Lib.hid hBk
  have HBE := Lib.hid hBe
  clear hBx hBh hBk hBe
  go_wp2_with fail
  go_loopw [13, 14, 56] (fun v13 v14 v56 wr => WgRel w5 lo hi B v13 v14 v56 wr) (fun _ _ v56 _ => 4 - (intOf v56).toNat)
  case atStart => exact ⟨0, 0, 0, rfl, rfl, rfl, by decide, Lib.hid rfl, Lib.hid rfl, by decide, by decide, by (repeat' (first | (with_reducible first | exact Below.refl _ _ | assumption | refine Below.alloc ?_ ?_ _ | refine Below.drew ?_ | refine Below.setCell ?_ ?_ _ | exact Nat.le_refl _) | omega | (simp only [World.size_alloc, World.size_setCell, World.size_drew]; omega) | (simp; omega) | (simp; done)))⟩
  case round =>
   obtain ⟨k, least, most, rfl, rfl, rfl, hk4, hle, hmo, ⟨le0, le1⟩, ⟨mo0, mo1⟩, hbr⟩ := hrel
   have HBR := Lib.hid hbr
   clear hbr
   have hszr := HBR.out.size
   have Hgr := Lib.hid (Hg5.out.up HBR.out)
   have Hcr := Lib.hid (Hc5.out.up HBR.out)
   have Hmr := Lib.hid (Hm5.out.up HBR.out)
   have HNr := Lib.hid (HN5.out.up HBR.out)
   obtain ⟨kg0, kg1, kg2⟩ := Hgr.out.c3
   obtain ⟨kc0, kc1, kc2⟩ := Hcr.out.c3
   obtain ⟨km0, km1, km2, km3⟩ := Hmr.out.c4
   obtain ⟨kn0, kn1⟩ := HNr.out.c2
   by_cases hlt : k < 4
   ·have hkk : (k : Int) < 4 := by omega
    obtain ⟨rk, hrk⟩ : ∃ z, z = gat m0 m1 m2 m3 k := ⟨_, rfl⟩
    obtain ⟨lb, hl⟩ : ∃ z, z = bxl B k := ⟨_, rfl⟩
    obtain ⟨ub, hh⟩ : ∃ z, z = bxh B k := ⟨_, rfl⟩
    obtain ⟨rk0, rk1⟩ : 0 ≤ rk ∧ rk ≤ 40 := hrk ▸ mix_at HOK.out.mix k
    obtain ⟨l0, l1, h0, h1⟩ : 0 ≤ lb ∧ lb ≤ 40 ∧ 0 ≤ ub ∧ ub ≤ 40 := by rw [hl, hh]; exact ok_at HBK.out k
    obtain ⟨lr, rh⟩ : lb ≤ rk ∧ rk ≤ ub := by rw [hl, hh, hrk]; exact bhas_at HBH.out k
    obtain ⟨⟨p0, p1⟩, p2, p3⟩ := part_in (x := wg) (a := rk) (by omega) (by omega) rk0 (by omega)
    obtain ⟨⟨p4, p5⟩, p6, p7⟩ := part_in (x := lo) (a := lb) (by omega) (by omega) l0 (by omega)
    obtain ⟨⟨p8, p9⟩, pa, pb⟩ := part_in (x := hi) (a := ub) (by omega) (by omega) h0 (by omega)
    have q1 : lo * lb / 40 ≤ wg * rk / 40 := part_mono l0 hlo0 hwl lr
    have q2 : wg * rk / 40 ≤ hi * ub / 40 := part_mono rk0 (by omega) hwh rh
    have HRK := Lib.hid hrk
    have HL := Lib.hid hl
    have HHH := Lib.hid hh
    clear hrk hl hh
    go_wp2_with fail
    refine (weight_at k hlt err miss full emp G H d q gs hs _ (HG.out.up (HB5.out.trans ((HBR.out.mono HB5.out.size).trans (by (repeat' (first | (with_reducible first | exact Below.refl _ _ | assumption | refine Below.alloc ?_ ?_ _ | refine Below.drew ?_ | refine Below.setCell ?_ ?_ _ | exact Nat.le_refl _) | omega | (simp only [World.size_alloc, World.size_setCell, World.size_drew]; omega) | (simp; omega) | (simp; done))))))) hgl' (HH.out.up (HB5.out.trans ((HBR.out.mono HB5.out.size).trans (by (repeat' (first | (with_reducible first | exact Below.refl _ _ | assumption | refine Below.alloc ?_ ?_ _ | refine Below.drew ?_ | refine Below.setCell ?_ ?_ _ | exact Nat.le_refl _) | omega | (simp only [World.size_alloc, World.size_setCell, World.size_drew]; omega) | (simp; omega) | (simp; done))))))) hhl' HE.out B HBX.out HBE.out lo hi HLO.out HHI.out).mono ?_
    rintro e w6 ⟨rfl, hb6⟩
    rw [← HL.out, ← HHH.out]
    have hb6' : Below wr.heap.size wr w6 := Below.trans (by (repeat' (first | (with_reducible first | exact Below.refl _ _ | assumption | refine Below.alloc ?_ ?_ _ | refine Below.drew ?_ | refine Below.setCell ?_ ?_ _ | exact Nat.le_refl _) | omega | (simp only [World.size_alloc, World.size_setCell, World.size_drew]; omega) | (simp; omega) | (simp; done)))) (hb6.mono (by first | exact Nat.le_refl _ | simp))
    have H6 := Lib.hid hb6'
    have hz6 := hb6'.size
    clear hb6 hb6' kg0 kg1 kg2 kc0 kc1 kc2 km0 km1 km2 km3 kn0 kn1
    have Hg6 := Lib.hid (Hgr.out.up H6.out)
    have Hc6 := Lib.hid (Hcr.out.up H6.out)
    have Hm6 := Lib.hid (Hmr.out.up H6.out)
    have HN6 := Lib.hid (HNr.out.up H6.out)
    obtain ⟨kg0, kg1, kg2⟩ := Hg6.out.c3
    have lg6 : w2.heap.size < w6.heap.size := Hg6.out.lt
    obtain ⟨kc0, kc1, kc2⟩ := Hc6.out.c3
    have lc6 : w2.heap.size + 1 < w6.heap.size := Hc6.out.lt
    obtain ⟨km0, km1, km2, km3⟩ := Hm6.out.c4
    have lm6 : w2.heap.size + 1 + 1 < w6.heap.size := Hm6.out.lt
    obtain ⟨kn0, kn1⟩ := HN6.out.c2
    have ln6 : w3.heap.size < w6.heap.size := HN6.out.lt
    have kmk : w6.cell? ⟨w2.heap.size + 1 + 1, k, none⟩ = some (.int .i64 rk) := by rw [HRK.out]; exact cell4_at Hm6.out hlt
    go_wp2_with fail
    rename_i Kc hKc hcj_
    have HSL := Lib.hid (show slotsOf [some 86, some 87, some 88, some 89, some 90, some 91, some 92, some 93, some 13, some 14] = [86, 87, 88, 89, 90, 91, 92, 93, 13, 14] from rfl)
    refine wp_region_partsG (by kernel_rfl) [some 86, some 87, some 88, some 89, some 90, some 91, some 92, some 93, some 13, some 14] (fun jq xq w' => match jq with
     | 0 => xq 86 = .int .i64 least
     | 1 => xq 87 = .pointer (some ⟨w6.heap.size, 0, none⟩)
     | 2 => xq 88 = .int .i64 (lo * lb / 40)
     | 3 => xq 89 = .int .i64 (least + lo * lb / 40)
     | 4 => xq 90 = .int .i64 most
     | 5 => xq 91 = .pointer (some ⟨w6.heap.size, 1, none⟩)
     | 6 => xq 92 = .int .i64 (hi * ub / 40)
     | 7 => xq 93 = .int .i64 (most + hi * ub / 40)
     | 8 => xq 13 = .int .i64 (least + lo * lb / 40)
     | 9 => xq 14 = .int .i64 (most + hi * ub / 40)
     | 10 => xq 13 = .int .i64 least
     | 11 => xq 14 = .int .i64 most
     | _ => True) [[86], [87], [88], [89], [90], [91], [92], [93], [13], [14], [13], [14]] [(8, 10), (9, 11)] (fun w' => Below w6.heap.size w6 w' ∧ Holds w' w6.heap.size 60 #[.int .i64 (lo * lb / 40), .int .i64 (hi * ub / 40)]) (by kernel_rfl) ?_ ?_ (fun w' w'' hb h => ⟨h.1.trans (hb.mono h.1.size), h.2.up hb⟩) (⟨by (repeat' (first | (with_reducible first | exact Below.refl _ _ | assumption | refine Below.alloc ?_ ?_ _ | refine Below.drew ?_ | refine Below.setCell ?_ ?_ _ | exact Nat.le_refl _) | omega | (simp only [World.size_alloc, World.size_setCell, World.size_drew]; omega) | (simp; omega) | (simp; done))), Holds.new _ _ _⟩) ?_ ?_ ?_
    ·intro jq xq xq' wq h hv
     match jq, h, hv with
     | 0, h, hv => show xq' 86 = .int .i64 least; rw [← h 86 (by decide)]; exact hv
     | 1, h, hv => show xq' 87 = .pointer (some ⟨w6.heap.size, 0, none⟩); rw [← h 87 (by decide)]; exact hv
     | 2, h, hv => show xq' 88 = .int .i64 (lo * lb / 40); rw [← h 88 (by decide)]; exact hv
     | 3, h, hv => show xq' 89 = .int .i64 (least + lo * lb / 40); rw [← h 89 (by decide)]; exact hv
     | 4, h, hv => show xq' 90 = .int .i64 most; rw [← h 90 (by decide)]; exact hv
     | 5, h, hv => show xq' 91 = .pointer (some ⟨w6.heap.size, 1, none⟩); rw [← h 91 (by decide)]; exact hv
     | 6, h, hv => show xq' 92 = .int .i64 (hi * ub / 40); rw [← h 92 (by decide)]; exact hv
     | 7, h, hv => show xq' 93 = .int .i64 (most + hi * ub / 40); rw [← h 93 (by decide)]; exact hv
     | 8, h, hv => show xq' 13 = .int .i64 (least + lo * lb / 40); rw [← h 13 (by decide)]; exact hv
     | 9, h, hv => show xq' 14 = .int .i64 (most + hi * ub / 40); rw [← h 14 (by decide)]; exact hv
     | 10, h, hv => show xq' 13 = .int .i64 least; rw [← h 13 (by decide)]; exact hv
     | 11, h, hv => show xq' 14 = .int .i64 most; rw [← h 14 (by decide)]; exact hv
     | _ + 12, _, _ => trivial
    ·intro jq xq wq w' hb' hv
     match jq, hv with
     | 0, hv => exact hv
     | 1, hv => exact hv
     | 2, hv => exact hv
     | 3, hv => exact hv
     | 4, hv => exact hv
     | 5, hv => exact hv
     | 6, hv => exact hv
     | 7, hv => exact hv
     | 8, hv => exact hv
     | 9, hv => exact hv
     | 10, h0 => exact h0
     | 11, h0 => exact h0
     | _ + 12, _ => trivial
    ·intro jq hj
     match jq, hj with
     | 0, hj => exact absurd hj (by decide)
     | 1, hj => exact absurd hj (by decide)
     | 2, hj => exact absurd hj (by decide)
     | 3, hj => exact absurd hj (by decide)
     | 4, hj => exact absurd hj (by decide)
     | 5, hj => exact absurd hj (by decide)
     | 6, hj => exact absurd hj (by decide)
     | 7, hj => exact absurd hj (by decide)
     | 8, hj => exact absurd hj (by decide)
     | 9, hj => exact absurd hj (by decide)
     | 10, _ => exact rfl
     | 11, _ => exact rfl
     | _ + 12, _ => trivial
    ·refine ⟨?_, ?_, ?_, ?_, ?_, ?_, ?_, ?_, ?_, ?_, trivial⟩
     ·intro xq w7 hb7 hx K hK0
      have hK := fun v w' hb => hK0 v w' (.inl hb)
      have fil_0 : xq 13 = .int .i64 least := hx 10 (by rfl) (by rfl)
      clear hx hKc hK0
      simp only [frameOf, fill, setSlot, sg, Nat.reduceBEq, if_true, if_false, Nat.reduceAdd, Nat.reduceEqDiff, HSL.out] at hK ⊢
      simp only [fil_0] at hK ⊢
      clear fil_0
      go_wp2_with (fail)
      exact hK _ _ (Below.refl _ _) rfl
     ·intro xq w7 hb7 hx K hK0
      have hK := fun v w' hb => hK0 v w' (.inl hb)
      clear hx hKc hK0
      simp only [frameOf, fill, setSlot, sg, Nat.reduceBEq, if_true, if_false, Nat.reduceAdd, Nat.reduceEqDiff, HSL.out] at hK ⊢
      go_wp2_with (fail)
      exact hK _ _ (Below.refl _ _) rfl
     ·intro xq w7 hb7 hx K hK0
      have hK := fun v w' hb => hK0 v w' (.inl hb)
      have e87 : xq 87 = .pointer (some ⟨w6.heap.size, 0, none⟩) := hx 1 (by rfl) (by rfl)
      clear hx hKc hK0
      obtain ⟨ks0, ks1⟩ := hb7.2.c2
      simp only [frameOf, fill, setSlot, sg, Nat.reduceBEq, if_true, if_false, Nat.reduceAdd, Nat.reduceEqDiff, HSL.out] at hK ⊢
      simp only [e87] at hK ⊢
      clear e87
      go_wp2_with (fail)
      exact hK _ _ (Below.refl _ _) rfl
     ·intro xq w7 hb7 hx K hK0
      have hK := fun v w' hb => hK0 v w' (.inl hb)
      have e86 : xq 86 = .int .i64 least := hx 0 (by rfl) (by rfl)
      have e88 : xq 88 = .int .i64 (lo * lb / 40) := hx 2 (by rfl) (by rfl)
      clear hx hKc hK0
      simp only [frameOf, fill, setSlot, sg, Nat.reduceBEq, if_true, if_false, Nat.reduceAdd, Nat.reduceEqDiff, HSL.out] at hK ⊢
      simp only [e86, e88] at hK ⊢
      clear e86 e88
      go_wp2_with (fail)
      exact hK _ _ (Below.refl _ _) rfl
     ·intro xq w7 hb7 hx K hK0
      have hK := fun v w' hb => hK0 v w' (.inl hb)
      have fio_0 : xq 14 = .int .i64 most := hx 11 (by rfl) (by rfl)
      clear hx hKc hK0
      simp only [frameOf, fill, setSlot, sg, Nat.reduceBEq, if_true, if_false, Nat.reduceAdd, Nat.reduceEqDiff, HSL.out] at hK ⊢
      simp only [fio_0] at hK ⊢
      clear fio_0
      go_wp2_with (fail)
      exact hK _ _ (Below.refl _ _) rfl
     ·intro xq w7 hb7 hx K hK0
      have hK := fun v w' hb => hK0 v w' (.inl hb)
      clear hx hKc hK0
      simp only [frameOf, fill, setSlot, sg, Nat.reduceBEq, if_true, if_false, Nat.reduceAdd, Nat.reduceEqDiff, HSL.out] at hK ⊢
      go_wp2_with (fail)
      exact hK _ _ (Below.refl _ _) rfl
     ·intro xq w7 hb7 hx K hK0
      have hK := fun v w' hb => hK0 v w' (.inl hb)
      have e91 : xq 91 = .pointer (some ⟨w6.heap.size, 1, none⟩) := hx 5 (by rfl) (by rfl)
      clear hx hKc hK0
      obtain ⟨ks0, ks1⟩ := hb7.2.c2
      simp only [frameOf, fill, setSlot, sg, Nat.reduceBEq, if_true, if_false, Nat.reduceAdd, Nat.reduceEqDiff, HSL.out] at hK ⊢
      simp only [e91] at hK ⊢
      clear e91
      go_wp2_with (fail)
      exact hK _ _ (Below.refl _ _) rfl
     ·intro xq w7 hb7 hx K hK0
      have hK := fun v w' hb => hK0 v w' (.inl hb)
      have e90 : xq 90 = .int .i64 most := hx 4 (by rfl) (by rfl)
      have e92 : xq 92 = .int .i64 (hi * ub / 40) := hx 6 (by rfl) (by rfl)
      clear hx hKc hK0
      simp only [frameOf, fill, setSlot, sg, Nat.reduceBEq, if_true, if_false, Nat.reduceAdd, Nat.reduceEqDiff, HSL.out] at hK ⊢
      simp only [e90, e92] at hK ⊢
      clear e90 e92
      go_wp2_with (fail)
      exact hK _ _ (Below.refl _ _) rfl
     ·intro xq w7 hb7 hx K hK0
      have hK := fun v w' hb => hK0 v w' (.inl hb)
      have e89 : xq 89 = .int .i64 (least + lo * lb / 40) := hx 3 (by rfl) (by rfl)
      clear hx hKc hK0
      simp only [frameOf, fill, setSlot, sg, Nat.reduceBEq, if_true, if_false, Nat.reduceAdd, Nat.reduceEqDiff, HSL.out] at hK ⊢
      simp only [e89] at hK ⊢
      clear e89
      go_wp2_with (fail)
      exact hK _ _ (Below.refl _ _) rfl
     ·intro xq w7 hb7 hx K hK0
      have hK := fun v w' hb => hK0 v w' (.inl hb)
      have e93 : xq 93 = .int .i64 (most + hi * ub / 40) := hx 7 (by rfl) (by rfl)
      clear hx hKc hK0
      simp only [frameOf, fill, setSlot, sg, Nat.reduceBEq, if_true, if_false, Nat.reduceAdd, Nat.reduceEqDiff, HSL.out] at hK ⊢
      simp only [e93] at hK ⊢
      clear e93
      go_wp2_with (fail)
      exact hK _ _ (Below.refl _ _) rfl
    ·intro xq w7 hb7 hx
     have e86 : xq 86 = .int .i64 least := hx 0 (by decide)
     have e87 : xq 87 = .pointer (some ⟨w6.heap.size, 0, none⟩) := hx 1 (by decide)
     have e88 : xq 88 = .int .i64 (lo * lb / 40) := hx 2 (by decide)
     have e89 : xq 89 = .int .i64 (least + lo * lb / 40) := hx 3 (by decide)
     have e90 : xq 90 = .int .i64 most := hx 4 (by decide)
     have e91 : xq 91 = .pointer (some ⟨w6.heap.size, 1, none⟩) := hx 5 (by decide)
     have e92 : xq 92 = .int .i64 (hi * ub / 40) := hx 6 (by decide)
     have e93 : xq 93 = .int .i64 (most + hi * ub / 40) := hx 7 (by decide)
     have e13 : xq 13 = .int .i64 (least + lo * lb / 40) := hx 8 (by decide)
     have e14 : xq 14 = .int .i64 (most + hi * ub / 40) := hx 9 (by decide)
     clear hx
     simp only [frameOf, fill, setSlot, sg, Nat.reduceBEq, if_true, if_false, Nat.reduceAdd, Nat.reduceEqDiff, HSL.out]
     simp only [e86, e87, e88, e89, e90, e91, e92, e93, e13, e14]
     clear e86 e87 e88 e89 e90 e91 e92 e93 e13 e14
     refine hKc _ _ ?_
     go_wp2_with fail
     go_roundw
     case rel =>
      refine ⟨k + 1, _, _, rfl, rfl, (by go_num), by omega, Lib.hid ?_, Lib.hid ?_, ⟨by omega, by omega⟩, ⟨by omega, by omega⟩, HBR.out.trans ((H6.out.mono HBR.out.size).trans (hb7.1.mono (Nat.le_trans HBR.out.size H6.out.size)))⟩
      ·rw [wsum, ← hle.out, ← HL.out]
      ·rw [wsum, ← hmo.out, ← HHH.out]
     case measure => simp [intOf]; omega
   ·have hk : k = 4 := by omega
    subst hk
    have hA := wsum_most (B := B) hlo0 (by have := HBH.out; have := HOK.out.mix.sum; unfold Bx.has at *; omega)
    have hC := wsum_least (x := hi) (B := B) (by omega) (by have := HBH.out; have := HOK.out.mix.sum; unfold Bx.has at *; omega)
    rw [← hle.out] at hA
    rw [← hmo.out] at hC
    clear hlt
    go_wp2_with fail
    refine (awake_any _).mono ?_
    rintro e w8 ⟨rfl, hb8⟩
    go_wp2_with fail
    go_ret
    exact ⟨rfl, HB2.out.trans ((HB5.out.mono HB2.out.size).trans ((HBR.out.mono (Nat.le_trans HB2.out.size HB5.out.size)).trans (Below.trans (by (repeat' (first | (with_reducible first | exact Below.refl _ _ | assumption | refine Below.alloc ?_ ?_ _ | refine Below.drew ?_ | refine Below.setCell ?_ ?_ _ | exact Nat.le_refl _) | omega | (simp only [World.size_alloc, World.size_setCell, World.size_drew]; omega) | (simp; omega) | (simp; done)))) (hb8.mono (by first | omega | (simp; omega))))))⟩
end Go.Proofs.Ytiibmkodlbobpaa
