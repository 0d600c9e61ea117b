
import Derived.Test.YtifffonoipapgaaLAA
import Derived.Test.YtifffonoipapgaaBAC
import Derived.Test.YtifffonoipapgaaBAH
import Derived.Test.YtifffonoipapgaaBAO
import Derived.Test.YtifffonoipapgaaBAV
import Derived.Test.YtifffonoipapgaaBBF
import Derived.Test.YtifffonoipapgaaBBH
set_option linter.unusedSimpArgs false
set_option linter.unusedVariables false
namespace Go.Proofs.Ytifffonoipapgaa
open Go.RowKit
theorem cell4_at {w : World} {B : Nat} {T : TypeId} {g0 g1 g2 g3 : Int} (h : Holds w B T #[.int .i64 g0, .int .i64 g1, .int .i64 g2, .int .i64 g3]) {k : Nat} (hk : k < 4) : w.cell? ⟨B, k, none⟩ = some (.int .i64 (gat g0 g1 g2 g3 k)) := by
 rw [h.cell]
 match k, hk with
 | 0, _ => rfl
 | 1, _ => rfl
 | 2, _ => rfl
 | 3, _ => rfl
def fitK (miss n g m : Int) : Bool := decide (m * n - 40 * g ≤ 40 * miss) && decide (40 * g - m * n ≤ 40 * miss)
def fitTo (miss n : Int) (g m : Nat → Int) : Nat → Bool
 | 0 => true
 | k + 1 => fitTo miss n g m k && fitK miss n (g k) (m k)
def fitH (miss m0 m1 m2 m3 : Int) (h : Hf) : Bool := fitTo miss h.sum (gat h.g0 h.g1 h.g2 h.g3) (gat m0 m1 m2 m3) 4
theorem fitTo_false {miss n : Int} {g m : Nat → Int} {k : Nat} (h : fitK miss n (g k) (m k) = false) : ∀ j, k < j → fitTo miss n g m j = false := by
 intro j
 induction j with
 | zero => intro h; omega
 | succ j ih =>
  intro hj
  unfold fitTo
  by_cases hk : k = j
  ·subst hk; rw [h, Bool.and_false]
  ·rw [ih (by omega), Bool.false_and]
theorem fitH_iff {miss m0 m1 m2 m3 : Int} {h : Hf} : fitH miss m0 m1 m2 m3 h = true ↔ h.fitsM miss m0 m1 m2 m3 := by
 simp only [fitH, fitTo, fitK, Hf.fitsM, fitsK, gat, Bool.and_eq_true, decide_eq_true_eq, Bool.true_and]
 omega
theorem gat_of {g0 g1 g2 g3 lo hi : Int} (a0 : lo ≤ g0) (a1 : lo ≤ g1) (a2 : lo ≤ g2) (a3 : lo ≤ g3) (b0 : g0 ≤ hi) (b1 : g1 ≤ hi) (b2 : g2 ≤ hi) (b3 : g3 ≤ hi) (k : Nat) : lo ≤ gat g0 g1 g2 g3 k ∧ gat g0 g1 g2 g3 k ≤ hi := by
 unfold gat
 split <;> omega
def bLo (b : Bx) (k : Nat) : Int := gat b.l0 b.l1 b.l2 b.l3 k
def bHi (b : Bx) (k : Nat) : Int := gat b.h0 b.h1 b.h2 b.h3 k
def holdK (b : Bx) (m : Nat → Int) (k : Nat) : Bool := decide (bLo b k ≤ m k) && decide (m k ≤ bHi b k)
theorem ix_box (b : Bx) {k : Nat} (hk : k < 4) : ∀ w : World, (Instr.index 153 (.agg #[.int .i64 b.l0, .int .i64 b.h0, .int .i64 b.l1, .int .i64 b.h1, .int .i64 b.l2, .int .i64 b.h2, .int .i64 b.l3, .int .i64 b.h3]) (.int .i64 (k : Int))).run Try.prog w = .ok (.agg #[.int .i64 (bLo b k), .int .i64 (bHi b k)]) w := by
 intro w
 match k, hk with
 | 0, _ => show (Instr.index 153 (.agg #[.int .i64 b.l0, .int .i64 b.h0, .int .i64 b.l1, .int .i64 b.h1, .int .i64 b.l2, .int .i64 b.h2, .int .i64 b.l3, .int .i64 b.h3]) (.int .i64 0)).run Try.prog w = .ok (.agg #[.int .i64 b.l0, .int .i64 b.h0]) w; kernel_rfl
 | 1, _ => show (Instr.index 153 (.agg #[.int .i64 b.l0, .int .i64 b.h0, .int .i64 b.l1, .int .i64 b.h1, .int .i64 b.l2, .int .i64 b.h2, .int .i64 b.l3, .int .i64 b.h3]) (.int .i64 1)).run Try.prog w = .ok (.agg #[.int .i64 b.l1, .int .i64 b.h1]) w; kernel_rfl
 | 2, _ => show (Instr.index 153 (.agg #[.int .i64 b.l0, .int .i64 b.h0, .int .i64 b.l1, .int .i64 b.h1, .int .i64 b.l2, .int .i64 b.h2, .int .i64 b.l3, .int .i64 b.h3]) (.int .i64 2)).run Try.prog w = .ok (.agg #[.int .i64 b.l2, .int .i64 b.h2]) w; kernel_rfl
 | 3, _ => show (Instr.index 153 (.agg #[.int .i64 b.l0, .int .i64 b.h0, .int .i64 b.l1, .int .i64 b.h1, .int .i64 b.l2, .int .i64 b.h2, .int .i64 b.l3, .int .i64 b.h3]) (.int .i64 3)).run Try.prog w = .ok (.agg #[.int .i64 b.l3, .int .i64 b.h3]) w; kernel_rfl
theorem holds_four {b : Bx} {m0 m1 m2 m3 : Int} (h : ∀ j, j < 4 → holdK b (gat m0 m1 m2 m3) j = true) : b.holds m0 m1 m2 m3 = true := by
 have h0 := h 0 (by decide)
 have h1 := h 1 (by decide)
 have h2 := h 2 (by decide)
 have h3 := h 3 (by decide)
 simp only [holdK, bLo, bHi, gat, Bool.and_eq_true, decide_eq_true_eq] at h0 h1 h2 h3
 simp only [Bx.holds, within, Bool.and_eq_true, decide_eq_true_eq]
 exact ⟨h0, h1, h2, h3⟩
theorem holds_not {b : Bx} {m0 m1 m2 m3 : Int} {j : Nat} (hj : j < 4) (h : holdK b (gat m0 m1 m2 m3) j = false) : b.holds m0 m1 m2 m3 = false := by
 cases hb : b.holds m0 m1 m2 m3 with
 | false => rfl
 | true =>
  exfalso
  simp only [Bx.holds, within, Bool.and_eq_true, decide_eq_true_eq] at hb
  obtain ⟨h0, h1, h2, h3⟩ := hb
  have : holdK b (gat m0 m1 m2 m3) j = true := by
   match j, hj with
   | 0, _ => exact Bool.and_eq_true _ _ ▸ ⟨decide_eq_true h0.1, decide_eq_true h0.2⟩
   | 1, _ => exact Bool.and_eq_true _ _ ▸ ⟨decide_eq_true h1.1, decide_eq_true h1.2⟩
   | 2, _ => exact Bool.and_eq_true _ _ ▸ ⟨decide_eq_true h2.1, decide_eq_true h2.2⟩
   | 3, _ => exact Bool.and_eq_true _ _ ▸ ⟨decide_eq_true h3.1, decide_eq_true h3.2⟩
  rw [this] at h
  cases h
set_option maxRecDepth 100000 in
set_option maxHeartbeats 4000000 in
theorem holds_any (b : Bx) (m0 m1 m2 m3 : Int) (w : World) :
  Calls Try.prog 105 #[.agg #[.int .i64 b.l0, .int .i64 b.h0, .int .i64 b.l1, .int .i64 b.h1, .int .i64 b.l2, .int .i64 b.h2, .int .i64 b.l3, .int .i64 b.h3], .agg #[.int .i64 m0, .int .i64 m1, .int .i64 m2, .int .i64 m3]] w fun e w' => e = .returned (.bool (b.holds m0 m1 m2 m3)) ∧ Below w.heap.size w w' := by
 go_enter Try.func105, Try.ntmps105
 go_wp2_with fail
 go_loopw [8] (fun v8 wr => ∃ j : Nat, v8 = .int .i64 (j : Int) ∧ j ≤ 4 ∧ Hid (∀ i, i < j → holdK b (gat m0 m1 m2 m3) i = true) ∧ Below w.heap.size w wr ∧ Holds wr (w.heap.size + 1) 28 #[.int .i64 m0, .int .i64 m1, .int .i64 m2, .int .i64 m3]) (fun v8 _ => 4 - (intOf v8).toNat)
 case atStart => exact ⟨0, rfl, by decide, Lib.hid (fun i h => absurd h (Nat.not_lt_zero i)), zg, zp4⟩
 case round =>
  obtain ⟨j, rfl, hj4, hall, hB, hm⟩ := hrel
  have HALL := Lib.hid hall.out
  clear hall
  have HB := Lib.hid hB
  have Hm := Lib.hid hm
  have lm := hm.lt
  have hszB := hB.size
  clear hB hm
  by_cases hj : j < 4
  ·have hji : (j : Int) < 4 := by omega
   obtain ⟨mj, hmj⟩ : ∃ z, z = gat m0 m1 m2 m3 j := ⟨_, rfl⟩
   obtain ⟨lj, hlj⟩ : ∃ z, z = bLo b j := ⟨_, rfl⟩
   obtain ⟨uj, huj⟩ : ∃ z, z = bHi b j := ⟨_, rfl⟩
   have ix : ∀ w : World, (Instr.index 153 (.agg #[.int .i64 b.l0, .int .i64 b.h0, .int .i64 b.l1, .int .i64 b.h1, .int .i64 b.l2, .int .i64 b.h2, .int .i64 b.l3, .int .i64 b.h3]) (.int .i64 (j : Int))).run Try.prog w = .ok (.agg #[.int .i64 lj, .int .i64 uj]) w := by rw [hlj, huj]; exact ix_box b hj
   have HMJ := Lib.hid hmj
   have HK : Hid (holdK b (gat m0 m1 m2 m3) j = (decide (lj ≤ mj) && decide (mj ≤ uj))) := Lib.hid (by rw [holdK, hlj, huj, hmj])
   clear hmj hlj huj
   cases hw : (decide (lj ≤ mj) && decide (mj ≤ uj)) with
   | true =>
    have HW := Lib.hid hw
    clear hw
    go_wp2_with fail
    rename_i Kc hKc
    have HSL := Lib.hid (show slotsOf [some 12, some 13, some 14, some 15, some 16, some 17, some 18, some 19, some 20] = [12, 13, 14, 15, 16, 17, 18, 19, 20] from rfl)
    refine wp_region_partsG (by kernel_rfl) [some 12, some 13, some 14, some 15, some 16, some 17, some 18, some 19, some 20] (fun jq xq w' => match jq with
     | 0 => xq 12 = .int .i64 (j : Int)
     | 1 => xq 13 = .pointer (some ⟨w.heap.size + 1, j, none⟩)
     | 2 => xq 14 = .int .i64 mj
     | 3 => xq 15 = .pointer (some ⟨wr.heap.size, 0, none⟩)
     | 4 => xq 16 = .int .i64 lj
     | 5 => xq 17 = .pointer (some ⟨wr.heap.size, 1, none⟩)
     | 6 => xq 18 = .int .i64 uj
     | 7 => xq 19 = .bool true
     | 8 => xq 20 = .bool false
     | _ => True) [[12], [13], [14], [15], [16], [17], [18], [19], [20]] [] (fun w' => Below wr.heap.size wr w' ∧ Holds w' wr.heap.size 60 #[.int .i64 lj, .int .i64 uj]) (by kernel_rfl) ?_ ?_ (fun w' w'' hb h => ⟨h.1.trans (hb.mono h.1.size), h.2.up hb⟩) (⟨zg, Holds.new _ _ _⟩) ?_ ?_ ?_
    ·intro jq xq xq' wq h hv
     match jq, h, hv with
     | 0, h, hv => show xq' 12 = .int .i64 (j : Int); rw [← h 12 (by decide)]; exact hv
     | 1, h, hv => show xq' 13 = .pointer (some ⟨w.heap.size + 1, j, none⟩); rw [← h 13 (by decide)]; exact hv
     | 2, h, hv => show xq' 14 = .int .i64 mj; rw [← h 14 (by decide)]; exact hv
     | 3, h, hv => show xq' 15 = .pointer (some ⟨wr.heap.size, 0, none⟩); rw [← h 15 (by decide)]; exact hv
     | 4, h, hv => show xq' 16 = .int .i64 lj; rw [← h 16 (by decide)]; exact hv
     | 5, h, hv => show xq' 17 = .pointer (some ⟨wr.heap.size, 1, none⟩); rw [← h 17 (by decide)]; exact hv
     | 6, h, hv => show xq' 18 = .int .i64 uj; rw [← h 18 (by decide)]; exact hv
     | 7, h, hv => show xq' 19 = .bool true; rw [← h 19 (by decide)]; exact hv
     | 8, h, hv => show xq' 20 = .bool false; rw [← h 20 (by decide)]; exact hv
     | _ + 9, _, _ => trivial
    ·intro jq xq wq w' hb' hv
     match jq, hv with
     | 0, hv => exact hv
     | 1, hv => exact hv
     | 2, hv => exact hv
     | 3, hv => exact hv
     | 4, hv => exact hv
     | 5, hv => exact hv
     | 6, hv => exact hv
     | 7, hv => exact hv
     | 8, hv => exact hv
     | _ + 9, _ => trivial
    ·intro jq hj
     match jq, hj with
     | 0, hj => exact absurd hj (by decide)
     | 1, hj => exact absurd hj (by decide)
     | 2, hj => exact absurd hj (by decide)
     | 3, hj => exact absurd hj (by decide)
     | 4, hj => exact absurd hj (by decide)
     | 5, hj => exact absurd hj (by decide)
     | 6, hj => exact absurd hj (by decide)
     | 7, hj => exact absurd hj (by decide)
     | 8, hj => exact absurd hj (by decide)
     | _ + 9, _ => trivial
    ·refine ⟨?_, ?_, ?_, ?_, ?_, ?_, ?_, ?_, ?_, trivial⟩
     ·intro xq w1 hb1 hx K hK0
      have hK := fun v w' hb => hK0 v w' (.inl hb)
      clear hx hKc hK0
      simp only [frameOf, fill, setSlot, sg, Nat.reduceBEq, if_true, if_false, Nat.reduceAdd, Nat.reduceEqDiff, HSL.out] at hK ⊢
      go_wp2_with (fail)
      exact hK _ _ (Below.refl _ _) rfl
     ·intro xq w1 hb1 hx K hK0
      have hK := fun v w' hb => hK0 v w' (.inl hb)
      have e12 : xq 12 = .int .i64 (j : Int) := hx 0 (by rfl) (by rfl)
      clear hx hKc hK0
      simp only [frameOf, fill, setSlot, sg, Nat.reduceBEq, if_true, if_false, Nat.reduceAdd, Nat.reduceEqDiff, HSL.out] at hK ⊢
      simp only [e12] at hK ⊢
      clear e12
      go_wp2_with (fail)
      exact hK _ _ (Below.refl _ _) rfl
     ·intro xq w1 hb1 hx K hK0
      have hK := fun v w' hb => hK0 v w' (.inl hb)
      have e13 : xq 13 = .pointer (some ⟨w.heap.size + 1, j, none⟩) := hx 1 (by rfl) (by rfl)
      clear hx hKc hK0
      have k : w1.cell? ⟨w.heap.size + 1, j, none⟩ = some (.int .i64 mj) := by rw [HMJ.out]; exact cell4_at (Hm.out.up hb1.1) hj
      simp only [frameOf, fill, setSlot, sg, Nat.reduceBEq, if_true, if_false, Nat.reduceAdd, Nat.reduceEqDiff, HSL.out] at hK ⊢
      simp only [e13] at hK ⊢
      clear e13
      go_wp2_with (fail)
      exact hK _ _ (Below.refl _ _) rfl
     ·intro xq w1 hb1 hx K hK0
      have hK := fun v w' hb => hK0 v w' (.inl hb)
      clear hx hKc hK0
      simp only [frameOf, fill, setSlot, sg, Nat.reduceBEq, if_true, if_false, Nat.reduceAdd, Nat.reduceEqDiff, HSL.out] at hK ⊢
      go_wp2_with (fail)
      exact hK _ _ (Below.refl _ _) rfl
     ·intro xq w1 hb1 hx K hK0
      have hK := fun v w' hb => hK0 v w' (.inl hb)
      have e15 : xq 15 = .pointer (some ⟨wr.heap.size, 0, none⟩) := hx 3 (by rfl) (by rfl)
      clear hx hKc hK0
      have k : w1.cell? ⟨wr.heap.size, 0, none⟩ = some (.int .i64 lj) := hb1.2.cell 0
      simp only [frameOf, fill, setSlot, sg, Nat.reduceBEq, if_true, if_false, Nat.reduceAdd, Nat.reduceEqDiff, HSL.out] at hK ⊢
      simp only [e15] at hK ⊢
      clear e15
      go_wp2_with (fail)
      exact hK _ _ (Below.refl _ _) rfl
     ·intro xq w1 hb1 hx K hK0
      have hK := fun v w' hb => hK0 v w' (.inl hb)
      clear hx hKc hK0
      simp only [frameOf, fill, setSlot, sg, Nat.reduceBEq, if_true, if_false, Nat.reduceAdd, Nat.reduceEqDiff, HSL.out] at hK ⊢
      go_wp2_with (fail)
      exact hK _ _ (Below.refl _ _) rfl
     ·intro xq w1 hb1 hx K hK0
      have hK := fun v w' hb => hK0 v w' (.inl hb)
      have e17 : xq 17 = .pointer (some ⟨wr.heap.size, 1, none⟩) := hx 5 (by rfl) (by rfl)
      clear hx hKc hK0
      have k : w1.cell? ⟨wr.heap.size, 1, none⟩ = some (.int .i64 uj) := hb1.2.cell 1
      simp only [frameOf, fill, setSlot, sg, Nat.reduceBEq, if_true, if_false, Nat.reduceAdd, Nat.reduceEqDiff, HSL.out] at hK ⊢
      simp only [e17] at hK ⊢
      clear e17
      go_wp2_with (fail)
      exact hK _ _ (Below.refl _ _) rfl
     ·intro xq w1 hb1 hx K hK0
      have hK := fun v w' hb => hK0 v w' (.inl hb)
      have e14 : xq 14 = .int .i64 mj := hx 2 (by rfl) (by rfl)
      have e16 : xq 16 = .int .i64 lj := hx 4 (by rfl) (by rfl)
      have e18 : xq 18 = .int .i64 uj := hx 6 (by rfl) (by rfl)
      clear hx hKc hK0
      simp only [frameOf, fill, setSlot, sg, Nat.reduceBEq, if_true, if_false, Nat.reduceAdd, Nat.reduceEqDiff, HSL.out] at hK ⊢
      simp only [e14, e16, e18] at hK ⊢
      clear e14 e16 e18
      go_wp2_with (go_at_call 82; refine (within_any _ _ _ _).mono ?_; rw [HW.out]; rintro e w' ⟨rfl, rfl⟩)
      exact hK _ _ (Below.refl _ _) rfl
     ·intro xq w1 hb1 hx K hK0
      have hK := fun v w' hb => hK0 v w' (.inl hb)
      have e19 : xq 19 = .bool true := hx 7 (by rfl) (by rfl)
      clear hx hKc hK0
      simp only [frameOf, fill, setSlot, sg, Nat.reduceBEq, if_true, if_false, Nat.reduceAdd, Nat.reduceEqDiff, HSL.out] at hK ⊢
      simp only [e19] at hK ⊢
      clear e19
      go_wp2_with (fail)
      exact hK _ _ (Below.refl _ _) rfl
    ·intro xq w1 hb1 hx
     have e12 : xq 12 = .int .i64 (j : Int) := hx 0 (by decide)
     have e13 : xq 13 = .pointer (some ⟨w.heap.size + 1, j, none⟩) := hx 1 (by decide)
     have e14 : xq 14 = .int .i64 mj := hx 2 (by decide)
     have e15 : xq 15 = .pointer (some ⟨wr.heap.size, 0, none⟩) := hx 3 (by decide)
     have e16 : xq 16 = .int .i64 lj := hx 4 (by decide)
     have e17 : xq 17 = .pointer (some ⟨wr.heap.size, 1, none⟩) := hx 5 (by decide)
     have e18 : xq 18 = .int .i64 uj := hx 6 (by decide)
     have e19 : xq 19 = .bool true := hx 7 (by decide)
     have e20 : xq 20 = .bool false := hx 8 (by decide)
     clear hx
     simp only [frameOf, fill, setSlot, sg, Nat.reduceBEq, if_true, if_false, Nat.reduceAdd, Nat.reduceEqDiff, HSL.out]
     simp only [e12, e13, e14, e15, e16, e17, e18, e19, e20]
     clear e12 e13 e14 e15 e16 e17 e18 e19 e20
     refine hKc _ _ ?_
     have HX := Lib.hid hb1.1
     have Hmx := Lib.hid (Hm.out.up hb1.1)
     go_wp2_with fail
     go_roundw
     case rel =>
      refine ⟨j + 1, by go_num, by omega, Lib.hid ?_, HB.out.trans (HX.out.mono hszB), Hmx.out⟩
      intro i hi
      by_cases hij : i = j
      ·rw [hij, HK.out, HW.out]
      ·exact HALL.out i (by omega)
     case measure => simp [intOf]; omega
   | false =>
    have HW := Lib.hid hw
    clear hw
    go_wp2_with fail
    rename_i Kc hKc
    have HSL := Lib.hid (show slotsOf [some 12, some 13, some 14, some 15, some 16, some 17, some 18, some 19, some 20] = [12, 13, 14, 15, 16, 17, 18, 19, 20] from rfl)
    refine wp_region_partsG (by kernel_rfl) [some 12, some 13, some 14, some 15, some 16, some 17, some 18, some 19, some 20] (fun jq xq w' => match jq with
     | 0 => xq 12 = .int .i64 (j : Int)
     | 1 => xq 13 = .pointer (some ⟨w.heap.size + 1, j, none⟩)
     | 2 => xq 14 = .int .i64 mj
     | 3 => xq 15 = .pointer (some ⟨wr.heap.size, 0, none⟩)
     | 4 => xq 16 = .int .i64 lj
     | 5 => xq 17 = .pointer (some ⟨wr.heap.size, 1, none⟩)
     | 6 => xq 18 = .int .i64 uj
     | 7 => xq 19 = .bool false
     | 8 => xq 20 = .bool true
     | _ => True) [[12], [13], [14], [15], [16], [17], [18], [19], [20]] [] (fun w' => Below wr.heap.size wr w' ∧ Holds w' wr.heap.size 60 #[.int .i64 lj, .int .i64 uj]) (by kernel_rfl) ?_ ?_ (fun w' w'' hb h => ⟨h.1.trans (hb.mono h.1.size), h.2.up hb⟩) (⟨zg, Holds.new _ _ _⟩) ?_ ?_ ?_
    ·intro jq xq xq' wq h hv
     match jq, h, hv with
     | 0, h, hv => show xq' 12 = .int .i64 (j : Int); rw [← h 12 (by decide)]; exact hv
     | 1, h, hv => show xq' 13 = .pointer (some ⟨w.heap.size + 1, j, none⟩); rw [← h 13 (by decide)]; exact hv
     | 2, h, hv => show xq' 14 = .int .i64 mj; rw [← h 14 (by decide)]; exact hv
     | 3, h, hv => show xq' 15 = .pointer (some ⟨wr.heap.size, 0, none⟩); rw [← h 15 (by decide)]; exact hv
     | 4, h, hv => show xq' 16 = .int .i64 lj; rw [← h 16 (by decide)]; exact hv
     | 5, h, hv => show xq' 17 = .pointer (some ⟨wr.heap.size, 1, none⟩); rw [← h 17 (by decide)]; exact hv
     | 6, h, hv => show xq' 18 = .int .i64 uj; rw [← h 18 (by decide)]; exact hv
     | 7, h, hv => show xq' 19 = .bool false; rw [← h 19 (by decide)]; exact hv
     | 8, h, hv => show xq' 20 = .bool true; rw [← h 20 (by decide)]; exact hv
     | _ + 9, _, _ => trivial
    ·intro jq xq wq w' hb' hv
     match jq, hv with
     | 0, hv => exact hv
     | 1, hv => exact hv
     | 2, hv => exact hv
     | 3, hv => exact hv
     | 4, hv => exact hv
     | 5, hv => exact hv
     | 6, hv => exact hv
     | 7, hv => exact hv
     | 8, hv => exact hv
     | _ + 9, _ => trivial
    ·intro jq hj
     match jq, hj with
     | 0, hj => exact absurd hj (by decide)
     | 1, hj => exact absurd hj (by decide)
     | 2, hj => exact absurd hj (by decide)
     | 3, hj => exact absurd hj (by decide)
     | 4, hj => exact absurd hj (by decide)
     | 5, hj => exact absurd hj (by decide)
     | 6, hj => exact absurd hj (by decide)
     | 7, hj => exact absurd hj (by decide)
     | 8, hj => exact absurd hj (by decide)
     | _ + 9, _ => trivial
    ·refine ⟨?_, ?_, ?_, ?_, ?_, ?_, ?_, ?_, ?_, trivial⟩
     ·intro xq w1 hb1 hx K hK0
      have hK := fun v w' hb => hK0 v w' (.inl hb)
      clear hx hKc hK0
      simp only [frameOf, fill, setSlot, sg, Nat.reduceBEq, if_true, if_false, Nat.reduceAdd, Nat.reduceEqDiff, HSL.out] at hK ⊢
      go_wp2_with (fail)
      exact hK _ _ (Below.refl _ _) rfl
     ·intro xq w1 hb1 hx K hK0
      have hK := fun v w' hb => hK0 v w' (.inl hb)
      have e12 : xq 12 = .int .i64 (j : Int) := hx 0 (by rfl) (by rfl)
      clear hx hKc hK0
      simp only [frameOf, fill, setSlot, sg, Nat.reduceBEq, if_true, if_false, Nat.reduceAdd, Nat.reduceEqDiff, HSL.out] at hK ⊢
      simp only [e12] at hK ⊢
      clear e12
      go_wp2_with (fail)
      exact hK _ _ (Below.refl _ _) rfl
     ·intro xq w1 hb1 hx K hK0
      have hK := fun v w' hb => hK0 v w' (.inl hb)
      have e13 : xq 13 = .pointer (some ⟨w.heap.size + 1, j, none⟩) := hx 1 (by rfl) (by rfl)
      clear hx hKc hK0
      have k : w1.cell? ⟨w.heap.size + 1, j, none⟩ = some (.int .i64 mj) := by rw [HMJ.out]; exact cell4_at (Hm.out.up hb1.1) hj
      simp only [frameOf, fill, setSlot, sg, Nat.reduceBEq, if_true, if_false, Nat.reduceAdd, Nat.reduceEqDiff, HSL.out] at hK ⊢
      simp only [e13] at hK ⊢
      clear e13
      go_wp2_with (fail)
      exact hK _ _ (Below.refl _ _) rfl
     ·intro xq w1 hb1 hx K hK0
      have hK := fun v w' hb => hK0 v w' (.inl hb)
      clear hx hKc hK0
      simp only [frameOf, fill, setSlot, sg, Nat.reduceBEq, if_true, if_false, Nat.reduceAdd, Nat.reduceEqDiff, HSL.out] at hK ⊢
      go_wp2_with (fail)
      exact hK _ _ (Below.refl _ _) rfl
     ·intro xq w1 hb1 hx K hK0
      have hK := fun v w' hb => hK0 v w' (.inl hb)
      have e15 : xq 15 = .pointer (some ⟨wr.heap.size, 0, none⟩) := hx 3 (by rfl) (by rfl)
      clear hx hKc hK0
      have k : w1.cell? ⟨wr.heap.size, 0, none⟩ = some (.int .i64 lj) := hb1.2.cell 0
      simp only [frameOf, fill, setSlot, sg, Nat.reduceBEq, if_true, if_false, Nat.reduceAdd, Nat.reduceEqDiff, HSL.out] at hK ⊢
      simp only [e15] at hK ⊢
      clear e15
      go_wp2_with (fail)
      exact hK _ _ (Below.refl _ _) rfl
     ·intro xq w1 hb1 hx K hK0
      have hK := fun v w' hb => hK0 v w' (.inl hb)
      clear hx hKc hK0
      simp only [frameOf, fill, setSlot, sg, Nat.reduceBEq, if_true, if_false, Nat.reduceAdd, Nat.reduceEqDiff, HSL.out] at hK ⊢
      go_wp2_with (fail)
      exact hK _ _ (Below.refl _ _) rfl
     ·intro xq w1 hb1 hx K hK0
      have hK := fun v w' hb => hK0 v w' (.inl hb)
      have e17 : xq 17 = .pointer (some ⟨wr.heap.size, 1, none⟩) := hx 5 (by rfl) (by rfl)
      clear hx hKc hK0
      have k : w1.cell? ⟨wr.heap.size, 1, none⟩ = some (.int .i64 uj) := hb1.2.cell 1
      simp only [frameOf, fill, setSlot, sg, Nat.reduceBEq, if_true, if_false, Nat.reduceAdd, Nat.reduceEqDiff, HSL.out] at hK ⊢
      simp only [e17] at hK ⊢
      clear e17
      go_wp2_with (fail)
      exact hK _ _ (Below.refl _ _) rfl
     ·intro xq w1 hb1 hx K hK0
      have hK := fun v w' hb => hK0 v w' (.inl hb)
      have e14 : xq 14 = .int .i64 mj := hx 2 (by rfl) (by rfl)
      have e16 : xq 16 = .int .i64 lj := hx 4 (by rfl) (by rfl)
      have e18 : xq 18 = .int .i64 uj := hx 6 (by rfl) (by rfl)
      clear hx hKc hK0
      simp only [frameOf, fill, setSlot, sg, Nat.reduceBEq, if_true, if_false, Nat.reduceAdd, Nat.reduceEqDiff, HSL.out] at hK ⊢
      simp only [e14, e16, e18] at hK ⊢
      clear e14 e16 e18
      go_wp2_with (go_at_call 82; refine (within_any _ _ _ _).mono ?_; rw [HW.out]; rintro e w' ⟨rfl, rfl⟩)
      exact hK _ _ (Below.refl _ _) rfl
     ·intro xq w1 hb1 hx K hK0
      have hK := fun v w' hb => hK0 v w' (.inl hb)
      have e19 : xq 19 = .bool false := hx 7 (by rfl) (by rfl)
      clear hx hKc hK0
      simp only [frameOf, fill, setSlot, sg, Nat.reduceBEq, if_true, if_false, Nat.reduceAdd, Nat.reduceEqDiff, HSL.out] at hK ⊢
      simp only [e19] at hK ⊢
      clear e19
      go_wp2_with (fail)
      exact hK _ _ (Below.refl _ _) rfl
    ·intro xq w1 hb1 hx
     have e12 : xq 12 = .int .i64 (j : Int) := hx 0 (by decide)
     have e13 : xq 13 = .pointer (some ⟨w.heap.size + 1, j, none⟩) := hx 1 (by decide)
     have e14 : xq 14 = .int .i64 mj := hx 2 (by decide)
     have e15 : xq 15 = .pointer (some ⟨wr.heap.size, 0, none⟩) := hx 3 (by decide)
     have e16 : xq 16 = .int .i64 lj := hx 4 (by decide)
     have e17 : xq 17 = .pointer (some ⟨wr.heap.size, 1, none⟩) := hx 5 (by decide)
     have e18 : xq 18 = .int .i64 uj := hx 6 (by decide)
     have e19 : xq 19 = .bool false := hx 7 (by decide)
     have e20 : xq 20 = .bool true := hx 8 (by decide)
     clear hx
     simp only [frameOf, fill, setSlot, sg, Nat.reduceBEq, if_true, if_false, Nat.reduceAdd, Nat.reduceEqDiff, HSL.out]
     simp only [e12, e13, e14, e15, e16, e17, e18, e19, e20]
     clear e12 e13 e14 e15 e16 e17 e18 e19 e20
     refine hKc _ _ ?_
     have HX := Lib.hid hb1.1
     have hf : b.holds m0 m1 m2 m3 = false := holds_not hj (by rw [HK.out, HW.out])
     have HF := Lib.hid hf
     clear hf
     go_wp2_with fail
     go_ret
     exact ⟨by rw [HF.out]; rfl, HB.out.trans (HX.out.mono hszB)⟩
  ·have hj' : j = 4 := by omega
   subst hj'
   have hf := holds_four HALL.out
   have HF := Lib.hid hf
   clear hf
   go_wp2_with fail
   go_ret
   exact ⟨by rw [HF.out]; rfl, HB.out⟩
theorem zp6 {p : Prop} (h : p := by (repeat first | (with_reducible first | assumption | apply Holds.set4 | apply Holds.set4 | apply Holds.putL | ((refine Holds.new' _ _ ?_); (simp; done)) | refine Holds.alloc ?_ _ | refine Holds.drew ?_ | refine Holds.far ?_ (by simp only [ne_eq]; omega) _) | rfl)) : p := h
set_option maxRecDepth 100000 in
set_option maxHeartbeats 4000000 in
theorem Mixture_ok (err miss full empty : Int) (G A : Option Addr) (d c : Nat) (gs : List Gr) (hs : List Hf) (w : World) (hG : GradesAt w G gs) (hgl : gs.length ≤ 1000) (hA : HandsAt w A hs) (hl : hs.length ≤ 1000) (he : bothErr err miss gs full empty hs = 0) (hx : (boundsOf miss (fun _ => true) hs).empty = false) :
  Calls Try.prog 44 #[.agg #[.int .i64 err, .int .i64 miss, .slice G gs.length d], .agg #[.int .i64 full, .int .i64 empty, .slice A hs.length c]] w fun e w' => e = .returned (.tuple #[.agg #[.int .i64 ((boundsOf miss (fun _ => true) hs).l0 + (boundsOf miss (fun _ => true) hs).t0), .int .i64 ((boundsOf miss (fun _ => true) hs).l1 + (boundsOf miss (fun _ => true) hs).t1), .int .i64 ((boundsOf miss (fun _ => true) hs).l2 + (boundsOf miss (fun _ => true) hs).t2), .int .i64 ((boundsOf miss (fun _ => true) hs).l3 + (boundsOf miss (fun _ => true) hs).t3)], .int .i64 0]) ∧ Below w.heap.size w w' := by
 have HA := Lib.hid hA
 have HG := Lib.hid hG
 have HE := Lib.hid he
 have HX := Lib.hid hx
 obtain ⟨b, hbx⟩ : ∃ z, (boundsOf miss (fun _ => true) hs) = z := ⟨_, rfl⟩
 have hbo : b.ok := hbx ▸ bounds_ok miss _ hs
 rw [hbx]
 have HBO := Lib.hid hbo
 have HBX := Lib.hid hbx
 clear hA hG he hx hbo hbx
 go_enter Try.func44, Try.ntmps44
 go_wp2_with fail
 refine (arriveFitting_ok err miss full empty G A d c gs hs _ (HG.out.up zg) hgl (HA.out.up zg) hl HE.out HX.out).mono ?_
 rw [HBX.out]
 rintro e w2 ⟨rfl, hb2⟩
 have Hr2 := Lib.hid (Holds.up (zp4 : Holds _ (w.heap.size + 1 + 1) 28 #[.int .i64 0, .int .i64 0, .int .i64 0, .int .i64 0]) hb2)
 have HB2 : Hid (Below w.heap.size w w2) := Lib.hid (Below.trans zg (hb2.mono (by first | omega | (simp; done) | (simp; omega))))
 have lr := Hr2.out.lt
 clear hb2
 go_wp2_with fail
 refine (mixture_any b HBO.out _).mono ?_
 rintro e w3 ⟨rfl, hb3⟩
 have Hr3 := Lib.hid (Holds.up (by have h := Hr2.out; exact zp4 : Holds _ (w.heap.size + 1 + 1) 28 #[.int .i64 0, .int .i64 0, .int .i64 0, .int .i64 0]) hb3)
 have HB3 : Hid (Below w.heap.size w w3) := Lib.hid (HB2.out.trans (Below.trans zg (hb3.mono (by have := HB2.out.size; simp; omega))))
 obtain ⟨v0, v1, v2, v3⟩ := Hr3.out.c4
 obtain ⟨z0, z1, z2, z3⟩ := Hr3.out.f4
 clear hb3
 go_wp2_with fail
 exact ret_cell2 (t := 28) rfl rfl rfl (by have h := Hr3.out; exact zp6 : Holds _ (w.heap.size + 1 + 1) 28 #[.int .i64 (b.l0 + b.t0), .int .i64 (b.l1 + b.t1), .int .i64 (b.l2 + b.t2), .int .i64 (b.l3 + b.t3)]) Try.underlying28 rfl (by kernel_rfl) rfl ⟨rfl, HB3.out.trans zg⟩
end Go.Proofs.Ytifffonoipapgaa
