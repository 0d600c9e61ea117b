
import Derived.Test.YtifffonoipapgaaLAA
import Derived.Test.YtifffonoipapgaaBAC
import Derived.Test.YtifffonoipapgaaBAE
import Derived.Test.YtifffonoipapgaaBBI
import Derived.Test.YtifffonoipapgaaBBW
set_option linter.unusedSimpArgs false
set_option linter.unusedVariables false
namespace Go.Proofs.Ytifffonoipapgaa
open Go.RowKit
def mxk (m : Mx) (k : Nat) : Int := gat m.a m.b m.c m.d k
theorem mix_cell {w : World} {B o : Nat} {ms : List Mx} (h : ∀ k x, ms[k]? = some x → w.cell? ⟨B, o + k * 4, none⟩ = some (.int .i64 x.a) ∧ w.cell? ⟨B, o + k * 4 + 1, none⟩ = some (.int .i64 x.b) ∧ w.cell? ⟨B, o + k * 4 + 2, none⟩ = some (.int .i64 x.c) ∧ w.cell? ⟨B, o + k * 4 + 3, none⟩ = some (.int .i64 x.d)) {i : Nat} {x : Mx} (hx : ms[i]? = some x) {k : Nat} (hk : k < 4) : w.cell? ⟨B, o + i * 4 + k, none⟩ = some (.int .i64 (mxk x k)) := by
 obtain ⟨h0, h1, h2, h3⟩ := h i x hx
 match k, hk with
 | 0, _ => exact h0
 | 1, _ => exact h1
 | 2, _ => exact h2
 | 3, _ => exact h3
def Row8 (w : World) (O : Nat) (f : Nat → Value) : Prop := w.rowIs O 76 8 f
theorem Row8.up {w w' : World} {O : Nat} {f : Nat → Value} (h : Row8 w O f) (hb : Below w.heap.size w w') : Row8 w' O f := rowIs_up h hb
theorem Row8.lt {w : World} {O : Nat} {f : Nat → Value} (h : Row8 w O f) : O < w.heap.size := World.rowIs.lt h
def put2 (f : Nat → Value) (k : Nat) (a b : Int) : Nat → Value := fun j => if j = k * 2 + 1 then .int .i64 b else if j = k * 2 then .int .i64 a else f j
theorem Row8.put2 {w : World} {O k : Nat} {f : Nat → Value} {a b : Int} (h : Row8 w O f) : Row8 ((w.setCell ⟨O, k * 2, none⟩ (.int .i64 a)).setCell ⟨O, k * 2 + 1, none⟩ (.int .i64 b)) O (put2 f k a b) := (World.rowIs.set h _ _).set _ _
theorem put2_lo (f : Nat → Value) (k : Nat) (a b : Int) : put2 f k a b (k * 2) = .int .i64 a := by unfold put2; rw [if_neg (by omega), if_pos rfl]
theorem put2_hi (f : Nat → Value) (k : Nat) (a b : Int) : put2 f k a b (k * 2 + 1) = .int .i64 b := by unfold put2; rw [if_pos rfl]
theorem put2_lo' (f : Nat → Value) (k : Nat) (a b c : Int) : (fun j => if j = k * 2 then .int .i64 c else put2 f k a b j) = put2 f k c b := by
 funext j
 unfold put2
 by_cases h : j = k * 2
 ·rw [if_pos h, if_neg (by omega), if_pos h]
 ·simp [h]
theorem put2_hi' (f : Nat → Value) (k : Nat) (a b c : Int) : (fun j => if j = k * 2 + 1 then .int .i64 c else put2 f k a b j) = put2 f k a c := by
 funext j
 unfold put2
 by_cases h : j = k * 2 + 1
 ·rw [if_pos h, if_pos h]
 ·simp [h]
theorem span_next {ms : List Mx} {i k : Nat} {u v mi : Int} {x : Mx} (h : ∀ j x, j < i → ms[j]? = some x → u ≤ mxk x k ∧ mxk x k ≤ v) (hx : ms[i]? = some x) (hm : mi = mxk x k) : ∀ j x, j < i + 1 → ms[j]? = some x → min u mi ≤ mxk x k ∧ mxk x k ≤ max v mi := by
 intro j y hj hy
 by_cases e : j = i
 ·subst e; rw [hx] at hy; cases hy; rw [hm]; exact ⟨Int.min_le_right _ _, Int.le_max_right _ _⟩
 ·have := h j y (by omega) hy; omega
def DoneTo (b : Bx) (f : Nat → Value) (k : Nat) : Prop := ∀ j, j < k → f (j * 2) = .int .i64 (bLo b j) ∧ f (j * 2 + 1) = .int .i64 (bHi b j)
theorem DoneTo.next {b : Bx} {f : Nat → Value} {k : Nat} (h : DoneTo b f k) : DoneTo b (put2 f k (bLo b k) (bHi b k)) (k + 1) := by
 intro j hj
 by_cases e : j = k
 ·subst e; exact ⟨put2_lo _ _ _ _, put2_hi _ _ _ _⟩
 ·have := h j (by omega)
  unfold put2
  rw [if_neg (by omega), if_neg (by omega), if_neg (by omega), if_neg (by omega)]
  exact this
theorem eight_at {w : World} {O : Nat} (hO : O = w.heap.size) : Row8 (w.alloc (.cells #[.int .i64 0, .int .i64 0, .int .i64 0, .int .i64 0, .int .i64 0, .int .i64 0, .int .i64 0, .int .i64 0] 76)) O (fun _ => .int .i64 0) := by
 subst hO
 exact World.rowIs_alloc w _ _ _ (fun i hi => by match i, hi with | 0, _ | 1, _ | 2, _ | 3, _ | 4, _ | 5, _ | 6, _ | 7, _ => rfl)
set_option maxRecDepth 100000 in
set_option maxHeartbeats 8000000 in
theorem refBounds_any (b : Bx) (A : Option Addr) (q : Nat) (ms : List Mx) (h0 : 0 < ms.length) (hl : ms.length ≤ 80000) (w : World) (hM : MixAt w A ms) (hlo : ∀ k (m : Mx), k < 4 → m ∈ ms → bLo b k ≤ mxk m k ∧ mxk m k ≤ bHi b k) (hat_ : ∀ k, k < 4 → (∃ m ∈ ms, mxk m k = bLo b k) ∧ ∃ m ∈ ms, mxk m k = bHi b k) :
  Calls Try.prog 42 #[.slice A ms.length q] w fun e w' => e = .returned (.agg #[.int .i64 b.l0, .int .i64 b.h0, .int .i64 b.l1, .int .i64 b.h1, .int .i64 b.l2, .int .i64 b.h2, .int .i64 b.l3, .int .i64 b.h3]) ∧ Below w.heap.size w w' := by
 have HM := Lib.hid hM
 have HLO := Lib.hid hlo
 have HAT := Lib.hid hat_
 clear hM hlo hat_
 go_enter Try.func42, Try.ntmps42
 go_wp2_with fail
 obtain ⟨B, o, rfl, hcell⟩ := HM.out h0
 have HCELL := Lib.hid hcell
 clear hcell
 obtain ⟨x0, hx0⟩ : ∃ x, ms[0]? = some x := ⟨_, List.getElem?_eq_getElem h0⟩
 have hB0 : B < w.heap.size := World.block_lt_of_cell? w _ (HCELL.out 0 x0 hx0).1
 have HX0 := Lib.hid hx0
 clear hx0
 have h0' : (0 : Int) < ms.length := by omega
 go_loopw [4, 5] (fun v4 v5 wr => ∃ (k : Nat) (f : Nat → Value), v4 = .int .i64 (k : Int) ∧ k ≤ 4 ∧ Row8 wr (w.heap.size + 1) (f) ∧ DoneTo b f k ∧ Holds wr (w.heap.size) 76 #[.int .i64 0, .int .i64 0, .int .i64 0, .int .i64 0, .int .i64 0, .int .i64 0, .int .i64 0, .int .i64 0] ∧ Below w.heap.size w wr) (fun v4 _ _ => 4 - (intOf v4).toNat)
 case atStart => exact ⟨0, _, rfl, by decide, eight_at (by simp), fun j hj => absurd hj (Nat.not_lt_zero j), by (repeat first | (with_reducible first | assumption | apply Holds.set3 | apply Holds.set4 | apply Holds.putL | ((refine Holds.new' _ _ ?_); (simp; done)) | refine Holds.alloc ?_ _ | refine Holds.drew ?_ | refine Holds.far ?_ (by simp only [ne_eq]; omega) _) | rfl), zg⟩
 case round =>
  rename World => wa
  obtain ⟨k, f, rfl, hk4, hrow, hdone, hres, hB⟩ := hrel
  have HROW := Lib.hid hrow
  have HD := Lib.hid hdone
  have HRES := Lib.hid hres
  have HB := Lib.hid hB
  have lr := hres.lt
  have lo_ := hrow.lt
  have hz := hB.size
  clear hrow hdone hres hB
  by_cases hk : k < 4
  ·have hk' : (k : Int) < 4 := by omega
   obtain ⟨m0, hm0⟩ : ∃ z, z = mxk x0 k := ⟨_, rfl⟩
   have HM0 := Lib.hid hm0
   clear hm0
   go_wp2_with fail
   rename_i Kc hKc
   have HSL := Lib.hid (show slotsOf [some 10, some 11, some 12, some 13, some 14, some 15, some 16, some 17, some 18, some 19, some 20, some 21, some 22, none] = [10, 11, 12, 13, 14, 15, 16, 17, 18, 19, 20, 21, 22] from rfl)
   refine wp_region_partsG (by kernel_rfl) [some 10, some 11, some 12, some 13, some 14, some 15, some 16, some 17, some 18, some 19, some 20, some 21, some 22, none] (fun jq xq w' => match jq with
    | 0 => xq 10 = .int .i64 (k : Int)
    | 1 => xq 11 = .slice (some ⟨B, o, none⟩) ms.length q
    | 2 => xq 12 = .int .i64 (k : Int)
    | 3 => xq 13 = .pointer (some ⟨B, o, none⟩)
    | 4 => xq 14 = .pointer (some ⟨B, o + k, none⟩)
    | 5 => xq 15 = .int .i64 m0
    | 6 => xq 16 = .slice (some ⟨B, o, none⟩) ms.length q
    | 7 => xq 17 = .int .i64 (k : Int)
    | 8 => xq 18 = .pointer (some ⟨B, o, none⟩)
    | 9 => xq 19 = .pointer (some ⟨B, o + k, none⟩)
    | 10 => xq 20 = .int .i64 m0
    | 11 => xq 21 = .agg #[.int .i64 m0, .int .i64 m0]
    | 12 => xq 22 = .pointer (some ⟨w.heap.size + 1, k * 2, none⟩)
    | 13 => Row8 w' (w.heap.size + 1) (put2 f k m0 m0)
    | 14 => Row8 w' (w.heap.size + 1) f
    | _ => True) [[10], [11], [12], [13], [14], [15], [16], [17], [18], [19], [20], [21], [22], [], []] [(13, 14)] (fun w' => Below (w.heap.size + 1) wa w') (by kernel_rfl)  ?_ ?_ (fun w' w'' hb h => h.trans (hb.mono (Nat.le_trans (by omega) h.size))) (Below.refl _ _) ?_ ?_ ?_
   ·intro jq xq xq' wqq h hv
    match jq, h, hv with
    | 0, h, hv => show xq' 10 = .int .i64 (k : Int); rw [← h 10 (by decide)]; exact hv
    | 1, h, hv => show xq' 11 = .slice (some ⟨B, o, none⟩) ms.length q; rw [← h 11 (by decide)]; exact hv
    | 2, h, hv => show xq' 12 = .int .i64 (k : Int); rw [← h 12 (by decide)]; exact hv
    | 3, h, hv => show xq' 13 = .pointer (some ⟨B, o, none⟩); rw [← h 13 (by decide)]; exact hv
    | 4, h, hv => show xq' 14 = .pointer (some ⟨B, o + k, none⟩); rw [← h 14 (by decide)]; exact hv
    | 5, h, hv => show xq' 15 = .int .i64 m0; rw [← h 15 (by decide)]; exact hv
    | 6, h, hv => show xq' 16 = .slice (some ⟨B, o, none⟩) ms.length q; rw [← h 16 (by decide)]; exact hv
    | 7, h, hv => show xq' 17 = .int .i64 (k : Int); rw [← h 17 (by decide)]; exact hv
    | 8, h, hv => show xq' 18 = .pointer (some ⟨B, o, none⟩); rw [← h 18 (by decide)]; exact hv
    | 9, h, hv => show xq' 19 = .pointer (some ⟨B, o + k, none⟩); rw [← h 19 (by decide)]; exact hv
    | 10, h, hv => show xq' 20 = .int .i64 m0; rw [← h 20 (by decide)]; exact hv
    | 11, h, hv => show xq' 21 = .agg #[.int .i64 m0, .int .i64 m0]; rw [← h 21 (by decide)]; exact hv
    | 12, h, hv => show xq' 22 = .pointer (some ⟨w.heap.size + 1, k * 2, none⟩); rw [← h 22 (by decide)]; exact hv
    | 13, h, hv => exact hv
    | 14, h, hv => exact hv
    | _ + 15, _, _ => trivial
   ·intro jq xq wqq w' hb' hv
    match jq, hv with
    | 0, hv => exact hv
    | 1, hv => exact hv
    | 2, hv => exact hv
    | 3, hv => exact hv
    | 4, hv => exact hv
    | 5, hv => exact hv
    | 6, hv => exact hv
    | 7, hv => exact hv
    | 8, hv => exact hv
    | 9, hv => exact hv
    | 10, hv => exact hv
    | 11, hv => exact hv
    | 12, hv => exact hv
    | 13, h0 => exact h0.up hb'
    | 14, h0 => exact h0.up hb'
    | _ + 15, _ => trivial
   ·intro jq hj
    match jq, hj with
    | 0, hj => exact absurd hj (by decide)
    | 1, hj => exact absurd hj (by decide)
    | 2, hj => exact absurd hj (by decide)
    | 3, hj => exact absurd hj (by decide)
    | 4, hj => exact absurd hj (by decide)
    | 5, hj => exact absurd hj (by decide)
    | 6, hj => exact absurd hj (by decide)
    | 7, hj => exact absurd hj (by decide)
    | 8, hj => exact absurd hj (by decide)
    | 9, hj => exact absurd hj (by decide)
    | 10, hj => exact absurd hj (by decide)
    | 11, hj => exact absurd hj (by decide)
    | 12, hj => exact absurd hj (by decide)
    | 13, hj => exact absurd hj (by decide)
    | 14, _ => exact HROW.out
    | _ + 15, _ => trivial
   ·refine ⟨?_, ?_, ?_, ?_, ?_, ?_, ?_, ?_, ?_, ?_, ?_, ?_, ?_, ?_, trivial⟩
    ·intro xq w1 hb1 hx K hK0
     have hK := fun v w' hb => hK0 v w' (.inl hb)
     clear hx hKc hK0
     simp only [frameOf, fill, setSlot, sg, Nat.reduceBEq, if_true, if_false, Nat.reduceAdd, Nat.reduceEqDiff, HSL.out] at hK ⊢
     go_wp2_with (fail)
     exact hK _ _ (Below.refl _ _) rfl
    ·intro xq w1 hb1 hx K hK0
     have hK := fun v w' hb => hK0 v w' (.inl hb)
     clear hx hKc hK0
     simp only [frameOf, fill, setSlot, sg, Nat.reduceBEq, if_true, if_false, Nat.reduceAdd, Nat.reduceEqDiff, HSL.out] at hK ⊢
     go_wp2_with (fail)
     exact hK _ _ (Below.refl _ _) rfl
    ·intro xq w1 hb1 hx K hK0
     have hK := fun v w' hb => hK0 v w' (.inl hb)
     clear hx hKc hK0
     simp only [frameOf, fill, setSlot, sg, Nat.reduceBEq, if_true, if_false, Nat.reduceAdd, Nat.reduceEqDiff, HSL.out] at hK ⊢
     go_wp2_with (fail)
     exact hK _ _ (Below.refl _ _) rfl
    ·intro xq w1 hb1 hx K hK0
     have hK := fun v w' hb => hK0 v w' (.inl hb)
     have e11 : xq 11 = .slice (some ⟨B, o, none⟩) ms.length q := hx 1 (by rfl) (by rfl)
     clear hx hKc hK0
     simp only [frameOf, fill, setSlot, sg, Nat.reduceBEq, if_true, if_false, Nat.reduceAdd, Nat.reduceEqDiff, HSL.out] at hK ⊢
     simp only [e11] at hK ⊢
     clear e11
     go_wp2_with (fail)
     exact hK _ _ (Below.refl _ _) rfl
    ·intro xq w1 hb1 hx K hK0
     have hK := fun v w' hb => hK0 v w' (.inl hb)
     have e12 : xq 12 = .int .i64 (k : Int) := hx 2 (by rfl) (by rfl)
     have e13 : xq 13 = .pointer (some ⟨B, o, none⟩) := hx 3 (by rfl) (by rfl)
     clear hx hKc hK0
     simp only [frameOf, fill, setSlot, sg, Nat.reduceBEq, if_true, if_false, Nat.reduceAdd, Nat.reduceEqDiff, HSL.out] at hK ⊢
     simp only [e12, e13] at hK ⊢
     clear e12 e13
     go_wp2_with (fail)
     exact hK _ _ (Below.refl _ _) rfl
    ·intro xq w1 hb1 hx K hK0
     have hK := fun v w' hb => hK0 v w' (.inl hb)
     have e14 : xq 14 = .pointer (some ⟨B, o + k, none⟩) := hx 4 (by rfl) (by rfl)
     clear hx hKc hK0
     have km : w1.cell? ⟨B, o + k, none⟩ = some (.int .i64 m0) := by have h := (HB.out.cell (p := ⟨B, o + 0 * 4 + k, none⟩) hB0).trans (mix_cell HCELL.out HX0.out hk); rw [← HM0.out] at h; exact (hb1.cell (p := ⟨B, o + k, none⟩) (by show B < w.heap.size + 1; omega)).trans (by simpa using h)
     simp only [frameOf, fill, setSlot, sg, Nat.reduceBEq, if_true, if_false, Nat.reduceAdd, Nat.reduceEqDiff, HSL.out] at hK ⊢
     simp only [e14] at hK ⊢
     clear e14
     go_wp2_with (fail)
     exact hK _ _ (Below.refl _ _) rfl
    ·intro xq w1 hb1 hx K hK0
     have hK := fun v w' hb => hK0 v w' (.inl hb)
     clear hx hKc hK0
     simp only [frameOf, fill, setSlot, sg, Nat.reduceBEq, if_true, if_false, Nat.reduceAdd, Nat.reduceEqDiff, HSL.out] at hK ⊢
     go_wp2_with (fail)
     exact hK _ _ (Below.refl _ _) rfl
    ·intro xq w1 hb1 hx K hK0
     have hK := fun v w' hb => hK0 v w' (.inl hb)
     clear hx hKc hK0
     simp only [frameOf, fill, setSlot, sg, Nat.reduceBEq, if_true, if_false, Nat.reduceAdd, Nat.reduceEqDiff, HSL.out] at hK ⊢
     go_wp2_with (fail)
     exact hK _ _ (Below.refl _ _) rfl
    ·intro xq w1 hb1 hx K hK0
     have hK := fun v w' hb => hK0 v w' (.inl hb)
     have e16 : xq 16 = .slice (some ⟨B, o, none⟩) ms.length q := hx 6 (by rfl) (by rfl)
     clear hx hKc hK0
     simp only [frameOf, fill, setSlot, sg, Nat.reduceBEq, if_true, if_false, Nat.reduceAdd, Nat.reduceEqDiff, HSL.out] at hK ⊢
     simp only [e16] at hK ⊢
     clear e16
     go_wp2_with (fail)
     exact hK _ _ (Below.refl _ _) rfl
    ·intro xq w1 hb1 hx K hK0
     have hK := fun v w' hb => hK0 v w' (.inl hb)
     have e17 : xq 17 = .int .i64 (k : Int) := hx 7 (by rfl) (by rfl)
     have e18 : xq 18 = .pointer (some ⟨B, o, none⟩) := hx 8 (by rfl) (by rfl)
     clear hx hKc hK0
     simp only [frameOf, fill, setSlot, sg, Nat.reduceBEq, if_true, if_false, Nat.reduceAdd, Nat.reduceEqDiff, HSL.out] at hK ⊢
     simp only [e17, e18] at hK ⊢
     clear e17 e18
     go_wp2_with (fail)
     exact hK _ _ (Below.refl _ _) rfl
    ·intro xq w1 hb1 hx K hK0
     have hK := fun v w' hb => hK0 v w' (.inl hb)
     have e19 : xq 19 = .pointer (some ⟨B, o + k, none⟩) := hx 9 (by rfl) (by rfl)
     clear hx hKc hK0
     have km : w1.cell? ⟨B, o + k, none⟩ = some (.int .i64 m0) := by have h := (HB.out.cell (p := ⟨B, o + 0 * 4 + k, none⟩) hB0).trans (mix_cell HCELL.out HX0.out hk); rw [← HM0.out] at h; exact (hb1.cell (p := ⟨B, o + k, none⟩) (by show B < w.heap.size + 1; omega)).trans (by simpa using h)
     simp only [frameOf, fill, setSlot, sg, Nat.reduceBEq, if_true, if_false, Nat.reduceAdd, Nat.reduceEqDiff, HSL.out] at hK ⊢
     simp only [e19] at hK ⊢
     clear e19
     go_wp2_with (fail)
     exact hK _ _ (Below.refl _ _) rfl
    ·intro xq w1 hb1 hx K hK0
     have hK := fun v w' hb => hK0 v w' (.inl hb)
     have e15 : xq 15 = .int .i64 m0 := hx 5 (by rfl) (by rfl)
     have e20 : xq 20 = .int .i64 m0 := hx 10 (by rfl) (by rfl)
     clear hx hKc hK0
     simp only [frameOf, fill, setSlot, sg, Nat.reduceBEq, if_true, if_false, Nat.reduceAdd, Nat.reduceEqDiff, HSL.out] at hK ⊢
     simp only [e15, e20] at hK ⊢
     clear e15 e20
     go_wp2_with (fail)
     exact hK _ _ (Below.refl _ _) rfl
    ·intro xq w1 hb1 hx K hK0
     have hK := fun v w' hb => hK0 v w' (.inl hb)
     have e10 : xq 10 = .int .i64 (k : Int) := hx 0 (by rfl) (by rfl)
     clear hx hKc hK0
     simp only [frameOf, fill, setSlot, sg, Nat.reduceBEq, if_true, if_false, Nat.reduceAdd, Nat.reduceEqDiff, HSL.out] at hK ⊢
     simp only [e10] at hK ⊢
     clear e10
     go_wp2_with (fail)
     exact hK _ _ (Below.refl _ _) rfl
    ·intro xq w1 hb1 hx K hK0
     have hK := fun v w' hb => hK0 v w' (.inr hb)
     have e21 : xq 21 = .agg #[.int .i64 m0, .int .i64 m0] := hx 11 (by rfl) (by rfl)
     have e22 : xq 22 = .pointer (some ⟨w.heap.size + 1, k * 2, none⟩) := hx 12 (by rfl) (by rfl)
     have fir_0 : Row8 w1 (w.heap.size + 1) f := hx 14 (by rfl) (by rfl)
     clear hx hKc hK0
     have c0 : w1.cell? ⟨w.heap.size + 1, k * 2, none⟩ = some (f (k * 2)) := World.rowIs.cell fir_0 (by omega)
     have c1 : w1.cell? ⟨w.heap.size + 1, k * 2 + 1, none⟩ = some (f (k * 2 + 1)) := World.rowIs.cell fir_0 (by omega)
     have z0 : w1.frozen? ⟨w.heap.size + 1, k * 2, none⟩ = false := World.rowIs.frozen fir_0 _
     have z1 : w1.frozen? ⟨w.heap.size + 1, k * 2 + 1, none⟩ = false := World.rowIs.frozen fir_0 _
     simp only [frameOf, fill, setSlot, sg, Nat.reduceBEq, if_true, if_false, Nat.reduceAdd, Nat.reduceEqDiff, HSL.out] at hK ⊢
     have E21 := Lib.hid e21
     have E22 := Lib.hid e22
     simp only [e21, e22] at hK ⊢
     clear e21 e22
     go_wp2_with (fail)
     refine hK undef _ ⟨(hb1.trans zg), ?_⟩ (Row8.put2 fir_0)
     intro jq xq hd hne hv
     match jq, hd, hne, hv with
     | 0, _, _, hv => exact hv
     | 1, _, _, hv => exact hv
     | 2, _, _, hv => exact hv
     | 3, _, _, hv => exact hv
     | 4, _, _, hv => exact hv
     | 5, _, _, hv => exact hv
     | 6, _, _, hv => exact hv
     | 7, _, _, hv => exact hv
     | 8, _, _, hv => exact hv
     | 9, _, _, hv => exact hv
     | 10, _, _, hv => exact hv
     | 11, _, _, hv => exact hv
     | 12, _, _, hv => exact hv
     | 13, _, hne, _ => exact absurd rfl hne
     | 14, hd, _, _ => exact absurd hd (by decide)
     | _ + 15, _, _, _ => trivial
   ·intro xq w1 hb1 hx
    have e10 : xq 10 = .int .i64 (k : Int) := hx 0 (by decide)
    have e11 : xq 11 = .slice (some ⟨B, o, none⟩) ms.length q := hx 1 (by decide)
    have e12 : xq 12 = .int .i64 (k : Int) := hx 2 (by decide)
    have e13 : xq 13 = .pointer (some ⟨B, o, none⟩) := hx 3 (by decide)
    have e14 : xq 14 = .pointer (some ⟨B, o + k, none⟩) := hx 4 (by decide)
    have e15 : xq 15 = .int .i64 m0 := hx 5 (by decide)
    have e16 : xq 16 = .slice (some ⟨B, o, none⟩) ms.length q := hx 6 (by decide)
    have e17 : xq 17 = .int .i64 (k : Int) := hx 7 (by decide)
    have e18 : xq 18 = .pointer (some ⟨B, o, none⟩) := hx 8 (by decide)
    have e19 : xq 19 = .pointer (some ⟨B, o + k, none⟩) := hx 9 (by decide)
    have e20 : xq 20 = .int .i64 m0 := hx 10 (by decide)
    have e21 : xq 21 = .agg #[.int .i64 m0, .int .i64 m0] := hx 11 (by decide)
    have e22 : xq 22 = .pointer (some ⟨w.heap.size + 1, k * 2, none⟩) := hx 12 (by decide)
    have fn13_0 : Row8 w1 (w.heap.size + 1) (put2 f k m0 m0) := hx 13 (by decide)
    clear hx
    simp only [frameOf, fill, setSlot, sg, Nat.reduceBEq, if_true, if_false, Nat.reduceAdd, Nat.reduceEqDiff, HSL.out]
    simp only [e10, e11, e12, e13, e14, e15, e16, e17, e18, e19, e20, e21, e22]
    clear e10 e11 e12 e13 e14 e15 e16 e17 e18 e19 e20 e21 e22
    refine hKc _ _ ?_
    have HR := Lib.hid hb1
    have HROW1 := Lib.hid fn13_0
    have HRES1 := Lib.hid (HRES.out.low hb1 (Nat.lt_succ_self _))
    have HB1 := Lib.hid (HB.out.trans (hb1.mono (by omega)))
    have hz1 := hb1.size
    clear hb1 fn13_0
    go_wp2_with fail
    go_loopw [5] (fun v5 wr => ∃ (i : Nat) (u v : Int), v5 = .int .i64 (i : Int) ∧ i ≤ ms.length ∧ Hid (∀ j x, j < i → ms[j]? = some x → u ≤ mxk x k ∧ mxk x k ≤ v) ∧ bLo b k ≤ u ∧ v ≤ bHi b k ∧ u ≤ v ∧ Row8 wr (w.heap.size + 1) (put2 f k u v) ∧ Holds wr (w.heap.size) 76 #[.int .i64 0, .int .i64 0, .int .i64 0, .int .i64 0, .int .i64 0, .int .i64 0, .int .i64 0, .int .i64 0] ∧ Below w.heap.size w wr) (fun v5 _ => ms.length - (intOf v5).toNat)
    case atStart => exact ⟨0, m0, m0, rfl, Nat.zero_le _, Lib.hid (fun j x hj => absurd hj (Nat.not_lt_zero j)), by rw [HM0.out]; exact (HLO.out k x0 hk (List.mem_of_getElem? HX0.out)).1, by rw [HM0.out]; exact (HLO.out k x0 hk (List.mem_of_getElem? HX0.out)).2, Int.le_refl _, HROW1.out, HRES1.out, HB1.out⟩
    case round =>
     clear HROW HRES HB lr lo_ hz HROW1 HRES1 HB1 hz1 HR
     rename World => wb
     obtain ⟨i, u, v, rfl, hi, hge, hu, hv, huv, hrow, hres, hB⟩ := hrel
     have HROW := Lib.hid hrow
     have HRES := Lib.hid hres
     have HB := Lib.hid hB
     have lr := hres.lt
     have lo_ := hrow.lt
     have hz := hB.size
     clear hrow hres hB
     by_cases hlt : i < ms.length
     ·have hlt' : (i : Int) < ms.length := by omega
      obtain ⟨x, hx⟩ : ∃ x, ms[i]? = some x := ⟨_, List.getElem?_eq_getElem hlt⟩
      obtain ⟨mi, hmi⟩ : ∃ z, z = mxk x k := ⟨_, rfl⟩
      have hmb := HLO.out k x hk (List.mem_of_getElem? hx)
      rw [← hmi] at hmb
      have HX := Lib.hid hx
      have HMI := Lib.hid hmi
      clear hx hmi
      go_wp2_with fail
      rename_i Kc9 hKc9
      have hKc := hKc9
      have HSL := Lib.hid (show slotsOf [some 29, some 30, some 31, some 32, some 33, some 34, some 35, some 36, some 37, some 38, some 39, some 40, some 41, some 42, none] = [29, 30, 31, 32, 33, 34, 35, 36, 37, 38, 39, 40, 41, 42] from rfl)
      refine wp_region_partsG (by kernel_rfl) [some 29, some 30, some 31, some 32, some 33, some 34, some 35, some 36, some 37, some 38, some 39, some 40, some 41, some 42, none] (fun jq xq w' => match jq with
       | 0 => xq 29 = .int .i64 (k : Int)
       | 1 => xq 30 = .int .i64 (k : Int)
       | 2 => xq 31 = .pointer (some ⟨w.heap.size + 1, k * 2, none⟩)
       | 3 => xq 32 = .pointer (some ⟨w.heap.size + 1, k * 2, none⟩)
       | 4 => xq 33 = .int .i64 u
       | 5 => xq 34 = .slice (some ⟨B, o, none⟩) ms.length q
       | 6 => xq 35 = .int .i64 (i : Int)
       | 7 => xq 36 = .int .i64 (k : Int)
       | 8 => xq 37 = .pointer (some ⟨B, o + i * 4, none⟩)
       | 9 => xq 38 = .pointer (some ⟨B, o + i * 4 + k, none⟩)
       | 10 => xq 39 = .int .i64 mi
       | 11 => xq 40 = .int .i64 (min u mi)
       | 12 => xq 41 = .pointer (some ⟨w.heap.size + 1, k * 2, none⟩)
       | 13 => xq 42 = .pointer (some ⟨w.heap.size + 1, k * 2, none⟩)
       | 14 => Row8 w' (w.heap.size + 1) (put2 f k (min u mi) v)
       | 15 => Row8 w' (w.heap.size + 1) (put2 f k u v)
       | _ => True) [[29], [30], [31], [32], [33], [34], [35], [36], [37], [38], [39], [40], [41], [42], [], []] [(14, 15)] (fun w' => Below (w.heap.size + 1) wb w') (by kernel_rfl)  ?_ ?_ (fun w' w'' hb h => h.trans (hb.mono (Nat.le_trans (by omega) h.size))) (Below.refl _ _) ?_ ?_ ?_
      ·intro jq xq xq' wqq h hv
       match jq, h, hv with
       | 0, h, hv => show xq' 29 = .int .i64 (k : Int); rw [← h 29 (by decide)]; exact hv
       | 1, h, hv => show xq' 30 = .int .i64 (k : Int); rw [← h 30 (by decide)]; exact hv
       | 2, h, hv => show xq' 31 = .pointer (some ⟨w.heap.size + 1, k * 2, none⟩); rw [← h 31 (by decide)]; exact hv
       | 3, h, hv => show xq' 32 = .pointer (some ⟨w.heap.size + 1, k * 2, none⟩); rw [← h 32 (by decide)]; exact hv
       | 4, h, hv => show xq' 33 = .int .i64 u; rw [← h 33 (by decide)]; exact hv
       | 5, h, hv => show xq' 34 = .slice (some ⟨B, o, none⟩) ms.length q; rw [← h 34 (by decide)]; exact hv
       | 6, h, hv => show xq' 35 = .int .i64 (i : Int); rw [← h 35 (by decide)]; exact hv
       | 7, h, hv => show xq' 36 = .int .i64 (k : Int); rw [← h 36 (by decide)]; exact hv
       | 8, h, hv => show xq' 37 = .pointer (some ⟨B, o + i * 4, none⟩); rw [← h 37 (by decide)]; exact hv
       | 9, h, hv => show xq' 38 = .pointer (some ⟨B, o + i * 4 + k, none⟩); rw [← h 38 (by decide)]; exact hv
       | 10, h, hv => show xq' 39 = .int .i64 mi; rw [← h 39 (by decide)]; exact hv
       | 11, h, hv => show xq' 40 = .int .i64 (min u mi); rw [← h 40 (by decide)]; exact hv
       | 12, h, hv => show xq' 41 = .pointer (some ⟨w.heap.size + 1, k * 2, none⟩); rw [← h 41 (by decide)]; exact hv
       | 13, h, hv => show xq' 42 = .pointer (some ⟨w.heap.size + 1, k * 2, none⟩); rw [← h 42 (by decide)]; exact hv
       | 14, h, hv => exact hv
       | 15, h, hv => exact hv
       | _ + 16, _, _ => trivial
      ·intro jq xq wqq w' hb' hv
       match jq, hv with
       | 0, hv => exact hv
       | 1, hv => exact hv
       | 2, hv => exact hv
       | 3, hv => exact hv
       | 4, hv => exact hv
       | 5, hv => exact hv
       | 6, hv => exact hv
       | 7, hv => exact hv
       | 8, hv => exact hv
       | 9, hv => exact hv
       | 10, hv => exact hv
       | 11, hv => exact hv
       | 12, hv => exact hv
       | 13, hv => exact hv
       | 14, h0 => exact h0.up hb'
       | 15, h0 => exact h0.up hb'
       | _ + 16, _ => trivial
      ·intro jq hj
       match jq, hj with
       | 0, hj => exact absurd hj (by decide)
       | 1, hj => exact absurd hj (by decide)
       | 2, hj => exact absurd hj (by decide)
       | 3, hj => exact absurd hj (by decide)
       | 4, hj => exact absurd hj (by decide)
       | 5, hj => exact absurd hj (by decide)
       | 6, hj => exact absurd hj (by decide)
       | 7, hj => exact absurd hj (by decide)
       | 8, hj => exact absurd hj (by decide)
       | 9, hj => exact absurd hj (by decide)
       | 10, hj => exact absurd hj (by decide)
       | 11, hj => exact absurd hj (by decide)
       | 12, hj => exact absurd hj (by decide)
       | 13, hj => exact absurd hj (by decide)
       | 14, hj => exact absurd hj (by decide)
       | 15, _ => exact HROW.out
       | _ + 16, _ => trivial
      ·refine ⟨?_, ?_, ?_, ?_, ?_, ?_, ?_, ?_, ?_, ?_, ?_, ?_, ?_, ?_, ?_, trivial⟩
       ·intro xq w1 hb1 hx K hK0
        have hK := fun v w' hb => hK0 v w' (.inl hb)
        clear hx hKc hK0
        simp only [frameOf, fill, setSlot, sg, Nat.reduceBEq, if_true, if_false, Nat.reduceAdd, Nat.reduceEqDiff, HSL.out] at hK ⊢
        go_wp2_with (fail)
        exact hK _ _ (Below.refl _ _) rfl
       ·intro xq w1 hb1 hx K hK0
        have hK := fun v w' hb => hK0 v w' (.inl hb)
        clear hx hKc hK0
        simp only [frameOf, fill, setSlot, sg, Nat.reduceBEq, if_true, if_false, Nat.reduceAdd, Nat.reduceEqDiff, HSL.out] at hK ⊢
        go_wp2_with (fail)
        exact hK _ _ (Below.refl _ _) rfl
       ·intro xq w1 hb1 hx K hK0
        have hK := fun v w' hb => hK0 v w' (.inl hb)
        have e30 : xq 30 = .int .i64 (k : Int) := hx 1 (by rfl) (by rfl)
        clear hx hKc hK0
        simp only [frameOf, fill, setSlot, sg, Nat.reduceBEq, if_true, if_false, Nat.reduceAdd, Nat.reduceEqDiff, HSL.out] at hK ⊢
        simp only [e30] at hK ⊢
        clear e30
        go_wp2_with (fail)
        exact hK _ _ (Below.refl _ _) rfl
       ·intro xq w1 hb1 hx K hK0
        have hK := fun v w' hb => hK0 v w' (.inl hb)
        have e31 : xq 31 = .pointer (some ⟨w.heap.size + 1, k * 2, none⟩) := hx 2 (by rfl) (by rfl)
        clear hx hKc hK0
        simp only [frameOf, fill, setSlot, sg, Nat.reduceBEq, if_true, if_false, Nat.reduceAdd, Nat.reduceEqDiff, HSL.out] at hK ⊢
        simp only [e31] at hK ⊢
        clear e31
        go_wp2_with (fail)
        exact hK _ _ (Below.refl _ _) rfl
       ·intro xq w1 hb1 hx K hK0
        have hK := fun v w' hb => hK0 v w' (.inl hb)
        have e32 : xq 32 = .pointer (some ⟨w.heap.size + 1, k * 2, none⟩) := hx 3 (by rfl) (by rfl)
        have fir_0 : Row8 w1 (w.heap.size + 1) (put2 f k u v) := hx 15 (by rfl) (by rfl)
        clear hx hKc hK0
        have c0 : w1.cell? ⟨w.heap.size + 1, k * 2, none⟩ = some (.int .i64 (u)) := (World.rowIs.cell fir_0 (by omega)).trans (congrArg some (put2_lo _ _ _ _))
        simp only [frameOf, fill, setSlot, sg, Nat.reduceBEq, if_true, if_false, Nat.reduceAdd, Nat.reduceEqDiff, HSL.out] at hK ⊢
        simp only [e32] at hK ⊢
        clear e32
        go_wp2_with (fail)
        exact hK _ _ (Below.refl _ _) rfl
       ·intro xq w1 hb1 hx K hK0
        have hK := fun v w' hb => hK0 v w' (.inl hb)
        clear hx hKc hK0
        simp only [frameOf, fill, setSlot, sg, Nat.reduceBEq, if_true, if_false, Nat.reduceAdd, Nat.reduceEqDiff, HSL.out] at hK ⊢
        go_wp2_with (fail)
        exact hK _ _ (Below.refl _ _) rfl
       ·intro xq w1 hb1 hx K hK0
        have hK := fun v w' hb => hK0 v w' (.inl hb)
        clear hx hKc hK0
        simp only [frameOf, fill, setSlot, sg, Nat.reduceBEq, if_true, if_false, Nat.reduceAdd, Nat.reduceEqDiff, HSL.out] at hK ⊢
        go_wp2_with (fail)
        exact hK _ _ (Below.refl _ _) rfl
       ·intro xq w1 hb1 hx K hK0
        have hK := fun v w' hb => hK0 v w' (.inl hb)
        clear hx hKc hK0
        simp only [frameOf, fill, setSlot, sg, Nat.reduceBEq, if_true, if_false, Nat.reduceAdd, Nat.reduceEqDiff, HSL.out] at hK ⊢
        go_wp2_with (fail)
        exact hK _ _ (Below.refl _ _) rfl
       ·intro xq w1 hb1 hx K hK0
        have hK := fun v w' hb => hK0 v w' (.inl hb)
        have e34 : xq 34 = .slice (some ⟨B, o, none⟩) ms.length q := hx 5 (by rfl) (by rfl)
        have e35 : xq 35 = .int .i64 (i : Int) := hx 6 (by rfl) (by rfl)
        clear hx hKc hK0
        have hii : (i : Int) < ms.length := by omega
        simp only [frameOf, fill, setSlot, sg, Nat.reduceBEq, if_true, if_false, Nat.reduceAdd, Nat.reduceEqDiff, HSL.out] at hK ⊢
        simp only [e34, e35] at hK ⊢
        clear e34 e35
        go_wp2_with (fail)
        exact hK _ _ (Below.refl _ _) rfl
       ·intro xq w1 hb1 hx K hK0
        have hK := fun v w' hb => hK0 v w' (.inl hb)
        have e36 : xq 36 = .int .i64 (k : Int) := hx 7 (by rfl) (by rfl)
        have e37 : xq 37 = .pointer (some ⟨B, o + i * 4, none⟩) := hx 8 (by rfl) (by rfl)
        clear hx hKc hK0
        simp only [frameOf, fill, setSlot, sg, Nat.reduceBEq, if_true, if_false, Nat.reduceAdd, Nat.reduceEqDiff, HSL.out] at hK ⊢
        simp only [e36, e37] at hK ⊢
        clear e36 e37
        go_wp2_with (fail)
        exact hK _ _ (Below.refl _ _) rfl
       ·intro xq w1 hb1 hx K hK0
        have hK := fun v w' hb => hK0 v w' (.inl hb)
        have e38 : xq 38 = .pointer (some ⟨B, o + i * 4 + k, none⟩) := hx 9 (by rfl) (by rfl)
        clear hx hKc hK0
        have km : w1.cell? ⟨B, o + i * 4 + k, none⟩ = some (.int .i64 mi) := by rw [HMI.out]; exact (hb1.cell (p := ⟨B, o + i * 4 + k, none⟩) (by show B < w.heap.size + 1; omega)).trans ((HB.out.cell (p := ⟨B, o + i * 4 + k, none⟩) hB0).trans (mix_cell HCELL.out HX.out hk))
        simp only [frameOf, fill, setSlot, sg, Nat.reduceBEq, if_true, if_false, Nat.reduceAdd, Nat.reduceEqDiff, HSL.out] at hK ⊢
        simp only [e38] at hK ⊢
        clear e38
        go_wp2_with (fail)
        exact hK _ _ (Below.refl _ _) rfl
       ·intro xq w1 hb1 hx K hK0
        have hK := fun v w' hb => hK0 v w' (.inl hb)
        have e33 : xq 33 = .int .i64 u := hx 4 (by rfl) (by rfl)
        have e39 : xq 39 = .int .i64 mi := hx 10 (by rfl) (by rfl)
        clear hx hKc hK0
        simp only [frameOf, fill, setSlot, sg, Nat.reduceBEq, if_true, if_false, Nat.reduceAdd, Nat.reduceEqDiff, HSL.out] at hK ⊢
        simp only [e33, e39] at hK ⊢
        clear e33 e39
        go_wp2_with (fail)
        all_goals first | exact hK _ _ (Below.refl _ _) rfl | exact hK _ _ (Below.refl _ _) (congrArg (Value.int .i64) (by omega))
       ·intro xq w1 hb1 hx K hK0
        have hK := fun v w' hb => hK0 v w' (.inl hb)
        have e29 : xq 29 = .int .i64 (k : Int) := hx 0 (by rfl) (by rfl)
        clear hx hKc hK0
        simp only [frameOf, fill, setSlot, sg, Nat.reduceBEq, if_true, if_false, Nat.reduceAdd, Nat.reduceEqDiff, HSL.out] at hK ⊢
        simp only [e29] at hK ⊢
        clear e29
        go_wp2_with (fail)
        exact hK _ _ (Below.refl _ _) rfl
       ·intro xq w1 hb1 hx K hK0
        have hK := fun v w' hb => hK0 v w' (.inl hb)
        have e41 : xq 41 = .pointer (some ⟨w.heap.size + 1, k * 2, none⟩) := hx 12 (by rfl) (by rfl)
        clear hx hKc hK0
        simp only [frameOf, fill, setSlot, sg, Nat.reduceBEq, if_true, if_false, Nat.reduceAdd, Nat.reduceEqDiff, HSL.out] at hK ⊢
        simp only [e41] at hK ⊢
        clear e41
        go_wp2_with (fail)
        exact hK _ _ (Below.refl _ _) rfl
       ·intro xq w1 hb1 hx K hK0
        have hK := fun v w' hb => hK0 v w' (.inr hb)
        have e40 : xq 40 = .int .i64 (min u mi) := hx 11 (by rfl) (by rfl)
        have e42 : xq 42 = .pointer (some ⟨w.heap.size + 1, k * 2, none⟩) := hx 13 (by rfl) (by rfl)
        have fir_0 : Row8 w1 (w.heap.size + 1) (put2 f k u v) := hx 15 (by rfl) (by rfl)
        clear hx hKc hK0
        have c0 : w1.cell? ⟨w.heap.size + 1, k * 2, none⟩ = some (.int .i64 (u)) := (World.rowIs.cell fir_0 (by omega)).trans (congrArg some (put2_lo _ _ _ _))
        have z0 : w1.frozen? ⟨w.heap.size + 1, k * 2, none⟩ = false := World.rowIs.frozen fir_0 _
        simp only [frameOf, fill, setSlot, sg, Nat.reduceBEq, if_true, if_false, Nat.reduceAdd, Nat.reduceEqDiff, HSL.out] at hK ⊢
        have E40 := Lib.hid e40
        have E42 := Lib.hid e42
        simp only [e40, e42] at hK ⊢
        clear e40 e42
        go_wp2_with (fail)
        refine hK undef _ ⟨(hb1.trans zg), ?_⟩ (by have h := World.rowIs.set fir_0 (k * 2) (.int .i64 (min u mi)); rw [put2_lo'] at h; exact h)
        intro jq xq hd hne hv
        match jq, hd, hne, hv with
        | 0, _, _, hv => exact hv
        | 1, _, _, hv => exact hv
        | 2, _, _, hv => exact hv
        | 3, _, _, hv => exact hv
        | 4, _, _, hv => exact hv
        | 5, _, _, hv => exact hv
        | 6, _, _, hv => exact hv
        | 7, _, _, hv => exact hv
        | 8, _, _, hv => exact hv
        | 9, _, _, hv => exact hv
        | 10, _, _, hv => exact hv
        | 11, _, _, hv => exact hv
        | 12, _, _, hv => exact hv
        | 13, _, _, hv => exact hv
        | 14, _, hne, _ => exact absurd rfl hne
        | 15, hd, _, _ => exact absurd hd (by decide)
        | _ + 16, _, _, _ => trivial
      ·intro xq wc hbc hx
       have e29 : xq 29 = .int .i64 (k : Int) := hx 0 (by decide)
       have e30 : xq 30 = .int .i64 (k : Int) := hx 1 (by decide)
       have e31 : xq 31 = .pointer (some ⟨w.heap.size + 1, k * 2, none⟩) := hx 2 (by decide)
       have e32 : xq 32 = .pointer (some ⟨w.heap.size + 1, k * 2, none⟩) := hx 3 (by decide)
       have e33 : xq 33 = .int .i64 u := hx 4 (by decide)
       have e34 : xq 34 = .slice (some ⟨B, o, none⟩) ms.length q := hx 5 (by decide)
       have e35 : xq 35 = .int .i64 (i : Int) := hx 6 (by decide)
       have e36 : xq 36 = .int .i64 (k : Int) := hx 7 (by decide)
       have e37 : xq 37 = .pointer (some ⟨B, o + i * 4, none⟩) := hx 8 (by decide)
       have e38 : xq 38 = .pointer (some ⟨B, o + i * 4 + k, none⟩) := hx 9 (by decide)
       have e39 : xq 39 = .int .i64 mi := hx 10 (by decide)
       have e40 : xq 40 = .int .i64 (min u mi) := hx 11 (by decide)
       have e41 : xq 41 = .pointer (some ⟨w.heap.size + 1, k * 2, none⟩) := hx 12 (by decide)
       have e42 : xq 42 = .pointer (some ⟨w.heap.size + 1, k * 2, none⟩) := hx 13 (by decide)
       have fn14_0 : Row8 wc (w.heap.size + 1) (put2 f k (min u mi) v) := hx 14 (by decide)
       clear hx
       simp only [frameOf, fill, setSlot, sg, Nat.reduceBEq, if_true, if_false, Nat.reduceAdd, Nat.reduceEqDiff, HSL.out]
       simp only [e29, e30, e31, e32, e33, e34, e35, e36, e37, e38, e39, e40, e41, e42]
       clear e29 e30 e31 e32 e33 e34 e35 e36 e37 e38 e39 e40 e41 e42
       refine hKc9 _ _ ?_
       have HROW2 := Lib.hid fn14_0
       have HRES2 := Lib.hid (HRES.out.low hbc (Nat.lt_succ_self _))
       have HB2 := Lib.hid (HB.out.trans (hbc.mono (by omega)))
       have hz2 := hbc.size
       clear hbc fn14_0
       go_wp2_with fail
       rename_i Kc10 hKc10
       have hKc := hKc10
       have HSL := Lib.hid (show slotsOf [some 43, some 44, some 45, some 46, some 47, some 48, some 49, some 50, some 51, some 52, some 53, some 54, some 55, some 56, none] = [43, 44, 45, 46, 47, 48, 49, 50, 51, 52, 53, 54, 55, 56] from rfl)
       refine wp_region_partsG (by kernel_rfl) [some 43, some 44, some 45, some 46, some 47, some 48, some 49, some 50, some 51, some 52, some 53, some 54, some 55, some 56, none] (fun jq xq w' => match jq with
        | 0 => xq 43 = .int .i64 (k : Int)
        | 1 => xq 44 = .int .i64 (k : Int)
        | 2 => xq 45 = .pointer (some ⟨w.heap.size + 1, k * 2, none⟩)
        | 3 => xq 46 = .pointer (some ⟨w.heap.size + 1, k * 2 + 1, none⟩)
        | 4 => xq 47 = .int .i64 v
        | 5 => xq 48 = .slice (some ⟨B, o, none⟩) ms.length q
        | 6 => xq 49 = .int .i64 (i : Int)
        | 7 => xq 50 = .int .i64 (k : Int)
        | 8 => xq 51 = .pointer (some ⟨B, o + i * 4, none⟩)
        | 9 => xq 52 = .pointer (some ⟨B, o + i * 4 + k, none⟩)
        | 10 => xq 53 = .int .i64 mi
        | 11 => xq 54 = .int .i64 (max v mi)
        | 12 => xq 55 = .pointer (some ⟨w.heap.size + 1, k * 2, none⟩)
        | 13 => xq 56 = .pointer (some ⟨w.heap.size + 1, k * 2 + 1, none⟩)
        | 14 => Row8 w' (w.heap.size + 1) (put2 f k (min u mi) (max v mi))
        | 15 => Row8 w' (w.heap.size + 1) (put2 f k (min u mi) v)
        | _ => True) [[43], [44], [45], [46], [47], [48], [49], [50], [51], [52], [53], [54], [55], [56], [], []] [(14, 15)] (fun w' => Below (w.heap.size + 1) wc w') (by kernel_rfl)  ?_ ?_ (fun w' w'' hb h => h.trans (hb.mono (Nat.le_trans (by omega) h.size))) (Below.refl _ _) ?_ ?_ ?_
       ·intro jq xq xq' wqq h hv
        match jq, h, hv with
        | 0, h, hv => show xq' 43 = .int .i64 (k : Int); rw [← h 43 (by decide)]; exact hv
        | 1, h, hv => show xq' 44 = .int .i64 (k : Int); rw [← h 44 (by decide)]; exact hv
        | 2, h, hv => show xq' 45 = .pointer (some ⟨w.heap.size + 1, k * 2, none⟩); rw [← h 45 (by decide)]; exact hv
        | 3, h, hv => show xq' 46 = .pointer (some ⟨w.heap.size + 1, k * 2 + 1, none⟩); rw [← h 46 (by decide)]; exact hv
        | 4, h, hv => show xq' 47 = .int .i64 v; rw [← h 47 (by decide)]; exact hv
        | 5, h, hv => show xq' 48 = .slice (some ⟨B, o, none⟩) ms.length q; rw [← h 48 (by decide)]; exact hv
        | 6, h, hv => show xq' 49 = .int .i64 (i : Int); rw [← h 49 (by decide)]; exact hv
        | 7, h, hv => show xq' 50 = .int .i64 (k : Int); rw [← h 50 (by decide)]; exact hv
        | 8, h, hv => show xq' 51 = .pointer (some ⟨B, o + i * 4, none⟩); rw [← h 51 (by decide)]; exact hv
        | 9, h, hv => show xq' 52 = .pointer (some ⟨B, o + i * 4 + k, none⟩); rw [← h 52 (by decide)]; exact hv
        | 10, h, hv => show xq' 53 = .int .i64 mi; rw [← h 53 (by decide)]; exact hv
        | 11, h, hv => show xq' 54 = .int .i64 (max v mi); rw [← h 54 (by decide)]; exact hv
        | 12, h, hv => show xq' 55 = .pointer (some ⟨w.heap.size + 1, k * 2, none⟩); rw [← h 55 (by decide)]; exact hv
        | 13, h, hv => show xq' 56 = .pointer (some ⟨w.heap.size + 1, k * 2 + 1, none⟩); rw [← h 56 (by decide)]; exact hv
        | 14, h, hv => exact hv
        | 15, h, hv => exact hv
        | _ + 16, _, _ => trivial
       ·intro jq xq wqq w' hb' hv
        match jq, hv with
        | 0, hv => exact hv
        | 1, hv => exact hv
        | 2, hv => exact hv
        | 3, hv => exact hv
        | 4, hv => exact hv
        | 5, hv => exact hv
        | 6, hv => exact hv
        | 7, hv => exact hv
        | 8, hv => exact hv
        | 9, hv => exact hv
        | 10, hv => exact hv
        | 11, hv => exact hv
        | 12, hv => exact hv
        | 13, hv => exact hv
        | 14, h0 => exact h0.up hb'
        | 15, h0 => exact h0.up hb'
        | _ + 16, _ => trivial
       ·intro jq hj
        match jq, hj with
        | 0, hj => exact absurd hj (by decide)
        | 1, hj => exact absurd hj (by decide)
        | 2, hj => exact absurd hj (by decide)
        | 3, hj => exact absurd hj (by decide)
        | 4, hj => exact absurd hj (by decide)
        | 5, hj => exact absurd hj (by decide)
        | 6, hj => exact absurd hj (by decide)
        | 7, hj => exact absurd hj (by decide)
        | 8, hj => exact absurd hj (by decide)
        | 9, hj => exact absurd hj (by decide)
        | 10, hj => exact absurd hj (by decide)
        | 11, hj => exact absurd hj (by decide)
        | 12, hj => exact absurd hj (by decide)
        | 13, hj => exact absurd hj (by decide)
        | 14, hj => exact absurd hj (by decide)
        | 15, _ => exact HROW2.out
        | _ + 16, _ => trivial
       ·refine ⟨?_, ?_, ?_, ?_, ?_, ?_, ?_, ?_, ?_, ?_, ?_, ?_, ?_, ?_, ?_, trivial⟩
        ·intro xq w1 hb1 hx K hK0
         have hK := fun v w' hb => hK0 v w' (.inl hb)
         clear hx hKc hK0
         simp only [frameOf, fill, setSlot, sg, Nat.reduceBEq, if_true, if_false, Nat.reduceAdd, Nat.reduceEqDiff, HSL.out] at hK ⊢
         go_wp2_with (fail)
         exact hK _ _ (Below.refl _ _) rfl
        ·intro xq w1 hb1 hx K hK0
         have hK := fun v w' hb => hK0 v w' (.inl hb)
         clear hx hKc hK0
         simp only [frameOf, fill, setSlot, sg, Nat.reduceBEq, if_true, if_false, Nat.reduceAdd, Nat.reduceEqDiff, HSL.out] at hK ⊢
         go_wp2_with (fail)
         exact hK _ _ (Below.refl _ _) rfl
        ·intro xq w1 hb1 hx K hK0
         have hK := fun v w' hb => hK0 v w' (.inl hb)
         have e44 : xq 44 = .int .i64 (k : Int) := hx 1 (by rfl) (by rfl)
         clear hx hKc hK0
         simp only [frameOf, fill, setSlot, sg, Nat.reduceBEq, if_true, if_false, Nat.reduceAdd, Nat.reduceEqDiff, HSL.out] at hK ⊢
         simp only [e44] at hK ⊢
         clear e44
         go_wp2_with (fail)
         exact hK _ _ (Below.refl _ _) rfl
        ·intro xq w1 hb1 hx K hK0
         have hK := fun v w' hb => hK0 v w' (.inl hb)
         have e45 : xq 45 = .pointer (some ⟨w.heap.size + 1, k * 2, none⟩) := hx 2 (by rfl) (by rfl)
         clear hx hKc hK0
         simp only [frameOf, fill, setSlot, sg, Nat.reduceBEq, if_true, if_false, Nat.reduceAdd, Nat.reduceEqDiff, HSL.out] at hK ⊢
         simp only [e45] at hK ⊢
         clear e45
         go_wp2_with (fail)
         exact hK _ _ (Below.refl _ _) rfl
        ·intro xq w1 hb1 hx K hK0
         have hK := fun v w' hb => hK0 v w' (.inl hb)
         have e46 : xq 46 = .pointer (some ⟨w.heap.size + 1, k * 2 + 1, none⟩) := hx 3 (by rfl) (by rfl)
         have fir_0 : Row8 w1 (w.heap.size + 1) (put2 f k (min u mi) v) := hx 15 (by rfl) (by rfl)
         clear hx hKc hK0
         have c0 : w1.cell? ⟨w.heap.size + 1, k * 2 + 1, none⟩ = some (.int .i64 (v)) := (World.rowIs.cell fir_0 (by omega)).trans (congrArg some (put2_hi _ _ _ _))
         simp only [frameOf, fill, setSlot, sg, Nat.reduceBEq, if_true, if_false, Nat.reduceAdd, Nat.reduceEqDiff, HSL.out] at hK ⊢
         simp only [e46] at hK ⊢
         clear e46
         go_wp2_with (fail)
         exact hK _ _ (Below.refl _ _) rfl
        ·intro xq w1 hb1 hx K hK0
         have hK := fun v w' hb => hK0 v w' (.inl hb)
         clear hx hKc hK0
         simp only [frameOf, fill, setSlot, sg, Nat.reduceBEq, if_true, if_false, Nat.reduceAdd, Nat.reduceEqDiff, HSL.out] at hK ⊢
         go_wp2_with (fail)
         exact hK _ _ (Below.refl _ _) rfl
        ·intro xq w1 hb1 hx K hK0
         have hK := fun v w' hb => hK0 v w' (.inl hb)
         clear hx hKc hK0
         simp only [frameOf, fill, setSlot, sg, Nat.reduceBEq, if_true, if_false, Nat.reduceAdd, Nat.reduceEqDiff, HSL.out] at hK ⊢
         go_wp2_with (fail)
         exact hK _ _ (Below.refl _ _) rfl
        ·intro xq w1 hb1 hx K hK0
         have hK := fun v w' hb => hK0 v w' (.inl hb)
         clear hx hKc hK0
         simp only [frameOf, fill, setSlot, sg, Nat.reduceBEq, if_true, if_false, Nat.reduceAdd, Nat.reduceEqDiff, HSL.out] at hK ⊢
         go_wp2_with (fail)
         exact hK _ _ (Below.refl _ _) rfl
        ·intro xq w1 hb1 hx K hK0
         have hK := fun v w' hb => hK0 v w' (.inl hb)
         have e48 : xq 48 = .slice (some ⟨B, o, none⟩) ms.length q := hx 5 (by rfl) (by rfl)
         have e49 : xq 49 = .int .i64 (i : Int) := hx 6 (by rfl) (by rfl)
         clear hx hKc hK0
         have hii : (i : Int) < ms.length := by omega
         simp only [frameOf, fill, setSlot, sg, Nat.reduceBEq, if_true, if_false, Nat.reduceAdd, Nat.reduceEqDiff, HSL.out] at hK ⊢
         simp only [e48, e49] at hK ⊢
         clear e48 e49
         go_wp2_with (fail)
         exact hK _ _ (Below.refl _ _) rfl
        ·intro xq w1 hb1 hx K hK0
         have hK := fun v w' hb => hK0 v w' (.inl hb)
         have e50 : xq 50 = .int .i64 (k : Int) := hx 7 (by rfl) (by rfl)
         have e51 : xq 51 = .pointer (some ⟨B, o + i * 4, none⟩) := hx 8 (by rfl) (by rfl)
         clear hx hKc hK0
         simp only [frameOf, fill, setSlot, sg, Nat.reduceBEq, if_true, if_false, Nat.reduceAdd, Nat.reduceEqDiff, HSL.out] at hK ⊢
         simp only [e50, e51] at hK ⊢
         clear e50 e51
         go_wp2_with (fail)
         exact hK _ _ (Below.refl _ _) rfl
        ·intro xq w1 hb1 hx K hK0
         have hK := fun v w' hb => hK0 v w' (.inl hb)
         have e52 : xq 52 = .pointer (some ⟨B, o + i * 4 + k, none⟩) := hx 9 (by rfl) (by rfl)
         clear hx hKc hK0
         have km : w1.cell? ⟨B, o + i * 4 + k, none⟩ = some (.int .i64 mi) := by rw [HMI.out]; exact (hb1.cell (p := ⟨B, o + i * 4 + k, none⟩) (by show B < w.heap.size + 1; omega)).trans ((HB2.out.cell (p := ⟨B, o + i * 4 + k, none⟩) hB0).trans (mix_cell HCELL.out HX.out hk))
         simp only [frameOf, fill, setSlot, sg, Nat.reduceBEq, if_true, if_false, Nat.reduceAdd, Nat.reduceEqDiff, HSL.out] at hK ⊢
         simp only [e52] at hK ⊢
         clear e52
         go_wp2_with (fail)
         exact hK _ _ (Below.refl _ _) rfl
        ·intro xq w1 hb1 hx K hK0
         have hK := fun v w' hb => hK0 v w' (.inl hb)
         have e47 : xq 47 = .int .i64 v := hx 4 (by rfl) (by rfl)
         have e53 : xq 53 = .int .i64 mi := hx 10 (by rfl) (by rfl)
         clear hx hKc hK0
         simp only [frameOf, fill, setSlot, sg, Nat.reduceBEq, if_true, if_false, Nat.reduceAdd, Nat.reduceEqDiff, HSL.out] at hK ⊢
         simp only [e47, e53] at hK ⊢
         clear e47 e53
         go_wp2_with (fail)
         all_goals first | exact hK _ _ (Below.refl _ _) rfl | exact hK _ _ (Below.refl _ _) (congrArg (Value.int .i64) (by omega))
        ·intro xq w1 hb1 hx K hK0
         have hK := fun v w' hb => hK0 v w' (.inl hb)
         have e43 : xq 43 = .int .i64 (k : Int) := hx 0 (by rfl) (by rfl)
         clear hx hKc hK0
         simp only [frameOf, fill, setSlot, sg, Nat.reduceBEq, if_true, if_false, Nat.reduceAdd, Nat.reduceEqDiff, HSL.out] at hK ⊢
         simp only [e43] at hK ⊢
         clear e43
         go_wp2_with (fail)
         exact hK _ _ (Below.refl _ _) rfl
        ·intro xq w1 hb1 hx K hK0
         have hK := fun v w' hb => hK0 v w' (.inl hb)
         have e55 : xq 55 = .pointer (some ⟨w.heap.size + 1, k * 2, none⟩) := hx 12 (by rfl) (by rfl)
         clear hx hKc hK0
         simp only [frameOf, fill, setSlot, sg, Nat.reduceBEq, if_true, if_false, Nat.reduceAdd, Nat.reduceEqDiff, HSL.out] at hK ⊢
         simp only [e55] at hK ⊢
         clear e55
         go_wp2_with (fail)
         exact hK _ _ (Below.refl _ _) rfl
        ·intro xq w1 hb1 hx K hK0
         have hK := fun v w' hb => hK0 v w' (.inr hb)
         have e54 : xq 54 = .int .i64 (max v mi) := hx 11 (by rfl) (by rfl)
         have e56 : xq 56 = .pointer (some ⟨w.heap.size + 1, k * 2 + 1, none⟩) := hx 13 (by rfl) (by rfl)
         have fir_0 : Row8 w1 (w.heap.size + 1) (put2 f k (min u mi) v) := hx 15 (by rfl) (by rfl)
         clear hx hKc hK0
         have c0 : w1.cell? ⟨w.heap.size + 1, k * 2 + 1, none⟩ = some (.int .i64 (v)) := (World.rowIs.cell fir_0 (by omega)).trans (congrArg some (put2_hi _ _ _ _))
         have z0 : w1.frozen? ⟨w.heap.size + 1, k * 2 + 1, none⟩ = false := World.rowIs.frozen fir_0 _
         simp only [frameOf, fill, setSlot, sg, Nat.reduceBEq, if_true, if_false, Nat.reduceAdd, Nat.reduceEqDiff, HSL.out] at hK ⊢
         have E54 := Lib.hid e54
         have E56 := Lib.hid e56
         simp only [e54, e56] at hK ⊢
         clear e54 e56
         go_wp2_with (fail)
         refine hK undef _ ⟨(hb1.trans zg), ?_⟩ (by have h := World.rowIs.set fir_0 (k * 2 + 1) (.int .i64 (max v mi)); rw [put2_hi'] at h; exact h)
         intro jq xq hd hne hv
         match jq, hd, hne, hv with
         | 0, _, _, hv => exact hv
         | 1, _, _, hv => exact hv
         | 2, _, _, hv => exact hv
         | 3, _, _, hv => exact hv
         | 4, _, _, hv => exact hv
         | 5, _, _, hv => exact hv
         | 6, _, _, hv => exact hv
         | 7, _, _, hv => exact hv
         | 8, _, _, hv => exact hv
         | 9, _, _, hv => exact hv
         | 10, _, _, hv => exact hv
         | 11, _, _, hv => exact hv
         | 12, _, _, hv => exact hv
         | 13, _, _, hv => exact hv
         | 14, _, hne, _ => exact absurd rfl hne
         | 15, hd, _, _ => exact absurd hd (by decide)
         | _ + 16, _, _, _ => trivial
       ·intro xq w1 hb1 hx
        have e43 : xq 43 = .int .i64 (k : Int) := hx 0 (by decide)
        have e44 : xq 44 = .int .i64 (k : Int) := hx 1 (by decide)
        have e45 : xq 45 = .pointer (some ⟨w.heap.size + 1, k * 2, none⟩) := hx 2 (by decide)
        have e46 : xq 46 = .pointer (some ⟨w.heap.size + 1, k * 2 + 1, none⟩) := hx 3 (by decide)
        have e47 : xq 47 = .int .i64 v := hx 4 (by decide)
        have e48 : xq 48 = .slice (some ⟨B, o, none⟩) ms.length q := hx 5 (by decide)
        have e49 : xq 49 = .int .i64 (i : Int) := hx 6 (by decide)
        have e50 : xq 50 = .int .i64 (k : Int) := hx 7 (by decide)
        have e51 : xq 51 = .pointer (some ⟨B, o + i * 4, none⟩) := hx 8 (by decide)
        have e52 : xq 52 = .pointer (some ⟨B, o + i * 4 + k, none⟩) := hx 9 (by decide)
        have e53 : xq 53 = .int .i64 mi := hx 10 (by decide)
        have e54 : xq 54 = .int .i64 (max v mi) := hx 11 (by decide)
        have e55 : xq 55 = .pointer (some ⟨w.heap.size + 1, k * 2, none⟩) := hx 12 (by decide)
        have e56 : xq 56 = .pointer (some ⟨w.heap.size + 1, k * 2 + 1, none⟩) := hx 13 (by decide)
        have fn14_0 : Row8 w1 (w.heap.size + 1) (put2 f k (min u mi) (max v mi)) := hx 14 (by decide)
        clear hx
        simp only [frameOf, fill, setSlot, sg, Nat.reduceBEq, if_true, if_false, Nat.reduceAdd, Nat.reduceEqDiff, HSL.out]
        simp only [e43, e44, e45, e46, e47, e48, e49, e50, e51, e52, e53, e54, e55, e56]
        clear e43 e44 e45 e46 e47 e48 e49 e50 e51 e52 e53 e54 e55 e56
        refine hKc10 _ _ ?_
        have HROW3 := Lib.hid fn14_0
        have HRES3 := Lib.hid (HRES2.out.low hb1 (Nat.lt_succ_self _))
        have HB3 := Lib.hid (HB2.out.trans (hb1.mono (by omega)))
        clear hb1 fn14_0
        have HGE2 : Hid (∀ j x, j < i + 1 → ms[j]? = some x → min u mi ≤ mxk x k ∧ mxk x k ≤ max v mi) := Lib.hid (span_next hge.out HX.out HMI.out)
        go_wp2_with fail
        go_roundw
        case rel => exact ⟨i + 1, min u mi, max v mi, by go_num, by omega, HGE2, by omega, by omega, by omega, HROW3.out, HRES3.out, HB3.out.trans zg⟩
        case measure => first | (simp [intOf]; done) | (simp [intOf]; omega)
     ·have hlt' : ¬ (i : Int) < ms.length := by omega
      have hie : i = ms.length := by omega
      subst hie
      have hue : u = bLo b k := (by obtain ⟨⟨x, hx, e⟩, _⟩ := HAT.out k hk; obtain ⟨j, hj, rfl⟩ := List.getElem_of_mem hx; have := (hge.out j _ hj (List.getElem?_eq_getElem hj)).1; omega)
      have hve : v = bHi b k := (by obtain ⟨_, x, hx, e⟩ := HAT.out k hk; obtain ⟨j, hj, rfl⟩ := List.getElem_of_mem hx; have := (hge.out j _ hj (List.getElem?_eq_getElem hj)).2; omega)
      subst hue
      subst hve
      have HDN := Lib.hid HD.out.next
      go_wp2_with fail
      go_roundw
      case rel => exact ⟨k + 1, _, by go_num, by omega, HROW.out, HDN.out, HRES.out, HB.out⟩
      case measure => first | (simp [intOf]; done) | (simp [intOf]; omega)
  ·have hk' : ¬ (k : Int) < 4 := by omega
   obtain rfl : k = 4 := by omega
   have kc0 : wa.cell? ⟨w.heap.size + 1, 0, none⟩ = some (.int .i64 b.l0) := (World.rowIs.cell HROW.out (by decide)).trans (congrArg some (HD.out 0 (by decide)).1)
   have kc1 : wa.cell? ⟨w.heap.size + 1, 1, none⟩ = some (.int .i64 b.h0) := (World.rowIs.cell HROW.out (by decide)).trans (congrArg some (HD.out 0 (by decide)).2)
   have kc2 : wa.cell? ⟨w.heap.size + 1, 2, none⟩ = some (.int .i64 b.l1) := (World.rowIs.cell HROW.out (by decide)).trans (congrArg some (HD.out 1 (by decide)).1)
   have kc3 : wa.cell? ⟨w.heap.size + 1, 3, none⟩ = some (.int .i64 b.h1) := (World.rowIs.cell HROW.out (by decide)).trans (congrArg some (HD.out 1 (by decide)).2)
   have kc4 : wa.cell? ⟨w.heap.size + 1, 4, none⟩ = some (.int .i64 b.l2) := (World.rowIs.cell HROW.out (by decide)).trans (congrArg some (HD.out 2 (by decide)).1)
   have kc5 : wa.cell? ⟨w.heap.size + 1, 5, none⟩ = some (.int .i64 b.h2) := (World.rowIs.cell HROW.out (by decide)).trans (congrArg some (HD.out 2 (by decide)).2)
   have kc6 : wa.cell? ⟨w.heap.size + 1, 6, none⟩ = some (.int .i64 b.l3) := (World.rowIs.cell HROW.out (by decide)).trans (congrArg some (HD.out 3 (by decide)).1)
   have kc7 : wa.cell? ⟨w.heap.size + 1, 7, none⟩ = some (.int .i64 b.h3) := (World.rowIs.cell HROW.out (by decide)).trans (congrArg some (HD.out 3 (by decide)).2)
   obtain ⟨kr0, kr1, kr2, kr3, kr4, kr5, kr6, kr7⟩ := HRES.out.c8
   obtain ⟨zr0, zr1, zr2, zr3, zr4, zr5, zr6, zr7⟩ := HRES.out.f8
   go_wp2_with fail
   refine ret_cell (t := 76) (cs := #[.int .i64 b.l0, .int .i64 b.h0, .int .i64 b.l1, .int .i64 b.h1, .int .i64 b.l2, .int .i64 b.h2, .int .i64 b.l3, .int .i64 b.h3]) rfl rfl (by have h := HRES.out; exact zp0) Try.underlying76 rfl (by kernel_rfl) rfl ⟨rfl, HB.out.trans zg⟩
end Go.Proofs.Ytifffonoipapgaa
