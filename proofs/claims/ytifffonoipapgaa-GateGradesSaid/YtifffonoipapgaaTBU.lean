
import Derived.Test.YtifffonoipapgaaTAA
import Derived.Test.YtifffonoipapgaaTAC
import Derived.Test.YtifffonoipapgaaTBC
import Derived.Test.YtifffonoipapgaaTBI
import Derived.Test.YtifffonoipapgaaTBT
set_option linter.unusedSimpArgs false
set_option linter.unusedVariables false
namespace Go.Proofs.Ytifffonoipapgaa
open Go.RowKit
def hadB (gs : List Gr) (l : List Mx) (j : Nat) : Bool := l.any fun m => hasN gs m.a m.b m.c m.d == (j : Int) - 1
theorem hadB_next {gs : List Gr} {ms : List Mx} {i j : Nat} {x : Mx} (hx : ms[i]? = some x) : hadB gs (ms.take (i + 1)) j = (hadB gs (ms.take i) j || hasN gs x.a x.b x.c x.d == (j : Int) - 1) := by
 unfold hadB
 rw [List.take_add_one, hx, List.any_append]
 simp
theorem has_num (gs : List Gr) (a b c d : Int) : ∃ j : Nat, j ≤ gs.length ∧ hasN gs a b c d = (j : Int) - 1 := by
 unfold hasN
 rcases idx_spec (limB a b c d) gs 0 with ⟨h, _⟩ | ⟨k, hk, h, _⟩
 ·exact ⟨0, Nat.zero_le _, by rw [h]; rfl⟩
 ·exact ⟨k + 1, hk, by rw [h]; omega⟩
def RowN (w : World) (O n : Nat) (t : TypeId) (f : Nat → Value) : Prop := w.rowIs O t n f
theorem RowN.up {w w' : World} {O n : Nat} {t : TypeId} {f : Nat → Value} (h : RowN w O n t f) (hb : Below w.heap.size w w') : RowN w' O n t f := rowIs_up h hb
theorem RowN.lt {w : World} {O n : Nat} {t : TypeId} {f : Nat → Value} (h : RowN w O n t f) : O < w.heap.size := World.rowIs.lt h
theorem RowN.set {w : World} {O n : Nat} {t : TypeId} {f g : Nat → Value} (h : RowN w O n t f) (j : Nat) (v : Value) (e : ∀ i, i < n → g i = if i = j then v else f i) : RowN (w.setCell ⟨O, j, none⟩ v) O n t g := World.rowIs.congr (World.rowIs.set h j v) (fun i hi => (e i hi).symm)
theorem rowN_grown {w w' : World} {O n B m : Nat} {t e : TypeId} {f : Nat → Value} {v : Value} {xs : List Value} (h : RowN w O n t f) (hg : w.grownBy w' v.ownBlock) (r : w.ownsRow B e 1 v m xs) (hO : O < B) : RowN w' O n t f :=
 World.rowIs.of_block h (hg.block O (World.rowIs.lt h) (fun e => by have := (r.lt O e.symm).1; omega))
theorem hold_grown {w w' : World} {O B m : Nat} {t e : TypeId} {cs : Array Value} {v : Value} {xs : List Value} (h : Holds w O t cs) (hg : w.grownBy w' v.ownBlock) (r : w.ownsRow B e 1 v m xs) (hO : O < B) : Holds w' O t cs :=
 (hg.block O h.lt (fun e => by have := (r.lt O e.symm).1; omega)).trans h
theorem rk_mono {w : World} {B B' n k : Nat} {e : TypeId} {v : Value} {xs : List Value} (h : w.ownsRow B e k v n xs) (hb : B' ≤ B) : w.ownsRow B' e k v n xs := by
 obtain ⟨hl, h | ⟨g, cap, cur, ev, hB, r⟩⟩ := h
 ·exact ⟨hl, .inl h⟩
 ·exact ⟨hl, .inr ⟨g, cap, cur, ev, Nat.le_trans hb hB, r⟩⟩
theorem und_bools : Try.prog.underlying 163 = some (.slice 4) := by kernel_rfl
theorem info_bool : (Try.prog.info? 4).map (fun i => (i.zero, i.size, i.bytes)) = some (some (.bool false), 1, 1) := by kernel_rfl
def loPriceR (gs : List Gr) : List Int → Int
 | [] => 101
 | n :: l => min (loPriceR gs l) (priceOf gs n)
theorem loR_snoc {gs : List Gr} {l : List Int} {n : Int} : loPriceR gs (l ++ [n]) = min (loPriceR gs l) (priceOf gs n) := by
 induction l with
 | nil => simp [loPriceR]
 | cons a l ih => simp only [List.cons_append, loPriceR, ih]; omega
theorem loR_eq {gs : List Gr} (hr : ∀ g ∈ gs, g.right = true) : ∀ l : List Int, l ≠ [] → loPriceR gs l = loPrice gs l := by
 have key : ∀ l : List Int, min (loPriceR gs l) 100 = loPrice gs l := by
  intro l
  induction l with
  | nil => rfl
  | cons a l ih => have := price_bd hr a; simp only [loPriceR, loPrice]; omega
 intro l hl
 cases l with
 | nil => exact absurd rfl hl
 | cons a l => have := key l; have := price_bd hr a; simp only [loPriceR, loPrice]; omega
theorem loR_bd {gs : List Gr} (hr : ∀ g ∈ gs, g.right = true) (l : List Int) : 0 ≤ loPriceR gs l ∧ loPriceR gs l ≤ 101 := by
 induction l with
 | nil => simp [loPriceR]
 | cons a l ih => have := price_bd hr a; simp only [loPriceR]; omega
theorem mixrow_lt {w : World} {B o : Nat} {ms : List Mx} {i : Nat} {x : Mx} (h : MixAt w (some ⟨B, o, none⟩) ms) (hx : ms[i]? = some x) : B < w.heap.size := by
 obtain ⟨B', o', e, hc⟩ := h (by have := (List.getElem?_eq_some_iff.1 hx).1; omega)
 cases e
 exact World.block_lt_of_cell? w _ (hc i x hx).1
theorem had_set {gs : List Gr} {ms : List Mx} {i j : Nat} {x : Mx} (hx : ms[i]? = some x) (hj : hasN gs x.a x.b x.c x.d = (j : Int) - 1) : ∀ t, t < 5 → (fun j => Value.bool (hadB gs (ms.take (i + 1)) j)) t = if t = j then .bool true else (fun j => Value.bool (hadB gs (ms.take i) j)) t := by
 intro t _
 simp only []
 rw [hadB_next hx, hj]
 by_cases e : t = j
 ·subst e; simp
 ·have : ((j : Int) - 1 == (t : Int) - 1) = false := by rw [beq_eq_false_iff_ne]; omega
  rw [if_neg e, this, Bool.or_false]
set_option maxRecDepth 100000 in
set_option maxHeartbeats 8000000 in
theorem refCan_any (err miss : Int) (G : Option Addr) (d : Nat) (gs : List Gr) (b : Bx) (A : Option Addr) (q : Nat) (ms : List Mx) (hl : ms.length ≤ 80000) (w : World) (hG : GradesAt w G gs) (hgl : gs.length ≤ 1000) (hg4 : gs.length ≤ 4) (hM : MixAt w A ms) (hH : ∀ j, j ≤ gs.length → hadB gs ms j = (shownBx b gs (ix j)).isSome) :
  Calls Try.prog 55 #[.agg #[.int .i64 err, .int .i64 miss, .slice G gs.length d], .slice A ms.length q] w fun e w' => ∃ v, e = .returned v ∧ OwnInts w' w.heap.size v (canOf b gs) ∧ Below w.heap.size w w' := by
 obtain ⟨i0, hi, hz0, hz1, hz2⟩ := info_parts info_int
 have HG := Lib.hid hG
 have HM := Lib.hid hM
 have HH := Lib.hid hH
 clear hG hM hH
 have hmk : ∀ w : World, (Instr.makeSlice 163 (.int .i64 5) (.int .i64 5)).run Try.prog w = .ok (.slice (some ⟨w.heap.size, 0, none⟩) 5 5) (w.alloc (.cells (madeCells #[.bool false] 5) 4)) := fun w => run_make_row' (P := Try.prog) 163 4 (.bool false) 1 und_bools info_bool rfl .i64 .i64 5 (by decide) (by decide) w
 go_enter Try.func55, Try.ntmps55
 go_wp2_with fail
 go_loopw [6] (fun v6 wr => ∃ i : Nat, v6 = .int .i64 (i : Int) ∧ i ≤ ms.length ∧ RowN wr (w.heap.size + 1) 5 4 ((fun j => .bool (hadB gs (ms.take i) j))) ∧ Holds wr (w.heap.size) 49 #[.int .i64 err, .int .i64 miss, .slice G gs.length d] ∧ Below w.heap.size w wr) (fun v6 _ => ms.length - (intOf v6).toNat)
 case atStart => exact ⟨0, rfl, Nat.zero_le _, made_at (by simp), by (repeat first | (with_reducible first | assumption | apply Holds.set3 | apply Holds.set4 | apply Holds.putL | ((refine Holds.new' _ _ ?_); (simp; done)) | refine Holds.alloc ?_ _ | refine Holds.drew ?_ | refine Holds.far ?_ (by simp only [ne_eq]; omega) _) | rfl), zg⟩
 case round =>
  rename World => wa
  obtain ⟨i, rfl, hi_, hrow, hg, hB⟩ := hrel
  have HROW := Lib.hid hrow
  have HGB := Lib.hid hg
  have HB := Lib.hid hB
  have lr := hrow.lt
  have hz := hB.size
  clear hrow hg hB
  by_cases hlt : i < ms.length
  ·have hlt' : (i : Int) < ms.length := by omega
   obtain ⟨x, hx⟩ : ∃ x, ms[i]? = some x := ⟨_, List.getElem?_eq_getElem hlt⟩
   obtain ⟨B, o, rfl, hcell⟩ := (HM.out.up HB.out) (by omega)
   obtain ⟨c0, c1, c2, c3⟩ := hcell i x hx
   clear hcell
   have HX := Lib.hid hx
   have lB := World.block_lt_of_cell? wa _ c0
   have lBw : B < w.heap.size := mixrow_lt HM.out hx
   obtain ⟨j, hj, hjn⟩ := has_num gs x.a x.b x.c x.d
   have HJ := Lib.hid hjn
   have hj5 : j < 5 := by omega
   clear hx hjn
   go_wp2_with fail
   have hKc := True.intro
   have HSL := Lib.hid (show slotsOf [some 16, some 17, some 18, some 19, some 20, some 21, some 22, some 23, some 24, none] = [16, 17, 18, 19, 20, 21, 22, 23, 24] from rfl)
   refine wp_region_partsG (by kernel_rfl) [some 16, some 17, some 18, some 19, some 20, some 21, some 22, some 23, some 24, none] (fun jq xq w' => match jq with
    | 0 => xq 16 = .slice (some ⟨w.heap.size + 1, 0, none⟩) 5 5
    | 1 => xq 17 = .agg #[.int .i64 err, .int .i64 miss, .slice G gs.length d]
    | 2 => xq 18 = .slice (some ⟨B, o, none⟩) ms.length q
    | 3 => xq 19 = .int .i64 (i : Int)
    | 4 => xq 20 = .pointer (some ⟨B, o + i * 4, none⟩)
    | 5 => xq 21 = .agg #[.int .i64 x.a, .int .i64 x.b, .int .i64 x.c, .int .i64 x.d]
    | 6 => xq 22 = .int .i64 ((j : Int) - 1)
    | 7 => xq 23 = .int .i64 (j : Int)
    | 8 => xq 24 = .pointer (some ⟨w.heap.size + 1, j, none⟩)
    | 9 => RowN w' (w.heap.size + 1) 5 4 (fun j => .bool (hadB gs (ms.take (i + 1)) j))
    | 10 => RowN w' (w.heap.size + 1) 5 4 (fun j => .bool (hadB gs (ms.take i) j))
    | _ => True) [[16], [17], [18], [19], [20], [21], [22], [23], [24], [], []] [(9, 10)] (fun w' => Below (w.heap.size + 1) wa w') (by kernel_rfl)  ?_ ?_ (fun w' w'' hb h => h.trans (hb.mono (Nat.le_trans (by omega) h.size))) (Below.refl _ _) ?_ ?_ ?_
   ·intro jq xq xq' wqq h hv
    match jq, h, hv with
    | 0, h, hv => show xq' 16 = .slice (some ⟨w.heap.size + 1, 0, none⟩) 5 5; rw [← h 16 (by decide)]; exact hv
    | 1, h, hv => show xq' 17 = .agg #[.int .i64 err, .int .i64 miss, .slice G gs.length d]; rw [← h 17 (by decide)]; exact hv
    | 2, h, hv => show xq' 18 = .slice (some ⟨B, o, none⟩) ms.length q; rw [← h 18 (by decide)]; exact hv
    | 3, h, hv => show xq' 19 = .int .i64 (i : Int); rw [← h 19 (by decide)]; exact hv
    | 4, h, hv => show xq' 20 = .pointer (some ⟨B, o + i * 4, none⟩); rw [← h 20 (by decide)]; exact hv
    | 5, h, hv => show xq' 21 = .agg #[.int .i64 x.a, .int .i64 x.b, .int .i64 x.c, .int .i64 x.d]; rw [← h 21 (by decide)]; exact hv
    | 6, h, hv => show xq' 22 = .int .i64 ((j : Int) - 1); rw [← h 22 (by decide)]; exact hv
    | 7, h, hv => show xq' 23 = .int .i64 (j : Int); rw [← h 23 (by decide)]; exact hv
    | 8, h, hv => show xq' 24 = .pointer (some ⟨w.heap.size + 1, j, none⟩); rw [← h 24 (by decide)]; exact hv
    | 9, h, hv => exact hv
    | 10, h, hv => exact hv
    | _ + 11, _, _ => trivial
   ·intro jq xq wqq w' hb' hv
    match jq, hv with
    | 0, hv => exact hv
    | 1, hv => exact hv
    | 2, hv => exact hv
    | 3, hv => exact hv
    | 4, hv => exact hv
    | 5, hv => exact hv
    | 6, hv => exact hv
    | 7, hv => exact hv
    | 8, hv => exact hv
    | 9, h0 => exact h0.up hb'
    | 10, h0 => exact h0.up hb'
    | _ + 11, _ => trivial
   ·intro jq hj
    match jq, hj with
    | 0, hj => exact absurd hj (by decide)
    | 1, hj => exact absurd hj (by decide)
    | 2, hj => exact absurd hj (by decide)
    | 3, hj => exact absurd hj (by decide)
    | 4, hj => exact absurd hj (by decide)
    | 5, hj => exact absurd hj (by decide)
    | 6, hj => exact absurd hj (by decide)
    | 7, hj => exact absurd hj (by decide)
    | 8, hj => exact absurd hj (by decide)
    | 9, hj => exact absurd hj (by decide)
    | 10, _ => exact HROW.out
    | _ + 11, _ => trivial
   ·refine ⟨?_, ?_, ?_, ?_, ?_, ?_, ?_, ?_, ?_, ?_, trivial⟩
    ·intro xq w1 hb1 hx K hK0
     have hK := fun v w' hb => hK0 v w' (.inl hb)
     clear hx hKc hK0
     simp only [frameOf, fill, setSlot, sg, Nat.reduceBEq, if_true, if_false, Nat.reduceAdd, Nat.reduceEqDiff, HSL.out] at hK ⊢
     go_wp2_with (fail)
     exact hK _ _ (Below.refl _ _) rfl
    ·intro xq w1 hb1 hx K hK0
     have hK := fun v w' hb => hK0 v w' (.inl hb)
     clear hx hKc hK0
     have kg0 : w1.cell? ⟨w.heap.size, 0, none⟩ = some (.int .i64 err) := (HGB.out.low hb1 (Nat.lt_succ_self _)).cell 0
     have kg1 : w1.cell? ⟨w.heap.size, 1, none⟩ = some (.int .i64 miss) := (HGB.out.low hb1 (Nat.lt_succ_self _)).cell 1
     have kg2 : w1.cell? ⟨w.heap.size, 2, none⟩ = some (.slice G gs.length d) := (HGB.out.low hb1 (Nat.lt_succ_self _)).cell 2
     simp only [frameOf, fill, setSlot, sg, Nat.reduceBEq, if_true, if_false, Nat.reduceAdd, Nat.reduceEqDiff, HSL.out] at hK ⊢
     go_wp2_with (fail)
     exact hK _ _ (Below.refl _ _) rfl
    ·intro xq w1 hb1 hx K hK0
     have hK := fun v w' hb => hK0 v w' (.inl hb)
     clear hx hKc hK0
     simp only [frameOf, fill, setSlot, sg, Nat.reduceBEq, if_true, if_false, Nat.reduceAdd, Nat.reduceEqDiff, HSL.out] at hK ⊢
     go_wp2_with (fail)
     exact hK _ _ (Below.refl _ _) rfl
    ·intro xq w1 hb1 hx K hK0
     have hK := fun v w' hb => hK0 v w' (.inl hb)
     clear hx hKc hK0
     simp only [frameOf, fill, setSlot, sg, Nat.reduceBEq, if_true, if_false, Nat.reduceAdd, Nat.reduceEqDiff, HSL.out] at hK ⊢
     go_wp2_with (fail)
     exact hK _ _ (Below.refl _ _) rfl
    ·intro xq w1 hb1 hx K hK0
     have hK := fun v w' hb => hK0 v w' (.inl hb)
     have e18 : xq 18 = .slice (some ⟨B, o, none⟩) ms.length q := hx 2 (by rfl) (by rfl)
     have e19 : xq 19 = .int .i64 (i : Int) := hx 3 (by rfl) (by rfl)
     clear hx hKc hK0
     have hii : (i : Int) < ms.length := by omega
     simp only [frameOf, fill, setSlot, sg, Nat.reduceBEq, if_true, if_false, Nat.reduceAdd, Nat.reduceEqDiff, HSL.out] at hK ⊢
     simp only [e18, e19] at hK ⊢
     clear e18 e19
     go_wp2_with (fail)
     exact hK _ _ (Below.refl _ _) rfl
    ·intro xq w1 hb1 hx K hK0
     have hK := fun v w' hb => hK0 v w' (.inl hb)
     have e20 : xq 20 = .pointer (some ⟨B, o + i * 4, none⟩) := hx 4 (by rfl) (by rfl)
     clear hx hKc hK0
     have kx0 : w1.cell? ⟨B, o + i * 4, none⟩ = some (.int .i64 x.a) := (hb1.cell (p := ⟨B, o + i * 4, none⟩) (by show B < w.heap.size + 1; omega)).trans c0
     have kx1 : w1.cell? ⟨B, o + i * 4 + 1, none⟩ = some (.int .i64 x.b) := (hb1.cell (p := ⟨B, o + i * 4 + 1, none⟩) (by show B < w.heap.size + 1; omega)).trans c1
     have kx2 : w1.cell? ⟨B, o + i * 4 + 2, none⟩ = some (.int .i64 x.c) := (hb1.cell (p := ⟨B, o + i * 4 + 2, none⟩) (by show B < w.heap.size + 1; omega)).trans c2
     have kx3 : w1.cell? ⟨B, o + i * 4 + 3, none⟩ = some (.int .i64 x.d) := (hb1.cell (p := ⟨B, o + i * 4 + 3, none⟩) (by show B < w.heap.size + 1; omega)).trans c3
     simp only [frameOf, fill, setSlot, sg, Nat.reduceBEq, if_true, if_false, Nat.reduceAdd, Nat.reduceEqDiff, HSL.out] at hK ⊢
     simp only [e20] at hK ⊢
     clear e20
     go_wp2_with (fail)
     exact hK _ _ (Below.refl _ _) rfl
    ·intro xq w1 hb1 hx K hK0
     have hK := fun v w' hb => hK0 v w' (.inl hb)
     have e17 : xq 17 = .agg #[.int .i64 err, .int .i64 miss, .slice G gs.length d] := hx 1 (by rfl) (by rfl)
     have e21 : xq 21 = .agg #[.int .i64 x.a, .int .i64 x.b, .int .i64 x.c, .int .i64 x.d] := hx 5 (by rfl) (by rfl)
     clear hx hKc hK0
     simp only [frameOf, fill, setSlot, sg, Nat.reduceBEq, if_true, if_false, Nat.reduceAdd, Nat.reduceEqDiff, HSL.out] at hK ⊢
     simp only [e17, e21] at hK ⊢
     clear e17 e21
     go_wp2_with (go_at_call 36; refine (refHas_any err miss G d gs x.a x.b x.c x.d _ (HG.out.up (HB.out.trans (hb1.mono (by omega)))) hgl).mono ?_; rw [HJ.out]; rintro e w2_ ⟨rfl, hb_⟩)
     exact hK _ _ hb_ rfl
    ·intro xq w1 hb1 hx K hK0
     have hK := fun v w' hb => hK0 v w' (.inl hb)
     have e22 : xq 22 = .int .i64 ((j : Int) - 1) := hx 6 (by rfl) (by rfl)
     clear hx hKc hK0
     simp only [frameOf, fill, setSlot, sg, Nat.reduceBEq, if_true, if_false, Nat.reduceAdd, Nat.reduceEqDiff, HSL.out] at hK ⊢
     simp only [e22] at hK ⊢
     clear e22
     go_wp2_with (fail)
     first | exact hK _ _ (Below.refl _ _) rfl | exact hK _ _ (Below.refl _ _) (congrArg (Value.int .i64) (by omega))
    ·intro xq w1 hb1 hx K hK0
     have hK := fun v w' hb => hK0 v w' (.inl hb)
     have e16 : xq 16 = .slice (some ⟨w.heap.size + 1, 0, none⟩) 5 5 := hx 0 (by rfl) (by rfl)
     have e23 : xq 23 = .int .i64 (j : Int) := hx 7 (by rfl) (by rfl)
     clear hx hKc hK0
     have hj5' : (j : Int) < 5 := by omega
     simp only [frameOf, fill, setSlot, sg, Nat.reduceBEq, if_true, if_false, Nat.reduceAdd, Nat.reduceEqDiff, HSL.out] at hK ⊢
     simp only [e16, e23] at hK ⊢
     clear e16 e23
     go_wp2_with (fail)
     exact hK _ _ (Below.refl _ _) rfl
    ·intro xq w1 hb1 hx K hK0
     have hK := fun v w' hb => hK0 v w' (.inr hb)
     have e24 : xq 24 = .pointer (some ⟨w.heap.size + 1, j, none⟩) := hx 8 (by rfl) (by rfl)
     have fir_0 : RowN w1 (w.heap.size + 1) 5 4 (fun j => .bool (hadB gs (ms.take i) j)) := hx 10 (by rfl) (by rfl)
     clear hx hKc hK0
     have kr : w1.cell? ⟨w.heap.size + 1, j, none⟩ = some (.bool (hadB gs (ms.take i) j)) := World.rowIs.cell fir_0 hj5
     have zr : w1.frozen? ⟨w.heap.size + 1, j, none⟩ = false := World.rowIs.frozen fir_0 j
     simp only [frameOf, fill, setSlot, sg, Nat.reduceBEq, if_true, if_false, Nat.reduceAdd, Nat.reduceEqDiff, HSL.out] at hK ⊢
     have E24 := Lib.hid e24
     simp only [e24] at hK ⊢
     clear e24
     go_wp2_with (fail)
     refine hK undef _ ⟨(hb1.trans zg), ?_⟩ (fir_0.set j (.bool true) (had_set HX.out HJ.out))
     intro jq xq hd hne hv
     match jq, hd, hne, hv with
     | 0, _, _, hv => exact hv
     | 1, _, _, hv => exact hv
     | 2, _, _, hv => exact hv
     | 3, _, _, hv => exact hv
     | 4, _, _, hv => exact hv
     | 5, _, _, hv => exact hv
     | 6, _, _, hv => exact hv
     | 7, _, _, hv => exact hv
     | 8, _, _, hv => exact hv
     | 9, _, hne, _ => exact absurd rfl hne
     | 10, hd, _, _ => exact absurd hd (by decide)
     | _ + 11, _, _, _ => trivial
   ·intro xq w1 hb1 hx
    have e16 : xq 16 = .slice (some ⟨w.heap.size + 1, 0, none⟩) 5 5 := hx 0 (by decide)
    have e17 : xq 17 = .agg #[.int .i64 err, .int .i64 miss, .slice G gs.length d] := hx 1 (by decide)
    have e18 : xq 18 = .slice (some ⟨B, o, none⟩) ms.length q := hx 2 (by decide)
    have e19 : xq 19 = .int .i64 (i : Int) := hx 3 (by decide)
    have e20 : xq 20 = .pointer (some ⟨B, o + i * 4, none⟩) := hx 4 (by decide)
    have e21 : xq 21 = .agg #[.int .i64 x.a, .int .i64 x.b, .int .i64 x.c, .int .i64 x.d] := hx 5 (by decide)
    have e22 : xq 22 = .int .i64 ((j : Int) - 1) := hx 6 (by decide)
    have e23 : xq 23 = .int .i64 (j : Int) := hx 7 (by decide)
    have e24 : xq 24 = .pointer (some ⟨w.heap.size + 1, j, none⟩) := hx 8 (by decide)
    have fn9_0 : RowN w1 (w.heap.size + 1) 5 4 (fun j => .bool (hadB gs (ms.take (i + 1)) j)) := hx 9 (by decide)
    clear hx
    simp only [frameOf, fill, setSlot, sg, Nat.reduceBEq, if_true, if_false, Nat.reduceAdd, Nat.reduceEqDiff, HSL.out]
    simp only [e16, e17, e18, e19, e20, e21, e22, e23, e24]
    clear e16 e17 e18 e19 e20 e21 e22 e23 e24
    have HR1 := Lib.hid fn9_0
    have HB1 := Lib.hid (HB.out.trans (hb1.mono (by omega)))
    have HG1 := Lib.hid (HGB.out.low hb1 (Nat.lt_succ_self _))
    clear hb1 fn9_0
    go_wp2_with fail
    go_roundw
    case rel => exact ⟨i + 1, by go_num, by omega, HR1.out, HG1.out, HB1.out⟩
    case measure => first | (simp [intOf]; done) | (simp [intOf]; omega)
  ·have hlt' : ¬ (i : Int) < ms.length := by omega
   have hie : i = ms.length := by omega
   subst hie
   have hf : ∀ j, j < 5 → (fun j => Value.bool (hadB gs (ms.take ms.length) j)) j = .bool (hadB gs ms j) := fun j _ => by simp only [List.take_length]
   have HFJ := Lib.hid (World.rowIs.congr HROW.out hf)
   clear hf
   go_wp2_with fail
   go_loopw [7, 8] (fun v7 v8 wr => ∃ (k : Nat), v8 = .int .i64 (k : Int) ∧ k ≤ gs.length ∧ OwnInts wr (w.heap.size + 1 + 1) v7 (canTo b gs k) ∧ RowN wr (w.heap.size + 1) 5 4 (fun j => .bool (hadB gs ms j)) ∧ Holds wr (w.heap.size) 49 #[.int .i64 err, .int .i64 miss, .slice G gs.length d] ∧ Below w.heap.size w wr) (fun _ v8 _ => gs.length - (intOf v8).toNat)
   case atStart => exact ⟨0, rfl, Nat.zero_le _, ⟨rfl, .inl ⟨rfl, rfl⟩⟩, HFJ.out, HGB.out, HB.out⟩
   case round =>
    clear HROW HGB HB lr hz HFJ
    rename World => wb
    obtain ⟨k, rfl, hk, hown, hrow, hg, hB⟩ := hrel
    have hkl := canTo_len b gs k
    obtain ⟨A4, c4, rfl, _⟩ := ints_of_row hown
    have HO := Lib.hid hown
    have HROW := Lib.hid hrow
    have HGB := Lib.hid hg
    have HB := Lib.hid hB
    have lr := hrow.lt
    have lg := hg.lt
    have hz := hB.size
    obtain ⟨kg0, kg1, kg2⟩ := hg.c3
    clear hown hrow hg hB
    by_cases hlt2 : k < gs.length
    ·have hlt2' : (k : Int) < gs.length := by omega
     have hk5 : k + 1 < 5 := by omega
     have hk5' : (k : Int) + 1 < 5 := by omega
     cases hq : (shownBx b gs (some k)).isSome with
     | true =>
      have HQ := Lib.hid hq
      have hv : hadB gs ms (k + 1) = true := by rw [HH.out (k + 1) hlt2]; exact hq
      have kh : wb.cell? ⟨w.heap.size + 1, k + 1, none⟩ = some (.bool true) := (World.rowIs.cell HROW.out hk5).trans (by rw [hv])
      clear hq hv
      go_wp2_with (at_builtin; (refine wpList_append_own _ rfl _ _ 87 rfl (w.heap.size + 1 + 1) 3 i0 (.int .i64 0) 1 8 und_ints hi hz0 hz1 hz2 rfl (by decide) _ _ _ rfl (rk_up HO.out zg) ⟨wb.heap.size, 0, none⟩ 1 1 [.int .i64 (k : Int)] rfl rfl (cell_one_new' (by simp)) (by simp [Value.oneCell']) (by unfold maxLen; omega) (by omega) (by simp; omega) ?_); intro v5 w5 hown5 hgrow5 _; obtain ⟨A5, c5, rfl⟩ := row_val hown5; have HO5 := Lib.hid (ints_snoc hown5); have HG5 := Lib.hid hgrow5; have HR5 := Lib.hid (rowN_grown (HROW.out.up zg) hgrow5 (rk_up HO.out zg) (Nat.lt_succ_self _)); have HGB5 := Lib.hid (hold_grown (HGB.out.up zg) hgrow5 (rk_up HO.out zg) (by omega)); have HB5 : Hid (Below w.heap.size w w5) := Lib.hid (Below.grown (HB.out.trans zg) hgrow5 (by simp; omega) (fun k hk => Nat.le_trans (by omega) ((World.ownsRow.lt HO.out k hk).1))); clear hown5 hgrow5)
      go_roundw
      case rel => exact ⟨k + 1, by go_num, hlt2, by rw [canTo_yes HQ.out]; exact HO5.out, HR5.out, HGB5.out, HB5.out⟩
      case measure => first | (simp [intOf]; done) | (simp [intOf]; omega)
     | false =>
      have HQ := Lib.hid hq
      have hv : hadB gs ms (k + 1) = false := by rw [HH.out (k + 1) hlt2]; exact hq
      have kh : wb.cell? ⟨w.heap.size + 1, k + 1, none⟩ = some (.bool false) := (World.rowIs.cell HROW.out hk5).trans (by rw [hv])
      clear hq hv
      go_wp2_with fail
      go_roundw
      case rel => exact ⟨k + 1, by go_num, hlt2, by rw [canTo_no HQ.out]; exact HO.out, HROW.out, HGB.out, HB.out⟩
      case measure => first | (simp [intOf]; done) | (simp [intOf]; omega)
    ·have hlt2' : ¬ (k : Int) < gs.length := by omega
     have hkl2 : k = gs.length := by omega
     subst hkl2
     cases hq : (shownBx b gs none).isSome with
     | true =>
      have HQ := Lib.hid hq
      have hv : hadB gs ms 0 = true := by rw [HH.out 0 (Nat.zero_le _)]; exact hq
      have kh : wb.cell? ⟨w.heap.size + 1, 0, none⟩ = some (.bool true) := (World.rowIs.cell HROW.out (by decide)).trans (by rw [hv])
      clear hq hv
      go_wp2_with (at_builtin; (refine wpList_append_own _ rfl _ _ 87 rfl (w.heap.size + 1 + 1) 3 i0 (.int .i64 0) 1 8 und_ints hi hz0 hz1 hz2 rfl (by decide) _ _ _ rfl (rk_up HO.out zg) ⟨wb.heap.size, 0, none⟩ 1 1 [.int .i64 (-1)] rfl rfl (cell_one_new' (by simp)) (by simp [Value.oneCell']) (by unfold maxLen; omega) (by omega) (by simp; omega) ?_); intro v5 w5 hown5 hgrow5 _; obtain ⟨A5, c5, rfl⟩ := row_val hown5; have HO5 := Lib.hid (ints_snoc hown5); have HG5 := Lib.hid hgrow5; have HR5 := Lib.hid (rowN_grown (HROW.out.up zg) hgrow5 (rk_up HO.out zg) (Nat.lt_succ_self _)); have HGB5 := Lib.hid (hold_grown (HGB.out.up zg) hgrow5 (rk_up HO.out zg) (by omega)); have HB5 : Hid (Below w.heap.size w w5) := Lib.hid (Below.grown (HB.out.trans zg) hgrow5 (by simp; omega) (fun k hk => Nat.le_trans (by omega) ((World.ownsRow.lt HO.out k hk).1))); clear hown5 hgrow5)
      go_ret
      exact ⟨_, rfl, rk_mono (by rw [canOf_yes HQ.out]; exact HO5.out) (by omega), HB5.out⟩
     | false =>
      have HQ := Lib.hid hq
      have hv : hadB gs ms 0 = false := by rw [HH.out 0 (Nat.zero_le _)]; exact hq
      have kh : wb.cell? ⟨w.heap.size + 1, 0, none⟩ = some (.bool false) := (World.rowIs.cell HROW.out (by decide)).trans (by rw [hv])
      clear hq hv
      go_wp2_with fail
      go_ret
      exact ⟨_, rfl, rk_mono (by rw [canOf_no HQ.out]; exact HO.out) (by omega), HB.out⟩
set_option maxRecDepth 100000 in
set_option maxHeartbeats 8000000 in
theorem refPay_any (err miss : Int) (G : Option Addr) (d : Nat) (gs : List Gr) (full emp : Int) (A : Option Addr) (c : Nat) (hs : List Hf) (L : Option Addr) (q : Nat) (can : List Int) (w : World) (hG : GradesAt w G gs) (hgl : gs.length ≤ 1000) (hL : IntsAt w L can) (hcl : can.length ≤ 1000) (hr : ∀ g ∈ gs, g.right = true) (hcan : ∀ n ∈ can, n = -1 ∨ (0 ≤ n ∧ n < gs.length)) (r0 : 0 ≤ err) (r1 : err ≤ 50) (f0 : 0 ≤ full) (f1 : full ≤ 10000) (e0 : 0 ≤ emp) (e1 : emp ≤ 10000) :
  Calls Try.prog 56 #[.agg #[.int .i64 err, .int .i64 miss, .slice G gs.length d], .agg #[.int .i64 full, .int .i64 emp, .slice A hs.length c], .slice L can.length q] w fun e w' => e = .returned (.agg #[.int .i64 (max 0 (full - emp - 2 * err) * loPriceR gs can), .int .i64 (max 0 (full - emp + 2 * err) * hiPrice gs can)]) ∧ Below w.heap.size w w' := by
 have HG := Lib.hid hG
 have HL := Lib.hid hL
 have HR := Lib.hid hr
 have HC := Lib.hid hcan
 obtain ⟨NL, hNL⟩ : ∃ z, z = max 0 (full - emp - 2 * err) := ⟨_, rfl⟩
 obtain ⟨NH, hNH⟩ : ∃ z, z = max 0 (full - emp + 2 * err) := ⟨_, rfl⟩
 obtain ⟨LO, hLO⟩ : ∃ z, z = loPriceR gs can := ⟨_, rfl⟩
 obtain ⟨HI, hHI⟩ : ∃ z, z = hiPrice gs can := ⟨_, rfl⟩
 rw [← hNL, ← hNH, ← hLO, ← hHI]
 have hl0 : 0 ≤ NL ∧ NL ≤ 10100 := by omega
 have hh0 : 0 ≤ NH ∧ NH ≤ 10100 := by omega
 have QNL := Lib.hid hNL
 have QNH := Lib.hid hNH
 have QLO := Lib.hid hLO
 have QHI := Lib.hid hHI
 clear hG hL hr hcan hNL hNH hLO hHI
 go_enter Try.func56, Try.ntmps56
 go_wp2_with fail
 go_loopw [7, 8, 9, 10] (fun v7 v8 v9 v10 wr => ∃ (i : Nat) (lo hi : Int), v9 = .int .i64 (i : Int) ∧ i ≤ can.length ∧ v7 = .int .i64 lo ∧ v8 = .int .i64 hi ∧ Hid (lo = loPriceR gs (can.take i)) ∧ Hid (hi = hiPrice gs (can.take i)) ∧ Holds wr (w.heap.size) 49 #[.int .i64 err, .int .i64 miss, .slice G gs.length d] ∧ Holds wr (w.heap.size + 1) 37 #[.int .i64 full, .int .i64 emp, .slice A hs.length c] ∧ Holds wr (w.heap.size + 1 + 1) 60 #[.int .i64 0, .int .i64 0] ∧ Below w.heap.size w wr) (fun _ _ v9 _ _ => can.length - (intOf v9).toNat)
 case atStart => exact ⟨0, 101, 0, rfl, Nat.zero_le _, rfl, rfl, Lib.hid rfl, Lib.hid rfl, by (repeat first | (with_reducible first | assumption | apply Holds.set3 | apply Holds.set4 | apply Holds.putL | ((refine Holds.new' _ _ ?_); (simp; done)) | refine Holds.alloc ?_ _ | refine Holds.drew ?_ | refine Holds.far ?_ (by simp only [ne_eq]; omega) _) | rfl), by (repeat first | (with_reducible first | assumption | apply Holds.set3 | apply Holds.set4 | apply Holds.putL | ((refine Holds.new' _ _ ?_); (simp; done)) | refine Holds.alloc ?_ _ | refine Holds.drew ?_ | refine Holds.far ?_ (by simp only [ne_eq]; omega) _) | rfl), by (repeat first | (with_reducible first | assumption | apply Holds.set2 | apply Holds.set4 | apply Holds.putL | ((refine Holds.new' _ _ ?_); (simp; done)) | refine Holds.alloc ?_ _ | refine Holds.drew ?_ | refine Holds.far ?_ (by simp only [ne_eq]; omega) _) | rfl), zg⟩
 case round =>
  rename World => wa
  obtain ⟨i, lo, hi, rfl, hi_, rfl, rfl, hlo, hhi, hg, hc, hrs, hB⟩ := hrel
  have HGB := Lib.hid hg
  have HCB := Lib.hid hc
  have HRS := Lib.hid hrs
  have HB := Lib.hid hB
  have lr := hrs.lt
  have hz := hB.size
  have hlb : 0 ≤ lo ∧ lo ≤ 101 := by rw [hlo.out]; exact loR_bd HR.out _
  have hhb : 0 ≤ hi ∧ hi ≤ 100 := by rw [hhi.out]; exact hi_bd HR.out _
  clear hg hc hrs hB
  by_cases hlt : i < can.length
  ·have hlt' : (i : Int) < can.length := by omega
   obtain ⟨n, hn⟩ : ∃ x, can[i]? = some x := ⟨_, List.getElem?_eq_getElem hlt⟩
   obtain ⟨B, o, rfl, hcell⟩ := (HL.out.up HB.out) (by omega)
   have kn := hcell i n hn
   clear hcell
   have HN := Lib.hid hn
   have lB := World.block_lt_of_cell? wa _ kn
   obtain ⟨pr, hpr⟩ : ∃ z, z = priceOf gs n := ⟨_, rfl⟩
   have hpb : 0 ≤ pr ∧ pr ≤ 100 := by rw [hpr]; exact price_bd HR.out n
   have HPR := Lib.hid hpr
   have HLO1 : Hid (min lo pr = loPriceR gs (can.take (i + 1))) := Lib.hid (by rw [List.take_add_one, hn, hlo.out, hpr]; exact loR_snoc.symm)
   have HHI1 : Hid (max hi pr = hiPrice gs (can.take (i + 1))) := Lib.hid (by rw [List.take_add_one, hn, hhi.out, hpr]; exact hi_perm.symm)
   have hcn := HC.out n (List.mem_of_getElem? hn)
   clear hn hpr
   by_cases hn0 : 0 ≤ n
   ·obtain ⟨j, rfl⟩ : ∃ j : Nat, n = (j : Int) := ⟨n.toNat, by omega⟩
    have hj : j < gs.length := by omega
    obtain ⟨gr, hgr⟩ : ∃ x, gs[j]? = some x := ⟨_, List.getElem?_eq_getElem hj⟩
    obtain ⟨GB, go, rfl, hgc⟩ := (HG.out.up HB.out) (by omega)
    obtain ⟨_, _, _, _, kp⟩ := hgc j gr hgr
    clear hgc hcn
    have hpg : gr.price = pr := by rw [HPR.out, priceOf, if_neg (by omega)]; simp [hgr]
    rw [hpg] at kp
    clear hpg
    have hn0' : (0 : Int) ≤ (j : Int) := by omega
    have lGB := World.block_lt_of_cell? wa _ kp
    go_wp2_with fail
    rename_i Kc hKc
    have HSL := Lib.hid (show slotsOf [some 22, some 23, some 24, some 25, some 26, some 27, some 28, some 29, some 30, some 10] = [22, 23, 24, 25, 26, 27, 28, 29, 30, 10] from rfl)
    refine wp_region_partsG (by kernel_rfl) [some 22, some 23, some 24, some 25, some 26, some 27, some 28, some 29, some 30, some 10] (fun jq xq w' => match jq with
     | 0 => xq 22 = .pointer (some ⟨w.heap.size, 2, none⟩)
     | 1 => xq 23 = .slice (some ⟨GB, go, none⟩) gs.length d
     | 2 => xq 24 = .slice (some ⟨B, o, none⟩) can.length q
     | 3 => xq 25 = .int .i64 (i : Int)
     | 4 => xq 26 = .pointer (some ⟨B, o + i, none⟩)
     | 5 => xq 27 = .int .i64 (j : Int)
     | 6 => xq 28 = .pointer (some ⟨GB, go + j * 5, none⟩)
     | 7 => xq 29 = .pointer (some ⟨GB, go + j * 5 + 4, none⟩)
     | 8 => xq 30 = .int .i64 pr
     | 9 => xq 10 = .int .i64 pr
     | _ => True) [[22], [23], [24], [25], [26], [27], [28], [29], [30], [10]] [] (fun w' => Below wa.heap.size wa w') (by kernel_rfl)  ?_ ?_ (fun w' w'' hb h => h.trans (hb.mono h.size)) (Below.refl _ _) ?_ ?_ ?_
    ·intro jq xq xq' wqq h hv
     match jq, h, hv with
     | 0, h, hv => show xq' 22 = .pointer (some ⟨w.heap.size, 2, none⟩); rw [← h 22 (by decide)]; exact hv
     | 1, h, hv => show xq' 23 = .slice (some ⟨GB, go, none⟩) gs.length d; rw [← h 23 (by decide)]; exact hv
     | 2, h, hv => show xq' 24 = .slice (some ⟨B, o, none⟩) can.length q; rw [← h 24 (by decide)]; exact hv
     | 3, h, hv => show xq' 25 = .int .i64 (i : Int); rw [← h 25 (by decide)]; exact hv
     | 4, h, hv => show xq' 26 = .pointer (some ⟨B, o + i, none⟩); rw [← h 26 (by decide)]; exact hv
     | 5, h, hv => show xq' 27 = .int .i64 (j : Int); rw [← h 27 (by decide)]; exact hv
     | 6, h, hv => show xq' 28 = .pointer (some ⟨GB, go + j * 5, none⟩); rw [← h 28 (by decide)]; exact hv
     | 7, h, hv => show xq' 29 = .pointer (some ⟨GB, go + j * 5 + 4, none⟩); rw [← h 29 (by decide)]; exact hv
     | 8, h, hv => show xq' 30 = .int .i64 pr; rw [← h 30 (by decide)]; exact hv
     | 9, h, hv => show xq' 10 = .int .i64 pr; rw [← h 10 (by decide)]; exact hv
     | _ + 10, _, _ => trivial
    ·intro jq xq wqq w' hb' hv
     match jq, hv with
     | 0, hv => exact hv
     | 1, hv => exact hv
     | 2, hv => exact hv
     | 3, hv => exact hv
     | 4, hv => exact hv
     | 5, hv => exact hv
     | 6, hv => exact hv
     | 7, hv => exact hv
     | 8, hv => exact hv
     | 9, hv => exact hv
     | _ + 10, _ => trivial
    ·intro jq hj
     match jq, hj with
     | 0, hj => exact absurd hj (by decide)
     | 1, hj => exact absurd hj (by decide)
     | 2, hj => exact absurd hj (by decide)
     | 3, hj => exact absurd hj (by decide)
     | 4, hj => exact absurd hj (by decide)
     | 5, hj => exact absurd hj (by decide)
     | 6, hj => exact absurd hj (by decide)
     | 7, hj => exact absurd hj (by decide)
     | 8, hj => exact absurd hj (by decide)
     | 9, hj => exact absurd hj (by decide)
     | _ + 10, _ => trivial
    ·refine ⟨?_, ?_, ?_, ?_, ?_, ?_, ?_, ?_, ?_, ?_, trivial⟩
     ·intro xq w1 hb1 hx K hK0
      have hK := fun v w' hb => hK0 v w' (.inl hb)
      clear hx hKc hK0
      simp only [frameOf, fill, setSlot, sg, Nat.reduceBEq, if_true, if_false, Nat.reduceAdd, Nat.reduceEqDiff, HSL.out] at hK ⊢
      go_wp2_with (fail)
      exact hK _ _ (Below.refl _ _) rfl
     ·intro xq w1 hb1 hx K hK0
      have hK := fun v w' hb => hK0 v w' (.inl hb)
      have e22 : xq 22 = .pointer (some ⟨w.heap.size, 2, none⟩) := hx 0 (by rfl) (by rfl)
      clear hx hKc hK0
      have kg2 : w1.cell? ⟨w.heap.size, 2, none⟩ = some (.slice (some ⟨GB, go, none⟩) gs.length d) := (HGB.out.up hb1).cell 2
      simp only [frameOf, fill, setSlot, sg, Nat.reduceBEq, if_true, if_false, Nat.reduceAdd, Nat.reduceEqDiff, HSL.out] at hK ⊢
      simp only [e22] at hK ⊢
      clear e22
      go_wp2_with (fail)
      exact hK _ _ (Below.refl _ _) rfl
     ·intro xq w1 hb1 hx K hK0
      have hK := fun v w' hb => hK0 v w' (.inl hb)
      clear hx hKc hK0
      simp only [frameOf, fill, setSlot, sg, Nat.reduceBEq, if_true, if_false, Nat.reduceAdd, Nat.reduceEqDiff, HSL.out] at hK ⊢
      go_wp2_with (fail)
      exact hK _ _ (Below.refl _ _) rfl
     ·intro xq w1 hb1 hx K hK0
      have hK := fun v w' hb => hK0 v w' (.inl hb)
      clear hx hKc hK0
      simp only [frameOf, fill, setSlot, sg, Nat.reduceBEq, if_true, if_false, Nat.reduceAdd, Nat.reduceEqDiff, HSL.out] at hK ⊢
      go_wp2_with (fail)
      exact hK _ _ (Below.refl _ _) rfl
     ·intro xq w1 hb1 hx K hK0
      have hK := fun v w' hb => hK0 v w' (.inl hb)
      have e24 : xq 24 = .slice (some ⟨B, o, none⟩) can.length q := hx 2 (by rfl) (by rfl)
      have e25 : xq 25 = .int .i64 (i : Int) := hx 3 (by rfl) (by rfl)
      clear hx hKc hK0
      have hii : (i : Int) < can.length := by omega
      simp only [frameOf, fill, setSlot, sg, Nat.reduceBEq, if_true, if_false, Nat.reduceAdd, Nat.reduceEqDiff, HSL.out] at hK ⊢
      simp only [e24, e25] at hK ⊢
      clear e24 e25
      go_wp2_with (fail)
      exact hK _ _ (Below.refl _ _) rfl
     ·intro xq w1 hb1 hx K hK0
      have hK := fun v w' hb => hK0 v w' (.inl hb)
      have e26 : xq 26 = .pointer (some ⟨B, o + i, none⟩) := hx 4 (by rfl) (by rfl)
      clear hx hKc hK0
      have kn1 := up_cell hb1 kn
      simp only [frameOf, fill, setSlot, sg, Nat.reduceBEq, if_true, if_false, Nat.reduceAdd, Nat.reduceEqDiff, HSL.out] at hK ⊢
      simp only [e26] at hK ⊢
      clear e26
      go_wp2_with (fail)
      exact hK _ _ (Below.refl _ _) rfl
     ·intro xq w1 hb1 hx K hK0
      have hK := fun v w' hb => hK0 v w' (.inl hb)
      have e23 : xq 23 = .slice (some ⟨GB, go, none⟩) gs.length d := hx 1 (by rfl) (by rfl)
      have e27 : xq 27 = .int .i64 (j : Int) := hx 5 (by rfl) (by rfl)
      clear hx hKc hK0
      have hji : (j : Int) < gs.length := by omega
      simp only [frameOf, fill, setSlot, sg, Nat.reduceBEq, if_true, if_false, Nat.reduceAdd, Nat.reduceEqDiff, HSL.out] at hK ⊢
      simp only [e23, e27] at hK ⊢
      clear e23 e27
      go_wp2_with (fail)
      exact hK _ _ (Below.refl _ _) rfl
     ·intro xq w1 hb1 hx K hK0
      have hK := fun v w' hb => hK0 v w' (.inl hb)
      have e28 : xq 28 = .pointer (some ⟨GB, go + j * 5, none⟩) := hx 6 (by rfl) (by rfl)
      clear hx hKc hK0
      simp only [frameOf, fill, setSlot, sg, Nat.reduceBEq, if_true, if_false, Nat.reduceAdd, Nat.reduceEqDiff, HSL.out] at hK ⊢
      simp only [e28] at hK ⊢
      clear e28
      go_wp2_with (fail)
      exact hK _ _ (Below.refl _ _) rfl
     ·intro xq w1 hb1 hx K hK0
      have hK := fun v w' hb => hK0 v w' (.inl hb)
      have e29 : xq 29 = .pointer (some ⟨GB, go + j * 5 + 4, none⟩) := hx 7 (by rfl) (by rfl)
      clear hx hKc hK0
      have kp1 := up_cell hb1 kp
      simp only [frameOf, fill, setSlot, sg, Nat.reduceBEq, if_true, if_false, Nat.reduceAdd, Nat.reduceEqDiff, HSL.out] at hK ⊢
      simp only [e29] at hK ⊢
      clear e29
      go_wp2_with (fail)
      exact hK _ _ (Below.refl _ _) rfl
     ·intro xq w1 hb1 hx K hK0
      have hK := fun v w' hb => hK0 v w' (.inl hb)
      have e30 : xq 30 = .int .i64 pr := hx 8 (by rfl) (by rfl)
      clear hx hKc hK0
      simp only [frameOf, fill, setSlot, sg, Nat.reduceBEq, if_true, if_false, Nat.reduceAdd, Nat.reduceEqDiff, HSL.out] at hK ⊢
      simp only [e30] at hK ⊢
      clear e30
      go_wp2_with (fail)
      exact hK _ _ (Below.refl _ _) rfl
    ·intro xq w1 hb1 hx
     have e22 : xq 22 = .pointer (some ⟨w.heap.size, 2, none⟩) := hx 0 (by decide)
     have e23 : xq 23 = .slice (some ⟨GB, go, none⟩) gs.length d := hx 1 (by decide)
     have e24 : xq 24 = .slice (some ⟨B, o, none⟩) can.length q := hx 2 (by decide)
     have e25 : xq 25 = .int .i64 (i : Int) := hx 3 (by decide)
     have e26 : xq 26 = .pointer (some ⟨B, o + i, none⟩) := hx 4 (by decide)
     have e27 : xq 27 = .int .i64 (j : Int) := hx 5 (by decide)
     have e28 : xq 28 = .pointer (some ⟨GB, go + j * 5, none⟩) := hx 6 (by decide)
     have e29 : xq 29 = .pointer (some ⟨GB, go + j * 5 + 4, none⟩) := hx 7 (by decide)
     have e30 : xq 30 = .int .i64 pr := hx 8 (by decide)
     have e10 : xq 10 = .int .i64 pr := hx 9 (by decide)
     clear hx
     simp only [frameOf, fill, setSlot, sg, Nat.reduceBEq, if_true, if_false, Nat.reduceAdd, Nat.reduceEqDiff, HSL.out]
     simp only [e22, e23, e24, e25, e26, e27, e28, e29, e30, e10]
     clear e22 e23 e24 e25 e26 e27 e28 e29 e30 e10
     refine hKc _ _ ?_
     have HR1 := Lib.hid hb1
     have hz1 := hb1.size
     clear hb1
     go_wp2_with fail
     all_goals
      go_roundw
      case rel => exact ⟨i + 1, min lo pr, max hi pr, by go_num, by omega, by first | rfl | go_num, by first | rfl | go_num, HLO1, HHI1, HGB.out.up HR1.out, HCB.out.up HR1.out, HRS.out.up HR1.out, (HB.out.trans (HR1.out.mono hz)).trans zg⟩
      case measure => first | (simp [intOf]; done) | (simp [intOf]; omega)
   ·have hn1 : n = -1 := by omega
    have hp0 : pr = 0 := by rw [HPR.out, hn1]; rfl
    have hn0 : ¬ 0 ≤ n := by omega
    clear hcn
    subst hp0
    clear hn1
    go_wp2_with fail
    all_goals
     go_roundw
     case rel => exact ⟨i + 1, min lo 0, max hi 0, by go_num, by omega, by first | rfl | go_num, by first | rfl | go_num, HLO1, HHI1, HGB.out, HCB.out, HRS.out, HB.out.trans zg⟩
     case measure => first | (simp [intOf]; done) | (simp [intOf]; omega)
  ·have hlt' : ¬ (i : Int) < can.length := by omega
   have hie : i = can.length := by omega
   subst hie
   have HLO : lo = LO := by have := hlo.out; rw [List.take_length] at this; rw [this, QLO.out]
   have HHI : hi = HI := by have := hhi.out; rw [List.take_length] at this; rw [this, QHI.out]
   subst HLO
   subst HHI
   have p0 : 0 ≤ NL * lo := Int.mul_nonneg hl0.1 hlb.1
   have p1 : NL * lo ≤ 10100 * 101 := Int.mul_le_mul hl0.2 hlb.2 hlb.1 (by decide)
   have p2 : 0 ≤ NH * hi := Int.mul_nonneg hh0.1 hhb.1
   have p3 : NH * hi ≤ 10100 * 100 := Int.mul_le_mul hh0.2 hhb.2 hhb.1 (by decide)
   go_wp2_with fail
   rename_i Kc hKc
   have HSL := Lib.hid (show slotsOf [some 37, some 38, some 39, some 40, some 41, some 42, some 43, some 44, some 45, some 46, some 47, some 48, some 49, none] = [37, 38, 39, 40, 41, 42, 43, 44, 45, 46, 47, 48, 49] from rfl)
   refine wp_region_partsG (by kernel_rfl) [some 37, some 38, some 39, some 40, some 41, some 42, some 43, some 44, some 45, some 46, some 47, some 48, some 49, none] (fun jq xq w' => match jq with
    | 0 => xq 37 = .agg #[.int .i64 err, .int .i64 miss, .slice G gs.length d]
    | 1 => xq 38 = .agg #[.int .i64 full, .int .i64 emp, .slice A hs.length c]
    | 2 => xq 39 = .agg #[.int .i64 NL, .int .i64 NH]
    | 3 => xq 40 = .int .i64 NL
    | 4 => xq 41 = .int .i64 lo
    | 5 => xq 42 = .int .i64 (NL * lo)
    | 6 => xq 43 = .agg #[.int .i64 err, .int .i64 miss, .slice G gs.length d]
    | 7 => xq 44 = .agg #[.int .i64 full, .int .i64 emp, .slice A hs.length c]
    | 8 => xq 45 = .agg #[.int .i64 NL, .int .i64 NH]
    | 9 => xq 46 = .int .i64 NH
    | 10 => xq 47 = .int .i64 hi
    | 11 => xq 48 = .int .i64 (NH * hi)
    | 12 => xq 49 = .agg #[.int .i64 (NL * lo), .int .i64 (NH * hi)]
    | 13 => Holds w' (w.heap.size + 1 + 1) 60 #[.int .i64 (NL * lo), .int .i64 (NH * hi)]
    | 14 => Holds w' (w.heap.size + 1 + 1) 60 #[.int .i64 0, .int .i64 0]
    | _ => True) [[37], [38], [39], [40], [41], [42], [43], [44], [45], [46], [47], [48], [49], [], []] [(13, 14)] (fun w' => Below (w.heap.size + 1 + 1) wa w') (by kernel_rfl)  ?_ ?_ (fun w' w'' hb h => h.trans (hb.mono (Nat.le_trans (by omega) h.size))) (Below.refl _ _) ?_ ?_ ?_
   ·intro jq xq xq' wqq h hv
    match jq, h, hv with
    | 0, h, hv => show xq' 37 = .agg #[.int .i64 err, .int .i64 miss, .slice G gs.length d]; rw [← h 37 (by decide)]; exact hv
    | 1, h, hv => show xq' 38 = .agg #[.int .i64 full, .int .i64 emp, .slice A hs.length c]; rw [← h 38 (by decide)]; exact hv
    | 2, h, hv => show xq' 39 = .agg #[.int .i64 NL, .int .i64 NH]; rw [← h 39 (by decide)]; exact hv
    | 3, h, hv => show xq' 40 = .int .i64 NL; rw [← h 40 (by decide)]; exact hv
    | 4, h, hv => show xq' 41 = .int .i64 lo; rw [← h 41 (by decide)]; exact hv
    | 5, h, hv => show xq' 42 = .int .i64 (NL * lo); rw [← h 42 (by decide)]; exact hv
    | 6, h, hv => show xq' 43 = .agg #[.int .i64 err, .int .i64 miss, .slice G gs.length d]; rw [← h 43 (by decide)]; exact hv
    | 7, h, hv => show xq' 44 = .agg #[.int .i64 full, .int .i64 emp, .slice A hs.length c]; rw [← h 44 (by decide)]; exact hv
    | 8, h, hv => show xq' 45 = .agg #[.int .i64 NL, .int .i64 NH]; rw [← h 45 (by decide)]; exact hv
    | 9, h, hv => show xq' 46 = .int .i64 NH; rw [← h 46 (by decide)]; exact hv
    | 10, h, hv => show xq' 47 = .int .i64 hi; rw [← h 47 (by decide)]; exact hv
    | 11, h, hv => show xq' 48 = .int .i64 (NH * hi); rw [← h 48 (by decide)]; exact hv
    | 12, h, hv => show xq' 49 = .agg #[.int .i64 (NL * lo), .int .i64 (NH * hi)]; rw [← h 49 (by decide)]; exact hv
    | 13, h, hv => exact hv
    | 14, h, hv => exact hv
    | _ + 15, _, _ => trivial
   ·intro jq xq wqq w' hb' hv
    match jq, hv with
    | 0, hv => exact hv
    | 1, hv => exact hv
    | 2, hv => exact hv
    | 3, hv => exact hv
    | 4, hv => exact hv
    | 5, hv => exact hv
    | 6, hv => exact hv
    | 7, hv => exact hv
    | 8, hv => exact hv
    | 9, hv => exact hv
    | 10, hv => exact hv
    | 11, hv => exact hv
    | 12, hv => exact hv
    | 13, h0 => exact h0.up hb'
    | 14, h0 => exact h0.up hb'
    | _ + 15, _ => trivial
   ·intro jq hj
    match jq, hj with
    | 0, hj => exact absurd hj (by decide)
    | 1, hj => exact absurd hj (by decide)
    | 2, hj => exact absurd hj (by decide)
    | 3, hj => exact absurd hj (by decide)
    | 4, hj => exact absurd hj (by decide)
    | 5, hj => exact absurd hj (by decide)
    | 6, hj => exact absurd hj (by decide)
    | 7, hj => exact absurd hj (by decide)
    | 8, hj => exact absurd hj (by decide)
    | 9, hj => exact absurd hj (by decide)
    | 10, hj => exact absurd hj (by decide)
    | 11, hj => exact absurd hj (by decide)
    | 12, hj => exact absurd hj (by decide)
    | 13, hj => exact absurd hj (by decide)
    | 14, _ => exact HRS.out
    | _ + 15, _ => trivial
   ·refine ⟨?_, ?_, ?_, ?_, ?_, ?_, ?_, ?_, ?_, ?_, ?_, ?_, ?_, ?_, trivial⟩
    ·intro xq w1 hb1 hx K hK0
     have hK := fun v w' hb => hK0 v w' (.inl hb)
     clear hx hKc hK0
     have kHGB0 : w1.cell? ⟨w.heap.size, 0, none⟩ = some (.int .i64 err) := (HGB.out.low hb1 (by omega)).cell 0
     have kHGB1 : w1.cell? ⟨w.heap.size, 1, none⟩ = some (.int .i64 miss) := (HGB.out.low hb1 (by omega)).cell 1
     have kHGB2 : w1.cell? ⟨w.heap.size, 2, none⟩ = some (.slice G gs.length d) := (HGB.out.low hb1 (by omega)).cell 2
     simp only [frameOf, fill, setSlot, sg, Nat.reduceBEq, if_true, if_false, Nat.reduceAdd, Nat.reduceEqDiff, HSL.out] at hK ⊢
     go_wp2_with (fail)
     exact hK _ _ (Below.refl _ _) rfl
    ·intro xq w1 hb1 hx K hK0
     have hK := fun v w' hb => hK0 v w' (.inl hb)
     clear hx hKc hK0
     have kHCB0 : w1.cell? ⟨w.heap.size + 1, 0, none⟩ = some (.int .i64 full) := (HCB.out.low hb1 (by omega)).cell 0
     have kHCB1 : w1.cell? ⟨w.heap.size + 1, 1, none⟩ = some (.int .i64 emp) := (HCB.out.low hb1 (by omega)).cell 1
     have kHCB2 : w1.cell? ⟨w.heap.size + 1, 2, none⟩ = some (.slice A hs.length c) := (HCB.out.low hb1 (by omega)).cell 2
     simp only [frameOf, fill, setSlot, sg, Nat.reduceBEq, if_true, if_false, Nat.reduceAdd, Nat.reduceEqDiff, HSL.out] at hK ⊢
     go_wp2_with (fail)
     exact hK _ _ (Below.refl _ _) rfl
    ·intro xq w1 hb1 hx K hK0
     have hK := fun v w' hb => hK0 v w' (.inl hb)
     have e37 : xq 37 = .agg #[.int .i64 err, .int .i64 miss, .slice G gs.length d] := hx 0 (by rfl) (by rfl)
     have e38 : xq 38 = .agg #[.int .i64 full, .int .i64 emp, .slice A hs.length c] := hx 1 (by rfl) (by rfl)
     clear hx hKc hK0
     simp only [frameOf, fill, setSlot, sg, Nat.reduceBEq, if_true, if_false, Nat.reduceAdd, Nat.reduceEqDiff, HSL.out] at hK ⊢
     simp only [e37, e38] at hK ⊢
     clear e37 e38
     go_wp2_with (go_at_call 31; refine (refNet_any err miss G d gs full emp A c hs _ r0 r1 f0 f1 e0 e1).mono ?_; rw [← QNL.out, ← QNH.out]; rintro e w2_ ⟨rfl, hb_⟩)
     exact hK _ _ hb_ rfl
    ·intro xq w1 hb1 hx K hK0
     have hK := fun v w' hb => hK0 v w' (.inl hb)
     have e39 : xq 39 = .agg #[.int .i64 NL, .int .i64 NH] := hx 2 (by rfl) (by rfl)
     clear hx hKc hK0
     have hfl : ∀ w : World, (Instr.field 60 (.agg #[.int .i64 NL, .int .i64 NH]) 0).run Try.prog w = .ok (.int .i64 NL) w := fun _ => by kernel_rfl
     simp only [frameOf, fill, setSlot, sg, Nat.reduceBEq, if_true, if_false, Nat.reduceAdd, Nat.reduceEqDiff, HSL.out] at hK ⊢
     simp only [e39] at hK ⊢
     clear e39
     go_wp2_with (fail)
     exact hK _ _ (Below.refl _ _) rfl
    ·intro xq w1 hb1 hx K hK0
     have hK := fun v w' hb => hK0 v w' (.inl hb)
     clear hx hKc hK0
     simp only [frameOf, fill, setSlot, sg, Nat.reduceBEq, if_true, if_false, Nat.reduceAdd, Nat.reduceEqDiff, HSL.out] at hK ⊢
     go_wp2_with (fail)
     exact hK _ _ (Below.refl _ _) rfl
    ·intro xq w1 hb1 hx K hK0
     have hK := fun v w' hb => hK0 v w' (.inl hb)
     have e40 : xq 40 = .int .i64 NL := hx 3 (by rfl) (by rfl)
     have e41 : xq 41 = .int .i64 lo := hx 4 (by rfl) (by rfl)
     clear hx hKc hK0
     simp only [frameOf, fill, setSlot, sg, Nat.reduceBEq, if_true, if_false, Nat.reduceAdd, Nat.reduceEqDiff, HSL.out] at hK ⊢
     simp only [e40, e41] at hK ⊢
     clear e40 e41
     go_wp2_with (fail)
     exact hK _ _ (Below.refl _ _) rfl
    ·intro xq w1 hb1 hx K hK0
     have hK := fun v w' hb => hK0 v w' (.inl hb)
     clear hx hKc hK0
     have kHGB0 : w1.cell? ⟨w.heap.size, 0, none⟩ = some (.int .i64 err) := (HGB.out.low hb1 (by omega)).cell 0
     have kHGB1 : w1.cell? ⟨w.heap.size, 1, none⟩ = some (.int .i64 miss) := (HGB.out.low hb1 (by omega)).cell 1
     have kHGB2 : w1.cell? ⟨w.heap.size, 2, none⟩ = some (.slice G gs.length d) := (HGB.out.low hb1 (by omega)).cell 2
     simp only [frameOf, fill, setSlot, sg, Nat.reduceBEq, if_true, if_false, Nat.reduceAdd, Nat.reduceEqDiff, HSL.out] at hK ⊢
     go_wp2_with (fail)
     exact hK _ _ (Below.refl _ _) rfl
    ·intro xq w1 hb1 hx K hK0
     have hK := fun v w' hb => hK0 v w' (.inl hb)
     clear hx hKc hK0
     have kHCB0 : w1.cell? ⟨w.heap.size + 1, 0, none⟩ = some (.int .i64 full) := (HCB.out.low hb1 (by omega)).cell 0
     have kHCB1 : w1.cell? ⟨w.heap.size + 1, 1, none⟩ = some (.int .i64 emp) := (HCB.out.low hb1 (by omega)).cell 1
     have kHCB2 : w1.cell? ⟨w.heap.size + 1, 2, none⟩ = some (.slice A hs.length c) := (HCB.out.low hb1 (by omega)).cell 2
     simp only [frameOf, fill, setSlot, sg, Nat.reduceBEq, if_true, if_false, Nat.reduceAdd, Nat.reduceEqDiff, HSL.out] at hK ⊢
     go_wp2_with (fail)
     exact hK _ _ (Below.refl _ _) rfl
    ·intro xq w1 hb1 hx K hK0
     have hK := fun v w' hb => hK0 v w' (.inl hb)
     have e43 : xq 43 = .agg #[.int .i64 err, .int .i64 miss, .slice G gs.length d] := hx 6 (by rfl) (by rfl)
     have e44 : xq 44 = .agg #[.int .i64 full, .int .i64 emp, .slice A hs.length c] := hx 7 (by rfl) (by rfl)
     clear hx hKc hK0
     simp only [frameOf, fill, setSlot, sg, Nat.reduceBEq, if_true, if_false, Nat.reduceAdd, Nat.reduceEqDiff, HSL.out] at hK ⊢
     simp only [e43, e44] at hK ⊢
     clear e43 e44
     go_wp2_with (go_at_call 31; refine (refNet_any err miss G d gs full emp A c hs _ r0 r1 f0 f1 e0 e1).mono ?_; rw [← QNL.out, ← QNH.out]; rintro e w2_ ⟨rfl, hb_⟩)
     exact hK _ _ hb_ rfl
    ·intro xq w1 hb1 hx K hK0
     have hK := fun v w' hb => hK0 v w' (.inl hb)
     have e45 : xq 45 = .agg #[.int .i64 NL, .int .i64 NH] := hx 8 (by rfl) (by rfl)
     clear hx hKc hK0
     have hfl : ∀ w : World, (Instr.field 60 (.agg #[.int .i64 NL, .int .i64 NH]) 1).run Try.prog w = .ok (.int .i64 NH) w := fun _ => by kernel_rfl
     simp only [frameOf, fill, setSlot, sg, Nat.reduceBEq, if_true, if_false, Nat.reduceAdd, Nat.reduceEqDiff, HSL.out] at hK ⊢
     simp only [e45] at hK ⊢
     clear e45
     go_wp2_with (fail)
     exact hK _ _ (Below.refl _ _) rfl
    ·intro xq w1 hb1 hx K hK0
     have hK := fun v w' hb => hK0 v w' (.inl hb)
     clear hx hKc hK0
     simp only [frameOf, fill, setSlot, sg, Nat.reduceBEq, if_true, if_false, Nat.reduceAdd, Nat.reduceEqDiff, HSL.out] at hK ⊢
     go_wp2_with (fail)
     exact hK _ _ (Below.refl _ _) rfl
    ·intro xq w1 hb1 hx K hK0
     have hK := fun v w' hb => hK0 v w' (.inl hb)
     have e46 : xq 46 = .int .i64 NH := hx 9 (by rfl) (by rfl)
     have e47 : xq 47 = .int .i64 hi := hx 10 (by rfl) (by rfl)
     clear hx hKc hK0
     simp only [frameOf, fill, setSlot, sg, Nat.reduceBEq, if_true, if_false, Nat.reduceAdd, Nat.reduceEqDiff, HSL.out] at hK ⊢
     simp only [e46, e47] at hK ⊢
     clear e46 e47
     go_wp2_with (fail)
     exact hK _ _ (Below.refl _ _) rfl
    ·intro xq w1 hb1 hx K hK0
     have hK := fun v w' hb => hK0 v w' (.inl hb)
     have e42 : xq 42 = .int .i64 (NL * lo) := hx 5 (by rfl) (by rfl)
     have e48 : xq 48 = .int .i64 (NH * hi) := hx 11 (by rfl) (by rfl)
     clear hx hKc hK0
     simp only [frameOf, fill, setSlot, sg, Nat.reduceBEq, if_true, if_false, Nat.reduceAdd, Nat.reduceEqDiff, HSL.out] at hK ⊢
     simp only [e42, e48] at hK ⊢
     clear e42 e48
     go_wp2_with (fail)
     exact hK _ _ (Below.refl _ _) rfl
    ·intro xq w1 hb1 hx K hK0
     have hK := fun v w' hb => hK0 v w' (.inr hb)
     have e49 : xq 49 = .agg #[.int .i64 (NL * lo), .int .i64 (NH * hi)] := hx 12 (by rfl) (by rfl)
     have fis_0 : Holds w1 (w.heap.size + 1 + 1) 60 #[.int .i64 0, .int .i64 0] := hx 14 (by rfl) (by rfl)
     clear hx hKc hK0
     obtain ⟨ks0, ks1⟩ := fis_0.c2
     obtain ⟨zs0, zs1⟩ := fis_0.f2
     simp only [frameOf, fill, setSlot, sg, Nat.reduceBEq, if_true, if_false, Nat.reduceAdd, Nat.reduceEqDiff, HSL.out] at hK ⊢
     have E49 := Lib.hid e49
     simp only [e49] at hK ⊢
     clear e49
     go_wp2_with (fail)
     refine hK undef _ ⟨(by have h := hb1; exact zg), ?_⟩ (by have h := fis_0; exact zp7)
     intro jq xq hd hne hv
     match jq, hd, hne, hv with
     | 0, _, _, hv => exact hv
     | 1, _, _, hv => exact hv
     | 2, _, _, hv => exact hv
     | 3, _, _, hv => exact hv
     | 4, _, _, hv => exact hv
     | 5, _, _, hv => exact hv
     | 6, _, _, hv => exact hv
     | 7, _, _, hv => exact hv
     | 8, _, _, hv => exact hv
     | 9, _, _, hv => exact hv
     | 10, _, _, hv => exact hv
     | 11, _, _, hv => exact hv
     | 12, _, _, hv => exact hv
     | 13, _, hne, _ => exact absurd rfl hne
     | 14, hd, _, _ => exact absurd hd (by decide)
     | _ + 15, _, _, _ => trivial
   ·intro xq w1 hb1 hx
    have e37 : xq 37 = .agg #[.int .i64 err, .int .i64 miss, .slice G gs.length d] := hx 0 (by decide)
    have e38 : xq 38 = .agg #[.int .i64 full, .int .i64 emp, .slice A hs.length c] := hx 1 (by decide)
    have e39 : xq 39 = .agg #[.int .i64 NL, .int .i64 NH] := hx 2 (by decide)
    have e40 : xq 40 = .int .i64 NL := hx 3 (by decide)
    have e41 : xq 41 = .int .i64 lo := hx 4 (by decide)
    have e42 : xq 42 = .int .i64 (NL * lo) := hx 5 (by decide)
    have e43 : xq 43 = .agg #[.int .i64 err, .int .i64 miss, .slice G gs.length d] := hx 6 (by decide)
    have e44 : xq 44 = .agg #[.int .i64 full, .int .i64 emp, .slice A hs.length c] := hx 7 (by decide)
    have e45 : xq 45 = .agg #[.int .i64 NL, .int .i64 NH] := hx 8 (by decide)
    have e46 : xq 46 = .int .i64 NH := hx 9 (by decide)
    have e47 : xq 47 = .int .i64 hi := hx 10 (by decide)
    have e48 : xq 48 = .int .i64 (NH * hi) := hx 11 (by decide)
    have e49 : xq 49 = .agg #[.int .i64 (NL * lo), .int .i64 (NH * hi)] := hx 12 (by decide)
    have fn13_0 : Holds w1 (w.heap.size + 1 + 1) 60 #[.int .i64 (NL * lo), .int .i64 (NH * hi)] := hx 13 (by decide)
    clear hx
    simp only [frameOf, fill, setSlot, sg, Nat.reduceBEq, if_true, if_false, Nat.reduceAdd, Nat.reduceEqDiff, HSL.out]
    simp only [e37, e38, e39, e40, e41, e42, e43, e44, e45, e46, e47, e48, e49]
    clear e37 e38 e39 e40 e41 e42 e43 e44 e45 e46 e47 e48 e49
    have HN13 := Lib.hid fn13_0
    have HBE := Lib.hid (HB.out.trans (hb1.mono (by omega)))
    clear hb1 fn13_0
    go_wp2_with fail
    refine ret_cell (t := 60) (cs := #[.int .i64 (NL * lo), .int .i64 (NH * hi)]) rfl rfl HN13.out Try.underlying60 rfl (by kernel_rfl) rfl ⟨rfl, HBE.out⟩
end Go.Proofs.Ytifffonoipapgaa
