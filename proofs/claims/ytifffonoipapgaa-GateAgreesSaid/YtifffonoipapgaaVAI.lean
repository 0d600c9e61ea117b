
import Derived.Test.YtifffonoipapgaaVAA
import Derived.Test.YtifffonoipapgaaVAC
import Derived.Test.YtifffonoipapgaaVAH
set_option linter.unusedSimpArgs false
set_option linter.unusedVariables false
namespace Go.Proofs.Ytifffonoipapgaa
open Go.RowKit
attribute [local go_sem] ix4_0 ix4_1 ix4_2 ix4_3 ix8_0 ix8_1 ix8_2 ix8_3
theorem falls_step (gs : List Gr) (k : Nat) (h : k + 1 < gs.length) : falls (gs.drop k) = (decide (gs[k + 1].price ≤ gs[k].price) && falls (gs.drop (k + 1))) := by
 rw [List.drop_eq_getElem_cons (show k < gs.length by omega), List.drop_eq_getElem_cons h, falls]
theorem falls_end (gs : List Gr) (k : Nat) (h : gs.length ≤ k + 1) : falls (gs.drop k) = true := by
 rcases Nat.lt_or_ge k gs.length with hk | hk
 ·rw [List.drop_eq_getElem_cons hk, List.drop_eq_nil_of_le h]; rfl
 ·rw [List.drop_eq_nil_of_le hk]; rfl
set_option maxRecDepth 100000 in
set_option maxHeartbeats 1000000 in
theorem pricesFall_any (A : Option Addr) (c : Nat) (gs : List Gr) (w : World) (hA : GradesAt w A gs) (hl : gs.length ≤ 1000) :
  Calls Try.prog 85 #[.slice A gs.length c] w fun e w' => e = .returned (.bool (falls gs)) ∧ Below w.heap.size w w' := by
 have HA := Lib.hid hA
 clear hA
 go_enter Try.func85, Try.ntmps85
 go_wp2_with fail
 go_loopw [3] (fun v3 wr => ∃ k : Nat, k ≤ gs.length ∧ v3 = .int .i64 ((k : Int) + 1) ∧ Hid (falls gs = falls (gs.drop k)) ∧ Below w.heap.size w wr) (fun v3 _ => gs.length + 1 - (intOf v3).toNat)
 case atStart => exact ⟨0, Nat.zero_le _, rfl, rfl, Below.refl _ _⟩
 case round =>
  obtain ⟨k, hk, rfl, hp, hB⟩ := hrel
  have hS := hB.size
  by_cases hlt : k + 1 < gs.length
  ·obtain ⟨B, o, rfl, hc⟩ := (HA.out.up hB) (by omega)
   obtain ⟨_, _, _, _, c4⟩ := hc k _ (List.getElem?_eq_getElem (show k < gs.length by omega))
   obtain ⟨_, _, _, _, d4⟩ := hc (k + 1) _ (List.getElem?_eq_getElem hlt)
   clear hc
   have hi : (0 : Int) ≤ (k : Int) + 1 - 1 := by omega
   by_cases hq : gs[k + 1].price > gs[k].price
   ·go_wp2_with fail
    rename_i Kc hKc
    refine wp_region_parts (by kernel_rfl) 12 [10, 11, 12, 13, 14, 15, 16, 17, 18, 19, 20, 21] (fun t v w' => match t with
     | 10 => v = .slice (some ⟨B, o, none⟩) gs.length c
     | 11 => v = .int .i64 ((k : Int) + 1)
     | 12 => v = .pointer (some ⟨B, o + (k + 1) * 5, none⟩)
     | 13 => v = .pointer (some ⟨B, o + (k + 1) * 5 + 4, none⟩)
     | 14 => v = .int .i64 gs[k + 1].price
     | 15 => v = .slice (some ⟨B, o, none⟩) gs.length c
     | 16 => v = .int .i64 ((k : Int) + 1)
     | 17 => v = .int .i64 (k : Int)
     | 18 => v = .pointer (some ⟨B, o + k * 5, none⟩)
     | 19 => v = .pointer (some ⟨B, o + k * 5 + 4, none⟩)
     | 20 => v = .int .i64 gs[k].price
     | 21 => v = .bool true
     | _ => True) (by kernel_rfl) ?_ ?_ ?_
    ·intro t v w1 w2 hb' h
     revert h
     split <;> intro h <;> first
      | exact h
    ·refine ⟨?_, ?_, ?_, ?_, ?_, ?_, ?_, ?_, ?_, ?_, ?_, ?_, trivial⟩
     ·intro x w1 hb1 hx K hK
      clear hx hKc
      have c4 : w1.cell? ⟨B, o + k * 5 + 4, none⟩ = some (.int .i64 gs[k].price) := up_cell hb1 c4
      have d4 : w1.cell? ⟨B, o + (k + 1) * 5 + 4, none⟩ = some (.int .i64 gs[k + 1].price) := up_cell hb1 d4
      simp only [frameOf, fill, sg, Nat.reduceBEq, if_true, if_false, Nat.reduceAdd, Nat.reduceEqDiff] at hK ⊢
      go_wp2_with (fail)
      exact hK _ _ (Below.refl _ _) rfl
     ·intro x w1 hb1 hx K hK
      clear hx hKc
      have c4 : w1.cell? ⟨B, o + k * 5 + 4, none⟩ = some (.int .i64 gs[k].price) := up_cell hb1 c4
      have d4 : w1.cell? ⟨B, o + (k + 1) * 5 + 4, none⟩ = some (.int .i64 gs[k + 1].price) := up_cell hb1 d4
      simp only [frameOf, fill, sg, Nat.reduceBEq, if_true, if_false, Nat.reduceAdd, Nat.reduceEqDiff] at hK ⊢
      go_wp2_with (fail)
      exact hK _ _ (Below.refl _ _) rfl
     ·intro x w1 hb1 hx K hK
      have e10 : x 10 = .slice (some ⟨B, o, none⟩) gs.length c := hx 10 (by rfl)
      have e11 : x 11 = .int .i64 ((k : Int) + 1) := hx 11 (by rfl)
      clear hx hKc
      have c4 : w1.cell? ⟨B, o + k * 5 + 4, none⟩ = some (.int .i64 gs[k].price) := up_cell hb1 c4
      have d4 : w1.cell? ⟨B, o + (k + 1) * 5 + 4, none⟩ = some (.int .i64 gs[k + 1].price) := up_cell hb1 d4
      simp only [frameOf, fill, sg, Nat.reduceBEq, if_true, if_false, Nat.reduceAdd, Nat.reduceEqDiff] at hK ⊢
      simp only [e10, e11] at hK ⊢
      clear e10 e11
      go_wp2_with (fail)
      exact hK _ _ (Below.refl _ _) rfl
     ·intro x w1 hb1 hx K hK
      have e12 : x 12 = .pointer (some ⟨B, o + (k + 1) * 5, none⟩) := hx 12 (by rfl)
      clear hx hKc
      have c4 : w1.cell? ⟨B, o + k * 5 + 4, none⟩ = some (.int .i64 gs[k].price) := up_cell hb1 c4
      have d4 : w1.cell? ⟨B, o + (k + 1) * 5 + 4, none⟩ = some (.int .i64 gs[k + 1].price) := up_cell hb1 d4
      simp only [frameOf, fill, sg, Nat.reduceBEq, if_true, if_false, Nat.reduceAdd, Nat.reduceEqDiff] at hK ⊢
      simp only [e12] at hK ⊢
      clear e12
      go_wp2_with (fail)
      exact hK _ _ (Below.refl _ _) rfl
     ·intro x w1 hb1 hx K hK
      have e13 : x 13 = .pointer (some ⟨B, o + (k + 1) * 5 + 4, none⟩) := hx 13 (by rfl)
      clear hx hKc
      have c4 : w1.cell? ⟨B, o + k * 5 + 4, none⟩ = some (.int .i64 gs[k].price) := up_cell hb1 c4
      have d4 : w1.cell? ⟨B, o + (k + 1) * 5 + 4, none⟩ = some (.int .i64 gs[k + 1].price) := up_cell hb1 d4
      simp only [frameOf, fill, sg, Nat.reduceBEq, if_true, if_false, Nat.reduceAdd, Nat.reduceEqDiff] at hK ⊢
      simp only [e13] at hK ⊢
      clear e13
      go_wp2_with (fail)
      exact hK _ _ (Below.refl _ _) rfl
     ·intro x w1 hb1 hx K hK
      clear hx hKc
      have c4 : w1.cell? ⟨B, o + k * 5 + 4, none⟩ = some (.int .i64 gs[k].price) := up_cell hb1 c4
      have d4 : w1.cell? ⟨B, o + (k + 1) * 5 + 4, none⟩ = some (.int .i64 gs[k + 1].price) := up_cell hb1 d4
      simp only [frameOf, fill, sg, Nat.reduceBEq, if_true, if_false, Nat.reduceAdd, Nat.reduceEqDiff] at hK ⊢
      go_wp2_with (fail)
      exact hK _ _ (Below.refl _ _) rfl
     ·intro x w1 hb1 hx K hK
      clear hx hKc
      have c4 : w1.cell? ⟨B, o + k * 5 + 4, none⟩ = some (.int .i64 gs[k].price) := up_cell hb1 c4
      have d4 : w1.cell? ⟨B, o + (k + 1) * 5 + 4, none⟩ = some (.int .i64 gs[k + 1].price) := up_cell hb1 d4
      simp only [frameOf, fill, sg, Nat.reduceBEq, if_true, if_false, Nat.reduceAdd, Nat.reduceEqDiff] at hK ⊢
      go_wp2_with (fail)
      exact hK _ _ (Below.refl _ _) rfl
     ·intro x w1 hb1 hx K hK
      have e16 : x 16 = .int .i64 ((k : Int) + 1) := hx 16 (by rfl)
      clear hx hKc
      have c4 : w1.cell? ⟨B, o + k * 5 + 4, none⟩ = some (.int .i64 gs[k].price) := up_cell hb1 c4
      have d4 : w1.cell? ⟨B, o + (k + 1) * 5 + 4, none⟩ = some (.int .i64 gs[k + 1].price) := up_cell hb1 d4
      simp only [frameOf, fill, sg, Nat.reduceBEq, if_true, if_false, Nat.reduceAdd, Nat.reduceEqDiff] at hK ⊢
      simp only [e16] at hK ⊢
      clear e16
      go_wp2_with (fail)
      exact hK _ _ (Below.refl _ _) rfl
     ·intro x w1 hb1 hx K hK
      have e15 : x 15 = .slice (some ⟨B, o, none⟩) gs.length c := hx 15 (by rfl)
      have e17 : x 17 = .int .i64 (k : Int) := hx 17 (by rfl)
      clear hx hKc
      have c4 : w1.cell? ⟨B, o + k * 5 + 4, none⟩ = some (.int .i64 gs[k].price) := up_cell hb1 c4
      have d4 : w1.cell? ⟨B, o + (k + 1) * 5 + 4, none⟩ = some (.int .i64 gs[k + 1].price) := up_cell hb1 d4
      simp only [frameOf, fill, sg, Nat.reduceBEq, if_true, if_false, Nat.reduceAdd, Nat.reduceEqDiff] at hK ⊢
      simp only [e15, e17] at hK ⊢
      clear e15 e17
      go_wp2_with (fail)
      exact hK _ _ (Below.refl _ _) rfl
     ·intro x w1 hb1 hx K hK
      have e18 : x 18 = .pointer (some ⟨B, o + k * 5, none⟩) := hx 18 (by rfl)
      clear hx hKc
      have c4 : w1.cell? ⟨B, o + k * 5 + 4, none⟩ = some (.int .i64 gs[k].price) := up_cell hb1 c4
      have d4 : w1.cell? ⟨B, o + (k + 1) * 5 + 4, none⟩ = some (.int .i64 gs[k + 1].price) := up_cell hb1 d4
      simp only [frameOf, fill, sg, Nat.reduceBEq, if_true, if_false, Nat.reduceAdd, Nat.reduceEqDiff] at hK ⊢
      simp only [e18] at hK ⊢
      clear e18
      go_wp2_with (fail)
      exact hK _ _ (Below.refl _ _) rfl
     ·intro x w1 hb1 hx K hK
      have e19 : x 19 = .pointer (some ⟨B, o + k * 5 + 4, none⟩) := hx 19 (by rfl)
      clear hx hKc
      have c4 : w1.cell? ⟨B, o + k * 5 + 4, none⟩ = some (.int .i64 gs[k].price) := up_cell hb1 c4
      have d4 : w1.cell? ⟨B, o + (k + 1) * 5 + 4, none⟩ = some (.int .i64 gs[k + 1].price) := up_cell hb1 d4
      simp only [frameOf, fill, sg, Nat.reduceBEq, if_true, if_false, Nat.reduceAdd, Nat.reduceEqDiff] at hK ⊢
      simp only [e19] at hK ⊢
      clear e19
      go_wp2_with (fail)
      exact hK _ _ (Below.refl _ _) rfl
     ·intro x w1 hb1 hx K hK
      have e14 : x 14 = .int .i64 gs[k + 1].price := hx 14 (by rfl)
      have e20 : x 20 = .int .i64 gs[k].price := hx 20 (by rfl)
      clear hx hKc
      have c4 : w1.cell? ⟨B, o + k * 5 + 4, none⟩ = some (.int .i64 gs[k].price) := up_cell hb1 c4
      have d4 : w1.cell? ⟨B, o + (k + 1) * 5 + 4, none⟩ = some (.int .i64 gs[k + 1].price) := up_cell hb1 d4
      simp only [frameOf, fill, sg, Nat.reduceBEq, if_true, if_false, Nat.reduceAdd, Nat.reduceEqDiff] at hK ⊢
      simp only [e14, e20] at hK ⊢
      clear e14 e20
      go_wp2_with (fail)
      first | exact hK _ _ (Below.refl _ _) rfl | exact hK _ _ (Below.refl _ _) (by simp; omega)
    ·intro x w1 hb1 hx
     have e10 : x 10 = .slice (some ⟨B, o, none⟩) gs.length c := hx 10 (by decide)
     have e11 : x 11 = .int .i64 ((k : Int) + 1) := hx 11 (by decide)
     have e12 : x 12 = .pointer (some ⟨B, o + (k + 1) * 5, none⟩) := hx 12 (by decide)
     have e13 : x 13 = .pointer (some ⟨B, o + (k + 1) * 5 + 4, none⟩) := hx 13 (by decide)
     have e14 : x 14 = .int .i64 gs[k + 1].price := hx 14 (by decide)
     have e15 : x 15 = .slice (some ⟨B, o, none⟩) gs.length c := hx 15 (by decide)
     have e16 : x 16 = .int .i64 ((k : Int) + 1) := hx 16 (by decide)
     have e17 : x 17 = .int .i64 (k : Int) := hx 17 (by decide)
     have e18 : x 18 = .pointer (some ⟨B, o + k * 5, none⟩) := hx 18 (by decide)
     have e19 : x 19 = .pointer (some ⟨B, o + k * 5 + 4, none⟩) := hx 19 (by decide)
     have e20 : x 20 = .int .i64 gs[k].price := hx 20 (by decide)
     have e21 : x 21 = .bool true := hx 21 (by decide)
     clear hx
     have c4 : w1.cell? ⟨B, o + k * 5 + 4, none⟩ = some (.int .i64 gs[k].price) := up_cell hb1 c4
     have d4 : w1.cell? ⟨B, o + (k + 1) * 5 + 4, none⟩ = some (.int .i64 gs[k + 1].price) := up_cell hb1 d4
     simp only [frameOf, fill, List.contains_cons, List.contains_nil, Nat.reduceBEq, Bool.or_false, Bool.false_or, Bool.or_true, Bool.true_or, if_true, if_false, Bool.false_eq_true, Nat.reduceAdd, Nat.zero_add]
     simp only [e10, e11, e12, e13, e14, e15, e16, e17, e18, e19, e20, e21]
     clear e10 e11 e12 e13 e14 e15 e16 e17 e18 e19 e20 e21
     have hB2 : Below w.heap.size w w1 := hB.trans (hb1.mono hS)
     refine hKc _ _ ?_
     go_wp2_with fail
     go_ret
     have hfin : falls gs = false := by rw [hp.out, falls_step gs k hlt, show decide (gs[k + 1].price ≤ gs[k].price) = false from by simp; omega, Bool.false_and]
     exact ⟨by rw [hfin]; rfl, hB2⟩
   ·go_wp2_with fail
    rename_i Kc hKc
    refine wp_region_parts (by kernel_rfl) 12 [10, 11, 12, 13, 14, 15, 16, 17, 18, 19, 20, 21] (fun t v w' => match t with
     | 10 => v = .slice (some ⟨B, o, none⟩) gs.length c
     | 11 => v = .int .i64 ((k : Int) + 1)
     | 12 => v = .pointer (some ⟨B, o + (k + 1) * 5, none⟩)
     | 13 => v = .pointer (some ⟨B, o + (k + 1) * 5 + 4, none⟩)
     | 14 => v = .int .i64 gs[k + 1].price
     | 15 => v = .slice (some ⟨B, o, none⟩) gs.length c
     | 16 => v = .int .i64 ((k : Int) + 1)
     | 17 => v = .int .i64 (k : Int)
     | 18 => v = .pointer (some ⟨B, o + k * 5, none⟩)
     | 19 => v = .pointer (some ⟨B, o + k * 5 + 4, none⟩)
     | 20 => v = .int .i64 gs[k].price
     | 21 => v = .bool false
     | _ => True) (by kernel_rfl) ?_ ?_ ?_
    ·intro t v w1 w2 hb' h
     revert h
     split <;> intro h <;> first
      | exact h
    ·refine ⟨?_, ?_, ?_, ?_, ?_, ?_, ?_, ?_, ?_, ?_, ?_, ?_, trivial⟩
     ·intro x w1 hb1 hx K hK
      clear hx hKc
      have c4 : w1.cell? ⟨B, o + k * 5 + 4, none⟩ = some (.int .i64 gs[k].price) := up_cell hb1 c4
      have d4 : w1.cell? ⟨B, o + (k + 1) * 5 + 4, none⟩ = some (.int .i64 gs[k + 1].price) := up_cell hb1 d4
      simp only [frameOf, fill, sg, Nat.reduceBEq, if_true, if_false, Nat.reduceAdd, Nat.reduceEqDiff] at hK ⊢
      go_wp2_with (fail)
      exact hK _ _ (Below.refl _ _) rfl
     ·intro x w1 hb1 hx K hK
      clear hx hKc
      have c4 : w1.cell? ⟨B, o + k * 5 + 4, none⟩ = some (.int .i64 gs[k].price) := up_cell hb1 c4
      have d4 : w1.cell? ⟨B, o + (k + 1) * 5 + 4, none⟩ = some (.int .i64 gs[k + 1].price) := up_cell hb1 d4
      simp only [frameOf, fill, sg, Nat.reduceBEq, if_true, if_false, Nat.reduceAdd, Nat.reduceEqDiff] at hK ⊢
      go_wp2_with (fail)
      exact hK _ _ (Below.refl _ _) rfl
     ·intro x w1 hb1 hx K hK
      have e10 : x 10 = .slice (some ⟨B, o, none⟩) gs.length c := hx 10 (by rfl)
      have e11 : x 11 = .int .i64 ((k : Int) + 1) := hx 11 (by rfl)
      clear hx hKc
      have c4 : w1.cell? ⟨B, o + k * 5 + 4, none⟩ = some (.int .i64 gs[k].price) := up_cell hb1 c4
      have d4 : w1.cell? ⟨B, o + (k + 1) * 5 + 4, none⟩ = some (.int .i64 gs[k + 1].price) := up_cell hb1 d4
      simp only [frameOf, fill, sg, Nat.reduceBEq, if_true, if_false, Nat.reduceAdd, Nat.reduceEqDiff] at hK ⊢
      simp only [e10, e11] at hK ⊢
      clear e10 e11
      go_wp2_with (fail)
      exact hK _ _ (Below.refl _ _) rfl
     ·intro x w1 hb1 hx K hK
      have e12 : x 12 = .pointer (some ⟨B, o + (k + 1) * 5, none⟩) := hx 12 (by rfl)
      clear hx hKc
      have c4 : w1.cell? ⟨B, o + k * 5 + 4, none⟩ = some (.int .i64 gs[k].price) := up_cell hb1 c4
      have d4 : w1.cell? ⟨B, o + (k + 1) * 5 + 4, none⟩ = some (.int .i64 gs[k + 1].price) := up_cell hb1 d4
      simp only [frameOf, fill, sg, Nat.reduceBEq, if_true, if_false, Nat.reduceAdd, Nat.reduceEqDiff] at hK ⊢
      simp only [e12] at hK ⊢
      clear e12
      go_wp2_with (fail)
      exact hK _ _ (Below.refl _ _) rfl
     ·intro x w1 hb1 hx K hK
      have e13 : x 13 = .pointer (some ⟨B, o + (k + 1) * 5 + 4, none⟩) := hx 13 (by rfl)
      clear hx hKc
      have c4 : w1.cell? ⟨B, o + k * 5 + 4, none⟩ = some (.int .i64 gs[k].price) := up_cell hb1 c4
      have d4 : w1.cell? ⟨B, o + (k + 1) * 5 + 4, none⟩ = some (.int .i64 gs[k + 1].price) := up_cell hb1 d4
      simp only [frameOf, fill, sg, Nat.reduceBEq, if_true, if_false, Nat.reduceAdd, Nat.reduceEqDiff] at hK ⊢
      simp only [e13] at hK ⊢
      clear e13
      go_wp2_with (fail)
      exact hK _ _ (Below.refl _ _) rfl
     ·intro x w1 hb1 hx K hK
      clear hx hKc
      have c4 : w1.cell? ⟨B, o + k * 5 + 4, none⟩ = some (.int .i64 gs[k].price) := up_cell hb1 c4
      have d4 : w1.cell? ⟨B, o + (k + 1) * 5 + 4, none⟩ = some (.int .i64 gs[k + 1].price) := up_cell hb1 d4
      simp only [frameOf, fill, sg, Nat.reduceBEq, if_true, if_false, Nat.reduceAdd, Nat.reduceEqDiff] at hK ⊢
      go_wp2_with (fail)
      exact hK _ _ (Below.refl _ _) rfl
     ·intro x w1 hb1 hx K hK
      clear hx hKc
      have c4 : w1.cell? ⟨B, o + k * 5 + 4, none⟩ = some (.int .i64 gs[k].price) := up_cell hb1 c4
      have d4 : w1.cell? ⟨B, o + (k + 1) * 5 + 4, none⟩ = some (.int .i64 gs[k + 1].price) := up_cell hb1 d4
      simp only [frameOf, fill, sg, Nat.reduceBEq, if_true, if_false, Nat.reduceAdd, Nat.reduceEqDiff] at hK ⊢
      go_wp2_with (fail)
      exact hK _ _ (Below.refl _ _) rfl
     ·intro x w1 hb1 hx K hK
      have e16 : x 16 = .int .i64 ((k : Int) + 1) := hx 16 (by rfl)
      clear hx hKc
      have c4 : w1.cell? ⟨B, o + k * 5 + 4, none⟩ = some (.int .i64 gs[k].price) := up_cell hb1 c4
      have d4 : w1.cell? ⟨B, o + (k + 1) * 5 + 4, none⟩ = some (.int .i64 gs[k + 1].price) := up_cell hb1 d4
      simp only [frameOf, fill, sg, Nat.reduceBEq, if_true, if_false, Nat.reduceAdd, Nat.reduceEqDiff] at hK ⊢
      simp only [e16] at hK ⊢
      clear e16
      go_wp2_with (fail)
      exact hK _ _ (Below.refl _ _) rfl
     ·intro x w1 hb1 hx K hK
      have e15 : x 15 = .slice (some ⟨B, o, none⟩) gs.length c := hx 15 (by rfl)
      have e17 : x 17 = .int .i64 (k : Int) := hx 17 (by rfl)
      clear hx hKc
      have c4 : w1.cell? ⟨B, o + k * 5 + 4, none⟩ = some (.int .i64 gs[k].price) := up_cell hb1 c4
      have d4 : w1.cell? ⟨B, o + (k + 1) * 5 + 4, none⟩ = some (.int .i64 gs[k + 1].price) := up_cell hb1 d4
      simp only [frameOf, fill, sg, Nat.reduceBEq, if_true, if_false, Nat.reduceAdd, Nat.reduceEqDiff] at hK ⊢
      simp only [e15, e17] at hK ⊢
      clear e15 e17
      go_wp2_with (fail)
      exact hK _ _ (Below.refl _ _) rfl
     ·intro x w1 hb1 hx K hK
      have e18 : x 18 = .pointer (some ⟨B, o + k * 5, none⟩) := hx 18 (by rfl)
      clear hx hKc
      have c4 : w1.cell? ⟨B, o + k * 5 + 4, none⟩ = some (.int .i64 gs[k].price) := up_cell hb1 c4
      have d4 : w1.cell? ⟨B, o + (k + 1) * 5 + 4, none⟩ = some (.int .i64 gs[k + 1].price) := up_cell hb1 d4
      simp only [frameOf, fill, sg, Nat.reduceBEq, if_true, if_false, Nat.reduceAdd, Nat.reduceEqDiff] at hK ⊢
      simp only [e18] at hK ⊢
      clear e18
      go_wp2_with (fail)
      exact hK _ _ (Below.refl _ _) rfl
     ·intro x w1 hb1 hx K hK
      have e19 : x 19 = .pointer (some ⟨B, o + k * 5 + 4, none⟩) := hx 19 (by rfl)
      clear hx hKc
      have c4 : w1.cell? ⟨B, o + k * 5 + 4, none⟩ = some (.int .i64 gs[k].price) := up_cell hb1 c4
      have d4 : w1.cell? ⟨B, o + (k + 1) * 5 + 4, none⟩ = some (.int .i64 gs[k + 1].price) := up_cell hb1 d4
      simp only [frameOf, fill, sg, Nat.reduceBEq, if_true, if_false, Nat.reduceAdd, Nat.reduceEqDiff] at hK ⊢
      simp only [e19] at hK ⊢
      clear e19
      go_wp2_with (fail)
      exact hK _ _ (Below.refl _ _) rfl
     ·intro x w1 hb1 hx K hK
      have e14 : x 14 = .int .i64 gs[k + 1].price := hx 14 (by rfl)
      have e20 : x 20 = .int .i64 gs[k].price := hx 20 (by rfl)
      clear hx hKc
      have c4 : w1.cell? ⟨B, o + k * 5 + 4, none⟩ = some (.int .i64 gs[k].price) := up_cell hb1 c4
      have d4 : w1.cell? ⟨B, o + (k + 1) * 5 + 4, none⟩ = some (.int .i64 gs[k + 1].price) := up_cell hb1 d4
      simp only [frameOf, fill, sg, Nat.reduceBEq, if_true, if_false, Nat.reduceAdd, Nat.reduceEqDiff] at hK ⊢
      simp only [e14, e20] at hK ⊢
      clear e14 e20
      go_wp2_with (fail)
      first | exact hK _ _ (Below.refl _ _) rfl | exact hK _ _ (Below.refl _ _) (by simp; omega)
    ·intro x w1 hb1 hx
     have e10 : x 10 = .slice (some ⟨B, o, none⟩) gs.length c := hx 10 (by decide)
     have e11 : x 11 = .int .i64 ((k : Int) + 1) := hx 11 (by decide)
     have e12 : x 12 = .pointer (some ⟨B, o + (k + 1) * 5, none⟩) := hx 12 (by decide)
     have e13 : x 13 = .pointer (some ⟨B, o + (k + 1) * 5 + 4, none⟩) := hx 13 (by decide)
     have e14 : x 14 = .int .i64 gs[k + 1].price := hx 14 (by decide)
     have e15 : x 15 = .slice (some ⟨B, o, none⟩) gs.length c := hx 15 (by decide)
     have e16 : x 16 = .int .i64 ((k : Int) + 1) := hx 16 (by decide)
     have e17 : x 17 = .int .i64 (k : Int) := hx 17 (by decide)
     have e18 : x 18 = .pointer (some ⟨B, o + k * 5, none⟩) := hx 18 (by decide)
     have e19 : x 19 = .pointer (some ⟨B, o + k * 5 + 4, none⟩) := hx 19 (by decide)
     have e20 : x 20 = .int .i64 gs[k].price := hx 20 (by decide)
     have e21 : x 21 = .bool false := hx 21 (by decide)
     clear hx
     have c4 : w1.cell? ⟨B, o + k * 5 + 4, none⟩ = some (.int .i64 gs[k].price) := up_cell hb1 c4
     have d4 : w1.cell? ⟨B, o + (k + 1) * 5 + 4, none⟩ = some (.int .i64 gs[k + 1].price) := up_cell hb1 d4
     simp only [frameOf, fill, List.contains_cons, List.contains_nil, Nat.reduceBEq, Bool.or_false, Bool.false_or, Bool.or_true, Bool.true_or, if_true, if_false, Bool.false_eq_true, Nat.reduceAdd, Nat.zero_add]
     simp only [e10, e11, e12, e13, e14, e15, e16, e17, e18, e19, e20, e21]
     clear e10 e11 e12 e13 e14 e15 e16 e17 e18 e19 e20 e21
     have hB2 : Below w.heap.size w w1 := hB.trans (hb1.mono hS)
     refine hKc _ _ ?_
     go_wp2_with fail
     go_roundw
     case rel => exact ⟨k + 1, by omega, by go_num, by rw [hp.out, falls_step gs k hlt, show decide (gs[k + 1].price ≤ gs[k].price) = true from by simp; omega, Bool.true_and]; exact rfl, hB2⟩
     case measure => simp [intOf]; omega
  ·have hfin : falls gs = true := by rw [hp.out]; exact falls_end gs k (by omega)
   go_wp2_with fail
   go_ret
   exact ⟨by rw [hfin]; rfl, hB⟩
set_option maxRecDepth 100000 in
set_option maxHeartbeats 1000000 in
theorem Check_any (err miss : Int) (A : Option Addr) (c : Nat) (gs : List Gr) (w : World) (hA : GradesAt w A gs) (hl : gs.length ≤ 1000) :
  Calls Try.prog 22 #[.agg #[.int .i64 err, .int .i64 miss, .slice A gs.length c]] w fun e w' => e = .returned (.int .i64 (gateErr err miss gs)) ∧ Below w.heap.size w w' := by
 have HA := Lib.hid hA
 clear hA
 by_cases h6 : gs.length > 4
 ·have E := Lib.hid (show gateErr err miss gs = 2 by simp [gateErr, h6])
  go_enter Try.func22, Try.ntmps22
  go_wp2_with fail
  go_ret
  exact ⟨by rw [E.out]; rfl, zg⟩
 ·cases h1 : within err 0 50 with
  | false =>
   have E := Lib.hid (show gateErr err miss gs = 3 by simp [gateErr, h6, h1])
   go_enter Try.func22, Try.ntmps22
   go_wp2_with (go_at_call 82; refine (within_w _ _ _ _).mono ?_; rintro e w' ⟨rfl, rfl⟩)
   go_ret
   exact ⟨by rw [E.out]; rfl, zg⟩
  | true =>
   cases h2 : within miss 0 20 with
   | false =>
    have E := Lib.hid (show gateErr err miss gs = 3 by simp [gateErr, h6, h1, h2])
    go_enter Try.func22, Try.ntmps22
    go_wp2_with (go_at_call 82; refine (within_w _ _ _ _).mono ?_; rintro e w' ⟨rfl, rfl⟩)
    go_ret
    exact ⟨by rw [E.out]; rfl, zg⟩
   | true =>
    cases h3 : gs.all Gr.right with
    | false =>
     have E := Lib.hid (show gateErr err miss gs = 3 by simp only [gateErr, h6, h1, h2, h3]; rfl)
     go_enter Try.func22, Try.ntmps22
     go_wp2_with (first
      | (go_at_call 82; refine (within_w _ _ _ _).mono ?_; rintro e w' ⟨rfl, rfl⟩)
      | (go_at_call 83; refine (everyGrade_any 84 Gr.right gs cf_isGrade (fun h _ w => isGrade_any h w) A c _ (HA.out.up zg) hl).mono ?_; rw [h3]; rintro e w2 ⟨rfl, hb2⟩))
     go_ret
     exact ⟨by rw [E.out]; rfl, Below.trans zg (hb2.mono (by simp))⟩
    | true =>
     cases h4 : falls gs with
     | _ =>
      have E := Lib.hid (show gateErr err miss gs = if falls gs = false then 4 else 0 by simp only [gateErr, h6, h1, h2, h3]; rfl)
      go_enter Try.func22, Try.ntmps22
      go_wp2_with (first
       | (go_at_call 82; refine (within_w _ _ _ _).mono ?_; rintro e w' ⟨rfl, rfl⟩)
       | (go_at_call 83; refine (everyGrade_any 84 Gr.right gs cf_isGrade (fun h _ w => isGrade_any h w) A c _ (HA.out.up zg) hl).mono ?_; rw [h3]; rintro e w2 ⟨rfl, hb2⟩; have hs2 := hb2.size; simp only [World.size_alloc] at hs2; have hB2 : Below w.heap.size w w2 := Below.trans zg (hb2.mono (by simp)); have c2 : w2.cell? ⟨w.heap.size, 2, none⟩ = some (.slice A gs.length c) := up_cell hb2 (by go_simp))
       | (go_at_call 85; refine (pricesFall_any A c gs _ (HA.out.up zg) hl).mono ?_; rw [h4]; rintro e w3 ⟨rfl, hb3⟩))
      go_ret
      exact ⟨by rw [E.out, h4]; rfl, Below.trans zg (hb3.mono (by omega))⟩
theorem gateErr_zero {err miss : Int} {gs : List Gr} (h : gateErr err miss gs = 0) : gs.length ≤ 4 ∧ 0 ≤ err ∧ err ≤ 50 ∧ 0 ≤ miss ∧ miss ≤ 20 ∧ (∀ g ∈ gs, g.right = true) ∧ falls gs = true := by
 unfold gateErr at h
 by_cases h1 : gs.length > 4
 ·rw [if_pos h1] at h; omega
 ·rw [if_neg h1] at h
  by_cases h2 : (within err 0 50 && within miss 0 20 && gs.all Gr.right) = false
  ·rw [if_pos h2] at h; omega
  ·rw [if_neg h2] at h
   by_cases h3 : falls gs = false
   ·rw [if_pos h3] at h; omega
   ·simp only [Bool.not_eq_false, Bool.and_eq_true, within, decide_eq_true_eq, List.all_eq_true] at h2 h3
    exact ⟨by omega, h2.1.1.1, h2.1.1.2, h2.1.2.1, h2.1.2.2, h2.2, h3⟩
theorem cartErr_zero {full empty : Int} {hs : List Hf} (h : cartErr full empty hs = 0) : hs.length ≤ 6 ∧ 0 ≤ full ∧ full ≤ 10000 ∧ 0 ≤ empty ∧ empty ≤ 10000 ∧ (∀ x ∈ hs, x.taken = true) ∧ (∀ x ∈ hs, x.enough = true) := by
 unfold cartErr at h
 by_cases h1 : hs.length > 6
 ·rw [if_pos h1] at h; omega
 ·rw [if_neg h1] at h
  by_cases h2 : (within full 0 10000 && within empty 0 10000 && hs.all Hf.taken) = false
  ·rw [if_pos h2] at h; omega
  ·rw [if_neg h2] at h
   by_cases h3 : hs.all Hf.enough = false
   ·rw [if_pos h3] at h; omega
   ·simp only [Bool.not_eq_false, Bool.and_eq_true, within, decide_eq_true_eq, List.all_eq_true] at h2 h3
    exact ⟨by omega, h2.1.1.1, h2.1.1.2, h2.1.2.1, h2.1.2.2, h2.2, h3⟩
end Go.Proofs.Ytifffonoipapgaa
