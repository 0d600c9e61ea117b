
import Derived.Test.YtifffonoipapgaaVAA
import Derived.Test.YtifffonoipapgaaVAC
import Derived.Test.YtifffonoipapgaaVAE
import Derived.Test.YtifffonoipapgaaVAM
set_option linter.unusedSimpArgs false
set_option linter.unusedVariables false
namespace Go.Proofs.Ytifffonoipapgaa
open Go.RowKit
set_option maxRecDepth 100000 in
set_option maxHeartbeats 1000000 in
theorem net_any (full empty err miss : Int) (hs gs cf : Value) (w : World) (f0 : 0 ≤ full) (f1 : full ≤ 10000) (e0 : 0 ≤ empty) (e1 : empty ≤ 10000) (r0 : 0 ≤ err) (r1 : err ≤ 50) :
  Calls Try.prog 98 #[.agg #[.int .i64 full, .int .i64 empty, hs, .int .i64 err, .int .i64 miss, gs, cf]] w fun e w' => e = .returned (.agg #[.int .i64 (max 0 (full - empty - 2 * err)), .int .i64 (max 0 (full - empty + 2 * err))]) ∧ Below w.heap.size w w' := by
 go_enter Try.func98, Try.ntmps98
 go_wp2_with fail
 refine wp_world (fun W => Below w.heap.size w W ∧ w.heap.size + 1 + 1 ≤ W.heap.size ∧ Holds W (w.heap.size) 147 #[.int .i64 full, .int .i64 empty, hs, .int .i64 err, .int .i64 miss, gs, cf] ∧ Holds W (w.heap.size + 1) 60 #[.int .i64 0, .int .i64 0] ∧ True) ?_ ?_
 ·exact ⟨zg, (by simp), zp0, zp0, trivial⟩
 rintro W ⟨hB, hS, Hc, Hr, -⟩
 rename_i Kc hKc
 refine wp_region_parts (by kernel_rfl) 17 [11, 12, 13, 14, 15, 16, 17, 18, 19, 20, 21, 22, 23, 24, 25, 26, 27] (fun t v w' => match t with
  | 11 => v = .int .i64 (full - empty)
  | 12 => v = .pointer (some ⟨w.heap.size, 3, none⟩)
  | 13 => v = .pointer (some ⟨w.heap.size, 3, none⟩)
  | 14 => v = .int .i64 err
  | 15 => v = .int .i64 (2 * err)
  | 16 => v = .int .i64 (full - empty - 2 * err)
  | 17 => ∃ B, v = .slice (some ⟨B, 0, none⟩) 1 1 ∧ Holds w' B 3 #[.int .i64 (full - empty - 2 * err)]
  | 18 => v = .int .i64 (max 0 (full - empty - 2 * err))
  | 19 => v = .int .i64 (full - empty)
  | 20 => v = .pointer (some ⟨w.heap.size, 3, none⟩)
  | 21 => v = .pointer (some ⟨w.heap.size, 3, none⟩)
  | 22 => v = .int .i64 err
  | 23 => v = .int .i64 (2 * err)
  | 24 => v = .int .i64 (full - empty + 2 * err)
  | 25 => ∃ B, v = .slice (some ⟨B, 0, none⟩) 1 1 ∧ Holds w' B 3 #[.int .i64 (full - empty + 2 * err)]
  | 26 => v = .int .i64 (max 0 (full - empty + 2 * err))
  | 27 => v = .agg #[.int .i64 (max 0 (full - empty - 2 * err)), .int .i64 (max 0 (full - empty + 2 * err))]
  | _ => True) (by kernel_rfl) ?_ ?_ ?_
 ·intro t v w1 w2 hb' h
  revert h
  split <;> intro h <;> first
   | exact h
   | (obtain ⟨b0, rfl, h0⟩ := h; exact ⟨b0, rfl, h0.up hb'⟩)
 ·refine ⟨?_, ?_, ?_, ?_, ?_, ?_, ?_, ?_, ?_, ?_, ?_, ?_, ?_, ?_, ?_, ?_, ?_, trivial⟩
  ·intro x w1 hb1 hx K hK
   clear hx hKc
   have cc : w1.cell? ⟨w.heap.size, 3, none⟩ = some (.int .i64 err) := (Hc.up hb1).cell 3
   simp only [frameOf, fill, sg, Nat.reduceBEq, if_true, if_false, Nat.reduceAdd, Nat.reduceEqDiff] at hK ⊢
   go_wp2_with (first | (go_at_call 123; refine (greatest_one _ _ B17 _ (f17_0.cell 0)).mono ?_; rintro e w' ⟨rfl, rfl⟩) | (go_at_call 123; refine (greatest_one _ _ B25 _ (f25_0.cell 0)).mono ?_; rintro e w' ⟨rfl, rfl⟩))
   exact hK _ _ (Below.refl _ _) rfl
  ·intro x w1 hb1 hx K hK
   clear hx hKc
   have cc : w1.cell? ⟨w.heap.size, 3, none⟩ = some (.int .i64 err) := (Hc.up hb1).cell 3
   simp only [frameOf, fill, sg, Nat.reduceBEq, if_true, if_false, Nat.reduceAdd, Nat.reduceEqDiff] at hK ⊢
   go_wp2_with (first | (go_at_call 123; refine (greatest_one _ _ B17 _ (f17_0.cell 0)).mono ?_; rintro e w' ⟨rfl, rfl⟩) | (go_at_call 123; refine (greatest_one _ _ B25 _ (f25_0.cell 0)).mono ?_; rintro e w' ⟨rfl, rfl⟩))
   exact hK _ _ (Below.refl _ _) rfl
  ·intro x w1 hb1 hx K hK
   have e12 : x 12 = .pointer (some ⟨w.heap.size, 3, none⟩) := hx 12 (by rfl)
   clear hx hKc
   have cc : w1.cell? ⟨w.heap.size, 3, none⟩ = some (.int .i64 err) := (Hc.up hb1).cell 3
   simp only [frameOf, fill, sg, Nat.reduceBEq, if_true, if_false, Nat.reduceAdd, Nat.reduceEqDiff] at hK ⊢
   simp only [e12] at hK ⊢
   clear e12
   go_wp2_with (first | (go_at_call 123; refine (greatest_one _ _ B17 _ (f17_0.cell 0)).mono ?_; rintro e w' ⟨rfl, rfl⟩) | (go_at_call 123; refine (greatest_one _ _ B25 _ (f25_0.cell 0)).mono ?_; rintro e w' ⟨rfl, rfl⟩))
   exact hK _ _ (Below.refl _ _) rfl
  ·intro x w1 hb1 hx K hK
   have e13 : x 13 = .pointer (some ⟨w.heap.size, 3, none⟩) := hx 13 (by rfl)
   clear hx hKc
   have cc : w1.cell? ⟨w.heap.size, 3, none⟩ = some (.int .i64 err) := (Hc.up hb1).cell 3
   simp only [frameOf, fill, sg, Nat.reduceBEq, if_true, if_false, Nat.reduceAdd, Nat.reduceEqDiff] at hK ⊢
   simp only [e13] at hK ⊢
   clear e13
   go_wp2_with (first | (go_at_call 123; refine (greatest_one _ _ B17 _ (f17_0.cell 0)).mono ?_; rintro e w' ⟨rfl, rfl⟩) | (go_at_call 123; refine (greatest_one _ _ B25 _ (f25_0.cell 0)).mono ?_; rintro e w' ⟨rfl, rfl⟩))
   exact hK _ _ (Below.refl _ _) rfl
  ·intro x w1 hb1 hx K hK
   have e14 : x 14 = .int .i64 err := hx 14 (by rfl)
   clear hx hKc
   have cc : w1.cell? ⟨w.heap.size, 3, none⟩ = some (.int .i64 err) := (Hc.up hb1).cell 3
   simp only [frameOf, fill, sg, Nat.reduceBEq, if_true, if_false, Nat.reduceAdd, Nat.reduceEqDiff] at hK ⊢
   simp only [e14] at hK ⊢
   clear e14
   go_wp2_with (first | (go_at_call 123; refine (greatest_one _ _ B17 _ (f17_0.cell 0)).mono ?_; rintro e w' ⟨rfl, rfl⟩) | (go_at_call 123; refine (greatest_one _ _ B25 _ (f25_0.cell 0)).mono ?_; rintro e w' ⟨rfl, rfl⟩))
   exact hK _ _ (Below.refl _ _) rfl
  ·intro x w1 hb1 hx K hK
   have e11 : x 11 = .int .i64 (full - empty) := hx 11 (by rfl)
   have e15 : x 15 = .int .i64 (2 * err) := hx 15 (by rfl)
   clear hx hKc
   have cc : w1.cell? ⟨w.heap.size, 3, none⟩ = some (.int .i64 err) := (Hc.up hb1).cell 3
   simp only [frameOf, fill, sg, Nat.reduceBEq, if_true, if_false, Nat.reduceAdd, Nat.reduceEqDiff] at hK ⊢
   simp only [e11, e15] at hK ⊢
   clear e11 e15
   go_wp2_with (first | (go_at_call 123; refine (greatest_one _ _ B17 _ (f17_0.cell 0)).mono ?_; rintro e w' ⟨rfl, rfl⟩) | (go_at_call 123; refine (greatest_one _ _ B25 _ (f25_0.cell 0)).mono ?_; rintro e w' ⟨rfl, rfl⟩))
   exact hK _ _ (Below.refl _ _) rfl
  ·intro x w1 hb1 hx K hK
   have e16 : x 16 = .int .i64 (full - empty - 2 * err) := hx 16 (by rfl)
   clear hx hKc
   have cc : w1.cell? ⟨w.heap.size, 3, none⟩ = some (.int .i64 err) := (Hc.up hb1).cell 3
   simp only [frameOf, fill, sg, Nat.reduceBEq, if_true, if_false, Nat.reduceAdd, Nat.reduceEqDiff] at hK ⊢
   simp only [e16] at hK ⊢
   clear e16
   go_wp2_with (first | (go_at_call 123; refine (greatest_one _ _ B17 _ (f17_0.cell 0)).mono ?_; rintro e w' ⟨rfl, rfl⟩) | (go_at_call 123; refine (greatest_one _ _ B25 _ (f25_0.cell 0)).mono ?_; rintro e w' ⟨rfl, rfl⟩))
   exact hK _ _ ((Below.refl _ _).alloc (Nat.le_refl _) _) ⟨_, rfl, Holds.new _ _ _⟩
  ·intro x w1 hb1 hx K hK
   have e17 := hx 17 (by rfl)
   obtain ⟨B17, e17, f17_0⟩ := e17
   clear hx hKc
   have cc : w1.cell? ⟨w.heap.size, 3, none⟩ = some (.int .i64 err) := (Hc.up hb1).cell 3
   simp only [frameOf, fill, sg, Nat.reduceBEq, if_true, if_false, Nat.reduceAdd, Nat.reduceEqDiff] at hK ⊢
   simp only [e17] at hK ⊢
   clear e17
   go_wp2_with (first | (go_at_call 123; refine (greatest_one _ _ B17 _ (f17_0.cell 0)).mono ?_; rintro e w' ⟨rfl, rfl⟩) | (go_at_call 123; refine (greatest_one _ _ B25 _ (f25_0.cell 0)).mono ?_; rintro e w' ⟨rfl, rfl⟩))
   exact hK _ _ (Below.refl _ _) rfl
  ·intro x w1 hb1 hx K hK
   clear hx hKc
   have cc : w1.cell? ⟨w.heap.size, 3, none⟩ = some (.int .i64 err) := (Hc.up hb1).cell 3
   simp only [frameOf, fill, sg, Nat.reduceBEq, if_true, if_false, Nat.reduceAdd, Nat.reduceEqDiff] at hK ⊢
   go_wp2_with (first | (go_at_call 123; refine (greatest_one _ _ B17 _ (f17_0.cell 0)).mono ?_; rintro e w' ⟨rfl, rfl⟩) | (go_at_call 123; refine (greatest_one _ _ B25 _ (f25_0.cell 0)).mono ?_; rintro e w' ⟨rfl, rfl⟩))
   exact hK _ _ (Below.refl _ _) rfl
  ·intro x w1 hb1 hx K hK
   clear hx hKc
   have cc : w1.cell? ⟨w.heap.size, 3, none⟩ = some (.int .i64 err) := (Hc.up hb1).cell 3
   simp only [frameOf, fill, sg, Nat.reduceBEq, if_true, if_false, Nat.reduceAdd, Nat.reduceEqDiff] at hK ⊢
   go_wp2_with (first | (go_at_call 123; refine (greatest_one _ _ B17 _ (f17_0.cell 0)).mono ?_; rintro e w' ⟨rfl, rfl⟩) | (go_at_call 123; refine (greatest_one _ _ B25 _ (f25_0.cell 0)).mono ?_; rintro e w' ⟨rfl, rfl⟩))
   exact hK _ _ (Below.refl _ _) rfl
  ·intro x w1 hb1 hx K hK
   have e20 : x 20 = .pointer (some ⟨w.heap.size, 3, none⟩) := hx 20 (by rfl)
   clear hx hKc
   have cc : w1.cell? ⟨w.heap.size, 3, none⟩ = some (.int .i64 err) := (Hc.up hb1).cell 3
   simp only [frameOf, fill, sg, Nat.reduceBEq, if_true, if_false, Nat.reduceAdd, Nat.reduceEqDiff] at hK ⊢
   simp only [e20] at hK ⊢
   clear e20
   go_wp2_with (first | (go_at_call 123; refine (greatest_one _ _ B17 _ (f17_0.cell 0)).mono ?_; rintro e w' ⟨rfl, rfl⟩) | (go_at_call 123; refine (greatest_one _ _ B25 _ (f25_0.cell 0)).mono ?_; rintro e w' ⟨rfl, rfl⟩))
   exact hK _ _ (Below.refl _ _) rfl
  ·intro x w1 hb1 hx K hK
   have e21 : x 21 = .pointer (some ⟨w.heap.size, 3, none⟩) := hx 21 (by rfl)
   clear hx hKc
   have cc : w1.cell? ⟨w.heap.size, 3, none⟩ = some (.int .i64 err) := (Hc.up hb1).cell 3
   simp only [frameOf, fill, sg, Nat.reduceBEq, if_true, if_false, Nat.reduceAdd, Nat.reduceEqDiff] at hK ⊢
   simp only [e21] at hK ⊢
   clear e21
   go_wp2_with (first | (go_at_call 123; refine (greatest_one _ _ B17 _ (f17_0.cell 0)).mono ?_; rintro e w' ⟨rfl, rfl⟩) | (go_at_call 123; refine (greatest_one _ _ B25 _ (f25_0.cell 0)).mono ?_; rintro e w' ⟨rfl, rfl⟩))
   exact hK _ _ (Below.refl _ _) rfl
  ·intro x w1 hb1 hx K hK
   have e22 : x 22 = .int .i64 err := hx 22 (by rfl)
   clear hx hKc
   have cc : w1.cell? ⟨w.heap.size, 3, none⟩ = some (.int .i64 err) := (Hc.up hb1).cell 3
   simp only [frameOf, fill, sg, Nat.reduceBEq, if_true, if_false, Nat.reduceAdd, Nat.reduceEqDiff] at hK ⊢
   simp only [e22] at hK ⊢
   clear e22
   go_wp2_with (first | (go_at_call 123; refine (greatest_one _ _ B17 _ (f17_0.cell 0)).mono ?_; rintro e w' ⟨rfl, rfl⟩) | (go_at_call 123; refine (greatest_one _ _ B25 _ (f25_0.cell 0)).mono ?_; rintro e w' ⟨rfl, rfl⟩))
   exact hK _ _ (Below.refl _ _) rfl
  ·intro x w1 hb1 hx K hK
   have e19 : x 19 = .int .i64 (full - empty) := hx 19 (by rfl)
   have e23 : x 23 = .int .i64 (2 * err) := hx 23 (by rfl)
   clear hx hKc
   have cc : w1.cell? ⟨w.heap.size, 3, none⟩ = some (.int .i64 err) := (Hc.up hb1).cell 3
   simp only [frameOf, fill, sg, Nat.reduceBEq, if_true, if_false, Nat.reduceAdd, Nat.reduceEqDiff] at hK ⊢
   simp only [e19, e23] at hK ⊢
   clear e19 e23
   go_wp2_with (first | (go_at_call 123; refine (greatest_one _ _ B17 _ (f17_0.cell 0)).mono ?_; rintro e w' ⟨rfl, rfl⟩) | (go_at_call 123; refine (greatest_one _ _ B25 _ (f25_0.cell 0)).mono ?_; rintro e w' ⟨rfl, rfl⟩))
   exact hK _ _ (Below.refl _ _) rfl
  ·intro x w1 hb1 hx K hK
   have e24 : x 24 = .int .i64 (full - empty + 2 * err) := hx 24 (by rfl)
   clear hx hKc
   have cc : w1.cell? ⟨w.heap.size, 3, none⟩ = some (.int .i64 err) := (Hc.up hb1).cell 3
   simp only [frameOf, fill, sg, Nat.reduceBEq, if_true, if_false, Nat.reduceAdd, Nat.reduceEqDiff] at hK ⊢
   simp only [e24] at hK ⊢
   clear e24
   go_wp2_with (first | (go_at_call 123; refine (greatest_one _ _ B17 _ (f17_0.cell 0)).mono ?_; rintro e w' ⟨rfl, rfl⟩) | (go_at_call 123; refine (greatest_one _ _ B25 _ (f25_0.cell 0)).mono ?_; rintro e w' ⟨rfl, rfl⟩))
   exact hK _ _ ((Below.refl _ _).alloc (Nat.le_refl _) _) ⟨_, rfl, Holds.new _ _ _⟩
  ·intro x w1 hb1 hx K hK
   have e25 := hx 25 (by rfl)
   obtain ⟨B25, e25, f25_0⟩ := e25
   clear hx hKc
   have cc : w1.cell? ⟨w.heap.size, 3, none⟩ = some (.int .i64 err) := (Hc.up hb1).cell 3
   simp only [frameOf, fill, sg, Nat.reduceBEq, if_true, if_false, Nat.reduceAdd, Nat.reduceEqDiff] at hK ⊢
   simp only [e25] at hK ⊢
   clear e25
   go_wp2_with (first | (go_at_call 123; refine (greatest_one _ _ B17 _ (f17_0.cell 0)).mono ?_; rintro e w' ⟨rfl, rfl⟩) | (go_at_call 123; refine (greatest_one _ _ B25 _ (f25_0.cell 0)).mono ?_; rintro e w' ⟨rfl, rfl⟩))
   exact hK _ _ (Below.refl _ _) rfl
  ·intro x w1 hb1 hx K hK
   have e18 : x 18 = .int .i64 (max 0 (full - empty - 2 * err)) := hx 18 (by rfl)
   have e26 : x 26 = .int .i64 (max 0 (full - empty + 2 * err)) := hx 26 (by rfl)
   clear hx hKc
   have cc : w1.cell? ⟨w.heap.size, 3, none⟩ = some (.int .i64 err) := (Hc.up hb1).cell 3
   simp only [frameOf, fill, sg, Nat.reduceBEq, if_true, if_false, Nat.reduceAdd, Nat.reduceEqDiff] at hK ⊢
   simp only [e18, e26] at hK ⊢
   clear e18 e26
   go_wp2_with (first | (go_at_call 123; refine (greatest_one _ _ B17 _ (f17_0.cell 0)).mono ?_; rintro e w' ⟨rfl, rfl⟩) | (go_at_call 123; refine (greatest_one _ _ B25 _ (f25_0.cell 0)).mono ?_; rintro e w' ⟨rfl, rfl⟩))
   exact hK _ _ (Below.refl _ _) rfl
 ·intro x w1 hb1 hx
  have e11 : x 11 = .int .i64 (full - empty) := hx 11 (by decide)
  have e12 : x 12 = .pointer (some ⟨w.heap.size, 3, none⟩) := hx 12 (by decide)
  have e13 : x 13 = .pointer (some ⟨w.heap.size, 3, none⟩) := hx 13 (by decide)
  have e14 : x 14 = .int .i64 err := hx 14 (by decide)
  have e15 : x 15 = .int .i64 (2 * err) := hx 15 (by decide)
  have e16 : x 16 = .int .i64 (full - empty - 2 * err) := hx 16 (by decide)
  have e17 := hx 17 (by decide)
  obtain ⟨B17, e17, f17_0⟩ := e17
  have e18 : x 18 = .int .i64 (max 0 (full - empty - 2 * err)) := hx 18 (by decide)
  have e19 : x 19 = .int .i64 (full - empty) := hx 19 (by decide)
  have e20 : x 20 = .pointer (some ⟨w.heap.size, 3, none⟩) := hx 20 (by decide)
  have e21 : x 21 = .pointer (some ⟨w.heap.size, 3, none⟩) := hx 21 (by decide)
  have e22 : x 22 = .int .i64 err := hx 22 (by decide)
  have e23 : x 23 = .int .i64 (2 * err) := hx 23 (by decide)
  have e24 : x 24 = .int .i64 (full - empty + 2 * err) := hx 24 (by decide)
  have e25 := hx 25 (by decide)
  obtain ⟨B25, e25, f25_0⟩ := e25
  have e26 : x 26 = .int .i64 (max 0 (full - empty + 2 * err)) := hx 26 (by decide)
  have e27 : x 27 = .agg #[.int .i64 (max 0 (full - empty - 2 * err)), .int .i64 (max 0 (full - empty + 2 * err))] := hx 27 (by decide)
  clear hx
  have cc : w1.cell? ⟨w.heap.size, 3, none⟩ = some (.int .i64 err) := (Hc.up hb1).cell 3
  simp only [frameOf, fill, List.contains_cons, List.contains_nil, Nat.reduceBEq, Bool.or_false, Bool.false_or, Bool.or_true, Bool.true_or, if_true, if_false, Bool.false_eq_true, Nat.reduceAdd, Nat.zero_add]
  simp only [e11, e12, e13, e14, e15, e16, e17, e18, e19, e20, e21, e22, e23, e24, e25, e26, e27]
  clear e11 e12 e13 e14 e15 e16 e17 e18 e19 e20 e21 e22 e23 e24 e25 e26 e27
  have hB1 : Below w.heap.size w w1 := hB.trans (hb1.mono (by omega))
  have Hr1 := Hr.up hb1
  obtain ⟨cr0, cr1⟩ := Hr1.c2
  obtain ⟨zr0, zr1⟩ := Hr1.f2
  clear hb1 Hc Hr cc
  go_wp2_with fail
  exact ret_cell (t := 60) rfl rfl (Hr1.set2 _ _) Try.underlying60 rfl (by kernel_rfl) rfl ⟨rfl, zg⟩
theorem counts_hand (full empty : Int) (A : Option Addr) (n c : Nat) (w : World) (hn : n ≤ 1000) :
  CountsAt w 99 #[.agg #[.int .i64 full, .int .i64 empty, .slice A n c]] #[] (fun _ => true) n := fun i W hi _ =>
 (hasHandful_any full empty A n c i W hn).mono fun e w' ⟨h1, h2⟩ => ⟨by rw [h1, show within (i : Int) 0 ((n : Int) - 1) = true from by simp [within]; omega], h2⟩
theorem cf_hasHandful (args : Array Value) (w : World) : (callFunc 99 args).run Try.prog w = .ok (.enter 99 args) w := by kernel_rfl
end Go.Proofs.Ytifffonoipapgaa
