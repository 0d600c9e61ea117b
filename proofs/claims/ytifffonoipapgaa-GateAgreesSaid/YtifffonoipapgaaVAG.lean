import Derived.Laws.StructEq
import Derived.Deep.LoopGhost
import Derived.Test.YtifffonoipapgaaVAA
import Derived.Test.YtifffonoipapgaaVAC
import Derived.Test.YtifffonoipapgaaVAD
import Derived.Test.YtifffonoipapgaaVAE
import Derived.Test.YtifffonoipapgaaVAF
set_option linter.unusedSimpArgs false
set_option linter.unusedVariables false
namespace Go.Proofs.Ytifffonoipapgaa
open Go.RowKit
attribute [local go_sem] ix4_0 ix4_1 ix4_2 ix4_3 ix8_0 ix8_1 ix8_2 ix8_3
set_option maxRecDepth 100000 in
set_option maxHeartbeats 2000000 in
theorem lets_any (full empty err miss spot g0 g1 g2 g3 gk : Int) (hs gs cf : Value) (k : Nat) (w : World) (m0 : 0 ≤ miss) (m1 : miss ≤ 20)
  (a0 : 0 ≤ g0) (b0 : g0 ≤ 200) (a1 : 0 ≤ g1) (b1 : g1 ≤ 200) (a2 : 0 ≤ g2) (b2 : g2 ≤ 200) (a3 : 0 ≤ g3) (b3 : g3 ≤ 200) (n0 : 10 ≤ g0 + g1 + g2 + g3) (n1 : g0 + g1 + g2 + g3 ≤ 200) (hk : k < 4) (hgk : [g0, g1, g2, g3][k]? = some gk) :
  Calls Try.prog 101 #[.agg #[.int .i64 full, .int .i64 empty, hs, .int .i64 err, .int .i64 miss, gs, cf], .agg #[.int .i64 spot, .int .i64 g0, .int .i64 g1, .int .i64 g2, .int .i64 g3], .int .i64 (k : Int)] w fun e w' => e = .returned (.agg #[.int .i64 (mLo 0 40 ((max 0 (40 * (gk - miss)) + (g0 + g1 + g2 + g3) - 1) / (g0 + g1 + g2 + g3)) (40 * (gk + miss) / (g0 + g1 + g2 + g3))), .int .i64 (mHi 0 40 ((max 0 (40 * (gk - miss)) + (g0 + g1 + g2 + g3) - 1) / (g0 + g1 + g2 + g3)) (40 * (gk + miss) / (g0 + g1 + g2 + g3)))]) ∧ Below w.heap.size w w' := by
 have k0 : 0 ≤ gk := by match k, hk, hgk with | 0, _, h | 1, _, h | 2, _, h | 3, _, h => simp at h; omega
 have k1 : gk ≤ 200 := by match k, hk, hgk with | 0, _, h | 1, _, h | 2, _, h | 3, _, h => simp at h; omega
 have hcell : (#[.int .i64 spot, .int .i64 g0, .int .i64 g1, .int .i64 g2, .int .i64 g3] : Array Value)[1 + k]? = some (.int .i64 gk) := by match k, hk, hgk with | 0, _, h | 1, _, h | 2, _, h | 3, _, h => simp at h; subst h; rfl
 have HC := Lib.hid hcell
 clear hgk hcell
 go_enter Try.func101, Try.ntmps101
 go_wp2_with (go_at_call 133; refine (sum_any _ _ _ _ _ (by omega) (by omega) (by omega) (by omega) (by omega) (by omega) (by omega) (by omega)).mono ?_; rintro e w2 ⟨rfl, hb2⟩; have Hc : Holds w2 (w.heap.size) 147 #[.int .i64 full, .int .i64 empty, hs, .int .i64 err, .int .i64 miss, gs, cf] := Holds.up zp0 hb2; have Hh : Holds w2 (w.heap.size + 1) 30 #[.int .i64 spot, .int .i64 g0, .int .i64 g1, .int .i64 g2, .int .i64 g3] := Holds.up zp0 hb2; have Hr : Holds w2 (w.heap.size + 1 + 1) 60 #[.int .i64 0, .int .i64 0] := Holds.up zp0 hb2; have hB2 : Below w.heap.size w w2 := Below.trans zg (hb2.mono (by simp; omega)); have hs2 := hb2.size; simp only [World.size_alloc, World.size_setCell] at hs2; clear hb2)
 rename_i Kc hKc
 refine wp_region_parts (by kernel_rfl) 11 [14, 15, 16, 17, 18, 19, 20, 21, 22, 23, 24] (fun t v w' => match t with
  | 14 => v = .int .i64 (k : Int)
  | 15 => v = .pointer (some ⟨w.heap.size + 1, 1, none⟩)
  | 16 => v = .pointer (some ⟨w.heap.size + 1, 1 + k, none⟩)
  | 17 => v = .int .i64 gk
  | 18 => v = .pointer (some ⟨w.heap.size, 3, none⟩)
  | 19 => v = .pointer (some ⟨w.heap.size, 4, none⟩)
  | 20 => v = .int .i64 miss
  | 21 => v = .int .i64 (gk - miss)
  | 22 => v = .int .i64 (40 * (gk - miss))
  | 23 => ∃ B, v = .slice (some ⟨B, 0, none⟩) 1 1 ∧ Holds w' B 3 #[.int .i64 (40 * (gk - miss))]
  | 24 => v = .int .i64 (max 0 (40 * (gk - miss)))
  | _ => True) (by kernel_rfl) ?_ ?_ ?_
 ·intro t v w1 w2 hb' h
  revert h
  split <;> intro h <;> first
   | exact h
   | (obtain ⟨b0, rfl, h0⟩ := h; exact ⟨b0, rfl, h0.up hb'⟩)
 ·refine ⟨?_, ?_, ?_, ?_, ?_, ?_, ?_, ?_, ?_, ?_, ?_, trivial⟩
  ·intro x w1 hb1 hx K hK
   clear hx hKc
   have hh : w1.cell? ⟨w.heap.size + 1, 1 + k, none⟩ = some (.int .i64 gk) := ((Hh.up hb1).cell (1 + k)).trans HC.out
   have cc : w1.cell? ⟨w.heap.size, 4, none⟩ = some (.int .i64 miss) := (Hc.up hb1).cell 4
   simp only [frameOf, fill, sg, Nat.reduceBEq, if_true, if_false, Nat.reduceAdd, Nat.reduceEqDiff] at hK ⊢
   go_wp2_with (go_at_call 123; refine (greatest_one _ _ B23 _ (f23_0.cell 0)).mono ?_; rintro e w' ⟨rfl, rfl⟩)
   exact hK _ _ (Below.refl _ _) rfl
  ·intro x w1 hb1 hx K hK
   clear hx hKc
   have hh : w1.cell? ⟨w.heap.size + 1, 1 + k, none⟩ = some (.int .i64 gk) := ((Hh.up hb1).cell (1 + k)).trans HC.out
   have cc : w1.cell? ⟨w.heap.size, 4, none⟩ = some (.int .i64 miss) := (Hc.up hb1).cell 4
   simp only [frameOf, fill, sg, Nat.reduceBEq, if_true, if_false, Nat.reduceAdd, Nat.reduceEqDiff] at hK ⊢
   go_wp2_with (go_at_call 123; refine (greatest_one _ _ B23 _ (f23_0.cell 0)).mono ?_; rintro e w' ⟨rfl, rfl⟩)
   exact hK _ _ (Below.refl _ _) rfl
  ·intro x w1 hb1 hx K hK
   have e14 : x 14 = .int .i64 (k : Int) := hx 14 (by rfl)
   have e15 : x 15 = .pointer (some ⟨w.heap.size + 1, 1, none⟩) := hx 15 (by rfl)
   clear hx hKc
   have hh : w1.cell? ⟨w.heap.size + 1, 1 + k, none⟩ = some (.int .i64 gk) := ((Hh.up hb1).cell (1 + k)).trans HC.out
   have cc : w1.cell? ⟨w.heap.size, 4, none⟩ = some (.int .i64 miss) := (Hc.up hb1).cell 4
   simp only [frameOf, fill, sg, Nat.reduceBEq, if_true, if_false, Nat.reduceAdd, Nat.reduceEqDiff] at hK ⊢
   simp only [e14, e15] at hK ⊢
   clear e14 e15
   go_wp2_with (go_at_call 123; refine (greatest_one _ _ B23 _ (f23_0.cell 0)).mono ?_; rintro e w' ⟨rfl, rfl⟩)
   exact hK _ _ (Below.refl _ _) rfl
  ·intro x w1 hb1 hx K hK
   have e16 : x 16 = .pointer (some ⟨w.heap.size + 1, 1 + k, none⟩) := hx 16 (by rfl)
   clear hx hKc
   have hh : w1.cell? ⟨w.heap.size + 1, 1 + k, none⟩ = some (.int .i64 gk) := ((Hh.up hb1).cell (1 + k)).trans HC.out
   have cc : w1.cell? ⟨w.heap.size, 4, none⟩ = some (.int .i64 miss) := (Hc.up hb1).cell 4
   simp only [frameOf, fill, sg, Nat.reduceBEq, if_true, if_false, Nat.reduceAdd, Nat.reduceEqDiff] at hK ⊢
   simp only [e16] at hK ⊢
   clear e16
   go_wp2_with (go_at_call 123; refine (greatest_one _ _ B23 _ (f23_0.cell 0)).mono ?_; rintro e w' ⟨rfl, rfl⟩)
   exact hK _ _ (Below.refl _ _) rfl
  ·intro x w1 hb1 hx K hK
   clear hx hKc
   have hh : w1.cell? ⟨w.heap.size + 1, 1 + k, none⟩ = some (.int .i64 gk) := ((Hh.up hb1).cell (1 + k)).trans HC.out
   have cc : w1.cell? ⟨w.heap.size, 4, none⟩ = some (.int .i64 miss) := (Hc.up hb1).cell 4
   simp only [frameOf, fill, sg, Nat.reduceBEq, if_true, if_false, Nat.reduceAdd, Nat.reduceEqDiff] at hK ⊢
   go_wp2_with (go_at_call 123; refine (greatest_one _ _ B23 _ (f23_0.cell 0)).mono ?_; rintro e w' ⟨rfl, rfl⟩)
   exact hK _ _ (Below.refl _ _) rfl
  ·intro x w1 hb1 hx K hK
   have e18 : x 18 = .pointer (some ⟨w.heap.size, 3, none⟩) := hx 18 (by rfl)
   clear hx hKc
   have hh : w1.cell? ⟨w.heap.size + 1, 1 + k, none⟩ = some (.int .i64 gk) := ((Hh.up hb1).cell (1 + k)).trans HC.out
   have cc : w1.cell? ⟨w.heap.size, 4, none⟩ = some (.int .i64 miss) := (Hc.up hb1).cell 4
   simp only [frameOf, fill, sg, Nat.reduceBEq, if_true, if_false, Nat.reduceAdd, Nat.reduceEqDiff] at hK ⊢
   simp only [e18] at hK ⊢
   clear e18
   go_wp2_with (go_at_call 123; refine (greatest_one _ _ B23 _ (f23_0.cell 0)).mono ?_; rintro e w' ⟨rfl, rfl⟩)
   exact hK _ _ (Below.refl _ _) rfl
  ·intro x w1 hb1 hx K hK
   have e19 : x 19 = .pointer (some ⟨w.heap.size, 4, none⟩) := hx 19 (by rfl)
   clear hx hKc
   have hh : w1.cell? ⟨w.heap.size + 1, 1 + k, none⟩ = some (.int .i64 gk) := ((Hh.up hb1).cell (1 + k)).trans HC.out
   have cc : w1.cell? ⟨w.heap.size, 4, none⟩ = some (.int .i64 miss) := (Hc.up hb1).cell 4
   simp only [frameOf, fill, sg, Nat.reduceBEq, if_true, if_false, Nat.reduceAdd, Nat.reduceEqDiff] at hK ⊢
   simp only [e19] at hK ⊢
   clear e19
   go_wp2_with (go_at_call 123; refine (greatest_one _ _ B23 _ (f23_0.cell 0)).mono ?_; rintro e w' ⟨rfl, rfl⟩)
   exact hK _ _ (Below.refl _ _) rfl
  ·intro x w1 hb1 hx K hK
   have e17 : x 17 = .int .i64 gk := hx 17 (by rfl)
   have e20 : x 20 = .int .i64 miss := hx 20 (by rfl)
   clear hx hKc
   have hh : w1.cell? ⟨w.heap.size + 1, 1 + k, none⟩ = some (.int .i64 gk) := ((Hh.up hb1).cell (1 + k)).trans HC.out
   have cc : w1.cell? ⟨w.heap.size, 4, none⟩ = some (.int .i64 miss) := (Hc.up hb1).cell 4
   simp only [frameOf, fill, sg, Nat.reduceBEq, if_true, if_false, Nat.reduceAdd, Nat.reduceEqDiff] at hK ⊢
   simp only [e17, e20] at hK ⊢
   clear e17 e20
   go_wp2_with (go_at_call 123; refine (greatest_one _ _ B23 _ (f23_0.cell 0)).mono ?_; rintro e w' ⟨rfl, rfl⟩)
   exact hK _ _ (Below.refl _ _) rfl
  ·intro x w1 hb1 hx K hK
   have e21 : x 21 = .int .i64 (gk - miss) := hx 21 (by rfl)
   clear hx hKc
   have hh : w1.cell? ⟨w.heap.size + 1, 1 + k, none⟩ = some (.int .i64 gk) := ((Hh.up hb1).cell (1 + k)).trans HC.out
   have cc : w1.cell? ⟨w.heap.size, 4, none⟩ = some (.int .i64 miss) := (Hc.up hb1).cell 4
   simp only [frameOf, fill, sg, Nat.reduceBEq, if_true, if_false, Nat.reduceAdd, Nat.reduceEqDiff] at hK ⊢
   simp only [e21] at hK ⊢
   clear e21
   go_wp2_with (go_at_call 123; refine (greatest_one _ _ B23 _ (f23_0.cell 0)).mono ?_; rintro e w' ⟨rfl, rfl⟩)
   exact hK _ _ (Below.refl _ _) rfl
  ·intro x w1 hb1 hx K hK
   have e22 : x 22 = .int .i64 (40 * (gk - miss)) := hx 22 (by rfl)
   clear hx hKc
   have hh : w1.cell? ⟨w.heap.size + 1, 1 + k, none⟩ = some (.int .i64 gk) := ((Hh.up hb1).cell (1 + k)).trans HC.out
   have cc : w1.cell? ⟨w.heap.size, 4, none⟩ = some (.int .i64 miss) := (Hc.up hb1).cell 4
   simp only [frameOf, fill, sg, Nat.reduceBEq, if_true, if_false, Nat.reduceAdd, Nat.reduceEqDiff] at hK ⊢
   simp only [e22] at hK ⊢
   clear e22
   go_wp2_with (go_at_call 123; refine (greatest_one _ _ B23 _ (f23_0.cell 0)).mono ?_; rintro e w' ⟨rfl, rfl⟩)
   exact hK _ _ ((Below.refl _ _).alloc (Nat.le_refl _) _) ⟨_, rfl, Holds.new _ _ _⟩
  ·intro x w1 hb1 hx K hK
   have e23 := hx 23 (by rfl)
   obtain ⟨B23, e23, f23_0⟩ := e23
   clear hx hKc
   have hh : w1.cell? ⟨w.heap.size + 1, 1 + k, none⟩ = some (.int .i64 gk) := ((Hh.up hb1).cell (1 + k)).trans HC.out
   have cc : w1.cell? ⟨w.heap.size, 4, none⟩ = some (.int .i64 miss) := (Hc.up hb1).cell 4
   simp only [frameOf, fill, sg, Nat.reduceBEq, if_true, if_false, Nat.reduceAdd, Nat.reduceEqDiff] at hK ⊢
   simp only [e23] at hK ⊢
   clear e23
   go_wp2_with (go_at_call 123; refine (greatest_one _ _ B23 _ (f23_0.cell 0)).mono ?_; rintro e w' ⟨rfl, rfl⟩)
   exact hK _ _ (Below.refl _ _) rfl
 ·intro x w1 hb1 hx
  have e14 : x 14 = .int .i64 (k : Int) := hx 14 (by decide)
  have e15 : x 15 = .pointer (some ⟨w.heap.size + 1, 1, none⟩) := hx 15 (by decide)
  have e16 : x 16 = .pointer (some ⟨w.heap.size + 1, 1 + k, none⟩) := hx 16 (by decide)
  have e17 : x 17 = .int .i64 gk := hx 17 (by decide)
  have e18 : x 18 = .pointer (some ⟨w.heap.size, 3, none⟩) := hx 18 (by decide)
  have e19 : x 19 = .pointer (some ⟨w.heap.size, 4, none⟩) := hx 19 (by decide)
  have e20 : x 20 = .int .i64 miss := hx 20 (by decide)
  have e21 : x 21 = .int .i64 (gk - miss) := hx 21 (by decide)
  have e22 : x 22 = .int .i64 (40 * (gk - miss)) := hx 22 (by decide)
  have e23 := hx 23 (by decide)
  obtain ⟨B23, e23, f23_0⟩ := e23
  have e24 : x 24 = .int .i64 (max 0 (40 * (gk - miss))) := hx 24 (by decide)
  clear hx
  have hh : w1.cell? ⟨w.heap.size + 1, 1 + k, none⟩ = some (.int .i64 gk) := ((Hh.up hb1).cell (1 + k)).trans HC.out
  have cc : w1.cell? ⟨w.heap.size, 4, none⟩ = some (.int .i64 miss) := (Hc.up hb1).cell 4
  simp only [frameOf, fill, List.contains_cons, List.contains_nil, Nat.reduceBEq, Bool.or_false, Bool.false_or, Bool.or_true, Bool.true_or, if_true, if_false, Bool.false_eq_true, Nat.reduceAdd, Nat.zero_add]
  simp only [e14, e15, e16, e17, e18, e19, e20, e21, e22, e23, e24]
  clear e14 e15 e16 e17 e18 e19 e20 e21 e22 e23 e24
  have hB4 : Below w.heap.size w w1 := hB2.trans (hb1.mono (by omega))
  have hs4 := hb1.size
  have Hc4 := Hc.up hb1
  have Hh4 := Hh.up hb1
  have Hr4 := Hr.up hb1
  clear hh cc hb1 Hc Hh Hr hB2
  go_wp2_with fail
  rename_i Kc hKc
  refine wp_region_parts (by kernel_rfl) 9 [25, 26, 27, 28, 29, 30, 31, 32, 33] (fun t v w' => match t with
   | 25 => v = .int .i64 (k : Int)
   | 26 => v = .pointer (some ⟨w.heap.size + 1, 1, none⟩)
   | 27 => v = .pointer (some ⟨w.heap.size + 1, 1 + k, none⟩)
   | 28 => v = .int .i64 gk
   | 29 => v = .pointer (some ⟨w.heap.size, 3, none⟩)
   | 30 => v = .pointer (some ⟨w.heap.size, 4, none⟩)
   | 31 => v = .int .i64 miss
   | 32 => v = .int .i64 (gk + miss)
   | 33 => v = .int .i64 (40 * (gk + miss))
   | _ => True) (by kernel_rfl) ?_ ?_ ?_
  ·intro t v w1 w2 hb' h
   revert h
   split <;> intro h <;> first
    | exact h
  ·refine ⟨?_, ?_, ?_, ?_, ?_, ?_, ?_, ?_, ?_, trivial⟩
   ·intro x w1 hb1 hx K hK
    clear hx hKc
    have hh : w1.cell? ⟨w.heap.size + 1, 1 + k, none⟩ = some (.int .i64 gk) := ((Hh4.up hb1).cell (1 + k)).trans HC.out
    have cc : w1.cell? ⟨w.heap.size, 4, none⟩ = some (.int .i64 miss) := (Hc4.up hb1).cell 4
    simp only [frameOf, fill, sg, Nat.reduceBEq, if_true, if_false, Nat.reduceAdd, Nat.reduceEqDiff] at hK ⊢
    go_wp2_with (fail)
    exact hK _ _ (Below.refl _ _) rfl
   ·intro x w1 hb1 hx K hK
    clear hx hKc
    have hh : w1.cell? ⟨w.heap.size + 1, 1 + k, none⟩ = some (.int .i64 gk) := ((Hh4.up hb1).cell (1 + k)).trans HC.out
    have cc : w1.cell? ⟨w.heap.size, 4, none⟩ = some (.int .i64 miss) := (Hc4.up hb1).cell 4
    simp only [frameOf, fill, sg, Nat.reduceBEq, if_true, if_false, Nat.reduceAdd, Nat.reduceEqDiff] at hK ⊢
    go_wp2_with (fail)
    exact hK _ _ (Below.refl _ _) rfl
   ·intro x w1 hb1 hx K hK
    have e25 : x 25 = .int .i64 (k : Int) := hx 25 (by rfl)
    have e26 : x 26 = .pointer (some ⟨w.heap.size + 1, 1, none⟩) := hx 26 (by rfl)
    clear hx hKc
    have hh : w1.cell? ⟨w.heap.size + 1, 1 + k, none⟩ = some (.int .i64 gk) := ((Hh4.up hb1).cell (1 + k)).trans HC.out
    have cc : w1.cell? ⟨w.heap.size, 4, none⟩ = some (.int .i64 miss) := (Hc4.up hb1).cell 4
    simp only [frameOf, fill, sg, Nat.reduceBEq, if_true, if_false, Nat.reduceAdd, Nat.reduceEqDiff] at hK ⊢
    simp only [e25, e26] at hK ⊢
    clear e25 e26
    go_wp2_with (fail)
    exact hK _ _ (Below.refl _ _) rfl
   ·intro x w1 hb1 hx K hK
    have e27 : x 27 = .pointer (some ⟨w.heap.size + 1, 1 + k, none⟩) := hx 27 (by rfl)
    clear hx hKc
    have hh : w1.cell? ⟨w.heap.size + 1, 1 + k, none⟩ = some (.int .i64 gk) := ((Hh4.up hb1).cell (1 + k)).trans HC.out
    have cc : w1.cell? ⟨w.heap.size, 4, none⟩ = some (.int .i64 miss) := (Hc4.up hb1).cell 4
    simp only [frameOf, fill, sg, Nat.reduceBEq, if_true, if_false, Nat.reduceAdd, Nat.reduceEqDiff] at hK ⊢
    simp only [e27] at hK ⊢
    clear e27
    go_wp2_with (fail)
    exact hK _ _ (Below.refl _ _) rfl
   ·intro x w1 hb1 hx K hK
    clear hx hKc
    have hh : w1.cell? ⟨w.heap.size + 1, 1 + k, none⟩ = some (.int .i64 gk) := ((Hh4.up hb1).cell (1 + k)).trans HC.out
    have cc : w1.cell? ⟨w.heap.size, 4, none⟩ = some (.int .i64 miss) := (Hc4.up hb1).cell 4
    simp only [frameOf, fill, sg, Nat.reduceBEq, if_true, if_false, Nat.reduceAdd, Nat.reduceEqDiff] at hK ⊢
    go_wp2_with (fail)
    exact hK _ _ (Below.refl _ _) rfl
   ·intro x w1 hb1 hx K hK
    have e29 : x 29 = .pointer (some ⟨w.heap.size, 3, none⟩) := hx 29 (by rfl)
    clear hx hKc
    have hh : w1.cell? ⟨w.heap.size + 1, 1 + k, none⟩ = some (.int .i64 gk) := ((Hh4.up hb1).cell (1 + k)).trans HC.out
    have cc : w1.cell? ⟨w.heap.size, 4, none⟩ = some (.int .i64 miss) := (Hc4.up hb1).cell 4
    simp only [frameOf, fill, sg, Nat.reduceBEq, if_true, if_false, Nat.reduceAdd, Nat.reduceEqDiff] at hK ⊢
    simp only [e29] at hK ⊢
    clear e29
    go_wp2_with (fail)
    exact hK _ _ (Below.refl _ _) rfl
   ·intro x w1 hb1 hx K hK
    have e30 : x 30 = .pointer (some ⟨w.heap.size, 4, none⟩) := hx 30 (by rfl)
    clear hx hKc
    have hh : w1.cell? ⟨w.heap.size + 1, 1 + k, none⟩ = some (.int .i64 gk) := ((Hh4.up hb1).cell (1 + k)).trans HC.out
    have cc : w1.cell? ⟨w.heap.size, 4, none⟩ = some (.int .i64 miss) := (Hc4.up hb1).cell 4
    simp only [frameOf, fill, sg, Nat.reduceBEq, if_true, if_false, Nat.reduceAdd, Nat.reduceEqDiff] at hK ⊢
    simp only [e30] at hK ⊢
    clear e30
    go_wp2_with (fail)
    exact hK _ _ (Below.refl _ _) rfl
   ·intro x w1 hb1 hx K hK
    have e28 : x 28 = .int .i64 gk := hx 28 (by rfl)
    have e31 : x 31 = .int .i64 miss := hx 31 (by rfl)
    clear hx hKc
    have hh : w1.cell? ⟨w.heap.size + 1, 1 + k, none⟩ = some (.int .i64 gk) := ((Hh4.up hb1).cell (1 + k)).trans HC.out
    have cc : w1.cell? ⟨w.heap.size, 4, none⟩ = some (.int .i64 miss) := (Hc4.up hb1).cell 4
    simp only [frameOf, fill, sg, Nat.reduceBEq, if_true, if_false, Nat.reduceAdd, Nat.reduceEqDiff] at hK ⊢
    simp only [e28, e31] at hK ⊢
    clear e28 e31
    go_wp2_with (fail)
    exact hK _ _ (Below.refl _ _) rfl
   ·intro x w1 hb1 hx K hK
    have e32 : x 32 = .int .i64 (gk + miss) := hx 32 (by rfl)
    clear hx hKc
    have hh : w1.cell? ⟨w.heap.size + 1, 1 + k, none⟩ = some (.int .i64 gk) := ((Hh4.up hb1).cell (1 + k)).trans HC.out
    have cc : w1.cell? ⟨w.heap.size, 4, none⟩ = some (.int .i64 miss) := (Hc4.up hb1).cell 4
    simp only [frameOf, fill, sg, Nat.reduceBEq, if_true, if_false, Nat.reduceAdd, Nat.reduceEqDiff] at hK ⊢
    simp only [e32] at hK ⊢
    clear e32
    go_wp2_with (fail)
    exact hK _ _ (Below.refl _ _) rfl
  ·intro x w1 hb1 hx
   have e25 : x 25 = .int .i64 (k : Int) := hx 25 (by decide)
   have e26 : x 26 = .pointer (some ⟨w.heap.size + 1, 1, none⟩) := hx 26 (by decide)
   have e27 : x 27 = .pointer (some ⟨w.heap.size + 1, 1 + k, none⟩) := hx 27 (by decide)
   have e28 : x 28 = .int .i64 gk := hx 28 (by decide)
   have e29 : x 29 = .pointer (some ⟨w.heap.size, 3, none⟩) := hx 29 (by decide)
   have e30 : x 30 = .pointer (some ⟨w.heap.size, 4, none⟩) := hx 30 (by decide)
   have e31 : x 31 = .int .i64 miss := hx 31 (by decide)
   have e32 : x 32 = .int .i64 (gk + miss) := hx 32 (by decide)
   have e33 : x 33 = .int .i64 (40 * (gk + miss)) := hx 33 (by decide)
   clear hx
   have hh : w1.cell? ⟨w.heap.size + 1, 1 + k, none⟩ = some (.int .i64 gk) := ((Hh4.up hb1).cell (1 + k)).trans HC.out
   have cc : w1.cell? ⟨w.heap.size, 4, none⟩ = some (.int .i64 miss) := (Hc4.up hb1).cell 4
   simp only [frameOf, fill, List.contains_cons, List.contains_nil, Nat.reduceBEq, Bool.or_false, Bool.false_or, Bool.or_true, Bool.true_or, if_true, if_false, Bool.false_eq_true, Nat.reduceAdd, Nat.zero_add]
   simp only [e25, e26, e27, e28, e29, e30, e31, e32, e33]
   clear e25 e26 e27 e28 e29 e30 e31 e32 e33
   have hB5 : Below w.heap.size w w1 := hB4.trans (hb1.mono (by omega))
   have hs5 := hb1.size
   have Hr5 := Hr4.up hb1
   clear hh cc hb1 Hc4 Hh4 Hr4 hB4
   go_wp2_with (go_at_call 135; refine (meet_any _ _ _ _ _).mono ?_; rintro e w6 ⟨rfl, hb6⟩; have Hr6 := Hr5.up hb6; have cr60 : w6.cell? ⟨w.heap.size + 1 + 1, 0, none⟩ = some (.int .i64 0) := Hr6.cell 0; have zr60 : w6.frozen? ⟨w.heap.size + 1 + 1, 0, none⟩ = false := Hr6.frozen 0; have cr61 : w6.cell? ⟨w.heap.size + 1 + 1, 1, none⟩ = some (.int .i64 0) := Hr6.cell 1; have zr61 : w6.frozen? ⟨w.heap.size + 1 + 1, 1, none⟩ = false := Hr6.frozen 1; have hB6 : Below w.heap.size w w6 := hB5.trans (hb6.mono (by omega)))
   refine ret_cell (t := 60) rfl rfl ((Hr6.set_ 0 _).set_ 1 _) Try.underlying60 rfl (by kernel_rfl) rfl ⟨rfl, zg⟩
attribute [local go_sem] ix4_0 ix4_1 ix4_2 ix4_3 ix8_0 ix8_1 ix8_2 ix8_3
theorem eqlIn_span (n : Nat) (a b c d : Int) (w : World) : (Op.equalIn (n + 2) 60 (.agg #[.int .i64 a, .int .i64 b]) (.agg #[.int .i64 c, .int .i64 d])).run Try.prog w = .ok (a == c && b == d) w := by
 by_cases h1 : a = c <;> by_cases h2 : b = d <;> simp [go_sem, h1, h2]
theorem eqlIn_box (n : Nat) (a b : Bx) (w : World) :
    (Op.equalIn (n + 3) 153 (.agg #[.int .i64 a.l0, .int .i64 a.h0, .int .i64 a.l1, .int .i64 a.h1, .int .i64 a.l2, .int .i64 a.h2, .int .i64 a.l3, .int .i64 a.h3]) (.agg #[.int .i64 b.l0, .int .i64 b.h0, .int .i64 b.l1, .int .i64 b.h1, .int .i64 b.l2, .int .i64 b.h2, .int .i64 b.l3, .int .i64 b.h3])).run Try.prog w
   = .ok (a.eqb b) w := by
  have hu : Try.prog.underlying 153 = some (.array 4 60) := by kernel_rfl
  have hi : (sizeOf 60).run Try.prog w = .ok 2 w := by kernel_rfl
  have p : ∀ (cs : Array Value) (i : Nat) (w : World), (part 60 cs i).run Try.prog w = .ok (.agg (cs.extract i (i + 2))) w := by
    intro cs i w
    kernel_rfl
  have e : a.eqb b = ((a.l0 == b.l0 && a.h0 == b.h0) && ((a.l1 == b.l1 && a.h1 == b.h1) && ((a.l2 == b.l2 && a.h2 == b.h2) && (a.l3 == b.l3 && a.h3 == b.h3)))) := by
    simp [Bx.eqb, Bool.and_assoc]
  rw [e]
  unfold Op.equalIn
  cases h0 : (a.l0 == b.l0 && a.h0 == b.h0) <;> cases h1 : (a.l1 == b.l1 && a.h1 == b.h1) <;> cases h2 : (a.l2 == b.l2 && a.h2 == b.h2) <;> cases h3 : (a.l3 == b.l3 && a.h3 == b.h3) <;>
    simp [Sem.run_bind, run_underlying hu, hi, p, show List.range' 0 4 = [0, 1, 2, 3] from rfl, eqlIn_span, h0, h1, h2, h3]
theorem eqlW_box (a b : Bx) (w : World) :
    (Op.equalIn 10000 153 (.agg #[.int .i64 a.l0, .int .i64 a.h0, .int .i64 a.l1, .int .i64 a.h1, .int .i64 a.l2, .int .i64 a.h2, .int .i64 a.l3, .int .i64 a.h3]) (.agg #[.int .i64 b.l0, .int .i64 b.h0, .int .i64 b.l1, .int .i64 b.h1, .int .i64 b.l2, .int .i64 b.h2, .int .i64 b.l3, .int .i64 b.h3])).run Try.prog w
   = .ok (a.eqb b) w := eqlIn_box 9997 a b w
theorem eqlW_span (a b c d : Int) (w : World) : (Op.equalIn 10000 60 (.agg #[.int .i64 a, .int .i64 b]) (.agg #[.int .i64 c, .int .i64 d])).run Try.prog w = .ok (a == c && b == d) w := eqlIn_span 9998 a b c d w
attribute [local go_sem] eqlW_span eqlW_box
theorem room_any (b : Bx) (o : b.ok) (w : World) :
  Calls Try.prog 145 #[.agg #[.int .i64 b.l0, .int .i64 b.h0, .int .i64 b.l1, .int .i64 b.h1, .int .i64 b.l2, .int .i64 b.h2, .int .i64 b.l3, .int .i64 b.h3]] w fun e w' =>
   e = .returned (.agg #[.int .i64 b.room.l0, .int .i64 b.room.h0, .int .i64 b.room.l1, .int .i64 b.room.h1, .int .i64 b.room.l2, .int .i64 b.room.h2, .int .i64 b.room.l3, .int .i64 b.room.h3]) ∧ Below w.heap.size w w' := by
 have v0 := o.s0.bd
 have v1 := o.s1.bd
 have v2 := o.s2.bd
 have v3 := o.s3.bd
 have e3 : 40 - (b.most - b.h3) = 40 - (b.h0 + b.h1 + b.h2) := by unfold Bx.most; omega
 have f3 : 40 - (b.least - b.l3) = 40 - (b.l0 + b.l1 + b.l2) := by unfold Bx.least; omega
 refine (leaveRoom_any b.l0 b.h0 b.l1 b.h1 b.l2 b.h2 b.l3 b.h3 w (by omega) (by omega) (by omega) (by omega) (by omega) (by omega) (by omega) (by omega) (by omega) (by omega) (by omega) (by omega) (by omega) (by omega) (by omega) (by omega)).mono ?_
 rintro e w' ⟨rfl, hb⟩
 refine ⟨?_, hb⟩
 simp only [Bx.room, e3, f3]
 rfl
attribute [local go_sem] ix4_0 ix4_1 ix4_2 ix4_3 ix8_0 ix8_1 ix8_2 ix8_3
theorem within_eq (n lo hi : Int) : within n lo hi = (decide (lo ≤ n) && decide (n ≤ hi)) := rfl
theorem isGrains_fits (n : Int) (w : World) : Calls Try.prog 132 #[.int .i64 n] w fun e w' => e = .returned (.bool (within n 0 200)) ∧ Below w.heap.size w w' :=
 (isGrains_any n w).mono fun _ _ ⟨h1, h2⟩ => ⟨h1, h2 ▸ Below.refl _ _⟩
theorem isParts_fits (n : Int) (w : World) : Calls Try.prog 131 #[.int .i64 n] w fun e w' => e = .returned (.bool (within n 0 40)) ∧ Below w.heap.size w w' :=
 (isParts_any n w).mono fun _ _ ⟨h1, h2⟩ => ⟨h1, h2 ▸ Below.refl _ _⟩
set_option maxRecDepth 100000 in
set_option maxHeartbeats 1000000 in
theorem isTaken_any (h : Hf) (w : World) :
  Calls Try.prog 89 #[.agg #[.int .i64 h.spot, .int .i64 h.g0, .int .i64 h.g1, .int .i64 h.g2, .int .i64 h.g3]] w fun e w' => e = .returned (.bool h.taken) ∧ Below w.heap.size w w' := by
 have hbox := Holds.new w 30 #[.int .i64 h.spot, .int .i64 h.g0, .int .i64 h.g1, .int .i64 h.g2, .int .i64 h.g3]
 have hA : IntsAt (w.alloc (.cells #[.int .i64 h.spot, .int .i64 h.g0, .int .i64 h.g1, .int .i64 h.g2, .int .i64 h.g3] 30)) (some ⟨w.heap.size, 1, none⟩) [h.g0, h.g1, h.g2, h.g3] := fun _ => by
  refine ⟨w.heap.size, 1, rfl, fun k x hx => ?_⟩
  match k, hx with
  | 0, hx | 1, hx | 2, hx | 3, hx => simp at hx; subst hx; exact hbox.cell _
 have HA := Lib.hid hA
 clear hA hbox
 have e : h.taken = (within h.spot 0 2 && ([h.g0, h.g1, h.g2, h.g3].all fun n => within n 0 200)) := by
  simp [Hf.taken, List.all_cons, Bool.and_assoc]
 cases hw : within h.spot 0 2 with
 | true =>
  have E := Lib.hid e
  clear e
  go_enter Try.func89, Try.ntmps89
  go_wp2_with (first
   | (go_at_call 82; refine (within_any _ _ _ _).mono ?_; rw [← within_eq, hw]; rintro e w' ⟨rfl, rfl⟩)
   | (go_at_call 113; refine (everyInt_any 132 (fun n => within n 0 200) [h.g0, h.g1, h.g2, h.g3] cf_isGrains (fun n _ w => isGrains_fits n w) (some ⟨w.heap.size, 1, none⟩) 4 _ HA.out (by simp)).mono ?_; rintro e w' ⟨rfl, hb2⟩))
  go_ret
  exact ⟨by rw [E.out, hw]; simp, Below.trans zg (hb2.mono (by simp))⟩
 | false =>
  have E := Lib.hid e
  clear e
  go_enter Try.func89, Try.ntmps89
  go_wp2_with (go_at_call 82; refine (within_any _ _ _ _).mono ?_; rw [← within_eq, hw]; rintro e w' ⟨rfl, rfl⟩)
  go_ret
  exact ⟨by rw [E.out, hw, Bool.false_and]; rfl, zg⟩
set_option maxRecDepth 100000 in
theorem isEnough_any (h : Hf) (ht : h.taken = true) (w : World) :
  Calls Try.prog 90 #[.agg #[.int .i64 h.spot, .int .i64 h.g0, .int .i64 h.g1, .int .i64 h.g2, .int .i64 h.g3]] w fun e w' => e = .returned (.bool h.enough) ∧ Below w.heap.size w w' := by
 simp only [Hf.taken, within, Bool.and_eq_true, decide_eq_true_eq] at ht
 obtain ⟨_, ⟨⟨⟨⟨a0, a1⟩, b0, b1⟩, c0, c1⟩, d0, d1⟩⟩ := ht
 go_enter Try.func90, Try.ntmps90
 go_wp2_with (first
  | (go_at_call 133; refine (sum_any _ _ _ _ _ (by omega) (by omega) (by omega) (by omega) (by omega) (by omega) (by omega) (by omega)).mono ?_; rintro e w2 ⟨rfl, hb2⟩)
  | (go_at_call 82; refine (within_any _ _ _ _).mono ?_; rintro e w' ⟨rfl, rfl⟩))
 go_ret
 exact ⟨rfl, Below.trans zg (hb2.mono (by simp))⟩
end Go.Proofs.Ytifffonoipapgaa
