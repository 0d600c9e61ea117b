/- Package heat's meet, withBins and Sample. -/
import Derived.Test.YtfghfmlcfbkmjaaHM
import Derived.Test.YtfghfmlcfbkmjaaHL
set_option linter.unusedSimpArgs false
set_option linter.unusedVariables false
namespace Go.Proofs.Ytfghfmlcfbkmjaa
open Go.RowKit

set_option maxRecDepth 100000 in
set_option maxHeartbeats 4000000 in
theorem meet_any (a b c d : Int) (w : World) :
    Calls Try.prog 64 #[.agg #[.int .i64 a, .int .i64 b], .agg #[.int .i64 c, .int .i64 d]] w fun e w' => e = .returned (.agg #[.int .i64 (max a c), .int .i64 (min b d)]) ∧ Below w.heap.size w w' := by
  obtain ⟨u, hu⟩ : ∃ z, max a c = z := ⟨_, rfl⟩
  obtain ⟨v, hv⟩ : ∃ z, min b d = z := ⟨_, rfl⟩
  rw [hu, hv]
  have HU := Lib.hid hu
  have HV := Lib.hid hv
  clear hu hv
  go_enter Try.func64, Try.ntmps64
  go_wp2_with fail
  rename_i Kc hKc
  refine wp_region_partsG (by kernel_rfl) [some 5, some 6, some 7, some 8, some 9, some 10, some 11, some 12, some 13, some 14, some 15, some 16, none] (fun jq xq w' => match jq with
    | 0 => xq 5 = .pointer (some ⟨w.heap.size, 0, none⟩)
    | 1 => xq 6 = .int .i64 a
    | 2 => xq 7 = .pointer (some ⟨w.heap.size + 1, 0, none⟩)
    | 3 => xq 8 = .int .i64 c
    | 4 => ∃ b, xq 9 = .slice (some ⟨b, 0, none⟩) 1 1 ∧ Holds w' b 3 #[.int .i64 c] ∧ b ≠ w.heap.size + 1 + 1
    | 5 => xq 10 = .int .i64 u
    | 6 => xq 11 = .pointer (some ⟨w.heap.size, 1, none⟩)
    | 7 => xq 12 = .int .i64 b
    | 8 => xq 13 = .pointer (some ⟨w.heap.size + 1, 1, none⟩)
    | 9 => xq 14 = .int .i64 d
    | 10 => xq 15 = .int .i64 v
    | 11 => xq 16 = .agg #[.int .i64 u, .int .i64 v]
    | 12 => Holds w' (w.heap.size + 1 + 1) 27 #[.int .i64 u, .int .i64 v]
    | 13 => Holds w' (w.heap.size + 1 + 1) 27 #[.int .i64 0, .int .i64 0]
    | _ => True) [[5], [6], [7], [8], [9], [10], [11], [12], [13], [14], [15], [16], [], []] [(12, 13)] (fun w' => Below w.heap.size w w' ∧ w.heap.size + 1 + 1 + 1 ≤ w'.heap.size ∧ Holds w' (w.heap.size) 27 #[.int .i64 a, .int .i64 b] ∧ Holds w' (w.heap.size + 1) 27 #[.int .i64 c, .int .i64 d]) (by kernel_rfl)  ?_ ?_ (fun w' w'' hb g => ⟨g.1.trans (hb.mono g.1.size), Nat.le_trans g.2.1 hb.size, g.2.2.1.up hb, g.2.2.2.up hb⟩) (⟨by (repeat' (first | (with_reducible exact Below.refl _ _) | (with_reducible assumption) | (with_reducible refine Below.alloc ?_ ?_ _) | (with_reducible refine Below.drew ?_) | (with_reducible refine Below.setCell ?_ ?_ _) | (with_reducible exact Nat.le_refl _) | omega | (simp only [World.size_alloc, World.size_setCell, World.size_drew]; omega) | (simp; omega) | (simp; done))), by (simp; done), by (repeat first | (with_reducible assumption) | (with_reducible apply Holds.set4) | (with_reducible apply Holds.set2) | (with_reducible apply Holds.putL) | ((with_reducible refine Holds.new' _ _ ?_); (simp; done)) | (with_reducible refine Holds.alloc ?_ _) | (with_reducible refine Holds.drew ?_) | ((with_reducible refine Holds.far ?_ (by simp only [ne_eq]; omega) _)) | rfl), by (repeat first | (with_reducible assumption) | (with_reducible apply Holds.set4) | (with_reducible apply Holds.set2) | (with_reducible apply Holds.putL) | ((with_reducible refine Holds.new' _ _ ?_); (simp; done)) | (with_reducible refine Holds.alloc ?_ _) | (with_reducible refine Holds.drew ?_) | ((with_reducible refine Holds.far ?_ (by simp only [ne_eq]; omega) _)) | rfl)⟩) ?_ ?_ ?_
  · intro jq xq xq' wqq h hv
    match jq, h, hv with
    | 0, h, hv => show xq' 5 = .pointer (some ⟨w.heap.size, 0, none⟩); rw [← h 5 (by decide)]; exact hv
    | 1, h, hv => show xq' 6 = .int .i64 a; rw [← h 6 (by decide)]; exact hv
    | 2, h, hv => show xq' 7 = .pointer (some ⟨w.heap.size + 1, 0, none⟩); rw [← h 7 (by decide)]; exact hv
    | 3, h, hv => show xq' 8 = .int .i64 c; rw [← h 8 (by decide)]; exact hv
    | 4, h, hv => show ∃ b, xq' 9 = .slice (some ⟨b, 0, none⟩) 1 1 ∧ Holds wqq b 3 #[.int .i64 c] ∧ b ≠ w.heap.size + 1 + 1; rw [← h 9 (by decide)]; exact hv
    | 5, h, hv => show xq' 10 = .int .i64 u; rw [← h 10 (by decide)]; exact hv
    | 6, h, hv => show xq' 11 = .pointer (some ⟨w.heap.size, 1, none⟩); rw [← h 11 (by decide)]; exact hv
    | 7, h, hv => show xq' 12 = .int .i64 b; rw [← h 12 (by decide)]; exact hv
    | 8, h, hv => show xq' 13 = .pointer (some ⟨w.heap.size + 1, 1, none⟩); rw [← h 13 (by decide)]; exact hv
    | 9, h, hv => show xq' 14 = .int .i64 d; rw [← h 14 (by decide)]; exact hv
    | 10, h, hv => show xq' 15 = .int .i64 v; rw [← h 15 (by decide)]; exact hv
    | 11, h, hv => show xq' 16 = .agg #[.int .i64 u, .int .i64 v]; rw [← h 16 (by decide)]; exact hv
    | 12, h, hv => exact hv
    | 13, h, hv => exact hv
    | _ + 14, _, _ => trivial
  · intro jq xq wqq w' hb' hv
    match jq, hv with
    | 0, hv => exact hv
    | 1, hv => exact hv
    | 2, hv => exact hv
    | 3, hv => exact hv
    | 4, ⟨b0, h0, h1, h2⟩ => exact ⟨b0, h0, h1.up hb', h2⟩
    | 5, hv => exact hv
    | 6, hv => exact hv
    | 7, hv => exact hv
    | 8, hv => exact hv
    | 9, hv => exact hv
    | 10, hv => exact hv
    | 11, hv => exact hv
    | 12, h0 => exact h0.up hb'
    | 13, h0 => exact h0.up hb'
    | _ + 14, _ => trivial
  · intro jq hj
    match jq, hj with
    | 0, hj => exact absurd hj (by decide)
    | 1, hj => exact absurd hj (by decide)
    | 2, hj => exact absurd hj (by decide)
    | 3, hj => exact absurd hj (by decide)
    | 4, hj => exact absurd hj (by decide)
    | 5, hj => exact absurd hj (by decide)
    | 6, hj => exact absurd hj (by decide)
    | 7, hj => exact absurd hj (by decide)
    | 8, hj => exact absurd hj (by decide)
    | 9, hj => exact absurd hj (by decide)
    | 10, hj => exact absurd hj (by decide)
    | 11, hj => exact absurd hj (by decide)
    | 12, hj => exact absurd hj (by decide)
    | 13, _ => exact (show Holds _ (w.heap.size + 1 + 1) 27 #[.int .i64 0, .int .i64 0] from by (repeat first | (with_reducible assumption) | (with_reducible apply Holds.set4) | (with_reducible apply Holds.set2) | (with_reducible apply Holds.putL) | ((with_reducible refine Holds.new' _ _ ?_); (simp; done)) | (with_reducible refine Holds.alloc ?_ _) | (with_reducible refine Holds.drew ?_) | ((with_reducible refine Holds.far ?_ (by simp only [ne_eq]; omega) _)) | rfl))
    | _ + 14, _ => trivial
  · refine ⟨?_, ?_, ?_, ?_, ?_, ?_, ?_, ?_, ?_, ?_, ?_, ?_, ?_, trivial⟩
    · intro xq w1 hb1 hx K hK0
      have hK := fun v w' hb => hK0 v w' (.inl hb)
      clear hx hKc hK0
      simp only [frameOf, fill, setSlot, List.contains_cons, List.contains_nil, Nat.reduceBEq, Bool.or_false, Bool.false_or, Bool.or_true, Bool.true_or, if_true, if_false, Bool.false_eq_true, Nat.reduceAdd, Nat.reduceEqDiff, List.getD_cons_zero, List.getD_cons_succ, Nat.zero_add, show slotsOf [some 5, some 6, some 7, some 8, some 9, some 10, some 11, some 12, some 13, some 14, some 15, some 16, none] = [5, 6, 7, 8, 9, 10, 11, 12, 13, 14, 15, 16] from rfl] at hK ⊢
      go_wp2_with (fail)
      exact hK _ _ (Below.refl _ _) rfl
    · intro xq w1 hb1 hx K hK0
      have hK := fun v w' hb => hK0 v w' (.inl hb)
      have e5 : xq 5 = .pointer (some ⟨w.heap.size, 0, none⟩) := hx 0 (by rfl) (by rfl)
      clear hx hKc hK0
      have q6 : w1.cell? ⟨w.heap.size, 0, none⟩ = some (.int .i64 a) := hb1.2.2.1.cell 0
      simp only [frameOf, fill, setSlot, List.contains_cons, List.contains_nil, Nat.reduceBEq, Bool.or_false, Bool.false_or, Bool.or_true, Bool.true_or, if_true, if_false, Bool.false_eq_true, Nat.reduceAdd, Nat.reduceEqDiff, List.getD_cons_zero, List.getD_cons_succ, Nat.zero_add, show slotsOf [some 5, some 6, some 7, some 8, some 9, some 10, some 11, some 12, some 13, some 14, some 15, some 16, none] = [5, 6, 7, 8, 9, 10, 11, 12, 13, 14, 15, 16] from rfl] at hK ⊢
      simp only [e5] at hK ⊢
      clear e5
      go_wp2_with (fail)
      exact hK _ _ (Below.refl _ _) rfl
    · intro xq w1 hb1 hx K hK0
      have hK := fun v w' hb => hK0 v w' (.inl hb)
      clear hx hKc hK0
      simp only [frameOf, fill, setSlot, List.contains_cons, List.contains_nil, Nat.reduceBEq, Bool.or_false, Bool.false_or, Bool.or_true, Bool.true_or, if_true, if_false, Bool.false_eq_true, Nat.reduceAdd, Nat.reduceEqDiff, List.getD_cons_zero, List.getD_cons_succ, Nat.zero_add, show slotsOf [some 5, some 6, some 7, some 8, some 9, some 10, some 11, some 12, some 13, some 14, some 15, some 16, none] = [5, 6, 7, 8, 9, 10, 11, 12, 13, 14, 15, 16] from rfl] at hK ⊢
      go_wp2_with (fail)
      exact hK _ _ (Below.refl _ _) rfl
    · intro xq w1 hb1 hx K hK0
      have hK := fun v w' hb => hK0 v w' (.inl hb)
      have e7 : xq 7 = .pointer (some ⟨w.heap.size + 1, 0, none⟩) := hx 2 (by rfl) (by rfl)
      clear hx hKc hK0
      have q8 : w1.cell? ⟨w.heap.size + 1, 0, none⟩ = some (.int .i64 c) := hb1.2.2.2.cell 0
      simp only [frameOf, fill, setSlot, List.contains_cons, List.contains_nil, Nat.reduceBEq, Bool.or_false, Bool.false_or, Bool.or_true, Bool.true_or, if_true, if_false, Bool.false_eq_true, Nat.reduceAdd, Nat.reduceEqDiff, List.getD_cons_zero, List.getD_cons_succ, Nat.zero_add, show slotsOf [some 5, some 6, some 7, some 8, some 9, some 10, some 11, some 12, some 13, some 14, some 15, some 16, none] = [5, 6, 7, 8, 9, 10, 11, 12, 13, 14, 15, 16] from rfl] at hK ⊢
      simp only [e7] at hK ⊢
      clear e7
      go_wp2_with (fail)
      exact hK _ _ (Below.refl _ _) rfl
    · intro xq w1 hb1 hx K hK0
      have hK := fun v w' hb => hK0 v w' (.inl hb)
      have e8 : xq 8 = .int .i64 c := hx 3 (by rfl) (by rfl)
      clear hx hKc hK0
      have hsz := hb1.2.1
      have hlt3 : w.heap.size + 1 + 1 < w1.heap.size := by omega
      simp only [frameOf, fill, setSlot, List.contains_cons, List.contains_nil, Nat.reduceBEq, Bool.or_false, Bool.false_or, Bool.or_true, Bool.true_or, if_true, if_false, Bool.false_eq_true, Nat.reduceAdd, Nat.reduceEqDiff, List.getD_cons_zero, List.getD_cons_succ, Nat.zero_add, show slotsOf [some 5, some 6, some 7, some 8, some 9, some 10, some 11, some 12, some 13, some 14, some 15, some 16, none] = [5, 6, 7, 8, 9, 10, 11, 12, 13, 14, 15, 16] from rfl] at hK ⊢
      simp only [e8] at hK ⊢
      clear e8
      go_wp2_with (fail)
      exact hK _ _ ((Below.refl _ _).alloc (Nat.le_refl _) _) ⟨_, rfl, Holds.new _ _ _, by omega⟩
    · intro xq w1 hb1 hx K hK0
      have hK := fun v w' hb => hK0 v w' (.inl hb)
      have e6 : xq 6 = .int .i64 a := hx 1 (by rfl) (by rfl)
      obtain ⟨b9, e9, f9_0, f9_1⟩ := hx 4 (by rfl) (by rfl)
      clear hx hKc hK0
      have kc := f9_0.cell 0
      simp only [frameOf, fill, setSlot, List.contains_cons, List.contains_nil, Nat.reduceBEq, Bool.or_false, Bool.false_or, Bool.or_true, Bool.true_or, if_true, if_false, Bool.false_eq_true, Nat.reduceAdd, Nat.reduceEqDiff, List.getD_cons_zero, List.getD_cons_succ, Nat.zero_add, show slotsOf [some 5, some 6, some 7, some 8, some 9, some 10, some 11, some 12, some 13, some 14, some 15, some 16, none] = [5, 6, 7, 8, 9, 10, 11, 12, 13, 14, 15, 16] from rfl] at hK ⊢
      simp only [e6, e9] at hK ⊢
      clear e6 e9
      go_wp2_with (go_at_call 100; refine (greatest_one a c b9 _ kc).mono ?_; rw [HU.out]; rintro e w2_ ⟨rfl, rfl⟩)
      exact hK _ _ (Below.refl _ _) rfl
    · intro xq w1 hb1 hx K hK0
      have hK := fun v w' hb => hK0 v w' (.inl hb)
      clear hx hKc hK0
      simp only [frameOf, fill, setSlot, List.contains_cons, List.contains_nil, Nat.reduceBEq, Bool.or_false, Bool.false_or, Bool.or_true, Bool.true_or, if_true, if_false, Bool.false_eq_true, Nat.reduceAdd, Nat.reduceEqDiff, List.getD_cons_zero, List.getD_cons_succ, Nat.zero_add, show slotsOf [some 5, some 6, some 7, some 8, some 9, some 10, some 11, some 12, some 13, some 14, some 15, some 16, none] = [5, 6, 7, 8, 9, 10, 11, 12, 13, 14, 15, 16] from rfl] at hK ⊢
      go_wp2_with (fail)
      exact hK _ _ (Below.refl _ _) rfl
    · intro xq w1 hb1 hx K hK0
      have hK := fun v w' hb => hK0 v w' (.inl hb)
      have e11 : xq 11 = .pointer (some ⟨w.heap.size, 1, none⟩) := hx 6 (by rfl) (by rfl)
      clear hx hKc hK0
      have q12 : w1.cell? ⟨w.heap.size, 1, none⟩ = some (.int .i64 b) := hb1.2.2.1.cell 1
      simp only [frameOf, fill, setSlot, List.contains_cons, List.contains_nil, Nat.reduceBEq, Bool.or_false, Bool.false_or, Bool.or_true, Bool.true_or, if_true, if_false, Bool.false_eq_true, Nat.reduceAdd, Nat.reduceEqDiff, List.getD_cons_zero, List.getD_cons_succ, Nat.zero_add, show slotsOf [some 5, some 6, some 7, some 8, some 9, some 10, some 11, some 12, some 13, some 14, some 15, some 16, none] = [5, 6, 7, 8, 9, 10, 11, 12, 13, 14, 15, 16] from rfl] at hK ⊢
      simp only [e11] at hK ⊢
      clear e11
      go_wp2_with (fail)
      exact hK _ _ (Below.refl _ _) rfl
    · intro xq w1 hb1 hx K hK0
      have hK := fun v w' hb => hK0 v w' (.inl hb)
      clear hx hKc hK0
      simp only [frameOf, fill, setSlot, List.contains_cons, List.contains_nil, Nat.reduceBEq, Bool.or_false, Bool.false_or, Bool.or_true, Bool.true_or, if_true, if_false, Bool.false_eq_true, Nat.reduceAdd, Nat.reduceEqDiff, List.getD_cons_zero, List.getD_cons_succ, Nat.zero_add, show slotsOf [some 5, some 6, some 7, some 8, some 9, some 10, some 11, some 12, some 13, some 14, some 15, some 16, none] = [5, 6, 7, 8, 9, 10, 11, 12, 13, 14, 15, 16] from rfl] at hK ⊢
      go_wp2_with (fail)
      exact hK _ _ (Below.refl _ _) rfl
    · intro xq w1 hb1 hx K hK0
      have hK := fun v w' hb => hK0 v w' (.inl hb)
      have e13 : xq 13 = .pointer (some ⟨w.heap.size + 1, 1, none⟩) := hx 8 (by rfl) (by rfl)
      clear hx hKc hK0
      have q14 : w1.cell? ⟨w.heap.size + 1, 1, none⟩ = some (.int .i64 d) := hb1.2.2.2.cell 1
      simp only [frameOf, fill, setSlot, List.contains_cons, List.contains_nil, Nat.reduceBEq, Bool.or_false, Bool.false_or, Bool.or_true, Bool.true_or, if_true, if_false, Bool.false_eq_true, Nat.reduceAdd, Nat.reduceEqDiff, List.getD_cons_zero, List.getD_cons_succ, Nat.zero_add, show slotsOf [some 5, some 6, some 7, some 8, some 9, some 10, some 11, some 12, some 13, some 14, some 15, some 16, none] = [5, 6, 7, 8, 9, 10, 11, 12, 13, 14, 15, 16] from rfl] at hK ⊢
      simp only [e13] at hK ⊢
      clear e13
      go_wp2_with (fail)
      exact hK _ _ (Below.refl _ _) rfl
    · intro xq w1 hb1 hx K hK0
      have hK := fun v w' hb => hK0 v w' (.inl hb)
      have e12 : xq 12 = .int .i64 b := hx 7 (by rfl) (by rfl)
      have e14 : xq 14 = .int .i64 d := hx 9 (by rfl) (by rfl)
      clear hx hKc hK0
      simp only [frameOf, fill, setSlot, List.contains_cons, List.contains_nil, Nat.reduceBEq, Bool.or_false, Bool.false_or, Bool.or_true, Bool.true_or, if_true, if_false, Bool.false_eq_true, Nat.reduceAdd, Nat.reduceEqDiff, List.getD_cons_zero, List.getD_cons_succ, Nat.zero_add, show slotsOf [some 5, some 6, some 7, some 8, some 9, some 10, some 11, some 12, some 13, some 14, some 15, some 16, none] = [5, 6, 7, 8, 9, 10, 11, 12, 13, 14, 15, 16] from rfl] at hK ⊢
      simp only [e12, e14] at hK ⊢
      clear e12 e14
      go_wp2_with (fail)
      all_goals exact hK _ _ (Below.refl _ _) (by rw [← HV.out]; exact congrArg (Value.int .i64) (by omega))
    · intro xq w1 hb1 hx K hK0
      have hK := fun v w' hb => hK0 v w' (.inl hb)
      have e10 : xq 10 = .int .i64 u := hx 5 (by rfl) (by rfl)
      have e15 : xq 15 = .int .i64 v := hx 10 (by rfl) (by rfl)
      clear hx hKc hK0
      simp only [frameOf, fill, setSlot, List.contains_cons, List.contains_nil, Nat.reduceBEq, Bool.or_false, Bool.false_or, Bool.or_true, Bool.true_or, if_true, if_false, Bool.false_eq_true, Nat.reduceAdd, Nat.reduceEqDiff, List.getD_cons_zero, List.getD_cons_succ, Nat.zero_add, show slotsOf [some 5, some 6, some 7, some 8, some 9, some 10, some 11, some 12, some 13, some 14, some 15, some 16, none] = [5, 6, 7, 8, 9, 10, 11, 12, 13, 14, 15, 16] from rfl] at hK ⊢
      simp only [e10, e15] at hK ⊢
      clear e10 e15
      go_wp2_with (fail)
      exact hK _ _ (Below.refl _ _) rfl
    · intro xq w1 hb1 hx K hK0
      have hK := fun v w' hb => hK0 v w' (.inr hb)
      have e16 : xq 16 = .agg #[.int .i64 u, .int .i64 v] := hx 11 (by rfl) (by rfl)
      have fi4_0 : Holds w1 (w.heap.size + 1 + 1) 27 #[.int .i64 0, .int .i64 0] := hx 13 (by rfl) (by rfl)
      clear hx hKc hK0
      have lt4 : w.heap.size + 1 + 1 < w1.heap.size := by have := hb1.2.1; omega
      have k40 : w1.cell? ⟨w.heap.size + 1 + 1, 0, none⟩ = some (.int .i64 0) := fi4_0.cell 0
      have k41 : w1.cell? ⟨w.heap.size + 1 + 1, 1, none⟩ = some (.int .i64 0) := fi4_0.cell 1
      have z40 : w1.frozen? ⟨w.heap.size + 1 + 1, 0, none⟩ = false := fi4_0.frozen 0
      have z41 : w1.frozen? ⟨w.heap.size + 1 + 1, 1, none⟩ = false := fi4_0.frozen 1
      simp only [frameOf, fill, setSlot, List.contains_cons, List.contains_nil, Nat.reduceBEq, Bool.or_false, Bool.false_or, Bool.or_true, Bool.true_or, if_true, if_false, Bool.false_eq_true, Nat.reduceAdd, Nat.reduceEqDiff, List.getD_cons_zero, List.getD_cons_succ, Nat.zero_add, show slotsOf [some 5, some 6, some 7, some 8, some 9, some 10, some 11, some 12, some 13, some 14, some 15, some 16, none] = [5, 6, 7, 8, 9, 10, 11, 12, 13, 14, 15, 16] from rfl] at hK ⊢
      have E16 := Lib.hid e16
      simp only [e16] at hK ⊢
      clear e16
      go_wp2_with (fail)
      refine hK undef _ ⟨(by have h := hb1; exact ⟨h.1.trans (by (repeat' (first | (with_reducible exact Below.refl _ _) | (with_reducible assumption) | (with_reducible refine Below.alloc ?_ ?_ _) | (with_reducible refine Below.drew ?_) | (with_reducible refine Below.setCell ?_ ?_ _) | (with_reducible exact Nat.le_refl _) | omega | (simp only [World.size_alloc, World.size_setCell, World.size_drew]; omega) | (simp; omega) | (simp; done)))), by simp only [World.size_setCell]; exact h.2.1, by (have h' := h.2.2.1; (repeat first | (with_reducible assumption) | (with_reducible apply Holds.set4) | (with_reducible apply Holds.set2) | (with_reducible apply Holds.putL) | ((with_reducible refine Holds.new' _ _ ?_); (simp; done)) | (with_reducible refine Holds.alloc ?_ _) | (with_reducible refine Holds.drew ?_) | ((with_reducible refine Holds.far ?_ (by simp only [ne_eq]; omega) _)) | rfl)), by (have h' := h.2.2.2; (repeat first | (with_reducible assumption) | (with_reducible apply Holds.set4) | (with_reducible apply Holds.set2) | (with_reducible apply Holds.putL) | ((with_reducible refine Holds.new' _ _ ?_); (simp; done)) | (with_reducible refine Holds.alloc ?_ _) | (with_reducible refine Holds.drew ?_) | ((with_reducible refine Holds.far ?_ (by simp only [ne_eq]; omega) _)) | rfl))⟩), ?_⟩ (Holds.set2 _ _ fi4_0)
      intro jq xq hd hne hv
      match jq, hd, hne, hv with
      | 0, _, _, hv => exact hv
      | 1, _, _, hv => exact hv
      | 2, _, _, hv => exact hv
      | 3, _, _, hv => exact hv
      | 4, _, _, hv => obtain ⟨b_, e1, h1, h2⟩ := hv; exact ⟨b_, e1, (h1.far (p := ⟨w.heap.size + 1 + 1, 0, none⟩) h2 _).far (p := ⟨w.heap.size + 1 + 1, 1, none⟩) h2 _, h2⟩
      | 5, _, _, hv => exact hv
      | 6, _, _, hv => exact hv
      | 7, _, _, hv => exact hv
      | 8, _, _, hv => exact hv
      | 9, _, _, hv => exact hv
      | 10, _, _, hv => exact hv
      | 11, _, _, hv => exact hv
      | 12, _, hne, _ => exact absurd rfl hne
      | 13, hd, _, _ => exact absurd hd (by decide)
      | _ + 14, _, _, _ => trivial
  · intro xq w1 hb1 hx
    have e5 : xq 5 = .pointer (some ⟨w.heap.size, 0, none⟩) := hx 0 (by decide)
    have e6 : xq 6 = .int .i64 a := hx 1 (by decide)
    have e7 : xq 7 = .pointer (some ⟨w.heap.size + 1, 0, none⟩) := hx 2 (by decide)
    have e8 : xq 8 = .int .i64 c := hx 3 (by decide)
    obtain ⟨b9, e9, f9_0, f9_1⟩ := hx 4 (by decide)
    have e10 : xq 10 = .int .i64 u := hx 5 (by decide)
    have e11 : xq 11 = .pointer (some ⟨w.heap.size, 1, none⟩) := hx 6 (by decide)
    have e12 : xq 12 = .int .i64 b := hx 7 (by decide)
    have e13 : xq 13 = .pointer (some ⟨w.heap.size + 1, 1, none⟩) := hx 8 (by decide)
    have e14 : xq 14 = .int .i64 d := hx 9 (by decide)
    have e15 : xq 15 = .int .i64 v := hx 10 (by decide)
    have e16 : xq 16 = .agg #[.int .i64 u, .int .i64 v] := hx 11 (by decide)
    have fn12_0 : Holds w1 (w.heap.size + 1 + 1) 27 #[.int .i64 u, .int .i64 v] := hx 12 (by decide)
    clear hx
    simp only [frameOf, fill, setSlot, List.contains_cons, List.contains_nil, Nat.reduceBEq, Bool.or_false, Bool.false_or, Bool.or_true, Bool.true_or, if_true, if_false, Bool.false_eq_true, Nat.reduceAdd, Nat.reduceEqDiff, List.getD_cons_zero, List.getD_cons_succ, Nat.zero_add, show slotsOf [some 5, some 6, some 7, some 8, some 9, some 10, some 11, some 12, some 13, some 14, some 15, some 16, none] = [5, 6, 7, 8, 9, 10, 11, 12, 13, 14, 15, 16] from rfl]
    simp only [e5, e6, e7, e8, e9, e10, e11, e12, e13, e14, e15, e16]
    clear e5 e6 e7 e8 e9 e10 e11 e12 e13 e14 e15 e16
    refine hKc _ _ ?_
    go_wp2_with fail
    refine ret_cell (t := 27) (cs := #[.int .i64 u, .int .i64 v]) rfl rfl fn12_0 Try.underlying27 rfl (by kernel_rfl) rfl ⟨rfl, hb1.1⟩
theorem run_copy_rows {P : Program} (w : World) (dT sT ty elem : TypeId) (m g o dLen dCap : Nat) (a : Addr) (sLen sCap : Nat) (cur : Array Value) (t : TypeId) (cs : List Value)
    (hu : P.underlying dT = some (.slice elem)) (hs : (P.info? elem).map (·.size) = some m)
    (hg : w.heap[g]? = some (.cells cur t (0, 0))) (hn : cs.length = Nat.min sLen dLen * m)
    (hsrc : ∀ j v, cs[j]? = some v → w.cell? (a.add j) = some v) (hfit : o + cs.length ≤ cur.size) (h1 : ∀ v ∈ cs, v.oneCell' = true) :
    (Builtin.copy_ #[dT, sT] ty #[.slice (some ⟨g, o, none⟩) dLen dCap, .slice (some a) sLen sCap]).run P w =
      .ok (goInt (Nat.min sLen dLen)) (w.setRow g (cur.toList.take o ++ cs ++ cur.toList.drop (o + cs.length)).toArray) := by
  have hl := run_loadCells_list (P := P) w a cs hsrc
  have hst := run_storeCells_at P g o t cs 0 cur w hg (by simpa using hfit) h1
  cases hq : P.info? elem with
  | none => simp [hq] at hs
  | some i =>
    have hi : i.size = m := by simpa [hq] using hs
    simp [Builtin.copy_, run_underlying hu, Builtin.lenOf, Builtin.firstCells, sizeOf, typeInfo, hq, hi, ← hn, hl, hst]
theorem run_copy_zero {P : Program} (w : World) (dT sT ty elem : TypeId) (m : Nat) (dp sp : Option Addr) (dLen dCap sCap : Nat)
    (hu : P.underlying dT = some (.slice elem)) (hs : (P.info? elem).map (·.size) = some m) :
    (Builtin.copy_ #[dT, sT] ty #[.slice dp dLen dCap, .slice sp 0 sCap]).run P w = .ok (goInt 0) w := by
  cases hq : P.info? elem with
  | none => simp [hq] at hs
  | some i =>
    have hi : i.size = m := by simpa [hq] using hs
    cases dp <;> cases sp <;> simp [Builtin.copy_, run_underlying hu, Builtin.lenOf, Builtin.firstCells, sizeOf, typeInfo, hq, hi, storeCells, loadCells, loadCellsFrom, Sem.run]
theorem make_bins (w1 : World) (n : Nat) (hn : n ≤ 1000) : ∃ w2 cur, (Instr.makeSlice 23 (.int .i64 (n : Int)) (.int .i64 (n : Int))).run Try.prog w1 = .ok (.slice (some ⟨w1.heap.size, 0, none⟩) n n) w2 ∧ Holds w2 w1.heap.size 39 cur ∧ cur.size = n * 4 ∧ Below w1.heap.size w1 w2 := by
  obtain ⟨i0, hi, hz0, hz1, hz2⟩ := info_parts info_bin
  obtain ⟨w2, hrun, ⟨hl, h⟩, hg⟩ := run_makeSlice_full (P := Try.prog) (w := w1) w1.heap.size 23 39 i0 _ 4 und_bins hi hz0 hz1 .i64 .i64 n (by omega) (by rw [hz2]; omega) (by unfold maxLen; omega) (Nat.le_refl _)
  rcases h with ⟨h, _⟩ | ⟨g, cap, cur, hv, _, hc, _, _, hsz, _⟩
  · cases h
  · cases hv
    exact ⟨w2, cur, hrun, hc, hsz, ⟨hg.os, hg.tape, hg.output, hg.size, fun k hk => hg.block k hk (by simp)⟩⟩
theorem copy_bins (w : World) (ty : TypeId) (g q : Nat) (A : Option Addr) (hs : List Bn) (cur : Array Value) (t : TypeId) (hg : Holds w g t cur) (hc : cur.size = hs.length * 4) (hA : BinsAt w A hs) :
    ∃ v, (Builtin.copy_ #[23, 23] ty #[.slice (some ⟨g, 0, none⟩) hs.length hs.length, .slice A hs.length q]).run Try.prog w = .ok v (w.setRow g (hs.flatMap Bn.cells).toArray) := by
  obtain ⟨i0, hi, hz0, hz1, hz2⟩ := info_parts info_bin
  have hl := flat_len Bn.cells 4 Bn.len hs
  have hm : Nat.min hs.length hs.length = hs.length := Nat.min_eq_left (Nat.le_refl _)
  have hcl : cur.toList.length = hs.length * 4 := by simpa using hc
  by_cases h0 : 0 < hs.length
  · obtain ⟨B, o, rfl, hcell⟩ := hA h0
    have h := run_copy_rows (P := Try.prog) w 23 23 ty 39 4 g 0 hs.length hs.length ⟨B, o, none⟩ hs.length q cur t (hs.flatMap Bn.cells) und_bins (by rw [hi]; simp [hz1]) hg (by rw [hm, hl]) (row_flat Bn.len (by decide) hA) (by omega) (bins_one hs)
    refine ⟨goInt ((Nat.min hs.length hs.length : Nat) : Int), h.trans ?_⟩
    rw [Nat.zero_add, hl, List.drop_eq_nil_of_le (by omega)]
    simp
  · have e : hs = [] := List.eq_nil_of_length_eq_zero (by omega)
    subst e
    have e2 : cur = #[] := Array.eq_empty_of_size_eq_zero (by simpa using hc)
    subst e2
    refine ⟨goInt 0, (run_copy_zero (P := Try.prog) w 23 23 ty 39 4 _ _ _ _ q und_bins (by rw [hi]; simp [hz1])).trans ?_⟩
    have := setRow_self w g #[] t (0, 0) hg
    simp [this]
theorem below_row {w w2 : World} {n g : Nat} (hb : Below n w w2) (hg : n ≤ g) (cs : Array Value) : Below n w (w2.setRow g cs) := by
  refine ⟨hb.os, hb.tape, hb.output, ?_, fun k hk => ?_⟩
  · simpa [World.setRow] using hb.size
  · rw [setRow_other w2 g k cs (by omega)]; exact hb.block k hk
set_option maxRecDepth 100000 in
set_option maxHeartbeats 4000000 in
theorem withBins_any (b : Br) (A : Option Addr) (c : Nat) (bs : List Bn) (w : World) (hA : BinsAt w A bs) (hl : bs.length ≤ 1000) :
    Calls Try.prog 65 #[.agg #[.int .i64 b.cool, .int .i64 b.gangs, .int .i64 b.r0, .int .i64 b.r1, .int .i64 b.r2, .int .i64 b.r3, .int .i64 b.r4, .int .i64 b.r5, .slice A bs.length c]] w fun e w' => ∃ B, e = .returned (.agg #[.int .i64 b.cool, .int .i64 b.gangs, .int .i64 b.r0, .int .i64 b.r1, .int .i64 b.r2, .int .i64 b.r3, .int .i64 b.r4, .int .i64 b.r5, .slice (some ⟨B, 0, none⟩) bs.length bs.length]) ∧ Holds w' B 39 (bs.flatMap Bn.cells).toArray ∧ w.heap.size ≤ B ∧ Below w.heap.size w w' := by
  have HA := Lib.hid hA
  clear hA
  obtain ⟨w1, hw1⟩ : ∃ z, z = (w.alloc (.cells #[.int .i64 b.cool, .int .i64 b.gangs, .int .i64 b.r0, .int .i64 b.r1, .int .i64 b.r2, .int .i64 b.r3, .int .i64 b.r4, .int .i64 b.r5, .slice A bs.length c] 25)).alloc (.cells #[.int .i64 0, .int .i64 0, .int .i64 0, .int .i64 0, .int .i64 0, .int .i64 0, .int .i64 0, .int .i64 0, .slice none 0 0] 25) := ⟨_, rfl⟩
  have Hb1 : Holds w1 (w.heap.size) 25 #[.int .i64 b.cool, .int .i64 b.gangs, .int .i64 b.r0, .int .i64 b.r1, .int .i64 b.r2, .int .i64 b.r3, .int .i64 b.r4, .int .i64 b.r5, .slice A bs.length c] := by rw [hw1]; exact (Holds.new _ _ _).alloc _
  have Hr1 : Holds w1 (w.heap.size + 1) 25 #[.int .i64 0, .int .i64 0, .int .i64 0, .int .i64 0, .int .i64 0, .int .i64 0, .int .i64 0, .int .i64 0, .slice none 0 0] := by rw [hw1]; exact Holds.new' _ _ (by simp)
  have hb1 : Below w.heap.size w w1 := by rw [hw1]; (repeat' (first | (with_reducible exact Below.refl _ _) | (with_reducible assumption) | (with_reducible refine Below.alloc ?_ ?_ _) | (with_reducible refine Below.drew ?_) | (with_reducible refine Below.setCell ?_ ?_ _) | (with_reducible exact Nat.le_refl _) | omega | (simp only [World.size_alloc, World.size_setCell, World.size_drew]; omega) | (simp; omega) | (simp; done)))
  have hs1 : w1.heap.size = w.heap.size + 1 + 1 := by rw [hw1]; simp
  obtain ⟨w2, cur, hrun2, hO2, hsz2, hb2⟩ := make_bins w1 bs.length hl
  obtain ⟨vc, hrun3⟩ := copy_bins w2 3 w1.heap.size c A bs cur 39 hO2 hsz2 ((HA.out.up hb1).up hb2)
  obtain ⟨w3, hw3⟩ : ∃ z, z = w2.setRow w1.heap.size (bs.flatMap Bn.cells).toArray := ⟨_, rfl⟩
  rw [← hw3] at hrun3
  have hO3 : Hid (Holds w3 w1.heap.size 39 (bs.flatMap Bn.cells).toArray) := Lib.hid (hw3 ▸ setRow_heap w2 _ _ _ _ _ hO2)
  have HB3 : Hid (Below w1.heap.size w1 w3) := Lib.hid (hw3 ▸ below_row hb2 (Nat.le_refl _) _)
  have Hb2 := Lib.hid (Hb1.up hb2)
  have Hb3 := Lib.hid (Hb1.up HB3.out)
  have Hr3 := Lib.hid (Hr1.up HB3.out)
  have HBW : Hid (Below w.heap.size w w3) := Lib.hid (hb1.trans (HB3.out.mono hb1.size))
  have H1 := Lib.hid hw1
  rw [hw1] at hrun2 hrun3 hO3 hO2
  simp only [World.size_alloc] at hrun2 hrun3 hO3
  clear hw3 hO2 hb2 hw1 hb1 Hb1 Hr1
  go_enter Try.func65, Try.ntmps65
  have kb0 : w2.cell? ⟨w.heap.size, 0, none⟩ = some (.int .i64 b.cool) := Hb2.out.cell 0
  have kb1 : w2.cell? ⟨w.heap.size, 1, none⟩ = some (.int .i64 b.gangs) := Hb2.out.cell 1
  have kb2 : w2.cell? ⟨w.heap.size, 2, none⟩ = some (.int .i64 b.r0) := Hb2.out.cell 2
  have kb3 : w2.cell? ⟨w.heap.size, 3, none⟩ = some (.int .i64 b.r1) := Hb2.out.cell 3
  have kb4 : w2.cell? ⟨w.heap.size, 4, none⟩ = some (.int .i64 b.r2) := Hb2.out.cell 4
  have kb5 : w2.cell? ⟨w.heap.size, 5, none⟩ = some (.int .i64 b.r3) := Hb2.out.cell 5
  have kb6 : w2.cell? ⟨w.heap.size, 6, none⟩ = some (.int .i64 b.r4) := Hb2.out.cell 6
  have kb7 : w2.cell? ⟨w.heap.size, 7, none⟩ = some (.int .i64 b.r5) := Hb2.out.cell 7
  have kb8 : w2.cell? ⟨w.heap.size, 8, none⟩ = some (.slice A bs.length c) := Hb2.out.cell 8
  have lt_b : w.heap.size < w2.heap.size := Hb2.out.lt
  have kc0 : w3.cell? ⟨w.heap.size, 0, none⟩ = some (.int .i64 b.cool) := Hb3.out.cell 0
  have kc1 : w3.cell? ⟨w.heap.size, 1, none⟩ = some (.int .i64 b.gangs) := Hb3.out.cell 1
  have kc2 : w3.cell? ⟨w.heap.size, 2, none⟩ = some (.int .i64 b.r0) := Hb3.out.cell 2
  have kc3 : w3.cell? ⟨w.heap.size, 3, none⟩ = some (.int .i64 b.r1) := Hb3.out.cell 3
  have kc4 : w3.cell? ⟨w.heap.size, 4, none⟩ = some (.int .i64 b.r2) := Hb3.out.cell 4
  have kc5 : w3.cell? ⟨w.heap.size, 5, none⟩ = some (.int .i64 b.r3) := Hb3.out.cell 5
  have kc6 : w3.cell? ⟨w.heap.size, 6, none⟩ = some (.int .i64 b.r4) := Hb3.out.cell 6
  have kc7 : w3.cell? ⟨w.heap.size, 7, none⟩ = some (.int .i64 b.r5) := Hb3.out.cell 7
  have kc8 : w3.cell? ⟨w.heap.size, 8, none⟩ = some (.slice A bs.length c) := Hb3.out.cell 8
  have zb0 : w3.frozen? ⟨w.heap.size, 0, none⟩ = false := Hb3.out.frozen 0
  have zb1 : w3.frozen? ⟨w.heap.size, 1, none⟩ = false := Hb3.out.frozen 1
  have zb2 : w3.frozen? ⟨w.heap.size, 2, none⟩ = false := Hb3.out.frozen 2
  have zb3 : w3.frozen? ⟨w.heap.size, 3, none⟩ = false := Hb3.out.frozen 3
  have zb4 : w3.frozen? ⟨w.heap.size, 4, none⟩ = false := Hb3.out.frozen 4
  have zb5 : w3.frozen? ⟨w.heap.size, 5, none⟩ = false := Hb3.out.frozen 5
  have zb6 : w3.frozen? ⟨w.heap.size, 6, none⟩ = false := Hb3.out.frozen 6
  have zb7 : w3.frozen? ⟨w.heap.size, 7, none⟩ = false := Hb3.out.frozen 7
  have zb8 : w3.frozen? ⟨w.heap.size, 8, none⟩ = false := Hb3.out.frozen 8
  have lt_c : w.heap.size < w3.heap.size := Hb3.out.lt
  have kr0 : w3.cell? ⟨w.heap.size + 1, 0, none⟩ = some (.int .i64 0) := Hr3.out.cell 0
  have kr1 : w3.cell? ⟨w.heap.size + 1, 1, none⟩ = some (.int .i64 0) := Hr3.out.cell 1
  have kr2 : w3.cell? ⟨w.heap.size + 1, 2, none⟩ = some (.int .i64 0) := Hr3.out.cell 2
  have kr3 : w3.cell? ⟨w.heap.size + 1, 3, none⟩ = some (.int .i64 0) := Hr3.out.cell 3
  have kr4 : w3.cell? ⟨w.heap.size + 1, 4, none⟩ = some (.int .i64 0) := Hr3.out.cell 4
  have kr5 : w3.cell? ⟨w.heap.size + 1, 5, none⟩ = some (.int .i64 0) := Hr3.out.cell 5
  have kr6 : w3.cell? ⟨w.heap.size + 1, 6, none⟩ = some (.int .i64 0) := Hr3.out.cell 6
  have kr7 : w3.cell? ⟨w.heap.size + 1, 7, none⟩ = some (.int .i64 0) := Hr3.out.cell 7
  have kr8 : w3.cell? ⟨w.heap.size + 1, 8, none⟩ = some (.slice none 0 0) := Hr3.out.cell 8
  have zr0 : w3.frozen? ⟨w.heap.size + 1, 0, none⟩ = false := Hr3.out.frozen 0
  have zr1 : w3.frozen? ⟨w.heap.size + 1, 1, none⟩ = false := Hr3.out.frozen 1
  have zr2 : w3.frozen? ⟨w.heap.size + 1, 2, none⟩ = false := Hr3.out.frozen 2
  have zr3 : w3.frozen? ⟨w.heap.size + 1, 3, none⟩ = false := Hr3.out.frozen 3
  have zr4 : w3.frozen? ⟨w.heap.size + 1, 4, none⟩ = false := Hr3.out.frozen 4
  have zr5 : w3.frozen? ⟨w.heap.size + 1, 5, none⟩ = false := Hr3.out.frozen 5
  have zr6 : w3.frozen? ⟨w.heap.size + 1, 6, none⟩ = false := Hr3.out.frozen 6
  have zr7 : w3.frozen? ⟨w.heap.size + 1, 7, none⟩ = false := Hr3.out.frozen 7
  have zr8 : w3.frozen? ⟨w.heap.size + 1, 8, none⟩ = false := Hr3.out.frozen 8
  have lt_r : w.heap.size + 1 < w3.heap.size := Hr3.out.lt
  go_wp2_with fail
  refine ret_cell (t := 25) (cs := #[.int .i64 b.cool, .int .i64 b.gangs, .int .i64 b.r0, .int .i64 b.r1, .int .i64 b.r2, .int .i64 b.r3, .int .i64 b.r4, .int .i64 b.r5, .slice (some ⟨w.heap.size + 1 + 1, 0, none⟩) bs.length bs.length]) rfl rfl (by have h := Hr3.out; exact (by (repeat first | (with_reducible assumption) | (with_reducible apply Holds.set9) | (with_reducible apply Holds.set4) | (with_reducible apply Holds.set2) | (with_reducible apply Holds.putL) | ((with_reducible refine Holds.new' _ _ ?_); (simp; done)) | (with_reducible refine Holds.alloc ?_ _) | (with_reducible refine Holds.drew ?_) | ((with_reducible refine Holds.far ?_ (by simp only [ne_eq]; omega) _)) | rfl))) Try.underlying25 rfl (by kernel_rfl) rfl ⟨_, rfl, ?_, by omega, HBW.out.trans (by (repeat' (first | (with_reducible exact Below.refl _ _) | (with_reducible assumption) | (with_reducible refine Below.alloc ?_ ?_ _) | (with_reducible refine Below.drew ?_) | (with_reducible refine Below.setCell ?_ ?_ _) | (with_reducible exact Nat.le_refl _) | omega | (simp only [World.size_alloc, World.size_setCell, World.size_drew]; omega) | (simp; omega) | (simp; done))))⟩
  have h := hO3.out
  exact (by (repeat first | (with_reducible assumption) | (with_reducible apply Holds.set9) | (with_reducible apply Holds.set4) | (with_reducible apply Holds.set2) | (with_reducible apply Holds.putL) | ((with_reducible refine Holds.new' _ _ ?_); (simp; done)) | (with_reducible refine Holds.alloc ?_ _) | (with_reducible refine Holds.drew ?_) | ((with_reducible refine Holds.far ?_ (by simp only [ne_eq]; omega) _)) | rfl))
end Go.Proofs.Ytfghfmlcfbkmjaa
