
import Derived.Test.YtifffonoipapgaaVAA
import Derived.Test.YtifffonoipapgaaVAC
set_option linter.unusedSimpArgs false
set_option linter.unusedVariables false
namespace Go.Proofs.Ytifffonoipapgaa
open Go.RowKit
attribute [local go_sem] ix4_0 ix4_1 ix4_2 ix4_3 ix8_0 ix8_1 ix8_2 ix8_3
theorem zp0 {p : Prop} (h : p := by (repeat first | (with_reducible first | assumption | apply Holds.set8 | apply Holds.set4 | apply Holds.putL | ((refine Holds.new' _ _ ?_); (simp; done)) | refine Holds.alloc ?_ _ | refine Holds.drew ?_ | refine Holds.far ?_ (by simp only [ne_eq]; omega) _) | rfl)) : p := h
set_option maxRecDepth 100000 in
set_option maxHeartbeats 2000000 in
theorem boxMeet_any (b0 b1 b2 b3 b4 b5 b6 b7 o0 o1 o2 o3 o4 o5 o6 o7 : Int) (w : World) :
  Calls Try.prog 137 #[.agg #[.int .i64 b0, .int .i64 b1, .int .i64 b2, .int .i64 b3, .int .i64 b4, .int .i64 b5, .int .i64 b6, .int .i64 b7], .agg #[.int .i64 o0, .int .i64 o1, .int .i64 o2, .int .i64 o3, .int .i64 o4, .int .i64 o5, .int .i64 o6, .int .i64 o7]] w fun e w' => e = .returned (.agg #[.int .i64 (mLo b0 b1 o0 o1), .int .i64 (mHi b0 b1 o0 o1), .int .i64 (mLo b2 b3 o2 o3), .int .i64 (mHi b2 b3 o2 o3), .int .i64 (mLo b4 b5 o4 o5), .int .i64 (mHi b4 b5 o4 o5), .int .i64 (mLo b6 b7 o6 o7), .int .i64 (mHi b6 b7 o6 o7)]) ∧ Below w.heap.size w w' := by
 go_enter Try.func137, Try.ntmps137
 go_wp2_with fail
 go_loopw [8] (fun v8 wr => Below w.heap.size w wr ∧ w.heap.size + 3 ≤ wr.heap.size ∧ Holds wr (w.heap.size + 1) 153 #[.int .i64 o0, .int .i64 o1, .int .i64 o2, .int .i64 o3, .int .i64 o4, .int .i64 o5, .int .i64 o6, .int .i64 o7] ∧ Holds wr (w.heap.size + 1 + 1) 153 #[.int .i64 0, .int .i64 0, .int .i64 0, .int .i64 0, .int .i64 0, .int .i64 0, .int .i64 0, .int .i64 0] ∧ ((v8 = .int .i64 0 ∧ Holds wr (w.heap.size) 153 #[.int .i64 b0, .int .i64 b1, .int .i64 b2, .int .i64 b3, .int .i64 b4, .int .i64 b5, .int .i64 b6, .int .i64 b7]) ∨ (v8 = .int .i64 1 ∧ Holds wr (w.heap.size) 153 #[.int .i64 (mLo b0 b1 o0 o1), .int .i64 (mHi b0 b1 o0 o1), .int .i64 b2, .int .i64 b3, .int .i64 b4, .int .i64 b5, .int .i64 b6, .int .i64 b7]) ∨ (v8 = .int .i64 2 ∧ Holds wr (w.heap.size) 153 #[.int .i64 (mLo b0 b1 o0 o1), .int .i64 (mHi b0 b1 o0 o1), .int .i64 (mLo b2 b3 o2 o3), .int .i64 (mHi b2 b3 o2 o3), .int .i64 b4, .int .i64 b5, .int .i64 b6, .int .i64 b7]) ∨ (v8 = .int .i64 3 ∧ Holds wr (w.heap.size) 153 #[.int .i64 (mLo b0 b1 o0 o1), .int .i64 (mHi b0 b1 o0 o1), .int .i64 (mLo b2 b3 o2 o3), .int .i64 (mHi b2 b3 o2 o3), .int .i64 (mLo b4 b5 o4 o5), .int .i64 (mHi b4 b5 o4 o5), .int .i64 b6, .int .i64 b7]) ∨ (v8 = .int .i64 4 ∧ Holds wr (w.heap.size) 153 #[.int .i64 (mLo b0 b1 o0 o1), .int .i64 (mHi b0 b1 o0 o1), .int .i64 (mLo b2 b3 o2 o3), .int .i64 (mHi b2 b3 o2 o3), .int .i64 (mLo b4 b5 o4 o5), .int .i64 (mHi b4 b5 o4 o5), .int .i64 (mLo b6 b7 o6 o7), .int .i64 (mHi b6 b7 o6 o7)]))) (fun v8 _ => 4 - (intOf v8).toNat)
 case atStart => exact ⟨zg, by simp, zp0, zp0, .inl ⟨rfl, zp0⟩⟩
 case round =>
  obtain ⟨hB, hS, Ho, Hr, ⟨rfl, Hb⟩ | ⟨rfl, Hb⟩ | ⟨rfl, Hb⟩ | ⟨rfl, Hb⟩ | ⟨rfl, Hb⟩⟩ := hrel
  ·go_wp2_with fail
   refine wp_world (fun W => Below w.heap.size w W ∧ wr.heap.size + 1 ≤ W.heap.size ∧ Holds W (w.heap.size) 153 #[.int .i64 b0, .int .i64 b1, .int .i64 b2, .int .i64 b3, .int .i64 b4, .int .i64 b5, .int .i64 b6, .int .i64 b7] ∧ Holds W (w.heap.size + 1) 153 #[.int .i64 o0, .int .i64 o1, .int .i64 o2, .int .i64 o3, .int .i64 o4, .int .i64 o5, .int .i64 o6, .int .i64 o7] ∧ Holds W (w.heap.size + 1 + 1) 153 #[.int .i64 0, .int .i64 0, .int .i64 0, .int .i64 0, .int .i64 0, .int .i64 0, .int .i64 0, .int .i64 0] ∧ Holds W (wr.heap.size) 60 #[.int .i64 o0, .int .i64 o1] ∧ True) ?_ ?_
   ·exact ⟨zg, (by simp), zp0, zp0, zp0, zp0, trivial⟩
   rintro W ⟨hB1, hS1, Hb, Ho, Hr, Hs, -⟩
   rename_i Kc hKc
   refine wp_region_parts (by kernel_rfl) 7 [12, 13, 14, 15, 16, 17, 18] (fun t v w' => match t with
    | 12 => v = .int .i64 0
    | 13 => v = .int .i64 0
    | 14 => v = .pointer (some ⟨w.heap.size, 0, none⟩)
    | 15 => v = .agg #[.int .i64 b0, .int .i64 b1]
    | 16 => v = .agg #[.int .i64 o0, .int .i64 o1]
    | 17 => v = .agg #[.int .i64 (mLo b0 b1 o0 o1), .int .i64 (mHi b0 b1 o0 o1)]
    | 18 => v = .pointer (some ⟨w.heap.size, 0, none⟩)
    | _ => True) (by kernel_rfl) ?_ ?_ ?_
   ·intro t v w1 w2 hb' h
    revert h
    split <;> intro h <;> first
     | exact h
   ·refine ⟨?_, ?_, ?_, ?_, ?_, ?_, ?_, trivial⟩
    ·intro x w1 hb1 hx K hK
     clear hx hKc
     obtain ⟨cb0, cb1⟩ := (Hb.up hb1).c2
     obtain ⟨cs0, cs1⟩ := (Hs.up hb1).c2
     simp only [frameOf, fill, sg, Nat.reduceBEq, if_true, if_false, Nat.reduceAdd, Nat.reduceEqDiff] at hK ⊢
     go_wp2_with (go_at_call 135; refine (meet_any _ _ _ _ _).mono ?_; rintro e w' ⟨rfl, hb2⟩)
     exact hK _ _ (Below.refl _ _) rfl
    ·intro x w1 hb1 hx K hK
     clear hx hKc
     obtain ⟨cb0, cb1⟩ := (Hb.up hb1).c2
     obtain ⟨cs0, cs1⟩ := (Hs.up hb1).c2
     simp only [frameOf, fill, sg, Nat.reduceBEq, if_true, if_false, Nat.reduceAdd, Nat.reduceEqDiff] at hK ⊢
     go_wp2_with (go_at_call 135; refine (meet_any _ _ _ _ _).mono ?_; rintro e w' ⟨rfl, hb2⟩)
     exact hK _ _ (Below.refl _ _) rfl
    ·intro x w1 hb1 hx K hK
     have e13 : x 13 = .int .i64 0 := hx 13 (by rfl)
     clear hx hKc
     obtain ⟨cb0, cb1⟩ := (Hb.up hb1).c2
     obtain ⟨cs0, cs1⟩ := (Hs.up hb1).c2
     simp only [frameOf, fill, sg, Nat.reduceBEq, if_true, if_false, Nat.reduceAdd, Nat.reduceEqDiff] at hK ⊢
     simp only [e13] at hK ⊢
     clear e13
     go_wp2_with (go_at_call 135; refine (meet_any _ _ _ _ _).mono ?_; rintro e w' ⟨rfl, hb2⟩)
     exact hK _ _ (Below.refl _ _) rfl
    ·intro x w1 hb1 hx K hK
     have e14 : x 14 = .pointer (some ⟨w.heap.size, 0, none⟩) := hx 14 (by rfl)
     clear hx hKc
     obtain ⟨cb0, cb1⟩ := (Hb.up hb1).c2
     obtain ⟨cs0, cs1⟩ := (Hs.up hb1).c2
     simp only [frameOf, fill, sg, Nat.reduceBEq, if_true, if_false, Nat.reduceAdd, Nat.reduceEqDiff] at hK ⊢
     simp only [e14] at hK ⊢
     clear e14
     go_wp2_with (go_at_call 135; refine (meet_any _ _ _ _ _).mono ?_; rintro e w' ⟨rfl, hb2⟩)
     exact hK _ _ (Below.refl _ _) rfl
    ·intro x w1 hb1 hx K hK
     clear hx hKc
     obtain ⟨cb0, cb1⟩ := (Hb.up hb1).c2
     obtain ⟨cs0, cs1⟩ := (Hs.up hb1).c2
     simp only [frameOf, fill, sg, Nat.reduceBEq, if_true, if_false, Nat.reduceAdd, Nat.reduceEqDiff] at hK ⊢
     go_wp2_with (go_at_call 135; refine (meet_any _ _ _ _ _).mono ?_; rintro e w' ⟨rfl, hb2⟩)
     exact hK _ _ (Below.refl _ _) rfl
    ·intro x w1 hb1 hx K hK
     have e15 : x 15 = .agg #[.int .i64 b0, .int .i64 b1] := hx 15 (by rfl)
     have e16 : x 16 = .agg #[.int .i64 o0, .int .i64 o1] := hx 16 (by rfl)
     clear hx hKc
     obtain ⟨cb0, cb1⟩ := (Hb.up hb1).c2
     obtain ⟨cs0, cs1⟩ := (Hs.up hb1).c2
     simp only [frameOf, fill, sg, Nat.reduceBEq, if_true, if_false, Nat.reduceAdd, Nat.reduceEqDiff] at hK ⊢
     simp only [e15, e16] at hK ⊢
     clear e15 e16
     go_wp2_with (go_at_call 135; refine (meet_any _ _ _ _ _).mono ?_; rintro e w' ⟨rfl, hb2⟩)
     exact hK _ _ hb2 rfl
    ·intro x w1 hb1 hx K hK
     have e12 : x 12 = .int .i64 0 := hx 12 (by rfl)
     clear hx hKc
     obtain ⟨cb0, cb1⟩ := (Hb.up hb1).c2
     obtain ⟨cs0, cs1⟩ := (Hs.up hb1).c2
     simp only [frameOf, fill, sg, Nat.reduceBEq, if_true, if_false, Nat.reduceAdd, Nat.reduceEqDiff] at hK ⊢
     simp only [e12] at hK ⊢
     clear e12
     go_wp2_with (go_at_call 135; refine (meet_any _ _ _ _ _).mono ?_; rintro e w' ⟨rfl, hb2⟩)
     exact hK _ _ (Below.refl _ _) rfl
   ·intro x w1 hb1 hx
    have e12 : x 12 = .int .i64 0 := hx 12 (by decide)
    have e13 : x 13 = .int .i64 0 := hx 13 (by decide)
    have e14 : x 14 = .pointer (some ⟨w.heap.size, 0, none⟩) := hx 14 (by decide)
    have e15 : x 15 = .agg #[.int .i64 b0, .int .i64 b1] := hx 15 (by decide)
    have e16 : x 16 = .agg #[.int .i64 o0, .int .i64 o1] := hx 16 (by decide)
    have e17 : x 17 = .agg #[.int .i64 (mLo b0 b1 o0 o1), .int .i64 (mHi b0 b1 o0 o1)] := hx 17 (by decide)
    have e18 : x 18 = .pointer (some ⟨w.heap.size, 0, none⟩) := hx 18 (by decide)
    clear hx
    obtain ⟨cb0, cb1⟩ := (Hb.up hb1).c2
    obtain ⟨cs0, cs1⟩ := (Hs.up hb1).c2
    simp only [frameOf, fill, List.contains_cons, List.contains_nil, Nat.reduceBEq, Bool.or_false, Bool.false_or, Bool.or_true, Bool.true_or, if_true, if_false, Bool.false_eq_true, Nat.reduceAdd, Nat.zero_add]
    simp only [e12, e13, e14, e15, e16, e17, e18]
    clear e12 e13 e14 e15 e16 e17 e18
    have hB2 : Below w.heap.size w w1 := hB1.trans (hb1.mono (by omega))
    have hs1 := hb1.size
    have Hb1 := Hb.up hb1
    have Ho1 := Ho.up hb1
    have Hr1 := Hr.up hb1
    obtain ⟨cb0, cb1⟩ := Hb1.c2
    have zb0 := Hb1.frozen 0
    have zb1 := Hb1.frozen 1
    clear Hb Ho Hr Hs
    go_wp2_with fail
    go_roundw
    case rel => exact ⟨zg, by simp; omega, zp0, zp0, .inr (.inl ⟨rfl, zp0⟩)⟩
    case measure => simp [intOf]
  ·go_wp2_with fail
   refine wp_world (fun W => Below w.heap.size w W ∧ wr.heap.size + 1 ≤ W.heap.size ∧ Holds W (w.heap.size) 153 #[.int .i64 (mLo b0 b1 o0 o1), .int .i64 (mHi b0 b1 o0 o1), .int .i64 b2, .int .i64 b3, .int .i64 b4, .int .i64 b5, .int .i64 b6, .int .i64 b7] ∧ Holds W (w.heap.size + 1) 153 #[.int .i64 o0, .int .i64 o1, .int .i64 o2, .int .i64 o3, .int .i64 o4, .int .i64 o5, .int .i64 o6, .int .i64 o7] ∧ Holds W (w.heap.size + 1 + 1) 153 #[.int .i64 0, .int .i64 0, .int .i64 0, .int .i64 0, .int .i64 0, .int .i64 0, .int .i64 0, .int .i64 0] ∧ Holds W (wr.heap.size) 60 #[.int .i64 o2, .int .i64 o3] ∧ True) ?_ ?_
   ·exact ⟨zg, (by simp), zp0, zp0, zp0, zp0, trivial⟩
   rintro W ⟨hB1, hS1, Hb, Ho, Hr, Hs, -⟩
   rename_i Kc hKc
   refine wp_region_parts (by kernel_rfl) 7 [12, 13, 14, 15, 16, 17, 18] (fun t v w' => match t with
    | 12 => v = .int .i64 1
    | 13 => v = .int .i64 1
    | 14 => v = .pointer (some ⟨w.heap.size, 2, none⟩)
    | 15 => v = .agg #[.int .i64 b2, .int .i64 b3]
    | 16 => v = .agg #[.int .i64 o2, .int .i64 o3]
    | 17 => v = .agg #[.int .i64 (mLo b2 b3 o2 o3), .int .i64 (mHi b2 b3 o2 o3)]
    | 18 => v = .pointer (some ⟨w.heap.size, 2, none⟩)
    | _ => True) (by kernel_rfl) ?_ ?_ ?_
   ·intro t v w1 w2 hb' h
    revert h
    split <;> intro h <;> first
     | exact h
   ·refine ⟨?_, ?_, ?_, ?_, ?_, ?_, ?_, trivial⟩
    ·intro x w1 hb1 hx K hK
     clear hx hKc
     have cb2 : w1.cell? ⟨w.heap.size, 2, none⟩ = some (.int .i64 b2) := (Hb.up hb1).cell 2
     have cb3 : w1.cell? ⟨w.heap.size, 3, none⟩ = some (.int .i64 b3) := (Hb.up hb1).cell 3
     obtain ⟨cs0, cs1⟩ := (Hs.up hb1).c2
     simp only [frameOf, fill, sg, Nat.reduceBEq, if_true, if_false, Nat.reduceAdd, Nat.reduceEqDiff] at hK ⊢
     go_wp2_with (go_at_call 135; refine (meet_any _ _ _ _ _).mono ?_; rintro e w' ⟨rfl, hb2⟩)
     exact hK _ _ (Below.refl _ _) rfl
    ·intro x w1 hb1 hx K hK
     clear hx hKc
     have cb2 : w1.cell? ⟨w.heap.size, 2, none⟩ = some (.int .i64 b2) := (Hb.up hb1).cell 2
     have cb3 : w1.cell? ⟨w.heap.size, 3, none⟩ = some (.int .i64 b3) := (Hb.up hb1).cell 3
     obtain ⟨cs0, cs1⟩ := (Hs.up hb1).c2
     simp only [frameOf, fill, sg, Nat.reduceBEq, if_true, if_false, Nat.reduceAdd, Nat.reduceEqDiff] at hK ⊢
     go_wp2_with (go_at_call 135; refine (meet_any _ _ _ _ _).mono ?_; rintro e w' ⟨rfl, hb2⟩)
     exact hK _ _ (Below.refl _ _) rfl
    ·intro x w1 hb1 hx K hK
     have e13 : x 13 = .int .i64 1 := hx 13 (by rfl)
     clear hx hKc
     have cb2 : w1.cell? ⟨w.heap.size, 2, none⟩ = some (.int .i64 b2) := (Hb.up hb1).cell 2
     have cb3 : w1.cell? ⟨w.heap.size, 3, none⟩ = some (.int .i64 b3) := (Hb.up hb1).cell 3
     obtain ⟨cs0, cs1⟩ := (Hs.up hb1).c2
     simp only [frameOf, fill, sg, Nat.reduceBEq, if_true, if_false, Nat.reduceAdd, Nat.reduceEqDiff] at hK ⊢
     simp only [e13] at hK ⊢
     clear e13
     go_wp2_with (go_at_call 135; refine (meet_any _ _ _ _ _).mono ?_; rintro e w' ⟨rfl, hb2⟩)
     exact hK _ _ (Below.refl _ _) rfl
    ·intro x w1 hb1 hx K hK
     have e14 : x 14 = .pointer (some ⟨w.heap.size, 2, none⟩) := hx 14 (by rfl)
     clear hx hKc
     have cb2 : w1.cell? ⟨w.heap.size, 2, none⟩ = some (.int .i64 b2) := (Hb.up hb1).cell 2
     have cb3 : w1.cell? ⟨w.heap.size, 3, none⟩ = some (.int .i64 b3) := (Hb.up hb1).cell 3
     obtain ⟨cs0, cs1⟩ := (Hs.up hb1).c2
     simp only [frameOf, fill, sg, Nat.reduceBEq, if_true, if_false, Nat.reduceAdd, Nat.reduceEqDiff] at hK ⊢
     simp only [e14] at hK ⊢
     clear e14
     go_wp2_with (go_at_call 135; refine (meet_any _ _ _ _ _).mono ?_; rintro e w' ⟨rfl, hb2⟩)
     exact hK _ _ (Below.refl _ _) rfl
    ·intro x w1 hb1 hx K hK
     clear hx hKc
     have cb2 : w1.cell? ⟨w.heap.size, 2, none⟩ = some (.int .i64 b2) := (Hb.up hb1).cell 2
     have cb3 : w1.cell? ⟨w.heap.size, 3, none⟩ = some (.int .i64 b3) := (Hb.up hb1).cell 3
     obtain ⟨cs0, cs1⟩ := (Hs.up hb1).c2
     simp only [frameOf, fill, sg, Nat.reduceBEq, if_true, if_false, Nat.reduceAdd, Nat.reduceEqDiff] at hK ⊢
     go_wp2_with (go_at_call 135; refine (meet_any _ _ _ _ _).mono ?_; rintro e w' ⟨rfl, hb2⟩)
     exact hK _ _ (Below.refl _ _) rfl
    ·intro x w1 hb1 hx K hK
     have e15 : x 15 = .agg #[.int .i64 b2, .int .i64 b3] := hx 15 (by rfl)
     have e16 : x 16 = .agg #[.int .i64 o2, .int .i64 o3] := hx 16 (by rfl)
     clear hx hKc
     have cb2 : w1.cell? ⟨w.heap.size, 2, none⟩ = some (.int .i64 b2) := (Hb.up hb1).cell 2
     have cb3 : w1.cell? ⟨w.heap.size, 3, none⟩ = some (.int .i64 b3) := (Hb.up hb1).cell 3
     obtain ⟨cs0, cs1⟩ := (Hs.up hb1).c2
     simp only [frameOf, fill, sg, Nat.reduceBEq, if_true, if_false, Nat.reduceAdd, Nat.reduceEqDiff] at hK ⊢
     simp only [e15, e16] at hK ⊢
     clear e15 e16
     go_wp2_with (go_at_call 135; refine (meet_any _ _ _ _ _).mono ?_; rintro e w' ⟨rfl, hb2⟩)
     exact hK _ _ hb2 rfl
    ·intro x w1 hb1 hx K hK
     have e12 : x 12 = .int .i64 1 := hx 12 (by rfl)
     clear hx hKc
     have cb2 : w1.cell? ⟨w.heap.size, 2, none⟩ = some (.int .i64 b2) := (Hb.up hb1).cell 2
     have cb3 : w1.cell? ⟨w.heap.size, 3, none⟩ = some (.int .i64 b3) := (Hb.up hb1).cell 3
     obtain ⟨cs0, cs1⟩ := (Hs.up hb1).c2
     simp only [frameOf, fill, sg, Nat.reduceBEq, if_true, if_false, Nat.reduceAdd, Nat.reduceEqDiff] at hK ⊢
     simp only [e12] at hK ⊢
     clear e12
     go_wp2_with (go_at_call 135; refine (meet_any _ _ _ _ _).mono ?_; rintro e w' ⟨rfl, hb2⟩)
     exact hK _ _ (Below.refl _ _) rfl
   ·intro x w1 hb1 hx
    have e12 : x 12 = .int .i64 1 := hx 12 (by decide)
    have e13 : x 13 = .int .i64 1 := hx 13 (by decide)
    have e14 : x 14 = .pointer (some ⟨w.heap.size, 2, none⟩) := hx 14 (by decide)
    have e15 : x 15 = .agg #[.int .i64 b2, .int .i64 b3] := hx 15 (by decide)
    have e16 : x 16 = .agg #[.int .i64 o2, .int .i64 o3] := hx 16 (by decide)
    have e17 : x 17 = .agg #[.int .i64 (mLo b2 b3 o2 o3), .int .i64 (mHi b2 b3 o2 o3)] := hx 17 (by decide)
    have e18 : x 18 = .pointer (some ⟨w.heap.size, 2, none⟩) := hx 18 (by decide)
    clear hx
    have cb2 : w1.cell? ⟨w.heap.size, 2, none⟩ = some (.int .i64 b2) := (Hb.up hb1).cell 2
    have cb3 : w1.cell? ⟨w.heap.size, 3, none⟩ = some (.int .i64 b3) := (Hb.up hb1).cell 3
    obtain ⟨cs0, cs1⟩ := (Hs.up hb1).c2
    simp only [frameOf, fill, List.contains_cons, List.contains_nil, Nat.reduceBEq, Bool.or_false, Bool.false_or, Bool.or_true, Bool.true_or, if_true, if_false, Bool.false_eq_true, Nat.reduceAdd, Nat.zero_add]
    simp only [e12, e13, e14, e15, e16, e17, e18]
    clear e12 e13 e14 e15 e16 e17 e18
    have hB2 : Below w.heap.size w w1 := hB1.trans (hb1.mono (by omega))
    have hs1 := hb1.size
    have Hb1 := Hb.up hb1
    have Ho1 := Ho.up hb1
    have Hr1 := Hr.up hb1
    have cb0 : w1.cell? ⟨w.heap.size, 2, none⟩ = some (.int .i64 b2) := Hb1.cell 2
    have cb1 : w1.cell? ⟨w.heap.size, 3, none⟩ = some (.int .i64 b3) := Hb1.cell 3
    have zb0 := Hb1.frozen 2
    have zb1 := Hb1.frozen 3
    clear Hb Ho Hr Hs
    go_wp2_with fail
    go_roundw
    case rel => exact ⟨zg, by simp; omega, zp0, zp0, .inr (.inr (.inl ⟨rfl, zp0⟩))⟩
    case measure => simp [intOf]
  ·go_wp2_with fail
   refine wp_world (fun W => Below w.heap.size w W ∧ wr.heap.size + 1 ≤ W.heap.size ∧ Holds W (w.heap.size) 153 #[.int .i64 (mLo b0 b1 o0 o1), .int .i64 (mHi b0 b1 o0 o1), .int .i64 (mLo b2 b3 o2 o3), .int .i64 (mHi b2 b3 o2 o3), .int .i64 b4, .int .i64 b5, .int .i64 b6, .int .i64 b7] ∧ Holds W (w.heap.size + 1) 153 #[.int .i64 o0, .int .i64 o1, .int .i64 o2, .int .i64 o3, .int .i64 o4, .int .i64 o5, .int .i64 o6, .int .i64 o7] ∧ Holds W (w.heap.size + 1 + 1) 153 #[.int .i64 0, .int .i64 0, .int .i64 0, .int .i64 0, .int .i64 0, .int .i64 0, .int .i64 0, .int .i64 0] ∧ Holds W (wr.heap.size) 60 #[.int .i64 o4, .int .i64 o5] ∧ True) ?_ ?_
   ·exact ⟨zg, (by simp), zp0, zp0, zp0, zp0, trivial⟩
   rintro W ⟨hB1, hS1, Hb, Ho, Hr, Hs, -⟩
   rename_i Kc hKc
   refine wp_region_parts (by kernel_rfl) 7 [12, 13, 14, 15, 16, 17, 18] (fun t v w' => match t with
    | 12 => v = .int .i64 2
    | 13 => v = .int .i64 2
    | 14 => v = .pointer (some ⟨w.heap.size, 4, none⟩)
    | 15 => v = .agg #[.int .i64 b4, .int .i64 b5]
    | 16 => v = .agg #[.int .i64 o4, .int .i64 o5]
    | 17 => v = .agg #[.int .i64 (mLo b4 b5 o4 o5), .int .i64 (mHi b4 b5 o4 o5)]
    | 18 => v = .pointer (some ⟨w.heap.size, 4, none⟩)
    | _ => True) (by kernel_rfl) ?_ ?_ ?_
   ·intro t v w1 w2 hb' h
    revert h
    split <;> intro h <;> first
     | exact h
   ·refine ⟨?_, ?_, ?_, ?_, ?_, ?_, ?_, trivial⟩
    ·intro x w1 hb1 hx K hK
     clear hx hKc
     have cb4 : w1.cell? ⟨w.heap.size, 4, none⟩ = some (.int .i64 b4) := (Hb.up hb1).cell 4
     have cb5 : w1.cell? ⟨w.heap.size, 5, none⟩ = some (.int .i64 b5) := (Hb.up hb1).cell 5
     obtain ⟨cs0, cs1⟩ := (Hs.up hb1).c2
     simp only [frameOf, fill, sg, Nat.reduceBEq, if_true, if_false, Nat.reduceAdd, Nat.reduceEqDiff] at hK ⊢
     go_wp2_with (go_at_call 135; refine (meet_any _ _ _ _ _).mono ?_; rintro e w' ⟨rfl, hb2⟩)
     exact hK _ _ (Below.refl _ _) rfl
    ·intro x w1 hb1 hx K hK
     clear hx hKc
     have cb4 : w1.cell? ⟨w.heap.size, 4, none⟩ = some (.int .i64 b4) := (Hb.up hb1).cell 4
     have cb5 : w1.cell? ⟨w.heap.size, 5, none⟩ = some (.int .i64 b5) := (Hb.up hb1).cell 5
     obtain ⟨cs0, cs1⟩ := (Hs.up hb1).c2
     simp only [frameOf, fill, sg, Nat.reduceBEq, if_true, if_false, Nat.reduceAdd, Nat.reduceEqDiff] at hK ⊢
     go_wp2_with (go_at_call 135; refine (meet_any _ _ _ _ _).mono ?_; rintro e w' ⟨rfl, hb2⟩)
     exact hK _ _ (Below.refl _ _) rfl
    ·intro x w1 hb1 hx K hK
     have e13 : x 13 = .int .i64 2 := hx 13 (by rfl)
     clear hx hKc
     have cb4 : w1.cell? ⟨w.heap.size, 4, none⟩ = some (.int .i64 b4) := (Hb.up hb1).cell 4
     have cb5 : w1.cell? ⟨w.heap.size, 5, none⟩ = some (.int .i64 b5) := (Hb.up hb1).cell 5
     obtain ⟨cs0, cs1⟩ := (Hs.up hb1).c2
     simp only [frameOf, fill, sg, Nat.reduceBEq, if_true, if_false, Nat.reduceAdd, Nat.reduceEqDiff] at hK ⊢
     simp only [e13] at hK ⊢
     clear e13
     go_wp2_with (go_at_call 135; refine (meet_any _ _ _ _ _).mono ?_; rintro e w' ⟨rfl, hb2⟩)
     exact hK _ _ (Below.refl _ _) rfl
    ·intro x w1 hb1 hx K hK
     have e14 : x 14 = .pointer (some ⟨w.heap.size, 4, none⟩) := hx 14 (by rfl)
     clear hx hKc
     have cb4 : w1.cell? ⟨w.heap.size, 4, none⟩ = some (.int .i64 b4) := (Hb.up hb1).cell 4
     have cb5 : w1.cell? ⟨w.heap.size, 5, none⟩ = some (.int .i64 b5) := (Hb.up hb1).cell 5
     obtain ⟨cs0, cs1⟩ := (Hs.up hb1).c2
     simp only [frameOf, fill, sg, Nat.reduceBEq, if_true, if_false, Nat.reduceAdd, Nat.reduceEqDiff] at hK ⊢
     simp only [e14] at hK ⊢
     clear e14
     go_wp2_with (go_at_call 135; refine (meet_any _ _ _ _ _).mono ?_; rintro e w' ⟨rfl, hb2⟩)
     exact hK _ _ (Below.refl _ _) rfl
    ·intro x w1 hb1 hx K hK
     clear hx hKc
     have cb4 : w1.cell? ⟨w.heap.size, 4, none⟩ = some (.int .i64 b4) := (Hb.up hb1).cell 4
     have cb5 : w1.cell? ⟨w.heap.size, 5, none⟩ = some (.int .i64 b5) := (Hb.up hb1).cell 5
     obtain ⟨cs0, cs1⟩ := (Hs.up hb1).c2
     simp only [frameOf, fill, sg, Nat.reduceBEq, if_true, if_false, Nat.reduceAdd, Nat.reduceEqDiff] at hK ⊢
     go_wp2_with (go_at_call 135; refine (meet_any _ _ _ _ _).mono ?_; rintro e w' ⟨rfl, hb2⟩)
     exact hK _ _ (Below.refl _ _) rfl
    ·intro x w1 hb1 hx K hK
     have e15 : x 15 = .agg #[.int .i64 b4, .int .i64 b5] := hx 15 (by rfl)
     have e16 : x 16 = .agg #[.int .i64 o4, .int .i64 o5] := hx 16 (by rfl)
     clear hx hKc
     have cb4 : w1.cell? ⟨w.heap.size, 4, none⟩ = some (.int .i64 b4) := (Hb.up hb1).cell 4
     have cb5 : w1.cell? ⟨w.heap.size, 5, none⟩ = some (.int .i64 b5) := (Hb.up hb1).cell 5
     obtain ⟨cs0, cs1⟩ := (Hs.up hb1).c2
     simp only [frameOf, fill, sg, Nat.reduceBEq, if_true, if_false, Nat.reduceAdd, Nat.reduceEqDiff] at hK ⊢
     simp only [e15, e16] at hK ⊢
     clear e15 e16
     go_wp2_with (go_at_call 135; refine (meet_any _ _ _ _ _).mono ?_; rintro e w' ⟨rfl, hb2⟩)
     exact hK _ _ hb2 rfl
    ·intro x w1 hb1 hx K hK
     have e12 : x 12 = .int .i64 2 := hx 12 (by rfl)
     clear hx hKc
     have cb4 : w1.cell? ⟨w.heap.size, 4, none⟩ = some (.int .i64 b4) := (Hb.up hb1).cell 4
     have cb5 : w1.cell? ⟨w.heap.size, 5, none⟩ = some (.int .i64 b5) := (Hb.up hb1).cell 5
     obtain ⟨cs0, cs1⟩ := (Hs.up hb1).c2
     simp only [frameOf, fill, sg, Nat.reduceBEq, if_true, if_false, Nat.reduceAdd, Nat.reduceEqDiff] at hK ⊢
     simp only [e12] at hK ⊢
     clear e12
     go_wp2_with (go_at_call 135; refine (meet_any _ _ _ _ _).mono ?_; rintro e w' ⟨rfl, hb2⟩)
     exact hK _ _ (Below.refl _ _) rfl
   ·intro x w1 hb1 hx
    have e12 : x 12 = .int .i64 2 := hx 12 (by decide)
    have e13 : x 13 = .int .i64 2 := hx 13 (by decide)
    have e14 : x 14 = .pointer (some ⟨w.heap.size, 4, none⟩) := hx 14 (by decide)
    have e15 : x 15 = .agg #[.int .i64 b4, .int .i64 b5] := hx 15 (by decide)
    have e16 : x 16 = .agg #[.int .i64 o4, .int .i64 o5] := hx 16 (by decide)
    have e17 : x 17 = .agg #[.int .i64 (mLo b4 b5 o4 o5), .int .i64 (mHi b4 b5 o4 o5)] := hx 17 (by decide)
    have e18 : x 18 = .pointer (some ⟨w.heap.size, 4, none⟩) := hx 18 (by decide)
    clear hx
    have cb4 : w1.cell? ⟨w.heap.size, 4, none⟩ = some (.int .i64 b4) := (Hb.up hb1).cell 4
    have cb5 : w1.cell? ⟨w.heap.size, 5, none⟩ = some (.int .i64 b5) := (Hb.up hb1).cell 5
    obtain ⟨cs0, cs1⟩ := (Hs.up hb1).c2
    simp only [frameOf, fill, List.contains_cons, List.contains_nil, Nat.reduceBEq, Bool.or_false, Bool.false_or, Bool.or_true, Bool.true_or, if_true, if_false, Bool.false_eq_true, Nat.reduceAdd, Nat.zero_add]
    simp only [e12, e13, e14, e15, e16, e17, e18]
    clear e12 e13 e14 e15 e16 e17 e18
    have hB2 : Below w.heap.size w w1 := hB1.trans (hb1.mono (by omega))
    have hs1 := hb1.size
    have Hb1 := Hb.up hb1
    have Ho1 := Ho.up hb1
    have Hr1 := Hr.up hb1
    have cb0 : w1.cell? ⟨w.heap.size, 4, none⟩ = some (.int .i64 b4) := Hb1.cell 4
    have cb1 : w1.cell? ⟨w.heap.size, 5, none⟩ = some (.int .i64 b5) := Hb1.cell 5
    have zb0 := Hb1.frozen 4
    have zb1 := Hb1.frozen 5
    clear Hb Ho Hr Hs
    go_wp2_with fail
    go_roundw
    case rel => exact ⟨zg, by simp; omega, zp0, zp0, .inr (.inr (.inr (.inl ⟨rfl, zp0⟩)))⟩
    case measure => simp [intOf]
  ·go_wp2_with fail
   refine wp_world (fun W => Below w.heap.size w W ∧ wr.heap.size + 1 ≤ W.heap.size ∧ Holds W (w.heap.size) 153 #[.int .i64 (mLo b0 b1 o0 o1), .int .i64 (mHi b0 b1 o0 o1), .int .i64 (mLo b2 b3 o2 o3), .int .i64 (mHi b2 b3 o2 o3), .int .i64 (mLo b4 b5 o4 o5), .int .i64 (mHi b4 b5 o4 o5), .int .i64 b6, .int .i64 b7] ∧ Holds W (w.heap.size + 1) 153 #[.int .i64 o0, .int .i64 o1, .int .i64 o2, .int .i64 o3, .int .i64 o4, .int .i64 o5, .int .i64 o6, .int .i64 o7] ∧ Holds W (w.heap.size + 1 + 1) 153 #[.int .i64 0, .int .i64 0, .int .i64 0, .int .i64 0, .int .i64 0, .int .i64 0, .int .i64 0, .int .i64 0] ∧ Holds W (wr.heap.size) 60 #[.int .i64 o6, .int .i64 o7] ∧ True) ?_ ?_
   ·exact ⟨zg, (by simp), zp0, zp0, zp0, zp0, trivial⟩
   rintro W ⟨hB1, hS1, Hb, Ho, Hr, Hs, -⟩
   rename_i Kc hKc
   refine wp_region_parts (by kernel_rfl) 7 [12, 13, 14, 15, 16, 17, 18] (fun t v w' => match t with
    | 12 => v = .int .i64 3
    | 13 => v = .int .i64 3
    | 14 => v = .pointer (some ⟨w.heap.size, 6, none⟩)
    | 15 => v = .agg #[.int .i64 b6, .int .i64 b7]
    | 16 => v = .agg #[.int .i64 o6, .int .i64 o7]
    | 17 => v = .agg #[.int .i64 (mLo b6 b7 o6 o7), .int .i64 (mHi b6 b7 o6 o7)]
    | 18 => v = .pointer (some ⟨w.heap.size, 6, none⟩)
    | _ => True) (by kernel_rfl) ?_ ?_ ?_
   ·intro t v w1 w2 hb' h
    revert h
    split <;> intro h <;> first
     | exact h
   ·refine ⟨?_, ?_, ?_, ?_, ?_, ?_, ?_, trivial⟩
    ·intro x w1 hb1 hx K hK
     clear hx hKc
     have cb6 : w1.cell? ⟨w.heap.size, 6, none⟩ = some (.int .i64 b6) := (Hb.up hb1).cell 6
     have cb7 : w1.cell? ⟨w.heap.size, 7, none⟩ = some (.int .i64 b7) := (Hb.up hb1).cell 7
     obtain ⟨cs0, cs1⟩ := (Hs.up hb1).c2
     simp only [frameOf, fill, sg, Nat.reduceBEq, if_true, if_false, Nat.reduceAdd, Nat.reduceEqDiff] at hK ⊢
     go_wp2_with (go_at_call 135; refine (meet_any _ _ _ _ _).mono ?_; rintro e w' ⟨rfl, hb2⟩)
     exact hK _ _ (Below.refl _ _) rfl
    ·intro x w1 hb1 hx K hK
     clear hx hKc
     have cb6 : w1.cell? ⟨w.heap.size, 6, none⟩ = some (.int .i64 b6) := (Hb.up hb1).cell 6
     have cb7 : w1.cell? ⟨w.heap.size, 7, none⟩ = some (.int .i64 b7) := (Hb.up hb1).cell 7
     obtain ⟨cs0, cs1⟩ := (Hs.up hb1).c2
     simp only [frameOf, fill, sg, Nat.reduceBEq, if_true, if_false, Nat.reduceAdd, Nat.reduceEqDiff] at hK ⊢
     go_wp2_with (go_at_call 135; refine (meet_any _ _ _ _ _).mono ?_; rintro e w' ⟨rfl, hb2⟩)
     exact hK _ _ (Below.refl _ _) rfl
    ·intro x w1 hb1 hx K hK
     have e13 : x 13 = .int .i64 3 := hx 13 (by rfl)
     clear hx hKc
     have cb6 : w1.cell? ⟨w.heap.size, 6, none⟩ = some (.int .i64 b6) := (Hb.up hb1).cell 6
     have cb7 : w1.cell? ⟨w.heap.size, 7, none⟩ = some (.int .i64 b7) := (Hb.up hb1).cell 7
     obtain ⟨cs0, cs1⟩ := (Hs.up hb1).c2
     simp only [frameOf, fill, sg, Nat.reduceBEq, if_true, if_false, Nat.reduceAdd, Nat.reduceEqDiff] at hK ⊢
     simp only [e13] at hK ⊢
     clear e13
     go_wp2_with (go_at_call 135; refine (meet_any _ _ _ _ _).mono ?_; rintro e w' ⟨rfl, hb2⟩)
     exact hK _ _ (Below.refl _ _) rfl
    ·intro x w1 hb1 hx K hK
     have e14 : x 14 = .pointer (some ⟨w.heap.size, 6, none⟩) := hx 14 (by rfl)
     clear hx hKc
     have cb6 : w1.cell? ⟨w.heap.size, 6, none⟩ = some (.int .i64 b6) := (Hb.up hb1).cell 6
     have cb7 : w1.cell? ⟨w.heap.size, 7, none⟩ = some (.int .i64 b7) := (Hb.up hb1).cell 7
     obtain ⟨cs0, cs1⟩ := (Hs.up hb1).c2
     simp only [frameOf, fill, sg, Nat.reduceBEq, if_true, if_false, Nat.reduceAdd, Nat.reduceEqDiff] at hK ⊢
     simp only [e14] at hK ⊢
     clear e14
     go_wp2_with (go_at_call 135; refine (meet_any _ _ _ _ _).mono ?_; rintro e w' ⟨rfl, hb2⟩)
     exact hK _ _ (Below.refl _ _) rfl
    ·intro x w1 hb1 hx K hK
     clear hx hKc
     have cb6 : w1.cell? ⟨w.heap.size, 6, none⟩ = some (.int .i64 b6) := (Hb.up hb1).cell 6
     have cb7 : w1.cell? ⟨w.heap.size, 7, none⟩ = some (.int .i64 b7) := (Hb.up hb1).cell 7
     obtain ⟨cs0, cs1⟩ := (Hs.up hb1).c2
     simp only [frameOf, fill, sg, Nat.reduceBEq, if_true, if_false, Nat.reduceAdd, Nat.reduceEqDiff] at hK ⊢
     go_wp2_with (go_at_call 135; refine (meet_any _ _ _ _ _).mono ?_; rintro e w' ⟨rfl, hb2⟩)
     exact hK _ _ (Below.refl _ _) rfl
    ·intro x w1 hb1 hx K hK
     have e15 : x 15 = .agg #[.int .i64 b6, .int .i64 b7] := hx 15 (by rfl)
     have e16 : x 16 = .agg #[.int .i64 o6, .int .i64 o7] := hx 16 (by rfl)
     clear hx hKc
     have cb6 : w1.cell? ⟨w.heap.size, 6, none⟩ = some (.int .i64 b6) := (Hb.up hb1).cell 6
     have cb7 : w1.cell? ⟨w.heap.size, 7, none⟩ = some (.int .i64 b7) := (Hb.up hb1).cell 7
     obtain ⟨cs0, cs1⟩ := (Hs.up hb1).c2
     simp only [frameOf, fill, sg, Nat.reduceBEq, if_true, if_false, Nat.reduceAdd, Nat.reduceEqDiff] at hK ⊢
     simp only [e15, e16] at hK ⊢
     clear e15 e16
     go_wp2_with (go_at_call 135; refine (meet_any _ _ _ _ _).mono ?_; rintro e w' ⟨rfl, hb2⟩)
     exact hK _ _ hb2 rfl
    ·intro x w1 hb1 hx K hK
     have e12 : x 12 = .int .i64 3 := hx 12 (by rfl)
     clear hx hKc
     have cb6 : w1.cell? ⟨w.heap.size, 6, none⟩ = some (.int .i64 b6) := (Hb.up hb1).cell 6
     have cb7 : w1.cell? ⟨w.heap.size, 7, none⟩ = some (.int .i64 b7) := (Hb.up hb1).cell 7
     obtain ⟨cs0, cs1⟩ := (Hs.up hb1).c2
     simp only [frameOf, fill, sg, Nat.reduceBEq, if_true, if_false, Nat.reduceAdd, Nat.reduceEqDiff] at hK ⊢
     simp only [e12] at hK ⊢
     clear e12
     go_wp2_with (go_at_call 135; refine (meet_any _ _ _ _ _).mono ?_; rintro e w' ⟨rfl, hb2⟩)
     exact hK _ _ (Below.refl _ _) rfl
   ·intro x w1 hb1 hx
    have e12 : x 12 = .int .i64 3 := hx 12 (by decide)
    have e13 : x 13 = .int .i64 3 := hx 13 (by decide)
    have e14 : x 14 = .pointer (some ⟨w.heap.size, 6, none⟩) := hx 14 (by decide)
    have e15 : x 15 = .agg #[.int .i64 b6, .int .i64 b7] := hx 15 (by decide)
    have e16 : x 16 = .agg #[.int .i64 o6, .int .i64 o7] := hx 16 (by decide)
    have e17 : x 17 = .agg #[.int .i64 (mLo b6 b7 o6 o7), .int .i64 (mHi b6 b7 o6 o7)] := hx 17 (by decide)
    have e18 : x 18 = .pointer (some ⟨w.heap.size, 6, none⟩) := hx 18 (by decide)
    clear hx
    have cb6 : w1.cell? ⟨w.heap.size, 6, none⟩ = some (.int .i64 b6) := (Hb.up hb1).cell 6
    have cb7 : w1.cell? ⟨w.heap.size, 7, none⟩ = some (.int .i64 b7) := (Hb.up hb1).cell 7
    obtain ⟨cs0, cs1⟩ := (Hs.up hb1).c2
    simp only [frameOf, fill, List.contains_cons, List.contains_nil, Nat.reduceBEq, Bool.or_false, Bool.false_or, Bool.or_true, Bool.true_or, if_true, if_false, Bool.false_eq_true, Nat.reduceAdd, Nat.zero_add]
    simp only [e12, e13, e14, e15, e16, e17, e18]
    clear e12 e13 e14 e15 e16 e17 e18
    have hB2 : Below w.heap.size w w1 := hB1.trans (hb1.mono (by omega))
    have hs1 := hb1.size
    have Hb1 := Hb.up hb1
    have Ho1 := Ho.up hb1
    have Hr1 := Hr.up hb1
    have cb0 : w1.cell? ⟨w.heap.size, 6, none⟩ = some (.int .i64 b6) := Hb1.cell 6
    have cb1 : w1.cell? ⟨w.heap.size, 7, none⟩ = some (.int .i64 b7) := Hb1.cell 7
    have zb0 := Hb1.frozen 6
    have zb1 := Hb1.frozen 7
    clear Hb Ho Hr Hs
    go_wp2_with fail
    go_roundw
    case rel => exact ⟨zg, by simp; omega, zp0, zp0, .inr (.inr (.inr (.inr (⟨rfl, zp0⟩))))⟩
    case measure => simp [intOf]
  ·have cb0 : wr.cell? ⟨w.heap.size, 0, none⟩ = some (.int .i64 (mLo b0 b1 o0 o1)) := Hb.cell 0
   have cb1 : wr.cell? ⟨w.heap.size, 1, none⟩ = some (.int .i64 (mHi b0 b1 o0 o1)) := Hb.cell 1
   have cb2 : wr.cell? ⟨w.heap.size, 2, none⟩ = some (.int .i64 (mLo b2 b3 o2 o3)) := Hb.cell 2
   have cb3 : wr.cell? ⟨w.heap.size, 3, none⟩ = some (.int .i64 (mHi b2 b3 o2 o3)) := Hb.cell 3
   have cb4 : wr.cell? ⟨w.heap.size, 4, none⟩ = some (.int .i64 (mLo b4 b5 o4 o5)) := Hb.cell 4
   have cb5 : wr.cell? ⟨w.heap.size, 5, none⟩ = some (.int .i64 (mHi b4 b5 o4 o5)) := Hb.cell 5
   have cb6 : wr.cell? ⟨w.heap.size, 6, none⟩ = some (.int .i64 (mLo b6 b7 o6 o7)) := Hb.cell 6
   have cb7 : wr.cell? ⟨w.heap.size, 7, none⟩ = some (.int .i64 (mHi b6 b7 o6 o7)) := Hb.cell 7
   obtain ⟨cr0, cr1, cr2, cr3, cr4, cr5, cr6, cr7⟩ := Hr.c8
   obtain ⟨zr0, zr1, zr2, zr3, zr4, zr5, zr6, zr7⟩ := Hr.f8
   go_wp2_with fail
   refine ret_cell (t := 153) rfl rfl ?_ Try.underlying153 rfl (by kernel_rfl) rfl ⟨rfl, zg⟩
   exact Hr.set8 _ _ _ _ _ _ _ _
end Go.Proofs.Ytifffonoipapgaa
