import Derived.Laws.BitsLemmas
import Derived.Laws.AppendOwn
import Derived.Test.YtdpgfaikmahmpaaGAA
import Derived.Test.YtdpgfaikmahmpaaGAC
import Derived.Test.YtdpgfaikmahmpaaGBI
set_option linter.unusedSimpArgs false
set_option linter.unusedVariables false
namespace Go.Proofs.Ytdpgfaikmahmpaa
open Go.RowKit
set_option maxRecDepth 100000 in
set_option maxHeartbeats 1000000 in
theorem handful_zero_none (S : Nat) (c tk : Nat) (m : Int) (w : World) (hS : Holds w S 172 #[.slice none 0 c, .int .i64 (tk : Int), .int .u32 m]) (ht : tk ≤ 1000000) :
  Calls Try.prog 129 #[.pointer (some ⟨S, 0, none⟩)] w (Drawn w S none 0 c tk) := by
 obtain ⟨c0, c1⟩ := hS.c2
 have z1 := hS.frozen 1
 go_enter Try.func129, Try.ntmps129
 go_wp2_with fail
 refine wp_world (fun W => w.grownBy W (some S) ∧ Holds W S 172 #[.slice none 0 c, .int .i64 ((tk : Int) + 1), .int .u32 m]) ⟨only_set (only_below S (Below.refl _ _)) 1 _, hS.setL 1 _⟩ ?_
 rintro W5 ⟨g5, H5⟩
 by_cases hlt : (0 : Int) < (tk : Int) + 1
 ·rename_i Kc hKc
  refine wp_region_parts (by kernel_rfl) 10 [40, 41, 42, 43, 44, 45, 46, 47, 48, 49] (fun t v w' => match t with
   | 40 => v = .pointer (some ⟨S, 0, none⟩)
   | 41 => v = .pointer (some ⟨S, 0, none⟩)
   | 42 => v = .pointer (some ⟨S, 1, none⟩)
   | 43 => v = .int .i64 ((tk : Int) + 1)
   | 44 => v = .pointer (some ⟨S, 0, none⟩)
   | 45 => v = .pointer (some ⟨S, 0, none⟩)
   | 46 => v = .pointer (some ⟨S, 0, none⟩)
   | 47 => v = .slice none 0 c
   | 48 => v = .int .i64 (0 : Int)
   | 49 => v = .bool true
   | _ => True) (by kernel_rfl) ?_ ?_ ?_
  ·intro t v w1 w2 hb' h
   revert h
   split <;> intro h <;> first
    | exact h
  ·refine ⟨?_, ?_, ?_, ?_, ?_, ?_, ?_, ?_, ?_, ?_, trivial⟩
   ·intro x w1 hb1 hx K hK
    clear hx hKc
    have k0 : w1.cell? ⟨S, 0, none⟩ = some (.slice none 0 c) := (H5.up hb1).cell 0
    have k1 : w1.cell? ⟨S, 1, none⟩ = some (.int .i64 ((tk : Int) + 1)) := (H5.up hb1).cell 1
    simp only [frameOf, fill, sg, Nat.reduceBEq, if_true, if_false, Nat.reduceAdd, Nat.reduceEqDiff] at hK ⊢
    go_wp2_with (fail)
    exact hK _ _ (Below.refl _ _) rfl
   ·intro x w1 hb1 hx K hK
    have e40 : x 40 = .pointer (some ⟨S, 0, none⟩) := hx 40 (by rfl)
    clear hx hKc
    have k0 : w1.cell? ⟨S, 0, none⟩ = some (.slice none 0 c) := (H5.up hb1).cell 0
    have k1 : w1.cell? ⟨S, 1, none⟩ = some (.int .i64 ((tk : Int) + 1)) := (H5.up hb1).cell 1
    simp only [frameOf, fill, sg, Nat.reduceBEq, if_true, if_false, Nat.reduceAdd, Nat.reduceEqDiff] at hK ⊢
    simp only [e40] at hK ⊢
    clear e40
    go_wp2_with (fail)
    exact hK _ _ (Below.refl _ _) rfl
   ·intro x w1 hb1 hx K hK
    have e41 : x 41 = .pointer (some ⟨S, 0, none⟩) := hx 41 (by rfl)
    clear hx hKc
    have k0 : w1.cell? ⟨S, 0, none⟩ = some (.slice none 0 c) := (H5.up hb1).cell 0
    have k1 : w1.cell? ⟨S, 1, none⟩ = some (.int .i64 ((tk : Int) + 1)) := (H5.up hb1).cell 1
    simp only [frameOf, fill, sg, Nat.reduceBEq, if_true, if_false, Nat.reduceAdd, Nat.reduceEqDiff] at hK ⊢
    simp only [e41] at hK ⊢
    clear e41
    go_wp2_with (fail)
    exact hK _ _ (Below.refl _ _) rfl
   ·intro x w1 hb1 hx K hK
    have e42 : x 42 = .pointer (some ⟨S, 1, none⟩) := hx 42 (by rfl)
    clear hx hKc
    have k0 : w1.cell? ⟨S, 0, none⟩ = some (.slice none 0 c) := (H5.up hb1).cell 0
    have k1 : w1.cell? ⟨S, 1, none⟩ = some (.int .i64 ((tk : Int) + 1)) := (H5.up hb1).cell 1
    simp only [frameOf, fill, sg, Nat.reduceBEq, if_true, if_false, Nat.reduceAdd, Nat.reduceEqDiff] at hK ⊢
    simp only [e42] at hK ⊢
    clear e42
    go_wp2_with (fail)
    exact hK _ _ (Below.refl _ _) rfl
   ·intro x w1 hb1 hx K hK
    clear hx hKc
    have k0 : w1.cell? ⟨S, 0, none⟩ = some (.slice none 0 c) := (H5.up hb1).cell 0
    have k1 : w1.cell? ⟨S, 1, none⟩ = some (.int .i64 ((tk : Int) + 1)) := (H5.up hb1).cell 1
    simp only [frameOf, fill, sg, Nat.reduceBEq, if_true, if_false, Nat.reduceAdd, Nat.reduceEqDiff] at hK ⊢
    go_wp2_with (fail)
    exact hK _ _ (Below.refl _ _) rfl
   ·intro x w1 hb1 hx K hK
    have e44 : x 44 = .pointer (some ⟨S, 0, none⟩) := hx 44 (by rfl)
    clear hx hKc
    have k0 : w1.cell? ⟨S, 0, none⟩ = some (.slice none 0 c) := (H5.up hb1).cell 0
    have k1 : w1.cell? ⟨S, 1, none⟩ = some (.int .i64 ((tk : Int) + 1)) := (H5.up hb1).cell 1
    simp only [frameOf, fill, sg, Nat.reduceBEq, if_true, if_false, Nat.reduceAdd, Nat.reduceEqDiff] at hK ⊢
    simp only [e44] at hK ⊢
    clear e44
    go_wp2_with (fail)
    exact hK _ _ (Below.refl _ _) rfl
   ·intro x w1 hb1 hx K hK
    have e45 : x 45 = .pointer (some ⟨S, 0, none⟩) := hx 45 (by rfl)
    clear hx hKc
    have k0 : w1.cell? ⟨S, 0, none⟩ = some (.slice none 0 c) := (H5.up hb1).cell 0
    have k1 : w1.cell? ⟨S, 1, none⟩ = some (.int .i64 ((tk : Int) + 1)) := (H5.up hb1).cell 1
    simp only [frameOf, fill, sg, Nat.reduceBEq, if_true, if_false, Nat.reduceAdd, Nat.reduceEqDiff] at hK ⊢
    simp only [e45] at hK ⊢
    clear e45
    go_wp2_with (fail)
    exact hK _ _ (Below.refl _ _) rfl
   ·intro x w1 hb1 hx K hK
    have e46 : x 46 = .pointer (some ⟨S, 0, none⟩) := hx 46 (by rfl)
    clear hx hKc
    have k0 : w1.cell? ⟨S, 0, none⟩ = some (.slice none 0 c) := (H5.up hb1).cell 0
    have k1 : w1.cell? ⟨S, 1, none⟩ = some (.int .i64 ((tk : Int) + 1)) := (H5.up hb1).cell 1
    simp only [frameOf, fill, sg, Nat.reduceBEq, if_true, if_false, Nat.reduceAdd, Nat.reduceEqDiff] at hK ⊢
    simp only [e46] at hK ⊢
    clear e46
    go_wp2_with (fail)
    exact hK _ _ (Below.refl _ _) rfl
   ·intro x w1 hb1 hx K hK
    have e47 : x 47 = .slice none 0 c := hx 47 (by rfl)
    clear hx hKc
    have k0 : w1.cell? ⟨S, 0, none⟩ = some (.slice none 0 c) := (H5.up hb1).cell 0
    have k1 : w1.cell? ⟨S, 1, none⟩ = some (.int .i64 ((tk : Int) + 1)) := (H5.up hb1).cell 1
    simp only [frameOf, fill, sg, Nat.reduceBEq, if_true, if_false, Nat.reduceAdd, Nat.reduceEqDiff] at hK ⊢
    simp only [e47] at hK ⊢
    clear e47
    go_wp2_with (fail)
    exact hK _ _ (Below.refl _ _) rfl
   ·intro x w1 hb1 hx K hK
    have e43 : x 43 = .int .i64 ((tk : Int) + 1) := hx 43 (by rfl)
    have e48 : x 48 = .int .i64 (0 : Int) := hx 48 (by rfl)
    clear hx hKc
    have k0 : w1.cell? ⟨S, 0, none⟩ = some (.slice none 0 c) := (H5.up hb1).cell 0
    have k1 : w1.cell? ⟨S, 1, none⟩ = some (.int .i64 ((tk : Int) + 1)) := (H5.up hb1).cell 1
    simp only [frameOf, fill, sg, Nat.reduceBEq, if_true, if_false, Nat.reduceAdd, Nat.reduceEqDiff] at hK ⊢
    simp only [e43, e48] at hK ⊢
    clear e43 e48
    go_wp2_with (fail)
    first | exact hK _ _ (Below.refl _ _) rfl | exact hK _ _ (Below.refl _ _) (by simp; omega)
  ·intro x w1 hb1 hx
   have e40 : x 40 = .pointer (some ⟨S, 0, none⟩) := hx 40 (by decide)
   have e41 : x 41 = .pointer (some ⟨S, 0, none⟩) := hx 41 (by decide)
   have e42 : x 42 = .pointer (some ⟨S, 1, none⟩) := hx 42 (by decide)
   have e43 : x 43 = .int .i64 ((tk : Int) + 1) := hx 43 (by decide)
   have e44 : x 44 = .pointer (some ⟨S, 0, none⟩) := hx 44 (by decide)
   have e45 : x 45 = .pointer (some ⟨S, 0, none⟩) := hx 45 (by decide)
   have e46 : x 46 = .pointer (some ⟨S, 0, none⟩) := hx 46 (by decide)
   have e47 : x 47 = .slice none 0 c := hx 47 (by decide)
   have e48 : x 48 = .int .i64 (0 : Int) := hx 48 (by decide)
   have e49 : x 49 = .bool true := hx 49 (by decide)
   clear hx
   have k0 : w1.cell? ⟨S, 0, none⟩ = some (.slice none 0 c) := (H5.up hb1).cell 0
   have k1 : w1.cell? ⟨S, 1, none⟩ = some (.int .i64 ((tk : Int) + 1)) := (H5.up hb1).cell 1
   simp only [frameOf, fill, List.contains_cons, List.contains_nil, Nat.reduceBEq, Bool.or_false, Bool.false_or, Bool.or_true, Bool.true_or, if_true, if_false, Bool.false_eq_true, Nat.reduceAdd, Nat.zero_add]
   simp only [e40, e41, e42, e43, e44, e45, e46, e47, e48, e49]
   clear e40 e41 e42 e43 e44 e45 e46 e47 e48 e49
   have q2 : w1.cell? ⟨S, 2, none⟩ = some (.int .u32 m) := (H5.up hb1).cell 2
   have q3 : w1.frozen? ⟨S, 2, none⟩ = false := (H5.up hb1).frozen 2
   refine hKc _ _ ?_
   go_wp2_with fail
   refine wp_world (fun W => w.grownBy W (some S) ∧ ∃ m7 : Int, Holds W S 172 #[.slice none 0 c, .int .i64 ((tk : Int) + 1), .int .u32 m7]) ⟨only_set (only_up g5 hb1) 2 _, _, (H5.up hb1).setL 2 _⟩ ?_
   rintro W7 ⟨g7, m7, H7⟩
   rename_i Kc hKc
   refine wp_region_parts (by kernel_rfl) 13 [59, 60, 61, 62, 63, 64, 65, 66, 67, 68, 69, 70, 71] (fun t v w' => match t with
    | 59 => v = .pointer (some ⟨S, 0, none⟩)
    | 60 => v = .pointer (some ⟨S, 0, none⟩)
    | 61 => v = .pointer (some ⟨S, 2, none⟩)
    | 62 => v = .int .u32 m7
    | 63 => v = .pointer (some ⟨S, 0, none⟩)
    | 64 => v = .pointer (some ⟨S, 0, none⟩)
    | 65 => v = .pointer (some ⟨S, 2, none⟩)
    | 66 => v = .int .u32 m7
    | 67 => ∃ x, v = .int .u32 x
    | 68 => ∃ x, v = .int .u32 x
    | 69 => ∃ x, v = .int .u32 x
    | 70 => ∃ x, v = .int .u32 x ∧ 0 ≤ x ∧ x ≤ 65535
    | 71 => ∃ x, v = .int .i64 x ∧ 0 ≤ x ∧ x ≤ 65535
    | _ => True) (by kernel_rfl) ?_ ?_ ?_
   ·intro t v w1 w2 hb' h
    revert h
    split <;> intro h <;> first
     | exact h
     | (obtain ⟨b0, rfl⟩ := h; exact ⟨b0, rfl⟩)
     | (obtain ⟨b0, rfl, h0, h1⟩ := h; exact ⟨b0, rfl, h0, h1⟩)
   ·refine ⟨?_, ?_, ?_, ?_, ?_, ?_, ?_, ?_, ?_, ?_, ?_, ?_, ?_, trivial⟩
    ·intro x w1 hb1 hx K hK
     clear hx hKc
     have k2 : w1.cell? ⟨S, 2, none⟩ = some (.int .u32 m7) := (H7.up hb1).cell 2
     simp only [frameOf, fill, sg, Nat.reduceBEq, if_true, if_false, Nat.reduceAdd, Nat.reduceEqDiff] at hK ⊢
     go_wp2_with (fail)
     exact hK _ _ (Below.refl _ _) rfl
    ·intro x w1 hb1 hx K hK
     have e59 : x 59 = .pointer (some ⟨S, 0, none⟩) := hx 59 (by rfl)
     clear hx hKc
     have k2 : w1.cell? ⟨S, 2, none⟩ = some (.int .u32 m7) := (H7.up hb1).cell 2
     simp only [frameOf, fill, sg, Nat.reduceBEq, if_true, if_false, Nat.reduceAdd, Nat.reduceEqDiff] at hK ⊢
     simp only [e59] at hK ⊢
     clear e59
     go_wp2_with (fail)
     exact hK _ _ (Below.refl _ _) rfl
    ·intro x w1 hb1 hx K hK
     have e60 : x 60 = .pointer (some ⟨S, 0, none⟩) := hx 60 (by rfl)
     clear hx hKc
     have k2 : w1.cell? ⟨S, 2, none⟩ = some (.int .u32 m7) := (H7.up hb1).cell 2
     simp only [frameOf, fill, sg, Nat.reduceBEq, if_true, if_false, Nat.reduceAdd, Nat.reduceEqDiff] at hK ⊢
     simp only [e60] at hK ⊢
     clear e60
     go_wp2_with (fail)
     exact hK _ _ (Below.refl _ _) rfl
    ·intro x w1 hb1 hx K hK
     have e61 : x 61 = .pointer (some ⟨S, 2, none⟩) := hx 61 (by rfl)
     clear hx hKc
     have k2 : w1.cell? ⟨S, 2, none⟩ = some (.int .u32 m7) := (H7.up hb1).cell 2
     simp only [frameOf, fill, sg, Nat.reduceBEq, if_true, if_false, Nat.reduceAdd, Nat.reduceEqDiff] at hK ⊢
     simp only [e61] at hK ⊢
     clear e61
     go_wp2_with (fail)
     exact hK _ _ (Below.refl _ _) rfl
    ·intro x w1 hb1 hx K hK
     clear hx hKc
     have k2 : w1.cell? ⟨S, 2, none⟩ = some (.int .u32 m7) := (H7.up hb1).cell 2
     simp only [frameOf, fill, sg, Nat.reduceBEq, if_true, if_false, Nat.reduceAdd, Nat.reduceEqDiff] at hK ⊢
     go_wp2_with (fail)
     exact hK _ _ (Below.refl _ _) rfl
    ·intro x w1 hb1 hx K hK
     have e63 : x 63 = .pointer (some ⟨S, 0, none⟩) := hx 63 (by rfl)
     clear hx hKc
     have k2 : w1.cell? ⟨S, 2, none⟩ = some (.int .u32 m7) := (H7.up hb1).cell 2
     simp only [frameOf, fill, sg, Nat.reduceBEq, if_true, if_false, Nat.reduceAdd, Nat.reduceEqDiff] at hK ⊢
     simp only [e63] at hK ⊢
     clear e63
     go_wp2_with (fail)
     exact hK _ _ (Below.refl _ _) rfl
    ·intro x w1 hb1 hx K hK
     have e64 : x 64 = .pointer (some ⟨S, 0, none⟩) := hx 64 (by rfl)
     clear hx hKc
     have k2 : w1.cell? ⟨S, 2, none⟩ = some (.int .u32 m7) := (H7.up hb1).cell 2
     simp only [frameOf, fill, sg, Nat.reduceBEq, if_true, if_false, Nat.reduceAdd, Nat.reduceEqDiff] at hK ⊢
     simp only [e64] at hK ⊢
     clear e64
     go_wp2_with (fail)
     exact hK _ _ (Below.refl _ _) rfl
    ·intro x w1 hb1 hx K hK
     have e65 : x 65 = .pointer (some ⟨S, 2, none⟩) := hx 65 (by rfl)
     clear hx hKc
     have k2 : w1.cell? ⟨S, 2, none⟩ = some (.int .u32 m7) := (H7.up hb1).cell 2
     simp only [frameOf, fill, sg, Nat.reduceBEq, if_true, if_false, Nat.reduceAdd, Nat.reduceEqDiff] at hK ⊢
     simp only [e65] at hK ⊢
     clear e65
     go_wp2_with (fail)
     exact hK _ _ (Below.refl _ _) rfl
    ·intro x w1 hb1 hx K hK
     have e66 : x 66 = .int .u32 m7 := hx 66 (by rfl)
     clear hx hKc
     have k2 : w1.cell? ⟨S, 2, none⟩ = some (.int .u32 m7) := (H7.up hb1).cell 2
     simp only [frameOf, fill, sg, Nat.reduceBEq, if_true, if_false, Nat.reduceAdd, Nat.reduceEqDiff] at hK ⊢
     simp only [e66] at hK ⊢
     clear e66
     go_wp2_with (fail)
     exact hK _ _ (Below.refl _ _) ⟨_, rfl⟩
    ·intro x w1 hb1 hx K hK
     have e62 : x 62 = .int .u32 m7 := hx 62 (by rfl)
     have e67 := hx 67 (by rfl)
     obtain ⟨x67, e67⟩ := e67
     clear hx hKc
     have k2 : w1.cell? ⟨S, 2, none⟩ = some (.int .u32 m7) := (H7.up hb1).cell 2
     simp only [frameOf, fill, sg, Nat.reduceBEq, if_true, if_false, Nat.reduceAdd, Nat.reduceEqDiff] at hK ⊢
     simp only [e62, e67] at hK ⊢
     clear e62 e67
     go_wp2_with (fail)
     exact hK _ _ (Below.refl _ _) ⟨_, rfl⟩
    ·intro x w1 hb1 hx K hK
     have e68 := hx 68 (by rfl)
     obtain ⟨x68, e68⟩ := e68
     clear hx hKc
     have k2 : w1.cell? ⟨S, 2, none⟩ = some (.int .u32 m7) := (H7.up hb1).cell 2
     simp only [frameOf, fill, sg, Nat.reduceBEq, if_true, if_false, Nat.reduceAdd, Nat.reduceEqDiff] at hK ⊢
     simp only [e68] at hK ⊢
     clear e68
     go_wp2_with (fail)
     exact hK _ _ (Below.refl _ _) ⟨_, rfl⟩
    ·intro x w1 hb1 hx K hK
     have e69 := hx 69 (by rfl)
     obtain ⟨x69, e69⟩ := e69
     clear hx hKc
     have k2 : w1.cell? ⟨S, 2, none⟩ = some (.int .u32 m7) := (H7.up hb1).cell 2
     simp only [frameOf, fill, sg, Nat.reduceBEq, if_true, if_false, Nat.reduceAdd, Nat.reduceEqDiff] at hK ⊢
     simp only [e69] at hK ⊢
     clear e69
     go_wp2_with (fail)
     exact hK _ _ (Below.refl _ _) ⟨_, rfl, (and_bound _).1, (and_bound _).2⟩
    ·intro x w1 hb1 hx K hK
     have e70 := hx 70 (by rfl)
     obtain ⟨x70, e70, f70_0, f70_1⟩ := e70
     clear hx hKc
     have k2 : w1.cell? ⟨S, 2, none⟩ = some (.int .u32 m7) := (H7.up hb1).cell 2
     simp only [frameOf, fill, sg, Nat.reduceBEq, if_true, if_false, Nat.reduceAdd, Nat.reduceEqDiff] at hK ⊢
     simp only [e70] at hK ⊢
     clear e70
     go_wp2_with (fail)
     exact hK _ _ (Below.refl _ _) ⟨_, rfl, by omega, by omega⟩
   ·intro x w1 hb1 hx
    have e59 : x 59 = .pointer (some ⟨S, 0, none⟩) := hx 59 (by decide)
    have e60 : x 60 = .pointer (some ⟨S, 0, none⟩) := hx 60 (by decide)
    have e61 : x 61 = .pointer (some ⟨S, 2, none⟩) := hx 61 (by decide)
    have e62 : x 62 = .int .u32 m7 := hx 62 (by decide)
    have e63 : x 63 = .pointer (some ⟨S, 0, none⟩) := hx 63 (by decide)
    have e64 : x 64 = .pointer (some ⟨S, 0, none⟩) := hx 64 (by decide)
    have e65 : x 65 = .pointer (some ⟨S, 2, none⟩) := hx 65 (by decide)
    have e66 : x 66 = .int .u32 m7 := hx 66 (by decide)
    have e67 := hx 67 (by decide)
    obtain ⟨x67, e67⟩ := e67
    have e68 := hx 68 (by decide)
    obtain ⟨x68, e68⟩ := e68
    have e69 := hx 69 (by decide)
    obtain ⟨x69, e69⟩ := e69
    have e70 := hx 70 (by decide)
    obtain ⟨x70, e70, f70_0, f70_1⟩ := e70
    have e71 := hx 71 (by decide)
    obtain ⟨x71, e71, f71_0, f71_1⟩ := e71
    clear hx
    have k2 : w1.cell? ⟨S, 2, none⟩ = some (.int .u32 m7) := (H7.up hb1).cell 2
    simp only [frameOf, fill, List.contains_cons, List.contains_nil, Nat.reduceBEq, Bool.or_false, Bool.false_or, Bool.or_true, Bool.true_or, if_true, if_false, Bool.false_eq_true, Nat.reduceAdd, Nat.zero_add]
    simp only [e59, e60, e61, e62, e63, e64, e65, e66, e67, e68, e69, e70, e71]
    clear e59 e60 e61 e62 e63 e64 e65 e66 e67 e68 e69 e70 e71
    go_wp2_with fail
    go_ret
    exact ⟨x71, m7, rfl, f71_0, f71_1, H7.up hb1, only_up g7 hb1⟩
 ·exact absurd (show (0 : Int) < (tk : Int) + 1 by omega) hlt
set_option maxRecDepth 100000 in
set_option maxHeartbeats 1000000 in
theorem handful_zero_some (B o : Nat) (sp : Option Nat) (S : Nat) (c tk : Nat) (m : Int) (w : World) (hS : Holds w S 172 #[.slice (some ⟨B, o, sp⟩) 0 c, .int .i64 (tk : Int), .int .u32 m]) (ht : tk ≤ 1000000) :
  Calls Try.prog 129 #[.pointer (some ⟨S, 0, none⟩)] w (Drawn w S (some ⟨B, o, sp⟩) 0 c tk) := by
 obtain ⟨c0, c1⟩ := hS.c2
 have z1 := hS.frozen 1
 go_enter Try.func129, Try.ntmps129
 go_wp2_with fail
 refine wp_world (fun W => w.grownBy W (some S) ∧ Holds W S 172 #[.slice (some ⟨B, o, sp⟩) 0 c, .int .i64 ((tk : Int) + 1), .int .u32 m]) ⟨only_set (only_below S (Below.refl _ _)) 1 _, hS.setL 1 _⟩ ?_
 rintro W5 ⟨g5, H5⟩
 by_cases hlt : (0 : Int) < (tk : Int) + 1
 ·rename_i Kc hKc
  refine wp_region_parts (by kernel_rfl) 10 [40, 41, 42, 43, 44, 45, 46, 47, 48, 49] (fun t v w' => match t with
   | 40 => v = .pointer (some ⟨S, 0, none⟩)
   | 41 => v = .pointer (some ⟨S, 0, none⟩)
   | 42 => v = .pointer (some ⟨S, 1, none⟩)
   | 43 => v = .int .i64 ((tk : Int) + 1)
   | 44 => v = .pointer (some ⟨S, 0, none⟩)
   | 45 => v = .pointer (some ⟨S, 0, none⟩)
   | 46 => v = .pointer (some ⟨S, 0, none⟩)
   | 47 => v = .slice (some ⟨B, o, sp⟩) 0 c
   | 48 => v = .int .i64 (0 : Int)
   | 49 => v = .bool true
   | _ => True) (by kernel_rfl) ?_ ?_ ?_
  ·intro t v w1 w2 hb' h
   revert h
   split <;> intro h <;> first
    | exact h
  ·refine ⟨?_, ?_, ?_, ?_, ?_, ?_, ?_, ?_, ?_, ?_, trivial⟩
   ·intro x w1 hb1 hx K hK
    clear hx hKc
    have k0 : w1.cell? ⟨S, 0, none⟩ = some (.slice (some ⟨B, o, sp⟩) 0 c) := (H5.up hb1).cell 0
    have k1 : w1.cell? ⟨S, 1, none⟩ = some (.int .i64 ((tk : Int) + 1)) := (H5.up hb1).cell 1
    simp only [frameOf, fill, sg, Nat.reduceBEq, if_true, if_false, Nat.reduceAdd, Nat.reduceEqDiff] at hK ⊢
    go_wp2_with (fail)
    exact hK _ _ (Below.refl _ _) rfl
   ·intro x w1 hb1 hx K hK
    have e40 : x 40 = .pointer (some ⟨S, 0, none⟩) := hx 40 (by rfl)
    clear hx hKc
    have k0 : w1.cell? ⟨S, 0, none⟩ = some (.slice (some ⟨B, o, sp⟩) 0 c) := (H5.up hb1).cell 0
    have k1 : w1.cell? ⟨S, 1, none⟩ = some (.int .i64 ((tk : Int) + 1)) := (H5.up hb1).cell 1
    simp only [frameOf, fill, sg, Nat.reduceBEq, if_true, if_false, Nat.reduceAdd, Nat.reduceEqDiff] at hK ⊢
    simp only [e40] at hK ⊢
    clear e40
    go_wp2_with (fail)
    exact hK _ _ (Below.refl _ _) rfl
   ·intro x w1 hb1 hx K hK
    have e41 : x 41 = .pointer (some ⟨S, 0, none⟩) := hx 41 (by rfl)
    clear hx hKc
    have k0 : w1.cell? ⟨S, 0, none⟩ = some (.slice (some ⟨B, o, sp⟩) 0 c) := (H5.up hb1).cell 0
    have k1 : w1.cell? ⟨S, 1, none⟩ = some (.int .i64 ((tk : Int) + 1)) := (H5.up hb1).cell 1
    simp only [frameOf, fill, sg, Nat.reduceBEq, if_true, if_false, Nat.reduceAdd, Nat.reduceEqDiff] at hK ⊢
    simp only [e41] at hK ⊢
    clear e41
    go_wp2_with (fail)
    exact hK _ _ (Below.refl _ _) rfl
   ·intro x w1 hb1 hx K hK
    have e42 : x 42 = .pointer (some ⟨S, 1, none⟩) := hx 42 (by rfl)
    clear hx hKc
    have k0 : w1.cell? ⟨S, 0, none⟩ = some (.slice (some ⟨B, o, sp⟩) 0 c) := (H5.up hb1).cell 0
    have k1 : w1.cell? ⟨S, 1, none⟩ = some (.int .i64 ((tk : Int) + 1)) := (H5.up hb1).cell 1
    simp only [frameOf, fill, sg, Nat.reduceBEq, if_true, if_false, Nat.reduceAdd, Nat.reduceEqDiff] at hK ⊢
    simp only [e42] at hK ⊢
    clear e42
    go_wp2_with (fail)
    exact hK _ _ (Below.refl _ _) rfl
   ·intro x w1 hb1 hx K hK
    clear hx hKc
    have k0 : w1.cell? ⟨S, 0, none⟩ = some (.slice (some ⟨B, o, sp⟩) 0 c) := (H5.up hb1).cell 0
    have k1 : w1.cell? ⟨S, 1, none⟩ = some (.int .i64 ((tk : Int) + 1)) := (H5.up hb1).cell 1
    simp only [frameOf, fill, sg, Nat.reduceBEq, if_true, if_false, Nat.reduceAdd, Nat.reduceEqDiff] at hK ⊢
    go_wp2_with (fail)
    exact hK _ _ (Below.refl _ _) rfl
   ·intro x w1 hb1 hx K hK
    have e44 : x 44 = .pointer (some ⟨S, 0, none⟩) := hx 44 (by rfl)
    clear hx hKc
    have k0 : w1.cell? ⟨S, 0, none⟩ = some (.slice (some ⟨B, o, sp⟩) 0 c) := (H5.up hb1).cell 0
    have k1 : w1.cell? ⟨S, 1, none⟩ = some (.int .i64 ((tk : Int) + 1)) := (H5.up hb1).cell 1
    simp only [frameOf, fill, sg, Nat.reduceBEq, if_true, if_false, Nat.reduceAdd, Nat.reduceEqDiff] at hK ⊢
    simp only [e44] at hK ⊢
    clear e44
    go_wp2_with (fail)
    exact hK _ _ (Below.refl _ _) rfl
   ·intro x w1 hb1 hx K hK
    have e45 : x 45 = .pointer (some ⟨S, 0, none⟩) := hx 45 (by rfl)
    clear hx hKc
    have k0 : w1.cell? ⟨S, 0, none⟩ = some (.slice (some ⟨B, o, sp⟩) 0 c) := (H5.up hb1).cell 0
    have k1 : w1.cell? ⟨S, 1, none⟩ = some (.int .i64 ((tk : Int) + 1)) := (H5.up hb1).cell 1
    simp only [frameOf, fill, sg, Nat.reduceBEq, if_true, if_false, Nat.reduceAdd, Nat.reduceEqDiff] at hK ⊢
    simp only [e45] at hK ⊢
    clear e45
    go_wp2_with (fail)
    exact hK _ _ (Below.refl _ _) rfl
   ·intro x w1 hb1 hx K hK
    have e46 : x 46 = .pointer (some ⟨S, 0, none⟩) := hx 46 (by rfl)
    clear hx hKc
    have k0 : w1.cell? ⟨S, 0, none⟩ = some (.slice (some ⟨B, o, sp⟩) 0 c) := (H5.up hb1).cell 0
    have k1 : w1.cell? ⟨S, 1, none⟩ = some (.int .i64 ((tk : Int) + 1)) := (H5.up hb1).cell 1
    simp only [frameOf, fill, sg, Nat.reduceBEq, if_true, if_false, Nat.reduceAdd, Nat.reduceEqDiff] at hK ⊢
    simp only [e46] at hK ⊢
    clear e46
    go_wp2_with (fail)
    exact hK _ _ (Below.refl _ _) rfl
   ·intro x w1 hb1 hx K hK
    have e47 : x 47 = .slice (some ⟨B, o, sp⟩) 0 c := hx 47 (by rfl)
    clear hx hKc
    have k0 : w1.cell? ⟨S, 0, none⟩ = some (.slice (some ⟨B, o, sp⟩) 0 c) := (H5.up hb1).cell 0
    have k1 : w1.cell? ⟨S, 1, none⟩ = some (.int .i64 ((tk : Int) + 1)) := (H5.up hb1).cell 1
    simp only [frameOf, fill, sg, Nat.reduceBEq, if_true, if_false, Nat.reduceAdd, Nat.reduceEqDiff] at hK ⊢
    simp only [e47] at hK ⊢
    clear e47
    go_wp2_with (fail)
    exact hK _ _ (Below.refl _ _) rfl
   ·intro x w1 hb1 hx K hK
    have e43 : x 43 = .int .i64 ((tk : Int) + 1) := hx 43 (by rfl)
    have e48 : x 48 = .int .i64 (0 : Int) := hx 48 (by rfl)
    clear hx hKc
    have k0 : w1.cell? ⟨S, 0, none⟩ = some (.slice (some ⟨B, o, sp⟩) 0 c) := (H5.up hb1).cell 0
    have k1 : w1.cell? ⟨S, 1, none⟩ = some (.int .i64 ((tk : Int) + 1)) := (H5.up hb1).cell 1
    simp only [frameOf, fill, sg, Nat.reduceBEq, if_true, if_false, Nat.reduceAdd, Nat.reduceEqDiff] at hK ⊢
    simp only [e43, e48] at hK ⊢
    clear e43 e48
    go_wp2_with (fail)
    first | exact hK _ _ (Below.refl _ _) rfl | exact hK _ _ (Below.refl _ _) (by simp; omega)
  ·intro x w1 hb1 hx
   have e40 : x 40 = .pointer (some ⟨S, 0, none⟩) := hx 40 (by decide)
   have e41 : x 41 = .pointer (some ⟨S, 0, none⟩) := hx 41 (by decide)
   have e42 : x 42 = .pointer (some ⟨S, 1, none⟩) := hx 42 (by decide)
   have e43 : x 43 = .int .i64 ((tk : Int) + 1) := hx 43 (by decide)
   have e44 : x 44 = .pointer (some ⟨S, 0, none⟩) := hx 44 (by decide)
   have e45 : x 45 = .pointer (some ⟨S, 0, none⟩) := hx 45 (by decide)
   have e46 : x 46 = .pointer (some ⟨S, 0, none⟩) := hx 46 (by decide)
   have e47 : x 47 = .slice (some ⟨B, o, sp⟩) 0 c := hx 47 (by decide)
   have e48 : x 48 = .int .i64 (0 : Int) := hx 48 (by decide)
   have e49 : x 49 = .bool true := hx 49 (by decide)
   clear hx
   have k0 : w1.cell? ⟨S, 0, none⟩ = some (.slice (some ⟨B, o, sp⟩) 0 c) := (H5.up hb1).cell 0
   have k1 : w1.cell? ⟨S, 1, none⟩ = some (.int .i64 ((tk : Int) + 1)) := (H5.up hb1).cell 1
   simp only [frameOf, fill, List.contains_cons, List.contains_nil, Nat.reduceBEq, Bool.or_false, Bool.false_or, Bool.or_true, Bool.true_or, if_true, if_false, Bool.false_eq_true, Nat.reduceAdd, Nat.zero_add]
   simp only [e40, e41, e42, e43, e44, e45, e46, e47, e48, e49]
   clear e40 e41 e42 e43 e44 e45 e46 e47 e48 e49
   have q2 : w1.cell? ⟨S, 2, none⟩ = some (.int .u32 m) := (H5.up hb1).cell 2
   have q3 : w1.frozen? ⟨S, 2, none⟩ = false := (H5.up hb1).frozen 2
   refine hKc _ _ ?_
   go_wp2_with fail
   refine wp_world (fun W => w.grownBy W (some S) ∧ ∃ m7 : Int, Holds W S 172 #[.slice (some ⟨B, o, sp⟩) 0 c, .int .i64 ((tk : Int) + 1), .int .u32 m7]) ⟨only_set (only_up g5 hb1) 2 _, _, (H5.up hb1).setL 2 _⟩ ?_
   rintro W7 ⟨g7, m7, H7⟩
   rename_i Kc hKc
   refine wp_region_parts (by kernel_rfl) 13 [59, 60, 61, 62, 63, 64, 65, 66, 67, 68, 69, 70, 71] (fun t v w' => match t with
    | 59 => v = .pointer (some ⟨S, 0, none⟩)
    | 60 => v = .pointer (some ⟨S, 0, none⟩)
    | 61 => v = .pointer (some ⟨S, 2, none⟩)
    | 62 => v = .int .u32 m7
    | 63 => v = .pointer (some ⟨S, 0, none⟩)
    | 64 => v = .pointer (some ⟨S, 0, none⟩)
    | 65 => v = .pointer (some ⟨S, 2, none⟩)
    | 66 => v = .int .u32 m7
    | 67 => ∃ x, v = .int .u32 x
    | 68 => ∃ x, v = .int .u32 x
    | 69 => ∃ x, v = .int .u32 x
    | 70 => ∃ x, v = .int .u32 x ∧ 0 ≤ x ∧ x ≤ 65535
    | 71 => ∃ x, v = .int .i64 x ∧ 0 ≤ x ∧ x ≤ 65535
    | _ => True) (by kernel_rfl) ?_ ?_ ?_
   ·intro t v w1 w2 hb' h
    revert h
    split <;> intro h <;> first
     | exact h
     | (obtain ⟨b0, rfl⟩ := h; exact ⟨b0, rfl⟩)
     | (obtain ⟨b0, rfl, h0, h1⟩ := h; exact ⟨b0, rfl, h0, h1⟩)
   ·refine ⟨?_, ?_, ?_, ?_, ?_, ?_, ?_, ?_, ?_, ?_, ?_, ?_, ?_, trivial⟩
    ·intro x w1 hb1 hx K hK
     clear hx hKc
     have k2 : w1.cell? ⟨S, 2, none⟩ = some (.int .u32 m7) := (H7.up hb1).cell 2
     simp only [frameOf, fill, sg, Nat.reduceBEq, if_true, if_false, Nat.reduceAdd, Nat.reduceEqDiff] at hK ⊢
     go_wp2_with (fail)
     exact hK _ _ (Below.refl _ _) rfl
    ·intro x w1 hb1 hx K hK
     have e59 : x 59 = .pointer (some ⟨S, 0, none⟩) := hx 59 (by rfl)
     clear hx hKc
     have k2 : w1.cell? ⟨S, 2, none⟩ = some (.int .u32 m7) := (H7.up hb1).cell 2
     simp only [frameOf, fill, sg, Nat.reduceBEq, if_true, if_false, Nat.reduceAdd, Nat.reduceEqDiff] at hK ⊢
     simp only [e59] at hK ⊢
     clear e59
     go_wp2_with (fail)
     exact hK _ _ (Below.refl _ _) rfl
    ·intro x w1 hb1 hx K hK
     have e60 : x 60 = .pointer (some ⟨S, 0, none⟩) := hx 60 (by rfl)
     clear hx hKc
     have k2 : w1.cell? ⟨S, 2, none⟩ = some (.int .u32 m7) := (H7.up hb1).cell 2
     simp only [frameOf, fill, sg, Nat.reduceBEq, if_true, if_false, Nat.reduceAdd, Nat.reduceEqDiff] at hK ⊢
     simp only [e60] at hK ⊢
     clear e60
     go_wp2_with (fail)
     exact hK _ _ (Below.refl _ _) rfl
    ·intro x w1 hb1 hx K hK
     have e61 : x 61 = .pointer (some ⟨S, 2, none⟩) := hx 61 (by rfl)
     clear hx hKc
     have k2 : w1.cell? ⟨S, 2, none⟩ = some (.int .u32 m7) := (H7.up hb1).cell 2
     simp only [frameOf, fill, sg, Nat.reduceBEq, if_true, if_false, Nat.reduceAdd, Nat.reduceEqDiff] at hK ⊢
     simp only [e61] at hK ⊢
     clear e61
     go_wp2_with (fail)
     exact hK _ _ (Below.refl _ _) rfl
    ·intro x w1 hb1 hx K hK
     clear hx hKc
     have k2 : w1.cell? ⟨S, 2, none⟩ = some (.int .u32 m7) := (H7.up hb1).cell 2
     simp only [frameOf, fill, sg, Nat.reduceBEq, if_true, if_false, Nat.reduceAdd, Nat.reduceEqDiff] at hK ⊢
     go_wp2_with (fail)
     exact hK _ _ (Below.refl _ _) rfl
    ·intro x w1 hb1 hx K hK
     have e63 : x 63 = .pointer (some ⟨S, 0, none⟩) := hx 63 (by rfl)
     clear hx hKc
     have k2 : w1.cell? ⟨S, 2, none⟩ = some (.int .u32 m7) := (H7.up hb1).cell 2
     simp only [frameOf, fill, sg, Nat.reduceBEq, if_true, if_false, Nat.reduceAdd, Nat.reduceEqDiff] at hK ⊢
     simp only [e63] at hK ⊢
     clear e63
     go_wp2_with (fail)
     exact hK _ _ (Below.refl _ _) rfl
    ·intro x w1 hb1 hx K hK
     have e64 : x 64 = .pointer (some ⟨S, 0, none⟩) := hx 64 (by rfl)
     clear hx hKc
     have k2 : w1.cell? ⟨S, 2, none⟩ = some (.int .u32 m7) := (H7.up hb1).cell 2
     simp only [frameOf, fill, sg, Nat.reduceBEq, if_true, if_false, Nat.reduceAdd, Nat.reduceEqDiff] at hK ⊢
     simp only [e64] at hK ⊢
     clear e64
     go_wp2_with (fail)
     exact hK _ _ (Below.refl _ _) rfl
    ·intro x w1 hb1 hx K hK
     have e65 : x 65 = .pointer (some ⟨S, 2, none⟩) := hx 65 (by rfl)
     clear hx hKc
     have k2 : w1.cell? ⟨S, 2, none⟩ = some (.int .u32 m7) := (H7.up hb1).cell 2
     simp only [frameOf, fill, sg, Nat.reduceBEq, if_true, if_false, Nat.reduceAdd, Nat.reduceEqDiff] at hK ⊢
     simp only [e65] at hK ⊢
     clear e65
     go_wp2_with (fail)
     exact hK _ _ (Below.refl _ _) rfl
    ·intro x w1 hb1 hx K hK
     have e66 : x 66 = .int .u32 m7 := hx 66 (by rfl)
     clear hx hKc
     have k2 : w1.cell? ⟨S, 2, none⟩ = some (.int .u32 m7) := (H7.up hb1).cell 2
     simp only [frameOf, fill, sg, Nat.reduceBEq, if_true, if_false, Nat.reduceAdd, Nat.reduceEqDiff] at hK ⊢
     simp only [e66] at hK ⊢
     clear e66
     go_wp2_with (fail)
     exact hK _ _ (Below.refl _ _) ⟨_, rfl⟩
    ·intro x w1 hb1 hx K hK
     have e62 : x 62 = .int .u32 m7 := hx 62 (by rfl)
     have e67 := hx 67 (by rfl)
     obtain ⟨x67, e67⟩ := e67
     clear hx hKc
     have k2 : w1.cell? ⟨S, 2, none⟩ = some (.int .u32 m7) := (H7.up hb1).cell 2
     simp only [frameOf, fill, sg, Nat.reduceBEq, if_true, if_false, Nat.reduceAdd, Nat.reduceEqDiff] at hK ⊢
     simp only [e62, e67] at hK ⊢
     clear e62 e67
     go_wp2_with (fail)
     exact hK _ _ (Below.refl _ _) ⟨_, rfl⟩
    ·intro x w1 hb1 hx K hK
     have e68 := hx 68 (by rfl)
     obtain ⟨x68, e68⟩ := e68
     clear hx hKc
     have k2 : w1.cell? ⟨S, 2, none⟩ = some (.int .u32 m7) := (H7.up hb1).cell 2
     simp only [frameOf, fill, sg, Nat.reduceBEq, if_true, if_false, Nat.reduceAdd, Nat.reduceEqDiff] at hK ⊢
     simp only [e68] at hK ⊢
     clear e68
     go_wp2_with (fail)
     exact hK _ _ (Below.refl _ _) ⟨_, rfl⟩
    ·intro x w1 hb1 hx K hK
     have e69 := hx 69 (by rfl)
     obtain ⟨x69, e69⟩ := e69
     clear hx hKc
     have k2 : w1.cell? ⟨S, 2, none⟩ = some (.int .u32 m7) := (H7.up hb1).cell 2
     simp only [frameOf, fill, sg, Nat.reduceBEq, if_true, if_false, Nat.reduceAdd, Nat.reduceEqDiff] at hK ⊢
     simp only [e69] at hK ⊢
     clear e69
     go_wp2_with (fail)
     exact hK _ _ (Below.refl _ _) ⟨_, rfl, (and_bound _).1, (and_bound _).2⟩
    ·intro x w1 hb1 hx K hK
     have e70 := hx 70 (by rfl)
     obtain ⟨x70, e70, f70_0, f70_1⟩ := e70
     clear hx hKc
     have k2 : w1.cell? ⟨S, 2, none⟩ = some (.int .u32 m7) := (H7.up hb1).cell 2
     simp only [frameOf, fill, sg, Nat.reduceBEq, if_true, if_false, Nat.reduceAdd, Nat.reduceEqDiff] at hK ⊢
     simp only [e70] at hK ⊢
     clear e70
     go_wp2_with (fail)
     exact hK _ _ (Below.refl _ _) ⟨_, rfl, by omega, by omega⟩
   ·intro x w1 hb1 hx
    have e59 : x 59 = .pointer (some ⟨S, 0, none⟩) := hx 59 (by decide)
    have e60 : x 60 = .pointer (some ⟨S, 0, none⟩) := hx 60 (by decide)
    have e61 : x 61 = .pointer (some ⟨S, 2, none⟩) := hx 61 (by decide)
    have e62 : x 62 = .int .u32 m7 := hx 62 (by decide)
    have e63 : x 63 = .pointer (some ⟨S, 0, none⟩) := hx 63 (by decide)
    have e64 : x 64 = .pointer (some ⟨S, 0, none⟩) := hx 64 (by decide)
    have e65 : x 65 = .pointer (some ⟨S, 2, none⟩) := hx 65 (by decide)
    have e66 : x 66 = .int .u32 m7 := hx 66 (by decide)
    have e67 := hx 67 (by decide)
    obtain ⟨x67, e67⟩ := e67
    have e68 := hx 68 (by decide)
    obtain ⟨x68, e68⟩ := e68
    have e69 := hx 69 (by decide)
    obtain ⟨x69, e69⟩ := e69
    have e70 := hx 70 (by decide)
    obtain ⟨x70, e70, f70_0, f70_1⟩ := e70
    have e71 := hx 71 (by decide)
    obtain ⟨x71, e71, f71_0, f71_1⟩ := e71
    clear hx
    have k2 : w1.cell? ⟨S, 2, none⟩ = some (.int .u32 m7) := (H7.up hb1).cell 2
    simp only [frameOf, fill, List.contains_cons, List.contains_nil, Nat.reduceBEq, Bool.or_false, Bool.false_or, Bool.or_true, Bool.true_or, if_true, if_false, Bool.false_eq_true, Nat.reduceAdd, Nat.zero_add]
    simp only [e59, e60, e61, e62, e63, e64, e65, e66, e67, e68, e69, e70, e71]
    clear e59 e60 e61 e62 e63 e64 e65 e66 e67 e68 e69 e70 e71
    go_wp2_with fail
    go_ret
    exact ⟨x71, m7, rfl, f71_0, f71_1, H7.up hb1, only_up g7 hb1⟩
 ·exact absurd (show (0 : Int) < (tk : Int) + 1 by omega) hlt
end Go.Proofs.Ytdpgfaikmahmpaa
