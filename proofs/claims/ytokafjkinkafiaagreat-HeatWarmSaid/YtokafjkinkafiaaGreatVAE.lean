
import Derived.Test.YtokafjkinkafiaaGreatVAA
import Derived.Test.YtokafjkinkafiaaGreatVAC
import Derived.Test.YtokafjkinkafiaaGreatVAD
set_option linter.unusedSimpArgs false
set_option linter.unusedVariables false
namespace Go.Proofs.YtokafjkinkafiaaGreat
open Go.RowKit
set_option maxRecDepth 100000 in
set_option maxHeartbeats 40000000 in
theorem isIncreasing_any (A : Option Addr) (c : Nat) (xs : List Int) (w : World) (hA : IntsAt w A xs) (hl : xs.length ≤ 1000) :
  Calls Tryz.prog 74 #[.slice A xs.length c] w fun e w' => e = .returned (.bool (incFrom xs)) ∧ Below w.heap.size w w' := by
 have HA := Lib.hid hA
 clear hA
 go_enter Tryz.func74, Tryz.ntmps74
 go_wp2_with fail
 go_loopw [3] (fun v3 wr => ∃ i : Nat, v3 = .int .i64 (i : Int) ∧ 1 ≤ i ∧ (i ≤ xs.length ∨ i = 1) ∧ IncTo xs i ∧ Below w.heap.size w wr) (fun v3 _ => xs.length + 1 - (intOf v3).toNat)
 case atStart => exact ⟨1, rfl, Nat.le_refl _, .inr rfl, (fun j a b h => by omega), Below.refl _ _⟩
 case round =>
  obtain ⟨i, rfl, h1, h2, hf, hBr⟩ := hrel
  have HF := Lib.hid hf
  clear hf
  by_cases hlt : i < xs.length
  ·have hlt' : (i : Int) < xs.length := by omega
   obtain ⟨k, rfl⟩ : ∃ k, i = k + 1 := ⟨i - 1, by omega⟩
   obtain ⟨x, hx⟩ : ∃ z, xs[k]? = some z := ⟨_, List.getElem?_eq_getElem (by omega)⟩
   obtain ⟨y, hy⟩ : ∃ z, xs[k + 1]? = some z := ⟨_, List.getElem?_eq_getElem hlt⟩
   obtain ⟨B, o, rfl, hc⟩ := HA.out (by omega)
   have HCX := Lib.hid (hc k x hx)
   have HCY := Lib.hid (hc (k + 1) y hy)
   have hlB := World.block_lt_of_cell? w _ HCX.out
   have HX := Lib.hid hx
   have HY := Lib.hid hy
   have HJ := Lib.hid hlt
   have hj3 : k + 1 ≤ 1000 := by omega
   clear hc hx hy hlt
   by_cases hp : x < y
   ·go_wp2_with fail
    rename_i Kc hKc
    have HSL := Lib.hid (show slotsOf [some 10, some 11, some 12, some 13, some 14, some 15, some 16, some 17, some 18, some 19] = [10, 11, 12, 13, 14, 15, 16, 17, 18, 19] from rfl)
    refine wp_region_partsG (by kernel_rfl) [some 10, some 11, some 12, some 13, some 14, some 15, some 16, some 17, some 18, some 19] (fun jq xq w' => match jq with
     | 0 => xq 10 = .slice (some ⟨B, o, none⟩) xs.length c
     | 1 => xq 11 = .int .i64 ((k + 1 : Nat) : Int)
     | 2 => xq 12 = .pointer (some ⟨B, o + (k + 1), none⟩)
     | 3 => xq 13 = .int .i64 y
     | 4 => xq 14 = .slice (some ⟨B, o, none⟩) xs.length c
     | 5 => xq 15 = .int .i64 ((k + 1 : Nat) : Int)
     | 6 => xq 16 = .int .i64 (k : Int)
     | 7 => xq 17 = .pointer (some ⟨B, o + k, none⟩)
     | 8 => xq 18 = .int .i64 x
     | 9 => xq 19 = .bool false
     | _ => True) [[10], [11], [12], [13], [14], [15], [16], [17], [18], [19]] [] (Below w.heap.size w) (by kernel_rfl)  ?_ ?_ (fun w' w'' hb h => h.trans (hb.mono h.size)) (hBr) ?_ ?_ ?_
    ·intro jq xq xq' wqq h hv
     match jq, h, hv with
     | 0, h, hv => show xq' 10 = .slice (some ⟨B, o, none⟩) xs.length c; rw [← h 10 (by decide)]; exact hv
     | 1, h, hv => show xq' 11 = .int .i64 ((k + 1 : Nat) : Int); rw [← h 11 (by decide)]; exact hv
     | 2, h, hv => show xq' 12 = .pointer (some ⟨B, o + (k + 1), none⟩); rw [← h 12 (by decide)]; exact hv
     | 3, h, hv => show xq' 13 = .int .i64 y; rw [← h 13 (by decide)]; exact hv
     | 4, h, hv => show xq' 14 = .slice (some ⟨B, o, none⟩) xs.length c; rw [← h 14 (by decide)]; exact hv
     | 5, h, hv => show xq' 15 = .int .i64 ((k + 1 : Nat) : Int); rw [← h 15 (by decide)]; exact hv
     | 6, h, hv => show xq' 16 = .int .i64 (k : Int); rw [← h 16 (by decide)]; exact hv
     | 7, h, hv => show xq' 17 = .pointer (some ⟨B, o + k, none⟩); rw [← h 17 (by decide)]; exact hv
     | 8, h, hv => show xq' 18 = .int .i64 x; rw [← h 18 (by decide)]; exact hv
     | 9, h, hv => show xq' 19 = .bool false; rw [← h 19 (by decide)]; exact hv
     | _ + 10, _, _ => trivial
    ·intro jq xq wqq w' hb' hv
     match jq, hv with
     | 0, hv => exact hv
     | 1, hv => exact hv
     | 2, hv => exact hv
     | 3, hv => exact hv
     | 4, hv => exact hv
     | 5, hv => exact hv
     | 6, hv => exact hv
     | 7, hv => exact hv
     | 8, hv => exact hv
     | 9, hv => exact hv
     | _ + 10, _ => trivial
    ·intro jq hj
     match jq, hj with
     | 0, hj => exact absurd hj (by decide)
     | 1, hj => exact absurd hj (by decide)
     | 2, hj => exact absurd hj (by decide)
     | 3, hj => exact absurd hj (by decide)
     | 4, hj => exact absurd hj (by decide)
     | 5, hj => exact absurd hj (by decide)
     | 6, hj => exact absurd hj (by decide)
     | 7, hj => exact absurd hj (by decide)
     | 8, hj => exact absurd hj (by decide)
     | 9, hj => exact absurd hj (by decide)
     | _ + 10, _ => trivial
    ·refine ⟨?_, ?_, ?_, ?_, ?_, ?_, ?_, ?_, ?_, ?_, trivial⟩
     ·intro xq w1 hb1 hx K hK0
      have hK := fun v w' hb => hK0 v w' (.inl hb)
      clear hx hKc hK0
      simp only [frameOf, fill, setSlot, sg, Nat.reduceBEq, if_true, if_false, Nat.reduceAdd, Nat.reduceEqDiff, HSL.out] at hK ⊢
      go_wp2_with (fail)
      exact hK _ _ (Below.refl _ _) rfl
     ·intro xq w1 hb1 hx K hK0
      have hK := fun v w' hb => hK0 v w' (.inl hb)
      clear hx hKc hK0
      simp only [frameOf, fill, setSlot, sg, Nat.reduceBEq, if_true, if_false, Nat.reduceAdd, Nat.reduceEqDiff, HSL.out] at hK ⊢
      go_wp2_with (fail)
      first | exact hK _ _ (Below.refl _ _) rfl | exact hK _ _ (Below.refl _ _) (by go_num)
     ·intro xq w1 hb1 hx K hK0
      have hK := fun v w' hb => hK0 v w' (.inl hb)
      have e10 : xq 10 = .slice (some ⟨B, o, none⟩) xs.length c := hx 0 (by rfl) (by rfl)
      have e11 : xq 11 = .int .i64 ((k + 1 : Nat) : Int) := hx 1 (by rfl) (by rfl)
      clear hx hKc hK0
      have hjl : k + 1 < xs.length := HJ.out
      simp only [frameOf, fill, setSlot, sg, Nat.reduceBEq, if_true, if_false, Nat.reduceAdd, Nat.reduceEqDiff, HSL.out] at hK ⊢
      simp only [e10, e11] at hK ⊢
      clear e10 e11
      go_wp2_with (fail)
      exact hK _ _ (Below.refl _ _) rfl
     ·intro xq w1 hb1 hx K hK0
      have hK := fun v w' hb => hK0 v w' (.inl hb)
      have e12 : xq 12 = .pointer (some ⟨B, o + (k + 1), none⟩) := hx 2 (by rfl) (by rfl)
      clear hx hKc hK0
      have q13 : w1.cell? ⟨B, o + (k + 1), none⟩ = some (.int .i64 y) := (hb1.cell (p := ⟨B, o + (k + 1), none⟩) hlB).trans HCY.out
      simp only [frameOf, fill, setSlot, sg, Nat.reduceBEq, if_true, if_false, Nat.reduceAdd, Nat.reduceEqDiff, HSL.out] at hK ⊢
      simp only [e12] at hK ⊢
      clear e12
      go_wp2_with (fail)
      exact hK _ _ (Below.refl _ _) rfl
     ·intro xq w1 hb1 hx K hK0
      have hK := fun v w' hb => hK0 v w' (.inl hb)
      clear hx hKc hK0
      simp only [frameOf, fill, setSlot, sg, Nat.reduceBEq, if_true, if_false, Nat.reduceAdd, Nat.reduceEqDiff, HSL.out] at hK ⊢
      go_wp2_with (fail)
      exact hK _ _ (Below.refl _ _) rfl
     ·intro xq w1 hb1 hx K hK0
      have hK := fun v w' hb => hK0 v w' (.inl hb)
      clear hx hKc hK0
      simp only [frameOf, fill, setSlot, sg, Nat.reduceBEq, if_true, if_false, Nat.reduceAdd, Nat.reduceEqDiff, HSL.out] at hK ⊢
      go_wp2_with (fail)
      first | exact hK _ _ (Below.refl _ _) rfl | exact hK _ _ (Below.refl _ _) (by go_num)
     ·intro xq w1 hb1 hx K hK0
      have hK := fun v w' hb => hK0 v w' (.inl hb)
      have e15 : xq 15 = .int .i64 ((k + 1 : Nat) : Int) := hx 5 (by rfl) (by rfl)
      clear hx hKc hK0
      simp only [frameOf, fill, setSlot, sg, Nat.reduceBEq, if_true, if_false, Nat.reduceAdd, Nat.reduceEqDiff, HSL.out] at hK ⊢
      simp only [e15] at hK ⊢
      clear e15
      go_wp2_with (fail)
      first | exact hK _ _ (Below.refl _ _) rfl | exact hK _ _ (Below.refl _ _) (by go_num)
     ·intro xq w1 hb1 hx K hK0
      have hK := fun v w' hb => hK0 v w' (.inl hb)
      have e14 : xq 14 = .slice (some ⟨B, o, none⟩) xs.length c := hx 4 (by rfl) (by rfl)
      have e16 : xq 16 = .int .i64 (k : Int) := hx 6 (by rfl) (by rfl)
      clear hx hKc hK0
      have hjl : k < xs.length := Nat.lt_of_succ_lt HJ.out
      simp only [frameOf, fill, setSlot, sg, Nat.reduceBEq, if_true, if_false, Nat.reduceAdd, Nat.reduceEqDiff, HSL.out] at hK ⊢
      simp only [e14, e16] at hK ⊢
      clear e14 e16
      go_wp2_with (fail)
      exact hK _ _ (Below.refl _ _) rfl
     ·intro xq w1 hb1 hx K hK0
      have hK := fun v w' hb => hK0 v w' (.inl hb)
      have e17 : xq 17 = .pointer (some ⟨B, o + k, none⟩) := hx 7 (by rfl) (by rfl)
      clear hx hKc hK0
      have q18 : w1.cell? ⟨B, o + k, none⟩ = some (.int .i64 x) := (hb1.cell (p := ⟨B, o + k, none⟩) hlB).trans HCX.out
      simp only [frameOf, fill, setSlot, sg, Nat.reduceBEq, if_true, if_false, Nat.reduceAdd, Nat.reduceEqDiff, HSL.out] at hK ⊢
      simp only [e17] at hK ⊢
      clear e17
      go_wp2_with (fail)
      exact hK _ _ (Below.refl _ _) rfl
     ·intro xq w1 hb1 hx K hK0
      have hK := fun v w' hb => hK0 v w' (.inl hb)
      have e13 : xq 13 = .int .i64 y := hx 3 (by rfl) (by rfl)
      have e18 : xq 18 = .int .i64 x := hx 8 (by rfl) (by rfl)
      clear hx hKc hK0
      simp only [frameOf, fill, setSlot, sg, Nat.reduceBEq, if_true, if_false, Nat.reduceAdd, Nat.reduceEqDiff, HSL.out] at hK ⊢
      simp only [e13, e18] at hK ⊢
      clear e13 e18
      go_wp2_with (fail)
      first | exact hK _ _ (Below.refl _ _) rfl | exact hK _ _ (Below.refl _ _) (congrArg Value.bool (decide_eq_false (by omega)))
    ·intro xq w1 hb1 hx
     have e10 : xq 10 = .slice (some ⟨B, o, none⟩) xs.length c := hx 0 (by decide)
     have e11 : xq 11 = .int .i64 ((k + 1 : Nat) : Int) := hx 1 (by decide)
     have e12 : xq 12 = .pointer (some ⟨B, o + (k + 1), none⟩) := hx 2 (by decide)
     have e13 : xq 13 = .int .i64 y := hx 3 (by decide)
     have e14 : xq 14 = .slice (some ⟨B, o, none⟩) xs.length c := hx 4 (by decide)
     have e15 : xq 15 = .int .i64 ((k + 1 : Nat) : Int) := hx 5 (by decide)
     have e16 : xq 16 = .int .i64 (k : Int) := hx 6 (by decide)
     have e17 : xq 17 = .pointer (some ⟨B, o + k, none⟩) := hx 7 (by decide)
     have e18 : xq 18 = .int .i64 x := hx 8 (by decide)
     have e19 : xq 19 = .bool false := hx 9 (by decide)
     clear hx
     simp only [frameOf, fill, setSlot, sg, Nat.reduceBEq, if_true, if_false, Nat.reduceAdd, Nat.reduceEqDiff, HSL.out]
     simp only [e10, e11, e12, e13, e14, e15, e16, e17, e18, e19]
     clear e10 e11 e12 e13 e14 e15 e16 e17 e18 e19
     refine hKc _ _ ?_
     go_wp2_with fail
     go_roundw
     case rel => exact ⟨k + 1 + 1, by go_num, by omega, .inl (Nat.succ_le_of_lt HJ.out), HF.out.next HX.out HY.out hp, hb1⟩
     case measure => first | (simp [intOf]; done) | (simp [intOf]; omega)
   ·have hp' : y ≤ x := by omega
    go_wp2_with fail
    rename_i Kc hKc
    have HSL := Lib.hid (show slotsOf [some 10, some 11, some 12, some 13, some 14, some 15, some 16, some 17, some 18, some 19] = [10, 11, 12, 13, 14, 15, 16, 17, 18, 19] from rfl)
    refine wp_region_partsG (by kernel_rfl) [some 10, some 11, some 12, some 13, some 14, some 15, some 16, some 17, some 18, some 19] (fun jq xq w' => match jq with
     | 0 => xq 10 = .slice (some ⟨B, o, none⟩) xs.length c
     | 1 => xq 11 = .int .i64 ((k + 1 : Nat) : Int)
     | 2 => xq 12 = .pointer (some ⟨B, o + (k + 1), none⟩)
     | 3 => xq 13 = .int .i64 y
     | 4 => xq 14 = .slice (some ⟨B, o, none⟩) xs.length c
     | 5 => xq 15 = .int .i64 ((k + 1 : Nat) : Int)
     | 6 => xq 16 = .int .i64 (k : Int)
     | 7 => xq 17 = .pointer (some ⟨B, o + k, none⟩)
     | 8 => xq 18 = .int .i64 x
     | 9 => xq 19 = .bool true
     | _ => True) [[10], [11], [12], [13], [14], [15], [16], [17], [18], [19]] [] (Below w.heap.size w) (by kernel_rfl)  ?_ ?_ (fun w' w'' hb h => h.trans (hb.mono h.size)) (hBr) ?_ ?_ ?_
    ·intro jq xq xq' wqq h hv
     match jq, h, hv with
     | 0, h, hv => show xq' 10 = .slice (some ⟨B, o, none⟩) xs.length c; rw [← h 10 (by decide)]; exact hv
     | 1, h, hv => show xq' 11 = .int .i64 ((k + 1 : Nat) : Int); rw [← h 11 (by decide)]; exact hv
     | 2, h, hv => show xq' 12 = .pointer (some ⟨B, o + (k + 1), none⟩); rw [← h 12 (by decide)]; exact hv
     | 3, h, hv => show xq' 13 = .int .i64 y; rw [← h 13 (by decide)]; exact hv
     | 4, h, hv => show xq' 14 = .slice (some ⟨B, o, none⟩) xs.length c; rw [← h 14 (by decide)]; exact hv
     | 5, h, hv => show xq' 15 = .int .i64 ((k + 1 : Nat) : Int); rw [← h 15 (by decide)]; exact hv
     | 6, h, hv => show xq' 16 = .int .i64 (k : Int); rw [← h 16 (by decide)]; exact hv
     | 7, h, hv => show xq' 17 = .pointer (some ⟨B, o + k, none⟩); rw [← h 17 (by decide)]; exact hv
     | 8, h, hv => show xq' 18 = .int .i64 x; rw [← h 18 (by decide)]; exact hv
     | 9, h, hv => show xq' 19 = .bool true; rw [← h 19 (by decide)]; exact hv
     | _ + 10, _, _ => trivial
    ·intro jq xq wqq w' hb' hv
     match jq, hv with
     | 0, hv => exact hv
     | 1, hv => exact hv
     | 2, hv => exact hv
     | 3, hv => exact hv
     | 4, hv => exact hv
     | 5, hv => exact hv
     | 6, hv => exact hv
     | 7, hv => exact hv
     | 8, hv => exact hv
     | 9, hv => exact hv
     | _ + 10, _ => trivial
    ·intro jq hj
     match jq, hj with
     | 0, hj => exact absurd hj (by decide)
     | 1, hj => exact absurd hj (by decide)
     | 2, hj => exact absurd hj (by decide)
     | 3, hj => exact absurd hj (by decide)
     | 4, hj => exact absurd hj (by decide)
     | 5, hj => exact absurd hj (by decide)
     | 6, hj => exact absurd hj (by decide)
     | 7, hj => exact absurd hj (by decide)
     | 8, hj => exact absurd hj (by decide)
     | 9, hj => exact absurd hj (by decide)
     | _ + 10, _ => trivial
    ·refine ⟨?_, ?_, ?_, ?_, ?_, ?_, ?_, ?_, ?_, ?_, trivial⟩
     ·intro xq w1 hb1 hx K hK0
      have hK := fun v w' hb => hK0 v w' (.inl hb)
      clear hx hKc hK0
      simp only [frameOf, fill, setSlot, sg, Nat.reduceBEq, if_true, if_false, Nat.reduceAdd, Nat.reduceEqDiff, HSL.out] at hK ⊢
      go_wp2_with (fail)
      exact hK _ _ (Below.refl _ _) rfl
     ·intro xq w1 hb1 hx K hK0
      have hK := fun v w' hb => hK0 v w' (.inl hb)
      clear hx hKc hK0
      simp only [frameOf, fill, setSlot, sg, Nat.reduceBEq, if_true, if_false, Nat.reduceAdd, Nat.reduceEqDiff, HSL.out] at hK ⊢
      go_wp2_with (fail)
      first | exact hK _ _ (Below.refl _ _) rfl | exact hK _ _ (Below.refl _ _) (by go_num)
     ·intro xq w1 hb1 hx K hK0
      have hK := fun v w' hb => hK0 v w' (.inl hb)
      have e10 : xq 10 = .slice (some ⟨B, o, none⟩) xs.length c := hx 0 (by rfl) (by rfl)
      have e11 : xq 11 = .int .i64 ((k + 1 : Nat) : Int) := hx 1 (by rfl) (by rfl)
      clear hx hKc hK0
      have hjl : k + 1 < xs.length := HJ.out
      simp only [frameOf, fill, setSlot, sg, Nat.reduceBEq, if_true, if_false, Nat.reduceAdd, Nat.reduceEqDiff, HSL.out] at hK ⊢
      simp only [e10, e11] at hK ⊢
      clear e10 e11
      go_wp2_with (fail)
      exact hK _ _ (Below.refl _ _) rfl
     ·intro xq w1 hb1 hx K hK0
      have hK := fun v w' hb => hK0 v w' (.inl hb)
      have e12 : xq 12 = .pointer (some ⟨B, o + (k + 1), none⟩) := hx 2 (by rfl) (by rfl)
      clear hx hKc hK0
      have q13 : w1.cell? ⟨B, o + (k + 1), none⟩ = some (.int .i64 y) := (hb1.cell (p := ⟨B, o + (k + 1), none⟩) hlB).trans HCY.out
      simp only [frameOf, fill, setSlot, sg, Nat.reduceBEq, if_true, if_false, Nat.reduceAdd, Nat.reduceEqDiff, HSL.out] at hK ⊢
      simp only [e12] at hK ⊢
      clear e12
      go_wp2_with (fail)
      exact hK _ _ (Below.refl _ _) rfl
     ·intro xq w1 hb1 hx K hK0
      have hK := fun v w' hb => hK0 v w' (.inl hb)
      clear hx hKc hK0
      simp only [frameOf, fill, setSlot, sg, Nat.reduceBEq, if_true, if_false, Nat.reduceAdd, Nat.reduceEqDiff, HSL.out] at hK ⊢
      go_wp2_with (fail)
      exact hK _ _ (Below.refl _ _) rfl
     ·intro xq w1 hb1 hx K hK0
      have hK := fun v w' hb => hK0 v w' (.inl hb)
      clear hx hKc hK0
      simp only [frameOf, fill, setSlot, sg, Nat.reduceBEq, if_true, if_false, Nat.reduceAdd, Nat.reduceEqDiff, HSL.out] at hK ⊢
      go_wp2_with (fail)
      first | exact hK _ _ (Below.refl _ _) rfl | exact hK _ _ (Below.refl _ _) (by go_num)
     ·intro xq w1 hb1 hx K hK0
      have hK := fun v w' hb => hK0 v w' (.inl hb)
      have e15 : xq 15 = .int .i64 ((k + 1 : Nat) : Int) := hx 5 (by rfl) (by rfl)
      clear hx hKc hK0
      simp only [frameOf, fill, setSlot, sg, Nat.reduceBEq, if_true, if_false, Nat.reduceAdd, Nat.reduceEqDiff, HSL.out] at hK ⊢
      simp only [e15] at hK ⊢
      clear e15
      go_wp2_with (fail)
      first | exact hK _ _ (Below.refl _ _) rfl | exact hK _ _ (Below.refl _ _) (by go_num)
     ·intro xq w1 hb1 hx K hK0
      have hK := fun v w' hb => hK0 v w' (.inl hb)
      have e14 : xq 14 = .slice (some ⟨B, o, none⟩) xs.length c := hx 4 (by rfl) (by rfl)
      have e16 : xq 16 = .int .i64 (k : Int) := hx 6 (by rfl) (by rfl)
      clear hx hKc hK0
      have hjl : k < xs.length := Nat.lt_of_succ_lt HJ.out
      simp only [frameOf, fill, setSlot, sg, Nat.reduceBEq, if_true, if_false, Nat.reduceAdd, Nat.reduceEqDiff, HSL.out] at hK ⊢
      simp only [e14, e16] at hK ⊢
      clear e14 e16
      go_wp2_with (fail)
      exact hK _ _ (Below.refl _ _) rfl
     ·intro xq w1 hb1 hx K hK0
      have hK := fun v w' hb => hK0 v w' (.inl hb)
      have e17 : xq 17 = .pointer (some ⟨B, o + k, none⟩) := hx 7 (by rfl) (by rfl)
      clear hx hKc hK0
      have q18 : w1.cell? ⟨B, o + k, none⟩ = some (.int .i64 x) := (hb1.cell (p := ⟨B, o + k, none⟩) hlB).trans HCX.out
      simp only [frameOf, fill, setSlot, sg, Nat.reduceBEq, if_true, if_false, Nat.reduceAdd, Nat.reduceEqDiff, HSL.out] at hK ⊢
      simp only [e17] at hK ⊢
      clear e17
      go_wp2_with (fail)
      exact hK _ _ (Below.refl _ _) rfl
     ·intro xq w1 hb1 hx K hK0
      have hK := fun v w' hb => hK0 v w' (.inl hb)
      have e13 : xq 13 = .int .i64 y := hx 3 (by rfl) (by rfl)
      have e18 : xq 18 = .int .i64 x := hx 8 (by rfl) (by rfl)
      clear hx hKc hK0
      simp only [frameOf, fill, setSlot, sg, Nat.reduceBEq, if_true, if_false, Nat.reduceAdd, Nat.reduceEqDiff, HSL.out] at hK ⊢
      simp only [e13, e18] at hK ⊢
      clear e13 e18
      go_wp2_with (fail)
      first | exact hK _ _ (Below.refl _ _) rfl | exact hK _ _ (Below.refl _ _) (congrArg Value.bool (decide_eq_true (by omega)))
    ·intro xq w1 hb1 hx
     have e10 : xq 10 = .slice (some ⟨B, o, none⟩) xs.length c := hx 0 (by decide)
     have e11 : xq 11 = .int .i64 ((k + 1 : Nat) : Int) := hx 1 (by decide)
     have e12 : xq 12 = .pointer (some ⟨B, o + (k + 1), none⟩) := hx 2 (by decide)
     have e13 : xq 13 = .int .i64 y := hx 3 (by decide)
     have e14 : xq 14 = .slice (some ⟨B, o, none⟩) xs.length c := hx 4 (by decide)
     have e15 : xq 15 = .int .i64 ((k + 1 : Nat) : Int) := hx 5 (by decide)
     have e16 : xq 16 = .int .i64 (k : Int) := hx 6 (by decide)
     have e17 : xq 17 = .pointer (some ⟨B, o + k, none⟩) := hx 7 (by decide)
     have e18 : xq 18 = .int .i64 x := hx 8 (by decide)
     have e19 : xq 19 = .bool true := hx 9 (by decide)
     clear hx
     simp only [frameOf, fill, setSlot, sg, Nat.reduceBEq, if_true, if_false, Nat.reduceAdd, Nat.reduceEqDiff, HSL.out]
     simp only [e10, e11, e12, e13, e14, e15, e16, e17, e18, e19]
     clear e10 e11 e12 e13 e14 e15 e16 e17 e18 e19
     refine hKc _ _ ?_
     go_wp2_with fail
     go_ret
     exact ⟨by rw [inc_not HX.out HY.out (by omega)]; rfl, hb1⟩
  ·have hlt' : ¬ (i : Int) < xs.length := by omega
   have HE := Lib.hid (HF.out.all (by omega))
   go_wp2_with fail
   go_ret
   exact ⟨by rw [HE.out]; rfl, hBr⟩
set_option maxRecDepth 100000 in
set_option maxHeartbeats 1000000 in
theorem everyBound_any (b : Br) (A0 : Option Addr) (c0 n : Nat) (F : FuncId) (p : Int → Bool) (xs : List Int) (hcf : ∀ (args : Array Value) (w : World), (callFunc F args).run Tryz.prog w = .ok (.enter F args) w) (hF : ∀ h ∈ xs, ∀ w : World, Calls Tryz.prog F #[.agg #[.int .i64 b.cool, .int .i64 b.gangs, .int .i64 b.r0, .int .i64 b.r1, .int .i64 b.r2, .int .i64 b.r3, .int .i64 b.r4, .int .i64 b.r5, .slice A0 n c0], .int .i64 h] w fun e w' => e = .returned (.bool (p h)) ∧ Below w.heap.size w w')
  (A : Option Addr) (c : Nat) (w : World) (hA : IntsAt w A xs) (hl : xs.length ≤ 1000) :
  Calls Tryz.prog 68 #[.slice A xs.length c, .func (.func F) #[.agg #[.int .i64 b.cool, .int .i64 b.gangs, .int .i64 b.r0, .int .i64 b.r1, .int .i64 b.r2, .int .i64 b.r3, .int .i64 b.r4, .int .i64 b.r5, .slice A0 n c0]] #[]] w fun e w' => e = .returned (.bool (xs.all p)) ∧ Below w.heap.size w w' := by
 have HF := Lib.hid hF
 have HA := Lib.hid hA
 clear hF hA
 go_enter Tryz.func68, Tryz.ntmps68
 go_wp2_with fail
 go_loopw [9] (fun v9 wr => ∃ k : Nat, k ≤ xs.length ∧ v9 = .int .i64 k ∧ Hid (xs.all p = (xs.drop k).all p) ∧ Below w.heap.size w wr) (fun v9 _ => xs.length - (intOf v9).toNat)
 case atStart => exact ⟨0, Nat.zero_le _, rfl, rfl, Below.refl _ _⟩
 case round =>
  obtain ⟨k, hk, rfl, hp, hB⟩ := hrel
  by_cases hlt : k < xs.length
  ·have hx : xs[k]? = some xs[k] := List.getElem?_eq_getElem hlt
   obtain ⟨B, o, rfl, hc⟩ := (HA.out.up hB) (by omega)
   have c0 := hc k _ hx
   clear hc
   have HX := Lib.hid hx
   clear hx
   have hS := hB.size
   cases hq : p xs[k] with
   | true =>
    go_wp2_with ((with_reducible refine Calls.mono (HF.out _ (List.getElem_mem hlt) _) ?_); rintro e w2 ⟨rfl, hb2⟩; have hB2 : Below w.heap.size w w2 := Below.trans zg (hb2.mono (by first | omega | (simp; omega))))
    go_roundw
    case rel => exact ⟨k + 1, hlt, by go_num, by rw [hp.out, List.drop_eq_getElem_cons hlt, List.all_cons, hq, Bool.true_and]; exact rfl, hB2⟩
    case measure => simp [intOf]; omega
   | false =>
    go_wp2_with ((with_reducible refine Calls.mono (HF.out _ (List.getElem_mem hlt) _) ?_); rintro e w2 ⟨rfl, hb2⟩; have hB2 : Below w.heap.size w w2 := Below.trans zg (hb2.mono (by first | omega | (simp; omega))))
    go_ret
    have hfin : xs.all p = false := by rw [hp.out, List.drop_eq_getElem_cons hlt, List.all_cons, hq, Bool.false_and]
    exact ⟨by rw [hfin]; rfl, hB2⟩
  ·have hkl : k = xs.length := by omega
   go_wp2_with fail
   go_ret
   have hfin : xs.all p = true := by rw [hp.out, hkl, List.drop_length]; rfl
   exact ⟨by rw [hfin]; rfl, hB⟩
theorem cf_hasBin (args : Array Value) (w : World) : (callFunc 21 args).run Tryz.prog w = .ok (.enter 21 args) w := by kernel_rfl
set_option maxRecDepth 100000 in
set_option maxHeartbeats 40000000 in
theorem errorOf_any (b : Br) (A : Option Addr) (c n : Nat) (hn : n ≤ 1000) (P : Option Addr) (q : Nat) (p : List (List Int)) (w : World) (hP : PlanAt w P p) (hl : p.length ≤ 1000000) (hll : ∀ l ∈ p, l.length ≤ 1000) :
  Calls Tryz.prog 41 #[.agg #[.int .i64 b.cool, .int .i64 b.gangs, .int .i64 b.r0, .int .i64 b.r1, .int .i64 b.r2, .int .i64 b.r3, .int .i64 b.r4, .int .i64 b.r5, .slice A n c], .slice P p.length q] w fun e w' => e = .returned (.int .i64 (planErr n b.gangs p)) ∧ Below w.heap.size w w' := by
 have HP := Lib.hid hP
 have HLL := Lib.hid hll
 obtain ⟨E, hE⟩ : ∃ z, planErr n b.gangs p = z := ⟨_, rfl⟩
 rw [hE]
 have HEQ := Lib.hid hE
 clear hP hll hE
 by_cases hbig : 20000 < p.length
 ·have hbig' : (20000 : Int) < p.length := by omega
  have HE2 : Hid (E = 2) := Lib.hid (by rw [← HEQ.out]; unfold planErr; rw [if_pos hbig])
  go_enter Tryz.func41, Tryz.ntmps41
  go_wp2_with fail
  go_ret
  exact ⟨by rw [HE2.out]; rfl, zg⟩
 ·have hbig' : ¬ (20000 : Int) < p.length := by omega
  have HE0 : Hid (E = planErrs n b.gangs p) := Lib.hid (by rw [← HEQ.out]; unfold planErr; rw [if_neg hbig])
  go_enter Tryz.func41, Tryz.ntmps41
  go_wp2_with fail
  go_loopw [12] (fun v12 wr => ∃ k : Nat, v12 = .int .i64 (k : Int) ∧ k ≤ p.length ∧ Hid (E = planErrs n b.gangs (p.drop k)) ∧ Below w.heap.size w wr ∧ Holds wr w.heap.size 26 #[.int .i64 b.cool, .int .i64 b.gangs, .int .i64 b.r0, .int .i64 b.r1, .int .i64 b.r2, .int .i64 b.r3, .int .i64 b.r4, .int .i64 b.r5, .slice A n c]) (fun v12 _ => p.length - (intOf v12).toNat)
  case atStart => exact ⟨0, rfl, Nat.zero_le _, Lib.hid (by rw [List.drop_zero]; exact HE0.out), zg, by (repeat first | (with_reducible first | assumption | apply Holds.set4 | apply Holds.set2 | apply Holds.putL | ((refine Holds.new' _ _ ?_); (simp; done)) | refine Holds.alloc ?_ _ | refine Holds.drew ?_ | refine Holds.far ?_ (by simp only [ne_eq]; omega) _) | rfl)⟩
  case round =>
   obtain ⟨k, rfl, hk, hE, hB, hH⟩ := hrel
   have HB := Lib.hid hB
   have HH := Lib.hid hH
   have kb0 : wr.cell? ⟨w.heap.size, 0, none⟩ = some (.int .i64 b.cool) := hH.cell 0
   have kb1 : wr.cell? ⟨w.heap.size, 1, none⟩ = some (.int .i64 b.gangs) := hH.cell 1
   have kb2 : wr.cell? ⟨w.heap.size, 2, none⟩ = some (.int .i64 b.r0) := hH.cell 2
   have kb3 : wr.cell? ⟨w.heap.size, 3, none⟩ = some (.int .i64 b.r1) := hH.cell 3
   have kb4 : wr.cell? ⟨w.heap.size, 4, none⟩ = some (.int .i64 b.r2) := hH.cell 4
   have kb5 : wr.cell? ⟨w.heap.size, 5, none⟩ = some (.int .i64 b.r3) := hH.cell 5
   have kb6 : wr.cell? ⟨w.heap.size, 6, none⟩ = some (.int .i64 b.r4) := hH.cell 6
   have kb7 : wr.cell? ⟨w.heap.size, 7, none⟩ = some (.int .i64 b.r5) := hH.cell 7
   have kb8 : wr.cell? ⟨w.heap.size, 8, none⟩ = some (.slice A n c) := hH.cell 8
   have lb := hH.lt
   clear hB hH
   by_cases hlt : k < p.length
   ·have hlt' : (k : Int) < p.length := by omega
    obtain ⟨l, hl2⟩ : ∃ z, p[k]? = some z := ⟨_, List.getElem?_eq_getElem hlt⟩
    obtain ⟨B0, oo, rfl, hrow⟩ := (HP.out.up HB.out) (by omega)
    obtain ⟨LA, lc, kl, hI, -⟩ := hrow k l hl2
    have lP := World.block_lt_of_cell? wr _ kl
    have hlen : l.length ≤ 1000 := HLL.out l (List.mem_of_getElem? hl2)
    have HL2 := Lib.hid hl2
    have HI := Lib.hid hI
    clear hrow hl2 hI
    cases h1 : l.all (fun z => within z 0 ((n : Int) - 1)) with
    | false =>
     go_wp2_with (go_at_call 68; refine (everyBound_any b A c n 21 (fun z => within z 0 ((n : Int) - 1)) l cf_hasBin (fun z _ w => hasBin_any b A c n hn z w) LA lc _ (HI.out.up zg) hlen).mono ?_; simp only [h1]; rintro e w2 ⟨rfl, hb2⟩; have hB2 : Below w.heap.size w w2 := HB.out.trans (hb2.mono HB.out.size); have HH2 := Lib.hid (HH.out.up hb2); have kb21 : w2.cell? ⟨w.heap.size, 1, none⟩ = some (.int .i64 b.gangs) := HH2.out.cell 1; have lb2 := HH2.out.lt)
     go_ret
     exact ⟨by rw [hE.out, planErrs_at HL2.out (by rw [dayErr_not h1]; decide), dayErr_not h1]; rfl, hB2⟩
    | true =>
     cases h2 : incFrom l with
     | false =>
      go_wp2_with (first | (go_at_call 68; refine (everyBound_any b A c n 21 (fun z => within z 0 ((n : Int) - 1)) l cf_hasBin (fun z _ w => hasBin_any b A c n hn z w) LA lc _ (HI.out.up zg) hlen).mono ?_; simp only [h1]; rintro e w2 ⟨rfl, hb2⟩; have hB2 : Below w.heap.size w w2 := HB.out.trans (hb2.mono HB.out.size); have HH2 := Lib.hid (HH.out.up hb2); have kb21 : w2.cell? ⟨w.heap.size, 1, none⟩ = some (.int .i64 b.gangs) := HH2.out.cell 1; have lb2 := HH2.out.lt) | (go_at_call 74; refine (isIncreasing_any LA lc l _ (HI.out.up (by first | exact hb2 | (repeat' (first | (with_reducible first | exact Below.refl _ _ | assumption | refine Below.alloc ?_ ?_ _ | refine Below.drew ?_ | refine Below.setCell ?_ ?_ _ | exact Nat.le_refl _) | omega | (simp only [World.size_alloc, World.size_setCell, World.size_drew]; omega) | (simp; omega) | (simp; done))))) hlen).mono ?_; simp only [h2]; rintro e w3 ⟨rfl, hb3⟩; have hB3 : Below w.heap.size w w3 := hB2.trans (hb3.mono hB2.size); have HH3 := Lib.hid (HH2.out.up hb3); have kb31 : w3.cell? ⟨w.heap.size, 1, none⟩ = some (.int .i64 b.gangs) := HH3.out.cell 1; have lb3 := HH3.out.lt))
      go_ret
      exact ⟨by rw [hE.out, planErrs_at HL2.out (by rw [dayErr_order h1 h2]; decide), dayErr_order h1 h2]; rfl, hB3⟩
     | true =>
      by_cases h3 : b.gangs < l.length
      ·go_wp2_with (first | (go_at_call 68; refine (everyBound_any b A c n 21 (fun z => within z 0 ((n : Int) - 1)) l cf_hasBin (fun z _ w => hasBin_any b A c n hn z w) LA lc _ (HI.out.up zg) hlen).mono ?_; simp only [h1]; rintro e w2 ⟨rfl, hb2⟩; have hB2 : Below w.heap.size w w2 := HB.out.trans (hb2.mono HB.out.size); have HH2 := Lib.hid (HH.out.up hb2); have kb21 : w2.cell? ⟨w.heap.size, 1, none⟩ = some (.int .i64 b.gangs) := HH2.out.cell 1; have lb2 := HH2.out.lt) | (go_at_call 74; refine (isIncreasing_any LA lc l _ (HI.out.up (by first | exact hb2 | (repeat' (first | (with_reducible first | exact Below.refl _ _ | assumption | refine Below.alloc ?_ ?_ _ | refine Below.drew ?_ | refine Below.setCell ?_ ?_ _ | exact Nat.le_refl _) | omega | (simp only [World.size_alloc, World.size_setCell, World.size_drew]; omega) | (simp; omega) | (simp; done))))) hlen).mono ?_; simp only [h2]; rintro e w3 ⟨rfl, hb3⟩; have hB3 : Below w.heap.size w w3 := hB2.trans (hb3.mono hB2.size); have HH3 := Lib.hid (HH2.out.up hb3); have kb31 : w3.cell? ⟨w.heap.size, 1, none⟩ = some (.int .i64 b.gangs) := HH3.out.cell 1; have lb3 := HH3.out.lt))
       go_ret
       exact ⟨by rw [hE.out, planErrs_at HL2.out (by rw [dayErr_full h1 h2 h3]; decide), dayErr_full h1 h2 h3]; rfl, hB3⟩
      ·have h3' : (l.length : Int) ≤ b.gangs := by omega
       go_wp2_with (first | (go_at_call 68; refine (everyBound_any b A c n 21 (fun z => within z 0 ((n : Int) - 1)) l cf_hasBin (fun z _ w => hasBin_any b A c n hn z w) LA lc _ (HI.out.up zg) hlen).mono ?_; simp only [h1]; rintro e w2 ⟨rfl, hb2⟩; have hB2 : Below w.heap.size w w2 := HB.out.trans (hb2.mono HB.out.size); have HH2 := Lib.hid (HH.out.up hb2); have kb21 : w2.cell? ⟨w.heap.size, 1, none⟩ = some (.int .i64 b.gangs) := HH2.out.cell 1; have lb2 := HH2.out.lt) | (go_at_call 74; refine (isIncreasing_any LA lc l _ (HI.out.up (by first | exact hb2 | (repeat' (first | (with_reducible first | exact Below.refl _ _ | assumption | refine Below.alloc ?_ ?_ _ | refine Below.drew ?_ | refine Below.setCell ?_ ?_ _ | exact Nat.le_refl _) | omega | (simp only [World.size_alloc, World.size_setCell, World.size_drew]; omega) | (simp; omega) | (simp; done))))) hlen).mono ?_; simp only [h2]; rintro e w3 ⟨rfl, hb3⟩; have hB3 : Below w.heap.size w w3 := hB2.trans (hb3.mono hB2.size); have HH3 := Lib.hid (HH2.out.up hb3); have kb31 : w3.cell? ⟨w.heap.size, 1, none⟩ = some (.int .i64 b.gangs) := HH3.out.cell 1; have lb3 := HH3.out.lt))
       go_roundw
       case rel => exact ⟨k + 1, by go_num, hlt, Lib.hid (hE.out.trans (planErrs_next HL2.out (dayErr_ok h1 h2 (by omega)))), hB3, HH3.out⟩
       case measure => first | (simp [intOf]; done) | (simp [intOf]; omega)
   ·have hkl : k = p.length := by omega
    have hlt' : ¬ (k : Int) < p.length := by omega
    have HZ : Hid (E = 0) := Lib.hid (by rw [hE.out, hkl, List.drop_length]; rfl)
    go_wp2_with fail
    go_ret
    exact ⟨by rw [HZ.out]; rfl, HB.out⟩
def checkErr (b : Br) (bs : List Bn) (p : List (List Int)) : Int := if barnErr b bs ≠ 0 then barnErr b bs else planErr bs.length b.gangs p
set_option maxRecDepth 100000 in
set_option maxHeartbeats 40000000 in
theorem checkPlan_any (b : Br) (A : Option Addr) (c : Nat) (bs : List Bn) (P : Option Addr) (q : Nat) (p : List (List Int)) (w : World) (hA : BinsAt w A bs) (hl : bs.length ≤ 1000) (hP : PlanAt w P p) (hpl : p.length ≤ 1000000) (hll : ∀ l ∈ p, l.length ≤ 1000) :
  Calls Tryz.prog 20 #[.agg #[.int .i64 b.cool, .int .i64 b.gangs, .int .i64 b.r0, .int .i64 b.r1, .int .i64 b.r2, .int .i64 b.r3, .int .i64 b.r4, .int .i64 b.r5, .slice A bs.length c], .slice P p.length q] w fun e w' => e = .returned (.int .i64 (checkErr b bs p)) ∧ Below w.heap.size w w' := by
 have HA := Lib.hid hA
 have HP := Lib.hid hP
 have HLL := Lib.hid hll
 clear hA hP hll
 obtain ⟨E, hE⟩ : ∃ z, barnErr b bs = z := ⟨_, rfl⟩
 have HE := Lib.hid hE
 by_cases h0 : E = 0
 ·subst h0
  have HC : Hid (checkErr b bs p = planErr bs.length b.gangs p) := Lib.hid (by unfold checkErr; rw [if_neg (by simp [HE.out])])
  rw [HC.out]
  obtain ⟨D, hD⟩ : ∃ z, planErr bs.length b.gangs p = z := ⟨_, rfl⟩
  rw [hD]
  have HD := Lib.hid hD
  clear hD hE
  go_enter Tryz.func20, Tryz.ntmps20
  go_wp2_with fail
  refine (Check_any b A c bs _ (HA.out.up zg) hl).mono ?_
  rw [HE.out]
  rintro e w1 ⟨rfl, hb1⟩
  have Hb1 := Lib.hid (Holds.up (zp0 : Holds _ (w.heap.size) 26 #[.int .i64 b.cool, .int .i64 b.gangs, .int .i64 b.r0, .int .i64 b.r1, .int .i64 b.r2, .int .i64 b.r3, .int .i64 b.r4, .int .i64 b.r5, .slice A bs.length c]) hb1)
  have HS1 : Hid (Below w.heap.size w w1) := Lib.hid (Below.trans zg (hb1.mono (by first | exact Nat.le_refl _ | omega | (simp; done) | (simp; omega))))
  have HB1 := HS1
  have hs1 := HB1.out.size
  have hst1 := HS1.out.size
  have HA1 := Lib.hid (HA.out.up HS1.out)
  have HP1 := Lib.hid (HP.out.up HS1.out)
  clear hb1
  have kb0 : w1.cell? ⟨w.heap.size, 0, none⟩ = some (.int .i64 b.cool) := Hb1.out.cell 0
  have kb1 : w1.cell? ⟨w.heap.size, 1, none⟩ = some (.int .i64 b.gangs) := Hb1.out.cell 1
  have kb2 : w1.cell? ⟨w.heap.size, 2, none⟩ = some (.int .i64 b.r0) := Hb1.out.cell 2
  have kb3 : w1.cell? ⟨w.heap.size, 3, none⟩ = some (.int .i64 b.r1) := Hb1.out.cell 3
  have kb4 : w1.cell? ⟨w.heap.size, 4, none⟩ = some (.int .i64 b.r2) := Hb1.out.cell 4
  have kb5 : w1.cell? ⟨w.heap.size, 5, none⟩ = some (.int .i64 b.r3) := Hb1.out.cell 5
  have kb6 : w1.cell? ⟨w.heap.size, 6, none⟩ = some (.int .i64 b.r4) := Hb1.out.cell 6
  have kb7 : w1.cell? ⟨w.heap.size, 7, none⟩ = some (.int .i64 b.r5) := Hb1.out.cell 7
  have kb8 : w1.cell? ⟨w.heap.size, 8, none⟩ = some (.slice A bs.length c) := Hb1.out.cell 8
  have lt_b : w.heap.size < w1.heap.size := Hb1.out.lt
  go_wp2_with fail
  refine (errorOf_any b A c bs.length hl P q p _ (HP1.out.up zg) hpl HLL.out).mono ?_
  rw [HD.out]
  rintro e w2 ⟨rfl, hb2⟩
  have Hb2 := Lib.hid (Holds.up (by have h := Hb1.out; exact zp0 : Holds _ (w.heap.size) 26 #[.int .i64 b.cool, .int .i64 b.gangs, .int .i64 b.r0, .int .i64 b.r1, .int .i64 b.r2, .int .i64 b.r3, .int .i64 b.r4, .int .i64 b.r5, .slice A bs.length c]) hb2)
  have HS2 : Hid (Below w1.heap.size w1 w2) := Lib.hid (Below.trans zg (hb2.mono (by first | exact Nat.le_refl _ | omega | (simp; done) | (simp; omega))))
  have HB2 : Hid (Below w.heap.size w w2) := Lib.hid (HB1.out.trans (HS2.out.mono hs1))
  have hs2 := HB2.out.size
  have hst2 := HS2.out.size
  have HA2 := Lib.hid (HA1.out.up HS2.out)
  have HP2 := Lib.hid (HP1.out.up HS2.out)
  clear hb2
  clear kb0 kb1 kb2 kb3 kb4 kb5 kb6 kb7 kb8 lt_b
  go_wp2_with fail
  go_ret
  exact ⟨rfl, HB2.out⟩
 ·have HC : Hid (checkErr b bs p = E) := Lib.hid (by unfold checkErr; rw [HE.out, if_pos h0])
  rw [HC.out]
  have hq : (E != 0) = true := by simpa using h0
  have hq2 : (E == 0) = false := by simpa using h0
  clear hE
  go_enter Tryz.func20, Tryz.ntmps20
  go_wp2_with fail
  refine (Check_any b A c bs _ (HA.out.up zg) hl).mono ?_
  rw [HE.out]
  rintro e w1 ⟨rfl, hb1⟩
  have Hb1 := Lib.hid (Holds.up (zp0 : Holds _ (w.heap.size) 26 #[.int .i64 b.cool, .int .i64 b.gangs, .int .i64 b.r0, .int .i64 b.r1, .int .i64 b.r2, .int .i64 b.r3, .int .i64 b.r4, .int .i64 b.r5, .slice A bs.length c]) hb1)
  have HS1 : Hid (Below w.heap.size w w1) := Lib.hid (Below.trans zg (hb1.mono (by first | exact Nat.le_refl _ | omega | (simp; done) | (simp; omega))))
  have HB1 := HS1
  have hs1 := HB1.out.size
  have hst1 := HS1.out.size
  have HA1 := Lib.hid (HA.out.up HS1.out)
  have HP1 := Lib.hid (HP.out.up HS1.out)
  clear hb1
  go_wp2_with fail
  go_ret
  exact ⟨rfl, HB1.out⟩
theorem Holds.set9 {w : World} {B : Nat} {t : TypeId} {a0 a1 a2 a3 a4 a5 a6 a7 a8 : Value} (u0 u1 u2 u3 u4 u5 u6 u7 u8 : Value) (h : Holds w B t #[a0, a1, a2, a3, a4, a5, a6, a7, a8]) : Holds (((((((((w.setCell ⟨B, 0, none⟩ u0).setCell ⟨B, 1, none⟩ u1).setCell ⟨B, 2, none⟩ u2).setCell ⟨B, 3, none⟩ u3).setCell ⟨B, 4, none⟩ u4).setCell ⟨B, 5, none⟩ u5).setCell ⟨B, 6, none⟩ u6).setCell ⟨B, 7, none⟩ u7).setCell ⟨B, 8, none⟩ u8) B t #[u0, u1, u2, u3, u4, u5, u6, u7, u8] := (((((((((h.setL 0 _).setL 1 _).setL 2 _).setL 3 _).setL 4 _).setL 5 _).setL 6 _).setL 7 _).setL 8 _)
theorem info_bin : (Tryz.prog.info? 46).map (fun i => (i.zero, i.size, i.bytes)) = some (some (.agg #[.int .i64 0, .int .i64 0, .int .i64 0, .int .i64 0]), 4, 32) := by kernel_rfl
theorem und_bins : Tryz.prog.underlying 24 = some (.slice 46) := by kernel_rfl
def OwnInts (w : World) (B : Nat) (v : Value) (xs : List Int) : Prop := w.ownsRow B 3 1 v xs.length (xs.map (Value.int .i64))
theorem OwnInts.up {w w' : World} {B : Nat} {v : Value} {xs : List Int} (h : OwnInts w B v xs) (hb : Below w.heap.size w w') : OwnInts w' B v xs := rowq_up h hb
theorem OwnInts.at_ {w : World} {B : Nat} {v : Value} {xs : List Int} (h : OwnInts w B v xs) : ∃ A c, v = .slice A xs.length c ∧ xs.length ≤ c ∧ (A = none → xs.length = 0 ∧ c = 0) ∧ IntsAt w A xs := by
 obtain ⟨A, c, rfl, hc, hn, hat⟩ := rowq_val h
 refine ⟨A, c, rfl, hc, hn, fun hp => ?_⟩
 obtain ⟨g, rfl, _, hcell⟩ := hat hp
 exact ⟨g, 0, rfl, fun k x hx => by rw [Nat.zero_add]; exact hcell k _ (by rw [List.getElem?_map, hx]; rfl)⟩
theorem info_int : (Tryz.prog.info? 3).map (fun i => (i.zero, i.size, i.bytes)) = some (some (.int .i64 0), 1, 8) := by kernel_rfl
theorem und_ints : Tryz.prog.underlying 43 = some (.slice 3) := by kernel_rfl
def warmList (cool r k : Int) : Int → List (List Int) → List Int
 | _, [] => []
 | g, l :: p => ((if l.contains k then min g cool else g) + r) :: warmList cool r k ((if l.contains k then min g cool else g) + r) p
theorem warm_len (cool r k : Int) : ∀ (p : List (List Int)) (g : Int), (warmList cool r k g p).length = p.length := by
 intro p
 induction p with
 | nil => intro g; rfl
 | cons l p ih => intro g; rw [warmList, List.length_cons, ih, List.length_cons]
theorem info_ints : (Tryz.prog.info? 43).map (fun i => (i.zero, i.size, i.bytes)) = some (some (.slice none 0 0), 1, 24) := by kernel_rfl
theorem und_rows : Tryz.prog.underlying 30 = some (.slice 43) := by kernel_rfl
set_option maxRecDepth 100000 in
set_option maxHeartbeats 4000000 in
theorem Rises_ok (b : Br) (A : Option Addr) (c : Nat) (bs : List Bn) (w : World) (hA : BinsAt w A bs) (hl : bs.length ≤ 1000) (hE : barnErr b bs = 0) (k : Nat) (x : Bn) (hx : bs[k]? = some x) :
  Calls Tryz.prog 11 #[.agg #[.int .i64 b.cool, .int .i64 b.gangs, .int .i64 b.r0, .int .i64 b.r1, .int .i64 b.r2, .int .i64 b.r3, .int .i64 b.r4, .int .i64 b.r5, .slice A bs.length c], .int .i64 (k : Int)] w fun e w' => e = .returned (.tuple #[.agg #[.int .i64 (b.rise x.lo), .int .i64 (b.rise x.hi)], .int .i64 0]) ∧ Below w.heap.size w w' := by
 have HA := Lib.hid hA
 clear hA
 have hin : within (k : Int) 0 ((bs.length : Int) - 1) = true := by simp only [within, Bool.and_eq_true, decide_eq_true_eq]; have := (List.getElem?_eq_some_iff.1 hx).1; omega
 have hbe := binErr_ok hE hin
 obtain ⟨l, m, hlo, hhi, hl6, hm6, -⟩ := good_bin hE hx
 rw [hlo, hhi]
 have HLO := Lib.hid hlo
 have HHI := Lib.hid hhi
 clear hlo hhi
 have HBE := Lib.hid hbe
 have HX := Lib.hid hx
 have HEE := Lib.hid hE
 clear hbe hx hE hin
 go_enter Tryz.func11, Tryz.ntmps11
 go_wp2_with fail
 refine (checkBin_any b A c bs (k : Int) _ (HA.out.up zg) hl).mono ?_
 rw [HBE.out]
 rintro e w1 ⟨rfl, hb1⟩
 have Hb1 := Lib.hid (Holds.up (zp0 : Holds _ (w.heap.size) 26 #[.int .i64 b.cool, .int .i64 b.gangs, .int .i64 b.r0, .int .i64 b.r1, .int .i64 b.r2, .int .i64 b.r3, .int .i64 b.r4, .int .i64 b.r5, .slice A bs.length c]) hb1)
 have Hr1 := Lib.hid (Holds.up (zp0 : Holds _ (w.heap.size + 1) 40 #[.int .i64 0, .int .i64 0]) hb1)
 have HS1 : Hid (Below w.heap.size w w1) := Lib.hid (Below.trans zg (hb1.mono (by first | exact Nat.le_refl _ | omega | (simp; done) | (simp; omega))))
 have HB1 := HS1
 have hs1 := HB1.out.size
 have hst1 := HS1.out.size
 have HA1 := Lib.hid (HA.out.up HS1.out)
 clear hb1
 have kb0 : w1.cell? ⟨w.heap.size, 0, none⟩ = some (.int .i64 b.cool) := Hb1.out.cell 0
 have kb1 : w1.cell? ⟨w.heap.size, 1, none⟩ = some (.int .i64 b.gangs) := Hb1.out.cell 1
 have kb2 : w1.cell? ⟨w.heap.size, 2, none⟩ = some (.int .i64 b.r0) := Hb1.out.cell 2
 have kb3 : w1.cell? ⟨w.heap.size, 3, none⟩ = some (.int .i64 b.r1) := Hb1.out.cell 3
 have kb4 : w1.cell? ⟨w.heap.size, 4, none⟩ = some (.int .i64 b.r2) := Hb1.out.cell 4
 have kb5 : w1.cell? ⟨w.heap.size, 5, none⟩ = some (.int .i64 b.r3) := Hb1.out.cell 5
 have kb6 : w1.cell? ⟨w.heap.size, 6, none⟩ = some (.int .i64 b.r4) := Hb1.out.cell 6
 have kb7 : w1.cell? ⟨w.heap.size, 7, none⟩ = some (.int .i64 b.r5) := Hb1.out.cell 7
 have kb8 : w1.cell? ⟨w.heap.size, 8, none⟩ = some (.slice A bs.length c) := Hb1.out.cell 8
 have lt_b : w.heap.size < w1.heap.size := Hb1.out.lt
 obtain ⟨kr0, kr1⟩ := Hr1.out.c2
 obtain ⟨zr0, zr1⟩ := Hr1.out.f2
 have lt_r : w.heap.size + 1 < w1.heap.size := Hr1.out.lt
 go_wp2_with fail
 refine (rises_any b A c bs _ (HA1.out.up zg) hl k x HX.out l m HLO.out HHI.out hl6 hm6).mono ?_
 rintro e w2 ⟨rfl, hb2⟩
 have Hb2 := Lib.hid (Holds.up (by have h := Hb1.out; exact zp0 : Holds _ (w.heap.size) 26 #[.int .i64 b.cool, .int .i64 b.gangs, .int .i64 b.r0, .int .i64 b.r1, .int .i64 b.r2, .int .i64 b.r3, .int .i64 b.r4, .int .i64 b.r5, .slice A bs.length c]) hb2)
 have Hr2 := Lib.hid (Holds.up (by have h := Hr1.out; exact zp0 : Holds _ (w.heap.size + 1) 40 #[.int .i64 0, .int .i64 0]) hb2)
 have HS2 : Hid (Below w1.heap.size w1 w2) := Lib.hid (Below.trans zg (hb2.mono (by first | exact Nat.le_refl _ | omega | (simp; done) | (simp; omega))))
 have HB2 : Hid (Below w.heap.size w w2) := Lib.hid (HB1.out.trans (HS2.out.mono hs1))
 have hs2 := HB2.out.size
 have hst2 := HS2.out.size
 have HA2 := Lib.hid (HA1.out.up HS2.out)
 clear hb2
 clear kb0 kb1 kb2 kb3 kb4 kb5 kb6 kb7 kb8 lt_b kr0 kr1 zr0 zr1 lt_r
 obtain ⟨kr0, kr1⟩ := Hr2.out.c2
 obtain ⟨zr0, zr1⟩ := Hr2.out.f2
 have lt_r : w.heap.size + 1 < w2.heap.size := Hr2.out.lt
 go_wp2_with fail
 refine ret_cell2 (t := 40) (cs := #[.int .i64 (b.rise l), .int .i64 (b.rise m)]) rfl rfl rfl (Holds.set2 _ _ Hr2.out) Tryz.underlying40 rfl (by kernel_rfl) rfl ⟨rfl, HB2.out.trans zg⟩
set_option maxRecDepth 100000 in
set_option maxHeartbeats 4000000 in
theorem Left_ok (b : Br) (A : Option Addr) (c : Nat) (bs : List Bn) (w : World) (hA : BinsAt w A bs) (hl : bs.length ≤ 1000) (hE : barnErr b bs = 0) (k : Nat) (x : Bn) (hx : bs[k]? = some x) :
  Calls Tryz.prog 9 #[.agg #[.int .i64 b.cool, .int .i64 b.gangs, .int .i64 b.r0, .int .i64 b.r1, .int .i64 b.r2, .int .i64 b.r3, .int .i64 b.r4, .int .i64 b.r5, .slice A bs.length c], .int .i64 (k : Int)] w fun e w' => e = .returned (.tuple #[.int .i64 (daysOf (b.rise x.hi) x.warm x.mark), .int .i64 0]) ∧ Below w.heap.size w w' := by
 have HA := Lib.hid hA
 clear hA
 have hin : within (k : Int) 0 ((bs.length : Int) - 1) = true := by simp only [within, Bool.and_eq_true, decide_eq_true_eq]; have := (List.getElem?_eq_some_iff.1 hx).1; omega
 have hbe := binErr_ok hE hin
 obtain ⟨D, hD⟩ : ∃ z, daysOf (b.rise x.hi) x.warm x.mark = z := ⟨_, rfl⟩
 rw [hD]
 have HD := Lib.hid hD
 clear hD
 have HBE := Lib.hid hbe
 have HX := Lib.hid hx
 have HEE := Lib.hid hE
 clear hbe hx hE hin
 go_enter Tryz.func9, Tryz.ntmps9
 go_wp2_with fail
 refine (checkBin_any b A c bs (k : Int) _ (HA.out.up zg) hl).mono ?_
 rw [HBE.out]
 rintro e w1 ⟨rfl, hb1⟩
 have Hb1 := Lib.hid (Holds.up (zp0 : Holds _ (w.heap.size) 26 #[.int .i64 b.cool, .int .i64 b.gangs, .int .i64 b.r0, .int .i64 b.r1, .int .i64 b.r2, .int .i64 b.r3, .int .i64 b.r4, .int .i64 b.r5, .slice A bs.length c]) hb1)
 have HS1 : Hid (Below w.heap.size w w1) := Lib.hid (Below.trans zg (hb1.mono (by first | exact Nat.le_refl _ | omega | (simp; done) | (simp; omega))))
 have HB1 := HS1
 have hs1 := HB1.out.size
 have hst1 := HS1.out.size
 have HA1 := Lib.hid (HA.out.up HS1.out)
 clear hb1
 have kb0 : w1.cell? ⟨w.heap.size, 0, none⟩ = some (.int .i64 b.cool) := Hb1.out.cell 0
 have kb1 : w1.cell? ⟨w.heap.size, 1, none⟩ = some (.int .i64 b.gangs) := Hb1.out.cell 1
 have kb2 : w1.cell? ⟨w.heap.size, 2, none⟩ = some (.int .i64 b.r0) := Hb1.out.cell 2
 have kb3 : w1.cell? ⟨w.heap.size, 3, none⟩ = some (.int .i64 b.r1) := Hb1.out.cell 3
 have kb4 : w1.cell? ⟨w.heap.size, 4, none⟩ = some (.int .i64 b.r2) := Hb1.out.cell 4
 have kb5 : w1.cell? ⟨w.heap.size, 5, none⟩ = some (.int .i64 b.r3) := Hb1.out.cell 5
 have kb6 : w1.cell? ⟨w.heap.size, 6, none⟩ = some (.int .i64 b.r4) := Hb1.out.cell 6
 have kb7 : w1.cell? ⟨w.heap.size, 7, none⟩ = some (.int .i64 b.r5) := Hb1.out.cell 7
 have kb8 : w1.cell? ⟨w.heap.size, 8, none⟩ = some (.slice A bs.length c) := Hb1.out.cell 8
 have lt_b : w.heap.size < w1.heap.size := Hb1.out.lt
 go_wp2_with fail
 refine (left_any b A c bs _ (HA1.out.up zg) hl HEE.out k x HX.out).mono ?_
 rw [HD.out]
 rintro e w2 ⟨rfl, hb2⟩
 have Hb2 := Lib.hid (Holds.up (by have h := Hb1.out; exact zp0 : Holds _ (w.heap.size) 26 #[.int .i64 b.cool, .int .i64 b.gangs, .int .i64 b.r0, .int .i64 b.r1, .int .i64 b.r2, .int .i64 b.r3, .int .i64 b.r4, .int .i64 b.r5, .slice A bs.length c]) hb2)
 have HS2 : Hid (Below w1.heap.size w1 w2) := Lib.hid (Below.trans zg (hb2.mono (by first | exact Nat.le_refl _ | omega | (simp; done) | (simp; omega))))
 have HB2 : Hid (Below w.heap.size w w2) := Lib.hid (HB1.out.trans (HS2.out.mono hs1))
 have hs2 := HB2.out.size
 have hst2 := HS2.out.size
 have HA2 := Lib.hid (HA1.out.up HS2.out)
 clear hb2
 clear kb0 kb1 kb2 kb3 kb4 kb5 kb6 kb7 kb8 lt_b
 go_wp2_with fail
 refine ret_two rfl rfl ?_
 exact ⟨rfl, HB2.out⟩
set_option maxRecDepth 100000 in
set_option maxHeartbeats 4000000 in
theorem Lasts_ok (b : Br) (A : Option Addr) (c : Nat) (bs : List Bn) (w : World) (hA : BinsAt w A bs) (hl : bs.length ≤ 1000) (hE : barnErr b bs = 0) (k : Nat) (x : Bn) (hx : bs[k]? = some x) :
  Calls Tryz.prog 10 #[.agg #[.int .i64 b.cool, .int .i64 b.gangs, .int .i64 b.r0, .int .i64 b.r1, .int .i64 b.r2, .int .i64 b.r3, .int .i64 b.r4, .int .i64 b.r5, .slice A bs.length c], .int .i64 (k : Int)] w fun e w' => e = .returned (.tuple #[.int .i64 (daysOf (b.rise x.hi) b.cool x.mark), .int .i64 0]) ∧ Below w.heap.size w w' := by
 have HA := Lib.hid hA
 clear hA
 have hin : within (k : Int) 0 ((bs.length : Int) - 1) = true := by simp only [within, Bool.and_eq_true, decide_eq_true_eq]; have := (List.getElem?_eq_some_iff.1 hx).1; omega
 have hbe := binErr_ok hE hin
 obtain ⟨D, hD⟩ : ∃ z, daysOf (b.rise x.hi) b.cool x.mark = z := ⟨_, rfl⟩
 rw [hD]
 have HD := Lib.hid hD
 clear hD
 have HBE := Lib.hid hbe
 have HX := Lib.hid hx
 have HEE := Lib.hid hE
 clear hbe hx hE hin
 go_enter Tryz.func10, Tryz.ntmps10
 go_wp2_with fail
 refine (checkBin_any b A c bs (k : Int) _ (HA.out.up zg) hl).mono ?_
 rw [HBE.out]
 rintro e w1 ⟨rfl, hb1⟩
 have Hb1 := Lib.hid (Holds.up (zp0 : Holds _ (w.heap.size) 26 #[.int .i64 b.cool, .int .i64 b.gangs, .int .i64 b.r0, .int .i64 b.r1, .int .i64 b.r2, .int .i64 b.r3, .int .i64 b.r4, .int .i64 b.r5, .slice A bs.length c]) hb1)
 have HS1 : Hid (Below w.heap.size w w1) := Lib.hid (Below.trans zg (hb1.mono (by first | exact Nat.le_refl _ | omega | (simp; done) | (simp; omega))))
 have HB1 := HS1
 have hs1 := HB1.out.size
 have hst1 := HS1.out.size
 have HA1 := Lib.hid (HA.out.up HS1.out)
 clear hb1
 have kb0 : w1.cell? ⟨w.heap.size, 0, none⟩ = some (.int .i64 b.cool) := Hb1.out.cell 0
 have kb1 : w1.cell? ⟨w.heap.size, 1, none⟩ = some (.int .i64 b.gangs) := Hb1.out.cell 1
 have kb2 : w1.cell? ⟨w.heap.size, 2, none⟩ = some (.int .i64 b.r0) := Hb1.out.cell 2
 have kb3 : w1.cell? ⟨w.heap.size, 3, none⟩ = some (.int .i64 b.r1) := Hb1.out.cell 3
 have kb4 : w1.cell? ⟨w.heap.size, 4, none⟩ = some (.int .i64 b.r2) := Hb1.out.cell 4
 have kb5 : w1.cell? ⟨w.heap.size, 5, none⟩ = some (.int .i64 b.r3) := Hb1.out.cell 5
 have kb6 : w1.cell? ⟨w.heap.size, 6, none⟩ = some (.int .i64 b.r4) := Hb1.out.cell 6
 have kb7 : w1.cell? ⟨w.heap.size, 7, none⟩ = some (.int .i64 b.r5) := Hb1.out.cell 7
 have kb8 : w1.cell? ⟨w.heap.size, 8, none⟩ = some (.slice A bs.length c) := Hb1.out.cell 8
 have lt_b : w.heap.size < w1.heap.size := Hb1.out.lt
 go_wp2_with fail
 refine (lasts_any b A c bs _ (HA1.out.up zg) hl HEE.out k x HX.out).mono ?_
 rw [HD.out]
 rintro e w2 ⟨rfl, hb2⟩
 have Hb2 := Lib.hid (Holds.up (by have h := Hb1.out; exact zp0 : Holds _ (w.heap.size) 26 #[.int .i64 b.cool, .int .i64 b.gangs, .int .i64 b.r0, .int .i64 b.r1, .int .i64 b.r2, .int .i64 b.r3, .int .i64 b.r4, .int .i64 b.r5, .slice A bs.length c]) hb2)
 have HS2 : Hid (Below w1.heap.size w1 w2) := Lib.hid (Below.trans zg (hb2.mono (by first | exact Nat.le_refl _ | omega | (simp; done) | (simp; omega))))
 have HB2 : Hid (Below w.heap.size w w2) := Lib.hid (HB1.out.trans (HS2.out.mono hs1))
 have hs2 := HB2.out.size
 have hst2 := HS2.out.size
 have HA2 := Lib.hid (HA1.out.up HS2.out)
 clear hb2
 clear kb0 kb1 kb2 kb3 kb4 kb5 kb6 kb7 kb8 lt_b
 go_wp2_with fail
 refine ret_two rfl rfl ?_
 exact ⟨rfl, HB2.out⟩
theorem info_span : (Tryz.prog.info? 40).map (fun i => (i.zero, i.size, i.bytes)) = some (some (.agg #[.int .i64 0, .int .i64 0]), 2, 16) := by kernel_rfl
def OwnBins (w : World) (B : Nat) (t : TypeId) (v : Value) (bs : List Bn) : Prop := w.ownsRow B t 4 v bs.length (bs.flatMap Bn.cells)
theorem OwnBins.up {w w' : World} {B : Nat} {t : TypeId} {v : Value} {bs : List Bn} (h : OwnBins w B t v bs) (hb : Below w.heap.size w w') : OwnBins w' B t v bs := rowq_up h hb
theorem OwnBins.at_ {w : World} {B n c : Nat} {t : TypeId} {A : Option Addr} {bs : List Bn} (h : OwnBins w B t (.slice A n c) bs) : BinsAt w A bs ∧ (A = none → bs.length = 0 ∧ c = 0) := by
 obtain ⟨A', c', e, _, h2, h3⟩ := row_own Bn.len h
 cases e
 exact ⟨h3, h2⟩
theorem run_min (a b : Int) (ats : Array TypeId) (ty : TypeId) (w : World) : (Builtin.min_ ats ty #[.int .i64 a, .int .i64 b]).run Tryz.prog w = .ok (.int .i64 (min a b)) w := by
 have e : (if b < a then b else a) = min a b := by split <;> omega
 have h : (Builtin.min_ ats ty #[.int .i64 a, .int .i64 b]).run Tryz.prog w = .ok (.int .i64 (if b < a then b else a)) w := rfl
 rw [h, e]
def spCells (s : Int × Int) : List Value := [.int .i64 s.1, .int .i64 s.2]
theorem spLen (s : Int × Int) : (spCells s).length = 2 := rfl
theorem set_two : ∀ (ws : List (Int × Int)) (k : Nat) (a b : Int), k < ws.length → ((ws.flatMap spCells).set (k * 2) (.int .i64 a)).set (k * 2 + 1) (.int .i64 b) = (ws.set k (a, b)).flatMap spCells := by
 intro ws
 induction ws with
 | nil => intro k a b h; cases h
 | cons s ws ih =>
  intro k a b h
  cases k with
  | zero => simp [spCells]
  | succ k =>
   have h' : k < ws.length := by simpa using h
   have e := ih k a b h'
   rw [List.flatMap_cons, List.set_cons_succ, List.flatMap_cons]
   have e1 : (k + 1) * 2 = k * 2 + 1 + 1 := by omega
   have e2 : (k + 1) * 2 + 1 = k * 2 + 1 + 1 + 1 := by omega
   rw [e1]
   simp only [spCells, List.cons_append, List.nil_append, List.set_cons_succ]
   rw [e]
theorem set_lo : ∀ (ws : List (Int × Int)) (k : Nat) (s : Int × Int) (a : Int), ws[k]? = some s → (ws.flatMap spCells).set (k * 2) (.int .i64 a) = (ws.set k (a, s.2)).flatMap spCells := by
 intro ws k s a h
 have hl : k < ws.length := (List.getElem?_eq_some_iff.1 h).1
 rw [← set_two ws k a s.2 hl]
 have hq := flat_at spCells 2 spLen ws k 1 s h (by decide)
 have hlt := (List.getElem?_eq_some_iff.1 hq).1
 have hv : (ws.flatMap spCells)[k * 2 + 1] = .int .i64 s.2 := by have := (List.getElem?_eq_some_iff.1 hq).2; rw [this]
 apply List.ext_getElem?
 intro i
 by_cases hi : i = k * 2 + 1
 ·subst hi
  rw [List.getElem?_set_ne (by omega), List.getElem?_set_self (by simpa using hlt), List.getElem?_eq_getElem hlt, hv]
 ·rw [List.getElem?_set_ne (fun e => hi e.symm)]
theorem set_hi : ∀ (ws : List (Int × Int)) (k : Nat) (s : Int × Int) (a : Int), ws[k]? = some s → (ws.flatMap spCells).set (k * 2 + 1) (.int .i64 a) = (ws.set k (s.1, a)).flatMap spCells := by
 intro ws k s a h
 have hl : k < ws.length := (List.getElem?_eq_some_iff.1 h).1
 rw [← set_two ws k s.1 a hl]
 have hq := flat_at spCells 2 spLen ws k 0 s h (by decide)
 rw [Nat.add_zero] at hq
 have hlt := (List.getElem?_eq_some_iff.1 hq).1
 have hv : (ws.flatMap spCells)[k * 2] = .int .i64 s.1 := by have := (List.getElem?_eq_some_iff.1 hq).2; rw [this]
 congr 1
 apply List.ext_getElem?
 intro i
 by_cases hi : i = k * 2
 ·subst hi
  rw [List.getElem?_set_self hlt, List.getElem?_eq_getElem hlt, hv]
 ·rw [List.getElem?_set_ne (fun e => hi e.symm)]
theorem four_of {α : Type} {l : List α} (h : l.length = 4) : ∃ a b c d, l = [a, b, c, d] := by
 match l, h with
 | [a, b, c, d], _ => exact ⟨a, b, c, d, rfl⟩
theorem warm_cell {w : World} {B k : Nat} {t : TypeId} {ws : List (Int × Int)} {s : Int × Int} (h : Holds w B t (ws.flatMap spCells).toArray) (hs : ws[k]? = some s) : w.cell? ⟨B, k * 2, none⟩ = some (.int .i64 s.1) ∧ w.cell? ⟨B, k * 2 + 1, none⟩ = some (.int .i64 s.2) := by
 have q0 := flat_at spCells 2 spLen ws k 0 s hs (by decide)
 have q1 := flat_at spCells 2 spLen ws k 1 s hs (by decide)
 rw [Nat.add_zero] at q0
 exact ⟨(h.cell _).trans (by rw [List.getElem?_toArray]; exact q0), (h.cell _).trans (by rw [List.getElem?_toArray]; exact q1)⟩
def firstOf (bs : List Bn) (k : Nat) : List (Int × Int) := (bs.take k).map (fun x => (x.warm, x.warm)) ++ List.replicate (4 - k) (0, 0)
theorem first_len {bs : List Bn} {k : Nat} (hk : k ≤ bs.length) (h4 : bs.length ≤ 4) : (firstOf bs k).length = 4 := by
 unfold firstOf
 rw [List.length_append, List.length_map, List.length_take, List.length_replicate]
 omega
theorem first_step {bs : List Bn} {k : Nat} {x : Bn} (hx : bs[k]? = some x) (h4 : bs.length ≤ 4) : (firstOf bs k).set k (x.warm, x.warm) = firstOf bs (k + 1) := by
 have hk : k < bs.length := (List.getElem?_eq_some_iff.1 hx).1
 unfold firstOf
 have hl : ((bs.take k).map (fun x => (x.warm, x.warm))).length = k := by rw [List.length_map, List.length_take]; omega
 rw [List.set_append_right _ _ (by omega), hl, Nat.sub_self, List.take_add_one, hx, show 4 - k = (4 - (k + 1)) + 1 from by omega, List.replicate_succ, List.set_cons_zero]
 simp
set_option maxRecDepth 100000 in
set_option maxHeartbeats 40000000 in
theorem atFirst_any (b : Br) (A : Option Addr) (c : Nat) (bs : List Bn) (w : World) (hA : BinsAt w A bs) (hl : bs.length ≤ 4) :
  Calls Tryz.prog 44 #[.agg #[.int .i64 b.cool, .int .i64 b.gangs, .int .i64 b.r0, .int .i64 b.r1, .int .i64 b.r2, .int .i64 b.r3, .int .i64 b.r4, .int .i64 b.r5, .slice A bs.length c]] w fun e w' => e = .returned (.agg ((firstOf bs bs.length).flatMap spCells).toArray) ∧ Below w.heap.size w w' := by
 have HA := Lib.hid hA
 clear hA
 go_enter Tryz.func44, Tryz.ntmps44
 go_wp2_with fail
 go_loopw [9] (fun v9 wr => ∃ k : Nat, v9 = .int .i64 (k : Int) ∧ k ≤ bs.length ∧ Holds wr (w.heap.size + 1 + 1) 63 ((firstOf bs k).flatMap spCells).toArray ∧ Holds wr (w.heap.size + 1) 63 #[.int .i64 0, .int .i64 0, .int .i64 0, .int .i64 0, .int .i64 0, .int .i64 0, .int .i64 0, .int .i64 0] ∧ Below w.heap.size w wr) (fun v9 _ => bs.length - (intOf v9).toNat)
 case atStart => exact ⟨0, rfl, Nat.zero_le _, (show Holds _ (w.heap.size + 1 + 1) 63 #[.int .i64 0, .int .i64 0, .int .i64 0, .int .i64 0, .int .i64 0, .int .i64 0, .int .i64 0, .int .i64 0] from by (repeat first | (with_reducible first | assumption | apply Holds.set4 | apply Holds.set2 | apply Holds.putL | ((refine Holds.new' _ _ ?_); (simp; done)) | refine Holds.alloc ?_ _ | refine Holds.drew ?_ | refine Holds.far ?_ (by simp only [ne_eq]; omega) _) | rfl)), (show Holds _ (w.heap.size + 1) 63 #[.int .i64 0, .int .i64 0, .int .i64 0, .int .i64 0, .int .i64 0, .int .i64 0, .int .i64 0, .int .i64 0] from by (repeat first | (with_reducible first | assumption | apply Holds.set4 | apply Holds.set2 | apply Holds.putL | ((refine Holds.new' _ _ ?_); (simp; done)) | refine Holds.alloc ?_ _ | refine Holds.drew ?_ | refine Holds.far ?_ (by simp only [ne_eq]; omega) _) | rfl)), zg⟩
 case round =>
  obtain ⟨k, rfl, hk, hW, hR, hB⟩ := hrel
  have HB := Lib.hid hB
  have HW := Lib.hid hW
  have HR := Lib.hid hR
  clear hB hW hR
  by_cases hlt : k < bs.length
  ·have hlt' : (k : Int) < bs.length := by omega
   have hk4 : (k : Int) < 4 := by omega
   obtain ⟨x, hx⟩ : ∃ z, bs[k]? = some z := ⟨_, List.getElem?_eq_getElem hlt⟩
   obtain ⟨E0, oo, rfl, hcell⟩ := (HA.out.up HB.out) (by omega)
   have ke0 : wr.cell? ⟨E0, oo + k * 4, none⟩ = some (.int .i64 x.warm) := hcell k x hx 0 _ rfl
   have ke1 : wr.cell? ⟨E0, oo + k * 4 + 1, none⟩ = some (.int .i64 x.mark) := hcell k x hx 1 _ rfl
   have ke2 : wr.cell? ⟨E0, oo + k * 4 + 2, none⟩ = some (.int .i64 x.lo) := hcell k x hx 2 _ rfl
   have ke3 : wr.cell? ⟨E0, oo + k * 4 + 3, none⟩ = some (.int .i64 x.hi) := hcell k x hx 3 _ rfl
   have lE := World.block_lt_of_cell? wr _ ke0
   obtain ⟨s, hs⟩ : ∃ z, (firstOf bs k)[k]? = some z := ⟨_, List.getElem?_eq_getElem (by rw [first_len hk hl]; omega)⟩
   obtain ⟨kw0, kw1⟩ := warm_cell HW.out hs
   have zw0 := HW.out.frozen (k * 2)
   have zw1 := HW.out.frozen (k * 2 + 1)
   have ltW := HW.out.lt
   have ltR := HR.out.lt
   have HST := Lib.hid (first_step hx hl)
   have HFL := Lib.hid (first_len hk hl)
   clear hcell hx hs
   go_wp2_with fail
   go_roundw
   case rel => exact ⟨k + 1, by go_num, hlt, (by rw [← HST.out, ← set_two _ k _ _ (by rw [HFL.out]; omega)]; exact ((HW.out.setL _ _).setL _ _).alloc _), ((HR.out.far (p := ⟨w.heap.size + 1 + 1, k * 2, none⟩) (by simp only [ne_eq]; omega) _).far (p := ⟨w.heap.size + 1 + 1, k * 2 + 1, none⟩) (by simp only [ne_eq]; omega) _).alloc _, HB.out.trans zg⟩
   case measure => first | (simp [intOf]; done) | (simp [intOf]; omega)
  ·have hkl : k = bs.length := by omega
   subst hkl
   obtain ⟨s0, s1, s2, s3, e4⟩ := four_of (first_len (Nat.le_refl bs.length) hl)
   have H4 := Lib.hid e4
   have HW4 : Hid (Holds wr (w.heap.size + 1 + 1) 63 #[.int .i64 s0.1, .int .i64 s0.2, .int .i64 s1.1, .int .i64 s1.2, .int .i64 s2.1, .int .i64 s2.2, .int .i64 s3.1, .int .i64 s3.2]) := Lib.hid (by have h := HW.out; rw [e4] at h; exact h)
   clear e4
   obtain ⟨kw0, kw1, kw2, kw3, kw4, kw5, kw6, kw7⟩ := HW4.out.c8
   obtain ⟨kr0, kr1, kr2, kr3, kr4, kr5, kr6, kr7⟩ := HR.out.c8
   obtain ⟨zr0, zr1, zr2, zr3, zr4, zr5, zr6, zr7⟩ := HR.out.f8
   have ltW := HW4.out.lt
   have ltR := HR.out.lt
   go_wp2_with fail
   refine ret_cell (t := 63) (cs := #[.int .i64 s0.1, .int .i64 s0.2, .int .i64 s1.1, .int .i64 s1.2, .int .i64 s2.1, .int .i64 s2.2, .int .i64 s3.1, .int .i64 s3.2]) rfl rfl (Holds.set8 _ _ _ _ _ _ _ _ HR.out) Tryz.underlying63 rfl (by kernel_rfl) rfl ⟨by rw [H4.out]; rfl, HB.out.trans zg⟩
end Go.Proofs.YtokafjkinkafiaaGreat
