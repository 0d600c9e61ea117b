
import Derived.Test.YtdpgfaikmahmpaaKAA
import Derived.Test.YtdpgfaikmahmpaaKAC
import Derived.Test.YtdpgfaikmahmpaaKBJ
import Derived.Test.YtdpgfaikmahmpaaKBM
set_option linter.unusedSimpArgs false
set_option linter.unusedVariables false
namespace Go.Proofs.Ytdpgfaikmahmpaa
open Go.RowKit
theorem eqlIn_refHand (n : Nat) (s a b c d : Int) (w : World) : (Op.equalIn (n + 3) 42 (.agg #[.int .i64 s, .int .i64 a, .int .i64 b, .int .i64 c, .int .i64 d]) (.agg #[.int .i64 s, .int .i64 a, .int .i64 b, .int .i64 c, .int .i64 d])).run Try.prog w = .ok true w := by
 simp [go_sem, eqlIn_ints n a b c d, Result.andThen]
theorem neq_refHand (s a b c d : Int) (w : World) : (binOp .neq 42 (.agg #[.int .i64 s, .int .i64 a, .int .i64 b, .int .i64 c, .int .i64 d]) (.agg #[.int .i64 s, .int .i64 a, .int .i64 b, .int .i64 c, .int .i64 d])).run Try.prog w = .ok (.bool false) w := by
 rw [run_neq_struct, eqlIn_refHand]; rfl
set_option maxRecDepth 100000 in
set_option maxHeartbeats 4000000 in
theorem equalrefHand_same (A A' : Option Addr) (c c' : Nat) (hs : List Hf) (w : World) (hA : HandsAt w A hs) (hA' : HandsAt w A' hs) (hl : hs.length ≤ 1000) :
  Calls Try.prog 92 #[.slice A hs.length c, .slice A' hs.length c'] w fun e w' => e = .returned (.bool true) ∧ Below w.heap.size w w' := by
 have HA := Lib.hid hA
 have HA' := Lib.hid hA'
 clear hA hA'
 go_enter Try.func92, Try.ntmps92
 go_wp2_with fail
 go_loopw [13] (fun v13 wr => ∃ k : Nat, v13 = .int .i64 (k : Int) ∧ k ≤ hs.length ∧ Below w.heap.size w wr) (fun v13 _ => hs.length - (intOf v13).toNat)
 case atStart => exact ⟨0, rfl, Nat.zero_le _, Below.refl _ _⟩
 case round =>
  obtain ⟨k, rfl, hk, hBr⟩ := hrel
  by_cases hlt : k < hs.length
  ·obtain ⟨hf, hh⟩ : ∃ z, hs[k]? = some z := ⟨_, List.getElem?_eq_getElem hlt⟩
   obtain ⟨B, o, rfl, hc⟩ := HA.out (by omega)
   obtain ⟨B', o', rfl, hc'⟩ := HA'.out (by omega)
   obtain ⟨x0, x1, x2, x3, x4⟩ := hc k hf hh
   obtain ⟨y0, y1, y2, y3, y4⟩ := hc' k hf hh
   have hlB := World.block_lt_of_cell? w _ x0
   have hlB' := World.block_lt_of_cell? w _ y0
   have HX0 := Lib.hid x0
   have HY0 := Lib.hid y0
   have HX1 := Lib.hid x1
   have HY1 := Lib.hid y1
   have HX2 := Lib.hid x2
   have HY2 := Lib.hid y2
   have HX3 := Lib.hid x3
   have HY3 := Lib.hid y3
   have HX4 := Lib.hid x4
   have HY4 := Lib.hid y4
   clear hc hc' hh x0 x1 x2 x3 x4 y0 y1 y2 y3 y4
   go_wp2_with fail
   rename_i Kc hKc
   have HSL := Lib.hid (show slotsOf [some 16, some 17, some 18, some 19, some 20, some 21, some 22, some 23, some 24] = [16, 17, 18, 19, 20, 21, 22, 23, 24] from rfl)
   refine wp_region_partsG (by kernel_rfl) [some 16, some 17, some 18, some 19, some 20, some 21, some 22, some 23, some 24] (fun jq xq w' => match jq with
    | 0 => xq 16 = .slice (some ⟨B, o, none⟩) hs.length c
    | 1 => xq 17 = .int .i64 (k : Int)
    | 2 => xq 18 = .pointer (some ⟨B, o + k * 5, none⟩)
    | 3 => xq 19 = .agg #[.int .i64 hf.spot, .int .i64 hf.g0, .int .i64 hf.g1, .int .i64 hf.g2, .int .i64 hf.g3]
    | 4 => xq 20 = .slice (some ⟨B', o', none⟩) hs.length c'
    | 5 => xq 21 = .int .i64 (k : Int)
    | 6 => xq 22 = .pointer (some ⟨B', o' + k * 5, none⟩)
    | 7 => xq 23 = .agg #[.int .i64 hf.spot, .int .i64 hf.g0, .int .i64 hf.g1, .int .i64 hf.g2, .int .i64 hf.g3]
    | 8 => xq 24 = .bool false
    | _ => True) [[16], [17], [18], [19], [20], [21], [22], [23], [24]] [] (Below w.heap.size w) (by kernel_rfl)  ?_ ?_ (fun w' w'' hb h => h.trans (hb.mono h.size)) (hBr) ?_ ?_ ?_
   ·intro jq xq xq' wqq h hv
    match jq, h, hv with
    | 0, h, hv => show xq' 16 = .slice (some ⟨B, o, none⟩) hs.length c; rw [← h 16 (by decide)]; exact hv
    | 1, h, hv => show xq' 17 = .int .i64 (k : Int); rw [← h 17 (by decide)]; exact hv
    | 2, h, hv => show xq' 18 = .pointer (some ⟨B, o + k * 5, none⟩); rw [← h 18 (by decide)]; exact hv
    | 3, h, hv => show xq' 19 = .agg #[.int .i64 hf.spot, .int .i64 hf.g0, .int .i64 hf.g1, .int .i64 hf.g2, .int .i64 hf.g3]; rw [← h 19 (by decide)]; exact hv
    | 4, h, hv => show xq' 20 = .slice (some ⟨B', o', none⟩) hs.length c'; rw [← h 20 (by decide)]; exact hv
    | 5, h, hv => show xq' 21 = .int .i64 (k : Int); rw [← h 21 (by decide)]; exact hv
    | 6, h, hv => show xq' 22 = .pointer (some ⟨B', o' + k * 5, none⟩); rw [← h 22 (by decide)]; exact hv
    | 7, h, hv => show xq' 23 = .agg #[.int .i64 hf.spot, .int .i64 hf.g0, .int .i64 hf.g1, .int .i64 hf.g2, .int .i64 hf.g3]; rw [← h 23 (by decide)]; exact hv
    | 8, h, hv => show xq' 24 = .bool false; rw [← h 24 (by decide)]; exact hv
    | _ + 9, _, _ => trivial
   ·intro jq xq wqq w' hb' hv
    match jq, hv with
    | 0, hv => exact hv
    | 1, hv => exact hv
    | 2, hv => exact hv
    | 3, hv => exact hv
    | 4, hv => exact hv
    | 5, hv => exact hv
    | 6, hv => exact hv
    | 7, hv => exact hv
    | 8, hv => exact hv
    | _ + 9, _ => trivial
   ·intro jq hj
    match jq, hj with
    | 0, hj => exact absurd hj (by decide)
    | 1, hj => exact absurd hj (by decide)
    | 2, hj => exact absurd hj (by decide)
    | 3, hj => exact absurd hj (by decide)
    | 4, hj => exact absurd hj (by decide)
    | 5, hj => exact absurd hj (by decide)
    | 6, hj => exact absurd hj (by decide)
    | 7, hj => exact absurd hj (by decide)
    | 8, hj => exact absurd hj (by decide)
    | _ + 9, _ => trivial
   ·refine ⟨?_, ?_, ?_, ?_, ?_, ?_, ?_, ?_, ?_, trivial⟩
    ·intro xq w1 hb1 hx K hK0
     have hK := fun v w' hb => hK0 v w' (.inl hb)
     clear hx hKc hK0
     simp only [frameOf, fill, setSlot, sg, Nat.reduceBEq, if_true, if_false, Nat.reduceAdd, Nat.reduceEqDiff, HSL.out] at hK ⊢
     go_wp2_with (fail)
     exact hK _ _ (Below.refl _ _) rfl
    ·intro xq w1 hb1 hx K hK0
     have hK := fun v w' hb => hK0 v w' (.inl hb)
     clear hx hKc hK0
     simp only [frameOf, fill, setSlot, sg, Nat.reduceBEq, if_true, if_false, Nat.reduceAdd, Nat.reduceEqDiff, HSL.out] at hK ⊢
     go_wp2_with (fail)
     exact hK _ _ (Below.refl _ _) rfl
    ·intro xq w1 hb1 hx K hK0
     have hK := fun v w' hb => hK0 v w' (.inl hb)
     have e16 : xq 16 = .slice (some ⟨B, o, none⟩) hs.length c := hx 0 (by rfl) (by rfl)
     have e17 : xq 17 = .int .i64 (k : Int) := hx 1 (by rfl) (by rfl)
     clear hx hKc hK0
     simp only [frameOf, fill, setSlot, sg, Nat.reduceBEq, if_true, if_false, Nat.reduceAdd, Nat.reduceEqDiff, HSL.out] at hK ⊢
     simp only [e16, e17] at hK ⊢
     clear e16 e17
     go_wp2_with (fail)
     exact hK _ _ (Below.refl _ _) rfl
    ·intro xq w1 hb1 hx K hK0
     have hK := fun v w' hb => hK0 v w' (.inl hb)
     have e18 : xq 18 = .pointer (some ⟨B, o + k * 5, none⟩) := hx 2 (by rfl) (by rfl)
     clear hx hKc hK0
     have qHX0 : w1.cell? ⟨B, o + k * 5, none⟩ = some (.int .i64 hf.spot) := (hb1.cell (p := ⟨B, o + k * 5, none⟩) hlB).trans HX0.out
     have qHX1 : w1.cell? ⟨B, o + k * 5 + 1, none⟩ = some (.int .i64 hf.g0) := (hb1.cell (p := ⟨B, o + k * 5 + 1, none⟩) hlB).trans HX1.out
     have qHX2 : w1.cell? ⟨B, o + k * 5 + 2, none⟩ = some (.int .i64 hf.g1) := (hb1.cell (p := ⟨B, o + k * 5 + 2, none⟩) hlB).trans HX2.out
     have qHX3 : w1.cell? ⟨B, o + k * 5 + 3, none⟩ = some (.int .i64 hf.g2) := (hb1.cell (p := ⟨B, o + k * 5 + 3, none⟩) hlB).trans HX3.out
     have qHX4 : w1.cell? ⟨B, o + k * 5 + 4, none⟩ = some (.int .i64 hf.g3) := (hb1.cell (p := ⟨B, o + k * 5 + 4, none⟩) hlB).trans HX4.out
     simp only [frameOf, fill, setSlot, sg, Nat.reduceBEq, if_true, if_false, Nat.reduceAdd, Nat.reduceEqDiff, HSL.out] at hK ⊢
     simp only [e18] at hK ⊢
     clear e18
     go_wp2_with (fail)
     exact hK _ _ (Below.refl _ _) rfl
    ·intro xq w1 hb1 hx K hK0
     have hK := fun v w' hb => hK0 v w' (.inl hb)
     clear hx hKc hK0
     simp only [frameOf, fill, setSlot, sg, Nat.reduceBEq, if_true, if_false, Nat.reduceAdd, Nat.reduceEqDiff, HSL.out] at hK ⊢
     go_wp2_with (fail)
     exact hK _ _ (Below.refl _ _) rfl
    ·intro xq w1 hb1 hx K hK0
     have hK := fun v w' hb => hK0 v w' (.inl hb)
     clear hx hKc hK0
     simp only [frameOf, fill, setSlot, sg, Nat.reduceBEq, if_true, if_false, Nat.reduceAdd, Nat.reduceEqDiff, HSL.out] at hK ⊢
     go_wp2_with (fail)
     exact hK _ _ (Below.refl _ _) rfl
    ·intro xq w1 hb1 hx K hK0
     have hK := fun v w' hb => hK0 v w' (.inl hb)
     have e20 : xq 20 = .slice (some ⟨B', o', none⟩) hs.length c' := hx 4 (by rfl) (by rfl)
     have e21 : xq 21 = .int .i64 (k : Int) := hx 5 (by rfl) (by rfl)
     clear hx hKc hK0
     simp only [frameOf, fill, setSlot, sg, Nat.reduceBEq, if_true, if_false, Nat.reduceAdd, Nat.reduceEqDiff, HSL.out] at hK ⊢
     simp only [e20, e21] at hK ⊢
     clear e20 e21
     go_wp2_with (fail)
     exact hK _ _ (Below.refl _ _) rfl
    ·intro xq w1 hb1 hx K hK0
     have hK := fun v w' hb => hK0 v w' (.inl hb)
     have e22 : xq 22 = .pointer (some ⟨B', o' + k * 5, none⟩) := hx 6 (by rfl) (by rfl)
     clear hx hKc hK0
     have qHY0 : w1.cell? ⟨B', o' + k * 5, none⟩ = some (.int .i64 hf.spot) := (hb1.cell (p := ⟨B', o' + k * 5, none⟩) hlB').trans HY0.out
     have qHY1 : w1.cell? ⟨B', o' + k * 5 + 1, none⟩ = some (.int .i64 hf.g0) := (hb1.cell (p := ⟨B', o' + k * 5 + 1, none⟩) hlB').trans HY1.out
     have qHY2 : w1.cell? ⟨B', o' + k * 5 + 2, none⟩ = some (.int .i64 hf.g1) := (hb1.cell (p := ⟨B', o' + k * 5 + 2, none⟩) hlB').trans HY2.out
     have qHY3 : w1.cell? ⟨B', o' + k * 5 + 3, none⟩ = some (.int .i64 hf.g2) := (hb1.cell (p := ⟨B', o' + k * 5 + 3, none⟩) hlB').trans HY3.out
     have qHY4 : w1.cell? ⟨B', o' + k * 5 + 4, none⟩ = some (.int .i64 hf.g3) := (hb1.cell (p := ⟨B', o' + k * 5 + 4, none⟩) hlB').trans HY4.out
     simp only [frameOf, fill, setSlot, sg, Nat.reduceBEq, if_true, if_false, Nat.reduceAdd, Nat.reduceEqDiff, HSL.out] at hK ⊢
     simp only [e22] at hK ⊢
     clear e22
     go_wp2_with (fail)
     exact hK _ _ (Below.refl _ _) rfl
    ·intro xq w1 hb1 hx K hK0
     have hK := fun v w' hb => hK0 v w' (.inl hb)
     have e19 : xq 19 = .agg #[.int .i64 hf.spot, .int .i64 hf.g0, .int .i64 hf.g1, .int .i64 hf.g2, .int .i64 hf.g3] := hx 3 (by rfl) (by rfl)
     have e23 : xq 23 = .agg #[.int .i64 hf.spot, .int .i64 hf.g0, .int .i64 hf.g1, .int .i64 hf.g2, .int .i64 hf.g3] := hx 7 (by rfl) (by rfl)
     clear hx hKc hK0
     have hne := neq_refHand hf.spot hf.g0 hf.g1 hf.g2 hf.g3
     simp only [frameOf, fill, setSlot, sg, Nat.reduceBEq, if_true, if_false, Nat.reduceAdd, Nat.reduceEqDiff, HSL.out] at hK ⊢
     simp only [e19, e23] at hK ⊢
     clear e19 e23
     go_wp2_with (fail)
     exact hK _ _ (Below.refl _ _) rfl
   ·intro xq w1 hb1 hx
    have e16 : xq 16 = .slice (some ⟨B, o, none⟩) hs.length c := hx 0 (by decide)
    have e17 : xq 17 = .int .i64 (k : Int) := hx 1 (by decide)
    have e18 : xq 18 = .pointer (some ⟨B, o + k * 5, none⟩) := hx 2 (by decide)
    have e19 : xq 19 = .agg #[.int .i64 hf.spot, .int .i64 hf.g0, .int .i64 hf.g1, .int .i64 hf.g2, .int .i64 hf.g3] := hx 3 (by decide)
    have e20 : xq 20 = .slice (some ⟨B', o', none⟩) hs.length c' := hx 4 (by decide)
    have e21 : xq 21 = .int .i64 (k : Int) := hx 5 (by decide)
    have e22 : xq 22 = .pointer (some ⟨B', o' + k * 5, none⟩) := hx 6 (by decide)
    have e23 : xq 23 = .agg #[.int .i64 hf.spot, .int .i64 hf.g0, .int .i64 hf.g1, .int .i64 hf.g2, .int .i64 hf.g3] := hx 7 (by decide)
    have e24 : xq 24 = .bool false := hx 8 (by decide)
    clear hx
    simp only [frameOf, fill, setSlot, sg, Nat.reduceBEq, if_true, if_false, Nat.reduceAdd, Nat.reduceEqDiff, HSL.out]
    simp only [e16, e17, e18, e19, e20, e21, e22, e23, e24]
    clear e16 e17 e18 e19 e20 e21 e22 e23 e24
    refine hKc _ _ ?_
    go_wp2_with fail
    go_roundw
    case rel => exact ⟨k + 1, by go_num, hlt, hb1⟩
    case measure => simp [intOf]; omega
  ·have hkl : k = hs.length := by omega
   subst hkl
   go_wp2_with fail
   go_ret
   exact ⟨rfl, hBr⟩
theorem eqlIn_grade (n : Nat) (s a b c d : Int) (w : World) : (Op.equalIn (n + 3) 128 (.agg #[.int .i64 s, .int .i64 a, .int .i64 b, .int .i64 c, .int .i64 d]) (.agg #[.int .i64 s, .int .i64 a, .int .i64 b, .int .i64 c, .int .i64 d])).run Try.prog w = .ok true w := by
 simp [go_sem]
theorem neq_grade (s a b c d : Int) (w : World) : (binOp .neq 128 (.agg #[.int .i64 s, .int .i64 a, .int .i64 b, .int .i64 c, .int .i64 d]) (.agg #[.int .i64 s, .int .i64 a, .int .i64 b, .int .i64 c, .int .i64 d])).run Try.prog w = .ok (.bool false) w := by
 rw [run_neq_struct, eqlIn_grade]; rfl
set_option maxRecDepth 100000 in
set_option maxHeartbeats 4000000 in
theorem equalgrade_same (A A' : Option Addr) (c c' : Nat) (hs : List Gr) (w : World) (hA : GradesAt w A hs) (hA' : GradesAt w A' hs) (hl : hs.length ≤ 1000) :
  Calls Try.prog 134 #[.slice A hs.length c, .slice A' hs.length c'] w fun e w' => e = .returned (.bool true) ∧ Below w.heap.size w w' := by
 have HA := Lib.hid hA
 have HA' := Lib.hid hA'
 clear hA hA'
 go_enter Try.func134, Try.ntmps134
 go_wp2_with fail
 go_loopw [13] (fun v13 wr => ∃ k : Nat, v13 = .int .i64 (k : Int) ∧ k ≤ hs.length ∧ Below w.heap.size w wr) (fun v13 _ => hs.length - (intOf v13).toNat)
 case atStart => exact ⟨0, rfl, Nat.zero_le _, Below.refl _ _⟩
 case round =>
  obtain ⟨k, rfl, hk, hBr⟩ := hrel
  by_cases hlt : k < hs.length
  ·obtain ⟨hf, hh⟩ : ∃ z, hs[k]? = some z := ⟨_, List.getElem?_eq_getElem hlt⟩
   obtain ⟨B, o, rfl, hc⟩ := HA.out (by omega)
   obtain ⟨B', o', rfl, hc'⟩ := HA'.out (by omega)
   obtain ⟨x0, x1, x2, x3, x4⟩ := hc k hf hh
   obtain ⟨y0, y1, y2, y3, y4⟩ := hc' k hf hh
   have hlB := World.block_lt_of_cell? w _ x0
   have hlB' := World.block_lt_of_cell? w _ y0
   have HX0 := Lib.hid x0
   have HY0 := Lib.hid y0
   have HX1 := Lib.hid x1
   have HY1 := Lib.hid y1
   have HX2 := Lib.hid x2
   have HY2 := Lib.hid y2
   have HX3 := Lib.hid x3
   have HY3 := Lib.hid y3
   have HX4 := Lib.hid x4
   have HY4 := Lib.hid y4
   clear hc hc' hh x0 x1 x2 x3 x4 y0 y1 y2 y3 y4
   go_wp2_with fail
   rename_i Kc hKc
   have HSL := Lib.hid (show slotsOf [some 16, some 17, some 18, some 19, some 20, some 21, some 22, some 23, some 24] = [16, 17, 18, 19, 20, 21, 22, 23, 24] from rfl)
   refine wp_region_partsG (by kernel_rfl) [some 16, some 17, some 18, some 19, some 20, some 21, some 22, some 23, some 24] (fun jq xq w' => match jq with
    | 0 => xq 16 = .slice (some ⟨B, o, none⟩) hs.length c
    | 1 => xq 17 = .int .i64 (k : Int)
    | 2 => xq 18 = .pointer (some ⟨B, o + k * 5, none⟩)
    | 3 => xq 19 = .agg #[.int .i64 hf.corn, .int .i64 hf.chaff, .int .i64 hf.stones, .int .i64 hf.damp, .int .i64 hf.price]
    | 4 => xq 20 = .slice (some ⟨B', o', none⟩) hs.length c'
    | 5 => xq 21 = .int .i64 (k : Int)
    | 6 => xq 22 = .pointer (some ⟨B', o' + k * 5, none⟩)
    | 7 => xq 23 = .agg #[.int .i64 hf.corn, .int .i64 hf.chaff, .int .i64 hf.stones, .int .i64 hf.damp, .int .i64 hf.price]
    | 8 => xq 24 = .bool false
    | _ => True) [[16], [17], [18], [19], [20], [21], [22], [23], [24]] [] (Below w.heap.size w) (by kernel_rfl)  ?_ ?_ (fun w' w'' hb h => h.trans (hb.mono h.size)) (hBr) ?_ ?_ ?_
   ·intro jq xq xq' wqq h hv
    match jq, h, hv with
    | 0, h, hv => show xq' 16 = .slice (some ⟨B, o, none⟩) hs.length c; rw [← h 16 (by decide)]; exact hv
    | 1, h, hv => show xq' 17 = .int .i64 (k : Int); rw [← h 17 (by decide)]; exact hv
    | 2, h, hv => show xq' 18 = .pointer (some ⟨B, o + k * 5, none⟩); rw [← h 18 (by decide)]; exact hv
    | 3, h, hv => show xq' 19 = .agg #[.int .i64 hf.corn, .int .i64 hf.chaff, .int .i64 hf.stones, .int .i64 hf.damp, .int .i64 hf.price]; rw [← h 19 (by decide)]; exact hv
    | 4, h, hv => show xq' 20 = .slice (some ⟨B', o', none⟩) hs.length c'; rw [← h 20 (by decide)]; exact hv
    | 5, h, hv => show xq' 21 = .int .i64 (k : Int); rw [← h 21 (by decide)]; exact hv
    | 6, h, hv => show xq' 22 = .pointer (some ⟨B', o' + k * 5, none⟩); rw [← h 22 (by decide)]; exact hv
    | 7, h, hv => show xq' 23 = .agg #[.int .i64 hf.corn, .int .i64 hf.chaff, .int .i64 hf.stones, .int .i64 hf.damp, .int .i64 hf.price]; rw [← h 23 (by decide)]; exact hv
    | 8, h, hv => show xq' 24 = .bool false; rw [← h 24 (by decide)]; exact hv
    | _ + 9, _, _ => trivial
   ·intro jq xq wqq w' hb' hv
    match jq, hv with
    | 0, hv => exact hv
    | 1, hv => exact hv
    | 2, hv => exact hv
    | 3, hv => exact hv
    | 4, hv => exact hv
    | 5, hv => exact hv
    | 6, hv => exact hv
    | 7, hv => exact hv
    | 8, hv => exact hv
    | _ + 9, _ => trivial
   ·intro jq hj
    match jq, hj with
    | 0, hj => exact absurd hj (by decide)
    | 1, hj => exact absurd hj (by decide)
    | 2, hj => exact absurd hj (by decide)
    | 3, hj => exact absurd hj (by decide)
    | 4, hj => exact absurd hj (by decide)
    | 5, hj => exact absurd hj (by decide)
    | 6, hj => exact absurd hj (by decide)
    | 7, hj => exact absurd hj (by decide)
    | 8, hj => exact absurd hj (by decide)
    | _ + 9, _ => trivial
   ·refine ⟨?_, ?_, ?_, ?_, ?_, ?_, ?_, ?_, ?_, trivial⟩
    ·intro xq w1 hb1 hx K hK0
     have hK := fun v w' hb => hK0 v w' (.inl hb)
     clear hx hKc hK0
     simp only [frameOf, fill, setSlot, sg, Nat.reduceBEq, if_true, if_false, Nat.reduceAdd, Nat.reduceEqDiff, HSL.out] at hK ⊢
     go_wp2_with (fail)
     exact hK _ _ (Below.refl _ _) rfl
    ·intro xq w1 hb1 hx K hK0
     have hK := fun v w' hb => hK0 v w' (.inl hb)
     clear hx hKc hK0
     simp only [frameOf, fill, setSlot, sg, Nat.reduceBEq, if_true, if_false, Nat.reduceAdd, Nat.reduceEqDiff, HSL.out] at hK ⊢
     go_wp2_with (fail)
     exact hK _ _ (Below.refl _ _) rfl
    ·intro xq w1 hb1 hx K hK0
     have hK := fun v w' hb => hK0 v w' (.inl hb)
     have e16 : xq 16 = .slice (some ⟨B, o, none⟩) hs.length c := hx 0 (by rfl) (by rfl)
     have e17 : xq 17 = .int .i64 (k : Int) := hx 1 (by rfl) (by rfl)
     clear hx hKc hK0
     simp only [frameOf, fill, setSlot, sg, Nat.reduceBEq, if_true, if_false, Nat.reduceAdd, Nat.reduceEqDiff, HSL.out] at hK ⊢
     simp only [e16, e17] at hK ⊢
     clear e16 e17
     go_wp2_with (fail)
     exact hK _ _ (Below.refl _ _) rfl
    ·intro xq w1 hb1 hx K hK0
     have hK := fun v w' hb => hK0 v w' (.inl hb)
     have e18 : xq 18 = .pointer (some ⟨B, o + k * 5, none⟩) := hx 2 (by rfl) (by rfl)
     clear hx hKc hK0
     have qHX0 : w1.cell? ⟨B, o + k * 5, none⟩ = some (.int .i64 hf.corn) := (hb1.cell (p := ⟨B, o + k * 5, none⟩) hlB).trans HX0.out
     have qHX1 : w1.cell? ⟨B, o + k * 5 + 1, none⟩ = some (.int .i64 hf.chaff) := (hb1.cell (p := ⟨B, o + k * 5 + 1, none⟩) hlB).trans HX1.out
     have qHX2 : w1.cell? ⟨B, o + k * 5 + 2, none⟩ = some (.int .i64 hf.stones) := (hb1.cell (p := ⟨B, o + k * 5 + 2, none⟩) hlB).trans HX2.out
     have qHX3 : w1.cell? ⟨B, o + k * 5 + 3, none⟩ = some (.int .i64 hf.damp) := (hb1.cell (p := ⟨B, o + k * 5 + 3, none⟩) hlB).trans HX3.out
     have qHX4 : w1.cell? ⟨B, o + k * 5 + 4, none⟩ = some (.int .i64 hf.price) := (hb1.cell (p := ⟨B, o + k * 5 + 4, none⟩) hlB).trans HX4.out
     simp only [frameOf, fill, setSlot, sg, Nat.reduceBEq, if_true, if_false, Nat.reduceAdd, Nat.reduceEqDiff, HSL.out] at hK ⊢
     simp only [e18] at hK ⊢
     clear e18
     go_wp2_with (fail)
     exact hK _ _ (Below.refl _ _) rfl
    ·intro xq w1 hb1 hx K hK0
     have hK := fun v w' hb => hK0 v w' (.inl hb)
     clear hx hKc hK0
     simp only [frameOf, fill, setSlot, sg, Nat.reduceBEq, if_true, if_false, Nat.reduceAdd, Nat.reduceEqDiff, HSL.out] at hK ⊢
     go_wp2_with (fail)
     exact hK _ _ (Below.refl _ _) rfl
    ·intro xq w1 hb1 hx K hK0
     have hK := fun v w' hb => hK0 v w' (.inl hb)
     clear hx hKc hK0
     simp only [frameOf, fill, setSlot, sg, Nat.reduceBEq, if_true, if_false, Nat.reduceAdd, Nat.reduceEqDiff, HSL.out] at hK ⊢
     go_wp2_with (fail)
     exact hK _ _ (Below.refl _ _) rfl
    ·intro xq w1 hb1 hx K hK0
     have hK := fun v w' hb => hK0 v w' (.inl hb)
     have e20 : xq 20 = .slice (some ⟨B', o', none⟩) hs.length c' := hx 4 (by rfl) (by rfl)
     have e21 : xq 21 = .int .i64 (k : Int) := hx 5 (by rfl) (by rfl)
     clear hx hKc hK0
     simp only [frameOf, fill, setSlot, sg, Nat.reduceBEq, if_true, if_false, Nat.reduceAdd, Nat.reduceEqDiff, HSL.out] at hK ⊢
     simp only [e20, e21] at hK ⊢
     clear e20 e21
     go_wp2_with (fail)
     exact hK _ _ (Below.refl _ _) rfl
    ·intro xq w1 hb1 hx K hK0
     have hK := fun v w' hb => hK0 v w' (.inl hb)
     have e22 : xq 22 = .pointer (some ⟨B', o' + k * 5, none⟩) := hx 6 (by rfl) (by rfl)
     clear hx hKc hK0
     have qHY0 : w1.cell? ⟨B', o' + k * 5, none⟩ = some (.int .i64 hf.corn) := (hb1.cell (p := ⟨B', o' + k * 5, none⟩) hlB').trans HY0.out
     have qHY1 : w1.cell? ⟨B', o' + k * 5 + 1, none⟩ = some (.int .i64 hf.chaff) := (hb1.cell (p := ⟨B', o' + k * 5 + 1, none⟩) hlB').trans HY1.out
     have qHY2 : w1.cell? ⟨B', o' + k * 5 + 2, none⟩ = some (.int .i64 hf.stones) := (hb1.cell (p := ⟨B', o' + k * 5 + 2, none⟩) hlB').trans HY2.out
     have qHY3 : w1.cell? ⟨B', o' + k * 5 + 3, none⟩ = some (.int .i64 hf.damp) := (hb1.cell (p := ⟨B', o' + k * 5 + 3, none⟩) hlB').trans HY3.out
     have qHY4 : w1.cell? ⟨B', o' + k * 5 + 4, none⟩ = some (.int .i64 hf.price) := (hb1.cell (p := ⟨B', o' + k * 5 + 4, none⟩) hlB').trans HY4.out
     simp only [frameOf, fill, setSlot, sg, Nat.reduceBEq, if_true, if_false, Nat.reduceAdd, Nat.reduceEqDiff, HSL.out] at hK ⊢
     simp only [e22] at hK ⊢
     clear e22
     go_wp2_with (fail)
     exact hK _ _ (Below.refl _ _) rfl
    ·intro xq w1 hb1 hx K hK0
     have hK := fun v w' hb => hK0 v w' (.inl hb)
     have e19 : xq 19 = .agg #[.int .i64 hf.corn, .int .i64 hf.chaff, .int .i64 hf.stones, .int .i64 hf.damp, .int .i64 hf.price] := hx 3 (by rfl) (by rfl)
     have e23 : xq 23 = .agg #[.int .i64 hf.corn, .int .i64 hf.chaff, .int .i64 hf.stones, .int .i64 hf.damp, .int .i64 hf.price] := hx 7 (by rfl) (by rfl)
     clear hx hKc hK0
     have hne := neq_grade hf.corn hf.chaff hf.stones hf.damp hf.price
     simp only [frameOf, fill, setSlot, sg, Nat.reduceBEq, if_true, if_false, Nat.reduceAdd, Nat.reduceEqDiff, HSL.out] at hK ⊢
     simp only [e19, e23] at hK ⊢
     clear e19 e23
     go_wp2_with (fail)
     exact hK _ _ (Below.refl _ _) rfl
   ·intro xq w1 hb1 hx
    have e16 : xq 16 = .slice (some ⟨B, o, none⟩) hs.length c := hx 0 (by decide)
    have e17 : xq 17 = .int .i64 (k : Int) := hx 1 (by decide)
    have e18 : xq 18 = .pointer (some ⟨B, o + k * 5, none⟩) := hx 2 (by decide)
    have e19 : xq 19 = .agg #[.int .i64 hf.corn, .int .i64 hf.chaff, .int .i64 hf.stones, .int .i64 hf.damp, .int .i64 hf.price] := hx 3 (by decide)
    have e20 : xq 20 = .slice (some ⟨B', o', none⟩) hs.length c' := hx 4 (by decide)
    have e21 : xq 21 = .int .i64 (k : Int) := hx 5 (by decide)
    have e22 : xq 22 = .pointer (some ⟨B', o' + k * 5, none⟩) := hx 6 (by decide)
    have e23 : xq 23 = .agg #[.int .i64 hf.corn, .int .i64 hf.chaff, .int .i64 hf.stones, .int .i64 hf.damp, .int .i64 hf.price] := hx 7 (by decide)
    have e24 : xq 24 = .bool false := hx 8 (by decide)
    clear hx
    simp only [frameOf, fill, setSlot, sg, Nat.reduceBEq, if_true, if_false, Nat.reduceAdd, Nat.reduceEqDiff, HSL.out]
    simp only [e16, e17, e18, e19, e20, e21, e22, e23, e24]
    clear e16 e17 e18 e19 e20 e21 e22 e23 e24
    refine hKc _ _ ?_
    go_wp2_with fail
    go_roundw
    case rel => exact ⟨k + 1, by go_num, hlt, hb1⟩
    case measure => simp [intOf]; omega
  ·have hkl : k = hs.length := by omega
   subst hkl
   go_wp2_with fail
   go_ret
   exact ⟨rfl, hBr⟩
theorem eqRefHand_same (A A' : Option Addr) (c c' : Nat) (hs : List Hf) (w : World) (hA : HandsAt w A hs) (hA' : HandsAt w A' hs) (hl : hs.length ≤ 1000) :
  Calls Try.prog 27 #[.slice A hs.length c, .slice A' hs.length c'] w fun e w' => e = .returned (.bool true) ∧ Below w.heap.size w w' := by
 have HA := Lib.hid hA
 have HA' := Lib.hid hA'
 clear hA hA'
 go_enter Try.func27, Try.ntmps27
 go_wp2_with (go_at_call 92; refine (equalrefHand_same A A' c c' hs _ HA.out HA'.out hl).mono ?_; rintro e w2 ⟨rfl, hb2⟩)
 go_ret
 exact ⟨rfl, hb2⟩
theorem eqGrade_same (A A' : Option Addr) (c c' : Nat) (hs : List Gr) (w : World) (hA : GradesAt w A hs) (hA' : GradesAt w A' hs) (hl : hs.length ≤ 1000) :
  Calls Try.prog 93 #[.slice A hs.length c, .slice A' hs.length c'] w fun e w' => e = .returned (.bool true) ∧ Below w.heap.size w w' := by
 have HA := Lib.hid hA
 have HA' := Lib.hid hA'
 clear hA hA'
 go_enter Try.func93, Try.ntmps93
 go_wp2_with (go_at_call 134; refine (equalgrade_same A A' c c' hs _ HA.out HA'.out hl).mono ?_; rintro e w2 ⟨rfl, hb2⟩)
 go_ret
 exact ⟨rfl, hb2⟩
theorem eqHand_same (A A' : Option Addr) (c c' : Nat) (hs : List Hf) (w : World) (hA : HandsAt w A hs) (hA' : HandsAt w A' hs) (hl : hs.length ≤ 1000) :
  Calls Try.prog 94 #[.slice A hs.length c, .slice A' hs.length c'] w fun e w' => e = .returned (.bool true) ∧ Below w.heap.size w w' := by
 have HA := Lib.hid hA
 have HA' := Lib.hid hA'
 clear hA hA'
 go_enter Try.func94, Try.ntmps94
 go_wp2_with (go_at_call 70; refine (equalHand_same A A' c c' hs _ HA.out HA'.out hl).mono ?_; rintro e w2 ⟨rfl, hb2⟩)
 go_ret
 exact ⟨rfl, hb2⟩
set_option maxRecDepth 100000 in
theorem same_same (err miss : Int) (A A' : Option Addr) (c c' : Nat) (hs : List Gr) (w : World) (hA : GradesAt w A hs) (hA' : GradesAt w A' hs) (hl : hs.length ≤ 1000) :
  Calls Try.prog 28 #[.agg #[.int .i64 err, .int .i64 miss, .slice A hs.length c], .agg #[.int .i64 err, .int .i64 miss, .slice A' hs.length c']] w fun e w' => e = .returned (.bool true) ∧ Below w.heap.size w w' := by
 have HA := Lib.hid hA
 have HA' := Lib.hid hA'
 clear hA hA'
 go_enter Try.func28, Try.ntmps28
 go_wp2_with (go_at_call 93; refine (eqGrade_same A A' c c' hs _ (HA.out.up zg) (HA'.out.up zg) hl).mono ?_; rintro e w2 ⟨rfl, hb2⟩)
 go_ret
 exact ⟨rfl, Below.trans zg (hb2.mono (by simp; omega))⟩
set_option maxRecDepth 100000 in
theorem alike_same (full emp : Int) (A A' : Option Addr) (c c' : Nat) (hs : List Hf) (w : World) (hA : HandsAt w A hs) (hA' : HandsAt w A' hs) (hl : hs.length ≤ 1000) :
  Calls Try.prog 29 #[.agg #[.int .i64 full, .int .i64 emp, .slice A hs.length c], .agg #[.int .i64 full, .int .i64 emp, .slice A' hs.length c']] w fun e w' => e = .returned (.bool true) ∧ Below w.heap.size w w' := by
 have HA := Lib.hid hA
 have HA' := Lib.hid hA'
 clear hA hA'
 go_enter Try.func29, Try.ntmps29
 go_wp2_with (go_at_call 94; refine (eqHand_same A A' c c' hs _ (HA.out.up zg) (HA'.out.up zg) hl).mono ?_; rintro e w2 ⟨rfl, hb2⟩)
 go_ret
 exact ⟨rfl, Below.trans zg (hb2.mono (by simp; omega))⟩
def greatB (n m : Nat) : Bool := decide (7 < n) || decide (9 < m)
set_option maxRecDepth 100000 in
theorem great_any (err miss full emp : Int) (G A : Option Addr) (n d m c : Nat) (w : World) (hn : n ≤ 9223372036854775807) (hm : m ≤ 9223372036854775807) :
  Calls Try.prog 15 #[.agg #[.int .i64 err, .int .i64 miss, .slice G n d], .agg #[.int .i64 full, .int .i64 emp, .slice A m c]] w fun e w' => e = .returned (.bool (greatB n m)) ∧ Below w.heap.size w w' := by
 by_cases h1 : 7 < n
 ·have h1' : (7 : Int) < n := by omega
  go_enter Try.func15, Try.ntmps15
  go_wp2_with fail
  go_ret
  exact ⟨by simp [greatB, h1], zg⟩
 ·have h1' : ¬ (7 : Int) < n := by omega
  by_cases h2 : 9 < m
  ·have h2' : (9 : Int) < m := by omega
   go_enter Try.func15, Try.ntmps15
   go_wp2_with fail
   go_ret
   exact ⟨by simp [greatB, h2], zg⟩
  ·have h2' : ¬ (9 : Int) < m := by omega
   go_enter Try.func15, Try.ntmps15
   go_wp2_with fail
   go_ret
   exact ⟨by simp [greatB, h1, h2], zg⟩
end Go.Proofs.Ytdpgfaikmahmpaa
