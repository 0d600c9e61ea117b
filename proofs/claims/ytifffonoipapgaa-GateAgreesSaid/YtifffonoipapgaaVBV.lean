
import Derived.Test.YtifffonoipapgaaVAA
import Derived.Test.YtifffonoipapgaaVAC
import Derived.Test.YtifffonoipapgaaVBF
import Derived.Test.YtifffonoipapgaaVBJ
import Derived.Test.YtifffonoipapgaaVBK
import Derived.Test.YtifffonoipapgaaVBU
set_option linter.unusedSimpArgs false
set_option linter.unusedVariables false
namespace Go.Proofs.Ytifffonoipapgaa
open Go.RowKit
theorem eqlIn_grade (n : Nat) (s a b c d : Int) (w : World) : (Op.equalIn (n + 3) 128 (.agg #[.int .i64 s, .int .i64 a, .int .i64 b, .int .i64 c, .int .i64 d]) (.agg #[.int .i64 s, .int .i64 a, .int .i64 b, .int .i64 c, .int .i64 d])).run Try.prog w = .ok true w := by
 simp [go_sem]
theorem neq_grade (s a b c d : Int) (w : World) : (binOp .neq 128 (.agg #[.int .i64 s, .int .i64 a, .int .i64 b, .int .i64 c, .int .i64 d]) (.agg #[.int .i64 s, .int .i64 a, .int .i64 b, .int .i64 c, .int .i64 d])).run Try.prog w = .ok (.bool false) w := by
 rw [run_neq_struct, eqlIn_grade]; rfl
set_option maxRecDepth 100000 in
set_option maxHeartbeats 4000000 in
theorem equalgrade_same (A A' : Option Addr) (c c' : Nat) (hs : List Gr) (w : World) (hA : GradesAt w A hs) (hA' : GradesAt w A' hs) (hl : hs.length ≤ 1000) :
  Calls Try.prog 134 #[.slice A hs.length c, .slice A' hs.length c'] w fun e w' => e = .returned (.bool true) ∧ Below w.heap.size w w' := by
 have HA := Lib.hid hA
 have HA' := Lib.hid hA'
 clear hA hA'
 go_enter Try.func134, Try.ntmps134
 go_wp2_with fail
 go_loopw [13] (fun v13 wr => ∃ k : Nat, v13 = .int .i64 (k : Int) ∧ k ≤ hs.length ∧ Below w.heap.size w wr) (fun v13 _ => hs.length - (intOf v13).toNat)
 case atStart => exact ⟨0, rfl, Nat.zero_le _, Below.refl _ _⟩
 case round =>
  obtain ⟨k, rfl, hk, hBr⟩ := hrel
  by_cases hlt : k < hs.length
  ·obtain ⟨hf, hh⟩ : ∃ z, hs[k]? = some z := ⟨_, List.getElem?_eq_getElem hlt⟩
   obtain ⟨B, o, rfl, hc⟩ := HA.out (by omega)
   obtain ⟨B', o', rfl, hc'⟩ := HA'.out (by omega)
   obtain ⟨x0, x1, x2, x3, x4⟩ := hc k hf hh
   obtain ⟨y0, y1, y2, y3, y4⟩ := hc' k hf hh
   have hlB := World.block_lt_of_cell? w _ x0
   have hlB' := World.block_lt_of_cell? w _ y0
   have HX0 := Lib.hid x0
   have HY0 := Lib.hid y0
   have HX1 := Lib.hid x1
   have HY1 := Lib.hid y1
   have HX2 := Lib.hid x2
   have HY2 := Lib.hid y2
   have HX3 := Lib.hid x3
   have HY3 := Lib.hid y3
   have HX4 := Lib.hid x4
   have HY4 := Lib.hid y4
   clear hc hc' hh x0 x1 x2 x3 x4 y0 y1 y2 y3 y4
   go_wp2_with fail
   rename_i Kc hKc
   have HSL := Lib.hid (show slotsOf [some 16, some 17, some 18, some 19, some 20, some 21, some 22, some 23, some 24] = [16, 17, 18, 19, 20, 21, 22, 23, 24] from rfl)
   refine wp_region_partsG (by kernel_rfl) [some 16, some 17, some 18, some 19, some 20, some 21, some 22, some 23, some 24] (fun jq xq w' => match jq with
    | 0 => xq 16 = .slice (some ⟨B, o, none⟩) hs.length c
    | 1 => xq 17 = .int .i64 (k : Int)
    | 2 => xq 18 = .pointer (some ⟨B, o + k * 5, none⟩)
    | 3 => xq 19 = .agg #[.int .i64 hf.corn, .int .i64 hf.chaff, .int .i64 hf.stones, .int .i64 hf.damp, .int .i64 hf.price]
    | 4 => xq 20 = .slice (some ⟨B', o', none⟩) hs.length c'
    | 5 => xq 21 = .int .i64 (k : Int)
    | 6 => xq 22 = .pointer (some ⟨B', o' + k * 5, none⟩)
    | 7 => xq 23 = .agg #[.int .i64 hf.corn, .int .i64 hf.chaff, .int .i64 hf.stones, .int .i64 hf.damp, .int .i64 hf.price]
    | 8 => xq 24 = .bool false
    | _ => True) [[16], [17], [18], [19], [20], [21], [22], [23], [24]] [] (Below w.heap.size w) (by kernel_rfl)  ?_ ?_ (fun w' w'' hb h => h.trans (hb.mono h.size)) (hBr) ?_ ?_ ?_
   ·intro jq xq xq' wqq h hv
    match jq, h, hv with
    | 0, h, hv => show xq' 16 = .slice (some ⟨B, o, none⟩) hs.length c; rw [← h 16 (by decide)]; exact hv
    | 1, h, hv => show xq' 17 = .int .i64 (k : Int); rw [← h 17 (by decide)]; exact hv
    | 2, h, hv => show xq' 18 = .pointer (some ⟨B, o + k * 5, none⟩); rw [← h 18 (by decide)]; exact hv
    | 3, h, hv => show xq' 19 = .agg #[.int .i64 hf.corn, .int .i64 hf.chaff, .int .i64 hf.stones, .int .i64 hf.damp, .int .i64 hf.price]; rw [← h 19 (by decide)]; exact hv
    | 4, h, hv => show xq' 20 = .slice (some ⟨B', o', none⟩) hs.length c'; rw [← h 20 (by decide)]; exact hv
    | 5, h, hv => show xq' 21 = .int .i64 (k : Int); rw [← h 21 (by decide)]; exact hv
    | 6, h, hv => show xq' 22 = .pointer (some ⟨B', o' + k * 5, none⟩); rw [← h 22 (by decide)]; exact hv
    | 7, h, hv => show xq' 23 = .agg #[.int .i64 hf.corn, .int .i64 hf.chaff, .int .i64 hf.stones, .int .i64 hf.damp, .int .i64 hf.price]; rw [← h 23 (by decide)]; exact hv
    | 8, h, hv => show xq' 24 = .bool false; rw [← h 24 (by decide)]; exact hv
    | _ + 9, _, _ => trivial
   ·intro jq xq wqq w' hb' hv
    match jq, hv with
    | 0, hv => exact hv
    | 1, hv => exact hv
    | 2, hv => exact hv
    | 3, hv => exact hv
    | 4, hv => exact hv
    | 5, hv => exact hv
    | 6, hv => exact hv
    | 7, hv => exact hv
    | 8, hv => exact hv
    | _ + 9, _ => trivial
   ·intro jq hj
    match jq, hj with
    | 0, hj => exact absurd hj (by decide)
    | 1, hj => exact absurd hj (by decide)
    | 2, hj => exact absurd hj (by decide)
    | 3, hj => exact absurd hj (by decide)
    | 4, hj => exact absurd hj (by decide)
    | 5, hj => exact absurd hj (by decide)
    | 6, hj => exact absurd hj (by decide)
    | 7, hj => exact absurd hj (by decide)
    | 8, hj => exact absurd hj (by decide)
    | _ + 9, _ => trivial
   ·refine ⟨?_, ?_, ?_, ?_, ?_, ?_, ?_, ?_, ?_, trivial⟩
    ·intro xq w1 hb1 hx K hK0
     have hK := fun v w' hb => hK0 v w' (.inl hb)
     clear hx hKc hK0
     simp only [frameOf, fill, setSlot, sg, Nat.reduceBEq, if_true, if_false, Nat.reduceAdd, Nat.reduceEqDiff, HSL.out] at hK ⊢
     go_wp2_with (fail)
     exact hK _ _ (Below.refl _ _) rfl
    ·intro xq w1 hb1 hx K hK0
     have hK := fun v w' hb => hK0 v w' (.inl hb)
     clear hx hKc hK0
     simp only [frameOf, fill, setSlot, sg, Nat.reduceBEq, if_true, if_false, Nat.reduceAdd, Nat.reduceEqDiff, HSL.out] at hK ⊢
     go_wp2_with (fail)
     exact hK _ _ (Below.refl _ _) rfl
    ·intro xq w1 hb1 hx K hK0
     have hK := fun v w' hb => hK0 v w' (.inl hb)
     have e16 : xq 16 = .slice (some ⟨B, o, none⟩) hs.length c := hx 0 (by rfl) (by rfl)
     have e17 : xq 17 = .int .i64 (k : Int) := hx 1 (by rfl) (by rfl)
     clear hx hKc hK0
     simp only [frameOf, fill, setSlot, sg, Nat.reduceBEq, if_true, if_false, Nat.reduceAdd, Nat.reduceEqDiff, HSL.out] at hK ⊢
     simp only [e16, e17] at hK ⊢
     clear e16 e17
     go_wp2_with (fail)
     exact hK _ _ (Below.refl _ _) rfl
    ·intro xq w1 hb1 hx K hK0
     have hK := fun v w' hb => hK0 v w' (.inl hb)
     have e18 : xq 18 = .pointer (some ⟨B, o + k * 5, none⟩) := hx 2 (by rfl) (by rfl)
     clear hx hKc hK0
     have qHX0 : w1.cell? ⟨B, o + k * 5, none⟩ = some (.int .i64 hf.corn) := (hb1.cell (p := ⟨B, o + k * 5, none⟩) hlB).trans HX0.out
     have qHX1 : w1.cell? ⟨B, o + k * 5 + 1, none⟩ = some (.int .i64 hf.chaff) := (hb1.cell (p := ⟨B, o + k * 5 + 1, none⟩) hlB).trans HX1.out
     have qHX2 : w1.cell? ⟨B, o + k * 5 + 2, none⟩ = some (.int .i64 hf.stones) := (hb1.cell (p := ⟨B, o + k * 5 + 2, none⟩) hlB).trans HX2.out
     have qHX3 : w1.cell? ⟨B, o + k * 5 + 3, none⟩ = some (.int .i64 hf.damp) := (hb1.cell (p := ⟨B, o + k * 5 + 3, none⟩) hlB).trans HX3.out
     have qHX4 : w1.cell? ⟨B, o + k * 5 + 4, none⟩ = some (.int .i64 hf.price) := (hb1.cell (p := ⟨B, o + k * 5 + 4, none⟩) hlB).trans HX4.out
     simp only [frameOf, fill, setSlot, sg, Nat.reduceBEq, if_true, if_false, Nat.reduceAdd, Nat.reduceEqDiff, HSL.out] at hK ⊢
     simp only [e18] at hK ⊢
     clear e18
     go_wp2_with (fail)
     exact hK _ _ (Below.refl _ _) rfl
    ·intro xq w1 hb1 hx K hK0
     have hK := fun v w' hb => hK0 v w' (.inl hb)
     clear hx hKc hK0
     simp only [frameOf, fill, setSlot, sg, Nat.reduceBEq, if_true, if_false, Nat.reduceAdd, Nat.reduceEqDiff, HSL.out] at hK ⊢
     go_wp2_with (fail)
     exact hK _ _ (Below.refl _ _) rfl
    ·intro xq w1 hb1 hx K hK0
     have hK := fun v w' hb => hK0 v w' (.inl hb)
     clear hx hKc hK0
     simp only [frameOf, fill, setSlot, sg, Nat.reduceBEq, if_true, if_false, Nat.reduceAdd, Nat.reduceEqDiff, HSL.out] at hK ⊢
     go_wp2_with (fail)
     exact hK _ _ (Below.refl _ _) rfl
    ·intro xq w1 hb1 hx K hK0
     have hK := fun v w' hb => hK0 v w' (.inl hb)
     have e20 : xq 20 = .slice (some ⟨B', o', none⟩) hs.length c' := hx 4 (by rfl) (by rfl)
     have e21 : xq 21 = .int .i64 (k : Int) := hx 5 (by rfl) (by rfl)
     clear hx hKc hK0
     simp only [frameOf, fill, setSlot, sg, Nat.reduceBEq, if_true, if_false, Nat.reduceAdd, Nat.reduceEqDiff, HSL.out] at hK ⊢
     simp only [e20, e21] at hK ⊢
     clear e20 e21
     go_wp2_with (fail)
     exact hK _ _ (Below.refl _ _) rfl
    ·intro xq w1 hb1 hx K hK0
     have hK := fun v w' hb => hK0 v w' (.inl hb)
     have e22 : xq 22 = .pointer (some ⟨B', o' + k * 5, none⟩) := hx 6 (by rfl) (by rfl)
     clear hx hKc hK0
     have qHY0 : w1.cell? ⟨B', o' + k * 5, none⟩ = some (.int .i64 hf.corn) := (hb1.cell (p := ⟨B', o' + k * 5, none⟩) hlB').trans HY0.out
     have qHY1 : w1.cell? ⟨B', o' + k * 5 + 1, none⟩ = some (.int .i64 hf.chaff) := (hb1.cell (p := ⟨B', o' + k * 5 + 1, none⟩) hlB').trans HY1.out
     have qHY2 : w1.cell? ⟨B', o' + k * 5 + 2, none⟩ = some (.int .i64 hf.stones) := (hb1.cell (p := ⟨B', o' + k * 5 + 2, none⟩) hlB').trans HY2.out
     have qHY3 : w1.cell? ⟨B', o' + k * 5 + 3, none⟩ = some (.int .i64 hf.damp) := (hb1.cell (p := ⟨B', o' + k * 5 + 3, none⟩) hlB').trans HY3.out
     have qHY4 : w1.cell? ⟨B', o' + k * 5 + 4, none⟩ = some (.int .i64 hf.price) := (hb1.cell (p := ⟨B', o' + k * 5 + 4, none⟩) hlB').trans HY4.out
     simp only [frameOf, fill, setSlot, sg, Nat.reduceBEq, if_true, if_false, Nat.reduceAdd, Nat.reduceEqDiff, HSL.out] at hK ⊢
     simp only [e22] at hK ⊢
     clear e22
     go_wp2_with (fail)
     exact hK _ _ (Below.refl _ _) rfl
    ·intro xq w1 hb1 hx K hK0
     have hK := fun v w' hb => hK0 v w' (.inl hb)
     have e19 : xq 19 = .agg #[.int .i64 hf.corn, .int .i64 hf.chaff, .int .i64 hf.stones, .int .i64 hf.damp, .int .i64 hf.price] := hx 3 (by rfl) (by rfl)
     have e23 : xq 23 = .agg #[.int .i64 hf.corn, .int .i64 hf.chaff, .int .i64 hf.stones, .int .i64 hf.damp, .int .i64 hf.price] := hx 7 (by rfl) (by rfl)
     clear hx hKc hK0
     have hne := neq_grade hf.corn hf.chaff hf.stones hf.damp hf.price
     simp only [frameOf, fill, setSlot, sg, Nat.reduceBEq, if_true, if_false, Nat.reduceAdd, Nat.reduceEqDiff, HSL.out] at hK ⊢
     simp only [e19, e23] at hK ⊢
     clear e19 e23
     go_wp2_with (fail)
     exact hK _ _ (Below.refl _ _) rfl
   ·intro xq w1 hb1 hx
    have e16 : xq 16 = .slice (some ⟨B, o, none⟩) hs.length c := hx 0 (by decide)
    have e17 : xq 17 = .int .i64 (k : Int) := hx 1 (by decide)
    have e18 : xq 18 = .pointer (some ⟨B, o + k * 5, none⟩) := hx 2 (by decide)
    have e19 : xq 19 = .agg #[.int .i64 hf.corn, .int .i64 hf.chaff, .int .i64 hf.stones, .int .i64 hf.damp, .int .i64 hf.price] := hx 3 (by decide)
    have e20 : xq 20 = .slice (some ⟨B', o', none⟩) hs.length c' := hx 4 (by decide)
    have e21 : xq 21 = .int .i64 (k : Int) := hx 5 (by decide)
    have e22 : xq 22 = .pointer (some ⟨B', o' + k * 5, none⟩) := hx 6 (by decide)
    have e23 : xq 23 = .agg #[.int .i64 hf.corn, .int .i64 hf.chaff, .int .i64 hf.stones, .int .i64 hf.damp, .int .i64 hf.price] := hx 7 (by decide)
    have e24 : xq 24 = .bool false := hx 8 (by decide)
    clear hx
    simp only [frameOf, fill, setSlot, sg, Nat.reduceBEq, if_true, if_false, Nat.reduceAdd, Nat.reduceEqDiff, HSL.out]
    simp only [e16, e17, e18, e19, e20, e21, e22, e23, e24]
    clear e16 e17 e18 e19 e20 e21 e22 e23 e24
    refine hKc _ _ ?_
    go_wp2_with fail
    go_roundw
    case rel => exact ⟨k + 1, by go_num, hlt, hb1⟩
    case measure => simp [intOf]; omega
  ·have hkl : k = hs.length := by omega
   subst hkl
   go_wp2_with fail
   go_ret
   exact ⟨rfl, hBr⟩
theorem eqGrade_same (A A' : Option Addr) (c c' : Nat) (hs : List Gr) (w : World) (hA : GradesAt w A hs) (hA' : GradesAt w A' hs) (hl : hs.length ≤ 1000) :
  Calls Try.prog 93 #[.slice A hs.length c, .slice A' hs.length c'] w fun e w' => e = .returned (.bool true) ∧ Below w.heap.size w w' := by
 have HA := Lib.hid hA
 have HA' := Lib.hid hA'
 clear hA hA'
 go_enter Try.func93, Try.ntmps93
 go_wp2_with (go_at_call 134; refine (equalgrade_same A A' c c' hs _ HA.out HA'.out hl).mono ?_; rintro e w2 ⟨rfl, hb2⟩)
 go_ret
 exact ⟨rfl, hb2⟩
theorem eqHand_same (A A' : Option Addr) (c c' : Nat) (hs : List Hf) (w : World) (hA : HandsAt w A hs) (hA' : HandsAt w A' hs) (hl : hs.length ≤ 1000) :
  Calls Try.prog 94 #[.slice A hs.length c, .slice A' hs.length c'] w fun e w' => e = .returned (.bool true) ∧ Below w.heap.size w w' := by
 have HA := Lib.hid hA
 have HA' := Lib.hid hA'
 clear hA hA'
 go_enter Try.func94, Try.ntmps94
 go_wp2_with (go_at_call 70; refine (equalHand_same A A' c c' hs _ HA.out HA'.out hl).mono ?_; rintro e w2 ⟨rfl, hb2⟩)
 go_ret
 exact ⟨rfl, hb2⟩
set_option maxRecDepth 100000 in
theorem same_same (err miss : Int) (A A' : Option Addr) (c c' : Nat) (hs : List Gr) (w : World) (hA : GradesAt w A hs) (hA' : GradesAt w A' hs) (hl : hs.length ≤ 1000) :
  Calls Try.prog 28 #[.agg #[.int .i64 err, .int .i64 miss, .slice A hs.length c], .agg #[.int .i64 err, .int .i64 miss, .slice A' hs.length c']] w fun e w' => e = .returned (.bool true) ∧ Below w.heap.size w w' := by
 have HA := Lib.hid hA
 have HA' := Lib.hid hA'
 clear hA hA'
 go_enter Try.func28, Try.ntmps28
 go_wp2_with (go_at_call 93; refine (eqGrade_same A A' c c' hs _ (HA.out.up zg) (HA'.out.up zg) hl).mono ?_; rintro e w2 ⟨rfl, hb2⟩)
 go_ret
 exact ⟨rfl, Below.trans zg (hb2.mono (by simp; omega))⟩
set_option maxRecDepth 100000 in
theorem alike_same (full emp : Int) (A A' : Option Addr) (c c' : Nat) (hs : List Hf) (w : World) (hA : HandsAt w A hs) (hA' : HandsAt w A' hs) (hl : hs.length ≤ 1000) :
  Calls Try.prog 29 #[.agg #[.int .i64 full, .int .i64 emp, .slice A hs.length c], .agg #[.int .i64 full, .int .i64 emp, .slice A' hs.length c']] w fun e w' => e = .returned (.bool true) ∧ Below w.heap.size w w' := by
 have HA := Lib.hid hA
 have HA' := Lib.hid hA'
 clear hA hA'
 go_enter Try.func29, Try.ntmps29
 go_wp2_with (go_at_call 94; refine (eqHand_same A A' c c' hs _ (HA.out.up zg) (HA'.out.up zg) hl).mono ?_; rintro e w2 ⟨rfl, hb2⟩)
 go_ret
 exact ⟨rfl, Below.trans zg (hb2.mono (by simp; omega))⟩
def greatB (n m : Nat) : Bool := decide (7 < n) || decide (9 < m)
set_option maxRecDepth 100000 in
theorem great_any (err miss full emp : Int) (G A : Option Addr) (n d m c : Nat) (w : World) (hn : n ≤ 9223372036854775807) (hm : m ≤ 9223372036854775807) :
  Calls Try.prog 15 #[.agg #[.int .i64 err, .int .i64 miss, .slice G n d], .agg #[.int .i64 full, .int .i64 emp, .slice A m c]] w fun e w' => e = .returned (.bool (greatB n m)) ∧ Below w.heap.size w w' := by
 by_cases h1 : 7 < n
 ·have h1' : (7 : Int) < n := by omega
  go_enter Try.func15, Try.ntmps15
  go_wp2_with fail
  go_ret
  exact ⟨by simp [greatB, h1], zg⟩
 ·have h1' : ¬ (7 : Int) < n := by omega
  by_cases h2 : 9 < m
  ·have h2' : (9 : Int) < m := by omega
   go_enter Try.func15, Try.ntmps15
   go_wp2_with fail
   go_ret
   exact ⟨by simp [greatB, h2], zg⟩
  ·have h2' : ¬ (9 : Int) < m := by omega
   go_enter Try.func15, Try.ntmps15
   go_wp2_with fail
   go_ret
   exact ⟨by simp [greatB, h1, h2], zg⟩

theorem append_hands (w : World) (ty : TypeId) (g n d B : Nat) (G : Option Addr) (hs : List Hf) (hown : w.ownsRow B 30 5 (.slice (some ⟨g, 0, none⟩) 0 n) 0 []) (hn : hs.length ≤ n) (hG : HandsAt w G hs) (hd : G = none → hs.length = 0 ∧ d = 0) :
  ∃ v w', (Builtin.append_ #[25, 25] ty #[.slice (some ⟨g, 0, none⟩) 0 n, .slice G hs.length d]).run Try.prog w = .ok v w' ∧ OwnHands w' B v hs ∧ w.grownBy w' (some g) := by
 obtain ⟨i0, hi, hz0, hz1, hz2⟩ := info_parts info_hand
 cases G with
 | none =>
  obtain ⟨h0, rfl⟩ := hd rfl
  have e : hs = [] := List.eq_nil_of_length_eq_zero h0
  subst e
  exact ⟨_, w, run_append_owned_none (P := Try.prog) (w := w) B 25 ty 30 i0 5 und_hands hi _ 0 [] hown, hown, grow_refl w g⟩
 | some a =>
  have hl := flat_len Hf.cells (fun _ => rfl) hs
  obtain ⟨w', hrun, ho, hg⟩ := run_append_fits (P := Try.prog) (w := w) B 25 ty 30 i0 5 und_hands hi hz1 g 0 n [] hown a hs.length d (hs.flatMap Hf.cells) hl (by
   by_cases h0 : 0 < hs.length
   ·obtain ⟨B', o, e, hcell⟩ := hG h0
    cases e
    exact hands_flat hcell
   ·intro j u hj
    have e : hs = [] := List.eq_nil_of_length_eq_zero (by omega)
    subst e
    simp at hj) (hands_one hs) (by omega)
  simp only [Nat.zero_add, List.nil_append] at ho hrun
  exact ⟨_, w', hrun, ho, hg⟩
set_option maxRecDepth 100000 in
set_option maxHeartbeats 2000000 in
theorem DupHands_any (G : Option Addr) (d : Nat) (hs : List Hf) (w : World) (hG : HandsAt w G hs) (hl : hs.length ≤ 1000) (hd : G = none → hs.length = 0 ∧ d = 0) :
  Calls Try.prog 81 #[.slice G hs.length d] w fun e w' => ∃ v, e = .returned v ∧ OwnHands w' w.heap.size v hs ∧ Below w.heap.size w w' := by
 obtain ⟨i0, hi, hz0, hz1, hz2⟩ := info_parts info_hand
 obtain ⟨w2, hrun2, hown2, hgr2⟩ := run_make_own (P := Try.prog) (w := w) w.heap.size 25 30 i0 _ 5 und_hands hi hz0 hz1 .i64 .i64 hs.length (by rw [hz2]; omega) (by unfold maxLen; omega) (Nat.le_refl _)
 have hb2 := below_none hgr2
 obtain ⟨v, w3, hrun3, hown3, hgr3⟩ := append_hands w2 25 w.heap.size hs.length d w.heap.size G hs hown2 (Nat.le_refl _) (hG.up hb2) hd
 have HO := Lib.hid hown3
 have HB : Hid (Below w.heap.size w w3) := Lib.hid (hb2.grown hgr3 hb2.size (fun k hk => by cases hk; exact Nat.le_refl _))
 clear hG hown2 hgr2 hown3 hgr3 hb2
 go_enter Try.func81, Try.ntmps81
 go_wp2_with (at_builtin; (refine wpList_append_run _ rfl _ _ _ _ rfl _ _ rfl rfl hrun3 ?_))
 go_ret
 exact ⟨v, rfl, HO.out, HB.out⟩
set_option maxRecDepth 100000 in
set_option maxHeartbeats 2000000 in
theorem Owned_any (full emp : Int) (G : Option Addr) (d : Nat) (hs : List Hf) (w : World) (hG : HandsAt w G hs) (hl : hs.length ≤ 1000) (hd : G = none → hs.length = 0 ∧ d = 0) :
  Calls Try.prog 18 #[.agg #[.int .i64 full, .int .i64 emp, .slice G hs.length d]] w fun e w' => ∃ G' d', e = .returned (.agg #[.int .i64 full, .int .i64 emp, .slice G' hs.length d']) ∧ OwnHands w' w.heap.size (.slice G' hs.length d') hs ∧ hs.length ≤ d' ∧ Below w.heap.size w w' := by
 have HG := Lib.hid hG
 clear hG
 go_enter Try.func18, Try.ntmps18
 go_wp2_with fail
 refine (DupHands_any G d hs _ (HG.out.up zg) hl hd).mono ?_
 rintro e w2 ⟨v, rfl, hown, hb2⟩
 have Hg2 := Lib.hid (Holds.up (zp4 : Holds _ (w.heap.size) 27 #[.int .i64 full, .int .i64 emp, .slice G hs.length d]) hb2)
 have Hr2 := Lib.hid (Holds.up (zp4 : Holds _ (w.heap.size + 1) 27 #[.int .i64 0, .int .i64 0, .slice none 0 0]) hb2)
 have HS2 : Hid (Below w.heap.size w w2) := Lib.hid (Below.trans zg (hb2.mono (by first | exact Nat.le_refl _ | omega | (simp; done) | (simp; omega))))
 have HB2 := HS2
 have hs2 := HB2.out.size
 have hst2 := HS2.out.size
 clear hb2
 obtain ⟨G', d', rfl, hgd, _⟩ := hown.at_
 have HO := Lib.hid hown
 clear hown
 have hrl := Hr2.out
 obtain ⟨kg0, kg1, kg2⟩ := Hg2.out.c3
 obtain ⟨zg0, zg1, zg2⟩ := Hg2.out.f3
 have lt_g : w.heap.size < w2.heap.size := Hg2.out.lt
 obtain ⟨kr0, kr1, kr2⟩ := Hr2.out.c3
 obtain ⟨zr0, zr1, zr2⟩ := Hr2.out.f3
 have lt_r : w.heap.size + 1 < w2.heap.size := Hr2.out.lt
 have lt1 : w.heap.size < w.heap.size + 1 + 1 := by omega
 have lt2 : w.heap.size + 1 < w.heap.size + 1 + 1 := by omega
 go_wp2_with fail
 refine ret_cell (t := 27) (cs := #[.int .i64 full, .int .i64 emp, .slice G' hs.length d']) rfl rfl zp4 Try.underlying27 rfl (by kernel_rfl) rfl ⟨G', d', rfl, ?_, hgd, HB2.out.trans zg⟩
 have ho := HO.out
 simp only [World.size_alloc] at ho
 exact row5_mono (row5_far (row5_far (row5_far (row5_far ho (p := ⟨w.heap.size, 2, none⟩) lt1 _) (p := ⟨w.heap.size + 1, 0, none⟩) lt2 _) (p := ⟨w.heap.size + 1, 1, none⟩) lt2 _) (p := ⟨w.heap.size + 1, 2, none⟩) lt2 _) (by omega)
def Rowed (w : World) (B : Nat) (e : TypeId) (v : Value) (n : Nat) (xs : List Value) : Prop := w.ownsRow B e 5 v n xs
theorem Rowed.up {w w' : World} {B n : Nat} {e : TypeId} {v : Value} {xs : List Value} (h : Rowed w B e v n xs) (hb : Below w.heap.size w w') : Rowed w' B e v n xs := row5_up h hb
theorem Holds.set3_ne {w : World} {B b : Nat} {t e : TypeId} {cs ds : Array Value} {u0 u1 u2 : Value} (h : Holds w B t cs) (h2 : Holds w b e ds) (ht : t ≠ e) : Holds (((w.setCell ⟨b, 0, none⟩ u0).setCell ⟨b, 1, none⟩ u1).setCell ⟨b, 2, none⟩ u2) B t cs := by
 have hne : B ≠ b := fun e => by
  subst e
  have := h.symm.trans h2
  simp at this
  first | exact ht this.2 | exact ht this.2.1
 exact ((h.far (p := ⟨b, 0, none⟩) (by simpa using hne) _).far (p := ⟨b, 1, none⟩) (by simpa using hne) _).far (p := ⟨b, 2, none⟩) (by simpa using hne) _
end Go.Proofs.Ytifffonoipapgaa
