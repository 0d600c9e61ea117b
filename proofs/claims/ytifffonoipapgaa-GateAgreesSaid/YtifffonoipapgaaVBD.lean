
import Derived.Test.YtifffonoipapgaaVAA
import Derived.Test.YtifffonoipapgaaVAC
import Derived.Test.YtifffonoipapgaaVBC
set_option linter.unusedSimpArgs false
set_option linter.unusedVariables false
namespace Go.Proofs.Ytifffonoipapgaa
open Go.RowKit
theorem EqualInt_ne (A A' : Option Addr) (c c' : Nat) (xs ys : List Int) (w : World) (h : xs.length ≠ ys.length) :
  Calls Try.prog 78 #[.slice A xs.length c, .slice A' ys.length c'] w fun e w' => e = .returned (.bool (xs == ys)) ∧ Below w.heap.size w w' := by
 have hq : ((xs.length : Int) != (ys.length : Int)) = true := by simp; omega
 have hq2 : (xs.length != ys.length) = true := by simpa using h
 have hf : (xs == ys) = false := by
  have : xs ≠ ys := fun e => h (by rw [e])
  simpa using this
 have HF := Lib.hid hf
 clear hf h
 go_enter Try.func78, Try.ntmps78
 go_wp2_with fail
 go_ret
 exact ⟨by rw [HF.out]; rfl, Below.refl _ _⟩
set_option maxRecDepth 100000 in
set_option maxHeartbeats 2000000 in
theorem EqualInt_eq (A A' : Option Addr) (c c' : Nat) (xs ys : List Int) (w : World) (hA : IntsAt w A xs) (hA' : IntsAt w A' ys) (h : ys.length = xs.length) (hl : xs.length ≤ 1000000) :
  Calls Try.prog 78 #[.slice A xs.length c, .slice A' xs.length c'] w fun e w' => e = .returned (.bool (xs == ys)) ∧ Below w.heap.size w w' := by
 have HA := Lib.hid hA
 have HA' := Lib.hid hA'
 have HL := Lib.hid h
 clear hA hA' h
 go_enter Try.func78, Try.ntmps78
 go_wp2_with fail
 go_loopw [13] (fun v13 wr => ∃ k : Nat, v13 = .int .i64 (k : Int) ∧ k ≤ xs.length ∧ Hid (xs.take k = ys.take k) ∧ Below w.heap.size w wr) (fun v13 _ => xs.length - (intOf v13).toNat)
 case atStart => exact ⟨0, rfl, Nat.zero_le _, Lib.hid (by simp), Below.refl _ _⟩
 case round =>
  obtain ⟨k, rfl, hk, ht, hBr⟩ := hrel
  by_cases hlt : k < xs.length
  ·obtain ⟨x, hx⟩ : ∃ x, xs[k]? = some x := ⟨_, List.getElem?_eq_getElem hlt⟩
   obtain ⟨y, hy⟩ : ∃ y, ys[k]? = some y := ⟨_, List.getElem?_eq_getElem (by rw [HL.out]; exact hlt)⟩
   obtain ⟨B, o, rfl, hc⟩ := HA.out (by omega)
   obtain ⟨B', o', rfl, hc'⟩ := HA'.out (by rw [HL.out]; omega)
   have h0 := hc k x hx
   have h1 := hc' k y hy
   have hlB := World.block_lt_of_cell? w _ h0
   have hlB' := World.block_lt_of_cell? w _ h1
   have HX := Lib.hid h0
   have HY := Lib.hid h1
   have HXK := Lib.hid hx
   have HYK := Lib.hid hy
   clear hc hc' h0 h1 hx hy
   cases hxy : (x == y) with
   | true =>
    have HE := Lib.hid hxy
    have hxb : (x != y) = false := by rw [bne, hxy]; rfl
    clear hxy
    go_wp2_with fail
    rename_i Kc hKc
    have HSL := Lib.hid (show slotsOf [some 16, some 17, some 18, some 19, some 20, some 21, some 22, some 23, some 24] = [16, 17, 18, 19, 20, 21, 22, 23, 24] from rfl)
    refine wp_region_partsG (by kernel_rfl) [some 16, some 17, some 18, some 19, some 20, some 21, some 22, some 23, some 24] (fun jq xq w' => match jq with
     | 0 => xq 16 = .slice (some ⟨B, o, none⟩) xs.length c
     | 1 => xq 17 = .int .i64 (k : Int)
     | 2 => xq 18 = .pointer (some ⟨B, o + k, none⟩)
     | 3 => xq 19 = .int .i64 x
     | 4 => xq 20 = .slice (some ⟨B', o', none⟩) xs.length c'
     | 5 => xq 21 = .int .i64 (k : Int)
     | 6 => xq 22 = .pointer (some ⟨B', o' + k, none⟩)
     | 7 => xq 23 = .int .i64 y
     | 8 => xq 24 = .bool false
     | _ => True) [[16], [17], [18], [19], [20], [21], [22], [23], [24]] [] (Below w.heap.size w) (by kernel_rfl) ?_ ?_ (fun w w' hb h => h.trans (hb.mono h.size)) (hBr) ?_ ?_ ?_
    ·intro jq xq xq' wq h hv
     match jq, h, hv with
     | 0, h, hv => show xq' 16 = .slice (some ⟨B, o, none⟩) xs.length c; rw [← h 16 (by decide)]; exact hv
     | 1, h, hv => show xq' 17 = .int .i64 (k : Int); rw [← h 17 (by decide)]; exact hv
     | 2, h, hv => show xq' 18 = .pointer (some ⟨B, o + k, none⟩); rw [← h 18 (by decide)]; exact hv
     | 3, h, hv => show xq' 19 = .int .i64 x; rw [← h 19 (by decide)]; exact hv
     | 4, h, hv => show xq' 20 = .slice (some ⟨B', o', none⟩) xs.length c'; rw [← h 20 (by decide)]; exact hv
     | 5, h, hv => show xq' 21 = .int .i64 (k : Int); rw [← h 21 (by decide)]; exact hv
     | 6, h, hv => show xq' 22 = .pointer (some ⟨B', o' + k, none⟩); rw [← h 22 (by decide)]; exact hv
     | 7, h, hv => show xq' 23 = .int .i64 y; rw [← h 23 (by decide)]; exact hv
     | 8, h, hv => show xq' 24 = .bool false; rw [← h 24 (by decide)]; exact hv
     | _ + 9, _, _ => trivial
    ·intro jq xq wq w' hb' hv
     match jq, hv with
     | 0, hv => exact hv
     | 1, hv => exact hv
     | 2, hv => exact hv
     | 3, hv => exact hv
     | 4, hv => exact hv
     | 5, hv => exact hv
     | 6, hv => exact hv
     | 7, hv => exact hv
     | 8, hv => exact hv
     | _ + 9, _ => trivial
    ·intro jq hj
     match jq, hj with
     | 0, hj => exact absurd hj (by decide)
     | 1, hj => exact absurd hj (by decide)
     | 2, hj => exact absurd hj (by decide)
     | 3, hj => exact absurd hj (by decide)
     | 4, hj => exact absurd hj (by decide)
     | 5, hj => exact absurd hj (by decide)
     | 6, hj => exact absurd hj (by decide)
     | 7, hj => exact absurd hj (by decide)
     | 8, hj => exact absurd hj (by decide)
     | _ + 9, _ => trivial
    ·refine ⟨?_, ?_, ?_, ?_, ?_, ?_, ?_, ?_, ?_, trivial⟩
     ·intro xq w1 hb1 hx K hK0
      have hK := fun v w' hb => hK0 v w' (.inl hb)
      clear hx hKc hK0
      have q0 : w1.cell? ⟨B, o + k, none⟩ = some (.int .i64 x) := (hb1.cell (p := ⟨B, o + k, none⟩) hlB).trans HX.out
      have q1 : w1.cell? ⟨B', o' + k, none⟩ = some (.int .i64 y) := (hb1.cell (p := ⟨B', o' + k, none⟩) hlB').trans HY.out
      simp only [frameOf, fill, setSlot, sg, Nat.reduceBEq, if_true, if_false, Nat.reduceAdd, Nat.reduceEqDiff, HSL.out] at hK ⊢
      go_wp2_with (fail)
      exact hK _ _ (Below.refl _ _) rfl
     ·intro xq w1 hb1 hx K hK0
      have hK := fun v w' hb => hK0 v w' (.inl hb)
      clear hx hKc hK0
      have q0 : w1.cell? ⟨B, o + k, none⟩ = some (.int .i64 x) := (hb1.cell (p := ⟨B, o + k, none⟩) hlB).trans HX.out
      have q1 : w1.cell? ⟨B', o' + k, none⟩ = some (.int .i64 y) := (hb1.cell (p := ⟨B', o' + k, none⟩) hlB').trans HY.out
      simp only [frameOf, fill, setSlot, sg, Nat.reduceBEq, if_true, if_false, Nat.reduceAdd, Nat.reduceEqDiff, HSL.out] at hK ⊢
      go_wp2_with (fail)
      exact hK _ _ (Below.refl _ _) rfl
     ·intro xq w1 hb1 hx K hK0
      have hK := fun v w' hb => hK0 v w' (.inl hb)
      have e16 : xq 16 = .slice (some ⟨B, o, none⟩) xs.length c := hx 0 (by rfl) (by rfl)
      have e17 : xq 17 = .int .i64 (k : Int) := hx 1 (by rfl) (by rfl)
      clear hx hKc hK0
      have q0 : w1.cell? ⟨B, o + k, none⟩ = some (.int .i64 x) := (hb1.cell (p := ⟨B, o + k, none⟩) hlB).trans HX.out
      have q1 : w1.cell? ⟨B', o' + k, none⟩ = some (.int .i64 y) := (hb1.cell (p := ⟨B', o' + k, none⟩) hlB').trans HY.out
      simp only [frameOf, fill, setSlot, sg, Nat.reduceBEq, if_true, if_false, Nat.reduceAdd, Nat.reduceEqDiff, HSL.out] at hK ⊢
      simp only [e16, e17] at hK ⊢
      clear e16 e17
      go_wp2_with (fail)
      exact hK _ _ (Below.refl _ _) rfl
     ·intro xq w1 hb1 hx K hK0
      have hK := fun v w' hb => hK0 v w' (.inl hb)
      have e18 : xq 18 = .pointer (some ⟨B, o + k, none⟩) := hx 2 (by rfl) (by rfl)
      clear hx hKc hK0
      have q0 : w1.cell? ⟨B, o + k, none⟩ = some (.int .i64 x) := (hb1.cell (p := ⟨B, o + k, none⟩) hlB).trans HX.out
      have q1 : w1.cell? ⟨B', o' + k, none⟩ = some (.int .i64 y) := (hb1.cell (p := ⟨B', o' + k, none⟩) hlB').trans HY.out
      simp only [frameOf, fill, setSlot, sg, Nat.reduceBEq, if_true, if_false, Nat.reduceAdd, Nat.reduceEqDiff, HSL.out] at hK ⊢
      simp only [e18] at hK ⊢
      clear e18
      go_wp2_with (fail)
      exact hK _ _ (Below.refl _ _) rfl
     ·intro xq w1 hb1 hx K hK0
      have hK := fun v w' hb => hK0 v w' (.inl hb)
      clear hx hKc hK0
      have q0 : w1.cell? ⟨B, o + k, none⟩ = some (.int .i64 x) := (hb1.cell (p := ⟨B, o + k, none⟩) hlB).trans HX.out
      have q1 : w1.cell? ⟨B', o' + k, none⟩ = some (.int .i64 y) := (hb1.cell (p := ⟨B', o' + k, none⟩) hlB').trans HY.out
      simp only [frameOf, fill, setSlot, sg, Nat.reduceBEq, if_true, if_false, Nat.reduceAdd, Nat.reduceEqDiff, HSL.out] at hK ⊢
      go_wp2_with (fail)
      exact hK _ _ (Below.refl _ _) rfl
     ·intro xq w1 hb1 hx K hK0
      have hK := fun v w' hb => hK0 v w' (.inl hb)
      clear hx hKc hK0
      have q0 : w1.cell? ⟨B, o + k, none⟩ = some (.int .i64 x) := (hb1.cell (p := ⟨B, o + k, none⟩) hlB).trans HX.out
      have q1 : w1.cell? ⟨B', o' + k, none⟩ = some (.int .i64 y) := (hb1.cell (p := ⟨B', o' + k, none⟩) hlB').trans HY.out
      simp only [frameOf, fill, setSlot, sg, Nat.reduceBEq, if_true, if_false, Nat.reduceAdd, Nat.reduceEqDiff, HSL.out] at hK ⊢
      go_wp2_with (fail)
      exact hK _ _ (Below.refl _ _) rfl
     ·intro xq w1 hb1 hx K hK0
      have hK := fun v w' hb => hK0 v w' (.inl hb)
      have e20 : xq 20 = .slice (some ⟨B', o', none⟩) xs.length c' := hx 4 (by rfl) (by rfl)
      have e21 : xq 21 = .int .i64 (k : Int) := hx 5 (by rfl) (by rfl)
      clear hx hKc hK0
      have q0 : w1.cell? ⟨B, o + k, none⟩ = some (.int .i64 x) := (hb1.cell (p := ⟨B, o + k, none⟩) hlB).trans HX.out
      have q1 : w1.cell? ⟨B', o' + k, none⟩ = some (.int .i64 y) := (hb1.cell (p := ⟨B', o' + k, none⟩) hlB').trans HY.out
      simp only [frameOf, fill, setSlot, sg, Nat.reduceBEq, if_true, if_false, Nat.reduceAdd, Nat.reduceEqDiff, HSL.out] at hK ⊢
      simp only [e20, e21] at hK ⊢
      clear e20 e21
      go_wp2_with (fail)
      exact hK _ _ (Below.refl _ _) rfl
     ·intro xq w1 hb1 hx K hK0
      have hK := fun v w' hb => hK0 v w' (.inl hb)
      have e22 : xq 22 = .pointer (some ⟨B', o' + k, none⟩) := hx 6 (by rfl) (by rfl)
      clear hx hKc hK0
      have q0 : w1.cell? ⟨B, o + k, none⟩ = some (.int .i64 x) := (hb1.cell (p := ⟨B, o + k, none⟩) hlB).trans HX.out
      have q1 : w1.cell? ⟨B', o' + k, none⟩ = some (.int .i64 y) := (hb1.cell (p := ⟨B', o' + k, none⟩) hlB').trans HY.out
      simp only [frameOf, fill, setSlot, sg, Nat.reduceBEq, if_true, if_false, Nat.reduceAdd, Nat.reduceEqDiff, HSL.out] at hK ⊢
      simp only [e22] at hK ⊢
      clear e22
      go_wp2_with (fail)
      exact hK _ _ (Below.refl _ _) rfl
     ·intro xq w1 hb1 hx K hK0
      have hK := fun v w' hb => hK0 v w' (.inl hb)
      have e19 : xq 19 = .int .i64 x := hx 3 (by rfl) (by rfl)
      have e23 : xq 23 = .int .i64 y := hx 7 (by rfl) (by rfl)
      clear hx hKc hK0
      have q0 : w1.cell? ⟨B, o + k, none⟩ = some (.int .i64 x) := (hb1.cell (p := ⟨B, o + k, none⟩) hlB).trans HX.out
      have q1 : w1.cell? ⟨B', o' + k, none⟩ = some (.int .i64 y) := (hb1.cell (p := ⟨B', o' + k, none⟩) hlB').trans HY.out
      simp only [frameOf, fill, setSlot, sg, Nat.reduceBEq, if_true, if_false, Nat.reduceAdd, Nat.reduceEqDiff, HSL.out] at hK ⊢
      simp only [e19, e23] at hK ⊢
      clear e19 e23
      go_wp2_with (fail)
      exact hK _ _ (Below.refl _ _) rfl
    ·intro xq w1 hb1 hx
     have e16 : xq 16 = .slice (some ⟨B, o, none⟩) xs.length c := hx 0 (by decide)
     have e17 : xq 17 = .int .i64 (k : Int) := hx 1 (by decide)
     have e18 : xq 18 = .pointer (some ⟨B, o + k, none⟩) := hx 2 (by decide)
     have e19 : xq 19 = .int .i64 x := hx 3 (by decide)
     have e20 : xq 20 = .slice (some ⟨B', o', none⟩) xs.length c' := hx 4 (by decide)
     have e21 : xq 21 = .int .i64 (k : Int) := hx 5 (by decide)
     have e22 : xq 22 = .pointer (some ⟨B', o' + k, none⟩) := hx 6 (by decide)
     have e23 : xq 23 = .int .i64 y := hx 7 (by decide)
     have e24 : xq 24 = .bool false := hx 8 (by decide)
     clear hx
     have q0 : w1.cell? ⟨B, o + k, none⟩ = some (.int .i64 x) := (hb1.cell (p := ⟨B, o + k, none⟩) hlB).trans HX.out
     have q1 : w1.cell? ⟨B', o' + k, none⟩ = some (.int .i64 y) := (hb1.cell (p := ⟨B', o' + k, none⟩) hlB').trans HY.out
     simp only [frameOf, fill, setSlot, sg, Nat.reduceBEq, if_true, if_false, Nat.reduceAdd, Nat.reduceEqDiff, HSL.out]
     simp only [e16, e17, e18, e19, e20, e21, e22, e23, e24]
     clear e16 e17 e18 e19 e20 e21 e22 e23 e24
     refine hKc _ _ ?_
     go_wp2_with fail
     go_roundw
     case rel =>
      refine ⟨k + 1, by go_num, hlt, Lib.hid ?_, hb1⟩
      have e := ht.out
      rw [List.take_add_one, List.take_add_one, e, HXK.out, HYK.out, show x = y from by simpa using HE.out]
     case measure => simp [intOf]; omega
   | false =>
    have HE := Lib.hid hxy
    have hxb : (x != y) = true := by rw [bne, hxy]; rfl
    clear hxy
    go_wp2_with fail
    rename_i Kc hKc
    have HSL := Lib.hid (show slotsOf [some 16, some 17, some 18, some 19, some 20, some 21, some 22, some 23, some 24] = [16, 17, 18, 19, 20, 21, 22, 23, 24] from rfl)
    refine wp_region_partsG (by kernel_rfl) [some 16, some 17, some 18, some 19, some 20, some 21, some 22, some 23, some 24] (fun jq xq w' => match jq with
     | 0 => xq 16 = .slice (some ⟨B, o, none⟩) xs.length c
     | 1 => xq 17 = .int .i64 (k : Int)
     | 2 => xq 18 = .pointer (some ⟨B, o + k, none⟩)
     | 3 => xq 19 = .int .i64 x
     | 4 => xq 20 = .slice (some ⟨B', o', none⟩) xs.length c'
     | 5 => xq 21 = .int .i64 (k : Int)
     | 6 => xq 22 = .pointer (some ⟨B', o' + k, none⟩)
     | 7 => xq 23 = .int .i64 y
     | 8 => xq 24 = .bool true
     | _ => True) [[16], [17], [18], [19], [20], [21], [22], [23], [24]] [] (Below w.heap.size w) (by kernel_rfl) ?_ ?_ (fun w w' hb h => h.trans (hb.mono h.size)) (hBr) ?_ ?_ ?_
    ·intro jq xq xq' wq h hv
     match jq, h, hv with
     | 0, h, hv => show xq' 16 = .slice (some ⟨B, o, none⟩) xs.length c; rw [← h 16 (by decide)]; exact hv
     | 1, h, hv => show xq' 17 = .int .i64 (k : Int); rw [← h 17 (by decide)]; exact hv
     | 2, h, hv => show xq' 18 = .pointer (some ⟨B, o + k, none⟩); rw [← h 18 (by decide)]; exact hv
     | 3, h, hv => show xq' 19 = .int .i64 x; rw [← h 19 (by decide)]; exact hv
     | 4, h, hv => show xq' 20 = .slice (some ⟨B', o', none⟩) xs.length c'; rw [← h 20 (by decide)]; exact hv
     | 5, h, hv => show xq' 21 = .int .i64 (k : Int); rw [← h 21 (by decide)]; exact hv
     | 6, h, hv => show xq' 22 = .pointer (some ⟨B', o' + k, none⟩); rw [← h 22 (by decide)]; exact hv
     | 7, h, hv => show xq' 23 = .int .i64 y; rw [← h 23 (by decide)]; exact hv
     | 8, h, hv => show xq' 24 = .bool true; rw [← h 24 (by decide)]; exact hv
     | _ + 9, _, _ => trivial
    ·intro jq xq wq w' hb' hv
     match jq, hv with
     | 0, hv => exact hv
     | 1, hv => exact hv
     | 2, hv => exact hv
     | 3, hv => exact hv
     | 4, hv => exact hv
     | 5, hv => exact hv
     | 6, hv => exact hv
     | 7, hv => exact hv
     | 8, hv => exact hv
     | _ + 9, _ => trivial
    ·intro jq hj
     match jq, hj with
     | 0, hj => exact absurd hj (by decide)
     | 1, hj => exact absurd hj (by decide)
     | 2, hj => exact absurd hj (by decide)
     | 3, hj => exact absurd hj (by decide)
     | 4, hj => exact absurd hj (by decide)
     | 5, hj => exact absurd hj (by decide)
     | 6, hj => exact absurd hj (by decide)
     | 7, hj => exact absurd hj (by decide)
     | 8, hj => exact absurd hj (by decide)
     | _ + 9, _ => trivial
    ·refine ⟨?_, ?_, ?_, ?_, ?_, ?_, ?_, ?_, ?_, trivial⟩
     ·intro xq w1 hb1 hx K hK0
      have hK := fun v w' hb => hK0 v w' (.inl hb)
      clear hx hKc hK0
      have q0 : w1.cell? ⟨B, o + k, none⟩ = some (.int .i64 x) := (hb1.cell (p := ⟨B, o + k, none⟩) hlB).trans HX.out
      have q1 : w1.cell? ⟨B', o' + k, none⟩ = some (.int .i64 y) := (hb1.cell (p := ⟨B', o' + k, none⟩) hlB').trans HY.out
      simp only [frameOf, fill, setSlot, sg, Nat.reduceBEq, if_true, if_false, Nat.reduceAdd, Nat.reduceEqDiff, HSL.out] at hK ⊢
      go_wp2_with (fail)
      exact hK _ _ (Below.refl _ _) rfl
     ·intro xq w1 hb1 hx K hK0
      have hK := fun v w' hb => hK0 v w' (.inl hb)
      clear hx hKc hK0
      have q0 : w1.cell? ⟨B, o + k, none⟩ = some (.int .i64 x) := (hb1.cell (p := ⟨B, o + k, none⟩) hlB).trans HX.out
      have q1 : w1.cell? ⟨B', o' + k, none⟩ = some (.int .i64 y) := (hb1.cell (p := ⟨B', o' + k, none⟩) hlB').trans HY.out
      simp only [frameOf, fill, setSlot, sg, Nat.reduceBEq, if_true, if_false, Nat.reduceAdd, Nat.reduceEqDiff, HSL.out] at hK ⊢
      go_wp2_with (fail)
      exact hK _ _ (Below.refl _ _) rfl
     ·intro xq w1 hb1 hx K hK0
      have hK := fun v w' hb => hK0 v w' (.inl hb)
      have e16 : xq 16 = .slice (some ⟨B, o, none⟩) xs.length c := hx 0 (by rfl) (by rfl)
      have e17 : xq 17 = .int .i64 (k : Int) := hx 1 (by rfl) (by rfl)
      clear hx hKc hK0
      have q0 : w1.cell? ⟨B, o + k, none⟩ = some (.int .i64 x) := (hb1.cell (p := ⟨B, o + k, none⟩) hlB).trans HX.out
      have q1 : w1.cell? ⟨B', o' + k, none⟩ = some (.int .i64 y) := (hb1.cell (p := ⟨B', o' + k, none⟩) hlB').trans HY.out
      simp only [frameOf, fill, setSlot, sg, Nat.reduceBEq, if_true, if_false, Nat.reduceAdd, Nat.reduceEqDiff, HSL.out] at hK ⊢
      simp only [e16, e17] at hK ⊢
      clear e16 e17
      go_wp2_with (fail)
      exact hK _ _ (Below.refl _ _) rfl
     ·intro xq w1 hb1 hx K hK0
      have hK := fun v w' hb => hK0 v w' (.inl hb)
      have e18 : xq 18 = .pointer (some ⟨B, o + k, none⟩) := hx 2 (by rfl) (by rfl)
      clear hx hKc hK0
      have q0 : w1.cell? ⟨B, o + k, none⟩ = some (.int .i64 x) := (hb1.cell (p := ⟨B, o + k, none⟩) hlB).trans HX.out
      have q1 : w1.cell? ⟨B', o' + k, none⟩ = some (.int .i64 y) := (hb1.cell (p := ⟨B', o' + k, none⟩) hlB').trans HY.out
      simp only [frameOf, fill, setSlot, sg, Nat.reduceBEq, if_true, if_false, Nat.reduceAdd, Nat.reduceEqDiff, HSL.out] at hK ⊢
      simp only [e18] at hK ⊢
      clear e18
      go_wp2_with (fail)
      exact hK _ _ (Below.refl _ _) rfl
     ·intro xq w1 hb1 hx K hK0
      have hK := fun v w' hb => hK0 v w' (.inl hb)
      clear hx hKc hK0
      have q0 : w1.cell? ⟨B, o + k, none⟩ = some (.int .i64 x) := (hb1.cell (p := ⟨B, o + k, none⟩) hlB).trans HX.out
      have q1 : w1.cell? ⟨B', o' + k, none⟩ = some (.int .i64 y) := (hb1.cell (p := ⟨B', o' + k, none⟩) hlB').trans HY.out
      simp only [frameOf, fill, setSlot, sg, Nat.reduceBEq, if_true, if_false, Nat.reduceAdd, Nat.reduceEqDiff, HSL.out] at hK ⊢
      go_wp2_with (fail)
      exact hK _ _ (Below.refl _ _) rfl
     ·intro xq w1 hb1 hx K hK0
      have hK := fun v w' hb => hK0 v w' (.inl hb)
      clear hx hKc hK0
      have q0 : w1.cell? ⟨B, o + k, none⟩ = some (.int .i64 x) := (hb1.cell (p := ⟨B, o + k, none⟩) hlB).trans HX.out
      have q1 : w1.cell? ⟨B', o' + k, none⟩ = some (.int .i64 y) := (hb1.cell (p := ⟨B', o' + k, none⟩) hlB').trans HY.out
      simp only [frameOf, fill, setSlot, sg, Nat.reduceBEq, if_true, if_false, Nat.reduceAdd, Nat.reduceEqDiff, HSL.out] at hK ⊢
      go_wp2_with (fail)
      exact hK _ _ (Below.refl _ _) rfl
     ·intro xq w1 hb1 hx K hK0
      have hK := fun v w' hb => hK0 v w' (.inl hb)
      have e20 : xq 20 = .slice (some ⟨B', o', none⟩) xs.length c' := hx 4 (by rfl) (by rfl)
      have e21 : xq 21 = .int .i64 (k : Int) := hx 5 (by rfl) (by rfl)
      clear hx hKc hK0
      have q0 : w1.cell? ⟨B, o + k, none⟩ = some (.int .i64 x) := (hb1.cell (p := ⟨B, o + k, none⟩) hlB).trans HX.out
      have q1 : w1.cell? ⟨B', o' + k, none⟩ = some (.int .i64 y) := (hb1.cell (p := ⟨B', o' + k, none⟩) hlB').trans HY.out
      simp only [frameOf, fill, setSlot, sg, Nat.reduceBEq, if_true, if_false, Nat.reduceAdd, Nat.reduceEqDiff, HSL.out] at hK ⊢
      simp only [e20, e21] at hK ⊢
      clear e20 e21
      go_wp2_with (fail)
      exact hK _ _ (Below.refl _ _) rfl
     ·intro xq w1 hb1 hx K hK0
      have hK := fun v w' hb => hK0 v w' (.inl hb)
      have e22 : xq 22 = .pointer (some ⟨B', o' + k, none⟩) := hx 6 (by rfl) (by rfl)
      clear hx hKc hK0
      have q0 : w1.cell? ⟨B, o + k, none⟩ = some (.int .i64 x) := (hb1.cell (p := ⟨B, o + k, none⟩) hlB).trans HX.out
      have q1 : w1.cell? ⟨B', o' + k, none⟩ = some (.int .i64 y) := (hb1.cell (p := ⟨B', o' + k, none⟩) hlB').trans HY.out
      simp only [frameOf, fill, setSlot, sg, Nat.reduceBEq, if_true, if_false, Nat.reduceAdd, Nat.reduceEqDiff, HSL.out] at hK ⊢
      simp only [e22] at hK ⊢
      clear e22
      go_wp2_with (fail)
      exact hK _ _ (Below.refl _ _) rfl
     ·intro xq w1 hb1 hx K hK0
      have hK := fun v w' hb => hK0 v w' (.inl hb)
      have e19 : xq 19 = .int .i64 x := hx 3 (by rfl) (by rfl)
      have e23 : xq 23 = .int .i64 y := hx 7 (by rfl) (by rfl)
      clear hx hKc hK0
      have q0 : w1.cell? ⟨B, o + k, none⟩ = some (.int .i64 x) := (hb1.cell (p := ⟨B, o + k, none⟩) hlB).trans HX.out
      have q1 : w1.cell? ⟨B', o' + k, none⟩ = some (.int .i64 y) := (hb1.cell (p := ⟨B', o' + k, none⟩) hlB').trans HY.out
      simp only [frameOf, fill, setSlot, sg, Nat.reduceBEq, if_true, if_false, Nat.reduceAdd, Nat.reduceEqDiff, HSL.out] at hK ⊢
      simp only [e19, e23] at hK ⊢
      clear e19 e23
      go_wp2_with (fail)
      exact hK _ _ (Below.refl _ _) rfl
    ·intro xq w1 hb1 hx
     have e16 : xq 16 = .slice (some ⟨B, o, none⟩) xs.length c := hx 0 (by decide)
     have e17 : xq 17 = .int .i64 (k : Int) := hx 1 (by decide)
     have e18 : xq 18 = .pointer (some ⟨B, o + k, none⟩) := hx 2 (by decide)
     have e19 : xq 19 = .int .i64 x := hx 3 (by decide)
     have e20 : xq 20 = .slice (some ⟨B', o', none⟩) xs.length c' := hx 4 (by decide)
     have e21 : xq 21 = .int .i64 (k : Int) := hx 5 (by decide)
     have e22 : xq 22 = .pointer (some ⟨B', o' + k, none⟩) := hx 6 (by decide)
     have e23 : xq 23 = .int .i64 y := hx 7 (by decide)
     have e24 : xq 24 = .bool true := hx 8 (by decide)
     clear hx
     have q0 : w1.cell? ⟨B, o + k, none⟩ = some (.int .i64 x) := (hb1.cell (p := ⟨B, o + k, none⟩) hlB).trans HX.out
     have q1 : w1.cell? ⟨B', o' + k, none⟩ = some (.int .i64 y) := (hb1.cell (p := ⟨B', o' + k, none⟩) hlB').trans HY.out
     simp only [frameOf, fill, setSlot, sg, Nat.reduceBEq, if_true, if_false, Nat.reduceAdd, Nat.reduceEqDiff, HSL.out]
     simp only [e16, e17, e18, e19, e20, e21, e22, e23, e24]
     clear e16 e17 e18 e19 e20 e21 e22 e23 e24
     refine hKc _ _ ?_
     go_wp2_with fail
     go_ret
     have hfin : (xs == ys) = false := by
      have : xs ≠ ys := fun e => by
       subst e
       have h1 := HXK.out
       rw [HYK.out] at h1
       injection h1 with h1
       subst h1
       have := HE.out
       simp at this
      simpa using this
     exact ⟨by rw [hfin]; rfl, hb1⟩
  ·have hkl : k = xs.length := by omega
   subst hkl
   go_wp2_with fail
   go_ret
   have hfin : (xs == ys) = true := by
    have e := ht.out
    rw [List.take_length, ← HL.out, List.take_length] at e
    simpa using e
   exact ⟨by rw [hfin]; rfl, hBr⟩
theorem EqualInt_any (A A' : Option Addr) (c c' : Nat) (xs ys : List Int) (w : World) (hA : IntsAt w A xs) (hA' : IntsAt w A' ys) (hl : xs.length ≤ 1000000) :
  Calls Try.prog 78 #[.slice A xs.length c, .slice A' ys.length c'] w fun e w' => e = .returned (.bool (xs == ys)) ∧ Below w.heap.size w w' := by
 by_cases h : ys.length = xs.length
 ·rw [h]; exact EqualInt_eq A A' c c' xs ys w hA hA' h hl
 ·exact EqualInt_ne A A' c c' xs ys w (fun e => h e.symm)
end Go.Proofs.Ytifffonoipapgaa
