import Derived.Deep.CutRange
import Derived.Laws.AppendOwnNone
import Derived.Test.YtifffonoipapgaaVAA
import Derived.Test.YtifffonoipapgaaVAC
import Derived.Test.YtifffonoipapgaaVAG
import Derived.Test.YtifffonoipapgaaVAX
import Derived.Test.YtifffonoipapgaaVBD
import Derived.Test.YtifffonoipapgaaVBF
import Derived.Test.YtifffonoipapgaaVBI
import Derived.Test.YtifffonoipapgaaVBJ
set_option linter.unusedSimpArgs false
set_option linter.unusedVariables false
namespace Go.Proofs.Ytifffonoipapgaa
open Go.RowKit
theorem eqlIn_ints (n : Nat) (a b c d : Int) (w : World) : (Op.equalIn (n + 2) 28 (.agg #[.int .i64 a, .int .i64 b, .int .i64 c, .int .i64 d]) (.agg #[.int .i64 a, .int .i64 b, .int .i64 c, .int .i64 d])).run Try.prog w = .ok true w := by
 have hu : Try.prog.underlying 28 = some (.array 4 3) := by kernel_rfl
 have hi : (sizeOf 3).run Try.prog w = .ok 1 w := by kernel_rfl
 unfold Op.equalIn
 simp [Sem.run_bind, run_underlying hu, hi, show List.range' 0 4 = [0, 1, 2, 3] from rfl, go_sem]
theorem eqlIn_hand (n : Nat) (s a b c d : Int) (w : World) : (Op.equalIn (n + 3) 30 (.agg #[.int .i64 s, .int .i64 a, .int .i64 b, .int .i64 c, .int .i64 d]) (.agg #[.int .i64 s, .int .i64 a, .int .i64 b, .int .i64 c, .int .i64 d])).run Try.prog w = .ok true w := by
 simp [go_sem, eqlIn_ints n a b c d, Result.andThen]
theorem neq_hand (s a b c d : Int) (w : World) : (binOp .neq 30 (.agg #[.int .i64 s, .int .i64 a, .int .i64 b, .int .i64 c, .int .i64 d]) (.agg #[.int .i64 s, .int .i64 a, .int .i64 b, .int .i64 c, .int .i64 d])).run Try.prog w = .ok (.bool false) w := by
 rw [run_neq_struct, eqlIn_hand]; rfl
set_option maxRecDepth 100000 in
set_option maxHeartbeats 4000000 in
theorem equalHand_same (A A' : Option Addr) (c c' : Nat) (hs : List Hf) (w : World) (hA : HandsAt w A hs) (hA' : HandsAt w A' hs) (hl : hs.length ≤ 1000) :
  Calls Try.prog 70 #[.slice A hs.length c, .slice A' hs.length c'] w fun e w' => e = .returned (.bool true) ∧ Below w.heap.size w w' := by
 have HA := Lib.hid hA
 have HA' := Lib.hid hA'
 clear hA hA'
 go_enter Try.func70, Try.ntmps70
 go_wp2_with fail
 go_loopw [13] (fun v13 wr => ∃ k : Nat, v13 = .int .i64 (k : Int) ∧ k ≤ hs.length ∧ Below w.heap.size w wr) (fun v13 _ => hs.length - (intOf v13).toNat)
 case atStart => exact ⟨0, rfl, Nat.zero_le _, Below.refl _ _⟩
 case round =>
  obtain ⟨k, rfl, hk, hBr⟩ := hrel
  by_cases hlt : k < hs.length
  ·obtain ⟨hf, hh⟩ : ∃ z, hs[k]? = some z := ⟨_, List.getElem?_eq_getElem hlt⟩
   obtain ⟨B, o, rfl, hc⟩ := HA.out (by omega)
   obtain ⟨B', o', rfl, hc'⟩ := HA'.out (by omega)
   obtain ⟨x0, x1, x2, x3, x4⟩ := hc k hf hh
   obtain ⟨y0, y1, y2, y3, y4⟩ := hc' k hf hh
   have hlB := World.block_lt_of_cell? w _ x0
   have hlB' := World.block_lt_of_cell? w _ y0
   have HX0 := Lib.hid x0
   have HY0 := Lib.hid y0
   have HX1 := Lib.hid x1
   have HY1 := Lib.hid y1
   have HX2 := Lib.hid x2
   have HY2 := Lib.hid y2
   have HX3 := Lib.hid x3
   have HY3 := Lib.hid y3
   have HX4 := Lib.hid x4
   have HY4 := Lib.hid y4
   clear hc hc' hh x0 x1 x2 x3 x4 y0 y1 y2 y3 y4
   go_wp2_with fail
   rename_i Kc hKc
   have HSL := Lib.hid (show slotsOf [some 16, some 17, some 18, some 19, some 20, some 21, some 22, some 23, some 24] = [16, 17, 18, 19, 20, 21, 22, 23, 24] from rfl)
   refine wp_region_partsG (by kernel_rfl) [some 16, some 17, some 18, some 19, some 20, some 21, some 22, some 23, some 24] (fun jq xq w' => match jq with
    | 0 => xq 16 = .slice (some ⟨B, o, none⟩) hs.length c
    | 1 => xq 17 = .int .i64 (k : Int)
    | 2 => xq 18 = .pointer (some ⟨B, o + k * 5, none⟩)
    | 3 => xq 19 = .agg #[.int .i64 hf.spot, .int .i64 hf.g0, .int .i64 hf.g1, .int .i64 hf.g2, .int .i64 hf.g3]
    | 4 => xq 20 = .slice (some ⟨B', o', none⟩) hs.length c'
    | 5 => xq 21 = .int .i64 (k : Int)
    | 6 => xq 22 = .pointer (some ⟨B', o' + k * 5, none⟩)
    | 7 => xq 23 = .agg #[.int .i64 hf.spot, .int .i64 hf.g0, .int .i64 hf.g1, .int .i64 hf.g2, .int .i64 hf.g3]
    | 8 => xq 24 = .bool false
    | _ => True) [[16], [17], [18], [19], [20], [21], [22], [23], [24]] [] (Below w.heap.size w) (by kernel_rfl) ?_ ?_ (fun w' w'' hb h => h.trans (hb.mono h.size)) (hBr) ?_ ?_ ?_
   ·intro jq xq xq' wq h hv
    match jq, h, hv with
    | 0, h, hv => show xq' 16 = .slice (some ⟨B, o, none⟩) hs.length c; rw [← h 16 (by decide)]; exact hv
    | 1, h, hv => show xq' 17 = .int .i64 (k : Int); rw [← h 17 (by decide)]; exact hv
    | 2, h, hv => show xq' 18 = .pointer (some ⟨B, o + k * 5, none⟩); rw [← h 18 (by decide)]; exact hv
    | 3, h, hv => show xq' 19 = .agg #[.int .i64 hf.spot, .int .i64 hf.g0, .int .i64 hf.g1, .int .i64 hf.g2, .int .i64 hf.g3]; rw [← h 19 (by decide)]; exact hv
    | 4, h, hv => show xq' 20 = .slice (some ⟨B', o', none⟩) hs.length c'; rw [← h 20 (by decide)]; exact hv
    | 5, h, hv => show xq' 21 = .int .i64 (k : Int); rw [← h 21 (by decide)]; exact hv
    | 6, h, hv => show xq' 22 = .pointer (some ⟨B', o' + k * 5, none⟩); rw [← h 22 (by decide)]; exact hv
    | 7, h, hv => show xq' 23 = .agg #[.int .i64 hf.spot, .int .i64 hf.g0, .int .i64 hf.g1, .int .i64 hf.g2, .int .i64 hf.g3]; rw [← h 23 (by decide)]; exact hv
    | 8, h, hv => show xq' 24 = .bool false; rw [← h 24 (by decide)]; exact hv
    | _ + 9, _, _ => trivial
   ·intro jq xq wq w' hb' hv
    match jq, hv with
    | 0, hv => exact hv
    | 1, hv => exact hv
    | 2, hv => exact hv
    | 3, hv => exact hv
    | 4, hv => exact hv
    | 5, hv => exact hv
    | 6, hv => exact hv
    | 7, hv => exact hv
    | 8, hv => exact hv
    | _ + 9, _ => trivial
   ·intro jq hj
    match jq, hj with
    | 0, hj => exact absurd hj (by decide)
    | 1, hj => exact absurd hj (by decide)
    | 2, hj => exact absurd hj (by decide)
    | 3, hj => exact absurd hj (by decide)
    | 4, hj => exact absurd hj (by decide)
    | 5, hj => exact absurd hj (by decide)
    | 6, hj => exact absurd hj (by decide)
    | 7, hj => exact absurd hj (by decide)
    | 8, hj => exact absurd hj (by decide)
    | _ + 9, _ => trivial
   ·refine ⟨?_, ?_, ?_, ?_, ?_, ?_, ?_, ?_, ?_, trivial⟩
    ·intro xq w1 hb1 hx K hK0
     have hK := fun v w' hb => hK0 v w' (.inl hb)
     clear hx hKc hK0
     simp only [frameOf, fill, setSlot, sg, Nat.reduceBEq, if_true, if_false, Nat.reduceAdd, Nat.reduceEqDiff, HSL.out] at hK ⊢
     go_wp2_with (fail)
     exact hK _ _ (Below.refl _ _) rfl
    ·intro xq w1 hb1 hx K hK0
     have hK := fun v w' hb => hK0 v w' (.inl hb)
     clear hx hKc hK0
     simp only [frameOf, fill, setSlot, sg, Nat.reduceBEq, if_true, if_false, Nat.reduceAdd, Nat.reduceEqDiff, HSL.out] at hK ⊢
     go_wp2_with (fail)
     exact hK _ _ (Below.refl _ _) rfl
    ·intro xq w1 hb1 hx K hK0
     have hK := fun v w' hb => hK0 v w' (.inl hb)
     have e16 : xq 16 = .slice (some ⟨B, o, none⟩) hs.length c := hx 0 (by rfl) (by rfl)
     have e17 : xq 17 = .int .i64 (k : Int) := hx 1 (by rfl) (by rfl)
     clear hx hKc hK0
     simp only [frameOf, fill, setSlot, sg, Nat.reduceBEq, if_true, if_false, Nat.reduceAdd, Nat.reduceEqDiff, HSL.out] at hK ⊢
     simp only [e16, e17] at hK ⊢
     clear e16 e17
     go_wp2_with (fail)
     exact hK _ _ (Below.refl _ _) rfl
    ·intro xq w1 hb1 hx K hK0
     have hK := fun v w' hb => hK0 v w' (.inl hb)
     have e18 : xq 18 = .pointer (some ⟨B, o + k * 5, none⟩) := hx 2 (by rfl) (by rfl)
     clear hx hKc hK0
     have qHX0 : w1.cell? ⟨B, o + k * 5, none⟩ = some (.int .i64 hf.spot) := (hb1.cell (p := ⟨B, o + k * 5, none⟩) hlB).trans HX0.out
     have qHX1 : w1.cell? ⟨B, o + k * 5 + 1, none⟩ = some (.int .i64 hf.g0) := (hb1.cell (p := ⟨B, o + k * 5 + 1, none⟩) hlB).trans HX1.out
     have qHX2 : w1.cell? ⟨B, o + k * 5 + 2, none⟩ = some (.int .i64 hf.g1) := (hb1.cell (p := ⟨B, o + k * 5 + 2, none⟩) hlB).trans HX2.out
     have qHX3 : w1.cell? ⟨B, o + k * 5 + 3, none⟩ = some (.int .i64 hf.g2) := (hb1.cell (p := ⟨B, o + k * 5 + 3, none⟩) hlB).trans HX3.out
     have qHX4 : w1.cell? ⟨B, o + k * 5 + 4, none⟩ = some (.int .i64 hf.g3) := (hb1.cell (p := ⟨B, o + k * 5 + 4, none⟩) hlB).trans HX4.out
     simp only [frameOf, fill, setSlot, sg, Nat.reduceBEq, if_true, if_false, Nat.reduceAdd, Nat.reduceEqDiff, HSL.out] at hK ⊢
     simp only [e18] at hK ⊢
     clear e18
     go_wp2_with (fail)
     exact hK _ _ (Below.refl _ _) rfl
    ·intro xq w1 hb1 hx K hK0
     have hK := fun v w' hb => hK0 v w' (.inl hb)
     clear hx hKc hK0
     simp only [frameOf, fill, setSlot, sg, Nat.reduceBEq, if_true, if_false, Nat.reduceAdd, Nat.reduceEqDiff, HSL.out] at hK ⊢
     go_wp2_with (fail)
     exact hK _ _ (Below.refl _ _) rfl
    ·intro xq w1 hb1 hx K hK0
     have hK := fun v w' hb => hK0 v w' (.inl hb)
     clear hx hKc hK0
     simp only [frameOf, fill, setSlot, sg, Nat.reduceBEq, if_true, if_false, Nat.reduceAdd, Nat.reduceEqDiff, HSL.out] at hK ⊢
     go_wp2_with (fail)
     exact hK _ _ (Below.refl _ _) rfl
    ·intro xq w1 hb1 hx K hK0
     have hK := fun v w' hb => hK0 v w' (.inl hb)
     have e20 : xq 20 = .slice (some ⟨B', o', none⟩) hs.length c' := hx 4 (by rfl) (by rfl)
     have e21 : xq 21 = .int .i64 (k : Int) := hx 5 (by rfl) (by rfl)
     clear hx hKc hK0
     simp only [frameOf, fill, setSlot, sg, Nat.reduceBEq, if_true, if_false, Nat.reduceAdd, Nat.reduceEqDiff, HSL.out] at hK ⊢
     simp only [e20, e21] at hK ⊢
     clear e20 e21
     go_wp2_with (fail)
     exact hK _ _ (Below.refl _ _) rfl
    ·intro xq w1 hb1 hx K hK0
     have hK := fun v w' hb => hK0 v w' (.inl hb)
     have e22 : xq 22 = .pointer (some ⟨B', o' + k * 5, none⟩) := hx 6 (by rfl) (by rfl)
     clear hx hKc hK0
     have qHY0 : w1.cell? ⟨B', o' + k * 5, none⟩ = some (.int .i64 hf.spot) := (hb1.cell (p := ⟨B', o' + k * 5, none⟩) hlB').trans HY0.out
     have qHY1 : w1.cell? ⟨B', o' + k * 5 + 1, none⟩ = some (.int .i64 hf.g0) := (hb1.cell (p := ⟨B', o' + k * 5 + 1, none⟩) hlB').trans HY1.out
     have qHY2 : w1.cell? ⟨B', o' + k * 5 + 2, none⟩ = some (.int .i64 hf.g1) := (hb1.cell (p := ⟨B', o' + k * 5 + 2, none⟩) hlB').trans HY2.out
     have qHY3 : w1.cell? ⟨B', o' + k * 5 + 3, none⟩ = some (.int .i64 hf.g2) := (hb1.cell (p := ⟨B', o' + k * 5 + 3, none⟩) hlB').trans HY3.out
     have qHY4 : w1.cell? ⟨B', o' + k * 5 + 4, none⟩ = some (.int .i64 hf.g3) := (hb1.cell (p := ⟨B', o' + k * 5 + 4, none⟩) hlB').trans HY4.out
     simp only [frameOf, fill, setSlot, sg, Nat.reduceBEq, if_true, if_false, Nat.reduceAdd, Nat.reduceEqDiff, HSL.out] at hK ⊢
     simp only [e22] at hK ⊢
     clear e22
     go_wp2_with (fail)
     exact hK _ _ (Below.refl _ _) rfl
    ·intro xq w1 hb1 hx K hK0
     have hK := fun v w' hb => hK0 v w' (.inl hb)
     have e19 : xq 19 = .agg #[.int .i64 hf.spot, .int .i64 hf.g0, .int .i64 hf.g1, .int .i64 hf.g2, .int .i64 hf.g3] := hx 3 (by rfl) (by rfl)
     have e23 : xq 23 = .agg #[.int .i64 hf.spot, .int .i64 hf.g0, .int .i64 hf.g1, .int .i64 hf.g2, .int .i64 hf.g3] := hx 7 (by rfl) (by rfl)
     clear hx hKc hK0
     have hne := neq_hand hf.spot hf.g0 hf.g1 hf.g2 hf.g3
     simp only [frameOf, fill, setSlot, sg, Nat.reduceBEq, if_true, if_false, Nat.reduceAdd, Nat.reduceEqDiff, HSL.out] at hK ⊢
     simp only [e19, e23] at hK ⊢
     clear e19 e23
     go_wp2_with (fail)
     exact hK _ _ (Below.refl _ _) rfl
   ·intro xq w1 hb1 hx
    have e16 : xq 16 = .slice (some ⟨B, o, none⟩) hs.length c := hx 0 (by decide)
    have e17 : xq 17 = .int .i64 (k : Int) := hx 1 (by decide)
    have e18 : xq 18 = .pointer (some ⟨B, o + k * 5, none⟩) := hx 2 (by decide)
    have e19 : xq 19 = .agg #[.int .i64 hf.spot, .int .i64 hf.g0, .int .i64 hf.g1, .int .i64 hf.g2, .int .i64 hf.g3] := hx 3 (by decide)
    have e20 : xq 20 = .slice (some ⟨B', o', none⟩) hs.length c' := hx 4 (by decide)
    have e21 : xq 21 = .int .i64 (k : Int) := hx 5 (by decide)
    have e22 : xq 22 = .pointer (some ⟨B', o' + k * 5, none⟩) := hx 6 (by decide)
    have e23 : xq 23 = .agg #[.int .i64 hf.spot, .int .i64 hf.g0, .int .i64 hf.g1, .int .i64 hf.g2, .int .i64 hf.g3] := hx 7 (by decide)
    have e24 : xq 24 = .bool false := hx 8 (by decide)
    clear hx
    simp only [frameOf, fill, setSlot, sg, Nat.reduceBEq, if_true, if_false, Nat.reduceAdd, Nat.reduceEqDiff, HSL.out]
    simp only [e16, e17, e18, e19, e20, e21, e22, e23, e24]
    clear e16 e17 e18 e19 e20 e21 e22 e23 e24
    refine hKc _ _ ?_
    go_wp2_with fail
    go_roundw
    case rel => exact ⟨k + 1, by go_num, hlt, hb1⟩
    case measure => simp [intOf]; omega
  ·have hkl : k = hs.length := by omega
   subst hkl
   go_wp2_with fail
   go_ret
   exact ⟨rfl, hBr⟩
theorem HandsAt.pre {w : World} {A : Option Addr} {xs ys : List Hf} (h : HandsAt w A (xs ++ ys)) : HandsAt w A xs := fun hn => by
 obtain ⟨B, o, e, hc⟩ := h (by rw [List.length_append]; omega)
 exact ⟨B, o, e, fun k x hx => hc k x (by rw [List.getElem?_append_left (List.getElem?_eq_some_iff.1 hx).1]; exact hx)⟩
section
variable {P : Program} {ops : Array Oper} {Q : Exit → Act → World → Prop}
end
section
variable {P : Program} {ops : Array Oper} {Q : Exit → Act → World → Prop}
end
structure But (n : Nat) (L : List Nat) (w w' : World) : Prop where
 os : w'.os = w.os
 tape : w'.tape = w.tape
 output : w'.output = w.output
 size : w.heap.size ≤ w'.heap.size
 low : ∀ k, k < n → w'.heap[k]? = w.heap[k]?
 block : ∀ k, k < w.heap.size → k ∉ L → (∀ cs f, w.heap[k]? ≠ some (.cells cs 30 f)) → w'.heap[k]? = w.heap[k]?
theorem But.refl (n : Nat) (L : List Nat) (w : World) : But n L w w := ⟨rfl, rfl, rfl, Nat.le_refl _, fun _ _ => rfl, fun _ _ _ _ => rfl⟩
theorem But.up {n : Nat} {L : List Nat} {w w' w'' : World} (h : But n L w w') (hn : n ≤ w.heap.size) (hb : Below w'.heap.size w' w'') : But n L w w'' :=
  ⟨hb.os.trans h.os, hb.tape.trans h.tape, hb.output.trans h.output, Nat.le_trans h.size hb.size, fun k hk => (hb.block k (Nat.lt_of_lt_of_le hk (Nat.le_trans hn h.size))).trans (h.low k hk),
   fun k hk hL hne => (hb.block k (Nat.lt_of_lt_of_le hk h.size)).trans (h.block k hk hL hne)⟩
theorem But.listed {n : Nat} {L : List Nat} {w w' w'' : World} {b : Nat} (h : But n L w w') (hn : n ≤ w.heap.size) (hg : w'.grownBy w'' (some b)) (hL : b ∈ L) (hb : n ≤ b) : But n L w w'' :=
  ⟨hg.os.trans h.os, hg.tape.trans h.tape, hg.output.trans h.output, Nat.le_trans h.size hg.size, fun k hk => (hg.block k (Nat.lt_of_lt_of_le hk (Nat.le_trans hn h.size)) (fun e => by cases e; omega)).trans (h.low k hk),
   fun k hk hL' hne => (hg.block k (Nat.lt_of_lt_of_le hk h.size) (fun e => by cases e; exact hL' hL)).trans (h.block k hk hL' hne)⟩
theorem But.row {n : Nat} {L : List Nat} {w w' w'' : World} {v : Value} {B m : Nat} {xs : List Value} (h : But n L w w') (hn : n ≤ w.heap.size) (hr : w'.ownsRow B 30 5 v m xs) (hB : n ≤ B) (hg : w'.grownBy w'' v.ownBlock) : But n L w w'' := by
 have hk : ∀ k, v.ownBlock = some k → n ≤ k ∧ ∃ cur, w'.heap[k]? = some (.cells cur 30 (0, 0)) := by
  obtain ⟨_, ⟨rfl, _⟩ | ⟨g, cap, cur, rfl, hBg, hgg, _⟩⟩ := hr
  ·intro k hk; cases hk
  ·intro k hk; cases hk; exact ⟨Nat.le_trans hB hBg, cur, hgg⟩
 refine ⟨hg.os.trans h.os, hg.tape.trans h.tape, hg.output.trans h.output, Nat.le_trans h.size hg.size, fun k hkn => ?_, fun k hkw hL hne => ?_⟩
 ·refine (hg.block k (Nat.lt_of_lt_of_le hkn (Nat.le_trans hn h.size)) (fun e => ?_)).trans (h.low k hkn)
  have := (hk k e.symm).1
  omega
 ·have e := h.block k hkw hL hne
  refine (hg.block k (Nat.lt_of_lt_of_le hkw h.size) (fun e' => ?_)).trans e
  obtain ⟨_, cur, hc⟩ := hk k e'.symm
  exact hne cur (0, 0) (e ▸ hc)
theorem But.trans {n : Nat} {L : List Nat} {w w' w'' : World} (h : But n L w w') (hn : n ≤ w.heap.size) (h2 : But n L w' w'') : But n L w w'' :=
  ⟨h2.os.trans h.os, h2.tape.trans h.tape, h2.output.trans h.output, Nat.le_trans h.size h2.size, fun k hk => (h2.low k hk).trans (h.low k hk),
   fun k hk hL hne => by
    have e := h.block k hk hL hne
    exact (h2.block k (Nat.lt_of_lt_of_le hk h.size) hL (fun cs f => by rw [e]; exact hne cs f)).trans e⟩
theorem But.below {n : Nat} {L : List Nat} {w w' : World} (h : But n L w w') : Below n w w' := ⟨h.os, h.tape, h.output, h.size, h.low⟩
theorem taken_parts {h : Hf} (t : h.taken = true) : (0 ≤ h.spot ∧ h.spot ≤ 2) ∧ (0 ≤ h.g0 ∧ h.g0 ≤ 200) ∧ (0 ≤ h.g1 ∧ h.g1 ≤ 200) ∧ (0 ≤ h.g2 ∧ h.g2 ≤ 200) ∧ 0 ≤ h.g3 ∧ h.g3 ≤ 200 := by
 simpa [Hf.taken, within, and_assoc] using t
theorem enough_parts {h : Hf} (t : h.enough = true) : 10 ≤ h.g0 + h.g1 + h.g2 + h.g3 ∧ h.g0 + h.g1 + h.g2 + h.g3 ≤ 200 := by
 have t' := t
 simp only [Hf.enough, within, Hf.sum, Bool.and_eq_true, decide_eq_true_eq] at t'
 exact ⟨of_decide_eq_true t'.1, of_decide_eq_true t'.2⟩

theorem grades_flat {w : World} {B o : Nat} {gs : List Gr} (hc : GradesAt w (some ⟨B, o, none⟩) gs) : ∀ j v, (gs.flatMap Gr.cells)[j]? = some v → w.cell? ((⟨B, o, none⟩ : Addr).add j) = some v := by
 intro j v hj
 rw [Addr.add_mid]
 have hlt : j < gs.length * 5 := by rw [← flat_len Gr.cells (fun _ => rfl) gs]; exact (List.getElem?_eq_some_iff.1 hj).1
 have hk : j / 5 < gs.length := by omega
 obtain ⟨B', o', e, hcell⟩ := hc (by omega)
 cases e
 have hx : gs[j / 5]? = some gs[j / 5] := List.getElem?_eq_getElem hk
 have h5 : j % 5 < 5 := Nat.mod_lt _ (by decide)
 have hq := flat_at Gr.cells (fun _ => rfl) gs (j / 5) (j % 5) _ hx h5
 rw [show j / 5 * 5 + j % 5 = j from by omega, hj] at hq
 obtain ⟨c0, c1, c2, c3, c4⟩ := hcell _ _ hx
 have hjj : o + j = o + j / 5 * 5 + j % 5 := by omega
 rw [hjj]
 generalize j % 5 = i at hq h5
 match i, h5 with
 | 0, _ => exact c0.trans hq.symm
 | 1, _ => exact c1.trans hq.symm
 | 2, _ => exact c2.trans hq.symm
 | 3, _ => exact c3.trans hq.symm
 | 4, _ => exact c4.trans hq.symm
theorem grades_one (gs : List Gr) : ∀ v ∈ gs.flatMap Gr.cells, v.oneCell' = true := by
 intro v hv
 obtain ⟨x, _, hx⟩ := List.mem_flatMap.1 hv
 simp only [Gr.cells, List.mem_cons, List.not_mem_nil, or_false] at hx
 rcases hx with rfl | rfl | rfl | rfl | rfl <;> rfl
theorem below_none {w w' : World} (h : w.grownBy w' none) : Below w.heap.size w w' := ⟨h.os, h.tape, h.output, h.size, fun k hk => h.block k hk (by simp)⟩
theorem append_grades (w : World) (ty : TypeId) (g n d B : Nat) (G : Option Addr) (gs : List Gr) (hown : w.ownsRow B 128 5 (.slice (some ⟨g, 0, none⟩) 0 n) 0 []) (hn : gs.length ≤ n) (hG : GradesAt w G gs) (hd : G = none → gs.length = 0 ∧ d = 0) :
  ∃ v w', (Builtin.append_ #[22, 22] ty #[.slice (some ⟨g, 0, none⟩) 0 n, .slice G gs.length d]).run Try.prog w = .ok v w' ∧ OwnGrades w' B v gs ∧ w.grownBy w' (some g) := by
 obtain ⟨i0, hi, hz0, hz1, hz2⟩ := info_parts info_grade
 cases G with
 | none =>
  obtain ⟨h0, rfl⟩ := hd rfl
  have e : gs = [] := List.eq_nil_of_length_eq_zero h0
  subst e
  exact ⟨_, w, run_append_owned_none (P := Try.prog) (w := w) B 22 ty 128 i0 5 und_grades hi _ 0 [] hown, hown, grow_refl w g⟩
 | some a =>
  have hl := flat_len Gr.cells (fun _ => rfl) gs
  obtain ⟨w', hrun, ho, hg⟩ := run_append_fits (P := Try.prog) (w := w) B 22 ty 128 i0 5 und_grades hi hz1 g 0 n [] hown a gs.length d (gs.flatMap Gr.cells) hl (by
   by_cases h0 : 0 < gs.length
   ·obtain ⟨B', o, e, _⟩ := hG h0
    cases e
    exact grades_flat hG
   ·intro j u hj
    have e : gs = [] := List.eq_nil_of_length_eq_zero (by omega)
    subst e
    simp at hj) (grades_one gs) (by omega)
  simp only [Nat.zero_add, List.nil_append] at ho hrun
  exact ⟨_, w', hrun, ho, hg⟩
theorem wpList_append_run {P : Program} (w : World) {ops : Array Oper} {rest : List Oper} {o : Oper} {a : Act} {Q : Exit → Act → World → Prop} (hgd : o.guard = none) (d s : Operand) (t t' : TypeId)
  (ho : o.op = .call { callee := .builtin .append, args := #[d, s], argTypes := #[t, t'] }) (v u : Value) (hd : a.eval d = v) (hs : a.eval s = u) {v' : Value} {w' : World}
  (hr : (Builtin.append_ #[t, t'] o.type #[v, u]).run P w = .ok v' w') (h : wpList P ops Q rest (a.put o.dst v') w') : wpList P ops Q (o :: rest) a w :=
 wpList_plain hgd fun _ hK => by
  unfold Oper.wp execOp
  simp only [ho, resolve, invoke, builtin, Sem.run_bind, Sem.run_pure, Result.andThen_ok, List.map_toArray, List.map_cons, List.map_nil, hd, hs, hr]
  exact hK _ _ h
set_option maxRecDepth 100000 in
set_option maxHeartbeats 2000000 in
theorem DupGrades_any (G : Option Addr) (d : Nat) (gs : List Gr) (w : World) (hG : GradesAt w G gs) (hl : gs.length ≤ 1000) (hd : G = none → gs.length = 0 ∧ d = 0) :
  Calls Try.prog 80 #[.slice G gs.length d] w fun e w' => ∃ v, e = .returned v ∧ OwnGrades w' w.heap.size v gs ∧ Below w.heap.size w w' := by
 obtain ⟨i0, hi, hz0, hz1, hz2⟩ := info_parts info_grade
 obtain ⟨w2, hrun2, hown2, hgr2⟩ := run_make_own (P := Try.prog) (w := w) w.heap.size 22 128 i0 _ 5 und_grades hi hz0 hz1 .i64 .i64 gs.length (by rw [hz2]; omega) (by unfold maxLen; omega) (Nat.le_refl _)
 have hb2 := below_none hgr2
 obtain ⟨v, w3, hrun3, hown3, hgr3⟩ := append_grades w2 22 w.heap.size gs.length d w.heap.size G gs hown2 (Nat.le_refl _) (hG.up hb2) hd
 have HO := Lib.hid hown3
 have HB : Hid (Below w.heap.size w w3) := Lib.hid (hb2.grown hgr3 hb2.size (fun k hk => by cases hk; exact Nat.le_refl _))
 clear hG hown2 hgr2 hown3 hgr3 hb2
 go_enter Try.func80, Try.ntmps80
 go_wp2_with (at_builtin; (refine wpList_append_run _ rfl _ _ _ _ rfl _ _ rfl rfl hrun3 ?_))
 go_ret
 exact ⟨v, rfl, HO.out, HB.out⟩
theorem row5_mono {w : World} {B B' n : Nat} {e : TypeId} {v : Value} {xs : List Value} (h : w.ownsRow B e 5 v n xs) (hb : B' ≤ B) : w.ownsRow B' e 5 v n xs := by
 obtain ⟨hl, h | ⟨g, cap, cur, ev, hB, r⟩⟩ := h
 ·exact ⟨hl, .inl h⟩
 ·exact ⟨hl, .inr ⟨g, cap, cur, ev, Nat.le_trans hb hB, r⟩⟩
set_option maxRecDepth 100000 in
set_option maxHeartbeats 2000000 in
theorem Own_any (err miss : Int) (G : Option Addr) (d : Nat) (gs : List Gr) (w : World) (hG : GradesAt w G gs) (hl : gs.length ≤ 1000) (hd : G = none → gs.length = 0 ∧ d = 0) :
  Calls Try.prog 17 #[.agg #[.int .i64 err, .int .i64 miss, .slice G gs.length d]] w fun e w' => ∃ G' d', e = .returned (.agg #[.int .i64 err, .int .i64 miss, .slice G' gs.length d']) ∧ OwnGrades w' w.heap.size (.slice G' gs.length d') gs ∧ gs.length ≤ d' ∧ Below w.heap.size w w' := by
 have HG := Lib.hid hG
 clear hG
 go_enter Try.func17, Try.ntmps17
 go_wp2_with fail
 refine (DupGrades_any G d gs _ (HG.out.up zg) hl hd).mono ?_
 rintro e w2 ⟨v, rfl, hown, hb2⟩
 have Hg2 := Lib.hid (Holds.up (zp4 : Holds _ (w.heap.size) 24 #[.int .i64 err, .int .i64 miss, .slice G gs.length d]) hb2)
 have Hr2 := Lib.hid (Holds.up (zp4 : Holds _ (w.heap.size + 1) 24 #[.int .i64 0, .int .i64 0, .slice none 0 0]) hb2)
 have HS2 : Hid (Below w.heap.size w w2) := Lib.hid (Below.trans zg (hb2.mono (by first | exact Nat.le_refl _ | omega | (simp; done) | (simp; omega))))
 have HB2 := HS2
 have hs2 := HB2.out.size
 have hst2 := HS2.out.size
 clear hb2
 obtain ⟨G', d', rfl, hgd, _⟩ := hown.at_
 have HO := Lib.hid hown
 clear hown
 have hrl := Hr2.out
 obtain ⟨kg0, kg1, kg2⟩ := Hg2.out.c3
 obtain ⟨zg0, zg1, zg2⟩ := Hg2.out.f3
 have lt_g : w.heap.size < w2.heap.size := Hg2.out.lt
 obtain ⟨kr0, kr1, kr2⟩ := Hr2.out.c3
 obtain ⟨zr0, zr1, zr2⟩ := Hr2.out.f3
 have lt_r : w.heap.size + 1 < w2.heap.size := Hr2.out.lt
 have lt1 : w.heap.size < w.heap.size + 1 + 1 := by omega
 have lt2 : w.heap.size + 1 < w.heap.size + 1 + 1 := by omega
 go_wp2_with fail
 refine ret_cell (t := 24) (cs := #[.int .i64 err, .int .i64 miss, .slice G' gs.length d']) rfl rfl zp4 Try.underlying24 rfl (by kernel_rfl) rfl ⟨G', d', rfl, ?_, hgd, HB2.out.trans zg⟩
 have ho := HO.out
 simp only [World.size_alloc] at ho
 exact row5_mono (row5_far (row5_far (row5_far (row5_far ho (p := ⟨w.heap.size, 2, none⟩) lt1 _) (p := ⟨w.heap.size + 1, 0, none⟩) lt2 _) (p := ⟨w.heap.size + 1, 1, none⟩) lt2 _) (p := ⟨w.heap.size + 1, 2, none⟩) lt2 _) (by omega)

end Go.Proofs.Ytifffonoipapgaa
