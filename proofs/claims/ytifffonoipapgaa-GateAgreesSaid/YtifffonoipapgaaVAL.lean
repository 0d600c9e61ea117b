
import Derived.Test.YtifffonoipapgaaVAA
import Derived.Test.YtifffonoipapgaaVAC
import Derived.Test.YtifffonoipapgaaVAE
import Derived.Test.YtifffonoipapgaaVAJ
import Derived.Test.YtifffonoipapgaaVAK
set_option linter.unusedSimpArgs false
set_option linter.unusedVariables false
namespace Go.Proofs.Ytifffonoipapgaa
open Go.RowKit
attribute [local go_sem] ix4_0 ix4_1 ix4_2 ix4_3 ix8_0 ix8_1 ix8_2 ix8_3 eqlW_box
theorem boxMeet_bx (b c : Bx) (w : World) : Calls Try.prog 137 #[.agg #[.int .i64 b.l0, .int .i64 b.h0, .int .i64 b.l1, .int .i64 b.h1, .int .i64 b.l2, .int .i64 b.h2, .int .i64 b.l3, .int .i64 b.h3], .agg #[.int .i64 c.l0, .int .i64 c.h0, .int .i64 c.l1, .int .i64 c.h1, .int .i64 c.l2, .int .i64 c.h2, .int .i64 c.l3, .int .i64 c.h3]] w fun e w' => e = .returned (.agg #[.int .i64 (b.meet c).l0, .int .i64 (b.meet c).h0, .int .i64 (b.meet c).l1, .int .i64 (b.meet c).h1, .int .i64 (b.meet c).l2, .int .i64 (b.meet c).h2, .int .i64 (b.meet c).l3, .int .i64 (b.meet c).h3]) ∧ Below w.heap.size w w' :=
 boxMeet_any b.l0 b.h0 b.l1 b.h1 b.l2 b.h2 b.l3 b.h3 c.l0 c.h0 c.l1 c.h1 c.l2 c.h2 c.l3 c.h3 w
theorem Hf.bd {h : Hf} (ht : h.taken = true) (he : h.enough = true) : 0 ≤ h.g0 ∧ h.g0 ≤ 200 ∧ 0 ≤ h.g1 ∧ h.g1 ≤ 200 ∧ 0 ≤ h.g2 ∧ h.g2 ≤ 200 ∧ 0 ≤ h.g3 ∧ h.g3 ≤ 200 ∧ 10 ≤ h.g0 + h.g1 + h.g2 + h.g3 ∧ h.g0 + h.g1 + h.g2 + h.g3 ≤ 200 := by
 simp only [Hf.taken, within, Bool.and_eq_true, decide_eq_true_eq] at ht
 simp only [Hf.enough, Hf.sum, within, Bool.and_eq_true, decide_eq_true_eq] at he
 obtain ⟨_, ⟨⟨⟨⟨a0, a1⟩, b0, b1⟩, c0, c1⟩, d0, d1⟩⟩ := ht
 exact ⟨a0, a1, b0, b1, c0, c1, d0, d1, of_decide_eq_true he.1, of_decide_eq_true he.2⟩
theorem letsAll_bx (full empty err miss : Int) (h : Hf) (hs gs cf : Value) (w : World) (m0 : 0 ≤ miss) (m1 : miss ≤ 20) (ht : h.taken = true) (he : h.enough = true) :
  Calls Try.prog 138 #[.agg #[.int .i64 full, .int .i64 empty, hs, .int .i64 err, .int .i64 miss, gs, cf], .agg #[.int .i64 h.spot, .int .i64 h.g0, .int .i64 h.g1, .int .i64 h.g2, .int .i64 h.g3]] w fun e w' =>
   e = .returned (.agg #[.int .i64 (letBx miss h).l0, .int .i64 (letBx miss h).h0, .int .i64 (letBx miss h).l1, .int .i64 (letBx miss h).h1, .int .i64 (letBx miss h).l2, .int .i64 (letBx miss h).h2, .int .i64 (letBx miss h).l3, .int .i64 (letBx miss h).h3]) ∧ Below w.heap.size w w' := by
 obtain ⟨a0, b0, a1, b1, a2, b2, a3, b3, n0, n1⟩ := Hf.bd ht he
 exact letsAll_any full empty err miss h.spot h.g0 h.g1 h.g2 h.g3 hs gs cf w m0 m1 a0 b0 a1 b1 a2 b2 a3 b3 n0 n1
theorem eqlW_none (a b : Int) (w : World) : (Op.equalIn 10000 60 (.agg #[.int .i64 a, .int .i64 b]) (.agg #[.int .i64 1, .int .i64 0])).run Try.prog w = .ok (none01 a b) w := eqlIn_span 9998 a b 1 0 w
theorem wpList_eql {ops : Array Oper} {rest : List Oper} {o : Oper} {a : Act} {Q : Exit → Act → World → Prop} {w : World} (hg : o.guard = none) {t yt : TypeId} {x y : Operand} (ho : o.op = .binOp .eql t x y yt) {xs ys : Array Value}
  (hx : a.eval x = .agg xs) (hy : a.eval y = .agg ys) (hm : Try.prog.eqGuardType Try.prog.depth t = false) (b : Bool) (hr : (Op.equalIn 10000 t (.agg xs) (.agg ys)).run Try.prog w = .ok b w)
  (h : wpList Try.prog ops Q rest (a.put o.dst (.bool b)) w) : wpList Try.prog ops Q (o :: rest) a w :=
 wpList_plain hg fun K hK => by
  unfold Oper.wp execOp
  simp only [ho, hx, hy, Sem.run_bind, run_eqGuard_agg, hm, run_eql_struct, hr, Result.andThen_ok, Sem.run_pure]
  exact hK _ _ h
def EmptyTo : Nat → Bx → Prop
 | 1, b => none01 b.l0 b.h0 = false
 | 2, b => none01 b.l0 b.h0 = false ∧ none01 b.l1 b.h1 = false
 | 3, b => none01 b.l0 b.h0 = false ∧ none01 b.l1 b.h1 = false ∧ none01 b.l2 b.h2 = false
 | 4, b => none01 b.l0 b.h0 = false ∧ none01 b.l1 b.h1 = false ∧ none01 b.l2 b.h2 = false ∧ none01 b.l3 b.h3 = false
 | _, _ => True
set_option maxRecDepth 100000 in
set_option maxHeartbeats 2000000 in
theorem empty_any (b : Bx) (w : World) :
  Calls Try.prog 109 #[.agg #[.int .i64 b.l0, .int .i64 b.h0, .int .i64 b.l1, .int .i64 b.h1, .int .i64 b.l2, .int .i64 b.h2, .int .i64 b.l3, .int .i64 b.h3]] w fun e w' => e = .returned (.bool b.empty) ∧ Below w.heap.size w w' := by
 have e : b.empty = (none01 b.l0 b.h0 || (none01 b.l1 b.h1 || (none01 b.l2 b.h2 || none01 b.l3 b.h3))) := rfl
 have E := Lib.hid e
 clear e
 go_enter Try.func109, Try.ntmps109
 go_wp2_with fail
 go_loopw [6] (fun v6 wr => Below w.heap.size w wr ∧ w.heap.size < wr.heap.size ∧ (v6 = .int .i64 0 ∨ (v6 = .int .i64 1 ∧ EmptyTo 1 b) ∨ (v6 = .int .i64 2 ∧ EmptyTo 2 b) ∨ (v6 = .int .i64 3 ∧ EmptyTo 3 b) ∨ (v6 = .int .i64 4 ∧ EmptyTo 4 b))) (fun v6 _ => 4 - (intOf v6).toNat)
 case atStart => exact ⟨zg, by simp, .inl rfl⟩
 case round =>
  obtain ⟨hB, hS, rfl | ⟨rfl, hp⟩ | ⟨rfl, hp⟩ | ⟨rfl, hp⟩ | ⟨rfl, hp⟩⟩ := hrel
  ·cases hq : none01 b.l0 b.h0 with
   | true =>
    have HQ := Lib.hid hq
    go_wp2_with fail
    refine wp_world (fun W => Below w.heap.size w W ∧ wr.heap.size + 1 ≤ W.heap.size ∧ Holds W (wr.heap.size) 60 #[.int .i64 b.l0, .int .i64 b.h0] ∧ True) ?_ ?_
    ·exact ⟨zg, (by simp), zp0, trivial⟩
    rintro W ⟨hB1, hS1, Hs, -⟩
    rename_i Kc hKc
    refine wp_region_parts (by kernel_rfl) 3 [9, 10, 11] (fun t v w' => match t with
     | 9 => v = .agg #[.int .i64 b.l0, .int .i64 b.h0]
     | 10 => v = .agg #[.int .i64 1, .int .i64 0]
     | 11 => v = .bool true
     | _ => True) (by kernel_rfl) ?_ ?_ ?_
    ·intro t v w1 w2 hb' h
     revert h
     split <;> intro h <;> first
      | exact h
    ·refine ⟨?_, ?_, ?_, trivial⟩
     ·intro x w1 hb1 hx K hK
      clear hx hKc
      obtain ⟨cs0, cs1⟩ := (Hs.up hb1).c2
      simp only [frameOf, fill, sg, Nat.reduceBEq, if_true, if_false, Nat.reduceAdd, Nat.reduceEqDiff] at hK ⊢
      go_wp2_with (go_at_call 102; refine (nothing_any _).mono ?_; rintro e w' ⟨rfl, hb2⟩)
      exact hK _ _ (Below.refl _ _) rfl
     ·intro x w1 hb1 hx K hK
      clear hx hKc
      obtain ⟨cs0, cs1⟩ := (Hs.up hb1).c2
      simp only [frameOf, fill, sg, Nat.reduceBEq, if_true, if_false, Nat.reduceAdd, Nat.reduceEqDiff] at hK ⊢
      go_wp2_with (go_at_call 102; refine (nothing_any _).mono ?_; rintro e w' ⟨rfl, hb2⟩)
      exact hK _ _ hb2 rfl
     ·intro x w1 hb1 hx K hK
      have e9 : x 9 = .agg #[.int .i64 b.l0, .int .i64 b.h0] := hx 9 (by rfl)
      have e10 : x 10 = .agg #[.int .i64 1, .int .i64 0] := hx 10 (by rfl)
      clear hx hKc
      obtain ⟨cs0, cs1⟩ := (Hs.up hb1).c2
      simp only [frameOf, fill, sg, Nat.reduceBEq, if_true, if_false, Nat.reduceAdd, Nat.reduceEqDiff] at hK ⊢
      simp only [e9, e10] at hK ⊢
      clear e9 e10
      refine wpList_eql rfl rfl rfl rfl (by kernel_rfl) _ (eqlW_none _ _ _) ?_
      exact hK _ _ (Below.refl _ _) (congrArg Value.bool hq)
    ·intro x w1 hb1 hx
     have e9 : x 9 = .agg #[.int .i64 b.l0, .int .i64 b.h0] := hx 9 (by decide)
     have e10 : x 10 = .agg #[.int .i64 1, .int .i64 0] := hx 10 (by decide)
     have e11 : x 11 = .bool true := hx 11 (by decide)
     clear hx
     obtain ⟨cs0, cs1⟩ := (Hs.up hb1).c2
     simp only [frameOf, fill, List.contains_cons, List.contains_nil, Nat.reduceBEq, Bool.or_false, Bool.false_or, Bool.or_true, Bool.true_or, if_true, if_false, Bool.false_eq_true, Nat.reduceAdd, Nat.zero_add]
     simp only [e9, e10, e11]
     clear e9 e10 e11
     have hB2 : Below w.heap.size w w1 := hB1.trans (hb1.mono (by omega))
     refine hKc _ _ ?_
     go_wp2_with fail
     go_ret
     have q := HQ.out
     have hfin : b.empty = true := by rw [E.out]; simp [q]
     exact ⟨by rw [hfin]; rfl, hB2⟩
   | false =>
    have HQ := Lib.hid hq
    go_wp2_with fail
    refine wp_world (fun W => Below w.heap.size w W ∧ wr.heap.size + 1 ≤ W.heap.size ∧ Holds W (wr.heap.size) 60 #[.int .i64 b.l0, .int .i64 b.h0] ∧ True) ?_ ?_
    ·exact ⟨zg, (by simp), zp0, trivial⟩
    rintro W ⟨hB1, hS1, Hs, -⟩
    rename_i Kc hKc
    refine wp_region_parts (by kernel_rfl) 3 [9, 10, 11] (fun t v w' => match t with
     | 9 => v = .agg #[.int .i64 b.l0, .int .i64 b.h0]
     | 10 => v = .agg #[.int .i64 1, .int .i64 0]
     | 11 => v = .bool false
     | _ => True) (by kernel_rfl) ?_ ?_ ?_
    ·intro t v w1 w2 hb' h
     revert h
     split <;> intro h <;> first
      | exact h
    ·refine ⟨?_, ?_, ?_, trivial⟩
     ·intro x w1 hb1 hx K hK
      clear hx hKc
      obtain ⟨cs0, cs1⟩ := (Hs.up hb1).c2
      simp only [frameOf, fill, sg, Nat.reduceBEq, if_true, if_false, Nat.reduceAdd, Nat.reduceEqDiff] at hK ⊢
      go_wp2_with (go_at_call 102; refine (nothing_any _).mono ?_; rintro e w' ⟨rfl, hb2⟩)
      exact hK _ _ (Below.refl _ _) rfl
     ·intro x w1 hb1 hx K hK
      clear hx hKc
      obtain ⟨cs0, cs1⟩ := (Hs.up hb1).c2
      simp only [frameOf, fill, sg, Nat.reduceBEq, if_true, if_false, Nat.reduceAdd, Nat.reduceEqDiff] at hK ⊢
      go_wp2_with (go_at_call 102; refine (nothing_any _).mono ?_; rintro e w' ⟨rfl, hb2⟩)
      exact hK _ _ hb2 rfl
     ·intro x w1 hb1 hx K hK
      have e9 : x 9 = .agg #[.int .i64 b.l0, .int .i64 b.h0] := hx 9 (by rfl)
      have e10 : x 10 = .agg #[.int .i64 1, .int .i64 0] := hx 10 (by rfl)
      clear hx hKc
      obtain ⟨cs0, cs1⟩ := (Hs.up hb1).c2
      simp only [frameOf, fill, sg, Nat.reduceBEq, if_true, if_false, Nat.reduceAdd, Nat.reduceEqDiff] at hK ⊢
      simp only [e9, e10] at hK ⊢
      clear e9 e10
      refine wpList_eql rfl rfl rfl rfl (by kernel_rfl) _ (eqlW_none _ _ _) ?_
      exact hK _ _ (Below.refl _ _) (congrArg Value.bool hq)
    ·intro x w1 hb1 hx
     have e9 : x 9 = .agg #[.int .i64 b.l0, .int .i64 b.h0] := hx 9 (by decide)
     have e10 : x 10 = .agg #[.int .i64 1, .int .i64 0] := hx 10 (by decide)
     have e11 : x 11 = .bool false := hx 11 (by decide)
     clear hx
     obtain ⟨cs0, cs1⟩ := (Hs.up hb1).c2
     simp only [frameOf, fill, List.contains_cons, List.contains_nil, Nat.reduceBEq, Bool.or_false, Bool.false_or, Bool.or_true, Bool.true_or, if_true, if_false, Bool.false_eq_true, Nat.reduceAdd, Nat.zero_add]
     simp only [e9, e10, e11]
     clear e9 e10 e11
     have hB2 : Below w.heap.size w w1 := hB1.trans (hb1.mono (by omega))
     have hs1 := hb1.size
     refine hKc _ _ ?_
     go_wp2_with fail
     go_roundw
     case rel =>
      have q := HQ.out
      exact ⟨hB2, by omega, .inr (.inl ⟨rfl, q⟩)⟩
     case measure => simp [intOf]
  ·have p0 : none01 b.l0 b.h0 = false := hp
   cases hq : none01 b.l1 b.h1 with
   | true =>
    have HQ := Lib.hid hq
    go_wp2_with fail
    refine wp_world (fun W => Below w.heap.size w W ∧ wr.heap.size + 1 ≤ W.heap.size ∧ Holds W (wr.heap.size) 60 #[.int .i64 b.l1, .int .i64 b.h1] ∧ True) ?_ ?_
    ·exact ⟨zg, (by simp), zp0, trivial⟩
    rintro W ⟨hB1, hS1, Hs, -⟩
    rename_i Kc hKc
    refine wp_region_parts (by kernel_rfl) 3 [9, 10, 11] (fun t v w' => match t with
     | 9 => v = .agg #[.int .i64 b.l1, .int .i64 b.h1]
     | 10 => v = .agg #[.int .i64 1, .int .i64 0]
     | 11 => v = .bool true
     | _ => True) (by kernel_rfl) ?_ ?_ ?_
    ·intro t v w1 w2 hb' h
     revert h
     split <;> intro h <;> first
      | exact h
    ·refine ⟨?_, ?_, ?_, trivial⟩
     ·intro x w1 hb1 hx K hK
      clear hx hKc
      obtain ⟨cs0, cs1⟩ := (Hs.up hb1).c2
      simp only [frameOf, fill, sg, Nat.reduceBEq, if_true, if_false, Nat.reduceAdd, Nat.reduceEqDiff] at hK ⊢
      go_wp2_with (go_at_call 102; refine (nothing_any _).mono ?_; rintro e w' ⟨rfl, hb2⟩)
      exact hK _ _ (Below.refl _ _) rfl
     ·intro x w1 hb1 hx K hK
      clear hx hKc
      obtain ⟨cs0, cs1⟩ := (Hs.up hb1).c2
      simp only [frameOf, fill, sg, Nat.reduceBEq, if_true, if_false, Nat.reduceAdd, Nat.reduceEqDiff] at hK ⊢
      go_wp2_with (go_at_call 102; refine (nothing_any _).mono ?_; rintro e w' ⟨rfl, hb2⟩)
      exact hK _ _ hb2 rfl
     ·intro x w1 hb1 hx K hK
      have e9 : x 9 = .agg #[.int .i64 b.l1, .int .i64 b.h1] := hx 9 (by rfl)
      have e10 : x 10 = .agg #[.int .i64 1, .int .i64 0] := hx 10 (by rfl)
      clear hx hKc
      obtain ⟨cs0, cs1⟩ := (Hs.up hb1).c2
      simp only [frameOf, fill, sg, Nat.reduceBEq, if_true, if_false, Nat.reduceAdd, Nat.reduceEqDiff] at hK ⊢
      simp only [e9, e10] at hK ⊢
      clear e9 e10
      refine wpList_eql rfl rfl rfl rfl (by kernel_rfl) _ (eqlW_none _ _ _) ?_
      exact hK _ _ (Below.refl _ _) (congrArg Value.bool hq)
    ·intro x w1 hb1 hx
     have e9 : x 9 = .agg #[.int .i64 b.l1, .int .i64 b.h1] := hx 9 (by decide)
     have e10 : x 10 = .agg #[.int .i64 1, .int .i64 0] := hx 10 (by decide)
     have e11 : x 11 = .bool true := hx 11 (by decide)
     clear hx
     obtain ⟨cs0, cs1⟩ := (Hs.up hb1).c2
     simp only [frameOf, fill, List.contains_cons, List.contains_nil, Nat.reduceBEq, Bool.or_false, Bool.false_or, Bool.or_true, Bool.true_or, if_true, if_false, Bool.false_eq_true, Nat.reduceAdd, Nat.zero_add]
     simp only [e9, e10, e11]
     clear e9 e10 e11
     have hB2 : Below w.heap.size w w1 := hB1.trans (hb1.mono (by omega))
     refine hKc _ _ ?_
     go_wp2_with fail
     go_ret
     have q := HQ.out
     have hfin : b.empty = true := by rw [E.out]; simp [p0, q]
     exact ⟨by rw [hfin]; rfl, hB2⟩
   | false =>
    have HQ := Lib.hid hq
    go_wp2_with fail
    refine wp_world (fun W => Below w.heap.size w W ∧ wr.heap.size + 1 ≤ W.heap.size ∧ Holds W (wr.heap.size) 60 #[.int .i64 b.l1, .int .i64 b.h1] ∧ True) ?_ ?_
    ·exact ⟨zg, (by simp), zp0, trivial⟩
    rintro W ⟨hB1, hS1, Hs, -⟩
    rename_i Kc hKc
    refine wp_region_parts (by kernel_rfl) 3 [9, 10, 11] (fun t v w' => match t with
     | 9 => v = .agg #[.int .i64 b.l1, .int .i64 b.h1]
     | 10 => v = .agg #[.int .i64 1, .int .i64 0]
     | 11 => v = .bool false
     | _ => True) (by kernel_rfl) ?_ ?_ ?_
    ·intro t v w1 w2 hb' h
     revert h
     split <;> intro h <;> first
      | exact h
    ·refine ⟨?_, ?_, ?_, trivial⟩
     ·intro x w1 hb1 hx K hK
      clear hx hKc
      obtain ⟨cs0, cs1⟩ := (Hs.up hb1).c2
      simp only [frameOf, fill, sg, Nat.reduceBEq, if_true, if_false, Nat.reduceAdd, Nat.reduceEqDiff] at hK ⊢
      go_wp2_with (go_at_call 102; refine (nothing_any _).mono ?_; rintro e w' ⟨rfl, hb2⟩)
      exact hK _ _ (Below.refl _ _) rfl
     ·intro x w1 hb1 hx K hK
      clear hx hKc
      obtain ⟨cs0, cs1⟩ := (Hs.up hb1).c2
      simp only [frameOf, fill, sg, Nat.reduceBEq, if_true, if_false, Nat.reduceAdd, Nat.reduceEqDiff] at hK ⊢
      go_wp2_with (go_at_call 102; refine (nothing_any _).mono ?_; rintro e w' ⟨rfl, hb2⟩)
      exact hK _ _ hb2 rfl
     ·intro x w1 hb1 hx K hK
      have e9 : x 9 = .agg #[.int .i64 b.l1, .int .i64 b.h1] := hx 9 (by rfl)
      have e10 : x 10 = .agg #[.int .i64 1, .int .i64 0] := hx 10 (by rfl)
      clear hx hKc
      obtain ⟨cs0, cs1⟩ := (Hs.up hb1).c2
      simp only [frameOf, fill, sg, Nat.reduceBEq, if_true, if_false, Nat.reduceAdd, Nat.reduceEqDiff] at hK ⊢
      simp only [e9, e10] at hK ⊢
      clear e9 e10
      refine wpList_eql rfl rfl rfl rfl (by kernel_rfl) _ (eqlW_none _ _ _) ?_
      exact hK _ _ (Below.refl _ _) (congrArg Value.bool hq)
    ·intro x w1 hb1 hx
     have e9 : x 9 = .agg #[.int .i64 b.l1, .int .i64 b.h1] := hx 9 (by decide)
     have e10 : x 10 = .agg #[.int .i64 1, .int .i64 0] := hx 10 (by decide)
     have e11 : x 11 = .bool false := hx 11 (by decide)
     clear hx
     obtain ⟨cs0, cs1⟩ := (Hs.up hb1).c2
     simp only [frameOf, fill, List.contains_cons, List.contains_nil, Nat.reduceBEq, Bool.or_false, Bool.false_or, Bool.or_true, Bool.true_or, if_true, if_false, Bool.false_eq_true, Nat.reduceAdd, Nat.zero_add]
     simp only [e9, e10, e11]
     clear e9 e10 e11
     have hB2 : Below w.heap.size w w1 := hB1.trans (hb1.mono (by omega))
     have hs1 := hb1.size
     refine hKc _ _ ?_
     go_wp2_with fail
     go_roundw
     case rel =>
      have q := HQ.out
      exact ⟨hB2, by omega, .inr (.inr (.inl ⟨rfl, p0, q⟩))⟩
     case measure => simp [intOf]
  ·obtain ⟨p0, p1⟩ := hp
   cases hq : none01 b.l2 b.h2 with
   | true =>
    have HQ := Lib.hid hq
    go_wp2_with fail
    refine wp_world (fun W => Below w.heap.size w W ∧ wr.heap.size + 1 ≤ W.heap.size ∧ Holds W (wr.heap.size) 60 #[.int .i64 b.l2, .int .i64 b.h2] ∧ True) ?_ ?_
    ·exact ⟨zg, (by simp), zp0, trivial⟩
    rintro W ⟨hB1, hS1, Hs, -⟩
    rename_i Kc hKc
    refine wp_region_parts (by kernel_rfl) 3 [9, 10, 11] (fun t v w' => match t with
     | 9 => v = .agg #[.int .i64 b.l2, .int .i64 b.h2]
     | 10 => v = .agg #[.int .i64 1, .int .i64 0]
     | 11 => v = .bool true
     | _ => True) (by kernel_rfl) ?_ ?_ ?_
    ·intro t v w1 w2 hb' h
     revert h
     split <;> intro h <;> first
      | exact h
    ·refine ⟨?_, ?_, ?_, trivial⟩
     ·intro x w1 hb1 hx K hK
      clear hx hKc
      obtain ⟨cs0, cs1⟩ := (Hs.up hb1).c2
      simp only [frameOf, fill, sg, Nat.reduceBEq, if_true, if_false, Nat.reduceAdd, Nat.reduceEqDiff] at hK ⊢
      go_wp2_with (go_at_call 102; refine (nothing_any _).mono ?_; rintro e w' ⟨rfl, hb2⟩)
      exact hK _ _ (Below.refl _ _) rfl
     ·intro x w1 hb1 hx K hK
      clear hx hKc
      obtain ⟨cs0, cs1⟩ := (Hs.up hb1).c2
      simp only [frameOf, fill, sg, Nat.reduceBEq, if_true, if_false, Nat.reduceAdd, Nat.reduceEqDiff] at hK ⊢
      go_wp2_with (go_at_call 102; refine (nothing_any _).mono ?_; rintro e w' ⟨rfl, hb2⟩)
      exact hK _ _ hb2 rfl
     ·intro x w1 hb1 hx K hK
      have e9 : x 9 = .agg #[.int .i64 b.l2, .int .i64 b.h2] := hx 9 (by rfl)
      have e10 : x 10 = .agg #[.int .i64 1, .int .i64 0] := hx 10 (by rfl)
      clear hx hKc
      obtain ⟨cs0, cs1⟩ := (Hs.up hb1).c2
      simp only [frameOf, fill, sg, Nat.reduceBEq, if_true, if_false, Nat.reduceAdd, Nat.reduceEqDiff] at hK ⊢
      simp only [e9, e10] at hK ⊢
      clear e9 e10
      refine wpList_eql rfl rfl rfl rfl (by kernel_rfl) _ (eqlW_none _ _ _) ?_
      exact hK _ _ (Below.refl _ _) (congrArg Value.bool hq)
    ·intro x w1 hb1 hx
     have e9 : x 9 = .agg #[.int .i64 b.l2, .int .i64 b.h2] := hx 9 (by decide)
     have e10 : x 10 = .agg #[.int .i64 1, .int .i64 0] := hx 10 (by decide)
     have e11 : x 11 = .bool true := hx 11 (by decide)
     clear hx
     obtain ⟨cs0, cs1⟩ := (Hs.up hb1).c2
     simp only [frameOf, fill, List.contains_cons, List.contains_nil, Nat.reduceBEq, Bool.or_false, Bool.false_or, Bool.or_true, Bool.true_or, if_true, if_false, Bool.false_eq_true, Nat.reduceAdd, Nat.zero_add]
     simp only [e9, e10, e11]
     clear e9 e10 e11
     have hB2 : Below w.heap.size w w1 := hB1.trans (hb1.mono (by omega))
     refine hKc _ _ ?_
     go_wp2_with fail
     go_ret
     have q := HQ.out
     have hfin : b.empty = true := by rw [E.out]; simp [p0, p1, q]
     exact ⟨by rw [hfin]; rfl, hB2⟩
   | false =>
    have HQ := Lib.hid hq
    go_wp2_with fail
    refine wp_world (fun W => Below w.heap.size w W ∧ wr.heap.size + 1 ≤ W.heap.size ∧ Holds W (wr.heap.size) 60 #[.int .i64 b.l2, .int .i64 b.h2] ∧ True) ?_ ?_
    ·exact ⟨zg, (by simp), zp0, trivial⟩
    rintro W ⟨hB1, hS1, Hs, -⟩
    rename_i Kc hKc
    refine wp_region_parts (by kernel_rfl) 3 [9, 10, 11] (fun t v w' => match t with
     | 9 => v = .agg #[.int .i64 b.l2, .int .i64 b.h2]
     | 10 => v = .agg #[.int .i64 1, .int .i64 0]
     | 11 => v = .bool false
     | _ => True) (by kernel_rfl) ?_ ?_ ?_
    ·intro t v w1 w2 hb' h
     revert h
     split <;> intro h <;> first
      | exact h
    ·refine ⟨?_, ?_, ?_, trivial⟩
     ·intro x w1 hb1 hx K hK
      clear hx hKc
      obtain ⟨cs0, cs1⟩ := (Hs.up hb1).c2
      simp only [frameOf, fill, sg, Nat.reduceBEq, if_true, if_false, Nat.reduceAdd, Nat.reduceEqDiff] at hK ⊢
      go_wp2_with (go_at_call 102; refine (nothing_any _).mono ?_; rintro e w' ⟨rfl, hb2⟩)
      exact hK _ _ (Below.refl _ _) rfl
     ·intro x w1 hb1 hx K hK
      clear hx hKc
      obtain ⟨cs0, cs1⟩ := (Hs.up hb1).c2
      simp only [frameOf, fill, sg, Nat.reduceBEq, if_true, if_false, Nat.reduceAdd, Nat.reduceEqDiff] at hK ⊢
      go_wp2_with (go_at_call 102; refine (nothing_any _).mono ?_; rintro e w' ⟨rfl, hb2⟩)
      exact hK _ _ hb2 rfl
     ·intro x w1 hb1 hx K hK
      have e9 : x 9 = .agg #[.int .i64 b.l2, .int .i64 b.h2] := hx 9 (by rfl)
      have e10 : x 10 = .agg #[.int .i64 1, .int .i64 0] := hx 10 (by rfl)
      clear hx hKc
      obtain ⟨cs0, cs1⟩ := (Hs.up hb1).c2
      simp only [frameOf, fill, sg, Nat.reduceBEq, if_true, if_false, Nat.reduceAdd, Nat.reduceEqDiff] at hK ⊢
      simp only [e9, e10] at hK ⊢
      clear e9 e10
      refine wpList_eql rfl rfl rfl rfl (by kernel_rfl) _ (eqlW_none _ _ _) ?_
      exact hK _ _ (Below.refl _ _) (congrArg Value.bool hq)
    ·intro x w1 hb1 hx
     have e9 : x 9 = .agg #[.int .i64 b.l2, .int .i64 b.h2] := hx 9 (by decide)
     have e10 : x 10 = .agg #[.int .i64 1, .int .i64 0] := hx 10 (by decide)
     have e11 : x 11 = .bool false := hx 11 (by decide)
     clear hx
     obtain ⟨cs0, cs1⟩ := (Hs.up hb1).c2
     simp only [frameOf, fill, List.contains_cons, List.contains_nil, Nat.reduceBEq, Bool.or_false, Bool.false_or, Bool.or_true, Bool.true_or, if_true, if_false, Bool.false_eq_true, Nat.reduceAdd, Nat.zero_add]
     simp only [e9, e10, e11]
     clear e9 e10 e11
     have hB2 : Below w.heap.size w w1 := hB1.trans (hb1.mono (by omega))
     have hs1 := hb1.size
     refine hKc _ _ ?_
     go_wp2_with fail
     go_roundw
     case rel =>
      have q := HQ.out
      exact ⟨hB2, by omega, .inr (.inr (.inr (.inl ⟨rfl, p0, p1, q⟩)))⟩
     case measure => simp [intOf]
  ·obtain ⟨p0, p1, p2⟩ := hp
   cases hq : none01 b.l3 b.h3 with
   | true =>
    have HQ := Lib.hid hq
    go_wp2_with fail
    refine wp_world (fun W => Below w.heap.size w W ∧ wr.heap.size + 1 ≤ W.heap.size ∧ Holds W (wr.heap.size) 60 #[.int .i64 b.l3, .int .i64 b.h3] ∧ True) ?_ ?_
    ·exact ⟨zg, (by simp), zp0, trivial⟩
    rintro W ⟨hB1, hS1, Hs, -⟩
    rename_i Kc hKc
    refine wp_region_parts (by kernel_rfl) 3 [9, 10, 11] (fun t v w' => match t with
     | 9 => v = .agg #[.int .i64 b.l3, .int .i64 b.h3]
     | 10 => v = .agg #[.int .i64 1, .int .i64 0]
     | 11 => v = .bool true
     | _ => True) (by kernel_rfl) ?_ ?_ ?_
    ·intro t v w1 w2 hb' h
     revert h
     split <;> intro h <;> first
      | exact h
    ·refine ⟨?_, ?_, ?_, trivial⟩
     ·intro x w1 hb1 hx K hK
      clear hx hKc
      obtain ⟨cs0, cs1⟩ := (Hs.up hb1).c2
      simp only [frameOf, fill, sg, Nat.reduceBEq, if_true, if_false, Nat.reduceAdd, Nat.reduceEqDiff] at hK ⊢
      go_wp2_with (go_at_call 102; refine (nothing_any _).mono ?_; rintro e w' ⟨rfl, hb2⟩)
      exact hK _ _ (Below.refl _ _) rfl
     ·intro x w1 hb1 hx K hK
      clear hx hKc
      obtain ⟨cs0, cs1⟩ := (Hs.up hb1).c2
      simp only [frameOf, fill, sg, Nat.reduceBEq, if_true, if_false, Nat.reduceAdd, Nat.reduceEqDiff] at hK ⊢
      go_wp2_with (go_at_call 102; refine (nothing_any _).mono ?_; rintro e w' ⟨rfl, hb2⟩)
      exact hK _ _ hb2 rfl
     ·intro x w1 hb1 hx K hK
      have e9 : x 9 = .agg #[.int .i64 b.l3, .int .i64 b.h3] := hx 9 (by rfl)
      have e10 : x 10 = .agg #[.int .i64 1, .int .i64 0] := hx 10 (by rfl)
      clear hx hKc
      obtain ⟨cs0, cs1⟩ := (Hs.up hb1).c2
      simp only [frameOf, fill, sg, Nat.reduceBEq, if_true, if_false, Nat.reduceAdd, Nat.reduceEqDiff] at hK ⊢
      simp only [e9, e10] at hK ⊢
      clear e9 e10
      refine wpList_eql rfl rfl rfl rfl (by kernel_rfl) _ (eqlW_none _ _ _) ?_
      exact hK _ _ (Below.refl _ _) (congrArg Value.bool hq)
    ·intro x w1 hb1 hx
     have e9 : x 9 = .agg #[.int .i64 b.l3, .int .i64 b.h3] := hx 9 (by decide)
     have e10 : x 10 = .agg #[.int .i64 1, .int .i64 0] := hx 10 (by decide)
     have e11 : x 11 = .bool true := hx 11 (by decide)
     clear hx
     obtain ⟨cs0, cs1⟩ := (Hs.up hb1).c2
     simp only [frameOf, fill, List.contains_cons, List.contains_nil, Nat.reduceBEq, Bool.or_false, Bool.false_or, Bool.or_true, Bool.true_or, if_true, if_false, Bool.false_eq_true, Nat.reduceAdd, Nat.zero_add]
     simp only [e9, e10, e11]
     clear e9 e10 e11
     have hB2 : Below w.heap.size w w1 := hB1.trans (hb1.mono (by omega))
     refine hKc _ _ ?_
     go_wp2_with fail
     go_ret
     have q := HQ.out
     have hfin : b.empty = true := by rw [E.out]; simp [p0, p1, p2, q]
     exact ⟨by rw [hfin]; rfl, hB2⟩
   | false =>
    have HQ := Lib.hid hq
    go_wp2_with fail
    refine wp_world (fun W => Below w.heap.size w W ∧ wr.heap.size + 1 ≤ W.heap.size ∧ Holds W (wr.heap.size) 60 #[.int .i64 b.l3, .int .i64 b.h3] ∧ True) ?_ ?_
    ·exact ⟨zg, (by simp), zp0, trivial⟩
    rintro W ⟨hB1, hS1, Hs, -⟩
    rename_i Kc hKc
    refine wp_region_parts (by kernel_rfl) 3 [9, 10, 11] (fun t v w' => match t with
     | 9 => v = .agg #[.int .i64 b.l3, .int .i64 b.h3]
     | 10 => v = .agg #[.int .i64 1, .int .i64 0]
     | 11 => v = .bool false
     | _ => True) (by kernel_rfl) ?_ ?_ ?_
    ·intro t v w1 w2 hb' h
     revert h
     split <;> intro h <;> first
      | exact h
    ·refine ⟨?_, ?_, ?_, trivial⟩
     ·intro x w1 hb1 hx K hK
      clear hx hKc
      obtain ⟨cs0, cs1⟩ := (Hs.up hb1).c2
      simp only [frameOf, fill, sg, Nat.reduceBEq, if_true, if_false, Nat.reduceAdd, Nat.reduceEqDiff] at hK ⊢
      go_wp2_with (go_at_call 102; refine (nothing_any _).mono ?_; rintro e w' ⟨rfl, hb2⟩)
      exact hK _ _ (Below.refl _ _) rfl
     ·intro x w1 hb1 hx K hK
      clear hx hKc
      obtain ⟨cs0, cs1⟩ := (Hs.up hb1).c2
      simp only [frameOf, fill, sg, Nat.reduceBEq, if_true, if_false, Nat.reduceAdd, Nat.reduceEqDiff] at hK ⊢
      go_wp2_with (go_at_call 102; refine (nothing_any _).mono ?_; rintro e w' ⟨rfl, hb2⟩)
      exact hK _ _ hb2 rfl
     ·intro x w1 hb1 hx K hK
      have e9 : x 9 = .agg #[.int .i64 b.l3, .int .i64 b.h3] := hx 9 (by rfl)
      have e10 : x 10 = .agg #[.int .i64 1, .int .i64 0] := hx 10 (by rfl)
      clear hx hKc
      obtain ⟨cs0, cs1⟩ := (Hs.up hb1).c2
      simp only [frameOf, fill, sg, Nat.reduceBEq, if_true, if_false, Nat.reduceAdd, Nat.reduceEqDiff] at hK ⊢
      simp only [e9, e10] at hK ⊢
      clear e9 e10
      refine wpList_eql rfl rfl rfl rfl (by kernel_rfl) _ (eqlW_none _ _ _) ?_
      exact hK _ _ (Below.refl _ _) (congrArg Value.bool hq)
    ·intro x w1 hb1 hx
     have e9 : x 9 = .agg #[.int .i64 b.l3, .int .i64 b.h3] := hx 9 (by decide)
     have e10 : x 10 = .agg #[.int .i64 1, .int .i64 0] := hx 10 (by decide)
     have e11 : x 11 = .bool false := hx 11 (by decide)
     clear hx
     obtain ⟨cs0, cs1⟩ := (Hs.up hb1).c2
     simp only [frameOf, fill, List.contains_cons, List.contains_nil, Nat.reduceBEq, Bool.or_false, Bool.false_or, Bool.or_true, Bool.true_or, if_true, if_false, Bool.false_eq_true, Nat.reduceAdd, Nat.zero_add]
     simp only [e9, e10, e11]
     clear e9 e10 e11
     have hB2 : Below w.heap.size w w1 := hB1.trans (hb1.mono (by omega))
     have hs1 := hb1.size
     refine hKc _ _ ?_
     go_wp2_with fail
     go_roundw
     case rel =>
      have q := HQ.out
      exact ⟨hB2, by omega, .inr (.inr (.inr (.inr ⟨rfl, p0, p1, p2, q⟩)))⟩
     case measure => simp [intOf]
  ·go_wp2_with fail
   go_ret
   obtain ⟨p0, p1, p2, p3⟩ := hp
   have hfin : b.empty = false := by rw [E.out]; simp [p0, p1, p2, p3]
   exact ⟨by rw [hfin]; rfl, hB⟩
end Go.Proofs.Ytifffonoipapgaa
