import Derived.Laws.BitsLemmas
import Derived.Laws.AppendOwn
import Derived.Test.YtokafjkinkafiaaGreatVAA
set_option linter.unusedSimpArgs false
set_option linter.unusedVariables false
namespace Go.Proofs.YtokafjkinkafiaaGreat
open Go.RowKit
def BytesAt (w : World) (A : Option Addr) (n : Nat) : Prop :=
 0 < n → ∃ B o, A = some ⟨B, o, none⟩ ∧ ∀ k, k < n → ∃ b : Int, w.cell? ⟨B, o + k, none⟩ = some (.int .u8 b)
theorem BytesAt.up {w w' : World} {A : Option Addr} {n : Nat} (h : BytesAt w A n) (hb : Below w.heap.size w w') : BytesAt w' A n := fun hn => by
 obtain ⟨B, o, e, hc⟩ := h hn
 exact ⟨B, o, e, fun k hk => by obtain ⟨b, hb'⟩ := hc k hk; exact ⟨b, up_cell hb hb'⟩⟩
set_option maxRecDepth 100000 in
theorem Fill_any (A : Option Addr) (n c : Nat) (w : World) (hn : n ≤ 9223372036854775807) :
  Calls Tryz.prog 5 #[.slice A n c] w fun e w' => ∃ m : Int, e = .returned (.pointer (some ⟨w.heap.size, 0, none⟩)) ∧ Holds w' w.heap.size 53 #[.slice A n c, .int .i64 0, .int .u32 m] ∧ Below w.heap.size w w' := by
 go_enter Tryz.func5, Tryz.ntmps5
 go_wp2_with fail
 go_ret
 exact ⟨_, rfl, Holds.new _ _ _, zg⟩
theorem only_below {w w' : World} (S : Nat) (h : Below w.heap.size w w') : w.grownBy w' (some S) := ⟨h.os, h.tape, h.output, h.size, fun i hi _ => h.block i hi⟩
theorem only_set {w w' : World} {S : Nat} (h : w.grownBy w' (some S)) (i : Nat) (u : Value) : w.grownBy (w'.setCell ⟨S, i, none⟩ u) (some S) :=
 ⟨h.os, h.tape, h.output, by simpa using h.size, fun k hk hne => (Below.heap_setCell w' ⟨S, i, none⟩ u k (fun e => hne (by rw [e]))).trans (h.block k hk hne)⟩
theorem only_up {w w' w'' : World} {S : Nat} (h : w.grownBy w' (some S)) (hb : Below w'.heap.size w' w'') : w.grownBy w'' (some S) :=
 ⟨hb.os.trans h.os, hb.tape.trans h.tape, hb.output.trans h.output, Nat.le_trans h.size hb.size, fun k hk hne => (hb.block k (Nat.lt_of_lt_of_le hk h.size)).trans (h.block k hk hne)⟩
theorem and_bound (x : Int) : 0 ≤ bits .and .u32 x 65535 ∧ bits .and .u32 x 65535 ≤ 65535 := by
 have h : (BitVec.ofInt 32 x &&& BitVec.ofInt 32 65535).toNat ≤ 65535 := by
  rw [BitVec.toNat_and]
  exact Nat.le_trans Nat.and_le_right (by decide)
 show 0 ≤ IntKind.u32.wrap ((BitVec.ofInt 32 x &&& BitVec.ofInt 32 65535).toNat : Int) ∧ IntKind.u32.wrap ((BitVec.ofInt 32 x &&& BitVec.ofInt 32 65535).toNat : Int) ≤ 65535
 rw [IntKind.wrap_u32]
 omega
def Drawn (w : World) (S : Nat) (A : Option Addr) (n c tk : Nat) (e : Ending) (w' : World) : Prop :=
 ∃ r m : Int, e = .returned (.int .i64 r) ∧ 0 ≤ r ∧ r ≤ 65535 ∧ Holds w' S 53 #[.slice A n c, .int .i64 ((tk + 1 : Nat) : Int), .int .u32 m] ∧ w.grownBy w' (some S)
set_option maxRecDepth 100000 in
set_option maxHeartbeats 4000000 in
theorem handful_pos (S : Nat) (A : Option Addr) (n c tk : Nat) (m : Int) (w : World) (hS : Holds w S 53 #[.slice A n c, .int .i64 (tk : Int), .int .u32 m]) (hA : BytesAt w A n) (hn : n ≤ 9223372036854775807) (ht : tk ≤ 1000000) (h0 : 0 < n) :
  Calls Tryz.prog 19 #[.pointer (some ⟨S, 0, none⟩)] w (Drawn w S A n c tk) := by
 have c0 : w.cell? ⟨S, 0, none⟩ = some (.slice A n c) := hS.cell 0
 obtain ⟨B, o, rfl, hc⟩ := hA h0
 obtain ⟨b, hb⟩ := hc (tk % n) (Nat.mod_lt _ h0)
 clear hc
 have hmod : tk % n < n := Nat.mod_lt _ h0
 go_enter Tryz.func19, Tryz.ntmps19
 go_wp2_with fail
 rename_i Kc hKc
 refine wp_region_parts (by kernel_rfl) 20 [11, 12, 13, 14, 15, 16, 17, 18, 19, 20, 21, 22, 23, 24, 25, 26, 27, 28, 29, 30] (fun t v w' => match t with
  | 11 => v = .pointer (some ⟨S, 0, none⟩)
  | 12 => v = .pointer (some ⟨S, 0, none⟩)
  | 13 => v = .pointer (some ⟨S, 0, none⟩)
  | 14 => v = .pointer (some ⟨S, 2, none⟩)
  | 15 => v = .int .u32 m
  | 16 => v = .pointer (some ⟨S, 0, none⟩)
  | 17 => v = .pointer (some ⟨S, 0, none⟩)
  | 18 => v = .pointer (some ⟨S, 0, none⟩)
  | 19 => v = .slice (some ⟨B, o, none⟩) n c
  | 20 => v = .pointer (some ⟨S, 0, none⟩)
  | 21 => v = .pointer (some ⟨S, 0, none⟩)
  | 22 => v = .pointer (some ⟨S, 1, none⟩)
  | 23 => v = .int .i64 (tk : Int)
  | 24 => v = .int .i64 (n : Int)
  | 25 => v = .int .i64 ((tk % n : Nat) : Int)
  | 26 => v = .pointer (some ⟨B, o + tk % n, none⟩)
  | 27 => v = .int .u8 b
  | 28 => ∃ x, v = .int .u32 x
  | 29 => ∃ x, v = .int .u32 x
  | 30 => ∃ x, v = .int .u32 x
  | _ => True) (by kernel_rfl) ?_ ?_ ?_
 ·intro t v w1 w2 hb' h
  revert h
  split <;> intro h <;> first
   | exact h
   | (obtain ⟨b0, rfl⟩ := h; exact ⟨b0, rfl⟩)
 ·refine ⟨?_, ?_, ?_, ?_, ?_, ?_, ?_, ?_, ?_, ?_, ?_, ?_, ?_, ?_, ?_, ?_, ?_, ?_, ?_, ?_, trivial⟩
  ·intro x w1 hb1 hx K hK
   clear hx hKc
   obtain ⟨k0, k1, k2⟩ := (hS.up hb1).c3
   have k3 : w1.cell? ⟨B, o + tk % n, none⟩ = some (.int .u8 b) := up_cell hb1 hb
   simp only [frameOf, fill, sg, Nat.reduceBEq, if_true, if_false, Nat.reduceAdd, Nat.reduceEqDiff] at hK ⊢
   go_wp2_with (fail)
   exact hK _ _ (Below.refl _ _) rfl
  ·intro x w1 hb1 hx K hK
   clear hx hKc
   obtain ⟨k0, k1, k2⟩ := (hS.up hb1).c3
   have k3 : w1.cell? ⟨B, o + tk % n, none⟩ = some (.int .u8 b) := up_cell hb1 hb
   simp only [frameOf, fill, sg, Nat.reduceBEq, if_true, if_false, Nat.reduceAdd, Nat.reduceEqDiff] at hK ⊢
   go_wp2_with (fail)
   exact hK _ _ (Below.refl _ _) rfl
  ·intro x w1 hb1 hx K hK
   have e12 : x 12 = .pointer (some ⟨S, 0, none⟩) := hx 12 (by rfl)
   clear hx hKc
   obtain ⟨k0, k1, k2⟩ := (hS.up hb1).c3
   have k3 : w1.cell? ⟨B, o + tk % n, none⟩ = some (.int .u8 b) := up_cell hb1 hb
   simp only [frameOf, fill, sg, Nat.reduceBEq, if_true, if_false, Nat.reduceAdd, Nat.reduceEqDiff] at hK ⊢
   simp only [e12] at hK ⊢
   clear e12
   go_wp2_with (fail)
   exact hK _ _ (Below.refl _ _) rfl
  ·intro x w1 hb1 hx K hK
   have e13 : x 13 = .pointer (some ⟨S, 0, none⟩) := hx 13 (by rfl)
   clear hx hKc
   obtain ⟨k0, k1, k2⟩ := (hS.up hb1).c3
   have k3 : w1.cell? ⟨B, o + tk % n, none⟩ = some (.int .u8 b) := up_cell hb1 hb
   simp only [frameOf, fill, sg, Nat.reduceBEq, if_true, if_false, Nat.reduceAdd, Nat.reduceEqDiff] at hK ⊢
   simp only [e13] at hK ⊢
   clear e13
   go_wp2_with (fail)
   exact hK _ _ (Below.refl _ _) rfl
  ·intro x w1 hb1 hx K hK
   have e14 : x 14 = .pointer (some ⟨S, 2, none⟩) := hx 14 (by rfl)
   clear hx hKc
   obtain ⟨k0, k1, k2⟩ := (hS.up hb1).c3
   have k3 : w1.cell? ⟨B, o + tk % n, none⟩ = some (.int .u8 b) := up_cell hb1 hb
   simp only [frameOf, fill, sg, Nat.reduceBEq, if_true, if_false, Nat.reduceAdd, Nat.reduceEqDiff] at hK ⊢
   simp only [e14] at hK ⊢
   clear e14
   go_wp2_with (fail)
   exact hK _ _ (Below.refl _ _) rfl
  ·intro x w1 hb1 hx K hK
   clear hx hKc
   obtain ⟨k0, k1, k2⟩ := (hS.up hb1).c3
   have k3 : w1.cell? ⟨B, o + tk % n, none⟩ = some (.int .u8 b) := up_cell hb1 hb
   simp only [frameOf, fill, sg, Nat.reduceBEq, if_true, if_false, Nat.reduceAdd, Nat.reduceEqDiff] at hK ⊢
   go_wp2_with (fail)
   exact hK _ _ (Below.refl _ _) rfl
  ·intro x w1 hb1 hx K hK
   have e16 : x 16 = .pointer (some ⟨S, 0, none⟩) := hx 16 (by rfl)
   clear hx hKc
   obtain ⟨k0, k1, k2⟩ := (hS.up hb1).c3
   have k3 : w1.cell? ⟨B, o + tk % n, none⟩ = some (.int .u8 b) := up_cell hb1 hb
   simp only [frameOf, fill, sg, Nat.reduceBEq, if_true, if_false, Nat.reduceAdd, Nat.reduceEqDiff] at hK ⊢
   simp only [e16] at hK ⊢
   clear e16
   go_wp2_with (fail)
   exact hK _ _ (Below.refl _ _) rfl
  ·intro x w1 hb1 hx K hK
   have e17 : x 17 = .pointer (some ⟨S, 0, none⟩) := hx 17 (by rfl)
   clear hx hKc
   obtain ⟨k0, k1, k2⟩ := (hS.up hb1).c3
   have k3 : w1.cell? ⟨B, o + tk % n, none⟩ = some (.int .u8 b) := up_cell hb1 hb
   simp only [frameOf, fill, sg, Nat.reduceBEq, if_true, if_false, Nat.reduceAdd, Nat.reduceEqDiff] at hK ⊢
   simp only [e17] at hK ⊢
   clear e17
   go_wp2_with (fail)
   exact hK _ _ (Below.refl _ _) rfl
  ·intro x w1 hb1 hx K hK
   have e18 : x 18 = .pointer (some ⟨S, 0, none⟩) := hx 18 (by rfl)
   clear hx hKc
   obtain ⟨k0, k1, k2⟩ := (hS.up hb1).c3
   have k3 : w1.cell? ⟨B, o + tk % n, none⟩ = some (.int .u8 b) := up_cell hb1 hb
   simp only [frameOf, fill, sg, Nat.reduceBEq, if_true, if_false, Nat.reduceAdd, Nat.reduceEqDiff] at hK ⊢
   simp only [e18] at hK ⊢
   clear e18
   go_wp2_with (fail)
   exact hK _ _ (Below.refl _ _) rfl
  ·intro x w1 hb1 hx K hK
   clear hx hKc
   obtain ⟨k0, k1, k2⟩ := (hS.up hb1).c3
   have k3 : w1.cell? ⟨B, o + tk % n, none⟩ = some (.int .u8 b) := up_cell hb1 hb
   simp only [frameOf, fill, sg, Nat.reduceBEq, if_true, if_false, Nat.reduceAdd, Nat.reduceEqDiff] at hK ⊢
   go_wp2_with (fail)
   exact hK _ _ (Below.refl _ _) rfl
  ·intro x w1 hb1 hx K hK
   have e20 : x 20 = .pointer (some ⟨S, 0, none⟩) := hx 20 (by rfl)
   clear hx hKc
   obtain ⟨k0, k1, k2⟩ := (hS.up hb1).c3
   have k3 : w1.cell? ⟨B, o + tk % n, none⟩ = some (.int .u8 b) := up_cell hb1 hb
   simp only [frameOf, fill, sg, Nat.reduceBEq, if_true, if_false, Nat.reduceAdd, Nat.reduceEqDiff] at hK ⊢
   simp only [e20] at hK ⊢
   clear e20
   go_wp2_with (fail)
   exact hK _ _ (Below.refl _ _) rfl
  ·intro x w1 hb1 hx K hK
   have e21 : x 21 = .pointer (some ⟨S, 0, none⟩) := hx 21 (by rfl)
   clear hx hKc
   obtain ⟨k0, k1, k2⟩ := (hS.up hb1).c3
   have k3 : w1.cell? ⟨B, o + tk % n, none⟩ = some (.int .u8 b) := up_cell hb1 hb
   simp only [frameOf, fill, sg, Nat.reduceBEq, if_true, if_false, Nat.reduceAdd, Nat.reduceEqDiff] at hK ⊢
   simp only [e21] at hK ⊢
   clear e21
   go_wp2_with (fail)
   exact hK _ _ (Below.refl _ _) rfl
  ·intro x w1 hb1 hx K hK
   have e22 : x 22 = .pointer (some ⟨S, 1, none⟩) := hx 22 (by rfl)
   clear hx hKc
   obtain ⟨k0, k1, k2⟩ := (hS.up hb1).c3
   have k3 : w1.cell? ⟨B, o + tk % n, none⟩ = some (.int .u8 b) := up_cell hb1 hb
   simp only [frameOf, fill, sg, Nat.reduceBEq, if_true, if_false, Nat.reduceAdd, Nat.reduceEqDiff] at hK ⊢
   simp only [e22] at hK ⊢
   clear e22
   go_wp2_with (fail)
   exact hK _ _ (Below.refl _ _) rfl
  ·intro x w1 hb1 hx K hK
   clear hx hKc
   obtain ⟨k0, k1, k2⟩ := (hS.up hb1).c3
   have k3 : w1.cell? ⟨B, o + tk % n, none⟩ = some (.int .u8 b) := up_cell hb1 hb
   simp only [frameOf, fill, sg, Nat.reduceBEq, if_true, if_false, Nat.reduceAdd, Nat.reduceEqDiff] at hK ⊢
   go_wp2_with (fail)
   exact hK _ _ (Below.refl _ _) rfl
  ·intro x w1 hb1 hx K hK
   have e23 : x 23 = .int .i64 (tk : Int) := hx 23 (by rfl)
   have e24 : x 24 = .int .i64 (n : Int) := hx 24 (by rfl)
   clear hx hKc
   obtain ⟨k0, k1, k2⟩ := (hS.up hb1).c3
   have k3 : w1.cell? ⟨B, o + tk % n, none⟩ = some (.int .u8 b) := up_cell hb1 hb
   simp only [frameOf, fill, sg, Nat.reduceBEq, if_true, if_false, Nat.reduceAdd, Nat.reduceEqDiff] at hK ⊢
   simp only [e23, e24] at hK ⊢
   clear e23 e24
   go_wp2_with (fail)
   exact hK _ _ (Below.refl _ _) (by simp)
  ·intro x w1 hb1 hx K hK
   have e19 : x 19 = .slice (some ⟨B, o, none⟩) n c := hx 19 (by rfl)
   have e25 : x 25 = .int .i64 ((tk % n : Nat) : Int) := hx 25 (by rfl)
   clear hx hKc
   obtain ⟨k0, k1, k2⟩ := (hS.up hb1).c3
   have k3 : w1.cell? ⟨B, o + tk % n, none⟩ = some (.int .u8 b) := up_cell hb1 hb
   simp only [frameOf, fill, sg, Nat.reduceBEq, if_true, if_false, Nat.reduceAdd, Nat.reduceEqDiff] at hK ⊢
   simp only [e19, e25] at hK ⊢
   clear e19 e25
   go_wp2_with (fail)
   exact hK _ _ (Below.refl _ _) rfl
  ·intro x w1 hb1 hx K hK
   have e26 : x 26 = .pointer (some ⟨B, o + tk % n, none⟩) := hx 26 (by rfl)
   clear hx hKc
   obtain ⟨k0, k1, k2⟩ := (hS.up hb1).c3
   have k3 : w1.cell? ⟨B, o + tk % n, none⟩ = some (.int .u8 b) := up_cell hb1 hb
   simp only [frameOf, fill, sg, Nat.reduceBEq, if_true, if_false, Nat.reduceAdd, Nat.reduceEqDiff] at hK ⊢
   simp only [e26] at hK ⊢
   clear e26
   go_wp2_with (fail)
   exact hK _ _ (Below.refl _ _) rfl
  ·intro x w1 hb1 hx K hK
   have e27 : x 27 = .int .u8 b := hx 27 (by rfl)
   clear hx hKc
   obtain ⟨k0, k1, k2⟩ := (hS.up hb1).c3
   have k3 : w1.cell? ⟨B, o + tk % n, none⟩ = some (.int .u8 b) := up_cell hb1 hb
   simp only [frameOf, fill, sg, Nat.reduceBEq, if_true, if_false, Nat.reduceAdd, Nat.reduceEqDiff] at hK ⊢
   simp only [e27] at hK ⊢
   clear e27
   go_wp2_with (fail)
   exact hK _ _ (Below.refl _ _) ⟨_, rfl⟩
  ·intro x w1 hb1 hx K hK
   have e15 : x 15 = .int .u32 m := hx 15 (by rfl)
   have e28 := hx 28 (by rfl)
   obtain ⟨x28, e28⟩ := e28
   clear hx hKc
   obtain ⟨k0, k1, k2⟩ := (hS.up hb1).c3
   have k3 : w1.cell? ⟨B, o + tk % n, none⟩ = some (.int .u8 b) := up_cell hb1 hb
   simp only [frameOf, fill, sg, Nat.reduceBEq, if_true, if_false, Nat.reduceAdd, Nat.reduceEqDiff] at hK ⊢
   simp only [e15, e28] at hK ⊢
   clear e15 e28
   go_wp2_with (fail)
   exact hK _ _ (Below.refl _ _) ⟨_, rfl⟩
  ·intro x w1 hb1 hx K hK
   have e29 := hx 29 (by rfl)
   obtain ⟨x29, e29⟩ := e29
   clear hx hKc
   obtain ⟨k0, k1, k2⟩ := (hS.up hb1).c3
   have k3 : w1.cell? ⟨B, o + tk % n, none⟩ = some (.int .u8 b) := up_cell hb1 hb
   simp only [frameOf, fill, sg, Nat.reduceBEq, if_true, if_false, Nat.reduceAdd, Nat.reduceEqDiff] at hK ⊢
   simp only [e29] at hK ⊢
   clear e29
   go_wp2_with (fail)
   exact hK _ _ (Below.refl _ _) ⟨_, rfl⟩
 ·intro x w1 hb1 hx
  have e11 : x 11 = .pointer (some ⟨S, 0, none⟩) := hx 11 (by decide)
  have e12 : x 12 = .pointer (some ⟨S, 0, none⟩) := hx 12 (by decide)
  have e13 : x 13 = .pointer (some ⟨S, 0, none⟩) := hx 13 (by decide)
  have e14 : x 14 = .pointer (some ⟨S, 2, none⟩) := hx 14 (by decide)
  have e15 : x 15 = .int .u32 m := hx 15 (by decide)
  have e16 : x 16 = .pointer (some ⟨S, 0, none⟩) := hx 16 (by decide)
  have e17 : x 17 = .pointer (some ⟨S, 0, none⟩) := hx 17 (by decide)
  have e18 : x 18 = .pointer (some ⟨S, 0, none⟩) := hx 18 (by decide)
  have e19 : x 19 = .slice (some ⟨B, o, none⟩) n c := hx 19 (by decide)
  have e20 : x 20 = .pointer (some ⟨S, 0, none⟩) := hx 20 (by decide)
  have e21 : x 21 = .pointer (some ⟨S, 0, none⟩) := hx 21 (by decide)
  have e22 : x 22 = .pointer (some ⟨S, 1, none⟩) := hx 22 (by decide)
  have e23 : x 23 = .int .i64 (tk : Int) := hx 23 (by decide)
  have e24 : x 24 = .int .i64 (n : Int) := hx 24 (by decide)
  have e25 : x 25 = .int .i64 ((tk % n : Nat) : Int) := hx 25 (by decide)
  have e26 : x 26 = .pointer (some ⟨B, o + tk % n, none⟩) := hx 26 (by decide)
  have e27 : x 27 = .int .u8 b := hx 27 (by decide)
  have e28 := hx 28 (by decide)
  obtain ⟨x28, e28⟩ := e28
  have e29 := hx 29 (by decide)
  obtain ⟨x29, e29⟩ := e29
  have e30 := hx 30 (by decide)
  obtain ⟨x30, e30⟩ := e30
  clear hx
  obtain ⟨k0, k1, k2⟩ := (hS.up hb1).c3
  have k3 : w1.cell? ⟨B, o + tk % n, none⟩ = some (.int .u8 b) := up_cell hb1 hb
  simp only [frameOf, fill, List.contains_cons, List.contains_nil, Nat.reduceBEq, Bool.or_false, Bool.false_or, Bool.or_true, Bool.true_or, if_true, if_false, Bool.false_eq_true, Nat.reduceAdd, Nat.zero_add]
  simp only [e11, e12, e13, e14, e15, e16, e17, e18, e19, e20, e21, e22, e23, e24, e25, e26, e27, e28, e29, e30]
  clear e11 e12 e13 e14 e15 e16 e17 e18 e19 e20 e21 e22 e23 e24 e25 e26 e27 e28 e29 e30
  have Hs1 := hS.up hb1
  have z1 := Hs1.frozen 1
  have z2 := Hs1.frozen 2
  go_wp2_with fail
  refine wp_world (fun W => w.grownBy W (some S) ∧ Holds W S 53 #[.slice (some ⟨B, o, none⟩) n c, .int .i64 ((tk : Int) + 1), .int .u32 x30]) ⟨only_set (only_set (only_below S hb1) 2 _) 1 _, (Hs1.setL 2 _).setL 1 _⟩ ?_
  rintro W5 ⟨g5, H5⟩
  by_cases hlt : (n : Int) < (tk : Int) + 1
  ·rename_i Kc hKc
   refine wp_region_parts (by kernel_rfl) 10 [40, 41, 42, 43, 44, 45, 46, 47, 48, 49] (fun t v w' => match t with
    | 40 => v = .pointer (some ⟨S, 0, none⟩)
    | 41 => v = .pointer (some ⟨S, 0, none⟩)
    | 42 => v = .pointer (some ⟨S, 1, none⟩)
    | 43 => v = .int .i64 ((tk : Int) + 1)
    | 44 => v = .pointer (some ⟨S, 0, none⟩)
    | 45 => v = .pointer (some ⟨S, 0, none⟩)
    | 46 => v = .pointer (some ⟨S, 0, none⟩)
    | 47 => v = .slice (some ⟨B, o, none⟩) n c
    | 48 => v = .int .i64 (n : Int)
    | 49 => v = .bool true
    | _ => True) (by kernel_rfl) ?_ ?_ ?_
   ·intro t v w1 w2 hb' h
    revert h
    split <;> intro h <;> first
     | exact h
   ·refine ⟨?_, ?_, ?_, ?_, ?_, ?_, ?_, ?_, ?_, ?_, trivial⟩
    ·intro x w1 hb1 hx K hK
     clear hx hKc
     have k0 : w1.cell? ⟨S, 0, none⟩ = some (.slice (some ⟨B, o, none⟩) n c) := (H5.up hb1).cell 0
     have k1 : w1.cell? ⟨S, 1, none⟩ = some (.int .i64 ((tk : Int) + 1)) := (H5.up hb1).cell 1
     simp only [frameOf, fill, sg, Nat.reduceBEq, if_true, if_false, Nat.reduceAdd, Nat.reduceEqDiff] at hK ⊢
     go_wp2_with (fail)
     exact hK _ _ (Below.refl _ _) rfl
    ·intro x w1 hb1 hx K hK
     have e40 : x 40 = .pointer (some ⟨S, 0, none⟩) := hx 40 (by rfl)
     clear hx hKc
     have k0 : w1.cell? ⟨S, 0, none⟩ = some (.slice (some ⟨B, o, none⟩) n c) := (H5.up hb1).cell 0
     have k1 : w1.cell? ⟨S, 1, none⟩ = some (.int .i64 ((tk : Int) + 1)) := (H5.up hb1).cell 1
     simp only [frameOf, fill, sg, Nat.reduceBEq, if_true, if_false, Nat.reduceAdd, Nat.reduceEqDiff] at hK ⊢
     simp only [e40] at hK ⊢
     clear e40
     go_wp2_with (fail)
     exact hK _ _ (Below.refl _ _) rfl
    ·intro x w1 hb1 hx K hK
     have e41 : x 41 = .pointer (some ⟨S, 0, none⟩) := hx 41 (by rfl)
     clear hx hKc
     have k0 : w1.cell? ⟨S, 0, none⟩ = some (.slice (some ⟨B, o, none⟩) n c) := (H5.up hb1).cell 0
     have k1 : w1.cell? ⟨S, 1, none⟩ = some (.int .i64 ((tk : Int) + 1)) := (H5.up hb1).cell 1
     simp only [frameOf, fill, sg, Nat.reduceBEq, if_true, if_false, Nat.reduceAdd, Nat.reduceEqDiff] at hK ⊢
     simp only [e41] at hK ⊢
     clear e41
     go_wp2_with (fail)
     exact hK _ _ (Below.refl _ _) rfl
    ·intro x w1 hb1 hx K hK
     have e42 : x 42 = .pointer (some ⟨S, 1, none⟩) := hx 42 (by rfl)
     clear hx hKc
     have k0 : w1.cell? ⟨S, 0, none⟩ = some (.slice (some ⟨B, o, none⟩) n c) := (H5.up hb1).cell 0
     have k1 : w1.cell? ⟨S, 1, none⟩ = some (.int .i64 ((tk : Int) + 1)) := (H5.up hb1).cell 1
     simp only [frameOf, fill, sg, Nat.reduceBEq, if_true, if_false, Nat.reduceAdd, Nat.reduceEqDiff] at hK ⊢
     simp only [e42] at hK ⊢
     clear e42
     go_wp2_with (fail)
     exact hK _ _ (Below.refl _ _) rfl
    ·intro x w1 hb1 hx K hK
     clear hx hKc
     have k0 : w1.cell? ⟨S, 0, none⟩ = some (.slice (some ⟨B, o, none⟩) n c) := (H5.up hb1).cell 0
     have k1 : w1.cell? ⟨S, 1, none⟩ = some (.int .i64 ((tk : Int) + 1)) := (H5.up hb1).cell 1
     simp only [frameOf, fill, sg, Nat.reduceBEq, if_true, if_false, Nat.reduceAdd, Nat.reduceEqDiff] at hK ⊢
     go_wp2_with (fail)
     exact hK _ _ (Below.refl _ _) rfl
    ·intro x w1 hb1 hx K hK
     have e44 : x 44 = .pointer (some ⟨S, 0, none⟩) := hx 44 (by rfl)
     clear hx hKc
     have k0 : w1.cell? ⟨S, 0, none⟩ = some (.slice (some ⟨B, o, none⟩) n c) := (H5.up hb1).cell 0
     have k1 : w1.cell? ⟨S, 1, none⟩ = some (.int .i64 ((tk : Int) + 1)) := (H5.up hb1).cell 1
     simp only [frameOf, fill, sg, Nat.reduceBEq, if_true, if_false, Nat.reduceAdd, Nat.reduceEqDiff] at hK ⊢
     simp only [e44] at hK ⊢
     clear e44
     go_wp2_with (fail)
     exact hK _ _ (Below.refl _ _) rfl
    ·intro x w1 hb1 hx K hK
     have e45 : x 45 = .pointer (some ⟨S, 0, none⟩) := hx 45 (by rfl)
     clear hx hKc
     have k0 : w1.cell? ⟨S, 0, none⟩ = some (.slice (some ⟨B, o, none⟩) n c) := (H5.up hb1).cell 0
     have k1 : w1.cell? ⟨S, 1, none⟩ = some (.int .i64 ((tk : Int) + 1)) := (H5.up hb1).cell 1
     simp only [frameOf, fill, sg, Nat.reduceBEq, if_true, if_false, Nat.reduceAdd, Nat.reduceEqDiff] at hK ⊢
     simp only [e45] at hK ⊢
     clear e45
     go_wp2_with (fail)
     exact hK _ _ (Below.refl _ _) rfl
    ·intro x w1 hb1 hx K hK
     have e46 : x 46 = .pointer (some ⟨S, 0, none⟩) := hx 46 (by rfl)
     clear hx hKc
     have k0 : w1.cell? ⟨S, 0, none⟩ = some (.slice (some ⟨B, o, none⟩) n c) := (H5.up hb1).cell 0
     have k1 : w1.cell? ⟨S, 1, none⟩ = some (.int .i64 ((tk : Int) + 1)) := (H5.up hb1).cell 1
     simp only [frameOf, fill, sg, Nat.reduceBEq, if_true, if_false, Nat.reduceAdd, Nat.reduceEqDiff] at hK ⊢
     simp only [e46] at hK ⊢
     clear e46
     go_wp2_with (fail)
     exact hK _ _ (Below.refl _ _) rfl
    ·intro x w1 hb1 hx K hK
     have e47 : x 47 = .slice (some ⟨B, o, none⟩) n c := hx 47 (by rfl)
     clear hx hKc
     have k0 : w1.cell? ⟨S, 0, none⟩ = some (.slice (some ⟨B, o, none⟩) n c) := (H5.up hb1).cell 0
     have k1 : w1.cell? ⟨S, 1, none⟩ = some (.int .i64 ((tk : Int) + 1)) := (H5.up hb1).cell 1
     simp only [frameOf, fill, sg, Nat.reduceBEq, if_true, if_false, Nat.reduceAdd, Nat.reduceEqDiff] at hK ⊢
     simp only [e47] at hK ⊢
     clear e47
     go_wp2_with (fail)
     exact hK _ _ (Below.refl _ _) rfl
    ·intro x w1 hb1 hx K hK
     have e43 : x 43 = .int .i64 ((tk : Int) + 1) := hx 43 (by rfl)
     have e48 : x 48 = .int .i64 (n : Int) := hx 48 (by rfl)
     clear hx hKc
     have k0 : w1.cell? ⟨S, 0, none⟩ = some (.slice (some ⟨B, o, none⟩) n c) := (H5.up hb1).cell 0
     have k1 : w1.cell? ⟨S, 1, none⟩ = some (.int .i64 ((tk : Int) + 1)) := (H5.up hb1).cell 1
     simp only [frameOf, fill, sg, Nat.reduceBEq, if_true, if_false, Nat.reduceAdd, Nat.reduceEqDiff] at hK ⊢
     simp only [e43, e48] at hK ⊢
     clear e43 e48
     go_wp2_with (fail)
     first | exact hK _ _ (Below.refl _ _) rfl | exact hK _ _ (Below.refl _ _) (by simp; omega)
   ·intro x w1 hb1 hx
    have e40 : x 40 = .pointer (some ⟨S, 0, none⟩) := hx 40 (by decide)
    have e41 : x 41 = .pointer (some ⟨S, 0, none⟩) := hx 41 (by decide)
    have e42 : x 42 = .pointer (some ⟨S, 1, none⟩) := hx 42 (by decide)
    have e43 : x 43 = .int .i64 ((tk : Int) + 1) := hx 43 (by decide)
    have e44 : x 44 = .pointer (some ⟨S, 0, none⟩) := hx 44 (by decide)
    have e45 : x 45 = .pointer (some ⟨S, 0, none⟩) := hx 45 (by decide)
    have e46 : x 46 = .pointer (some ⟨S, 0, none⟩) := hx 46 (by decide)
    have e47 : x 47 = .slice (some ⟨B, o, none⟩) n c := hx 47 (by decide)
    have e48 : x 48 = .int .i64 (n : Int) := hx 48 (by decide)
    have e49 : x 49 = .bool true := hx 49 (by decide)
    clear hx
    have k0 : w1.cell? ⟨S, 0, none⟩ = some (.slice (some ⟨B, o, none⟩) n c) := (H5.up hb1).cell 0
    have k1 : w1.cell? ⟨S, 1, none⟩ = some (.int .i64 ((tk : Int) + 1)) := (H5.up hb1).cell 1
    simp only [frameOf, fill, List.contains_cons, List.contains_nil, Nat.reduceBEq, Bool.or_false, Bool.false_or, Bool.or_true, Bool.true_or, if_true, if_false, Bool.false_eq_true, Nat.reduceAdd, Nat.zero_add]
    simp only [e40, e41, e42, e43, e44, e45, e46, e47, e48, e49]
    clear e40 e41 e42 e43 e44 e45 e46 e47 e48 e49
    have q2 : w1.cell? ⟨S, 2, none⟩ = some (.int .u32 x30) := (H5.up hb1).cell 2
    have q3 : w1.frozen? ⟨S, 2, none⟩ = false := (H5.up hb1).frozen 2
    refine hKc _ _ ?_
    go_wp2_with fail
    refine wp_world (fun W => w.grownBy W (some S) ∧ ∃ m7 : Int, Holds W S 53 #[.slice (some ⟨B, o, none⟩) n c, .int .i64 ((tk : Int) + 1), .int .u32 m7]) ⟨only_set (only_up g5 hb1) 2 _, _, (H5.up hb1).setL 2 _⟩ ?_
    rintro W7 ⟨g7, m7, H7⟩
    rename_i Kc hKc
    refine wp_region_parts (by kernel_rfl) 13 [59, 60, 61, 62, 63, 64, 65, 66, 67, 68, 69, 70, 71] (fun t v w' => match t with
     | 59 => v = .pointer (some ⟨S, 0, none⟩)
     | 60 => v = .pointer (some ⟨S, 0, none⟩)
     | 61 => v = .pointer (some ⟨S, 2, none⟩)
     | 62 => v = .int .u32 m7
     | 63 => v = .pointer (some ⟨S, 0, none⟩)
     | 64 => v = .pointer (some ⟨S, 0, none⟩)
     | 65 => v = .pointer (some ⟨S, 2, none⟩)
     | 66 => v = .int .u32 m7
     | 67 => ∃ x, v = .int .u32 x
     | 68 => ∃ x, v = .int .u32 x
     | 69 => ∃ x, v = .int .u32 x
     | 70 => ∃ x, v = .int .u32 x ∧ 0 ≤ x ∧ x ≤ 65535
     | 71 => ∃ x, v = .int .i64 x ∧ 0 ≤ x ∧ x ≤ 65535
     | _ => True) (by kernel_rfl) ?_ ?_ ?_
    ·intro t v w1 w2 hb' h
     revert h
     split <;> intro h <;> first
      | exact h
      | (obtain ⟨b0, rfl⟩ := h; exact ⟨b0, rfl⟩)
      | (obtain ⟨b0, rfl, h0, h1⟩ := h; exact ⟨b0, rfl, h0, h1⟩)
    ·refine ⟨?_, ?_, ?_, ?_, ?_, ?_, ?_, ?_, ?_, ?_, ?_, ?_, ?_, trivial⟩
     ·intro x w1 hb1 hx K hK
      clear hx hKc
      have k2 : w1.cell? ⟨S, 2, none⟩ = some (.int .u32 m7) := (H7.up hb1).cell 2
      simp only [frameOf, fill, sg, Nat.reduceBEq, if_true, if_false, Nat.reduceAdd, Nat.reduceEqDiff] at hK ⊢
      go_wp2_with (fail)
      exact hK _ _ (Below.refl _ _) rfl
     ·intro x w1 hb1 hx K hK
      have e59 : x 59 = .pointer (some ⟨S, 0, none⟩) := hx 59 (by rfl)
      clear hx hKc
      have k2 : w1.cell? ⟨S, 2, none⟩ = some (.int .u32 m7) := (H7.up hb1).cell 2
      simp only [frameOf, fill, sg, Nat.reduceBEq, if_true, if_false, Nat.reduceAdd, Nat.reduceEqDiff] at hK ⊢
      simp only [e59] at hK ⊢
      clear e59
      go_wp2_with (fail)
      exact hK _ _ (Below.refl _ _) rfl
     ·intro x w1 hb1 hx K hK
      have e60 : x 60 = .pointer (some ⟨S, 0, none⟩) := hx 60 (by rfl)
      clear hx hKc
      have k2 : w1.cell? ⟨S, 2, none⟩ = some (.int .u32 m7) := (H7.up hb1).cell 2
      simp only [frameOf, fill, sg, Nat.reduceBEq, if_true, if_false, Nat.reduceAdd, Nat.reduceEqDiff] at hK ⊢
      simp only [e60] at hK ⊢
      clear e60
      go_wp2_with (fail)
      exact hK _ _ (Below.refl _ _) rfl
     ·intro x w1 hb1 hx K hK
      have e61 : x 61 = .pointer (some ⟨S, 2, none⟩) := hx 61 (by rfl)
      clear hx hKc
      have k2 : w1.cell? ⟨S, 2, none⟩ = some (.int .u32 m7) := (H7.up hb1).cell 2
      simp only [frameOf, fill, sg, Nat.reduceBEq, if_true, if_false, Nat.reduceAdd, Nat.reduceEqDiff] at hK ⊢
      simp only [e61] at hK ⊢
      clear e61
      go_wp2_with (fail)
      exact hK _ _ (Below.refl _ _) rfl
     ·intro x w1 hb1 hx K hK
      clear hx hKc
      have k2 : w1.cell? ⟨S, 2, none⟩ = some (.int .u32 m7) := (H7.up hb1).cell 2
      simp only [frameOf, fill, sg, Nat.reduceBEq, if_true, if_false, Nat.reduceAdd, Nat.reduceEqDiff] at hK ⊢
      go_wp2_with (fail)
      exact hK _ _ (Below.refl _ _) rfl
     ·intro x w1 hb1 hx K hK
      have e63 : x 63 = .pointer (some ⟨S, 0, none⟩) := hx 63 (by rfl)
      clear hx hKc
      have k2 : w1.cell? ⟨S, 2, none⟩ = some (.int .u32 m7) := (H7.up hb1).cell 2
      simp only [frameOf, fill, sg, Nat.reduceBEq, if_true, if_false, Nat.reduceAdd, Nat.reduceEqDiff] at hK ⊢
      simp only [e63] at hK ⊢
      clear e63
      go_wp2_with (fail)
      exact hK _ _ (Below.refl _ _) rfl
     ·intro x w1 hb1 hx K hK
      have e64 : x 64 = .pointer (some ⟨S, 0, none⟩) := hx 64 (by rfl)
      clear hx hKc
      have k2 : w1.cell? ⟨S, 2, none⟩ = some (.int .u32 m7) := (H7.up hb1).cell 2
      simp only [frameOf, fill, sg, Nat.reduceBEq, if_true, if_false, Nat.reduceAdd, Nat.reduceEqDiff] at hK ⊢
      simp only [e64] at hK ⊢
      clear e64
      go_wp2_with (fail)
      exact hK _ _ (Below.refl _ _) rfl
     ·intro x w1 hb1 hx K hK
      have e65 : x 65 = .pointer (some ⟨S, 2, none⟩) := hx 65 (by rfl)
      clear hx hKc
      have k2 : w1.cell? ⟨S, 2, none⟩ = some (.int .u32 m7) := (H7.up hb1).cell 2
      simp only [frameOf, fill, sg, Nat.reduceBEq, if_true, if_false, Nat.reduceAdd, Nat.reduceEqDiff] at hK ⊢
      simp only [e65] at hK ⊢
      clear e65
      go_wp2_with (fail)
      exact hK _ _ (Below.refl _ _) rfl
     ·intro x w1 hb1 hx K hK
      have e66 : x 66 = .int .u32 m7 := hx 66 (by rfl)
      clear hx hKc
      have k2 : w1.cell? ⟨S, 2, none⟩ = some (.int .u32 m7) := (H7.up hb1).cell 2
      simp only [frameOf, fill, sg, Nat.reduceBEq, if_true, if_false, Nat.reduceAdd, Nat.reduceEqDiff] at hK ⊢
      simp only [e66] at hK ⊢
      clear e66
      go_wp2_with (fail)
      exact hK _ _ (Below.refl _ _) ⟨_, rfl⟩
     ·intro x w1 hb1 hx K hK
      have e62 : x 62 = .int .u32 m7 := hx 62 (by rfl)
      have e67 := hx 67 (by rfl)
      obtain ⟨x67, e67⟩ := e67
      clear hx hKc
      have k2 : w1.cell? ⟨S, 2, none⟩ = some (.int .u32 m7) := (H7.up hb1).cell 2
      simp only [frameOf, fill, sg, Nat.reduceBEq, if_true, if_false, Nat.reduceAdd, Nat.reduceEqDiff] at hK ⊢
      simp only [e62, e67] at hK ⊢
      clear e62 e67
      go_wp2_with (fail)
      exact hK _ _ (Below.refl _ _) ⟨_, rfl⟩
     ·intro x w1 hb1 hx K hK
      have e68 := hx 68 (by rfl)
      obtain ⟨x68, e68⟩ := e68
      clear hx hKc
      have k2 : w1.cell? ⟨S, 2, none⟩ = some (.int .u32 m7) := (H7.up hb1).cell 2
      simp only [frameOf, fill, sg, Nat.reduceBEq, if_true, if_false, Nat.reduceAdd, Nat.reduceEqDiff] at hK ⊢
      simp only [e68] at hK ⊢
      clear e68
      go_wp2_with (fail)
      exact hK _ _ (Below.refl _ _) ⟨_, rfl⟩
     ·intro x w1 hb1 hx K hK
      have e69 := hx 69 (by rfl)
      obtain ⟨x69, e69⟩ := e69
      clear hx hKc
      have k2 : w1.cell? ⟨S, 2, none⟩ = some (.int .u32 m7) := (H7.up hb1).cell 2
      simp only [frameOf, fill, sg, Nat.reduceBEq, if_true, if_false, Nat.reduceAdd, Nat.reduceEqDiff] at hK ⊢
      simp only [e69] at hK ⊢
      clear e69
      go_wp2_with (fail)
      exact hK _ _ (Below.refl _ _) ⟨_, rfl, (and_bound _).1, (and_bound _).2⟩
     ·intro x w1 hb1 hx K hK
      have e70 := hx 70 (by rfl)
      obtain ⟨x70, e70, f70_0, f70_1⟩ := e70
      clear hx hKc
      have k2 : w1.cell? ⟨S, 2, none⟩ = some (.int .u32 m7) := (H7.up hb1).cell 2
      simp only [frameOf, fill, sg, Nat.reduceBEq, if_true, if_false, Nat.reduceAdd, Nat.reduceEqDiff] at hK ⊢
      simp only [e70] at hK ⊢
      clear e70
      go_wp2_with (fail)
      exact hK _ _ (Below.refl _ _) ⟨_, rfl, by omega, by omega⟩
    ·intro x w1 hb1 hx
     have e59 : x 59 = .pointer (some ⟨S, 0, none⟩) := hx 59 (by decide)
     have e60 : x 60 = .pointer (some ⟨S, 0, none⟩) := hx 60 (by decide)
     have e61 : x 61 = .pointer (some ⟨S, 2, none⟩) := hx 61 (by decide)
     have e62 : x 62 = .int .u32 m7 := hx 62 (by decide)
     have e63 : x 63 = .pointer (some ⟨S, 0, none⟩) := hx 63 (by decide)
     have e64 : x 64 = .pointer (some ⟨S, 0, none⟩) := hx 64 (by decide)
     have e65 : x 65 = .pointer (some ⟨S, 2, none⟩) := hx 65 (by decide)
     have e66 : x 66 = .int .u32 m7 := hx 66 (by decide)
     have e67 := hx 67 (by decide)
     obtain ⟨x67, e67⟩ := e67
     have e68 := hx 68 (by decide)
     obtain ⟨x68, e68⟩ := e68
     have e69 := hx 69 (by decide)
     obtain ⟨x69, e69⟩ := e69
     have e70 := hx 70 (by decide)
     obtain ⟨x70, e70, f70_0, f70_1⟩ := e70
     have e71 := hx 71 (by decide)
     obtain ⟨x71, e71, f71_0, f71_1⟩ := e71
     clear hx
     have k2 : w1.cell? ⟨S, 2, none⟩ = some (.int .u32 m7) := (H7.up hb1).cell 2
     simp only [frameOf, fill, List.contains_cons, List.contains_nil, Nat.reduceBEq, Bool.or_false, Bool.false_or, Bool.or_true, Bool.true_or, if_true, if_false, Bool.false_eq_true, Nat.reduceAdd, Nat.zero_add]
     simp only [e59, e60, e61, e62, e63, e64, e65, e66, e67, e68, e69, e70, e71]
     clear e59 e60 e61 e62 e63 e64 e65 e66 e67 e68 e69 e70 e71
     go_wp2_with fail
     go_ret
     exact ⟨x71, m7, rfl, f71_0, f71_1, H7.up hb1, only_up g7 hb1⟩
  ·rename_i Kc hKc
   refine wp_region_parts (by kernel_rfl) 10 [40, 41, 42, 43, 44, 45, 46, 47, 48, 49] (fun t v w' => match t with
    | 40 => v = .pointer (some ⟨S, 0, none⟩)
    | 41 => v = .pointer (some ⟨S, 0, none⟩)
    | 42 => v = .pointer (some ⟨S, 1, none⟩)
    | 43 => v = .int .i64 ((tk : Int) + 1)
    | 44 => v = .pointer (some ⟨S, 0, none⟩)
    | 45 => v = .pointer (some ⟨S, 0, none⟩)
    | 46 => v = .pointer (some ⟨S, 0, none⟩)
    | 47 => v = .slice (some ⟨B, o, none⟩) n c
    | 48 => v = .int .i64 (n : Int)
    | 49 => v = .bool false
    | _ => True) (by kernel_rfl) ?_ ?_ ?_
   ·intro t v w1 w2 hb' h
    revert h
    split <;> intro h <;> first
     | exact h
   ·refine ⟨?_, ?_, ?_, ?_, ?_, ?_, ?_, ?_, ?_, ?_, trivial⟩
    ·intro x w1 hb1 hx K hK
     clear hx hKc
     have k0 : w1.cell? ⟨S, 0, none⟩ = some (.slice (some ⟨B, o, none⟩) n c) := (H5.up hb1).cell 0
     have k1 : w1.cell? ⟨S, 1, none⟩ = some (.int .i64 ((tk : Int) + 1)) := (H5.up hb1).cell 1
     simp only [frameOf, fill, sg, Nat.reduceBEq, if_true, if_false, Nat.reduceAdd, Nat.reduceEqDiff] at hK ⊢
     go_wp2_with (fail)
     exact hK _ _ (Below.refl _ _) rfl
    ·intro x w1 hb1 hx K hK
     have e40 : x 40 = .pointer (some ⟨S, 0, none⟩) := hx 40 (by rfl)
     clear hx hKc
     have k0 : w1.cell? ⟨S, 0, none⟩ = some (.slice (some ⟨B, o, none⟩) n c) := (H5.up hb1).cell 0
     have k1 : w1.cell? ⟨S, 1, none⟩ = some (.int .i64 ((tk : Int) + 1)) := (H5.up hb1).cell 1
     simp only [frameOf, fill, sg, Nat.reduceBEq, if_true, if_false, Nat.reduceAdd, Nat.reduceEqDiff] at hK ⊢
     simp only [e40] at hK ⊢
     clear e40
     go_wp2_with (fail)
     exact hK _ _ (Below.refl _ _) rfl
    ·intro x w1 hb1 hx K hK
     have e41 : x 41 = .pointer (some ⟨S, 0, none⟩) := hx 41 (by rfl)
     clear hx hKc
     have k0 : w1.cell? ⟨S, 0, none⟩ = some (.slice (some ⟨B, o, none⟩) n c) := (H5.up hb1).cell 0
     have k1 : w1.cell? ⟨S, 1, none⟩ = some (.int .i64 ((tk : Int) + 1)) := (H5.up hb1).cell 1
     simp only [frameOf, fill, sg, Nat.reduceBEq, if_true, if_false, Nat.reduceAdd, Nat.reduceEqDiff] at hK ⊢
     simp only [e41] at hK ⊢
     clear e41
     go_wp2_with (fail)
     exact hK _ _ (Below.refl _ _) rfl
    ·intro x w1 hb1 hx K hK
     have e42 : x 42 = .pointer (some ⟨S, 1, none⟩) := hx 42 (by rfl)
     clear hx hKc
     have k0 : w1.cell? ⟨S, 0, none⟩ = some (.slice (some ⟨B, o, none⟩) n c) := (H5.up hb1).cell 0
     have k1 : w1.cell? ⟨S, 1, none⟩ = some (.int .i64 ((tk : Int) + 1)) := (H5.up hb1).cell 1
     simp only [frameOf, fill, sg, Nat.reduceBEq, if_true, if_false, Nat.reduceAdd, Nat.reduceEqDiff] at hK ⊢
     simp only [e42] at hK ⊢
     clear e42
     go_wp2_with (fail)
     exact hK _ _ (Below.refl _ _) rfl
    ·intro x w1 hb1 hx K hK
     clear hx hKc
     have k0 : w1.cell? ⟨S, 0, none⟩ = some (.slice (some ⟨B, o, none⟩) n c) := (H5.up hb1).cell 0
     have k1 : w1.cell? ⟨S, 1, none⟩ = some (.int .i64 ((tk : Int) + 1)) := (H5.up hb1).cell 1
     simp only [frameOf, fill, sg, Nat.reduceBEq, if_true, if_false, Nat.reduceAdd, Nat.reduceEqDiff] at hK ⊢
     go_wp2_with (fail)
     exact hK _ _ (Below.refl _ _) rfl
    ·intro x w1 hb1 hx K hK
     have e44 : x 44 = .pointer (some ⟨S, 0, none⟩) := hx 44 (by rfl)
     clear hx hKc
     have k0 : w1.cell? ⟨S, 0, none⟩ = some (.slice (some ⟨B, o, none⟩) n c) := (H5.up hb1).cell 0
     have k1 : w1.cell? ⟨S, 1, none⟩ = some (.int .i64 ((tk : Int) + 1)) := (H5.up hb1).cell 1
     simp only [frameOf, fill, sg, Nat.reduceBEq, if_true, if_false, Nat.reduceAdd, Nat.reduceEqDiff] at hK ⊢
     simp only [e44] at hK ⊢
     clear e44
     go_wp2_with (fail)
     exact hK _ _ (Below.refl _ _) rfl
    ·intro x w1 hb1 hx K hK
     have e45 : x 45 = .pointer (some ⟨S, 0, none⟩) := hx 45 (by rfl)
     clear hx hKc
     have k0 : w1.cell? ⟨S, 0, none⟩ = some (.slice (some ⟨B, o, none⟩) n c) := (H5.up hb1).cell 0
     have k1 : w1.cell? ⟨S, 1, none⟩ = some (.int .i64 ((tk : Int) + 1)) := (H5.up hb1).cell 1
     simp only [frameOf, fill, sg, Nat.reduceBEq, if_true, if_false, Nat.reduceAdd, Nat.reduceEqDiff] at hK ⊢
     simp only [e45] at hK ⊢
     clear e45
     go_wp2_with (fail)
     exact hK _ _ (Below.refl _ _) rfl
    ·intro x w1 hb1 hx K hK
     have e46 : x 46 = .pointer (some ⟨S, 0, none⟩) := hx 46 (by rfl)
     clear hx hKc
     have k0 : w1.cell? ⟨S, 0, none⟩ = some (.slice (some ⟨B, o, none⟩) n c) := (H5.up hb1).cell 0
     have k1 : w1.cell? ⟨S, 1, none⟩ = some (.int .i64 ((tk : Int) + 1)) := (H5.up hb1).cell 1
     simp only [frameOf, fill, sg, Nat.reduceBEq, if_true, if_false, Nat.reduceAdd, Nat.reduceEqDiff] at hK ⊢
     simp only [e46] at hK ⊢
     clear e46
     go_wp2_with (fail)
     exact hK _ _ (Below.refl _ _) rfl
    ·intro x w1 hb1 hx K hK
     have e47 : x 47 = .slice (some ⟨B, o, none⟩) n c := hx 47 (by rfl)
     clear hx hKc
     have k0 : w1.cell? ⟨S, 0, none⟩ = some (.slice (some ⟨B, o, none⟩) n c) := (H5.up hb1).cell 0
     have k1 : w1.cell? ⟨S, 1, none⟩ = some (.int .i64 ((tk : Int) + 1)) := (H5.up hb1).cell 1
     simp only [frameOf, fill, sg, Nat.reduceBEq, if_true, if_false, Nat.reduceAdd, Nat.reduceEqDiff] at hK ⊢
     simp only [e47] at hK ⊢
     clear e47
     go_wp2_with (fail)
     exact hK _ _ (Below.refl _ _) rfl
    ·intro x w1 hb1 hx K hK
     have e43 : x 43 = .int .i64 ((tk : Int) + 1) := hx 43 (by rfl)
     have e48 : x 48 = .int .i64 (n : Int) := hx 48 (by rfl)
     clear hx hKc
     have k0 : w1.cell? ⟨S, 0, none⟩ = some (.slice (some ⟨B, o, none⟩) n c) := (H5.up hb1).cell 0
     have k1 : w1.cell? ⟨S, 1, none⟩ = some (.int .i64 ((tk : Int) + 1)) := (H5.up hb1).cell 1
     simp only [frameOf, fill, sg, Nat.reduceBEq, if_true, if_false, Nat.reduceAdd, Nat.reduceEqDiff] at hK ⊢
     simp only [e43, e48] at hK ⊢
     clear e43 e48
     go_wp2_with (fail)
     first | exact hK _ _ (Below.refl _ _) rfl | exact hK _ _ (Below.refl _ _) (by simp; omega)
   ·intro x w1 hb1 hx
    have e40 : x 40 = .pointer (some ⟨S, 0, none⟩) := hx 40 (by decide)
    have e41 : x 41 = .pointer (some ⟨S, 0, none⟩) := hx 41 (by decide)
    have e42 : x 42 = .pointer (some ⟨S, 1, none⟩) := hx 42 (by decide)
    have e43 : x 43 = .int .i64 ((tk : Int) + 1) := hx 43 (by decide)
    have e44 : x 44 = .pointer (some ⟨S, 0, none⟩) := hx 44 (by decide)
    have e45 : x 45 = .pointer (some ⟨S, 0, none⟩) := hx 45 (by decide)
    have e46 : x 46 = .pointer (some ⟨S, 0, none⟩) := hx 46 (by decide)
    have e47 : x 47 = .slice (some ⟨B, o, none⟩) n c := hx 47 (by decide)
    have e48 : x 48 = .int .i64 (n : Int) := hx 48 (by decide)
    have e49 : x 49 = .bool false := hx 49 (by decide)
    clear hx
    have k0 : w1.cell? ⟨S, 0, none⟩ = some (.slice (some ⟨B, o, none⟩) n c) := (H5.up hb1).cell 0
    have k1 : w1.cell? ⟨S, 1, none⟩ = some (.int .i64 ((tk : Int) + 1)) := (H5.up hb1).cell 1
    simp only [frameOf, fill, List.contains_cons, List.contains_nil, Nat.reduceBEq, Bool.or_false, Bool.false_or, Bool.or_true, Bool.true_or, if_true, if_false, Bool.false_eq_true, Nat.reduceAdd, Nat.zero_add]
    simp only [e40, e41, e42, e43, e44, e45, e46, e47, e48, e49]
    clear e40 e41 e42 e43 e44 e45 e46 e47 e48 e49
    refine hKc _ _ ?_
    go_wp2_with fail
    refine wp_world (fun W => w.grownBy W (some S) ∧ ∃ m7 : Int, Holds W S 53 #[.slice (some ⟨B, o, none⟩) n c, .int .i64 ((tk : Int) + 1), .int .u32 m7]) ⟨only_up g5 hb1, _, H5.up hb1⟩ ?_
    rintro W7 ⟨g7, m7, H7⟩
    rename_i Kc hKc
    refine wp_region_parts (by kernel_rfl) 13 [59, 60, 61, 62, 63, 64, 65, 66, 67, 68, 69, 70, 71] (fun t v w' => match t with
     | 59 => v = .pointer (some ⟨S, 0, none⟩)
     | 60 => v = .pointer (some ⟨S, 0, none⟩)
     | 61 => v = .pointer (some ⟨S, 2, none⟩)
     | 62 => v = .int .u32 m7
     | 63 => v = .pointer (some ⟨S, 0, none⟩)
     | 64 => v = .pointer (some ⟨S, 0, none⟩)
     | 65 => v = .pointer (some ⟨S, 2, none⟩)
     | 66 => v = .int .u32 m7
     | 67 => ∃ x, v = .int .u32 x
     | 68 => ∃ x, v = .int .u32 x
     | 69 => ∃ x, v = .int .u32 x
     | 70 => ∃ x, v = .int .u32 x ∧ 0 ≤ x ∧ x ≤ 65535
     | 71 => ∃ x, v = .int .i64 x ∧ 0 ≤ x ∧ x ≤ 65535
     | _ => True) (by kernel_rfl) ?_ ?_ ?_
    ·intro t v w1 w2 hb' h
     revert h
     split <;> intro h <;> first
      | exact h
      | (obtain ⟨b0, rfl⟩ := h; exact ⟨b0, rfl⟩)
      | (obtain ⟨b0, rfl, h0, h1⟩ := h; exact ⟨b0, rfl, h0, h1⟩)
    ·refine ⟨?_, ?_, ?_, ?_, ?_, ?_, ?_, ?_, ?_, ?_, ?_, ?_, ?_, trivial⟩
     ·intro x w1 hb1 hx K hK
      clear hx hKc
      have k2 : w1.cell? ⟨S, 2, none⟩ = some (.int .u32 m7) := (H7.up hb1).cell 2
      simp only [frameOf, fill, sg, Nat.reduceBEq, if_true, if_false, Nat.reduceAdd, Nat.reduceEqDiff] at hK ⊢
      go_wp2_with (fail)
      exact hK _ _ (Below.refl _ _) rfl
     ·intro x w1 hb1 hx K hK
      have e59 : x 59 = .pointer (some ⟨S, 0, none⟩) := hx 59 (by rfl)
      clear hx hKc
      have k2 : w1.cell? ⟨S, 2, none⟩ = some (.int .u32 m7) := (H7.up hb1).cell 2
      simp only [frameOf, fill, sg, Nat.reduceBEq, if_true, if_false, Nat.reduceAdd, Nat.reduceEqDiff] at hK ⊢
      simp only [e59] at hK ⊢
      clear e59
      go_wp2_with (fail)
      exact hK _ _ (Below.refl _ _) rfl
     ·intro x w1 hb1 hx K hK
      have e60 : x 60 = .pointer (some ⟨S, 0, none⟩) := hx 60 (by rfl)
      clear hx hKc
      have k2 : w1.cell? ⟨S, 2, none⟩ = some (.int .u32 m7) := (H7.up hb1).cell 2
      simp only [frameOf, fill, sg, Nat.reduceBEq, if_true, if_false, Nat.reduceAdd, Nat.reduceEqDiff] at hK ⊢
      simp only [e60] at hK ⊢
      clear e60
      go_wp2_with (fail)
      exact hK _ _ (Below.refl _ _) rfl
     ·intro x w1 hb1 hx K hK
      have e61 : x 61 = .pointer (some ⟨S, 2, none⟩) := hx 61 (by rfl)
      clear hx hKc
      have k2 : w1.cell? ⟨S, 2, none⟩ = some (.int .u32 m7) := (H7.up hb1).cell 2
      simp only [frameOf, fill, sg, Nat.reduceBEq, if_true, if_false, Nat.reduceAdd, Nat.reduceEqDiff] at hK ⊢
      simp only [e61] at hK ⊢
      clear e61
      go_wp2_with (fail)
      exact hK _ _ (Below.refl _ _) rfl
     ·intro x w1 hb1 hx K hK
      clear hx hKc
      have k2 : w1.cell? ⟨S, 2, none⟩ = some (.int .u32 m7) := (H7.up hb1).cell 2
      simp only [frameOf, fill, sg, Nat.reduceBEq, if_true, if_false, Nat.reduceAdd, Nat.reduceEqDiff] at hK ⊢
      go_wp2_with (fail)
      exact hK _ _ (Below.refl _ _) rfl
     ·intro x w1 hb1 hx K hK
      have e63 : x 63 = .pointer (some ⟨S, 0, none⟩) := hx 63 (by rfl)
      clear hx hKc
      have k2 : w1.cell? ⟨S, 2, none⟩ = some (.int .u32 m7) := (H7.up hb1).cell 2
      simp only [frameOf, fill, sg, Nat.reduceBEq, if_true, if_false, Nat.reduceAdd, Nat.reduceEqDiff] at hK ⊢
      simp only [e63] at hK ⊢
      clear e63
      go_wp2_with (fail)
      exact hK _ _ (Below.refl _ _) rfl
     ·intro x w1 hb1 hx K hK
      have e64 : x 64 = .pointer (some ⟨S, 0, none⟩) := hx 64 (by rfl)
      clear hx hKc
      have k2 : w1.cell? ⟨S, 2, none⟩ = some (.int .u32 m7) := (H7.up hb1).cell 2
      simp only [frameOf, fill, sg, Nat.reduceBEq, if_true, if_false, Nat.reduceAdd, Nat.reduceEqDiff] at hK ⊢
      simp only [e64] at hK ⊢
      clear e64
      go_wp2_with (fail)
      exact hK _ _ (Below.refl _ _) rfl
     ·intro x w1 hb1 hx K hK
      have e65 : x 65 = .pointer (some ⟨S, 2, none⟩) := hx 65 (by rfl)
      clear hx hKc
      have k2 : w1.cell? ⟨S, 2, none⟩ = some (.int .u32 m7) := (H7.up hb1).cell 2
      simp only [frameOf, fill, sg, Nat.reduceBEq, if_true, if_false, Nat.reduceAdd, Nat.reduceEqDiff] at hK ⊢
      simp only [e65] at hK ⊢
      clear e65
      go_wp2_with (fail)
      exact hK _ _ (Below.refl _ _) rfl
     ·intro x w1 hb1 hx K hK
      have e66 : x 66 = .int .u32 m7 := hx 66 (by rfl)
      clear hx hKc
      have k2 : w1.cell? ⟨S, 2, none⟩ = some (.int .u32 m7) := (H7.up hb1).cell 2
      simp only [frameOf, fill, sg, Nat.reduceBEq, if_true, if_false, Nat.reduceAdd, Nat.reduceEqDiff] at hK ⊢
      simp only [e66] at hK ⊢
      clear e66
      go_wp2_with (fail)
      exact hK _ _ (Below.refl _ _) ⟨_, rfl⟩
     ·intro x w1 hb1 hx K hK
      have e62 : x 62 = .int .u32 m7 := hx 62 (by rfl)
      have e67 := hx 67 (by rfl)
      obtain ⟨x67, e67⟩ := e67
      clear hx hKc
      have k2 : w1.cell? ⟨S, 2, none⟩ = some (.int .u32 m7) := (H7.up hb1).cell 2
      simp only [frameOf, fill, sg, Nat.reduceBEq, if_true, if_false, Nat.reduceAdd, Nat.reduceEqDiff] at hK ⊢
      simp only [e62, e67] at hK ⊢
      clear e62 e67
      go_wp2_with (fail)
      exact hK _ _ (Below.refl _ _) ⟨_, rfl⟩
     ·intro x w1 hb1 hx K hK
      have e68 := hx 68 (by rfl)
      obtain ⟨x68, e68⟩ := e68
      clear hx hKc
      have k2 : w1.cell? ⟨S, 2, none⟩ = some (.int .u32 m7) := (H7.up hb1).cell 2
      simp only [frameOf, fill, sg, Nat.reduceBEq, if_true, if_false, Nat.reduceAdd, Nat.reduceEqDiff] at hK ⊢
      simp only [e68] at hK ⊢
      clear e68
      go_wp2_with (fail)
      exact hK _ _ (Below.refl _ _) ⟨_, rfl⟩
     ·intro x w1 hb1 hx K hK
      have e69 := hx 69 (by rfl)
      obtain ⟨x69, e69⟩ := e69
      clear hx hKc
      have k2 : w1.cell? ⟨S, 2, none⟩ = some (.int .u32 m7) := (H7.up hb1).cell 2
      simp only [frameOf, fill, sg, Nat.reduceBEq, if_true, if_false, Nat.reduceAdd, Nat.reduceEqDiff] at hK ⊢
      simp only [e69] at hK ⊢
      clear e69
      go_wp2_with (fail)
      exact hK _ _ (Below.refl _ _) ⟨_, rfl, (and_bound _).1, (and_bound _).2⟩
     ·intro x w1 hb1 hx K hK
      have e70 := hx 70 (by rfl)
      obtain ⟨x70, e70, f70_0, f70_1⟩ := e70
      clear hx hKc
      have k2 : w1.cell? ⟨S, 2, none⟩ = some (.int .u32 m7) := (H7.up hb1).cell 2
      simp only [frameOf, fill, sg, Nat.reduceBEq, if_true, if_false, Nat.reduceAdd, Nat.reduceEqDiff] at hK ⊢
      simp only [e70] at hK ⊢
      clear e70
      go_wp2_with (fail)
      exact hK _ _ (Below.refl _ _) ⟨_, rfl, by omega, by omega⟩
    ·intro x w1 hb1 hx
     have e59 : x 59 = .pointer (some ⟨S, 0, none⟩) := hx 59 (by decide)
     have e60 : x 60 = .pointer (some ⟨S, 0, none⟩) := hx 60 (by decide)
     have e61 : x 61 = .pointer (some ⟨S, 2, none⟩) := hx 61 (by decide)
     have e62 : x 62 = .int .u32 m7 := hx 62 (by decide)
     have e63 : x 63 = .pointer (some ⟨S, 0, none⟩) := hx 63 (by decide)
     have e64 : x 64 = .pointer (some ⟨S, 0, none⟩) := hx 64 (by decide)
     have e65 : x 65 = .pointer (some ⟨S, 2, none⟩) := hx 65 (by decide)
     have e66 : x 66 = .int .u32 m7 := hx 66 (by decide)
     have e67 := hx 67 (by decide)
     obtain ⟨x67, e67⟩ := e67
     have e68 := hx 68 (by decide)
     obtain ⟨x68, e68⟩ := e68
     have e69 := hx 69 (by decide)
     obtain ⟨x69, e69⟩ := e69
     have e70 := hx 70 (by decide)
     obtain ⟨x70, e70, f70_0, f70_1⟩ := e70
     have e71 := hx 71 (by decide)
     obtain ⟨x71, e71, f71_0, f71_1⟩ := e71
     clear hx
     have k2 : w1.cell? ⟨S, 2, none⟩ = some (.int .u32 m7) := (H7.up hb1).cell 2
     simp only [frameOf, fill, List.contains_cons, List.contains_nil, Nat.reduceBEq, Bool.or_false, Bool.false_or, Bool.or_true, Bool.true_or, if_true, if_false, Bool.false_eq_true, Nat.reduceAdd, Nat.zero_add]
     simp only [e59, e60, e61, e62, e63, e64, e65, e66, e67, e68, e69, e70, e71]
     clear e59 e60 e61 e62 e63 e64 e65 e66 e67 e68 e69 e70 e71
     go_wp2_with fail
     go_ret
     exact ⟨x71, m7, rfl, f71_0, f71_1, H7.up hb1, only_up g7 hb1⟩
set_option maxRecDepth 100000 in
set_option maxHeartbeats 1000000 in
theorem handful_zero_none (S : Nat) (c tk : Nat) (m : Int) (w : World) (hS : Holds w S 53 #[.slice none 0 c, .int .i64 (tk : Int), .int .u32 m]) (ht : tk ≤ 1000000) :
  Calls Tryz.prog 19 #[.pointer (some ⟨S, 0, none⟩)] w (Drawn w S none 0 c tk) := by
 obtain ⟨c0, c1⟩ := hS.c2
 have z1 := hS.frozen 1
 go_enter Tryz.func19, Tryz.ntmps19
 go_wp2_with fail
 refine wp_world (fun W => w.grownBy W (some S) ∧ Holds W S 53 #[.slice none 0 c, .int .i64 ((tk : Int) + 1), .int .u32 m]) ⟨only_set (only_below S (Below.refl _ _)) 1 _, hS.setL 1 _⟩ ?_
 rintro W5 ⟨g5, H5⟩
 by_cases hlt : (0 : Int) < (tk : Int) + 1
 ·rename_i Kc hKc
  refine wp_region_parts (by kernel_rfl) 10 [40, 41, 42, 43, 44, 45, 46, 47, 48, 49] (fun t v w' => match t with
   | 40 => v = .pointer (some ⟨S, 0, none⟩)
   | 41 => v = .pointer (some ⟨S, 0, none⟩)
   | 42 => v = .pointer (some ⟨S, 1, none⟩)
   | 43 => v = .int .i64 ((tk : Int) + 1)
   | 44 => v = .pointer (some ⟨S, 0, none⟩)
   | 45 => v = .pointer (some ⟨S, 0, none⟩)
   | 46 => v = .pointer (some ⟨S, 0, none⟩)
   | 47 => v = .slice none 0 c
   | 48 => v = .int .i64 (0 : Int)
   | 49 => v = .bool true
   | _ => True) (by kernel_rfl) ?_ ?_ ?_
  ·intro t v w1 w2 hb' h
   revert h
   split <;> intro h <;> first
    | exact h
  ·refine ⟨?_, ?_, ?_, ?_, ?_, ?_, ?_, ?_, ?_, ?_, trivial⟩
   ·intro x w1 hb1 hx K hK
    clear hx hKc
    have k0 : w1.cell? ⟨S, 0, none⟩ = some (.slice none 0 c) := (H5.up hb1).cell 0
    have k1 : w1.cell? ⟨S, 1, none⟩ = some (.int .i64 ((tk : Int) + 1)) := (H5.up hb1).cell 1
    simp only [frameOf, fill, sg, Nat.reduceBEq, if_true, if_false, Nat.reduceAdd, Nat.reduceEqDiff] at hK ⊢
    go_wp2_with (fail)
    exact hK _ _ (Below.refl _ _) rfl
   ·intro x w1 hb1 hx K hK
    have e40 : x 40 = .pointer (some ⟨S, 0, none⟩) := hx 40 (by rfl)
    clear hx hKc
    have k0 : w1.cell? ⟨S, 0, none⟩ = some (.slice none 0 c) := (H5.up hb1).cell 0
    have k1 : w1.cell? ⟨S, 1, none⟩ = some (.int .i64 ((tk : Int) + 1)) := (H5.up hb1).cell 1
    simp only [frameOf, fill, sg, Nat.reduceBEq, if_true, if_false, Nat.reduceAdd, Nat.reduceEqDiff] at hK ⊢
    simp only [e40] at hK ⊢
    clear e40
    go_wp2_with (fail)
    exact hK _ _ (Below.refl _ _) rfl
   ·intro x w1 hb1 hx K hK
    have e41 : x 41 = .pointer (some ⟨S, 0, none⟩) := hx 41 (by rfl)
    clear hx hKc
    have k0 : w1.cell? ⟨S, 0, none⟩ = some (.slice none 0 c) := (H5.up hb1).cell 0
    have k1 : w1.cell? ⟨S, 1, none⟩ = some (.int .i64 ((tk : Int) + 1)) := (H5.up hb1).cell 1
    simp only [frameOf, fill, sg, Nat.reduceBEq, if_true, if_false, Nat.reduceAdd, Nat.reduceEqDiff] at hK ⊢
    simp only [e41] at hK ⊢
    clear e41
    go_wp2_with (fail)
    exact hK _ _ (Below.refl _ _) rfl
   ·intro x w1 hb1 hx K hK
    have e42 : x 42 = .pointer (some ⟨S, 1, none⟩) := hx 42 (by rfl)
    clear hx hKc
    have k0 : w1.cell? ⟨S, 0, none⟩ = some (.slice none 0 c) := (H5.up hb1).cell 0
    have k1 : w1.cell? ⟨S, 1, none⟩ = some (.int .i64 ((tk : Int) + 1)) := (H5.up hb1).cell 1
    simp only [frameOf, fill, sg, Nat.reduceBEq, if_true, if_false, Nat.reduceAdd, Nat.reduceEqDiff] at hK ⊢
    simp only [e42] at hK ⊢
    clear e42
    go_wp2_with (fail)
    exact hK _ _ (Below.refl _ _) rfl
   ·intro x w1 hb1 hx K hK
    clear hx hKc
    have k0 : w1.cell? ⟨S, 0, none⟩ = some (.slice none 0 c) := (H5.up hb1).cell 0
    have k1 : w1.cell? ⟨S, 1, none⟩ = some (.int .i64 ((tk : Int) + 1)) := (H5.up hb1).cell 1
    simp only [frameOf, fill, sg, Nat.reduceBEq, if_true, if_false, Nat.reduceAdd, Nat.reduceEqDiff] at hK ⊢
    go_wp2_with (fail)
    exact hK _ _ (Below.refl _ _) rfl
   ·intro x w1 hb1 hx K hK
    have e44 : x 44 = .pointer (some ⟨S, 0, none⟩) := hx 44 (by rfl)
    clear hx hKc
    have k0 : w1.cell? ⟨S, 0, none⟩ = some (.slice none 0 c) := (H5.up hb1).cell 0
    have k1 : w1.cell? ⟨S, 1, none⟩ = some (.int .i64 ((tk : Int) + 1)) := (H5.up hb1).cell 1
    simp only [frameOf, fill, sg, Nat.reduceBEq, if_true, if_false, Nat.reduceAdd, Nat.reduceEqDiff] at hK ⊢
    simp only [e44] at hK ⊢
    clear e44
    go_wp2_with (fail)
    exact hK _ _ (Below.refl _ _) rfl
   ·intro x w1 hb1 hx K hK
    have e45 : x 45 = .pointer (some ⟨S, 0, none⟩) := hx 45 (by rfl)
    clear hx hKc
    have k0 : w1.cell? ⟨S, 0, none⟩ = some (.slice none 0 c) := (H5.up hb1).cell 0
    have k1 : w1.cell? ⟨S, 1, none⟩ = some (.int .i64 ((tk : Int) + 1)) := (H5.up hb1).cell 1
    simp only [frameOf, fill, sg, Nat.reduceBEq, if_true, if_false, Nat.reduceAdd, Nat.reduceEqDiff] at hK ⊢
    simp only [e45] at hK ⊢
    clear e45
    go_wp2_with (fail)
    exact hK _ _ (Below.refl _ _) rfl
   ·intro x w1 hb1 hx K hK
    have e46 : x 46 = .pointer (some ⟨S, 0, none⟩) := hx 46 (by rfl)
    clear hx hKc
    have k0 : w1.cell? ⟨S, 0, none⟩ = some (.slice none 0 c) := (H5.up hb1).cell 0
    have k1 : w1.cell? ⟨S, 1, none⟩ = some (.int .i64 ((tk : Int) + 1)) := (H5.up hb1).cell 1
    simp only [frameOf, fill, sg, Nat.reduceBEq, if_true, if_false, Nat.reduceAdd, Nat.reduceEqDiff] at hK ⊢
    simp only [e46] at hK ⊢
    clear e46
    go_wp2_with (fail)
    exact hK _ _ (Below.refl _ _) rfl
   ·intro x w1 hb1 hx K hK
    have e47 : x 47 = .slice none 0 c := hx 47 (by rfl)
    clear hx hKc
    have k0 : w1.cell? ⟨S, 0, none⟩ = some (.slice none 0 c) := (H5.up hb1).cell 0
    have k1 : w1.cell? ⟨S, 1, none⟩ = some (.int .i64 ((tk : Int) + 1)) := (H5.up hb1).cell 1
    simp only [frameOf, fill, sg, Nat.reduceBEq, if_true, if_false, Nat.reduceAdd, Nat.reduceEqDiff] at hK ⊢
    simp only [e47] at hK ⊢
    clear e47
    go_wp2_with (fail)
    exact hK _ _ (Below.refl _ _) rfl
   ·intro x w1 hb1 hx K hK
    have e43 : x 43 = .int .i64 ((tk : Int) + 1) := hx 43 (by rfl)
    have e48 : x 48 = .int .i64 (0 : Int) := hx 48 (by rfl)
    clear hx hKc
    have k0 : w1.cell? ⟨S, 0, none⟩ = some (.slice none 0 c) := (H5.up hb1).cell 0
    have k1 : w1.cell? ⟨S, 1, none⟩ = some (.int .i64 ((tk : Int) + 1)) := (H5.up hb1).cell 1
    simp only [frameOf, fill, sg, Nat.reduceBEq, if_true, if_false, Nat.reduceAdd, Nat.reduceEqDiff] at hK ⊢
    simp only [e43, e48] at hK ⊢
    clear e43 e48
    go_wp2_with (fail)
    first | exact hK _ _ (Below.refl _ _) rfl | exact hK _ _ (Below.refl _ _) (by simp; omega)
  ·intro x w1 hb1 hx
   have e40 : x 40 = .pointer (some ⟨S, 0, none⟩) := hx 40 (by decide)
   have e41 : x 41 = .pointer (some ⟨S, 0, none⟩) := hx 41 (by decide)
   have e42 : x 42 = .pointer (some ⟨S, 1, none⟩) := hx 42 (by decide)
   have e43 : x 43 = .int .i64 ((tk : Int) + 1) := hx 43 (by decide)
   have e44 : x 44 = .pointer (some ⟨S, 0, none⟩) := hx 44 (by decide)
   have e45 : x 45 = .pointer (some ⟨S, 0, none⟩) := hx 45 (by decide)
   have e46 : x 46 = .pointer (some ⟨S, 0, none⟩) := hx 46 (by decide)
   have e47 : x 47 = .slice none 0 c := hx 47 (by decide)
   have e48 : x 48 = .int .i64 (0 : Int) := hx 48 (by decide)
   have e49 : x 49 = .bool true := hx 49 (by decide)
   clear hx
   have k0 : w1.cell? ⟨S, 0, none⟩ = some (.slice none 0 c) := (H5.up hb1).cell 0
   have k1 : w1.cell? ⟨S, 1, none⟩ = some (.int .i64 ((tk : Int) + 1)) := (H5.up hb1).cell 1
   simp only [frameOf, fill, List.contains_cons, List.contains_nil, Nat.reduceBEq, Bool.or_false, Bool.false_or, Bool.or_true, Bool.true_or, if_true, if_false, Bool.false_eq_true, Nat.reduceAdd, Nat.zero_add]
   simp only [e40, e41, e42, e43, e44, e45, e46, e47, e48, e49]
   clear e40 e41 e42 e43 e44 e45 e46 e47 e48 e49
   have q2 : w1.cell? ⟨S, 2, none⟩ = some (.int .u32 m) := (H5.up hb1).cell 2
   have q3 : w1.frozen? ⟨S, 2, none⟩ = false := (H5.up hb1).frozen 2
   refine hKc _ _ ?_
   go_wp2_with fail
   refine wp_world (fun W => w.grownBy W (some S) ∧ ∃ m7 : Int, Holds W S 53 #[.slice none 0 c, .int .i64 ((tk : Int) + 1), .int .u32 m7]) ⟨only_set (only_up g5 hb1) 2 _, _, (H5.up hb1).setL 2 _⟩ ?_
   rintro W7 ⟨g7, m7, H7⟩
   rename_i Kc hKc
   refine wp_region_parts (by kernel_rfl) 13 [59, 60, 61, 62, 63, 64, 65, 66, 67, 68, 69, 70, 71] (fun t v w' => match t with
    | 59 => v = .pointer (some ⟨S, 0, none⟩)
    | 60 => v = .pointer (some ⟨S, 0, none⟩)
    | 61 => v = .pointer (some ⟨S, 2, none⟩)
    | 62 => v = .int .u32 m7
    | 63 => v = .pointer (some ⟨S, 0, none⟩)
    | 64 => v = .pointer (some ⟨S, 0, none⟩)
    | 65 => v = .pointer (some ⟨S, 2, none⟩)
    | 66 => v = .int .u32 m7
    | 67 => ∃ x, v = .int .u32 x
    | 68 => ∃ x, v = .int .u32 x
    | 69 => ∃ x, v = .int .u32 x
    | 70 => ∃ x, v = .int .u32 x ∧ 0 ≤ x ∧ x ≤ 65535
    | 71 => ∃ x, v = .int .i64 x ∧ 0 ≤ x ∧ x ≤ 65535
    | _ => True) (by kernel_rfl) ?_ ?_ ?_
   ·intro t v w1 w2 hb' h
    revert h
    split <;> intro h <;> first
     | exact h
     | (obtain ⟨b0, rfl⟩ := h; exact ⟨b0, rfl⟩)
     | (obtain ⟨b0, rfl, h0, h1⟩ := h; exact ⟨b0, rfl, h0, h1⟩)
   ·refine ⟨?_, ?_, ?_, ?_, ?_, ?_, ?_, ?_, ?_, ?_, ?_, ?_, ?_, trivial⟩
    ·intro x w1 hb1 hx K hK
     clear hx hKc
     have k2 : w1.cell? ⟨S, 2, none⟩ = some (.int .u32 m7) := (H7.up hb1).cell 2
     simp only [frameOf, fill, sg, Nat.reduceBEq, if_true, if_false, Nat.reduceAdd, Nat.reduceEqDiff] at hK ⊢
     go_wp2_with (fail)
     exact hK _ _ (Below.refl _ _) rfl
    ·intro x w1 hb1 hx K hK
     have e59 : x 59 = .pointer (some ⟨S, 0, none⟩) := hx 59 (by rfl)
     clear hx hKc
     have k2 : w1.cell? ⟨S, 2, none⟩ = some (.int .u32 m7) := (H7.up hb1).cell 2
     simp only [frameOf, fill, sg, Nat.reduceBEq, if_true, if_false, Nat.reduceAdd, Nat.reduceEqDiff] at hK ⊢
     simp only [e59] at hK ⊢
     clear e59
     go_wp2_with (fail)
     exact hK _ _ (Below.refl _ _) rfl
    ·intro x w1 hb1 hx K hK
     have e60 : x 60 = .pointer (some ⟨S, 0, none⟩) := hx 60 (by rfl)
     clear hx hKc
     have k2 : w1.cell? ⟨S, 2, none⟩ = some (.int .u32 m7) := (H7.up hb1).cell 2
     simp only [frameOf, fill, sg, Nat.reduceBEq, if_true, if_false, Nat.reduceAdd, Nat.reduceEqDiff] at hK ⊢
     simp only [e60] at hK ⊢
     clear e60
     go_wp2_with (fail)
     exact hK _ _ (Below.refl _ _) rfl
    ·intro x w1 hb1 hx K hK
     have e61 : x 61 = .pointer (some ⟨S, 2, none⟩) := hx 61 (by rfl)
     clear hx hKc
     have k2 : w1.cell? ⟨S, 2, none⟩ = some (.int .u32 m7) := (H7.up hb1).cell 2
     simp only [frameOf, fill, sg, Nat.reduceBEq, if_true, if_false, Nat.reduceAdd, Nat.reduceEqDiff] at hK ⊢
     simp only [e61] at hK ⊢
     clear e61
     go_wp2_with (fail)
     exact hK _ _ (Below.refl _ _) rfl
    ·intro x w1 hb1 hx K hK
     clear hx hKc
     have k2 : w1.cell? ⟨S, 2, none⟩ = some (.int .u32 m7) := (H7.up hb1).cell 2
     simp only [frameOf, fill, sg, Nat.reduceBEq, if_true, if_false, Nat.reduceAdd, Nat.reduceEqDiff] at hK ⊢
     go_wp2_with (fail)
     exact hK _ _ (Below.refl _ _) rfl
    ·intro x w1 hb1 hx K hK
     have e63 : x 63 = .pointer (some ⟨S, 0, none⟩) := hx 63 (by rfl)
     clear hx hKc
     have k2 : w1.cell? ⟨S, 2, none⟩ = some (.int .u32 m7) := (H7.up hb1).cell 2
     simp only [frameOf, fill, sg, Nat.reduceBEq, if_true, if_false, Nat.reduceAdd, Nat.reduceEqDiff] at hK ⊢
     simp only [e63] at hK ⊢
     clear e63
     go_wp2_with (fail)
     exact hK _ _ (Below.refl _ _) rfl
    ·intro x w1 hb1 hx K hK
     have e64 : x 64 = .pointer (some ⟨S, 0, none⟩) := hx 64 (by rfl)
     clear hx hKc
     have k2 : w1.cell? ⟨S, 2, none⟩ = some (.int .u32 m7) := (H7.up hb1).cell 2
     simp only [frameOf, fill, sg, Nat.reduceBEq, if_true, if_false, Nat.reduceAdd, Nat.reduceEqDiff] at hK ⊢
     simp only [e64] at hK ⊢
     clear e64
     go_wp2_with (fail)
     exact hK _ _ (Below.refl _ _) rfl
    ·intro x w1 hb1 hx K hK
     have e65 : x 65 = .pointer (some ⟨S, 2, none⟩) := hx 65 (by rfl)
     clear hx hKc
     have k2 : w1.cell? ⟨S, 2, none⟩ = some (.int .u32 m7) := (H7.up hb1).cell 2
     simp only [frameOf, fill, sg, Nat.reduceBEq, if_true, if_false, Nat.reduceAdd, Nat.reduceEqDiff] at hK ⊢
     simp only [e65] at hK ⊢
     clear e65
     go_wp2_with (fail)
     exact hK _ _ (Below.refl _ _) rfl
    ·intro x w1 hb1 hx K hK
     have e66 : x 66 = .int .u32 m7 := hx 66 (by rfl)
     clear hx hKc
     have k2 : w1.cell? ⟨S, 2, none⟩ = some (.int .u32 m7) := (H7.up hb1).cell 2
     simp only [frameOf, fill, sg, Nat.reduceBEq, if_true, if_false, Nat.reduceAdd, Nat.reduceEqDiff] at hK ⊢
     simp only [e66] at hK ⊢
     clear e66
     go_wp2_with (fail)
     exact hK _ _ (Below.refl _ _) ⟨_, rfl⟩
    ·intro x w1 hb1 hx K hK
     have e62 : x 62 = .int .u32 m7 := hx 62 (by rfl)
     have e67 := hx 67 (by rfl)
     obtain ⟨x67, e67⟩ := e67
     clear hx hKc
     have k2 : w1.cell? ⟨S, 2, none⟩ = some (.int .u32 m7) := (H7.up hb1).cell 2
     simp only [frameOf, fill, sg, Nat.reduceBEq, if_true, if_false, Nat.reduceAdd, Nat.reduceEqDiff] at hK ⊢
     simp only [e62, e67] at hK ⊢
     clear e62 e67
     go_wp2_with (fail)
     exact hK _ _ (Below.refl _ _) ⟨_, rfl⟩
    ·intro x w1 hb1 hx K hK
     have e68 := hx 68 (by rfl)
     obtain ⟨x68, e68⟩ := e68
     clear hx hKc
     have k2 : w1.cell? ⟨S, 2, none⟩ = some (.int .u32 m7) := (H7.up hb1).cell 2
     simp only [frameOf, fill, sg, Nat.reduceBEq, if_true, if_false, Nat.reduceAdd, Nat.reduceEqDiff] at hK ⊢
     simp only [e68] at hK ⊢
     clear e68
     go_wp2_with (fail)
     exact hK _ _ (Below.refl _ _) ⟨_, rfl⟩
    ·intro x w1 hb1 hx K hK
     have e69 := hx 69 (by rfl)
     obtain ⟨x69, e69⟩ := e69
     clear hx hKc
     have k2 : w1.cell? ⟨S, 2, none⟩ = some (.int .u32 m7) := (H7.up hb1).cell 2
     simp only [frameOf, fill, sg, Nat.reduceBEq, if_true, if_false, Nat.reduceAdd, Nat.reduceEqDiff] at hK ⊢
     simp only [e69] at hK ⊢
     clear e69
     go_wp2_with (fail)
     exact hK _ _ (Below.refl _ _) ⟨_, rfl, (and_bound _).1, (and_bound _).2⟩
    ·intro x w1 hb1 hx K hK
     have e70 := hx 70 (by rfl)
     obtain ⟨x70, e70, f70_0, f70_1⟩ := e70
     clear hx hKc
     have k2 : w1.cell? ⟨S, 2, none⟩ = some (.int .u32 m7) := (H7.up hb1).cell 2
     simp only [frameOf, fill, sg, Nat.reduceBEq, if_true, if_false, Nat.reduceAdd, Nat.reduceEqDiff] at hK ⊢
     simp only [e70] at hK ⊢
     clear e70
     go_wp2_with (fail)
     exact hK _ _ (Below.refl _ _) ⟨_, rfl, by omega, by omega⟩
   ·intro x w1 hb1 hx
    have e59 : x 59 = .pointer (some ⟨S, 0, none⟩) := hx 59 (by decide)
    have e60 : x 60 = .pointer (some ⟨S, 0, none⟩) := hx 60 (by decide)
    have e61 : x 61 = .pointer (some ⟨S, 2, none⟩) := hx 61 (by decide)
    have e62 : x 62 = .int .u32 m7 := hx 62 (by decide)
    have e63 : x 63 = .pointer (some ⟨S, 0, none⟩) := hx 63 (by decide)
    have e64 : x 64 = .pointer (some ⟨S, 0, none⟩) := hx 64 (by decide)
    have e65 : x 65 = .pointer (some ⟨S, 2, none⟩) := hx 65 (by decide)
    have e66 : x 66 = .int .u32 m7 := hx 66 (by decide)
    have e67 := hx 67 (by decide)
    obtain ⟨x67, e67⟩ := e67
    have e68 := hx 68 (by decide)
    obtain ⟨x68, e68⟩ := e68
    have e69 := hx 69 (by decide)
    obtain ⟨x69, e69⟩ := e69
    have e70 := hx 70 (by decide)
    obtain ⟨x70, e70, f70_0, f70_1⟩ := e70
    have e71 := hx 71 (by decide)
    obtain ⟨x71, e71, f71_0, f71_1⟩ := e71
    clear hx
    have k2 : w1.cell? ⟨S, 2, none⟩ = some (.int .u32 m7) := (H7.up hb1).cell 2
    simp only [frameOf, fill, List.contains_cons, List.contains_nil, Nat.reduceBEq, Bool.or_false, Bool.false_or, Bool.or_true, Bool.true_or, if_true, if_false, Bool.false_eq_true, Nat.reduceAdd, Nat.zero_add]
    simp only [e59, e60, e61, e62, e63, e64, e65, e66, e67, e68, e69, e70, e71]
    clear e59 e60 e61 e62 e63 e64 e65 e66 e67 e68 e69 e70 e71
    go_wp2_with fail
    go_ret
    exact ⟨x71, m7, rfl, f71_0, f71_1, H7.up hb1, only_up g7 hb1⟩
 ·exact absurd (show (0 : Int) < (tk : Int) + 1 by omega) hlt
set_option maxRecDepth 100000 in
set_option maxHeartbeats 1000000 in
theorem handful_zero_some (B o : Nat) (sp : Option Nat) (S : Nat) (c tk : Nat) (m : Int) (w : World) (hS : Holds w S 53 #[.slice (some ⟨B, o, sp⟩) 0 c, .int .i64 (tk : Int), .int .u32 m]) (ht : tk ≤ 1000000) :
  Calls Tryz.prog 19 #[.pointer (some ⟨S, 0, none⟩)] w (Drawn w S (some ⟨B, o, sp⟩) 0 c tk) := by
 obtain ⟨c0, c1⟩ := hS.c2
 have z1 := hS.frozen 1
 go_enter Tryz.func19, Tryz.ntmps19
 go_wp2_with fail
 refine wp_world (fun W => w.grownBy W (some S) ∧ Holds W S 53 #[.slice (some ⟨B, o, sp⟩) 0 c, .int .i64 ((tk : Int) + 1), .int .u32 m]) ⟨only_set (only_below S (Below.refl _ _)) 1 _, hS.setL 1 _⟩ ?_
 rintro W5 ⟨g5, H5⟩
 by_cases hlt : (0 : Int) < (tk : Int) + 1
 ·rename_i Kc hKc
  refine wp_region_parts (by kernel_rfl) 10 [40, 41, 42, 43, 44, 45, 46, 47, 48, 49] (fun t v w' => match t with
   | 40 => v = .pointer (some ⟨S, 0, none⟩)
   | 41 => v = .pointer (some ⟨S, 0, none⟩)
   | 42 => v = .pointer (some ⟨S, 1, none⟩)
   | 43 => v = .int .i64 ((tk : Int) + 1)
   | 44 => v = .pointer (some ⟨S, 0, none⟩)
   | 45 => v = .pointer (some ⟨S, 0, none⟩)
   | 46 => v = .pointer (some ⟨S, 0, none⟩)
   | 47 => v = .slice (some ⟨B, o, sp⟩) 0 c
   | 48 => v = .int .i64 (0 : Int)
   | 49 => v = .bool true
   | _ => True) (by kernel_rfl) ?_ ?_ ?_
  ·intro t v w1 w2 hb' h
   revert h
   split <;> intro h <;> first
    | exact h
  ·refine ⟨?_, ?_, ?_, ?_, ?_, ?_, ?_, ?_, ?_, ?_, trivial⟩
   ·intro x w1 hb1 hx K hK
    clear hx hKc
    have k0 : w1.cell? ⟨S, 0, none⟩ = some (.slice (some ⟨B, o, sp⟩) 0 c) := (H5.up hb1).cell 0
    have k1 : w1.cell? ⟨S, 1, none⟩ = some (.int .i64 ((tk : Int) + 1)) := (H5.up hb1).cell 1
    simp only [frameOf, fill, sg, Nat.reduceBEq, if_true, if_false, Nat.reduceAdd, Nat.reduceEqDiff] at hK ⊢
    go_wp2_with (fail)
    exact hK _ _ (Below.refl _ _) rfl
   ·intro x w1 hb1 hx K hK
    have e40 : x 40 = .pointer (some ⟨S, 0, none⟩) := hx 40 (by rfl)
    clear hx hKc
    have k0 : w1.cell? ⟨S, 0, none⟩ = some (.slice (some ⟨B, o, sp⟩) 0 c) := (H5.up hb1).cell 0
    have k1 : w1.cell? ⟨S, 1, none⟩ = some (.int .i64 ((tk : Int) + 1)) := (H5.up hb1).cell 1
    simp only [frameOf, fill, sg, Nat.reduceBEq, if_true, if_false, Nat.reduceAdd, Nat.reduceEqDiff] at hK ⊢
    simp only [e40] at hK ⊢
    clear e40
    go_wp2_with (fail)
    exact hK _ _ (Below.refl _ _) rfl
   ·intro x w1 hb1 hx K hK
    have e41 : x 41 = .pointer (some ⟨S, 0, none⟩) := hx 41 (by rfl)
    clear hx hKc
    have k0 : w1.cell? ⟨S, 0, none⟩ = some (.slice (some ⟨B, o, sp⟩) 0 c) := (H5.up hb1).cell 0
    have k1 : w1.cell? ⟨S, 1, none⟩ = some (.int .i64 ((tk : Int) + 1)) := (H5.up hb1).cell 1
    simp only [frameOf, fill, sg, Nat.reduceBEq, if_true, if_false, Nat.reduceAdd, Nat.reduceEqDiff] at hK ⊢
    simp only [e41] at hK ⊢
    clear e41
    go_wp2_with (fail)
    exact hK _ _ (Below.refl _ _) rfl
   ·intro x w1 hb1 hx K hK
    have e42 : x 42 = .pointer (some ⟨S, 1, none⟩) := hx 42 (by rfl)
    clear hx hKc
    have k0 : w1.cell? ⟨S, 0, none⟩ = some (.slice (some ⟨B, o, sp⟩) 0 c) := (H5.up hb1).cell 0
    have k1 : w1.cell? ⟨S, 1, none⟩ = some (.int .i64 ((tk : Int) + 1)) := (H5.up hb1).cell 1
    simp only [frameOf, fill, sg, Nat.reduceBEq, if_true, if_false, Nat.reduceAdd, Nat.reduceEqDiff] at hK ⊢
    simp only [e42] at hK ⊢
    clear e42
    go_wp2_with (fail)
    exact hK _ _ (Below.refl _ _) rfl
   ·intro x w1 hb1 hx K hK
    clear hx hKc
    have k0 : w1.cell? ⟨S, 0, none⟩ = some (.slice (some ⟨B, o, sp⟩) 0 c) := (H5.up hb1).cell 0
    have k1 : w1.cell? ⟨S, 1, none⟩ = some (.int .i64 ((tk : Int) + 1)) := (H5.up hb1).cell 1
    simp only [frameOf, fill, sg, Nat.reduceBEq, if_true, if_false, Nat.reduceAdd, Nat.reduceEqDiff] at hK ⊢
    go_wp2_with (fail)
    exact hK _ _ (Below.refl _ _) rfl
   ·intro x w1 hb1 hx K hK
    have e44 : x 44 = .pointer (some ⟨S, 0, none⟩) := hx 44 (by rfl)
    clear hx hKc
    have k0 : w1.cell? ⟨S, 0, none⟩ = some (.slice (some ⟨B, o, sp⟩) 0 c) := (H5.up hb1).cell 0
    have k1 : w1.cell? ⟨S, 1, none⟩ = some (.int .i64 ((tk : Int) + 1)) := (H5.up hb1).cell 1
    simp only [frameOf, fill, sg, Nat.reduceBEq, if_true, if_false, Nat.reduceAdd, Nat.reduceEqDiff] at hK ⊢
    simp only [e44] at hK ⊢
    clear e44
    go_wp2_with (fail)
    exact hK _ _ (Below.refl _ _) rfl
   ·intro x w1 hb1 hx K hK
    have e45 : x 45 = .pointer (some ⟨S, 0, none⟩) := hx 45 (by rfl)
    clear hx hKc
    have k0 : w1.cell? ⟨S, 0, none⟩ = some (.slice (some ⟨B, o, sp⟩) 0 c) := (H5.up hb1).cell 0
    have k1 : w1.cell? ⟨S, 1, none⟩ = some (.int .i64 ((tk : Int) + 1)) := (H5.up hb1).cell 1
    simp only [frameOf, fill, sg, Nat.reduceBEq, if_true, if_false, Nat.reduceAdd, Nat.reduceEqDiff] at hK ⊢
    simp only [e45] at hK ⊢
    clear e45
    go_wp2_with (fail)
    exact hK _ _ (Below.refl _ _) rfl
   ·intro x w1 hb1 hx K hK
    have e46 : x 46 = .pointer (some ⟨S, 0, none⟩) := hx 46 (by rfl)
    clear hx hKc
    have k0 : w1.cell? ⟨S, 0, none⟩ = some (.slice (some ⟨B, o, sp⟩) 0 c) := (H5.up hb1).cell 0
    have k1 : w1.cell? ⟨S, 1, none⟩ = some (.int .i64 ((tk : Int) + 1)) := (H5.up hb1).cell 1
    simp only [frameOf, fill, sg, Nat.reduceBEq, if_true, if_false, Nat.reduceAdd, Nat.reduceEqDiff] at hK ⊢
    simp only [e46] at hK ⊢
    clear e46
    go_wp2_with (fail)
    exact hK _ _ (Below.refl _ _) rfl
   ·intro x w1 hb1 hx K hK
    have e47 : x 47 = .slice (some ⟨B, o, sp⟩) 0 c := hx 47 (by rfl)
    clear hx hKc
    have k0 : w1.cell? ⟨S, 0, none⟩ = some (.slice (some ⟨B, o, sp⟩) 0 c) := (H5.up hb1).cell 0
    have k1 : w1.cell? ⟨S, 1, none⟩ = some (.int .i64 ((tk : Int) + 1)) := (H5.up hb1).cell 1
    simp only [frameOf, fill, sg, Nat.reduceBEq, if_true, if_false, Nat.reduceAdd, Nat.reduceEqDiff] at hK ⊢
    simp only [e47] at hK ⊢
    clear e47
    go_wp2_with (fail)
    exact hK _ _ (Below.refl _ _) rfl
   ·intro x w1 hb1 hx K hK
    have e43 : x 43 = .int .i64 ((tk : Int) + 1) := hx 43 (by rfl)
    have e48 : x 48 = .int .i64 (0 : Int) := hx 48 (by rfl)
    clear hx hKc
    have k0 : w1.cell? ⟨S, 0, none⟩ = some (.slice (some ⟨B, o, sp⟩) 0 c) := (H5.up hb1).cell 0
    have k1 : w1.cell? ⟨S, 1, none⟩ = some (.int .i64 ((tk : Int) + 1)) := (H5.up hb1).cell 1
    simp only [frameOf, fill, sg, Nat.reduceBEq, if_true, if_false, Nat.reduceAdd, Nat.reduceEqDiff] at hK ⊢
    simp only [e43, e48] at hK ⊢
    clear e43 e48
    go_wp2_with (fail)
    first | exact hK _ _ (Below.refl _ _) rfl | exact hK _ _ (Below.refl _ _) (by simp; omega)
  ·intro x w1 hb1 hx
   have e40 : x 40 = .pointer (some ⟨S, 0, none⟩) := hx 40 (by decide)
   have e41 : x 41 = .pointer (some ⟨S, 0, none⟩) := hx 41 (by decide)
   have e42 : x 42 = .pointer (some ⟨S, 1, none⟩) := hx 42 (by decide)
   have e43 : x 43 = .int .i64 ((tk : Int) + 1) := hx 43 (by decide)
   have e44 : x 44 = .pointer (some ⟨S, 0, none⟩) := hx 44 (by decide)
   have e45 : x 45 = .pointer (some ⟨S, 0, none⟩) := hx 45 (by decide)
   have e46 : x 46 = .pointer (some ⟨S, 0, none⟩) := hx 46 (by decide)
   have e47 : x 47 = .slice (some ⟨B, o, sp⟩) 0 c := hx 47 (by decide)
   have e48 : x 48 = .int .i64 (0 : Int) := hx 48 (by decide)
   have e49 : x 49 = .bool true := hx 49 (by decide)
   clear hx
   have k0 : w1.cell? ⟨S, 0, none⟩ = some (.slice (some ⟨B, o, sp⟩) 0 c) := (H5.up hb1).cell 0
   have k1 : w1.cell? ⟨S, 1, none⟩ = some (.int .i64 ((tk : Int) + 1)) := (H5.up hb1).cell 1
   simp only [frameOf, fill, List.contains_cons, List.contains_nil, Nat.reduceBEq, Bool.or_false, Bool.false_or, Bool.or_true, Bool.true_or, if_true, if_false, Bool.false_eq_true, Nat.reduceAdd, Nat.zero_add]
   simp only [e40, e41, e42, e43, e44, e45, e46, e47, e48, e49]
   clear e40 e41 e42 e43 e44 e45 e46 e47 e48 e49
   have q2 : w1.cell? ⟨S, 2, none⟩ = some (.int .u32 m) := (H5.up hb1).cell 2
   have q3 : w1.frozen? ⟨S, 2, none⟩ = false := (H5.up hb1).frozen 2
   refine hKc _ _ ?_
   go_wp2_with fail
   refine wp_world (fun W => w.grownBy W (some S) ∧ ∃ m7 : Int, Holds W S 53 #[.slice (some ⟨B, o, sp⟩) 0 c, .int .i64 ((tk : Int) + 1), .int .u32 m7]) ⟨only_set (only_up g5 hb1) 2 _, _, (H5.up hb1).setL 2 _⟩ ?_
   rintro W7 ⟨g7, m7, H7⟩
   rename_i Kc hKc
   refine wp_region_parts (by kernel_rfl) 13 [59, 60, 61, 62, 63, 64, 65, 66, 67, 68, 69, 70, 71] (fun t v w' => match t with
    | 59 => v = .pointer (some ⟨S, 0, none⟩)
    | 60 => v = .pointer (some ⟨S, 0, none⟩)
    | 61 => v = .pointer (some ⟨S, 2, none⟩)
    | 62 => v = .int .u32 m7
    | 63 => v = .pointer (some ⟨S, 0, none⟩)
    | 64 => v = .pointer (some ⟨S, 0, none⟩)
    | 65 => v = .pointer (some ⟨S, 2, none⟩)
    | 66 => v = .int .u32 m7
    | 67 => ∃ x, v = .int .u32 x
    | 68 => ∃ x, v = .int .u32 x
    | 69 => ∃ x, v = .int .u32 x
    | 70 => ∃ x, v = .int .u32 x ∧ 0 ≤ x ∧ x ≤ 65535
    | 71 => ∃ x, v = .int .i64 x ∧ 0 ≤ x ∧ x ≤ 65535
    | _ => True) (by kernel_rfl) ?_ ?_ ?_
   ·intro t v w1 w2 hb' h
    revert h
    split <;> intro h <;> first
     | exact h
     | (obtain ⟨b0, rfl⟩ := h; exact ⟨b0, rfl⟩)
     | (obtain ⟨b0, rfl, h0, h1⟩ := h; exact ⟨b0, rfl, h0, h1⟩)
   ·refine ⟨?_, ?_, ?_, ?_, ?_, ?_, ?_, ?_, ?_, ?_, ?_, ?_, ?_, trivial⟩
    ·intro x w1 hb1 hx K hK
     clear hx hKc
     have k2 : w1.cell? ⟨S, 2, none⟩ = some (.int .u32 m7) := (H7.up hb1).cell 2
     simp only [frameOf, fill, sg, Nat.reduceBEq, if_true, if_false, Nat.reduceAdd, Nat.reduceEqDiff] at hK ⊢
     go_wp2_with (fail)
     exact hK _ _ (Below.refl _ _) rfl
    ·intro x w1 hb1 hx K hK
     have e59 : x 59 = .pointer (some ⟨S, 0, none⟩) := hx 59 (by rfl)
     clear hx hKc
     have k2 : w1.cell? ⟨S, 2, none⟩ = some (.int .u32 m7) := (H7.up hb1).cell 2
     simp only [frameOf, fill, sg, Nat.reduceBEq, if_true, if_false, Nat.reduceAdd, Nat.reduceEqDiff] at hK ⊢
     simp only [e59] at hK ⊢
     clear e59
     go_wp2_with (fail)
     exact hK _ _ (Below.refl _ _) rfl
    ·intro x w1 hb1 hx K hK
     have e60 : x 60 = .pointer (some ⟨S, 0, none⟩) := hx 60 (by rfl)
     clear hx hKc
     have k2 : w1.cell? ⟨S, 2, none⟩ = some (.int .u32 m7) := (H7.up hb1).cell 2
     simp only [frameOf, fill, sg, Nat.reduceBEq, if_true, if_false, Nat.reduceAdd, Nat.reduceEqDiff] at hK ⊢
     simp only [e60] at hK ⊢
     clear e60
     go_wp2_with (fail)
     exact hK _ _ (Below.refl _ _) rfl
    ·intro x w1 hb1 hx K hK
     have e61 : x 61 = .pointer (some ⟨S, 2, none⟩) := hx 61 (by rfl)
     clear hx hKc
     have k2 : w1.cell? ⟨S, 2, none⟩ = some (.int .u32 m7) := (H7.up hb1).cell 2
     simp only [frameOf, fill, sg, Nat.reduceBEq, if_true, if_false, Nat.reduceAdd, Nat.reduceEqDiff] at hK ⊢
     simp only [e61] at hK ⊢
     clear e61
     go_wp2_with (fail)
     exact hK _ _ (Below.refl _ _) rfl
    ·intro x w1 hb1 hx K hK
     clear hx hKc
     have k2 : w1.cell? ⟨S, 2, none⟩ = some (.int .u32 m7) := (H7.up hb1).cell 2
     simp only [frameOf, fill, sg, Nat.reduceBEq, if_true, if_false, Nat.reduceAdd, Nat.reduceEqDiff] at hK ⊢
     go_wp2_with (fail)
     exact hK _ _ (Below.refl _ _) rfl
    ·intro x w1 hb1 hx K hK
     have e63 : x 63 = .pointer (some ⟨S, 0, none⟩) := hx 63 (by rfl)
     clear hx hKc
     have k2 : w1.cell? ⟨S, 2, none⟩ = some (.int .u32 m7) := (H7.up hb1).cell 2
     simp only [frameOf, fill, sg, Nat.reduceBEq, if_true, if_false, Nat.reduceAdd, Nat.reduceEqDiff] at hK ⊢
     simp only [e63] at hK ⊢
     clear e63
     go_wp2_with (fail)
     exact hK _ _ (Below.refl _ _) rfl
    ·intro x w1 hb1 hx K hK
     have e64 : x 64 = .pointer (some ⟨S, 0, none⟩) := hx 64 (by rfl)
     clear hx hKc
     have k2 : w1.cell? ⟨S, 2, none⟩ = some (.int .u32 m7) := (H7.up hb1).cell 2
     simp only [frameOf, fill, sg, Nat.reduceBEq, if_true, if_false, Nat.reduceAdd, Nat.reduceEqDiff] at hK ⊢
     simp only [e64] at hK ⊢
     clear e64
     go_wp2_with (fail)
     exact hK _ _ (Below.refl _ _) rfl
    ·intro x w1 hb1 hx K hK
     have e65 : x 65 = .pointer (some ⟨S, 2, none⟩) := hx 65 (by rfl)
     clear hx hKc
     have k2 : w1.cell? ⟨S, 2, none⟩ = some (.int .u32 m7) := (H7.up hb1).cell 2
     simp only [frameOf, fill, sg, Nat.reduceBEq, if_true, if_false, Nat.reduceAdd, Nat.reduceEqDiff] at hK ⊢
     simp only [e65] at hK ⊢
     clear e65
     go_wp2_with (fail)
     exact hK _ _ (Below.refl _ _) rfl
    ·intro x w1 hb1 hx K hK
     have e66 : x 66 = .int .u32 m7 := hx 66 (by rfl)
     clear hx hKc
     have k2 : w1.cell? ⟨S, 2, none⟩ = some (.int .u32 m7) := (H7.up hb1).cell 2
     simp only [frameOf, fill, sg, Nat.reduceBEq, if_true, if_false, Nat.reduceAdd, Nat.reduceEqDiff] at hK ⊢
     simp only [e66] at hK ⊢
     clear e66
     go_wp2_with (fail)
     exact hK _ _ (Below.refl _ _) ⟨_, rfl⟩
    ·intro x w1 hb1 hx K hK
     have e62 : x 62 = .int .u32 m7 := hx 62 (by rfl)
     have e67 := hx 67 (by rfl)
     obtain ⟨x67, e67⟩ := e67
     clear hx hKc
     have k2 : w1.cell? ⟨S, 2, none⟩ = some (.int .u32 m7) := (H7.up hb1).cell 2
     simp only [frameOf, fill, sg, Nat.reduceBEq, if_true, if_false, Nat.reduceAdd, Nat.reduceEqDiff] at hK ⊢
     simp only [e62, e67] at hK ⊢
     clear e62 e67
     go_wp2_with (fail)
     exact hK _ _ (Below.refl _ _) ⟨_, rfl⟩
    ·intro x w1 hb1 hx K hK
     have e68 := hx 68 (by rfl)
     obtain ⟨x68, e68⟩ := e68
     clear hx hKc
     have k2 : w1.cell? ⟨S, 2, none⟩ = some (.int .u32 m7) := (H7.up hb1).cell 2
     simp only [frameOf, fill, sg, Nat.reduceBEq, if_true, if_false, Nat.reduceAdd, Nat.reduceEqDiff] at hK ⊢
     simp only [e68] at hK ⊢
     clear e68
     go_wp2_with (fail)
     exact hK _ _ (Below.refl _ _) ⟨_, rfl⟩
    ·intro x w1 hb1 hx K hK
     have e69 := hx 69 (by rfl)
     obtain ⟨x69, e69⟩ := e69
     clear hx hKc
     have k2 : w1.cell? ⟨S, 2, none⟩ = some (.int .u32 m7) := (H7.up hb1).cell 2
     simp only [frameOf, fill, sg, Nat.reduceBEq, if_true, if_false, Nat.reduceAdd, Nat.reduceEqDiff] at hK ⊢
     simp only [e69] at hK ⊢
     clear e69
     go_wp2_with (fail)
     exact hK _ _ (Below.refl _ _) ⟨_, rfl, (and_bound _).1, (and_bound _).2⟩
    ·intro x w1 hb1 hx K hK
     have e70 := hx 70 (by rfl)
     obtain ⟨x70, e70, f70_0, f70_1⟩ := e70
     clear hx hKc
     have k2 : w1.cell? ⟨S, 2, none⟩ = some (.int .u32 m7) := (H7.up hb1).cell 2
     simp only [frameOf, fill, sg, Nat.reduceBEq, if_true, if_false, Nat.reduceAdd, Nat.reduceEqDiff] at hK ⊢
     simp only [e70] at hK ⊢
     clear e70
     go_wp2_with (fail)
     exact hK _ _ (Below.refl _ _) ⟨_, rfl, by omega, by omega⟩
   ·intro x w1 hb1 hx
    have e59 : x 59 = .pointer (some ⟨S, 0, none⟩) := hx 59 (by decide)
    have e60 : x 60 = .pointer (some ⟨S, 0, none⟩) := hx 60 (by decide)
    have e61 : x 61 = .pointer (some ⟨S, 2, none⟩) := hx 61 (by decide)
    have e62 : x 62 = .int .u32 m7 := hx 62 (by decide)
    have e63 : x 63 = .pointer (some ⟨S, 0, none⟩) := hx 63 (by decide)
    have e64 : x 64 = .pointer (some ⟨S, 0, none⟩) := hx 64 (by decide)
    have e65 : x 65 = .pointer (some ⟨S, 2, none⟩) := hx 65 (by decide)
    have e66 : x 66 = .int .u32 m7 := hx 66 (by decide)
    have e67 := hx 67 (by decide)
    obtain ⟨x67, e67⟩ := e67
    have e68 := hx 68 (by decide)
    obtain ⟨x68, e68⟩ := e68
    have e69 := hx 69 (by decide)
    obtain ⟨x69, e69⟩ := e69
    have e70 := hx 70 (by decide)
    obtain ⟨x70, e70, f70_0, f70_1⟩ := e70
    have e71 := hx 71 (by decide)
    obtain ⟨x71, e71, f71_0, f71_1⟩ := e71
    clear hx
    have k2 : w1.cell? ⟨S, 2, none⟩ = some (.int .u32 m7) := (H7.up hb1).cell 2
    simp only [frameOf, fill, List.contains_cons, List.contains_nil, Nat.reduceBEq, Bool.or_false, Bool.false_or, Bool.or_true, Bool.true_or, if_true, if_false, Bool.false_eq_true, Nat.reduceAdd, Nat.zero_add]
    simp only [e59, e60, e61, e62, e63, e64, e65, e66, e67, e68, e69, e70, e71]
    clear e59 e60 e61 e62 e63 e64 e65 e66 e67 e68 e69 e70 e71
    go_wp2_with fail
    go_ret
    exact ⟨x71, m7, rfl, f71_0, f71_1, H7.up hb1, only_up g7 hb1⟩
 ·exact absurd (show (0 : Int) < (tk : Int) + 1 by omega) hlt
theorem handful_all (S : Nat) (A : Option Addr) (n c tk : Nat) (m : Int) (w : World) (hS : Holds w S 53 #[.slice A n c, .int .i64 (tk : Int), .int .u32 m]) (hA : BytesAt w A n) (hn : n ≤ 9223372036854775807) (ht : tk ≤ 1000000) :
  Calls Tryz.prog 19 #[.pointer (some ⟨S, 0, none⟩)] w (Drawn w S A n c tk) := by
 by_cases h0 : 0 < n
 ·exact handful_pos S A n c tk m w hS hA hn ht h0
 ·obtain rfl : n = 0 := by omega
  cases A with
  | none => exact handful_zero_none S c tk m w hS ht
  | some a => exact handful_zero_some a.block a.off a.spot S c tk m w hS ht
def DrawnTo (w : World) (S : Nat) (A : Option Addr) (n c tk : Nat) (k : Int) (e : Ending) (w' : World) : Prop :=
 ∃ r m : Int, e = .returned (.int .i64 r) ∧ 0 ≤ r ∧ r < max 1 k ∧ r ≤ 65535 ∧ Holds w' S 53 #[.slice A n c, .int .i64 ((tk + 1 : Nat) : Int), .int .u32 m] ∧ w.grownBy w' (some S)
set_option maxRecDepth 100000 in
theorem Below_any (S : Nat) (A : Option Addr) (n c tk : Nat) (m k : Int) (w : World) (hS : Holds w S 53 #[.slice A n c, .int .i64 (tk : Int), .int .u32 m]) (hA : BytesAt w A n) (hn : n ≤ 9223372036854775807) (ht : tk ≤ 1000000)
  (k0 : -1000000 ≤ k) (k1 : k ≤ 1000000) :
  Calls Tryz.prog 7 #[.pointer (some ⟨S, 0, none⟩), .int .i64 k] w (DrawnTo w S A n c tk k) := by
 by_cases hk : 1 < k
 all_goals
  go_enter Tryz.func7, Tryz.ntmps7
  go_wp2_with (go_at_call 19; refine (handful_all S A n c tk m _ hS hA hn ht).mono ?_; rintro e w2 ⟨r, m2, rfl, r0, r1, H2, g2⟩)
  go_ret
 ·have h2 := Int.emod_lt_of_pos r (show 0 < k by omega)
  have h3 : r % k ≤ 65535 := by
   rcases Int.lt_or_le r k with h | h
   ·rw [Int.emod_eq_of_lt r0 h]; omega
   ·omega
  exact ⟨r % k, m2, rfl, Int.emod_nonneg _ (by omega), by omega, h3, H2, g2⟩
 ·exact ⟨0, m2, by simp, by omega, by omega, by omega, H2, g2⟩
def DrawnBool (w : World) (S : Nat) (A : Option Addr) (n c tk : Nat) (e : Ending) (w' : World) : Prop :=
 ∃ (b : Bool) (m : Int), e = .returned (.bool b) ∧ Holds w' S 53 #[.slice A n c, .int .i64 ((tk + 1 : Nat) : Int), .int .u32 m] ∧ w.grownBy w' (some S)
set_option maxRecDepth 100000 in
theorem Rare_any (S : Nat) (A : Option Addr) (n c tk : Nat) (m k : Int) (w : World) (hS : Holds w S 53 #[.slice A n c, .int .i64 (tk : Int), .int .u32 m]) (hA : BytesAt w A n) (hn : n ≤ 9223372036854775807) (ht : tk ≤ 1000000)
  (k0 : -1000000 ≤ k) (k1 : k ≤ 1000000) :
  Calls Tryz.prog 17 #[.pointer (some ⟨S, 0, none⟩), .int .i64 k] w (DrawnBool w S A n c tk) := by
 go_enter Tryz.func17, Tryz.ntmps17
 go_wp2_with (go_at_call 7; refine (Below_any S A n c tk m k _ hS hA hn ht k0 k1).mono ?_; rintro e w2 ⟨r, m2, rfl, r0, r1, r2, H2, g2⟩)
 go_ret
 exact ⟨_, m2, rfl, H2, g2⟩
def DrawnIn (w : World) (S : Nat) (A : Option Addr) (n c tk : Nat) (lo hi : Int) (e : Ending) (w' : World) : Prop :=
 ∃ r m : Int, e = .returned (.int .i64 r) ∧ lo ≤ r ∧ r ≤ max lo hi ∧ r ≤ lo + 65535 ∧ Holds w' S 53 #[.slice A n c, .int .i64 ((tk + 1 : Nat) : Int), .int .u32 m] ∧ w.grownBy w' (some S)
set_option maxRecDepth 100000 in
theorem Among_any (S : Nat) (A : Option Addr) (n c tk : Nat) (m lo hi : Int) (w : World) (hS : Holds w S 53 #[.slice A n c, .int .i64 (tk : Int), .int .u32 m]) (hA : BytesAt w A n) (hn : n ≤ 9223372036854775807) (ht : tk ≤ 1000000)
  (l0 : -200000 ≤ lo) (l1 : lo ≤ 200000) (h0 : -200000 ≤ hi) (h1 : hi ≤ 200000) :
  Calls Tryz.prog 15 #[.pointer (some ⟨S, 0, none⟩), .int .i64 lo, .int .i64 hi] w (DrawnIn w S A n c tk lo hi) := by
 go_enter Tryz.func15, Tryz.ntmps15
 go_wp2_with (go_at_call 7; refine (Below_any S A n c tk m _ _ hS hA hn ht (by omega) (by omega)).mono ?_; rintro e w2 ⟨r, m2, rfl, r0, r1, r2, H2, g2⟩)
 go_ret
 exact ⟨_, m2, rfl, by omega, by omega, by omega, H2, g2⟩
end Go.Proofs.YtokafjkinkafiaaGreat
