
import Derived.Test.YtokafjkinkafiaaVAA
import Derived.Test.YtokafjkinkafiaaVAF
set_option linter.unusedSimpArgs false
set_option linter.unusedVariables false
namespace Go.Proofs.Ytokafjkinkafiaa
open Go.RowKit
theorem run_copy_rows {P : Program} (w : World) (dT sT ty elem : TypeId) (m g o dLen dCap : Nat) (a : Addr) (sLen sCap : Nat) (cur : Array Value) (t : TypeId) (cs : List Value)
  (hu : P.underlying dT = some (.slice elem)) (hs : (P.info? elem).map (·.size) = some m)
  (hg : w.heap[g]? = some (.cells cur t (0, 0))) (hn : cs.length = Nat.min sLen dLen * m)
  (hsrc : ∀ j v, cs[j]? = some v → w.cell? (a.add j) = some v) (hfit : o + cs.length ≤ cur.size) (h1 : ∀ v ∈ cs, v.oneCell' = true) :
  (Builtin.copy_ #[dT, sT] ty #[.slice (some ⟨g, o, none⟩) dLen dCap, .slice (some a) sLen sCap]).run P w =
   .ok (goInt (Nat.min sLen dLen)) (w.setRow g (cur.toList.take o ++ cs ++ cur.toList.drop (o + cs.length)).toArray) := by
 have hl := run_loadCells_list (P := P) w a cs hsrc
 have hst := run_storeCells_at P g o t cs 0 cur w hg (by simpa using hfit) h1
 cases hq : P.info? elem with
 | none => simp [hq] at hs
 | some i =>
  have hi : i.size = m := by simpa [hq] using hs
  simp [Builtin.copy_, run_underlying hu, Builtin.lenOf, Builtin.firstCells, sizeOf, typeInfo, hq, hi, ← hn, hl, hst]
theorem run_copy_zero {P : Program} (w : World) (dT sT ty elem : TypeId) (m : Nat) (dp sp : Option Addr) (dLen dCap sCap : Nat)
  (hu : P.underlying dT = some (.slice elem)) (hs : (P.info? elem).map (·.size) = some m) :
  (Builtin.copy_ #[dT, sT] ty #[.slice dp dLen dCap, .slice sp 0 sCap]).run P w = .ok (goInt 0) w := by
 cases hq : P.info? elem with
 | none => simp [hq] at hs
 | some i =>
  have hi : i.size = m := by simpa [hq] using hs
  cases dp <;> cases sp <;> simp [Builtin.copy_, run_underlying hu, Builtin.lenOf, Builtin.firstCells, sizeOf, typeInfo, hq, hi, storeCells, loadCells, loadCellsFrom, Sem.run]
theorem make_bins (w1 : World) (n : Nat) (hn : n ≤ 1000) : ∃ w2 cur, (Instr.makeSlice 23 (.int .i64 (n : Int)) (.int .i64 (n : Int))).run Try.prog w1 = .ok (.slice (some ⟨w1.heap.size, 0, none⟩) n n) w2 ∧ Holds w2 w1.heap.size 39 cur ∧ cur.size = n * 4 ∧ Below w1.heap.size w1 w2 := by
 obtain ⟨i0, hi, hz0, hz1, hz2⟩ := info_parts info_bin
 obtain ⟨w2, hrun, ⟨hl, h⟩, hg⟩ := run_makeSlice_full (P := Try.prog) (w := w1) w1.heap.size 23 39 i0 _ 4 und_bins hi hz0 hz1 .i64 .i64 n (by omega) (by rw [hz2]; omega) (by unfold maxLen; omega) (Nat.le_refl _)
 rcases h with ⟨h, _⟩ | ⟨g, cap, cur, hv, _, hc, _, _, hsz, _⟩
 ·cases h
 ·cases hv
  exact ⟨w2, cur, hrun, hc, hsz, ⟨hg.os, hg.tape, hg.output, hg.size, fun k hk => hg.block k hk (by simp)⟩⟩
theorem copy_bins (w : World) (ty : TypeId) (g q : Nat) (A : Option Addr) (hs : List Bn) (cur : Array Value) (t : TypeId) (hg : Holds w g t cur) (hc : cur.size = hs.length * 4) (hA : BinsAt w A hs) :
  ∃ v, (Builtin.copy_ #[23, 23] ty #[.slice (some ⟨g, 0, none⟩) hs.length hs.length, .slice A hs.length q]).run Try.prog w = .ok v (w.setRow g (hs.flatMap Bn.cells).toArray) := by
 obtain ⟨i0, hi, hz0, hz1, hz2⟩ := info_parts info_bin
 have hl := flat_len Bn.cells 4 Bn.len hs
 have hm : Nat.min hs.length hs.length = hs.length := Nat.min_eq_left (Nat.le_refl _)
 have hcl : cur.toList.length = hs.length * 4 := by simpa using hc
 by_cases h0 : 0 < hs.length
 ·obtain ⟨B, o, rfl, hcell⟩ := hA h0
  have h := run_copy_rows (P := Try.prog) w 23 23 ty 39 4 g 0 hs.length hs.length ⟨B, o, none⟩ hs.length q cur t (hs.flatMap Bn.cells) und_bins (by rw [hi]; simp [hz1]) hg (by rw [hm, hl]) (row_flat Bn.len (by decide) hA) (by omega) (bins_one hs)
  refine ⟨goInt ((Nat.min hs.length hs.length : Nat) : Int), h.trans ?_⟩
  rw [Nat.zero_add, hl, List.drop_eq_nil_of_le (by omega)]
  simp
 ·have e : hs = [] := List.eq_nil_of_length_eq_zero (by omega)
  subst e
  have e2 : cur = #[] := Array.eq_empty_of_size_eq_zero (by simpa using hc)
  subst e2
  refine ⟨goInt 0, (run_copy_zero (P := Try.prog) w 23 23 ty 39 4 _ _ _ _ q und_bins (by rw [hi]; simp [hz1])).trans ?_⟩
  have := setRow_self w g #[] t (0, 0) hg
  simp [this]
theorem below_row {w w2 : World} {n g : Nat} (hb : Below n w w2) (hg : n ≤ g) (cs : Array Value) : Below n w (w2.setRow g cs) := by
 refine ⟨hb.os, hb.tape, hb.output, ?_, fun k hk => ?_⟩
 ·simpa [World.setRow] using hb.size
 ·rw [setRow_other w2 g k cs (by omega)]; exact hb.block k hk
set_option maxRecDepth 100000 in
set_option maxHeartbeats 4000000 in
theorem withBins_any (b : Br) (A : Option Addr) (c : Nat) (bs : List Bn) (w : World) (hA : BinsAt w A bs) (hl : bs.length ≤ 1000) :
  Calls Try.prog 65 #[.agg #[.int .i64 b.cool, .int .i64 b.gangs, .int .i64 b.r0, .int .i64 b.r1, .int .i64 b.r2, .int .i64 b.r3, .int .i64 b.r4, .int .i64 b.r5, .slice A bs.length c]] w fun e w' => ∃ B, e = .returned (.agg #[.int .i64 b.cool, .int .i64 b.gangs, .int .i64 b.r0, .int .i64 b.r1, .int .i64 b.r2, .int .i64 b.r3, .int .i64 b.r4, .int .i64 b.r5, .slice (some ⟨B, 0, none⟩) bs.length bs.length]) ∧ Holds w' B 39 (bs.flatMap Bn.cells).toArray ∧ w.heap.size ≤ B ∧ Below w.heap.size w w' := by
 have HA := Lib.hid hA
 clear hA
 obtain ⟨w1, hw1⟩ : ∃ z, z = (w.alloc (.cells #[.int .i64 b.cool, .int .i64 b.gangs, .int .i64 b.r0, .int .i64 b.r1, .int .i64 b.r2, .int .i64 b.r3, .int .i64 b.r4, .int .i64 b.r5, .slice A bs.length c] 25)).alloc (.cells #[.int .i64 0, .int .i64 0, .int .i64 0, .int .i64 0, .int .i64 0, .int .i64 0, .int .i64 0, .int .i64 0, .slice none 0 0] 25) := ⟨_, rfl⟩
 have Hb1 : Holds w1 (w.heap.size) 25 #[.int .i64 b.cool, .int .i64 b.gangs, .int .i64 b.r0, .int .i64 b.r1, .int .i64 b.r2, .int .i64 b.r3, .int .i64 b.r4, .int .i64 b.r5, .slice A bs.length c] := by rw [hw1]; exact (Holds.new _ _ _).alloc _
 have Hr1 : Holds w1 (w.heap.size + 1) 25 #[.int .i64 0, .int .i64 0, .int .i64 0, .int .i64 0, .int .i64 0, .int .i64 0, .int .i64 0, .int .i64 0, .slice none 0 0] := by rw [hw1]; exact Holds.new' _ _ (by simp)
 have hb1 : Below w.heap.size w w1 := by rw [hw1]; (repeat' (first | (with_reducible first | exact Below.refl _ _ | assumption | refine Below.alloc ?_ ?_ _ | refine Below.drew ?_ | refine Below.setCell ?_ ?_ _ | exact Nat.le_refl _) | omega | (simp only [World.size_alloc, World.size_setCell, World.size_drew]; omega) | (simp; omega) | (simp; done)))
 have hs1 : w1.heap.size = w.heap.size + 1 + 1 := by rw [hw1]; simp
 obtain ⟨w2, cur, hrun2, hO2, hsz2, hb2⟩ := make_bins w1 bs.length hl
 obtain ⟨vc, hrun3⟩ := copy_bins w2 3 w1.heap.size c A bs cur 39 hO2 hsz2 ((HA.out.up hb1).up hb2)
 obtain ⟨w3, hw3⟩ : ∃ z, z = w2.setRow w1.heap.size (bs.flatMap Bn.cells).toArray := ⟨_, rfl⟩
 rw [← hw3] at hrun3
 have hO3 : Hid (Holds w3 w1.heap.size 39 (bs.flatMap Bn.cells).toArray) := Lib.hid (hw3 ▸ setRow_heap w2 _ _ _ _ _ hO2)
 have HB3 : Hid (Below w1.heap.size w1 w3) := Lib.hid (hw3 ▸ below_row hb2 (Nat.le_refl _) _)
 have Hb2 := Lib.hid (Hb1.up hb2)
 have Hb3 := Lib.hid (Hb1.up HB3.out)
 have Hr3 := Lib.hid (Hr1.up HB3.out)
 have HBW : Hid (Below w.heap.size w w3) := Lib.hid (hb1.trans (HB3.out.mono hb1.size))
 have H1 := Lib.hid hw1
 rw [hw1] at hrun2 hrun3 hO3 hO2
 simp only [World.size_alloc] at hrun2 hrun3 hO3
 clear hw3 hO2 hb2 hw1 hb1 Hb1 Hr1
 go_enter Try.func65, Try.ntmps65
 have kb0 : w2.cell? ⟨w.heap.size, 0, none⟩ = some (.int .i64 b.cool) := Hb2.out.cell 0
 have kb1 : w2.cell? ⟨w.heap.size, 1, none⟩ = some (.int .i64 b.gangs) := Hb2.out.cell 1
 have kb2 : w2.cell? ⟨w.heap.size, 2, none⟩ = some (.int .i64 b.r0) := Hb2.out.cell 2
 have kb3 : w2.cell? ⟨w.heap.size, 3, none⟩ = some (.int .i64 b.r1) := Hb2.out.cell 3
 have kb4 : w2.cell? ⟨w.heap.size, 4, none⟩ = some (.int .i64 b.r2) := Hb2.out.cell 4
 have kb5 : w2.cell? ⟨w.heap.size, 5, none⟩ = some (.int .i64 b.r3) := Hb2.out.cell 5
 have kb6 : w2.cell? ⟨w.heap.size, 6, none⟩ = some (.int .i64 b.r4) := Hb2.out.cell 6
 have kb7 : w2.cell? ⟨w.heap.size, 7, none⟩ = some (.int .i64 b.r5) := Hb2.out.cell 7
 have kb8 : w2.cell? ⟨w.heap.size, 8, none⟩ = some (.slice A bs.length c) := Hb2.out.cell 8
 have lt_b : w.heap.size < w2.heap.size := Hb2.out.lt
 have kc0 : w3.cell? ⟨w.heap.size, 0, none⟩ = some (.int .i64 b.cool) := Hb3.out.cell 0
 have kc1 : w3.cell? ⟨w.heap.size, 1, none⟩ = some (.int .i64 b.gangs) := Hb3.out.cell 1
 have kc2 : w3.cell? ⟨w.heap.size, 2, none⟩ = some (.int .i64 b.r0) := Hb3.out.cell 2
 have kc3 : w3.cell? ⟨w.heap.size, 3, none⟩ = some (.int .i64 b.r1) := Hb3.out.cell 3
 have kc4 : w3.cell? ⟨w.heap.size, 4, none⟩ = some (.int .i64 b.r2) := Hb3.out.cell 4
 have kc5 : w3.cell? ⟨w.heap.size, 5, none⟩ = some (.int .i64 b.r3) := Hb3.out.cell 5
 have kc6 : w3.cell? ⟨w.heap.size, 6, none⟩ = some (.int .i64 b.r4) := Hb3.out.cell 6
 have kc7 : w3.cell? ⟨w.heap.size, 7, none⟩ = some (.int .i64 b.r5) := Hb3.out.cell 7
 have kc8 : w3.cell? ⟨w.heap.size, 8, none⟩ = some (.slice A bs.length c) := Hb3.out.cell 8
 have zb0 : w3.frozen? ⟨w.heap.size, 0, none⟩ = false := Hb3.out.frozen 0
 have zb1 : w3.frozen? ⟨w.heap.size, 1, none⟩ = false := Hb3.out.frozen 1
 have zb2 : w3.frozen? ⟨w.heap.size, 2, none⟩ = false := Hb3.out.frozen 2
 have zb3 : w3.frozen? ⟨w.heap.size, 3, none⟩ = false := Hb3.out.frozen 3
 have zb4 : w3.frozen? ⟨w.heap.size, 4, none⟩ = false := Hb3.out.frozen 4
 have zb5 : w3.frozen? ⟨w.heap.size, 5, none⟩ = false := Hb3.out.frozen 5
 have zb6 : w3.frozen? ⟨w.heap.size, 6, none⟩ = false := Hb3.out.frozen 6
 have zb7 : w3.frozen? ⟨w.heap.size, 7, none⟩ = false := Hb3.out.frozen 7
 have zb8 : w3.frozen? ⟨w.heap.size, 8, none⟩ = false := Hb3.out.frozen 8
 have lt_c : w.heap.size < w3.heap.size := Hb3.out.lt
 have kr0 : w3.cell? ⟨w.heap.size + 1, 0, none⟩ = some (.int .i64 0) := Hr3.out.cell 0
 have kr1 : w3.cell? ⟨w.heap.size + 1, 1, none⟩ = some (.int .i64 0) := Hr3.out.cell 1
 have kr2 : w3.cell? ⟨w.heap.size + 1, 2, none⟩ = some (.int .i64 0) := Hr3.out.cell 2
 have kr3 : w3.cell? ⟨w.heap.size + 1, 3, none⟩ = some (.int .i64 0) := Hr3.out.cell 3
 have kr4 : w3.cell? ⟨w.heap.size + 1, 4, none⟩ = some (.int .i64 0) := Hr3.out.cell 4
 have kr5 : w3.cell? ⟨w.heap.size + 1, 5, none⟩ = some (.int .i64 0) := Hr3.out.cell 5
 have kr6 : w3.cell? ⟨w.heap.size + 1, 6, none⟩ = some (.int .i64 0) := Hr3.out.cell 6
 have kr7 : w3.cell? ⟨w.heap.size + 1, 7, none⟩ = some (.int .i64 0) := Hr3.out.cell 7
 have kr8 : w3.cell? ⟨w.heap.size + 1, 8, none⟩ = some (.slice none 0 0) := Hr3.out.cell 8
 have zr0 : w3.frozen? ⟨w.heap.size + 1, 0, none⟩ = false := Hr3.out.frozen 0
 have zr1 : w3.frozen? ⟨w.heap.size + 1, 1, none⟩ = false := Hr3.out.frozen 1
 have zr2 : w3.frozen? ⟨w.heap.size + 1, 2, none⟩ = false := Hr3.out.frozen 2
 have zr3 : w3.frozen? ⟨w.heap.size + 1, 3, none⟩ = false := Hr3.out.frozen 3
 have zr4 : w3.frozen? ⟨w.heap.size + 1, 4, none⟩ = false := Hr3.out.frozen 4
 have zr5 : w3.frozen? ⟨w.heap.size + 1, 5, none⟩ = false := Hr3.out.frozen 5
 have zr6 : w3.frozen? ⟨w.heap.size + 1, 6, none⟩ = false := Hr3.out.frozen 6
 have zr7 : w3.frozen? ⟨w.heap.size + 1, 7, none⟩ = false := Hr3.out.frozen 7
 have zr8 : w3.frozen? ⟨w.heap.size + 1, 8, none⟩ = false := Hr3.out.frozen 8
 have lt_r : w.heap.size + 1 < w3.heap.size := Hr3.out.lt
 go_wp2_with fail
 refine ret_cell (t := 25) (cs := #[.int .i64 b.cool, .int .i64 b.gangs, .int .i64 b.r0, .int .i64 b.r1, .int .i64 b.r2, .int .i64 b.r3, .int .i64 b.r4, .int .i64 b.r5, .slice (some ⟨w.heap.size + 1 + 1, 0, none⟩) bs.length bs.length]) rfl rfl (by have h := Hr3.out; exact zp1) Try.underlying25 rfl (by kernel_rfl) rfl ⟨_, rfl, ?_, by omega, HBW.out.trans zg⟩
 have h := hO3.out
 exact zp1
theorem flat_split {α : Type} {f : α → List Value} {q : Nat} (hf : ∀ x, (f x).length = q) : ∀ (xs : List α) (k : Nat) (x : α), xs[k]? = some x → ∃ T D, xs.flatMap f = T ++ (f x ++ D) ∧ T.length = k * q ∧ ∀ y, (xs.set k y).flatMap f = T ++ (f y ++ D) := by
 intro xs
 induction xs with
 | nil => intro k x h; cases h
 | cons a l ih =>
  intro k x h
  cases k with
  | zero =>
   rw [List.getElem?_cons_zero] at h
   cases h
   exact ⟨[], l.flatMap f, by simp, by simp, fun y => by simp⟩
  | succ k =>
   rw [List.getElem?_cons_succ] at h
   obtain ⟨T, D, h1, h2, h3⟩ := ih k x h
   exact ⟨f a ++ T, D, by rw [List.flatMap_cons, h1, List.append_assoc], by rw [List.length_append, hf, h2, Nat.succ_mul, Nat.add_comm], fun y => by rw [List.set_cons_succ, List.flatMap_cons, h3, List.append_assoc]⟩
theorem wpList_store_run {P : Program} (w : World) {ops : Array Oper} {rest : List Oper} {op : Oper} {a : Act} {Q : Exit → Act → World → Prop} (hgd : op.guard = none) (ty : TypeId) (x y : Operand) (ho : op.op = .store ty x y)
  (p : Addr) {v : Value} (hx : a.eval x = .pointer (some p)) (hy : a.eval y = v) {w' : World} (hr : (storeVar ty p v).run P w = .ok () w')
  (h : wpList P ops Q rest (a.put op.dst undef) w') : wpList P ops Q (op :: rest) a w :=
 wpList_plain hgd fun _ hK => by
  unfold Oper.wp execOp
  simp only [ho, hx, hy, Instr.storeAt, Instr.sureAddr, Sem.run_bind, Sem.run_pure, Result.andThen_ok, hr]
  exact hK _ _ h
theorem info_span : (Try.prog.info? 27).map (fun i => (i.zero, i.size, i.bytes)) = some (some (.agg #[.int .i64 0, .int .i64 0]), 2, 16) := by kernel_rfl
theorem Holds.far9 {w : World} {B b : Nat} {t : TypeId} {cs : Array Value} {u0 u1 u2 u3 u4 u5 u6 u7 u8 : Value} (h : Holds w B t cs) (hb : B ≠ b) : Holds (((((((((w.setCell ⟨b, 0, none⟩ u0).setCell ⟨b, 1, none⟩ u1).setCell ⟨b, 2, none⟩ u2).setCell ⟨b, 3, none⟩ u3).setCell ⟨b, 4, none⟩ u4).setCell ⟨b, 5, none⟩ u5).setCell ⟨b, 6, none⟩ u6).setCell ⟨b, 7, none⟩ u7).setCell ⟨b, 8, none⟩ u8) B t cs := (((((((((h.far (p := ⟨b, 0, none⟩) hb _).far (p := ⟨b, 1, none⟩) hb _).far (p := ⟨b, 2, none⟩) hb _).far (p := ⟨b, 3, none⟩) hb _).far (p := ⟨b, 4, none⟩) hb _).far (p := ⟨b, 5, none⟩) hb _).far (p := ⟨b, 6, none⟩) hb _).far (p := ⟨b, 7, none⟩) hb _).far (p := ⟨b, 8, none⟩) hb _)
theorem info_barn : (Try.prog.info? 25).map (fun i => (i.zero, i.size, i.bytes)) = some (some (.agg #[.int .i64 0, .int .i64 0, .int .i64 0, .int .i64 0, .int .i64 0, .int .i64 0, .int .i64 0, .int .i64 0, .slice none 0 0]), 9, 88) := by kernel_rfl
theorem store_barn (w : World) (g : Nat) (a0 a1 a2 a3 a4 a5 a6 a7 a8 v0 v1 v2 v3 v4 v5 v6 v7 v8 : Value) (hg : Holds w g 25 #[a0, a1, a2, a3, a4, a5, a6, a7, a8]) (ho : [v0, v1, v2, v3, v4, v5, v6, v7, v8].all Value.oneCell' = true := by rfl) :
  (storeVar 25 ⟨g, 0, none⟩ (.agg #[v0, v1, v2, v3, v4, v5, v6, v7, v8])).run Try.prog w = .ok () (w.setRow g #[v0, v1, v2, v3, v4, v5, v6, v7, v8]) := by
 obtain ⟨i0, hi, hz0, hz1, hz2⟩ := info_parts info_barn
 have h := run_storeCells_at Try.prog g 0 25 [v0, v1, v2, v3, v4, v5, v6, v7, v8] 0 _ w hg (by simp) (fun v hv => List.all_eq_true.1 ho v hv)
 simp at h
 simp [storeVar, sizeOf, typeInfo, hi, hz1, Value.cells, h]
def OwnBins (w : World) (B : Nat) (t : TypeId) (v : Value) (bs : List Bn) : Prop := w.ownsRow B t 4 v bs.length (bs.flatMap Bn.cells)
theorem OwnBins.up {w w' : World} {B : Nat} {t : TypeId} {v : Value} {bs : List Bn} (h : OwnBins w B t v bs) (hb : Below w.heap.size w w') : OwnBins w' B t v bs := rowq_up h hb
theorem OwnBins.at_ {w : World} {B n c : Nat} {t : TypeId} {A : Option Addr} {bs : List Bn} (h : OwnBins w B t (.slice A n c) bs) : BinsAt w A bs ∧ (A = none → bs.length = 0 ∧ c = 0) := by
 obtain ⟨A', c', e, _, h2, h3⟩ := row_own Bn.len h
 cases e
 exact ⟨h3, h2⟩
theorem Holds.set9_ne {w : World} {B b : Nat} {t e : TypeId} {cs ds : Array Value} {u0 u1 u2 u3 u4 u5 u6 u7 u8 : Value} (h : Holds w B t cs) (h2 : Holds w b e ds) (ht : t ≠ e) :
  Holds (((((((((w.setCell ⟨b, 0, none⟩ u0).setCell ⟨b, 1, none⟩ u1).setCell ⟨b, 2, none⟩ u2).setCell ⟨b, 3, none⟩ u3).setCell ⟨b, 4, none⟩ u4).setCell ⟨b, 5, none⟩ u5).setCell ⟨b, 6, none⟩ u6).setCell ⟨b, 7, none⟩ u7).setCell ⟨b, 8, none⟩ u8) B t cs :=
 Holds.far9 h (holds_ne h h2 ht)
theorem own_set9 {w : World} {B b : Nat} {t e : TypeId} {v : Value} {bs : List Bn} {ds : Array Value} {u0 u1 u2 u3 u4 u5 u6 u7 u8 : Value} (h : OwnBins w B t v bs) (h2 : Holds w b e ds) (ht : t ≠ e) :
  OwnBins (((((((((w.setCell ⟨b, 0, none⟩ u0).setCell ⟨b, 1, none⟩ u1).setCell ⟨b, 2, none⟩ u2).setCell ⟨b, 3, none⟩ u3).setCell ⟨b, 4, none⟩ u4).setCell ⟨b, 5, none⟩ u5).setCell ⟨b, 6, none⟩ u6).setCell ⟨b, 7, none⟩ u7).setCell ⟨b, 8, none⟩ u8) B t v bs := by
 obtain ⟨hl, h | ⟨k, cap, cur, ev, hB, hg, r⟩⟩ := h
 ·exact ⟨hl, .inl h⟩
 ·have hk : Holds w k t cur := hg
  exact ⟨hl, .inr ⟨k, cap, cur, ev, hB, hk.set9_ne h2 ht, r⟩⟩
theorem neq_span (a b : Int) (w : World) : (binOp .neq 27 (.agg #[.int .i64 a, .int .i64 b]) (.agg #[.int .i64 a, .int .i64 b])).run Try.prog w = .ok (.bool false) w := by
 rw [run_neq_struct, eqlIn_span]; rfl
theorem run_clear_nil (w : World) (ty : TypeId) : (Builtin.clear_ #[23] ty #[.slice none 0 0]).run Try.prog w = .ok (.tuple #[]) w := by
 simp [Builtin.clear_, run_underlying und_bins]
theorem zero_bin (w : World) : (zeroValue 39).run Try.prog w = .ok (.agg #[.int .i64 0, .int .i64 0, .int .i64 0, .int .i64 0]) w := by kernel_rfl
theorem run_clear_bins (w : World) (ty : TypeId) (B c : Nat) (ls : List Bn) (h : Holds w B 39 (ls.flatMap Bn.cells).toArray) (hn : 0 < ls.length) :
  ∃ w', (Builtin.clear_ #[23] ty #[.slice (some ⟨B, 0, none⟩) ls.length c]).run Try.prog w = .ok (.tuple #[]) w' ∧ w.grownBy w' (some B) := by
 have hfl := flat_len Bn.cells 4 Bn.len ls
 obtain ⟨zs, hzs⟩ : ∃ z, z = (Builtin.zeroCells (Value.agg #[.int .i64 0, .int .i64 0, .int .i64 0, .int .i64 0]).cells ls.length).toList := ⟨_, rfl⟩
 have hzl : zs.length = ls.length * 4 := by rw [hzs]; simp [Builtin.zeroCells, Value.cells, Nat.mul_comm]
 have hc : (Value.agg #[.int .i64 0, .int .i64 0, .int .i64 0, .int .i64 0]).cells = #[.int .i64 0, .int .i64 0, .int .i64 0, .int .i64 0] := rfl
 have hz1 : ∀ v ∈ zs, v.oneCell' = true := by
  intro v hv
  rw [hzs, hc] at hv
  simp only [Builtin.zeroCells, Array.toList_map] at hv
  obtain ⟨i, _, rfl⟩ := List.mem_map.1 hv
  have h5 : i % 4 < 4 := Nat.mod_lt _ (by decide)
  show ((#[Value.int .i64 0, .int .i64 0, .int .i64 0, .int .i64 0] : Array Value)[i % 4]!).oneCell' = true
  generalize i % 4 = j at h5
  match j, h5 with
  | 0, _ => rfl
  | 1, _ => rfl
  | 2, _ => rfl
  | 3, _ => rfl
 have hst := run_storeCells_at Try.prog B 0 39 zs 0 (ls.flatMap Bn.cells).toArray w h (by simp [hfl, hzl]) hz1
 obtain ⟨w', hw'⟩ : ∃ z, z = w.setRow B ((ls.flatMap Bn.cells).toArray.toList.take (0 + 0) ++ zs ++ (ls.flatMap Bn.cells).toArray.toList.drop (0 + 0 + zs.length)).toArray := ⟨_, rfl⟩
 rw [← hw'] at hst
 obtain ⟨k, hk⟩ : ∃ k, ls.length = k + 1 := ⟨ls.length - 1, by omega⟩
 refine ⟨w', ?_, by rw [hw']; exact ⟨rfl, rfl, rfl, by simp, fun j _ hne => setRow_other w B j _ (fun e => hne (by rw [e]))⟩⟩
 rw [hk] at hzs ⊢
 simp [Builtin.clear_, run_underlying und_bins, zero_bin, ← hzs, hst]
def spCells (s : Int × Int) : List Value := [.int .i64 s.1, .int .i64 s.2]
theorem spLen (s : Int × Int) : (spCells s).length = 2 := rfl
def SpansAt (w : World) (A : Option Addr) (ss : List (Int × Int)) : Prop := RowAt spCells 2 w A ss
set_option maxRecDepth 100000 in
set_option maxHeartbeats 40000000 in
theorem equalInt_same (A A' : Option Addr) (c c' : Nat) (hs : List Int) (w : World) (hA : IntsAt w A hs) (hA' : IntsAt w A' hs) (hl : hs.length ≤ 20000) :
  Calls Try.prog 75 #[.slice A hs.length c, .slice A' hs.length c'] w fun e w' => e = .returned (.bool true) ∧ Below w.heap.size w w' := by
 have HA := Lib.hid hA
 have HA' := Lib.hid hA'
 clear hA hA'
 go_enter Try.func75, Try.ntmps75
 go_wp2_with fail
 go_loopw [13] (fun v13 wr => ∃ k : Nat, v13 = .int .i64 (k : Int) ∧ k ≤ hs.length ∧ Below w.heap.size w wr) (fun v13 _ => hs.length - (intOf v13).toNat)
 case atStart => exact ⟨0, rfl, Nat.zero_le _, Below.refl _ _⟩
 case round =>
  obtain ⟨k, rfl, hk, hBr⟩ := hrel
  by_cases hlt : k < hs.length
  ·obtain ⟨hf, hh⟩ : ∃ z, hs[k]? = some z := ⟨_, List.getElem?_eq_getElem hlt⟩
   obtain ⟨B, o, rfl, hc⟩ := HA.out (by omega)
   obtain ⟨B', o', rfl, hc'⟩ := HA'.out (by omega)
   have HX0 : Hid (w.cell? ⟨B, o + k, none⟩ = some (.int .i64 hf)) := Lib.hid (hc k hf hh)
   have HY0 : Hid (w.cell? ⟨B', o' + k, none⟩ = some (.int .i64 hf)) := Lib.hid (hc' k hf hh)
   have hlB := World.block_lt_of_cell? w _ HX0.out
   have hlB' := World.block_lt_of_cell? w _ HY0.out
   clear hc hc' hh
   go_wp2_with fail
   rename_i Kc hKc
   have HSL := Lib.hid (show slotsOf [some 16, some 17, some 18, some 19, some 20, some 21, some 22, some 23, some 24] = [16, 17, 18, 19, 20, 21, 22, 23, 24] from rfl)
   refine wp_region_partsG (by kernel_rfl) [some 16, some 17, some 18, some 19, some 20, some 21, some 22, some 23, some 24] (fun jq xq w' => match jq with
    | 0 => xq 16 = .slice (some ⟨B, o, none⟩) hs.length c
    | 1 => xq 17 = .int .i64 (k : Int)
    | 2 => xq 18 = .pointer (some ⟨B, o + k, none⟩)
    | 3 => xq 19 = .int .i64 hf
    | 4 => xq 20 = .slice (some ⟨B', o', none⟩) hs.length c'
    | 5 => xq 21 = .int .i64 (k : Int)
    | 6 => xq 22 = .pointer (some ⟨B', o' + k, none⟩)
    | 7 => xq 23 = .int .i64 hf
    | 8 => xq 24 = .bool false
    | _ => True) [[16], [17], [18], [19], [20], [21], [22], [23], [24]] [] (Below w.heap.size w) (by kernel_rfl)  ?_ ?_ (fun w' w'' hb h => h.trans (hb.mono h.size)) (hBr) ?_ ?_ ?_
   ·intro jq xq xq' wqq h hv
    match jq, h, hv with
    | 0, h, hv => show xq' 16 = .slice (some ⟨B, o, none⟩) hs.length c; rw [← h 16 (by decide)]; exact hv
    | 1, h, hv => show xq' 17 = .int .i64 (k : Int); rw [← h 17 (by decide)]; exact hv
    | 2, h, hv => show xq' 18 = .pointer (some ⟨B, o + k, none⟩); rw [← h 18 (by decide)]; exact hv
    | 3, h, hv => show xq' 19 = .int .i64 hf; rw [← h 19 (by decide)]; exact hv
    | 4, h, hv => show xq' 20 = .slice (some ⟨B', o', none⟩) hs.length c'; rw [← h 20 (by decide)]; exact hv
    | 5, h, hv => show xq' 21 = .int .i64 (k : Int); rw [← h 21 (by decide)]; exact hv
    | 6, h, hv => show xq' 22 = .pointer (some ⟨B', o' + k, none⟩); rw [← h 22 (by decide)]; exact hv
    | 7, h, hv => show xq' 23 = .int .i64 hf; rw [← h 23 (by decide)]; exact hv
    | 8, h, hv => show xq' 24 = .bool false; rw [← h 24 (by decide)]; exact hv
    | _ + 9, _, _ => trivial
   ·intro jq xq wqq w' hb' hv
    match jq, hv with
    | 0, hv => exact hv
    | 1, hv => exact hv
    | 2, hv => exact hv
    | 3, hv => exact hv
    | 4, hv => exact hv
    | 5, hv => exact hv
    | 6, hv => exact hv
    | 7, hv => exact hv
    | 8, hv => exact hv
    | _ + 9, _ => trivial
   ·intro jq hj
    match jq, hj with
    | 0, hj => exact absurd hj (by decide)
    | 1, hj => exact absurd hj (by decide)
    | 2, hj => exact absurd hj (by decide)
    | 3, hj => exact absurd hj (by decide)
    | 4, hj => exact absurd hj (by decide)
    | 5, hj => exact absurd hj (by decide)
    | 6, hj => exact absurd hj (by decide)
    | 7, hj => exact absurd hj (by decide)
    | 8, hj => exact absurd hj (by decide)
    | _ + 9, _ => trivial
   ·refine ⟨?_, ?_, ?_, ?_, ?_, ?_, ?_, ?_, ?_, trivial⟩
    ·intro xq w1 hb1 hx K hK0
     have hK := fun v w' hb => hK0 v w' (.inl hb)
     clear hx hKc hK0
     simp only [frameOf, fill, setSlot, sg, Nat.reduceBEq, if_true, if_false, Nat.reduceAdd, Nat.reduceEqDiff, HSL.out] at hK ⊢
     go_wp2_with (fail)
     exact hK _ _ (Below.refl _ _) rfl
    ·intro xq w1 hb1 hx K hK0
     have hK := fun v w' hb => hK0 v w' (.inl hb)
     clear hx hKc hK0
     simp only [frameOf, fill, setSlot, sg, Nat.reduceBEq, if_true, if_false, Nat.reduceAdd, Nat.reduceEqDiff, HSL.out] at hK ⊢
     go_wp2_with (fail)
     exact hK _ _ (Below.refl _ _) rfl
    ·intro xq w1 hb1 hx K hK0
     have hK := fun v w' hb => hK0 v w' (.inl hb)
     have e16 : xq 16 = .slice (some ⟨B, o, none⟩) hs.length c := hx 0 (by rfl) (by rfl)
     have e17 : xq 17 = .int .i64 (k : Int) := hx 1 (by rfl) (by rfl)
     clear hx hKc hK0
     simp only [frameOf, fill, setSlot, sg, Nat.reduceBEq, if_true, if_false, Nat.reduceAdd, Nat.reduceEqDiff, HSL.out] at hK ⊢
     simp only [e16, e17] at hK ⊢
     clear e16 e17
     go_wp2_with (fail)
     exact hK _ _ (Below.refl _ _) rfl
    ·intro xq w1 hb1 hx K hK0
     have hK := fun v w' hb => hK0 v w' (.inl hb)
     have e18 : xq 18 = .pointer (some ⟨B, o + k, none⟩) := hx 2 (by rfl) (by rfl)
     clear hx hKc hK0
     have qHX0 : w1.cell? ⟨B, o + k, none⟩ = some (.int .i64 hf) := (hb1.cell (p := ⟨B, o + k, none⟩) hlB).trans HX0.out
     simp only [frameOf, fill, setSlot, sg, Nat.reduceBEq, if_true, if_false, Nat.reduceAdd, Nat.reduceEqDiff, HSL.out] at hK ⊢
     simp only [e18] at hK ⊢
     clear e18
     go_wp2_with (fail)
     exact hK _ _ (Below.refl _ _) rfl
    ·intro xq w1 hb1 hx K hK0
     have hK := fun v w' hb => hK0 v w' (.inl hb)
     clear hx hKc hK0
     simp only [frameOf, fill, setSlot, sg, Nat.reduceBEq, if_true, if_false, Nat.reduceAdd, Nat.reduceEqDiff, HSL.out] at hK ⊢
     go_wp2_with (fail)
     exact hK _ _ (Below.refl _ _) rfl
    ·intro xq w1 hb1 hx K hK0
     have hK := fun v w' hb => hK0 v w' (.inl hb)
     clear hx hKc hK0
     simp only [frameOf, fill, setSlot, sg, Nat.reduceBEq, if_true, if_false, Nat.reduceAdd, Nat.reduceEqDiff, HSL.out] at hK ⊢
     go_wp2_with (fail)
     exact hK _ _ (Below.refl _ _) rfl
    ·intro xq w1 hb1 hx K hK0
     have hK := fun v w' hb => hK0 v w' (.inl hb)
     have e20 : xq 20 = .slice (some ⟨B', o', none⟩) hs.length c' := hx 4 (by rfl) (by rfl)
     have e21 : xq 21 = .int .i64 (k : Int) := hx 5 (by rfl) (by rfl)
     clear hx hKc hK0
     simp only [frameOf, fill, setSlot, sg, Nat.reduceBEq, if_true, if_false, Nat.reduceAdd, Nat.reduceEqDiff, HSL.out] at hK ⊢
     simp only [e20, e21] at hK ⊢
     clear e20 e21
     go_wp2_with (fail)
     exact hK _ _ (Below.refl _ _) rfl
    ·intro xq w1 hb1 hx K hK0
     have hK := fun v w' hb => hK0 v w' (.inl hb)
     have e22 : xq 22 = .pointer (some ⟨B', o' + k, none⟩) := hx 6 (by rfl) (by rfl)
     clear hx hKc hK0
     have qHY0 : w1.cell? ⟨B', o' + k, none⟩ = some (.int .i64 hf) := (hb1.cell (p := ⟨B', o' + k, none⟩) hlB').trans HY0.out
     simp only [frameOf, fill, setSlot, sg, Nat.reduceBEq, if_true, if_false, Nat.reduceAdd, Nat.reduceEqDiff, HSL.out] at hK ⊢
     simp only [e22] at hK ⊢
     clear e22
     go_wp2_with (fail)
     exact hK _ _ (Below.refl _ _) rfl
    ·intro xq w1 hb1 hx K hK0
     have hK := fun v w' hb => hK0 v w' (.inl hb)
     have e19 : xq 19 = .int .i64 hf := hx 3 (by rfl) (by rfl)
     have e23 : xq 23 = .int .i64 hf := hx 7 (by rfl) (by rfl)
     clear hx hKc hK0
     simp only [frameOf, fill, setSlot, sg, Nat.reduceBEq, if_true, if_false, Nat.reduceAdd, Nat.reduceEqDiff, HSL.out] at hK ⊢
     simp only [e19, e23] at hK ⊢
     clear e19 e23
     go_wp2_with (fail)
     first | exact hK _ _ (Below.refl _ _) rfl | exact hK _ _ (Below.refl _ _) (congrArg Value.bool (by simp))
   ·intro xq w1 hb1 hx
    have e16 : xq 16 = .slice (some ⟨B, o, none⟩) hs.length c := hx 0 (by decide)
    have e17 : xq 17 = .int .i64 (k : Int) := hx 1 (by decide)
    have e18 : xq 18 = .pointer (some ⟨B, o + k, none⟩) := hx 2 (by decide)
    have e19 : xq 19 = .int .i64 hf := hx 3 (by decide)
    have e20 : xq 20 = .slice (some ⟨B', o', none⟩) hs.length c' := hx 4 (by decide)
    have e21 : xq 21 = .int .i64 (k : Int) := hx 5 (by decide)
    have e22 : xq 22 = .pointer (some ⟨B', o' + k, none⟩) := hx 6 (by decide)
    have e23 : xq 23 = .int .i64 hf := hx 7 (by decide)
    have e24 : xq 24 = .bool false := hx 8 (by decide)
    clear hx
    simp only [frameOf, fill, setSlot, sg, Nat.reduceBEq, if_true, if_false, Nat.reduceAdd, Nat.reduceEqDiff, HSL.out]
    simp only [e16, e17, e18, e19, e20, e21, e22, e23, e24]
    clear e16 e17 e18 e19 e20 e21 e22 e23 e24
    refine hKc _ _ ?_
    go_wp2_with fail
    go_roundw
    case rel => exact ⟨k + 1, by go_num, hlt, hb1⟩
    case measure => simp [intOf]; omega
  ·have hkl : k = hs.length := by omega
   subst hkl
   go_wp2_with fail
   go_ret
   exact ⟨rfl, hBr⟩
set_option maxRecDepth 100000 in
set_option maxHeartbeats 40000000 in
theorem equalSpan_same (A A' : Option Addr) (c c' : Nat) (hs : List (Int × Int)) (w : World) (hA : SpansAt w A hs) (hA' : SpansAt w A' hs) (hl : hs.length ≤ 20000) :
  Calls Try.prog 74 #[.slice A hs.length c, .slice A' hs.length c'] w fun e w' => e = .returned (.bool true) ∧ Below w.heap.size w w' := by
 have HA := Lib.hid hA
 have HA' := Lib.hid hA'
 clear hA hA'
 go_enter Try.func74, Try.ntmps74
 go_wp2_with fail
 go_loopw [13] (fun v13 wr => ∃ k : Nat, v13 = .int .i64 (k : Int) ∧ k ≤ hs.length ∧ Below w.heap.size w wr) (fun v13 _ => hs.length - (intOf v13).toNat)
 case atStart => exact ⟨0, rfl, Nat.zero_le _, Below.refl _ _⟩
 case round =>
  obtain ⟨k, rfl, hk, hBr⟩ := hrel
  by_cases hlt : k < hs.length
  ·obtain ⟨hf, hh⟩ : ∃ z, hs[k]? = some z := ⟨_, List.getElem?_eq_getElem hlt⟩
   obtain ⟨B, o, rfl, hc⟩ := HA.out (by omega)
   obtain ⟨B', o', rfl, hc'⟩ := HA'.out (by omega)
   have HX0 : Hid (w.cell? ⟨B, o + k * 2, none⟩ = some (.int .i64 hf.1)) := Lib.hid (hc k hf hh 0 _ rfl)
   have HX1 : Hid (w.cell? ⟨B, o + k * 2 + 1, none⟩ = some (.int .i64 hf.2)) := Lib.hid (hc k hf hh 1 _ rfl)
   have HY0 : Hid (w.cell? ⟨B', o' + k * 2, none⟩ = some (.int .i64 hf.1)) := Lib.hid (hc' k hf hh 0 _ rfl)
   have HY1 : Hid (w.cell? ⟨B', o' + k * 2 + 1, none⟩ = some (.int .i64 hf.2)) := Lib.hid (hc' k hf hh 1 _ rfl)
   have hlB := World.block_lt_of_cell? w _ HX0.out
   have hlB' := World.block_lt_of_cell? w _ HY0.out
   clear hc hc' hh
   go_wp2_with fail
   rename_i Kc hKc
   have HSL := Lib.hid (show slotsOf [some 16, some 17, some 18, some 19, some 20, some 21, some 22, some 23, some 24] = [16, 17, 18, 19, 20, 21, 22, 23, 24] from rfl)
   refine wp_region_partsG (by kernel_rfl) [some 16, some 17, some 18, some 19, some 20, some 21, some 22, some 23, some 24] (fun jq xq w' => match jq with
    | 0 => xq 16 = .slice (some ⟨B, o, none⟩) hs.length c
    | 1 => xq 17 = .int .i64 (k : Int)
    | 2 => xq 18 = .pointer (some ⟨B, o + k * 2, none⟩)
    | 3 => xq 19 = .agg #[.int .i64 hf.1, .int .i64 hf.2]
    | 4 => xq 20 = .slice (some ⟨B', o', none⟩) hs.length c'
    | 5 => xq 21 = .int .i64 (k : Int)
    | 6 => xq 22 = .pointer (some ⟨B', o' + k * 2, none⟩)
    | 7 => xq 23 = .agg #[.int .i64 hf.1, .int .i64 hf.2]
    | 8 => xq 24 = .bool false
    | _ => True) [[16], [17], [18], [19], [20], [21], [22], [23], [24]] [] (Below w.heap.size w) (by kernel_rfl)  ?_ ?_ (fun w' w'' hb h => h.trans (hb.mono h.size)) (hBr) ?_ ?_ ?_
   ·intro jq xq xq' wqq h hv
    match jq, h, hv with
    | 0, h, hv => show xq' 16 = .slice (some ⟨B, o, none⟩) hs.length c; rw [← h 16 (by decide)]; exact hv
    | 1, h, hv => show xq' 17 = .int .i64 (k : Int); rw [← h 17 (by decide)]; exact hv
    | 2, h, hv => show xq' 18 = .pointer (some ⟨B, o + k * 2, none⟩); rw [← h 18 (by decide)]; exact hv
    | 3, h, hv => show xq' 19 = .agg #[.int .i64 hf.1, .int .i64 hf.2]; rw [← h 19 (by decide)]; exact hv
    | 4, h, hv => show xq' 20 = .slice (some ⟨B', o', none⟩) hs.length c'; rw [← h 20 (by decide)]; exact hv
    | 5, h, hv => show xq' 21 = .int .i64 (k : Int); rw [← h 21 (by decide)]; exact hv
    | 6, h, hv => show xq' 22 = .pointer (some ⟨B', o' + k * 2, none⟩); rw [← h 22 (by decide)]; exact hv
    | 7, h, hv => show xq' 23 = .agg #[.int .i64 hf.1, .int .i64 hf.2]; rw [← h 23 (by decide)]; exact hv
    | 8, h, hv => show xq' 24 = .bool false; rw [← h 24 (by decide)]; exact hv
    | _ + 9, _, _ => trivial
   ·intro jq xq wqq w' hb' hv
    match jq, hv with
    | 0, hv => exact hv
    | 1, hv => exact hv
    | 2, hv => exact hv
    | 3, hv => exact hv
    | 4, hv => exact hv
    | 5, hv => exact hv
    | 6, hv => exact hv
    | 7, hv => exact hv
    | 8, hv => exact hv
    | _ + 9, _ => trivial
   ·intro jq hj
    match jq, hj with
    | 0, hj => exact absurd hj (by decide)
    | 1, hj => exact absurd hj (by decide)
    | 2, hj => exact absurd hj (by decide)
    | 3, hj => exact absurd hj (by decide)
    | 4, hj => exact absurd hj (by decide)
    | 5, hj => exact absurd hj (by decide)
    | 6, hj => exact absurd hj (by decide)
    | 7, hj => exact absurd hj (by decide)
    | 8, hj => exact absurd hj (by decide)
    | _ + 9, _ => trivial
   ·refine ⟨?_, ?_, ?_, ?_, ?_, ?_, ?_, ?_, ?_, trivial⟩
    ·intro xq w1 hb1 hx K hK0
     have hK := fun v w' hb => hK0 v w' (.inl hb)
     clear hx hKc hK0
     simp only [frameOf, fill, setSlot, sg, Nat.reduceBEq, if_true, if_false, Nat.reduceAdd, Nat.reduceEqDiff, HSL.out] at hK ⊢
     go_wp2_with (fail)
     exact hK _ _ (Below.refl _ _) rfl
    ·intro xq w1 hb1 hx K hK0
     have hK := fun v w' hb => hK0 v w' (.inl hb)
     clear hx hKc hK0
     simp only [frameOf, fill, setSlot, sg, Nat.reduceBEq, if_true, if_false, Nat.reduceAdd, Nat.reduceEqDiff, HSL.out] at hK ⊢
     go_wp2_with (fail)
     exact hK _ _ (Below.refl _ _) rfl
    ·intro xq w1 hb1 hx K hK0
     have hK := fun v w' hb => hK0 v w' (.inl hb)
     have e16 : xq 16 = .slice (some ⟨B, o, none⟩) hs.length c := hx 0 (by rfl) (by rfl)
     have e17 : xq 17 = .int .i64 (k : Int) := hx 1 (by rfl) (by rfl)
     clear hx hKc hK0
     simp only [frameOf, fill, setSlot, sg, Nat.reduceBEq, if_true, if_false, Nat.reduceAdd, Nat.reduceEqDiff, HSL.out] at hK ⊢
     simp only [e16, e17] at hK ⊢
     clear e16 e17
     go_wp2_with (fail)
     exact hK _ _ (Below.refl _ _) rfl
    ·intro xq w1 hb1 hx K hK0
     have hK := fun v w' hb => hK0 v w' (.inl hb)
     have e18 : xq 18 = .pointer (some ⟨B, o + k * 2, none⟩) := hx 2 (by rfl) (by rfl)
     clear hx hKc hK0
     have qHX0 : w1.cell? ⟨B, o + k * 2, none⟩ = some (.int .i64 hf.1) := (hb1.cell (p := ⟨B, o + k * 2, none⟩) hlB).trans HX0.out
     have qHX1 : w1.cell? ⟨B, o + k * 2 + 1, none⟩ = some (.int .i64 hf.2) := (hb1.cell (p := ⟨B, o + k * 2 + 1, none⟩) hlB).trans HX1.out
     simp only [frameOf, fill, setSlot, sg, Nat.reduceBEq, if_true, if_false, Nat.reduceAdd, Nat.reduceEqDiff, HSL.out] at hK ⊢
     simp only [e18] at hK ⊢
     clear e18
     go_wp2_with (fail)
     exact hK _ _ (Below.refl _ _) rfl
    ·intro xq w1 hb1 hx K hK0
     have hK := fun v w' hb => hK0 v w' (.inl hb)
     clear hx hKc hK0
     simp only [frameOf, fill, setSlot, sg, Nat.reduceBEq, if_true, if_false, Nat.reduceAdd, Nat.reduceEqDiff, HSL.out] at hK ⊢
     go_wp2_with (fail)
     exact hK _ _ (Below.refl _ _) rfl
    ·intro xq w1 hb1 hx K hK0
     have hK := fun v w' hb => hK0 v w' (.inl hb)
     clear hx hKc hK0
     simp only [frameOf, fill, setSlot, sg, Nat.reduceBEq, if_true, if_false, Nat.reduceAdd, Nat.reduceEqDiff, HSL.out] at hK ⊢
     go_wp2_with (fail)
     exact hK _ _ (Below.refl _ _) rfl
    ·intro xq w1 hb1 hx K hK0
     have hK := fun v w' hb => hK0 v w' (.inl hb)
     have e20 : xq 20 = .slice (some ⟨B', o', none⟩) hs.length c' := hx 4 (by rfl) (by rfl)
     have e21 : xq 21 = .int .i64 (k : Int) := hx 5 (by rfl) (by rfl)
     clear hx hKc hK0
     simp only [frameOf, fill, setSlot, sg, Nat.reduceBEq, if_true, if_false, Nat.reduceAdd, Nat.reduceEqDiff, HSL.out] at hK ⊢
     simp only [e20, e21] at hK ⊢
     clear e20 e21
     go_wp2_with (fail)
     exact hK _ _ (Below.refl _ _) rfl
    ·intro xq w1 hb1 hx K hK0
     have hK := fun v w' hb => hK0 v w' (.inl hb)
     have e22 : xq 22 = .pointer (some ⟨B', o' + k * 2, none⟩) := hx 6 (by rfl) (by rfl)
     clear hx hKc hK0
     have qHY0 : w1.cell? ⟨B', o' + k * 2, none⟩ = some (.int .i64 hf.1) := (hb1.cell (p := ⟨B', o' + k * 2, none⟩) hlB').trans HY0.out
     have qHY1 : w1.cell? ⟨B', o' + k * 2 + 1, none⟩ = some (.int .i64 hf.2) := (hb1.cell (p := ⟨B', o' + k * 2 + 1, none⟩) hlB').trans HY1.out
     simp only [frameOf, fill, setSlot, sg, Nat.reduceBEq, if_true, if_false, Nat.reduceAdd, Nat.reduceEqDiff, HSL.out] at hK ⊢
     simp only [e22] at hK ⊢
     clear e22
     go_wp2_with (fail)
     exact hK _ _ (Below.refl _ _) rfl
    ·intro xq w1 hb1 hx K hK0
     have hK := fun v w' hb => hK0 v w' (.inl hb)
     have e19 : xq 19 = .agg #[.int .i64 hf.1, .int .i64 hf.2] := hx 3 (by rfl) (by rfl)
     have e23 : xq 23 = .agg #[.int .i64 hf.1, .int .i64 hf.2] := hx 7 (by rfl) (by rfl)
     clear hx hKc hK0
     have hne := neq_span hf.1 hf.2
     simp only [frameOf, fill, setSlot, sg, Nat.reduceBEq, if_true, if_false, Nat.reduceAdd, Nat.reduceEqDiff, HSL.out] at hK ⊢
     simp only [e19, e23] at hK ⊢
     clear e19 e23
     go_wp2_with (fail)
     first | exact hK _ _ (Below.refl _ _) rfl | exact hK _ _ (Below.refl _ _) (congrArg Value.bool (by simp))
   ·intro xq w1 hb1 hx
    have e16 : xq 16 = .slice (some ⟨B, o, none⟩) hs.length c := hx 0 (by decide)
    have e17 : xq 17 = .int .i64 (k : Int) := hx 1 (by decide)
    have e18 : xq 18 = .pointer (some ⟨B, o + k * 2, none⟩) := hx 2 (by decide)
    have e19 : xq 19 = .agg #[.int .i64 hf.1, .int .i64 hf.2] := hx 3 (by decide)
    have e20 : xq 20 = .slice (some ⟨B', o', none⟩) hs.length c' := hx 4 (by decide)
    have e21 : xq 21 = .int .i64 (k : Int) := hx 5 (by decide)
    have e22 : xq 22 = .pointer (some ⟨B', o' + k * 2, none⟩) := hx 6 (by decide)
    have e23 : xq 23 = .agg #[.int .i64 hf.1, .int .i64 hf.2] := hx 7 (by decide)
    have e24 : xq 24 = .bool false := hx 8 (by decide)
    clear hx
    simp only [frameOf, fill, setSlot, sg, Nat.reduceBEq, if_true, if_false, Nat.reduceAdd, Nat.reduceEqDiff, HSL.out]
    simp only [e16, e17, e18, e19, e20, e21, e22, e23, e24]
    clear e16 e17 e18 e19 e20 e21 e22 e23 e24
    refine hKc _ _ ?_
    go_wp2_with fail
    go_roundw
    case rel => exact ⟨k + 1, by go_num, hlt, hb1⟩
    case measure => simp [intOf]; omega
  ·have hkl : k = hs.length := by omega
   subst hkl
   go_wp2_with fail
   go_ret
   exact ⟨rfl, hBr⟩
theorem eqSpan_same (A A' : Option Addr) (c c' : Nat) (hs : List (Int × Int)) (w : World) (hA : SpansAt w A hs) (hA' : SpansAt w A' hs) (hl : hs.length ≤ 20000) :
  Calls Try.prog 31 #[.slice A hs.length c, .slice A' hs.length c'] w fun e w' => e = .returned (.bool true) ∧ Below w.heap.size w w' := by
 have HA := Lib.hid hA
 have HA' := Lib.hid hA'
 clear hA hA'
 go_enter Try.func31, Try.ntmps31
 go_wp2_with (go_at_call 74; refine (equalSpan_same A A' c c' hs _ HA.out HA'.out hl).mono ?_; rintro e w2 ⟨rfl, hb2⟩)
 go_ret
 exact ⟨rfl, hb2⟩
set_option maxRecDepth 100000 in
set_option maxHeartbeats 40000000 in
theorem EqRows_same (P P' : Option Addr) (q q' : Nat) (p : List (List Int)) (w : World) (hP : PlanAt w P p) (hP' : PlanAt w P' p) (hpl : p.length ≤ 20000) (hll : ∀ l ∈ p, l.length ≤ 1000) :
  Calls Try.prog 32 #[.slice P p.length q, .slice P' p.length q'] w fun e w' => e = .returned (.bool true) ∧ Below w.heap.size w w' := by
 have HP := Lib.hid hP
 have HP' := Lib.hid hP'
 have HLL := Lib.hid hll
 clear hP hP' hll
 go_enter Try.func32, Try.ntmps32
 go_wp2_with fail
 go_loopw [14] (fun v14 wr => ∃ k : Nat, v14 = .int .i64 (k : Int) ∧ k ≤ p.length ∧ Below w.heap.size w wr) (fun v14 _ => p.length - (intOf v14).toNat)
 case atStart => exact ⟨0, rfl, Nat.zero_le _, Below.refl _ _⟩
 case round =>
  obtain ⟨k, rfl, hk, hB⟩ := hrel
  by_cases hlt : k < p.length
  ·have hlt' : (k : Int) < p.length := by omega
   obtain ⟨l, hl2⟩ : ∃ z, p[k]? = some z := ⟨_, List.getElem?_eq_getElem hlt⟩
   obtain ⟨B0, oo, rfl, hrow⟩ := (HP.out.up hB) (by omega)
   obtain ⟨B1, o1, rfl, hrow'⟩ := (HP'.out.up hB) (by omega)
   obtain ⟨LA, lc, kl, hI, -⟩ := hrow k l hl2
   obtain ⟨LB, ld, kl', hI', -⟩ := hrow' k l hl2
   have lP := World.block_lt_of_cell? wr _ kl
   have lP' := World.block_lt_of_cell? wr _ kl'
   have hlen : l.length ≤ 20000 := Nat.le_trans (HLL.out l (List.mem_of_getElem? hl2)) (by decide)
   have HI := Lib.hid hI
   have HI' := Lib.hid hI'
   have HB := Lib.hid hB
   clear hrow hrow' hI hI' hB hl2
   go_wp2_with (go_at_call 75; refine (equalInt_same LA LB lc ld l _ (HI.out.up zg) (HI'.out.up zg) hlen).mono ?_; rintro e w2 ⟨rfl, hb2⟩; have hB2 := HB.out.trans (hb2.mono HB.out.size))
   go_roundw
   case rel => exact ⟨k + 1, by go_num, hlt, hB2⟩
   case measure => first | (simp [intOf]; done) | (simp [intOf]; omega)
  ·have hkl : k = p.length := by omega
   subst hkl
   go_wp2_with fail
   go_ret
   exact ⟨rfl, hB⟩
theorem set_two : ∀ (ws : List (Int × Int)) (k : Nat) (a b : Int), k < ws.length → ((ws.flatMap spCells).set (k * 2) (.int .i64 a)).set (k * 2 + 1) (.int .i64 b) = (ws.set k (a, b)).flatMap spCells := by
 intro ws
 induction ws with
 | nil => intro k a b h; cases h
 | cons s ws ih =>
  intro k a b h
  cases k with
  | zero => simp [spCells]
  | succ k =>
   have h' : k < ws.length := by simpa using h
   have e := ih k a b h'
   rw [List.flatMap_cons, List.set_cons_succ, List.flatMap_cons]
   have e1 : (k + 1) * 2 = k * 2 + 1 + 1 := by omega
   have e2 : (k + 1) * 2 + 1 = k * 2 + 1 + 1 + 1 := by omega
   rw [e1]
   simp only [spCells, List.cons_append, List.nil_append, List.set_cons_succ]
   rw [e]
theorem set_lo : ∀ (ws : List (Int × Int)) (k : Nat) (s : Int × Int) (a : Int), ws[k]? = some s → (ws.flatMap spCells).set (k * 2) (.int .i64 a) = (ws.set k (a, s.2)).flatMap spCells := by
 intro ws k s a h
 have hl : k < ws.length := (List.getElem?_eq_some_iff.1 h).1
 rw [← set_two ws k a s.2 hl]
 have hq := flat_at spCells 2 spLen ws k 1 s h (by decide)
 have hlt := (List.getElem?_eq_some_iff.1 hq).1
 have hv : (ws.flatMap spCells)[k * 2 + 1] = .int .i64 s.2 := by have := (List.getElem?_eq_some_iff.1 hq).2; rw [this]
 apply List.ext_getElem?
 intro i
 by_cases hi : i = k * 2 + 1
 ·subst hi
  rw [List.getElem?_set_ne (by omega), List.getElem?_set_self (by simpa using hlt), List.getElem?_eq_getElem hlt, hv]
 ·rw [List.getElem?_set_ne (fun e => hi e.symm)]
theorem set_hi : ∀ (ws : List (Int × Int)) (k : Nat) (s : Int × Int) (a : Int), ws[k]? = some s → (ws.flatMap spCells).set (k * 2 + 1) (.int .i64 a) = (ws.set k (s.1, a)).flatMap spCells := by
 intro ws k s a h
 have hl : k < ws.length := (List.getElem?_eq_some_iff.1 h).1
 rw [← set_two ws k s.1 a hl]
 have hq := flat_at spCells 2 spLen ws k 0 s h (by decide)
 rw [Nat.add_zero] at hq
 have hlt := (List.getElem?_eq_some_iff.1 hq).1
 have hv : (ws.flatMap spCells)[k * 2] = .int .i64 s.1 := by have := (List.getElem?_eq_some_iff.1 hq).2; rw [this]
 congr 1
 apply List.ext_getElem?
 intro i
 by_cases hi : i = k * 2
 ·subst hi
  rw [List.getElem?_set_self hlt, List.getElem?_eq_getElem hlt, hv]
 ·rw [List.getElem?_set_ne (fun e => hi e.symm)]
theorem four_of {α : Type} {l : List α} (h : l.length = 4) : ∃ a b c d, l = [a, b, c, d] := by
 match l, h with
 | [a, b, c, d], _ => exact ⟨a, b, c, d, rfl⟩
theorem warm_cell {w : World} {B k : Nat} {t : TypeId} {ws : List (Int × Int)} {s : Int × Int} (h : Holds w B t (ws.flatMap spCells).toArray) (hs : ws[k]? = some s) : w.cell? ⟨B, k * 2, none⟩ = some (.int .i64 s.1) ∧ w.cell? ⟨B, k * 2 + 1, none⟩ = some (.int .i64 s.2) := by
 have q0 := flat_at spCells 2 spLen ws k 0 s hs (by decide)
 have q1 := flat_at spCells 2 spLen ws k 1 s hs (by decide)
 rw [Nat.add_zero] at q0
 exact ⟨(h.cell _).trans (by rw [List.getElem?_toArray]; exact q0), (h.cell _).trans (by rw [List.getElem?_toArray]; exact q1)⟩
def firstOf (bs : List Bn) (k : Nat) : List (Int × Int) := (bs.take k).map (fun x => (x.warm, x.warm)) ++ List.replicate (4 - k) (0, 0)
theorem first_len {bs : List Bn} {k : Nat} (hk : k ≤ bs.length) (h4 : bs.length ≤ 4) : (firstOf bs k).length = 4 := by
 unfold firstOf
 rw [List.length_append, List.length_map, List.length_take, List.length_replicate]
 omega
theorem first_step {bs : List Bn} {k : Nat} {x : Bn} (hx : bs[k]? = some x) (h4 : bs.length ≤ 4) : (firstOf bs k).set k (x.warm, x.warm) = firstOf bs (k + 1) := by
 have hk : k < bs.length := (List.getElem?_eq_some_iff.1 hx).1
 unfold firstOf
 have hl : ((bs.take k).map (fun x => (x.warm, x.warm))).length = k := by rw [List.length_map, List.length_take]; omega
 rw [List.set_append_right _ _ (by omega), hl, Nat.sub_self, List.take_add_one, hx, show 4 - k = (4 - (k + 1)) + 1 from by omega, List.replicate_succ, List.set_cons_zero]
 simp
set_option maxRecDepth 100000 in
set_option maxHeartbeats 40000000 in
theorem atFirst_any (b : Br) (A : Option Addr) (c : Nat) (bs : List Bn) (w : World) (hA : BinsAt w A bs) (hl : bs.length ≤ 4) :
  Calls Try.prog 73 #[.agg #[.int .i64 b.cool, .int .i64 b.gangs, .int .i64 b.r0, .int .i64 b.r1, .int .i64 b.r2, .int .i64 b.r3, .int .i64 b.r4, .int .i64 b.r5, .slice A bs.length c]] w fun e w' => e = .returned (.agg ((firstOf bs bs.length).flatMap spCells).toArray) ∧ Below w.heap.size w w' := by
 have HA := Lib.hid hA
 clear hA
 go_enter Try.func73, Try.ntmps73
 go_wp2_with fail
 go_loopw [9] (fun v9 wr => ∃ k : Nat, v9 = .int .i64 (k : Int) ∧ k ≤ bs.length ∧ Holds wr (w.heap.size + 1 + 1) 110 ((firstOf bs k).flatMap spCells).toArray ∧ Holds wr (w.heap.size + 1) 110 #[.int .i64 0, .int .i64 0, .int .i64 0, .int .i64 0, .int .i64 0, .int .i64 0, .int .i64 0, .int .i64 0] ∧ Below w.heap.size w wr) (fun v9 _ => bs.length - (intOf v9).toNat)
 case atStart => exact ⟨0, rfl, Nat.zero_le _, (show Holds _ (w.heap.size + 1 + 1) 110 #[.int .i64 0, .int .i64 0, .int .i64 0, .int .i64 0, .int .i64 0, .int .i64 0, .int .i64 0, .int .i64 0] from by (repeat first | (with_reducible first | assumption | apply Holds.set4 | apply Holds.set2 | apply Holds.putL | ((refine Holds.new' _ _ ?_); (simp; done)) | refine Holds.alloc ?_ _ | refine Holds.drew ?_ | refine Holds.far ?_ (by simp only [ne_eq]; omega) _) | rfl)), (show Holds _ (w.heap.size + 1) 110 #[.int .i64 0, .int .i64 0, .int .i64 0, .int .i64 0, .int .i64 0, .int .i64 0, .int .i64 0, .int .i64 0] from by (repeat first | (with_reducible first | assumption | apply Holds.set4 | apply Holds.set2 | apply Holds.putL | ((refine Holds.new' _ _ ?_); (simp; done)) | refine Holds.alloc ?_ _ | refine Holds.drew ?_ | refine Holds.far ?_ (by simp only [ne_eq]; omega) _) | rfl)), zg⟩
 case round =>
  obtain ⟨k, rfl, hk, hW, hR, hB⟩ := hrel
  have HB := Lib.hid hB
  have HW := Lib.hid hW
  have HR := Lib.hid hR
  clear hB hW hR
  by_cases hlt : k < bs.length
  ·have hlt' : (k : Int) < bs.length := by omega
   have hk4 : (k : Int) < 4 := by omega
   obtain ⟨x, hx⟩ : ∃ z, bs[k]? = some z := ⟨_, List.getElem?_eq_getElem hlt⟩
   obtain ⟨E0, oo, rfl, hcell⟩ := (HA.out.up HB.out) (by omega)
   have ke0 : wr.cell? ⟨E0, oo + k * 4, none⟩ = some (.int .i64 x.warm) := hcell k x hx 0 _ rfl
   have ke1 : wr.cell? ⟨E0, oo + k * 4 + 1, none⟩ = some (.int .i64 x.mark) := hcell k x hx 1 _ rfl
   have ke2 : wr.cell? ⟨E0, oo + k * 4 + 2, none⟩ = some (.int .i64 x.lo) := hcell k x hx 2 _ rfl
   have ke3 : wr.cell? ⟨E0, oo + k * 4 + 3, none⟩ = some (.int .i64 x.hi) := hcell k x hx 3 _ rfl
   have lE := World.block_lt_of_cell? wr _ ke0
   obtain ⟨s, hs⟩ : ∃ z, (firstOf bs k)[k]? = some z := ⟨_, List.getElem?_eq_getElem (by rw [first_len hk hl]; omega)⟩
   obtain ⟨kw0, kw1⟩ := warm_cell HW.out hs
   have zw0 := HW.out.frozen (k * 2)
   have zw1 := HW.out.frozen (k * 2 + 1)
   have ltW := HW.out.lt
   have ltR := HR.out.lt
   have HST := Lib.hid (first_step hx hl)
   have HFL := Lib.hid (first_len hk hl)
   clear hcell hx hs
   go_wp2_with fail
   go_roundw
   case rel => exact ⟨k + 1, by go_num, hlt, (by rw [← HST.out, ← set_two _ k _ _ (by rw [HFL.out]; omega)]; exact ((HW.out.setL _ _).setL _ _).alloc _), ((HR.out.far (p := ⟨w.heap.size + 1 + 1, k * 2, none⟩) (by simp only [ne_eq]; omega) _).far (p := ⟨w.heap.size + 1 + 1, k * 2 + 1, none⟩) (by simp only [ne_eq]; omega) _).alloc _, HB.out.trans zg⟩
   case measure => first | (simp [intOf]; done) | (simp [intOf]; omega)
  ·have hkl : k = bs.length := by omega
   subst hkl
   obtain ⟨s0, s1, s2, s3, e4⟩ := four_of (first_len (Nat.le_refl bs.length) hl)
   have H4 := Lib.hid e4
   have HW4 : Hid (Holds wr (w.heap.size + 1 + 1) 110 #[.int .i64 s0.1, .int .i64 s0.2, .int .i64 s1.1, .int .i64 s1.2, .int .i64 s2.1, .int .i64 s2.2, .int .i64 s3.1, .int .i64 s3.2]) := Lib.hid (by have h := HW.out; rw [e4] at h; exact h)
   clear e4
   obtain ⟨kw0, kw1, kw2, kw3, kw4, kw5, kw6, kw7⟩ := HW4.out.c8
   obtain ⟨kr0, kr1, kr2, kr3, kr4, kr5, kr6, kr7⟩ := HR.out.c8
   obtain ⟨zr0, zr1, zr2, zr3, zr4, zr5, zr6, zr7⟩ := HR.out.f8
   have ltW := HW4.out.lt
   have ltR := HR.out.lt
   go_wp2_with fail
   refine ret_cell (t := 110) (cs := #[.int .i64 s0.1, .int .i64 s0.2, .int .i64 s1.1, .int .i64 s1.2, .int .i64 s2.1, .int .i64 s2.2, .int .i64 s3.1, .int .i64 s3.2]) rfl rfl (Holds.set8 _ _ _ _ _ _ _ _ HR.out) Try.underlying110 rfl (by kernel_rfl) rfl ⟨by rw [H4.out]; rfl, HB.out.trans zg⟩
end Go.Proofs.Ytokafjkinkafiaa
