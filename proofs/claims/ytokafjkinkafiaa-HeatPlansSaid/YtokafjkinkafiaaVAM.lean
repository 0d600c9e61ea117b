import Derived.Shelf.Abstract
import Derived.Test.YtokafjkinkafiaaVAA
import Derived.Test.YtokafjkinkafiaaVAF
import Derived.Test.YtokafjkinkafiaaVAL
set_option linter.unusedSimpArgs false
set_option linter.unusedVariables false
namespace Go.Proofs.Ytokafjkinkafiaa
open Go.RowKit
open Go.RowKit Go.Shelf
def aft (bs : List Bn) (ws : List (Int × Int)) (k : Nat) : List Bn := bs.mapIdx (fun i x => if i < k then ⟨((ws[i]?).getD (0, 0)).2, x.mark, x.lo, x.hi⟩ else x)
theorem aft_len (bs : List Bn) (ws : List (Int × Int)) (k : Nat) : (aft bs ws k).length = bs.length := by simp [aft]
theorem aft_zero (bs : List Bn) (ws : List (Int × Int)) : aft bs ws 0 = bs := by
 apply List.ext_getElem?
 intro i
 unfold aft
 rw [List.getElem?_mapIdx]
 cases bs[i]? <;> simp
theorem aft_at {bs : List Bn} {ws : List (Int × Int)} {k i : Nat} {x : Bn} (hx : bs[i]? = some x) (hi : k ≤ i) : (aft bs ws k)[i]? = some x := by
 unfold aft
 rw [List.getElem?_mapIdx, hx]
 simp [show ¬ i < k by omega]
theorem aft_step {bs : List Bn} {ws : List (Int × Int)} {k : Nat} {x : Bn} {s : Int × Int} (hx : bs[k]? = some x) (hs : ws[k]? = some s) : (aft bs ws k).set k ⟨s.2, x.mark, x.lo, x.hi⟩ = aft bs ws (k + 1) := by
 apply List.ext_getElem?
 intro i
 by_cases e : i = k
 ·subst e
  rw [List.getElem?_set_self (by rw [aft_len]; exact (List.getElem?_eq_some_iff.1 hx).1)]
  unfold aft
  rw [List.getElem?_mapIdx, hx]
  simp [hs]
 ·rw [List.getElem?_set_ne (fun h => e h.symm)]
  unfold aft
  rw [List.getElem?_mapIdx, List.getElem?_mapIdx]
  cases bs[i]? with
  | none => rfl
  | some y =>
   simp only [Option.map_some]
   by_cases h : i < k
   ·rw [if_pos h, if_pos (by omega)]
   ·rw [if_neg h, if_neg (by omega)]
theorem set_warm {bs : List Bn} {k : Nat} {x : Bn} (v : Int) (hx : bs[k]? = some x) : (bs.flatMap Bn.cells).set (k * 4) (.int .i64 v) = (bs.set k ⟨v, x.mark, x.lo, x.hi⟩).flatMap Bn.cells := by
 obtain ⟨T, D, h1, h2, h3⟩ := flat_split Bn.len bs k x hx
 rw [h3, h1, ← h2, List.set_append_right _ _ (Nat.le_refl _), Nat.sub_self]
 rfl
def lastW (ws : List (Int × Int)) (ys : List (Nat × List (Int × Int))) : List (Int × Int) := (ys.getLast?.map (·.2)).getD ws
theorem lastW_snoc (ws : List (Int × Int)) (ys : List (Nat × List (Int × Int))) (y : Nat × List (Int × Int)) : lastW ws (ys ++ [y]) = y.2 := by simp [lastW]
theorem lastW_four {ws : List (Int × Int)} {ys : List (Nat × List (Int × Int))} (h : ws.length = 4) (hy : ∀ y ∈ ys, y.2.length = 4) : (lastW ws ys).length = 4 := by
 unfold lastW
 cases hl : ys.getLast? with
 | none => exact h
 | some y => exact hy y (List.mem_of_getLast? hl)
theorem results_row1 {fn : Func} {p u : Tmp} {ty : TypeId} (h : fn.results = #[.cell p ty, .tmp u]) {tmps : Array Value} {P : Program} {w : World} {g : Nat} {cs : Array Value} {v : Value}
  (hp : tmps.getD p undef = .pointer (some ⟨g, 0, none⟩)) (hq : tmps.getD u undef = v) (hl : (loadVar ty ⟨g, 0, none⟩).run P w = .ok (.agg cs) w) : (results fn tmps).run P w = .ok (.tuple #[.agg cs, v]) w := by
 rw [results_cell_tmp h, hp, hq]; simp [asAddr, Result.andThen, hl]
set_option maxRecDepth 100000 in
set_option maxHeartbeats 40000000 in
theorem After_err (b : Br) (A : Option Addr) (c : Nat) (bs : List Bn) (hl : bs.length ≤ 1000) (P : Option Addr) (q : Nat) (p : List (List Int)) (hpl : p.length ≤ 1000000) (hll : ∀ l ∈ p, l.length ≤ 1000) (he : checkErr b bs p ≠ 0) (w : World) (hA : BinsAt w A bs) (hP : PlanAt w P p) :
  Calls Try.prog 30 #[.agg #[.int .i64 b.cool, .int .i64 b.gangs, .int .i64 b.r0, .int .i64 b.r1, .int .i64 b.r2, .int .i64 b.r3, .int .i64 b.r4, .int .i64 b.r5, .slice A bs.length c], .slice P p.length q] w fun e w' => e = .returned (.tuple #[.agg #[.int .i64 0, .int .i64 0, .int .i64 0, .int .i64 0, .int .i64 0, .int .i64 0, .int .i64 0, .int .i64 0, .slice none 0 0], .int .i64 (checkErr b bs p)]) ∧ Below w.heap.size w w' := by
 obtain ⟨E, hE⟩ : ∃ z, checkErr b bs p = z := ⟨_, rfl⟩
 rw [hE] at he ⊢
 have HEQ := Lib.hid hE
 have hq : (E != 0) = true := by simpa using he
 have hq2 : (E == 0) = false := by simpa using he
 clear hE
 have HA := Lib.hid hA
 have HP := Lib.hid hP
 have HLL := Lib.hid hll
 clear hA hP hll
 refine (callsIn_wide (n := 8)).1 (callsIn_of_wp_marks Try.func30 rfl trivial ?_ rfl)
 refine wpIn_wide.2 ?_
 simp only [Try.ntmps30, List.size_toArray, List.length_cons, List.length_nil, Nat.reduceAdd, Nat.reduceSub, Array.replicate_succ, Array.replicate_zero, List.push_toArray, List.append_toArray, List.nil_append, List.cons_append]
 go_wp2_with fail
 refine (checkPlan_any b A c bs P q p _ (HA.out.up zg) hl (HP.out.up zg) hpl HLL.out).mono ?_
 rw [HEQ.out]
 rintro e w1 ⟨rfl, hb1⟩
 have Hb1 := Lib.hid (Holds.up (zp1 : Holds _ (w.heap.size) 25 #[.int .i64 b.cool, .int .i64 b.gangs, .int .i64 b.r0, .int .i64 b.r1, .int .i64 b.r2, .int .i64 b.r3, .int .i64 b.r4, .int .i64 b.r5, .slice A bs.length c]) hb1)
 have Hr1 := Lib.hid (Holds.up (zp1 : Holds _ (w.heap.size + 1) 25 #[.int .i64 0, .int .i64 0, .int .i64 0, .int .i64 0, .int .i64 0, .int .i64 0, .int .i64 0, .int .i64 0, .slice none 0 0]) hb1)
 have HS1 : Hid (Below w.heap.size w w1) := Lib.hid (Below.trans zg (hb1.mono (by first | exact Nat.le_refl _ | omega | (simp; done) | (simp; omega))))
 have HB1 := HS1
 have hs1 := HB1.out.size
 have hst1 := HS1.out.size
 have HA1 := Lib.hid (HA.out.up HS1.out)
 have HP1 := Lib.hid (HP.out.up HS1.out)
 clear hb1
 have kb0 : w1.cell? ⟨w.heap.size, 0, none⟩ = some (.int .i64 b.cool) := Hb1.out.cell 0
 have kb1 : w1.cell? ⟨w.heap.size, 1, none⟩ = some (.int .i64 b.gangs) := Hb1.out.cell 1
 have kb2 : w1.cell? ⟨w.heap.size, 2, none⟩ = some (.int .i64 b.r0) := Hb1.out.cell 2
 have kb3 : w1.cell? ⟨w.heap.size, 3, none⟩ = some (.int .i64 b.r1) := Hb1.out.cell 3
 have kb4 : w1.cell? ⟨w.heap.size, 4, none⟩ = some (.int .i64 b.r2) := Hb1.out.cell 4
 have kb5 : w1.cell? ⟨w.heap.size, 5, none⟩ = some (.int .i64 b.r3) := Hb1.out.cell 5
 have kb6 : w1.cell? ⟨w.heap.size, 6, none⟩ = some (.int .i64 b.r4) := Hb1.out.cell 6
 have kb7 : w1.cell? ⟨w.heap.size, 7, none⟩ = some (.int .i64 b.r5) := Hb1.out.cell 7
 have kb8 : w1.cell? ⟨w.heap.size, 8, none⟩ = some (.slice A bs.length c) := Hb1.out.cell 8
 have lt_b : w.heap.size < w1.heap.size := Hb1.out.lt
 have kr0 : w1.cell? ⟨w.heap.size + 1, 0, none⟩ = some (.int .i64 0) := Hr1.out.cell 0
 have kr1 : w1.cell? ⟨w.heap.size + 1, 1, none⟩ = some (.int .i64 0) := Hr1.out.cell 1
 have kr2 : w1.cell? ⟨w.heap.size + 1, 2, none⟩ = some (.int .i64 0) := Hr1.out.cell 2
 have kr3 : w1.cell? ⟨w.heap.size + 1, 3, none⟩ = some (.int .i64 0) := Hr1.out.cell 3
 have kr4 : w1.cell? ⟨w.heap.size + 1, 4, none⟩ = some (.int .i64 0) := Hr1.out.cell 4
 have kr5 : w1.cell? ⟨w.heap.size + 1, 5, none⟩ = some (.int .i64 0) := Hr1.out.cell 5
 have kr6 : w1.cell? ⟨w.heap.size + 1, 6, none⟩ = some (.int .i64 0) := Hr1.out.cell 6
 have kr7 : w1.cell? ⟨w.heap.size + 1, 7, none⟩ = some (.int .i64 0) := Hr1.out.cell 7
 have kr8 : w1.cell? ⟨w.heap.size + 1, 8, none⟩ = some (.slice none 0 0) := Hr1.out.cell 8
 have zr0 : w1.frozen? ⟨w.heap.size + 1, 0, none⟩ = false := Hr1.out.frozen 0
 have zr1 : w1.frozen? ⟨w.heap.size + 1, 1, none⟩ = false := Hr1.out.frozen 1
 have zr2 : w1.frozen? ⟨w.heap.size + 1, 2, none⟩ = false := Hr1.out.frozen 2
 have zr3 : w1.frozen? ⟨w.heap.size + 1, 3, none⟩ = false := Hr1.out.frozen 3
 have zr4 : w1.frozen? ⟨w.heap.size + 1, 4, none⟩ = false := Hr1.out.frozen 4
 have zr5 : w1.frozen? ⟨w.heap.size + 1, 5, none⟩ = false := Hr1.out.frozen 5
 have zr6 : w1.frozen? ⟨w.heap.size + 1, 6, none⟩ = false := Hr1.out.frozen 6
 have zr7 : w1.frozen? ⟨w.heap.size + 1, 7, none⟩ = false := Hr1.out.frozen 7
 have zr8 : w1.frozen? ⟨w.heap.size + 1, 8, none⟩ = false := Hr1.out.frozen 8
 have lt_r : w.heap.size + 1 < w1.heap.size := Hr1.out.lt
 go_wp2_with fail
 have HRZ := Holds.set9 (.int .i64 0) (.int .i64 0) (.int .i64 0) (.int .i64 0) (.int .i64 0) (.int .i64 0) (.int .i64 0) (.int .i64 0) (.slice none 0 0) Hr1.out
 exact leaves_no (results_row1 rfl rfl rfl (run_loadVar_row _ _ _ _ _ (0, 0) _ HRZ Try.underlying25 rfl (by kernel_rfl))) ⟨rfl, HB1.out.trans zg⟩
set_option maxRecDepth 100000 in
set_option maxHeartbeats 40000000 in
theorem After_burns (b : Br) (A : Option Addr) (c : Nat) (bs : List Bn) (hl : bs.length ≤ 1000) (P : Option Addr) (q : Nat) (p : List (List Int)) (hpl : p.length ≤ 1000000) (hll : ∀ l ∈ p, l.length ≤ 1000) (he : checkErr b bs p = 0) (day bin : Nat) (hF : First (burnF b bs p) day bin true) (w : World) (hA : BinsAt w A bs) (hP : PlanAt w P p) :
  Calls Try.prog 30 #[.agg #[.int .i64 b.cool, .int .i64 b.gangs, .int .i64 b.r0, .int .i64 b.r1, .int .i64 b.r2, .int .i64 b.r3, .int .i64 b.r4, .int .i64 b.r5, .slice A bs.length c], .slice P p.length q] w fun e w' => e = .returned (.tuple #[.agg #[.int .i64 0, .int .i64 0, .int .i64 0, .int .i64 0, .int .i64 0, .int .i64 0, .int .i64 0, .int .i64 0, .slice none 0 0], .int .i64 8]) ∧ Below w.heap.size w w' := by
 have HEQ := Lib.hid he
 have HF := Lib.hid hF
 obtain ⟨hb, hp2, hin⟩ := check_right HEQ.out
 have HBE := Lib.hid hb
 have HIN := Lib.hid hin
 clear he hF hb hin
 have HA := Lib.hid hA
 have HP := Lib.hid hP
 have HLL := Lib.hid hll
 clear hA hP hll
 refine (callsIn_wide (n := 8)).1 (callsIn_of_wp_marks Try.func30 rfl trivial ?_ rfl)
 refine wpIn_wide.2 ?_
 simp only [Try.ntmps30, List.size_toArray, List.length_cons, List.length_nil, Nat.reduceAdd, Nat.reduceSub, Array.replicate_succ, Array.replicate_zero, List.push_toArray, List.append_toArray, List.nil_append, List.cons_append]
 go_wp2_with fail
 refine (checkPlan_any b A c bs P q p _ (HA.out.up zg) hl (HP.out.up zg) hpl HLL.out).mono ?_
 rw [HEQ.out]
 rintro e w1 ⟨rfl, hb1⟩
 have Hb1 := Lib.hid (Holds.up (zp1 : Holds _ (w.heap.size) 25 #[.int .i64 b.cool, .int .i64 b.gangs, .int .i64 b.r0, .int .i64 b.r1, .int .i64 b.r2, .int .i64 b.r3, .int .i64 b.r4, .int .i64 b.r5, .slice A bs.length c]) hb1)
 have Hr1 := Lib.hid (Holds.up (zp1 : Holds _ (w.heap.size + 1) 25 #[.int .i64 0, .int .i64 0, .int .i64 0, .int .i64 0, .int .i64 0, .int .i64 0, .int .i64 0, .int .i64 0, .slice none 0 0]) hb1)
 have HS1 : Hid (Below w.heap.size w w1) := Lib.hid (Below.trans zg (hb1.mono (by first | exact Nat.le_refl _ | omega | (simp; done) | (simp; omega))))
 have HB1 := HS1
 have hs1 := HB1.out.size
 have hst1 := HS1.out.size
 have HA1 := Lib.hid (HA.out.up HS1.out)
 have HP1 := Lib.hid (HP.out.up HS1.out)
 clear hb1
 have kb0 : w1.cell? ⟨w.heap.size, 0, none⟩ = some (.int .i64 b.cool) := Hb1.out.cell 0
 have kb1 : w1.cell? ⟨w.heap.size, 1, none⟩ = some (.int .i64 b.gangs) := Hb1.out.cell 1
 have kb2 : w1.cell? ⟨w.heap.size, 2, none⟩ = some (.int .i64 b.r0) := Hb1.out.cell 2
 have kb3 : w1.cell? ⟨w.heap.size, 3, none⟩ = some (.int .i64 b.r1) := Hb1.out.cell 3
 have kb4 : w1.cell? ⟨w.heap.size, 4, none⟩ = some (.int .i64 b.r2) := Hb1.out.cell 4
 have kb5 : w1.cell? ⟨w.heap.size, 5, none⟩ = some (.int .i64 b.r3) := Hb1.out.cell 5
 have kb6 : w1.cell? ⟨w.heap.size, 6, none⟩ = some (.int .i64 b.r4) := Hb1.out.cell 6
 have kb7 : w1.cell? ⟨w.heap.size, 7, none⟩ = some (.int .i64 b.r5) := Hb1.out.cell 7
 have kb8 : w1.cell? ⟨w.heap.size, 8, none⟩ = some (.slice A bs.length c) := Hb1.out.cell 8
 have lt_b : w.heap.size < w1.heap.size := Hb1.out.lt
 go_wp2_with fail
 refine (burns_is b A c bs HBE.out P q p hp2 HLL.out HIN.out day bin true HF.out _ HA1.out HP1.out).mono ?_
 rintro e w2 ⟨rfl, hb2⟩
 have Hb2 := Lib.hid (Holds.up (by have h := Hb1.out; exact zp1 : Holds _ (w.heap.size) 25 #[.int .i64 b.cool, .int .i64 b.gangs, .int .i64 b.r0, .int .i64 b.r1, .int .i64 b.r2, .int .i64 b.r3, .int .i64 b.r4, .int .i64 b.r5, .slice A bs.length c]) hb2)
 have Hr2 := Lib.hid (Holds.up (by have h := Hr1.out; exact zp1 : Holds _ (w.heap.size + 1) 25 #[.int .i64 0, .int .i64 0, .int .i64 0, .int .i64 0, .int .i64 0, .int .i64 0, .int .i64 0, .int .i64 0, .slice none 0 0]) hb2)
 have HS2 : Hid (Below w1.heap.size w1 w2) := Lib.hid (Below.trans zg (hb2.mono (by first | exact Nat.le_refl _ | omega | (simp; done) | (simp; omega))))
 have HB2 : Hid (Below w.heap.size w w2) := Lib.hid (HB1.out.trans (HS2.out.mono hs1))
 have hs2 := HB2.out.size
 have hst2 := HS2.out.size
 have HA2 := Lib.hid (HA1.out.up HS2.out)
 have HP2 := Lib.hid (HP1.out.up HS2.out)
 clear hb2
 clear kb0 kb1 kb2 kb3 kb4 kb5 kb6 kb7 kb8 lt_b
 have kb0 : w2.cell? ⟨w.heap.size, 0, none⟩ = some (.int .i64 b.cool) := Hb2.out.cell 0
 have kb1 : w2.cell? ⟨w.heap.size, 1, none⟩ = some (.int .i64 b.gangs) := Hb2.out.cell 1
 have kb2 : w2.cell? ⟨w.heap.size, 2, none⟩ = some (.int .i64 b.r0) := Hb2.out.cell 2
 have kb3 : w2.cell? ⟨w.heap.size, 3, none⟩ = some (.int .i64 b.r1) := Hb2.out.cell 3
 have kb4 : w2.cell? ⟨w.heap.size, 4, none⟩ = some (.int .i64 b.r2) := Hb2.out.cell 4
 have kb5 : w2.cell? ⟨w.heap.size, 5, none⟩ = some (.int .i64 b.r3) := Hb2.out.cell 5
 have kb6 : w2.cell? ⟨w.heap.size, 6, none⟩ = some (.int .i64 b.r4) := Hb2.out.cell 6
 have kb7 : w2.cell? ⟨w.heap.size, 7, none⟩ = some (.int .i64 b.r5) := Hb2.out.cell 7
 have kb8 : w2.cell? ⟨w.heap.size, 8, none⟩ = some (.slice A bs.length c) := Hb2.out.cell 8
 have lt_b : w.heap.size < w2.heap.size := Hb2.out.lt
 have kr0 : w2.cell? ⟨w.heap.size + 1, 0, none⟩ = some (.int .i64 0) := Hr2.out.cell 0
 have kr1 : w2.cell? ⟨w.heap.size + 1, 1, none⟩ = some (.int .i64 0) := Hr2.out.cell 1
 have kr2 : w2.cell? ⟨w.heap.size + 1, 2, none⟩ = some (.int .i64 0) := Hr2.out.cell 2
 have kr3 : w2.cell? ⟨w.heap.size + 1, 3, none⟩ = some (.int .i64 0) := Hr2.out.cell 3
 have kr4 : w2.cell? ⟨w.heap.size + 1, 4, none⟩ = some (.int .i64 0) := Hr2.out.cell 4
 have kr5 : w2.cell? ⟨w.heap.size + 1, 5, none⟩ = some (.int .i64 0) := Hr2.out.cell 5
 have kr6 : w2.cell? ⟨w.heap.size + 1, 6, none⟩ = some (.int .i64 0) := Hr2.out.cell 6
 have kr7 : w2.cell? ⟨w.heap.size + 1, 7, none⟩ = some (.int .i64 0) := Hr2.out.cell 7
 have kr8 : w2.cell? ⟨w.heap.size + 1, 8, none⟩ = some (.slice none 0 0) := Hr2.out.cell 8
 have zr0 : w2.frozen? ⟨w.heap.size + 1, 0, none⟩ = false := Hr2.out.frozen 0
 have zr1 : w2.frozen? ⟨w.heap.size + 1, 1, none⟩ = false := Hr2.out.frozen 1
 have zr2 : w2.frozen? ⟨w.heap.size + 1, 2, none⟩ = false := Hr2.out.frozen 2
 have zr3 : w2.frozen? ⟨w.heap.size + 1, 3, none⟩ = false := Hr2.out.frozen 3
 have zr4 : w2.frozen? ⟨w.heap.size + 1, 4, none⟩ = false := Hr2.out.frozen 4
 have zr5 : w2.frozen? ⟨w.heap.size + 1, 5, none⟩ = false := Hr2.out.frozen 5
 have zr6 : w2.frozen? ⟨w.heap.size + 1, 6, none⟩ = false := Hr2.out.frozen 6
 have zr7 : w2.frozen? ⟨w.heap.size + 1, 7, none⟩ = false := Hr2.out.frozen 7
 have zr8 : w2.frozen? ⟨w.heap.size + 1, 8, none⟩ = false := Hr2.out.frozen 8
 have lt_r : w.heap.size + 1 < w2.heap.size := Hr2.out.lt
 go_wp2_with fail
 have HRZ := Holds.set9 (.int .i64 0) (.int .i64 0) (.int .i64 0) (.int .i64 0) (.int .i64 0) (.int .i64 0) (.int .i64 0) (.int .i64 0) (.slice none 0 0) Hr2.out
 exact leaves_no (results_row1 rfl rfl rfl (run_loadVar_row _ _ _ _ _ (0, 0) _ HRZ Try.underlying25 rfl (by kernel_rfl))) ⟨rfl, HB2.out.trans zg⟩
attribute [local go_sem] Oper.semAt_some
set_option maxRecDepth 100000 in
set_option maxHeartbeats 40000000 in
theorem After_good (b : Br) (A : Option Addr) (c : Nat) (bs : List Bn) (hl : bs.length ≤ 1000) (P : Option Addr) (q : Nat) (p : List (List Int)) (hpl : p.length ≤ 1000000) (hll : ∀ l ∈ p, l.length ≤ 1000) (he : checkErr b bs p = 0) (hF : First (burnF b bs p) 0 0 false) (w : World) (hA : BinsAt w A bs) (hP : PlanAt w P p) :
  Calls Try.prog 30 #[.agg #[.int .i64 b.cool, .int .i64 b.gangs, .int .i64 b.r0, .int .i64 b.r1, .int .i64 b.r2, .int .i64 b.r3, .int .i64 b.r4, .int .i64 b.r5, .slice A bs.length c], .slice P p.length q] w fun e w' => ∃ G, e = .returned (.tuple #[.agg #[.int .i64 b.cool, .int .i64 b.gangs, .int .i64 b.r0, .int .i64 b.r1, .int .i64 b.r2, .int .i64 b.r3, .int .i64 b.r4, .int .i64 b.r5, .slice (some ⟨G, 0, none⟩) bs.length bs.length], .int .i64 0]) ∧ Holds w' G 39 ((aft bs (lastW (firstOf bs bs.length) (wallsFrom b bs 0 (firstOf bs bs.length) p)) bs.length).flatMap Bn.cells).toArray ∧ w.heap.size ≤ G ∧ Below w.heap.size w w' := by
 have HEQ := Lib.hid he
 have HF := Lib.hid hF
 have HA := Lib.hid hA
 have HP := Lib.hid hP
 have HLL := Lib.hid hll
 obtain ⟨hb, hp2, hin⟩ := check_right HEQ.out
 have HBE := Lib.hid hb
 have HIN := Lib.hid hin
 have hgood := barn_right hb
 have hn4 : bs.length ≤ 4 := by have := hgood.1; simp only [within, Bool.and_eq_true, decide_eq_true_eq] at this; omega
 have H4 : Hid (∀ y ∈ (wallsFrom b bs 0 (firstOf bs bs.length) p), y.2.length = 4) := Lib.hid (walls_four b bs p 0 _ (first_len (Nat.le_refl _) hn4))
 obtain ⟨f0, f1, f2, f3, e4⟩ := four_of (first_len (Nat.le_refl bs.length) hn4)
 have HFI := Lib.hid e4
 obtain ⟨ws, hws⟩ : ∃ z, (lastW (firstOf bs bs.length) (wallsFrom b bs 0 (firstOf bs bs.length) p)) = z := ⟨_, rfl⟩
 rw [hws]
 have HWS := Lib.hid hws
 clear hws he hF hgood hb hin hA hP hll e4
 refine (callsIn_wide (n := 8)).1 (callsIn_of_wp_marks Try.func30 rfl trivial ?_ rfl)
 refine wpIn_wide.2 ?_
 simp only [Try.ntmps30, List.size_toArray, List.length_cons, List.length_nil, Nat.reduceAdd, Nat.reduceSub, Array.replicate_succ, Array.replicate_zero, List.push_toArray, List.append_toArray, List.nil_append, List.cons_append]
 go_wp2_with fail
 refine (checkPlan_any b A c bs P q p _ (HA.out.up zg) hl (HP.out.up zg) hpl HLL.out).mono ?_
 rw [HEQ.out]
 rintro e w1 ⟨rfl, hb1⟩
 have Hb1 := Lib.hid (Holds.up (zp1 : Holds _ (w.heap.size) 25 #[.int .i64 b.cool, .int .i64 b.gangs, .int .i64 b.r0, .int .i64 b.r1, .int .i64 b.r2, .int .i64 b.r3, .int .i64 b.r4, .int .i64 b.r5, .slice A bs.length c]) hb1)
 have Hr1 := Lib.hid (Holds.up (zp1 : Holds _ (w.heap.size + 1) 25 #[.int .i64 0, .int .i64 0, .int .i64 0, .int .i64 0, .int .i64 0, .int .i64 0, .int .i64 0, .int .i64 0, .slice none 0 0]) hb1)
 have HS1 : Hid (Below w.heap.size w w1) := Lib.hid (Below.trans zg (hb1.mono (by first | exact Nat.le_refl _ | omega | (simp; done) | (simp; omega))))
 have HB1 := HS1
 have hs1 := HB1.out.size
 have hst1 := HS1.out.size
 have HA1 := Lib.hid (HA.out.up HS1.out)
 have HP1 := Lib.hid (HP.out.up HS1.out)
 clear hb1
 have kb0 : w1.cell? ⟨w.heap.size, 0, none⟩ = some (.int .i64 b.cool) := Hb1.out.cell 0
 have kb1 : w1.cell? ⟨w.heap.size, 1, none⟩ = some (.int .i64 b.gangs) := Hb1.out.cell 1
 have kb2 : w1.cell? ⟨w.heap.size, 2, none⟩ = some (.int .i64 b.r0) := Hb1.out.cell 2
 have kb3 : w1.cell? ⟨w.heap.size, 3, none⟩ = some (.int .i64 b.r1) := Hb1.out.cell 3
 have kb4 : w1.cell? ⟨w.heap.size, 4, none⟩ = some (.int .i64 b.r2) := Hb1.out.cell 4
 have kb5 : w1.cell? ⟨w.heap.size, 5, none⟩ = some (.int .i64 b.r3) := Hb1.out.cell 5
 have kb6 : w1.cell? ⟨w.heap.size, 6, none⟩ = some (.int .i64 b.r4) := Hb1.out.cell 6
 have kb7 : w1.cell? ⟨w.heap.size, 7, none⟩ = some (.int .i64 b.r5) := Hb1.out.cell 7
 have kb8 : w1.cell? ⟨w.heap.size, 8, none⟩ = some (.slice A bs.length c) := Hb1.out.cell 8
 have lt_b : w.heap.size < w1.heap.size := Hb1.out.lt
 go_wp2_with fail
 refine (burns_is b A c bs HBE.out P q p hp2 HLL.out HIN.out 0 0 false HF.out _ HA1.out HP1.out).mono ?_
 rintro e w2 ⟨rfl, hb2⟩
 have Hb2 := Lib.hid (Holds.up (by have h := Hb1.out; exact zp1 : Holds _ (w.heap.size) 25 #[.int .i64 b.cool, .int .i64 b.gangs, .int .i64 b.r0, .int .i64 b.r1, .int .i64 b.r2, .int .i64 b.r3, .int .i64 b.r4, .int .i64 b.r5, .slice A bs.length c]) hb2)
 have Hr2 := Lib.hid (Holds.up (by have h := Hr1.out; exact zp1 : Holds _ (w.heap.size + 1) 25 #[.int .i64 0, .int .i64 0, .int .i64 0, .int .i64 0, .int .i64 0, .int .i64 0, .int .i64 0, .int .i64 0, .slice none 0 0]) hb2)
 have HS2 : Hid (Below w1.heap.size w1 w2) := Lib.hid (Below.trans zg (hb2.mono (by first | exact Nat.le_refl _ | omega | (simp; done) | (simp; omega))))
 have HB2 : Hid (Below w.heap.size w w2) := Lib.hid (HB1.out.trans (HS2.out.mono hs1))
 have hs2 := HB2.out.size
 have hst2 := HS2.out.size
 have HA2 := Lib.hid (HA1.out.up HS2.out)
 have HP2 := Lib.hid (HP1.out.up HS2.out)
 clear hb2
 clear kb0 kb1 kb2 kb3 kb4 kb5 kb6 kb7 kb8 lt_b
 have kb0 : w2.cell? ⟨w.heap.size, 0, none⟩ = some (.int .i64 b.cool) := Hb2.out.cell 0
 have kb1 : w2.cell? ⟨w.heap.size, 1, none⟩ = some (.int .i64 b.gangs) := Hb2.out.cell 1
 have kb2 : w2.cell? ⟨w.heap.size, 2, none⟩ = some (.int .i64 b.r0) := Hb2.out.cell 2
 have kb3 : w2.cell? ⟨w.heap.size, 3, none⟩ = some (.int .i64 b.r1) := Hb2.out.cell 3
 have kb4 : w2.cell? ⟨w.heap.size, 4, none⟩ = some (.int .i64 b.r2) := Hb2.out.cell 4
 have kb5 : w2.cell? ⟨w.heap.size, 5, none⟩ = some (.int .i64 b.r3) := Hb2.out.cell 5
 have kb6 : w2.cell? ⟨w.heap.size, 6, none⟩ = some (.int .i64 b.r4) := Hb2.out.cell 6
 have kb7 : w2.cell? ⟨w.heap.size, 7, none⟩ = some (.int .i64 b.r5) := Hb2.out.cell 7
 have kb8 : w2.cell? ⟨w.heap.size, 8, none⟩ = some (.slice A bs.length c) := Hb2.out.cell 8
 have lt_b : w.heap.size < w2.heap.size := Hb2.out.lt
 go_wp2_with fail
 refine (atFirst_any b A c bs _ HA2.out hn4).mono ?_
 rw [HFI.out, wall_vals]
 rintro e w3 ⟨rfl, hb3⟩
 have Hb3 := Lib.hid (Holds.up (by have h := Hb2.out; exact zp1 : Holds _ (w.heap.size) 25 #[.int .i64 b.cool, .int .i64 b.gangs, .int .i64 b.r0, .int .i64 b.r1, .int .i64 b.r2, .int .i64 b.r3, .int .i64 b.r4, .int .i64 b.r5, .slice A bs.length c]) hb3)
 have Hr3 := Lib.hid (Holds.up (by have h := Hr2.out; exact zp1 : Holds _ (w.heap.size + 1) 25 #[.int .i64 0, .int .i64 0, .int .i64 0, .int .i64 0, .int .i64 0, .int .i64 0, .int .i64 0, .int .i64 0, .slice none 0 0]) hb3)
 have HS3 : Hid (Below w2.heap.size w2 w3) := Lib.hid (Below.trans zg (hb3.mono (by first | exact Nat.le_refl _ | omega | (simp; done) | (simp; omega))))
 have HB3 : Hid (Below w.heap.size w w3) := Lib.hid (HB2.out.trans (HS3.out.mono hs2))
 have hs3 := HB3.out.size
 have hst3 := HS3.out.size
 have HA3 := Lib.hid (HA2.out.up HS3.out)
 have HP3 := Lib.hid (HP2.out.up HS3.out)
 clear hb3
 clear kb0 kb1 kb2 kb3 kb4 kb5 kb6 kb7 kb8 lt_b
 have kb0 : w3.cell? ⟨w.heap.size, 0, none⟩ = some (.int .i64 b.cool) := Hb3.out.cell 0
 have kb1 : w3.cell? ⟨w.heap.size, 1, none⟩ = some (.int .i64 b.gangs) := Hb3.out.cell 1
 have kb2 : w3.cell? ⟨w.heap.size, 2, none⟩ = some (.int .i64 b.r0) := Hb3.out.cell 2
 have kb3 : w3.cell? ⟨w.heap.size, 3, none⟩ = some (.int .i64 b.r1) := Hb3.out.cell 3
 have kb4 : w3.cell? ⟨w.heap.size, 4, none⟩ = some (.int .i64 b.r2) := Hb3.out.cell 4
 have kb5 : w3.cell? ⟨w.heap.size, 5, none⟩ = some (.int .i64 b.r3) := Hb3.out.cell 5
 have kb6 : w3.cell? ⟨w.heap.size, 6, none⟩ = some (.int .i64 b.r4) := Hb3.out.cell 6
 have kb7 : w3.cell? ⟨w.heap.size, 7, none⟩ = some (.int .i64 b.r5) := Hb3.out.cell 7
 have kb8 : w3.cell? ⟨w.heap.size, 8, none⟩ = some (.slice A bs.length c) := Hb3.out.cell 8
 have lt_b : w.heap.size < w3.heap.size := Hb3.out.lt
 go_wp2_with fail
 refine (ends_any b A c bs.length P q p.length _).mono ?_
 rintro e w4 ⟨rfl, hb4, hx1, hx2⟩
 simp only [World.size_alloc] at hb4 hx1 hx2
 have HX1 := Lib.hid hx1
 have HX2 := Lib.hid hx2
 have Hb4 := Lib.hid (Holds.low (Hb3.out.alloc (.cells #[.int .i64 f0.1, .int .i64 f0.2, .int .i64 f1.1, .int .i64 f1.2, .int .i64 f2.1, .int .i64 f2.2, .int .i64 f3.1, .int .i64 f3.2] 110)) hb4 (by have := Hb3.out.lt; omega))
 have Hr4 := Lib.hid (Holds.low (Hr3.out.alloc (.cells #[.int .i64 f0.1, .int .i64 f0.2, .int .i64 f1.1, .int .i64 f1.2, .int .i64 f2.1, .int .i64 f2.2, .int .i64 f3.1, .int .i64 f3.2] 110)) hb4 (by have := Hr3.out.lt; omega))
 have HV4 : Hid (Holds w4 (w3.heap.size) 110 #[.int .i64 f0.1, .int .i64 f0.2, .int .i64 f1.1, .int .i64 f1.2, .int .i64 f2.1, .int .i64 f2.2, .int .i64 f3.1, .int .i64 f3.2]) := Lib.hid (Holds.low (Holds.new w3 110 #[.int .i64 f0.1, .int .i64 f0.2, .int .i64 f1.1, .int .i64 f1.2, .int .i64 f2.1, .int .i64 f2.2, .int .i64 f3.1, .int .i64 f3.2]) hb4 (by omega))
 have HS4 : Hid (Below (w3.heap.size) w3 w4) := Lib.hid ((zg : Below (w3.heap.size) w3 _).trans (hb4.mono (by omega)))
 have HB4 : Hid (Below w.heap.size w w4) := Lib.hid (HB3.out.trans (HS4.out.mono hs3))
 have hS4 : w3.heap.size + 1 + 1 < w4.heap.size := HX2.out.lt
 have hR3 := Hr3.out.lt
 clear hb4 hx1 hx2
 clear kb0 kb1 kb2 kb3 kb4 kb5 kb6 kb7 kb8 lt_b
 go_wp2_with fail
 refine wpIn_wide.1 (range_own (m := 6) (t := 110) (gf := 102) (lb := #[.pointer (some ⟨w3.heap.size + 1, 0, none⟩), .pointer (some ⟨w3.heap.size + 1 + 1, 0, none⟩)]) rfl (enters_of Try.func102 (by kernel_rfl) rfl) (encs := yEnc) (all := (wallsFrom b bs 0 (firstOf bs bs.length) p))
  (ends_seq b A c bs HBE.out P q p hp2 HLL.out HIN.out w w4 HA.out HP.out HB4.out (w3.heap.size + 1) (w3.heap.size + 1 + 1) HX1.out HX2.out (fun k => k < w.heap.size ∨ k = w3.heap.size + 1 ∨ k = w3.heap.size + 1 + 1) (fun k h => .inl h) (.inr (.inl rfl)) (.inr (.inr rfl))) (fun _ => rfl) (fun pre W => Holds W (w3.heap.size) 110 ((lastW (firstOf bs bs.length) pre).flatMap spCells).toArray ∧ Below (w3.heap.size) w4 W) (fun _ _ _ => False)
  (fun s X Y row hs hg hr => by obtain ⟨h1, h3⟩ := hs; exact ⟨ownT_holds (β := Unit) 110 (by omega) () X Y row h1 hg hr, ownT_below (β := Unit) 110 (by omega) (by omega) () X Y row h3 hg hr⟩)
  (fun c s X Y row hs hg hr => hs)
  ⟨by rw [show lastW (firstOf bs bs.length) [] = firstOf bs bs.length from rfl, HFI.out, wall_vals]; exact HV4.out, Below.refl _ _⟩
  (fun x a' W => ∃ Bx, w4.heap.size ≤ Bx ∧ Holds W Bx 110 (x.2.flatMap spCells).toArray ∧ a' = { tmps := #[.agg #[.int .i64 b.cool, .int .i64 b.gangs, .int .i64 b.r0, .int .i64 b.r1, .int .i64 b.r2, .int .i64 b.r3, .int .i64 b.r4, .int .i64 b.r5, .slice A bs.length c], .slice P p.length q, .pointer (some ⟨w.heap.size, 0, none⟩), undef, .pointer (some ⟨w.heap.size + 1, 0, none⟩), .int .i64 0, .int .i64 0, .int .i64 0, .int .i64 0, .bool false, .pointer (some ⟨w3.heap.size, 0, none⟩), undef, .pointer (some ⟨Bx, 0, none⟩), undef, .agg #[.int .i64 b.cool, .int .i64 b.gangs, .int .i64 b.r0, .int .i64 b.r1, .int .i64 b.r2, .int .i64 b.r3, .int .i64 b.r4, .int .i64 b.r5, .slice A bs.length c], .slice P p.length q, .int .i64 0, .int .i64 0, .bool false, undef, undef, .tuple #[.int .i64 0, .int .i64 0, .bool false], .agg #[.int .i64 b.cool, .int .i64 b.gangs, .int .i64 b.r0, .int .i64 b.r1, .int .i64 b.r2, .int .i64 b.r3, .int .i64 b.r4, .int .i64 b.r5, .slice A bs.length c], .slice P p.length q, .tuple #[.int .i64 0, .int .i64 0, .bool false], .int .i64 0, .int .i64 0, .bool false, .bool false, undef, .agg #[.int .i64 b.cool, .int .i64 b.gangs, .int .i64 b.r0, .int .i64 b.r1, .int .i64 b.r2, .int .i64 b.r3, .int .i64 b.r4, .int .i64 b.r5, .slice A bs.length c], .agg #[.int .i64 f0.1, .int .i64 f0.2, .int .i64 f1.1, .int .i64 f1.2, .int .i64 f2.1, .int .i64 f2.2, .int .i64 f3.1, .int .i64 f3.2], .agg #[.int .i64 b.cool, .int .i64 b.gangs, .int .i64 b.r0, .int .i64 b.r1, .int .i64 b.r2, .int .i64 b.r3, .int .i64 b.r4, .int .i64 b.r5, .slice A bs.length c], .slice P p.length q, .func (.func 102) #[] #[.pointer (some ⟨w3.heap.size + 1, 0, none⟩), .pointer (some ⟨w3.heap.size + 1 + 1, 0, none⟩)], .int .i64 (x.1 : Int), .agg (x.2.flatMap spCells).toArray, undef, undef, undef, undef, undef, undef, undef, undef, undef, undef, undef, undef, undef, undef, undef, undef, undef, undef, undef, undef], defers := [] })
  (fun x a' _ X Y row hs hg hr => by obtain ⟨Bx, h1, h2, h3⟩ := hs; exact ⟨Bx, h1, (hg.block Bx h2.lt (fun e => by obtain ⟨o, ho, hc⟩ := (hr Bx e.symm).2; rw [show X.heap[Bx]? = _ from h2] at ho; cases ho; cases hc)).trans h2, h3⟩) ?assign ?body ?done ?stop)
 case assign =>
  rintro l pre x W K hpre ⟨h1, h3⟩ hK
  obtain ⟨day, wl⟩ := x
  have h4 := H4.out _ (mem_pre hpre)
  obtain ⟨s0, s1, s2, s3, rfl⟩ := four_of h4
  simp only [yEnc, wall_vals]
  gi_wp2
  have hbel : Below W.heap.size W _ := (Below.refl W.heap.size W).alloc (Nat.le_refl _) (.cells #[.int .i64 s0.1, .int .i64 s0.2, .int .i64 s1.1, .int .i64 s1.2, .int .i64 s2.1, .int .i64 s2.2, .int .i64 s3.1, .int .i64 s3.2] 110)
  exact hK _ _ (KeepsFrom.of_below hbel) (KeptT.of hbel) ⟨h1.up hbel, h3.trans (hbel.mono (Nat.le_trans (by omega) h3.size))⟩ ⟨W.heap.size, h3.size, Holds.new _ _ _, rfl⟩
 case body =>
  rintro l pre x a' W hl hpre ⟨h1, h3⟩ ⟨Bx, hBx, HX, rfl⟩
  obtain ⟨day, wl⟩ := x
  have h4 := H4.out _ (mem_pre hpre)
  obtain ⟨s0, s1, s2, s3, rfl⟩ := four_of h4
  have hp4 : (lastW (firstOf bs bs.length) pre).length = 4 := lastW_four (by rw [HFI.out]; rfl) (fun y hy => H4.out y (hpre.subset (List.mem_append_left _ hy)))
  obtain ⟨g0, g1, g2, g3, eg⟩ := four_of hp4
  rw [eg, wall_vals] at h1
  have HXW : Hid (Holds W Bx 110 #[.int .i64 s0.1, .int .i64 s0.2, .int .i64 s1.1, .int .i64 s1.2, .int .i64 s2.1, .int .i64 s2.2, .int .i64 s3.1, .int .i64 s3.2]) := Lib.hid HX
  have HB3W := Lib.hid h3
  have hsW := h3.size
  have HVW := Lib.hid h1
  obtain ⟨w6, hw6⟩ : ∃ z, z = W.setRow (w3.heap.size) #[.int .i64 s0.1, .int .i64 s0.2, .int .i64 s1.1, .int .i64 s1.2, .int .i64 s2.1, .int .i64 s2.2, .int .i64 s3.1, .int .i64 s3.2] := ⟨_, rfl⟩
  have hrun := store_wall W (w3.heap.size) (.int .i64 g0.1) (.int .i64 g0.2) (.int .i64 g1.1) (.int .i64 g1.2) (.int .i64 g2.1) (.int .i64 g2.2) (.int .i64 g3.1) (.int .i64 g3.2) (.int .i64 s0.1) (.int .i64 s0.2) (.int .i64 s1.1) (.int .i64 s1.2) (.int .i64 s2.1) (.int .i64 s2.2) (.int .i64 s3.1) (.int .i64 s3.2) HVW.out
  rw [← hw6] at hrun
  have HG6 : Hid (W.grownBy w6 (some (w3.heap.size))) := Lib.hid (by rw [hw6]; exact grown_row W _ _)
  have HO6 : Hid (Holds w6 (w3.heap.size) 110 #[.int .i64 s0.1, .int .i64 s0.2, .int .i64 s1.1, .int .i64 s1.2, .int .i64 s2.1, .int .i64 s2.2, .int .i64 s3.1, .int .i64 s3.2]) := Lib.hid (by rw [hw6]; exact setRow_heap W _ _ _ _ _ HVW.out)
  obtain ⟨kx0, kx1, kx2, kx3, kx4, kx5, kx6, kx7⟩ := HXW.out.c8
  clear hw6 h1 h3 HX h4 hp4 eg hpre
  gi_wp2_with (refine wpListIn_store_run _ rfl 110 _ _ rfl ⟨w3.heap.size, 0, none⟩ rfl rfl hrun ?_)
  exact ⟨keeps_row HG6.out (fun r e => by cases e; exact ⟨_, _, _, HVW.out⟩), KeptT.turn HG6.out (fun r e cs u fr hc => by cases e; exact ⟨by omega, fun h => by omega⟩), by rw [lastW_snoc, wall_vals]; exact HO6.out, HB3W.out.grown HG6.out (by omega) (fun k e => by cases e; exact Nat.le_refl _)⟩
 case done =>
  rintro D W hD ⟨h1, h3⟩ hK
  have hl4 : (lastW (firstOf bs bs.length) (wallsFrom b bs 0 (firstOf bs bs.length) p)).length = 4 := lastW_four (by rw [HFI.out]; rfl) H4.out
  rw [HWS.out] at h1 hl4
  have HVW := Lib.hid h1
  have HBW := Lib.hid (HB4.out.trans (h3.mono (by omega)))
  have HKW := Lib.hid hK
  have HbW := Lib.hid (Holds.low Hb4.out h3 (by omega))
  have HrW := Lib.hid (Holds.low Hr4.out h3 (by omega))
  have HAW := Lib.hid (HA.out.up HBW.out)
  have hsW := HBW.out.size
  have hsD := (Array.getElem?_eq_some_iff.1 hK).1
  have HL4 := Lib.hid hl4
  clear h1 h3 hK hl4
  have kb0 : W.cell? ⟨w.heap.size, 0, none⟩ = some (.int .i64 b.cool) := HbW.out.cell 0
  have kb1 : W.cell? ⟨w.heap.size, 1, none⟩ = some (.int .i64 b.gangs) := HbW.out.cell 1
  have kb2 : W.cell? ⟨w.heap.size, 2, none⟩ = some (.int .i64 b.r0) := HbW.out.cell 2
  have kb3 : W.cell? ⟨w.heap.size, 3, none⟩ = some (.int .i64 b.r1) := HbW.out.cell 3
  have kb4 : W.cell? ⟨w.heap.size, 4, none⟩ = some (.int .i64 b.r2) := HbW.out.cell 4
  have kb5 : W.cell? ⟨w.heap.size, 5, none⟩ = some (.int .i64 b.r3) := HbW.out.cell 5
  have kb6 : W.cell? ⟨w.heap.size, 6, none⟩ = some (.int .i64 b.r4) := HbW.out.cell 6
  have kb7 : W.cell? ⟨w.heap.size, 7, none⟩ = some (.int .i64 b.r5) := HbW.out.cell 7
  have kb8 : W.cell? ⟨w.heap.size, 8, none⟩ = some (.slice A bs.length c) := HbW.out.cell 8
  have lb := HbW.out.lt
  go_wp2_with (first | (refine wpList_store_run _ rfl 25 _ _ rfl ⟨w.heap.size, 0, none⟩ rfl rfl hrun ?_; have kb0 : w9.cell? ⟨w.heap.size, 0, none⟩ = some (.int .i64 b.cool) := HBR.out.cell 0; have kb1 : w9.cell? ⟨w.heap.size, 1, none⟩ = some (.int .i64 b.gangs) := HBR.out.cell 1; have kb2 : w9.cell? ⟨w.heap.size, 2, none⟩ = some (.int .i64 b.r0) := HBR.out.cell 2; have kb3 : w9.cell? ⟨w.heap.size, 3, none⟩ = some (.int .i64 b.r1) := HBR.out.cell 3; have kb4 : w9.cell? ⟨w.heap.size, 4, none⟩ = some (.int .i64 b.r2) := HBR.out.cell 4; have kb5 : w9.cell? ⟨w.heap.size, 5, none⟩ = some (.int .i64 b.r3) := HBR.out.cell 5; have kb6 : w9.cell? ⟨w.heap.size, 6, none⟩ = some (.int .i64 b.r4) := HBR.out.cell 6; have kb7 : w9.cell? ⟨w.heap.size, 7, none⟩ = some (.int .i64 b.r5) := HBR.out.cell 7; have kb8 : w9.cell? ⟨w.heap.size, 8, none⟩ = some (.slice (some ⟨G, 0, none⟩) bs.length bs.length) := HBR.out.cell 8; have lb := HBR.out.lt) | (go_at_call 65; refine (withBins_any b A c bs W HAW.out hl).mono ?_; rintro e w8 ⟨G, rfl, hG, hG1, hb8⟩; have Hb8 := HbW.out.up hb8; obtain ⟨w9, hw9⟩ : ∃ z, z = w8.setRow (w.heap.size) #[.int .i64 b.cool, .int .i64 b.gangs, .int .i64 b.r0, .int .i64 b.r1, .int .i64 b.r2, .int .i64 b.r3, .int .i64 b.r4, .int .i64 b.r5, .slice (some ⟨G, 0, none⟩) bs.length bs.length] := ⟨_, rfl⟩; have hrun := store_barn w8 (w.heap.size) (.int .i64 b.cool) (.int .i64 b.gangs) (.int .i64 b.r0) (.int .i64 b.r1) (.int .i64 b.r2) (.int .i64 b.r3) (.int .i64 b.r4) (.int .i64 b.r5) (.slice A bs.length c) (.int .i64 b.cool) (.int .i64 b.gangs) (.int .i64 b.r0) (.int .i64 b.r1) (.int .i64 b.r2) (.int .i64 b.r3) (.int .i64 b.r4) (.int .i64 b.r5) (.slice (some ⟨G, 0, none⟩) bs.length bs.length) Hb8; rw [← hw9] at hrun; have HBR : Hid (Holds w9 (w.heap.size) 25 #[.int .i64 b.cool, .int .i64 b.gangs, .int .i64 b.r0, .int .i64 b.r1, .int .i64 b.r2, .int .i64 b.r3, .int .i64 b.r4, .int .i64 b.r5, .slice (some ⟨G, 0, none⟩) bs.length bs.length]) := Lib.hid (by rw [hw9]; exact setRow_heap w8 _ _ _ _ _ Hb8); have hg9 : w8.grownBy w9 (some (w.heap.size)) := (by rw [hw9]; exact grown_row w8 _ _); have HG9 : Hid (Holds w9 G 39 (bs.flatMap Bn.cells).toArray) := Lib.hid (hG.grown hg9 (by omega)); have HR9 := Lib.hid ((HrW.out.up hb8).grown hg9 (by omega)); have HV9 := Lib.hid ((HVW.out.up hb8).grown hg9 (by omega)); have HK9 : Hid (w9.heap[D]? = some (.deferred (some []))) := Lib.hid ((hg9.block D (Nat.lt_of_lt_of_le hsD hb8.size) (fun e => (by have := Option.some.inj e; omega))).trans ((hb8.block D hsD).trans HKW.out)); have HB9 := Lib.hid ((HBW.out.trans (hb8.mono hsW)).grown hg9 (Nat.le_trans hsW hb8.size) (fun k e => (by cases e; exact Nat.le_refl _))); have hs9 := Nat.le_trans hb8.size hg9.size; clear hw9 hg9 hG hb8 Hb8 kb0 kb1 kb2 kb3 kb4 kb5 kb6 kb7 kb8 lb))
  go_loopw [43] (fun v43 wr => ∃ k : Nat, v43 = .int .i64 (k : Int) ∧ k ≤ bs.length ∧ Hid (Holds wr G 39 ((aft bs ws k).flatMap Bn.cells).toArray) ∧ Hid (Holds wr (w.heap.size) 25 #[.int .i64 b.cool, .int .i64 b.gangs, .int .i64 b.r0, .int .i64 b.r1, .int .i64 b.r2, .int .i64 b.r3, .int .i64 b.r4, .int .i64 b.r5, .slice (some ⟨G, 0, none⟩) bs.length bs.length]) ∧ Hid (Holds wr (w.heap.size + 1) 25 #[.int .i64 0, .int .i64 0, .int .i64 0, .int .i64 0, .int .i64 0, .int .i64 0, .int .i64 0, .int .i64 0, .slice none 0 0]) ∧ Hid (Holds wr (w3.heap.size) 110 (ws.flatMap spCells).toArray) ∧ Hid (wr.heap[D]? = some (.deferred (some []))) ∧ Hid (Below w.heap.size w wr)) (fun v43 _ => bs.length - (intOf v43).toNat)
  case atStart => exact ⟨0, rfl, Nat.zero_le _, Lib.hid (by rw [aft_zero]; exact HG9.out), HBR, HR9, HV9, HK9, HB9⟩
  case round =>
   obtain ⟨k, rfl, hk, HGk, HBk, HRk, HVk, HKk, HBB⟩ := hrel
   clear kb0 kb1 kb2 kb3 kb4 kb5 kb6 kb7 kb8 lb
   have kb0 : wr.cell? ⟨w.heap.size, 0, none⟩ = some (.int .i64 b.cool) := HBk.out.cell 0
   have kb1 : wr.cell? ⟨w.heap.size, 1, none⟩ = some (.int .i64 b.gangs) := HBk.out.cell 1
   have kb2 : wr.cell? ⟨w.heap.size, 2, none⟩ = some (.int .i64 b.r0) := HBk.out.cell 2
   have kb3 : wr.cell? ⟨w.heap.size, 3, none⟩ = some (.int .i64 b.r1) := HBk.out.cell 3
   have kb4 : wr.cell? ⟨w.heap.size, 4, none⟩ = some (.int .i64 b.r2) := HBk.out.cell 4
   have kb5 : wr.cell? ⟨w.heap.size, 5, none⟩ = some (.int .i64 b.r3) := HBk.out.cell 5
   have kb6 : wr.cell? ⟨w.heap.size, 6, none⟩ = some (.int .i64 b.r4) := HBk.out.cell 6
   have kb7 : wr.cell? ⟨w.heap.size, 7, none⟩ = some (.int .i64 b.r5) := HBk.out.cell 7
   have kb8 : wr.cell? ⟨w.heap.size, 8, none⟩ = some (.slice (some ⟨G, 0, none⟩) bs.length bs.length) := HBk.out.cell 8
   have lb := HBk.out.lt
   by_cases hlt : k < bs.length
   ·have hlt' : (k : Int) < bs.length := by omega
    have hk4 : (k : Int) < 4 := by omega
    obtain ⟨x, hx⟩ : ∃ z, bs[k]? = some z := ⟨_, List.getElem?_eq_getElem hlt⟩
    obtain ⟨s, hs⟩ : ∃ z, ws[k]? = some z := ⟨_, List.getElem?_eq_getElem (by rw [HL4.out]; omega)⟩
    have HXX := Lib.hid hx
    have HSS := Lib.hid hs
    have hsr := HBB.out.size
    have hGr := HGk.out.lt
    clear hx hs
    go_wp2_with fail
    rename_i Kc hKc
    have HSL := Lib.hid (show slotsOf [some 46, some 47, some 48, some 49, some 50, some 51, some 52, some 53, some 54, none] = [46, 47, 48, 49, 50, 51, 52, 53, 54] from rfl)
    refine wp_region_partsG (by kernel_rfl) [some 46, some 47, some 48, some 49, some 50, some 51, some 52, some 53, some 54, none] (fun jq xq w' => match jq with
     | 0 => xq 46 = .pointer (some ⟨w.heap.size, 8, none⟩)
     | 1 => xq 47 = .slice (some ⟨G, 0, none⟩) bs.length bs.length
     | 2 => xq 48 = .int .i64 (k : Int)
     | 3 => xq 49 = .int .i64 (k : Int)
     | 4 => xq 50 = .pointer (some ⟨w3.heap.size, k * 2, none⟩)
     | 5 => xq 51 = .pointer (some ⟨w3.heap.size, k * 2 + 1, none⟩)
     | 6 => xq 52 = .int .i64 s.2
     | 7 => xq 53 = .pointer (some ⟨G, k * 4, none⟩)
     | 8 => xq 54 = .pointer (some ⟨G, k * 4, none⟩)
     | 9 => Holds w' G 39 ((aft bs ws (k + 1)).flatMap Bn.cells).toArray
     | 10 => Holds w' G 39 ((aft bs ws k).flatMap Bn.cells).toArray
     | _ => True) [[46], [47], [48], [49], [50], [51], [52], [53], [54], [], []] [(9, 10)] (fun w' => Below w.heap.size w w' ∧ w'.heap[D]? = some (.deferred (some [])) ∧ Holds w' (w.heap.size) 25 #[.int .i64 b.cool, .int .i64 b.gangs, .int .i64 b.r0, .int .i64 b.r1, .int .i64 b.r2, .int .i64 b.r3, .int .i64 b.r4, .int .i64 b.r5, .slice (some ⟨G, 0, none⟩) bs.length bs.length] ∧ Holds w' (w.heap.size + 1) 25 #[.int .i64 0, .int .i64 0, .int .i64 0, .int .i64 0, .int .i64 0, .int .i64 0, .int .i64 0, .int .i64 0, .slice none 0 0] ∧ Holds w' (w3.heap.size) 110 (ws.flatMap spCells).toArray) (by kernel_rfl)  ?_ ?_ (fun w' w'' hb g => ⟨g.1.trans (hb.mono g.1.size), (hb.block D (Array.getElem?_eq_some_iff.1 g.2.1).1).trans g.2.1, g.2.2.1.up hb, g.2.2.2.1.up hb, g.2.2.2.2.up hb⟩) (⟨HBB.out, HKk.out, HBk.out, HRk.out, HVk.out⟩) ?_ ?_ ?_
    ·intro jq xq xq' wqq h hv
     match jq, h, hv with
     | 0, h, hv => show xq' 46 = .pointer (some ⟨w.heap.size, 8, none⟩); rw [← h 46 (by decide)]; exact hv
     | 1, h, hv => show xq' 47 = .slice (some ⟨G, 0, none⟩) bs.length bs.length; rw [← h 47 (by decide)]; exact hv
     | 2, h, hv => show xq' 48 = .int .i64 (k : Int); rw [← h 48 (by decide)]; exact hv
     | 3, h, hv => show xq' 49 = .int .i64 (k : Int); rw [← h 49 (by decide)]; exact hv
     | 4, h, hv => show xq' 50 = .pointer (some ⟨w3.heap.size, k * 2, none⟩); rw [← h 50 (by decide)]; exact hv
     | 5, h, hv => show xq' 51 = .pointer (some ⟨w3.heap.size, k * 2 + 1, none⟩); rw [← h 51 (by decide)]; exact hv
     | 6, h, hv => show xq' 52 = .int .i64 s.2; rw [← h 52 (by decide)]; exact hv
     | 7, h, hv => show xq' 53 = .pointer (some ⟨G, k * 4, none⟩); rw [← h 53 (by decide)]; exact hv
     | 8, h, hv => show xq' 54 = .pointer (some ⟨G, k * 4, none⟩); rw [← h 54 (by decide)]; exact hv
     | 9, h, hv => exact hv
     | 10, h, hv => exact hv
     | _ + 11, _, _ => trivial
    ·intro jq xq wqq w' hb' hv
     match jq, hv with
     | 0, hv => exact hv
     | 1, hv => exact hv
     | 2, hv => exact hv
     | 3, hv => exact hv
     | 4, hv => exact hv
     | 5, hv => exact hv
     | 6, hv => exact hv
     | 7, hv => exact hv
     | 8, hv => exact hv
     | 9, h0 => exact h0.up hb'
     | 10, h0 => exact h0.up hb'
     | _ + 11, _ => trivial
    ·intro jq hj
     match jq, hj with
     | 0, hj => exact absurd hj (by decide)
     | 1, hj => exact absurd hj (by decide)
     | 2, hj => exact absurd hj (by decide)
     | 3, hj => exact absurd hj (by decide)
     | 4, hj => exact absurd hj (by decide)
     | 5, hj => exact absurd hj (by decide)
     | 6, hj => exact absurd hj (by decide)
     | 7, hj => exact absurd hj (by decide)
     | 8, hj => exact absurd hj (by decide)
     | 9, hj => exact absurd hj (by decide)
     | 10, _ => exact HGk.out
     | _ + 11, _ => trivial
    ·refine ⟨?_, ?_, ?_, ?_, ?_, ?_, ?_, ?_, ?_, ?_, trivial⟩
     ·intro xq w1 hb1 hx K hK0
      have hK := fun v w' hb => hK0 v w' (.inl hb)
      clear hx hKc hK0
      simp only [frameOf, fill, setSlot, sg, Nat.reduceBEq, if_true, if_false, Nat.reduceAdd, Nat.reduceEqDiff, HSL.out] at hK ⊢
      go_wp2_with (fail)
      exact hK _ _ (Below.refl _ _) rfl
     ·intro xq w1 hb1 hx K hK0
      have hK := fun v w' hb => hK0 v w' (.inl hb)
      have e46 : xq 46 = .pointer (some ⟨w.heap.size, 8, none⟩) := hx 0 (by rfl) (by rfl)
      clear hx hKc hK0
      have q47 : w1.cell? ⟨w.heap.size, 8, none⟩ = some (.slice (some ⟨G, 0, none⟩) bs.length bs.length) := hb1.2.2.1.cell 8
      simp only [frameOf, fill, setSlot, sg, Nat.reduceBEq, if_true, if_false, Nat.reduceAdd, Nat.reduceEqDiff, HSL.out] at hK ⊢
      simp only [e46] at hK ⊢
      clear e46
      go_wp2_with (fail)
      exact hK _ _ (Below.refl _ _) rfl
     ·intro xq w1 hb1 hx K hK0
      have hK := fun v w' hb => hK0 v w' (.inl hb)
      clear hx hKc hK0
      simp only [frameOf, fill, setSlot, sg, Nat.reduceBEq, if_true, if_false, Nat.reduceAdd, Nat.reduceEqDiff, HSL.out] at hK ⊢
      go_wp2_with (fail)
      exact hK _ _ (Below.refl _ _) rfl
     ·intro xq w1 hb1 hx K hK0
      have hK := fun v w' hb => hK0 v w' (.inl hb)
      clear hx hKc hK0
      simp only [frameOf, fill, setSlot, sg, Nat.reduceBEq, if_true, if_false, Nat.reduceAdd, Nat.reduceEqDiff, HSL.out] at hK ⊢
      go_wp2_with (fail)
      exact hK _ _ (Below.refl _ _) rfl
     ·intro xq w1 hb1 hx K hK0
      have hK := fun v w' hb => hK0 v w' (.inl hb)
      have e49 : xq 49 = .int .i64 (k : Int) := hx 3 (by rfl) (by rfl)
      clear hx hKc hK0
      simp only [frameOf, fill, setSlot, sg, Nat.reduceBEq, if_true, if_false, Nat.reduceAdd, Nat.reduceEqDiff, HSL.out] at hK ⊢
      simp only [e49] at hK ⊢
      clear e49
      go_wp2_with (fail)
      exact hK _ _ (Below.refl _ _) rfl
     ·intro xq w1 hb1 hx K hK0
      have hK := fun v w' hb => hK0 v w' (.inl hb)
      have e50 : xq 50 = .pointer (some ⟨w3.heap.size, k * 2, none⟩) := hx 4 (by rfl) (by rfl)
      clear hx hKc hK0
      simp only [frameOf, fill, setSlot, sg, Nat.reduceBEq, if_true, if_false, Nat.reduceAdd, Nat.reduceEqDiff, HSL.out] at hK ⊢
      simp only [e50] at hK ⊢
      clear e50
      go_wp2_with (fail)
      exact hK _ _ (Below.refl _ _) rfl
     ·intro xq w1 hb1 hx K hK0
      have hK := fun v w' hb => hK0 v w' (.inl hb)
      have e51 : xq 51 = .pointer (some ⟨w3.heap.size, k * 2 + 1, none⟩) := hx 5 (by rfl) (by rfl)
      clear hx hKc hK0
      obtain ⟨q0, q1⟩ := warm_cell hb1.2.2.2.2 HSS.out
      simp only [frameOf, fill, setSlot, sg, Nat.reduceBEq, if_true, if_false, Nat.reduceAdd, Nat.reduceEqDiff, HSL.out] at hK ⊢
      simp only [e51] at hK ⊢
      clear e51
      go_wp2_with (fail)
      exact hK _ _ (Below.refl _ _) rfl
     ·intro xq w1 hb1 hx K hK0
      have hK := fun v w' hb => hK0 v w' (.inl hb)
      have e47 : xq 47 = .slice (some ⟨G, 0, none⟩) bs.length bs.length := hx 1 (by rfl) (by rfl)
      have e48 : xq 48 = .int .i64 (k : Int) := hx 2 (by rfl) (by rfl)
      clear hx hKc hK0
      simp only [frameOf, fill, setSlot, sg, Nat.reduceBEq, if_true, if_false, Nat.reduceAdd, Nat.reduceEqDiff, HSL.out] at hK ⊢
      simp only [e47, e48] at hK ⊢
      clear e47 e48
      go_wp2_with (fail)
      exact hK _ _ (Below.refl _ _) rfl
     ·intro xq w1 hb1 hx K hK0
      have hK := fun v w' hb => hK0 v w' (.inl hb)
      have e53 : xq 53 = .pointer (some ⟨G, k * 4, none⟩) := hx 7 (by rfl) (by rfl)
      clear hx hKc hK0
      simp only [frameOf, fill, setSlot, sg, Nat.reduceBEq, if_true, if_false, Nat.reduceAdd, Nat.reduceEqDiff, HSL.out] at hK ⊢
      simp only [e53] at hK ⊢
      clear e53
      go_wp2_with (fail)
      exact hK _ _ (Below.refl _ _) rfl
     ·intro xq w1 hb1 hx K hK0
      have hK := fun v w' hb => hK0 v w' (.inr hb)
      have e52 : xq 52 = .int .i64 s.2 := hx 6 (by rfl) (by rfl)
      have e54 : xq 54 = .pointer (some ⟨G, k * 4, none⟩) := hx 8 (by rfl) (by rfl)
      have fig_0 : Holds w1 G 39 ((aft bs ws k).flatMap Bn.cells).toArray := hx 10 (by rfl) (by rfl)
      clear hx hKc hK0
      have q9 : w1.cell? ⟨G, k * 4, none⟩ = some (.int .i64 x.warm) := (fig_0.cell _).trans (by rw [List.getElem?_toArray]; exact flat_at Bn.cells 4 Bn.len _ k 0 x (aft_at HXX.out (Nat.le_refl _)) (by decide))
      have z9 := fig_0.frozen (k * 4)
      have l9 := fig_0.lt
      simp only [frameOf, fill, setSlot, sg, Nat.reduceBEq, if_true, if_false, Nat.reduceAdd, Nat.reduceEqDiff, HSL.out] at hK ⊢
      have E52 := Lib.hid e52
      have E54 := Lib.hid e54
      simp only [e52, e54] at hK ⊢
      clear e52 e54
      go_wp2_with (fail)
      refine hK undef _ ⟨(by obtain ⟨h1_, h2_, h3_, h4_, h5_⟩ := hb1; exact ⟨h1_.setCell (by simp only; omega) _, (Below.heap_setCell _ _ _ _ (by simp only; omega)).trans h2_, h3_.far (p := ⟨G, k * 4, none⟩) (by simp only [ne_eq]; omega) _, h4_.far (p := ⟨G, k * 4, none⟩) (by simp only [ne_eq]; omega) _, h5_.far (p := ⟨G, k * 4, none⟩) (by simp only [ne_eq]; omega) _⟩), ?_⟩ (by have h := fig_0.setL (k * 4) (.int .i64 s.2); rw [set_warm s.2 (aft_at HXX.out (Nat.le_refl _)), aft_step HXX.out HSS.out] at h; exact h)
      intro jq xq hd hne hv
      match jq, hd, hne, hv with
      | 0, _, _, hv => exact hv
      | 1, _, _, hv => exact hv
      | 2, _, _, hv => exact hv
      | 3, _, _, hv => exact hv
      | 4, _, _, hv => exact hv
      | 5, _, _, hv => exact hv
      | 6, _, _, hv => exact hv
      | 7, _, _, hv => exact hv
      | 8, _, _, hv => exact hv
      | 9, _, hne, _ => exact absurd rfl hne
      | 10, hd, _, _ => exact absurd hd (by decide)
      | _ + 11, _, _, _ => trivial
    ·intro xq w1 hb1 hx
     have e46 : xq 46 = .pointer (some ⟨w.heap.size, 8, none⟩) := hx 0 (by decide)
     have e47 : xq 47 = .slice (some ⟨G, 0, none⟩) bs.length bs.length := hx 1 (by decide)
     have e48 : xq 48 = .int .i64 (k : Int) := hx 2 (by decide)
     have e49 : xq 49 = .int .i64 (k : Int) := hx 3 (by decide)
     have e50 : xq 50 = .pointer (some ⟨w3.heap.size, k * 2, none⟩) := hx 4 (by decide)
     have e51 : xq 51 = .pointer (some ⟨w3.heap.size, k * 2 + 1, none⟩) := hx 5 (by decide)
     have e52 : xq 52 = .int .i64 s.2 := hx 6 (by decide)
     have e53 : xq 53 = .pointer (some ⟨G, k * 4, none⟩) := hx 7 (by decide)
     have e54 : xq 54 = .pointer (some ⟨G, k * 4, none⟩) := hx 8 (by decide)
     have fn9_0 : Holds w1 G 39 ((aft bs ws (k + 1)).flatMap Bn.cells).toArray := hx 9 (by decide)
     clear hx
     simp only [frameOf, fill, setSlot, sg, Nat.reduceBEq, if_true, if_false, Nat.reduceAdd, Nat.reduceEqDiff, HSL.out]
     simp only [e46, e47, e48, e49, e50, e51, e52, e53, e54]
     clear e46 e47 e48 e49 e50 e51 e52 e53 e54
     refine hKc _ _ ?_
     go_wp2_with fail
     go_roundw
     case rel => exact ⟨k + 1, by go_num, hlt, Lib.hid fn9_0, Lib.hid hb1.2.2.1, Lib.hid hb1.2.2.2.1, Lib.hid hb1.2.2.2.2, Lib.hid hb1.2.1, Lib.hid hb1.1⟩
     case measure => first | (simp [intOf]; done) | (simp [intOf]; omega)
   ·have hlt' : ¬ (k : Int) < bs.length := by omega
    have hkl : k = bs.length := by omega
    have kr0 : wr.cell? ⟨w.heap.size + 1, 0, none⟩ = some (.int .i64 0) := HRk.out.cell 0
    have kr1 : wr.cell? ⟨w.heap.size + 1, 1, none⟩ = some (.int .i64 0) := HRk.out.cell 1
    have kr2 : wr.cell? ⟨w.heap.size + 1, 2, none⟩ = some (.int .i64 0) := HRk.out.cell 2
    have kr3 : wr.cell? ⟨w.heap.size + 1, 3, none⟩ = some (.int .i64 0) := HRk.out.cell 3
    have kr4 : wr.cell? ⟨w.heap.size + 1, 4, none⟩ = some (.int .i64 0) := HRk.out.cell 4
    have kr5 : wr.cell? ⟨w.heap.size + 1, 5, none⟩ = some (.int .i64 0) := HRk.out.cell 5
    have kr6 : wr.cell? ⟨w.heap.size + 1, 6, none⟩ = some (.int .i64 0) := HRk.out.cell 6
    have kr7 : wr.cell? ⟨w.heap.size + 1, 7, none⟩ = some (.int .i64 0) := HRk.out.cell 7
    have kr8 : wr.cell? ⟨w.heap.size + 1, 8, none⟩ = some (.slice none 0 0) := HRk.out.cell 8
    have zr0 : wr.frozen? ⟨w.heap.size + 1, 0, none⟩ = false := HRk.out.frozen 0
    have zr1 : wr.frozen? ⟨w.heap.size + 1, 1, none⟩ = false := HRk.out.frozen 1
    have zr2 : wr.frozen? ⟨w.heap.size + 1, 2, none⟩ = false := HRk.out.frozen 2
    have zr3 : wr.frozen? ⟨w.heap.size + 1, 3, none⟩ = false := HRk.out.frozen 3
    have zr4 : wr.frozen? ⟨w.heap.size + 1, 4, none⟩ = false := HRk.out.frozen 4
    have zr5 : wr.frozen? ⟨w.heap.size + 1, 5, none⟩ = false := HRk.out.frozen 5
    have zr6 : wr.frozen? ⟨w.heap.size + 1, 6, none⟩ = false := HRk.out.frozen 6
    have zr7 : wr.frozen? ⟨w.heap.size + 1, 7, none⟩ = false := HRk.out.frozen 7
    have zr8 : wr.frozen? ⟨w.heap.size + 1, 8, none⟩ = false := HRk.out.frozen 8
    have lr := HRk.out.lt
    go_wp2_with fail
    have HRZ := Holds.set9 (.int .i64 b.cool) (.int .i64 b.gangs) (.int .i64 b.r0) (.int .i64 b.r1) (.int .i64 b.r2) (.int .i64 b.r3) (.int .i64 b.r4) (.int .i64 b.r5) (.slice (some ⟨G, 0, none⟩) bs.length bs.length) HRk.out
    have hDr := (Array.getElem?_eq_some_iff.1 HKk.out).1
    skip
    refine leaves_one (D := D) (v := .tuple #[.agg #[.int .i64 b.cool, .int .i64 b.gangs, .int .i64 b.r0, .int .i64 b.r1, .int .i64 b.r2, .int .i64 b.r3, .int .i64 b.r4, .int .i64 b.r5, .slice (some ⟨G, 0, none⟩) bs.length bs.length], .int .i64 0]) ?dd (results_row1 rfl rfl rfl (run_loadVar_row _ _ _ _ _ (0, 0) _ (HRZ.shut (d := some []) ?dd _) Try.underlying25 rfl (by kernel_rfl))) ⟨G, rfl, ?gg, ?hh, below_shut (HBB.out.trans zg) (Nat.le_refl _) (by omega) _⟩
    case dd => (repeat rw [Below.heap_setCell _ _ _ _ (by simp only; omega)]); exact HKk.out
    case gg =>
     have HGZ := HGk.out
     rw [hkl] at HGZ
     refine Holds.shut (d := some []) ?_ ?_ _
     ·(repeat first | (with_reducible first | assumption | apply Holds.set4 | apply Holds.set2 | apply Holds.putL | ((refine Holds.new' _ _ ?_); (simp; done)) | refine Holds.alloc ?_ _ | refine Holds.drew ?_ | refine Holds.far ?_ (by simp only [ne_eq]; omega) _) | rfl)
     ·(repeat rw [Below.heap_setCell _ _ _ _ (by simp only; omega)]); exact HKk.out
    case hh => omega
 case stop =>
  rintro D c pre W hD hpre h hK
  exact h.elim
end Go.Proofs.Ytokafjkinkafiaa
