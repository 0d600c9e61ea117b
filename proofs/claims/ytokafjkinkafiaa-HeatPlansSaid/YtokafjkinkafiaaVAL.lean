import Derived.Shelf.Abstract
import Derived.Test.YtokafjkinkafiaaVAA
import Derived.Test.YtokafjkinkafiaaVAE
import Derived.Test.YtokafjkinkafiaaVAK
set_option linter.unusedSimpArgs false
set_option linter.unusedVariables false
namespace Go.Proofs.Ytokafjkinkafiaa
open Go.RowKit
theorem planErrs_right {n : Nat} {gangs : Int} : ∀ {p : List (List Int)}, planErrs n gangs p = 0 → ∀ l ∈ p, dayErr n gangs l = 0 := by
 intro p
 induction p with
 | nil => intro _ l hl; cases hl
 | cons x p ih =>
  intro h l hl
  rw [planErrs] at h
  by_cases hx : dayErr n gangs x = 0
  ·rw [if_neg (by simp [hx])] at h
   rcases List.mem_cons.1 hl with rfl | hl
   ·exact hx
   ·exact ih h l hl
  ·rw [if_pos hx] at h; exact absurd h hx
theorem dayErr_in {n : Nat} {gangs : Int} {l : List Int} (h : dayErr n gangs l = 0) : ∀ z ∈ l, within z 0 ((n : Int) - 1) = true := by
 have ha : l.all (fun k => within k 0 ((n : Int) - 1)) = true := by
  cases hb : l.all (fun k => within k 0 ((n : Int) - 1)) with
  | true => rfl
  | false => rw [dayErr_not hb] at h; cases h
 exact List.all_eq_true.1 ha
theorem plan_right {n : Nat} {gangs : Int} {p : List (List Int)} (h : planErr n gangs p = 0) : p.length ≤ 20000 ∧ ∀ l ∈ p, ∀ z ∈ l, within z 0 ((n : Int) - 1) = true := by
 unfold planErr at h
 split at h
 ·cases h
 ·exact ⟨by omega, fun l hl => dayErr_in (planErrs_right h l hl)⟩
theorem check_right {b : Br} {bs : List Bn} {p : List (List Int)} (h : checkErr b bs p = 0) : barnErr b bs = 0 ∧ p.length ≤ 20000 ∧ ∀ l ∈ p, ∀ z ∈ l, within z 0 ((bs.length : Int) - 1) = true := by
 unfold checkErr at h
 by_cases hb : barnErr b bs = 0
 ·rw [if_neg (by simp [hb])] at h
  exact ⟨hb, plan_right h⟩
 ·rw [if_pos hb] at h; exact absurd h hb
set_option maxRecDepth 100000 in
set_option maxHeartbeats 40000000 in
theorem Keeps_err (b : Br) (A : Option Addr) (c : Nat) (bs : List Bn) (hl : bs.length ≤ 1000) (P : Option Addr) (q : Nat) (p : List (List Int)) (hpl : p.length ≤ 1000000) (hll : ∀ l ∈ p, l.length ≤ 1000) (he : checkErr b bs p ≠ 0) (w : World) (hA : BinsAt w A bs) (hP : PlanAt w P p) :
  Calls Try.prog 28 #[.agg #[.int .i64 b.cool, .int .i64 b.gangs, .int .i64 b.r0, .int .i64 b.r1, .int .i64 b.r2, .int .i64 b.r3, .int .i64 b.r4, .int .i64 b.r5, .slice A bs.length c], .slice P p.length q] w fun e w' => e = .returned (.tuple #[.bool false, .int .i64 (checkErr b bs p)]) ∧ Below w.heap.size w w' := by
 obtain ⟨E, hE⟩ : ∃ z, checkErr b bs p = z := ⟨_, rfl⟩
 rw [hE] at he ⊢
 have HEQ := Lib.hid hE
 have hq : (E != 0) = true := by simpa using he
 have hq2 : (E == 0) = false := by simpa using he
 have HA := Lib.hid hA
 have HP := Lib.hid hP
 have HLL := Lib.hid hll
 clear hE hA hP hll
 go_enter Try.func28, Try.ntmps28
 go_wp2_with fail
 refine (checkPlan_any b A c bs P q p _ (HA.out.up zg) hl (HP.out.up zg) hpl HLL.out).mono ?_
 rw [HEQ.out]
 rintro e w1 ⟨rfl, hb1⟩
 have Hb1 := Lib.hid (Holds.up (zp0 : Holds _ (w.heap.size) 25 #[.int .i64 b.cool, .int .i64 b.gangs, .int .i64 b.r0, .int .i64 b.r1, .int .i64 b.r2, .int .i64 b.r3, .int .i64 b.r4, .int .i64 b.r5, .slice A bs.length c]) hb1)
 have HS1 : Hid (Below w.heap.size w w1) := Lib.hid (Below.trans zg (hb1.mono (by first | exact Nat.le_refl _ | omega | (simp; done) | (simp; omega))))
 have HB1 := HS1
 have hs1 := HB1.out.size
 have hst1 := HS1.out.size
 have HA1 := Lib.hid (HA.out.up HS1.out)
 have HP1 := Lib.hid (HP.out.up HS1.out)
 clear hb1
 go_wp2_with fail
 refine ret_two rfl rfl ⟨rfl, HB1.out⟩
set_option maxRecDepth 100000 in
set_option maxHeartbeats 40000000 in
theorem Keeps_ok (b : Br) (A : Option Addr) (c : Nat) (bs : List Bn) (hl : bs.length ≤ 1000) (P : Option Addr) (q : Nat) (p : List (List Int)) (hpl : p.length ≤ 1000000) (hll : ∀ l ∈ p, l.length ≤ 1000) (he : checkErr b bs p = 0) (day bin : Nat) (any : Bool) (hF : First (burnF b bs p) day bin any) (w : World) (hA : BinsAt w A bs) (hP : PlanAt w P p) :
  Calls Try.prog 28 #[.agg #[.int .i64 b.cool, .int .i64 b.gangs, .int .i64 b.r0, .int .i64 b.r1, .int .i64 b.r2, .int .i64 b.r3, .int .i64 b.r4, .int .i64 b.r5, .slice A bs.length c], .slice P p.length q] w fun e w' => e = .returned (.tuple #[.bool (!any), .int .i64 0]) ∧ Below w.heap.size w w' := by
 have HEQ := Lib.hid he
 have HF := Lib.hid hF
 have HA := Lib.hid hA
 have HP := Lib.hid hP
 have HLL := Lib.hid hll
 clear he hF hA hP hll
 obtain ⟨hb, hp2, hin⟩ := check_right HEQ.out
 have HBE := Lib.hid hb
 have HIN := Lib.hid hin
 clear hb hin
 go_enter Try.func28, Try.ntmps28
 go_wp2_with fail
 refine (checkPlan_any b A c bs P q p _ (HA.out.up zg) hl (HP.out.up zg) hpl HLL.out).mono ?_
 rw [HEQ.out]
 rintro e w1 ⟨rfl, hb1⟩
 have Hb1 := Lib.hid (Holds.up (zp0 : Holds _ (w.heap.size) 25 #[.int .i64 b.cool, .int .i64 b.gangs, .int .i64 b.r0, .int .i64 b.r1, .int .i64 b.r2, .int .i64 b.r3, .int .i64 b.r4, .int .i64 b.r5, .slice A bs.length c]) hb1)
 have HS1 : Hid (Below w.heap.size w w1) := Lib.hid (Below.trans zg (hb1.mono (by first | exact Nat.le_refl _ | omega | (simp; done) | (simp; omega))))
 have HB1 := HS1
 have hs1 := HB1.out.size
 have hst1 := HS1.out.size
 have HA1 := Lib.hid (HA.out.up HS1.out)
 have HP1 := Lib.hid (HP.out.up HS1.out)
 clear hb1
 have kb0 : w1.cell? ⟨w.heap.size, 0, none⟩ = some (.int .i64 b.cool) := Hb1.out.cell 0
 have kb1 : w1.cell? ⟨w.heap.size, 1, none⟩ = some (.int .i64 b.gangs) := Hb1.out.cell 1
 have kb2 : w1.cell? ⟨w.heap.size, 2, none⟩ = some (.int .i64 b.r0) := Hb1.out.cell 2
 have kb3 : w1.cell? ⟨w.heap.size, 3, none⟩ = some (.int .i64 b.r1) := Hb1.out.cell 3
 have kb4 : w1.cell? ⟨w.heap.size, 4, none⟩ = some (.int .i64 b.r2) := Hb1.out.cell 4
 have kb5 : w1.cell? ⟨w.heap.size, 5, none⟩ = some (.int .i64 b.r3) := Hb1.out.cell 5
 have kb6 : w1.cell? ⟨w.heap.size, 6, none⟩ = some (.int .i64 b.r4) := Hb1.out.cell 6
 have kb7 : w1.cell? ⟨w.heap.size, 7, none⟩ = some (.int .i64 b.r5) := Hb1.out.cell 7
 have kb8 : w1.cell? ⟨w.heap.size, 8, none⟩ = some (.slice A bs.length c) := Hb1.out.cell 8
 have lt_b : w.heap.size < w1.heap.size := Hb1.out.lt
 go_wp2_with fail
 refine (burns_is b A c bs HBE.out P q p hp2 HLL.out HIN.out _ _ _ HF.out _ HA1.out HP1.out).mono ?_
 rintro e w2 ⟨rfl, hb2⟩
 have Hb2 := Lib.hid (Holds.up (by have h := Hb1.out; exact zp0 : Holds _ (w.heap.size) 25 #[.int .i64 b.cool, .int .i64 b.gangs, .int .i64 b.r0, .int .i64 b.r1, .int .i64 b.r2, .int .i64 b.r3, .int .i64 b.r4, .int .i64 b.r5, .slice A bs.length c]) hb2)
 have HS2 : Hid (Below w1.heap.size w1 w2) := Lib.hid (Below.trans zg (hb2.mono (by first | exact Nat.le_refl _ | omega | (simp; done) | (simp; omega))))
 have HB2 : Hid (Below w.heap.size w w2) := Lib.hid (HB1.out.trans (HS2.out.mono hs1))
 have hs2 := HB2.out.size
 have hst2 := HS2.out.size
 have HA2 := Lib.hid (HA1.out.up HS2.out)
 have HP2 := Lib.hid (HP1.out.up HS2.out)
 clear hb2
 clear kb0 kb1 kb2 kb3 kb4 kb5 kb6 kb7 kb8 lt_b
 go_wp2_with fail
 refine ret_two rfl rfl ⟨rfl, HB2.out⟩
set_option maxRecDepth 100000 in
set_option maxHeartbeats 40000000 in
theorem Burns_err (b : Br) (A : Option Addr) (c : Nat) (bs : List Bn) (hl : bs.length ≤ 1000) (P : Option Addr) (q : Nat) (p : List (List Int)) (hpl : p.length ≤ 1000000) (hll : ∀ l ∈ p, l.length ≤ 1000) (he : checkErr b bs p ≠ 0) (w : World) (hA : BinsAt w A bs) (hP : PlanAt w P p) :
  Calls Try.prog 29 #[.agg #[.int .i64 b.cool, .int .i64 b.gangs, .int .i64 b.r0, .int .i64 b.r1, .int .i64 b.r2, .int .i64 b.r3, .int .i64 b.r4, .int .i64 b.r5, .slice A bs.length c], .slice P p.length q] w fun e w' => e = .returned (.tuple #[.int .i64 0, .int .i64 0, .int .i64 (checkErr b bs p)]) ∧ Below w.heap.size w w' := by
 obtain ⟨E, hE⟩ : ∃ z, checkErr b bs p = z := ⟨_, rfl⟩
 rw [hE] at he ⊢
 have HEQ := Lib.hid hE
 have hq : (E != 0) = true := by simpa using he
 have hq2 : (E == 0) = false := by simpa using he
 have HA := Lib.hid hA
 have HP := Lib.hid hP
 have HLL := Lib.hid hll
 clear hE hA hP hll
 go_enter Try.func29, Try.ntmps29
 go_wp2_with fail
 refine (checkPlan_any b A c bs P q p _ (HA.out.up zg) hl (HP.out.up zg) hpl HLL.out).mono ?_
 rw [HEQ.out]
 rintro e w1 ⟨rfl, hb1⟩
 have Hb1 := Lib.hid (Holds.up (zp0 : Holds _ (w.heap.size) 25 #[.int .i64 b.cool, .int .i64 b.gangs, .int .i64 b.r0, .int .i64 b.r1, .int .i64 b.r2, .int .i64 b.r3, .int .i64 b.r4, .int .i64 b.r5, .slice A bs.length c]) hb1)
 have HS1 : Hid (Below w.heap.size w w1) := Lib.hid (Below.trans zg (hb1.mono (by first | exact Nat.le_refl _ | omega | (simp; done) | (simp; omega))))
 have HB1 := HS1
 have hs1 := HB1.out.size
 have hst1 := HS1.out.size
 have HA1 := Lib.hid (HA.out.up HS1.out)
 have HP1 := Lib.hid (HP.out.up HS1.out)
 clear hb1
 go_wp2_with fail
 refine ret_three rfl rfl ⟨rfl, HB1.out⟩
set_option maxRecDepth 100000 in
set_option maxHeartbeats 40000000 in
theorem Burns_ok (b : Br) (A : Option Addr) (c : Nat) (bs : List Bn) (hl : bs.length ≤ 1000) (P : Option Addr) (q : Nat) (p : List (List Int)) (hpl : p.length ≤ 1000000) (hll : ∀ l ∈ p, l.length ≤ 1000) (he : checkErr b bs p = 0) (day bin : Nat) (any : Bool) (hF : First (burnF b bs p) day bin any) (w : World) (hA : BinsAt w A bs) (hP : PlanAt w P p) :
  Calls Try.prog 29 #[.agg #[.int .i64 b.cool, .int .i64 b.gangs, .int .i64 b.r0, .int .i64 b.r1, .int .i64 b.r2, .int .i64 b.r3, .int .i64 b.r4, .int .i64 b.r5, .slice A bs.length c], .slice P p.length q] w fun e w' => e = .returned (.tuple #[.int .i64 (day : Int), .int .i64 (bin : Int), .int .i64 (if any then 0 else 6)]) ∧ Below w.heap.size w w' := by
 have HEQ := Lib.hid he
 have HF := Lib.hid hF
 have HA := Lib.hid hA
 have HP := Lib.hid hP
 have HLL := Lib.hid hll
 clear he hF hA hP hll
 obtain ⟨hb, hp2, hin⟩ := check_right HEQ.out
 have HBE := Lib.hid hb
 have HIN := Lib.hid hin
 clear hb hin
 cases any with
 | true =>
  go_enter Try.func29, Try.ntmps29
  go_wp2_with fail
  refine (checkPlan_any b A c bs P q p _ (HA.out.up zg) hl (HP.out.up zg) hpl HLL.out).mono ?_
  rw [HEQ.out]
  rintro e w1 ⟨rfl, hb1⟩
  have Hb1 := Lib.hid (Holds.up (zp0 : Holds _ (w.heap.size) 25 #[.int .i64 b.cool, .int .i64 b.gangs, .int .i64 b.r0, .int .i64 b.r1, .int .i64 b.r2, .int .i64 b.r3, .int .i64 b.r4, .int .i64 b.r5, .slice A bs.length c]) hb1)
  have HS1 : Hid (Below w.heap.size w w1) := Lib.hid (Below.trans zg (hb1.mono (by first | exact Nat.le_refl _ | omega | (simp; done) | (simp; omega))))
  have HB1 := HS1
  have hs1 := HB1.out.size
  have hst1 := HS1.out.size
  have HA1 := Lib.hid (HA.out.up HS1.out)
  have HP1 := Lib.hid (HP.out.up HS1.out)
  clear hb1
  have kb0 : w1.cell? ⟨w.heap.size, 0, none⟩ = some (.int .i64 b.cool) := Hb1.out.cell 0
  have kb1 : w1.cell? ⟨w.heap.size, 1, none⟩ = some (.int .i64 b.gangs) := Hb1.out.cell 1
  have kb2 : w1.cell? ⟨w.heap.size, 2, none⟩ = some (.int .i64 b.r0) := Hb1.out.cell 2
  have kb3 : w1.cell? ⟨w.heap.size, 3, none⟩ = some (.int .i64 b.r1) := Hb1.out.cell 3
  have kb4 : w1.cell? ⟨w.heap.size, 4, none⟩ = some (.int .i64 b.r2) := Hb1.out.cell 4
  have kb5 : w1.cell? ⟨w.heap.size, 5, none⟩ = some (.int .i64 b.r3) := Hb1.out.cell 5
  have kb6 : w1.cell? ⟨w.heap.size, 6, none⟩ = some (.int .i64 b.r4) := Hb1.out.cell 6
  have kb7 : w1.cell? ⟨w.heap.size, 7, none⟩ = some (.int .i64 b.r5) := Hb1.out.cell 7
  have kb8 : w1.cell? ⟨w.heap.size, 8, none⟩ = some (.slice A bs.length c) := Hb1.out.cell 8
  have lt_b : w.heap.size < w1.heap.size := Hb1.out.lt
  go_wp2_with fail
  refine (burns_is b A c bs HBE.out P q p hp2 HLL.out HIN.out _ _ _ HF.out _ HA1.out HP1.out).mono ?_
  rintro e w2 ⟨rfl, hb2⟩
  have Hb2 := Lib.hid (Holds.up (by have h := Hb1.out; exact zp0 : Holds _ (w.heap.size) 25 #[.int .i64 b.cool, .int .i64 b.gangs, .int .i64 b.r0, .int .i64 b.r1, .int .i64 b.r2, .int .i64 b.r3, .int .i64 b.r4, .int .i64 b.r5, .slice A bs.length c]) hb2)
  have HS2 : Hid (Below w1.heap.size w1 w2) := Lib.hid (Below.trans zg (hb2.mono (by first | exact Nat.le_refl _ | omega | (simp; done) | (simp; omega))))
  have HB2 : Hid (Below w.heap.size w w2) := Lib.hid (HB1.out.trans (HS2.out.mono hs1))
  have hs2 := HB2.out.size
  have hst2 := HS2.out.size
  have HA2 := Lib.hid (HA1.out.up HS2.out)
  have HP2 := Lib.hid (HP1.out.up HS2.out)
  clear hb2
  clear kb0 kb1 kb2 kb3 kb4 kb5 kb6 kb7 kb8 lt_b
  go_wp2_with fail
  refine ret_three rfl rfl ⟨rfl, HB2.out⟩
 | false =>
  obtain ⟨hd0, hb0, -⟩ := HF.out.1 rfl
  subst hd0
  subst hb0
  go_enter Try.func29, Try.ntmps29
  go_wp2_with fail
  refine (checkPlan_any b A c bs P q p _ (HA.out.up zg) hl (HP.out.up zg) hpl HLL.out).mono ?_
  rw [HEQ.out]
  rintro e w1 ⟨rfl, hb1⟩
  have Hb1 := Lib.hid (Holds.up (zp0 : Holds _ (w.heap.size) 25 #[.int .i64 b.cool, .int .i64 b.gangs, .int .i64 b.r0, .int .i64 b.r1, .int .i64 b.r2, .int .i64 b.r3, .int .i64 b.r4, .int .i64 b.r5, .slice A bs.length c]) hb1)
  have HS1 : Hid (Below w.heap.size w w1) := Lib.hid (Below.trans zg (hb1.mono (by first | exact Nat.le_refl _ | omega | (simp; done) | (simp; omega))))
  have HB1 := HS1
  have hs1 := HB1.out.size
  have hst1 := HS1.out.size
  have HA1 := Lib.hid (HA.out.up HS1.out)
  have HP1 := Lib.hid (HP.out.up HS1.out)
  clear hb1
  have kb0 : w1.cell? ⟨w.heap.size, 0, none⟩ = some (.int .i64 b.cool) := Hb1.out.cell 0
  have kb1 : w1.cell? ⟨w.heap.size, 1, none⟩ = some (.int .i64 b.gangs) := Hb1.out.cell 1
  have kb2 : w1.cell? ⟨w.heap.size, 2, none⟩ = some (.int .i64 b.r0) := Hb1.out.cell 2
  have kb3 : w1.cell? ⟨w.heap.size, 3, none⟩ = some (.int .i64 b.r1) := Hb1.out.cell 3
  have kb4 : w1.cell? ⟨w.heap.size, 4, none⟩ = some (.int .i64 b.r2) := Hb1.out.cell 4
  have kb5 : w1.cell? ⟨w.heap.size, 5, none⟩ = some (.int .i64 b.r3) := Hb1.out.cell 5
  have kb6 : w1.cell? ⟨w.heap.size, 6, none⟩ = some (.int .i64 b.r4) := Hb1.out.cell 6
  have kb7 : w1.cell? ⟨w.heap.size, 7, none⟩ = some (.int .i64 b.r5) := Hb1.out.cell 7
  have kb8 : w1.cell? ⟨w.heap.size, 8, none⟩ = some (.slice A bs.length c) := Hb1.out.cell 8
  have lt_b : w.heap.size < w1.heap.size := Hb1.out.lt
  go_wp2_with fail
  refine (burns_is b A c bs HBE.out P q p hp2 HLL.out HIN.out _ _ _ HF.out _ HA1.out HP1.out).mono ?_
  rintro e w2 ⟨rfl, hb2⟩
  have Hb2 := Lib.hid (Holds.up (by have h := Hb1.out; exact zp0 : Holds _ (w.heap.size) 25 #[.int .i64 b.cool, .int .i64 b.gangs, .int .i64 b.r0, .int .i64 b.r1, .int .i64 b.r2, .int .i64 b.r3, .int .i64 b.r4, .int .i64 b.r5, .slice A bs.length c]) hb2)
  have HS2 : Hid (Below w1.heap.size w1 w2) := Lib.hid (Below.trans zg (hb2.mono (by first | exact Nat.le_refl _ | omega | (simp; done) | (simp; omega))))
  have HB2 : Hid (Below w.heap.size w w2) := Lib.hid (HB1.out.trans (HS2.out.mono hs1))
  have hs2 := HB2.out.size
  have hst2 := HS2.out.size
  have HA2 := Lib.hid (HA1.out.up HS2.out)
  have HP2 := Lib.hid (HP1.out.up HS2.out)
  clear hb2
  clear kb0 kb1 kb2 kb3 kb4 kb5 kb6 kb7 kb8 lt_b
  go_wp2_with fail
  refine ret_three rfl rfl ⟨rfl, HB2.out⟩
open Go.RowKit Go.Shelf
def pick (k : Nat) (y : Nat × List (Int × Int)) : Int × Int := (y.2[k]?).getD (0, 0)
def OwnSp (w : World) (B : Nat) (v : Value) (l : List (Int × Int)) : Prop := w.ownsRow B 27 2 v l.length (l.flatMap spCells)
theorem OwnSp.up {w w' : World} {B : Nat} {v : Value} {l : List (Int × Int)} (h : OwnSp w B v l) (hb : Below w.heap.size w w') : OwnSp w' B v l := rowq_up h hb
theorem OwnSp.far {w : World} {B : Nat} {v : Value} {l : List (Int × Int)} (h : OwnSp w B v l) {p : Addr} (hp : p.block < B) (u : Value) : OwnSp (w.setCell p u) B v l := rowq_far h hp u
theorem OwnSp.nil (w : World) (B : Nat) : OwnSp w B (.slice none 0 0) [] := World.ownsRow_nil w B _ _
theorem OwnSp.snoc {w : World} {B : Nat} {v : Value} {l : List (Int × Int)} {s : Int × Int} (h : w.ownsRow B 27 2 v (l.length + 1) (l.flatMap spCells ++ spCells s)) : OwnSp w B v (l ++ [s]) := by
 unfold OwnSp
 rw [List.length_append, List.flatMap_append]
 simpa using h
theorem OwnSp.turn {w w' : World} {B : Nat} {v : Value} {l : List (Int × Int)} {row : Option Nat} (h : OwnSp w B v l) (hg : w.grownBy w' row) (hr : ∀ r, row = some r → ∀ cs u fr, w.heap[r]? = some (Obj.cells cs u fr) → u ≠ 27) : OwnSp w' B v l := by
 obtain ⟨hl, h | ⟨g, cap, cur, hv, hB, hgc, r⟩⟩ := h
 ·exact ⟨hl, .inl h⟩
 ·exact ⟨hl, .inr ⟨g, cap, cur, hv, hB, (hg.block g (Array.getElem?_eq_some_iff.1 hgc).1 (fun e => hr g e.symm _ _ _ hgc rfl)).trans hgc, r⟩⟩
theorem ownT_sp {β : Type} {t : TypeId} {B C : Nat} {v : Value} {l : List (Int × Int)} (ht : t ≠ 27) : OwnT t C (fun (_ : β) W => OwnSp W B v l) := fun _ X Y row hs hg hr =>
 hs.turn hg (fun r e cs u fr hc => by
  obtain ⟨_, o, ho, hq⟩ := hr r e
  rw [hc] at ho
  cases ho
  rcases hq with hq | ⟨cs', fr', hq⟩
  ·cases hq
  ·cases hq; exact ht)
theorem OwnSp.block {w : World} {B : Nat} {v : Value} {l : List (Int × Int)} (h : OwnSp w B v l) : ∀ r, v.ownBlock = some r → B ≤ r ∧ ∃ cs fr, w.heap[r]? = some (Obj.cells cs 27 fr) := by
 intro r e
 obtain ⟨_, ⟨rfl, _⟩ | ⟨g, cap, cur, rfl, hB, hg, _⟩⟩ := h
 ·cases e
 ·cases e; exact ⟨hB, cur, _, hg⟩
theorem sp_one (s : Int × Int) : ∀ u ∈ spCells s, u.oneCell' = true := by
 intro u hu
 simp only [spCells, List.mem_cons, List.not_mem_nil, or_false] at hu
 rcases hu with rfl | rfl <;> rfl
theorem und_spans0 : Try.prog.underlying 54 = some (.slice 27) := by kernel_rfl
theorem keeps_row {B : Nat} {X Y : World} {row : Option Nat} (hg : X.grownBy Y row) (hr : ∀ r, row = some r → ∃ cs u fr, X.heap[r]? = some (Obj.cells cs u fr)) : KeepsFrom B X Y :=
 ⟨hg.size, fun k o hB hk ho => (hg.block k (Array.getElem?_eq_some_iff.1 hk).1 (fun e => by
  obtain ⟨cs, u, fr, hc⟩ := hr k e.symm
  rw [hk] at hc
  cases hc
  cases ho)).trans hk⟩
set_option maxRecDepth 100000 in
set_option maxHeartbeats 40000000 in
theorem Warmth_err (b : Br) (A : Option Addr) (c : Nat) (bs : List Bn) (hl : bs.length ≤ 1000) (P : Option Addr) (q : Nat) (p : List (List Int)) (hpl : p.length ≤ 1000000) (hll : ∀ l ∈ p, l.length ≤ 1000) (bin : Int) (he : checkErr b bs p ≠ 0) (w : World) (hA : BinsAt w A bs) (hP : PlanAt w P p) :
  Calls Try.prog 27 #[.agg #[.int .i64 b.cool, .int .i64 b.gangs, .int .i64 b.r0, .int .i64 b.r1, .int .i64 b.r2, .int .i64 b.r3, .int .i64 b.r4, .int .i64 b.r5, .slice A bs.length c], .slice P p.length q, .int .i64 bin] w fun e w' => e = .returned (.tuple #[.slice none 0 0, .int .i64 (checkErr b bs p)]) ∧ Below w.heap.size w w' := by
 obtain ⟨E, hE⟩ : ∃ z, checkErr b bs p = z := ⟨_, rfl⟩
 rw [hE] at he ⊢
 have HEQ := Lib.hid hE
 have hq : (E != 0) = true := by simpa using he
 have hq2 : (E == 0) = false := by simpa using he
 clear hE
 have HA := Lib.hid hA
 have HP := Lib.hid hP
 have HLL := Lib.hid hll
 clear hA hP hll
 refine (callsIn_wide (n := 8)).1 (callsIn_of_wp_marks Try.func27 rfl trivial ?_ rfl)
 refine wpIn_wide.2 ?_
 simp only [Try.ntmps27, List.size_toArray, List.length_cons, List.length_nil, Nat.reduceAdd, Nat.reduceSub, Array.replicate_succ, Array.replicate_zero, List.push_toArray, List.append_toArray, List.nil_append, List.cons_append]
 go_wp2_with fail
 refine (checkPlan_any b A c bs P q p _ (HA.out.up zg) hl (HP.out.up zg) hpl HLL.out).mono ?_
 rw [HEQ.out]
 rintro e w1 ⟨rfl, hb1⟩
 have Hb1 := Lib.hid (Holds.up (zp0 : Holds _ (w.heap.size) 25 #[.int .i64 b.cool, .int .i64 b.gangs, .int .i64 b.r0, .int .i64 b.r1, .int .i64 b.r2, .int .i64 b.r3, .int .i64 b.r4, .int .i64 b.r5, .slice A bs.length c]) hb1)
 have Hi1 := Lib.hid (Holds.up (zp0 : Holds _ (w.heap.size + 1) 3 #[.int .i64 bin]) hb1)
 have HS1 : Hid (Below w.heap.size w w1) := Lib.hid (Below.trans zg (hb1.mono (by first | exact Nat.le_refl _ | omega | (simp; done) | (simp; omega))))
 have HB1 := HS1
 have hs1 := HB1.out.size
 have hst1 := HS1.out.size
 have HA1 := Lib.hid (HA.out.up HS1.out)
 have HP1 := Lib.hid (HP.out.up HS1.out)
 clear hb1
 have kb0 : w1.cell? ⟨w.heap.size, 0, none⟩ = some (.int .i64 b.cool) := Hb1.out.cell 0
 have kb1 : w1.cell? ⟨w.heap.size, 1, none⟩ = some (.int .i64 b.gangs) := Hb1.out.cell 1
 have kb2 : w1.cell? ⟨w.heap.size, 2, none⟩ = some (.int .i64 b.r0) := Hb1.out.cell 2
 have kb3 : w1.cell? ⟨w.heap.size, 3, none⟩ = some (.int .i64 b.r1) := Hb1.out.cell 3
 have kb4 : w1.cell? ⟨w.heap.size, 4, none⟩ = some (.int .i64 b.r2) := Hb1.out.cell 4
 have kb5 : w1.cell? ⟨w.heap.size, 5, none⟩ = some (.int .i64 b.r3) := Hb1.out.cell 5
 have kb6 : w1.cell? ⟨w.heap.size, 6, none⟩ = some (.int .i64 b.r4) := Hb1.out.cell 6
 have kb7 : w1.cell? ⟨w.heap.size, 7, none⟩ = some (.int .i64 b.r5) := Hb1.out.cell 7
 have kb8 : w1.cell? ⟨w.heap.size, 8, none⟩ = some (.slice A bs.length c) := Hb1.out.cell 8
 have lt_b : w.heap.size < w1.heap.size := Hb1.out.lt
 have ki0 : w1.cell? ⟨w.heap.size + 1, 0, none⟩ = some (.int .i64 bin) := Hi1.out.cell 0
 have lt_i : w.heap.size + 1 < w1.heap.size := Hi1.out.lt
 go_wp2_with fail
 exact leaves_no (results_tmp2 rfl _ _ _) ⟨rfl, HB1.out⟩
set_option maxRecDepth 100000 in
set_option maxHeartbeats 40000000 in
theorem Warmth_many (b : Br) (A : Option Addr) (c : Nat) (bs : List Bn) (hl : bs.length ≤ 1000) (P : Option Addr) (q : Nat) (p : List (List Int)) (hpl : p.length ≤ 1000000) (hll : ∀ l ∈ p, l.length ≤ 1000) (bin : Int) (he : checkErr b bs p = 0) (h20 : 20 < p.length) (w : World) (hA : BinsAt w A bs) (hP : PlanAt w P p) :
  Calls Try.prog 27 #[.agg #[.int .i64 b.cool, .int .i64 b.gangs, .int .i64 b.r0, .int .i64 b.r1, .int .i64 b.r2, .int .i64 b.r3, .int .i64 b.r4, .int .i64 b.r5, .slice A bs.length c], .slice P p.length q, .int .i64 bin] w fun e w' => e = .returned (.tuple #[.slice none 0 0, .int .i64 2]) ∧ Below w.heap.size w w' := by
 have HEQ := Lib.hid he
 have h20' : (20 : Int) < p.length := by omega
 clear he
 have HA := Lib.hid hA
 have HP := Lib.hid hP
 have HLL := Lib.hid hll
 clear hA hP hll
 refine (callsIn_wide (n := 8)).1 (callsIn_of_wp_marks Try.func27 rfl trivial ?_ rfl)
 refine wpIn_wide.2 ?_
 simp only [Try.ntmps27, List.size_toArray, List.length_cons, List.length_nil, Nat.reduceAdd, Nat.reduceSub, Array.replicate_succ, Array.replicate_zero, List.push_toArray, List.append_toArray, List.nil_append, List.cons_append]
 go_wp2_with fail
 refine (checkPlan_any b A c bs P q p _ (HA.out.up zg) hl (HP.out.up zg) hpl HLL.out).mono ?_
 rw [HEQ.out]
 rintro e w1 ⟨rfl, hb1⟩
 have Hb1 := Lib.hid (Holds.up (zp0 : Holds _ (w.heap.size) 25 #[.int .i64 b.cool, .int .i64 b.gangs, .int .i64 b.r0, .int .i64 b.r1, .int .i64 b.r2, .int .i64 b.r3, .int .i64 b.r4, .int .i64 b.r5, .slice A bs.length c]) hb1)
 have Hi1 := Lib.hid (Holds.up (zp0 : Holds _ (w.heap.size + 1) 3 #[.int .i64 bin]) hb1)
 have HS1 : Hid (Below w.heap.size w w1) := Lib.hid (Below.trans zg (hb1.mono (by first | exact Nat.le_refl _ | omega | (simp; done) | (simp; omega))))
 have HB1 := HS1
 have hs1 := HB1.out.size
 have hst1 := HS1.out.size
 have HA1 := Lib.hid (HA.out.up HS1.out)
 have HP1 := Lib.hid (HP.out.up HS1.out)
 clear hb1
 have kb0 : w1.cell? ⟨w.heap.size, 0, none⟩ = some (.int .i64 b.cool) := Hb1.out.cell 0
 have kb1 : w1.cell? ⟨w.heap.size, 1, none⟩ = some (.int .i64 b.gangs) := Hb1.out.cell 1
 have kb2 : w1.cell? ⟨w.heap.size, 2, none⟩ = some (.int .i64 b.r0) := Hb1.out.cell 2
 have kb3 : w1.cell? ⟨w.heap.size, 3, none⟩ = some (.int .i64 b.r1) := Hb1.out.cell 3
 have kb4 : w1.cell? ⟨w.heap.size, 4, none⟩ = some (.int .i64 b.r2) := Hb1.out.cell 4
 have kb5 : w1.cell? ⟨w.heap.size, 5, none⟩ = some (.int .i64 b.r3) := Hb1.out.cell 5
 have kb6 : w1.cell? ⟨w.heap.size, 6, none⟩ = some (.int .i64 b.r4) := Hb1.out.cell 6
 have kb7 : w1.cell? ⟨w.heap.size, 7, none⟩ = some (.int .i64 b.r5) := Hb1.out.cell 7
 have kb8 : w1.cell? ⟨w.heap.size, 8, none⟩ = some (.slice A bs.length c) := Hb1.out.cell 8
 have lt_b : w.heap.size < w1.heap.size := Hb1.out.lt
 have ki0 : w1.cell? ⟨w.heap.size + 1, 0, none⟩ = some (.int .i64 bin) := Hi1.out.cell 0
 have lt_i : w.heap.size + 1 < w1.heap.size := Hi1.out.lt
 go_wp2_with fail
 exact leaves_no (results_tmp2 rfl _ _ _) ⟨rfl, HB1.out⟩
set_option maxRecDepth 100000 in
set_option maxHeartbeats 40000000 in
theorem Warmth_not (b : Br) (A : Option Addr) (c : Nat) (bs : List Bn) (hl : bs.length ≤ 1000) (P : Option Addr) (q : Nat) (p : List (List Int)) (hpl : p.length ≤ 1000000) (hll : ∀ l ∈ p, l.length ≤ 1000) (bin : Int) (he : checkErr b bs p = 0) (h20 : p.length ≤ 20) (hnb : within bin 0 ((bs.length : Int) - 1) = false) (w : World) (hA : BinsAt w A bs) (hP : PlanAt w P p) :
  Calls Try.prog 27 #[.agg #[.int .i64 b.cool, .int .i64 b.gangs, .int .i64 b.r0, .int .i64 b.r1, .int .i64 b.r2, .int .i64 b.r3, .int .i64 b.r4, .int .i64 b.r5, .slice A bs.length c], .slice P p.length q, .int .i64 bin] w fun e w' => e = .returned (.tuple #[.slice none 0 0, .int .i64 1]) ∧ Below w.heap.size w w' := by
 have HEQ := Lib.hid he
 have HNB := Lib.hid hnb
 have h20' : ¬ (20 : Int) < p.length := by omega
 clear he hnb
 have HA := Lib.hid hA
 have HP := Lib.hid hP
 have HLL := Lib.hid hll
 clear hA hP hll
 refine (callsIn_wide (n := 8)).1 (callsIn_of_wp_marks Try.func27 rfl trivial ?_ rfl)
 refine wpIn_wide.2 ?_
 simp only [Try.ntmps27, List.size_toArray, List.length_cons, List.length_nil, Nat.reduceAdd, Nat.reduceSub, Array.replicate_succ, Array.replicate_zero, List.push_toArray, List.append_toArray, List.nil_append, List.cons_append]
 go_wp2_with fail
 refine (checkPlan_any b A c bs P q p _ (HA.out.up zg) hl (HP.out.up zg) hpl HLL.out).mono ?_
 rw [HEQ.out]
 rintro e w1 ⟨rfl, hb1⟩
 have Hb1 := Lib.hid (Holds.up (zp0 : Holds _ (w.heap.size) 25 #[.int .i64 b.cool, .int .i64 b.gangs, .int .i64 b.r0, .int .i64 b.r1, .int .i64 b.r2, .int .i64 b.r3, .int .i64 b.r4, .int .i64 b.r5, .slice A bs.length c]) hb1)
 have Hi1 := Lib.hid (Holds.up (zp0 : Holds _ (w.heap.size + 1) 3 #[.int .i64 bin]) hb1)
 have HS1 : Hid (Below w.heap.size w w1) := Lib.hid (Below.trans zg (hb1.mono (by first | exact Nat.le_refl _ | omega | (simp; done) | (simp; omega))))
 have HB1 := HS1
 have hs1 := HB1.out.size
 have hst1 := HS1.out.size
 have HA1 := Lib.hid (HA.out.up HS1.out)
 have HP1 := Lib.hid (HP.out.up HS1.out)
 clear hb1
 have kb0 : w1.cell? ⟨w.heap.size, 0, none⟩ = some (.int .i64 b.cool) := Hb1.out.cell 0
 have kb1 : w1.cell? ⟨w.heap.size, 1, none⟩ = some (.int .i64 b.gangs) := Hb1.out.cell 1
 have kb2 : w1.cell? ⟨w.heap.size, 2, none⟩ = some (.int .i64 b.r0) := Hb1.out.cell 2
 have kb3 : w1.cell? ⟨w.heap.size, 3, none⟩ = some (.int .i64 b.r1) := Hb1.out.cell 3
 have kb4 : w1.cell? ⟨w.heap.size, 4, none⟩ = some (.int .i64 b.r2) := Hb1.out.cell 4
 have kb5 : w1.cell? ⟨w.heap.size, 5, none⟩ = some (.int .i64 b.r3) := Hb1.out.cell 5
 have kb6 : w1.cell? ⟨w.heap.size, 6, none⟩ = some (.int .i64 b.r4) := Hb1.out.cell 6
 have kb7 : w1.cell? ⟨w.heap.size, 7, none⟩ = some (.int .i64 b.r5) := Hb1.out.cell 7
 have kb8 : w1.cell? ⟨w.heap.size, 8, none⟩ = some (.slice A bs.length c) := Hb1.out.cell 8
 have lt_b : w.heap.size < w1.heap.size := Hb1.out.lt
 have ki0 : w1.cell? ⟨w.heap.size + 1, 0, none⟩ = some (.int .i64 bin) := Hi1.out.cell 0
 have lt_i : w.heap.size + 1 < w1.heap.size := Hi1.out.lt
 go_wp2_with fail
 refine (hasBin_any b A c bs.length hl bin _).mono ?_
 rw [HNB.out]
 rintro e w2 ⟨rfl, hb2⟩
 have Hb2 := Lib.hid (Holds.up (by have h := Hb1.out; exact zp0 : Holds _ (w.heap.size) 25 #[.int .i64 b.cool, .int .i64 b.gangs, .int .i64 b.r0, .int .i64 b.r1, .int .i64 b.r2, .int .i64 b.r3, .int .i64 b.r4, .int .i64 b.r5, .slice A bs.length c]) hb2)
 have Hi2 := Lib.hid (Holds.up (by have h := Hi1.out; exact zp0 : Holds _ (w.heap.size + 1) 3 #[.int .i64 bin]) hb2)
 have HS2 : Hid (Below w1.heap.size w1 w2) := Lib.hid (Below.trans zg (hb2.mono (by first | exact Nat.le_refl _ | omega | (simp; done) | (simp; omega))))
 have HB2 : Hid (Below w.heap.size w w2) := Lib.hid (HB1.out.trans (HS2.out.mono hs1))
 have hs2 := HB2.out.size
 have hst2 := HS2.out.size
 have HA2 := Lib.hid (HA1.out.up HS2.out)
 have HP2 := Lib.hid (HP1.out.up HS2.out)
 clear hb2
 clear kb0 kb1 kb2 kb3 kb4 kb5 kb6 kb7 kb8 lt_b ki0 lt_i
 go_wp2_with fail
 exact leaves_no (results_tmp2 rfl _ _ _) ⟨rfl, HB2.out⟩
attribute [local go_sem] Oper.semAt_some
set_option maxRecDepth 100000 in
set_option maxHeartbeats 40000000 in
theorem Warmth_good (b : Br) (A : Option Addr) (c : Nat) (bs : List Bn) (hl : bs.length ≤ 1000) (P : Option Addr) (q : Nat) (p : List (List Int)) (hpl : p.length ≤ 1000000) (hll : ∀ l ∈ p, l.length ≤ 1000) (he : checkErr b bs p = 0) (h20 : p.length ≤ 20) (k : Nat) (hk : k < bs.length) (w : World) (hA : BinsAt w A bs) (hP : PlanAt w P p) :
  Calls Try.prog 27 #[.agg #[.int .i64 b.cool, .int .i64 b.gangs, .int .i64 b.r0, .int .i64 b.r1, .int .i64 b.r2, .int .i64 b.r3, .int .i64 b.r4, .int .i64 b.r5, .slice A bs.length c], .slice P p.length q, .int .i64 (k : Int)] w fun e w' => ∃ G g, e = .returned (.tuple #[.slice G p.length g, .int .i64 0]) ∧ OwnSp w' w.heap.size (.slice G p.length g) ((wallsFrom b bs 0 (firstOf bs bs.length) p).map (pick k)) ∧ Below w.heap.size w w' := by
 have HEQ := Lib.hid he
 have h20' : ¬ (20 : Int) < p.length := by omega
 have HA := Lib.hid hA
 have HP := Lib.hid hP
 have HLL := Lib.hid hll
 obtain ⟨hb, hp2, hin⟩ := check_right HEQ.out
 have hgood := barn_right hb
 have hn4 : bs.length ≤ 4 := by have := hgood.1; simp only [within, Bool.and_eq_true, decide_eq_true_eq] at this; omega
 have HBE := Lib.hid hb
 have HIN := Lib.hid hin
 have hk4 : (k : Int) < 4 := by omega
 have H4 : Hid (∀ y ∈ (wallsFrom b bs 0 (firstOf bs bs.length) p), y.2.length = 4) := Lib.hid (walls_four b bs p 0 _ (first_len (Nat.le_refl _) hn4))
 have HWLN : Hid ((wallsFrom b bs 0 (firstOf bs bs.length) p).length = p.length) := Lib.hid (walls_len _ _ _ _ _)
 have HNB : Hid (within (k : Int) 0 ((bs.length : Int) - 1) = true) := Lib.hid (by simp only [within, Bool.and_eq_true, decide_eq_true_eq]; omega)
 obtain ⟨ti, hti, hti0, hti1, hti2⟩ := info_parts info_span
 have hm5 := hti
 clear hm5 he hgood hb hin hA hP hll
 refine (callsIn_wide (n := 8)).1 (callsIn_of_wp_marks Try.func27 rfl trivial ?_ rfl)
 refine wpIn_wide.2 ?_
 simp only [Try.ntmps27, List.size_toArray, List.length_cons, List.length_nil, Nat.reduceAdd, Nat.reduceSub, Array.replicate_succ, Array.replicate_zero, List.push_toArray, List.append_toArray, List.nil_append, List.cons_append]
 go_wp2_with fail
 refine (checkPlan_any b A c bs P q p _ (HA.out.up zg) hl (HP.out.up zg) hpl HLL.out).mono ?_
 rw [HEQ.out]
 rintro e w1 ⟨rfl, hb1⟩
 have Hb1 := Lib.hid (Holds.up (zp0 : Holds _ (w.heap.size) 25 #[.int .i64 b.cool, .int .i64 b.gangs, .int .i64 b.r0, .int .i64 b.r1, .int .i64 b.r2, .int .i64 b.r3, .int .i64 b.r4, .int .i64 b.r5, .slice A bs.length c]) hb1)
 have Hi1 := Lib.hid (Holds.up (zp0 : Holds _ (w.heap.size + 1) 3 #[.int .i64 (k : Int)]) hb1)
 have HS1 : Hid (Below w.heap.size w w1) := Lib.hid (Below.trans zg (hb1.mono (by first | exact Nat.le_refl _ | omega | (simp; done) | (simp; omega))))
 have HB1 := HS1
 have hs1 := HB1.out.size
 have hst1 := HS1.out.size
 have HA1 := Lib.hid (HA.out.up HS1.out)
 have HP1 := Lib.hid (HP.out.up HS1.out)
 clear hb1
 have kb0 : w1.cell? ⟨w.heap.size, 0, none⟩ = some (.int .i64 b.cool) := Hb1.out.cell 0
 have kb1 : w1.cell? ⟨w.heap.size, 1, none⟩ = some (.int .i64 b.gangs) := Hb1.out.cell 1
 have kb2 : w1.cell? ⟨w.heap.size, 2, none⟩ = some (.int .i64 b.r0) := Hb1.out.cell 2
 have kb3 : w1.cell? ⟨w.heap.size, 3, none⟩ = some (.int .i64 b.r1) := Hb1.out.cell 3
 have kb4 : w1.cell? ⟨w.heap.size, 4, none⟩ = some (.int .i64 b.r2) := Hb1.out.cell 4
 have kb5 : w1.cell? ⟨w.heap.size, 5, none⟩ = some (.int .i64 b.r3) := Hb1.out.cell 5
 have kb6 : w1.cell? ⟨w.heap.size, 6, none⟩ = some (.int .i64 b.r4) := Hb1.out.cell 6
 have kb7 : w1.cell? ⟨w.heap.size, 7, none⟩ = some (.int .i64 b.r5) := Hb1.out.cell 7
 have kb8 : w1.cell? ⟨w.heap.size, 8, none⟩ = some (.slice A bs.length c) := Hb1.out.cell 8
 have lt_b : w.heap.size < w1.heap.size := Hb1.out.lt
 have ki0 : w1.cell? ⟨w.heap.size + 1, 0, none⟩ = some (.int .i64 (k : Int)) := Hi1.out.cell 0
 have lt_i : w.heap.size + 1 < w1.heap.size := Hi1.out.lt
 go_wp2_with fail
 refine (hasBin_any b A c bs.length hl (k : Int) _).mono ?_
 rw [HNB.out]
 rintro e w2 ⟨rfl, hb2⟩
 have Hb2 := Lib.hid (Holds.up (by have h := Hb1.out; exact zp0 : Holds _ (w.heap.size) 25 #[.int .i64 b.cool, .int .i64 b.gangs, .int .i64 b.r0, .int .i64 b.r1, .int .i64 b.r2, .int .i64 b.r3, .int .i64 b.r4, .int .i64 b.r5, .slice A bs.length c]) hb2)
 have Hi2 := Lib.hid (Holds.up (by have h := Hi1.out; exact zp0 : Holds _ (w.heap.size + 1) 3 #[.int .i64 (k : Int)]) hb2)
 have HS2 : Hid (Below w1.heap.size w1 w2) := Lib.hid (Below.trans zg (hb2.mono (by first | exact Nat.le_refl _ | omega | (simp; done) | (simp; omega))))
 have HB2 : Hid (Below w.heap.size w w2) := Lib.hid (HB1.out.trans (HS2.out.mono hs1))
 have hs2 := HB2.out.size
 have hst2 := HS2.out.size
 have HA2 := Lib.hid (HA1.out.up HS2.out)
 have HP2 := Lib.hid (HP1.out.up HS2.out)
 clear hb2
 clear kb0 kb1 kb2 kb3 kb4 kb5 kb6 kb7 kb8 lt_b ki0 lt_i
 have kb0 : w2.cell? ⟨w.heap.size, 0, none⟩ = some (.int .i64 b.cool) := Hb2.out.cell 0
 have kb1 : w2.cell? ⟨w.heap.size, 1, none⟩ = some (.int .i64 b.gangs) := Hb2.out.cell 1
 have kb2 : w2.cell? ⟨w.heap.size, 2, none⟩ = some (.int .i64 b.r0) := Hb2.out.cell 2
 have kb3 : w2.cell? ⟨w.heap.size, 3, none⟩ = some (.int .i64 b.r1) := Hb2.out.cell 3
 have kb4 : w2.cell? ⟨w.heap.size, 4, none⟩ = some (.int .i64 b.r2) := Hb2.out.cell 4
 have kb5 : w2.cell? ⟨w.heap.size, 5, none⟩ = some (.int .i64 b.r3) := Hb2.out.cell 5
 have kb6 : w2.cell? ⟨w.heap.size, 6, none⟩ = some (.int .i64 b.r4) := Hb2.out.cell 6
 have kb7 : w2.cell? ⟨w.heap.size, 7, none⟩ = some (.int .i64 b.r5) := Hb2.out.cell 7
 have kb8 : w2.cell? ⟨w.heap.size, 8, none⟩ = some (.slice A bs.length c) := Hb2.out.cell 8
 have lt_b : w.heap.size < w2.heap.size := Hb2.out.lt
 have ki0 : w2.cell? ⟨w.heap.size + 1, 0, none⟩ = some (.int .i64 (k : Int)) := Hi2.out.cell 0
 have lt_i : w.heap.size + 1 < w2.heap.size := Hi2.out.lt
 go_wp2_with fail
 refine (ends_any b A c bs.length P q p.length _).mono ?_
 rintro e w3 ⟨rfl, hb3, hx1, hx2⟩
 simp only [World.size_alloc] at hb3 hx1 hx2
 have HX1 := Lib.hid hx1
 have HX2 := Lib.hid hx2
 have Hb3 := Lib.hid (Holds.low (Hb2.out.alloc (.cells #[.slice none 0 0] 54)) hb3 (by have := Hb2.out.lt; omega))
 have Hi3 := Lib.hid (Holds.low (Hi2.out.alloc (.cells #[.slice none 0 0] 54)) hb3 (by have := Hi2.out.lt; omega))
 have HV3 : Hid (Holds w3 (w2.heap.size) 54 #[.slice none 0 0]) := Lib.hid (Holds.low (Holds.new w2 54 #[.slice none 0 0]) hb3 (by omega))
 have HS3 : Hid (Below (w2.heap.size) w2 w3) := Lib.hid ((zg : Below (w2.heap.size) w2 _).trans (hb3.mono (by omega)))
 have HB3 : Hid (Below w.heap.size w w3) := Lib.hid (HB2.out.trans (HS3.out.mono hs2))
 have hS3 : w2.heap.size + 1 + 1 < w3.heap.size := HX2.out.lt
 clear hb3 hx1 hx2
 clear kb0 kb1 kb2 kb3 kb4 kb5 kb6 kb7 kb8 lt_b ki0 lt_i
 go_wp2_with fail
 refine wpIn_wide.1 (range_own (m := 6) (t := 110) (gf := 102) (lb := #[.pointer (some ⟨w2.heap.size + 1, 0, none⟩), .pointer (some ⟨w2.heap.size + 1 + 1, 0, none⟩)]) rfl (enters_of Try.func102 (by kernel_rfl) rfl) (encs := yEnc) (all := (wallsFrom b bs 0 (firstOf bs bs.length) p))
  (ends_seq b A c bs HBE.out P q p hp2 HLL.out HIN.out w w3 HA.out HP.out HB3.out (w2.heap.size + 1) (w2.heap.size + 1 + 1) HX1.out HX2.out (fun k => k < w.heap.size ∨ k = w2.heap.size + 1 ∨ k = w2.heap.size + 1 + 1) (fun k h => .inl h) (.inr (.inl rfl)) (.inr (.inr rfl))) (fun _ => rfl) (fun pre W => ∃ v, Holds W (w2.heap.size) 54 #[v] ∧ OwnSp W w3.heap.size v (pre.map (pick k)) ∧ Below (w2.heap.size) w3 W) (fun _ _ _ => False)
  (fun s X Y row hs hg hr => by obtain ⟨v, h1, h2, h3⟩ := hs; exact ⟨v, ownT_holds (β := Unit) 110 (by omega) () X Y row h1 hg hr, ownT_sp (β := Unit) (by decide) () X Y row h2 hg hr, ownT_below (β := Unit) 110 (by omega) (by omega) () X Y row h3 hg hr⟩)
  (fun c s X Y row hs hg hr => hs)
  ⟨_, HV3.out, OwnSp.nil _ _, Below.refl _ _⟩
  (fun x a' W => ∃ Bx, w3.heap.size ≤ Bx ∧ Holds W Bx 110 (x.2.flatMap spCells).toArray ∧ a' = { tmps := #[.agg #[.int .i64 b.cool, .int .i64 b.gangs, .int .i64 b.r0, .int .i64 b.r1, .int .i64 b.r2, .int .i64 b.r3, .int .i64 b.r4, .int .i64 b.r5, .slice A bs.length c], .slice P p.length q, .int .i64 (k : Int), .pointer (some ⟨w.heap.size, 0, none⟩), undef, .pointer (some ⟨w.heap.size + 1, 0, none⟩), .slice none 0 0, .int .i64 0, .int .i64 0, .pointer (some ⟨w2.heap.size, 0, none⟩), undef, .pointer (some ⟨Bx, 0, none⟩), .agg #[.int .i64 b.cool, .int .i64 b.gangs, .int .i64 b.r0, .int .i64 b.r1, .int .i64 b.r2, .int .i64 b.r3, .int .i64 b.r4, .int .i64 b.r5, .slice A bs.length c], .slice P p.length q, .int .i64 0, .int .i64 0, .bool false, undef, .bool (decide ((20 : Int) < (p.length : Int))), .slice P p.length q, .int .i64 (p.length : Int), .bool (decide ((20 : Int) < (p.length : Int))), .bool false, .agg #[.int .i64 b.cool, .int .i64 b.gangs, .int .i64 b.r0, .int .i64 b.r1, .int .i64 b.r2, .int .i64 b.r3, .int .i64 b.r4, .int .i64 b.r5, .slice A bs.length c], .int .i64 (k : Int), .bool true, .bool false, .agg #[.int .i64 b.cool, .int .i64 b.gangs, .int .i64 b.r0, .int .i64 b.r1, .int .i64 b.r2, .int .i64 b.r3, .int .i64 b.r4, .int .i64 b.r5, .slice A bs.length c], .slice P p.length q, .func (.func 102) #[] #[.pointer (some ⟨w2.heap.size + 1, 0, none⟩), .pointer (some ⟨w2.heap.size + 1 + 1, 0, none⟩)], .int .i64 (x.1 : Int), .agg (x.2.flatMap spCells).toArray, undef, undef, undef, undef, undef, undef, undef], defers := [] })
  (fun x a' _ X Y row hs hg hr => by obtain ⟨Bx, h1, h2, h3⟩ := hs; exact ⟨Bx, h1, (hg.block Bx h2.lt (fun e => by obtain ⟨o, ho, hc⟩ := (hr Bx e.symm).2; rw [show X.heap[Bx]? = _ from h2] at ho; cases ho; cases hc)).trans h2, h3⟩) ?assign ?body ?done ?stop)
 case assign =>
  rintro l pre x W K hpre ⟨v, h1, h2, h3⟩ hK
  obtain ⟨day, wl⟩ := x
  have h4 := H4.out _ (mem_pre hpre)
  obtain ⟨s0, s1, s2, s3, rfl⟩ := four_of h4
  simp only [yEnc, wall_vals]
  gi_wp2
  have hbel : Below W.heap.size W _ := (Below.refl W.heap.size W).alloc (Nat.le_refl _) (.cells #[.int .i64 s0.1, .int .i64 s0.2, .int .i64 s1.1, .int .i64 s1.2, .int .i64 s2.1, .int .i64 s2.2, .int .i64 s3.1, .int .i64 s3.2] 110)
  exact hK _ _ (KeepsFrom.of_below hbel) (KeptT.of hbel) ⟨v, h1.up hbel, h2.up hbel, h3.trans (hbel.mono (Nat.le_trans (by omega) h3.size))⟩ ⟨W.heap.size, h3.size, Holds.new _ _ _, rfl⟩
 case body =>
  rintro l pre x a' W hl hpre ⟨v, h1, h2, h3⟩ ⟨Bx, hBx, HX, rfl⟩
  obtain ⟨day, wl⟩ := x
  have h4 := H4.out _ (mem_pre hpre)
  have hpl1 : pre.length < 20 := by have h := hpre.length_le; rw [List.length_append, HWLN.out] at h; simp only [List.length_cons, List.length_nil] at h; omega
  obtain ⟨s, hs⟩ : ∃ z, wl[k]? = some z := ⟨_, List.getElem?_eq_getElem (by rw [h4]; omega)⟩
  have HPK : Hid (pick k (day, wl) = s) := Lib.hid (by unfold pick; rw [hs]; rfl)
  have HSS := Lib.hid hs
  obtain ⟨A0, c0, rfl, -, -, -⟩ := rowq_val h2
  have hmap : (pre.map (pick k)).length = pre.length := List.length_map ..
  rw [hmap] at h1 h2
  have HVW := Lib.hid h1
  have HOW := Lib.hid h2
  have HBW := Lib.hid h3
  have HXW := Lib.hid HX
  have HIW := Lib.hid (Holds.low Hi3.out h3 (by have := Hi2.out.lt; omega))
  have hsW : w3.heap.size ≤ W.heap.size := h3.size
  have hlV := h1.lt
  have HMP := Lib.hid hmap
  clear h4 hs h1 h2 h3 hmap hpre HX
  gi_wp2_with fail
  have hKc := True.intro
  have HSL := Lib.hid (show slotsOf [some 32, some 33, some 34, some 35, some 36, some 37, none] = [32, 33, 34, 35, 36, 37] from rfl)
  refine wp_region_partsGI (by kernel_rfl) [some 32, some 33, some 34, some 35, some 36, some 37, none] (fun jq xq w' => match jq with
   | 0 => xq 32 = .slice A0 pre.length c0
   | 1 => xq 33 = .int .i64 (k : Int)
   | 2 => xq 34 = .pointer (some ⟨Bx, k * 2, none⟩)
   | 3 => xq 35 = .agg #[.int .i64 s.1, .int .i64 s.2]
   | 4 => ∃ z, xq 36 = .slice (some ⟨z, 0, none⟩) 1 1 ∧ Holds w' z 27 #[.int .i64 s.1, .int .i64 s.2]
   | 5 => ∃ G g, xq 37 = .slice G (pre.length + 1) g ∧ OwnSp w' w3.heap.size (.slice G (pre.length + 1) g) (pre.map (pick k) ++ [s])
   | 6 => ∃ G g, Holds w' (w2.heap.size) 54 #[.slice G (pre.length + 1) g] ∧ OwnSp w' w3.heap.size (.slice G (pre.length + 1) g) (pre.map (pick k) ++ [s])
   | 7 => Holds w' (w2.heap.size) 54 #[.slice A0 pre.length c0]
   | 8 => Holds w' Bx 110 (wl.flatMap spCells).toArray
   | 9 => OwnSp w' w3.heap.size (.slice A0 pre.length c0) (pre.map (pick k))
   | _ => True) [[32], [33], [34], [35], [36], [37], [], [], [], []] [(5, 4), (5, 8), (5, 9), (6, 7), (6, 4), (6, 8), (6, 9)] (fun w' => Below (w2.heap.size) w3 w' ∧ W.heap.size ≤ w'.heap.size ∧ KeptT 110 (fun k => k < w.heap.size ∨ k = w2.heap.size + 1 ∨ k = w2.heap.size + 1 + 1) w3.heap.size W w' ∧ KeepsFrom w3.heap.size W w' ∧ Holds w' (w.heap.size + 1) 3 #[.int .i64 (k : Int)]) (by kernel_rfl)  ?_ ?_ (fun w' w'' hb g => ⟨g.1.trans (hb.mono (Nat.le_trans (by omega) g.1.size)), Nat.le_trans g.2.1 hb.size, g.2.2.1.trans (KeptT.of hb), g.2.2.2.1.trans (KeepsFrom.of_below hb), g.2.2.2.2.up hb⟩) (⟨HBW.out, Nat.le_refl _, KeptT.refl _ _ _ _, KeepsFrom.refl _ _, HIW.out⟩) ?_ ?_ ?_
  ·intro jq xq xq' wqq h hv
   match jq, h, hv with
   | 0, h, hv => show xq' 32 = .slice A0 pre.length c0; rw [← h 32 (by decide)]; exact hv
   | 1, h, hv => show xq' 33 = .int .i64 (k : Int); rw [← h 33 (by decide)]; exact hv
   | 2, h, hv => show xq' 34 = .pointer (some ⟨Bx, k * 2, none⟩); rw [← h 34 (by decide)]; exact hv
   | 3, h, hv => show xq' 35 = .agg #[.int .i64 s.1, .int .i64 s.2]; rw [← h 35 (by decide)]; exact hv
   | 4, h, hv => show ∃ z, xq' 36 = .slice (some ⟨z, 0, none⟩) 1 1 ∧ Holds wqq z 27 #[.int .i64 s.1, .int .i64 s.2]; rw [← h 36 (by decide)]; exact hv
   | 5, h, hv => show ∃ G g, xq' 37 = .slice G (pre.length + 1) g ∧ OwnSp wqq w3.heap.size (.slice G (pre.length + 1) g) (pre.map (pick k) ++ [s]); rw [← h 37 (by decide)]; exact hv
   | 6, h, hv => exact hv
   | 7, h, hv => exact hv
   | 8, h, hv => exact hv
   | 9, h, hv => exact hv
   | _ + 10, _, _ => trivial
  ·intro jq xq wqq w' hb' hv
   match jq, hv with
   | 0, hv => exact hv
   | 1, hv => exact hv
   | 2, hv => exact hv
   | 3, hv => exact hv
   | 4, ⟨b0, h0, h1⟩ => exact ⟨b0, h0, h1.up hb'⟩
   | 5, ⟨b0, b1, h0, h1⟩ => exact ⟨b0, b1, h0, h1.up hb'⟩
   | 6, ⟨b0, b1, h0, h1⟩ => exact ⟨b0, b1, h0.up hb', h1.up hb'⟩
   | 7, h0 => exact h0.up hb'
   | 8, h0 => exact h0.up hb'
   | 9, h0 => exact h0.up hb'
   | _ + 10, _ => trivial
  ·intro jq hj
   match jq, hj with
   | 0, hj => exact absurd hj (by decide)
   | 1, hj => exact absurd hj (by decide)
   | 2, hj => exact absurd hj (by decide)
   | 3, hj => exact absurd hj (by decide)
   | 4, hj => exact absurd hj (by decide)
   | 5, hj => exact absurd hj (by decide)
   | 6, hj => exact absurd hj (by decide)
   | 7, _ => exact HVW.out
   | 8, _ => exact HXW.out
   | 9, _ => exact HOW.out
   | _ + 10, _ => trivial
  ·refine ⟨?_, ?_, ?_, ?_, ?_, ?_, ?_, trivial⟩
   ·intro xq w1 hb1 hx K hK0
    have hK := fun v w' hb => hK0 v w' (.inl hb)
    have fiv_0 : Holds w1 (w2.heap.size) 54 #[.slice A0 pre.length c0] := hx 7 (by rfl) (by rfl)
    clear hx hKc hK0
    have q32 : w1.cell? ⟨w2.heap.size, 0, none⟩ = some (.slice A0 pre.length c0) := fiv_0.cell 0
    simp only [frameOf, fill, setSlot, sg, Nat.reduceBEq, if_true, if_false, Nat.reduceAdd, Nat.reduceEqDiff, HSL.out] at hK ⊢
    gi_wp2_with (fail)
    exact hK _ _ (Below.refl _ _) rfl
   ·intro xq w1 hb1 hx K hK0
    have hK := fun v w' hb => hK0 v w' (.inl hb)
    clear hx hKc hK0
    have q33 : w1.cell? ⟨w.heap.size + 1, 0, none⟩ = some (.int .i64 (k : Int)) := hb1.2.2.2.2.cell 0
    simp only [frameOf, fill, setSlot, sg, Nat.reduceBEq, if_true, if_false, Nat.reduceAdd, Nat.reduceEqDiff, HSL.out] at hK ⊢
    gi_wp2_with (fail)
    exact hK _ _ (Below.refl _ _) rfl
   ·intro xq w1 hb1 hx K hK0
    have hK := fun v w' hb => hK0 v w' (.inl hb)
    have e33 : xq 33 = .int .i64 (k : Int) := hx 1 (by rfl) (by rfl)
    clear hx hKc hK0
    simp only [frameOf, fill, setSlot, sg, Nat.reduceBEq, if_true, if_false, Nat.reduceAdd, Nat.reduceEqDiff, HSL.out] at hK ⊢
    simp only [e33] at hK ⊢
    clear e33
    gi_wp2_with (fail)
    exact hK _ _ (Below.refl _ _) rfl
   ·intro xq w1 hb1 hx K hK0
    have hK := fun v w' hb => hK0 v w' (.inl hb)
    have e34 : xq 34 = .pointer (some ⟨Bx, k * 2, none⟩) := hx 2 (by rfl) (by rfl)
    have fix_0 : Holds w1 Bx 110 (wl.flatMap spCells).toArray := hx 8 (by rfl) (by rfl)
    clear hx hKc hK0
    obtain ⟨q0, q1⟩ := warm_cell fix_0 HSS.out
    simp only [frameOf, fill, setSlot, sg, Nat.reduceBEq, if_true, if_false, Nat.reduceAdd, Nat.reduceEqDiff, HSL.out] at hK ⊢
    simp only [e34] at hK ⊢
    clear e34
    gi_wp2_with (fail)
    exact hK _ _ (Below.refl _ _) rfl
   ·intro xq w1 hb1 hx K hK0
    have hK := fun v w' hb => hK0 v w' (.inl hb)
    have e35 : xq 35 = .agg #[.int .i64 s.1, .int .i64 s.2] := hx 3 (by rfl) (by rfl)
    clear hx hKc hK0
    simp only [frameOf, fill, setSlot, sg, Nat.reduceBEq, if_true, if_false, Nat.reduceAdd, Nat.reduceEqDiff, HSL.out] at hK ⊢
    simp only [e35] at hK ⊢
    clear e35
    gi_wp2_with (fail)
    exact hK _ _ ((Below.refl _ _).alloc (Nat.le_refl _) _) ⟨_, rfl, Holds.new _ _ _⟩
   ·intro xq w1 hb1 hx K hK0
    have hK := fun v w' hb => hK0 v w' (.inr hb)
    have e32 : xq 32 = .slice A0 pre.length c0 := hx 0 (by rfl) (by rfl)
    obtain ⟨z36, e36, f36_0⟩ := hx 4 (by rfl) (by rfl)
    have fiv_0 : Holds w1 (w2.heap.size) 54 #[.slice A0 pre.length c0] := hx 7 (by rfl) (by rfl)
    have fio_0 : OwnSp w1 w3.heap.size (.slice A0 pre.length c0) (pre.map (pick k)) := hx 9 (by rfl) (by rfl)
    clear hx hKc hK0
    have HO1 := Lib.hid fio_0
    have hsz := hb1.2.1
    simp only [frameOf, fill, setSlot, sg, Nat.reduceBEq, if_true, if_false, Nat.reduceAdd, Nat.reduceEqDiff, HSL.out] at hK ⊢
    simp only [e32, e36] at hK ⊢
    clear e32 e36
    gi_wp2_with (gi_at_builtin; (refine wpListIn_append_own _ rfl _ _ 54 rfl w3.heap.size 27 ti _ 2 16 und_spans0 hti hti0 hti1 hti2 rfl (by decide) _ _ _ rfl HO1.out ⟨z36, 0, none⟩ 1 1 (spCells s) rfl rfl (holds_news f36_0) (sp_one s) (by rw [HMP.out]; unfold maxLen; omega) (by rw [HMP.out]; omega) (by omega) ?_); intro v5 w5 hown5 hgrow5 _; have ho5 := OwnSp.snoc hown5; obtain ⟨G5, g5, rfl, -, -, -⟩ := rowq_val ho5; rw [List.length_append, HMP.out] at ho5 ⊢; have HO5 := Lib.hid ho5; have HG5 := Lib.hid hgrow5; clear hown5 hgrow5 ho5)
    refine hK _ _ ⟨(by obtain ⟨h1_, h2_, h3_, h4_, h5_⟩ := hb1; exact ⟨h1_.grown HG5.out (Nat.le_trans (by omega) h1_.size) (fun k hk => Nat.le_trans (by omega) ((OwnSp.block HO1.out) k hk).1), Nat.le_trans h2_ HG5.out.size, h3_.trans (KeptT.turn HG5.out (fun r e cs u fr hc => by obtain ⟨hr1, cs', fr', hr2⟩ := (OwnSp.block HO1.out) r e; rw [hc] at hr2; cases hr2; exact ⟨by omega, fun _ => by decide⟩)), h4_.trans (keeps_row HG5.out (fun r e => by obtain ⟨hr1, cs', fr', hr2⟩ := (OwnSp.block HO1.out) r e; exact ⟨_, _, _, hr2⟩)), Holds.row h5_ HG5.out (fun k hk => by have := ((OwnSp.block HO1.out) k hk).1; have := Hi3.out.lt; omega)⟩), ?_⟩ ⟨_, _, rfl, HO5.out⟩
    intro jq xq hd hne hv
    match jq, hd, hne, hv with
    | 0, _, _, hv => exact hv
    | 1, _, _, hv => exact hv
    | 2, _, _, hv => exact hv
    | 3, _, _, hv => exact hv
    | 4, hd, _, _ => exact absurd hd (by decide)
    | 5, _, hne, _ => exact absurd rfl hne
    | 6, _, _, hv => obtain ⟨G_, g_, h1_, _⟩ := hv; have h2_ := h1_.cell 0; rw [fiv_0.cell 0] at h2_; simp at h2_
    | 7, _, _, hv => exact Holds.row hv HG5.out (fun k hk => by have := ((OwnSp.block HO1.out) k hk).1; omega)
    | 8, hd, _, _ => exact absurd hd (by decide)
    | 9, hd, _, _ => exact absurd hd (by decide)
    | _ + 10, _, _, _ => trivial
   ·intro xq w1 hb1 hx K hK0
    have hK := fun v w' hb => hK0 v w' (.inr hb)
    obtain ⟨G37, g37, e37, f37_0⟩ := hx 5 (by rfl) (by rfl)
    have fiv_0 : Holds w1 (w2.heap.size) 54 #[.slice A0 pre.length c0] := hx 7 (by rfl) (by rfl)
    clear hx hKc hK0
    have qn6 : w1.cell? ⟨w2.heap.size, 0, none⟩ = some (.slice A0 pre.length c0) := fiv_0.cell 0
    have zn6 := fiv_0.frozen 0
    have ln6 := fiv_0.lt
    simp only [frameOf, fill, setSlot, sg, Nat.reduceBEq, if_true, if_false, Nat.reduceAdd, Nat.reduceEqDiff, HSL.out] at hK ⊢
    have E37 := Lib.hid e37
    simp only [e37] at hK ⊢
    clear e37
    gi_wp2_with (fail)
    refine hK undef _ ⟨(by obtain ⟨h1_, h2_, h3_, h4_, h5_⟩ := hb1; exact ⟨h1_.setCell (Nat.le_refl _) _, by simp only [World.size_setCell]; exact h2_, h3_.trans (KeptT.turn (grownBy_setCell' w1 (w2.heap.size) _) (fun r e cs u fr hc => by cases e; exact ⟨by have := Hi2.out.lt; omega, fun h => by omega⟩)), h4_.trans (KeepsFrom.set (by simp only; omega) _), h5_.far (p := ⟨w2.heap.size, 0, none⟩) (by have := Hi2.out.lt; simp only [ne_eq]; omega) _⟩), ?_⟩ ⟨_, _, zp0, f37_0.far (by simp only; omega) _⟩
    intro jq xq hd hne hv
    match jq, hd, hne, hv with
    | 0, _, _, hv => exact hv
    | 1, _, _, hv => exact hv
    | 2, _, _, hv => exact hv
    | 3, _, _, hv => exact hv
    | 4, hd, _, _ => exact absurd hd (by decide)
    | 5, _, _, hv => obtain ⟨z_, y_, e_, h_⟩ := hv; exact ⟨z_, y_, e_, h_.far (by simp only; omega) _⟩
    | 6, _, hne, _ => exact absurd rfl hne
    | 7, hd, _, _ => exact absurd hd (by decide)
    | 8, hd, _, _ => exact absurd hd (by decide)
    | 9, hd, _, _ => exact absurd hd (by decide)
    | _ + 10, _, _, _ => trivial
  ·intro xq w1 hb1 hx
   have e32 : xq 32 = .slice A0 pre.length c0 := hx 0 (by decide)
   have e33 : xq 33 = .int .i64 (k : Int) := hx 1 (by decide)
   have e34 : xq 34 = .pointer (some ⟨Bx, k * 2, none⟩) := hx 2 (by decide)
   have e35 : xq 35 = .agg #[.int .i64 s.1, .int .i64 s.2] := hx 3 (by decide)
   obtain ⟨G37, g37, e37, f37_0⟩ := hx 5 (by decide)
   obtain ⟨Gn6, gn6, fn6_0, fn6_1⟩ := hx 6 (by decide)
   clear hx
   simp only [frameOf, fill, setSlot, sg, Nat.reduceBEq, if_true, if_false, Nat.reduceAdd, Nat.reduceEqDiff, HSL.out]
   simp only [e32, e33, e34, e35, e37]
   clear e32 e33 e34 e35 e37
   gi_wp2_with fail
   exact ⟨hb1.2.2.2.1, hb1.2.2.1, _, fn6_0, (by have h := fn6_1; rw [← HPK.out] at h; rw [List.map_append]; exact h), hb1.1⟩
 case done =>
  rintro D W hD ⟨v, h1, h2, h3⟩ hK
  obtain ⟨G, g, rfl, -, -, -⟩ := rowq_val h2
  rw [List.length_map, HWLN.out] at h1 h2
  have kv : W.cell? ⟨w2.heap.size, 0, none⟩ = some (.slice G p.length g) := h1.cell 0
  have HOW := Lib.hid h2
  have HBW := Lib.hid h3
  have HK := Lib.hid hK
  clear h1 h2 h3 hK
  go_wp2_with fail
  refine leaves_one HK.out (results_tmp2 rfl _ _ _) ⟨_, _, rfl, ?_, below_shut (HB3.out.trans (HBW.out.mono hs2)) (Nat.le_refl _) (by omega) _⟩
  exact rowq_mono (OwnSp.turn HOW.out (grownBy_putObj' W D (.deferred none)) (fun r e cs u fr hc => by cases e; rw [HK.out] at hc; cases hc)) (by have := HV3.out.lt; omega)
 case stop =>
  rintro D c pre W hD hpre h hK
  exact h.elim
end Go.Proofs.Ytokafjkinkafiaa
