
import Derived.Test.YtokafjkinkafiaaVAA
import Derived.Test.YtokafjkinkafiaaVAD
set_option linter.unusedSimpArgs false
set_option linter.unusedVariables false
namespace Go.Proofs.Ytokafjkinkafiaa
open Go.RowKit
def checkErr (b : Br) (bs : List Bn) (p : List (List Int)) : Int := if barnErr b bs ≠ 0 then barnErr b bs else planErr bs.length b.gangs p
theorem zp0 {p : Prop} (h : p := by (repeat first | (with_reducible first | assumption | apply Holds.set4 | apply Holds.set2 | apply Holds.putL | ((refine Holds.new' _ _ ?_); (simp; done)) | refine Holds.alloc ?_ _ | refine Holds.drew ?_ | refine Holds.far ?_ (by simp only [ne_eq]; omega) _) | rfl)) : p := h
set_option maxRecDepth 100000 in
set_option maxHeartbeats 40000000 in
theorem checkPlan_any (b : Br) (A : Option Addr) (c : Nat) (bs : List Bn) (P : Option Addr) (q : Nat) (p : List (List Int)) (w : World) (hA : BinsAt w A bs) (hl : bs.length ≤ 1000) (hP : PlanAt w P p) (hpl : p.length ≤ 1000000) (hll : ∀ l ∈ p, l.length ≤ 1000) :
  Calls Try.prog 69 #[.agg #[.int .i64 b.cool, .int .i64 b.gangs, .int .i64 b.r0, .int .i64 b.r1, .int .i64 b.r2, .int .i64 b.r3, .int .i64 b.r4, .int .i64 b.r5, .slice A bs.length c], .slice P p.length q] w fun e w' => e = .returned (.int .i64 (checkErr b bs p)) ∧ Below w.heap.size w w' := by
 have HA := Lib.hid hA
 have HP := Lib.hid hP
 have HLL := Lib.hid hll
 clear hA hP hll
 obtain ⟨E, hE⟩ : ∃ z, barnErr b bs = z := ⟨_, rfl⟩
 have HE := Lib.hid hE
 by_cases h0 : E = 0
 ·subst h0
  have HC : Hid (checkErr b bs p = planErr bs.length b.gangs p) := Lib.hid (by unfold checkErr; rw [if_neg (by simp [HE.out])])
  rw [HC.out]
  obtain ⟨D, hD⟩ : ∃ z, planErr bs.length b.gangs p = z := ⟨_, rfl⟩
  rw [hD]
  have HD := Lib.hid hD
  clear hD hE
  go_enter Try.func69, Try.ntmps69
  go_wp2_with fail
  refine (Check_any b A c bs _ (HA.out.up zg) hl).mono ?_
  rw [HE.out]
  rintro e w1 ⟨rfl, hb1⟩
  have Hb1 := Lib.hid (Holds.up (zp0 : Holds _ (w.heap.size) 25 #[.int .i64 b.cool, .int .i64 b.gangs, .int .i64 b.r0, .int .i64 b.r1, .int .i64 b.r2, .int .i64 b.r3, .int .i64 b.r4, .int .i64 b.r5, .slice A bs.length c]) hb1)
  have HS1 : Hid (Below w.heap.size w w1) := Lib.hid (Below.trans zg (hb1.mono (by first | exact Nat.le_refl _ | omega | (simp; done) | (simp; omega))))
  have HB1 := HS1
  have hs1 := HB1.out.size
  have hst1 := HS1.out.size
  have HA1 := Lib.hid (HA.out.up HS1.out)
  have HP1 := Lib.hid (HP.out.up HS1.out)
  clear hb1
  have kb0 : w1.cell? ⟨w.heap.size, 0, none⟩ = some (.int .i64 b.cool) := Hb1.out.cell 0
  have kb1 : w1.cell? ⟨w.heap.size, 1, none⟩ = some (.int .i64 b.gangs) := Hb1.out.cell 1
  have kb2 : w1.cell? ⟨w.heap.size, 2, none⟩ = some (.int .i64 b.r0) := Hb1.out.cell 2
  have kb3 : w1.cell? ⟨w.heap.size, 3, none⟩ = some (.int .i64 b.r1) := Hb1.out.cell 3
  have kb4 : w1.cell? ⟨w.heap.size, 4, none⟩ = some (.int .i64 b.r2) := Hb1.out.cell 4
  have kb5 : w1.cell? ⟨w.heap.size, 5, none⟩ = some (.int .i64 b.r3) := Hb1.out.cell 5
  have kb6 : w1.cell? ⟨w.heap.size, 6, none⟩ = some (.int .i64 b.r4) := Hb1.out.cell 6
  have kb7 : w1.cell? ⟨w.heap.size, 7, none⟩ = some (.int .i64 b.r5) := Hb1.out.cell 7
  have kb8 : w1.cell? ⟨w.heap.size, 8, none⟩ = some (.slice A bs.length c) := Hb1.out.cell 8
  have lt_b : w.heap.size < w1.heap.size := Hb1.out.lt
  go_wp2_with fail
  refine (errorOf_any b A c bs.length hl P q p _ (HP1.out.up zg) hpl HLL.out).mono ?_
  rw [HD.out]
  rintro e w2 ⟨rfl, hb2⟩
  have Hb2 := Lib.hid (Holds.up (by have h := Hb1.out; exact zp0 : Holds _ (w.heap.size) 25 #[.int .i64 b.cool, .int .i64 b.gangs, .int .i64 b.r0, .int .i64 b.r1, .int .i64 b.r2, .int .i64 b.r3, .int .i64 b.r4, .int .i64 b.r5, .slice A bs.length c]) hb2)
  have HS2 : Hid (Below w1.heap.size w1 w2) := Lib.hid (Below.trans zg (hb2.mono (by first | exact Nat.le_refl _ | omega | (simp; done) | (simp; omega))))
  have HB2 : Hid (Below w.heap.size w w2) := Lib.hid (HB1.out.trans (HS2.out.mono hs1))
  have hs2 := HB2.out.size
  have hst2 := HS2.out.size
  have HA2 := Lib.hid (HA1.out.up HS2.out)
  have HP2 := Lib.hid (HP1.out.up HS2.out)
  clear hb2
  clear kb0 kb1 kb2 kb3 kb4 kb5 kb6 kb7 kb8 lt_b
  go_wp2_with fail
  go_ret
  exact ⟨rfl, HB2.out⟩
 ·have HC : Hid (checkErr b bs p = E) := Lib.hid (by unfold checkErr; rw [HE.out, if_pos h0])
  rw [HC.out]
  have hq : (E != 0) = true := by simpa using h0
  have hq2 : (E == 0) = false := by simpa using h0
  clear hE
  go_enter Try.func69, Try.ntmps69
  go_wp2_with fail
  refine (Check_any b A c bs _ (HA.out.up zg) hl).mono ?_
  rw [HE.out]
  rintro e w1 ⟨rfl, hb1⟩
  have Hb1 := Lib.hid (Holds.up (zp0 : Holds _ (w.heap.size) 25 #[.int .i64 b.cool, .int .i64 b.gangs, .int .i64 b.r0, .int .i64 b.r1, .int .i64 b.r2, .int .i64 b.r3, .int .i64 b.r4, .int .i64 b.r5, .slice A bs.length c]) hb1)
  have HS1 : Hid (Below w.heap.size w w1) := Lib.hid (Below.trans zg (hb1.mono (by first | exact Nat.le_refl _ | omega | (simp; done) | (simp; omega))))
  have HB1 := HS1
  have hs1 := HB1.out.size
  have hst1 := HS1.out.size
  have HA1 := Lib.hid (HA.out.up HS1.out)
  have HP1 := Lib.hid (HP.out.up HS1.out)
  clear hb1
  go_wp2_with fail
  go_ret
  exact ⟨rfl, HB1.out⟩
set_option maxRecDepth 100000 in
set_option maxHeartbeats 40000000 in
theorem has_any (A : Option Addr) (c : Nat) (xs : List Int) (v : Int) (w : World) (hA : IntsAt w A xs) (hl : xs.length ≤ 1000) :
  Calls Try.prog 68 #[.slice A xs.length c, .int .i64 v] w fun e w' => e = .returned (.bool (xs.contains v)) ∧ Below w.heap.size w w' := by
 have HA := Lib.hid hA
 obtain ⟨T, hT⟩ : ∃ z, xs.contains v = z := ⟨_, rfl⟩
 rw [hT]
 have HT := Lib.hid hT
 clear hA hT
 go_enter Try.func68, Try.ntmps68
 go_wp2_with fail
 go_loopw [5] (fun v5 wr => ∃ k : Nat, v5 = .int .i64 (k : Int) ∧ k ≤ xs.length ∧ Hid (xs.contains v = (xs.drop k).contains v) ∧ Below w.heap.size w wr) (fun v5 _ => xs.length - (intOf v5).toNat)
 case atStart => exact ⟨0, rfl, Nat.zero_le _, Lib.hid (by rw [List.drop_zero]), Below.refl _ _⟩
 case round =>
  obtain ⟨k, rfl, hk, hp, hB⟩ := hrel
  by_cases hlt : k < xs.length
  ·have hlt' : (k : Int) < xs.length := by omega
   obtain ⟨x, hx⟩ : ∃ z, xs[k]? = some z := ⟨_, List.getElem?_eq_getElem hlt⟩
   obtain ⟨B, o, rfl, hc⟩ := (HA.out.up hB) (by omega)
   have c0 := hc k x hx
   have lB := World.block_lt_of_cell? wr _ c0
   have HD : Hid (xs.drop k = x :: xs.drop (k + 1)) := Lib.hid (by obtain ⟨h, rfl⟩ := List.getElem?_eq_some_iff.1 hx; exact List.drop_eq_getElem_cons h)
   have HBR := Lib.hid hB
   clear hc hx hB
   by_cases he : x = v
   ·subst he
    go_wp2_with fail
    go_ret
    exact ⟨by rw [← HT.out, hp.out, HD.out, List.contains_cons, beq_self_eq_true]; rfl, HBR.out⟩
   ·have hne : (x == v) = false := by simpa using he
    have hne2 : (v == x) = false := by simpa using fun e => he e.symm
    have HN := Lib.hid hne2
    clear hne2
    go_wp2_with fail
    go_roundw
    case rel => exact ⟨k + 1, by go_num, hlt, Lib.hid (by rw [hp.out, HD.out, List.contains_cons, HN.out, Bool.false_or]), HBR.out⟩
    case measure => first | (simp [intOf]; done) | (simp [intOf]; omega)
  ·have hkl : k = xs.length := by omega
   have hlt' : ¬ (k : Int) < xs.length := by omega
   have HZ : Hid (xs.contains v = false) := Lib.hid (by rw [hp.out, hkl, List.drop_length]; rfl)
   go_wp2_with fail
   go_ret
   exact ⟨by rw [← HT.out, HZ.out]; rfl, hB⟩
set_option maxRecDepth 100000 in
set_option maxHeartbeats 40000000 in
theorem Planned_any (b : Br) (A : Option Addr) (c n : Nat) (hn : n ≤ 1000) (P : Option Addr) (q : Nat) (p : List (List Int)) (w : World) (hP : PlanAt w P p) (hl : p.length ≤ 1000000) (hll : ∀ l ∈ p, l.length ≤ 1000) :
  Calls Try.prog 24 #[.agg #[.int .i64 b.cool, .int .i64 b.gangs, .int .i64 b.r0, .int .i64 b.r1, .int .i64 b.r2, .int .i64 b.r3, .int .i64 b.r4, .int .i64 b.r5, .slice A n c], .slice P p.length q] w fun e w' => e = .returned (.int .i64 (planErr n b.gangs p)) ∧ Below w.heap.size w w' := by
 have HP := Lib.hid hP
 have HLL := Lib.hid hll
 obtain ⟨E, hE⟩ : ∃ z, planErr n b.gangs p = z := ⟨_, rfl⟩
 rw [hE]
 have HEQ := Lib.hid hE
 clear hP hll hE
 by_cases hbig : 20000 < p.length
 ·have hbig' : (20000 : Int) < p.length := by omega
  have HE2 : Hid (E = 2) := Lib.hid (by rw [← HEQ.out]; unfold planErr; rw [if_pos hbig])
  go_enter Try.func24, Try.ntmps24
  go_wp2_with fail
  go_ret
  exact ⟨by rw [HE2.out]; rfl, zg⟩
 ·have hbig' : ¬ (20000 : Int) < p.length := by omega
  have HE0 : Hid (E = planErrs n b.gangs p) := Lib.hid (by rw [← HEQ.out]; unfold planErr; rw [if_neg hbig])
  go_enter Try.func24, Try.ntmps24
  go_wp2_with fail
  go_loopw [5] (fun v5 wr => ∃ k : Nat, v5 = .int .i64 (k : Int) ∧ k ≤ p.length ∧ Hid (E = planErrs n b.gangs (p.drop k)) ∧ Below w.heap.size w wr ∧ Holds wr w.heap.size 33 #[.int .i64 b.cool, .int .i64 b.gangs, .int .i64 b.r0, .int .i64 b.r1, .int .i64 b.r2, .int .i64 b.r3, .int .i64 b.r4, .int .i64 b.r5, .slice A n c]) (fun v5 _ => p.length - (intOf v5).toNat)
  case atStart => exact ⟨0, rfl, Nat.zero_le _, Lib.hid (by rw [List.drop_zero]; exact HE0.out), zg, by (repeat first | (with_reducible first | assumption | apply Holds.set4 | apply Holds.set2 | apply Holds.putL | ((refine Holds.new' _ _ ?_); (simp; done)) | refine Holds.alloc ?_ _ | refine Holds.drew ?_ | refine Holds.far ?_ (by simp only [ne_eq]; omega) _) | rfl)⟩
  case round =>
   obtain ⟨k, rfl, hk, hE, hB, hH⟩ := hrel
   have HB := Lib.hid hB
   have HH := Lib.hid hH
   clear hB hH
   by_cases hlt : k < p.length
   ·have hlt' : (k : Int) < p.length := by omega
    obtain ⟨l, hl2⟩ : ∃ z, p[k]? = some z := ⟨_, List.getElem?_eq_getElem hlt⟩
    obtain ⟨B0, oo, rfl, hrow⟩ := (HP.out.up HB.out) (by omega)
    obtain ⟨LA, lc, kl, hI, -⟩ := hrow k l hl2
    have lP := World.block_lt_of_cell? wr _ kl
    have hlen : l.length ≤ 1000 := HLL.out l (List.mem_of_getElem? hl2)
    have HL2 := Lib.hid hl2
    have HI := Lib.hid hI
    have KL := Lib.hid kl
    clear hrow hl2 hI
    have kb1 : wr.cell? ⟨w.heap.size, 1, none⟩ = some (.int .i64 b.gangs) := HH.out.cell 1
    have kb8 : wr.cell? ⟨w.heap.size, 8, none⟩ = some (.slice A n c) := HH.out.cell 8
    have lb := HH.out.lt
    go_wp2_with fail
    go_loopw [6] (fun v6 wz => ∃ i : Nat, v6 = .int .i64 (i : Int) ∧ i ≤ l.length ∧ (∀ y ∈ l.take i, within y 0 ((n : Int) - 1) = true) ∧ Below wr.heap.size wr wz) (fun v6 _ => l.length - (intOf v6).toNat)
    case atStart => exact ⟨0, rfl, Nat.zero_le _, (fun y hy => by simp at hy), Below.refl _ _⟩
    case round =>
     rename World => wi
     obtain ⟨i, rfl, hi, hall, hbi⟩ := hrel
     have HALL := Lib.hid hall
     have HVwi := Lib.hid hbi
     have HBwi := Lib.hid (HB.out.trans (hbi.mono HB.out.size))
     have HHwi := Lib.hid (HH.out.up hbi)
     have klwi := up_cell hbi KL.out
     have lpwi := World.block_lt_of_cell? wi _ klwi
     clear hbi kl kb1 kb8 lb lP
     have kb1 : wi.cell? ⟨w.heap.size, 1, none⟩ = some (.int .i64 b.gangs) := HHwi.out.cell 1
     have kb8 : wi.cell? ⟨w.heap.size, 8, none⟩ = some (.slice A n c) := HHwi.out.cell 8
     have lb := HHwi.out.lt
     clear hall
     by_cases hil : i < l.length
     ·have hil' : (i : Int) < l.length := by omega
      obtain ⟨x, hx⟩ : ∃ z, l[i]? = some z := ⟨_, List.getElem?_eq_getElem hil⟩
      obtain ⟨B1, o1, rfl, hc⟩ := (HI.out.up HVwi.out) (by omega)
      have kx := hc i x hx
      have lx := World.block_lt_of_cell? wi _ kx
      have HX := Lib.hid hx
      clear hc hx
      obtain ⟨t, ht⟩ : ∃ z, within x 0 ((n : Int) - 1) = z := ⟨_, rfl⟩
      cases t
      ·go_wp2_with fail
       rename_i Kc hKc
       have HSL := Lib.hid (show slotsOf [some 26, some 27, some 28, some 29, some 30, some 31, some 32, some 33, some 34, some 35, some 36, some 37] = [26, 27, 28, 29, 30, 31, 32, 33, 34, 35, 36, 37] from rfl)
       refine wp_region_partsG (by kernel_rfl) [some 26, some 27, some 28, some 29, some 30, some 31, some 32, some 33, some 34, some 35, some 36, some 37] (fun jq xq w' => match jq with
        | 0 => xq 26 = .slice (some ⟨B0, oo, none⟩) p.length q
        | 1 => xq 27 = .int .i64 (k : Int)
        | 2 => xq 28 = .pointer (some ⟨B0, oo + k, none⟩)
        | 3 => xq 29 = .slice (some ⟨B1, o1, none⟩) l.length lc
        | 4 => xq 30 = .int .i64 (i : Int)
        | 5 => xq 31 = .pointer (some ⟨B1, o1 + i, none⟩)
        | 6 => xq 32 = .int .i64 x
        | 7 => xq 33 = .pointer (some ⟨w.heap.size, 8, none⟩)
        | 8 => xq 34 = .slice A n c
        | 9 => xq 35 = .int .i64 (n : Int)
        | 10 => xq 36 = .int .i64 ((n : Int) - 1)
        | 11 => xq 37 = .bool true
        | _ => True) [[26], [27], [28], [29], [30], [31], [32], [33], [34], [35], [36], [37]] [] (fun w' => Below wi.heap.size wi w') (by kernel_rfl)  ?_ ?_ (fun w' w'' hb h => h.trans (hb.mono h.size)) (Below.refl _ _) ?_ ?_ ?_
       ·intro jq xq xq' wqq h hv
        match jq, h, hv with
        | 0, h, hv => show xq' 26 = .slice (some ⟨B0, oo, none⟩) p.length q; rw [← h 26 (by decide)]; exact hv
        | 1, h, hv => show xq' 27 = .int .i64 (k : Int); rw [← h 27 (by decide)]; exact hv
        | 2, h, hv => show xq' 28 = .pointer (some ⟨B0, oo + k, none⟩); rw [← h 28 (by decide)]; exact hv
        | 3, h, hv => show xq' 29 = .slice (some ⟨B1, o1, none⟩) l.length lc; rw [← h 29 (by decide)]; exact hv
        | 4, h, hv => show xq' 30 = .int .i64 (i : Int); rw [← h 30 (by decide)]; exact hv
        | 5, h, hv => show xq' 31 = .pointer (some ⟨B1, o1 + i, none⟩); rw [← h 31 (by decide)]; exact hv
        | 6, h, hv => show xq' 32 = .int .i64 x; rw [← h 32 (by decide)]; exact hv
        | 7, h, hv => show xq' 33 = .pointer (some ⟨w.heap.size, 8, none⟩); rw [← h 33 (by decide)]; exact hv
        | 8, h, hv => show xq' 34 = .slice A n c; rw [← h 34 (by decide)]; exact hv
        | 9, h, hv => show xq' 35 = .int .i64 (n : Int); rw [← h 35 (by decide)]; exact hv
        | 10, h, hv => show xq' 36 = .int .i64 ((n : Int) - 1); rw [← h 36 (by decide)]; exact hv
        | 11, h, hv => show xq' 37 = .bool true; rw [← h 37 (by decide)]; exact hv
        | _ + 12, _, _ => trivial
       ·intro jq xq wqq w' hb' hv
        match jq, hv with
        | 0, hv => exact hv
        | 1, hv => exact hv
        | 2, hv => exact hv
        | 3, hv => exact hv
        | 4, hv => exact hv
        | 5, hv => exact hv
        | 6, hv => exact hv
        | 7, hv => exact hv
        | 8, hv => exact hv
        | 9, hv => exact hv
        | 10, hv => exact hv
        | 11, hv => exact hv
        | _ + 12, _ => trivial
       ·intro jq hj
        match jq, hj with
        | 0, hj => exact absurd hj (by decide)
        | 1, hj => exact absurd hj (by decide)
        | 2, hj => exact absurd hj (by decide)
        | 3, hj => exact absurd hj (by decide)
        | 4, hj => exact absurd hj (by decide)
        | 5, hj => exact absurd hj (by decide)
        | 6, hj => exact absurd hj (by decide)
        | 7, hj => exact absurd hj (by decide)
        | 8, hj => exact absurd hj (by decide)
        | 9, hj => exact absurd hj (by decide)
        | 10, hj => exact absurd hj (by decide)
        | 11, hj => exact absurd hj (by decide)
        | _ + 12, _ => trivial
       ·refine ⟨?_, ?_, ?_, ?_, ?_, ?_, ?_, ?_, ?_, ?_, ?_, ?_, trivial⟩
        ·intro xq w1 hb1 hx K hK0
         have hK := fun v w' hb => hK0 v w' (.inl hb)
         clear hx hKc hK0
         simp only [frameOf, fill, setSlot, sg, Nat.reduceBEq, if_true, if_false, Nat.reduceAdd, Nat.reduceEqDiff, HSL.out] at hK ⊢
         go_wp2_with (fail)
         exact hK _ _ (Below.refl _ _) rfl
        ·intro xq w1 hb1 hx K hK0
         have hK := fun v w' hb => hK0 v w' (.inl hb)
         clear hx hKc hK0
         simp only [frameOf, fill, setSlot, sg, Nat.reduceBEq, if_true, if_false, Nat.reduceAdd, Nat.reduceEqDiff, HSL.out] at hK ⊢
         go_wp2_with (fail)
         exact hK _ _ (Below.refl _ _) rfl
        ·intro xq w1 hb1 hx K hK0
         have hK := fun v w' hb => hK0 v w' (.inl hb)
         have e26 : xq 26 = .slice (some ⟨B0, oo, none⟩) p.length q := hx 0 (by rfl) (by rfl)
         have e27 : xq 27 = .int .i64 (k : Int) := hx 1 (by rfl) (by rfl)
         clear hx hKc hK0
         simp only [frameOf, fill, setSlot, sg, Nat.reduceBEq, if_true, if_false, Nat.reduceAdd, Nat.reduceEqDiff, HSL.out] at hK ⊢
         simp only [e26, e27] at hK ⊢
         clear e26 e27
         go_wp2_with (fail)
         exact hK _ _ (Below.refl _ _) rfl
        ·intro xq w1 hb1 hx K hK0
         have hK := fun v w' hb => hK0 v w' (.inl hb)
         have e28 : xq 28 = .pointer (some ⟨B0, oo + k, none⟩) := hx 2 (by rfl) (by rfl)
         clear hx hKc hK0
         have q29 := up_cell hb1 klwi
         simp only [frameOf, fill, setSlot, sg, Nat.reduceBEq, if_true, if_false, Nat.reduceAdd, Nat.reduceEqDiff, HSL.out] at hK ⊢
         simp only [e28] at hK ⊢
         clear e28
         go_wp2_with (fail)
         exact hK _ _ (Below.refl _ _) rfl
        ·intro xq w1 hb1 hx K hK0
         have hK := fun v w' hb => hK0 v w' (.inl hb)
         clear hx hKc hK0
         simp only [frameOf, fill, setSlot, sg, Nat.reduceBEq, if_true, if_false, Nat.reduceAdd, Nat.reduceEqDiff, HSL.out] at hK ⊢
         go_wp2_with (fail)
         exact hK _ _ (Below.refl _ _) rfl
        ·intro xq w1 hb1 hx K hK0
         have hK := fun v w' hb => hK0 v w' (.inl hb)
         have e29 : xq 29 = .slice (some ⟨B1, o1, none⟩) l.length lc := hx 3 (by rfl) (by rfl)
         have e30 : xq 30 = .int .i64 (i : Int) := hx 4 (by rfl) (by rfl)
         clear hx hKc hK0
         simp only [frameOf, fill, setSlot, sg, Nat.reduceBEq, if_true, if_false, Nat.reduceAdd, Nat.reduceEqDiff, HSL.out] at hK ⊢
         simp only [e29, e30] at hK ⊢
         clear e29 e30
         go_wp2_with (fail)
         exact hK _ _ (Below.refl _ _) rfl
        ·intro xq w1 hb1 hx K hK0
         have hK := fun v w' hb => hK0 v w' (.inl hb)
         have e31 : xq 31 = .pointer (some ⟨B1, o1 + i, none⟩) := hx 5 (by rfl) (by rfl)
         clear hx hKc hK0
         have q32 := up_cell hb1 kx
         simp only [frameOf, fill, setSlot, sg, Nat.reduceBEq, if_true, if_false, Nat.reduceAdd, Nat.reduceEqDiff, HSL.out] at hK ⊢
         simp only [e31] at hK ⊢
         clear e31
         go_wp2_with (fail)
         exact hK _ _ (Below.refl _ _) rfl
        ·intro xq w1 hb1 hx K hK0
         have hK := fun v w' hb => hK0 v w' (.inl hb)
         clear hx hKc hK0
         simp only [frameOf, fill, setSlot, sg, Nat.reduceBEq, if_true, if_false, Nat.reduceAdd, Nat.reduceEqDiff, HSL.out] at hK ⊢
         go_wp2_with (fail)
         exact hK _ _ (Below.refl _ _) rfl
        ·intro xq w1 hb1 hx K hK0
         have hK := fun v w' hb => hK0 v w' (.inl hb)
         have e33 : xq 33 = .pointer (some ⟨w.heap.size, 8, none⟩) := hx 7 (by rfl) (by rfl)
         clear hx hKc hK0
         have q34 := up_cell hb1 kb8
         simp only [frameOf, fill, setSlot, sg, Nat.reduceBEq, if_true, if_false, Nat.reduceAdd, Nat.reduceEqDiff, HSL.out] at hK ⊢
         simp only [e33] at hK ⊢
         clear e33
         go_wp2_with (fail)
         exact hK _ _ (Below.refl _ _) rfl
        ·intro xq w1 hb1 hx K hK0
         have hK := fun v w' hb => hK0 v w' (.inl hb)
         have e34 : xq 34 = .slice A n c := hx 8 (by rfl) (by rfl)
         clear hx hKc hK0
         simp only [frameOf, fill, setSlot, sg, Nat.reduceBEq, if_true, if_false, Nat.reduceAdd, Nat.reduceEqDiff, HSL.out] at hK ⊢
         simp only [e34] at hK ⊢
         clear e34
         go_wp2_with (fail)
         exact hK _ _ (Below.refl _ _) rfl
        ·intro xq w1 hb1 hx K hK0
         have hK := fun v w' hb => hK0 v w' (.inl hb)
         have e35 : xq 35 = .int .i64 (n : Int) := hx 9 (by rfl) (by rfl)
         clear hx hKc hK0
         simp only [frameOf, fill, setSlot, sg, Nat.reduceBEq, if_true, if_false, Nat.reduceAdd, Nat.reduceEqDiff, HSL.out] at hK ⊢
         simp only [e35] at hK ⊢
         clear e35
         go_wp2_with (fail)
         exact hK _ _ (Below.refl _ _) rfl
        ·intro xq w1 hb1 hx K hK0
         have hK := fun v w' hb => hK0 v w' (.inl hb)
         have e32 : xq 32 = .int .i64 x := hx 6 (by rfl) (by rfl)
         have e36 : xq 36 = .int .i64 ((n : Int) - 1) := hx 10 (by rfl) (by rfl)
         clear hx hKc hK0
         simp only [frameOf, fill, setSlot, sg, Nat.reduceBEq, if_true, if_false, Nat.reduceAdd, Nat.reduceEqDiff, HSL.out] at hK ⊢
         simp only [e32, e36] at hK ⊢
         clear e32 e36
         go_wp2_with (go_at_call 50; refine (off_any _ _ _ _).mono ?_; simp only [ht, Bool.not_true, Bool.not_false]; rintro e w2_ ⟨rfl, rfl⟩)
         exact hK _ _ (Below.refl _ _) rfl
       ·intro xq w1 hb1 hx
        have e26 : xq 26 = .slice (some ⟨B0, oo, none⟩) p.length q := hx 0 (by decide)
        have e27 : xq 27 = .int .i64 (k : Int) := hx 1 (by decide)
        have e28 : xq 28 = .pointer (some ⟨B0, oo + k, none⟩) := hx 2 (by decide)
        have e29 : xq 29 = .slice (some ⟨B1, o1, none⟩) l.length lc := hx 3 (by decide)
        have e30 : xq 30 = .int .i64 (i : Int) := hx 4 (by decide)
        have e31 : xq 31 = .pointer (some ⟨B1, o1 + i, none⟩) := hx 5 (by decide)
        have e32 : xq 32 = .int .i64 x := hx 6 (by decide)
        have e33 : xq 33 = .pointer (some ⟨w.heap.size, 8, none⟩) := hx 7 (by decide)
        have e34 : xq 34 = .slice A n c := hx 8 (by decide)
        have e35 : xq 35 = .int .i64 (n : Int) := hx 9 (by decide)
        have e36 : xq 36 = .int .i64 ((n : Int) - 1) := hx 10 (by decide)
        have e37 : xq 37 = .bool true := hx 11 (by decide)
        clear hx
        simp only [frameOf, fill, setSlot, sg, Nat.reduceBEq, if_true, if_false, Nat.reduceAdd, Nat.reduceEqDiff, HSL.out]
        simp only [e26, e27, e28, e29, e30, e31, e32, e33, e34, e35, e36, e37]
        clear e26 e27 e28 e29 e30 e31 e32 e33 e34 e35 e36 e37
        refine hKc _ _ ?_
        go_wp2_with fail
        go_ret
        exact ⟨by rw [hE.out, planErrs_at HL2.out (by rw [dayErr_not (all_not HX.out ht)]; decide), dayErr_not (all_not HX.out ht)]; rfl, HBwi.out.trans (hb1.mono HBwi.out.size)⟩
      ·go_wp2_with fail
       rename_i Kc hKc
       have HSL := Lib.hid (show slotsOf [some 26, some 27, some 28, some 29, some 30, some 31, some 32, some 33, some 34, some 35, some 36, some 37] = [26, 27, 28, 29, 30, 31, 32, 33, 34, 35, 36, 37] from rfl)
       refine wp_region_partsG (by kernel_rfl) [some 26, some 27, some 28, some 29, some 30, some 31, some 32, some 33, some 34, some 35, some 36, some 37] (fun jq xq w' => match jq with
        | 0 => xq 26 = .slice (some ⟨B0, oo, none⟩) p.length q
        | 1 => xq 27 = .int .i64 (k : Int)
        | 2 => xq 28 = .pointer (some ⟨B0, oo + k, none⟩)
        | 3 => xq 29 = .slice (some ⟨B1, o1, none⟩) l.length lc
        | 4 => xq 30 = .int .i64 (i : Int)
        | 5 => xq 31 = .pointer (some ⟨B1, o1 + i, none⟩)
        | 6 => xq 32 = .int .i64 x
        | 7 => xq 33 = .pointer (some ⟨w.heap.size, 8, none⟩)
        | 8 => xq 34 = .slice A n c
        | 9 => xq 35 = .int .i64 (n : Int)
        | 10 => xq 36 = .int .i64 ((n : Int) - 1)
        | 11 => xq 37 = .bool false
        | _ => True) [[26], [27], [28], [29], [30], [31], [32], [33], [34], [35], [36], [37]] [] (fun w' => Below wi.heap.size wi w') (by kernel_rfl)  ?_ ?_ (fun w' w'' hb h => h.trans (hb.mono h.size)) (Below.refl _ _) ?_ ?_ ?_
       ·intro jq xq xq' wqq h hv
        match jq, h, hv with
        | 0, h, hv => show xq' 26 = .slice (some ⟨B0, oo, none⟩) p.length q; rw [← h 26 (by decide)]; exact hv
        | 1, h, hv => show xq' 27 = .int .i64 (k : Int); rw [← h 27 (by decide)]; exact hv
        | 2, h, hv => show xq' 28 = .pointer (some ⟨B0, oo + k, none⟩); rw [← h 28 (by decide)]; exact hv
        | 3, h, hv => show xq' 29 = .slice (some ⟨B1, o1, none⟩) l.length lc; rw [← h 29 (by decide)]; exact hv
        | 4, h, hv => show xq' 30 = .int .i64 (i : Int); rw [← h 30 (by decide)]; exact hv
        | 5, h, hv => show xq' 31 = .pointer (some ⟨B1, o1 + i, none⟩); rw [← h 31 (by decide)]; exact hv
        | 6, h, hv => show xq' 32 = .int .i64 x; rw [← h 32 (by decide)]; exact hv
        | 7, h, hv => show xq' 33 = .pointer (some ⟨w.heap.size, 8, none⟩); rw [← h 33 (by decide)]; exact hv
        | 8, h, hv => show xq' 34 = .slice A n c; rw [← h 34 (by decide)]; exact hv
        | 9, h, hv => show xq' 35 = .int .i64 (n : Int); rw [← h 35 (by decide)]; exact hv
        | 10, h, hv => show xq' 36 = .int .i64 ((n : Int) - 1); rw [← h 36 (by decide)]; exact hv
        | 11, h, hv => show xq' 37 = .bool false; rw [← h 37 (by decide)]; exact hv
        | _ + 12, _, _ => trivial
       ·intro jq xq wqq w' hb' hv
        match jq, hv with
        | 0, hv => exact hv
        | 1, hv => exact hv
        | 2, hv => exact hv
        | 3, hv => exact hv
        | 4, hv => exact hv
        | 5, hv => exact hv
        | 6, hv => exact hv
        | 7, hv => exact hv
        | 8, hv => exact hv
        | 9, hv => exact hv
        | 10, hv => exact hv
        | 11, hv => exact hv
        | _ + 12, _ => trivial
       ·intro jq hj
        match jq, hj with
        | 0, hj => exact absurd hj (by decide)
        | 1, hj => exact absurd hj (by decide)
        | 2, hj => exact absurd hj (by decide)
        | 3, hj => exact absurd hj (by decide)
        | 4, hj => exact absurd hj (by decide)
        | 5, hj => exact absurd hj (by decide)
        | 6, hj => exact absurd hj (by decide)
        | 7, hj => exact absurd hj (by decide)
        | 8, hj => exact absurd hj (by decide)
        | 9, hj => exact absurd hj (by decide)
        | 10, hj => exact absurd hj (by decide)
        | 11, hj => exact absurd hj (by decide)
        | _ + 12, _ => trivial
       ·refine ⟨?_, ?_, ?_, ?_, ?_, ?_, ?_, ?_, ?_, ?_, ?_, ?_, trivial⟩
        ·intro xq w1 hb1 hx K hK0
         have hK := fun v w' hb => hK0 v w' (.inl hb)
         clear hx hKc hK0
         simp only [frameOf, fill, setSlot, sg, Nat.reduceBEq, if_true, if_false, Nat.reduceAdd, Nat.reduceEqDiff, HSL.out] at hK ⊢
         go_wp2_with (fail)
         exact hK _ _ (Below.refl _ _) rfl
        ·intro xq w1 hb1 hx K hK0
         have hK := fun v w' hb => hK0 v w' (.inl hb)
         clear hx hKc hK0
         simp only [frameOf, fill, setSlot, sg, Nat.reduceBEq, if_true, if_false, Nat.reduceAdd, Nat.reduceEqDiff, HSL.out] at hK ⊢
         go_wp2_with (fail)
         exact hK _ _ (Below.refl _ _) rfl
        ·intro xq w1 hb1 hx K hK0
         have hK := fun v w' hb => hK0 v w' (.inl hb)
         have e26 : xq 26 = .slice (some ⟨B0, oo, none⟩) p.length q := hx 0 (by rfl) (by rfl)
         have e27 : xq 27 = .int .i64 (k : Int) := hx 1 (by rfl) (by rfl)
         clear hx hKc hK0
         simp only [frameOf, fill, setSlot, sg, Nat.reduceBEq, if_true, if_false, Nat.reduceAdd, Nat.reduceEqDiff, HSL.out] at hK ⊢
         simp only [e26, e27] at hK ⊢
         clear e26 e27
         go_wp2_with (fail)
         exact hK _ _ (Below.refl _ _) rfl
        ·intro xq w1 hb1 hx K hK0
         have hK := fun v w' hb => hK0 v w' (.inl hb)
         have e28 : xq 28 = .pointer (some ⟨B0, oo + k, none⟩) := hx 2 (by rfl) (by rfl)
         clear hx hKc hK0
         have q29 := up_cell hb1 klwi
         simp only [frameOf, fill, setSlot, sg, Nat.reduceBEq, if_true, if_false, Nat.reduceAdd, Nat.reduceEqDiff, HSL.out] at hK ⊢
         simp only [e28] at hK ⊢
         clear e28
         go_wp2_with (fail)
         exact hK _ _ (Below.refl _ _) rfl
        ·intro xq w1 hb1 hx K hK0
         have hK := fun v w' hb => hK0 v w' (.inl hb)
         clear hx hKc hK0
         simp only [frameOf, fill, setSlot, sg, Nat.reduceBEq, if_true, if_false, Nat.reduceAdd, Nat.reduceEqDiff, HSL.out] at hK ⊢
         go_wp2_with (fail)
         exact hK _ _ (Below.refl _ _) rfl
        ·intro xq w1 hb1 hx K hK0
         have hK := fun v w' hb => hK0 v w' (.inl hb)
         have e29 : xq 29 = .slice (some ⟨B1, o1, none⟩) l.length lc := hx 3 (by rfl) (by rfl)
         have e30 : xq 30 = .int .i64 (i : Int) := hx 4 (by rfl) (by rfl)
         clear hx hKc hK0
         simp only [frameOf, fill, setSlot, sg, Nat.reduceBEq, if_true, if_false, Nat.reduceAdd, Nat.reduceEqDiff, HSL.out] at hK ⊢
         simp only [e29, e30] at hK ⊢
         clear e29 e30
         go_wp2_with (fail)
         exact hK _ _ (Below.refl _ _) rfl
        ·intro xq w1 hb1 hx K hK0
         have hK := fun v w' hb => hK0 v w' (.inl hb)
         have e31 : xq 31 = .pointer (some ⟨B1, o1 + i, none⟩) := hx 5 (by rfl) (by rfl)
         clear hx hKc hK0
         have q32 := up_cell hb1 kx
         simp only [frameOf, fill, setSlot, sg, Nat.reduceBEq, if_true, if_false, Nat.reduceAdd, Nat.reduceEqDiff, HSL.out] at hK ⊢
         simp only [e31] at hK ⊢
         clear e31
         go_wp2_with (fail)
         exact hK _ _ (Below.refl _ _) rfl
        ·intro xq w1 hb1 hx K hK0
         have hK := fun v w' hb => hK0 v w' (.inl hb)
         clear hx hKc hK0
         simp only [frameOf, fill, setSlot, sg, Nat.reduceBEq, if_true, if_false, Nat.reduceAdd, Nat.reduceEqDiff, HSL.out] at hK ⊢
         go_wp2_with (fail)
         exact hK _ _ (Below.refl _ _) rfl
        ·intro xq w1 hb1 hx K hK0
         have hK := fun v w' hb => hK0 v w' (.inl hb)
         have e33 : xq 33 = .pointer (some ⟨w.heap.size, 8, none⟩) := hx 7 (by rfl) (by rfl)
         clear hx hKc hK0
         have q34 := up_cell hb1 kb8
         simp only [frameOf, fill, setSlot, sg, Nat.reduceBEq, if_true, if_false, Nat.reduceAdd, Nat.reduceEqDiff, HSL.out] at hK ⊢
         simp only [e33] at hK ⊢
         clear e33
         go_wp2_with (fail)
         exact hK _ _ (Below.refl _ _) rfl
        ·intro xq w1 hb1 hx K hK0
         have hK := fun v w' hb => hK0 v w' (.inl hb)
         have e34 : xq 34 = .slice A n c := hx 8 (by rfl) (by rfl)
         clear hx hKc hK0
         simp only [frameOf, fill, setSlot, sg, Nat.reduceBEq, if_true, if_false, Nat.reduceAdd, Nat.reduceEqDiff, HSL.out] at hK ⊢
         simp only [e34] at hK ⊢
         clear e34
         go_wp2_with (fail)
         exact hK _ _ (Below.refl _ _) rfl
        ·intro xq w1 hb1 hx K hK0
         have hK := fun v w' hb => hK0 v w' (.inl hb)
         have e35 : xq 35 = .int .i64 (n : Int) := hx 9 (by rfl) (by rfl)
         clear hx hKc hK0
         simp only [frameOf, fill, setSlot, sg, Nat.reduceBEq, if_true, if_false, Nat.reduceAdd, Nat.reduceEqDiff, HSL.out] at hK ⊢
         simp only [e35] at hK ⊢
         clear e35
         go_wp2_with (fail)
         exact hK _ _ (Below.refl _ _) rfl
        ·intro xq w1 hb1 hx K hK0
         have hK := fun v w' hb => hK0 v w' (.inl hb)
         have e32 : xq 32 = .int .i64 x := hx 6 (by rfl) (by rfl)
         have e36 : xq 36 = .int .i64 ((n : Int) - 1) := hx 10 (by rfl) (by rfl)
         clear hx hKc hK0
         simp only [frameOf, fill, setSlot, sg, Nat.reduceBEq, if_true, if_false, Nat.reduceAdd, Nat.reduceEqDiff, HSL.out] at hK ⊢
         simp only [e32, e36] at hK ⊢
         clear e32 e36
         go_wp2_with (go_at_call 50; refine (off_any _ _ _ _).mono ?_; simp only [ht, Bool.not_true, Bool.not_false]; rintro e w2_ ⟨rfl, rfl⟩)
         exact hK _ _ (Below.refl _ _) rfl
       ·intro xq w1 hb1 hx
        have e26 : xq 26 = .slice (some ⟨B0, oo, none⟩) p.length q := hx 0 (by decide)
        have e27 : xq 27 = .int .i64 (k : Int) := hx 1 (by decide)
        have e28 : xq 28 = .pointer (some ⟨B0, oo + k, none⟩) := hx 2 (by decide)
        have e29 : xq 29 = .slice (some ⟨B1, o1, none⟩) l.length lc := hx 3 (by decide)
        have e30 : xq 30 = .int .i64 (i : Int) := hx 4 (by decide)
        have e31 : xq 31 = .pointer (some ⟨B1, o1 + i, none⟩) := hx 5 (by decide)
        have e32 : xq 32 = .int .i64 x := hx 6 (by decide)
        have e33 : xq 33 = .pointer (some ⟨w.heap.size, 8, none⟩) := hx 7 (by decide)
        have e34 : xq 34 = .slice A n c := hx 8 (by decide)
        have e35 : xq 35 = .int .i64 (n : Int) := hx 9 (by decide)
        have e36 : xq 36 = .int .i64 ((n : Int) - 1) := hx 10 (by decide)
        have e37 : xq 37 = .bool false := hx 11 (by decide)
        clear hx
        simp only [frameOf, fill, setSlot, sg, Nat.reduceBEq, if_true, if_false, Nat.reduceAdd, Nat.reduceEqDiff, HSL.out]
        simp only [e26, e27, e28, e29, e30, e31, e32, e33, e34, e35, e36, e37]
        clear e26 e27 e28 e29 e30 e31 e32 e33 e34 e35 e36 e37
        refine hKc _ _ ?_
        go_wp2_with fail
        go_roundw
        case rel => exact ⟨i + 1, by go_num, hil, take_next HX.out HALL.out ht, HVwi.out.trans (hb1.mono HVwi.out.size)⟩
        case measure => first | (simp [intOf]; done) | (simp [intOf]; omega)
     ·have hie : i = l.length := by omega
      have H1 : Hid (l.all (fun z => within z 0 ((n : Int) - 1)) = true) := Lib.hid (List.all_eq_true.2 (fun x hx => HALL.out x (by rw [hie, List.take_length]; exact hx)))
      have hil' : ¬ (i : Int) < l.length := by omega
      go_wp2_with fail
      go_loopw [7] (fun v7 wz => ∃ j : Nat, v7 = .int .i64 (j : Int) ∧ 1 ≤ j ∧ (j ≤ l.length ∨ j = 1) ∧ IncTo l j ∧ Below wr.heap.size wr wz) (fun v7 _ => l.length + 1 - (intOf v7).toNat)
      case atStart => exact ⟨1, rfl, Nat.le_refl _, .inr rfl, (fun j a b h => by omega), HVwi.out.trans zg⟩
      case round =>
       rename World => wj
       obtain ⟨j, rfl, hj1, hj2, hf, hbj⟩ := hrel
       have HF := Lib.hid hf
       have HVwj := Lib.hid hbj
       have HBwj := Lib.hid (HB.out.trans (hbj.mono HB.out.size))
       have HHwj := Lib.hid (HH.out.up hbj)
       have klwj := up_cell hbj KL.out
       have lpwj := World.block_lt_of_cell? wj _ klwj
       clear hbj klwi lpwi kb1 kb8 lb
       have kb1 : wj.cell? ⟨w.heap.size, 1, none⟩ = some (.int .i64 b.gangs) := HHwj.out.cell 1
       have kb8 : wj.cell? ⟨w.heap.size, 8, none⟩ = some (.slice A n c) := HHwj.out.cell 8
       have lb := HHwj.out.lt
       clear hf
       by_cases hjl : j < l.length
       ·have hjl' : (j : Int) < l.length := by omega
        obtain ⟨m, rfl⟩ : ∃ m, j = m + 1 := ⟨j - 1, by omega⟩
        obtain ⟨x, hx⟩ : ∃ z, l[m]? = some z := ⟨_, List.getElem?_eq_getElem (by omega)⟩
        obtain ⟨y, hy⟩ : ∃ z, l[m + 1]? = some z := ⟨_, List.getElem?_eq_getElem hjl⟩
        obtain ⟨B1, o1, rfl, hc⟩ := (HI.out.up HVwj.out) (by omega)
        have kx := hc m x hx
        have ky := hc (m + 1) y hy
        have lx := World.block_lt_of_cell? wj _ kx
        have HX := Lib.hid hx
        have HY := Lib.hid hy
        have HJ := Lib.hid hjl
        clear hc hx hy
        by_cases hp : x < y
        ·go_wp2_with fail
         rename_i Kc hKc
         have HSL := Lib.hid (show slotsOf [some 47, some 48, some 49, some 50, some 51, some 52, some 53, some 54, some 55, some 56, some 57, some 58, some 59, some 60, some 61, some 62] = [47, 48, 49, 50, 51, 52, 53, 54, 55, 56, 57, 58, 59, 60, 61, 62] from rfl)
         refine wp_region_partsG (by kernel_rfl) [some 47, some 48, some 49, some 50, some 51, some 52, some 53, some 54, some 55, some 56, some 57, some 58, some 59, some 60, some 61, some 62] (fun jq xq w' => match jq with
          | 0 => xq 47 = .slice (some ⟨B0, oo, none⟩) p.length q
          | 1 => xq 48 = .int .i64 (k : Int)
          | 2 => xq 49 = .pointer (some ⟨B0, oo + k, none⟩)
          | 3 => xq 50 = .slice (some ⟨B1, o1, none⟩) l.length lc
          | 4 => xq 51 = .int .i64 ((m + 1 : Nat) : Int)
          | 5 => xq 52 = .pointer (some ⟨B1, o1 + (m + 1), none⟩)
          | 6 => xq 53 = .int .i64 y
          | 7 => xq 54 = .slice (some ⟨B0, oo, none⟩) p.length q
          | 8 => xq 55 = .int .i64 (k : Int)
          | 9 => xq 56 = .pointer (some ⟨B0, oo + k, none⟩)
          | 10 => xq 57 = .slice (some ⟨B1, o1, none⟩) l.length lc
          | 11 => xq 58 = .int .i64 ((m + 1 : Nat) : Int)
          | 12 => xq 59 = .int .i64 (m : Int)
          | 13 => xq 60 = .pointer (some ⟨B1, o1 + m, none⟩)
          | 14 => xq 61 = .int .i64 x
          | 15 => xq 62 = .bool false
          | _ => True) [[47], [48], [49], [50], [51], [52], [53], [54], [55], [56], [57], [58], [59], [60], [61], [62]] [] (fun w' => Below wj.heap.size wj w') (by kernel_rfl)  ?_ ?_ (fun w' w'' hb h => h.trans (hb.mono h.size)) (Below.refl _ _) ?_ ?_ ?_
         ·intro jq xq xq' wqq h hv
          match jq, h, hv with
          | 0, h, hv => show xq' 47 = .slice (some ⟨B0, oo, none⟩) p.length q; rw [← h 47 (by decide)]; exact hv
          | 1, h, hv => show xq' 48 = .int .i64 (k : Int); rw [← h 48 (by decide)]; exact hv
          | 2, h, hv => show xq' 49 = .pointer (some ⟨B0, oo + k, none⟩); rw [← h 49 (by decide)]; exact hv
          | 3, h, hv => show xq' 50 = .slice (some ⟨B1, o1, none⟩) l.length lc; rw [← h 50 (by decide)]; exact hv
          | 4, h, hv => show xq' 51 = .int .i64 ((m + 1 : Nat) : Int); rw [← h 51 (by decide)]; exact hv
          | 5, h, hv => show xq' 52 = .pointer (some ⟨B1, o1 + (m + 1), none⟩); rw [← h 52 (by decide)]; exact hv
          | 6, h, hv => show xq' 53 = .int .i64 y; rw [← h 53 (by decide)]; exact hv
          | 7, h, hv => show xq' 54 = .slice (some ⟨B0, oo, none⟩) p.length q; rw [← h 54 (by decide)]; exact hv
          | 8, h, hv => show xq' 55 = .int .i64 (k : Int); rw [← h 55 (by decide)]; exact hv
          | 9, h, hv => show xq' 56 = .pointer (some ⟨B0, oo + k, none⟩); rw [← h 56 (by decide)]; exact hv
          | 10, h, hv => show xq' 57 = .slice (some ⟨B1, o1, none⟩) l.length lc; rw [← h 57 (by decide)]; exact hv
          | 11, h, hv => show xq' 58 = .int .i64 ((m + 1 : Nat) : Int); rw [← h 58 (by decide)]; exact hv
          | 12, h, hv => show xq' 59 = .int .i64 (m : Int); rw [← h 59 (by decide)]; exact hv
          | 13, h, hv => show xq' 60 = .pointer (some ⟨B1, o1 + m, none⟩); rw [← h 60 (by decide)]; exact hv
          | 14, h, hv => show xq' 61 = .int .i64 x; rw [← h 61 (by decide)]; exact hv
          | 15, h, hv => show xq' 62 = .bool false; rw [← h 62 (by decide)]; exact hv
          | _ + 16, _, _ => trivial
         ·intro jq xq wqq w' hb' hv
          match jq, hv with
          | 0, hv => exact hv
          | 1, hv => exact hv
          | 2, hv => exact hv
          | 3, hv => exact hv
          | 4, hv => exact hv
          | 5, hv => exact hv
          | 6, hv => exact hv
          | 7, hv => exact hv
          | 8, hv => exact hv
          | 9, hv => exact hv
          | 10, hv => exact hv
          | 11, hv => exact hv
          | 12, hv => exact hv
          | 13, hv => exact hv
          | 14, hv => exact hv
          | 15, hv => exact hv
          | _ + 16, _ => trivial
         ·intro jq hj
          match jq, hj with
          | 0, hj => exact absurd hj (by decide)
          | 1, hj => exact absurd hj (by decide)
          | 2, hj => exact absurd hj (by decide)
          | 3, hj => exact absurd hj (by decide)
          | 4, hj => exact absurd hj (by decide)
          | 5, hj => exact absurd hj (by decide)
          | 6, hj => exact absurd hj (by decide)
          | 7, hj => exact absurd hj (by decide)
          | 8, hj => exact absurd hj (by decide)
          | 9, hj => exact absurd hj (by decide)
          | 10, hj => exact absurd hj (by decide)
          | 11, hj => exact absurd hj (by decide)
          | 12, hj => exact absurd hj (by decide)
          | 13, hj => exact absurd hj (by decide)
          | 14, hj => exact absurd hj (by decide)
          | 15, hj => exact absurd hj (by decide)
          | _ + 16, _ => trivial
         ·refine ⟨?_, ?_, ?_, ?_, ?_, ?_, ?_, ?_, ?_, ?_, ?_, ?_, ?_, ?_, ?_, ?_, trivial⟩
          ·intro xq w1 hb1 hx K hK0
           have hK := fun v w' hb => hK0 v w' (.inl hb)
           clear hx hKc hK0
           simp only [frameOf, fill, setSlot, sg, Nat.reduceBEq, if_true, if_false, Nat.reduceAdd, Nat.reduceEqDiff, HSL.out] at hK ⊢
           go_wp2_with (fail)
           exact hK _ _ (Below.refl _ _) rfl
          ·intro xq w1 hb1 hx K hK0
           have hK := fun v w' hb => hK0 v w' (.inl hb)
           clear hx hKc hK0
           simp only [frameOf, fill, setSlot, sg, Nat.reduceBEq, if_true, if_false, Nat.reduceAdd, Nat.reduceEqDiff, HSL.out] at hK ⊢
           go_wp2_with (fail)
           exact hK _ _ (Below.refl _ _) rfl
          ·intro xq w1 hb1 hx K hK0
           have hK := fun v w' hb => hK0 v w' (.inl hb)
           have e47 : xq 47 = .slice (some ⟨B0, oo, none⟩) p.length q := hx 0 (by rfl) (by rfl)
           have e48 : xq 48 = .int .i64 (k : Int) := hx 1 (by rfl) (by rfl)
           clear hx hKc hK0
           simp only [frameOf, fill, setSlot, sg, Nat.reduceBEq, if_true, if_false, Nat.reduceAdd, Nat.reduceEqDiff, HSL.out] at hK ⊢
           simp only [e47, e48] at hK ⊢
           clear e47 e48
           go_wp2_with (fail)
           exact hK _ _ (Below.refl _ _) rfl
          ·intro xq w1 hb1 hx K hK0
           have hK := fun v w' hb => hK0 v w' (.inl hb)
           have e49 : xq 49 = .pointer (some ⟨B0, oo + k, none⟩) := hx 2 (by rfl) (by rfl)
           clear hx hKc hK0
           have q50 := up_cell hb1 klwj
           simp only [frameOf, fill, setSlot, sg, Nat.reduceBEq, if_true, if_false, Nat.reduceAdd, Nat.reduceEqDiff, HSL.out] at hK ⊢
           simp only [e49] at hK ⊢
           clear e49
           go_wp2_with (fail)
           exact hK _ _ (Below.refl _ _) rfl
          ·intro xq w1 hb1 hx K hK0
           have hK := fun v w' hb => hK0 v w' (.inl hb)
           clear hx hKc hK0
           simp only [frameOf, fill, setSlot, sg, Nat.reduceBEq, if_true, if_false, Nat.reduceAdd, Nat.reduceEqDiff, HSL.out] at hK ⊢
           go_wp2_with (fail)
           first | exact hK _ _ (Below.refl _ _) rfl | exact hK _ _ (Below.refl _ _) (by go_num)
          ·intro xq w1 hb1 hx K hK0
           have hK := fun v w' hb => hK0 v w' (.inl hb)
           have e50 : xq 50 = .slice (some ⟨B1, o1, none⟩) l.length lc := hx 3 (by rfl) (by rfl)
           have e51 : xq 51 = .int .i64 ((m + 1 : Nat) : Int) := hx 4 (by rfl) (by rfl)
           clear hx hKc hK0
           have h1 : m + 1 < l.length := HJ.out
           simp only [frameOf, fill, setSlot, sg, Nat.reduceBEq, if_true, if_false, Nat.reduceAdd, Nat.reduceEqDiff, HSL.out] at hK ⊢
           simp only [e50, e51] at hK ⊢
           clear e50 e51
           go_wp2_with (fail)
           exact hK _ _ (Below.refl _ _) rfl
          ·intro xq w1 hb1 hx K hK0
           have hK := fun v w' hb => hK0 v w' (.inl hb)
           have e52 : xq 52 = .pointer (some ⟨B1, o1 + (m + 1), none⟩) := hx 5 (by rfl) (by rfl)
           clear hx hKc hK0
           have q53 := up_cell hb1 ky
           simp only [frameOf, fill, setSlot, sg, Nat.reduceBEq, if_true, if_false, Nat.reduceAdd, Nat.reduceEqDiff, HSL.out] at hK ⊢
           simp only [e52] at hK ⊢
           clear e52
           go_wp2_with (fail)
           exact hK _ _ (Below.refl _ _) rfl
          ·intro xq w1 hb1 hx K hK0
           have hK := fun v w' hb => hK0 v w' (.inl hb)
           clear hx hKc hK0
           simp only [frameOf, fill, setSlot, sg, Nat.reduceBEq, if_true, if_false, Nat.reduceAdd, Nat.reduceEqDiff, HSL.out] at hK ⊢
           go_wp2_with (fail)
           exact hK _ _ (Below.refl _ _) rfl
          ·intro xq w1 hb1 hx K hK0
           have hK := fun v w' hb => hK0 v w' (.inl hb)
           clear hx hKc hK0
           simp only [frameOf, fill, setSlot, sg, Nat.reduceBEq, if_true, if_false, Nat.reduceAdd, Nat.reduceEqDiff, HSL.out] at hK ⊢
           go_wp2_with (fail)
           exact hK _ _ (Below.refl _ _) rfl
          ·intro xq w1 hb1 hx K hK0
           have hK := fun v w' hb => hK0 v w' (.inl hb)
           have e54 : xq 54 = .slice (some ⟨B0, oo, none⟩) p.length q := hx 7 (by rfl) (by rfl)
           have e55 : xq 55 = .int .i64 (k : Int) := hx 8 (by rfl) (by rfl)
           clear hx hKc hK0
           simp only [frameOf, fill, setSlot, sg, Nat.reduceBEq, if_true, if_false, Nat.reduceAdd, Nat.reduceEqDiff, HSL.out] at hK ⊢
           simp only [e54, e55] at hK ⊢
           clear e54 e55
           go_wp2_with (fail)
           exact hK _ _ (Below.refl _ _) rfl
          ·intro xq w1 hb1 hx K hK0
           have hK := fun v w' hb => hK0 v w' (.inl hb)
           have e56 : xq 56 = .pointer (some ⟨B0, oo + k, none⟩) := hx 9 (by rfl) (by rfl)
           clear hx hKc hK0
           have q57 := up_cell hb1 klwj
           simp only [frameOf, fill, setSlot, sg, Nat.reduceBEq, if_true, if_false, Nat.reduceAdd, Nat.reduceEqDiff, HSL.out] at hK ⊢
           simp only [e56] at hK ⊢
           clear e56
           go_wp2_with (fail)
           exact hK _ _ (Below.refl _ _) rfl
          ·intro xq w1 hb1 hx K hK0
           have hK := fun v w' hb => hK0 v w' (.inl hb)
           clear hx hKc hK0
           simp only [frameOf, fill, setSlot, sg, Nat.reduceBEq, if_true, if_false, Nat.reduceAdd, Nat.reduceEqDiff, HSL.out] at hK ⊢
           go_wp2_with (fail)
           first | exact hK _ _ (Below.refl _ _) rfl | exact hK _ _ (Below.refl _ _) (by go_num)
          ·intro xq w1 hb1 hx K hK0
           have hK := fun v w' hb => hK0 v w' (.inl hb)
           have e58 : xq 58 = .int .i64 ((m + 1 : Nat) : Int) := hx 11 (by rfl) (by rfl)
           clear hx hKc hK0
           simp only [frameOf, fill, setSlot, sg, Nat.reduceBEq, if_true, if_false, Nat.reduceAdd, Nat.reduceEqDiff, HSL.out] at hK ⊢
           simp only [e58] at hK ⊢
           clear e58
           go_wp2_with (fail)
           first | exact hK _ _ (Below.refl _ _) rfl | exact hK _ _ (Below.refl _ _) (by go_num)
          ·intro xq w1 hb1 hx K hK0
           have hK := fun v w' hb => hK0 v w' (.inl hb)
           have e57 : xq 57 = .slice (some ⟨B1, o1, none⟩) l.length lc := hx 10 (by rfl) (by rfl)
           have e59 : xq 59 = .int .i64 (m : Int) := hx 12 (by rfl) (by rfl)
           clear hx hKc hK0
           have h1 : m < l.length := Nat.lt_of_succ_lt HJ.out
           simp only [frameOf, fill, setSlot, sg, Nat.reduceBEq, if_true, if_false, Nat.reduceAdd, Nat.reduceEqDiff, HSL.out] at hK ⊢
           simp only [e57, e59] at hK ⊢
           clear e57 e59
           go_wp2_with (fail)
           exact hK _ _ (Below.refl _ _) rfl
          ·intro xq w1 hb1 hx K hK0
           have hK := fun v w' hb => hK0 v w' (.inl hb)
           have e60 : xq 60 = .pointer (some ⟨B1, o1 + m, none⟩) := hx 13 (by rfl) (by rfl)
           clear hx hKc hK0
           have q61 := up_cell hb1 kx
           simp only [frameOf, fill, setSlot, sg, Nat.reduceBEq, if_true, if_false, Nat.reduceAdd, Nat.reduceEqDiff, HSL.out] at hK ⊢
           simp only [e60] at hK ⊢
           clear e60
           go_wp2_with (fail)
           exact hK _ _ (Below.refl _ _) rfl
          ·intro xq w1 hb1 hx K hK0
           have hK := fun v w' hb => hK0 v w' (.inl hb)
           have e53 : xq 53 = .int .i64 y := hx 6 (by rfl) (by rfl)
           have e61 : xq 61 = .int .i64 x := hx 14 (by rfl) (by rfl)
           clear hx hKc hK0
           simp only [frameOf, fill, setSlot, sg, Nat.reduceBEq, if_true, if_false, Nat.reduceAdd, Nat.reduceEqDiff, HSL.out] at hK ⊢
           simp only [e53, e61] at hK ⊢
           clear e53 e61
           go_wp2_with (fail)
           first | exact hK _ _ (Below.refl _ _) rfl | exact hK _ _ (Below.refl _ _) (congrArg Value.bool (decide_eq_false (by omega)))
         ·intro xq w1 hb1 hx
          have e47 : xq 47 = .slice (some ⟨B0, oo, none⟩) p.length q := hx 0 (by decide)
          have e48 : xq 48 = .int .i64 (k : Int) := hx 1 (by decide)
          have e49 : xq 49 = .pointer (some ⟨B0, oo + k, none⟩) := hx 2 (by decide)
          have e50 : xq 50 = .slice (some ⟨B1, o1, none⟩) l.length lc := hx 3 (by decide)
          have e51 : xq 51 = .int .i64 ((m + 1 : Nat) : Int) := hx 4 (by decide)
          have e52 : xq 52 = .pointer (some ⟨B1, o1 + (m + 1), none⟩) := hx 5 (by decide)
          have e53 : xq 53 = .int .i64 y := hx 6 (by decide)
          have e54 : xq 54 = .slice (some ⟨B0, oo, none⟩) p.length q := hx 7 (by decide)
          have e55 : xq 55 = .int .i64 (k : Int) := hx 8 (by decide)
          have e56 : xq 56 = .pointer (some ⟨B0, oo + k, none⟩) := hx 9 (by decide)
          have e57 : xq 57 = .slice (some ⟨B1, o1, none⟩) l.length lc := hx 10 (by decide)
          have e58 : xq 58 = .int .i64 ((m + 1 : Nat) : Int) := hx 11 (by decide)
          have e59 : xq 59 = .int .i64 (m : Int) := hx 12 (by decide)
          have e60 : xq 60 = .pointer (some ⟨B1, o1 + m, none⟩) := hx 13 (by decide)
          have e61 : xq 61 = .int .i64 x := hx 14 (by decide)
          have e62 : xq 62 = .bool false := hx 15 (by decide)
          clear hx
          simp only [frameOf, fill, setSlot, sg, Nat.reduceBEq, if_true, if_false, Nat.reduceAdd, Nat.reduceEqDiff, HSL.out]
          simp only [e47, e48, e49, e50, e51, e52, e53, e54, e55, e56, e57, e58, e59, e60, e61, e62]
          clear e47 e48 e49 e50 e51 e52 e53 e54 e55 e56 e57 e58 e59 e60 e61 e62
          refine hKc _ _ ?_
          go_wp2_with fail
          go_roundw
          case rel => exact ⟨m + 1 + 1, by go_num, by omega, .inl (Nat.succ_le_of_lt HJ.out), HF.out.next HX.out HY.out hp, HVwj.out.trans (hb1.mono HVwj.out.size)⟩
          case measure => first | (simp [intOf]; done) | (simp [intOf]; omega)
        ·have hp' : y ≤ x := by omega
         go_wp2_with fail
         rename_i Kc hKc
         have HSL := Lib.hid (show slotsOf [some 47, some 48, some 49, some 50, some 51, some 52, some 53, some 54, some 55, some 56, some 57, some 58, some 59, some 60, some 61, some 62] = [47, 48, 49, 50, 51, 52, 53, 54, 55, 56, 57, 58, 59, 60, 61, 62] from rfl)
         refine wp_region_partsG (by kernel_rfl) [some 47, some 48, some 49, some 50, some 51, some 52, some 53, some 54, some 55, some 56, some 57, some 58, some 59, some 60, some 61, some 62] (fun jq xq w' => match jq with
          | 0 => xq 47 = .slice (some ⟨B0, oo, none⟩) p.length q
          | 1 => xq 48 = .int .i64 (k : Int)
          | 2 => xq 49 = .pointer (some ⟨B0, oo + k, none⟩)
          | 3 => xq 50 = .slice (some ⟨B1, o1, none⟩) l.length lc
          | 4 => xq 51 = .int .i64 ((m + 1 : Nat) : Int)
          | 5 => xq 52 = .pointer (some ⟨B1, o1 + (m + 1), none⟩)
          | 6 => xq 53 = .int .i64 y
          | 7 => xq 54 = .slice (some ⟨B0, oo, none⟩) p.length q
          | 8 => xq 55 = .int .i64 (k : Int)
          | 9 => xq 56 = .pointer (some ⟨B0, oo + k, none⟩)
          | 10 => xq 57 = .slice (some ⟨B1, o1, none⟩) l.length lc
          | 11 => xq 58 = .int .i64 ((m + 1 : Nat) : Int)
          | 12 => xq 59 = .int .i64 (m : Int)
          | 13 => xq 60 = .pointer (some ⟨B1, o1 + m, none⟩)
          | 14 => xq 61 = .int .i64 x
          | 15 => xq 62 = .bool true
          | _ => True) [[47], [48], [49], [50], [51], [52], [53], [54], [55], [56], [57], [58], [59], [60], [61], [62]] [] (fun w' => Below wj.heap.size wj w') (by kernel_rfl)  ?_ ?_ (fun w' w'' hb h => h.trans (hb.mono h.size)) (Below.refl _ _) ?_ ?_ ?_
         ·intro jq xq xq' wqq h hv
          match jq, h, hv with
          | 0, h, hv => show xq' 47 = .slice (some ⟨B0, oo, none⟩) p.length q; rw [← h 47 (by decide)]; exact hv
          | 1, h, hv => show xq' 48 = .int .i64 (k : Int); rw [← h 48 (by decide)]; exact hv
          | 2, h, hv => show xq' 49 = .pointer (some ⟨B0, oo + k, none⟩); rw [← h 49 (by decide)]; exact hv
          | 3, h, hv => show xq' 50 = .slice (some ⟨B1, o1, none⟩) l.length lc; rw [← h 50 (by decide)]; exact hv
          | 4, h, hv => show xq' 51 = .int .i64 ((m + 1 : Nat) : Int); rw [← h 51 (by decide)]; exact hv
          | 5, h, hv => show xq' 52 = .pointer (some ⟨B1, o1 + (m + 1), none⟩); rw [← h 52 (by decide)]; exact hv
          | 6, h, hv => show xq' 53 = .int .i64 y; rw [← h 53 (by decide)]; exact hv
          | 7, h, hv => show xq' 54 = .slice (some ⟨B0, oo, none⟩) p.length q; rw [← h 54 (by decide)]; exact hv
          | 8, h, hv => show xq' 55 = .int .i64 (k : Int); rw [← h 55 (by decide)]; exact hv
          | 9, h, hv => show xq' 56 = .pointer (some ⟨B0, oo + k, none⟩); rw [← h 56 (by decide)]; exact hv
          | 10, h, hv => show xq' 57 = .slice (some ⟨B1, o1, none⟩) l.length lc; rw [← h 57 (by decide)]; exact hv
          | 11, h, hv => show xq' 58 = .int .i64 ((m + 1 : Nat) : Int); rw [← h 58 (by decide)]; exact hv
          | 12, h, hv => show xq' 59 = .int .i64 (m : Int); rw [← h 59 (by decide)]; exact hv
          | 13, h, hv => show xq' 60 = .pointer (some ⟨B1, o1 + m, none⟩); rw [← h 60 (by decide)]; exact hv
          | 14, h, hv => show xq' 61 = .int .i64 x; rw [← h 61 (by decide)]; exact hv
          | 15, h, hv => show xq' 62 = .bool true; rw [← h 62 (by decide)]; exact hv
          | _ + 16, _, _ => trivial
         ·intro jq xq wqq w' hb' hv
          match jq, hv with
          | 0, hv => exact hv
          | 1, hv => exact hv
          | 2, hv => exact hv
          | 3, hv => exact hv
          | 4, hv => exact hv
          | 5, hv => exact hv
          | 6, hv => exact hv
          | 7, hv => exact hv
          | 8, hv => exact hv
          | 9, hv => exact hv
          | 10, hv => exact hv
          | 11, hv => exact hv
          | 12, hv => exact hv
          | 13, hv => exact hv
          | 14, hv => exact hv
          | 15, hv => exact hv
          | _ + 16, _ => trivial
         ·intro jq hj
          match jq, hj with
          | 0, hj => exact absurd hj (by decide)
          | 1, hj => exact absurd hj (by decide)
          | 2, hj => exact absurd hj (by decide)
          | 3, hj => exact absurd hj (by decide)
          | 4, hj => exact absurd hj (by decide)
          | 5, hj => exact absurd hj (by decide)
          | 6, hj => exact absurd hj (by decide)
          | 7, hj => exact absurd hj (by decide)
          | 8, hj => exact absurd hj (by decide)
          | 9, hj => exact absurd hj (by decide)
          | 10, hj => exact absurd hj (by decide)
          | 11, hj => exact absurd hj (by decide)
          | 12, hj => exact absurd hj (by decide)
          | 13, hj => exact absurd hj (by decide)
          | 14, hj => exact absurd hj (by decide)
          | 15, hj => exact absurd hj (by decide)
          | _ + 16, _ => trivial
         ·refine ⟨?_, ?_, ?_, ?_, ?_, ?_, ?_, ?_, ?_, ?_, ?_, ?_, ?_, ?_, ?_, ?_, trivial⟩
          ·intro xq w1 hb1 hx K hK0
           have hK := fun v w' hb => hK0 v w' (.inl hb)
           clear hx hKc hK0
           simp only [frameOf, fill, setSlot, sg, Nat.reduceBEq, if_true, if_false, Nat.reduceAdd, Nat.reduceEqDiff, HSL.out] at hK ⊢
           go_wp2_with (fail)
           exact hK _ _ (Below.refl _ _) rfl
          ·intro xq w1 hb1 hx K hK0
           have hK := fun v w' hb => hK0 v w' (.inl hb)
           clear hx hKc hK0
           simp only [frameOf, fill, setSlot, sg, Nat.reduceBEq, if_true, if_false, Nat.reduceAdd, Nat.reduceEqDiff, HSL.out] at hK ⊢
           go_wp2_with (fail)
           exact hK _ _ (Below.refl _ _) rfl
          ·intro xq w1 hb1 hx K hK0
           have hK := fun v w' hb => hK0 v w' (.inl hb)
           have e47 : xq 47 = .slice (some ⟨B0, oo, none⟩) p.length q := hx 0 (by rfl) (by rfl)
           have e48 : xq 48 = .int .i64 (k : Int) := hx 1 (by rfl) (by rfl)
           clear hx hKc hK0
           simp only [frameOf, fill, setSlot, sg, Nat.reduceBEq, if_true, if_false, Nat.reduceAdd, Nat.reduceEqDiff, HSL.out] at hK ⊢
           simp only [e47, e48] at hK ⊢
           clear e47 e48
           go_wp2_with (fail)
           exact hK _ _ (Below.refl _ _) rfl
          ·intro xq w1 hb1 hx K hK0
           have hK := fun v w' hb => hK0 v w' (.inl hb)
           have e49 : xq 49 = .pointer (some ⟨B0, oo + k, none⟩) := hx 2 (by rfl) (by rfl)
           clear hx hKc hK0
           have q50 := up_cell hb1 klwj
           simp only [frameOf, fill, setSlot, sg, Nat.reduceBEq, if_true, if_false, Nat.reduceAdd, Nat.reduceEqDiff, HSL.out] at hK ⊢
           simp only [e49] at hK ⊢
           clear e49
           go_wp2_with (fail)
           exact hK _ _ (Below.refl _ _) rfl
          ·intro xq w1 hb1 hx K hK0
           have hK := fun v w' hb => hK0 v w' (.inl hb)
           clear hx hKc hK0
           simp only [frameOf, fill, setSlot, sg, Nat.reduceBEq, if_true, if_false, Nat.reduceAdd, Nat.reduceEqDiff, HSL.out] at hK ⊢
           go_wp2_with (fail)
           first | exact hK _ _ (Below.refl _ _) rfl | exact hK _ _ (Below.refl _ _) (by go_num)
          ·intro xq w1 hb1 hx K hK0
           have hK := fun v w' hb => hK0 v w' (.inl hb)
           have e50 : xq 50 = .slice (some ⟨B1, o1, none⟩) l.length lc := hx 3 (by rfl) (by rfl)
           have e51 : xq 51 = .int .i64 ((m + 1 : Nat) : Int) := hx 4 (by rfl) (by rfl)
           clear hx hKc hK0
           have h1 : m + 1 < l.length := HJ.out
           simp only [frameOf, fill, setSlot, sg, Nat.reduceBEq, if_true, if_false, Nat.reduceAdd, Nat.reduceEqDiff, HSL.out] at hK ⊢
           simp only [e50, e51] at hK ⊢
           clear e50 e51
           go_wp2_with (fail)
           exact hK _ _ (Below.refl _ _) rfl
          ·intro xq w1 hb1 hx K hK0
           have hK := fun v w' hb => hK0 v w' (.inl hb)
           have e52 : xq 52 = .pointer (some ⟨B1, o1 + (m + 1), none⟩) := hx 5 (by rfl) (by rfl)
           clear hx hKc hK0
           have q53 := up_cell hb1 ky
           simp only [frameOf, fill, setSlot, sg, Nat.reduceBEq, if_true, if_false, Nat.reduceAdd, Nat.reduceEqDiff, HSL.out] at hK ⊢
           simp only [e52] at hK ⊢
           clear e52
           go_wp2_with (fail)
           exact hK _ _ (Below.refl _ _) rfl
          ·intro xq w1 hb1 hx K hK0
           have hK := fun v w' hb => hK0 v w' (.inl hb)
           clear hx hKc hK0
           simp only [frameOf, fill, setSlot, sg, Nat.reduceBEq, if_true, if_false, Nat.reduceAdd, Nat.reduceEqDiff, HSL.out] at hK ⊢
           go_wp2_with (fail)
           exact hK _ _ (Below.refl _ _) rfl
          ·intro xq w1 hb1 hx K hK0
           have hK := fun v w' hb => hK0 v w' (.inl hb)
           clear hx hKc hK0
           simp only [frameOf, fill, setSlot, sg, Nat.reduceBEq, if_true, if_false, Nat.reduceAdd, Nat.reduceEqDiff, HSL.out] at hK ⊢
           go_wp2_with (fail)
           exact hK _ _ (Below.refl _ _) rfl
          ·intro xq w1 hb1 hx K hK0
           have hK := fun v w' hb => hK0 v w' (.inl hb)
           have e54 : xq 54 = .slice (some ⟨B0, oo, none⟩) p.length q := hx 7 (by rfl) (by rfl)
           have e55 : xq 55 = .int .i64 (k : Int) := hx 8 (by rfl) (by rfl)
           clear hx hKc hK0
           simp only [frameOf, fill, setSlot, sg, Nat.reduceBEq, if_true, if_false, Nat.reduceAdd, Nat.reduceEqDiff, HSL.out] at hK ⊢
           simp only [e54, e55] at hK ⊢
           clear e54 e55
           go_wp2_with (fail)
           exact hK _ _ (Below.refl _ _) rfl
          ·intro xq w1 hb1 hx K hK0
           have hK := fun v w' hb => hK0 v w' (.inl hb)
           have e56 : xq 56 = .pointer (some ⟨B0, oo + k, none⟩) := hx 9 (by rfl) (by rfl)
           clear hx hKc hK0
           have q57 := up_cell hb1 klwj
           simp only [frameOf, fill, setSlot, sg, Nat.reduceBEq, if_true, if_false, Nat.reduceAdd, Nat.reduceEqDiff, HSL.out] at hK ⊢
           simp only [e56] at hK ⊢
           clear e56
           go_wp2_with (fail)
           exact hK _ _ (Below.refl _ _) rfl
          ·intro xq w1 hb1 hx K hK0
           have hK := fun v w' hb => hK0 v w' (.inl hb)
           clear hx hKc hK0
           simp only [frameOf, fill, setSlot, sg, Nat.reduceBEq, if_true, if_false, Nat.reduceAdd, Nat.reduceEqDiff, HSL.out] at hK ⊢
           go_wp2_with (fail)
           first | exact hK _ _ (Below.refl _ _) rfl | exact hK _ _ (Below.refl _ _) (by go_num)
          ·intro xq w1 hb1 hx K hK0
           have hK := fun v w' hb => hK0 v w' (.inl hb)
           have e58 : xq 58 = .int .i64 ((m + 1 : Nat) : Int) := hx 11 (by rfl) (by rfl)
           clear hx hKc hK0
           simp only [frameOf, fill, setSlot, sg, Nat.reduceBEq, if_true, if_false, Nat.reduceAdd, Nat.reduceEqDiff, HSL.out] at hK ⊢
           simp only [e58] at hK ⊢
           clear e58
           go_wp2_with (fail)
           first | exact hK _ _ (Below.refl _ _) rfl | exact hK _ _ (Below.refl _ _) (by go_num)
          ·intro xq w1 hb1 hx K hK0
           have hK := fun v w' hb => hK0 v w' (.inl hb)
           have e57 : xq 57 = .slice (some ⟨B1, o1, none⟩) l.length lc := hx 10 (by rfl) (by rfl)
           have e59 : xq 59 = .int .i64 (m : Int) := hx 12 (by rfl) (by rfl)
           clear hx hKc hK0
           have h1 : m < l.length := Nat.lt_of_succ_lt HJ.out
           simp only [frameOf, fill, setSlot, sg, Nat.reduceBEq, if_true, if_false, Nat.reduceAdd, Nat.reduceEqDiff, HSL.out] at hK ⊢
           simp only [e57, e59] at hK ⊢
           clear e57 e59
           go_wp2_with (fail)
           exact hK _ _ (Below.refl _ _) rfl
          ·intro xq w1 hb1 hx K hK0
           have hK := fun v w' hb => hK0 v w' (.inl hb)
           have e60 : xq 60 = .pointer (some ⟨B1, o1 + m, none⟩) := hx 13 (by rfl) (by rfl)
           clear hx hKc hK0
           have q61 := up_cell hb1 kx
           simp only [frameOf, fill, setSlot, sg, Nat.reduceBEq, if_true, if_false, Nat.reduceAdd, Nat.reduceEqDiff, HSL.out] at hK ⊢
           simp only [e60] at hK ⊢
           clear e60
           go_wp2_with (fail)
           exact hK _ _ (Below.refl _ _) rfl
          ·intro xq w1 hb1 hx K hK0
           have hK := fun v w' hb => hK0 v w' (.inl hb)
           have e53 : xq 53 = .int .i64 y := hx 6 (by rfl) (by rfl)
           have e61 : xq 61 = .int .i64 x := hx 14 (by rfl) (by rfl)
           clear hx hKc hK0
           simp only [frameOf, fill, setSlot, sg, Nat.reduceBEq, if_true, if_false, Nat.reduceAdd, Nat.reduceEqDiff, HSL.out] at hK ⊢
           simp only [e53, e61] at hK ⊢
           clear e53 e61
           go_wp2_with (fail)
           first | exact hK _ _ (Below.refl _ _) rfl | exact hK _ _ (Below.refl _ _) (congrArg Value.bool (decide_eq_true (by omega)))
         ·intro xq w1 hb1 hx
          have e47 : xq 47 = .slice (some ⟨B0, oo, none⟩) p.length q := hx 0 (by decide)
          have e48 : xq 48 = .int .i64 (k : Int) := hx 1 (by decide)
          have e49 : xq 49 = .pointer (some ⟨B0, oo + k, none⟩) := hx 2 (by decide)
          have e50 : xq 50 = .slice (some ⟨B1, o1, none⟩) l.length lc := hx 3 (by decide)
          have e51 : xq 51 = .int .i64 ((m + 1 : Nat) : Int) := hx 4 (by decide)
          have e52 : xq 52 = .pointer (some ⟨B1, o1 + (m + 1), none⟩) := hx 5 (by decide)
          have e53 : xq 53 = .int .i64 y := hx 6 (by decide)
          have e54 : xq 54 = .slice (some ⟨B0, oo, none⟩) p.length q := hx 7 (by decide)
          have e55 : xq 55 = .int .i64 (k : Int) := hx 8 (by decide)
          have e56 : xq 56 = .pointer (some ⟨B0, oo + k, none⟩) := hx 9 (by decide)
          have e57 : xq 57 = .slice (some ⟨B1, o1, none⟩) l.length lc := hx 10 (by decide)
          have e58 : xq 58 = .int .i64 ((m + 1 : Nat) : Int) := hx 11 (by decide)
          have e59 : xq 59 = .int .i64 (m : Int) := hx 12 (by decide)
          have e60 : xq 60 = .pointer (some ⟨B1, o1 + m, none⟩) := hx 13 (by decide)
          have e61 : xq 61 = .int .i64 x := hx 14 (by decide)
          have e62 : xq 62 = .bool true := hx 15 (by decide)
          clear hx
          simp only [frameOf, fill, setSlot, sg, Nat.reduceBEq, if_true, if_false, Nat.reduceAdd, Nat.reduceEqDiff, HSL.out]
          simp only [e47, e48, e49, e50, e51, e52, e53, e54, e55, e56, e57, e58, e59, e60, e61, e62]
          clear e47 e48 e49 e50 e51 e52 e53 e54 e55 e56 e57 e58 e59 e60 e61 e62
          refine hKc _ _ ?_
          go_wp2_with fail
          go_ret
          exact ⟨by rw [hE.out, planErrs_at HL2.out (by rw [dayErr_order H1.out (inc_not HX.out HY.out (by omega))]; decide), dayErr_order H1.out (inc_not HX.out HY.out (by omega))]; rfl, HBwj.out.trans (hb1.mono HBwj.out.size)⟩
       ·have hjl' : ¬ (j : Int) < l.length := by omega
        have H2 := Lib.hid (HF.out.all (by omega))
        by_cases hg : b.gangs < l.length
        ·go_wp2_with fail
         rename_i Kc hKc
         have HSL := Lib.hid (show slotsOf [some 63, some 64, some 65, some 66, some 67, some 68, some 69, some 70] = [63, 64, 65, 66, 67, 68, 69, 70] from rfl)
         refine wp_region_partsG (by kernel_rfl) [some 63, some 64, some 65, some 66, some 67, some 68, some 69, some 70] (fun jq xq w' => match jq with
          | 0 => xq 63 = .slice (some ⟨B0, oo, none⟩) p.length q
          | 1 => xq 64 = .int .i64 (k : Int)
          | 2 => xq 65 = .pointer (some ⟨B0, oo + k, none⟩)
          | 3 => xq 66 = .slice LA l.length lc
          | 4 => xq 67 = .int .i64 (l.length : Int)
          | 5 => xq 68 = .pointer (some ⟨w.heap.size, 1, none⟩)
          | 6 => xq 69 = .int .i64 b.gangs
          | 7 => xq 70 = .bool true
          | _ => True) [[63], [64], [65], [66], [67], [68], [69], [70]] [] (fun w' => Below wj.heap.size wj w') (by kernel_rfl)  ?_ ?_ (fun w' w'' hb h => h.trans (hb.mono h.size)) (Below.refl _ _) ?_ ?_ ?_
         ·intro jq xq xq' wqq h hv
          match jq, h, hv with
          | 0, h, hv => show xq' 63 = .slice (some ⟨B0, oo, none⟩) p.length q; rw [← h 63 (by decide)]; exact hv
          | 1, h, hv => show xq' 64 = .int .i64 (k : Int); rw [← h 64 (by decide)]; exact hv
          | 2, h, hv => show xq' 65 = .pointer (some ⟨B0, oo + k, none⟩); rw [← h 65 (by decide)]; exact hv
          | 3, h, hv => show xq' 66 = .slice LA l.length lc; rw [← h 66 (by decide)]; exact hv
          | 4, h, hv => show xq' 67 = .int .i64 (l.length : Int); rw [← h 67 (by decide)]; exact hv
          | 5, h, hv => show xq' 68 = .pointer (some ⟨w.heap.size, 1, none⟩); rw [← h 68 (by decide)]; exact hv
          | 6, h, hv => show xq' 69 = .int .i64 b.gangs; rw [← h 69 (by decide)]; exact hv
          | 7, h, hv => show xq' 70 = .bool true; rw [← h 70 (by decide)]; exact hv
          | _ + 8, _, _ => trivial
         ·intro jq xq wqq w' hb' hv
          match jq, hv with
          | 0, hv => exact hv
          | 1, hv => exact hv
          | 2, hv => exact hv
          | 3, hv => exact hv
          | 4, hv => exact hv
          | 5, hv => exact hv
          | 6, hv => exact hv
          | 7, hv => exact hv
          | _ + 8, _ => trivial
         ·intro jq hj
          match jq, hj with
          | 0, hj => exact absurd hj (by decide)
          | 1, hj => exact absurd hj (by decide)
          | 2, hj => exact absurd hj (by decide)
          | 3, hj => exact absurd hj (by decide)
          | 4, hj => exact absurd hj (by decide)
          | 5, hj => exact absurd hj (by decide)
          | 6, hj => exact absurd hj (by decide)
          | 7, hj => exact absurd hj (by decide)
          | _ + 8, _ => trivial
         ·refine ⟨?_, ?_, ?_, ?_, ?_, ?_, ?_, ?_, trivial⟩
          ·intro xq w1 hb1 hx K hK0
           have hK := fun v w' hb => hK0 v w' (.inl hb)
           clear hx hKc hK0
           simp only [frameOf, fill, setSlot, sg, Nat.reduceBEq, if_true, if_false, Nat.reduceAdd, Nat.reduceEqDiff, HSL.out] at hK ⊢
           go_wp2_with (fail)
           exact hK _ _ (Below.refl _ _) rfl
          ·intro xq w1 hb1 hx K hK0
           have hK := fun v w' hb => hK0 v w' (.inl hb)
           clear hx hKc hK0
           simp only [frameOf, fill, setSlot, sg, Nat.reduceBEq, if_true, if_false, Nat.reduceAdd, Nat.reduceEqDiff, HSL.out] at hK ⊢
           go_wp2_with (fail)
           exact hK _ _ (Below.refl _ _) rfl
          ·intro xq w1 hb1 hx K hK0
           have hK := fun v w' hb => hK0 v w' (.inl hb)
           have e63 : xq 63 = .slice (some ⟨B0, oo, none⟩) p.length q := hx 0 (by rfl) (by rfl)
           have e64 : xq 64 = .int .i64 (k : Int) := hx 1 (by rfl) (by rfl)
           clear hx hKc hK0
           simp only [frameOf, fill, setSlot, sg, Nat.reduceBEq, if_true, if_false, Nat.reduceAdd, Nat.reduceEqDiff, HSL.out] at hK ⊢
           simp only [e63, e64] at hK ⊢
           clear e63 e64
           go_wp2_with (fail)
           exact hK _ _ (Below.refl _ _) rfl
          ·intro xq w1 hb1 hx K hK0
           have hK := fun v w' hb => hK0 v w' (.inl hb)
           have e65 : xq 65 = .pointer (some ⟨B0, oo + k, none⟩) := hx 2 (by rfl) (by rfl)
           clear hx hKc hK0
           have q66 := up_cell hb1 klwj
           simp only [frameOf, fill, setSlot, sg, Nat.reduceBEq, if_true, if_false, Nat.reduceAdd, Nat.reduceEqDiff, HSL.out] at hK ⊢
           simp only [e65] at hK ⊢
           clear e65
           go_wp2_with (fail)
           exact hK _ _ (Below.refl _ _) rfl
          ·intro xq w1 hb1 hx K hK0
           have hK := fun v w' hb => hK0 v w' (.inl hb)
           have e66 : xq 66 = .slice LA l.length lc := hx 3 (by rfl) (by rfl)
           clear hx hKc hK0
           simp only [frameOf, fill, setSlot, sg, Nat.reduceBEq, if_true, if_false, Nat.reduceAdd, Nat.reduceEqDiff, HSL.out] at hK ⊢
           simp only [e66] at hK ⊢
           clear e66
           go_wp2_with (fail)
           exact hK _ _ (Below.refl _ _) rfl
          ·intro xq w1 hb1 hx K hK0
           have hK := fun v w' hb => hK0 v w' (.inl hb)
           clear hx hKc hK0
           simp only [frameOf, fill, setSlot, sg, Nat.reduceBEq, if_true, if_false, Nat.reduceAdd, Nat.reduceEqDiff, HSL.out] at hK ⊢
           go_wp2_with (fail)
           exact hK _ _ (Below.refl _ _) rfl
          ·intro xq w1 hb1 hx K hK0
           have hK := fun v w' hb => hK0 v w' (.inl hb)
           have e68 : xq 68 = .pointer (some ⟨w.heap.size, 1, none⟩) := hx 5 (by rfl) (by rfl)
           clear hx hKc hK0
           have q69 := up_cell hb1 kb1
           simp only [frameOf, fill, setSlot, sg, Nat.reduceBEq, if_true, if_false, Nat.reduceAdd, Nat.reduceEqDiff, HSL.out] at hK ⊢
           simp only [e68] at hK ⊢
           clear e68
           go_wp2_with (fail)
           exact hK _ _ (Below.refl _ _) rfl
          ·intro xq w1 hb1 hx K hK0
           have hK := fun v w' hb => hK0 v w' (.inl hb)
           have e67 : xq 67 = .int .i64 (l.length : Int) := hx 4 (by rfl) (by rfl)
           have e69 : xq 69 = .int .i64 b.gangs := hx 6 (by rfl) (by rfl)
           clear hx hKc hK0
           simp only [frameOf, fill, setSlot, sg, Nat.reduceBEq, if_true, if_false, Nat.reduceAdd, Nat.reduceEqDiff, HSL.out] at hK ⊢
           simp only [e67, e69] at hK ⊢
           clear e67 e69
           go_wp2_with (fail)
           first | exact hK _ _ (Below.refl _ _) rfl | exact hK _ _ (Below.refl _ _) (congrArg Value.bool (decide_eq_true (by omega)))
         ·intro xq w1 hb1 hx
          have e63 : xq 63 = .slice (some ⟨B0, oo, none⟩) p.length q := hx 0 (by decide)
          have e64 : xq 64 = .int .i64 (k : Int) := hx 1 (by decide)
          have e65 : xq 65 = .pointer (some ⟨B0, oo + k, none⟩) := hx 2 (by decide)
          have e66 : xq 66 = .slice LA l.length lc := hx 3 (by decide)
          have e67 : xq 67 = .int .i64 (l.length : Int) := hx 4 (by decide)
          have e68 : xq 68 = .pointer (some ⟨w.heap.size, 1, none⟩) := hx 5 (by decide)
          have e69 : xq 69 = .int .i64 b.gangs := hx 6 (by decide)
          have e70 : xq 70 = .bool true := hx 7 (by decide)
          clear hx
          simp only [frameOf, fill, setSlot, sg, Nat.reduceBEq, if_true, if_false, Nat.reduceAdd, Nat.reduceEqDiff, HSL.out]
          simp only [e63, e64, e65, e66, e67, e68, e69, e70]
          clear e63 e64 e65 e66 e67 e68 e69 e70
          refine hKc _ _ ?_
          go_wp2_with fail
          go_ret
          exact ⟨by rw [hE.out, planErrs_at HL2.out (by rw [dayErr_full H1.out H2.out hg]; decide), dayErr_full H1.out H2.out hg]; rfl, HBwj.out.trans (hb1.mono HBwj.out.size)⟩
        ·have hg' : (l.length : Int) ≤ b.gangs := by omega
         go_wp2_with fail
         rename_i Kc hKc
         have HSL := Lib.hid (show slotsOf [some 63, some 64, some 65, some 66, some 67, some 68, some 69, some 70] = [63, 64, 65, 66, 67, 68, 69, 70] from rfl)
         refine wp_region_partsG (by kernel_rfl) [some 63, some 64, some 65, some 66, some 67, some 68, some 69, some 70] (fun jq xq w' => match jq with
          | 0 => xq 63 = .slice (some ⟨B0, oo, none⟩) p.length q
          | 1 => xq 64 = .int .i64 (k : Int)
          | 2 => xq 65 = .pointer (some ⟨B0, oo + k, none⟩)
          | 3 => xq 66 = .slice LA l.length lc
          | 4 => xq 67 = .int .i64 (l.length : Int)
          | 5 => xq 68 = .pointer (some ⟨w.heap.size, 1, none⟩)
          | 6 => xq 69 = .int .i64 b.gangs
          | 7 => xq 70 = .bool false
          | _ => True) [[63], [64], [65], [66], [67], [68], [69], [70]] [] (fun w' => Below wj.heap.size wj w') (by kernel_rfl)  ?_ ?_ (fun w' w'' hb h => h.trans (hb.mono h.size)) (Below.refl _ _) ?_ ?_ ?_
         ·intro jq xq xq' wqq h hv
          match jq, h, hv with
          | 0, h, hv => show xq' 63 = .slice (some ⟨B0, oo, none⟩) p.length q; rw [← h 63 (by decide)]; exact hv
          | 1, h, hv => show xq' 64 = .int .i64 (k : Int); rw [← h 64 (by decide)]; exact hv
          | 2, h, hv => show xq' 65 = .pointer (some ⟨B0, oo + k, none⟩); rw [← h 65 (by decide)]; exact hv
          | 3, h, hv => show xq' 66 = .slice LA l.length lc; rw [← h 66 (by decide)]; exact hv
          | 4, h, hv => show xq' 67 = .int .i64 (l.length : Int); rw [← h 67 (by decide)]; exact hv
          | 5, h, hv => show xq' 68 = .pointer (some ⟨w.heap.size, 1, none⟩); rw [← h 68 (by decide)]; exact hv
          | 6, h, hv => show xq' 69 = .int .i64 b.gangs; rw [← h 69 (by decide)]; exact hv
          | 7, h, hv => show xq' 70 = .bool false; rw [← h 70 (by decide)]; exact hv
          | _ + 8, _, _ => trivial
         ·intro jq xq wqq w' hb' hv
          match jq, hv with
          | 0, hv => exact hv
          | 1, hv => exact hv
          | 2, hv => exact hv
          | 3, hv => exact hv
          | 4, hv => exact hv
          | 5, hv => exact hv
          | 6, hv => exact hv
          | 7, hv => exact hv
          | _ + 8, _ => trivial
         ·intro jq hj
          match jq, hj with
          | 0, hj => exact absurd hj (by decide)
          | 1, hj => exact absurd hj (by decide)
          | 2, hj => exact absurd hj (by decide)
          | 3, hj => exact absurd hj (by decide)
          | 4, hj => exact absurd hj (by decide)
          | 5, hj => exact absurd hj (by decide)
          | 6, hj => exact absurd hj (by decide)
          | 7, hj => exact absurd hj (by decide)
          | _ + 8, _ => trivial
         ·refine ⟨?_, ?_, ?_, ?_, ?_, ?_, ?_, ?_, trivial⟩
          ·intro xq w1 hb1 hx K hK0
           have hK := fun v w' hb => hK0 v w' (.inl hb)
           clear hx hKc hK0
           simp only [frameOf, fill, setSlot, sg, Nat.reduceBEq, if_true, if_false, Nat.reduceAdd, Nat.reduceEqDiff, HSL.out] at hK ⊢
           go_wp2_with (fail)
           exact hK _ _ (Below.refl _ _) rfl
          ·intro xq w1 hb1 hx K hK0
           have hK := fun v w' hb => hK0 v w' (.inl hb)
           clear hx hKc hK0
           simp only [frameOf, fill, setSlot, sg, Nat.reduceBEq, if_true, if_false, Nat.reduceAdd, Nat.reduceEqDiff, HSL.out] at hK ⊢
           go_wp2_with (fail)
           exact hK _ _ (Below.refl _ _) rfl
          ·intro xq w1 hb1 hx K hK0
           have hK := fun v w' hb => hK0 v w' (.inl hb)
           have e63 : xq 63 = .slice (some ⟨B0, oo, none⟩) p.length q := hx 0 (by rfl) (by rfl)
           have e64 : xq 64 = .int .i64 (k : Int) := hx 1 (by rfl) (by rfl)
           clear hx hKc hK0
           simp only [frameOf, fill, setSlot, sg, Nat.reduceBEq, if_true, if_false, Nat.reduceAdd, Nat.reduceEqDiff, HSL.out] at hK ⊢
           simp only [e63, e64] at hK ⊢
           clear e63 e64
           go_wp2_with (fail)
           exact hK _ _ (Below.refl _ _) rfl
          ·intro xq w1 hb1 hx K hK0
           have hK := fun v w' hb => hK0 v w' (.inl hb)
           have e65 : xq 65 = .pointer (some ⟨B0, oo + k, none⟩) := hx 2 (by rfl) (by rfl)
           clear hx hKc hK0
           have q66 := up_cell hb1 klwj
           simp only [frameOf, fill, setSlot, sg, Nat.reduceBEq, if_true, if_false, Nat.reduceAdd, Nat.reduceEqDiff, HSL.out] at hK ⊢
           simp only [e65] at hK ⊢
           clear e65
           go_wp2_with (fail)
           exact hK _ _ (Below.refl _ _) rfl
          ·intro xq w1 hb1 hx K hK0
           have hK := fun v w' hb => hK0 v w' (.inl hb)
           have e66 : xq 66 = .slice LA l.length lc := hx 3 (by rfl) (by rfl)
           clear hx hKc hK0
           simp only [frameOf, fill, setSlot, sg, Nat.reduceBEq, if_true, if_false, Nat.reduceAdd, Nat.reduceEqDiff, HSL.out] at hK ⊢
           simp only [e66] at hK ⊢
           clear e66
           go_wp2_with (fail)
           exact hK _ _ (Below.refl _ _) rfl
          ·intro xq w1 hb1 hx K hK0
           have hK := fun v w' hb => hK0 v w' (.inl hb)
           clear hx hKc hK0
           simp only [frameOf, fill, setSlot, sg, Nat.reduceBEq, if_true, if_false, Nat.reduceAdd, Nat.reduceEqDiff, HSL.out] at hK ⊢
           go_wp2_with (fail)
           exact hK _ _ (Below.refl _ _) rfl
          ·intro xq w1 hb1 hx K hK0
           have hK := fun v w' hb => hK0 v w' (.inl hb)
           have e68 : xq 68 = .pointer (some ⟨w.heap.size, 1, none⟩) := hx 5 (by rfl) (by rfl)
           clear hx hKc hK0
           have q69 := up_cell hb1 kb1
           simp only [frameOf, fill, setSlot, sg, Nat.reduceBEq, if_true, if_false, Nat.reduceAdd, Nat.reduceEqDiff, HSL.out] at hK ⊢
           simp only [e68] at hK ⊢
           clear e68
           go_wp2_with (fail)
           exact hK _ _ (Below.refl _ _) rfl
          ·intro xq w1 hb1 hx K hK0
           have hK := fun v w' hb => hK0 v w' (.inl hb)
           have e67 : xq 67 = .int .i64 (l.length : Int) := hx 4 (by rfl) (by rfl)
           have e69 : xq 69 = .int .i64 b.gangs := hx 6 (by rfl) (by rfl)
           clear hx hKc hK0
           simp only [frameOf, fill, setSlot, sg, Nat.reduceBEq, if_true, if_false, Nat.reduceAdd, Nat.reduceEqDiff, HSL.out] at hK ⊢
           simp only [e67, e69] at hK ⊢
           clear e67 e69
           go_wp2_with (fail)
           first | exact hK _ _ (Below.refl _ _) rfl | exact hK _ _ (Below.refl _ _) (congrArg Value.bool (decide_eq_false (by omega)))
         ·intro xq w1 hb1 hx
          have e63 : xq 63 = .slice (some ⟨B0, oo, none⟩) p.length q := hx 0 (by decide)
          have e64 : xq 64 = .int .i64 (k : Int) := hx 1 (by decide)
          have e65 : xq 65 = .pointer (some ⟨B0, oo + k, none⟩) := hx 2 (by decide)
          have e66 : xq 66 = .slice LA l.length lc := hx 3 (by decide)
          have e67 : xq 67 = .int .i64 (l.length : Int) := hx 4 (by decide)
          have e68 : xq 68 = .pointer (some ⟨w.heap.size, 1, none⟩) := hx 5 (by decide)
          have e69 : xq 69 = .int .i64 b.gangs := hx 6 (by decide)
          have e70 : xq 70 = .bool false := hx 7 (by decide)
          clear hx
          simp only [frameOf, fill, setSlot, sg, Nat.reduceBEq, if_true, if_false, Nat.reduceAdd, Nat.reduceEqDiff, HSL.out]
          simp only [e63, e64, e65, e66, e67, e68, e69, e70]
          clear e63 e64 e65 e66 e67 e68 e69 e70
          refine hKc _ _ ?_
          go_wp2_with fail
          go_roundw
          case rel => exact ⟨k + 1, by go_num, hlt, Lib.hid (hE.out.trans (planErrs_next HL2.out (dayErr_ok H1.out H2.out (by omega)))), HBwj.out.trans (hb1.mono HBwj.out.size), HHwj.out.up hb1⟩
          case measure => first | (simp [intOf]; done) | (simp [intOf]; omega)
   ·have hkl : k = p.length := by omega
    have hlt' : ¬ (k : Int) < p.length := by omega
    have HZ : Hid (E = 0) := Lib.hid (by rw [hE.out, hkl, List.drop_length]; rfl)
    go_wp2_with fail
    go_ret
    exact ⟨by rw [HZ.out]; rfl, HB.out⟩
end Go.Proofs.Ytokafjkinkafiaa
