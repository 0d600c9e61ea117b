
import Derived.Test.YtokafjkinkafiaaGreatVAA
import Derived.Test.YtokafjkinkafiaaGreatVAD
import Derived.Test.YtokafjkinkafiaaGreatVAI
set_option linter.unusedSimpArgs false
set_option linter.unusedVariables false
namespace Go.Proofs.YtokafjkinkafiaaGreat
open Go.RowKit
theorem idle_list (cool r k : Int) : ∀ (n : Nat) (g : Int) (d : Nat), d < n → (warmList cool r k g (List.replicate n []))[d]? = some (g + ((d : Int) + 1) * r) := by
 intro n
 induction n with
 | zero => intro g d h; omega
 | succ n ih =>
  intro g d h
  rw [List.replicate_succ, warmList]
  have e : (if ([] : List Int).contains k = true then min g cool else g) = g := if_neg (by simp)
  rw [e]
  cases d with
  | zero => simp
  | succ d =>
   rw [List.getElem?_cons_succ, ih (g + r) d (by omega)]
   have h1 : (((d + 1 : Nat) : Int) + 1) * r = ((d : Int) + 1) * r + r := by
    rw [show ((d + 1 : Nat) : Int) = (d : Int) + 1 from rfl, Int.add_mul ((d : Int) + 1) 1 r, Int.one_mul]
   rw [h1]
   congr 1
   omega
theorem left_told {r warm mark : Int} {d : Nat} (hr : r = 0 ∨ (6 ≤ r ∧ r ≤ 20)) (h0 : 0 ≤ warm) (h1 : warm ≤ mark) (h2 : mark ≤ 60) (hd : d < 20) : decide (mark < warm + ((d : Int) + 1) * r) = decide (daysOf r warm mark ≤ (d : Int)) := by
 unfold daysOf
 rcases hr with rfl | ⟨h6, h20⟩
 ·rw [if_pos rfl, decide_eq_false (by omega), decide_eq_false (by omega)]
 ·rw [if_neg (by omega)]
  obtain rfl | rfl | rfl | rfl | rfl | rfl | rfl | rfl | rfl | rfl | rfl | rfl | rfl | rfl | rfl : r = 6 ∨ r = 7 ∨ r = 8 ∨ r = 9 ∨ r = 10 ∨ r = 11 ∨ r = 12 ∨ r = 13 ∨ r = 14 ∨ r = 15 ∨ r = 16 ∨ r = 17 ∨ r = 18 ∨ r = 19 ∨ r = 20 := by omega
  all_goals (congr 1; apply propext; omega)
theorem days_few {r warm mark : Int} (hr : 6 ≤ r) (h20 : r ≤ 20) (h0 : 0 ≤ warm) (h2 : mark ≤ 60) : 0 ≤ daysOf r warm mark ∧ daysOf r warm mark ≤ 10 := by
 unfold daysOf
 rw [if_neg (by omega)]
 obtain rfl | rfl | rfl | rfl | rfl | rfl | rfl | rfl | rfl | rfl | rfl | rfl | rfl | rfl | rfl : r = 6 ∨ r = 7 ∨ r = 8 ∨ r = 9 ∨ r = 10 ∨ r = 11 ∨ r = 12 ∨ r = 13 ∨ r = 14 ∨ r = 15 ∨ r = 16 ∨ r = 17 ∨ r = 18 ∨ r = 19 ∨ r = 20 := by omega
 all_goals omega
theorem days_mono {r warm cool mark : Int} (hr : 6 ≤ r) (h20 : r ≤ 20) (hc : cool ≤ warm) (hm : cool ≤ mark) : daysOf r warm mark ≤ daysOf r cool mark := by
 unfold daysOf
 rw [if_neg (by omega), if_neg (by omega)]
 obtain rfl | rfl | rfl | rfl | rfl | rfl | rfl | rfl | rfl | rfl | rfl | rfl | rfl | rfl | rfl : r = 6 ∨ r = 7 ∨ r = 8 ∨ r = 9 ∨ r = 10 ∨ r = 11 ∨ r = 12 ∨ r = 13 ∨ r = 14 ∨ r = 15 ∨ r = 16 ∨ r = 17 ∨ r = 18 ∨ r = 19 ∨ r = 20 := by omega
 all_goals omega
theorem plan_oks {n : Nat} {gangs : Int} : ∀ {p : List (List Int)}, (∀ l ∈ p, DayOk n gangs l) → planErrs n gangs p = 0 := by
 intro p
 induction p with
 | nil => intro _; rfl
 | cons l p ih =>
  intro h
  have e := dayErr_of (h l (by simp))
  rw [planErrs, if_neg (by simp [e])]
  exact ih (fun x hx => h x (by simp [hx]))
theorem PlanO.up {w w' : World} {B : Nat} {v : Value} {p : List (List Int)} (h : PlanO w B v p) (hb : Below w.heap.size w w') : PlanO w' B v p := h.new (grow_none hb) (fun k e => by cases e) (Nat.le_refl _)
theorem make_idle (w1 : World) : ∃ w2, (Instr.makeSlice 30 (.int .i64 20) (.int .i64 20)).run Tryz.prog w1 = .ok (.slice (some ⟨w1.heap.size, 0, none⟩) 20 20) w2 ∧ PlanAt w2 (some ⟨w1.heap.size, 0, none⟩) (List.replicate 20 []) ∧ Below w1.heap.size w1 w2 := by
 obtain ⟨i0, hi, hz0, hz1, hz2⟩ := info_parts info_ints
 obtain ⟨w2, hrun, hown, hg⟩ := run_makeSlice_full (P := Tryz.prog) (w := w1) w1.heap.size 30 43 i0 _ 1 und_rows hi hz0 hz1 .i64 .i64 20 (by omega) (by rw [hz2]; omega) (by unfold maxLen; omega) (Nat.le_refl _)
 refine ⟨w2, hrun, fun _ => ?_, ⟨hg.os, hg.tape, hg.output, hg.size, fun k hk => hg.block k hk (by simp)⟩⟩
 obtain ⟨A, c, e, _, _, hat⟩ := rowq_val hown
 cases e
 obtain ⟨g, eg, _, hcell⟩ := hat (by decide)
 cases eg
 refine ⟨w1.heap.size, 0, rfl, fun d l hl => ?_⟩
 obtain ⟨hd, rfl⟩ := List.getElem?_eq_some_iff.1 hl
 rw [List.length_replicate] at hd
 rw [List.getElem_replicate]
 refine ⟨none, 0, ?_, (fun h => absurd h (by decide)), (fun _ => ⟨rfl, rfl⟩)⟩
 rw [Nat.zero_add]
 refine hcell d _ ?_
 have e : (madeCells (Value.slice none 0 0).cells (20 * 1)).toList = List.replicate 20 (Value.slice none 0 0) := by first | kernel_rfl | decide | (simp [madeCells, Value.cells]; done) | (unfold madeCells; simp [Value.cells]; rfl)
 rw [e, List.getElem?_replicate, if_pos hd]
 rfl
theorem OwnSp.sack {w w' : World} {S B : Nat} {v : Value} {l : List (Int × Int)} (h : OwnSp w B v l) (g : w.grownBy w' (some S)) (hS : S < B) : OwnSp w' B v l := by
 obtain ⟨hl, h | ⟨g', cap, cur, hv, hB, hgc, r⟩⟩ := h
 ·exact ⟨hl, .inl h⟩
 ·exact ⟨hl, .inr ⟨g', cap, cur, hv, hB, (g.block g' (Array.getElem?_eq_some_iff.1 hgc).1 (fun e => by cases e; omega)).trans hgc, r⟩⟩
theorem OwnSp.cells {w : World} {B n c : Nat} {A : Option Addr} {l : List (Int × Int)} (h : OwnSp w B (.slice A n c) l) : RowAt spCells 2 w A l := by
 obtain ⟨A', c', e, _, _, h3⟩ := row_own spLen h
 cases e
 exact h3
theorem rise_there (b : Br) {n : Nat} (h : n < 6) : b.rises[n]? = some (b.rise (n : Int)) := by
 obtain rfl | rfl | rfl | rfl | rfl | rfl : n = 0 ∨ n = 1 ∨ n = 2 ∨ n = 3 ∨ n = 4 ∨ n = 5 := by omega
 all_goals rfl
theorem warm_next {cool r k g x0 g' : Int} {p : List (List Int)} {d : Nat} {l : List Int} (h : warmList cool r k g (p.drop d) = (warmList cool r k x0 p).drop d) (hl : p[d]? = some l) (hg : (warmList cool r k x0 p)[d]? = some g') : g' = (if l.contains k = true then min g cool else g) + r ∧ warmList cool r k g' (p.drop (d + 1)) = (warmList cool r k x0 p).drop (d + 1) := by
 obtain ⟨h1, rfl⟩ := List.getElem?_eq_some_iff.1 hl
 obtain ⟨h2, rfl⟩ := List.getElem?_eq_some_iff.1 hg
 rw [List.drop_eq_getElem_cons h1, List.drop_eq_getElem_cons h2, warmList] at h
 injection h with e1 e2
 exact ⟨e1.symm, by rw [← e1]; exact e2⟩
theorem pair_there {b : Br} {p : List (List Int)} {k : Nat} {x : Bn} {d : Nat} {a c : Int} (h1 : (warmList b.cool (b.rise x.lo) k x.warm p)[d]? = some a) (h2 : (warmList b.cool (b.rise x.hi) k x.warm p)[d]? = some c) : (warmPairs b p k x)[d]? = some (a, c) := by
 unfold warmPairs
 exact List.getElem?_zip_eq_some.2 ⟨h1, h2⟩
theorem check_of {b : Br} {bs : List Bn} {p : List (List Int)} (hb : barnErr b bs = 0) (hl : p.length ≤ 20) (hd : ∀ l ∈ p, DayOk bs.length b.gangs l) : checkErr b bs p = 0 := by
 unfold checkErr planErr
 rw [if_neg (by simp [hb]), if_neg (by omega)]
 exact plan_oks hd
set_option maxRecDepth 100000 in
set_option maxHeartbeats 40000000 in
theorem HeatWarm_core (a0 : Option Addr) (len0 cap0 : Nat) (a1 : Option Addr) (len1 cap1 : Nat) (a2 : Int) (w : World) (hN : BytesAt w a0 len0) (hn0 : len0 ≤ 9223372036854775807) (hT : BytesAt w a1 len1) (hn1 : len1 ≤ 9223372036854775807) (h20 : 0 ≤ a2) (h21 : a2 ≤ 255)
  (hAw : ∀ w, Calls Tryz.prog 14 #[] w fun e w' => e = .returned (.bool true) ∧ Below w.heap.size w w') :
  Calls Tryz.prog 3 #[.slice a0 len0 cap0, .slice a1 len1 cap1, .int .u8 a2] w fun e w' => e = .returned (.bool true) ∧ Below w.heap.size w w' := by
 have HN := Lib.hid hN
 have HT := Lib.hid hT
 have HAW := Lib.hid hAw
 clear hN hT hAw
 go_enter Tryz.func3, Tryz.ntmps3
 go_wp2_with fail
 refine (Fill_any a0 len0 cap0 _ hn0).mono ?_
 rintro e w1 ⟨m1, rfl, hs1, hb1⟩
 have HS1 := Lib.hid hs1
 have HB1 : Hid (Below w.heap.size w w1) := Lib.hid hb1
 have hz1 := hs1.lt
 clear hs1 hb1
 go_wp2_with fail
 refine (Made_any w.heap.size a0 len0 cap0 0 m1 4 3 (by decide) (by decide) (by decide) (by decide) _ HS1.out (fun w' g => HN.out.up (Below.grown HB1.out g HB1.out.size (fun k hk => by cases hk; exact Nat.le_refl _))) hn0 (by decide)).mono ?_
 rintro e w2 ⟨b, A, c, bs, rfl, hE, ho, hg, -⟩
 have HE := Lib.hid hE
 have HBI2 : Hid (BinsAt w2 A bs) := Lib.hid (OwnBins.at_ ho).1
 have HB2 : Hid (Below w.heap.size w w2) := Lib.hid (Below.grown HB1.out hg HB1.out.size (fun k hk => by cases hk; exact Nat.le_refl _))
 have hz2 := hg.size
 have hbn : 1 ≤ bs.length ∧ bs.length ≤ 4 := by have := (barn_right hE).1; simp only [within, Bool.and_eq_true, decide_eq_true_eq] at this; omega
 have hbn0 : (0 : Int) < bs.length := by omega
 have hbn1 : ¬ (bs.length : Int) = 0 := by omega
 clear hE ho hg HS1 HB1
 go_wp2_with fail
 refine (Fill_any a1 len1 cap1 _ hn1).mono ?_
 rintro e w3 ⟨m3, rfl, hs3, hb3⟩
 have HS3 := Lib.hid hs3
 have HC3 : Hid (Below w2.heap.size w2 w3) := Lib.hid hb3
 have HB3 : Hid (Below w.heap.size w w3) := Lib.hid (HB2.out.trans (hb3.mono (by omega)))
 have hz3 := hs3.lt
 clear hs3 hb3 HB2
 have hw2 : w.heap.size ≤ w2.heap.size := by omega
 obtain ⟨k, hkk, hk⟩ : ∃ k : Nat, a2 % (bs.length : Int) = (k : Int) ∧ k < bs.length := ⟨(a2 % (bs.length : Int)).toNat, by have := Int.emod_nonneg a2 (b := (bs.length : Int)) (by omega); omega, by have := Int.emod_lt_of_pos a2 (b := (bs.length : Int)) (by omega); have := Int.emod_nonneg a2 (b := (bs.length : Int)) (by omega); omega⟩
 go_wp2_with fail
 rw [hkk]
 rename_i Kc hKc
 have HSL := Lib.hid (show slotsOf [some 38, some 39, some 40, some 41, some 42, some 10] = [38, 39, 40, 41, 42, 10] from rfl)
 refine wp_region_partsG (by kernel_rfl) [some 38, some 39, some 40, some 41, some 42, some 10] (fun jq xq w' => match jq with
  | 0 => xq 38 = .pointer (some ⟨w2.heap.size, 0, none⟩)
  | 1 => xq 39 = .agg #[.int .i64 b.cool, .int .i64 b.gangs, .int .i64 b.r0, .int .i64 b.r1, .int .i64 b.r2, .int .i64 b.r3, .int .i64 b.r4, .int .i64 b.r5, .slice A bs.length c]
  | 2 => xq 40 = .pointer (some ⟨w2.heap.size, 0, none⟩)
  | 3 => ∃ dn mm, xq 41 = .int .i64 ((dn : Nat) : Int) ∧ dn ≤ 20 ∧ Holds w' w2.heap.size 53 #[.slice a1 len1 cap1, .int .i64 ((1 : Nat) : Int), .int .u32 mm]
  | 4 => ∃ p P q, xq 42 = .slice P p.length q ∧ p.length ≤ 20 ∧ (∀ l ∈ p, DayOk bs.length b.gangs l) ∧ PlanO w' (w2.heap.size + 1) (.slice P p.length q) p
  | 5 => ∃ p P q, xq 10 = .slice P p.length q ∧ p.length ≤ 20 ∧ (∀ l ∈ p, DayOk bs.length b.gangs l) ∧ PlanO w' (w2.heap.size + 1) (.slice P p.length q) p
  | 6 => Holds w' w2.heap.size 53 #[.slice a1 len1 cap1, .int .i64 ((0 : Nat) : Int), .int .u32 m3]
  | 7 => Holds w' w3.heap.size 26 #[.int .i64 b.cool, .int .i64 b.gangs, .int .i64 b.r0, .int .i64 b.r1, .int .i64 b.r2, .int .i64 b.r3, .int .i64 b.r4, .int .i64 b.r5, .slice A bs.length c]
  | 8 => ∃ tk mt, tk ≤ 300 ∧ Holds w' w2.heap.size 53 #[.slice a1 len1 cap1, .int .i64 ((tk : Nat) : Int), .int .u32 mt]
  | _ => True) [[38], [39], [40], [41], [42], [10], [], [], []] [(3, 6), (4, 6), (4, 3)] (fun w' => w3.grownBy w' (some w2.heap.size)) (by kernel_rfl)  ?_ ?_ (fun w' w'' hb h => only_up h hb) (only_below _ (zg : Below w3.heap.size w3 _)) ?_ ?_ ?_
 ·intro jq xq xq' wqq h hv
  match jq, h, hv with
  | 0, h, hv => show xq' 38 = .pointer (some ⟨w2.heap.size, 0, none⟩); rw [← h 38 (by decide)]; exact hv
  | 1, h, hv => show xq' 39 = .agg #[.int .i64 b.cool, .int .i64 b.gangs, .int .i64 b.r0, .int .i64 b.r1, .int .i64 b.r2, .int .i64 b.r3, .int .i64 b.r4, .int .i64 b.r5, .slice A bs.length c]; rw [← h 39 (by decide)]; exact hv
  | 2, h, hv => show xq' 40 = .pointer (some ⟨w2.heap.size, 0, none⟩); rw [← h 40 (by decide)]; exact hv
  | 3, h, hv => show ∃ dn mm, xq' 41 = .int .i64 ((dn : Nat) : Int) ∧ dn ≤ 20 ∧ Holds wqq w2.heap.size 53 #[.slice a1 len1 cap1, .int .i64 ((1 : Nat) : Int), .int .u32 mm]; rw [← h 41 (by decide)]; exact hv
  | 4, h, hv => show ∃ p P q, xq' 42 = .slice P p.length q ∧ p.length ≤ 20 ∧ (∀ l ∈ p, DayOk bs.length b.gangs l) ∧ PlanO wqq (w2.heap.size + 1) (.slice P p.length q) p; rw [← h 42 (by decide)]; exact hv
  | 5, h, hv => show ∃ p P q, xq' 10 = .slice P p.length q ∧ p.length ≤ 20 ∧ (∀ l ∈ p, DayOk bs.length b.gangs l) ∧ PlanO wqq (w2.heap.size + 1) (.slice P p.length q) p; rw [← h 10 (by decide)]; exact hv
  | 6, h, hv => exact hv
  | 7, h, hv => exact hv
  | 8, h, hv => exact hv
  | _ + 9, _, _ => trivial
 ·intro jq xq wqq w' hb' hv
  match jq, hv with
  | 0, hv => exact hv
  | 1, hv => exact hv
  | 2, hv => exact hv
  | 3, ⟨b0, b1, h0, h1, h2⟩ => exact ⟨b0, b1, h0, h1, h2.up hb'⟩
  | 4, ⟨b0, b1, b2, h0, h1, h2, h3⟩ => exact ⟨b0, b1, b2, h0, h1, h2, h3.up hb'⟩
  | 5, ⟨b0, b1, b2, h0, h1, h2, h3⟩ => exact ⟨b0, b1, b2, h0, h1, h2, h3.up hb'⟩
  | 6, h0 => exact h0.up hb'
  | 7, h0 => exact h0.up hb'
  | 8, ⟨b0, b1, h0, h1⟩ => exact ⟨b0, b1, h0, h1.up hb'⟩
  | _ + 9, _ => trivial
 ·intro jq hj
  match jq, hj with
  | 0, hj => exact absurd hj (by decide)
  | 1, hj => exact absurd hj (by decide)
  | 2, hj => exact absurd hj (by decide)
  | 3, hj => exact absurd hj (by decide)
  | 4, hj => exact absurd hj (by decide)
  | 5, hj => exact absurd hj (by decide)
  | 6, _ => exact HS3.out.up zg
  | 7, _ => exact (by show Holds _ w3.heap.size 26 #[.int .i64 b.cool, .int .i64 b.gangs, .int .i64 b.r0, .int .i64 b.r1, .int .i64 b.r2, .int .i64 b.r3, .int .i64 b.r4, .int .i64 b.r5, .slice A bs.length c]; exact zp1)
  | 8, _ => exact ⟨0, m3, by decide, HS3.out.up zg⟩
  | _ + 9, _ => trivial
 ·refine ⟨?_, ?_, ?_, ?_, ?_, ?_, trivial⟩
  ·intro xq w1 hb1 hx K hK0
   have hK := fun v w' hb => hK0 v w' (.inl hb)
   clear hx hKc hK0
   have hsz1 := hb1.size
   simp only [frameOf, fill, setSlot, sg, Nat.reduceBEq, if_true, if_false, Nat.reduceAdd, Nat.reduceEqDiff, HSL.out] at hK ⊢
   go_wp2_with (fail)
   exact hK _ _ (Below.refl _ _) rfl
  ·intro xq w1 hb1 hx K hK0
   have hK := fun v w' hb => hK0 v w' (.inl hb)
   have fib_0 : Holds w1 w3.heap.size 26 #[.int .i64 b.cool, .int .i64 b.gangs, .int .i64 b.r0, .int .i64 b.r1, .int .i64 b.r2, .int .i64 b.r3, .int .i64 b.r4, .int .i64 b.r5, .slice A bs.length c] := hx 7 (by rfl) (by rfl)
   clear hx hKc hK0
   have hsz1 := hb1.size
   have kb0 : w1.cell? ⟨w3.heap.size, 0, none⟩ = some (.int .i64 b.cool) := fib_0.cell 0
   have kb1 : w1.cell? ⟨w3.heap.size, 1, none⟩ = some (.int .i64 b.gangs) := fib_0.cell 1
   have kb2 : w1.cell? ⟨w3.heap.size, 2, none⟩ = some (.int .i64 b.r0) := fib_0.cell 2
   have kb3 : w1.cell? ⟨w3.heap.size, 3, none⟩ = some (.int .i64 b.r1) := fib_0.cell 3
   have kb4 : w1.cell? ⟨w3.heap.size, 4, none⟩ = some (.int .i64 b.r2) := fib_0.cell 4
   have kb5 : w1.cell? ⟨w3.heap.size, 5, none⟩ = some (.int .i64 b.r3) := fib_0.cell 5
   have kb6 : w1.cell? ⟨w3.heap.size, 6, none⟩ = some (.int .i64 b.r4) := fib_0.cell 6
   have kb7 : w1.cell? ⟨w3.heap.size, 7, none⟩ = some (.int .i64 b.r5) := fib_0.cell 7
   have kb8 : w1.cell? ⟨w3.heap.size, 8, none⟩ = some (.slice A bs.length c) := fib_0.cell 8
   simp only [frameOf, fill, setSlot, sg, Nat.reduceBEq, if_true, if_false, Nat.reduceAdd, Nat.reduceEqDiff, HSL.out] at hK ⊢
   go_wp2_with (fail)
   exact hK _ _ (Below.refl _ _) rfl
  ·intro xq w1 hb1 hx K hK0
   have hK := fun v w' hb => hK0 v w' (.inl hb)
   clear hx hKc hK0
   have hsz1 := hb1.size
   simp only [frameOf, fill, setSlot, sg, Nat.reduceBEq, if_true, if_false, Nat.reduceAdd, Nat.reduceEqDiff, HSL.out] at hK ⊢
   go_wp2_with (fail)
   exact hK _ _ (Below.refl _ _) rfl
  ·intro xq w1 hb1 hx K hK0
   have hK := fun v w' hb => hK0 v w' (.inr hb)
   have e40 : xq 40 = .pointer (some ⟨w2.heap.size, 0, none⟩) := hx 2 (by rfl) (by rfl)
   have fiS_0 : Holds w1 w2.heap.size 53 #[.slice a1 len1 cap1, .int .i64 ((0 : Nat) : Int), .int .u32 m3] := hx 6 (by rfl) (by rfl)
   clear hx hKc hK0
   have hsz1 := hb1.size
   simp only [frameOf, fill, setSlot, sg, Nat.reduceBEq, if_true, if_false, Nat.reduceAdd, Nat.reduceEqDiff, HSL.out] at hK ⊢
   simp only [e40] at hK ⊢
   clear e40
   go_wp2_with ((go_at_call 7; refine (Below_any w2.heap.size a1 len1 cap1 0 m3 21 _ fiS_0 (HT.out.up (Below.grown HB3.out hb1 HB3.out.size (fun k hk => by cases hk; exact hw2))) hn1 (by decide) (by decide) (by decide)).mono ?_; rintro e w4' ⟨r, mm, rfl, r0', r1', _, hs, g⟩; obtain ⟨rn, rfl⟩ : ∃ n : Nat, r = (n : Int) := ⟨r.toNat, by omega⟩))
   refine hK _ _ ⟨(grow_too hb1 g), ?_⟩ ⟨rn, mm, rfl, by omega, hs⟩
   intro jq xq hd hne hv
   match jq, hd, hne, hv with
   | 0, _, _, hv => exact hv
   | 1, _, _, hv => exact hv
   | 2, _, _, hv => exact hv
   | 3, _, hne, _ => exact absurd rfl hne
   | 4, _, _, hv => obtain ⟨x1, x2, x3, e1, h1, h2, h3⟩ := hv; exact ⟨x1, x2, x3, e1, h1, h2, h3.other g (by omega)⟩
   | 5, _, _, hv => obtain ⟨x1, x2, x3, e1, h1, h2, h3⟩ := hv; exact ⟨x1, x2, x3, e1, h1, h2, h3.other g (by omega)⟩
   | 6, hd, _, _ => exact absurd hd (by decide)
   | 7, _, _, hv => exact Holds.grown hv g (by omega)
   | 8, _, _, hv => exact ⟨_, _, by omega, hs⟩
   | _ + 9, _, _, _ => trivial
  ·intro xq w1 hb1 hx K hK0
   have hK := fun v w' hb => hK0 v w' (.inr hb)
   have e38 : xq 38 = .pointer (some ⟨w2.heap.size, 0, none⟩) := hx 0 (by rfl) (by rfl)
   have e39 : xq 39 = .agg #[.int .i64 b.cool, .int .i64 b.gangs, .int .i64 b.r0, .int .i64 b.r1, .int .i64 b.r2, .int .i64 b.r3, .int .i64 b.r4, .int .i64 b.r5, .slice A bs.length c] := hx 1 (by rfl) (by rfl)
   obtain ⟨dn41, mm41, e41, f41_0, f41_1⟩ := hx 3 (by rfl) (by rfl)
   clear hx hKc hK0
   have hsz1 := hb1.size
   simp only [frameOf, fill, setSlot, sg, Nat.reduceBEq, if_true, if_false, Nat.reduceAdd, Nat.reduceEqDiff, HSL.out] at hK ⊢
   simp only [e38, e39, e41] at hK ⊢
   clear e38 e39 e41
   go_wp2_with ((go_at_call 6; (refine (tried_any b A c bs HE.out w2.heap.size a1 len1 cap1 1 dn41 mm41 _ f41_1 (fun w' g => HT.out.up (Below.grown (Below.grown HB3.out hb1 HB3.out.size (fun k hk => by cases hk; exact hw2)) g (Nat.le_trans HB3.out.size hb1.size) (fun k hk => by cases hk; exact hw2))) hn1 (by decide) f41_0).mono ?_; rintro e w5' ⟨v, p, rfl, hpl, hday, hpo, g, tk5, m5, htk5, hs5⟩; obtain ⟨P, q, rfl, -⟩ := hpo.at_)))
   refine hK _ _ ⟨(grow_too hb1 g), ?_⟩ ⟨p, P, q, (by rw [hpl]), by omega, hday, hpo.mono (by have := hb1.size; omega)⟩
   intro jq xq hd hne hv
   match jq, hd, hne, hv with
   | 0, _, _, hv => exact hv
   | 1, _, _, hv => exact hv
   | 2, _, _, hv => exact hv
   | 3, hd, _, _ => exact absurd hd (by decide)
   | 4, _, hne, _ => exact absurd rfl hne
   | 5, _, _, hv => obtain ⟨x1, x2, x3, e1, h1, h2, h3⟩ := hv; exact ⟨x1, x2, x3, e1, h1, h2, h3.other g (by omega)⟩
   | 6, hd, _, _ => exact absurd hd (by decide)
   | 7, _, _, hv => exact Holds.grown hv g (by omega)
   | 8, _, _, hv => exact ⟨_, _, by omega, hs5⟩
   | _ + 9, _, _, _ => trivial
  ·intro xq w1 hb1 hx K hK0
   have hK := fun v w' hb => hK0 v w' (.inl hb)
   obtain ⟨p42, P42, q42, e42, f42_0, f42_1, f42_2⟩ := hx 4 (by rfl) (by rfl)
   clear hx hKc hK0
   have hsz1 := hb1.size
   simp only [frameOf, fill, setSlot, sg, Nat.reduceBEq, if_true, if_false, Nat.reduceAdd, Nat.reduceEqDiff, HSL.out] at hK ⊢
   simp only [e42] at hK ⊢
   clear e42
   go_wp2_with (fail)
   exact hK _ _ (Below.refl _ _) ⟨_, _, _, rfl, f42_0, f42_1, f42_2⟩
 ·intro xq w1 hb1 hx
  have e38 : xq 38 = .pointer (some ⟨w2.heap.size, 0, none⟩) := hx 0 (by decide)
  have e39 : xq 39 = .agg #[.int .i64 b.cool, .int .i64 b.gangs, .int .i64 b.r0, .int .i64 b.r1, .int .i64 b.r2, .int .i64 b.r3, .int .i64 b.r4, .int .i64 b.r5, .slice A bs.length c] := hx 1 (by decide)
  have e40 : xq 40 = .pointer (some ⟨w2.heap.size, 0, none⟩) := hx 2 (by decide)
  obtain ⟨p42, P42, q42, e42, f42_0, f42_1, f42_2⟩ := hx 4 (by decide)
  obtain ⟨p10, P10, q10, e10, f10_0, f10_1, f10_2⟩ := hx 5 (by decide)
  have fib_0 : Holds w1 w3.heap.size 26 #[.int .i64 b.cool, .int .i64 b.gangs, .int .i64 b.r0, .int .i64 b.r1, .int .i64 b.r2, .int .i64 b.r3, .int .i64 b.r4, .int .i64 b.r5, .slice A bs.length c] := hx 7 (by decide)
  obtain ⟨tkiT, mtiT, fiT_0, fiT_1⟩ := hx 8 (by decide)
  clear hx
  have hsz1 := hb1.size
  simp only [frameOf, fill, setSlot, sg, Nat.reduceBEq, if_true, if_false, Nat.reduceAdd, Nat.reduceEqDiff, HSL.out]
  simp only [e38, e39, e40, e42, e10]
  clear e38 e39 e40 e42 e10
  refine hKc _ _ ?_
  have HPO : Hid (PlanO w1 (w2.heap.size + 1) (.slice P10 p10.length q10) p10) := Lib.hid f10_2
  have HPD := Lib.hid f10_1
  have HG5 : Hid (w3.grownBy w1 (some w2.heap.size)) := Lib.hid hb1
  have HS5 : Hid (Holds w1 w2.heap.size 53 #[.slice a1 len1 cap1, .int .i64 ((tkiT : Nat) : Int), .int .u32 mtiT]) := Lib.hid fiT_1
  have HBB5 : Hid (Holds w1 w3.heap.size 26 #[.int .i64 b.cool, .int .i64 b.gangs, .int .i64 b.r0, .int .i64 b.r1, .int .i64 b.r2, .int .i64 b.r3, .int .i64 b.r4, .int .i64 b.r5, .slice A bs.length c]) := Lib.hid fib_0
  have hz5 := hb1.size
  clear hb1 fiT_1 f10_1 f10_2 fib_0 f42_0 f42_1 f42_2
  have kc0 : w1.cell? ⟨w3.heap.size, 0, none⟩ = some (.int .i64 b.cool) := HBB5.out.cell 0
  have kc1 : w1.cell? ⟨w3.heap.size, 1, none⟩ = some (.int .i64 b.gangs) := HBB5.out.cell 1
  have kc2 : w1.cell? ⟨w3.heap.size, 2, none⟩ = some (.int .i64 b.r0) := HBB5.out.cell 2
  have kc3 : w1.cell? ⟨w3.heap.size, 3, none⟩ = some (.int .i64 b.r1) := HBB5.out.cell 3
  have kc4 : w1.cell? ⟨w3.heap.size, 4, none⟩ = some (.int .i64 b.r2) := HBB5.out.cell 4
  have kc5 : w1.cell? ⟨w3.heap.size, 5, none⟩ = some (.int .i64 b.r3) := HBB5.out.cell 5
  have kc6 : w1.cell? ⟨w3.heap.size, 6, none⟩ = some (.int .i64 b.r4) := HBB5.out.cell 6
  have kc7 : w1.cell? ⟨w3.heap.size, 7, none⟩ = some (.int .i64 b.r5) := HBB5.out.cell 7
  have kc8 : w1.cell? ⟨w3.heap.size, 8, none⟩ = some (.slice A bs.length c) := HBB5.out.cell 8
  obtain ⟨x, hx⟩ : ∃ x, bs[k]? = some x := ⟨_, List.getElem?_eq_getElem hk⟩
  have HX := Lib.hid hx
  have HBI5 : Hid (BinsAt w1 A bs) := Lib.hid (HBI2.out.up (Below.grown HC3.out HG5.out (Nat.le_of_lt hz3) (fun k hk => by cases hk; exact Nat.le_refl _)))
  have HW5 : Hid (Below w.heap.size w w1) := Lib.hid (Below.grown HB3.out HG5.out HB3.out.size (fun k hk => by cases hk; exact hw2))
  have HC5 : Hid (Below w2.heap.size w2 w1) := Lib.hid (Below.grown HC3.out HG5.out (Nat.le_of_lt hz3) (fun k hk => by cases hk; exact Nat.le_refl _))
  obtain ⟨P', q', eP, hPA⟩ := HPO.out.at_
  cases eP
  have HPA := Lib.hid hPA
  have HCK : Hid (checkErr b bs p10 = 0) := Lib.hid (check_of HE.out f10_0 HPD.out)
  have hg0 : ((0 : Nat) : Int) ≤ b.gangs := by have := (barn_right HE.out).2.2.1; simp only [within, Bool.and_eq_true, decide_eq_true_eq] at this; omega
  have hgb : b.gangs ≤ 3 := by have := (barn_right HE.out).2.2.1; simp only [within, Bool.and_eq_true, decide_eq_true_eq] at this; omega
  clear hx hPA
  go_wp2_with fail
  refine (Warmth_good b A c bs (by omega) P10 q10 p10 (by omega) (fun l hl => by have := (HPD.out l hl).2.2; omega) HCK.out f10_0 k hk _ HBI5.out HPA.out).mono ?_
  rintro e w6 ⟨LA, lc, rfl, hsp, hb6⟩
  rw [walls_pick hbn.2 HX.out] at hsp
  have HSP6 := Lib.hid hsp
  have HB6 : Hid (Below w1.heap.size w1 w6) := Lib.hid hb6
  have hz6 := hb6.size
  have HS6 : Hid (Holds w6 w2.heap.size 53 #[.slice a1 len1 cap1, .int .i64 ((tkiT : Nat) : Int), .int .u32 mtiT]) := Lib.hid (HS5.out.up HB6.out)
  have HC6 : Hid (Below w2.heap.size w2 w6) := Lib.hid (HC5.out.trans (HB6.out.mono HC5.out.size))
  have HW6 : Hid (Below w.heap.size w w6) := Lib.hid (HW5.out.trans (HB6.out.mono HW5.out.size))
  have HBB6 : Hid (Holds w6 w3.heap.size 26 #[.int .i64 b.cool, .int .i64 b.gangs, .int .i64 b.r0, .int .i64 b.r1, .int .i64 b.r2, .int .i64 b.r3, .int .i64 b.r4, .int .i64 b.r5, .slice A bs.length c]) := Lib.hid (HBB5.out.up hb6)
  clear hsp hb6 kc0 kc1 kc2 kc3 kc4 kc5 kc6 kc7 kc8
  have kd0 : w6.cell? ⟨w3.heap.size, 0, none⟩ = some (.int .i64 b.cool) := HBB6.out.cell 0
  have kd1 : w6.cell? ⟨w3.heap.size, 1, none⟩ = some (.int .i64 b.gangs) := HBB6.out.cell 1
  have kd2 : w6.cell? ⟨w3.heap.size, 2, none⟩ = some (.int .i64 b.r0) := HBB6.out.cell 2
  have kd3 : w6.cell? ⟨w3.heap.size, 3, none⟩ = some (.int .i64 b.r1) := HBB6.out.cell 3
  have kd4 : w6.cell? ⟨w3.heap.size, 4, none⟩ = some (.int .i64 b.r2) := HBB6.out.cell 4
  have kd5 : w6.cell? ⟨w3.heap.size, 5, none⟩ = some (.int .i64 b.r3) := HBB6.out.cell 5
  have kd6 : w6.cell? ⟨w3.heap.size, 6, none⟩ = some (.int .i64 b.r4) := HBB6.out.cell 6
  have kd7 : w6.cell? ⟨w3.heap.size, 7, none⟩ = some (.int .i64 b.r5) := HBB6.out.cell 7
  have kd8 : w6.cell? ⟨w3.heap.size, 8, none⟩ = some (.slice A bs.length c) := HBB6.out.cell 8
  have hlb6 := HBB6.out.lt
  go_wp2_with fail
  have HBI6 : Hid (BinsAt w6 A bs) := Lib.hid (HBI5.out.up HB6.out)
  have HCI : Hid (checkErr b bs (List.replicate 20 []) = 0) := Lib.hid (check_of HE.out (by decide) (fun l hl => by rw [List.eq_of_mem_replicate hl]; exact ⟨rfl, (fun z hz => by cases hz), hg0⟩))
  rename_i Kc5 hKc
  have HSL := Lib.hid (show slotsOf [some 51, some 52, some 53, some 54, some 50, some 55, some 56, some 13, some 14] = [51, 52, 53, 54, 50, 55, 56, 13, 14] from rfl)
  refine wp_region_partsG (by kernel_rfl) [some 51, some 52, some 53, some 54, some 50, some 55, some 56, some 13, some 14] (fun jq xq w' => match jq with
   | 0 => xq 51 = .agg #[.int .i64 b.cool, .int .i64 b.gangs, .int .i64 b.r0, .int .i64 b.r1, .int .i64 b.r2, .int .i64 b.r3, .int .i64 b.r4, .int .i64 b.r5, .slice A bs.length c]
   | 1 => ∃ D, xq 52 = .slice (some ⟨D, 0, none⟩) 20 20 ∧ PlanAt w' (some ⟨D, 0, none⟩) (List.replicate 20 [])
   | 2 => xq 53 = .int .i64 (k : Int)
   | 3 => ∃ G g, xq 54 = .tuple #[.slice G 20 g, .int .i64 0] ∧ OwnSp w' w6.heap.size (.slice G 20 g) (warmPairs b (List.replicate 20 []) k x)
   | 4 => ∃ G g, xq 50 = .tuple #[.slice G 20 g, .int .i64 0] ∧ OwnSp w' w6.heap.size (.slice G 20 g) (warmPairs b (List.replicate 20 []) k x)
   | 5 => ∃ G g, xq 55 = .slice G 20 g ∧ OwnSp w' w6.heap.size (.slice G 20 g) (warmPairs b (List.replicate 20 []) k x)
   | 6 => xq 56 = .int .i64 0
   | 7 => ∃ G g, xq 13 = .slice G 20 g ∧ OwnSp w' w6.heap.size (.slice G 20 g) (warmPairs b (List.replicate 20 []) k x)
   | 8 => xq 14 = .int .i64 0
   | 9 => Holds w' w3.heap.size 26 #[.int .i64 b.cool, .int .i64 b.gangs, .int .i64 b.r0, .int .i64 b.r1, .int .i64 b.r2, .int .i64 b.r3, .int .i64 b.r4, .int .i64 b.r5, .slice A bs.length c]
   | _ => True) [[51], [52], [53], [54], [50], [55], [56], [13], [14], []] [] (Below w6.heap.size w6) (by kernel_rfl)  ?_ ?_ (fun w' w'' hb h => h.trans (hb.mono h.size)) (Below.refl _ _) ?_ ?_ ?_
  ·intro jq xq xq' wqq h hv
   match jq, h, hv with
   | 0, h, hv => show xq' 51 = .agg #[.int .i64 b.cool, .int .i64 b.gangs, .int .i64 b.r0, .int .i64 b.r1, .int .i64 b.r2, .int .i64 b.r3, .int .i64 b.r4, .int .i64 b.r5, .slice A bs.length c]; rw [← h 51 (by decide)]; exact hv
   | 1, h, hv => show ∃ D, xq' 52 = .slice (some ⟨D, 0, none⟩) 20 20 ∧ PlanAt wqq (some ⟨D, 0, none⟩) (List.replicate 20 []); rw [← h 52 (by decide)]; exact hv
   | 2, h, hv => show xq' 53 = .int .i64 (k : Int); rw [← h 53 (by decide)]; exact hv
   | 3, h, hv => show ∃ G g, xq' 54 = .tuple #[.slice G 20 g, .int .i64 0] ∧ OwnSp wqq w6.heap.size (.slice G 20 g) (warmPairs b (List.replicate 20 []) k x); rw [← h 54 (by decide)]; exact hv
   | 4, h, hv => show ∃ G g, xq' 50 = .tuple #[.slice G 20 g, .int .i64 0] ∧ OwnSp wqq w6.heap.size (.slice G 20 g) (warmPairs b (List.replicate 20 []) k x); rw [← h 50 (by decide)]; exact hv
   | 5, h, hv => show ∃ G g, xq' 55 = .slice G 20 g ∧ OwnSp wqq w6.heap.size (.slice G 20 g) (warmPairs b (List.replicate 20 []) k x); rw [← h 55 (by decide)]; exact hv
   | 6, h, hv => show xq' 56 = .int .i64 0; rw [← h 56 (by decide)]; exact hv
   | 7, h, hv => show ∃ G g, xq' 13 = .slice G 20 g ∧ OwnSp wqq w6.heap.size (.slice G 20 g) (warmPairs b (List.replicate 20 []) k x); rw [← h 13 (by decide)]; exact hv
   | 8, h, hv => show xq' 14 = .int .i64 0; rw [← h 14 (by decide)]; exact hv
   | 9, h, hv => exact hv
   | _ + 10, _, _ => trivial
  ·intro jq xq wqq w' hb' hv
   match jq, hv with
   | 0, hv => exact hv
   | 1, ⟨b0, h0, h1⟩ => exact ⟨b0, h0, h1.up hb'⟩
   | 2, hv => exact hv
   | 3, ⟨b0, b1, h0, h1⟩ => exact ⟨b0, b1, h0, h1.up hb'⟩
   | 4, ⟨b0, b1, h0, h1⟩ => exact ⟨b0, b1, h0, h1.up hb'⟩
   | 5, ⟨b0, b1, h0, h1⟩ => exact ⟨b0, b1, h0, h1.up hb'⟩
   | 6, hv => exact hv
   | 7, ⟨b0, b1, h0, h1⟩ => exact ⟨b0, b1, h0, h1.up hb'⟩
   | 8, hv => exact hv
   | 9, h0 => exact h0.up hb'
   | _ + 10, _ => trivial
  ·intro jq hj
   match jq, hj with
   | 0, hj => exact absurd hj (by decide)
   | 1, hj => exact absurd hj (by decide)
   | 2, hj => exact absurd hj (by decide)
   | 3, hj => exact absurd hj (by decide)
   | 4, hj => exact absurd hj (by decide)
   | 5, hj => exact absurd hj (by decide)
   | 6, hj => exact absurd hj (by decide)
   | 7, hj => exact absurd hj (by decide)
   | 8, hj => exact absurd hj (by decide)
   | 9, _ => exact HBB6.out
   | _ + 10, _ => trivial
  ·refine ⟨?_, ?_, ?_, ?_, ?_, ?_, ?_, ?_, ?_, trivial⟩
   ·intro xq w1 hb1 hx K hK0
    have hK := fun v w' hb => hK0 v w' (.inl hb)
    have fib_0 : Holds w1 w3.heap.size 26 #[.int .i64 b.cool, .int .i64 b.gangs, .int .i64 b.r0, .int .i64 b.r1, .int .i64 b.r2, .int .i64 b.r3, .int .i64 b.r4, .int .i64 b.r5, .slice A bs.length c] := hx 9 (by rfl) (by rfl)
    clear hx hKc hK0
    have hsz1 := hb1.size
    have kb0 : w1.cell? ⟨w3.heap.size, 0, none⟩ = some (.int .i64 b.cool) := fib_0.cell 0
    have kb1 : w1.cell? ⟨w3.heap.size, 1, none⟩ = some (.int .i64 b.gangs) := fib_0.cell 1
    have kb2 : w1.cell? ⟨w3.heap.size, 2, none⟩ = some (.int .i64 b.r0) := fib_0.cell 2
    have kb3 : w1.cell? ⟨w3.heap.size, 3, none⟩ = some (.int .i64 b.r1) := fib_0.cell 3
    have kb4 : w1.cell? ⟨w3.heap.size, 4, none⟩ = some (.int .i64 b.r2) := fib_0.cell 4
    have kb5 : w1.cell? ⟨w3.heap.size, 5, none⟩ = some (.int .i64 b.r3) := fib_0.cell 5
    have kb6 : w1.cell? ⟨w3.heap.size, 6, none⟩ = some (.int .i64 b.r4) := fib_0.cell 6
    have kb7 : w1.cell? ⟨w3.heap.size, 7, none⟩ = some (.int .i64 b.r5) := fib_0.cell 7
    have kb8 : w1.cell? ⟨w3.heap.size, 8, none⟩ = some (.slice A bs.length c) := fib_0.cell 8
    simp only [frameOf, fill, setSlot, sg, Nat.reduceBEq, if_true, if_false, Nat.reduceAdd, Nat.reduceEqDiff, HSL.out] at hK ⊢
    go_wp2_with (fail)
    exact hK _ _ (Below.refl _ _) rfl
   ·intro xq w1 hb1 hx K hK0
    have hK := fun v w' hb => hK0 v w' (.inl hb)
    clear hx hKc hK0
    have hsz1 := hb1.size
    obtain ⟨wm, hmk, hpm, hbm⟩ := make_idle w1
    simp only [frameOf, fill, setSlot, sg, Nat.reduceBEq, if_true, if_false, Nat.reduceAdd, Nat.reduceEqDiff, HSL.out] at hK ⊢
    go_wp2_with (fail)
    exact hK _ _ hbm ⟨_, rfl, hpm⟩
   ·intro xq w1 hb1 hx K hK0
    have hK := fun v w' hb => hK0 v w' (.inl hb)
    clear hx hKc hK0
    have hsz1 := hb1.size
    simp only [frameOf, fill, setSlot, sg, Nat.reduceBEq, if_true, if_false, Nat.reduceAdd, Nat.reduceEqDiff, HSL.out] at hK ⊢
    go_wp2_with (fail)
    exact hK _ _ (Below.refl _ _) rfl
   ·intro xq w1 hb1 hx K hK0
    have hK := fun v w' hb => hK0 v w' (.inl hb)
    have e51 : xq 51 = .agg #[.int .i64 b.cool, .int .i64 b.gangs, .int .i64 b.r0, .int .i64 b.r1, .int .i64 b.r2, .int .i64 b.r3, .int .i64 b.r4, .int .i64 b.r5, .slice A bs.length c] := hx 0 (by rfl) (by rfl)
    obtain ⟨D52, e52, f52_0⟩ := hx 1 (by rfl) (by rfl)
    have e53 : xq 53 = .int .i64 (k : Int) := hx 2 (by rfl) (by rfl)
    clear hx hKc hK0
    have hsz1 := hb1.size
    simp only [frameOf, fill, setSlot, sg, Nat.reduceBEq, if_true, if_false, Nat.reduceAdd, Nat.reduceEqDiff, HSL.out] at hK ⊢
    simp only [e51, e52, e53] at hK ⊢
    clear e51 e52 e53
    go_wp2_with ((go_at_call 8; (refine (Warmth_good b A c bs (by omega) (some ⟨D52, 0, none⟩) 20 (List.replicate 20 []) (by decide) (fun l hl => by rw [List.eq_of_mem_replicate hl]; decide) HCI.out (by decide) k hk _ (HBI6.out.up hb1) f52_0).mono ?_; rintro e w7' ⟨G, g, rfl, hsp, hb7⟩; rw [walls_pick hbn.2 HX.out] at hsp; have hsp2 : OwnSp w7' w6.heap.size (.slice G 20 g) (warmPairs b (List.replicate 20 []) k x) := rowq_mono hsp hb1.size)))
    exact hK _ _ hb7 ⟨_, _, rfl, hsp2⟩
   ·intro xq w1 hb1 hx K hK0
    have hK := fun v w' hb => hK0 v w' (.inl hb)
    obtain ⟨G54, g54, e54, f54_0⟩ := hx 3 (by rfl) (by rfl)
    clear hx hKc hK0
    have hsz1 := hb1.size
    simp only [frameOf, fill, setSlot, sg, Nat.reduceBEq, if_true, if_false, Nat.reduceAdd, Nat.reduceEqDiff, HSL.out] at hK ⊢
    simp only [e54] at hK ⊢
    clear e54
    go_wp2_with (fail)
    exact hK _ _ (Below.refl _ _) ⟨_, _, rfl, f54_0⟩
   ·intro xq w1 hb1 hx K hK0
    have hK := fun v w' hb => hK0 v w' (.inl hb)
    obtain ⟨G50, g50, e50, f50_0⟩ := hx 4 (by rfl) (by rfl)
    clear hx hKc hK0
    have hsz1 := hb1.size
    simp only [frameOf, fill, setSlot, sg, Nat.reduceBEq, if_true, if_false, Nat.reduceAdd, Nat.reduceEqDiff, HSL.out] at hK ⊢
    simp only [e50] at hK ⊢
    clear e50
    go_wp2_with (fail)
    exact hK _ _ (Below.refl _ _) ⟨_, _, rfl, f50_0⟩
   ·intro xq w1 hb1 hx K hK0
    have hK := fun v w' hb => hK0 v w' (.inl hb)
    obtain ⟨G50, g50, e50, f50_0⟩ := hx 4 (by rfl) (by rfl)
    clear hx hKc hK0
    have hsz1 := hb1.size
    simp only [frameOf, fill, setSlot, sg, Nat.reduceBEq, if_true, if_false, Nat.reduceAdd, Nat.reduceEqDiff, HSL.out] at hK ⊢
    simp only [e50] at hK ⊢
    clear e50
    go_wp2_with (fail)
    exact hK _ _ (Below.refl _ _) rfl
   ·intro xq w1 hb1 hx K hK0
    have hK := fun v w' hb => hK0 v w' (.inl hb)
    obtain ⟨G55, g55, e55, f55_0⟩ := hx 5 (by rfl) (by rfl)
    clear hx hKc hK0
    have hsz1 := hb1.size
    simp only [frameOf, fill, setSlot, sg, Nat.reduceBEq, if_true, if_false, Nat.reduceAdd, Nat.reduceEqDiff, HSL.out] at hK ⊢
    simp only [e55] at hK ⊢
    clear e55
    go_wp2_with (fail)
    exact hK _ _ (Below.refl _ _) ⟨_, _, rfl, f55_0⟩
   ·intro xq w1 hb1 hx K hK0
    have hK := fun v w' hb => hK0 v w' (.inl hb)
    have e56 : xq 56 = .int .i64 0 := hx 6 (by rfl) (by rfl)
    clear hx hKc hK0
    have hsz1 := hb1.size
    simp only [frameOf, fill, setSlot, sg, Nat.reduceBEq, if_true, if_false, Nat.reduceAdd, Nat.reduceEqDiff, HSL.out] at hK ⊢
    simp only [e56] at hK ⊢
    clear e56
    go_wp2_with (fail)
    exact hK _ _ (Below.refl _ _) rfl
  ·intro xq w1 hb1 hx
   have e51 : xq 51 = .agg #[.int .i64 b.cool, .int .i64 b.gangs, .int .i64 b.r0, .int .i64 b.r1, .int .i64 b.r2, .int .i64 b.r3, .int .i64 b.r4, .int .i64 b.r5, .slice A bs.length c] := hx 0 (by decide)
   obtain ⟨D52, e52, f52_0⟩ := hx 1 (by decide)
   have e53 : xq 53 = .int .i64 (k : Int) := hx 2 (by decide)
   obtain ⟨G54, g54, e54, f54_0⟩ := hx 3 (by decide)
   obtain ⟨G50, g50, e50, f50_0⟩ := hx 4 (by decide)
   obtain ⟨G55, g55, e55, f55_0⟩ := hx 5 (by decide)
   have e56 : xq 56 = .int .i64 0 := hx 6 (by decide)
   obtain ⟨G13, g13, e13, f13_0⟩ := hx 7 (by decide)
   have e14 : xq 14 = .int .i64 0 := hx 8 (by decide)
   have fib_0 : Holds w1 w3.heap.size 26 #[.int .i64 b.cool, .int .i64 b.gangs, .int .i64 b.r0, .int .i64 b.r1, .int .i64 b.r2, .int .i64 b.r3, .int .i64 b.r4, .int .i64 b.r5, .slice A bs.length c] := hx 9 (by decide)
   clear hx
   have hsz1 := hb1.size
   simp only [frameOf, fill, setSlot, sg, Nat.reduceBEq, if_true, if_false, Nat.reduceAdd, Nat.reduceEqDiff, HSL.out]
   simp only [e51, e52, e53, e54, e50, e55, e56, e13, e14]
   clear e51 e52 e53 e54 e50 e55 e56 e13 e14
   refine hKc _ _ ?_
   have HID : Hid (OwnSp w1 w6.heap.size (.slice G13 20 g13) (warmPairs b (List.replicate 20 []) k x)) := Lib.hid f13_0
   have HB7 : Hid (Below w6.heap.size w6 w1) := Lib.hid hb1
   have HBB7 : Hid (Holds w1 w3.heap.size 26 #[.int .i64 b.cool, .int .i64 b.gangs, .int .i64 b.r0, .int .i64 b.r1, .int .i64 b.r2, .int .i64 b.r3, .int .i64 b.r4, .int .i64 b.r5, .slice A bs.length c]) := Lib.hid fib_0
   have hz7 := hb1.size
   have HS7 : Hid (Holds w1 w2.heap.size 53 #[.slice a1 len1 cap1, .int .i64 ((tkiT : Nat) : Int), .int .u32 mtiT]) := Lib.hid (HS6.out.up HB7.out)
   have HC7 : Hid (Below w2.heap.size w2 w1) := Lib.hid (HC6.out.trans (HB7.out.mono HC6.out.size))
   have HW7 : Hid (Below w.heap.size w w1) := Lib.hid (HW6.out.trans (HB7.out.mono HW6.out.size))
   clear hb1 f13_0 fib_0 f50_0 f52_0 f54_0 f55_0
   have ke0 : w1.cell? ⟨w3.heap.size, 0, none⟩ = some (.int .i64 b.cool) := HBB7.out.cell 0
   have ke1 : w1.cell? ⟨w3.heap.size, 1, none⟩ = some (.int .i64 b.gangs) := HBB7.out.cell 1
   have ke2 : w1.cell? ⟨w3.heap.size, 2, none⟩ = some (.int .i64 b.r0) := HBB7.out.cell 2
   have ke3 : w1.cell? ⟨w3.heap.size, 3, none⟩ = some (.int .i64 b.r1) := HBB7.out.cell 3
   have ke4 : w1.cell? ⟨w3.heap.size, 4, none⟩ = some (.int .i64 b.r2) := HBB7.out.cell 4
   have ke5 : w1.cell? ⟨w3.heap.size, 5, none⟩ = some (.int .i64 b.r3) := HBB7.out.cell 5
   have ke6 : w1.cell? ⟨w3.heap.size, 6, none⟩ = some (.int .i64 b.r4) := HBB7.out.cell 6
   have ke7 : w1.cell? ⟨w3.heap.size, 7, none⟩ = some (.int .i64 b.r5) := HBB7.out.cell 7
   have ke8 : w1.cell? ⟨w3.heap.size, 8, none⟩ = some (.slice A bs.length c) := HBB7.out.cell 8
   go_wp2_with fail
   have HBI7 : Hid (BinsAt w1 A bs) := Lib.hid (HBI6.out.up HB7.out)
   obtain ⟨lf, hlf⟩ : ∃ z, daysOf (b.rise x.hi) x.warm x.mark = z := ⟨_, rfl⟩
   obtain ⟨ls, hls⟩ : ∃ z, daysOf (b.rise x.hi) b.cool x.mark = z := ⟨_, rfl⟩
   obtain ⟨rl, hrl⟩ : ∃ z, b.rise x.lo = z := ⟨_, rfl⟩
   obtain ⟨rh, hrh⟩ : ∃ z, b.rise x.hi = z := ⟨_, rfl⟩
   refine (Left_ok b A c bs _ HBI7.out (by omega) HE.out k x HX.out).mono ?_
   rintro e w8 ⟨rfl, hb⟩
   rw [hlf]
   have HB8 : Hid (Below w1.heap.size w1 w8) := Lib.hid hb
   have HBI8 : Hid (BinsAt w8 A bs) := Lib.hid (HBI7.out.up hb)
   have HBB8 : Hid (Holds w8 w3.heap.size 26 #[.int .i64 b.cool, .int .i64 b.gangs, .int .i64 b.r0, .int .i64 b.r1, .int .i64 b.r2, .int .i64 b.r3, .int .i64 b.r4, .int .i64 b.r5, .slice A bs.length c]) := Lib.hid (HBB7.out.up hb)
   have hz8 := hb.size
   have HS8 : Hid (Holds w8 w2.heap.size 53 #[.slice a1 len1 cap1, .int .i64 ((tkiT : Nat) : Int), .int .u32 mtiT]) := Lib.hid (HS7.out.up HB8.out)
   have HC8 : Hid (Below w2.heap.size w2 w8) := Lib.hid (HC7.out.trans (HB8.out.mono HC7.out.size))
   have HW8 : Hid (Below w.heap.size w w8) := Lib.hid (HW7.out.trans (HB8.out.mono HW7.out.size))
   clear hb ke0 ke1 ke2 ke3 ke4 ke5 ke6 ke7 ke8
   have kf0 : w8.cell? ⟨w3.heap.size, 0, none⟩ = some (.int .i64 b.cool) := HBB8.out.cell 0
   have kf1 : w8.cell? ⟨w3.heap.size, 1, none⟩ = some (.int .i64 b.gangs) := HBB8.out.cell 1
   have kf2 : w8.cell? ⟨w3.heap.size, 2, none⟩ = some (.int .i64 b.r0) := HBB8.out.cell 2
   have kf3 : w8.cell? ⟨w3.heap.size, 3, none⟩ = some (.int .i64 b.r1) := HBB8.out.cell 3
   have kf4 : w8.cell? ⟨w3.heap.size, 4, none⟩ = some (.int .i64 b.r2) := HBB8.out.cell 4
   have kf5 : w8.cell? ⟨w3.heap.size, 5, none⟩ = some (.int .i64 b.r3) := HBB8.out.cell 5
   have kf6 : w8.cell? ⟨w3.heap.size, 6, none⟩ = some (.int .i64 b.r4) := HBB8.out.cell 6
   have kf7 : w8.cell? ⟨w3.heap.size, 7, none⟩ = some (.int .i64 b.r5) := HBB8.out.cell 7
   have kf8 : w8.cell? ⟨w3.heap.size, 8, none⟩ = some (.slice A bs.length c) := HBB8.out.cell 8
   go_wp2_with fail
   refine (Lasts_ok b A c bs _ HBI8.out (by omega) HE.out k x HX.out).mono ?_
   rintro e w9 ⟨rfl, hb⟩
   rw [hls]
   have HB9 : Hid (Below w8.heap.size w8 w9) := Lib.hid hb
   have HBI9 : Hid (BinsAt w9 A bs) := Lib.hid (HBI8.out.up hb)
   have HBB9 : Hid (Holds w9 w3.heap.size 26 #[.int .i64 b.cool, .int .i64 b.gangs, .int .i64 b.r0, .int .i64 b.r1, .int .i64 b.r2, .int .i64 b.r3, .int .i64 b.r4, .int .i64 b.r5, .slice A bs.length c]) := Lib.hid (HBB8.out.up hb)
   have hz9 := hb.size
   have HS9 : Hid (Holds w9 w2.heap.size 53 #[.slice a1 len1 cap1, .int .i64 ((tkiT : Nat) : Int), .int .u32 mtiT]) := Lib.hid (HS8.out.up HB9.out)
   have HC9 : Hid (Below w2.heap.size w2 w9) := Lib.hid (HC8.out.trans (HB9.out.mono HC8.out.size))
   have HW9 : Hid (Below w.heap.size w w9) := Lib.hid (HW8.out.trans (HB9.out.mono HW8.out.size))
   clear hb kf0 kf1 kf2 kf3 kf4 kf5 kf6 kf7 kf8
   have kg0 : w9.cell? ⟨w3.heap.size, 0, none⟩ = some (.int .i64 b.cool) := HBB9.out.cell 0
   have kg1 : w9.cell? ⟨w3.heap.size, 1, none⟩ = some (.int .i64 b.gangs) := HBB9.out.cell 1
   have kg2 : w9.cell? ⟨w3.heap.size, 2, none⟩ = some (.int .i64 b.r0) := HBB9.out.cell 2
   have kg3 : w9.cell? ⟨w3.heap.size, 3, none⟩ = some (.int .i64 b.r1) := HBB9.out.cell 3
   have kg4 : w9.cell? ⟨w3.heap.size, 4, none⟩ = some (.int .i64 b.r2) := HBB9.out.cell 4
   have kg5 : w9.cell? ⟨w3.heap.size, 5, none⟩ = some (.int .i64 b.r3) := HBB9.out.cell 5
   have kg6 : w9.cell? ⟨w3.heap.size, 6, none⟩ = some (.int .i64 b.r4) := HBB9.out.cell 6
   have kg7 : w9.cell? ⟨w3.heap.size, 7, none⟩ = some (.int .i64 b.r5) := HBB9.out.cell 7
   have kg8 : w9.cell? ⟨w3.heap.size, 8, none⟩ = some (.slice A bs.length c) := HBB9.out.cell 8
   go_wp2_with fail
   refine (Rises_ok b A c bs _ HBI9.out (by omega) HE.out k x HX.out).mono ?_
   rintro e w10 ⟨rfl, hb⟩
   rw [hrl, hrh]
   have HB10 : Hid (Below w9.heap.size w9 w10) := Lib.hid hb
   have HBI10 : Hid (BinsAt w10 A bs) := Lib.hid (HBI9.out.up hb)
   have HBB10 : Hid (Holds w10 w3.heap.size 26 #[.int .i64 b.cool, .int .i64 b.gangs, .int .i64 b.r0, .int .i64 b.r1, .int .i64 b.r2, .int .i64 b.r3, .int .i64 b.r4, .int .i64 b.r5, .slice A bs.length c]) := Lib.hid (HBB9.out.up hb)
   have hz10 := hb.size
   have HS10 : Hid (Holds w10 w2.heap.size 53 #[.slice a1 len1 cap1, .int .i64 ((tkiT : Nat) : Int), .int .u32 mtiT]) := Lib.hid (HS9.out.up HB10.out)
   have HC10 : Hid (Below w2.heap.size w2 w10) := Lib.hid (HC9.out.trans (HB10.out.mono HC9.out.size))
   have HW10 : Hid (Below w.heap.size w w10) := Lib.hid (HW9.out.trans (HB10.out.mono HW9.out.size))
   clear hb kg0 kg1 kg2 kg3 kg4 kg5 kg6 kg7 kg8
   have kh0 : w10.cell? ⟨w3.heap.size, 0, none⟩ = some (.int .i64 b.cool) := HBB10.out.cell 0
   have kh1 : w10.cell? ⟨w3.heap.size, 1, none⟩ = some (.int .i64 b.gangs) := HBB10.out.cell 1
   have kh2 : w10.cell? ⟨w3.heap.size, 2, none⟩ = some (.int .i64 b.r0) := HBB10.out.cell 2
   have kh3 : w10.cell? ⟨w3.heap.size, 3, none⟩ = some (.int .i64 b.r1) := HBB10.out.cell 3
   have kh4 : w10.cell? ⟨w3.heap.size, 4, none⟩ = some (.int .i64 b.r2) := HBB10.out.cell 4
   have kh5 : w10.cell? ⟨w3.heap.size, 5, none⟩ = some (.int .i64 b.r3) := HBB10.out.cell 5
   have kh6 : w10.cell? ⟨w3.heap.size, 6, none⟩ = some (.int .i64 b.r4) := HBB10.out.cell 6
   have kh7 : w10.cell? ⟨w3.heap.size, 7, none⟩ = some (.int .i64 b.r5) := HBB10.out.cell 7
   have kh8 : w10.cell? ⟨w3.heap.size, 8, none⟩ = some (.slice A bs.length c) := HBB10.out.cell 8
   have hlb10 := HBB10.out.lt
   go_wp2_with fail
   refine (classes_any b A c bs HE.out w2.heap.size a1 len1 cap1 tkiT mtiT _ (fun w' g => HBI2.out.up (Below.grown (HC10.out.trans (((Below.refl _ _).alloc (Nat.le_refl _) _).mono HC10.out.size)) g (by simp; omega) (fun k hk => by cases hk; exact Nat.le_refl _))) (HS10.out.alloc _) (fun w' g => HT.out.up (Below.grown (HW10.out.trans (((Below.refl _ _).alloc (Nat.le_refl _) _).mono HW10.out.size)) g (by simp; omega) (fun k hk => by cases hk; exact hw2))) hn1 (by omega)).mono ?_
   rintro e w11 ⟨v, cs, rfl, hcl, hov, hg11⟩
   have hcl0 := hcl.1
   obtain ⟨z, hz, hz1, hz2⟩ := hcl.2 k x hk HX.out
   obtain ⟨CA, cc, rfl, -, -, hCI⟩ := hov.at_
   obtain ⟨CB, co, rfl, hcat⟩ := hCI (by omega)
   have kz := hcat k z hz
   have lz := World.block_lt_of_cell? w11 _ kz
   have HG11 : Hid (w10.grownBy w11 (some w2.heap.size)) := Lib.hid (grow_too (World.grownBy_alloc w10 _ _) hg11)
   have HC11 : Hid (Below w2.heap.size w2 w11) := Lib.hid (Below.grown HC10.out HG11.out HC10.out.size (fun k hk => by cases hk; exact Nat.le_refl _))
   have HW11 : Hid (Below w.heap.size w w11) := Lib.hid (Below.grown HW10.out HG11.out HW10.out.size (fun k hk => by cases hk; exact hw2))
   have HBI11 : Hid (BinsAt w11 A bs) := Lib.hid (HBI2.out.up HC11.out)
   have HBB11 : Hid (Holds w11 w3.heap.size 26 #[.int .i64 b.cool, .int .i64 b.gangs, .int .i64 b.r0, .int .i64 b.r1, .int .i64 b.r2, .int .i64 b.r3, .int .i64 b.r4, .int .i64 b.r5, .slice A bs.length c]) := Lib.hid (HBB10.out.grown HG11.out (by omega))
   have HRS11 : Hid (Holds w11 w10.heap.size 40 #[.int .i64 rl, .int .i64 rh]) := Lib.hid (Holds.grown (Holds.new _ _ _) hg11 (by omega))
   have hlk : (k : Int) < bs.length := by omega
   have hcs : (cs.length : Int) = bs.length := by omega
   obtain ⟨E0, oo, hA0, hcell⟩ := HBI11.out (by omega)
   have hz11 := HG11.out.size
   clear hcl hov hCI hcat hg11 HS10 HC10 HW10 HBB10 kh0 kh1 kh2 kh3 kh4 kh5 kh6 kh7 kh8
   have kj0 : w11.cell? ⟨w3.heap.size, 0, none⟩ = some (.int .i64 b.cool) := HBB11.out.cell 0
   have kj1 : w11.cell? ⟨w3.heap.size, 1, none⟩ = some (.int .i64 b.gangs) := HBB11.out.cell 1
   have kj2 : w11.cell? ⟨w3.heap.size, 2, none⟩ = some (.int .i64 b.r0) := HBB11.out.cell 2
   have kj3 : w11.cell? ⟨w3.heap.size, 3, none⟩ = some (.int .i64 b.r1) := HBB11.out.cell 3
   have kj4 : w11.cell? ⟨w3.heap.size, 4, none⟩ = some (.int .i64 b.r2) := HBB11.out.cell 4
   have kj5 : w11.cell? ⟨w3.heap.size, 5, none⟩ = some (.int .i64 b.r3) := HBB11.out.cell 5
   have kj6 : w11.cell? ⟨w3.heap.size, 6, none⟩ = some (.int .i64 b.r4) := HBB11.out.cell 6
   have kj7 : w11.cell? ⟨w3.heap.size, 7, none⟩ = some (.int .i64 b.r5) := HBB11.out.cell 7
   have kj8 : w11.cell? ⟨w3.heap.size, 8, none⟩ = some (.slice A bs.length c) := HBB11.out.cell 8
   rw [hA0] at kj8
   have kx0 : w11.cell? ⟨E0, oo + k * 4, none⟩ = some (.int .i64 x.warm) := hcell k x HX.out 0 _ rfl
   have kx1 : w11.cell? ⟨E0, oo + k * 4 + 1, none⟩ = some (.int .i64 x.mark) := hcell k x HX.out 1 _ rfl
   have kx2 : w11.cell? ⟨E0, oo + k * 4 + 2, none⟩ = some (.int .i64 x.lo) := hcell k x HX.out 2 _ rfl
   have kx3 : w11.cell? ⟨E0, oo + k * 4 + 3, none⟩ = some (.int .i64 x.hi) := hcell k x HX.out 3 _ rfl
   have lE := World.block_lt_of_cell? w11 _ kx0
   clear hcell
   obtain ⟨l0, m0, hlo, hhi, hl6, hm6, mk0, mk60, wm0, wmm, cl0, cl60, -⟩ := good_bin HE.out HX.out
   obtain ⟨zn, hzn⟩ : ∃ n : Nat, z = (n : Int) := ⟨z.toNat, by omega⟩
   subst hzn
   have hz6' : zn < 6 := by omega
   obtain ⟨rz, hrz⟩ : ∃ q, b.rise (zn : Int) = q := ⟨_, rfl⟩
   have hlz : rl ≤ rz := by rw [← hrl, ← hrz, hlo]; exact rise_mono HE.out (by omega) hz6'
   have hzh : rz ≤ rh := by rw [← hrh, ← hrz, hhi]; exact rise_mono HE.out (by omega) hm6
   have hrc : ∀ j : Int, b.rise j = 0 ∨ (6 ≤ b.rise j ∧ b.rise j ≤ 20) := fun j => riseOk_cases (rise_in (barn_right HE.out).2.2.2.1 j)
   have hrl3 := hrc x.lo
   have hrh3 := hrc x.hi
   rw [hrl] at hrl3
   rw [hrh] at hrh3
   have hrz0 : 0 ≤ rz ∧ rz ≤ 20 := by omega
   have kr : w11.cell? ⟨w3.heap.size, 2 + zn, none⟩ = some (.int .i64 rz) := by
     obtain ⟨B', o', e', hcr⟩ := (rises_at HBB11.out) (by simp [Br.rises])
     cases e'
     exact hcr zn rz (by rw [rise_there b hz6', hrz])
   have HLR : Hid (RowAt spCells 2 w11 LA (warmPairs b p10 k x)) := Lib.hid (OwnSp.cells (OwnSp.sack ((((HSP6.out.up HB7.out).up HB8.out).up HB9.out).up HB10.out) HG11.out (by omega)))
   have HIR : Hid (RowAt spCells 2 w11 G13 (warmPairs b (List.replicate 20 []) k x)) := Lib.hid (OwnSp.cells (OwnSp.sack (((HID.out.up HB8.out).up HB9.out).up HB10.out) HG11.out (by omega)))
   have HPT : Hid (PlanAt w11 P10 p10) := Lib.hid (by obtain ⟨P', q', eP, hPt⟩ := PlanO.at_ (PlanO.other (((((HPO.out.up HB6.out).up HB7.out).up HB8.out).up HB9.out).up HB10.out) HG11.out (Nat.lt_succ_self _)); cases eP; exact hPt)
   have hbb11 := HBB11.out.lt
   have hrs11 := HRS11.out.lt
   have HKR := Lib.hid kr
   clear kr hrc
   go_wp2_with fail
   go_loopw [22, 119] (fun v22 v119 wr => ∃ (d : Nat) (g : Int), v119 = .int .i64 (d : Int) ∧ v22 = .int .i64 g ∧ d ≤ p10.length ∧ 0 ≤ g ∧ g ≤ 60 + 20 * (d : Int) ∧ Hid (warmList b.cool rz k g (p10.drop d) = (warmList b.cool rz k x.warm p10).drop d) ∧ Hid (Below w11.heap.size w11 wr)) (fun _ v119 _ => p10.length - (intOf v119).toNat)
   case atStart => exact ⟨0, x.warm, rfl, rfl, Nat.zero_le _, by omega, by omega, Lib.hid (by simp), Lib.hid (Below.refl _ _)⟩
   case round =>
    rename World => wr
    obtain ⟨d, g, rfl, rfl, hd, hg0', hg1, HWL, HBR⟩ := hrel
    have hsr := HBR.out.size
    by_cases hlt : d < p10.length
    ·have hlt' : (d : Int) < p10.length := by omega
     obtain ⟨dl, hdl⟩ : ∃ l, p10[d]? = some l := ⟨_, List.getElem?_eq_getElem hlt⟩
     obtain ⟨s1, hs1⟩ : ∃ a, (warmList b.cool (b.rise x.lo) k x.warm p10)[d]? = some a := ⟨_, List.getElem?_eq_getElem (by rw [warm_len]; exact hlt)⟩
     obtain ⟨s2, hs2⟩ : ∃ a, (warmList b.cool (b.rise x.hi) k x.warm p10)[d]? = some a := ⟨_, List.getElem?_eq_getElem (by rw [warm_len]; exact hlt)⟩
     obtain ⟨g', hg'⟩ : ∃ a, (warmList b.cool rz k x.warm p10)[d]? = some a := ⟨_, List.getElem?_eq_getElem (by rw [warm_len]; exact hlt)⟩
     have le1 : s1 ≤ g' := warm_mono (Int.le_refl _) (by rw [hrl]; exact hlz) hs1 hg'
     have le2 : g' ≤ s2 := warm_mono (Int.le_refl _) (by rw [hrh]; exact hzh) hg' hs2
     obtain ⟨st1, st2⟩ := warm_next HWL.out hdl hg'
     have hpair := pair_there hs1 hs2
     obtain ⟨LB, lof, hLA, hsp⟩ := HLR.out (by rw [pairs_len]; omega)
     have ks0 : wr.cell? ⟨LB, lof + d * 2, none⟩ = some (.int .i64 s1) := up_cell HBR.out (hsp d _ hpair 0 _ rfl)
     have ks1 : wr.cell? ⟨LB, lof + d * 2 + 1, none⟩ = some (.int .i64 s2) := up_cell HBR.out (hsp d _ hpair 1 _ rfl)
     have lLB := World.block_lt_of_cell? wr _ ks0
     obtain ⟨PB, pf, hPA', hpd⟩ := HPT.out (by omega)
     obtain ⟨DA, dc, kp, hIA, hnil⟩ := hpd d dl hdl
     have kpr : wr.cell? ⟨PB, pf + d, none⟩ = some (.slice DA dl.length dc) := up_cell HBR.out kp
     have lPB := World.block_lt_of_cell? wr _ kpr
     have HIA : Hid (IntsAt wr DA dl) := Lib.hid (hIA.up HBR.out)
     have hll : dl.length ≤ 1000 := by have := (HPD.out dl (List.mem_of_getElem? hdl)).2.2; omega
     have ST2 := Lib.hid st2
     clear hs1 hs2 hg' hdl hpair hsp hpd kp hIA hnil st2
     subst hLA
     subst hPA'
     go_wp2_with fail
     refine (Contains_any DA dc dl k _ (HIA.out.up zg) hll).mono ?_
     rintro e w13 ⟨rfl, hb13⟩
     have HB13 : Hid (Below w11.heap.size w11 w13) := Lib.hid (HBR.out.trans ((Below.trans (zg : Below wr.heap.size wr _) (hb13.mono (by simp))).mono HBR.out.size))
     have HSB : Hid (Holds w13 wr.heap.size 40 #[.int .i64 s1, .int .i64 s2]) := Lib.hid (Holds.up zp0 hb13)
     have HBB13 : Hid (Holds w13 w3.heap.size 26 #[.int .i64 b.cool, .int .i64 b.gangs, .int .i64 b.r0, .int .i64 b.r1, .int .i64 b.r2, .int .i64 b.r3, .int .i64 b.r4, .int .i64 b.r5, .slice A bs.length c]) := Lib.hid (HBB11.out.up HB13.out)
     have kc0 : w13.cell? ⟨w3.heap.size, 0, none⟩ = some (.int .i64 b.cool) := HBB13.out.cell 0
     have krz : w13.cell? ⟨w3.heap.size, 2 + zn, none⟩ = some (.int .i64 rz) := up_cell HB13.out HKR.out
     obtain ⟨kq0, kq1⟩ := HSB.out.c2
     have hzn' : (zn : Int) < 6 := by omega
     clear hb13 ks0 ks1 kpr
     cases hct : dl.contains (k : Int) with
     | true =>
      rw [hct, if_pos rfl] at st1
      obtain ⟨q, hq⟩ : ∃ q, min g b.cool = q := ⟨_, rfl⟩
      rw [hq] at st1
      have h1 : g' = q + rz := st1
      have hmin : ∀ (ats : Array TypeId) (ty : TypeId) (w' : World), (Builtin.min_ ats ty #[.int .i64 g, .int .i64 b.cool]).run Tryz.prog w' = .ok (.int .i64 q) w' := fun ats ty w' => by rw [run_min, hq]
      have n1 : ¬ q + rz < s1 := by omega
      have n2 : ¬ s2 < q + rz := by omega
      go_wp2_with fail
      go_roundw
      case rel => exact ⟨d + 1, g', by go_num, by rw [h1], hlt, by omega, by omega, ST2, HB13⟩
      case measure => first | (simp [intOf]; done) | (simp [intOf]; omega)
     | false =>
      rw [hct, if_neg (by decide)] at st1
      have h1 : g' = g + rz := st1
      have n1 : ¬ g + rz < s1 := by omega
      have n2 : ¬ s2 < g + rz := by omega
      go_wp2_with fail
      go_roundw
      case rel => exact ⟨d + 1, g', by go_num, by rw [h1], hlt, by omega, by omega, ST2, HB13⟩
      case measure => first | (simp [intOf]; done) | (simp [intOf]; omega)
    ·have hlt' : ¬ (d : Int) < p10.length := by omega
     clear HWL HLR HPT
     go_wp2_with fail
     go_loopw [153] (fun v153 wt => ∃ (d : Nat), v153 = .int .i64 (d : Int) ∧ d ≤ 20 ∧ Hid (Below w11.heap.size w11 wt)) (fun v153 _ => 20 - (intOf v153).toNat)
     case atStart => exact ⟨0, rfl, by decide, HBR⟩
     case round =>
      rename World => wt
      obtain ⟨j, rfl, hj, HBT⟩ := hrel
      have hst := HBT.out.size
      have kb8 : wt.cell? ⟨w3.heap.size, 8, none⟩ = some (.slice (some ⟨E0, oo, none⟩) bs.length c) := up_cell HBT.out kj8
      have kw0 : wt.cell? ⟨E0, oo + k * 4, none⟩ = some (.int .i64 x.warm) := up_cell HBT.out kx0
      have kw1 : wt.cell? ⟨E0, oo + k * 4 + 1, none⟩ = some (.int .i64 x.mark) := up_cell HBT.out kx1
      have kcl : wt.cell? ⟨w3.heap.size, 0, none⟩ = some (.int .i64 b.cool) := (HBB11.out.up HBT.out).cell 0
      obtain ⟨kr0, kr1⟩ := (HRS11.out.up HBT.out).c2
      by_cases hjl : j < 20
      ·have hjl' : (j : Int) < 20 := by omega
       have hp2 := pair_there (idle_list b.cool (b.rise x.lo) k 20 x.warm j hjl) (idle_list b.cool (b.rise x.hi) k 20 x.warm j hjl)
       rw [hrl, hrh] at hp2
       obtain ⟨IB, iof, hGI, hsp2⟩ := HIR.out (by rw [pairs_len]; decide)
       have kt0 : wt.cell? ⟨IB, iof + j * 2, none⟩ = some (.int .i64 (x.warm + ((j : Int) + 1) * rl)) := up_cell HBT.out (hsp2 j _ hp2 0 _ rfl)
       have kt1 : wt.cell? ⟨IB, iof + j * 2 + 1, none⟩ = some (.int .i64 (x.warm + ((j : Int) + 1) * rh)) := up_cell HBT.out (hsp2 j _ hp2 1 _ rfl)
       have lIB := World.block_lt_of_cell? wt _ kt0
       have lE0 := World.block_lt_of_cell? wt _ kw0
       have hm1 : 0 ≤ ((j : Int) + 1) * rl ∧ ((j : Int) + 1) * rl ≤ 20 * 20 := ⟨Int.mul_nonneg (by omega) (by omega), Int.mul_le_mul (by omega) (by omega) (by omega) (by decide)⟩
       have hm2 : 0 ≤ ((j : Int) + 1) * rh ∧ ((j : Int) + 1) * rh ≤ 20 * 20 := ⟨Int.mul_nonneg (by omega) (by omega), Int.mul_le_mul (by omega) (by omega) (by omega) (by decide)⟩
       have hlt2 := left_told (d := j) hrh3 wm0 wmm mk60 hjl
       rw [← hrh, hlf, hrh] at hlt2
       clear hsp2 hp2
       subst hGI
       by_cases hle : lf ≤ (j : Int)
       ·have hmk : x.mark < x.warm + ((j : Int) + 1) * rh := by rw [decide_eq_true hle] at hlt2; exact of_decide_eq_true hlt2
        clear hlt2
        go_wp2_with fail
        obtain ⟨wv, hwv⟩ : ∃ z, z = wt.alloc (.cells #[.int .i64 (x.warm + ((j : Int) + 1) * rl), .int .i64 (x.warm + ((j : Int) + 1) * rh)] 40) := ⟨_, rfl⟩
        rw [← hwv]
        have HWV : Hid (Below wt.heap.size wt wv) := Lib.hid (by rw [hwv]; (repeat' (first | (with_reducible first | exact Below.refl _ _ | assumption | refine Below.alloc ?_ ?_ _ | refine Below.drew ?_ | refine Below.setCell ?_ ?_ _ | exact Nat.le_refl _) | omega | (simp only [World.size_alloc, World.size_setCell, World.size_drew]; omega) | (simp; omega) | (simp; done))))
        have Hsp : Holds wv wt.heap.size 40 #[.int .i64 (x.warm + ((j : Int) + 1) * rl), .int .i64 (x.warm + ((j : Int) + 1) * rh)] := by rw [hwv]; exact Holds.new _ _ _
        have Kv0 := Lib.hid (Hsp.cell 0)
        have Kv1 := Lib.hid (Hsp.cell 1)
        have Kv8 := Lib.hid (up_cell HWV.out kb8)
        have Kvw := Lib.hid (up_cell HWV.out kw0)
        have Kvm := Lib.hid (up_cell HWV.out kw1)
        have Kvl := Lib.hid (up_cell HWV.out kr0)
        have Kvh := Lib.hid (up_cell HWV.out kr1)
        clear hwv Hsp kb8 kw0 kw1 kr0 kr1 kt0 kt1 kcl kj8 kx0 kx1 kx2 kx3
        rename_i Kc5 hKc
        have HRL := Lib.hid (show List.range' 158 47 = [158, 159, 160, 161, 162, 163, 164, 165, 166, 167, 168, 169, 170, 171, 172, 173, 174, 175, 176, 177, 178, 179, 180, 181, 182, 183, 184, 185, 186, 187, 188, 189, 190, 191, 192, 193, 194, 195, 196, 197, 198, 199, 200, 201, 202, 203, 204] from rfl)
        refine wp_region_partsR 158 47 (by kernel_rfl) [some 158, some 159, some 160, some 161, some 162, some 163, some 164, some 165, some 166, some 167, some 168, some 169, some 170, some 171, some 172, some 173, some 174, some 175, some 176, some 177, some 178, some 179, some 180, some 181, some 182, some 183, some 184, some 185, some 186, some 187, some 188, some 189, some 190, some 191, some 192, some 193, some 194, some 195, some 196, some 197, some 198, some 199, some 200, some 201, some 202, some 203, some 204] (fun jq xq w' => match jq with
         | 0 => xq 158 = .pointer (some ⟨wt.heap.size, 0, none⟩)
         | 1 => xq 159 = .int .i64 (x.warm + ((j : Int) + 1) * rl)
         | 2 => xq 160 = .pointer (some ⟨w3.heap.size, 8, none⟩)
         | 3 => xq 161 = .slice (some ⟨E0, oo, none⟩) bs.length c
         | 4 => xq 162 = .int .i64 (k : Int)
         | 5 => xq 163 = .pointer (some ⟨E0, oo + k * 4, none⟩)
         | 6 => xq 164 = .pointer (some ⟨E0, oo + k * 4, none⟩)
         | 7 => xq 165 = .int .i64 (x.warm)
         | 8 => xq 166 = .int .i64 (j : Int)
         | 9 => xq 167 = .int .i64 ((j : Int) + 1)
         | 10 => xq 168 = .pointer (some ⟨w10.heap.size, 0, none⟩)
         | 11 => xq 169 = .int .i64 (rl)
         | 12 => xq 170 = .int .i64 (((j : Int) + 1) * rl)
         | 13 => xq 171 = .int .i64 (x.warm + ((j : Int) + 1) * rl)
         | 14 => xq 172 = .bool false
         | 15 => xq 173 = .bool false
         | 16 => xq 174 = .pointer (some ⟨wt.heap.size, 1, none⟩)
         | 17 => xq 175 = .int .i64 (x.warm + ((j : Int) + 1) * rh)
         | 18 => xq 176 = .pointer (some ⟨w3.heap.size, 8, none⟩)
         | 19 => xq 177 = .slice (some ⟨E0, oo, none⟩) bs.length c
         | 20 => xq 178 = .int .i64 (k : Int)
         | 21 => xq 179 = .pointer (some ⟨E0, oo + k * 4, none⟩)
         | 22 => xq 180 = .pointer (some ⟨E0, oo + k * 4, none⟩)
         | 23 => xq 181 = .int .i64 (x.warm)
         | 24 => xq 182 = .int .i64 (j : Int)
         | 25 => xq 183 = .int .i64 ((j : Int) + 1)
         | 26 => xq 184 = .pointer (some ⟨w10.heap.size, 1, none⟩)
         | 27 => xq 185 = .int .i64 (rh)
         | 28 => xq 186 = .int .i64 (((j : Int) + 1) * rh)
         | 29 => xq 187 = .int .i64 (x.warm + ((j : Int) + 1) * rh)
         | 30 => xq 188 = .bool false
         | 31 => xq 189 = .bool false
         | 32 => xq 190 = .bool false
         | 33 => xq 191 = .pointer (some ⟨wt.heap.size, 1, none⟩)
         | 34 => xq 192 = .int .i64 (x.warm + ((j : Int) + 1) * rh)
         | 35 => xq 193 = .pointer (some ⟨w3.heap.size, 8, none⟩)
         | 36 => xq 194 = .slice (some ⟨E0, oo, none⟩) bs.length c
         | 37 => xq 195 = .int .i64 (k : Int)
         | 38 => xq 196 = .pointer (some ⟨E0, oo + k * 4, none⟩)
         | 39 => xq 197 = .pointer (some ⟨E0, oo + k * 4 + 1, none⟩)
         | 40 => xq 198 = .int .i64 (x.mark)
         | 41 => xq 199 = .bool true
         | 42 => xq 200 = .int .i64 (j : Int)
         | 43 => xq 201 = .int .i64 (lf)
         | 44 => xq 202 = .bool true
         | 45 => xq 203 = .bool false
         | 46 => xq 204 = .bool false
         | _ => True) [[158], [159], [160], [161], [162], [163], [164], [165], [166], [167], [168], [169], [170], [171], [172], [173], [174], [175], [176], [177], [178], [179], [180], [181], [182], [183], [184], [185], [186], [187], [188], [189], [190], [191], [192], [193], [194], [195], [196], [197], [198], [199], [200], [201], [202], [203], [204]] [] (Below wv.heap.size wv) (by kernel_rfl) (by kernel_rfl) (by rfl) ?_ ?_ (fun w' w'' hb h => h.trans (hb.mono h.size)) (Below.refl _ _) ?_ ?_ ?_
        ·intro jq xq xq' wqq h hv
         match jq, h, hv with
         | 0, h, hv => show xq' 158 = .pointer (some ⟨wt.heap.size, 0, none⟩); rw [← h 158 (by decide)]; exact hv
         | 1, h, hv => show xq' 159 = .int .i64 (x.warm + ((j : Int) + 1) * rl); rw [← h 159 (by decide)]; exact hv
         | 2, h, hv => show xq' 160 = .pointer (some ⟨w3.heap.size, 8, none⟩); rw [← h 160 (by decide)]; exact hv
         | 3, h, hv => show xq' 161 = .slice (some ⟨E0, oo, none⟩) bs.length c; rw [← h 161 (by decide)]; exact hv
         | 4, h, hv => show xq' 162 = .int .i64 (k : Int); rw [← h 162 (by decide)]; exact hv
         | 5, h, hv => show xq' 163 = .pointer (some ⟨E0, oo + k * 4, none⟩); rw [← h 163 (by decide)]; exact hv
         | 6, h, hv => show xq' 164 = .pointer (some ⟨E0, oo + k * 4, none⟩); rw [← h 164 (by decide)]; exact hv
         | 7, h, hv => show xq' 165 = .int .i64 (x.warm); rw [← h 165 (by decide)]; exact hv
         | 8, h, hv => show xq' 166 = .int .i64 (j : Int); rw [← h 166 (by decide)]; exact hv
         | 9, h, hv => show xq' 167 = .int .i64 ((j : Int) + 1); rw [← h 167 (by decide)]; exact hv
         | 10, h, hv => show xq' 168 = .pointer (some ⟨w10.heap.size, 0, none⟩); rw [← h 168 (by decide)]; exact hv
         | 11, h, hv => show xq' 169 = .int .i64 (rl); rw [← h 169 (by decide)]; exact hv
         | 12, h, hv => show xq' 170 = .int .i64 (((j : Int) + 1) * rl); rw [← h 170 (by decide)]; exact hv
         | 13, h, hv => show xq' 171 = .int .i64 (x.warm + ((j : Int) + 1) * rl); rw [← h 171 (by decide)]; exact hv
         | 14, h, hv => show xq' 172 = .bool false; rw [← h 172 (by decide)]; exact hv
         | 15, h, hv => show xq' 173 = .bool false; rw [← h 173 (by decide)]; exact hv
         | 16, h, hv => show xq' 174 = .pointer (some ⟨wt.heap.size, 1, none⟩); rw [← h 174 (by decide)]; exact hv
         | 17, h, hv => show xq' 175 = .int .i64 (x.warm + ((j : Int) + 1) * rh); rw [← h 175 (by decide)]; exact hv
         | 18, h, hv => show xq' 176 = .pointer (some ⟨w3.heap.size, 8, none⟩); rw [← h 176 (by decide)]; exact hv
         | 19, h, hv => show xq' 177 = .slice (some ⟨E0, oo, none⟩) bs.length c; rw [← h 177 (by decide)]; exact hv
         | 20, h, hv => show xq' 178 = .int .i64 (k : Int); rw [← h 178 (by decide)]; exact hv
         | 21, h, hv => show xq' 179 = .pointer (some ⟨E0, oo + k * 4, none⟩); rw [← h 179 (by decide)]; exact hv
         | 22, h, hv => show xq' 180 = .pointer (some ⟨E0, oo + k * 4, none⟩); rw [← h 180 (by decide)]; exact hv
         | 23, h, hv => show xq' 181 = .int .i64 (x.warm); rw [← h 181 (by decide)]; exact hv
         | 24, h, hv => show xq' 182 = .int .i64 (j : Int); rw [← h 182 (by decide)]; exact hv
         | 25, h, hv => show xq' 183 = .int .i64 ((j : Int) + 1); rw [← h 183 (by decide)]; exact hv
         | 26, h, hv => show xq' 184 = .pointer (some ⟨w10.heap.size, 1, none⟩); rw [← h 184 (by decide)]; exact hv
         | 27, h, hv => show xq' 185 = .int .i64 (rh); rw [← h 185 (by decide)]; exact hv
         | 28, h, hv => show xq' 186 = .int .i64 (((j : Int) + 1) * rh); rw [← h 186 (by decide)]; exact hv
         | 29, h, hv => show xq' 187 = .int .i64 (x.warm + ((j : Int) + 1) * rh); rw [← h 187 (by decide)]; exact hv
         | 30, h, hv => show xq' 188 = .bool false; rw [← h 188 (by decide)]; exact hv
         | 31, h, hv => show xq' 189 = .bool false; rw [← h 189 (by decide)]; exact hv
         | 32, h, hv => show xq' 190 = .bool false; rw [← h 190 (by decide)]; exact hv
         | 33, h, hv => show xq' 191 = .pointer (some ⟨wt.heap.size, 1, none⟩); rw [← h 191 (by decide)]; exact hv
         | 34, h, hv => show xq' 192 = .int .i64 (x.warm + ((j : Int) + 1) * rh); rw [← h 192 (by decide)]; exact hv
         | 35, h, hv => show xq' 193 = .pointer (some ⟨w3.heap.size, 8, none⟩); rw [← h 193 (by decide)]; exact hv
         | 36, h, hv => show xq' 194 = .slice (some ⟨E0, oo, none⟩) bs.length c; rw [← h 194 (by decide)]; exact hv
         | 37, h, hv => show xq' 195 = .int .i64 (k : Int); rw [← h 195 (by decide)]; exact hv
         | 38, h, hv => show xq' 196 = .pointer (some ⟨E0, oo + k * 4, none⟩); rw [← h 196 (by decide)]; exact hv
         | 39, h, hv => show xq' 197 = .pointer (some ⟨E0, oo + k * 4 + 1, none⟩); rw [← h 197 (by decide)]; exact hv
         | 40, h, hv => show xq' 198 = .int .i64 (x.mark); rw [← h 198 (by decide)]; exact hv
         | 41, h, hv => show xq' 199 = .bool true; rw [← h 199 (by decide)]; exact hv
         | 42, h, hv => show xq' 200 = .int .i64 (j : Int); rw [← h 200 (by decide)]; exact hv
         | 43, h, hv => show xq' 201 = .int .i64 (lf); rw [← h 201 (by decide)]; exact hv
         | 44, h, hv => show xq' 202 = .bool true; rw [← h 202 (by decide)]; exact hv
         | 45, h, hv => show xq' 203 = .bool false; rw [← h 203 (by decide)]; exact hv
         | 46, h, hv => show xq' 204 = .bool false; rw [← h 204 (by decide)]; exact hv
         | _ + 47, _, _ => trivial
        ·intro jq xq wqq w' hb' hv
         match jq, hv with
         | 0, hv => exact hv
         | 1, hv => exact hv
         | 2, hv => exact hv
         | 3, hv => exact hv
         | 4, hv => exact hv
         | 5, hv => exact hv
         | 6, hv => exact hv
         | 7, hv => exact hv
         | 8, hv => exact hv
         | 9, hv => exact hv
         | 10, hv => exact hv
         | 11, hv => exact hv
         | 12, hv => exact hv
         | 13, hv => exact hv
         | 14, hv => exact hv
         | 15, hv => exact hv
         | 16, hv => exact hv
         | 17, hv => exact hv
         | 18, hv => exact hv
         | 19, hv => exact hv
         | 20, hv => exact hv
         | 21, hv => exact hv
         | 22, hv => exact hv
         | 23, hv => exact hv
         | 24, hv => exact hv
         | 25, hv => exact hv
         | 26, hv => exact hv
         | 27, hv => exact hv
         | 28, hv => exact hv
         | 29, hv => exact hv
         | 30, hv => exact hv
         | 31, hv => exact hv
         | 32, hv => exact hv
         | 33, hv => exact hv
         | 34, hv => exact hv
         | 35, hv => exact hv
         | 36, hv => exact hv
         | 37, hv => exact hv
         | 38, hv => exact hv
         | 39, hv => exact hv
         | 40, hv => exact hv
         | 41, hv => exact hv
         | 42, hv => exact hv
         | 43, hv => exact hv
         | 44, hv => exact hv
         | 45, hv => exact hv
         | 46, hv => exact hv
         | _ + 47, _ => trivial
        ·intro jq hj
         match jq, hj with
         | 0, hj => exact absurd hj (by decide)
         | 1, hj => exact absurd hj (by decide)
         | 2, hj => exact absurd hj (by decide)
         | 3, hj => exact absurd hj (by decide)
         | 4, hj => exact absurd hj (by decide)
         | 5, hj => exact absurd hj (by decide)
         | 6, hj => exact absurd hj (by decide)
         | 7, hj => exact absurd hj (by decide)
         | 8, hj => exact absurd hj (by decide)
         | 9, hj => exact absurd hj (by decide)
         | 10, hj => exact absurd hj (by decide)
         | 11, hj => exact absurd hj (by decide)
         | 12, hj => exact absurd hj (by decide)
         | 13, hj => exact absurd hj (by decide)
         | 14, hj => exact absurd hj (by decide)
         | 15, hj => exact absurd hj (by decide)
         | 16, hj => exact absurd hj (by decide)
         | 17, hj => exact absurd hj (by decide)
         | 18, hj => exact absurd hj (by decide)
         | 19, hj => exact absurd hj (by decide)
         | 20, hj => exact absurd hj (by decide)
         | 21, hj => exact absurd hj (by decide)
         | 22, hj => exact absurd hj (by decide)
         | 23, hj => exact absurd hj (by decide)
         | 24, hj => exact absurd hj (by decide)
         | 25, hj => exact absurd hj (by decide)
         | 26, hj => exact absurd hj (by decide)
         | 27, hj => exact absurd hj (by decide)
         | 28, hj => exact absurd hj (by decide)
         | 29, hj => exact absurd hj (by decide)
         | 30, hj => exact absurd hj (by decide)
         | 31, hj => exact absurd hj (by decide)
         | 32, hj => exact absurd hj (by decide)
         | 33, hj => exact absurd hj (by decide)
         | 34, hj => exact absurd hj (by decide)
         | 35, hj => exact absurd hj (by decide)
         | 36, hj => exact absurd hj (by decide)
         | 37, hj => exact absurd hj (by decide)
         | 38, hj => exact absurd hj (by decide)
         | 39, hj => exact absurd hj (by decide)
         | 40, hj => exact absurd hj (by decide)
         | 41, hj => exact absurd hj (by decide)
         | 42, hj => exact absurd hj (by decide)
         | 43, hj => exact absurd hj (by decide)
         | 44, hj => exact absurd hj (by decide)
         | 45, hj => exact absurd hj (by decide)
         | 46, hj => exact absurd hj (by decide)
         | _ + 47, _ => trivial
        ·refine ⟨?_, ?_, ?_, ?_, ?_, ?_, ?_, ?_, ?_, ?_, ?_, ?_, ?_, ?_, ?_, ?_, ?_, ?_, ?_, ?_, ?_, ?_, ?_, ?_, ?_, ?_, ?_, ?_, ?_, ?_, ?_, ?_, ?_, ?_, ?_, ?_, ?_, ?_, ?_, ?_, ?_, ?_, ?_, ?_, ?_, ?_, ?_, trivial⟩
         ·intro xq w1 hb1 hx K hK0
          have hK := fun v w' hb => hK0 v w' (.inl hb)
          clear hx hKc hK0
          simp only [runOf, setSlot, HRL.out, sr, Nat.reduceAdd, Nat.reduceEqDiff, if_true, if_false] at hK ⊢
          go_wp2_with (fail)
          exact hK _ _ (Below.refl _ _) rfl
         ·intro xq w1 hb1 hx K hK0
          have hK := fun v w' hb => hK0 v w' (.inl hb)
          have e158 : xq 158 = .pointer (some ⟨wt.heap.size, 0, none⟩) := hx 0 (by rfl) (by rfl)
          clear hx hKc hK0
          have q_ := up_cell hb1 Kv0.out
          simp only [runOf, setSlot, HRL.out, sr, Nat.reduceAdd, Nat.reduceEqDiff, if_true, if_false] at hK ⊢
          simp only [e158] at hK ⊢
          clear e158
          go_wp2_with (fail)
          exact hK _ _ (Below.refl _ _) rfl
         ·intro xq w1 hb1 hx K hK0
          have hK := fun v w' hb => hK0 v w' (.inl hb)
          clear hx hKc hK0
          simp only [runOf, setSlot, HRL.out, sr, Nat.reduceAdd, Nat.reduceEqDiff, if_true, if_false] at hK ⊢
          go_wp2_with (fail)
          exact hK _ _ (Below.refl _ _) rfl
         ·intro xq w1 hb1 hx K hK0
          have hK := fun v w' hb => hK0 v w' (.inl hb)
          have e160 : xq 160 = .pointer (some ⟨w3.heap.size, 8, none⟩) := hx 2 (by rfl) (by rfl)
          clear hx hKc hK0
          have q_ := up_cell hb1 Kv8.out
          simp only [runOf, setSlot, HRL.out, sr, Nat.reduceAdd, Nat.reduceEqDiff, if_true, if_false] at hK ⊢
          simp only [e160] at hK ⊢
          clear e160
          go_wp2_with (fail)
          exact hK _ _ (Below.refl _ _) rfl
         ·intro xq w1 hb1 hx K hK0
          have hK := fun v w' hb => hK0 v w' (.inl hb)
          clear hx hKc hK0
          simp only [runOf, setSlot, HRL.out, sr, Nat.reduceAdd, Nat.reduceEqDiff, if_true, if_false] at hK ⊢
          go_wp2_with (fail)
          exact hK _ _ (Below.refl _ _) rfl
         ·intro xq w1 hb1 hx K hK0
          have hK := fun v w' hb => hK0 v w' (.inl hb)
          have e161 : xq 161 = .slice (some ⟨E0, oo, none⟩) bs.length c := hx 3 (by rfl) (by rfl)
          have e162 : xq 162 = .int .i64 (k : Int) := hx 4 (by rfl) (by rfl)
          clear hx hKc hK0
          simp only [runOf, setSlot, HRL.out, sr, Nat.reduceAdd, Nat.reduceEqDiff, if_true, if_false] at hK ⊢
          simp only [e161, e162] at hK ⊢
          clear e161 e162
          go_wp2_with (fail)
          exact hK _ _ (Below.refl _ _) rfl
         ·intro xq w1 hb1 hx K hK0
          have hK := fun v w' hb => hK0 v w' (.inl hb)
          have e163 : xq 163 = .pointer (some ⟨E0, oo + k * 4, none⟩) := hx 5 (by rfl) (by rfl)
          clear hx hKc hK0
          simp only [runOf, setSlot, HRL.out, sr, Nat.reduceAdd, Nat.reduceEqDiff, if_true, if_false] at hK ⊢
          simp only [e163] at hK ⊢
          clear e163
          go_wp2_with (fail)
          exact hK _ _ (Below.refl _ _) rfl
         ·intro xq w1 hb1 hx K hK0
          have hK := fun v w' hb => hK0 v w' (.inl hb)
          have e164 : xq 164 = .pointer (some ⟨E0, oo + k * 4, none⟩) := hx 6 (by rfl) (by rfl)
          clear hx hKc hK0
          have q_ := up_cell hb1 Kvw.out
          simp only [runOf, setSlot, HRL.out, sr, Nat.reduceAdd, Nat.reduceEqDiff, if_true, if_false] at hK ⊢
          simp only [e164] at hK ⊢
          clear e164
          go_wp2_with (fail)
          exact hK _ _ (Below.refl _ _) rfl
         ·intro xq w1 hb1 hx K hK0
          have hK := fun v w' hb => hK0 v w' (.inl hb)
          clear hx hKc hK0
          simp only [runOf, setSlot, HRL.out, sr, Nat.reduceAdd, Nat.reduceEqDiff, if_true, if_false] at hK ⊢
          go_wp2_with (fail)
          exact hK _ _ (Below.refl _ _) rfl
         ·intro xq w1 hb1 hx K hK0
          have hK := fun v w' hb => hK0 v w' (.inl hb)
          have e166 : xq 166 = .int .i64 (j : Int) := hx 8 (by rfl) (by rfl)
          clear hx hKc hK0
          simp only [runOf, setSlot, HRL.out, sr, Nat.reduceAdd, Nat.reduceEqDiff, if_true, if_false] at hK ⊢
          simp only [e166] at hK ⊢
          clear e166
          go_wp2_with (fail)
          exact hK _ _ (Below.refl _ _) rfl
         ·intro xq w1 hb1 hx K hK0
          have hK := fun v w' hb => hK0 v w' (.inl hb)
          clear hx hKc hK0
          simp only [runOf, setSlot, HRL.out, sr, Nat.reduceAdd, Nat.reduceEqDiff, if_true, if_false] at hK ⊢
          go_wp2_with (fail)
          exact hK _ _ (Below.refl _ _) rfl
         ·intro xq w1 hb1 hx K hK0
          have hK := fun v w' hb => hK0 v w' (.inl hb)
          have e168 : xq 168 = .pointer (some ⟨w10.heap.size, 0, none⟩) := hx 10 (by rfl) (by rfl)
          clear hx hKc hK0
          have q_ := up_cell hb1 Kvl.out
          simp only [runOf, setSlot, HRL.out, sr, Nat.reduceAdd, Nat.reduceEqDiff, if_true, if_false] at hK ⊢
          simp only [e168] at hK ⊢
          clear e168
          go_wp2_with (fail)
          exact hK _ _ (Below.refl _ _) rfl
         ·intro xq w1 hb1 hx K hK0
          have hK := fun v w' hb => hK0 v w' (.inl hb)
          have e167 : xq 167 = .int .i64 ((j : Int) + 1) := hx 9 (by rfl) (by rfl)
          have e169 : xq 169 = .int .i64 (rl) := hx 11 (by rfl) (by rfl)
          clear hx hKc hK0
          simp only [runOf, setSlot, HRL.out, sr, Nat.reduceAdd, Nat.reduceEqDiff, if_true, if_false] at hK ⊢
          simp only [e167, e169] at hK ⊢
          clear e167 e169
          go_wp2_with (fail)
          exact hK _ _ (Below.refl _ _) rfl
         ·intro xq w1 hb1 hx K hK0
          have hK := fun v w' hb => hK0 v w' (.inl hb)
          have e165 : xq 165 = .int .i64 (x.warm) := hx 7 (by rfl) (by rfl)
          have e170 : xq 170 = .int .i64 (((j : Int) + 1) * rl) := hx 12 (by rfl) (by rfl)
          clear hx hKc hK0
          simp only [runOf, setSlot, HRL.out, sr, Nat.reduceAdd, Nat.reduceEqDiff, if_true, if_false] at hK ⊢
          simp only [e165, e170] at hK ⊢
          clear e165 e170
          go_wp2_with (fail)
          exact hK _ _ (Below.refl _ _) rfl
         ·intro xq w1 hb1 hx K hK0
          have hK := fun v w' hb => hK0 v w' (.inl hb)
          have e159 : xq 159 = .int .i64 (x.warm + ((j : Int) + 1) * rl) := hx 1 (by rfl) (by rfl)
          have e171 : xq 171 = .int .i64 (x.warm + ((j : Int) + 1) * rl) := hx 13 (by rfl) (by rfl)
          clear hx hKc hK0
          simp only [runOf, setSlot, HRL.out, sr, Nat.reduceAdd, Nat.reduceEqDiff, if_true, if_false] at hK ⊢
          simp only [e159, e171] at hK ⊢
          clear e159 e171
          go_wp2_with (fail)
          first | exact hK _ _ (Below.refl _ _) rfl | exact hK _ _ (Below.refl _ _) (by simp)
         ·intro xq w1 hb1 hx K hK0
          have hK := fun v w' hb => hK0 v w' (.inl hb)
          have e172 : xq 172 = .bool false := hx 14 (by rfl) (by rfl)
          clear hx hKc hK0
          simp only [runOf, setSlot, HRL.out, sr, Nat.reduceAdd, Nat.reduceEqDiff, if_true, if_false] at hK ⊢
          simp only [e172] at hK ⊢
          clear e172
          go_wp2_with (fail)
          exact hK _ _ (Below.refl _ _) rfl
         ·intro xq w1 hb1 hx K hK0
          have hK := fun v w' hb => hK0 v w' (.inl hb)
          have e173 : xq 173 = .bool false := hx 15 (by rfl) (by rfl)
          clear hx hKc hK0
          simp only [runOf, setSlot, HRL.out, sr, Nat.reduceAdd, Nat.reduceEqDiff, if_true, if_false] at hK ⊢
          simp only [e173] at hK ⊢
          clear e173
          go_wp2_with (fail)
          exact hK _ _ (Below.refl _ _) rfl
         ·intro xq w1 hb1 hx K hK0
          have hK := fun v w' hb => hK0 v w' (.inl hb)
          have e173 : xq 173 = .bool false := hx 15 (by rfl) (by rfl)
          have e174 : xq 174 = .pointer (some ⟨wt.heap.size, 1, none⟩) := hx 16 (by rfl) (by rfl)
          clear hx hKc hK0
          have q_ := up_cell hb1 Kv1.out
          simp only [runOf, setSlot, HRL.out, sr, Nat.reduceAdd, Nat.reduceEqDiff, if_true, if_false] at hK ⊢
          simp only [e173, e174] at hK ⊢
          clear e173 e174
          go_wp2_with (fail)
          exact hK _ _ (Below.refl _ _) rfl
         ·intro xq w1 hb1 hx K hK0
          have hK := fun v w' hb => hK0 v w' (.inl hb)
          have e173 : xq 173 = .bool false := hx 15 (by rfl) (by rfl)
          clear hx hKc hK0
          simp only [runOf, setSlot, HRL.out, sr, Nat.reduceAdd, Nat.reduceEqDiff, if_true, if_false] at hK ⊢
          simp only [e173] at hK ⊢
          clear e173
          go_wp2_with (fail)
          exact hK _ _ (Below.refl _ _) rfl
         ·intro xq w1 hb1 hx K hK0
          have hK := fun v w' hb => hK0 v w' (.inl hb)
          have e173 : xq 173 = .bool false := hx 15 (by rfl) (by rfl)
          have e176 : xq 176 = .pointer (some ⟨w3.heap.size, 8, none⟩) := hx 18 (by rfl) (by rfl)
          clear hx hKc hK0
          have q_ := up_cell hb1 Kv8.out
          simp only [runOf, setSlot, HRL.out, sr, Nat.reduceAdd, Nat.reduceEqDiff, if_true, if_false] at hK ⊢
          simp only [e173, e176] at hK ⊢
          clear e173 e176
          go_wp2_with (fail)
          exact hK _ _ (Below.refl _ _) rfl
         ·intro xq w1 hb1 hx K hK0
          have hK := fun v w' hb => hK0 v w' (.inl hb)
          have e173 : xq 173 = .bool false := hx 15 (by rfl) (by rfl)
          clear hx hKc hK0
          simp only [runOf, setSlot, HRL.out, sr, Nat.reduceAdd, Nat.reduceEqDiff, if_true, if_false] at hK ⊢
          simp only [e173] at hK ⊢
          clear e173
          go_wp2_with (fail)
          exact hK _ _ (Below.refl _ _) rfl
         ·intro xq w1 hb1 hx K hK0
          have hK := fun v w' hb => hK0 v w' (.inl hb)
          have e173 : xq 173 = .bool false := hx 15 (by rfl) (by rfl)
          have e177 : xq 177 = .slice (some ⟨E0, oo, none⟩) bs.length c := hx 19 (by rfl) (by rfl)
          have e178 : xq 178 = .int .i64 (k : Int) := hx 20 (by rfl) (by rfl)
          clear hx hKc hK0
          simp only [runOf, setSlot, HRL.out, sr, Nat.reduceAdd, Nat.reduceEqDiff, if_true, if_false] at hK ⊢
          simp only [e173, e177, e178] at hK ⊢
          clear e173 e177 e178
          go_wp2_with (fail)
          exact hK _ _ (Below.refl _ _) rfl
         ·intro xq w1 hb1 hx K hK0
          have hK := fun v w' hb => hK0 v w' (.inl hb)
          have e173 : xq 173 = .bool false := hx 15 (by rfl) (by rfl)
          have e179 : xq 179 = .pointer (some ⟨E0, oo + k * 4, none⟩) := hx 21 (by rfl) (by rfl)
          clear hx hKc hK0
          simp only [runOf, setSlot, HRL.out, sr, Nat.reduceAdd, Nat.reduceEqDiff, if_true, if_false] at hK ⊢
          simp only [e173, e179] at hK ⊢
          clear e173 e179
          go_wp2_with (fail)
          exact hK _ _ (Below.refl _ _) rfl
         ·intro xq w1 hb1 hx K hK0
          have hK := fun v w' hb => hK0 v w' (.inl hb)
          have e173 : xq 173 = .bool false := hx 15 (by rfl) (by rfl)
          have e180 : xq 180 = .pointer (some ⟨E0, oo + k * 4, none⟩) := hx 22 (by rfl) (by rfl)
          clear hx hKc hK0
          have q_ := up_cell hb1 Kvw.out
          simp only [runOf, setSlot, HRL.out, sr, Nat.reduceAdd, Nat.reduceEqDiff, if_true, if_false] at hK ⊢
          simp only [e173, e180] at hK ⊢
          clear e173 e180
          go_wp2_with (fail)
          exact hK _ _ (Below.refl _ _) rfl
         ·intro xq w1 hb1 hx K hK0
          have hK := fun v w' hb => hK0 v w' (.inl hb)
          have e173 : xq 173 = .bool false := hx 15 (by rfl) (by rfl)
          clear hx hKc hK0
          simp only [runOf, setSlot, HRL.out, sr, Nat.reduceAdd, Nat.reduceEqDiff, if_true, if_false] at hK ⊢
          simp only [e173] at hK ⊢
          clear e173
          go_wp2_with (fail)
          exact hK _ _ (Below.refl _ _) rfl
         ·intro xq w1 hb1 hx K hK0
          have hK := fun v w' hb => hK0 v w' (.inl hb)
          have e173 : xq 173 = .bool false := hx 15 (by rfl) (by rfl)
          have e182 : xq 182 = .int .i64 (j : Int) := hx 24 (by rfl) (by rfl)
          clear hx hKc hK0
          simp only [runOf, setSlot, HRL.out, sr, Nat.reduceAdd, Nat.reduceEqDiff, if_true, if_false] at hK ⊢
          simp only [e173, e182] at hK ⊢
          clear e173 e182
          go_wp2_with (fail)
          exact hK _ _ (Below.refl _ _) rfl
         ·intro xq w1 hb1 hx K hK0
          have hK := fun v w' hb => hK0 v w' (.inl hb)
          have e173 : xq 173 = .bool false := hx 15 (by rfl) (by rfl)
          clear hx hKc hK0
          simp only [runOf, setSlot, HRL.out, sr, Nat.reduceAdd, Nat.reduceEqDiff, if_true, if_false] at hK ⊢
          simp only [e173] at hK ⊢
          clear e173
          go_wp2_with (fail)
          exact hK _ _ (Below.refl _ _) rfl
         ·intro xq w1 hb1 hx K hK0
          have hK := fun v w' hb => hK0 v w' (.inl hb)
          have e173 : xq 173 = .bool false := hx 15 (by rfl) (by rfl)
          have e184 : xq 184 = .pointer (some ⟨w10.heap.size, 1, none⟩) := hx 26 (by rfl) (by rfl)
          clear hx hKc hK0
          have q_ := up_cell hb1 Kvh.out
          simp only [runOf, setSlot, HRL.out, sr, Nat.reduceAdd, Nat.reduceEqDiff, if_true, if_false] at hK ⊢
          simp only [e173, e184] at hK ⊢
          clear e173 e184
          go_wp2_with (fail)
          exact hK _ _ (Below.refl _ _) rfl
         ·intro xq w1 hb1 hx K hK0
          have hK := fun v w' hb => hK0 v w' (.inl hb)
          have e173 : xq 173 = .bool false := hx 15 (by rfl) (by rfl)
          have e183 : xq 183 = .int .i64 ((j : Int) + 1) := hx 25 (by rfl) (by rfl)
          have e185 : xq 185 = .int .i64 (rh) := hx 27 (by rfl) (by rfl)
          clear hx hKc hK0
          simp only [runOf, setSlot, HRL.out, sr, Nat.reduceAdd, Nat.reduceEqDiff, if_true, if_false] at hK ⊢
          simp only [e173, e183, e185] at hK ⊢
          clear e173 e183 e185
          go_wp2_with (fail)
          exact hK _ _ (Below.refl _ _) rfl
         ·intro xq w1 hb1 hx K hK0
          have hK := fun v w' hb => hK0 v w' (.inl hb)
          have e173 : xq 173 = .bool false := hx 15 (by rfl) (by rfl)
          have e181 : xq 181 = .int .i64 (x.warm) := hx 23 (by rfl) (by rfl)
          have e186 : xq 186 = .int .i64 (((j : Int) + 1) * rh) := hx 28 (by rfl) (by rfl)
          clear hx hKc hK0
          simp only [runOf, setSlot, HRL.out, sr, Nat.reduceAdd, Nat.reduceEqDiff, if_true, if_false] at hK ⊢
          simp only [e173, e181, e186] at hK ⊢
          clear e173 e181 e186
          go_wp2_with (fail)
          exact hK _ _ (Below.refl _ _) rfl
         ·intro xq w1 hb1 hx K hK0
          have hK := fun v w' hb => hK0 v w' (.inl hb)
          have e173 : xq 173 = .bool false := hx 15 (by rfl) (by rfl)
          have e175 : xq 175 = .int .i64 (x.warm + ((j : Int) + 1) * rh) := hx 17 (by rfl) (by rfl)
          have e187 : xq 187 = .int .i64 (x.warm + ((j : Int) + 1) * rh) := hx 29 (by rfl) (by rfl)
          clear hx hKc hK0
          simp only [runOf, setSlot, HRL.out, sr, Nat.reduceAdd, Nat.reduceEqDiff, if_true, if_false] at hK ⊢
          simp only [e173, e175, e187] at hK ⊢
          clear e173 e175 e187
          go_wp2_with (fail)
          first | exact hK _ _ (Below.refl _ _) rfl | exact hK _ _ (Below.refl _ _) (by simp)
         ·intro xq w1 hb1 hx K hK0
          have hK := fun v w' hb => hK0 v w' (.inl hb)
          have e173 : xq 173 = .bool false := hx 15 (by rfl) (by rfl)
          have e188 : xq 188 = .bool false := hx 30 (by rfl) (by rfl)
          clear hx hKc hK0
          simp only [runOf, setSlot, HRL.out, sr, Nat.reduceAdd, Nat.reduceEqDiff, if_true, if_false] at hK ⊢
          simp only [e173, e188] at hK ⊢
          clear e173 e188
          go_wp2_with (fail)
          exact hK _ _ (Below.refl _ _) rfl
         ·intro xq w1 hb1 hx K hK0
          have hK := fun v w' hb => hK0 v w' (.inl hb)
          have e189 : xq 189 = .bool false := hx 31 (by rfl) (by rfl)
          clear hx hKc hK0
          simp only [runOf, setSlot, HRL.out, sr, Nat.reduceAdd, Nat.reduceEqDiff, if_true, if_false] at hK ⊢
          simp only [e189] at hK ⊢
          clear e189
          go_wp2_with (fail)
          exact hK _ _ (Below.refl _ _) rfl
         ·intro xq w1 hb1 hx K hK0
          have hK := fun v w' hb => hK0 v w' (.inl hb)
          have e190 : xq 190 = .bool false := hx 32 (by rfl) (by rfl)
          clear hx hKc hK0
          simp only [runOf, setSlot, HRL.out, sr, Nat.reduceAdd, Nat.reduceEqDiff, if_true, if_false] at hK ⊢
          simp only [e190] at hK ⊢
          clear e190
          go_wp2_with (fail)
          exact hK _ _ (Below.refl _ _) rfl
         ·intro xq w1 hb1 hx K hK0
          have hK := fun v w' hb => hK0 v w' (.inl hb)
          have e190 : xq 190 = .bool false := hx 32 (by rfl) (by rfl)
          have e191 : xq 191 = .pointer (some ⟨wt.heap.size, 1, none⟩) := hx 33 (by rfl) (by rfl)
          clear hx hKc hK0
          have q_ := up_cell hb1 Kv1.out
          simp only [runOf, setSlot, HRL.out, sr, Nat.reduceAdd, Nat.reduceEqDiff, if_true, if_false] at hK ⊢
          simp only [e190, e191] at hK ⊢
          clear e190 e191
          go_wp2_with (fail)
          exact hK _ _ (Below.refl _ _) rfl
         ·intro xq w1 hb1 hx K hK0
          have hK := fun v w' hb => hK0 v w' (.inl hb)
          have e190 : xq 190 = .bool false := hx 32 (by rfl) (by rfl)
          clear hx hKc hK0
          simp only [runOf, setSlot, HRL.out, sr, Nat.reduceAdd, Nat.reduceEqDiff, if_true, if_false] at hK ⊢
          simp only [e190] at hK ⊢
          clear e190
          go_wp2_with (fail)
          exact hK _ _ (Below.refl _ _) rfl
         ·intro xq w1 hb1 hx K hK0
          have hK := fun v w' hb => hK0 v w' (.inl hb)
          have e190 : xq 190 = .bool false := hx 32 (by rfl) (by rfl)
          have e193 : xq 193 = .pointer (some ⟨w3.heap.size, 8, none⟩) := hx 35 (by rfl) (by rfl)
          clear hx hKc hK0
          have q_ := up_cell hb1 Kv8.out
          simp only [runOf, setSlot, HRL.out, sr, Nat.reduceAdd, Nat.reduceEqDiff, if_true, if_false] at hK ⊢
          simp only [e190, e193] at hK ⊢
          clear e190 e193
          go_wp2_with (fail)
          exact hK _ _ (Below.refl _ _) rfl
         ·intro xq w1 hb1 hx K hK0
          have hK := fun v w' hb => hK0 v w' (.inl hb)
          have e190 : xq 190 = .bool false := hx 32 (by rfl) (by rfl)
          clear hx hKc hK0
          simp only [runOf, setSlot, HRL.out, sr, Nat.reduceAdd, Nat.reduceEqDiff, if_true, if_false] at hK ⊢
          simp only [e190] at hK ⊢
          clear e190
          go_wp2_with (fail)
          exact hK _ _ (Below.refl _ _) rfl
         ·intro xq w1 hb1 hx K hK0
          have hK := fun v w' hb => hK0 v w' (.inl hb)
          have e190 : xq 190 = .bool false := hx 32 (by rfl) (by rfl)
          have e194 : xq 194 = .slice (some ⟨E0, oo, none⟩) bs.length c := hx 36 (by rfl) (by rfl)
          have e195 : xq 195 = .int .i64 (k : Int) := hx 37 (by rfl) (by rfl)
          clear hx hKc hK0
          simp only [runOf, setSlot, HRL.out, sr, Nat.reduceAdd, Nat.reduceEqDiff, if_true, if_false] at hK ⊢
          simp only [e190, e194, e195] at hK ⊢
          clear e190 e194 e195
          go_wp2_with (fail)
          exact hK _ _ (Below.refl _ _) rfl
         ·intro xq w1 hb1 hx K hK0
          have hK := fun v w' hb => hK0 v w' (.inl hb)
          have e190 : xq 190 = .bool false := hx 32 (by rfl) (by rfl)
          have e196 : xq 196 = .pointer (some ⟨E0, oo + k * 4, none⟩) := hx 38 (by rfl) (by rfl)
          clear hx hKc hK0
          simp only [runOf, setSlot, HRL.out, sr, Nat.reduceAdd, Nat.reduceEqDiff, if_true, if_false] at hK ⊢
          simp only [e190, e196] at hK ⊢
          clear e190 e196
          go_wp2_with (fail)
          exact hK _ _ (Below.refl _ _) rfl
         ·intro xq w1 hb1 hx K hK0
          have hK := fun v w' hb => hK0 v w' (.inl hb)
          have e190 : xq 190 = .bool false := hx 32 (by rfl) (by rfl)
          have e197 : xq 197 = .pointer (some ⟨E0, oo + k * 4 + 1, none⟩) := hx 39 (by rfl) (by rfl)
          clear hx hKc hK0
          have q_ := up_cell hb1 Kvm.out
          simp only [runOf, setSlot, HRL.out, sr, Nat.reduceAdd, Nat.reduceEqDiff, if_true, if_false] at hK ⊢
          simp only [e190, e197] at hK ⊢
          clear e190 e197
          go_wp2_with (fail)
          exact hK _ _ (Below.refl _ _) rfl
         ·intro xq w1 hb1 hx K hK0
          have hK := fun v w' hb => hK0 v w' (.inl hb)
          have e190 : xq 190 = .bool false := hx 32 (by rfl) (by rfl)
          have e192 : xq 192 = .int .i64 (x.warm + ((j : Int) + 1) * rh) := hx 34 (by rfl) (by rfl)
          have e198 : xq 198 = .int .i64 (x.mark) := hx 40 (by rfl) (by rfl)
          clear hx hKc hK0
          simp only [runOf, setSlot, HRL.out, sr, Nat.reduceAdd, Nat.reduceEqDiff, if_true, if_false] at hK ⊢
          simp only [e190, e192, e198] at hK ⊢
          clear e190 e192 e198
          go_wp2_with (fail)
          first | exact hK _ _ (Below.refl _ _) rfl | exact hK _ _ (Below.refl _ _) (congrArg Value.bool (decide_eq_true (by omega)))
         ·intro xq w1 hb1 hx K hK0
          have hK := fun v w' hb => hK0 v w' (.inl hb)
          have e190 : xq 190 = .bool false := hx 32 (by rfl) (by rfl)
          clear hx hKc hK0
          simp only [runOf, setSlot, HRL.out, sr, Nat.reduceAdd, Nat.reduceEqDiff, if_true, if_false] at hK ⊢
          simp only [e190] at hK ⊢
          clear e190
          go_wp2_with (fail)
          exact hK _ _ (Below.refl _ _) rfl
         ·intro xq w1 hb1 hx K hK0
          have hK := fun v w' hb => hK0 v w' (.inl hb)
          have e190 : xq 190 = .bool false := hx 32 (by rfl) (by rfl)
          clear hx hKc hK0
          simp only [runOf, setSlot, HRL.out, sr, Nat.reduceAdd, Nat.reduceEqDiff, if_true, if_false] at hK ⊢
          simp only [e190] at hK ⊢
          clear e190
          go_wp2_with (fail)
          exact hK _ _ (Below.refl _ _) rfl
         ·intro xq w1 hb1 hx K hK0
          have hK := fun v w' hb => hK0 v w' (.inl hb)
          have e190 : xq 190 = .bool false := hx 32 (by rfl) (by rfl)
          have e200 : xq 200 = .int .i64 (j : Int) := hx 42 (by rfl) (by rfl)
          have e201 : xq 201 = .int .i64 (lf) := hx 43 (by rfl) (by rfl)
          clear hx hKc hK0
          simp only [runOf, setSlot, HRL.out, sr, Nat.reduceAdd, Nat.reduceEqDiff, if_true, if_false] at hK ⊢
          simp only [e190, e200, e201] at hK ⊢
          clear e190 e200 e201
          go_wp2_with (fail)
          first | exact hK _ _ (Below.refl _ _) rfl | exact hK _ _ (Below.refl _ _) (congrArg Value.bool (decide_eq_true (by omega)))
         ·intro xq w1 hb1 hx K hK0
          have hK := fun v w' hb => hK0 v w' (.inl hb)
          have e190 : xq 190 = .bool false := hx 32 (by rfl) (by rfl)
          have e199 : xq 199 = .bool true := hx 41 (by rfl) (by rfl)
          have e202 : xq 202 = .bool true := hx 44 (by rfl) (by rfl)
          clear hx hKc hK0
          simp only [runOf, setSlot, HRL.out, sr, Nat.reduceAdd, Nat.reduceEqDiff, if_true, if_false] at hK ⊢
          simp only [e190, e199, e202] at hK ⊢
          clear e190 e199 e202
          go_wp2_with (fail)
          exact hK _ _ (Below.refl _ _) rfl
         ·intro xq w1 hb1 hx K hK0
          have hK := fun v w' hb => hK0 v w' (.inl hb)
          have e190 : xq 190 = .bool false := hx 32 (by rfl) (by rfl)
          have e203 : xq 203 = .bool false := hx 45 (by rfl) (by rfl)
          clear hx hKc hK0
          simp only [runOf, setSlot, HRL.out, sr, Nat.reduceAdd, Nat.reduceEqDiff, if_true, if_false] at hK ⊢
          simp only [e190, e203] at hK ⊢
          clear e190 e203
          go_wp2_with (fail)
          exact hK _ _ (Below.refl _ _) rfl
        ·intro xq w1 hb1 hx
         have e158 : xq 158 = .pointer (some ⟨wt.heap.size, 0, none⟩) := hx 0 (by decide)
         have e159 : xq 159 = .int .i64 (x.warm + ((j : Int) + 1) * rl) := hx 1 (by decide)
         have e160 : xq 160 = .pointer (some ⟨w3.heap.size, 8, none⟩) := hx 2 (by decide)
         have e161 : xq 161 = .slice (some ⟨E0, oo, none⟩) bs.length c := hx 3 (by decide)
         have e162 : xq 162 = .int .i64 (k : Int) := hx 4 (by decide)
         have e163 : xq 163 = .pointer (some ⟨E0, oo + k * 4, none⟩) := hx 5 (by decide)
         have e164 : xq 164 = .pointer (some ⟨E0, oo + k * 4, none⟩) := hx 6 (by decide)
         have e165 : xq 165 = .int .i64 (x.warm) := hx 7 (by decide)
         have e166 : xq 166 = .int .i64 (j : Int) := hx 8 (by decide)
         have e167 : xq 167 = .int .i64 ((j : Int) + 1) := hx 9 (by decide)
         have e168 : xq 168 = .pointer (some ⟨w10.heap.size, 0, none⟩) := hx 10 (by decide)
         have e169 : xq 169 = .int .i64 (rl) := hx 11 (by decide)
         have e170 : xq 170 = .int .i64 (((j : Int) + 1) * rl) := hx 12 (by decide)
         have e171 : xq 171 = .int .i64 (x.warm + ((j : Int) + 1) * rl) := hx 13 (by decide)
         have e172 : xq 172 = .bool false := hx 14 (by decide)
         have e173 : xq 173 = .bool false := hx 15 (by decide)
         have e174 : xq 174 = .pointer (some ⟨wt.heap.size, 1, none⟩) := hx 16 (by decide)
         have e175 : xq 175 = .int .i64 (x.warm + ((j : Int) + 1) * rh) := hx 17 (by decide)
         have e176 : xq 176 = .pointer (some ⟨w3.heap.size, 8, none⟩) := hx 18 (by decide)
         have e177 : xq 177 = .slice (some ⟨E0, oo, none⟩) bs.length c := hx 19 (by decide)
         have e178 : xq 178 = .int .i64 (k : Int) := hx 20 (by decide)
         have e179 : xq 179 = .pointer (some ⟨E0, oo + k * 4, none⟩) := hx 21 (by decide)
         have e180 : xq 180 = .pointer (some ⟨E0, oo + k * 4, none⟩) := hx 22 (by decide)
         have e181 : xq 181 = .int .i64 (x.warm) := hx 23 (by decide)
         have e182 : xq 182 = .int .i64 (j : Int) := hx 24 (by decide)
         have e183 : xq 183 = .int .i64 ((j : Int) + 1) := hx 25 (by decide)
         have e184 : xq 184 = .pointer (some ⟨w10.heap.size, 1, none⟩) := hx 26 (by decide)
         have e185 : xq 185 = .int .i64 (rh) := hx 27 (by decide)
         have e186 : xq 186 = .int .i64 (((j : Int) + 1) * rh) := hx 28 (by decide)
         have e187 : xq 187 = .int .i64 (x.warm + ((j : Int) + 1) * rh) := hx 29 (by decide)
         have e188 : xq 188 = .bool false := hx 30 (by decide)
         have e189 : xq 189 = .bool false := hx 31 (by decide)
         have e190 : xq 190 = .bool false := hx 32 (by decide)
         have e191 : xq 191 = .pointer (some ⟨wt.heap.size, 1, none⟩) := hx 33 (by decide)
         have e192 : xq 192 = .int .i64 (x.warm + ((j : Int) + 1) * rh) := hx 34 (by decide)
         have e193 : xq 193 = .pointer (some ⟨w3.heap.size, 8, none⟩) := hx 35 (by decide)
         have e194 : xq 194 = .slice (some ⟨E0, oo, none⟩) bs.length c := hx 36 (by decide)
         have e195 : xq 195 = .int .i64 (k : Int) := hx 37 (by decide)
         have e196 : xq 196 = .pointer (some ⟨E0, oo + k * 4, none⟩) := hx 38 (by decide)
         have e197 : xq 197 = .pointer (some ⟨E0, oo + k * 4 + 1, none⟩) := hx 39 (by decide)
         have e198 : xq 198 = .int .i64 (x.mark) := hx 40 (by decide)
         have e199 : xq 199 = .bool true := hx 41 (by decide)
         have e200 : xq 200 = .int .i64 (j : Int) := hx 42 (by decide)
         have e201 : xq 201 = .int .i64 (lf) := hx 43 (by decide)
         have e202 : xq 202 = .bool true := hx 44 (by decide)
         have e203 : xq 203 = .bool false := hx 45 (by decide)
         have e204 : xq 204 = .bool false := hx 46 (by decide)
         clear hx
         simp only [runOf, setSlot, HRL.out, sr, Nat.reduceAdd, Nat.reduceEqDiff, if_true, if_false]
         simp only [e158, e159, e160, e161, e162, e163, e164, e165, e166, e167, e168, e169, e170, e171, e172, e173, e174, e175, e176, e177, e178, e179, e180, e181, e182, e183, e184, e185, e186, e187, e188, e189, e190, e191, e192, e193, e194, e195, e196, e197, e198, e199, e200, e201, e202, e203, e204]
         clear e158 e159 e160 e161 e162 e163 e164 e165 e166 e167 e168 e169 e170 e171 e172 e173 e174 e175 e176 e177 e178 e179 e180 e181 e182 e183 e184 e185 e186 e187 e188 e189 e190 e191 e192 e193 e194 e195 e196 e197 e198 e199 e200 e201 e202 e203 e204
         refine hKc _ _ ?_
         go_wp2_with fail
         go_roundw
         case rel => exact ⟨j + 1, by go_num, hjl, Lib.hid (HBT.out.trans ((HWV.out.trans (hb1.mono HWV.out.size)).mono HBT.out.size))⟩
         case measure => first | (simp [intOf]; done) | (simp [intOf]; omega)
       ·have hmk : ¬ x.mark < x.warm + ((j : Int) + 1) * rh := by rw [decide_eq_false hle] at hlt2; exact of_decide_eq_false hlt2
        clear hlt2
        go_wp2_with fail
        obtain ⟨wv, hwv⟩ : ∃ z, z = wt.alloc (.cells #[.int .i64 (x.warm + ((j : Int) + 1) * rl), .int .i64 (x.warm + ((j : Int) + 1) * rh)] 40) := ⟨_, rfl⟩
        rw [← hwv]
        have HWV : Hid (Below wt.heap.size wt wv) := Lib.hid (by rw [hwv]; (repeat' (first | (with_reducible first | exact Below.refl _ _ | assumption | refine Below.alloc ?_ ?_ _ | refine Below.drew ?_ | refine Below.setCell ?_ ?_ _ | exact Nat.le_refl _) | omega | (simp only [World.size_alloc, World.size_setCell, World.size_drew]; omega) | (simp; omega) | (simp; done))))
        have Hsp : Holds wv wt.heap.size 40 #[.int .i64 (x.warm + ((j : Int) + 1) * rl), .int .i64 (x.warm + ((j : Int) + 1) * rh)] := by rw [hwv]; exact Holds.new _ _ _
        have Kv0 := Lib.hid (Hsp.cell 0)
        have Kv1 := Lib.hid (Hsp.cell 1)
        have Kv8 := Lib.hid (up_cell HWV.out kb8)
        have Kvw := Lib.hid (up_cell HWV.out kw0)
        have Kvm := Lib.hid (up_cell HWV.out kw1)
        have Kvl := Lib.hid (up_cell HWV.out kr0)
        have Kvh := Lib.hid (up_cell HWV.out kr1)
        clear hwv Hsp kb8 kw0 kw1 kr0 kr1 kt0 kt1 kcl kj8 kx0 kx1 kx2 kx3
        rename_i Kc5 hKc
        have HRL := Lib.hid (show List.range' 158 47 = [158, 159, 160, 161, 162, 163, 164, 165, 166, 167, 168, 169, 170, 171, 172, 173, 174, 175, 176, 177, 178, 179, 180, 181, 182, 183, 184, 185, 186, 187, 188, 189, 190, 191, 192, 193, 194, 195, 196, 197, 198, 199, 200, 201, 202, 203, 204] from rfl)
        refine wp_region_partsR 158 47 (by kernel_rfl) [some 158, some 159, some 160, some 161, some 162, some 163, some 164, some 165, some 166, some 167, some 168, some 169, some 170, some 171, some 172, some 173, some 174, some 175, some 176, some 177, some 178, some 179, some 180, some 181, some 182, some 183, some 184, some 185, some 186, some 187, some 188, some 189, some 190, some 191, some 192, some 193, some 194, some 195, some 196, some 197, some 198, some 199, some 200, some 201, some 202, some 203, some 204] (fun jq xq w' => match jq with
         | 0 => xq 158 = .pointer (some ⟨wt.heap.size, 0, none⟩)
         | 1 => xq 159 = .int .i64 (x.warm + ((j : Int) + 1) * rl)
         | 2 => xq 160 = .pointer (some ⟨w3.heap.size, 8, none⟩)
         | 3 => xq 161 = .slice (some ⟨E0, oo, none⟩) bs.length c
         | 4 => xq 162 = .int .i64 (k : Int)
         | 5 => xq 163 = .pointer (some ⟨E0, oo + k * 4, none⟩)
         | 6 => xq 164 = .pointer (some ⟨E0, oo + k * 4, none⟩)
         | 7 => xq 165 = .int .i64 (x.warm)
         | 8 => xq 166 = .int .i64 (j : Int)
         | 9 => xq 167 = .int .i64 ((j : Int) + 1)
         | 10 => xq 168 = .pointer (some ⟨w10.heap.size, 0, none⟩)
         | 11 => xq 169 = .int .i64 (rl)
         | 12 => xq 170 = .int .i64 (((j : Int) + 1) * rl)
         | 13 => xq 171 = .int .i64 (x.warm + ((j : Int) + 1) * rl)
         | 14 => xq 172 = .bool false
         | 15 => xq 173 = .bool false
         | 16 => xq 174 = .pointer (some ⟨wt.heap.size, 1, none⟩)
         | 17 => xq 175 = .int .i64 (x.warm + ((j : Int) + 1) * rh)
         | 18 => xq 176 = .pointer (some ⟨w3.heap.size, 8, none⟩)
         | 19 => xq 177 = .slice (some ⟨E0, oo, none⟩) bs.length c
         | 20 => xq 178 = .int .i64 (k : Int)
         | 21 => xq 179 = .pointer (some ⟨E0, oo + k * 4, none⟩)
         | 22 => xq 180 = .pointer (some ⟨E0, oo + k * 4, none⟩)
         | 23 => xq 181 = .int .i64 (x.warm)
         | 24 => xq 182 = .int .i64 (j : Int)
         | 25 => xq 183 = .int .i64 ((j : Int) + 1)
         | 26 => xq 184 = .pointer (some ⟨w10.heap.size, 1, none⟩)
         | 27 => xq 185 = .int .i64 (rh)
         | 28 => xq 186 = .int .i64 (((j : Int) + 1) * rh)
         | 29 => xq 187 = .int .i64 (x.warm + ((j : Int) + 1) * rh)
         | 30 => xq 188 = .bool false
         | 31 => xq 189 = .bool false
         | 32 => xq 190 = .bool false
         | 33 => xq 191 = .pointer (some ⟨wt.heap.size, 1, none⟩)
         | 34 => xq 192 = .int .i64 (x.warm + ((j : Int) + 1) * rh)
         | 35 => xq 193 = .pointer (some ⟨w3.heap.size, 8, none⟩)
         | 36 => xq 194 = .slice (some ⟨E0, oo, none⟩) bs.length c
         | 37 => xq 195 = .int .i64 (k : Int)
         | 38 => xq 196 = .pointer (some ⟨E0, oo + k * 4, none⟩)
         | 39 => xq 197 = .pointer (some ⟨E0, oo + k * 4 + 1, none⟩)
         | 40 => xq 198 = .int .i64 (x.mark)
         | 41 => xq 199 = .bool false
         | 42 => xq 200 = .int .i64 (j : Int)
         | 43 => xq 201 = .int .i64 (lf)
         | 44 => xq 202 = .bool false
         | 45 => xq 203 = .bool false
         | 46 => xq 204 = .bool false
         | _ => True) [[158], [159], [160], [161], [162], [163], [164], [165], [166], [167], [168], [169], [170], [171], [172], [173], [174], [175], [176], [177], [178], [179], [180], [181], [182], [183], [184], [185], [186], [187], [188], [189], [190], [191], [192], [193], [194], [195], [196], [197], [198], [199], [200], [201], [202], [203], [204]] [] (Below wv.heap.size wv) (by kernel_rfl) (by kernel_rfl) (by rfl) ?_ ?_ (fun w' w'' hb h => h.trans (hb.mono h.size)) (Below.refl _ _) ?_ ?_ ?_
        ·intro jq xq xq' wqq h hv
         match jq, h, hv with
         | 0, h, hv => show xq' 158 = .pointer (some ⟨wt.heap.size, 0, none⟩); rw [← h 158 (by decide)]; exact hv
         | 1, h, hv => show xq' 159 = .int .i64 (x.warm + ((j : Int) + 1) * rl); rw [← h 159 (by decide)]; exact hv
         | 2, h, hv => show xq' 160 = .pointer (some ⟨w3.heap.size, 8, none⟩); rw [← h 160 (by decide)]; exact hv
         | 3, h, hv => show xq' 161 = .slice (some ⟨E0, oo, none⟩) bs.length c; rw [← h 161 (by decide)]; exact hv
         | 4, h, hv => show xq' 162 = .int .i64 (k : Int); rw [← h 162 (by decide)]; exact hv
         | 5, h, hv => show xq' 163 = .pointer (some ⟨E0, oo + k * 4, none⟩); rw [← h 163 (by decide)]; exact hv
         | 6, h, hv => show xq' 164 = .pointer (some ⟨E0, oo + k * 4, none⟩); rw [← h 164 (by decide)]; exact hv
         | 7, h, hv => show xq' 165 = .int .i64 (x.warm); rw [← h 165 (by decide)]; exact hv
         | 8, h, hv => show xq' 166 = .int .i64 (j : Int); rw [← h 166 (by decide)]; exact hv
         | 9, h, hv => show xq' 167 = .int .i64 ((j : Int) + 1); rw [← h 167 (by decide)]; exact hv
         | 10, h, hv => show xq' 168 = .pointer (some ⟨w10.heap.size, 0, none⟩); rw [← h 168 (by decide)]; exact hv
         | 11, h, hv => show xq' 169 = .int .i64 (rl); rw [← h 169 (by decide)]; exact hv
         | 12, h, hv => show xq' 170 = .int .i64 (((j : Int) + 1) * rl); rw [← h 170 (by decide)]; exact hv
         | 13, h, hv => show xq' 171 = .int .i64 (x.warm + ((j : Int) + 1) * rl); rw [← h 171 (by decide)]; exact hv
         | 14, h, hv => show xq' 172 = .bool false; rw [← h 172 (by decide)]; exact hv
         | 15, h, hv => show xq' 173 = .bool false; rw [← h 173 (by decide)]; exact hv
         | 16, h, hv => show xq' 174 = .pointer (some ⟨wt.heap.size, 1, none⟩); rw [← h 174 (by decide)]; exact hv
         | 17, h, hv => show xq' 175 = .int .i64 (x.warm + ((j : Int) + 1) * rh); rw [← h 175 (by decide)]; exact hv
         | 18, h, hv => show xq' 176 = .pointer (some ⟨w3.heap.size, 8, none⟩); rw [← h 176 (by decide)]; exact hv
         | 19, h, hv => show xq' 177 = .slice (some ⟨E0, oo, none⟩) bs.length c; rw [← h 177 (by decide)]; exact hv
         | 20, h, hv => show xq' 178 = .int .i64 (k : Int); rw [← h 178 (by decide)]; exact hv
         | 21, h, hv => show xq' 179 = .pointer (some ⟨E0, oo + k * 4, none⟩); rw [← h 179 (by decide)]; exact hv
         | 22, h, hv => show xq' 180 = .pointer (some ⟨E0, oo + k * 4, none⟩); rw [← h 180 (by decide)]; exact hv
         | 23, h, hv => show xq' 181 = .int .i64 (x.warm); rw [← h 181 (by decide)]; exact hv
         | 24, h, hv => show xq' 182 = .int .i64 (j : Int); rw [← h 182 (by decide)]; exact hv
         | 25, h, hv => show xq' 183 = .int .i64 ((j : Int) + 1); rw [← h 183 (by decide)]; exact hv
         | 26, h, hv => show xq' 184 = .pointer (some ⟨w10.heap.size, 1, none⟩); rw [← h 184 (by decide)]; exact hv
         | 27, h, hv => show xq' 185 = .int .i64 (rh); rw [← h 185 (by decide)]; exact hv
         | 28, h, hv => show xq' 186 = .int .i64 (((j : Int) + 1) * rh); rw [← h 186 (by decide)]; exact hv
         | 29, h, hv => show xq' 187 = .int .i64 (x.warm + ((j : Int) + 1) * rh); rw [← h 187 (by decide)]; exact hv
         | 30, h, hv => show xq' 188 = .bool false; rw [← h 188 (by decide)]; exact hv
         | 31, h, hv => show xq' 189 = .bool false; rw [← h 189 (by decide)]; exact hv
         | 32, h, hv => show xq' 190 = .bool false; rw [← h 190 (by decide)]; exact hv
         | 33, h, hv => show xq' 191 = .pointer (some ⟨wt.heap.size, 1, none⟩); rw [← h 191 (by decide)]; exact hv
         | 34, h, hv => show xq' 192 = .int .i64 (x.warm + ((j : Int) + 1) * rh); rw [← h 192 (by decide)]; exact hv
         | 35, h, hv => show xq' 193 = .pointer (some ⟨w3.heap.size, 8, none⟩); rw [← h 193 (by decide)]; exact hv
         | 36, h, hv => show xq' 194 = .slice (some ⟨E0, oo, none⟩) bs.length c; rw [← h 194 (by decide)]; exact hv
         | 37, h, hv => show xq' 195 = .int .i64 (k : Int); rw [← h 195 (by decide)]; exact hv
         | 38, h, hv => show xq' 196 = .pointer (some ⟨E0, oo + k * 4, none⟩); rw [← h 196 (by decide)]; exact hv
         | 39, h, hv => show xq' 197 = .pointer (some ⟨E0, oo + k * 4 + 1, none⟩); rw [← h 197 (by decide)]; exact hv
         | 40, h, hv => show xq' 198 = .int .i64 (x.mark); rw [← h 198 (by decide)]; exact hv
         | 41, h, hv => show xq' 199 = .bool false; rw [← h 199 (by decide)]; exact hv
         | 42, h, hv => show xq' 200 = .int .i64 (j : Int); rw [← h 200 (by decide)]; exact hv
         | 43, h, hv => show xq' 201 = .int .i64 (lf); rw [← h 201 (by decide)]; exact hv
         | 44, h, hv => show xq' 202 = .bool false; rw [← h 202 (by decide)]; exact hv
         | 45, h, hv => show xq' 203 = .bool false; rw [← h 203 (by decide)]; exact hv
         | 46, h, hv => show xq' 204 = .bool false; rw [← h 204 (by decide)]; exact hv
         | _ + 47, _, _ => trivial
        ·intro jq xq wqq w' hb' hv
         match jq, hv with
         | 0, hv => exact hv
         | 1, hv => exact hv
         | 2, hv => exact hv
         | 3, hv => exact hv
         | 4, hv => exact hv
         | 5, hv => exact hv
         | 6, hv => exact hv
         | 7, hv => exact hv
         | 8, hv => exact hv
         | 9, hv => exact hv
         | 10, hv => exact hv
         | 11, hv => exact hv
         | 12, hv => exact hv
         | 13, hv => exact hv
         | 14, hv => exact hv
         | 15, hv => exact hv
         | 16, hv => exact hv
         | 17, hv => exact hv
         | 18, hv => exact hv
         | 19, hv => exact hv
         | 20, hv => exact hv
         | 21, hv => exact hv
         | 22, hv => exact hv
         | 23, hv => exact hv
         | 24, hv => exact hv
         | 25, hv => exact hv
         | 26, hv => exact hv
         | 27, hv => exact hv
         | 28, hv => exact hv
         | 29, hv => exact hv
         | 30, hv => exact hv
         | 31, hv => exact hv
         | 32, hv => exact hv
         | 33, hv => exact hv
         | 34, hv => exact hv
         | 35, hv => exact hv
         | 36, hv => exact hv
         | 37, hv => exact hv
         | 38, hv => exact hv
         | 39, hv => exact hv
         | 40, hv => exact hv
         | 41, hv => exact hv
         | 42, hv => exact hv
         | 43, hv => exact hv
         | 44, hv => exact hv
         | 45, hv => exact hv
         | 46, hv => exact hv
         | _ + 47, _ => trivial
        ·intro jq hj
         match jq, hj with
         | 0, hj => exact absurd hj (by decide)
         | 1, hj => exact absurd hj (by decide)
         | 2, hj => exact absurd hj (by decide)
         | 3, hj => exact absurd hj (by decide)
         | 4, hj => exact absurd hj (by decide)
         | 5, hj => exact absurd hj (by decide)
         | 6, hj => exact absurd hj (by decide)
         | 7, hj => exact absurd hj (by decide)
         | 8, hj => exact absurd hj (by decide)
         | 9, hj => exact absurd hj (by decide)
         | 10, hj => exact absurd hj (by decide)
         | 11, hj => exact absurd hj (by decide)
         | 12, hj => exact absurd hj (by decide)
         | 13, hj => exact absurd hj (by decide)
         | 14, hj => exact absurd hj (by decide)
         | 15, hj => exact absurd hj (by decide)
         | 16, hj => exact absurd hj (by decide)
         | 17, hj => exact absurd hj (by decide)
         | 18, hj => exact absurd hj (by decide)
         | 19, hj => exact absurd hj (by decide)
         | 20, hj => exact absurd hj (by decide)
         | 21, hj => exact absurd hj (by decide)
         | 22, hj => exact absurd hj (by decide)
         | 23, hj => exact absurd hj (by decide)
         | 24, hj => exact absurd hj (by decide)
         | 25, hj => exact absurd hj (by decide)
         | 26, hj => exact absurd hj (by decide)
         | 27, hj => exact absurd hj (by decide)
         | 28, hj => exact absurd hj (by decide)
         | 29, hj => exact absurd hj (by decide)
         | 30, hj => exact absurd hj (by decide)
         | 31, hj => exact absurd hj (by decide)
         | 32, hj => exact absurd hj (by decide)
         | 33, hj => exact absurd hj (by decide)
         | 34, hj => exact absurd hj (by decide)
         | 35, hj => exact absurd hj (by decide)
         | 36, hj => exact absurd hj (by decide)
         | 37, hj => exact absurd hj (by decide)
         | 38, hj => exact absurd hj (by decide)
         | 39, hj => exact absurd hj (by decide)
         | 40, hj => exact absurd hj (by decide)
         | 41, hj => exact absurd hj (by decide)
         | 42, hj => exact absurd hj (by decide)
         | 43, hj => exact absurd hj (by decide)
         | 44, hj => exact absurd hj (by decide)
         | 45, hj => exact absurd hj (by decide)
         | 46, hj => exact absurd hj (by decide)
         | _ + 47, _ => trivial
        ·refine ⟨?_, ?_, ?_, ?_, ?_, ?_, ?_, ?_, ?_, ?_, ?_, ?_, ?_, ?_, ?_, ?_, ?_, ?_, ?_, ?_, ?_, ?_, ?_, ?_, ?_, ?_, ?_, ?_, ?_, ?_, ?_, ?_, ?_, ?_, ?_, ?_, ?_, ?_, ?_, ?_, ?_, ?_, ?_, ?_, ?_, ?_, ?_, trivial⟩
         ·intro xq w1 hb1 hx K hK0
          have hK := fun v w' hb => hK0 v w' (.inl hb)
          clear hx hKc hK0
          simp only [runOf, setSlot, HRL.out, sr, Nat.reduceAdd, Nat.reduceEqDiff, if_true, if_false] at hK ⊢
          go_wp2_with (fail)
          exact hK _ _ (Below.refl _ _) rfl
         ·intro xq w1 hb1 hx K hK0
          have hK := fun v w' hb => hK0 v w' (.inl hb)
          have e158 : xq 158 = .pointer (some ⟨wt.heap.size, 0, none⟩) := hx 0 (by rfl) (by rfl)
          clear hx hKc hK0
          have q_ := up_cell hb1 Kv0.out
          simp only [runOf, setSlot, HRL.out, sr, Nat.reduceAdd, Nat.reduceEqDiff, if_true, if_false] at hK ⊢
          simp only [e158] at hK ⊢
          clear e158
          go_wp2_with (fail)
          exact hK _ _ (Below.refl _ _) rfl
         ·intro xq w1 hb1 hx K hK0
          have hK := fun v w' hb => hK0 v w' (.inl hb)
          clear hx hKc hK0
          simp only [runOf, setSlot, HRL.out, sr, Nat.reduceAdd, Nat.reduceEqDiff, if_true, if_false] at hK ⊢
          go_wp2_with (fail)
          exact hK _ _ (Below.refl _ _) rfl
         ·intro xq w1 hb1 hx K hK0
          have hK := fun v w' hb => hK0 v w' (.inl hb)
          have e160 : xq 160 = .pointer (some ⟨w3.heap.size, 8, none⟩) := hx 2 (by rfl) (by rfl)
          clear hx hKc hK0
          have q_ := up_cell hb1 Kv8.out
          simp only [runOf, setSlot, HRL.out, sr, Nat.reduceAdd, Nat.reduceEqDiff, if_true, if_false] at hK ⊢
          simp only [e160] at hK ⊢
          clear e160
          go_wp2_with (fail)
          exact hK _ _ (Below.refl _ _) rfl
         ·intro xq w1 hb1 hx K hK0
          have hK := fun v w' hb => hK0 v w' (.inl hb)
          clear hx hKc hK0
          simp only [runOf, setSlot, HRL.out, sr, Nat.reduceAdd, Nat.reduceEqDiff, if_true, if_false] at hK ⊢
          go_wp2_with (fail)
          exact hK _ _ (Below.refl _ _) rfl
         ·intro xq w1 hb1 hx K hK0
          have hK := fun v w' hb => hK0 v w' (.inl hb)
          have e161 : xq 161 = .slice (some ⟨E0, oo, none⟩) bs.length c := hx 3 (by rfl) (by rfl)
          have e162 : xq 162 = .int .i64 (k : Int) := hx 4 (by rfl) (by rfl)
          clear hx hKc hK0
          simp only [runOf, setSlot, HRL.out, sr, Nat.reduceAdd, Nat.reduceEqDiff, if_true, if_false] at hK ⊢
          simp only [e161, e162] at hK ⊢
          clear e161 e162
          go_wp2_with (fail)
          exact hK _ _ (Below.refl _ _) rfl
         ·intro xq w1 hb1 hx K hK0
          have hK := fun v w' hb => hK0 v w' (.inl hb)
          have e163 : xq 163 = .pointer (some ⟨E0, oo + k * 4, none⟩) := hx 5 (by rfl) (by rfl)
          clear hx hKc hK0
          simp only [runOf, setSlot, HRL.out, sr, Nat.reduceAdd, Nat.reduceEqDiff, if_true, if_false] at hK ⊢
          simp only [e163] at hK ⊢
          clear e163
          go_wp2_with (fail)
          exact hK _ _ (Below.refl _ _) rfl
         ·intro xq w1 hb1 hx K hK0
          have hK := fun v w' hb => hK0 v w' (.inl hb)
          have e164 : xq 164 = .pointer (some ⟨E0, oo + k * 4, none⟩) := hx 6 (by rfl) (by rfl)
          clear hx hKc hK0
          have q_ := up_cell hb1 Kvw.out
          simp only [runOf, setSlot, HRL.out, sr, Nat.reduceAdd, Nat.reduceEqDiff, if_true, if_false] at hK ⊢
          simp only [e164] at hK ⊢
          clear e164
          go_wp2_with (fail)
          exact hK _ _ (Below.refl _ _) rfl
         ·intro xq w1 hb1 hx K hK0
          have hK := fun v w' hb => hK0 v w' (.inl hb)
          clear hx hKc hK0
          simp only [runOf, setSlot, HRL.out, sr, Nat.reduceAdd, Nat.reduceEqDiff, if_true, if_false] at hK ⊢
          go_wp2_with (fail)
          exact hK _ _ (Below.refl _ _) rfl
         ·intro xq w1 hb1 hx K hK0
          have hK := fun v w' hb => hK0 v w' (.inl hb)
          have e166 : xq 166 = .int .i64 (j : Int) := hx 8 (by rfl) (by rfl)
          clear hx hKc hK0
          simp only [runOf, setSlot, HRL.out, sr, Nat.reduceAdd, Nat.reduceEqDiff, if_true, if_false] at hK ⊢
          simp only [e166] at hK ⊢
          clear e166
          go_wp2_with (fail)
          exact hK _ _ (Below.refl _ _) rfl
         ·intro xq w1 hb1 hx K hK0
          have hK := fun v w' hb => hK0 v w' (.inl hb)
          clear hx hKc hK0
          simp only [runOf, setSlot, HRL.out, sr, Nat.reduceAdd, Nat.reduceEqDiff, if_true, if_false] at hK ⊢
          go_wp2_with (fail)
          exact hK _ _ (Below.refl _ _) rfl
         ·intro xq w1 hb1 hx K hK0
          have hK := fun v w' hb => hK0 v w' (.inl hb)
          have e168 : xq 168 = .pointer (some ⟨w10.heap.size, 0, none⟩) := hx 10 (by rfl) (by rfl)
          clear hx hKc hK0
          have q_ := up_cell hb1 Kvl.out
          simp only [runOf, setSlot, HRL.out, sr, Nat.reduceAdd, Nat.reduceEqDiff, if_true, if_false] at hK ⊢
          simp only [e168] at hK ⊢
          clear e168
          go_wp2_with (fail)
          exact hK _ _ (Below.refl _ _) rfl
         ·intro xq w1 hb1 hx K hK0
          have hK := fun v w' hb => hK0 v w' (.inl hb)
          have e167 : xq 167 = .int .i64 ((j : Int) + 1) := hx 9 (by rfl) (by rfl)
          have e169 : xq 169 = .int .i64 (rl) := hx 11 (by rfl) (by rfl)
          clear hx hKc hK0
          simp only [runOf, setSlot, HRL.out, sr, Nat.reduceAdd, Nat.reduceEqDiff, if_true, if_false] at hK ⊢
          simp only [e167, e169] at hK ⊢
          clear e167 e169
          go_wp2_with (fail)
          exact hK _ _ (Below.refl _ _) rfl
         ·intro xq w1 hb1 hx K hK0
          have hK := fun v w' hb => hK0 v w' (.inl hb)
          have e165 : xq 165 = .int .i64 (x.warm) := hx 7 (by rfl) (by rfl)
          have e170 : xq 170 = .int .i64 (((j : Int) + 1) * rl) := hx 12 (by rfl) (by rfl)
          clear hx hKc hK0
          simp only [runOf, setSlot, HRL.out, sr, Nat.reduceAdd, Nat.reduceEqDiff, if_true, if_false] at hK ⊢
          simp only [e165, e170] at hK ⊢
          clear e165 e170
          go_wp2_with (fail)
          exact hK _ _ (Below.refl _ _) rfl
         ·intro xq w1 hb1 hx K hK0
          have hK := fun v w' hb => hK0 v w' (.inl hb)
          have e159 : xq 159 = .int .i64 (x.warm + ((j : Int) + 1) * rl) := hx 1 (by rfl) (by rfl)
          have e171 : xq 171 = .int .i64 (x.warm + ((j : Int) + 1) * rl) := hx 13 (by rfl) (by rfl)
          clear hx hKc hK0
          simp only [runOf, setSlot, HRL.out, sr, Nat.reduceAdd, Nat.reduceEqDiff, if_true, if_false] at hK ⊢
          simp only [e159, e171] at hK ⊢
          clear e159 e171
          go_wp2_with (fail)
          first | exact hK _ _ (Below.refl _ _) rfl | exact hK _ _ (Below.refl _ _) (by simp)
         ·intro xq w1 hb1 hx K hK0
          have hK := fun v w' hb => hK0 v w' (.inl hb)
          have e172 : xq 172 = .bool false := hx 14 (by rfl) (by rfl)
          clear hx hKc hK0
          simp only [runOf, setSlot, HRL.out, sr, Nat.reduceAdd, Nat.reduceEqDiff, if_true, if_false] at hK ⊢
          simp only [e172] at hK ⊢
          clear e172
          go_wp2_with (fail)
          exact hK _ _ (Below.refl _ _) rfl
         ·intro xq w1 hb1 hx K hK0
          have hK := fun v w' hb => hK0 v w' (.inl hb)
          have e173 : xq 173 = .bool false := hx 15 (by rfl) (by rfl)
          clear hx hKc hK0
          simp only [runOf, setSlot, HRL.out, sr, Nat.reduceAdd, Nat.reduceEqDiff, if_true, if_false] at hK ⊢
          simp only [e173] at hK ⊢
          clear e173
          go_wp2_with (fail)
          exact hK _ _ (Below.refl _ _) rfl
         ·intro xq w1 hb1 hx K hK0
          have hK := fun v w' hb => hK0 v w' (.inl hb)
          have e173 : xq 173 = .bool false := hx 15 (by rfl) (by rfl)
          have e174 : xq 174 = .pointer (some ⟨wt.heap.size, 1, none⟩) := hx 16 (by rfl) (by rfl)
          clear hx hKc hK0
          have q_ := up_cell hb1 Kv1.out
          simp only [runOf, setSlot, HRL.out, sr, Nat.reduceAdd, Nat.reduceEqDiff, if_true, if_false] at hK ⊢
          simp only [e173, e174] at hK ⊢
          clear e173 e174
          go_wp2_with (fail)
          exact hK _ _ (Below.refl _ _) rfl
         ·intro xq w1 hb1 hx K hK0
          have hK := fun v w' hb => hK0 v w' (.inl hb)
          have e173 : xq 173 = .bool false := hx 15 (by rfl) (by rfl)
          clear hx hKc hK0
          simp only [runOf, setSlot, HRL.out, sr, Nat.reduceAdd, Nat.reduceEqDiff, if_true, if_false] at hK ⊢
          simp only [e173] at hK ⊢
          clear e173
          go_wp2_with (fail)
          exact hK _ _ (Below.refl _ _) rfl
         ·intro xq w1 hb1 hx K hK0
          have hK := fun v w' hb => hK0 v w' (.inl hb)
          have e173 : xq 173 = .bool false := hx 15 (by rfl) (by rfl)
          have e176 : xq 176 = .pointer (some ⟨w3.heap.size, 8, none⟩) := hx 18 (by rfl) (by rfl)
          clear hx hKc hK0
          have q_ := up_cell hb1 Kv8.out
          simp only [runOf, setSlot, HRL.out, sr, Nat.reduceAdd, Nat.reduceEqDiff, if_true, if_false] at hK ⊢
          simp only [e173, e176] at hK ⊢
          clear e173 e176
          go_wp2_with (fail)
          exact hK _ _ (Below.refl _ _) rfl
         ·intro xq w1 hb1 hx K hK0
          have hK := fun v w' hb => hK0 v w' (.inl hb)
          have e173 : xq 173 = .bool false := hx 15 (by rfl) (by rfl)
          clear hx hKc hK0
          simp only [runOf, setSlot, HRL.out, sr, Nat.reduceAdd, Nat.reduceEqDiff, if_true, if_false] at hK ⊢
          simp only [e173] at hK ⊢
          clear e173
          go_wp2_with (fail)
          exact hK _ _ (Below.refl _ _) rfl
         ·intro xq w1 hb1 hx K hK0
          have hK := fun v w' hb => hK0 v w' (.inl hb)
          have e173 : xq 173 = .bool false := hx 15 (by rfl) (by rfl)
          have e177 : xq 177 = .slice (some ⟨E0, oo, none⟩) bs.length c := hx 19 (by rfl) (by rfl)
          have e178 : xq 178 = .int .i64 (k : Int) := hx 20 (by rfl) (by rfl)
          clear hx hKc hK0
          simp only [runOf, setSlot, HRL.out, sr, Nat.reduceAdd, Nat.reduceEqDiff, if_true, if_false] at hK ⊢
          simp only [e173, e177, e178] at hK ⊢
          clear e173 e177 e178
          go_wp2_with (fail)
          exact hK _ _ (Below.refl _ _) rfl
         ·intro xq w1 hb1 hx K hK0
          have hK := fun v w' hb => hK0 v w' (.inl hb)
          have e173 : xq 173 = .bool false := hx 15 (by rfl) (by rfl)
          have e179 : xq 179 = .pointer (some ⟨E0, oo + k * 4, none⟩) := hx 21 (by rfl) (by rfl)
          clear hx hKc hK0
          simp only [runOf, setSlot, HRL.out, sr, Nat.reduceAdd, Nat.reduceEqDiff, if_true, if_false] at hK ⊢
          simp only [e173, e179] at hK ⊢
          clear e173 e179
          go_wp2_with (fail)
          exact hK _ _ (Below.refl _ _) rfl
         ·intro xq w1 hb1 hx K hK0
          have hK := fun v w' hb => hK0 v w' (.inl hb)
          have e173 : xq 173 = .bool false := hx 15 (by rfl) (by rfl)
          have e180 : xq 180 = .pointer (some ⟨E0, oo + k * 4, none⟩) := hx 22 (by rfl) (by rfl)
          clear hx hKc hK0
          have q_ := up_cell hb1 Kvw.out
          simp only [runOf, setSlot, HRL.out, sr, Nat.reduceAdd, Nat.reduceEqDiff, if_true, if_false] at hK ⊢
          simp only [e173, e180] at hK ⊢
          clear e173 e180
          go_wp2_with (fail)
          exact hK _ _ (Below.refl _ _) rfl
         ·intro xq w1 hb1 hx K hK0
          have hK := fun v w' hb => hK0 v w' (.inl hb)
          have e173 : xq 173 = .bool false := hx 15 (by rfl) (by rfl)
          clear hx hKc hK0
          simp only [runOf, setSlot, HRL.out, sr, Nat.reduceAdd, Nat.reduceEqDiff, if_true, if_false] at hK ⊢
          simp only [e173] at hK ⊢
          clear e173
          go_wp2_with (fail)
          exact hK _ _ (Below.refl _ _) rfl
         ·intro xq w1 hb1 hx K hK0
          have hK := fun v w' hb => hK0 v w' (.inl hb)
          have e173 : xq 173 = .bool false := hx 15 (by rfl) (by rfl)
          have e182 : xq 182 = .int .i64 (j : Int) := hx 24 (by rfl) (by rfl)
          clear hx hKc hK0
          simp only [runOf, setSlot, HRL.out, sr, Nat.reduceAdd, Nat.reduceEqDiff, if_true, if_false] at hK ⊢
          simp only [e173, e182] at hK ⊢
          clear e173 e182
          go_wp2_with (fail)
          exact hK _ _ (Below.refl _ _) rfl
         ·intro xq w1 hb1 hx K hK0
          have hK := fun v w' hb => hK0 v w' (.inl hb)
          have e173 : xq 173 = .bool false := hx 15 (by rfl) (by rfl)
          clear hx hKc hK0
          simp only [runOf, setSlot, HRL.out, sr, Nat.reduceAdd, Nat.reduceEqDiff, if_true, if_false] at hK ⊢
          simp only [e173] at hK ⊢
          clear e173
          go_wp2_with (fail)
          exact hK _ _ (Below.refl _ _) rfl
         ·intro xq w1 hb1 hx K hK0
          have hK := fun v w' hb => hK0 v w' (.inl hb)
          have e173 : xq 173 = .bool false := hx 15 (by rfl) (by rfl)
          have e184 : xq 184 = .pointer (some ⟨w10.heap.size, 1, none⟩) := hx 26 (by rfl) (by rfl)
          clear hx hKc hK0
          have q_ := up_cell hb1 Kvh.out
          simp only [runOf, setSlot, HRL.out, sr, Nat.reduceAdd, Nat.reduceEqDiff, if_true, if_false] at hK ⊢
          simp only [e173, e184] at hK ⊢
          clear e173 e184
          go_wp2_with (fail)
          exact hK _ _ (Below.refl _ _) rfl
         ·intro xq w1 hb1 hx K hK0
          have hK := fun v w' hb => hK0 v w' (.inl hb)
          have e173 : xq 173 = .bool false := hx 15 (by rfl) (by rfl)
          have e183 : xq 183 = .int .i64 ((j : Int) + 1) := hx 25 (by rfl) (by rfl)
          have e185 : xq 185 = .int .i64 (rh) := hx 27 (by rfl) (by rfl)
          clear hx hKc hK0
          simp only [runOf, setSlot, HRL.out, sr, Nat.reduceAdd, Nat.reduceEqDiff, if_true, if_false] at hK ⊢
          simp only [e173, e183, e185] at hK ⊢
          clear e173 e183 e185
          go_wp2_with (fail)
          exact hK _ _ (Below.refl _ _) rfl
         ·intro xq w1 hb1 hx K hK0
          have hK := fun v w' hb => hK0 v w' (.inl hb)
          have e173 : xq 173 = .bool false := hx 15 (by rfl) (by rfl)
          have e181 : xq 181 = .int .i64 (x.warm) := hx 23 (by rfl) (by rfl)
          have e186 : xq 186 = .int .i64 (((j : Int) + 1) * rh) := hx 28 (by rfl) (by rfl)
          clear hx hKc hK0
          simp only [runOf, setSlot, HRL.out, sr, Nat.reduceAdd, Nat.reduceEqDiff, if_true, if_false] at hK ⊢
          simp only [e173, e181, e186] at hK ⊢
          clear e173 e181 e186
          go_wp2_with (fail)
          exact hK _ _ (Below.refl _ _) rfl
         ·intro xq w1 hb1 hx K hK0
          have hK := fun v w' hb => hK0 v w' (.inl hb)
          have e173 : xq 173 = .bool false := hx 15 (by rfl) (by rfl)
          have e175 : xq 175 = .int .i64 (x.warm + ((j : Int) + 1) * rh) := hx 17 (by rfl) (by rfl)
          have e187 : xq 187 = .int .i64 (x.warm + ((j : Int) + 1) * rh) := hx 29 (by rfl) (by rfl)
          clear hx hKc hK0
          simp only [runOf, setSlot, HRL.out, sr, Nat.reduceAdd, Nat.reduceEqDiff, if_true, if_false] at hK ⊢
          simp only [e173, e175, e187] at hK ⊢
          clear e173 e175 e187
          go_wp2_with (fail)
          first | exact hK _ _ (Below.refl _ _) rfl | exact hK _ _ (Below.refl _ _) (by simp)
         ·intro xq w1 hb1 hx K hK0
          have hK := fun v w' hb => hK0 v w' (.inl hb)
          have e173 : xq 173 = .bool false := hx 15 (by rfl) (by rfl)
          have e188 : xq 188 = .bool false := hx 30 (by rfl) (by rfl)
          clear hx hKc hK0
          simp only [runOf, setSlot, HRL.out, sr, Nat.reduceAdd, Nat.reduceEqDiff, if_true, if_false] at hK ⊢
          simp only [e173, e188] at hK ⊢
          clear e173 e188
          go_wp2_with (fail)
          exact hK _ _ (Below.refl _ _) rfl
         ·intro xq w1 hb1 hx K hK0
          have hK := fun v w' hb => hK0 v w' (.inl hb)
          have e189 : xq 189 = .bool false := hx 31 (by rfl) (by rfl)
          clear hx hKc hK0
          simp only [runOf, setSlot, HRL.out, sr, Nat.reduceAdd, Nat.reduceEqDiff, if_true, if_false] at hK ⊢
          simp only [e189] at hK ⊢
          clear e189
          go_wp2_with (fail)
          exact hK _ _ (Below.refl _ _) rfl
         ·intro xq w1 hb1 hx K hK0
          have hK := fun v w' hb => hK0 v w' (.inl hb)
          have e190 : xq 190 = .bool false := hx 32 (by rfl) (by rfl)
          clear hx hKc hK0
          simp only [runOf, setSlot, HRL.out, sr, Nat.reduceAdd, Nat.reduceEqDiff, if_true, if_false] at hK ⊢
          simp only [e190] at hK ⊢
          clear e190
          go_wp2_with (fail)
          exact hK _ _ (Below.refl _ _) rfl
         ·intro xq w1 hb1 hx K hK0
          have hK := fun v w' hb => hK0 v w' (.inl hb)
          have e190 : xq 190 = .bool false := hx 32 (by rfl) (by rfl)
          have e191 : xq 191 = .pointer (some ⟨wt.heap.size, 1, none⟩) := hx 33 (by rfl) (by rfl)
          clear hx hKc hK0
          have q_ := up_cell hb1 Kv1.out
          simp only [runOf, setSlot, HRL.out, sr, Nat.reduceAdd, Nat.reduceEqDiff, if_true, if_false] at hK ⊢
          simp only [e190, e191] at hK ⊢
          clear e190 e191
          go_wp2_with (fail)
          exact hK _ _ (Below.refl _ _) rfl
         ·intro xq w1 hb1 hx K hK0
          have hK := fun v w' hb => hK0 v w' (.inl hb)
          have e190 : xq 190 = .bool false := hx 32 (by rfl) (by rfl)
          clear hx hKc hK0
          simp only [runOf, setSlot, HRL.out, sr, Nat.reduceAdd, Nat.reduceEqDiff, if_true, if_false] at hK ⊢
          simp only [e190] at hK ⊢
          clear e190
          go_wp2_with (fail)
          exact hK _ _ (Below.refl _ _) rfl
         ·intro xq w1 hb1 hx K hK0
          have hK := fun v w' hb => hK0 v w' (.inl hb)
          have e190 : xq 190 = .bool false := hx 32 (by rfl) (by rfl)
          have e193 : xq 193 = .pointer (some ⟨w3.heap.size, 8, none⟩) := hx 35 (by rfl) (by rfl)
          clear hx hKc hK0
          have q_ := up_cell hb1 Kv8.out
          simp only [runOf, setSlot, HRL.out, sr, Nat.reduceAdd, Nat.reduceEqDiff, if_true, if_false] at hK ⊢
          simp only [e190, e193] at hK ⊢
          clear e190 e193
          go_wp2_with (fail)
          exact hK _ _ (Below.refl _ _) rfl
         ·intro xq w1 hb1 hx K hK0
          have hK := fun v w' hb => hK0 v w' (.inl hb)
          have e190 : xq 190 = .bool false := hx 32 (by rfl) (by rfl)
          clear hx hKc hK0
          simp only [runOf, setSlot, HRL.out, sr, Nat.reduceAdd, Nat.reduceEqDiff, if_true, if_false] at hK ⊢
          simp only [e190] at hK ⊢
          clear e190
          go_wp2_with (fail)
          exact hK _ _ (Below.refl _ _) rfl
         ·intro xq w1 hb1 hx K hK0
          have hK := fun v w' hb => hK0 v w' (.inl hb)
          have e190 : xq 190 = .bool false := hx 32 (by rfl) (by rfl)
          have e194 : xq 194 = .slice (some ⟨E0, oo, none⟩) bs.length c := hx 36 (by rfl) (by rfl)
          have e195 : xq 195 = .int .i64 (k : Int) := hx 37 (by rfl) (by rfl)
          clear hx hKc hK0
          simp only [runOf, setSlot, HRL.out, sr, Nat.reduceAdd, Nat.reduceEqDiff, if_true, if_false] at hK ⊢
          simp only [e190, e194, e195] at hK ⊢
          clear e190 e194 e195
          go_wp2_with (fail)
          exact hK _ _ (Below.refl _ _) rfl
         ·intro xq w1 hb1 hx K hK0
          have hK := fun v w' hb => hK0 v w' (.inl hb)
          have e190 : xq 190 = .bool false := hx 32 (by rfl) (by rfl)
          have e196 : xq 196 = .pointer (some ⟨E0, oo + k * 4, none⟩) := hx 38 (by rfl) (by rfl)
          clear hx hKc hK0
          simp only [runOf, setSlot, HRL.out, sr, Nat.reduceAdd, Nat.reduceEqDiff, if_true, if_false] at hK ⊢
          simp only [e190, e196] at hK ⊢
          clear e190 e196
          go_wp2_with (fail)
          exact hK _ _ (Below.refl _ _) rfl
         ·intro xq w1 hb1 hx K hK0
          have hK := fun v w' hb => hK0 v w' (.inl hb)
          have e190 : xq 190 = .bool false := hx 32 (by rfl) (by rfl)
          have e197 : xq 197 = .pointer (some ⟨E0, oo + k * 4 + 1, none⟩) := hx 39 (by rfl) (by rfl)
          clear hx hKc hK0
          have q_ := up_cell hb1 Kvm.out
          simp only [runOf, setSlot, HRL.out, sr, Nat.reduceAdd, Nat.reduceEqDiff, if_true, if_false] at hK ⊢
          simp only [e190, e197] at hK ⊢
          clear e190 e197
          go_wp2_with (fail)
          exact hK _ _ (Below.refl _ _) rfl
         ·intro xq w1 hb1 hx K hK0
          have hK := fun v w' hb => hK0 v w' (.inl hb)
          have e190 : xq 190 = .bool false := hx 32 (by rfl) (by rfl)
          have e192 : xq 192 = .int .i64 (x.warm + ((j : Int) + 1) * rh) := hx 34 (by rfl) (by rfl)
          have e198 : xq 198 = .int .i64 (x.mark) := hx 40 (by rfl) (by rfl)
          clear hx hKc hK0
          simp only [runOf, setSlot, HRL.out, sr, Nat.reduceAdd, Nat.reduceEqDiff, if_true, if_false] at hK ⊢
          simp only [e190, e192, e198] at hK ⊢
          clear e190 e192 e198
          go_wp2_with (fail)
          first | exact hK _ _ (Below.refl _ _) rfl | exact hK _ _ (Below.refl _ _) (congrArg Value.bool (decide_eq_false (by omega)))
         ·intro xq w1 hb1 hx K hK0
          have hK := fun v w' hb => hK0 v w' (.inl hb)
          have e190 : xq 190 = .bool false := hx 32 (by rfl) (by rfl)
          clear hx hKc hK0
          simp only [runOf, setSlot, HRL.out, sr, Nat.reduceAdd, Nat.reduceEqDiff, if_true, if_false] at hK ⊢
          simp only [e190] at hK ⊢
          clear e190
          go_wp2_with (fail)
          exact hK _ _ (Below.refl _ _) rfl
         ·intro xq w1 hb1 hx K hK0
          have hK := fun v w' hb => hK0 v w' (.inl hb)
          have e190 : xq 190 = .bool false := hx 32 (by rfl) (by rfl)
          clear hx hKc hK0
          simp only [runOf, setSlot, HRL.out, sr, Nat.reduceAdd, Nat.reduceEqDiff, if_true, if_false] at hK ⊢
          simp only [e190] at hK ⊢
          clear e190
          go_wp2_with (fail)
          exact hK _ _ (Below.refl _ _) rfl
         ·intro xq w1 hb1 hx K hK0
          have hK := fun v w' hb => hK0 v w' (.inl hb)
          have e190 : xq 190 = .bool false := hx 32 (by rfl) (by rfl)
          have e200 : xq 200 = .int .i64 (j : Int) := hx 42 (by rfl) (by rfl)
          have e201 : xq 201 = .int .i64 (lf) := hx 43 (by rfl) (by rfl)
          clear hx hKc hK0
          simp only [runOf, setSlot, HRL.out, sr, Nat.reduceAdd, Nat.reduceEqDiff, if_true, if_false] at hK ⊢
          simp only [e190, e200, e201] at hK ⊢
          clear e190 e200 e201
          go_wp2_with (fail)
          first | exact hK _ _ (Below.refl _ _) rfl | exact hK _ _ (Below.refl _ _) (congrArg Value.bool (decide_eq_false (by omega)))
         ·intro xq w1 hb1 hx K hK0
          have hK := fun v w' hb => hK0 v w' (.inl hb)
          have e190 : xq 190 = .bool false := hx 32 (by rfl) (by rfl)
          have e199 : xq 199 = .bool false := hx 41 (by rfl) (by rfl)
          have e202 : xq 202 = .bool false := hx 44 (by rfl) (by rfl)
          clear hx hKc hK0
          simp only [runOf, setSlot, HRL.out, sr, Nat.reduceAdd, Nat.reduceEqDiff, if_true, if_false] at hK ⊢
          simp only [e190, e199, e202] at hK ⊢
          clear e190 e199 e202
          go_wp2_with (fail)
          exact hK _ _ (Below.refl _ _) rfl
         ·intro xq w1 hb1 hx K hK0
          have hK := fun v w' hb => hK0 v w' (.inl hb)
          have e190 : xq 190 = .bool false := hx 32 (by rfl) (by rfl)
          have e203 : xq 203 = .bool false := hx 45 (by rfl) (by rfl)
          clear hx hKc hK0
          simp only [runOf, setSlot, HRL.out, sr, Nat.reduceAdd, Nat.reduceEqDiff, if_true, if_false] at hK ⊢
          simp only [e190, e203] at hK ⊢
          clear e190 e203
          go_wp2_with (fail)
          exact hK _ _ (Below.refl _ _) rfl
        ·intro xq w1 hb1 hx
         have e158 : xq 158 = .pointer (some ⟨wt.heap.size, 0, none⟩) := hx 0 (by decide)
         have e159 : xq 159 = .int .i64 (x.warm + ((j : Int) + 1) * rl) := hx 1 (by decide)
         have e160 : xq 160 = .pointer (some ⟨w3.heap.size, 8, none⟩) := hx 2 (by decide)
         have e161 : xq 161 = .slice (some ⟨E0, oo, none⟩) bs.length c := hx 3 (by decide)
         have e162 : xq 162 = .int .i64 (k : Int) := hx 4 (by decide)
         have e163 : xq 163 = .pointer (some ⟨E0, oo + k * 4, none⟩) := hx 5 (by decide)
         have e164 : xq 164 = .pointer (some ⟨E0, oo + k * 4, none⟩) := hx 6 (by decide)
         have e165 : xq 165 = .int .i64 (x.warm) := hx 7 (by decide)
         have e166 : xq 166 = .int .i64 (j : Int) := hx 8 (by decide)
         have e167 : xq 167 = .int .i64 ((j : Int) + 1) := hx 9 (by decide)
         have e168 : xq 168 = .pointer (some ⟨w10.heap.size, 0, none⟩) := hx 10 (by decide)
         have e169 : xq 169 = .int .i64 (rl) := hx 11 (by decide)
         have e170 : xq 170 = .int .i64 (((j : Int) + 1) * rl) := hx 12 (by decide)
         have e171 : xq 171 = .int .i64 (x.warm + ((j : Int) + 1) * rl) := hx 13 (by decide)
         have e172 : xq 172 = .bool false := hx 14 (by decide)
         have e173 : xq 173 = .bool false := hx 15 (by decide)
         have e174 : xq 174 = .pointer (some ⟨wt.heap.size, 1, none⟩) := hx 16 (by decide)
         have e175 : xq 175 = .int .i64 (x.warm + ((j : Int) + 1) * rh) := hx 17 (by decide)
         have e176 : xq 176 = .pointer (some ⟨w3.heap.size, 8, none⟩) := hx 18 (by decide)
         have e177 : xq 177 = .slice (some ⟨E0, oo, none⟩) bs.length c := hx 19 (by decide)
         have e178 : xq 178 = .int .i64 (k : Int) := hx 20 (by decide)
         have e179 : xq 179 = .pointer (some ⟨E0, oo + k * 4, none⟩) := hx 21 (by decide)
         have e180 : xq 180 = .pointer (some ⟨E0, oo + k * 4, none⟩) := hx 22 (by decide)
         have e181 : xq 181 = .int .i64 (x.warm) := hx 23 (by decide)
         have e182 : xq 182 = .int .i64 (j : Int) := hx 24 (by decide)
         have e183 : xq 183 = .int .i64 ((j : Int) + 1) := hx 25 (by decide)
         have e184 : xq 184 = .pointer (some ⟨w10.heap.size, 1, none⟩) := hx 26 (by decide)
         have e185 : xq 185 = .int .i64 (rh) := hx 27 (by decide)
         have e186 : xq 186 = .int .i64 (((j : Int) + 1) * rh) := hx 28 (by decide)
         have e187 : xq 187 = .int .i64 (x.warm + ((j : Int) + 1) * rh) := hx 29 (by decide)
         have e188 : xq 188 = .bool false := hx 30 (by decide)
         have e189 : xq 189 = .bool false := hx 31 (by decide)
         have e190 : xq 190 = .bool false := hx 32 (by decide)
         have e191 : xq 191 = .pointer (some ⟨wt.heap.size, 1, none⟩) := hx 33 (by decide)
         have e192 : xq 192 = .int .i64 (x.warm + ((j : Int) + 1) * rh) := hx 34 (by decide)
         have e193 : xq 193 = .pointer (some ⟨w3.heap.size, 8, none⟩) := hx 35 (by decide)
         have e194 : xq 194 = .slice (some ⟨E0, oo, none⟩) bs.length c := hx 36 (by decide)
         have e195 : xq 195 = .int .i64 (k : Int) := hx 37 (by decide)
         have e196 : xq 196 = .pointer (some ⟨E0, oo + k * 4, none⟩) := hx 38 (by decide)
         have e197 : xq 197 = .pointer (some ⟨E0, oo + k * 4 + 1, none⟩) := hx 39 (by decide)
         have e198 : xq 198 = .int .i64 (x.mark) := hx 40 (by decide)
         have e199 : xq 199 = .bool false := hx 41 (by decide)
         have e200 : xq 200 = .int .i64 (j : Int) := hx 42 (by decide)
         have e201 : xq 201 = .int .i64 (lf) := hx 43 (by decide)
         have e202 : xq 202 = .bool false := hx 44 (by decide)
         have e203 : xq 203 = .bool false := hx 45 (by decide)
         have e204 : xq 204 = .bool false := hx 46 (by decide)
         clear hx
         simp only [runOf, setSlot, HRL.out, sr, Nat.reduceAdd, Nat.reduceEqDiff, if_true, if_false]
         simp only [e158, e159, e160, e161, e162, e163, e164, e165, e166, e167, e168, e169, e170, e171, e172, e173, e174, e175, e176, e177, e178, e179, e180, e181, e182, e183, e184, e185, e186, e187, e188, e189, e190, e191, e192, e193, e194, e195, e196, e197, e198, e199, e200, e201, e202, e203, e204]
         clear e158 e159 e160 e161 e162 e163 e164 e165 e166 e167 e168 e169 e170 e171 e172 e173 e174 e175 e176 e177 e178 e179 e180 e181 e182 e183 e184 e185 e186 e187 e188 e189 e190 e191 e192 e193 e194 e195 e196 e197 e198 e199 e200 e201 e202 e203 e204
         refine hKc _ _ ?_
         go_wp2_with fail
         go_roundw
         case rel => exact ⟨j + 1, by go_num, hjl, Lib.hid (HBT.out.trans ((HWV.out.trans (hb1.mono HWV.out.size)).mono HBT.out.size))⟩
         case measure => first | (simp [intOf]; done) | (simp [intOf]; omega)
      ·have hje : j = 20 := by omega
       have hjl' : ¬ (j : Int) < 20 := by omega
       clear HIR
       by_cases hr0 : rh = 0
       ·have h1 : lf = 1000000 := by rw [← hlf, hrh, hr0]; rfl
        have h2 : ls = 1000000 := by rw [← hls, hrh, hr0]; rfl
        go_wp2_with fail
        refine (HAW.out _).mono ?_
        rintro e wz ⟨rfl, hbz⟩
        go_wp2_with fail
        go_ret
        first | exact ⟨rfl, (HW11.out.trans (HBT.out.mono HW11.out.size)).trans (hbz.mono (Nat.le_trans HW11.out.size HBT.out.size))⟩ | exact (HW11.out.trans (HBT.out.mono HW11.out.size)).trans (hbz.mono (Nat.le_trans HW11.out.size HBT.out.size))
       ·have e1 : daysOf rh x.warm x.mark = lf := by rw [← hrh]; exact hlf
        have e2 : daysOf rh b.cool x.mark = ls := by rw [← hrh]; exact hls
        have f1 := days_few (warm := x.warm) (mark := x.mark) (r := rh) (by omega) (by omega) wm0 mk60
        rw [e1] at f1
        have f2 := days_few (warm := b.cool) (mark := x.mark) (r := rh) (by omega) (by omega) cl0 mk60
        rw [e2] at f2
        have f3 : b.cool ≤ x.warm → lf ≤ ls := fun h => by rw [← e1, ← e2]; exact days_mono (by omega) (by omega) h (by omega)
        obtain ⟨f10, f11⟩ := f1
        obtain ⟨f20, f21⟩ := f2
        clear e1 e2 hlf hls
        go_wp2_with fail
        have K8 := Lib.hid kb8
        have KW := Lib.hid kw0
        have KM := Lib.hid kw1
        have KC := Lib.hid kcl
        clear kb8 kw0 kw1 kcl kr0 kr1 kj8 kx0 kx1 kx2 kx3
        by_cases hwc : x.warm < b.cool
        ·rename_i Kc5 hKc
         refine wp_region_partsR1 6 218 36 (by kernel_rfl) [some 218, some 219, some 220, some 221, some 222, some 223, some 224, some 225, some 226, some 227, some 228, some 229, some 230, some 231, some 232, some 233, some 234, some 235, some 236, some 237, some 238, some 239, some 240, some 241, some 242, some 243, some 244, some 245, some 246, some 247, some 248, some 249, some 250, some 251, some 252, some 253, some 6] (fun jq xq w' => match jq with
          | 0 => xq 218 = .int .i64 (lf)
          | 1 => xq 219 = .bool true
          | 2 => xq 220 = .bool true
          | 3 => xq 221 = .int .i64 (ls)
          | 4 => xq 222 = .bool true
          | 5 => xq 223 = .bool true
          | 6 => xq 224 = .bool true
          | 7 => xq 225 = .pointer (some ⟨w3.heap.size, 8, none⟩)
          | 8 => xq 226 = .slice (some ⟨E0, oo, none⟩) bs.length c
          | 9 => xq 227 = .int .i64 (k : Int)
          | 10 => xq 228 = .pointer (some ⟨E0, oo + k * 4, none⟩)
          | 11 => xq 229 = .pointer (some ⟨E0, oo + k * 4, none⟩)
          | 12 => xq 230 = .int .i64 (x.warm)
          | 13 => xq 231 = .pointer (some ⟨w3.heap.size, 0, none⟩)
          | 14 => xq 232 = .int .i64 (b.cool)
          | 15 => xq 233 = .bool true
          | 16 => xq 234 = .bool true
          | 17 => True
          | 18 => True
          | 19 => True
          | 20 => True
          | 21 => True
          | 22 => True
          | 23 => True
          | 24 => True
          | 25 => True
          | 26 => xq 244 = .bool true
          | 27 => xq 245 = .bool true
          | 28 => True
          | 29 => True
          | 30 => True
          | 31 => xq 249 = .bool true
          | 32 => xq 250 = .bool true
          | 33 => xq 251 = .bool true
          | 34 => xq 252 = .bool true
          | 35 => xq 253 = .bool true
          | 36 => xq 6 = .bool true
          | _ => True) [[218], [219], [220], [221], [222], [223], [224], [225], [226], [227], [228], [229], [230], [231], [232], [233], [234], [], [], [], [], [], [], [], [], [], [244], [245], [], [], [], [249], [250], [251], [252], [253], [6]] [] (Below wt.heap.size wt) (by kernel_rfl) (by rfl) (by kernel_rfl) (by rfl) ?_ ?_ (fun w' w'' hb h => h.trans (hb.mono h.size)) (Below.refl _ _) ?_ ?_ ?_
         ·intro jq xq xq' wqq h hv
          match jq, h, hv with
          | 0, h, hv => show xq' 218 = .int .i64 (lf); rw [← h 218 (by decide)]; exact hv
          | 1, h, hv => show xq' 219 = .bool true; rw [← h 219 (by decide)]; exact hv
          | 2, h, hv => show xq' 220 = .bool true; rw [← h 220 (by decide)]; exact hv
          | 3, h, hv => show xq' 221 = .int .i64 (ls); rw [← h 221 (by decide)]; exact hv
          | 4, h, hv => show xq' 222 = .bool true; rw [← h 222 (by decide)]; exact hv
          | 5, h, hv => show xq' 223 = .bool true; rw [← h 223 (by decide)]; exact hv
          | 6, h, hv => show xq' 224 = .bool true; rw [← h 224 (by decide)]; exact hv
          | 7, h, hv => show xq' 225 = .pointer (some ⟨w3.heap.size, 8, none⟩); rw [← h 225 (by decide)]; exact hv
          | 8, h, hv => show xq' 226 = .slice (some ⟨E0, oo, none⟩) bs.length c; rw [← h 226 (by decide)]; exact hv
          | 9, h, hv => show xq' 227 = .int .i64 (k : Int); rw [← h 227 (by decide)]; exact hv
          | 10, h, hv => show xq' 228 = .pointer (some ⟨E0, oo + k * 4, none⟩); rw [← h 228 (by decide)]; exact hv
          | 11, h, hv => show xq' 229 = .pointer (some ⟨E0, oo + k * 4, none⟩); rw [← h 229 (by decide)]; exact hv
          | 12, h, hv => show xq' 230 = .int .i64 (x.warm); rw [← h 230 (by decide)]; exact hv
          | 13, h, hv => show xq' 231 = .pointer (some ⟨w3.heap.size, 0, none⟩); rw [← h 231 (by decide)]; exact hv
          | 14, h, hv => show xq' 232 = .int .i64 (b.cool); rw [← h 232 (by decide)]; exact hv
          | 15, h, hv => show xq' 233 = .bool true; rw [← h 233 (by decide)]; exact hv
          | 16, h, hv => show xq' 234 = .bool true; rw [← h 234 (by decide)]; exact hv
          | 17, h, hv => exact hv
          | 18, h, hv => exact hv
          | 19, h, hv => exact hv
          | 20, h, hv => exact hv
          | 21, h, hv => exact hv
          | 22, h, hv => exact hv
          | 23, h, hv => exact hv
          | 24, h, hv => exact hv
          | 25, h, hv => exact hv
          | 26, h, hv => show xq' 244 = .bool true; rw [← h 244 (by decide)]; exact hv
          | 27, h, hv => show xq' 245 = .bool true; rw [← h 245 (by decide)]; exact hv
          | 28, h, hv => exact hv
          | 29, h, hv => exact hv
          | 30, h, hv => exact hv
          | 31, h, hv => show xq' 249 = .bool true; rw [← h 249 (by decide)]; exact hv
          | 32, h, hv => show xq' 250 = .bool true; rw [← h 250 (by decide)]; exact hv
          | 33, h, hv => show xq' 251 = .bool true; rw [← h 251 (by decide)]; exact hv
          | 34, h, hv => show xq' 252 = .bool true; rw [← h 252 (by decide)]; exact hv
          | 35, h, hv => show xq' 253 = .bool true; rw [← h 253 (by decide)]; exact hv
          | 36, h, hv => show xq' 6 = .bool true; rw [← h 6 (by decide)]; exact hv
          | _ + 37, _, _ => trivial
         ·intro jq xq wqq w' hb' hv
          match jq, hv with
          | 0, hv => exact hv
          | 1, hv => exact hv
          | 2, hv => exact hv
          | 3, hv => exact hv
          | 4, hv => exact hv
          | 5, hv => exact hv
          | 6, hv => exact hv
          | 7, hv => exact hv
          | 8, hv => exact hv
          | 9, hv => exact hv
          | 10, hv => exact hv
          | 11, hv => exact hv
          | 12, hv => exact hv
          | 13, hv => exact hv
          | 14, hv => exact hv
          | 15, hv => exact hv
          | 16, hv => exact hv
          | 17, hv => exact hv
          | 18, hv => exact hv
          | 19, hv => exact hv
          | 20, hv => exact hv
          | 21, hv => exact hv
          | 22, hv => exact hv
          | 23, hv => exact hv
          | 24, hv => exact hv
          | 25, hv => exact hv
          | 26, hv => exact hv
          | 27, hv => exact hv
          | 28, hv => exact hv
          | 29, hv => exact hv
          | 30, hv => exact hv
          | 31, hv => exact hv
          | 32, hv => exact hv
          | 33, hv => exact hv
          | 34, hv => exact hv
          | 35, hv => exact hv
          | 36, hv => exact hv
          | _ + 37, _ => trivial
         ·intro jq hj
          match jq, hj with
          | 0, hj => exact absurd hj (by decide)
          | 1, hj => exact absurd hj (by decide)
          | 2, hj => exact absurd hj (by decide)
          | 3, hj => exact absurd hj (by decide)
          | 4, hj => exact absurd hj (by decide)
          | 5, hj => exact absurd hj (by decide)
          | 6, hj => exact absurd hj (by decide)
          | 7, hj => exact absurd hj (by decide)
          | 8, hj => exact absurd hj (by decide)
          | 9, hj => exact absurd hj (by decide)
          | 10, hj => exact absurd hj (by decide)
          | 11, hj => exact absurd hj (by decide)
          | 12, hj => exact absurd hj (by decide)
          | 13, hj => exact absurd hj (by decide)
          | 14, hj => exact absurd hj (by decide)
          | 15, hj => exact absurd hj (by decide)
          | 16, hj => exact absurd hj (by decide)
          | 17, hj => exact absurd hj (by decide)
          | 18, hj => exact absurd hj (by decide)
          | 19, hj => exact absurd hj (by decide)
          | 20, hj => exact absurd hj (by decide)
          | 21, hj => exact absurd hj (by decide)
          | 22, hj => exact absurd hj (by decide)
          | 23, hj => exact absurd hj (by decide)
          | 24, hj => exact absurd hj (by decide)
          | 25, hj => exact absurd hj (by decide)
          | 26, hj => exact absurd hj (by decide)
          | 27, hj => exact absurd hj (by decide)
          | 28, hj => exact absurd hj (by decide)
          | 29, hj => exact absurd hj (by decide)
          | 30, hj => exact absurd hj (by decide)
          | 31, hj => exact absurd hj (by decide)
          | 32, hj => exact absurd hj (by decide)
          | 33, hj => exact absurd hj (by decide)
          | 34, hj => exact absurd hj (by decide)
          | 35, hj => exact absurd hj (by decide)
          | 36, hj => exact absurd hj (by decide)
          | _ + 37, _ => trivial
         ·refine ⟨?_, ?_, ?_, ?_, ?_, ?_, ?_, ?_, ?_, ?_, ?_, ?_, ?_, ?_, ?_, ?_, ?_, ?_, ?_, ?_, ?_, ?_, ?_, ?_, ?_, ?_, ?_, ?_, ?_, ?_, ?_, ?_, ?_, ?_, ?_, ?_, ?_, trivial⟩
          ·intro xq w1 hb1 hx K hK0
           have hK := fun v w' hb => hK0 v w' (.inl hb)
           clear hx hKc hK0
           simp only [runOf1, List.set_cons_succ, List.set_cons_zero, setSlot, show List.range' 218 36 = [218, 219, 220, 221, 222, 223, 224, 225, 226, 227, 228, 229, 230, 231, 232, 233, 234, 235, 236, 237, 238, 239, 240, 241, 242, 243, 244, 245, 246, 247, 248, 249, 250, 251, 252, 253] from rfl, List.take_succ_cons, List.take_zero, List.drop_succ_cons, List.drop_zero, List.map_cons, List.map_nil, List.cons_append, List.nil_append, Nat.reduceAdd, Nat.reduceEqDiff, if_true, if_false, List.getD_cons_zero, List.getD_cons_succ, Nat.zero_add] at hK ⊢
           go_wp2_with (fail)
           exact hK _ _ (Below.refl _ _) rfl
          ·intro xq w1 hb1 hx K hK0
           have hK := fun v w' hb => hK0 v w' (.inl hb)
           have e218 : xq 218 = .int .i64 (lf) := hx 0 (by rfl) (by rfl)
           clear hx hKc hK0
           simp only [runOf1, List.set_cons_succ, List.set_cons_zero, setSlot, show List.range' 218 36 = [218, 219, 220, 221, 222, 223, 224, 225, 226, 227, 228, 229, 230, 231, 232, 233, 234, 235, 236, 237, 238, 239, 240, 241, 242, 243, 244, 245, 246, 247, 248, 249, 250, 251, 252, 253] from rfl, List.take_succ_cons, List.take_zero, List.drop_succ_cons, List.drop_zero, List.map_cons, List.map_nil, List.cons_append, List.nil_append, Nat.reduceAdd, Nat.reduceEqDiff, if_true, if_false, List.getD_cons_zero, List.getD_cons_succ, Nat.zero_add] at hK ⊢
           simp only [e218] at hK ⊢
           clear e218
           go_wp2_with (fail)
           first | exact hK _ _ (Below.refl _ _) rfl | exact hK _ _ (Below.refl _ _) trivial | exact hK _ _ (Below.refl _ _) (congrArg Value.bool (decide_eq_true (by omega)))
          ·intro xq w1 hb1 hx K hK0
           have hK := fun v w' hb => hK0 v w' (.inl hb)
           have e219 : xq 219 = .bool true := hx 1 (by rfl) (by rfl)
           clear hx hKc hK0
           simp only [runOf1, List.set_cons_succ, List.set_cons_zero, setSlot, show List.range' 218 36 = [218, 219, 220, 221, 222, 223, 224, 225, 226, 227, 228, 229, 230, 231, 232, 233, 234, 235, 236, 237, 238, 239, 240, 241, 242, 243, 244, 245, 246, 247, 248, 249, 250, 251, 252, 253] from rfl, List.take_succ_cons, List.take_zero, List.drop_succ_cons, List.drop_zero, List.map_cons, List.map_nil, List.cons_append, List.nil_append, Nat.reduceAdd, Nat.reduceEqDiff, if_true, if_false, List.getD_cons_zero, List.getD_cons_succ, Nat.zero_add] at hK ⊢
           simp only [e219] at hK ⊢
           clear e219
           go_wp2_with (fail)
           exact hK _ _ (Below.refl _ _) rfl
          ·intro xq w1 hb1 hx K hK0
           have hK := fun v w' hb => hK0 v w' (.inl hb)
           have e220 : xq 220 = .bool true := hx 2 (by rfl) (by rfl)
           clear hx hKc hK0
           simp only [runOf1, List.set_cons_succ, List.set_cons_zero, setSlot, show List.range' 218 36 = [218, 219, 220, 221, 222, 223, 224, 225, 226, 227, 228, 229, 230, 231, 232, 233, 234, 235, 236, 237, 238, 239, 240, 241, 242, 243, 244, 245, 246, 247, 248, 249, 250, 251, 252, 253] from rfl, List.take_succ_cons, List.take_zero, List.drop_succ_cons, List.drop_zero, List.map_cons, List.map_nil, List.cons_append, List.nil_append, Nat.reduceAdd, Nat.reduceEqDiff, if_true, if_false, List.getD_cons_zero, List.getD_cons_succ, Nat.zero_add] at hK ⊢
           simp only [e220] at hK ⊢
           clear e220
           go_wp2_with (fail)
           exact hK _ _ (Below.refl _ _) rfl
          ·intro xq w1 hb1 hx K hK0
           have hK := fun v w' hb => hK0 v w' (.inl hb)
           have e220 : xq 220 = .bool true := hx 2 (by rfl) (by rfl)
           have e221 : xq 221 = .int .i64 (ls) := hx 3 (by rfl) (by rfl)
           clear hx hKc hK0
           simp only [runOf1, List.set_cons_succ, List.set_cons_zero, setSlot, show List.range' 218 36 = [218, 219, 220, 221, 222, 223, 224, 225, 226, 227, 228, 229, 230, 231, 232, 233, 234, 235, 236, 237, 238, 239, 240, 241, 242, 243, 244, 245, 246, 247, 248, 249, 250, 251, 252, 253] from rfl, List.take_succ_cons, List.take_zero, List.drop_succ_cons, List.drop_zero, List.map_cons, List.map_nil, List.cons_append, List.nil_append, Nat.reduceAdd, Nat.reduceEqDiff, if_true, if_false, List.getD_cons_zero, List.getD_cons_succ, Nat.zero_add] at hK ⊢
           simp only [e220, e221] at hK ⊢
           clear e220 e221
           go_wp2_with (fail)
           first | exact hK _ _ (Below.refl _ _) rfl | exact hK _ _ (Below.refl _ _) trivial | exact hK _ _ (Below.refl _ _) (congrArg Value.bool (decide_eq_true (by omega)))
          ·intro xq w1 hb1 hx K hK0
           have hK := fun v w' hb => hK0 v w' (.inl hb)
           have e220 : xq 220 = .bool true := hx 2 (by rfl) (by rfl)
           have e222 : xq 222 = .bool true := hx 4 (by rfl) (by rfl)
           clear hx hKc hK0
           simp only [runOf1, List.set_cons_succ, List.set_cons_zero, setSlot, show List.range' 218 36 = [218, 219, 220, 221, 222, 223, 224, 225, 226, 227, 228, 229, 230, 231, 232, 233, 234, 235, 236, 237, 238, 239, 240, 241, 242, 243, 244, 245, 246, 247, 248, 249, 250, 251, 252, 253] from rfl, List.take_succ_cons, List.take_zero, List.drop_succ_cons, List.drop_zero, List.map_cons, List.map_nil, List.cons_append, List.nil_append, Nat.reduceAdd, Nat.reduceEqDiff, if_true, if_false, List.getD_cons_zero, List.getD_cons_succ, Nat.zero_add] at hK ⊢
           simp only [e220, e222] at hK ⊢
           clear e220 e222
           go_wp2_with (fail)
           exact hK _ _ (Below.refl _ _) rfl
          ·intro xq w1 hb1 hx K hK0
           have hK := fun v w' hb => hK0 v w' (.inl hb)
           have e223 : xq 223 = .bool true := hx 5 (by rfl) (by rfl)
           clear hx hKc hK0
           simp only [runOf1, List.set_cons_succ, List.set_cons_zero, setSlot, show List.range' 218 36 = [218, 219, 220, 221, 222, 223, 224, 225, 226, 227, 228, 229, 230, 231, 232, 233, 234, 235, 236, 237, 238, 239, 240, 241, 242, 243, 244, 245, 246, 247, 248, 249, 250, 251, 252, 253] from rfl, List.take_succ_cons, List.take_zero, List.drop_succ_cons, List.drop_zero, List.map_cons, List.map_nil, List.cons_append, List.nil_append, Nat.reduceAdd, Nat.reduceEqDiff, if_true, if_false, List.getD_cons_zero, List.getD_cons_succ, Nat.zero_add] at hK ⊢
           simp only [e223] at hK ⊢
           clear e223
           go_wp2_with (fail)
           exact hK _ _ (Below.refl _ _) rfl
          ·intro xq w1 hb1 hx K hK0
           have hK := fun v w' hb => hK0 v w' (.inl hb)
           have e224 : xq 224 = .bool true := hx 6 (by rfl) (by rfl)
           clear hx hKc hK0
           simp only [runOf1, List.set_cons_succ, List.set_cons_zero, setSlot, show List.range' 218 36 = [218, 219, 220, 221, 222, 223, 224, 225, 226, 227, 228, 229, 230, 231, 232, 233, 234, 235, 236, 237, 238, 239, 240, 241, 242, 243, 244, 245, 246, 247, 248, 249, 250, 251, 252, 253] from rfl, List.take_succ_cons, List.take_zero, List.drop_succ_cons, List.drop_zero, List.map_cons, List.map_nil, List.cons_append, List.nil_append, Nat.reduceAdd, Nat.reduceEqDiff, if_true, if_false, List.getD_cons_zero, List.getD_cons_succ, Nat.zero_add] at hK ⊢
           simp only [e224] at hK ⊢
           clear e224
           go_wp2_with (fail)
           exact hK _ _ (Below.refl _ _) rfl
          ·intro xq w1 hb1 hx K hK0
           have hK := fun v w' hb => hK0 v w' (.inl hb)
           have e224 : xq 224 = .bool true := hx 6 (by rfl) (by rfl)
           have e225 : xq 225 = .pointer (some ⟨w3.heap.size, 8, none⟩) := hx 7 (by rfl) (by rfl)
           clear hx hKc hK0
           have q_ := up_cell hb1 K8.out
           simp only [runOf1, List.set_cons_succ, List.set_cons_zero, setSlot, show List.range' 218 36 = [218, 219, 220, 221, 222, 223, 224, 225, 226, 227, 228, 229, 230, 231, 232, 233, 234, 235, 236, 237, 238, 239, 240, 241, 242, 243, 244, 245, 246, 247, 248, 249, 250, 251, 252, 253] from rfl, List.take_succ_cons, List.take_zero, List.drop_succ_cons, List.drop_zero, List.map_cons, List.map_nil, List.cons_append, List.nil_append, Nat.reduceAdd, Nat.reduceEqDiff, if_true, if_false, List.getD_cons_zero, List.getD_cons_succ, Nat.zero_add] at hK ⊢
           simp only [e224, e225] at hK ⊢
           clear e224 e225
           go_wp2_with (fail)
           exact hK _ _ (Below.refl _ _) rfl
          ·intro xq w1 hb1 hx K hK0
           have hK := fun v w' hb => hK0 v w' (.inl hb)
           have e224 : xq 224 = .bool true := hx 6 (by rfl) (by rfl)
           clear hx hKc hK0
           simp only [runOf1, List.set_cons_succ, List.set_cons_zero, setSlot, show List.range' 218 36 = [218, 219, 220, 221, 222, 223, 224, 225, 226, 227, 228, 229, 230, 231, 232, 233, 234, 235, 236, 237, 238, 239, 240, 241, 242, 243, 244, 245, 246, 247, 248, 249, 250, 251, 252, 253] from rfl, List.take_succ_cons, List.take_zero, List.drop_succ_cons, List.drop_zero, List.map_cons, List.map_nil, List.cons_append, List.nil_append, Nat.reduceAdd, Nat.reduceEqDiff, if_true, if_false, List.getD_cons_zero, List.getD_cons_succ, Nat.zero_add] at hK ⊢
           simp only [e224] at hK ⊢
           clear e224
           go_wp2_with (fail)
           exact hK _ _ (Below.refl _ _) rfl
          ·intro xq w1 hb1 hx K hK0
           have hK := fun v w' hb => hK0 v w' (.inl hb)
           have e224 : xq 224 = .bool true := hx 6 (by rfl) (by rfl)
           have e226 : xq 226 = .slice (some ⟨E0, oo, none⟩) bs.length c := hx 8 (by rfl) (by rfl)
           have e227 : xq 227 = .int .i64 (k : Int) := hx 9 (by rfl) (by rfl)
           clear hx hKc hK0
           simp only [runOf1, List.set_cons_succ, List.set_cons_zero, setSlot, show List.range' 218 36 = [218, 219, 220, 221, 222, 223, 224, 225, 226, 227, 228, 229, 230, 231, 232, 233, 234, 235, 236, 237, 238, 239, 240, 241, 242, 243, 244, 245, 246, 247, 248, 249, 250, 251, 252, 253] from rfl, List.take_succ_cons, List.take_zero, List.drop_succ_cons, List.drop_zero, List.map_cons, List.map_nil, List.cons_append, List.nil_append, Nat.reduceAdd, Nat.reduceEqDiff, if_true, if_false, List.getD_cons_zero, List.getD_cons_succ, Nat.zero_add] at hK ⊢
           simp only [e224, e226, e227] at hK ⊢
           clear e224 e226 e227
           go_wp2_with (fail)
           exact hK _ _ (Below.refl _ _) rfl
          ·intro xq w1 hb1 hx K hK0
           have hK := fun v w' hb => hK0 v w' (.inl hb)
           have e224 : xq 224 = .bool true := hx 6 (by rfl) (by rfl)
           have e228 : xq 228 = .pointer (some ⟨E0, oo + k * 4, none⟩) := hx 10 (by rfl) (by rfl)
           clear hx hKc hK0
           simp only [runOf1, List.set_cons_succ, List.set_cons_zero, setSlot, show List.range' 218 36 = [218, 219, 220, 221, 222, 223, 224, 225, 226, 227, 228, 229, 230, 231, 232, 233, 234, 235, 236, 237, 238, 239, 240, 241, 242, 243, 244, 245, 246, 247, 248, 249, 250, 251, 252, 253] from rfl, List.take_succ_cons, List.take_zero, List.drop_succ_cons, List.drop_zero, List.map_cons, List.map_nil, List.cons_append, List.nil_append, Nat.reduceAdd, Nat.reduceEqDiff, if_true, if_false, List.getD_cons_zero, List.getD_cons_succ, Nat.zero_add] at hK ⊢
           simp only [e224, e228] at hK ⊢
           clear e224 e228
           go_wp2_with (fail)
           exact hK _ _ (Below.refl _ _) rfl
          ·intro xq w1 hb1 hx K hK0
           have hK := fun v w' hb => hK0 v w' (.inl hb)
           have e224 : xq 224 = .bool true := hx 6 (by rfl) (by rfl)
           have e229 : xq 229 = .pointer (some ⟨E0, oo + k * 4, none⟩) := hx 11 (by rfl) (by rfl)
           clear hx hKc hK0
           have q_ := up_cell hb1 KW.out
           simp only [runOf1, List.set_cons_succ, List.set_cons_zero, setSlot, show List.range' 218 36 = [218, 219, 220, 221, 222, 223, 224, 225, 226, 227, 228, 229, 230, 231, 232, 233, 234, 235, 236, 237, 238, 239, 240, 241, 242, 243, 244, 245, 246, 247, 248, 249, 250, 251, 252, 253] from rfl, List.take_succ_cons, List.take_zero, List.drop_succ_cons, List.drop_zero, List.map_cons, List.map_nil, List.cons_append, List.nil_append, Nat.reduceAdd, Nat.reduceEqDiff, if_true, if_false, List.getD_cons_zero, List.getD_cons_succ, Nat.zero_add] at hK ⊢
           simp only [e224, e229] at hK ⊢
           clear e224 e229
           go_wp2_with (fail)
           exact hK _ _ (Below.refl _ _) rfl
          ·intro xq w1 hb1 hx K hK0
           have hK := fun v w' hb => hK0 v w' (.inl hb)
           have e224 : xq 224 = .bool true := hx 6 (by rfl) (by rfl)
           clear hx hKc hK0
           simp only [runOf1, List.set_cons_succ, List.set_cons_zero, setSlot, show List.range' 218 36 = [218, 219, 220, 221, 222, 223, 224, 225, 226, 227, 228, 229, 230, 231, 232, 233, 234, 235, 236, 237, 238, 239, 240, 241, 242, 243, 244, 245, 246, 247, 248, 249, 250, 251, 252, 253] from rfl, List.take_succ_cons, List.take_zero, List.drop_succ_cons, List.drop_zero, List.map_cons, List.map_nil, List.cons_append, List.nil_append, Nat.reduceAdd, Nat.reduceEqDiff, if_true, if_false, List.getD_cons_zero, List.getD_cons_succ, Nat.zero_add] at hK ⊢
           simp only [e224] at hK ⊢
           clear e224
           go_wp2_with (fail)
           exact hK _ _ (Below.refl _ _) rfl
          ·intro xq w1 hb1 hx K hK0
           have hK := fun v w' hb => hK0 v w' (.inl hb)
           have e224 : xq 224 = .bool true := hx 6 (by rfl) (by rfl)
           have e231 : xq 231 = .pointer (some ⟨w3.heap.size, 0, none⟩) := hx 13 (by rfl) (by rfl)
           clear hx hKc hK0
           have q_ := up_cell hb1 KC.out
           simp only [runOf1, List.set_cons_succ, List.set_cons_zero, setSlot, show List.range' 218 36 = [218, 219, 220, 221, 222, 223, 224, 225, 226, 227, 228, 229, 230, 231, 232, 233, 234, 235, 236, 237, 238, 239, 240, 241, 242, 243, 244, 245, 246, 247, 248, 249, 250, 251, 252, 253] from rfl, List.take_succ_cons, List.take_zero, List.drop_succ_cons, List.drop_zero, List.map_cons, List.map_nil, List.cons_append, List.nil_append, Nat.reduceAdd, Nat.reduceEqDiff, if_true, if_false, List.getD_cons_zero, List.getD_cons_succ, Nat.zero_add] at hK ⊢
           simp only [e224, e231] at hK ⊢
           clear e224 e231
           go_wp2_with (fail)
           exact hK _ _ (Below.refl _ _) rfl
          ·intro xq w1 hb1 hx K hK0
           have hK := fun v w' hb => hK0 v w' (.inl hb)
           have e224 : xq 224 = .bool true := hx 6 (by rfl) (by rfl)
           have e230 : xq 230 = .int .i64 (x.warm) := hx 12 (by rfl) (by rfl)
           have e232 : xq 232 = .int .i64 (b.cool) := hx 14 (by rfl) (by rfl)
           clear hx hKc hK0
           simp only [runOf1, List.set_cons_succ, List.set_cons_zero, setSlot, show List.range' 218 36 = [218, 219, 220, 221, 222, 223, 224, 225, 226, 227, 228, 229, 230, 231, 232, 233, 234, 235, 236, 237, 238, 239, 240, 241, 242, 243, 244, 245, 246, 247, 248, 249, 250, 251, 252, 253] from rfl, List.take_succ_cons, List.take_zero, List.drop_succ_cons, List.drop_zero, List.map_cons, List.map_nil, List.cons_append, List.nil_append, Nat.reduceAdd, Nat.reduceEqDiff, if_true, if_false, List.getD_cons_zero, List.getD_cons_succ, Nat.zero_add] at hK ⊢
           simp only [e224, e230, e232] at hK ⊢
           clear e224 e230 e232
           go_wp2_with (fail)
           first | exact hK _ _ (Below.refl _ _) rfl | exact hK _ _ (Below.refl _ _) (congrArg Value.bool (decide_eq_true (by omega)))
          ·intro xq w1 hb1 hx K hK0
           have hK := fun v w' hb => hK0 v w' (.inl hb)
           have e224 : xq 224 = .bool true := hx 6 (by rfl) (by rfl)
           have e233 : xq 233 = .bool true := hx 15 (by rfl) (by rfl)
           clear hx hKc hK0
           simp only [runOf1, List.set_cons_succ, List.set_cons_zero, setSlot, show List.range' 218 36 = [218, 219, 220, 221, 222, 223, 224, 225, 226, 227, 228, 229, 230, 231, 232, 233, 234, 235, 236, 237, 238, 239, 240, 241, 242, 243, 244, 245, 246, 247, 248, 249, 250, 251, 252, 253] from rfl, List.take_succ_cons, List.take_zero, List.drop_succ_cons, List.drop_zero, List.map_cons, List.map_nil, List.cons_append, List.nil_append, Nat.reduceAdd, Nat.reduceEqDiff, if_true, if_false, List.getD_cons_zero, List.getD_cons_succ, Nat.zero_add] at hK ⊢
           simp only [e224, e233] at hK ⊢
           clear e224 e233
           go_wp2_with (fail)
           exact hK _ _ (Below.refl _ _) rfl
          ·intro xq w1 hb1 hx K hK0
           have hK := fun v w' hb => hK0 v w' (.inl hb)
           have e234 : xq 234 = .bool true := hx 16 (by rfl) (by rfl)
           clear hx hKc hK0
           simp only [runOf1, List.set_cons_succ, List.set_cons_zero, setSlot, show List.range' 218 36 = [218, 219, 220, 221, 222, 223, 224, 225, 226, 227, 228, 229, 230, 231, 232, 233, 234, 235, 236, 237, 238, 239, 240, 241, 242, 243, 244, 245, 246, 247, 248, 249, 250, 251, 252, 253] from rfl, List.take_succ_cons, List.take_zero, List.drop_succ_cons, List.drop_zero, List.map_cons, List.map_nil, List.cons_append, List.nil_append, Nat.reduceAdd, Nat.reduceEqDiff, if_true, if_false, List.getD_cons_zero, List.getD_cons_succ, Nat.zero_add] at hK ⊢
           simp only [e234] at hK ⊢
           clear e234
           go_wp2_with (fail)
           exact hK _ _ (Below.refl _ _) trivial
          ·intro xq w1 hb1 hx K hK0
           have hK := fun v w' hb => hK0 v w' (.inl hb)
           have e234 : xq 234 = .bool true := hx 16 (by rfl) (by rfl)
           clear hx hKc hK0
           have q_ := up_cell hb1 KC.out
           simp only [runOf1, List.set_cons_succ, List.set_cons_zero, setSlot, show List.range' 218 36 = [218, 219, 220, 221, 222, 223, 224, 225, 226, 227, 228, 229, 230, 231, 232, 233, 234, 235, 236, 237, 238, 239, 240, 241, 242, 243, 244, 245, 246, 247, 248, 249, 250, 251, 252, 253] from rfl, List.take_succ_cons, List.take_zero, List.drop_succ_cons, List.drop_zero, List.map_cons, List.map_nil, List.cons_append, List.nil_append, Nat.reduceAdd, Nat.reduceEqDiff, if_true, if_false, List.getD_cons_zero, List.getD_cons_succ, Nat.zero_add] at hK ⊢
           simp only [e234] at hK ⊢
           clear e234
           go_wp2_with (fail)
           exact hK _ _ (Below.refl _ _) trivial
          ·intro xq w1 hb1 hx K hK0
           have hK := fun v w' hb => hK0 v w' (.inl hb)
           have e234 : xq 234 = .bool true := hx 16 (by rfl) (by rfl)
           clear hx hKc hK0
           simp only [runOf1, List.set_cons_succ, List.set_cons_zero, setSlot, show List.range' 218 36 = [218, 219, 220, 221, 222, 223, 224, 225, 226, 227, 228, 229, 230, 231, 232, 233, 234, 235, 236, 237, 238, 239, 240, 241, 242, 243, 244, 245, 246, 247, 248, 249, 250, 251, 252, 253] from rfl, List.take_succ_cons, List.take_zero, List.drop_succ_cons, List.drop_zero, List.map_cons, List.map_nil, List.cons_append, List.nil_append, Nat.reduceAdd, Nat.reduceEqDiff, if_true, if_false, List.getD_cons_zero, List.getD_cons_succ, Nat.zero_add] at hK ⊢
           simp only [e234] at hK ⊢
           clear e234
           go_wp2_with (fail)
           exact hK _ _ (Below.refl _ _) trivial
          ·intro xq w1 hb1 hx K hK0
           have hK := fun v w' hb => hK0 v w' (.inl hb)
           have e234 : xq 234 = .bool true := hx 16 (by rfl) (by rfl)
           clear hx hKc hK0
           have q_ := up_cell hb1 K8.out
           simp only [runOf1, List.set_cons_succ, List.set_cons_zero, setSlot, show List.range' 218 36 = [218, 219, 220, 221, 222, 223, 224, 225, 226, 227, 228, 229, 230, 231, 232, 233, 234, 235, 236, 237, 238, 239, 240, 241, 242, 243, 244, 245, 246, 247, 248, 249, 250, 251, 252, 253] from rfl, List.take_succ_cons, List.take_zero, List.drop_succ_cons, List.drop_zero, List.map_cons, List.map_nil, List.cons_append, List.nil_append, Nat.reduceAdd, Nat.reduceEqDiff, if_true, if_false, List.getD_cons_zero, List.getD_cons_succ, Nat.zero_add] at hK ⊢
           simp only [e234] at hK ⊢
           clear e234
           go_wp2_with (fail)
           exact hK _ _ (Below.refl _ _) trivial
          ·intro xq w1 hb1 hx K hK0
           have hK := fun v w' hb => hK0 v w' (.inl hb)
           have e234 : xq 234 = .bool true := hx 16 (by rfl) (by rfl)
           clear hx hKc hK0
           simp only [runOf1, List.set_cons_succ, List.set_cons_zero, setSlot, show List.range' 218 36 = [218, 219, 220, 221, 222, 223, 224, 225, 226, 227, 228, 229, 230, 231, 232, 233, 234, 235, 236, 237, 238, 239, 240, 241, 242, 243, 244, 245, 246, 247, 248, 249, 250, 251, 252, 253] from rfl, List.take_succ_cons, List.take_zero, List.drop_succ_cons, List.drop_zero, List.map_cons, List.map_nil, List.cons_append, List.nil_append, Nat.reduceAdd, Nat.reduceEqDiff, if_true, if_false, List.getD_cons_zero, List.getD_cons_succ, Nat.zero_add] at hK ⊢
           simp only [e234] at hK ⊢
           clear e234
           go_wp2_with (fail)
           exact hK _ _ (Below.refl _ _) trivial
          ·intro xq w1 hb1 hx K hK0
           have hK := fun v w' hb => hK0 v w' (.inl hb)
           have e234 : xq 234 = .bool true := hx 16 (by rfl) (by rfl)
           clear hx hKc hK0
           simp only [runOf1, List.set_cons_succ, List.set_cons_zero, setSlot, show List.range' 218 36 = [218, 219, 220, 221, 222, 223, 224, 225, 226, 227, 228, 229, 230, 231, 232, 233, 234, 235, 236, 237, 238, 239, 240, 241, 242, 243, 244, 245, 246, 247, 248, 249, 250, 251, 252, 253] from rfl, List.take_succ_cons, List.take_zero, List.drop_succ_cons, List.drop_zero, List.map_cons, List.map_nil, List.cons_append, List.nil_append, Nat.reduceAdd, Nat.reduceEqDiff, if_true, if_false, List.getD_cons_zero, List.getD_cons_succ, Nat.zero_add] at hK ⊢
           simp only [e234] at hK ⊢
           clear e234
           go_wp2_with (fail)
           exact hK _ _ (Below.refl _ _) trivial
          ·intro xq w1 hb1 hx K hK0
           have hK := fun v w' hb => hK0 v w' (.inl hb)
           have e234 : xq 234 = .bool true := hx 16 (by rfl) (by rfl)
           clear hx hKc hK0
           simp only [runOf1, List.set_cons_succ, List.set_cons_zero, setSlot, show List.range' 218 36 = [218, 219, 220, 221, 222, 223, 224, 225, 226, 227, 228, 229, 230, 231, 232, 233, 234, 235, 236, 237, 238, 239, 240, 241, 242, 243, 244, 245, 246, 247, 248, 249, 250, 251, 252, 253] from rfl, List.take_succ_cons, List.take_zero, List.drop_succ_cons, List.drop_zero, List.map_cons, List.map_nil, List.cons_append, List.nil_append, Nat.reduceAdd, Nat.reduceEqDiff, if_true, if_false, List.getD_cons_zero, List.getD_cons_succ, Nat.zero_add] at hK ⊢
           simp only [e234] at hK ⊢
           clear e234
           go_wp2_with (fail)
           exact hK _ _ (Below.refl _ _) trivial
          ·intro xq w1 hb1 hx K hK0
           have hK := fun v w' hb => hK0 v w' (.inl hb)
           have e234 : xq 234 = .bool true := hx 16 (by rfl) (by rfl)
           clear hx hKc hK0
           have q_ := up_cell hb1 KM.out
           simp only [runOf1, List.set_cons_succ, List.set_cons_zero, setSlot, show List.range' 218 36 = [218, 219, 220, 221, 222, 223, 224, 225, 226, 227, 228, 229, 230, 231, 232, 233, 234, 235, 236, 237, 238, 239, 240, 241, 242, 243, 244, 245, 246, 247, 248, 249, 250, 251, 252, 253] from rfl, List.take_succ_cons, List.take_zero, List.drop_succ_cons, List.drop_zero, List.map_cons, List.map_nil, List.cons_append, List.nil_append, Nat.reduceAdd, Nat.reduceEqDiff, if_true, if_false, List.getD_cons_zero, List.getD_cons_succ, Nat.zero_add] at hK ⊢
           simp only [e234] at hK ⊢
           clear e234
           go_wp2_with (fail)
           exact hK _ _ (Below.refl _ _) trivial
          ·intro xq w1 hb1 hx K hK0
           have hK := fun v w' hb => hK0 v w' (.inl hb)
           have e234 : xq 234 = .bool true := hx 16 (by rfl) (by rfl)
           clear hx hKc hK0
           simp only [runOf1, List.set_cons_succ, List.set_cons_zero, setSlot, show List.range' 218 36 = [218, 219, 220, 221, 222, 223, 224, 225, 226, 227, 228, 229, 230, 231, 232, 233, 234, 235, 236, 237, 238, 239, 240, 241, 242, 243, 244, 245, 246, 247, 248, 249, 250, 251, 252, 253] from rfl, List.take_succ_cons, List.take_zero, List.drop_succ_cons, List.drop_zero, List.map_cons, List.map_nil, List.cons_append, List.nil_append, Nat.reduceAdd, Nat.reduceEqDiff, if_true, if_false, List.getD_cons_zero, List.getD_cons_succ, Nat.zero_add] at hK ⊢
           simp only [e234] at hK ⊢
           clear e234
           go_wp2_with (fail)
           first | exact hK _ _ (Below.refl _ _) rfl | exact hK _ _ (Below.refl _ _) trivial | exact hK _ _ (Below.refl _ _) (congrArg Value.bool (decide_eq_false (by omega)))
          ·intro xq w1 hb1 hx K hK0
           have hK := fun v w' hb => hK0 v w' (.inl hb)
           have e224 : xq 224 = .bool true := hx 6 (by rfl) (by rfl)
           have e234 : xq 234 = .bool true := hx 16 (by rfl) (by rfl)
           clear hx hKc hK0
           simp only [runOf1, List.set_cons_succ, List.set_cons_zero, setSlot, show List.range' 218 36 = [218, 219, 220, 221, 222, 223, 224, 225, 226, 227, 228, 229, 230, 231, 232, 233, 234, 235, 236, 237, 238, 239, 240, 241, 242, 243, 244, 245, 246, 247, 248, 249, 250, 251, 252, 253] from rfl, List.take_succ_cons, List.take_zero, List.drop_succ_cons, List.drop_zero, List.map_cons, List.map_nil, List.cons_append, List.nil_append, Nat.reduceAdd, Nat.reduceEqDiff, if_true, if_false, List.getD_cons_zero, List.getD_cons_succ, Nat.zero_add] at hK ⊢
           simp only [e224, e234] at hK ⊢
           clear e224 e234
           go_wp2_with (fail)
           exact hK _ _ (Below.refl _ _) rfl
          ·intro xq w1 hb1 hx K hK0
           have hK := fun v w' hb => hK0 v w' (.inl hb)
           have e224 : xq 224 = .bool true := hx 6 (by rfl) (by rfl)
           have e244 : xq 244 = .bool true := hx 26 (by rfl) (by rfl)
           clear hx hKc hK0
           simp only [runOf1, List.set_cons_succ, List.set_cons_zero, setSlot, show List.range' 218 36 = [218, 219, 220, 221, 222, 223, 224, 225, 226, 227, 228, 229, 230, 231, 232, 233, 234, 235, 236, 237, 238, 239, 240, 241, 242, 243, 244, 245, 246, 247, 248, 249, 250, 251, 252, 253] from rfl, List.take_succ_cons, List.take_zero, List.drop_succ_cons, List.drop_zero, List.map_cons, List.map_nil, List.cons_append, List.nil_append, Nat.reduceAdd, Nat.reduceEqDiff, if_true, if_false, List.getD_cons_zero, List.getD_cons_succ, Nat.zero_add] at hK ⊢
           simp only [e224, e244] at hK ⊢
           clear e224 e244
           go_wp2_with (fail)
           exact hK _ _ (Below.refl _ _) rfl
          ·intro xq w1 hb1 hx K hK0
           have hK := fun v w' hb => hK0 v w' (.inl hb)
           have e245 : xq 245 = .bool true := hx 27 (by rfl) (by rfl)
           clear hx hKc hK0
           simp only [runOf1, List.set_cons_succ, List.set_cons_zero, setSlot, show List.range' 218 36 = [218, 219, 220, 221, 222, 223, 224, 225, 226, 227, 228, 229, 230, 231, 232, 233, 234, 235, 236, 237, 238, 239, 240, 241, 242, 243, 244, 245, 246, 247, 248, 249, 250, 251, 252, 253] from rfl, List.take_succ_cons, List.take_zero, List.drop_succ_cons, List.drop_zero, List.map_cons, List.map_nil, List.cons_append, List.nil_append, Nat.reduceAdd, Nat.reduceEqDiff, if_true, if_false, List.getD_cons_zero, List.getD_cons_succ, Nat.zero_add] at hK ⊢
           simp only [e245] at hK ⊢
           clear e245
           go_wp2_with (fail)
           exact hK _ _ (Below.refl _ _) trivial
          ·intro xq w1 hb1 hx K hK0
           have hK := fun v w' hb => hK0 v w' (.inl hb)
           have e245 : xq 245 = .bool true := hx 27 (by rfl) (by rfl)
           clear hx hKc hK0
           simp only [runOf1, List.set_cons_succ, List.set_cons_zero, setSlot, show List.range' 218 36 = [218, 219, 220, 221, 222, 223, 224, 225, 226, 227, 228, 229, 230, 231, 232, 233, 234, 235, 236, 237, 238, 239, 240, 241, 242, 243, 244, 245, 246, 247, 248, 249, 250, 251, 252, 253] from rfl, List.take_succ_cons, List.take_zero, List.drop_succ_cons, List.drop_zero, List.map_cons, List.map_nil, List.cons_append, List.nil_append, Nat.reduceAdd, Nat.reduceEqDiff, if_true, if_false, List.getD_cons_zero, List.getD_cons_succ, Nat.zero_add] at hK ⊢
           simp only [e245] at hK ⊢
           clear e245
           go_wp2_with (fail)
           exact hK _ _ (Below.refl _ _) trivial
          ·intro xq w1 hb1 hx K hK0
           have hK := fun v w' hb => hK0 v w' (.inl hb)
           have e245 : xq 245 = .bool true := hx 27 (by rfl) (by rfl)
           clear hx hKc hK0
           simp only [runOf1, List.set_cons_succ, List.set_cons_zero, setSlot, show List.range' 218 36 = [218, 219, 220, 221, 222, 223, 224, 225, 226, 227, 228, 229, 230, 231, 232, 233, 234, 235, 236, 237, 238, 239, 240, 241, 242, 243, 244, 245, 246, 247, 248, 249, 250, 251, 252, 253] from rfl, List.take_succ_cons, List.take_zero, List.drop_succ_cons, List.drop_zero, List.map_cons, List.map_nil, List.cons_append, List.nil_append, Nat.reduceAdd, Nat.reduceEqDiff, if_true, if_false, List.getD_cons_zero, List.getD_cons_succ, Nat.zero_add] at hK ⊢
           simp only [e245] at hK ⊢
           clear e245
           go_wp2_with (fail)
           first | exact hK _ _ (Below.refl _ _) rfl | exact hK _ _ (Below.refl _ _) trivial | exact hK _ _ (Below.refl _ _) (congrArg Value.bool (decide_eq_true (by omega)))
          ·intro xq w1 hb1 hx K hK0
           have hK := fun v w' hb => hK0 v w' (.inl hb)
           have e224 : xq 224 = .bool true := hx 6 (by rfl) (by rfl)
           have e245 : xq 245 = .bool true := hx 27 (by rfl) (by rfl)
           clear hx hKc hK0
           simp only [runOf1, List.set_cons_succ, List.set_cons_zero, setSlot, show List.range' 218 36 = [218, 219, 220, 221, 222, 223, 224, 225, 226, 227, 228, 229, 230, 231, 232, 233, 234, 235, 236, 237, 238, 239, 240, 241, 242, 243, 244, 245, 246, 247, 248, 249, 250, 251, 252, 253] from rfl, List.take_succ_cons, List.take_zero, List.drop_succ_cons, List.drop_zero, List.map_cons, List.map_nil, List.cons_append, List.nil_append, Nat.reduceAdd, Nat.reduceEqDiff, if_true, if_false, List.getD_cons_zero, List.getD_cons_succ, Nat.zero_add] at hK ⊢
           simp only [e224, e245] at hK ⊢
           clear e224 e245
           go_wp2_with (fail)
           exact hK _ _ (Below.refl _ _) rfl
          ·intro xq w1 hb1 hx K hK0
           have hK := fun v w' hb => hK0 v w' (.inl hb)
           have e224 : xq 224 = .bool true := hx 6 (by rfl) (by rfl)
           have e249 : xq 249 = .bool true := hx 31 (by rfl) (by rfl)
           clear hx hKc hK0
           simp only [runOf1, List.set_cons_succ, List.set_cons_zero, setSlot, show List.range' 218 36 = [218, 219, 220, 221, 222, 223, 224, 225, 226, 227, 228, 229, 230, 231, 232, 233, 234, 235, 236, 237, 238, 239, 240, 241, 242, 243, 244, 245, 246, 247, 248, 249, 250, 251, 252, 253] from rfl, List.take_succ_cons, List.take_zero, List.drop_succ_cons, List.drop_zero, List.map_cons, List.map_nil, List.cons_append, List.nil_append, Nat.reduceAdd, Nat.reduceEqDiff, if_true, if_false, List.getD_cons_zero, List.getD_cons_succ, Nat.zero_add] at hK ⊢
           simp only [e224, e249] at hK ⊢
           clear e224 e249
           go_wp2_with (fail)
           exact hK _ _ (Below.refl _ _) rfl
          ·intro xq w1 hb1 hx K hK0
           have hK := fun v w' hb => hK0 v w' (.inl hb)
           have e250 : xq 250 = .bool true := hx 32 (by rfl) (by rfl)
           clear hx hKc hK0
           simp only [runOf1, List.set_cons_succ, List.set_cons_zero, setSlot, show List.range' 218 36 = [218, 219, 220, 221, 222, 223, 224, 225, 226, 227, 228, 229, 230, 231, 232, 233, 234, 235, 236, 237, 238, 239, 240, 241, 242, 243, 244, 245, 246, 247, 248, 249, 250, 251, 252, 253] from rfl, List.take_succ_cons, List.take_zero, List.drop_succ_cons, List.drop_zero, List.map_cons, List.map_nil, List.cons_append, List.nil_append, Nat.reduceAdd, Nat.reduceEqDiff, if_true, if_false, List.getD_cons_zero, List.getD_cons_succ, Nat.zero_add] at hK ⊢
           simp only [e250] at hK ⊢
           clear e250
           go_wp2_with (fail)
           exact hK _ _ (Below.refl _ _) rfl
          ·intro xq w1 hb1 hx K hK0
           have hK := fun v w' hb => hK0 v w' (.inl hb)
           have e251 : xq 251 = .bool true := hx 33 (by rfl) (by rfl)
           clear hx hKc hK0
           simp only [runOf1, List.set_cons_succ, List.set_cons_zero, setSlot, show List.range' 218 36 = [218, 219, 220, 221, 222, 223, 224, 225, 226, 227, 228, 229, 230, 231, 232, 233, 234, 235, 236, 237, 238, 239, 240, 241, 242, 243, 244, 245, 246, 247, 248, 249, 250, 251, 252, 253] from rfl, List.take_succ_cons, List.take_zero, List.drop_succ_cons, List.drop_zero, List.map_cons, List.map_nil, List.cons_append, List.nil_append, Nat.reduceAdd, Nat.reduceEqDiff, if_true, if_false, List.getD_cons_zero, List.getD_cons_succ, Nat.zero_add] at hK ⊢
           simp only [e251] at hK ⊢
           clear e251
           go_wp2_with ((go_at_call 14; refine (HAW.out _).mono ?_; rintro e w2' ⟨rfl, hbw⟩))
           exact hK _ _ hbw rfl
          ·intro xq w1 hb1 hx K hK0
           have hK := fun v w' hb => hK0 v w' (.inl hb)
           have e251 : xq 251 = .bool true := hx 33 (by rfl) (by rfl)
           have e252 : xq 252 = .bool true := hx 34 (by rfl) (by rfl)
           clear hx hKc hK0
           simp only [runOf1, List.set_cons_succ, List.set_cons_zero, setSlot, show List.range' 218 36 = [218, 219, 220, 221, 222, 223, 224, 225, 226, 227, 228, 229, 230, 231, 232, 233, 234, 235, 236, 237, 238, 239, 240, 241, 242, 243, 244, 245, 246, 247, 248, 249, 250, 251, 252, 253] from rfl, List.take_succ_cons, List.take_zero, List.drop_succ_cons, List.drop_zero, List.map_cons, List.map_nil, List.cons_append, List.nil_append, Nat.reduceAdd, Nat.reduceEqDiff, if_true, if_false, List.getD_cons_zero, List.getD_cons_succ, Nat.zero_add] at hK ⊢
           simp only [e251, e252] at hK ⊢
           clear e251 e252
           go_wp2_with (fail)
           exact hK _ _ (Below.refl _ _) rfl
          ·intro xq w1 hb1 hx K hK0
           have hK := fun v w' hb => hK0 v w' (.inl hb)
           have e253 : xq 253 = .bool true := hx 35 (by rfl) (by rfl)
           clear hx hKc hK0
           simp only [runOf1, List.set_cons_succ, List.set_cons_zero, setSlot, show List.range' 218 36 = [218, 219, 220, 221, 222, 223, 224, 225, 226, 227, 228, 229, 230, 231, 232, 233, 234, 235, 236, 237, 238, 239, 240, 241, 242, 243, 244, 245, 246, 247, 248, 249, 250, 251, 252, 253] from rfl, List.take_succ_cons, List.take_zero, List.drop_succ_cons, List.drop_zero, List.map_cons, List.map_nil, List.cons_append, List.nil_append, Nat.reduceAdd, Nat.reduceEqDiff, if_true, if_false, List.getD_cons_zero, List.getD_cons_succ, Nat.zero_add] at hK ⊢
           simp only [e253] at hK ⊢
           clear e253
           go_wp2_with (fail)
           exact hK _ _ (Below.refl _ _) rfl
         ·intro xq w1 hb1 hx
          have e218 : xq 218 = .int .i64 (lf) := hx 0 (by decide)
          have e219 : xq 219 = .bool true := hx 1 (by decide)
          have e220 : xq 220 = .bool true := hx 2 (by decide)
          have e221 : xq 221 = .int .i64 (ls) := hx 3 (by decide)
          have e222 : xq 222 = .bool true := hx 4 (by decide)
          have e223 : xq 223 = .bool true := hx 5 (by decide)
          have e224 : xq 224 = .bool true := hx 6 (by decide)
          have e225 : xq 225 = .pointer (some ⟨w3.heap.size, 8, none⟩) := hx 7 (by decide)
          have e226 : xq 226 = .slice (some ⟨E0, oo, none⟩) bs.length c := hx 8 (by decide)
          have e227 : xq 227 = .int .i64 (k : Int) := hx 9 (by decide)
          have e228 : xq 228 = .pointer (some ⟨E0, oo + k * 4, none⟩) := hx 10 (by decide)
          have e229 : xq 229 = .pointer (some ⟨E0, oo + k * 4, none⟩) := hx 11 (by decide)
          have e230 : xq 230 = .int .i64 (x.warm) := hx 12 (by decide)
          have e231 : xq 231 = .pointer (some ⟨w3.heap.size, 0, none⟩) := hx 13 (by decide)
          have e232 : xq 232 = .int .i64 (b.cool) := hx 14 (by decide)
          have e233 : xq 233 = .bool true := hx 15 (by decide)
          have e234 : xq 234 = .bool true := hx 16 (by decide)
          have e244 : xq 244 = .bool true := hx 26 (by decide)
          have e245 : xq 245 = .bool true := hx 27 (by decide)
          have e249 : xq 249 = .bool true := hx 31 (by decide)
          have e250 : xq 250 = .bool true := hx 32 (by decide)
          have e251 : xq 251 = .bool true := hx 33 (by decide)
          have e252 : xq 252 = .bool true := hx 34 (by decide)
          have e253 : xq 253 = .bool true := hx 35 (by decide)
          have e6 : xq 6 = .bool true := hx 36 (by decide)
          clear hx
          simp only [runOf1, List.set_cons_succ, List.set_cons_zero, setSlot, show List.range' 218 36 = [218, 219, 220, 221, 222, 223, 224, 225, 226, 227, 228, 229, 230, 231, 232, 233, 234, 235, 236, 237, 238, 239, 240, 241, 242, 243, 244, 245, 246, 247, 248, 249, 250, 251, 252, 253] from rfl, List.take_succ_cons, List.take_zero, List.drop_succ_cons, List.drop_zero, List.map_cons, List.map_nil, List.cons_append, List.nil_append, Nat.reduceAdd, Nat.reduceEqDiff, if_true, if_false, List.getD_cons_zero, List.getD_cons_succ, Nat.zero_add]
          simp only [e218, e219, e220, e221, e222, e223, e224, e225, e226, e227, e228, e229, e230, e231, e232, e233, e234, e244, e245, e249, e250, e251, e252, e253, e6]
          clear e218 e219 e220 e221 e222 e223 e224 e225 e226 e227 e228 e229 e230 e231 e232 e233 e234 e244 e245 e249 e250 e251 e252 e253 e6
          refine hKc _ _ ?_
          go_wp2_with fail
          first | (go_ret; exact ⟨rfl, (HW11.out.trans (HBT.out.mono HW11.out.size)).trans (hb1.mono (Nat.le_trans HW11.out.size HBT.out.size))⟩) | (go_ret; exact (HW11.out.trans (HBT.out.mono HW11.out.size)).trans (hb1.mono (Nat.le_trans HW11.out.size HBT.out.size)))
        ·have hwc' : b.cool ≤ x.warm := by omega
         have f3' := f3 hwc'
         have hwm9 : b.cool ≤ x.mark := by omega
         rename_i Kc5 hKc
         refine wp_region_partsR1 6 218 36 (by kernel_rfl) [some 218, some 219, some 220, some 221, some 222, some 223, some 224, some 225, some 226, some 227, some 228, some 229, some 230, some 231, some 232, some 233, some 234, some 235, some 236, some 237, some 238, some 239, some 240, some 241, some 242, some 243, some 244, some 245, some 246, some 247, some 248, some 249, some 250, some 251, some 252, some 253, some 6] (fun jq xq w' => match jq with
          | 0 => xq 218 = .int .i64 (lf)
          | 1 => xq 219 = .bool true
          | 2 => xq 220 = .bool true
          | 3 => xq 221 = .int .i64 (ls)
          | 4 => xq 222 = .bool true
          | 5 => xq 223 = .bool true
          | 6 => xq 224 = .bool true
          | 7 => xq 225 = .pointer (some ⟨w3.heap.size, 8, none⟩)
          | 8 => xq 226 = .slice (some ⟨E0, oo, none⟩) bs.length c
          | 9 => xq 227 = .int .i64 (k : Int)
          | 10 => xq 228 = .pointer (some ⟨E0, oo + k * 4, none⟩)
          | 11 => xq 229 = .pointer (some ⟨E0, oo + k * 4, none⟩)
          | 12 => xq 230 = .int .i64 (x.warm)
          | 13 => xq 231 = .pointer (some ⟨w3.heap.size, 0, none⟩)
          | 14 => xq 232 = .int .i64 (b.cool)
          | 15 => xq 233 = .bool false
          | 16 => xq 234 = .bool false
          | 17 => xq 235 = .pointer (some ⟨w3.heap.size, 0, none⟩)
          | 18 => xq 236 = .int .i64 (b.cool)
          | 19 => xq 237 = .pointer (some ⟨w3.heap.size, 8, none⟩)
          | 20 => xq 238 = .slice (some ⟨E0, oo, none⟩) bs.length c
          | 21 => xq 239 = .int .i64 (k : Int)
          | 22 => xq 240 = .pointer (some ⟨E0, oo + k * 4, none⟩)
          | 23 => xq 241 = .pointer (some ⟨E0, oo + k * 4 + 1, none⟩)
          | 24 => xq 242 = .int .i64 (x.mark)
          | 25 => xq 243 = .bool false
          | 26 => xq 244 = .bool false
          | 27 => xq 245 = .bool false
          | 28 => xq 246 = .int .i64 (ls)
          | 29 => xq 247 = .int .i64 (lf)
          | 30 => xq 248 = .bool true
          | 31 => xq 249 = .bool true
          | 32 => xq 250 = .bool true
          | 33 => xq 251 = .bool true
          | 34 => xq 252 = .bool true
          | 35 => xq 253 = .bool true
          | 36 => xq 6 = .bool true
          | _ => True) [[218], [219], [220], [221], [222], [223], [224], [225], [226], [227], [228], [229], [230], [231], [232], [233], [234], [235], [236], [237], [238], [239], [240], [241], [242], [243], [244], [245], [246], [247], [248], [249], [250], [251], [252], [253], [6]] [] (Below wt.heap.size wt) (by kernel_rfl) (by rfl) (by kernel_rfl) (by rfl) ?_ ?_ (fun w' w'' hb h => h.trans (hb.mono h.size)) (Below.refl _ _) ?_ ?_ ?_
         ·intro jq xq xq' wqq h hv
          match jq, h, hv with
          | 0, h, hv => show xq' 218 = .int .i64 (lf); rw [← h 218 (by decide)]; exact hv
          | 1, h, hv => show xq' 219 = .bool true; rw [← h 219 (by decide)]; exact hv
          | 2, h, hv => show xq' 220 = .bool true; rw [← h 220 (by decide)]; exact hv
          | 3, h, hv => show xq' 221 = .int .i64 (ls); rw [← h 221 (by decide)]; exact hv
          | 4, h, hv => show xq' 222 = .bool true; rw [← h 222 (by decide)]; exact hv
          | 5, h, hv => show xq' 223 = .bool true; rw [← h 223 (by decide)]; exact hv
          | 6, h, hv => show xq' 224 = .bool true; rw [← h 224 (by decide)]; exact hv
          | 7, h, hv => show xq' 225 = .pointer (some ⟨w3.heap.size, 8, none⟩); rw [← h 225 (by decide)]; exact hv
          | 8, h, hv => show xq' 226 = .slice (some ⟨E0, oo, none⟩) bs.length c; rw [← h 226 (by decide)]; exact hv
          | 9, h, hv => show xq' 227 = .int .i64 (k : Int); rw [← h 227 (by decide)]; exact hv
          | 10, h, hv => show xq' 228 = .pointer (some ⟨E0, oo + k * 4, none⟩); rw [← h 228 (by decide)]; exact hv
          | 11, h, hv => show xq' 229 = .pointer (some ⟨E0, oo + k * 4, none⟩); rw [← h 229 (by decide)]; exact hv
          | 12, h, hv => show xq' 230 = .int .i64 (x.warm); rw [← h 230 (by decide)]; exact hv
          | 13, h, hv => show xq' 231 = .pointer (some ⟨w3.heap.size, 0, none⟩); rw [← h 231 (by decide)]; exact hv
          | 14, h, hv => show xq' 232 = .int .i64 (b.cool); rw [← h 232 (by decide)]; exact hv
          | 15, h, hv => show xq' 233 = .bool false; rw [← h 233 (by decide)]; exact hv
          | 16, h, hv => show xq' 234 = .bool false; rw [← h 234 (by decide)]; exact hv
          | 17, h, hv => show xq' 235 = .pointer (some ⟨w3.heap.size, 0, none⟩); rw [← h 235 (by decide)]; exact hv
          | 18, h, hv => show xq' 236 = .int .i64 (b.cool); rw [← h 236 (by decide)]; exact hv
          | 19, h, hv => show xq' 237 = .pointer (some ⟨w3.heap.size, 8, none⟩); rw [← h 237 (by decide)]; exact hv
          | 20, h, hv => show xq' 238 = .slice (some ⟨E0, oo, none⟩) bs.length c; rw [← h 238 (by decide)]; exact hv
          | 21, h, hv => show xq' 239 = .int .i64 (k : Int); rw [← h 239 (by decide)]; exact hv
          | 22, h, hv => show xq' 240 = .pointer (some ⟨E0, oo + k * 4, none⟩); rw [← h 240 (by decide)]; exact hv
          | 23, h, hv => show xq' 241 = .pointer (some ⟨E0, oo + k * 4 + 1, none⟩); rw [← h 241 (by decide)]; exact hv
          | 24, h, hv => show xq' 242 = .int .i64 (x.mark); rw [← h 242 (by decide)]; exact hv
          | 25, h, hv => show xq' 243 = .bool false; rw [← h 243 (by decide)]; exact hv
          | 26, h, hv => show xq' 244 = .bool false; rw [← h 244 (by decide)]; exact hv
          | 27, h, hv => show xq' 245 = .bool false; rw [← h 245 (by decide)]; exact hv
          | 28, h, hv => show xq' 246 = .int .i64 (ls); rw [← h 246 (by decide)]; exact hv
          | 29, h, hv => show xq' 247 = .int .i64 (lf); rw [← h 247 (by decide)]; exact hv
          | 30, h, hv => show xq' 248 = .bool true; rw [← h 248 (by decide)]; exact hv
          | 31, h, hv => show xq' 249 = .bool true; rw [← h 249 (by decide)]; exact hv
          | 32, h, hv => show xq' 250 = .bool true; rw [← h 250 (by decide)]; exact hv
          | 33, h, hv => show xq' 251 = .bool true; rw [← h 251 (by decide)]; exact hv
          | 34, h, hv => show xq' 252 = .bool true; rw [← h 252 (by decide)]; exact hv
          | 35, h, hv => show xq' 253 = .bool true; rw [← h 253 (by decide)]; exact hv
          | 36, h, hv => show xq' 6 = .bool true; rw [← h 6 (by decide)]; exact hv
          | _ + 37, _, _ => trivial
         ·intro jq xq wqq w' hb' hv
          match jq, hv with
          | 0, hv => exact hv
          | 1, hv => exact hv
          | 2, hv => exact hv
          | 3, hv => exact hv
          | 4, hv => exact hv
          | 5, hv => exact hv
          | 6, hv => exact hv
          | 7, hv => exact hv
          | 8, hv => exact hv
          | 9, hv => exact hv
          | 10, hv => exact hv
          | 11, hv => exact hv
          | 12, hv => exact hv
          | 13, hv => exact hv
          | 14, hv => exact hv
          | 15, hv => exact hv
          | 16, hv => exact hv
          | 17, hv => exact hv
          | 18, hv => exact hv
          | 19, hv => exact hv
          | 20, hv => exact hv
          | 21, hv => exact hv
          | 22, hv => exact hv
          | 23, hv => exact hv
          | 24, hv => exact hv
          | 25, hv => exact hv
          | 26, hv => exact hv
          | 27, hv => exact hv
          | 28, hv => exact hv
          | 29, hv => exact hv
          | 30, hv => exact hv
          | 31, hv => exact hv
          | 32, hv => exact hv
          | 33, hv => exact hv
          | 34, hv => exact hv
          | 35, hv => exact hv
          | 36, hv => exact hv
          | _ + 37, _ => trivial
         ·intro jq hj
          match jq, hj with
          | 0, hj => exact absurd hj (by decide)
          | 1, hj => exact absurd hj (by decide)
          | 2, hj => exact absurd hj (by decide)
          | 3, hj => exact absurd hj (by decide)
          | 4, hj => exact absurd hj (by decide)
          | 5, hj => exact absurd hj (by decide)
          | 6, hj => exact absurd hj (by decide)
          | 7, hj => exact absurd hj (by decide)
          | 8, hj => exact absurd hj (by decide)
          | 9, hj => exact absurd hj (by decide)
          | 10, hj => exact absurd hj (by decide)
          | 11, hj => exact absurd hj (by decide)
          | 12, hj => exact absurd hj (by decide)
          | 13, hj => exact absurd hj (by decide)
          | 14, hj => exact absurd hj (by decide)
          | 15, hj => exact absurd hj (by decide)
          | 16, hj => exact absurd hj (by decide)
          | 17, hj => exact absurd hj (by decide)
          | 18, hj => exact absurd hj (by decide)
          | 19, hj => exact absurd hj (by decide)
          | 20, hj => exact absurd hj (by decide)
          | 21, hj => exact absurd hj (by decide)
          | 22, hj => exact absurd hj (by decide)
          | 23, hj => exact absurd hj (by decide)
          | 24, hj => exact absurd hj (by decide)
          | 25, hj => exact absurd hj (by decide)
          | 26, hj => exact absurd hj (by decide)
          | 27, hj => exact absurd hj (by decide)
          | 28, hj => exact absurd hj (by decide)
          | 29, hj => exact absurd hj (by decide)
          | 30, hj => exact absurd hj (by decide)
          | 31, hj => exact absurd hj (by decide)
          | 32, hj => exact absurd hj (by decide)
          | 33, hj => exact absurd hj (by decide)
          | 34, hj => exact absurd hj (by decide)
          | 35, hj => exact absurd hj (by decide)
          | 36, hj => exact absurd hj (by decide)
          | _ + 37, _ => trivial
         ·refine ⟨?_, ?_, ?_, ?_, ?_, ?_, ?_, ?_, ?_, ?_, ?_, ?_, ?_, ?_, ?_, ?_, ?_, ?_, ?_, ?_, ?_, ?_, ?_, ?_, ?_, ?_, ?_, ?_, ?_, ?_, ?_, ?_, ?_, ?_, ?_, ?_, ?_, trivial⟩
          ·intro xq w1 hb1 hx K hK0
           have hK := fun v w' hb => hK0 v w' (.inl hb)
           clear hx hKc hK0
           simp only [runOf1, List.set_cons_succ, List.set_cons_zero, setSlot, show List.range' 218 36 = [218, 219, 220, 221, 222, 223, 224, 225, 226, 227, 228, 229, 230, 231, 232, 233, 234, 235, 236, 237, 238, 239, 240, 241, 242, 243, 244, 245, 246, 247, 248, 249, 250, 251, 252, 253] from rfl, List.take_succ_cons, List.take_zero, List.drop_succ_cons, List.drop_zero, List.map_cons, List.map_nil, List.cons_append, List.nil_append, Nat.reduceAdd, Nat.reduceEqDiff, if_true, if_false, List.getD_cons_zero, List.getD_cons_succ, Nat.zero_add] at hK ⊢
           go_wp2_with (fail)
           exact hK _ _ (Below.refl _ _) rfl
          ·intro xq w1 hb1 hx K hK0
           have hK := fun v w' hb => hK0 v w' (.inl hb)
           have e218 : xq 218 = .int .i64 (lf) := hx 0 (by rfl) (by rfl)
           clear hx hKc hK0
           simp only [runOf1, List.set_cons_succ, List.set_cons_zero, setSlot, show List.range' 218 36 = [218, 219, 220, 221, 222, 223, 224, 225, 226, 227, 228, 229, 230, 231, 232, 233, 234, 235, 236, 237, 238, 239, 240, 241, 242, 243, 244, 245, 246, 247, 248, 249, 250, 251, 252, 253] from rfl, List.take_succ_cons, List.take_zero, List.drop_succ_cons, List.drop_zero, List.map_cons, List.map_nil, List.cons_append, List.nil_append, Nat.reduceAdd, Nat.reduceEqDiff, if_true, if_false, List.getD_cons_zero, List.getD_cons_succ, Nat.zero_add] at hK ⊢
           simp only [e218] at hK ⊢
           clear e218
           go_wp2_with (fail)
           first | exact hK _ _ (Below.refl _ _) rfl | exact hK _ _ (Below.refl _ _) trivial | exact hK _ _ (Below.refl _ _) (congrArg Value.bool (decide_eq_true (by omega)))
          ·intro xq w1 hb1 hx K hK0
           have hK := fun v w' hb => hK0 v w' (.inl hb)
           have e219 : xq 219 = .bool true := hx 1 (by rfl) (by rfl)
           clear hx hKc hK0
           simp only [runOf1, List.set_cons_succ, List.set_cons_zero, setSlot, show List.range' 218 36 = [218, 219, 220, 221, 222, 223, 224, 225, 226, 227, 228, 229, 230, 231, 232, 233, 234, 235, 236, 237, 238, 239, 240, 241, 242, 243, 244, 245, 246, 247, 248, 249, 250, 251, 252, 253] from rfl, List.take_succ_cons, List.take_zero, List.drop_succ_cons, List.drop_zero, List.map_cons, List.map_nil, List.cons_append, List.nil_append, Nat.reduceAdd, Nat.reduceEqDiff, if_true, if_false, List.getD_cons_zero, List.getD_cons_succ, Nat.zero_add] at hK ⊢
           simp only [e219] at hK ⊢
           clear e219
           go_wp2_with (fail)
           exact hK _ _ (Below.refl _ _) rfl
          ·intro xq w1 hb1 hx K hK0
           have hK := fun v w' hb => hK0 v w' (.inl hb)
           have e220 : xq 220 = .bool true := hx 2 (by rfl) (by rfl)
           clear hx hKc hK0
           simp only [runOf1, List.set_cons_succ, List.set_cons_zero, setSlot, show List.range' 218 36 = [218, 219, 220, 221, 222, 223, 224, 225, 226, 227, 228, 229, 230, 231, 232, 233, 234, 235, 236, 237, 238, 239, 240, 241, 242, 243, 244, 245, 246, 247, 248, 249, 250, 251, 252, 253] from rfl, List.take_succ_cons, List.take_zero, List.drop_succ_cons, List.drop_zero, List.map_cons, List.map_nil, List.cons_append, List.nil_append, Nat.reduceAdd, Nat.reduceEqDiff, if_true, if_false, List.getD_cons_zero, List.getD_cons_succ, Nat.zero_add] at hK ⊢
           simp only [e220] at hK ⊢
           clear e220
           go_wp2_with (fail)
           exact hK _ _ (Below.refl _ _) rfl
          ·intro xq w1 hb1 hx K hK0
           have hK := fun v w' hb => hK0 v w' (.inl hb)
           have e220 : xq 220 = .bool true := hx 2 (by rfl) (by rfl)
           have e221 : xq 221 = .int .i64 (ls) := hx 3 (by rfl) (by rfl)
           clear hx hKc hK0
           simp only [runOf1, List.set_cons_succ, List.set_cons_zero, setSlot, show List.range' 218 36 = [218, 219, 220, 221, 222, 223, 224, 225, 226, 227, 228, 229, 230, 231, 232, 233, 234, 235, 236, 237, 238, 239, 240, 241, 242, 243, 244, 245, 246, 247, 248, 249, 250, 251, 252, 253] from rfl, List.take_succ_cons, List.take_zero, List.drop_succ_cons, List.drop_zero, List.map_cons, List.map_nil, List.cons_append, List.nil_append, Nat.reduceAdd, Nat.reduceEqDiff, if_true, if_false, List.getD_cons_zero, List.getD_cons_succ, Nat.zero_add] at hK ⊢
           simp only [e220, e221] at hK ⊢
           clear e220 e221
           go_wp2_with (fail)
           first | exact hK _ _ (Below.refl _ _) rfl | exact hK _ _ (Below.refl _ _) trivial | exact hK _ _ (Below.refl _ _) (congrArg Value.bool (decide_eq_true (by omega)))
          ·intro xq w1 hb1 hx K hK0
           have hK := fun v w' hb => hK0 v w' (.inl hb)
           have e220 : xq 220 = .bool true := hx 2 (by rfl) (by rfl)
           have e222 : xq 222 = .bool true := hx 4 (by rfl) (by rfl)
           clear hx hKc hK0
           simp only [runOf1, List.set_cons_succ, List.set_cons_zero, setSlot, show List.range' 218 36 = [218, 219, 220, 221, 222, 223, 224, 225, 226, 227, 228, 229, 230, 231, 232, 233, 234, 235, 236, 237, 238, 239, 240, 241, 242, 243, 244, 245, 246, 247, 248, 249, 250, 251, 252, 253] from rfl, List.take_succ_cons, List.take_zero, List.drop_succ_cons, List.drop_zero, List.map_cons, List.map_nil, List.cons_append, List.nil_append, Nat.reduceAdd, Nat.reduceEqDiff, if_true, if_false, List.getD_cons_zero, List.getD_cons_succ, Nat.zero_add] at hK ⊢
           simp only [e220, e222] at hK ⊢
           clear e220 e222
           go_wp2_with (fail)
           exact hK _ _ (Below.refl _ _) rfl
          ·intro xq w1 hb1 hx K hK0
           have hK := fun v w' hb => hK0 v w' (.inl hb)
           have e223 : xq 223 = .bool true := hx 5 (by rfl) (by rfl)
           clear hx hKc hK0
           simp only [runOf1, List.set_cons_succ, List.set_cons_zero, setSlot, show List.range' 218 36 = [218, 219, 220, 221, 222, 223, 224, 225, 226, 227, 228, 229, 230, 231, 232, 233, 234, 235, 236, 237, 238, 239, 240, 241, 242, 243, 244, 245, 246, 247, 248, 249, 250, 251, 252, 253] from rfl, List.take_succ_cons, List.take_zero, List.drop_succ_cons, List.drop_zero, List.map_cons, List.map_nil, List.cons_append, List.nil_append, Nat.reduceAdd, Nat.reduceEqDiff, if_true, if_false, List.getD_cons_zero, List.getD_cons_succ, Nat.zero_add] at hK ⊢
           simp only [e223] at hK ⊢
           clear e223
           go_wp2_with (fail)
           exact hK _ _ (Below.refl _ _) rfl
          ·intro xq w1 hb1 hx K hK0
           have hK := fun v w' hb => hK0 v w' (.inl hb)
           have e224 : xq 224 = .bool true := hx 6 (by rfl) (by rfl)
           clear hx hKc hK0
           simp only [runOf1, List.set_cons_succ, List.set_cons_zero, setSlot, show List.range' 218 36 = [218, 219, 220, 221, 222, 223, 224, 225, 226, 227, 228, 229, 230, 231, 232, 233, 234, 235, 236, 237, 238, 239, 240, 241, 242, 243, 244, 245, 246, 247, 248, 249, 250, 251, 252, 253] from rfl, List.take_succ_cons, List.take_zero, List.drop_succ_cons, List.drop_zero, List.map_cons, List.map_nil, List.cons_append, List.nil_append, Nat.reduceAdd, Nat.reduceEqDiff, if_true, if_false, List.getD_cons_zero, List.getD_cons_succ, Nat.zero_add] at hK ⊢
           simp only [e224] at hK ⊢
           clear e224
           go_wp2_with (fail)
           exact hK _ _ (Below.refl _ _) rfl
          ·intro xq w1 hb1 hx K hK0
           have hK := fun v w' hb => hK0 v w' (.inl hb)
           have e224 : xq 224 = .bool true := hx 6 (by rfl) (by rfl)
           have e225 : xq 225 = .pointer (some ⟨w3.heap.size, 8, none⟩) := hx 7 (by rfl) (by rfl)
           clear hx hKc hK0
           have q_ := up_cell hb1 K8.out
           simp only [runOf1, List.set_cons_succ, List.set_cons_zero, setSlot, show List.range' 218 36 = [218, 219, 220, 221, 222, 223, 224, 225, 226, 227, 228, 229, 230, 231, 232, 233, 234, 235, 236, 237, 238, 239, 240, 241, 242, 243, 244, 245, 246, 247, 248, 249, 250, 251, 252, 253] from rfl, List.take_succ_cons, List.take_zero, List.drop_succ_cons, List.drop_zero, List.map_cons, List.map_nil, List.cons_append, List.nil_append, Nat.reduceAdd, Nat.reduceEqDiff, if_true, if_false, List.getD_cons_zero, List.getD_cons_succ, Nat.zero_add] at hK ⊢
           simp only [e224, e225] at hK ⊢
           clear e224 e225
           go_wp2_with (fail)
           exact hK _ _ (Below.refl _ _) rfl
          ·intro xq w1 hb1 hx K hK0
           have hK := fun v w' hb => hK0 v w' (.inl hb)
           have e224 : xq 224 = .bool true := hx 6 (by rfl) (by rfl)
           clear hx hKc hK0
           simp only [runOf1, List.set_cons_succ, List.set_cons_zero, setSlot, show List.range' 218 36 = [218, 219, 220, 221, 222, 223, 224, 225, 226, 227, 228, 229, 230, 231, 232, 233, 234, 235, 236, 237, 238, 239, 240, 241, 242, 243, 244, 245, 246, 247, 248, 249, 250, 251, 252, 253] from rfl, List.take_succ_cons, List.take_zero, List.drop_succ_cons, List.drop_zero, List.map_cons, List.map_nil, List.cons_append, List.nil_append, Nat.reduceAdd, Nat.reduceEqDiff, if_true, if_false, List.getD_cons_zero, List.getD_cons_succ, Nat.zero_add] at hK ⊢
           simp only [e224] at hK ⊢
           clear e224
           go_wp2_with (fail)
           exact hK _ _ (Below.refl _ _) rfl
          ·intro xq w1 hb1 hx K hK0
           have hK := fun v w' hb => hK0 v w' (.inl hb)
           have e224 : xq 224 = .bool true := hx 6 (by rfl) (by rfl)
           have e226 : xq 226 = .slice (some ⟨E0, oo, none⟩) bs.length c := hx 8 (by rfl) (by rfl)
           have e227 : xq 227 = .int .i64 (k : Int) := hx 9 (by rfl) (by rfl)
           clear hx hKc hK0
           simp only [runOf1, List.set_cons_succ, List.set_cons_zero, setSlot, show List.range' 218 36 = [218, 219, 220, 221, 222, 223, 224, 225, 226, 227, 228, 229, 230, 231, 232, 233, 234, 235, 236, 237, 238, 239, 240, 241, 242, 243, 244, 245, 246, 247, 248, 249, 250, 251, 252, 253] from rfl, List.take_succ_cons, List.take_zero, List.drop_succ_cons, List.drop_zero, List.map_cons, List.map_nil, List.cons_append, List.nil_append, Nat.reduceAdd, Nat.reduceEqDiff, if_true, if_false, List.getD_cons_zero, List.getD_cons_succ, Nat.zero_add] at hK ⊢
           simp only [e224, e226, e227] at hK ⊢
           clear e224 e226 e227
           go_wp2_with (fail)
           exact hK _ _ (Below.refl _ _) rfl
          ·intro xq w1 hb1 hx K hK0
           have hK := fun v w' hb => hK0 v w' (.inl hb)
           have e224 : xq 224 = .bool true := hx 6 (by rfl) (by rfl)
           have e228 : xq 228 = .pointer (some ⟨E0, oo + k * 4, none⟩) := hx 10 (by rfl) (by rfl)
           clear hx hKc hK0
           simp only [runOf1, List.set_cons_succ, List.set_cons_zero, setSlot, show List.range' 218 36 = [218, 219, 220, 221, 222, 223, 224, 225, 226, 227, 228, 229, 230, 231, 232, 233, 234, 235, 236, 237, 238, 239, 240, 241, 242, 243, 244, 245, 246, 247, 248, 249, 250, 251, 252, 253] from rfl, List.take_succ_cons, List.take_zero, List.drop_succ_cons, List.drop_zero, List.map_cons, List.map_nil, List.cons_append, List.nil_append, Nat.reduceAdd, Nat.reduceEqDiff, if_true, if_false, List.getD_cons_zero, List.getD_cons_succ, Nat.zero_add] at hK ⊢
           simp only [e224, e228] at hK ⊢
           clear e224 e228
           go_wp2_with (fail)
           exact hK _ _ (Below.refl _ _) rfl
          ·intro xq w1 hb1 hx K hK0
           have hK := fun v w' hb => hK0 v w' (.inl hb)
           have e224 : xq 224 = .bool true := hx 6 (by rfl) (by rfl)
           have e229 : xq 229 = .pointer (some ⟨E0, oo + k * 4, none⟩) := hx 11 (by rfl) (by rfl)
           clear hx hKc hK0
           have q_ := up_cell hb1 KW.out
           simp only [runOf1, List.set_cons_succ, List.set_cons_zero, setSlot, show List.range' 218 36 = [218, 219, 220, 221, 222, 223, 224, 225, 226, 227, 228, 229, 230, 231, 232, 233, 234, 235, 236, 237, 238, 239, 240, 241, 242, 243, 244, 245, 246, 247, 248, 249, 250, 251, 252, 253] from rfl, List.take_succ_cons, List.take_zero, List.drop_succ_cons, List.drop_zero, List.map_cons, List.map_nil, List.cons_append, List.nil_append, Nat.reduceAdd, Nat.reduceEqDiff, if_true, if_false, List.getD_cons_zero, List.getD_cons_succ, Nat.zero_add] at hK ⊢
           simp only [e224, e229] at hK ⊢
           clear e224 e229
           go_wp2_with (fail)
           exact hK _ _ (Below.refl _ _) rfl
          ·intro xq w1 hb1 hx K hK0
           have hK := fun v w' hb => hK0 v w' (.inl hb)
           have e224 : xq 224 = .bool true := hx 6 (by rfl) (by rfl)
           clear hx hKc hK0
           simp only [runOf1, List.set_cons_succ, List.set_cons_zero, setSlot, show List.range' 218 36 = [218, 219, 220, 221, 222, 223, 224, 225, 226, 227, 228, 229, 230, 231, 232, 233, 234, 235, 236, 237, 238, 239, 240, 241, 242, 243, 244, 245, 246, 247, 248, 249, 250, 251, 252, 253] from rfl, List.take_succ_cons, List.take_zero, List.drop_succ_cons, List.drop_zero, List.map_cons, List.map_nil, List.cons_append, List.nil_append, Nat.reduceAdd, Nat.reduceEqDiff, if_true, if_false, List.getD_cons_zero, List.getD_cons_succ, Nat.zero_add] at hK ⊢
           simp only [e224] at hK ⊢
           clear e224
           go_wp2_with (fail)
           exact hK _ _ (Below.refl _ _) rfl
          ·intro xq w1 hb1 hx K hK0
           have hK := fun v w' hb => hK0 v w' (.inl hb)
           have e224 : xq 224 = .bool true := hx 6 (by rfl) (by rfl)
           have e231 : xq 231 = .pointer (some ⟨w3.heap.size, 0, none⟩) := hx 13 (by rfl) (by rfl)
           clear hx hKc hK0
           have q_ := up_cell hb1 KC.out
           simp only [runOf1, List.set_cons_succ, List.set_cons_zero, setSlot, show List.range' 218 36 = [218, 219, 220, 221, 222, 223, 224, 225, 226, 227, 228, 229, 230, 231, 232, 233, 234, 235, 236, 237, 238, 239, 240, 241, 242, 243, 244, 245, 246, 247, 248, 249, 250, 251, 252, 253] from rfl, List.take_succ_cons, List.take_zero, List.drop_succ_cons, List.drop_zero, List.map_cons, List.map_nil, List.cons_append, List.nil_append, Nat.reduceAdd, Nat.reduceEqDiff, if_true, if_false, List.getD_cons_zero, List.getD_cons_succ, Nat.zero_add] at hK ⊢
           simp only [e224, e231] at hK ⊢
           clear e224 e231
           go_wp2_with (fail)
           exact hK _ _ (Below.refl _ _) rfl
          ·intro xq w1 hb1 hx K hK0
           have hK := fun v w' hb => hK0 v w' (.inl hb)
           have e224 : xq 224 = .bool true := hx 6 (by rfl) (by rfl)
           have e230 : xq 230 = .int .i64 (x.warm) := hx 12 (by rfl) (by rfl)
           have e232 : xq 232 = .int .i64 (b.cool) := hx 14 (by rfl) (by rfl)
           clear hx hKc hK0
           simp only [runOf1, List.set_cons_succ, List.set_cons_zero, setSlot, show List.range' 218 36 = [218, 219, 220, 221, 222, 223, 224, 225, 226, 227, 228, 229, 230, 231, 232, 233, 234, 235, 236, 237, 238, 239, 240, 241, 242, 243, 244, 245, 246, 247, 248, 249, 250, 251, 252, 253] from rfl, List.take_succ_cons, List.take_zero, List.drop_succ_cons, List.drop_zero, List.map_cons, List.map_nil, List.cons_append, List.nil_append, Nat.reduceAdd, Nat.reduceEqDiff, if_true, if_false, List.getD_cons_zero, List.getD_cons_succ, Nat.zero_add] at hK ⊢
           simp only [e224, e230, e232] at hK ⊢
           clear e224 e230 e232
           go_wp2_with (fail)
           first | exact hK _ _ (Below.refl _ _) rfl | exact hK _ _ (Below.refl _ _) (congrArg Value.bool (decide_eq_false (by omega)))
          ·intro xq w1 hb1 hx K hK0
           have hK := fun v w' hb => hK0 v w' (.inl hb)
           have e224 : xq 224 = .bool true := hx 6 (by rfl) (by rfl)
           have e233 : xq 233 = .bool false := hx 15 (by rfl) (by rfl)
           clear hx hKc hK0
           simp only [runOf1, List.set_cons_succ, List.set_cons_zero, setSlot, show List.range' 218 36 = [218, 219, 220, 221, 222, 223, 224, 225, 226, 227, 228, 229, 230, 231, 232, 233, 234, 235, 236, 237, 238, 239, 240, 241, 242, 243, 244, 245, 246, 247, 248, 249, 250, 251, 252, 253] from rfl, List.take_succ_cons, List.take_zero, List.drop_succ_cons, List.drop_zero, List.map_cons, List.map_nil, List.cons_append, List.nil_append, Nat.reduceAdd, Nat.reduceEqDiff, if_true, if_false, List.getD_cons_zero, List.getD_cons_succ, Nat.zero_add] at hK ⊢
           simp only [e224, e233] at hK ⊢
           clear e224 e233
           go_wp2_with (fail)
           exact hK _ _ (Below.refl _ _) rfl
          ·intro xq w1 hb1 hx K hK0
           have hK := fun v w' hb => hK0 v w' (.inl hb)
           have e234 : xq 234 = .bool false := hx 16 (by rfl) (by rfl)
           clear hx hKc hK0
           simp only [runOf1, List.set_cons_succ, List.set_cons_zero, setSlot, show List.range' 218 36 = [218, 219, 220, 221, 222, 223, 224, 225, 226, 227, 228, 229, 230, 231, 232, 233, 234, 235, 236, 237, 238, 239, 240, 241, 242, 243, 244, 245, 246, 247, 248, 249, 250, 251, 252, 253] from rfl, List.take_succ_cons, List.take_zero, List.drop_succ_cons, List.drop_zero, List.map_cons, List.map_nil, List.cons_append, List.nil_append, Nat.reduceAdd, Nat.reduceEqDiff, if_true, if_false, List.getD_cons_zero, List.getD_cons_succ, Nat.zero_add] at hK ⊢
           simp only [e234] at hK ⊢
           clear e234
           go_wp2_with (fail)
           exact hK _ _ (Below.refl _ _) rfl
          ·intro xq w1 hb1 hx K hK0
           have hK := fun v w' hb => hK0 v w' (.inl hb)
           have e234 : xq 234 = .bool false := hx 16 (by rfl) (by rfl)
           have e235 : xq 235 = .pointer (some ⟨w3.heap.size, 0, none⟩) := hx 17 (by rfl) (by rfl)
           clear hx hKc hK0
           have q_ := up_cell hb1 KC.out
           simp only [runOf1, List.set_cons_succ, List.set_cons_zero, setSlot, show List.range' 218 36 = [218, 219, 220, 221, 222, 223, 224, 225, 226, 227, 228, 229, 230, 231, 232, 233, 234, 235, 236, 237, 238, 239, 240, 241, 242, 243, 244, 245, 246, 247, 248, 249, 250, 251, 252, 253] from rfl, List.take_succ_cons, List.take_zero, List.drop_succ_cons, List.drop_zero, List.map_cons, List.map_nil, List.cons_append, List.nil_append, Nat.reduceAdd, Nat.reduceEqDiff, if_true, if_false, List.getD_cons_zero, List.getD_cons_succ, Nat.zero_add] at hK ⊢
           simp only [e234, e235] at hK ⊢
           clear e234 e235
           go_wp2_with (fail)
           exact hK _ _ (Below.refl _ _) rfl
          ·intro xq w1 hb1 hx K hK0
           have hK := fun v w' hb => hK0 v w' (.inl hb)
           have e234 : xq 234 = .bool false := hx 16 (by rfl) (by rfl)
           clear hx hKc hK0
           simp only [runOf1, List.set_cons_succ, List.set_cons_zero, setSlot, show List.range' 218 36 = [218, 219, 220, 221, 222, 223, 224, 225, 226, 227, 228, 229, 230, 231, 232, 233, 234, 235, 236, 237, 238, 239, 240, 241, 242, 243, 244, 245, 246, 247, 248, 249, 250, 251, 252, 253] from rfl, List.take_succ_cons, List.take_zero, List.drop_succ_cons, List.drop_zero, List.map_cons, List.map_nil, List.cons_append, List.nil_append, Nat.reduceAdd, Nat.reduceEqDiff, if_true, if_false, List.getD_cons_zero, List.getD_cons_succ, Nat.zero_add] at hK ⊢
           simp only [e234] at hK ⊢
           clear e234
           go_wp2_with (fail)
           exact hK _ _ (Below.refl _ _) rfl
          ·intro xq w1 hb1 hx K hK0
           have hK := fun v w' hb => hK0 v w' (.inl hb)
           have e234 : xq 234 = .bool false := hx 16 (by rfl) (by rfl)
           have e237 : xq 237 = .pointer (some ⟨w3.heap.size, 8, none⟩) := hx 19 (by rfl) (by rfl)
           clear hx hKc hK0
           have q_ := up_cell hb1 K8.out
           simp only [runOf1, List.set_cons_succ, List.set_cons_zero, setSlot, show List.range' 218 36 = [218, 219, 220, 221, 222, 223, 224, 225, 226, 227, 228, 229, 230, 231, 232, 233, 234, 235, 236, 237, 238, 239, 240, 241, 242, 243, 244, 245, 246, 247, 248, 249, 250, 251, 252, 253] from rfl, List.take_succ_cons, List.take_zero, List.drop_succ_cons, List.drop_zero, List.map_cons, List.map_nil, List.cons_append, List.nil_append, Nat.reduceAdd, Nat.reduceEqDiff, if_true, if_false, List.getD_cons_zero, List.getD_cons_succ, Nat.zero_add] at hK ⊢
           simp only [e234, e237] at hK ⊢
           clear e234 e237
           go_wp2_with (fail)
           exact hK _ _ (Below.refl _ _) rfl
          ·intro xq w1 hb1 hx K hK0
           have hK := fun v w' hb => hK0 v w' (.inl hb)
           have e234 : xq 234 = .bool false := hx 16 (by rfl) (by rfl)
           clear hx hKc hK0
           simp only [runOf1, List.set_cons_succ, List.set_cons_zero, setSlot, show List.range' 218 36 = [218, 219, 220, 221, 222, 223, 224, 225, 226, 227, 228, 229, 230, 231, 232, 233, 234, 235, 236, 237, 238, 239, 240, 241, 242, 243, 244, 245, 246, 247, 248, 249, 250, 251, 252, 253] from rfl, List.take_succ_cons, List.take_zero, List.drop_succ_cons, List.drop_zero, List.map_cons, List.map_nil, List.cons_append, List.nil_append, Nat.reduceAdd, Nat.reduceEqDiff, if_true, if_false, List.getD_cons_zero, List.getD_cons_succ, Nat.zero_add] at hK ⊢
           simp only [e234] at hK ⊢
           clear e234
           go_wp2_with (fail)
           exact hK _ _ (Below.refl _ _) rfl
          ·intro xq w1 hb1 hx K hK0
           have hK := fun v w' hb => hK0 v w' (.inl hb)
           have e234 : xq 234 = .bool false := hx 16 (by rfl) (by rfl)
           have e238 : xq 238 = .slice (some ⟨E0, oo, none⟩) bs.length c := hx 20 (by rfl) (by rfl)
           have e239 : xq 239 = .int .i64 (k : Int) := hx 21 (by rfl) (by rfl)
           clear hx hKc hK0
           simp only [runOf1, List.set_cons_succ, List.set_cons_zero, setSlot, show List.range' 218 36 = [218, 219, 220, 221, 222, 223, 224, 225, 226, 227, 228, 229, 230, 231, 232, 233, 234, 235, 236, 237, 238, 239, 240, 241, 242, 243, 244, 245, 246, 247, 248, 249, 250, 251, 252, 253] from rfl, List.take_succ_cons, List.take_zero, List.drop_succ_cons, List.drop_zero, List.map_cons, List.map_nil, List.cons_append, List.nil_append, Nat.reduceAdd, Nat.reduceEqDiff, if_true, if_false, List.getD_cons_zero, List.getD_cons_succ, Nat.zero_add] at hK ⊢
           simp only [e234, e238, e239] at hK ⊢
           clear e234 e238 e239
           go_wp2_with (fail)
           exact hK _ _ (Below.refl _ _) rfl
          ·intro xq w1 hb1 hx K hK0
           have hK := fun v w' hb => hK0 v w' (.inl hb)
           have e234 : xq 234 = .bool false := hx 16 (by rfl) (by rfl)
           have e240 : xq 240 = .pointer (some ⟨E0, oo + k * 4, none⟩) := hx 22 (by rfl) (by rfl)
           clear hx hKc hK0
           simp only [runOf1, List.set_cons_succ, List.set_cons_zero, setSlot, show List.range' 218 36 = [218, 219, 220, 221, 222, 223, 224, 225, 226, 227, 228, 229, 230, 231, 232, 233, 234, 235, 236, 237, 238, 239, 240, 241, 242, 243, 244, 245, 246, 247, 248, 249, 250, 251, 252, 253] from rfl, List.take_succ_cons, List.take_zero, List.drop_succ_cons, List.drop_zero, List.map_cons, List.map_nil, List.cons_append, List.nil_append, Nat.reduceAdd, Nat.reduceEqDiff, if_true, if_false, List.getD_cons_zero, List.getD_cons_succ, Nat.zero_add] at hK ⊢
           simp only [e234, e240] at hK ⊢
           clear e234 e240
           go_wp2_with (fail)
           exact hK _ _ (Below.refl _ _) rfl
          ·intro xq w1 hb1 hx K hK0
           have hK := fun v w' hb => hK0 v w' (.inl hb)
           have e234 : xq 234 = .bool false := hx 16 (by rfl) (by rfl)
           have e241 : xq 241 = .pointer (some ⟨E0, oo + k * 4 + 1, none⟩) := hx 23 (by rfl) (by rfl)
           clear hx hKc hK0
           have q_ := up_cell hb1 KM.out
           simp only [runOf1, List.set_cons_succ, List.set_cons_zero, setSlot, show List.range' 218 36 = [218, 219, 220, 221, 222, 223, 224, 225, 226, 227, 228, 229, 230, 231, 232, 233, 234, 235, 236, 237, 238, 239, 240, 241, 242, 243, 244, 245, 246, 247, 248, 249, 250, 251, 252, 253] from rfl, List.take_succ_cons, List.take_zero, List.drop_succ_cons, List.drop_zero, List.map_cons, List.map_nil, List.cons_append, List.nil_append, Nat.reduceAdd, Nat.reduceEqDiff, if_true, if_false, List.getD_cons_zero, List.getD_cons_succ, Nat.zero_add] at hK ⊢
           simp only [e234, e241] at hK ⊢
           clear e234 e241
           go_wp2_with (fail)
           exact hK _ _ (Below.refl _ _) rfl
          ·intro xq w1 hb1 hx K hK0
           have hK := fun v w' hb => hK0 v w' (.inl hb)
           have e234 : xq 234 = .bool false := hx 16 (by rfl) (by rfl)
           have e236 : xq 236 = .int .i64 (b.cool) := hx 18 (by rfl) (by rfl)
           have e242 : xq 242 = .int .i64 (x.mark) := hx 24 (by rfl) (by rfl)
           clear hx hKc hK0
           simp only [runOf1, List.set_cons_succ, List.set_cons_zero, setSlot, show List.range' 218 36 = [218, 219, 220, 221, 222, 223, 224, 225, 226, 227, 228, 229, 230, 231, 232, 233, 234, 235, 236, 237, 238, 239, 240, 241, 242, 243, 244, 245, 246, 247, 248, 249, 250, 251, 252, 253] from rfl, List.take_succ_cons, List.take_zero, List.drop_succ_cons, List.drop_zero, List.map_cons, List.map_nil, List.cons_append, List.nil_append, Nat.reduceAdd, Nat.reduceEqDiff, if_true, if_false, List.getD_cons_zero, List.getD_cons_succ, Nat.zero_add] at hK ⊢
           simp only [e234, e236, e242] at hK ⊢
           clear e234 e236 e242
           go_wp2_with (fail)
           first | exact hK _ _ (Below.refl _ _) rfl | exact hK _ _ (Below.refl _ _) trivial | exact hK _ _ (Below.refl _ _) (congrArg Value.bool (decide_eq_false (by omega)))
          ·intro xq w1 hb1 hx K hK0
           have hK := fun v w' hb => hK0 v w' (.inl hb)
           have e224 : xq 224 = .bool true := hx 6 (by rfl) (by rfl)
           have e234 : xq 234 = .bool false := hx 16 (by rfl) (by rfl)
           have e243 : xq 243 = .bool false := hx 25 (by rfl) (by rfl)
           clear hx hKc hK0
           simp only [runOf1, List.set_cons_succ, List.set_cons_zero, setSlot, show List.range' 218 36 = [218, 219, 220, 221, 222, 223, 224, 225, 226, 227, 228, 229, 230, 231, 232, 233, 234, 235, 236, 237, 238, 239, 240, 241, 242, 243, 244, 245, 246, 247, 248, 249, 250, 251, 252, 253] from rfl, List.take_succ_cons, List.take_zero, List.drop_succ_cons, List.drop_zero, List.map_cons, List.map_nil, List.cons_append, List.nil_append, Nat.reduceAdd, Nat.reduceEqDiff, if_true, if_false, List.getD_cons_zero, List.getD_cons_succ, Nat.zero_add] at hK ⊢
           simp only [e224, e234, e243] at hK ⊢
           clear e224 e234 e243
           go_wp2_with (fail)
           exact hK _ _ (Below.refl _ _) rfl
          ·intro xq w1 hb1 hx K hK0
           have hK := fun v w' hb => hK0 v w' (.inl hb)
           have e224 : xq 224 = .bool true := hx 6 (by rfl) (by rfl)
           have e244 : xq 244 = .bool false := hx 26 (by rfl) (by rfl)
           clear hx hKc hK0
           simp only [runOf1, List.set_cons_succ, List.set_cons_zero, setSlot, show List.range' 218 36 = [218, 219, 220, 221, 222, 223, 224, 225, 226, 227, 228, 229, 230, 231, 232, 233, 234, 235, 236, 237, 238, 239, 240, 241, 242, 243, 244, 245, 246, 247, 248, 249, 250, 251, 252, 253] from rfl, List.take_succ_cons, List.take_zero, List.drop_succ_cons, List.drop_zero, List.map_cons, List.map_nil, List.cons_append, List.nil_append, Nat.reduceAdd, Nat.reduceEqDiff, if_true, if_false, List.getD_cons_zero, List.getD_cons_succ, Nat.zero_add] at hK ⊢
           simp only [e224, e244] at hK ⊢
           clear e224 e244
           go_wp2_with (fail)
           exact hK _ _ (Below.refl _ _) rfl
          ·intro xq w1 hb1 hx K hK0
           have hK := fun v w' hb => hK0 v w' (.inl hb)
           have e245 : xq 245 = .bool false := hx 27 (by rfl) (by rfl)
           clear hx hKc hK0
           simp only [runOf1, List.set_cons_succ, List.set_cons_zero, setSlot, show List.range' 218 36 = [218, 219, 220, 221, 222, 223, 224, 225, 226, 227, 228, 229, 230, 231, 232, 233, 234, 235, 236, 237, 238, 239, 240, 241, 242, 243, 244, 245, 246, 247, 248, 249, 250, 251, 252, 253] from rfl, List.take_succ_cons, List.take_zero, List.drop_succ_cons, List.drop_zero, List.map_cons, List.map_nil, List.cons_append, List.nil_append, Nat.reduceAdd, Nat.reduceEqDiff, if_true, if_false, List.getD_cons_zero, List.getD_cons_succ, Nat.zero_add] at hK ⊢
           simp only [e245] at hK ⊢
           clear e245
           go_wp2_with (fail)
           exact hK _ _ (Below.refl _ _) rfl
          ·intro xq w1 hb1 hx K hK0
           have hK := fun v w' hb => hK0 v w' (.inl hb)
           have e245 : xq 245 = .bool false := hx 27 (by rfl) (by rfl)
           clear hx hKc hK0
           simp only [runOf1, List.set_cons_succ, List.set_cons_zero, setSlot, show List.range' 218 36 = [218, 219, 220, 221, 222, 223, 224, 225, 226, 227, 228, 229, 230, 231, 232, 233, 234, 235, 236, 237, 238, 239, 240, 241, 242, 243, 244, 245, 246, 247, 248, 249, 250, 251, 252, 253] from rfl, List.take_succ_cons, List.take_zero, List.drop_succ_cons, List.drop_zero, List.map_cons, List.map_nil, List.cons_append, List.nil_append, Nat.reduceAdd, Nat.reduceEqDiff, if_true, if_false, List.getD_cons_zero, List.getD_cons_succ, Nat.zero_add] at hK ⊢
           simp only [e245] at hK ⊢
           clear e245
           go_wp2_with (fail)
           exact hK _ _ (Below.refl _ _) rfl
          ·intro xq w1 hb1 hx K hK0
           have hK := fun v w' hb => hK0 v w' (.inl hb)
           have e245 : xq 245 = .bool false := hx 27 (by rfl) (by rfl)
           have e246 : xq 246 = .int .i64 (ls) := hx 28 (by rfl) (by rfl)
           have e247 : xq 247 = .int .i64 (lf) := hx 29 (by rfl) (by rfl)
           clear hx hKc hK0
           simp only [runOf1, List.set_cons_succ, List.set_cons_zero, setSlot, show List.range' 218 36 = [218, 219, 220, 221, 222, 223, 224, 225, 226, 227, 228, 229, 230, 231, 232, 233, 234, 235, 236, 237, 238, 239, 240, 241, 242, 243, 244, 245, 246, 247, 248, 249, 250, 251, 252, 253] from rfl, List.take_succ_cons, List.take_zero, List.drop_succ_cons, List.drop_zero, List.map_cons, List.map_nil, List.cons_append, List.nil_append, Nat.reduceAdd, Nat.reduceEqDiff, if_true, if_false, List.getD_cons_zero, List.getD_cons_succ, Nat.zero_add] at hK ⊢
           simp only [e245, e246, e247] at hK ⊢
           clear e245 e246 e247
           go_wp2_with (fail)
           first | exact hK _ _ (Below.refl _ _) rfl | exact hK _ _ (Below.refl _ _) trivial | exact hK _ _ (Below.refl _ _) (congrArg Value.bool (decide_eq_true (by omega)))
          ·intro xq w1 hb1 hx K hK0
           have hK := fun v w' hb => hK0 v w' (.inl hb)
           have e224 : xq 224 = .bool true := hx 6 (by rfl) (by rfl)
           have e245 : xq 245 = .bool false := hx 27 (by rfl) (by rfl)
           have e248 : xq 248 = .bool true := hx 30 (by rfl) (by rfl)
           clear hx hKc hK0
           simp only [runOf1, List.set_cons_succ, List.set_cons_zero, setSlot, show List.range' 218 36 = [218, 219, 220, 221, 222, 223, 224, 225, 226, 227, 228, 229, 230, 231, 232, 233, 234, 235, 236, 237, 238, 239, 240, 241, 242, 243, 244, 245, 246, 247, 248, 249, 250, 251, 252, 253] from rfl, List.take_succ_cons, List.take_zero, List.drop_succ_cons, List.drop_zero, List.map_cons, List.map_nil, List.cons_append, List.nil_append, Nat.reduceAdd, Nat.reduceEqDiff, if_true, if_false, List.getD_cons_zero, List.getD_cons_succ, Nat.zero_add] at hK ⊢
           simp only [e224, e245, e248] at hK ⊢
           clear e224 e245 e248
           go_wp2_with (fail)
           exact hK _ _ (Below.refl _ _) rfl
          ·intro xq w1 hb1 hx K hK0
           have hK := fun v w' hb => hK0 v w' (.inl hb)
           have e224 : xq 224 = .bool true := hx 6 (by rfl) (by rfl)
           have e249 : xq 249 = .bool true := hx 31 (by rfl) (by rfl)
           clear hx hKc hK0
           simp only [runOf1, List.set_cons_succ, List.set_cons_zero, setSlot, show List.range' 218 36 = [218, 219, 220, 221, 222, 223, 224, 225, 226, 227, 228, 229, 230, 231, 232, 233, 234, 235, 236, 237, 238, 239, 240, 241, 242, 243, 244, 245, 246, 247, 248, 249, 250, 251, 252, 253] from rfl, List.take_succ_cons, List.take_zero, List.drop_succ_cons, List.drop_zero, List.map_cons, List.map_nil, List.cons_append, List.nil_append, Nat.reduceAdd, Nat.reduceEqDiff, if_true, if_false, List.getD_cons_zero, List.getD_cons_succ, Nat.zero_add] at hK ⊢
           simp only [e224, e249] at hK ⊢
           clear e224 e249
           go_wp2_with (fail)
           exact hK _ _ (Below.refl _ _) rfl
          ·intro xq w1 hb1 hx K hK0
           have hK := fun v w' hb => hK0 v w' (.inl hb)
           have e250 : xq 250 = .bool true := hx 32 (by rfl) (by rfl)
           clear hx hKc hK0
           simp only [runOf1, List.set_cons_succ, List.set_cons_zero, setSlot, show List.range' 218 36 = [218, 219, 220, 221, 222, 223, 224, 225, 226, 227, 228, 229, 230, 231, 232, 233, 234, 235, 236, 237, 238, 239, 240, 241, 242, 243, 244, 245, 246, 247, 248, 249, 250, 251, 252, 253] from rfl, List.take_succ_cons, List.take_zero, List.drop_succ_cons, List.drop_zero, List.map_cons, List.map_nil, List.cons_append, List.nil_append, Nat.reduceAdd, Nat.reduceEqDiff, if_true, if_false, List.getD_cons_zero, List.getD_cons_succ, Nat.zero_add] at hK ⊢
           simp only [e250] at hK ⊢
           clear e250
           go_wp2_with (fail)
           exact hK _ _ (Below.refl _ _) rfl
          ·intro xq w1 hb1 hx K hK0
           have hK := fun v w' hb => hK0 v w' (.inl hb)
           have e251 : xq 251 = .bool true := hx 33 (by rfl) (by rfl)
           clear hx hKc hK0
           simp only [runOf1, List.set_cons_succ, List.set_cons_zero, setSlot, show List.range' 218 36 = [218, 219, 220, 221, 222, 223, 224, 225, 226, 227, 228, 229, 230, 231, 232, 233, 234, 235, 236, 237, 238, 239, 240, 241, 242, 243, 244, 245, 246, 247, 248, 249, 250, 251, 252, 253] from rfl, List.take_succ_cons, List.take_zero, List.drop_succ_cons, List.drop_zero, List.map_cons, List.map_nil, List.cons_append, List.nil_append, Nat.reduceAdd, Nat.reduceEqDiff, if_true, if_false, List.getD_cons_zero, List.getD_cons_succ, Nat.zero_add] at hK ⊢
           simp only [e251] at hK ⊢
           clear e251
           go_wp2_with ((go_at_call 14; refine (HAW.out _).mono ?_; rintro e w2' ⟨rfl, hbw⟩))
           exact hK _ _ hbw rfl
          ·intro xq w1 hb1 hx K hK0
           have hK := fun v w' hb => hK0 v w' (.inl hb)
           have e251 : xq 251 = .bool true := hx 33 (by rfl) (by rfl)
           have e252 : xq 252 = .bool true := hx 34 (by rfl) (by rfl)
           clear hx hKc hK0
           simp only [runOf1, List.set_cons_succ, List.set_cons_zero, setSlot, show List.range' 218 36 = [218, 219, 220, 221, 222, 223, 224, 225, 226, 227, 228, 229, 230, 231, 232, 233, 234, 235, 236, 237, 238, 239, 240, 241, 242, 243, 244, 245, 246, 247, 248, 249, 250, 251, 252, 253] from rfl, List.take_succ_cons, List.take_zero, List.drop_succ_cons, List.drop_zero, List.map_cons, List.map_nil, List.cons_append, List.nil_append, Nat.reduceAdd, Nat.reduceEqDiff, if_true, if_false, List.getD_cons_zero, List.getD_cons_succ, Nat.zero_add] at hK ⊢
           simp only [e251, e252] at hK ⊢
           clear e251 e252
           go_wp2_with (fail)
           exact hK _ _ (Below.refl _ _) rfl
          ·intro xq w1 hb1 hx K hK0
           have hK := fun v w' hb => hK0 v w' (.inl hb)
           have e253 : xq 253 = .bool true := hx 35 (by rfl) (by rfl)
           clear hx hKc hK0
           simp only [runOf1, List.set_cons_succ, List.set_cons_zero, setSlot, show List.range' 218 36 = [218, 219, 220, 221, 222, 223, 224, 225, 226, 227, 228, 229, 230, 231, 232, 233, 234, 235, 236, 237, 238, 239, 240, 241, 242, 243, 244, 245, 246, 247, 248, 249, 250, 251, 252, 253] from rfl, List.take_succ_cons, List.take_zero, List.drop_succ_cons, List.drop_zero, List.map_cons, List.map_nil, List.cons_append, List.nil_append, Nat.reduceAdd, Nat.reduceEqDiff, if_true, if_false, List.getD_cons_zero, List.getD_cons_succ, Nat.zero_add] at hK ⊢
           simp only [e253] at hK ⊢
           clear e253
           go_wp2_with (fail)
           exact hK _ _ (Below.refl _ _) rfl
         ·intro xq w1 hb1 hx
          have e218 : xq 218 = .int .i64 (lf) := hx 0 (by decide)
          have e219 : xq 219 = .bool true := hx 1 (by decide)
          have e220 : xq 220 = .bool true := hx 2 (by decide)
          have e221 : xq 221 = .int .i64 (ls) := hx 3 (by decide)
          have e222 : xq 222 = .bool true := hx 4 (by decide)
          have e223 : xq 223 = .bool true := hx 5 (by decide)
          have e224 : xq 224 = .bool true := hx 6 (by decide)
          have e225 : xq 225 = .pointer (some ⟨w3.heap.size, 8, none⟩) := hx 7 (by decide)
          have e226 : xq 226 = .slice (some ⟨E0, oo, none⟩) bs.length c := hx 8 (by decide)
          have e227 : xq 227 = .int .i64 (k : Int) := hx 9 (by decide)
          have e228 : xq 228 = .pointer (some ⟨E0, oo + k * 4, none⟩) := hx 10 (by decide)
          have e229 : xq 229 = .pointer (some ⟨E0, oo + k * 4, none⟩) := hx 11 (by decide)
          have e230 : xq 230 = .int .i64 (x.warm) := hx 12 (by decide)
          have e231 : xq 231 = .pointer (some ⟨w3.heap.size, 0, none⟩) := hx 13 (by decide)
          have e232 : xq 232 = .int .i64 (b.cool) := hx 14 (by decide)
          have e233 : xq 233 = .bool false := hx 15 (by decide)
          have e234 : xq 234 = .bool false := hx 16 (by decide)
          have e235 : xq 235 = .pointer (some ⟨w3.heap.size, 0, none⟩) := hx 17 (by decide)
          have e236 : xq 236 = .int .i64 (b.cool) := hx 18 (by decide)
          have e237 : xq 237 = .pointer (some ⟨w3.heap.size, 8, none⟩) := hx 19 (by decide)
          have e238 : xq 238 = .slice (some ⟨E0, oo, none⟩) bs.length c := hx 20 (by decide)
          have e239 : xq 239 = .int .i64 (k : Int) := hx 21 (by decide)
          have e240 : xq 240 = .pointer (some ⟨E0, oo + k * 4, none⟩) := hx 22 (by decide)
          have e241 : xq 241 = .pointer (some ⟨E0, oo + k * 4 + 1, none⟩) := hx 23 (by decide)
          have e242 : xq 242 = .int .i64 (x.mark) := hx 24 (by decide)
          have e243 : xq 243 = .bool false := hx 25 (by decide)
          have e244 : xq 244 = .bool false := hx 26 (by decide)
          have e245 : xq 245 = .bool false := hx 27 (by decide)
          have e246 : xq 246 = .int .i64 (ls) := hx 28 (by decide)
          have e247 : xq 247 = .int .i64 (lf) := hx 29 (by decide)
          have e248 : xq 248 = .bool true := hx 30 (by decide)
          have e249 : xq 249 = .bool true := hx 31 (by decide)
          have e250 : xq 250 = .bool true := hx 32 (by decide)
          have e251 : xq 251 = .bool true := hx 33 (by decide)
          have e252 : xq 252 = .bool true := hx 34 (by decide)
          have e253 : xq 253 = .bool true := hx 35 (by decide)
          have e6 : xq 6 = .bool true := hx 36 (by decide)
          clear hx
          simp only [runOf1, List.set_cons_succ, List.set_cons_zero, setSlot, show List.range' 218 36 = [218, 219, 220, 221, 222, 223, 224, 225, 226, 227, 228, 229, 230, 231, 232, 233, 234, 235, 236, 237, 238, 239, 240, 241, 242, 243, 244, 245, 246, 247, 248, 249, 250, 251, 252, 253] from rfl, List.take_succ_cons, List.take_zero, List.drop_succ_cons, List.drop_zero, List.map_cons, List.map_nil, List.cons_append, List.nil_append, Nat.reduceAdd, Nat.reduceEqDiff, if_true, if_false, List.getD_cons_zero, List.getD_cons_succ, Nat.zero_add]
          simp only [e218, e219, e220, e221, e222, e223, e224, e225, e226, e227, e228, e229, e230, e231, e232, e233, e234, e235, e236, e237, e238, e239, e240, e241, e242, e243, e244, e245, e246, e247, e248, e249, e250, e251, e252, e253, e6]
          clear e218 e219 e220 e221 e222 e223 e224 e225 e226 e227 e228 e229 e230 e231 e232 e233 e234 e235 e236 e237 e238 e239 e240 e241 e242 e243 e244 e245 e246 e247 e248 e249 e250 e251 e252 e253 e6
          refine hKc _ _ ?_
          go_wp2_with fail
          first | (go_ret; exact ⟨rfl, (HW11.out.trans (HBT.out.mono HW11.out.size)).trans (hb1.mono (Nat.le_trans HW11.out.size HBT.out.size))⟩) | (go_ret; exact (HW11.out.trans (HBT.out.mono HW11.out.size)).trans (hb1.mono (Nat.le_trans HW11.out.size HBT.out.size)))
end Go.Proofs.YtokafjkinkafiaaGreat
