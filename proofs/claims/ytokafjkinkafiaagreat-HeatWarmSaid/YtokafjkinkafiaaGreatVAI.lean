
import Derived.Test.YtokafjkinkafiaaGreatVAA
import Derived.Test.YtokafjkinkafiaaGreatVAH
set_option linter.unusedSimpArgs false
set_option linter.unusedVariables false
namespace Go.Proofs.YtokafjkinkafiaaGreat
open Go.RowKit
theorem grow_dn {W w w' : World} {S : Nat} (h : W.grownBy w (some S)) (hb : Below W.heap.size w w') : W.grownBy w' (some S) :=
 ⟨hb.os.trans h.os, hb.tape.trans h.tape, hb.output.trans h.output, Nat.le_trans h.size hb.size, fun k hk hne => (hb.block k hk).trans (h.block k hk hne)⟩
theorem OwnBins.sack {w w' : World} {S B : Nat} {v : Value} {bs : List Bn} (h : OwnBins w B 46 v bs) (g : w.grownBy w' (some S)) (hS : S < B) : OwnBins w' B 46 v bs := by
 obtain ⟨hl, h | ⟨g', cap, cur, hv, hB, hgc, r⟩⟩ := h
 ·exact ⟨hl, .inl h⟩
 ·exact ⟨hl, .inr ⟨g', cap, cur, hv, hB, (g.block g' (Array.getElem?_eq_some_iff.1 hgc).1 (fun e => by cases e; omega)).trans hgc, r⟩⟩
theorem OwnBins.low {w w' : World} {B n : Nat} {v : Value} {bs : List Bn} (h : OwnBins w B 46 v bs) (hb : Below w.heap.size w w') : OwnBins w' B 46 v bs := rowq_up h hb
theorem bin_ge {w : World} {B : Nat} {v : Value} {n : Nat} {xs : List Value} (h : w.ownsRow B 46 4 v n xs) {k : Nat} (hk : v.ownBlock = some k) : B ≤ k := by
 obtain ⟨hl, ⟨rfl, _⟩ | ⟨g, cap, cur, rfl, hB, hg, r⟩⟩ := h
 ·cases hk
 ·cases hk; exact hB
theorem bin_snoc {w : World} {B : Nat} {v : Value} {l : List Bn} {x : Bn} (h : w.ownsRow B 46 4 v (l.length + 1) (l.flatMap Bn.cells ++ Bn.cells x)) : OwnBins w B 46 v (l ++ [x]) := by
 unfold OwnBins
 rw [List.length_append, List.flatMap_append]
 simpa using h
def RiseRel (n c : Int) (r0 r1 r2 r3 r4 r5 : Int) : Prop :=
 ((n ≤ 0 ∧ 0 < c ∧ 6 ≤ r0 ∧ r0 ≤ 20) ∨ ((0 < n ∨ c ≤ 0) ∧ r0 = 0)) ∧ ((n ≤ 1 ∧ 1 < c ∧ 6 ≤ r1 ∧ r1 ≤ 20) ∨ ((1 < n ∨ c ≤ 1) ∧ r1 = 0)) ∧ ((n ≤ 2 ∧ 2 < c ∧ 6 ≤ r2 ∧ r2 ≤ 20) ∨ ((2 < n ∨ c ≤ 2) ∧ r2 = 0)) ∧ ((n ≤ 3 ∧ 3 < c ∧ 6 ≤ r3 ∧ r3 ≤ 20) ∨ ((3 < n ∨ c ≤ 3) ∧ r3 = 0)) ∧ ((n ≤ 4 ∧ 4 < c ∧ 6 ≤ r4 ∧ r4 ≤ 20) ∨ ((4 < n ∨ c ≤ 4) ∧ r4 = 0)) ∧ ((n ≤ 5 ∧ 5 < c ∧ 6 ≤ r5 ∧ r5 ≤ 20) ∨ ((5 < n ∨ c ≤ 5) ∧ r5 = 0)) ∧
 (n ≤ 0 → 1 < c → r0 ≤ r1) ∧ (n ≤ 1 → 2 < c → r1 ≤ r2) ∧ (n ≤ 2 → 3 < c → r2 ≤ r3) ∧ (n ≤ 3 → 4 < c → r3 ≤ r4) ∧ (n ≤ 4 → 5 < c → r4 ≤ r5)
theorem RiseRel.new {n : Int} (h : 0 ≤ n) : RiseRel n n 0 0 0 0 0 0 := by unfold RiseRel; omega
theorem tick_clash {w : World} {S : Nat} {t : TypeId} {v v' u u' : Value} {a b : Nat} (h : Holds w S t #[v, .int .i64 (a : Int), u]) (h' : Holds w S t #[v', .int .i64 (b : Int), u']) (hne : a ≠ b) : False := by
 have e1 := h.cell 1
 have e2 := h'.cell 1
 rw [e1] at e2
 simp at e2
 omega
theorem holds_both {w : World} {B : Nat} {t : TypeId} {x a b c d y : Value} (h1 : Holds w B t #[x, b, c, d]) (h2 : Holds w B t #[a, b, c, y]) : Holds w B t #[x, b, c, y] := by
 have e1 := h1.cell 3
 have e2 := h2.cell 3
 rw [e1] at e2
 simp at e2
 rw [← e2]
 exact h1
theorem set9z {w : World} {B : Nat} {t : TypeId} {a0 a1 a2 a3 a4 a5 a6 a7 a8 : Value} (u0 u1 u2 u3 u4 u5 u6 u7 u8 : Value) (h : Holds w B t #[a0, a1, a2, a3, a4, a5, a6, a7, a8]) : Holds (((((((((w.setCell ⟨B, 0, none⟩ u0).setCell ⟨B, 1, none⟩ u1).setCell ⟨B, 2, none⟩ u2).setCell ⟨B, 3, none⟩ u3).setCell ⟨B, 4, none⟩ u4).setCell ⟨B, 5, none⟩ u5).setCell ⟨B, 6, none⟩ u6).setCell ⟨B, 7, none⟩ u7).setCell ⟨B, 8, none⟩ u8) B t #[u0, u1, u2, u3, u4, u5, u6, u7, u8] := (((((((((h.setL 0 _).setL 1 _).setL 2 _).setL 3 _).setL 4 _).setL 5 _).setL 6 _).setL 7 _).setL 8 _)
theorem made_right {cool gg n r0 r1 r2 r3 r4 r5 : Int} {bs : List Bn} (h0 : 0 ≤ cool ∧ cool ≤ 60) (h1 : 0 ≤ gg ∧ gg ≤ 3) (hn : 0 ≤ n ∧ n ≤ 2) (hr : RiseRel n 6 r0 r1 r2 r3 r4 r5) (hl : 1 ≤ bs.length ∧ bs.length ≤ 4) (hb : ∀ x ∈ bs, x.inRange = true ∧ x.inOrder = true) : barnErr ⟨cool, gg, r0, r1, r2, r3, r4, r5⟩ bs = 0 := by
 unfold RiseRel at hr
 refine barnErr_ok ?_ ?_ ?_
 ·simp only [within, Bool.and_eq_true, decide_eq_true_eq]; omega
 ·simp only [Bool.and_eq_true]
  refine ⟨⟨⟨?_, ?_⟩, ?_⟩, List.all_eq_true.2 fun x hx => (hb x hx).1⟩
  ·simp only [within, Bool.and_eq_true, decide_eq_true_eq]; omega
  ·simp only [within, Bool.and_eq_true, decide_eq_true_eq]; omega
  ·simp only [Br.rises, List.all_cons, List.all_nil, Bool.and_true, Bool.and_eq_true, riseOk, within, Bool.or_eq_true, beq_iff_eq, decide_eq_true_eq]; omega
 ·simp only [Bool.and_eq_true]
  refine ⟨?_, List.all_eq_true.2 fun x hx => (hb x hx).2⟩
  simp only [Br.rises, risesFrom, Bool.and_eq_true, decide_eq_true_eq, Bool.and_true]; omega
theorem zp1 {p : Prop} (h : p := by (repeat first | (with_reducible first | assumption | apply Holds.set9 | apply Holds.set4 | apply Holds.set2 | apply Holds.putL | ((refine Holds.new' _ _ ?_); (simp; done)) | refine Holds.alloc ?_ _ | refine Holds.drew ?_ | refine Holds.far ?_ (by simp only [ne_eq]; omega) _) | rfl)) : p := h
set_option maxRecDepth 100000 in
set_option maxHeartbeats 40000000 in
theorem Made_any (S : Nat) (GA : Option Addr) (len cap T : Nat) (m : Int) (bins gangs : Int) (hb1 : 1 ≤ bins) (hb4 : bins ≤ 4) (hg0 : 0 ≤ gangs) (hg3 : gangs ≤ 3) (w : World) (hS : Holds w S 53 #[.slice GA len cap, .int .i64 (T : Int), .int .u32 m]) (hY : ∀ w', w.grownBy w' (some S) → BytesAt w' GA len) (hn : len ≤ 9223372036854775807) (hT : T ≤ 100000) :
  Calls Tryz.prog 4 #[.pointer (some ⟨S, 0, none⟩), .int .i64 bins, .int .i64 gangs] w fun e w' => ∃ (b : Br) (A : Option Addr) (c : Nat) (bs : List Bn), e = .returned (.agg #[.int .i64 b.cool, .int .i64 b.gangs, .int .i64 b.r0, .int .i64 b.r1, .int .i64 b.r2, .int .i64 b.r3, .int .i64 b.r4, .int .i64 b.r5, .slice A bs.length c]) ∧ barnErr b bs = 0 ∧ OwnBins w' w.heap.size 46 (.slice A bs.length c) bs ∧ w.grownBy w' (some S) ∧ ∃ (tk : Nat) (m' : Int), tk ≤ T + 40 ∧ Holds w' S 53 #[.slice GA len cap, .int .i64 (tk : Int), .int .u32 m'] := by
 have HS := Lib.hid hS
 have HY := Lib.hid hY
 have hSl := hS.lt
 clear hS hY
 go_enter Tryz.func4, Tryz.ntmps4
 go_wp2_with fail
 refine (Below_any S GA len cap T m 30 _ (HS.out.up zg) (HY.out _ (only_below S (zg : Below w.heap.size w _))) hn (by omega) (by decide) (by decide)).mono ?_
 rintro e w1 ⟨cool, m1, rfl, c0, c1, _, hs1, g1⟩
 have HS1 := Lib.hid hs1
 have HG1 : Hid (w.grownBy w1 (some S)) := Lib.hid (grow_too (only_below S (zg : Below w.heap.size w _)) g1)
 have HR1 : Hid (Holds w1 w.heap.size 26 #[.int .i64 0, .int .i64 0, .int .i64 0, .int .i64 0, .int .i64 0, .int .i64 0, .int .i64 0, .int .i64 0, .slice none 0 0]) := Lib.hid (Holds.grown (zp1 : Holds _ w.heap.size 26 #[.int .i64 0, .int .i64 0, .int .i64 0, .int .i64 0, .int .i64 0, .int .i64 0, .int .i64 0, .int .i64 0, .slice none 0 0]) g1 (by omega))
 have hz1 := HG1.out.size
 have hl1 := HR1.out.lt
 clear hs1 g1
 go_wp2_with fail
 refine (Among_any S GA len cap (T + 1) m1 0 gangs _ HS1.out (HY.out _ HG1.out) hn (by omega) (by decide) (by decide) (by omega) (by omega)).mono ?_
 rintro e w2 ⟨gg, m2, rfl, g0, g1, _, hs2, g2⟩
 have HS2 := Lib.hid hs2
 have HG2 : Hid (w.grownBy w2 (some S)) := Lib.hid (grow_too HG1.out g2)
 have HR2 : Hid (Holds w2 w.heap.size 26 #[.int .i64 0, .int .i64 0, .int .i64 0, .int .i64 0, .int .i64 0, .int .i64 0, .int .i64 0, .int .i64 0, .slice none 0 0]) := Lib.hid (HR1.out.grown g2 (by omega))
 have hz2 := HG2.out.size
 have hl2 := HR2.out.lt
 have hgg : gg ≤ gangs := by omega
 clear hs2 g2 HS1 HG1 HR1 g1
 go_wp2_with fail
 refine (Among_any S GA len cap (T + 1 + 1) m2 0 2 _ (HS2.out.up zg) (HY.out _ (grow_too HG2.out (only_below S (zg : Below w2.heap.size w2 _)))) hn (by omega) (by decide) (by decide) (by decide) (by decide)).mono ?_
 rintro e w3 ⟨n, m3, rfl, n0, n1, _, hs3, g3⟩
 have HS3 := Lib.hid hs3
 have HG3 : Hid (w.grownBy w3 (some S)) := Lib.hid (grow_too (grow_too HG2.out (only_below S (zg : Below w2.heap.size w2 _))) g3)
 have HR3 : Hid (Holds w3 w.heap.size 26 #[.int .i64 0, .int .i64 0, .int .i64 0, .int .i64 0, .int .i64 0, .int .i64 0, .int .i64 0, .int .i64 0, .slice none 0 0]) := Lib.hid (Holds.grown (HR2.out.up (zg : Below w2.heap.size w2 _)) g3 (by omega))
 have HC3 : Hid (Holds w3 w2.heap.size 26 #[.int .i64 cool, .int .i64 gg, .int .i64 0, .int .i64 0, .int .i64 0, .int .i64 0, .int .i64 0, .int .i64 0, .slice none 0 0]) := Lib.hid (Holds.grown (zp1 : Holds _ w2.heap.size 26 #[.int .i64 cool, .int .i64 gg, .int .i64 0, .int .i64 0, .int .i64 0, .int .i64 0, .int .i64 0, .int .i64 0, .slice none 0 0]) g3 (by omega))
 have hn2 : n ≤ 2 := by omega
 clear hs3 g3 HS2 HG2 HR2 n1
 have hl3 := HC3.out.lt
 go_wp2_with fail
 go_loopw [9] (fun v9 wr => ∃ (cc r0 r1 r2 r3 r4 r5 mm : Int) (tk : Nat), v9 = .int .i64 cc ∧ n ≤ cc ∧ cc ≤ 6 ∧ (tk : Int) ≤ T + 3 + cc ∧ Hid (RiseRel n cc r0 r1 r2 r3 r4 r5) ∧ Hid (Holds wr w2.heap.size 26 #[.int .i64 cool, .int .i64 gg, .int .i64 r0, .int .i64 r1, .int .i64 r2, .int .i64 r3, .int .i64 r4, .int .i64 r5, .slice none 0 0]) ∧ Hid (Holds wr w.heap.size 26 #[.int .i64 0, .int .i64 0, .int .i64 0, .int .i64 0, .int .i64 0, .int .i64 0, .int .i64 0, .int .i64 0, .slice none 0 0]) ∧ Hid (Holds wr S 53 #[.slice GA len cap, .int .i64 (tk : Int), .int .u32 mm]) ∧ Hid (w.grownBy wr (some S))) (fun v9 _ => (6 - intOf v9).toNat)
 case atStart => exact ⟨n, 0, 0, 0, 0, 0, 0, m3, T + 1 + 1 + 1, rfl, by omega, by omega, by omega, Lib.hid (RiseRel.new n0), HC3, HR3, HS3, HG3⟩
 case round =>
  obtain ⟨cc, r0, r1, r2, r3, r4, r5, mm, tk, rfl, hc0, hc6, htk, HRR, HC, HRB, HSr, HG⟩ := hrel
  clear HS3 HG3 HC3 HR3 hl3
  have hlc := HC.out.lt
  have hzr := HG.out.size
  by_cases hlt : cc < 6
  ·have hrr := HRR.out
   unfold RiseRel at hrr
   obtain ⟨i0, i1, i2, i3, i4, i5, j0, j1, j2, j3, j4⟩ := hrr
   obtain rfl | rfl | rfl | rfl | rfl | rfl : cc = 0 ∨ cc = 1 ∨ cc = 2 ∨ cc = 3 ∨ cc = 4 ∨ cc = 5 := by omega
   ·have hn' : ¬ n < 0 := by omega
    have kc0 : wr.cell? ⟨w2.heap.size, 2, none⟩ = some (.int .i64 r0) := HC.out.cell 2
    have kc1 : wr.cell? ⟨w2.heap.size, 3, none⟩ = some (.int .i64 r1) := HC.out.cell 3
    have kc2 : wr.cell? ⟨w2.heap.size, 4, none⟩ = some (.int .i64 r2) := HC.out.cell 4
    have kc3 : wr.cell? ⟨w2.heap.size, 5, none⟩ = some (.int .i64 r3) := HC.out.cell 5
    have kc4 : wr.cell? ⟨w2.heap.size, 6, none⟩ = some (.int .i64 r4) := HC.out.cell 6
    have kc5 : wr.cell? ⟨w2.heap.size, 7, none⟩ = some (.int .i64 r5) := HC.out.cell 7
    go_wp2_with fail
    refine (Below_any S GA len cap tk mm 4 _ HSr.out (HY.out _ HG.out) hn (by omega) (by decide) (by decide)).mono ?_
    rintro e w4 ⟨s, m4, rfl, s0, s1, _, hs4, g4⟩
    have HS4 := Lib.hid hs4
    have HG4 : Hid (w.grownBy w4 (some S)) := Lib.hid (grow_too HG.out g4)
    have HC4 : Hid (Holds w4 w2.heap.size 26 #[.int .i64 cool, .int .i64 gg, .int .i64 r0, .int .i64 r1, .int .i64 r2, .int .i64 r3, .int .i64 r4, .int .i64 r5, .slice none 0 0]) := Lib.hid (HC.out.grown g4 (by omega))
    have HB4 : Hid (Holds w4 w.heap.size 26 #[.int .i64 0, .int .i64 0, .int .i64 0, .int .i64 0, .int .i64 0, .int .i64 0, .int .i64 0, .int .i64 0, .slice none 0 0]) := Lib.hid (HRB.out.grown g4 (by omega))
    clear hs4 g4 kc0 kc1 kc2 kc3 kc4 kc5
    have hs3' : s ≤ 3 := by omega
    obtain ⟨q, hq⟩ : ∃ q, min 20 (6 + s) = q := ⟨_, rfl⟩
    have hmin : ∀ (ats : Array TypeId) (ty : TypeId) (w' : World), (Builtin.min_ ats ty #[.int .i64 20, .int .i64 (6 + s)]).run Tryz.prog w' = .ok (.int .i64 q) w' := fun ats ty w' => by rw [run_min, hq]
    have kc : w4.cell? ⟨w2.heap.size, 2, none⟩ = some (.int .i64 r0) := HC4.out.cell 2
    have kz : w4.frozen? ⟨w2.heap.size, 2, none⟩ = false := HC4.out.frozen 2
    have hl4 := HC4.out.lt
    go_wp2_with fail
    go_roundw
    case rel => exact ⟨1, q, r1, r2, r3, r4, r5, m4, tk + 1, by first | rfl | go_num | simp, by omega, by omega, by omega, Lib.hid (by unfold RiseRel; omega), Lib.hid (by have h := HC4.out; exact zp1), Lib.hid (HB4.out.far (by simp only [ne_eq]; omega) _), Lib.hid (HS4.out.far (by simp only [ne_eq]; omega) _), Lib.hid (grow_dn HG4.out zg)⟩
    case measure => first | (simp [intOf]; done) | (simp [intOf]; omega) | decide
   ·by_cases hn' : n < 1
    ·have kc0 : wr.cell? ⟨w2.heap.size, 2, none⟩ = some (.int .i64 r0) := HC.out.cell 2
     have kc1 : wr.cell? ⟨w2.heap.size, 3, none⟩ = some (.int .i64 r1) := HC.out.cell 3
     have kc2 : wr.cell? ⟨w2.heap.size, 4, none⟩ = some (.int .i64 r2) := HC.out.cell 4
     have kc3 : wr.cell? ⟨w2.heap.size, 5, none⟩ = some (.int .i64 r3) := HC.out.cell 5
     have kc4 : wr.cell? ⟨w2.heap.size, 6, none⟩ = some (.int .i64 r4) := HC.out.cell 6
     have kc5 : wr.cell? ⟨w2.heap.size, 7, none⟩ = some (.int .i64 r5) := HC.out.cell 7
     have hlow : 6 ≤ r0 ∧ r0 ≤ 20 := by omega
     go_wp2_with fail
     refine (Below_any S GA len cap tk mm 4 _ HSr.out (HY.out _ HG.out) hn (by omega) (by decide) (by decide)).mono ?_
     rintro e w4 ⟨s, m4, rfl, s0, s1, _, hs4, g4⟩
     have HS4 := Lib.hid hs4
     have HG4 : Hid (w.grownBy w4 (some S)) := Lib.hid (grow_too HG.out g4)
     have HC4 : Hid (Holds w4 w2.heap.size 26 #[.int .i64 cool, .int .i64 gg, .int .i64 r0, .int .i64 r1, .int .i64 r2, .int .i64 r3, .int .i64 r4, .int .i64 r5, .slice none 0 0]) := Lib.hid (HC.out.grown g4 (by omega))
     have HB4 : Hid (Holds w4 w.heap.size 26 #[.int .i64 0, .int .i64 0, .int .i64 0, .int .i64 0, .int .i64 0, .int .i64 0, .int .i64 0, .int .i64 0, .slice none 0 0]) := Lib.hid (HRB.out.grown g4 (by omega))
     clear hs4 g4 kc0 kc1 kc2 kc3 kc4 kc5
     have hs3' : s ≤ 3 := by omega
     obtain ⟨q, hq⟩ : ∃ q, min 20 (r0 + s) = q := ⟨_, rfl⟩
     have hmin : ∀ (ats : Array TypeId) (ty : TypeId) (w' : World), (Builtin.min_ ats ty #[.int .i64 20, .int .i64 (r0 + s)]).run Tryz.prog w' = .ok (.int .i64 q) w' := fun ats ty w' => by rw [run_min, hq]
     have kc : w4.cell? ⟨w2.heap.size, 3, none⟩ = some (.int .i64 r1) := HC4.out.cell 3
     have kz : w4.frozen? ⟨w2.heap.size, 3, none⟩ = false := HC4.out.frozen 3
     have hl4 := HC4.out.lt
     go_wp2_with fail
     go_roundw
     case rel => exact ⟨2, r0, q, r2, r3, r4, r5, m4, tk + 1, by first | rfl | go_num | simp, by omega, by omega, by omega, Lib.hid (by unfold RiseRel; omega), Lib.hid (by have h := HC4.out; exact zp1), Lib.hid (HB4.out.far (by simp only [ne_eq]; omega) _), Lib.hid (HS4.out.far (by simp only [ne_eq]; omega) _), Lib.hid (grow_dn HG4.out zg)⟩
     case measure => first | (simp [intOf]; done) | (simp [intOf]; omega) | decide
    ·have kc0 : wr.cell? ⟨w2.heap.size, 2, none⟩ = some (.int .i64 r0) := HC.out.cell 2
     have kc1 : wr.cell? ⟨w2.heap.size, 3, none⟩ = some (.int .i64 r1) := HC.out.cell 3
     have kc2 : wr.cell? ⟨w2.heap.size, 4, none⟩ = some (.int .i64 r2) := HC.out.cell 4
     have kc3 : wr.cell? ⟨w2.heap.size, 5, none⟩ = some (.int .i64 r3) := HC.out.cell 5
     have kc4 : wr.cell? ⟨w2.heap.size, 6, none⟩ = some (.int .i64 r4) := HC.out.cell 6
     have kc5 : wr.cell? ⟨w2.heap.size, 7, none⟩ = some (.int .i64 r5) := HC.out.cell 7
     go_wp2_with fail
     refine (Below_any S GA len cap tk mm 4 _ HSr.out (HY.out _ HG.out) hn (by omega) (by decide) (by decide)).mono ?_
     rintro e w4 ⟨s, m4, rfl, s0, s1, _, hs4, g4⟩
     have HS4 := Lib.hid hs4
     have HG4 : Hid (w.grownBy w4 (some S)) := Lib.hid (grow_too HG.out g4)
     have HC4 : Hid (Holds w4 w2.heap.size 26 #[.int .i64 cool, .int .i64 gg, .int .i64 r0, .int .i64 r1, .int .i64 r2, .int .i64 r3, .int .i64 r4, .int .i64 r5, .slice none 0 0]) := Lib.hid (HC.out.grown g4 (by omega))
     have HB4 : Hid (Holds w4 w.heap.size 26 #[.int .i64 0, .int .i64 0, .int .i64 0, .int .i64 0, .int .i64 0, .int .i64 0, .int .i64 0, .int .i64 0, .slice none 0 0]) := Lib.hid (HRB.out.grown g4 (by omega))
     clear hs4 g4 kc0 kc1 kc2 kc3 kc4 kc5
     have hs3' : s ≤ 3 := by omega
     obtain ⟨q, hq⟩ : ∃ q, min 20 (6 + s) = q := ⟨_, rfl⟩
     have hmin : ∀ (ats : Array TypeId) (ty : TypeId) (w' : World), (Builtin.min_ ats ty #[.int .i64 20, .int .i64 (6 + s)]).run Tryz.prog w' = .ok (.int .i64 q) w' := fun ats ty w' => by rw [run_min, hq]
     have kc : w4.cell? ⟨w2.heap.size, 3, none⟩ = some (.int .i64 r1) := HC4.out.cell 3
     have kz : w4.frozen? ⟨w2.heap.size, 3, none⟩ = false := HC4.out.frozen 3
     have hl4 := HC4.out.lt
     go_wp2_with fail
     go_roundw
     case rel => exact ⟨2, r0, q, r2, r3, r4, r5, m4, tk + 1, by first | rfl | go_num | simp, by omega, by omega, by omega, Lib.hid (by unfold RiseRel; omega), Lib.hid (by have h := HC4.out; exact zp1), Lib.hid (HB4.out.far (by simp only [ne_eq]; omega) _), Lib.hid (HS4.out.far (by simp only [ne_eq]; omega) _), Lib.hid (grow_dn HG4.out zg)⟩
     case measure => first | (simp [intOf]; done) | (simp [intOf]; omega) | decide
   ·by_cases hn' : n < 2
    ·have kc0 : wr.cell? ⟨w2.heap.size, 2, none⟩ = some (.int .i64 r0) := HC.out.cell 2
     have kc1 : wr.cell? ⟨w2.heap.size, 3, none⟩ = some (.int .i64 r1) := HC.out.cell 3
     have kc2 : wr.cell? ⟨w2.heap.size, 4, none⟩ = some (.int .i64 r2) := HC.out.cell 4
     have kc3 : wr.cell? ⟨w2.heap.size, 5, none⟩ = some (.int .i64 r3) := HC.out.cell 5
     have kc4 : wr.cell? ⟨w2.heap.size, 6, none⟩ = some (.int .i64 r4) := HC.out.cell 6
     have kc5 : wr.cell? ⟨w2.heap.size, 7, none⟩ = some (.int .i64 r5) := HC.out.cell 7
     have hlow : 6 ≤ r1 ∧ r1 ≤ 20 := by omega
     go_wp2_with fail
     refine (Below_any S GA len cap tk mm 4 _ HSr.out (HY.out _ HG.out) hn (by omega) (by decide) (by decide)).mono ?_
     rintro e w4 ⟨s, m4, rfl, s0, s1, _, hs4, g4⟩
     have HS4 := Lib.hid hs4
     have HG4 : Hid (w.grownBy w4 (some S)) := Lib.hid (grow_too HG.out g4)
     have HC4 : Hid (Holds w4 w2.heap.size 26 #[.int .i64 cool, .int .i64 gg, .int .i64 r0, .int .i64 r1, .int .i64 r2, .int .i64 r3, .int .i64 r4, .int .i64 r5, .slice none 0 0]) := Lib.hid (HC.out.grown g4 (by omega))
     have HB4 : Hid (Holds w4 w.heap.size 26 #[.int .i64 0, .int .i64 0, .int .i64 0, .int .i64 0, .int .i64 0, .int .i64 0, .int .i64 0, .int .i64 0, .slice none 0 0]) := Lib.hid (HRB.out.grown g4 (by omega))
     clear hs4 g4 kc0 kc1 kc2 kc3 kc4 kc5
     have hs3' : s ≤ 3 := by omega
     obtain ⟨q, hq⟩ : ∃ q, min 20 (r1 + s) = q := ⟨_, rfl⟩
     have hmin : ∀ (ats : Array TypeId) (ty : TypeId) (w' : World), (Builtin.min_ ats ty #[.int .i64 20, .int .i64 (r1 + s)]).run Tryz.prog w' = .ok (.int .i64 q) w' := fun ats ty w' => by rw [run_min, hq]
     have kc : w4.cell? ⟨w2.heap.size, 4, none⟩ = some (.int .i64 r2) := HC4.out.cell 4
     have kz : w4.frozen? ⟨w2.heap.size, 4, none⟩ = false := HC4.out.frozen 4
     have hl4 := HC4.out.lt
     go_wp2_with fail
     go_roundw
     case rel => exact ⟨3, r0, r1, q, r3, r4, r5, m4, tk + 1, by first | rfl | go_num | simp, by omega, by omega, by omega, Lib.hid (by unfold RiseRel; omega), Lib.hid (by have h := HC4.out; exact zp1), Lib.hid (HB4.out.far (by simp only [ne_eq]; omega) _), Lib.hid (HS4.out.far (by simp only [ne_eq]; omega) _), Lib.hid (grow_dn HG4.out zg)⟩
     case measure => first | (simp [intOf]; done) | (simp [intOf]; omega) | decide
    ·have kc0 : wr.cell? ⟨w2.heap.size, 2, none⟩ = some (.int .i64 r0) := HC.out.cell 2
     have kc1 : wr.cell? ⟨w2.heap.size, 3, none⟩ = some (.int .i64 r1) := HC.out.cell 3
     have kc2 : wr.cell? ⟨w2.heap.size, 4, none⟩ = some (.int .i64 r2) := HC.out.cell 4
     have kc3 : wr.cell? ⟨w2.heap.size, 5, none⟩ = some (.int .i64 r3) := HC.out.cell 5
     have kc4 : wr.cell? ⟨w2.heap.size, 6, none⟩ = some (.int .i64 r4) := HC.out.cell 6
     have kc5 : wr.cell? ⟨w2.heap.size, 7, none⟩ = some (.int .i64 r5) := HC.out.cell 7
     go_wp2_with fail
     refine (Below_any S GA len cap tk mm 4 _ HSr.out (HY.out _ HG.out) hn (by omega) (by decide) (by decide)).mono ?_
     rintro e w4 ⟨s, m4, rfl, s0, s1, _, hs4, g4⟩
     have HS4 := Lib.hid hs4
     have HG4 : Hid (w.grownBy w4 (some S)) := Lib.hid (grow_too HG.out g4)
     have HC4 : Hid (Holds w4 w2.heap.size 26 #[.int .i64 cool, .int .i64 gg, .int .i64 r0, .int .i64 r1, .int .i64 r2, .int .i64 r3, .int .i64 r4, .int .i64 r5, .slice none 0 0]) := Lib.hid (HC.out.grown g4 (by omega))
     have HB4 : Hid (Holds w4 w.heap.size 26 #[.int .i64 0, .int .i64 0, .int .i64 0, .int .i64 0, .int .i64 0, .int .i64 0, .int .i64 0, .int .i64 0, .slice none 0 0]) := Lib.hid (HRB.out.grown g4 (by omega))
     clear hs4 g4 kc0 kc1 kc2 kc3 kc4 kc5
     have hs3' : s ≤ 3 := by omega
     obtain ⟨q, hq⟩ : ∃ q, min 20 (6 + s) = q := ⟨_, rfl⟩
     have hmin : ∀ (ats : Array TypeId) (ty : TypeId) (w' : World), (Builtin.min_ ats ty #[.int .i64 20, .int .i64 (6 + s)]).run Tryz.prog w' = .ok (.int .i64 q) w' := fun ats ty w' => by rw [run_min, hq]
     have kc : w4.cell? ⟨w2.heap.size, 4, none⟩ = some (.int .i64 r2) := HC4.out.cell 4
     have kz : w4.frozen? ⟨w2.heap.size, 4, none⟩ = false := HC4.out.frozen 4
     have hl4 := HC4.out.lt
     go_wp2_with fail
     go_roundw
     case rel => exact ⟨3, r0, r1, q, r3, r4, r5, m4, tk + 1, by first | rfl | go_num | simp, by omega, by omega, by omega, Lib.hid (by unfold RiseRel; omega), Lib.hid (by have h := HC4.out; exact zp1), Lib.hid (HB4.out.far (by simp only [ne_eq]; omega) _), Lib.hid (HS4.out.far (by simp only [ne_eq]; omega) _), Lib.hid (grow_dn HG4.out zg)⟩
     case measure => first | (simp [intOf]; done) | (simp [intOf]; omega) | decide
   ·have hn' : n < 3 := by omega
    have kc0 : wr.cell? ⟨w2.heap.size, 2, none⟩ = some (.int .i64 r0) := HC.out.cell 2
    have kc1 : wr.cell? ⟨w2.heap.size, 3, none⟩ = some (.int .i64 r1) := HC.out.cell 3
    have kc2 : wr.cell? ⟨w2.heap.size, 4, none⟩ = some (.int .i64 r2) := HC.out.cell 4
    have kc3 : wr.cell? ⟨w2.heap.size, 5, none⟩ = some (.int .i64 r3) := HC.out.cell 5
    have kc4 : wr.cell? ⟨w2.heap.size, 6, none⟩ = some (.int .i64 r4) := HC.out.cell 6
    have kc5 : wr.cell? ⟨w2.heap.size, 7, none⟩ = some (.int .i64 r5) := HC.out.cell 7
    have hlow : 6 ≤ r2 ∧ r2 ≤ 20 := by omega
    go_wp2_with fail
    refine (Below_any S GA len cap tk mm 4 _ HSr.out (HY.out _ HG.out) hn (by omega) (by decide) (by decide)).mono ?_
    rintro e w4 ⟨s, m4, rfl, s0, s1, _, hs4, g4⟩
    have HS4 := Lib.hid hs4
    have HG4 : Hid (w.grownBy w4 (some S)) := Lib.hid (grow_too HG.out g4)
    have HC4 : Hid (Holds w4 w2.heap.size 26 #[.int .i64 cool, .int .i64 gg, .int .i64 r0, .int .i64 r1, .int .i64 r2, .int .i64 r3, .int .i64 r4, .int .i64 r5, .slice none 0 0]) := Lib.hid (HC.out.grown g4 (by omega))
    have HB4 : Hid (Holds w4 w.heap.size 26 #[.int .i64 0, .int .i64 0, .int .i64 0, .int .i64 0, .int .i64 0, .int .i64 0, .int .i64 0, .int .i64 0, .slice none 0 0]) := Lib.hid (HRB.out.grown g4 (by omega))
    clear hs4 g4 kc0 kc1 kc2 kc3 kc4 kc5
    have hs3' : s ≤ 3 := by omega
    obtain ⟨q, hq⟩ : ∃ q, min 20 (r2 + s) = q := ⟨_, rfl⟩
    have hmin : ∀ (ats : Array TypeId) (ty : TypeId) (w' : World), (Builtin.min_ ats ty #[.int .i64 20, .int .i64 (r2 + s)]).run Tryz.prog w' = .ok (.int .i64 q) w' := fun ats ty w' => by rw [run_min, hq]
    have kc : w4.cell? ⟨w2.heap.size, 5, none⟩ = some (.int .i64 r3) := HC4.out.cell 5
    have kz : w4.frozen? ⟨w2.heap.size, 5, none⟩ = false := HC4.out.frozen 5
    have hl4 := HC4.out.lt
    go_wp2_with fail
    go_roundw
    case rel => exact ⟨4, r0, r1, r2, q, r4, r5, m4, tk + 1, by first | rfl | go_num | simp, by omega, by omega, by omega, Lib.hid (by unfold RiseRel; omega), Lib.hid (by have h := HC4.out; exact zp1), Lib.hid (HB4.out.far (by simp only [ne_eq]; omega) _), Lib.hid (HS4.out.far (by simp only [ne_eq]; omega) _), Lib.hid (grow_dn HG4.out zg)⟩
    case measure => first | (simp [intOf]; done) | (simp [intOf]; omega) | decide
   ·have hn' : n < 4 := by omega
    have kc0 : wr.cell? ⟨w2.heap.size, 2, none⟩ = some (.int .i64 r0) := HC.out.cell 2
    have kc1 : wr.cell? ⟨w2.heap.size, 3, none⟩ = some (.int .i64 r1) := HC.out.cell 3
    have kc2 : wr.cell? ⟨w2.heap.size, 4, none⟩ = some (.int .i64 r2) := HC.out.cell 4
    have kc3 : wr.cell? ⟨w2.heap.size, 5, none⟩ = some (.int .i64 r3) := HC.out.cell 5
    have kc4 : wr.cell? ⟨w2.heap.size, 6, none⟩ = some (.int .i64 r4) := HC.out.cell 6
    have kc5 : wr.cell? ⟨w2.heap.size, 7, none⟩ = some (.int .i64 r5) := HC.out.cell 7
    have hlow : 6 ≤ r3 ∧ r3 ≤ 20 := by omega
    go_wp2_with fail
    refine (Below_any S GA len cap tk mm 4 _ HSr.out (HY.out _ HG.out) hn (by omega) (by decide) (by decide)).mono ?_
    rintro e w4 ⟨s, m4, rfl, s0, s1, _, hs4, g4⟩
    have HS4 := Lib.hid hs4
    have HG4 : Hid (w.grownBy w4 (some S)) := Lib.hid (grow_too HG.out g4)
    have HC4 : Hid (Holds w4 w2.heap.size 26 #[.int .i64 cool, .int .i64 gg, .int .i64 r0, .int .i64 r1, .int .i64 r2, .int .i64 r3, .int .i64 r4, .int .i64 r5, .slice none 0 0]) := Lib.hid (HC.out.grown g4 (by omega))
    have HB4 : Hid (Holds w4 w.heap.size 26 #[.int .i64 0, .int .i64 0, .int .i64 0, .int .i64 0, .int .i64 0, .int .i64 0, .int .i64 0, .int .i64 0, .slice none 0 0]) := Lib.hid (HRB.out.grown g4 (by omega))
    clear hs4 g4 kc0 kc1 kc2 kc3 kc4 kc5
    have hs3' : s ≤ 3 := by omega
    obtain ⟨q, hq⟩ : ∃ q, min 20 (r3 + s) = q := ⟨_, rfl⟩
    have hmin : ∀ (ats : Array TypeId) (ty : TypeId) (w' : World), (Builtin.min_ ats ty #[.int .i64 20, .int .i64 (r3 + s)]).run Tryz.prog w' = .ok (.int .i64 q) w' := fun ats ty w' => by rw [run_min, hq]
    have kc : w4.cell? ⟨w2.heap.size, 6, none⟩ = some (.int .i64 r4) := HC4.out.cell 6
    have kz : w4.frozen? ⟨w2.heap.size, 6, none⟩ = false := HC4.out.frozen 6
    have hl4 := HC4.out.lt
    go_wp2_with fail
    go_roundw
    case rel => exact ⟨5, r0, r1, r2, r3, q, r5, m4, tk + 1, by first | rfl | go_num | simp, by omega, by omega, by omega, Lib.hid (by unfold RiseRel; omega), Lib.hid (by have h := HC4.out; exact zp1), Lib.hid (HB4.out.far (by simp only [ne_eq]; omega) _), Lib.hid (HS4.out.far (by simp only [ne_eq]; omega) _), Lib.hid (grow_dn HG4.out zg)⟩
    case measure => first | (simp [intOf]; done) | (simp [intOf]; omega) | decide
   ·have hn' : n < 5 := by omega
    have kc0 : wr.cell? ⟨w2.heap.size, 2, none⟩ = some (.int .i64 r0) := HC.out.cell 2
    have kc1 : wr.cell? ⟨w2.heap.size, 3, none⟩ = some (.int .i64 r1) := HC.out.cell 3
    have kc2 : wr.cell? ⟨w2.heap.size, 4, none⟩ = some (.int .i64 r2) := HC.out.cell 4
    have kc3 : wr.cell? ⟨w2.heap.size, 5, none⟩ = some (.int .i64 r3) := HC.out.cell 5
    have kc4 : wr.cell? ⟨w2.heap.size, 6, none⟩ = some (.int .i64 r4) := HC.out.cell 6
    have kc5 : wr.cell? ⟨w2.heap.size, 7, none⟩ = some (.int .i64 r5) := HC.out.cell 7
    have hlow : 6 ≤ r4 ∧ r4 ≤ 20 := by omega
    go_wp2_with fail
    refine (Below_any S GA len cap tk mm 4 _ HSr.out (HY.out _ HG.out) hn (by omega) (by decide) (by decide)).mono ?_
    rintro e w4 ⟨s, m4, rfl, s0, s1, _, hs4, g4⟩
    have HS4 := Lib.hid hs4
    have HG4 : Hid (w.grownBy w4 (some S)) := Lib.hid (grow_too HG.out g4)
    have HC4 : Hid (Holds w4 w2.heap.size 26 #[.int .i64 cool, .int .i64 gg, .int .i64 r0, .int .i64 r1, .int .i64 r2, .int .i64 r3, .int .i64 r4, .int .i64 r5, .slice none 0 0]) := Lib.hid (HC.out.grown g4 (by omega))
    have HB4 : Hid (Holds w4 w.heap.size 26 #[.int .i64 0, .int .i64 0, .int .i64 0, .int .i64 0, .int .i64 0, .int .i64 0, .int .i64 0, .int .i64 0, .slice none 0 0]) := Lib.hid (HRB.out.grown g4 (by omega))
    clear hs4 g4 kc0 kc1 kc2 kc3 kc4 kc5
    have hs3' : s ≤ 3 := by omega
    obtain ⟨q, hq⟩ : ∃ q, min 20 (r4 + s) = q := ⟨_, rfl⟩
    have hmin : ∀ (ats : Array TypeId) (ty : TypeId) (w' : World), (Builtin.min_ ats ty #[.int .i64 20, .int .i64 (r4 + s)]).run Tryz.prog w' = .ok (.int .i64 q) w' := fun ats ty w' => by rw [run_min, hq]
    have kc : w4.cell? ⟨w2.heap.size, 7, none⟩ = some (.int .i64 r5) := HC4.out.cell 7
    have kz : w4.frozen? ⟨w2.heap.size, 7, none⟩ = false := HC4.out.frozen 7
    have hl4 := HC4.out.lt
    go_wp2_with fail
    go_roundw
    case rel => exact ⟨6, r0, r1, r2, r3, r4, q, m4, tk + 1, by first | rfl | go_num | simp, by omega, by omega, by omega, Lib.hid (by unfold RiseRel; omega), Lib.hid (by have h := HC4.out; exact zp1), Lib.hid (HB4.out.far (by simp only [ne_eq]; omega) _), Lib.hid (HS4.out.far (by simp only [ne_eq]; omega) _), Lib.hid (grow_dn HG4.out zg)⟩
    case measure => first | (simp [intOf]; done) | (simp [intOf]; omega) | decide
  ·have hce : cc = 6 := by omega
   subst hce
   go_wp2_with fail
   refine (Among_any S GA len cap tk mm 1 bins _ HSr.out (HY.out _ HG.out) hn (by omega) (by decide) (by decide) (by omega) (by omega)).mono ?_
   rintro e w5 ⟨cnt, m5, rfl, t0, t1, _, hs5, g5⟩
   have HS5 := Lib.hid hs5
   have HG5 : Hid (w.grownBy w5 (some S)) := Lib.hid (grow_too HG.out g5)
   have HC5 : Hid (Holds w5 w2.heap.size 26 #[.int .i64 cool, .int .i64 gg, .int .i64 r0, .int .i64 r1, .int .i64 r2, .int .i64 r3, .int .i64 r4, .int .i64 r5, .slice none 0 0]) := Lib.hid (HC.out.grown g5 (by omega))
   have HB5 : Hid (Holds w5 w.heap.size 26 #[.int .i64 0, .int .i64 0, .int .i64 0, .int .i64 0, .int .i64 0, .int .i64 0, .int .i64 0, .int .i64 0, .slice none 0 0]) := Lib.hid (HRB.out.grown g5 (by omega))
   have hcnt : cnt ≤ bins := by omega
   clear hs5 g5 t1 HC HRB HSr HG hlc hzr
   obtain ⟨tb, htb, htb0, htb1, htb2⟩ := info_parts info_bin
   go_wp2_with fail
   go_loopw [44] (fun v44 wz => ∃ (bs : List Bn) (BA : Option Addr) (bc : Nat) (mm : Int) (tk : Nat), v44 = .int .i64 (bs.length : Int) ∧ (bs.length : Int) ≤ cnt ∧ tk ≤ T + 10 + 5 * bs.length ∧ Hid (∀ x ∈ bs, x.inRange = true ∧ x.inOrder = true) ∧ Hid (Holds wz w2.heap.size 26 #[.int .i64 cool, .int .i64 gg, .int .i64 r0, .int .i64 r1, .int .i64 r2, .int .i64 r3, .int .i64 r4, .int .i64 r5, .slice BA bs.length bc]) ∧ Hid (OwnBins wz (w2.heap.size + 1) 46 (.slice BA bs.length bc) bs) ∧ Hid (Holds wz w.heap.size 26 #[.int .i64 0, .int .i64 0, .int .i64 0, .int .i64 0, .int .i64 0, .int .i64 0, .int .i64 0, .int .i64 0, .slice none 0 0]) ∧ Hid (Holds wz S 53 #[.slice GA len cap, .int .i64 (tk : Int), .int .u32 mm]) ∧ Hid (w.grownBy wz (some S))) (fun v44 _ => (cnt - intOf v44).toNat)
   case atStart => exact ⟨[], none, 0, m5, tk + 1, rfl, by simp; omega, by omega, Lib.hid (fun x h => by cases h), HC5, Lib.hid ⟨rfl, .inl ⟨rfl, rfl⟩⟩, HB5, HS5, HG5⟩
   case round =>
    rename World => wz
    obtain ⟨bs, BA, bc, mm2, tk2, rfl, hbl, htk2, HOK, HCz, HOz, HBz, HSz, HGz⟩ := hrel
    clear HS5 HG5 HC5 HB5
    have hlz := HCz.out.lt
    have hzz := HGz.out.size
    by_cases hlt2 : (bs.length : Int) < cnt
    ·go_wp2_with fail
     refine (Among_any S GA len cap tk2 mm2 18 60 _ HSz.out (HY.out _ HGz.out) hn (by omega) (by decide) (by decide) (by decide) (by decide)).mono ?_
     rintro e w6 ⟨mk, m6, rfl, mk0, mk1, _, hs6, g6⟩
     have HS6 := Lib.hid hs6
     have HG6 : Hid (w.grownBy w6 (some S)) := Lib.hid (grow_too HGz.out g6)
     have hmk : mk ≤ 60 := by omega
     have HGA : Hid (wz.grownBy w6 (some S)) := Lib.hid g6
     clear hs6 g6
     go_wp2_with fail
     refine (Below_any S GA len cap (tk2 + 1) m6 6 _ HS6.out (HY.out _ HG6.out) hn (by omega) (by decide) (by decide)).mono ?_
     rintro e w7 ⟨lo, m7, rfl, lo0, lo1, _, hs7, g7⟩
     have HS7 := Lib.hid hs7
     have HG7 : Hid (w.grownBy w7 (some S)) := Lib.hid (grow_too HG6.out g7)
     have HGB : Hid (wz.grownBy w7 (some S)) := Lib.hid (grow_too HGA.out g7)
     have HC7 : Hid (Holds w7 w2.heap.size 26 #[.int .i64 cool, .int .i64 gg, .int .i64 r0, .int .i64 r1, .int .i64 r2, .int .i64 r3, .int .i64 r4, .int .i64 r5, .slice BA bs.length bc]) := Lib.hid (HCz.out.grown HGB.out (by omega))
     have HO7 : Hid (OwnBins w7 (w2.heap.size + 1) 46 (.slice BA bs.length bc) bs) := Lib.hid (HOz.out.sack HGB.out (by omega))
     have HB7 : Hid (Holds w7 w.heap.size 26 #[.int .i64 0, .int .i64 0, .int .i64 0, .int .i64 0, .int .i64 0, .int .i64 0, .int .i64 0, .int .i64 0, .slice none 0 0]) := Lib.hid (HBz.out.grown HGB.out (by omega))
     have hlo : lo ≤ 5 := by omega
     have hl7 := HC7.out.lt
     clear hs7 g7 HS6 HG6 HGA HGB HCz HOz HBz HSz HGz hlz hzz lo1
     obtain ⟨p, hp⟩ : ∃ p, min mk 30 = p := ⟨_, rfl⟩
     have hmin : ∀ (ats : Array TypeId) (ty : TypeId) (w' : World), (Builtin.min_ ats ty #[.int .i64 mk, .int .i64 30]).run Tryz.prog w' = .ok (.int .i64 p) w' := fun ats ty w' => by rw [run_min, hp]
     have hp18 : 18 ≤ p ∧ p ≤ 30 ∧ p ≤ mk := by omega
     obtain ⟨q, hq⟩ : ∃ q, min 5 (lo + 2) = q := ⟨_, rfl⟩
     have hmin2 : ∀ (ats : Array TypeId) (ty : TypeId) (w' : World), (Builtin.min_ ats ty #[.int .i64 5, .int .i64 (lo + 2)]).run Tryz.prog w' = .ok (.int .i64 q) w' := fun ats ty w' => by rw [run_min, hq]
     have hq5 : lo ≤ q ∧ q ≤ 5 := by omega
     have hne7 : w7.heap.size ≠ S := by omega
     go_wp2_with fail
     rename_i Kc hKc
     have HSL := Lib.hid (show slotsOf [some 52, some 53, some 54, some 55, some 56, some 57, some 58, some 59, some 60, some 61, some 62, some 63, some 64, some 65, some 66, some 67, some 68, none, some 69, some 70, none] = [52, 53, 54, 55, 56, 57, 58, 59, 60, 61, 62, 63, 64, 65, 66, 67, 68, 69, 70] from rfl)
     refine wp_region_partsG (by kernel_rfl) [some 52, some 53, some 54, some 55, some 56, some 57, some 58, some 59, some 60, some 61, some 62, some 63, some 64, some 65, some 66, some 67, some 68, none, some 69, some 70, none] (fun jq xq w' => match jq with
      | 0 => xq 52 = .pointer (some ⟨S, 0, none⟩)
      | 1 => xq 53 = .pointer (some ⟨w7.heap.size, 1, none⟩)
      | 2 => xq 54 = .int .i64 mk
      | 3 => xq 55 = .int .i64 p
      | 4 => xq 56 = .int .i64 (p + 1)
      | 5 => ∃ wm mm, xq 57 = .int .i64 wm ∧ 0 ≤ wm ∧ wm ≤ p ∧ Holds w' S 53 #[.slice GA len cap, .int .i64 ((tk2 + 1 + 1 + 1 : Nat) : Int), .int .u32 mm]
      | 6 => xq 58 = .pointer (some ⟨S, 0, none⟩)
      | 7 => xq 59 = .pointer (some ⟨w7.heap.size, 2, none⟩)
      | 8 => xq 60 = .pointer (some ⟨w7.heap.size, 2, none⟩)
      | 9 => xq 61 = .int .i64 lo
      | 10 => xq 62 = .pointer (some ⟨w7.heap.size, 2, none⟩)
      | 11 => xq 63 = .pointer (some ⟨w7.heap.size, 2, none⟩)
      | 12 => xq 64 = .int .i64 lo
      | 13 => xq 65 = .int .i64 (lo + 2)
      | 14 => xq 66 = .int .i64 q
      | 15 => ∃ hi mm wm, xq 67 = .int .i64 hi ∧ lo ≤ hi ∧ hi ≤ q ∧ Holds w' S 53 #[.slice GA len cap, .int .i64 ((tk2 + 1 + 1 + 1 + 1 : Nat) : Int), .int .u32 mm] ∧ xq 57 = .int .i64 wm ∧ 0 ≤ wm ∧ wm ≤ p
      | 16 => xq 68 = .pointer (some ⟨w7.heap.size, 0, none⟩)
      | 17 => ∃ wm d, Holds w' w7.heap.size 46 #[.int .i64 wm, .int .i64 mk, .int .i64 lo, d] ∧ 0 ≤ wm ∧ wm ≤ p
      | 18 => xq 69 = .pointer (some ⟨w7.heap.size, 2, none⟩)
      | 19 => xq 70 = .pointer (some ⟨w7.heap.size, 3, none⟩)
      | 20 => ∃ hi a, Holds w' w7.heap.size 46 #[a, .int .i64 mk, .int .i64 lo, .int .i64 hi] ∧ lo ≤ hi ∧ hi ≤ q
      | 21 => Holds w' S 53 #[.slice GA len cap, .int .i64 ((tk2 + 1 + 1 : Nat) : Int), .int .u32 m7]
      | 22 => ∃ a d, Holds w' w7.heap.size 46 #[a, .int .i64 mk, .int .i64 lo, d]
      | _ => True) [[52], [53], [54], [55], [56], [57], [58], [59], [60], [61], [62], [63], [64], [65], [66], [67, 57], [68], [], [69], [70], [], [], []] [(5, 21), (15, 21), (15, 5)] (fun w' => w7.grownBy w' (some S)) (by kernel_rfl)  ?_ ?_ (fun w' w'' hb h => only_up h hb) (only_below S (zg : Below w7.heap.size w7 _)) ?_ ?_ ?_
     ·intro jq xq xq' wqq h hv
      match jq, h, hv with
      | 0, h, hv => show xq' 52 = .pointer (some ⟨S, 0, none⟩); rw [← h 52 (by decide)]; exact hv
      | 1, h, hv => show xq' 53 = .pointer (some ⟨w7.heap.size, 1, none⟩); rw [← h 53 (by decide)]; exact hv
      | 2, h, hv => show xq' 54 = .int .i64 mk; rw [← h 54 (by decide)]; exact hv
      | 3, h, hv => show xq' 55 = .int .i64 p; rw [← h 55 (by decide)]; exact hv
      | 4, h, hv => show xq' 56 = .int .i64 (p + 1); rw [← h 56 (by decide)]; exact hv
      | 5, h, hv => show ∃ wm mm, xq' 57 = .int .i64 wm ∧ 0 ≤ wm ∧ wm ≤ p ∧ Holds wqq S 53 #[.slice GA len cap, .int .i64 ((tk2 + 1 + 1 + 1 : Nat) : Int), .int .u32 mm]; rw [← h 57 (by decide)]; exact hv
      | 6, h, hv => show xq' 58 = .pointer (some ⟨S, 0, none⟩); rw [← h 58 (by decide)]; exact hv
      | 7, h, hv => show xq' 59 = .pointer (some ⟨w7.heap.size, 2, none⟩); rw [← h 59 (by decide)]; exact hv
      | 8, h, hv => show xq' 60 = .pointer (some ⟨w7.heap.size, 2, none⟩); rw [← h 60 (by decide)]; exact hv
      | 9, h, hv => show xq' 61 = .int .i64 lo; rw [← h 61 (by decide)]; exact hv
      | 10, h, hv => show xq' 62 = .pointer (some ⟨w7.heap.size, 2, none⟩); rw [← h 62 (by decide)]; exact hv
      | 11, h, hv => show xq' 63 = .pointer (some ⟨w7.heap.size, 2, none⟩); rw [← h 63 (by decide)]; exact hv
      | 12, h, hv => show xq' 64 = .int .i64 lo; rw [← h 64 (by decide)]; exact hv
      | 13, h, hv => show xq' 65 = .int .i64 (lo + 2); rw [← h 65 (by decide)]; exact hv
      | 14, h, hv => show xq' 66 = .int .i64 q; rw [← h 66 (by decide)]; exact hv
      | 15, h, hv => show ∃ hi mm wm, xq' 67 = .int .i64 hi ∧ lo ≤ hi ∧ hi ≤ q ∧ Holds wqq S 53 #[.slice GA len cap, .int .i64 ((tk2 + 1 + 1 + 1 + 1 : Nat) : Int), .int .u32 mm] ∧ xq' 57 = .int .i64 wm ∧ 0 ≤ wm ∧ wm ≤ p; rw [← h 67 (by decide), ← h 57 (by decide)]; exact hv
      | 16, h, hv => show xq' 68 = .pointer (some ⟨w7.heap.size, 0, none⟩); rw [← h 68 (by decide)]; exact hv
      | 17, h, hv => exact hv
      | 18, h, hv => show xq' 69 = .pointer (some ⟨w7.heap.size, 2, none⟩); rw [← h 69 (by decide)]; exact hv
      | 19, h, hv => show xq' 70 = .pointer (some ⟨w7.heap.size, 3, none⟩); rw [← h 70 (by decide)]; exact hv
      | 20, h, hv => exact hv
      | 21, h, hv => exact hv
      | 22, h, hv => exact hv
      | _ + 23, _, _ => trivial
     ·intro jq xq wqq w' hb' hv
      match jq, hv with
      | 0, hv => exact hv
      | 1, hv => exact hv
      | 2, hv => exact hv
      | 3, hv => exact hv
      | 4, hv => exact hv
      | 5, ⟨b0, b1, h0, h1, h2, h3⟩ => exact ⟨b0, b1, h0, h1, h2, h3.up hb'⟩
      | 6, hv => exact hv
      | 7, hv => exact hv
      | 8, hv => exact hv
      | 9, hv => exact hv
      | 10, hv => exact hv
      | 11, hv => exact hv
      | 12, hv => exact hv
      | 13, hv => exact hv
      | 14, hv => exact hv
      | 15, ⟨b0, b1, b2, h0, h1, h2, h3, h4, h5, h6⟩ => exact ⟨b0, b1, b2, h0, h1, h2, h3.up hb', h4, h5, h6⟩
      | 16, hv => exact hv
      | 17, ⟨b0, b1, h0, h1, h2⟩ => exact ⟨b0, b1, h0.up hb', h1, h2⟩
      | 18, hv => exact hv
      | 19, hv => exact hv
      | 20, ⟨b0, b1, h0, h1, h2⟩ => exact ⟨b0, b1, h0.up hb', h1, h2⟩
      | 21, h0 => exact h0.up hb'
      | 22, ⟨b0, b1, h0⟩ => exact ⟨b0, b1, h0.up hb'⟩
      | _ + 23, _ => trivial
     ·intro jq hj
      match jq, hj with
      | 0, hj => exact absurd hj (by decide)
      | 1, hj => exact absurd hj (by decide)
      | 2, hj => exact absurd hj (by decide)
      | 3, hj => exact absurd hj (by decide)
      | 4, hj => exact absurd hj (by decide)
      | 5, hj => exact absurd hj (by decide)
      | 6, hj => exact absurd hj (by decide)
      | 7, hj => exact absurd hj (by decide)
      | 8, hj => exact absurd hj (by decide)
      | 9, hj => exact absurd hj (by decide)
      | 10, hj => exact absurd hj (by decide)
      | 11, hj => exact absurd hj (by decide)
      | 12, hj => exact absurd hj (by decide)
      | 13, hj => exact absurd hj (by decide)
      | 14, hj => exact absurd hj (by decide)
      | 15, hj => exact absurd hj (by decide)
      | 16, hj => exact absurd hj (by decide)
      | 17, hj => exact absurd hj (by decide)
      | 18, hj => exact absurd hj (by decide)
      | 19, hj => exact absurd hj (by decide)
      | 20, hj => exact absurd hj (by decide)
      | 21, _ => exact HS7.out.up zg
      | 22, _ => exact ⟨_, _, (by exact zp1)⟩
      | _ + 23, _ => trivial
     ·refine ⟨?_, ?_, ?_, ?_, ?_, ?_, ?_, ?_, ?_, ?_, ?_, ?_, ?_, ?_, ?_, ?_, ?_, ?_, ?_, ?_, ?_, trivial⟩
      ·intro xq w1 hb1 hx K hK0
       have hK := fun v w' hb => hK0 v w' (.inl hb)
       clear hx hKc hK0
       have hsz1 := hb1.size
       simp only [frameOf, fill, setSlot, sg, Nat.reduceBEq, if_true, if_false, Nat.reduceAdd, Nat.reduceEqDiff, HSL.out] at hK ⊢
       go_wp2_with (fail)
       exact hK _ _ (Below.refl _ _) rfl
      ·intro xq w1 hb1 hx K hK0
       have hK := fun v w' hb => hK0 v w' (.inl hb)
       clear hx hKc hK0
       have hsz1 := hb1.size
       simp only [frameOf, fill, setSlot, sg, Nat.reduceBEq, if_true, if_false, Nat.reduceAdd, Nat.reduceEqDiff, HSL.out] at hK ⊢
       go_wp2_with (fail)
       exact hK _ _ (Below.refl _ _) rfl
      ·intro xq w1 hb1 hx K hK0
       have hK := fun v w' hb => hK0 v w' (.inl hb)
       have e53 : xq 53 = .pointer (some ⟨w7.heap.size, 1, none⟩) := hx 1 (by rfl) (by rfl)
       obtain ⟨aix, dix, fix_0⟩ := hx 22 (by rfl) (by rfl)
       clear hx hKc hK0
       have hsz1 := hb1.size
       have kx1 : w1.cell? ⟨w7.heap.size, 1, none⟩ = some (.int .i64 mk) := fix_0.cell 1
       have kx2 : w1.cell? ⟨w7.heap.size, 2, none⟩ = some (.int .i64 lo) := fix_0.cell 2
       simp only [frameOf, fill, setSlot, sg, Nat.reduceBEq, if_true, if_false, Nat.reduceAdd, Nat.reduceEqDiff, HSL.out] at hK ⊢
       simp only [e53] at hK ⊢
       clear e53
       go_wp2_with (fail)
       exact hK _ _ (Below.refl _ _) rfl
      ·intro xq w1 hb1 hx K hK0
       have hK := fun v w' hb => hK0 v w' (.inl hb)
       have e54 : xq 54 = .int .i64 mk := hx 2 (by rfl) (by rfl)
       clear hx hKc hK0
       have hsz1 := hb1.size
       simp only [frameOf, fill, setSlot, sg, Nat.reduceBEq, if_true, if_false, Nat.reduceAdd, Nat.reduceEqDiff, HSL.out] at hK ⊢
       simp only [e54] at hK ⊢
       clear e54
       go_wp2_with (fail)
       exact hK _ _ (Below.refl _ _) rfl
      ·intro xq w1 hb1 hx K hK0
       have hK := fun v w' hb => hK0 v w' (.inl hb)
       have e55 : xq 55 = .int .i64 p := hx 3 (by rfl) (by rfl)
       clear hx hKc hK0
       have hsz1 := hb1.size
       simp only [frameOf, fill, setSlot, sg, Nat.reduceBEq, if_true, if_false, Nat.reduceAdd, Nat.reduceEqDiff, HSL.out] at hK ⊢
       simp only [e55] at hK ⊢
       clear e55
       go_wp2_with (fail)
       exact hK _ _ (Below.refl _ _) rfl
      ·intro xq w1 hb1 hx K hK0
       have hK := fun v w' hb => hK0 v w' (.inr hb)
       have e52 : xq 52 = .pointer (some ⟨S, 0, none⟩) := hx 0 (by rfl) (by rfl)
       have e56 : xq 56 = .int .i64 (p + 1) := hx 4 (by rfl) (by rfl)
       have fiS_0 : Holds w1 S 53 #[.slice GA len cap, .int .i64 ((tk2 + 1 + 1 : Nat) : Int), .int .u32 m7] := hx 21 (by rfl) (by rfl)
       clear hx hKc hK0
       have hsz1 := hb1.size
       simp only [frameOf, fill, setSlot, sg, Nat.reduceBEq, if_true, if_false, Nat.reduceAdd, Nat.reduceEqDiff, HSL.out] at hK ⊢
       simp only [e52, e56] at hK ⊢
       clear e52 e56
       go_wp2_with ((go_at_call 7; refine (Below_any S GA len cap (tk2 + 1 + 1) m7 (p + 1) _ fiS_0 (HY.out _ (grow_too HG7.out hb1)) hn (by omega) (by omega) (by omega)).mono ?_; rintro e w2' ⟨r, mm, rfl, r0', r1', _, hs, g⟩))
       refine hK _ _ ⟨(grow_too hb1 g), ?_⟩ ⟨r, mm, rfl, by omega, by omega, hs⟩
       intro jq xq hd hne hv
       match jq, hd, hne, hv with
       | 0, _, _, hv => exact hv
       | 1, _, _, hv => exact hv
       | 2, _, _, hv => exact hv
       | 3, _, _, hv => exact hv
       | 4, _, _, hv => exact hv
       | 5, _, hne, _ => exact absurd rfl hne
       | 6, _, _, hv => exact hv
       | 7, _, _, hv => exact hv
       | 8, _, _, hv => exact hv
       | 9, _, _, hv => exact hv
       | 10, _, _, hv => exact hv
       | 11, _, _, hv => exact hv
       | 12, _, _, hv => exact hv
       | 13, _, _, hv => exact hv
       | 14, _, _, hv => exact hv
       | 15, _, _, hv => obtain ⟨_, _, _, _, _, _, hx_, _⟩ := hv; exact (tick_clash fiS_0 hx_ (by omega)).elim
       | 16, _, _, hv => exact hv
       | 17, _, _, hv => obtain ⟨x1, x2, h1, h2, h3⟩ := hv; exact ⟨x1, x2, h1.grown g hne7, h2, h3⟩
       | 18, _, _, hv => exact hv
       | 19, _, _, hv => exact hv
       | 20, _, _, hv => obtain ⟨x1, x2, h1, h2, h3⟩ := hv; exact ⟨x1, x2, h1.grown g hne7, h2, h3⟩
       | 21, hd, _, _ => exact absurd hd (by decide)
       | 22, _, _, hv => obtain ⟨x1, x2, h1⟩ := hv; exact ⟨x1, x2, h1.grown g hne7⟩
       | _ + 23, _, _, _ => trivial
      ·intro xq w1 hb1 hx K hK0
       have hK := fun v w' hb => hK0 v w' (.inl hb)
       clear hx hKc hK0
       have hsz1 := hb1.size
       simp only [frameOf, fill, setSlot, sg, Nat.reduceBEq, if_true, if_false, Nat.reduceAdd, Nat.reduceEqDiff, HSL.out] at hK ⊢
       go_wp2_with (fail)
       exact hK _ _ (Below.refl _ _) rfl
      ·intro xq w1 hb1 hx K hK0
       have hK := fun v w' hb => hK0 v w' (.inl hb)
       clear hx hKc hK0
       have hsz1 := hb1.size
       simp only [frameOf, fill, setSlot, sg, Nat.reduceBEq, if_true, if_false, Nat.reduceAdd, Nat.reduceEqDiff, HSL.out] at hK ⊢
       go_wp2_with (fail)
       exact hK _ _ (Below.refl _ _) rfl
      ·intro xq w1 hb1 hx K hK0
       have hK := fun v w' hb => hK0 v w' (.inl hb)
       have e59 : xq 59 = .pointer (some ⟨w7.heap.size, 2, none⟩) := hx 7 (by rfl) (by rfl)
       clear hx hKc hK0
       have hsz1 := hb1.size
       simp only [frameOf, fill, setSlot, sg, Nat.reduceBEq, if_true, if_false, Nat.reduceAdd, Nat.reduceEqDiff, HSL.out] at hK ⊢
       simp only [e59] at hK ⊢
       clear e59
       go_wp2_with (fail)
       exact hK _ _ (Below.refl _ _) rfl
      ·intro xq w1 hb1 hx K hK0
       have hK := fun v w' hb => hK0 v w' (.inl hb)
       have e60 : xq 60 = .pointer (some ⟨w7.heap.size, 2, none⟩) := hx 8 (by rfl) (by rfl)
       obtain ⟨aix, dix, fix_0⟩ := hx 22 (by rfl) (by rfl)
       clear hx hKc hK0
       have hsz1 := hb1.size
       have kx1 : w1.cell? ⟨w7.heap.size, 1, none⟩ = some (.int .i64 mk) := fix_0.cell 1
       have kx2 : w1.cell? ⟨w7.heap.size, 2, none⟩ = some (.int .i64 lo) := fix_0.cell 2
       simp only [frameOf, fill, setSlot, sg, Nat.reduceBEq, if_true, if_false, Nat.reduceAdd, Nat.reduceEqDiff, HSL.out] at hK ⊢
       simp only [e60] at hK ⊢
       clear e60
       go_wp2_with (fail)
       exact hK _ _ (Below.refl _ _) rfl
      ·intro xq w1 hb1 hx K hK0
       have hK := fun v w' hb => hK0 v w' (.inl hb)
       clear hx hKc hK0
       have hsz1 := hb1.size
       simp only [frameOf, fill, setSlot, sg, Nat.reduceBEq, if_true, if_false, Nat.reduceAdd, Nat.reduceEqDiff, HSL.out] at hK ⊢
       go_wp2_with (fail)
       exact hK _ _ (Below.refl _ _) rfl
      ·intro xq w1 hb1 hx K hK0
       have hK := fun v w' hb => hK0 v w' (.inl hb)
       have e62 : xq 62 = .pointer (some ⟨w7.heap.size, 2, none⟩) := hx 10 (by rfl) (by rfl)
       clear hx hKc hK0
       have hsz1 := hb1.size
       simp only [frameOf, fill, setSlot, sg, Nat.reduceBEq, if_true, if_false, Nat.reduceAdd, Nat.reduceEqDiff, HSL.out] at hK ⊢
       simp only [e62] at hK ⊢
       clear e62
       go_wp2_with (fail)
       exact hK _ _ (Below.refl _ _) rfl
      ·intro xq w1 hb1 hx K hK0
       have hK := fun v w' hb => hK0 v w' (.inl hb)
       have e63 : xq 63 = .pointer (some ⟨w7.heap.size, 2, none⟩) := hx 11 (by rfl) (by rfl)
       obtain ⟨aix, dix, fix_0⟩ := hx 22 (by rfl) (by rfl)
       clear hx hKc hK0
       have hsz1 := hb1.size
       have kx1 : w1.cell? ⟨w7.heap.size, 1, none⟩ = some (.int .i64 mk) := fix_0.cell 1
       have kx2 : w1.cell? ⟨w7.heap.size, 2, none⟩ = some (.int .i64 lo) := fix_0.cell 2
       simp only [frameOf, fill, setSlot, sg, Nat.reduceBEq, if_true, if_false, Nat.reduceAdd, Nat.reduceEqDiff, HSL.out] at hK ⊢
       simp only [e63] at hK ⊢
       clear e63
       go_wp2_with (fail)
       exact hK _ _ (Below.refl _ _) rfl
      ·intro xq w1 hb1 hx K hK0
       have hK := fun v w' hb => hK0 v w' (.inl hb)
       have e64 : xq 64 = .int .i64 lo := hx 12 (by rfl) (by rfl)
       clear hx hKc hK0
       have hsz1 := hb1.size
       simp only [frameOf, fill, setSlot, sg, Nat.reduceBEq, if_true, if_false, Nat.reduceAdd, Nat.reduceEqDiff, HSL.out] at hK ⊢
       simp only [e64] at hK ⊢
       clear e64
       go_wp2_with (fail)
       exact hK _ _ (Below.refl _ _) rfl
      ·intro xq w1 hb1 hx K hK0
       have hK := fun v w' hb => hK0 v w' (.inl hb)
       have e65 : xq 65 = .int .i64 (lo + 2) := hx 13 (by rfl) (by rfl)
       clear hx hKc hK0
       have hsz1 := hb1.size
       simp only [frameOf, fill, setSlot, sg, Nat.reduceBEq, if_true, if_false, Nat.reduceAdd, Nat.reduceEqDiff, HSL.out] at hK ⊢
       simp only [e65] at hK ⊢
       clear e65
       go_wp2_with (fail)
       exact hK _ _ (Below.refl _ _) rfl
      ·intro xq w1 hb1 hx K hK0
       have hK := fun v w' hb => hK0 v w' (.inr hb)
       obtain ⟨wm57, mm57, e57, f57_0, f57_1, f57_2⟩ := hx 5 (by rfl) (by rfl)
       have e58 : xq 58 = .pointer (some ⟨S, 0, none⟩) := hx 6 (by rfl) (by rfl)
       have e61 : xq 61 = .int .i64 lo := hx 9 (by rfl) (by rfl)
       have e66 : xq 66 = .int .i64 q := hx 14 (by rfl) (by rfl)
       clear hx hKc hK0
       have hsz1 := hb1.size
       simp only [frameOf, fill, setSlot, sg, Nat.reduceBEq, if_true, if_false, Nat.reduceAdd, Nat.reduceEqDiff, HSL.out] at hK ⊢
       simp only [e57, e58, e61, e66] at hK ⊢
       clear e57 e58 e61 e66
       go_wp2_with ((go_at_call 15; refine (Among_any S GA len cap (tk2 + 1 + 1 + 1) mm57 lo q _ f57_2 (HY.out _ (grow_too HG7.out hb1)) hn (by omega) (by omega) (by omega) (by omega) (by omega)).mono ?_; rintro e w2' ⟨r, mm, rfl, r0', r1', _, hs, g⟩))
       refine hK _ _ ⟨(grow_too hb1 g), ?_⟩ ⟨r, mm, _, rfl, by omega, by omega, hs, rfl, f57_0, f57_1⟩
       intro jq xq hd hne hv
       match jq, hd, hne, hv with
       | 0, _, _, hv => exact hv
       | 1, _, _, hv => exact hv
       | 2, _, _, hv => exact hv
       | 3, _, _, hv => exact hv
       | 4, _, _, hv => exact hv
       | 5, hd, _, _ => exact absurd hd (by decide)
       | 6, _, _, hv => exact hv
       | 7, _, _, hv => exact hv
       | 8, _, _, hv => exact hv
       | 9, _, _, hv => exact hv
       | 10, _, _, hv => exact hv
       | 11, _, _, hv => exact hv
       | 12, _, _, hv => exact hv
       | 13, _, _, hv => exact hv
       | 14, _, _, hv => exact hv
       | 15, _, hne, _ => exact absurd rfl hne
       | 16, _, _, hv => exact hv
       | 17, _, _, hv => obtain ⟨x1, x2, h1, h2, h3⟩ := hv; exact ⟨x1, x2, h1.grown g hne7, h2, h3⟩
       | 18, _, _, hv => exact hv
       | 19, _, _, hv => exact hv
       | 20, _, _, hv => obtain ⟨x1, x2, h1, h2, h3⟩ := hv; exact ⟨x1, x2, h1.grown g hne7, h2, h3⟩
       | 21, hd, _, _ => exact absurd hd (by decide)
       | 22, _, _, hv => obtain ⟨x1, x2, h1⟩ := hv; exact ⟨x1, x2, h1.grown g hne7⟩
       | _ + 23, _, _, _ => trivial
      ·intro xq w1 hb1 hx K hK0
       have hK := fun v w' hb => hK0 v w' (.inl hb)
       clear hx hKc hK0
       have hsz1 := hb1.size
       simp only [frameOf, fill, setSlot, sg, Nat.reduceBEq, if_true, if_false, Nat.reduceAdd, Nat.reduceEqDiff, HSL.out] at hK ⊢
       go_wp2_with (fail)
       exact hK _ _ (Below.refl _ _) rfl
      ·intro xq w1 hb1 hx K hK0
       have hK := fun v w' hb => hK0 v w' (.inr hb)
       obtain ⟨hi67, mm67, wm67, e67, f67_0, f67_1, f67_2, f67_3, f67_4, f67_5⟩ := hx 15 (by rfl) (by rfl)
       have e68 : xq 68 = .pointer (some ⟨w7.heap.size, 0, none⟩) := hx 16 (by rfl) (by rfl)
       obtain ⟨aix, dix, fix_0⟩ := hx 22 (by rfl) (by rfl)
       clear hx hKc hK0
       have hsz1 := hb1.size
       have kx0 := fix_0.cell 0
       have kz0 : w1.frozen? ⟨w7.heap.size, 0, none⟩ = false := fix_0.frozen 0
       have hlx := fix_0.lt
       simp only [frameOf, fill, setSlot, sg, Nat.reduceBEq, if_true, if_false, Nat.reduceAdd, Nat.reduceEqDiff, HSL.out] at hK ⊢
       have E67 := Lib.hid e67
       have E68 := Lib.hid e68
       have E67_3 := Lib.hid f67_3
       simp only [e67, e68, f67_3] at hK ⊢
       clear e67 e68 f67_3
       go_wp2_with (fail)
       refine hK undef _ ⟨(grow_dn hb1 zg), ?_⟩ ⟨_, _, (by have h := fix_0; exact zp1), f67_4, f67_5⟩
       intro jq xq hd hne hv
       match jq, hd, hne, hv with
       | 0, _, _, hv => exact hv
       | 1, _, _, hv => exact hv
       | 2, _, _, hv => exact hv
       | 3, _, _, hv => exact hv
       | 4, _, _, hv => exact hv
       | 5, _, _, hv => obtain ⟨x1, x2, e1, h1, h2, h3⟩ := hv; exact ⟨x1, x2, e1, h1, h2, h3.far (by simp only [ne_eq]; omega) _⟩
       | 6, _, _, hv => exact hv
       | 7, _, _, hv => exact hv
       | 8, _, _, hv => exact hv
       | 9, _, _, hv => exact hv
       | 10, _, _, hv => exact hv
       | 11, _, _, hv => exact hv
       | 12, _, _, hv => exact hv
       | 13, _, _, hv => exact hv
       | 14, _, _, hv => exact hv
       | 15, _, _, hv => obtain ⟨x1, x2, x3, e1, h1, h2, h3, e2, h4, h5⟩ := hv; exact ⟨x1, x2, x3, e1, h1, h2, h3.far (by simp only [ne_eq]; omega) _, e2, h4, h5⟩
       | 16, _, _, hv => exact hv
       | 17, _, hne, _ => exact absurd rfl hne
       | 18, _, _, hv => exact hv
       | 19, _, _, hv => exact hv
       | 20, _, _, hv => obtain ⟨x1, x2, h1, h2, h3⟩ := hv; exact ⟨x1, _, (by exact zp1), h2, h3⟩
       | 21, _, _, hv => exact Holds.far hv (by simp only [ne_eq]; omega) _
       | 22, _, _, hv => obtain ⟨x1, x2, h1⟩ := hv; exact ⟨_, _, (by exact zp1)⟩
       | _ + 23, _, _, _ => trivial
      ·intro xq w1 hb1 hx K hK0
       have hK := fun v w' hb => hK0 v w' (.inl hb)
       clear hx hKc hK0
       have hsz1 := hb1.size
       simp only [frameOf, fill, setSlot, sg, Nat.reduceBEq, if_true, if_false, Nat.reduceAdd, Nat.reduceEqDiff, HSL.out] at hK ⊢
       go_wp2_with (fail)
       exact hK _ _ (Below.refl _ _) rfl
      ·intro xq w1 hb1 hx K hK0
       have hK := fun v w' hb => hK0 v w' (.inl hb)
       have e69 : xq 69 = .pointer (some ⟨w7.heap.size, 2, none⟩) := hx 18 (by rfl) (by rfl)
       clear hx hKc hK0
       have hsz1 := hb1.size
       simp only [frameOf, fill, setSlot, sg, Nat.reduceBEq, if_true, if_false, Nat.reduceAdd, Nat.reduceEqDiff, HSL.out] at hK ⊢
       simp only [e69] at hK ⊢
       clear e69
       go_wp2_with (fail)
       exact hK _ _ (Below.refl _ _) rfl
      ·intro xq w1 hb1 hx K hK0
       have hK := fun v w' hb => hK0 v w' (.inr hb)
       obtain ⟨hi67, mm67, wm67, e67, f67_0, f67_1, f67_2, f67_3, f67_4, f67_5⟩ := hx 15 (by rfl) (by rfl)
       have e70 : xq 70 = .pointer (some ⟨w7.heap.size, 3, none⟩) := hx 19 (by rfl) (by rfl)
       obtain ⟨aix, dix, fix_0⟩ := hx 22 (by rfl) (by rfl)
       clear hx hKc hK0
       have hsz1 := hb1.size
       have kx3 := fix_0.cell 3
       have kz3 : w1.frozen? ⟨w7.heap.size, 3, none⟩ = false := fix_0.frozen 3
       have hlx := fix_0.lt
       simp only [frameOf, fill, setSlot, sg, Nat.reduceBEq, if_true, if_false, Nat.reduceAdd, Nat.reduceEqDiff, HSL.out] at hK ⊢
       have E67 := Lib.hid e67
       have E70 := Lib.hid e70
       simp only [e67, e70] at hK ⊢
       clear e67 e70
       go_wp2_with (fail)
       refine hK undef _ ⟨(grow_dn hb1 zg), ?_⟩ ⟨_, _, (by have h := fix_0; exact zp1), f67_0, f67_1⟩
       intro jq xq hd hne hv
       match jq, hd, hne, hv with
       | 0, _, _, hv => exact hv
       | 1, _, _, hv => exact hv
       | 2, _, _, hv => exact hv
       | 3, _, _, hv => exact hv
       | 4, _, _, hv => exact hv
       | 5, _, _, hv => obtain ⟨x1, x2, e1, h1, h2, h3⟩ := hv; exact ⟨x1, x2, e1, h1, h2, h3.far (by simp only [ne_eq]; omega) _⟩
       | 6, _, _, hv => exact hv
       | 7, _, _, hv => exact hv
       | 8, _, _, hv => exact hv
       | 9, _, _, hv => exact hv
       | 10, _, _, hv => exact hv
       | 11, _, _, hv => exact hv
       | 12, _, _, hv => exact hv
       | 13, _, _, hv => exact hv
       | 14, _, _, hv => exact hv
       | 15, _, _, hv => obtain ⟨x1, x2, x3, e1, h1, h2, h3, e2, h4, h5⟩ := hv; exact ⟨x1, x2, x3, e1, h1, h2, h3.far (by simp only [ne_eq]; omega) _, e2, h4, h5⟩
       | 16, _, _, hv => exact hv
       | 17, _, _, hv => obtain ⟨x1, x2, h1, h2, h3⟩ := hv; exact ⟨x1, _, (by exact zp1), h2, h3⟩
       | 18, _, _, hv => exact hv
       | 19, _, _, hv => exact hv
       | 20, _, hne, _ => exact absurd rfl hne
       | 21, _, _, hv => exact Holds.far hv (by simp only [ne_eq]; omega) _
       | 22, _, _, hv => obtain ⟨x1, x2, h1⟩ := hv; exact ⟨_, _, (by exact zp1)⟩
       | _ + 23, _, _, _ => trivial
     ·intro xq w1 hb1 hx
      have e52 : xq 52 = .pointer (some ⟨S, 0, none⟩) := hx 0 (by decide)
      have e53 : xq 53 = .pointer (some ⟨w7.heap.size, 1, none⟩) := hx 1 (by decide)
      have e54 : xq 54 = .int .i64 mk := hx 2 (by decide)
      have e55 : xq 55 = .int .i64 p := hx 3 (by decide)
      have e56 : xq 56 = .int .i64 (p + 1) := hx 4 (by decide)
      have e58 : xq 58 = .pointer (some ⟨S, 0, none⟩) := hx 6 (by decide)
      have e59 : xq 59 = .pointer (some ⟨w7.heap.size, 2, none⟩) := hx 7 (by decide)
      have e60 : xq 60 = .pointer (some ⟨w7.heap.size, 2, none⟩) := hx 8 (by decide)
      have e61 : xq 61 = .int .i64 lo := hx 9 (by decide)
      have e62 : xq 62 = .pointer (some ⟨w7.heap.size, 2, none⟩) := hx 10 (by decide)
      have e63 : xq 63 = .pointer (some ⟨w7.heap.size, 2, none⟩) := hx 11 (by decide)
      have e64 : xq 64 = .int .i64 lo := hx 12 (by decide)
      have e65 : xq 65 = .int .i64 (lo + 2) := hx 13 (by decide)
      have e66 : xq 66 = .int .i64 q := hx 14 (by decide)
      obtain ⟨hi67, mm67, wm67, e67, f67_0, f67_1, f67_2, f67_3, f67_4, f67_5⟩ := hx 15 (by decide)
      have e68 : xq 68 = .pointer (some ⟨w7.heap.size, 0, none⟩) := hx 16 (by decide)
      obtain ⟨wmn17, dn17, fn17_0, fn17_1, fn17_2⟩ := hx 17 (by decide)
      have e69 : xq 69 = .pointer (some ⟨w7.heap.size, 2, none⟩) := hx 18 (by decide)
      have e70 : xq 70 = .pointer (some ⟨w7.heap.size, 3, none⟩) := hx 19 (by decide)
      obtain ⟨hin20, an20, fn20_0, fn20_1, fn20_2⟩ := hx 20 (by decide)
      clear hx
      have hsz1 := hb1.size
      simp only [frameOf, fill, setSlot, sg, Nat.reduceBEq, if_true, if_false, Nat.reduceAdd, Nat.reduceEqDiff, HSL.out]
      simp only [e52, e53, e54, e55, e56, e58, e59, e60, e61, e62, e63, e64, e65, e66, e67, e68, e69, e70]
      clear e52 e53 e54 e55 e56 e58 e59 e60 e61 e62 e63 e64 e65 e66 e67 e68 e69 e70
      refine hKc _ _ ?_
      have HX9 : Hid (Holds w1 w7.heap.size 46 #[.int .i64 wmn17, .int .i64 mk, .int .i64 lo, .int .i64 hin20]) := Lib.hid (holds_both fn17_0 fn20_0)
      have HGD : Hid (w7.grownBy w1 (some S)) := Lib.hid hb1
      have HS9 := Lib.hid f67_2
      clear hb1 f67_2 fn17_0 fn20_0 hmin hmin2
      have HG9 : Hid (w.grownBy w1 (some S)) := Lib.hid (grow_too HG7.out HGD.out)
      have HC9 : Hid (Holds w1 w2.heap.size 26 #[.int .i64 cool, .int .i64 gg, .int .i64 r0, .int .i64 r1, .int .i64 r2, .int .i64 r3, .int .i64 r4, .int .i64 r5, .slice BA bs.length bc]) := Lib.hid (HC7.out.grown HGD.out (by omega))
      have HO9 : Hid (OwnBins w1 (w2.heap.size + 1) 46 (.slice BA bs.length bc) bs) := Lib.hid (HO7.out.sack HGD.out (by omega))
      have HB9 : Hid (Holds w1 w.heap.size 26 #[.int .i64 0, .int .i64 0, .int .i64 0, .int .i64 0, .int .i64 0, .int .i64 0, .int .i64 0, .int .i64 0, .slice none 0 0]) := Lib.hid (HB7.out.grown HGD.out (by omega))
      have hz9 := HGD.out.size
      obtain ⟨kx0, kx1, kx2, kx3⟩ := HX9.out.c4
      have kb : w1.cell? ⟨w2.heap.size, 8, none⟩ = some (.slice BA bs.length bc) := HC9.out.cell 8
      have hlx9 := HX9.out.lt
      have hlb9 := HC9.out.lt
      have hbl4 : bs.length ≤ 3 := by omega
      have hok : (Bn.inRange ⟨wmn17, mk, lo, hin20⟩ = true ∧ Bn.inOrder ⟨wmn17, mk, lo, hin20⟩ = true) := by simp only [Bn.inRange, Bn.inOrder, within, Bool.and_eq_true, decide_eq_true_eq]; omega
      go_wp2_with (at_builtin; (refine wpList_append_own _ rfl _ _ 24 rfl (w2.heap.size + 1) 46 tb _ 4 32 und_bins htb htb0 htb1 htb2 rfl (by decide) _ _ _ rfl (rowq_up HO9.out zg) ⟨_, 0, none⟩ 1 1 (Bn.cells ⟨wmn17, mk, lo, hin20⟩) rfl rfl (holds_news (Holds.new' _ _ (by simp [Bn.cells]))) (by intro v hv; simp only [Bn.cells, List.mem_cons, List.not_mem_nil, or_false] at hv; rcases hv with rfl | rfl | rfl | rfl <;> rfl) (by unfold maxLen; omega) (by omega) (by simp; omega) ?_; intro v5 w10 hown5 hgrow5 _; have ho5 := bin_snoc hown5; obtain ⟨G5, g5, rfl, -, -, -⟩ := rowq_val hown5; have HO5 := Lib.hid ho5; have HG5 := Lib.hid hgrow5; have HBL : Hid (∀ kk, _ = some kk → w2.heap.size + 1 ≤ kk) := Lib.hid (fun kk hk => bin_ge (rowq_up HO9.out (zg : Below w1.heap.size w1 _)) hk); have HC10 : Hid (Holds w10 w2.heap.size 26 #[.int .i64 cool, .int .i64 gg, .int .i64 r0, .int .i64 r1, .int .i64 r2, .int .i64 r3, .int .i64 r4, .int .i64 r5, .slice BA bs.length bc]) := Lib.hid (Holds.row (HC9.out.alloc _) HG5.out (fun kk hk => by have := HBL.out kk hk; omega)); have kc8 := HC10.out.cell 8; have kz8 : w10.frozen? ⟨w2.heap.size, 8, none⟩ = false := HC10.out.frozen 8; have hl10 := HC10.out.lt; clear hown5 hgrow5 ho5))
      go_roundw
      case rel => exact ⟨bs ++ [⟨wmn17, mk, lo, hin20⟩], G5, g5, mm67, tk2 + 1 + 1 + 1 + 1, (by rw [List.length_append, List.length_singleton]; first | rfl | go_num | simp), (by rw [List.length_append, List.length_singleton]; omega), (by rw [List.length_append, List.length_singleton]; omega), Lib.hid (fun x hx => by rcases List.mem_append.1 hx with h | h; exact HOK.out x h; rw [List.mem_singleton] at h; subst h; exact hok), Lib.hid (by rw [List.length_append, List.length_singleton]; have h := HC10.out; exact zp1), Lib.hid (by rw [List.length_append, List.length_singleton]; exact rowq_far HO5.out (by simp) _), Lib.hid (Holds.far (Holds.row (HB9.out.alloc _) HG5.out (fun kk hk => by have := HBL.out kk hk; omega)) (by simp only [ne_eq]; omega) _), Lib.hid (Holds.far (Holds.row (HS9.out.alloc _) HG5.out (fun kk hk => by have := HBL.out kk hk; omega)) (by simp only [ne_eq]; omega) _), Lib.hid (grow_dn (grow_new (grow_too HG9.out (World.grownBy_alloc w1 _ _)) HG5.out (fun kk hk => by have := HBL.out kk hk; omega)) zg)⟩
      case measure => first | (simp [intOf]; done) | (simp [intOf]; omega)
    ·have hbe : (bs.length : Int) = cnt := by omega
     obtain ⟨A, c, hAc⟩ : ∃ (A : Option Addr) (c : Nat), A = BA ∧ c = bc := ⟨_, _, rfl, rfl⟩
     obtain ⟨rfl, rfl⟩ := hAc
     have HBE : Hid (barnErr ⟨cool, gg, r0, r1, r2, r3, r4, r5⟩ bs = 0) := Lib.hid (made_right ⟨c0, by omega⟩ ⟨g0, by omega⟩ ⟨n0, hn2⟩ HRR.out ⟨by omega, by omega⟩ HOK.out)
     have hne2 : w.heap.size ≠ w2.heap.size := by omega
     have kc0 : wz.cell? ⟨w2.heap.size, 0, none⟩ = some (.int .i64 cool) := HCz.out.cell 0
     have kc1 : wz.cell? ⟨w2.heap.size, 1, none⟩ = some (.int .i64 gg) := HCz.out.cell 1
     have kc2 : wz.cell? ⟨w2.heap.size, 2, none⟩ = some (.int .i64 r0) := HCz.out.cell 2
     have kc3 : wz.cell? ⟨w2.heap.size, 3, none⟩ = some (.int .i64 r1) := HCz.out.cell 3
     have kc4 : wz.cell? ⟨w2.heap.size, 4, none⟩ = some (.int .i64 r2) := HCz.out.cell 4
     have kc5 : wz.cell? ⟨w2.heap.size, 5, none⟩ = some (.int .i64 r3) := HCz.out.cell 5
     have kc6 : wz.cell? ⟨w2.heap.size, 6, none⟩ = some (.int .i64 r4) := HCz.out.cell 6
     have kc7 : wz.cell? ⟨w2.heap.size, 7, none⟩ = some (.int .i64 r5) := HCz.out.cell 7
     have kc8 : wz.cell? ⟨w2.heap.size, 8, none⟩ = some (.slice A bs.length c) := HCz.out.cell 8
     have kr0 : wz.cell? ⟨w.heap.size, 0, none⟩ = some (.int .i64 0) := HBz.out.cell 0
     have kr1 : wz.cell? ⟨w.heap.size, 1, none⟩ = some (.int .i64 0) := HBz.out.cell 1
     have kr2 : wz.cell? ⟨w.heap.size, 2, none⟩ = some (.int .i64 0) := HBz.out.cell 2
     have kr3 : wz.cell? ⟨w.heap.size, 3, none⟩ = some (.int .i64 0) := HBz.out.cell 3
     have kr4 : wz.cell? ⟨w.heap.size, 4, none⟩ = some (.int .i64 0) := HBz.out.cell 4
     have kr5 : wz.cell? ⟨w.heap.size, 5, none⟩ = some (.int .i64 0) := HBz.out.cell 5
     have kr6 : wz.cell? ⟨w.heap.size, 6, none⟩ = some (.int .i64 0) := HBz.out.cell 6
     have kr7 : wz.cell? ⟨w.heap.size, 7, none⟩ = some (.int .i64 0) := HBz.out.cell 7
     have kr8 : wz.cell? ⟨w.heap.size, 8, none⟩ = some (.slice none 0 0) := HBz.out.cell 8
     have kf0 : wz.frozen? ⟨w.heap.size, 0, none⟩ = false := HBz.out.frozen 0
     have kf1 : wz.frozen? ⟨w.heap.size, 1, none⟩ = false := HBz.out.frozen 1
     have kf2 : wz.frozen? ⟨w.heap.size, 2, none⟩ = false := HBz.out.frozen 2
     have kf3 : wz.frozen? ⟨w.heap.size, 3, none⟩ = false := HBz.out.frozen 3
     have kf4 : wz.frozen? ⟨w.heap.size, 4, none⟩ = false := HBz.out.frozen 4
     have kf5 : wz.frozen? ⟨w.heap.size, 5, none⟩ = false := HBz.out.frozen 5
     have kf6 : wz.frozen? ⟨w.heap.size, 6, none⟩ = false := HBz.out.frozen 6
     have kf7 : wz.frozen? ⟨w.heap.size, 7, none⟩ = false := HBz.out.frozen 7
     have kf8 : wz.frozen? ⟨w.heap.size, 8, none⟩ = false := HBz.out.frozen 8
     have hbb := HBz.out.lt
     go_wp2_with fail
     refine ret_cell (t := 26) (cs := #[.int .i64 cool, .int .i64 gg, .int .i64 r0, .int .i64 r1, .int .i64 r2, .int .i64 r3, .int .i64 r4, .int .i64 r5, .slice A bs.length c]) rfl rfl (set9z _ _ _ _ _ _ _ _ _ HBz.out) Tryz.underlying26 rfl (by kernel_rfl) rfl ⟨⟨cool, gg, r0, r1, r2, r3, r4, r5⟩, A, c, bs, rfl, HBE.out, rowq_mono (rowq_far (rowq_far (rowq_far (rowq_far (rowq_far (rowq_far (rowq_far (rowq_far (rowq_far HOz.out (by simp; omega) _) (by simp; omega) _) (by simp; omega) _) (by simp; omega) _) (by simp; omega) _) (by simp; omega) _) (by simp; omega) _) (by simp; omega) _) (by simp; omega) _) (by omega), grow_dn HGz.out zg, tk2, by omega, mm2, (Holds.far (Holds.far (Holds.far (Holds.far (Holds.far (Holds.far (Holds.far (Holds.far (Holds.far HSz.out (by simp only [ne_eq]; omega) _) (by simp only [ne_eq]; omega) _) (by simp only [ne_eq]; omega) _) (by simp only [ne_eq]; omega) _) (by simp only [ne_eq]; omega) _) (by simp only [ne_eq]; omega) _) (by simp only [ne_eq]; omega) _) (by simp only [ne_eq]; omega) _) (by simp only [ne_eq]; omega) _)⟩
end Go.Proofs.YtokafjkinkafiaaGreat
