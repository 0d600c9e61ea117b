
import Derived.Test.YtifffonoipapgaaVAA
import Derived.Test.YtifffonoipapgaaVAC
import Derived.Test.YtifffonoipapgaaVAE
import Derived.Test.YtifffonoipapgaaVAU
import Derived.Test.YtifffonoipapgaaVAV
set_option linter.unusedSimpArgs false
set_option linter.unusedVariables false
namespace Go.Proofs.Ytifffonoipapgaa
open Go.RowKit
def doneO (b : OBx) (g : Gr) (gs : List Gr) : Nat → List OBx
 | 0 => []
 | 1 => missO ⟨b.1.less0 g, b.2.less0 g⟩ gs
 | 2 => missO ⟨b.1.less0 g, b.2.less0 g⟩ gs ++ missO ⟨b.1.less1 g, b.2.less1 g⟩ gs
 | 3 => missO ⟨b.1.less0 g, b.2.less0 g⟩ gs ++ missO ⟨b.1.less1 g, b.2.less1 g⟩ gs ++ missO ⟨b.1.less2 g, b.2.less2 g⟩ gs
 | _ => missO ⟨b.1.less0 g, b.2.less0 g⟩ gs ++ missO ⟨b.1.less1 g, b.2.less1 g⟩ gs ++ missO ⟨b.1.less2 g, b.2.less2 g⟩ gs ++ missO ⟨b.1.less3 g, b.2.less3 g⟩ gs
theorem doneO_all (b : OBx) (g : Gr) (gs : List Gr) : doneO b g gs 4 = missO b (g :: gs) := by simp [doneO, missO]
def YLoop (J : List OBx → World → Prop) (pre : List OBx) (b : OBx) (g : Gr) (gs : List Gr) (W : World) (v16 : Value) (wr : World) : Prop :=
 ∃ k : Nat, v16 = .int .i64 (k : Int) ∧ k ≤ 4 ∧ J (pre ++ doneO b g gs k) wr ∧ CKept W wr ∧ Holds wr W.heap.size 153 #[.int .i64 b.1.l0, .int .i64 b.1.h0, .int .i64 b.1.l1, .int .i64 b.1.h1, .int .i64 b.1.l2, .int .i64 b.1.h2, .int .i64 b.1.l3, .int .i64 b.1.h3]
theorem right_bd {g : Gr} (h : g.right = true) : 0 ≤ g.corn ∧ g.corn ≤ 40 ∧ 0 ≤ g.chaff ∧ g.chaff ≤ 40 ∧ 0 ≤ g.stones ∧ g.stones ≤ 40 ∧ 0 ≤ g.damp ∧ g.damp ≤ 40 := by
 simp only [Gr.right, within, Bool.and_eq_true, decide_eq_true_eq] at h
 omega
def YCalls (l N : Nat) (J Jx : List OBx → World → Prop) (gs : List Gr) : Prop :=
 ∀ (b : OBx) (G : Option Addr) (d : Nat) (pre : List OBx) (W : World), GradesAt W G gs → gs.length ≤ d → J pre W → pre.length + (missO b gs).length ≤ N →
  Calls Try.prog 148 #[bxVal b.1, .slice G gs.length d, .func (.yield l) #[] #[]] W (YPost J Jx pre (missO b gs) W)
theorem done_pre0 {b : OBx} {g : Gr} {gs : List Gr} {q : List OBx} (h : q <+: missO ⟨b.1.less0 g, b.2.less0 g⟩ gs) : doneO b g gs 0 ++ q <+: missO b (g :: gs) := by
 obtain ⟨r, hr⟩ := h; rw [missO, ← hr]; simp [doneO]
theorem done_pre1 {b : OBx} {g : Gr} {gs : List Gr} {q : List OBx} (h : q <+: missO ⟨b.1.less1 g, b.2.less1 g⟩ gs) : doneO b g gs 1 ++ q <+: missO b (g :: gs) := by
 obtain ⟨r, hr⟩ := h; rw [missO, ← hr]; simp [doneO]
theorem done_pre2 {b : OBx} {g : Gr} {gs : List Gr} {q : List OBx} (h : q <+: missO ⟨b.1.less2 g, b.2.less2 g⟩ gs) : doneO b g gs 2 ++ q <+: missO b (g :: gs) := by
 obtain ⟨r, hr⟩ := h; rw [missO, ← hr]; simp [doneO]
theorem done_pre3 {b : OBx} {g : Gr} {gs : List Gr} {q : List OBx} (h : q <+: missO ⟨b.1.less3 g, b.2.less3 g⟩ gs) : doneO b g gs 3 ++ q <+: missO b (g :: gs) := by
 obtain ⟨r, hr⟩ := h; rw [missO, ← hr]; simp [doneO]
set_option maxRecDepth 100000 in
set_option maxHeartbeats 8000000 in
theorem ym_cons (l N : Nat) (J Jx : List OBx → World → Prop) (hJ : AbidesNew J) (g : Gr) (gs : List Gr) (ih : YCalls l N J Jx gs) (hg : g.right = true) (hl : gs.length ≤ 1000) (b : Bx) (ob : b.ok) (B o d : Nat) (pre : List OBx) (W : World)
  (hG : GradesAt W (some ⟨B, o, none⟩) (g :: gs)) (hd : gs.length + 1 ≤ d) (h0 : J pre W) (hN : pre.length + (missO ⟨b, ob⟩ (g :: gs)).length ≤ N)
  (G5 : Option Addr) (hG5 : G5 = if d = 1 then some ⟨B, o, none⟩ else some ⟨B, o + 5, none⟩) (hsl : ∀ w : World, (Instr.slice 22 (.slice (some ⟨B, o, none⟩) (gs.length + 1) d) (some (.int .i64 1)) none none).run Try.prog w = .ok (.slice G5 gs.length (d - 1)) w) :
  Calls Try.prog 148 #[.agg #[.int .i64 b.l0, .int .i64 b.h0, .int .i64 b.l1, .int .i64 b.h1, .int .i64 b.l2, .int .i64 b.h2, .int .i64 b.l3, .int .i64 b.h3], .slice (some ⟨B, o, none⟩) (gs.length + 1) d, .func (.yield l) #[] #[]] W (YPost J Jx pre (missO ⟨b, ob⟩ (g :: gs)) W) := by
 obtain ⟨r0, r1, r2, r3, r4, r5, r6, r7⟩ := right_bd hg
 have hT : GradesAt W G5 gs := by
  rw [hG5]
  split
  ·next h1 => intro hp; omega
  ·exact hG.tail
 have hc : W.cell? ⟨B, o, none⟩ = some (.int .i64 g.corn) ∧ W.cell? ⟨B, o + 1, none⟩ = some (.int .i64 g.chaff) ∧ W.cell? ⟨B, o + 2, none⟩ = some (.int .i64 g.stones) ∧ W.cell? ⟨B, o + 3, none⟩ = some (.int .i64 g.damp) ∧ W.cell? ⟨B, o + 4, none⟩ = some (.int .i64 g.price) := by
  obtain ⟨B', o', e, h⟩ := hG (by simp)
  cases e
  simpa using h 0 g rfl
 obtain ⟨e0, e1, e2, e3, e4⟩ := hc
 have C0 := Lib.hid e0
 have C1 := Lib.hid e1
 have C2 := Lib.hid e2
 have C3 := Lib.hid e3
 have C4 := Lib.hid e4
 have HT := Lib.hid hT
 have HJ := Lib.hid hJ
 have IH := Lib.hid ih
 have H0 := Lib.hid h0
 have HNN := Lib.hid hN
 clear e0 e1 e2 e3 e4 hT hJ ih h0 hN hG hG5
 have hq0 : ((gs.length : Int) + 1 == 0) = false := by simp; omega
 have hq1 : (gs.length + 1 == 0) = false := by simp
 go_enter Try.func148, Try.ntmps148
 go_wp2_with fail
 go_loopw [16] (fun v16 wr => YLoop J pre ⟨b, ob⟩ g gs W v16 wr) (fun v16 _ => (4 - intOf v16).toNat)
 case atStart => exact ⟨0, rfl, by omega, by simpa [doneO] using HJ.out _ _ _ H0.out zg, CKept.of zg, Holds.new _ _ _⟩
 case round =>
  obtain ⟨k, rfl, hk4, hjr, hkr, hbr⟩ := hrel
  have HJr := Lib.hid hjr
  have HK := Lib.hid hkr
  have Hbr := Lib.hid hbr
  have hlt := hbr.lt
  have kb : wr.cell? ⟨W.heap.size, 0, none⟩ = some (.int .i64 b.l0) ∧ wr.cell? ⟨W.heap.size, 1, none⟩ = some (.int .i64 b.h0) ∧ wr.cell? ⟨W.heap.size, 2, none⟩ = some (.int .i64 b.l1) ∧ wr.cell? ⟨W.heap.size, 3, none⟩ = some (.int .i64 b.h1) ∧ wr.cell? ⟨W.heap.size, 4, none⟩ = some (.int .i64 b.l2) ∧ wr.cell? ⟨W.heap.size, 5, none⟩ = some (.int .i64 b.h2) ∧ wr.cell? ⟨W.heap.size, 6, none⟩ = some (.int .i64 b.l3) ∧ wr.cell? ⟨W.heap.size, 7, none⟩ = some (.int .i64 b.h3) := ⟨hbr.cell 0, hbr.cell 1, hbr.cell 2, hbr.cell 3, hbr.cell 4, hbr.cell 5, hbr.cell 6, hbr.cell 7⟩
  obtain ⟨b0, b1, b2, b3, b4, b5, b6, b7⟩ := kb
  clear hjr hkr hbr
  obtain rfl | rfl | rfl | rfl | rfl : k = 0 ∨ k = 1 ∨ k = 2 ∨ k = 3 ∨ k = 4 := by omega
  ·-- kind 0
   have hk0 := HK.out.size
   have G0 := Lib.hid (HK.out.cell C0.out)
   have G1 := Lib.hid (HK.out.cell C1.out)
   have G2 := Lib.hid (HK.out.cell C2.out)
   have G3 := Lib.hid (HK.out.cell C3.out)
   have G4 := Lib.hid (HK.out.cell C4.out)
   have Hbq := Hbr.out
   go_wp2_with fail
   refine wp_world (fun W6 => Below wr.heap.size wr W6 ∧ wr.heap.size + 1 ≤ W6.heap.size ∧ Holds W6 (W.heap.size) 153 #[.int .i64 b.l0, .int .i64 b.h0, .int .i64 b.l1, .int .i64 b.h1, .int .i64 b.l2, .int .i64 b.h2, .int .i64 b.l3, .int .i64 b.h3] ∧ Holds W6 (wr.heap.size) 153 #[.int .i64 b.l0, .int .i64 b.h0, .int .i64 b.l1, .int .i64 b.h1, .int .i64 b.l2, .int .i64 b.h2, .int .i64 b.l3, .int .i64 b.h3] ∧ True) ?_ ?_
   ·exact ⟨zg, (by simp), zp0, zp0, trivial⟩
   rintro W6 ⟨hB6, hS6, Hb, Hl, -⟩
   rename_i Kc hKc
   refine wp_region_partsF (by kernel_rfl) 11 [20, 21, 22, 23, 24, 25, 26, 27, 28, 29, 30] (fun t v w' => match t with
    | 20 => v = .int .i64 0
    | 21 => v = .int .i64 0
    | 22 => v = .pointer (some ⟨W.heap.size, 0, none⟩)
    | 23 => v = .agg #[.int .i64 b.l0, .int .i64 b.h0]
    | 24 => v = .slice (some ⟨B, o, none⟩) (gs.length + 1) d
    | 25 => v = .pointer (some ⟨B, o, none⟩)
    | 26 => v = .agg #[.int .i64 g.corn, .int .i64 g.chaff, .int .i64 g.stones, .int .i64 g.damp, .int .i64 g.price]
    | 27 => v = .int .i64 0
    | 28 => v = .agg #[.int .i64 (0), .int .i64 (g.corn - 1)]
    | 29 => v = .agg #[.int .i64 (mLo b.l0 b.h0 (0) (g.corn - 1)), .int .i64 (mHi b.l0 b.h0 (0) (g.corn - 1))]
    | 30 => v = .pointer (some ⟨wr.heap.size, 0, none⟩)
    | _ => True) (by kernel_rfl) ?_ ?_ ?_
   ·intro t v w1 w2 hb' h
    revert h
    split <;> intro h <;> first
     | exact h
   ·refine ⟨?_, ?_, ?_, ?_, ?_, ?_, ?_, ?_, ?_, ?_, ?_, trivial⟩
    ·intro x w1 hb1 hx K hK
     clear hx hKc
     have Hb1 := Hb.up hb1
     have Hl1 := Hl.up hb1
     obtain ⟨kb0, kb1, kb2, kb3, kb4, kb5, kb6, kb7⟩ := Hb1.c8
     have g0 : w1.cell? ⟨B, o, none⟩ = some (.int .i64 g.corn) := up_cell hb1 (up_cell hB6 G0.out)
     have g1 : w1.cell? ⟨B, o + 1, none⟩ = some (.int .i64 g.chaff) := up_cell hb1 (up_cell hB6 G1.out)
     have g2 : w1.cell? ⟨B, o + 2, none⟩ = some (.int .i64 g.stones) := up_cell hb1 (up_cell hB6 G2.out)
     have g3 : w1.cell? ⟨B, o + 3, none⟩ = some (.int .i64 g.damp) := up_cell hb1 (up_cell hB6 G3.out)
     have g4 : w1.cell? ⟨B, o + 4, none⟩ = some (.int .i64 g.price) := up_cell hb1 (up_cell hB6 G4.out)
     simp only [frameOf, fill, sg, Nat.reduceBEq, if_true, if_false, Nat.reduceAdd, Nat.reduceEqDiff] at hK ⊢
     go_wp2_with (first | (go_at_call 150; refine (missing_0 g _ r0 r1 r2 r3 r4 r5 r6 r7).mono ?_; rintro e w2 ⟨rfl, hb2⟩) | (go_at_call 135; refine (meet_any _ _ _ _ _).mono ?_; rintro e w2 ⟨rfl, hb2⟩))
     exact hK _ _ (Below.refl _ _) rfl
    ·intro x w1 hb1 hx K hK
     clear hx hKc
     have Hb1 := Hb.up hb1
     have Hl1 := Hl.up hb1
     obtain ⟨kb0, kb1, kb2, kb3, kb4, kb5, kb6, kb7⟩ := Hb1.c8
     have g0 : w1.cell? ⟨B, o, none⟩ = some (.int .i64 g.corn) := up_cell hb1 (up_cell hB6 G0.out)
     have g1 : w1.cell? ⟨B, o + 1, none⟩ = some (.int .i64 g.chaff) := up_cell hb1 (up_cell hB6 G1.out)
     have g2 : w1.cell? ⟨B, o + 2, none⟩ = some (.int .i64 g.stones) := up_cell hb1 (up_cell hB6 G2.out)
     have g3 : w1.cell? ⟨B, o + 3, none⟩ = some (.int .i64 g.damp) := up_cell hb1 (up_cell hB6 G3.out)
     have g4 : w1.cell? ⟨B, o + 4, none⟩ = some (.int .i64 g.price) := up_cell hb1 (up_cell hB6 G4.out)
     simp only [frameOf, fill, sg, Nat.reduceBEq, if_true, if_false, Nat.reduceAdd, Nat.reduceEqDiff] at hK ⊢
     go_wp2_with (first | (go_at_call 150; refine (missing_0 g _ r0 r1 r2 r3 r4 r5 r6 r7).mono ?_; rintro e w2 ⟨rfl, hb2⟩) | (go_at_call 135; refine (meet_any _ _ _ _ _).mono ?_; rintro e w2 ⟨rfl, hb2⟩))
     exact hK _ _ (Below.refl _ _) rfl
    ·intro x w1 hb1 hx K hK
     have e21 : x 21 = .int .i64 0 := hx 21 (by rfl)
     clear hx hKc
     have Hb1 := Hb.up hb1
     have Hl1 := Hl.up hb1
     obtain ⟨kb0, kb1, kb2, kb3, kb4, kb5, kb6, kb7⟩ := Hb1.c8
     have g0 : w1.cell? ⟨B, o, none⟩ = some (.int .i64 g.corn) := up_cell hb1 (up_cell hB6 G0.out)
     have g1 : w1.cell? ⟨B, o + 1, none⟩ = some (.int .i64 g.chaff) := up_cell hb1 (up_cell hB6 G1.out)
     have g2 : w1.cell? ⟨B, o + 2, none⟩ = some (.int .i64 g.stones) := up_cell hb1 (up_cell hB6 G2.out)
     have g3 : w1.cell? ⟨B, o + 3, none⟩ = some (.int .i64 g.damp) := up_cell hb1 (up_cell hB6 G3.out)
     have g4 : w1.cell? ⟨B, o + 4, none⟩ = some (.int .i64 g.price) := up_cell hb1 (up_cell hB6 G4.out)
     simp only [frameOf, fill, sg, Nat.reduceBEq, if_true, if_false, Nat.reduceAdd, Nat.reduceEqDiff] at hK ⊢
     simp only [e21] at hK ⊢
     clear e21
     go_wp2_with (first | (go_at_call 150; refine (missing_0 g _ r0 r1 r2 r3 r4 r5 r6 r7).mono ?_; rintro e w2 ⟨rfl, hb2⟩) | (go_at_call 135; refine (meet_any _ _ _ _ _).mono ?_; rintro e w2 ⟨rfl, hb2⟩))
     exact hK _ _ (Below.refl _ _) rfl
    ·intro x w1 hb1 hx K hK
     have e22 : x 22 = .pointer (some ⟨W.heap.size, 0, none⟩) := hx 22 (by rfl)
     clear hx hKc
     have Hb1 := Hb.up hb1
     have Hl1 := Hl.up hb1
     obtain ⟨kb0, kb1, kb2, kb3, kb4, kb5, kb6, kb7⟩ := Hb1.c8
     have g0 : w1.cell? ⟨B, o, none⟩ = some (.int .i64 g.corn) := up_cell hb1 (up_cell hB6 G0.out)
     have g1 : w1.cell? ⟨B, o + 1, none⟩ = some (.int .i64 g.chaff) := up_cell hb1 (up_cell hB6 G1.out)
     have g2 : w1.cell? ⟨B, o + 2, none⟩ = some (.int .i64 g.stones) := up_cell hb1 (up_cell hB6 G2.out)
     have g3 : w1.cell? ⟨B, o + 3, none⟩ = some (.int .i64 g.damp) := up_cell hb1 (up_cell hB6 G3.out)
     have g4 : w1.cell? ⟨B, o + 4, none⟩ = some (.int .i64 g.price) := up_cell hb1 (up_cell hB6 G4.out)
     simp only [frameOf, fill, sg, Nat.reduceBEq, if_true, if_false, Nat.reduceAdd, Nat.reduceEqDiff] at hK ⊢
     simp only [e22] at hK ⊢
     clear e22
     go_wp2_with (first | (go_at_call 150; refine (missing_0 g _ r0 r1 r2 r3 r4 r5 r6 r7).mono ?_; rintro e w2 ⟨rfl, hb2⟩) | (go_at_call 135; refine (meet_any _ _ _ _ _).mono ?_; rintro e w2 ⟨rfl, hb2⟩))
     exact hK _ _ (Below.refl _ _) rfl
    ·intro x w1 hb1 hx K hK
     clear hx hKc
     have Hb1 := Hb.up hb1
     have Hl1 := Hl.up hb1
     obtain ⟨kb0, kb1, kb2, kb3, kb4, kb5, kb6, kb7⟩ := Hb1.c8
     have g0 : w1.cell? ⟨B, o, none⟩ = some (.int .i64 g.corn) := up_cell hb1 (up_cell hB6 G0.out)
     have g1 : w1.cell? ⟨B, o + 1, none⟩ = some (.int .i64 g.chaff) := up_cell hb1 (up_cell hB6 G1.out)
     have g2 : w1.cell? ⟨B, o + 2, none⟩ = some (.int .i64 g.stones) := up_cell hb1 (up_cell hB6 G2.out)
     have g3 : w1.cell? ⟨B, o + 3, none⟩ = some (.int .i64 g.damp) := up_cell hb1 (up_cell hB6 G3.out)
     have g4 : w1.cell? ⟨B, o + 4, none⟩ = some (.int .i64 g.price) := up_cell hb1 (up_cell hB6 G4.out)
     simp only [frameOf, fill, sg, Nat.reduceBEq, if_true, if_false, Nat.reduceAdd, Nat.reduceEqDiff] at hK ⊢
     go_wp2_with (first | (go_at_call 150; refine (missing_0 g _ r0 r1 r2 r3 r4 r5 r6 r7).mono ?_; rintro e w2 ⟨rfl, hb2⟩) | (go_at_call 135; refine (meet_any _ _ _ _ _).mono ?_; rintro e w2 ⟨rfl, hb2⟩))
     exact hK _ _ (Below.refl _ _) rfl
    ·intro x w1 hb1 hx K hK
     have e24 : x 24 = .slice (some ⟨B, o, none⟩) (gs.length + 1) d := hx 24 (by rfl)
     clear hx hKc
     have Hb1 := Hb.up hb1
     have Hl1 := Hl.up hb1
     obtain ⟨kb0, kb1, kb2, kb3, kb4, kb5, kb6, kb7⟩ := Hb1.c8
     have g0 : w1.cell? ⟨B, o, none⟩ = some (.int .i64 g.corn) := up_cell hb1 (up_cell hB6 G0.out)
     have g1 : w1.cell? ⟨B, o + 1, none⟩ = some (.int .i64 g.chaff) := up_cell hb1 (up_cell hB6 G1.out)
     have g2 : w1.cell? ⟨B, o + 2, none⟩ = some (.int .i64 g.stones) := up_cell hb1 (up_cell hB6 G2.out)
     have g3 : w1.cell? ⟨B, o + 3, none⟩ = some (.int .i64 g.damp) := up_cell hb1 (up_cell hB6 G3.out)
     have g4 : w1.cell? ⟨B, o + 4, none⟩ = some (.int .i64 g.price) := up_cell hb1 (up_cell hB6 G4.out)
     simp only [frameOf, fill, sg, Nat.reduceBEq, if_true, if_false, Nat.reduceAdd, Nat.reduceEqDiff] at hK ⊢
     simp only [e24] at hK ⊢
     clear e24
     go_wp2_with (first | (go_at_call 150; refine (missing_0 g _ r0 r1 r2 r3 r4 r5 r6 r7).mono ?_; rintro e w2 ⟨rfl, hb2⟩) | (go_at_call 135; refine (meet_any _ _ _ _ _).mono ?_; rintro e w2 ⟨rfl, hb2⟩))
     exact hK _ _ (Below.refl _ _) rfl
    ·intro x w1 hb1 hx K hK
     have e25 : x 25 = .pointer (some ⟨B, o, none⟩) := hx 25 (by rfl)
     clear hx hKc
     have Hb1 := Hb.up hb1
     have Hl1 := Hl.up hb1
     obtain ⟨kb0, kb1, kb2, kb3, kb4, kb5, kb6, kb7⟩ := Hb1.c8
     have g0 : w1.cell? ⟨B, o, none⟩ = some (.int .i64 g.corn) := up_cell hb1 (up_cell hB6 G0.out)
     have g1 : w1.cell? ⟨B, o + 1, none⟩ = some (.int .i64 g.chaff) := up_cell hb1 (up_cell hB6 G1.out)
     have g2 : w1.cell? ⟨B, o + 2, none⟩ = some (.int .i64 g.stones) := up_cell hb1 (up_cell hB6 G2.out)
     have g3 : w1.cell? ⟨B, o + 3, none⟩ = some (.int .i64 g.damp) := up_cell hb1 (up_cell hB6 G3.out)
     have g4 : w1.cell? ⟨B, o + 4, none⟩ = some (.int .i64 g.price) := up_cell hb1 (up_cell hB6 G4.out)
     simp only [frameOf, fill, sg, Nat.reduceBEq, if_true, if_false, Nat.reduceAdd, Nat.reduceEqDiff] at hK ⊢
     simp only [e25] at hK ⊢
     clear e25
     go_wp2_with (first | (go_at_call 150; refine (missing_0 g _ r0 r1 r2 r3 r4 r5 r6 r7).mono ?_; rintro e w2 ⟨rfl, hb2⟩) | (go_at_call 135; refine (meet_any _ _ _ _ _).mono ?_; rintro e w2 ⟨rfl, hb2⟩))
     exact hK _ _ (Below.refl _ _) rfl
    ·intro x w1 hb1 hx K hK
     clear hx hKc
     have Hb1 := Hb.up hb1
     have Hl1 := Hl.up hb1
     obtain ⟨kb0, kb1, kb2, kb3, kb4, kb5, kb6, kb7⟩ := Hb1.c8
     have g0 : w1.cell? ⟨B, o, none⟩ = some (.int .i64 g.corn) := up_cell hb1 (up_cell hB6 G0.out)
     have g1 : w1.cell? ⟨B, o + 1, none⟩ = some (.int .i64 g.chaff) := up_cell hb1 (up_cell hB6 G1.out)
     have g2 : w1.cell? ⟨B, o + 2, none⟩ = some (.int .i64 g.stones) := up_cell hb1 (up_cell hB6 G2.out)
     have g3 : w1.cell? ⟨B, o + 3, none⟩ = some (.int .i64 g.damp) := up_cell hb1 (up_cell hB6 G3.out)
     have g4 : w1.cell? ⟨B, o + 4, none⟩ = some (.int .i64 g.price) := up_cell hb1 (up_cell hB6 G4.out)
     simp only [frameOf, fill, sg, Nat.reduceBEq, if_true, if_false, Nat.reduceAdd, Nat.reduceEqDiff] at hK ⊢
     go_wp2_with (first | (go_at_call 150; refine (missing_0 g _ r0 r1 r2 r3 r4 r5 r6 r7).mono ?_; rintro e w2 ⟨rfl, hb2⟩) | (go_at_call 135; refine (meet_any _ _ _ _ _).mono ?_; rintro e w2 ⟨rfl, hb2⟩))
     exact hK _ _ (Below.refl _ _) rfl
    ·intro x w1 hb1 hx K hK
     have e26 : x 26 = .agg #[.int .i64 g.corn, .int .i64 g.chaff, .int .i64 g.stones, .int .i64 g.damp, .int .i64 g.price] := hx 26 (by rfl)
     have e27 : x 27 = .int .i64 0 := hx 27 (by rfl)
     clear hx hKc
     have Hb1 := Hb.up hb1
     have Hl1 := Hl.up hb1
     obtain ⟨kb0, kb1, kb2, kb3, kb4, kb5, kb6, kb7⟩ := Hb1.c8
     have g0 : w1.cell? ⟨B, o, none⟩ = some (.int .i64 g.corn) := up_cell hb1 (up_cell hB6 G0.out)
     have g1 : w1.cell? ⟨B, o + 1, none⟩ = some (.int .i64 g.chaff) := up_cell hb1 (up_cell hB6 G1.out)
     have g2 : w1.cell? ⟨B, o + 2, none⟩ = some (.int .i64 g.stones) := up_cell hb1 (up_cell hB6 G2.out)
     have g3 : w1.cell? ⟨B, o + 3, none⟩ = some (.int .i64 g.damp) := up_cell hb1 (up_cell hB6 G3.out)
     have g4 : w1.cell? ⟨B, o + 4, none⟩ = some (.int .i64 g.price) := up_cell hb1 (up_cell hB6 G4.out)
     simp only [frameOf, fill, sg, Nat.reduceBEq, if_true, if_false, Nat.reduceAdd, Nat.reduceEqDiff] at hK ⊢
     simp only [e26, e27] at hK ⊢
     clear e26 e27
     go_wp2_with (first | (go_at_call 150; refine (missing_0 g _ r0 r1 r2 r3 r4 r5 r6 r7).mono ?_; rintro e w2 ⟨rfl, hb2⟩) | (go_at_call 135; refine (meet_any _ _ _ _ _).mono ?_; rintro e w2 ⟨rfl, hb2⟩))
     exact hK _ _ hb2 rfl
    ·intro x w1 hb1 hx K hK
     have e23 : x 23 = .agg #[.int .i64 b.l0, .int .i64 b.h0] := hx 23 (by rfl)
     have e28 : x 28 = .agg #[.int .i64 (0), .int .i64 (g.corn - 1)] := hx 28 (by rfl)
     clear hx hKc
     have Hb1 := Hb.up hb1
     have Hl1 := Hl.up hb1
     obtain ⟨kb0, kb1, kb2, kb3, kb4, kb5, kb6, kb7⟩ := Hb1.c8
     have g0 : w1.cell? ⟨B, o, none⟩ = some (.int .i64 g.corn) := up_cell hb1 (up_cell hB6 G0.out)
     have g1 : w1.cell? ⟨B, o + 1, none⟩ = some (.int .i64 g.chaff) := up_cell hb1 (up_cell hB6 G1.out)
     have g2 : w1.cell? ⟨B, o + 2, none⟩ = some (.int .i64 g.stones) := up_cell hb1 (up_cell hB6 G2.out)
     have g3 : w1.cell? ⟨B, o + 3, none⟩ = some (.int .i64 g.damp) := up_cell hb1 (up_cell hB6 G3.out)
     have g4 : w1.cell? ⟨B, o + 4, none⟩ = some (.int .i64 g.price) := up_cell hb1 (up_cell hB6 G4.out)
     simp only [frameOf, fill, sg, Nat.reduceBEq, if_true, if_false, Nat.reduceAdd, Nat.reduceEqDiff] at hK ⊢
     simp only [e23, e28] at hK ⊢
     clear e23 e28
     go_wp2_with (first | (go_at_call 150; refine (missing_0 g _ r0 r1 r2 r3 r4 r5 r6 r7).mono ?_; rintro e w2 ⟨rfl, hb2⟩) | (go_at_call 135; refine (meet_any _ _ _ _ _).mono ?_; rintro e w2 ⟨rfl, hb2⟩))
     exact hK _ _ hb2 rfl
    ·intro x w1 hb1 hx K hK
     have e20 : x 20 = .int .i64 0 := hx 20 (by rfl)
     clear hx hKc
     have Hb1 := Hb.up hb1
     have Hl1 := Hl.up hb1
     obtain ⟨kb0, kb1, kb2, kb3, kb4, kb5, kb6, kb7⟩ := Hb1.c8
     have g0 : w1.cell? ⟨B, o, none⟩ = some (.int .i64 g.corn) := up_cell hb1 (up_cell hB6 G0.out)
     have g1 : w1.cell? ⟨B, o + 1, none⟩ = some (.int .i64 g.chaff) := up_cell hb1 (up_cell hB6 G1.out)
     have g2 : w1.cell? ⟨B, o + 2, none⟩ = some (.int .i64 g.stones) := up_cell hb1 (up_cell hB6 G2.out)
     have g3 : w1.cell? ⟨B, o + 3, none⟩ = some (.int .i64 g.damp) := up_cell hb1 (up_cell hB6 G3.out)
     have g4 : w1.cell? ⟨B, o + 4, none⟩ = some (.int .i64 g.price) := up_cell hb1 (up_cell hB6 G4.out)
     simp only [frameOf, fill, sg, Nat.reduceBEq, if_true, if_false, Nat.reduceAdd, Nat.reduceEqDiff] at hK ⊢
     simp only [e20] at hK ⊢
     clear e20
     go_wp2_with (first | (go_at_call 150; refine (missing_0 g _ r0 r1 r2 r3 r4 r5 r6 r7).mono ?_; rintro e w2 ⟨rfl, hb2⟩) | (go_at_call 135; refine (meet_any _ _ _ _ _).mono ?_; rintro e w2 ⟨rfl, hb2⟩))
     exact hK _ _ (Below.refl _ _) rfl
   ·intro x w1 hb1 hx
    have e20 : x 20 = .int .i64 0 := hx 20 (by decide)
    have e21 : x 21 = .int .i64 0 := hx 21 (by decide)
    have e22 : x 22 = .pointer (some ⟨W.heap.size, 0, none⟩) := hx 22 (by decide)
    have e23 : x 23 = .agg #[.int .i64 b.l0, .int .i64 b.h0] := hx 23 (by decide)
    have e24 : x 24 = .slice (some ⟨B, o, none⟩) (gs.length + 1) d := hx 24 (by decide)
    have e25 : x 25 = .pointer (some ⟨B, o, none⟩) := hx 25 (by decide)
    have e26 : x 26 = .agg #[.int .i64 g.corn, .int .i64 g.chaff, .int .i64 g.stones, .int .i64 g.damp, .int .i64 g.price] := hx 26 (by decide)
    have e27 : x 27 = .int .i64 0 := hx 27 (by decide)
    have e28 : x 28 = .agg #[.int .i64 (0), .int .i64 (g.corn - 1)] := hx 28 (by decide)
    have e29 : x 29 = .agg #[.int .i64 (mLo b.l0 b.h0 (0) (g.corn - 1)), .int .i64 (mHi b.l0 b.h0 (0) (g.corn - 1))] := hx 29 (by decide)
    have e30 : x 30 = .pointer (some ⟨wr.heap.size, 0, none⟩) := hx 30 (by decide)
    clear hx
    have Hb1 := Hb.up hb1
    have Hl1 := Hl.up hb1
    obtain ⟨kb0, kb1, kb2, kb3, kb4, kb5, kb6, kb7⟩ := Hb1.c8
    have g0 : w1.cell? ⟨B, o, none⟩ = some (.int .i64 g.corn) := up_cell hb1 (up_cell hB6 G0.out)
    have g1 : w1.cell? ⟨B, o + 1, none⟩ = some (.int .i64 g.chaff) := up_cell hb1 (up_cell hB6 G1.out)
    have g2 : w1.cell? ⟨B, o + 2, none⟩ = some (.int .i64 g.stones) := up_cell hb1 (up_cell hB6 G2.out)
    have g3 : w1.cell? ⟨B, o + 3, none⟩ = some (.int .i64 g.damp) := up_cell hb1 (up_cell hB6 G3.out)
    have g4 : w1.cell? ⟨B, o + 4, none⟩ = some (.int .i64 g.price) := up_cell hb1 (up_cell hB6 G4.out)
    simp only [frameOf, fill, List.contains_cons, List.contains_nil, Nat.reduceBEq, Bool.or_false, Bool.false_or, Bool.or_true, Bool.true_or, if_true, if_false, Bool.false_eq_true, Nat.reduceAdd, Nat.zero_add]
    simp only [e20, e21, e22, e23, e24, e25, e26, e27, e28, e29, e30]
    clear e20 e21 e22 e23 e24 e25 e26 e27 e28 e29 e30
    have hS1 := hb1.size
    have Hb2 := Hb.up hb1
    have Hl2 := Hl.up hb1
    have kl0 := Hl2.frozen 0
    have kl1 := Hl2.frozen 1
    obtain ⟨kl2, kl3⟩ := Hl2.c2
    have hBw1 : Below wr.heap.size wr w1 := hB6.trans (hb1.mono hB6.size)
    have hSw : wr.heap.size + 1 ≤ w1.heap.size := by omega
    clear hb1 hB6 hS6 Hb Hl
    go_wp2_with fail
    refine wp_world (fun W7 => Below wr.heap.size wr W7 ∧ wr.heap.size + 1 ≤ W7.heap.size ∧ Holds W7 (wr.heap.size) 153 #[.int .i64 (mLo b.l0 b.h0 (0) (g.corn - 1)), .int .i64 (mHi b.l0 b.h0 (0) (g.corn - 1)), .int .i64 b.l1, .int .i64 b.h1, .int .i64 b.l2, .int .i64 b.h2, .int .i64 b.l3, .int .i64 b.h3] ∧ True) ?_ ?_
    ·exact ⟨zg, (by simp; omega), (Hl2.set_ 0 _ |>.set_ 1 _), trivial⟩
    rintro W7 ⟨hB7, hS7, Hl, -⟩
    clear Hl2 Hb2 kl0 kl1 kl2 kl3 hBw1 hS1 hSw
    rename_i Kc hKc
    refine wp_region_partsF (by kernel_rfl) 4 [31, 32, 33, 34] (fun t v w' => match t with
     | 31 => v = .agg #[.int .i64 (mLo b.l0 b.h0 (0) (g.corn - 1)), .int .i64 (mHi b.l0 b.h0 (0) (g.corn - 1)), .int .i64 b.l1, .int .i64 b.h1, .int .i64 b.l2, .int .i64 b.h2, .int .i64 b.l3, .int .i64 b.h3]
     | 32 => v = .slice (some ⟨B, o, none⟩) (gs.length + 1) d
     | 33 => v = .slice G5 gs.length (d - 1)
     | 34 => v = .func (.yield l) #[] #[]
     | _ => True) (by kernel_rfl) ?_ ?_ ?_
    ·intro t v w1 w2 hb' h
     revert h
     split <;> intro h <;> first
      | exact h
    ·refine ⟨?_, ?_, ?_, ?_, trivial⟩
     ·intro x w1 hb1 hx K hK
      clear hx hKc
      have Hl2 := Hl.up hb1
      have kl0 : w1.cell? ⟨wr.heap.size, 0, none⟩ = some (.int .i64 (mLo b.l0 b.h0 (0) (g.corn - 1))) := Hl2.cell 0
      have kl1 : w1.cell? ⟨wr.heap.size, 1, none⟩ = some (.int .i64 (mHi b.l0 b.h0 (0) (g.corn - 1))) := Hl2.cell 1
      have kl2 : w1.cell? ⟨wr.heap.size, 2, none⟩ = some (.int .i64 b.l1) := Hl2.cell 2
      have kl3 : w1.cell? ⟨wr.heap.size, 3, none⟩ = some (.int .i64 b.h1) := Hl2.cell 3
      have kl4 : w1.cell? ⟨wr.heap.size, 4, none⟩ = some (.int .i64 b.l2) := Hl2.cell 4
      have kl5 : w1.cell? ⟨wr.heap.size, 5, none⟩ = some (.int .i64 b.h2) := Hl2.cell 5
      have kl6 : w1.cell? ⟨wr.heap.size, 6, none⟩ = some (.int .i64 b.l3) := Hl2.cell 6
      have kl7 : w1.cell? ⟨wr.heap.size, 7, none⟩ = some (.int .i64 b.h3) := Hl2.cell 7
      simp only [frameOf, fill, sg, Nat.reduceBEq, if_true, if_false, Nat.reduceAdd, Nat.reduceEqDiff] at hK ⊢
      go_wp2_with (fail)
      exact hK _ _ (Below.refl _ _) rfl
     ·intro x w1 hb1 hx K hK
      clear hx hKc
      have Hl2 := Hl.up hb1
      have kl0 : w1.cell? ⟨wr.heap.size, 0, none⟩ = some (.int .i64 (mLo b.l0 b.h0 (0) (g.corn - 1))) := Hl2.cell 0
      have kl1 : w1.cell? ⟨wr.heap.size, 1, none⟩ = some (.int .i64 (mHi b.l0 b.h0 (0) (g.corn - 1))) := Hl2.cell 1
      have kl2 : w1.cell? ⟨wr.heap.size, 2, none⟩ = some (.int .i64 b.l1) := Hl2.cell 2
      have kl3 : w1.cell? ⟨wr.heap.size, 3, none⟩ = some (.int .i64 b.h1) := Hl2.cell 3
      have kl4 : w1.cell? ⟨wr.heap.size, 4, none⟩ = some (.int .i64 b.l2) := Hl2.cell 4
      have kl5 : w1.cell? ⟨wr.heap.size, 5, none⟩ = some (.int .i64 b.h2) := Hl2.cell 5
      have kl6 : w1.cell? ⟨wr.heap.size, 6, none⟩ = some (.int .i64 b.l3) := Hl2.cell 6
      have kl7 : w1.cell? ⟨wr.heap.size, 7, none⟩ = some (.int .i64 b.h3) := Hl2.cell 7
      simp only [frameOf, fill, sg, Nat.reduceBEq, if_true, if_false, Nat.reduceAdd, Nat.reduceEqDiff] at hK ⊢
      go_wp2_with (fail)
      exact hK _ _ (Below.refl _ _) rfl
     ·intro x w1 hb1 hx K hK
      have e32 : x 32 = .slice (some ⟨B, o, none⟩) (gs.length + 1) d := hx 32 (by rfl)
      clear hx hKc
      have Hl2 := Hl.up hb1
      have kl0 : w1.cell? ⟨wr.heap.size, 0, none⟩ = some (.int .i64 (mLo b.l0 b.h0 (0) (g.corn - 1))) := Hl2.cell 0
      have kl1 : w1.cell? ⟨wr.heap.size, 1, none⟩ = some (.int .i64 (mHi b.l0 b.h0 (0) (g.corn - 1))) := Hl2.cell 1
      have kl2 : w1.cell? ⟨wr.heap.size, 2, none⟩ = some (.int .i64 b.l1) := Hl2.cell 2
      have kl3 : w1.cell? ⟨wr.heap.size, 3, none⟩ = some (.int .i64 b.h1) := Hl2.cell 3
      have kl4 : w1.cell? ⟨wr.heap.size, 4, none⟩ = some (.int .i64 b.l2) := Hl2.cell 4
      have kl5 : w1.cell? ⟨wr.heap.size, 5, none⟩ = some (.int .i64 b.h2) := Hl2.cell 5
      have kl6 : w1.cell? ⟨wr.heap.size, 6, none⟩ = some (.int .i64 b.l3) := Hl2.cell 6
      have kl7 : w1.cell? ⟨wr.heap.size, 7, none⟩ = some (.int .i64 b.h3) := Hl2.cell 7
      simp only [frameOf, fill, sg, Nat.reduceBEq, if_true, if_false, Nat.reduceAdd, Nat.reduceEqDiff] at hK ⊢
      simp only [e32] at hK ⊢
      clear e32
      go_wp2_with (fail)
      exact hK _ _ (Below.refl _ _) rfl
     ·intro x w1 hb1 hx K hK
      clear hx hKc
      have Hl2 := Hl.up hb1
      have kl0 : w1.cell? ⟨wr.heap.size, 0, none⟩ = some (.int .i64 (mLo b.l0 b.h0 (0) (g.corn - 1))) := Hl2.cell 0
      have kl1 : w1.cell? ⟨wr.heap.size, 1, none⟩ = some (.int .i64 (mHi b.l0 b.h0 (0) (g.corn - 1))) := Hl2.cell 1
      have kl2 : w1.cell? ⟨wr.heap.size, 2, none⟩ = some (.int .i64 b.l1) := Hl2.cell 2
      have kl3 : w1.cell? ⟨wr.heap.size, 3, none⟩ = some (.int .i64 b.h1) := Hl2.cell 3
      have kl4 : w1.cell? ⟨wr.heap.size, 4, none⟩ = some (.int .i64 b.l2) := Hl2.cell 4
      have kl5 : w1.cell? ⟨wr.heap.size, 5, none⟩ = some (.int .i64 b.h2) := Hl2.cell 5
      have kl6 : w1.cell? ⟨wr.heap.size, 6, none⟩ = some (.int .i64 b.l3) := Hl2.cell 6
      have kl7 : w1.cell? ⟨wr.heap.size, 7, none⟩ = some (.int .i64 b.h3) := Hl2.cell 7
      simp only [frameOf, fill, sg, Nat.reduceBEq, if_true, if_false, Nat.reduceAdd, Nat.reduceEqDiff] at hK ⊢
      go_wp2_with (fail)
      exact hK _ _ (Below.refl _ _) rfl
    ·intro x w1 hb1 hx
     have e31 : x 31 = .agg #[.int .i64 (mLo b.l0 b.h0 (0) (g.corn - 1)), .int .i64 (mHi b.l0 b.h0 (0) (g.corn - 1)), .int .i64 b.l1, .int .i64 b.h1, .int .i64 b.l2, .int .i64 b.h2, .int .i64 b.l3, .int .i64 b.h3] := hx 31 (by decide)
     have e32 : x 32 = .slice (some ⟨B, o, none⟩) (gs.length + 1) d := hx 32 (by decide)
     have e33 : x 33 = .slice G5 gs.length (d - 1) := hx 33 (by decide)
     have e34 : x 34 = .func (.yield l) #[] #[] := hx 34 (by decide)
     clear hx
     have Hl2 := Hl.up hb1
     have kl0 : w1.cell? ⟨wr.heap.size, 0, none⟩ = some (.int .i64 (mLo b.l0 b.h0 (0) (g.corn - 1))) := Hl2.cell 0
     have kl1 : w1.cell? ⟨wr.heap.size, 1, none⟩ = some (.int .i64 (mHi b.l0 b.h0 (0) (g.corn - 1))) := Hl2.cell 1
     have kl2 : w1.cell? ⟨wr.heap.size, 2, none⟩ = some (.int .i64 b.l1) := Hl2.cell 2
     have kl3 : w1.cell? ⟨wr.heap.size, 3, none⟩ = some (.int .i64 b.h1) := Hl2.cell 3
     have kl4 : w1.cell? ⟨wr.heap.size, 4, none⟩ = some (.int .i64 b.l2) := Hl2.cell 4
     have kl5 : w1.cell? ⟨wr.heap.size, 5, none⟩ = some (.int .i64 b.h2) := Hl2.cell 5
     have kl6 : w1.cell? ⟨wr.heap.size, 6, none⟩ = some (.int .i64 b.l3) := Hl2.cell 6
     have kl7 : w1.cell? ⟨wr.heap.size, 7, none⟩ = some (.int .i64 b.h3) := Hl2.cell 7
     simp only [frameOf, fill, List.contains_cons, List.contains_nil, Nat.reduceBEq, Bool.or_false, Bool.false_or, Bool.or_true, Bool.true_or, if_true, if_false, Bool.false_eq_true, Nat.reduceAdd, Nat.zero_add]
     simp only [e31, e32, e33, e34]
     clear e31 e32 e33 e34
     have hcall := Lib.hid (IH.out ⟨b.less0 g, ob.less0 g⟩ G5 (d - 1) (pre ++ doneO ⟨b, ob⟩ g gs 0) w1 (HT.out.ckept (HK.out.trans (CKept.of (hB7.trans (hb1.mono hB7.size))))) (by omega) (HJ.out _ _ _ HJr.out (hB7.trans (hb1.mono hB7.size))) (by have := HNN.out; simp only [missO, List.length_append, doneO, List.length_nil, List.append_assoc] at this ⊢; omega))
     go_wp2_with (go_at_call 148; refine hcall.out.mono ?_; rintro e w4 (⟨rfl, hj4, hk4⟩ | ⟨rfl, q, hq, hx4⟩))
     ·go_roundw
      case rel =>
       refine ⟨1, rfl, by omega, ?_, (HK.out.trans (CKept.of (hB7.trans (hb1.mono hB7.size)))).trans hk4, ((Hbr.out.up (hB7.trans (hb1.mono hB7.size)))).ckept hk4⟩
       simpa [doneO, List.append_assoc] using hj4
      case measure => simp [intOf]
     ·go_ret
      refine .inr ⟨rfl, doneO ⟨b, ob⟩ g gs 0 ++ q, done_pre0 hq, by simpa [List.append_assoc] using hx4⟩
  ·-- kind 1
   have hk0 := HK.out.size
   have G0 := Lib.hid (HK.out.cell C0.out)
   have G1 := Lib.hid (HK.out.cell C1.out)
   have G2 := Lib.hid (HK.out.cell C2.out)
   have G3 := Lib.hid (HK.out.cell C3.out)
   have G4 := Lib.hid (HK.out.cell C4.out)
   have Hbq := Hbr.out
   go_wp2_with fail
   refine wp_world (fun W6 => Below wr.heap.size wr W6 ∧ wr.heap.size + 1 ≤ W6.heap.size ∧ Holds W6 (W.heap.size) 153 #[.int .i64 b.l0, .int .i64 b.h0, .int .i64 b.l1, .int .i64 b.h1, .int .i64 b.l2, .int .i64 b.h2, .int .i64 b.l3, .int .i64 b.h3] ∧ Holds W6 (wr.heap.size) 153 #[.int .i64 b.l0, .int .i64 b.h0, .int .i64 b.l1, .int .i64 b.h1, .int .i64 b.l2, .int .i64 b.h2, .int .i64 b.l3, .int .i64 b.h3] ∧ True) ?_ ?_
   ·exact ⟨zg, (by simp), zp0, zp0, trivial⟩
   rintro W6 ⟨hB6, hS6, Hb, Hl, -⟩
   rename_i Kc hKc
   refine wp_region_partsF (by kernel_rfl) 11 [20, 21, 22, 23, 24, 25, 26, 27, 28, 29, 30] (fun t v w' => match t with
    | 20 => v = .int .i64 1
    | 21 => v = .int .i64 1
    | 22 => v = .pointer (some ⟨W.heap.size, 2, none⟩)
    | 23 => v = .agg #[.int .i64 b.l1, .int .i64 b.h1]
    | 24 => v = .slice (some ⟨B, o, none⟩) (gs.length + 1) d
    | 25 => v = .pointer (some ⟨B, o, none⟩)
    | 26 => v = .agg #[.int .i64 g.corn, .int .i64 g.chaff, .int .i64 g.stones, .int .i64 g.damp, .int .i64 g.price]
    | 27 => v = .int .i64 1
    | 28 => v = .agg #[.int .i64 (g.chaff + 1), .int .i64 (40)]
    | 29 => v = .agg #[.int .i64 (mLo b.l1 b.h1 (g.chaff + 1) (40)), .int .i64 (mHi b.l1 b.h1 (g.chaff + 1) (40))]
    | 30 => v = .pointer (some ⟨wr.heap.size, 2, none⟩)
    | _ => True) (by kernel_rfl) ?_ ?_ ?_
   ·intro t v w1 w2 hb' h
    revert h
    split <;> intro h <;> first
     | exact h
   ·refine ⟨?_, ?_, ?_, ?_, ?_, ?_, ?_, ?_, ?_, ?_, ?_, trivial⟩
    ·intro x w1 hb1 hx K hK
     clear hx hKc
     have Hb1 := Hb.up hb1
     have Hl1 := Hl.up hb1
     obtain ⟨kb0, kb1, kb2, kb3, kb4, kb5, kb6, kb7⟩ := Hb1.c8
     have g0 : w1.cell? ⟨B, o, none⟩ = some (.int .i64 g.corn) := up_cell hb1 (up_cell hB6 G0.out)
     have g1 : w1.cell? ⟨B, o + 1, none⟩ = some (.int .i64 g.chaff) := up_cell hb1 (up_cell hB6 G1.out)
     have g2 : w1.cell? ⟨B, o + 2, none⟩ = some (.int .i64 g.stones) := up_cell hb1 (up_cell hB6 G2.out)
     have g3 : w1.cell? ⟨B, o + 3, none⟩ = some (.int .i64 g.damp) := up_cell hb1 (up_cell hB6 G3.out)
     have g4 : w1.cell? ⟨B, o + 4, none⟩ = some (.int .i64 g.price) := up_cell hb1 (up_cell hB6 G4.out)
     simp only [frameOf, fill, sg, Nat.reduceBEq, if_true, if_false, Nat.reduceAdd, Nat.reduceEqDiff] at hK ⊢
     go_wp2_with (first | (go_at_call 150; refine (missing_1 g _ r0 r1 r2 r3 r4 r5 r6 r7).mono ?_; rintro e w2 ⟨rfl, hb2⟩) | (go_at_call 135; refine (meet_any _ _ _ _ _).mono ?_; rintro e w2 ⟨rfl, hb2⟩))
     exact hK _ _ (Below.refl _ _) rfl
    ·intro x w1 hb1 hx K hK
     clear hx hKc
     have Hb1 := Hb.up hb1
     have Hl1 := Hl.up hb1
     obtain ⟨kb0, kb1, kb2, kb3, kb4, kb5, kb6, kb7⟩ := Hb1.c8
     have g0 : w1.cell? ⟨B, o, none⟩ = some (.int .i64 g.corn) := up_cell hb1 (up_cell hB6 G0.out)
     have g1 : w1.cell? ⟨B, o + 1, none⟩ = some (.int .i64 g.chaff) := up_cell hb1 (up_cell hB6 G1.out)
     have g2 : w1.cell? ⟨B, o + 2, none⟩ = some (.int .i64 g.stones) := up_cell hb1 (up_cell hB6 G2.out)
     have g3 : w1.cell? ⟨B, o + 3, none⟩ = some (.int .i64 g.damp) := up_cell hb1 (up_cell hB6 G3.out)
     have g4 : w1.cell? ⟨B, o + 4, none⟩ = some (.int .i64 g.price) := up_cell hb1 (up_cell hB6 G4.out)
     simp only [frameOf, fill, sg, Nat.reduceBEq, if_true, if_false, Nat.reduceAdd, Nat.reduceEqDiff] at hK ⊢
     go_wp2_with (first | (go_at_call 150; refine (missing_1 g _ r0 r1 r2 r3 r4 r5 r6 r7).mono ?_; rintro e w2 ⟨rfl, hb2⟩) | (go_at_call 135; refine (meet_any _ _ _ _ _).mono ?_; rintro e w2 ⟨rfl, hb2⟩))
     exact hK _ _ (Below.refl _ _) rfl
    ·intro x w1 hb1 hx K hK
     have e21 : x 21 = .int .i64 1 := hx 21 (by rfl)
     clear hx hKc
     have Hb1 := Hb.up hb1
     have Hl1 := Hl.up hb1
     obtain ⟨kb0, kb1, kb2, kb3, kb4, kb5, kb6, kb7⟩ := Hb1.c8
     have g0 : w1.cell? ⟨B, o, none⟩ = some (.int .i64 g.corn) := up_cell hb1 (up_cell hB6 G0.out)
     have g1 : w1.cell? ⟨B, o + 1, none⟩ = some (.int .i64 g.chaff) := up_cell hb1 (up_cell hB6 G1.out)
     have g2 : w1.cell? ⟨B, o + 2, none⟩ = some (.int .i64 g.stones) := up_cell hb1 (up_cell hB6 G2.out)
     have g3 : w1.cell? ⟨B, o + 3, none⟩ = some (.int .i64 g.damp) := up_cell hb1 (up_cell hB6 G3.out)
     have g4 : w1.cell? ⟨B, o + 4, none⟩ = some (.int .i64 g.price) := up_cell hb1 (up_cell hB6 G4.out)
     simp only [frameOf, fill, sg, Nat.reduceBEq, if_true, if_false, Nat.reduceAdd, Nat.reduceEqDiff] at hK ⊢
     simp only [e21] at hK ⊢
     clear e21
     go_wp2_with (first | (go_at_call 150; refine (missing_1 g _ r0 r1 r2 r3 r4 r5 r6 r7).mono ?_; rintro e w2 ⟨rfl, hb2⟩) | (go_at_call 135; refine (meet_any _ _ _ _ _).mono ?_; rintro e w2 ⟨rfl, hb2⟩))
     exact hK _ _ (Below.refl _ _) rfl
    ·intro x w1 hb1 hx K hK
     have e22 : x 22 = .pointer (some ⟨W.heap.size, 2, none⟩) := hx 22 (by rfl)
     clear hx hKc
     have Hb1 := Hb.up hb1
     have Hl1 := Hl.up hb1
     obtain ⟨kb0, kb1, kb2, kb3, kb4, kb5, kb6, kb7⟩ := Hb1.c8
     have g0 : w1.cell? ⟨B, o, none⟩ = some (.int .i64 g.corn) := up_cell hb1 (up_cell hB6 G0.out)
     have g1 : w1.cell? ⟨B, o + 1, none⟩ = some (.int .i64 g.chaff) := up_cell hb1 (up_cell hB6 G1.out)
     have g2 : w1.cell? ⟨B, o + 2, none⟩ = some (.int .i64 g.stones) := up_cell hb1 (up_cell hB6 G2.out)
     have g3 : w1.cell? ⟨B, o + 3, none⟩ = some (.int .i64 g.damp) := up_cell hb1 (up_cell hB6 G3.out)
     have g4 : w1.cell? ⟨B, o + 4, none⟩ = some (.int .i64 g.price) := up_cell hb1 (up_cell hB6 G4.out)
     simp only [frameOf, fill, sg, Nat.reduceBEq, if_true, if_false, Nat.reduceAdd, Nat.reduceEqDiff] at hK ⊢
     simp only [e22] at hK ⊢
     clear e22
     go_wp2_with (first | (go_at_call 150; refine (missing_1 g _ r0 r1 r2 r3 r4 r5 r6 r7).mono ?_; rintro e w2 ⟨rfl, hb2⟩) | (go_at_call 135; refine (meet_any _ _ _ _ _).mono ?_; rintro e w2 ⟨rfl, hb2⟩))
     exact hK _ _ (Below.refl _ _) rfl
    ·intro x w1 hb1 hx K hK
     clear hx hKc
     have Hb1 := Hb.up hb1
     have Hl1 := Hl.up hb1
     obtain ⟨kb0, kb1, kb2, kb3, kb4, kb5, kb6, kb7⟩ := Hb1.c8
     have g0 : w1.cell? ⟨B, o, none⟩ = some (.int .i64 g.corn) := up_cell hb1 (up_cell hB6 G0.out)
     have g1 : w1.cell? ⟨B, o + 1, none⟩ = some (.int .i64 g.chaff) := up_cell hb1 (up_cell hB6 G1.out)
     have g2 : w1.cell? ⟨B, o + 2, none⟩ = some (.int .i64 g.stones) := up_cell hb1 (up_cell hB6 G2.out)
     have g3 : w1.cell? ⟨B, o + 3, none⟩ = some (.int .i64 g.damp) := up_cell hb1 (up_cell hB6 G3.out)
     have g4 : w1.cell? ⟨B, o + 4, none⟩ = some (.int .i64 g.price) := up_cell hb1 (up_cell hB6 G4.out)
     simp only [frameOf, fill, sg, Nat.reduceBEq, if_true, if_false, Nat.reduceAdd, Nat.reduceEqDiff] at hK ⊢
     go_wp2_with (first | (go_at_call 150; refine (missing_1 g _ r0 r1 r2 r3 r4 r5 r6 r7).mono ?_; rintro e w2 ⟨rfl, hb2⟩) | (go_at_call 135; refine (meet_any _ _ _ _ _).mono ?_; rintro e w2 ⟨rfl, hb2⟩))
     exact hK _ _ (Below.refl _ _) rfl
    ·intro x w1 hb1 hx K hK
     have e24 : x 24 = .slice (some ⟨B, o, none⟩) (gs.length + 1) d := hx 24 (by rfl)
     clear hx hKc
     have Hb1 := Hb.up hb1
     have Hl1 := Hl.up hb1
     obtain ⟨kb0, kb1, kb2, kb3, kb4, kb5, kb6, kb7⟩ := Hb1.c8
     have g0 : w1.cell? ⟨B, o, none⟩ = some (.int .i64 g.corn) := up_cell hb1 (up_cell hB6 G0.out)
     have g1 : w1.cell? ⟨B, o + 1, none⟩ = some (.int .i64 g.chaff) := up_cell hb1 (up_cell hB6 G1.out)
     have g2 : w1.cell? ⟨B, o + 2, none⟩ = some (.int .i64 g.stones) := up_cell hb1 (up_cell hB6 G2.out)
     have g3 : w1.cell? ⟨B, o + 3, none⟩ = some (.int .i64 g.damp) := up_cell hb1 (up_cell hB6 G3.out)
     have g4 : w1.cell? ⟨B, o + 4, none⟩ = some (.int .i64 g.price) := up_cell hb1 (up_cell hB6 G4.out)
     simp only [frameOf, fill, sg, Nat.reduceBEq, if_true, if_false, Nat.reduceAdd, Nat.reduceEqDiff] at hK ⊢
     simp only [e24] at hK ⊢
     clear e24
     go_wp2_with (first | (go_at_call 150; refine (missing_1 g _ r0 r1 r2 r3 r4 r5 r6 r7).mono ?_; rintro e w2 ⟨rfl, hb2⟩) | (go_at_call 135; refine (meet_any _ _ _ _ _).mono ?_; rintro e w2 ⟨rfl, hb2⟩))
     exact hK _ _ (Below.refl _ _) rfl
    ·intro x w1 hb1 hx K hK
     have e25 : x 25 = .pointer (some ⟨B, o, none⟩) := hx 25 (by rfl)
     clear hx hKc
     have Hb1 := Hb.up hb1
     have Hl1 := Hl.up hb1
     obtain ⟨kb0, kb1, kb2, kb3, kb4, kb5, kb6, kb7⟩ := Hb1.c8
     have g0 : w1.cell? ⟨B, o, none⟩ = some (.int .i64 g.corn) := up_cell hb1 (up_cell hB6 G0.out)
     have g1 : w1.cell? ⟨B, o + 1, none⟩ = some (.int .i64 g.chaff) := up_cell hb1 (up_cell hB6 G1.out)
     have g2 : w1.cell? ⟨B, o + 2, none⟩ = some (.int .i64 g.stones) := up_cell hb1 (up_cell hB6 G2.out)
     have g3 : w1.cell? ⟨B, o + 3, none⟩ = some (.int .i64 g.damp) := up_cell hb1 (up_cell hB6 G3.out)
     have g4 : w1.cell? ⟨B, o + 4, none⟩ = some (.int .i64 g.price) := up_cell hb1 (up_cell hB6 G4.out)
     simp only [frameOf, fill, sg, Nat.reduceBEq, if_true, if_false, Nat.reduceAdd, Nat.reduceEqDiff] at hK ⊢
     simp only [e25] at hK ⊢
     clear e25
     go_wp2_with (first | (go_at_call 150; refine (missing_1 g _ r0 r1 r2 r3 r4 r5 r6 r7).mono ?_; rintro e w2 ⟨rfl, hb2⟩) | (go_at_call 135; refine (meet_any _ _ _ _ _).mono ?_; rintro e w2 ⟨rfl, hb2⟩))
     exact hK _ _ (Below.refl _ _) rfl
    ·intro x w1 hb1 hx K hK
     clear hx hKc
     have Hb1 := Hb.up hb1
     have Hl1 := Hl.up hb1
     obtain ⟨kb0, kb1, kb2, kb3, kb4, kb5, kb6, kb7⟩ := Hb1.c8
     have g0 : w1.cell? ⟨B, o, none⟩ = some (.int .i64 g.corn) := up_cell hb1 (up_cell hB6 G0.out)
     have g1 : w1.cell? ⟨B, o + 1, none⟩ = some (.int .i64 g.chaff) := up_cell hb1 (up_cell hB6 G1.out)
     have g2 : w1.cell? ⟨B, o + 2, none⟩ = some (.int .i64 g.stones) := up_cell hb1 (up_cell hB6 G2.out)
     have g3 : w1.cell? ⟨B, o + 3, none⟩ = some (.int .i64 g.damp) := up_cell hb1 (up_cell hB6 G3.out)
     have g4 : w1.cell? ⟨B, o + 4, none⟩ = some (.int .i64 g.price) := up_cell hb1 (up_cell hB6 G4.out)
     simp only [frameOf, fill, sg, Nat.reduceBEq, if_true, if_false, Nat.reduceAdd, Nat.reduceEqDiff] at hK ⊢
     go_wp2_with (first | (go_at_call 150; refine (missing_1 g _ r0 r1 r2 r3 r4 r5 r6 r7).mono ?_; rintro e w2 ⟨rfl, hb2⟩) | (go_at_call 135; refine (meet_any _ _ _ _ _).mono ?_; rintro e w2 ⟨rfl, hb2⟩))
     exact hK _ _ (Below.refl _ _) rfl
    ·intro x w1 hb1 hx K hK
     have e26 : x 26 = .agg #[.int .i64 g.corn, .int .i64 g.chaff, .int .i64 g.stones, .int .i64 g.damp, .int .i64 g.price] := hx 26 (by rfl)
     have e27 : x 27 = .int .i64 1 := hx 27 (by rfl)
     clear hx hKc
     have Hb1 := Hb.up hb1
     have Hl1 := Hl.up hb1
     obtain ⟨kb0, kb1, kb2, kb3, kb4, kb5, kb6, kb7⟩ := Hb1.c8
     have g0 : w1.cell? ⟨B, o, none⟩ = some (.int .i64 g.corn) := up_cell hb1 (up_cell hB6 G0.out)
     have g1 : w1.cell? ⟨B, o + 1, none⟩ = some (.int .i64 g.chaff) := up_cell hb1 (up_cell hB6 G1.out)
     have g2 : w1.cell? ⟨B, o + 2, none⟩ = some (.int .i64 g.stones) := up_cell hb1 (up_cell hB6 G2.out)
     have g3 : w1.cell? ⟨B, o + 3, none⟩ = some (.int .i64 g.damp) := up_cell hb1 (up_cell hB6 G3.out)
     have g4 : w1.cell? ⟨B, o + 4, none⟩ = some (.int .i64 g.price) := up_cell hb1 (up_cell hB6 G4.out)
     simp only [frameOf, fill, sg, Nat.reduceBEq, if_true, if_false, Nat.reduceAdd, Nat.reduceEqDiff] at hK ⊢
     simp only [e26, e27] at hK ⊢
     clear e26 e27
     go_wp2_with (first | (go_at_call 150; refine (missing_1 g _ r0 r1 r2 r3 r4 r5 r6 r7).mono ?_; rintro e w2 ⟨rfl, hb2⟩) | (go_at_call 135; refine (meet_any _ _ _ _ _).mono ?_; rintro e w2 ⟨rfl, hb2⟩))
     exact hK _ _ hb2 rfl
    ·intro x w1 hb1 hx K hK
     have e23 : x 23 = .agg #[.int .i64 b.l1, .int .i64 b.h1] := hx 23 (by rfl)
     have e28 : x 28 = .agg #[.int .i64 (g.chaff + 1), .int .i64 (40)] := hx 28 (by rfl)
     clear hx hKc
     have Hb1 := Hb.up hb1
     have Hl1 := Hl.up hb1
     obtain ⟨kb0, kb1, kb2, kb3, kb4, kb5, kb6, kb7⟩ := Hb1.c8
     have g0 : w1.cell? ⟨B, o, none⟩ = some (.int .i64 g.corn) := up_cell hb1 (up_cell hB6 G0.out)
     have g1 : w1.cell? ⟨B, o + 1, none⟩ = some (.int .i64 g.chaff) := up_cell hb1 (up_cell hB6 G1.out)
     have g2 : w1.cell? ⟨B, o + 2, none⟩ = some (.int .i64 g.stones) := up_cell hb1 (up_cell hB6 G2.out)
     have g3 : w1.cell? ⟨B, o + 3, none⟩ = some (.int .i64 g.damp) := up_cell hb1 (up_cell hB6 G3.out)
     have g4 : w1.cell? ⟨B, o + 4, none⟩ = some (.int .i64 g.price) := up_cell hb1 (up_cell hB6 G4.out)
     simp only [frameOf, fill, sg, Nat.reduceBEq, if_true, if_false, Nat.reduceAdd, Nat.reduceEqDiff] at hK ⊢
     simp only [e23, e28] at hK ⊢
     clear e23 e28
     go_wp2_with (first | (go_at_call 150; refine (missing_1 g _ r0 r1 r2 r3 r4 r5 r6 r7).mono ?_; rintro e w2 ⟨rfl, hb2⟩) | (go_at_call 135; refine (meet_any _ _ _ _ _).mono ?_; rintro e w2 ⟨rfl, hb2⟩))
     exact hK _ _ hb2 rfl
    ·intro x w1 hb1 hx K hK
     have e20 : x 20 = .int .i64 1 := hx 20 (by rfl)
     clear hx hKc
     have Hb1 := Hb.up hb1
     have Hl1 := Hl.up hb1
     obtain ⟨kb0, kb1, kb2, kb3, kb4, kb5, kb6, kb7⟩ := Hb1.c8
     have g0 : w1.cell? ⟨B, o, none⟩ = some (.int .i64 g.corn) := up_cell hb1 (up_cell hB6 G0.out)
     have g1 : w1.cell? ⟨B, o + 1, none⟩ = some (.int .i64 g.chaff) := up_cell hb1 (up_cell hB6 G1.out)
     have g2 : w1.cell? ⟨B, o + 2, none⟩ = some (.int .i64 g.stones) := up_cell hb1 (up_cell hB6 G2.out)
     have g3 : w1.cell? ⟨B, o + 3, none⟩ = some (.int .i64 g.damp) := up_cell hb1 (up_cell hB6 G3.out)
     have g4 : w1.cell? ⟨B, o + 4, none⟩ = some (.int .i64 g.price) := up_cell hb1 (up_cell hB6 G4.out)
     simp only [frameOf, fill, sg, Nat.reduceBEq, if_true, if_false, Nat.reduceAdd, Nat.reduceEqDiff] at hK ⊢
     simp only [e20] at hK ⊢
     clear e20
     go_wp2_with (first | (go_at_call 150; refine (missing_1 g _ r0 r1 r2 r3 r4 r5 r6 r7).mono ?_; rintro e w2 ⟨rfl, hb2⟩) | (go_at_call 135; refine (meet_any _ _ _ _ _).mono ?_; rintro e w2 ⟨rfl, hb2⟩))
     exact hK _ _ (Below.refl _ _) rfl
   ·intro x w1 hb1 hx
    have e20 : x 20 = .int .i64 1 := hx 20 (by decide)
    have e21 : x 21 = .int .i64 1 := hx 21 (by decide)
    have e22 : x 22 = .pointer (some ⟨W.heap.size, 2, none⟩) := hx 22 (by decide)
    have e23 : x 23 = .agg #[.int .i64 b.l1, .int .i64 b.h1] := hx 23 (by decide)
    have e24 : x 24 = .slice (some ⟨B, o, none⟩) (gs.length + 1) d := hx 24 (by decide)
    have e25 : x 25 = .pointer (some ⟨B, o, none⟩) := hx 25 (by decide)
    have e26 : x 26 = .agg #[.int .i64 g.corn, .int .i64 g.chaff, .int .i64 g.stones, .int .i64 g.damp, .int .i64 g.price] := hx 26 (by decide)
    have e27 : x 27 = .int .i64 1 := hx 27 (by decide)
    have e28 : x 28 = .agg #[.int .i64 (g.chaff + 1), .int .i64 (40)] := hx 28 (by decide)
    have e29 : x 29 = .agg #[.int .i64 (mLo b.l1 b.h1 (g.chaff + 1) (40)), .int .i64 (mHi b.l1 b.h1 (g.chaff + 1) (40))] := hx 29 (by decide)
    have e30 : x 30 = .pointer (some ⟨wr.heap.size, 2, none⟩) := hx 30 (by decide)
    clear hx
    have Hb1 := Hb.up hb1
    have Hl1 := Hl.up hb1
    obtain ⟨kb0, kb1, kb2, kb3, kb4, kb5, kb6, kb7⟩ := Hb1.c8
    have g0 : w1.cell? ⟨B, o, none⟩ = some (.int .i64 g.corn) := up_cell hb1 (up_cell hB6 G0.out)
    have g1 : w1.cell? ⟨B, o + 1, none⟩ = some (.int .i64 g.chaff) := up_cell hb1 (up_cell hB6 G1.out)
    have g2 : w1.cell? ⟨B, o + 2, none⟩ = some (.int .i64 g.stones) := up_cell hb1 (up_cell hB6 G2.out)
    have g3 : w1.cell? ⟨B, o + 3, none⟩ = some (.int .i64 g.damp) := up_cell hb1 (up_cell hB6 G3.out)
    have g4 : w1.cell? ⟨B, o + 4, none⟩ = some (.int .i64 g.price) := up_cell hb1 (up_cell hB6 G4.out)
    simp only [frameOf, fill, List.contains_cons, List.contains_nil, Nat.reduceBEq, Bool.or_false, Bool.false_or, Bool.or_true, Bool.true_or, if_true, if_false, Bool.false_eq_true, Nat.reduceAdd, Nat.zero_add]
    simp only [e20, e21, e22, e23, e24, e25, e26, e27, e28, e29, e30]
    clear e20 e21 e22 e23 e24 e25 e26 e27 e28 e29 e30
    have hS1 := hb1.size
    have Hb2 := Hb.up hb1
    have Hl2 := Hl.up hb1
    have kl0 := Hl2.frozen 2
    have kl1 := Hl2.frozen 3
    have kl2 : w1.cell? ⟨wr.heap.size, 2, none⟩ = some (.int .i64 b.l1) := Hl2.cell 2
    have kl3 : w1.cell? ⟨wr.heap.size, 3, none⟩ = some (.int .i64 b.h1) := Hl2.cell 3
    have hBw1 : Below wr.heap.size wr w1 := hB6.trans (hb1.mono hB6.size)
    have hSw : wr.heap.size + 1 ≤ w1.heap.size := by omega
    clear hb1 hB6 hS6 Hb Hl
    go_wp2_with fail
    refine wp_world (fun W7 => Below wr.heap.size wr W7 ∧ wr.heap.size + 1 ≤ W7.heap.size ∧ Holds W7 (wr.heap.size) 153 #[.int .i64 b.l0, .int .i64 b.h0, .int .i64 (mLo b.l1 b.h1 (g.chaff + 1) (40)), .int .i64 (mHi b.l1 b.h1 (g.chaff + 1) (40)), .int .i64 b.l2, .int .i64 b.h2, .int .i64 b.l3, .int .i64 b.h3] ∧ True) ?_ ?_
    ·exact ⟨zg, (by simp; omega), (Hl2.set_ 2 _ |>.set_ 3 _), trivial⟩
    rintro W7 ⟨hB7, hS7, Hl, -⟩
    clear Hl2 Hb2 kl0 kl1 kl2 kl3 hBw1 hS1 hSw
    rename_i Kc hKc
    refine wp_region_partsF (by kernel_rfl) 4 [31, 32, 33, 34] (fun t v w' => match t with
     | 31 => v = .agg #[.int .i64 b.l0, .int .i64 b.h0, .int .i64 (mLo b.l1 b.h1 (g.chaff + 1) (40)), .int .i64 (mHi b.l1 b.h1 (g.chaff + 1) (40)), .int .i64 b.l2, .int .i64 b.h2, .int .i64 b.l3, .int .i64 b.h3]
     | 32 => v = .slice (some ⟨B, o, none⟩) (gs.length + 1) d
     | 33 => v = .slice G5 gs.length (d - 1)
     | 34 => v = .func (.yield l) #[] #[]
     | _ => True) (by kernel_rfl) ?_ ?_ ?_
    ·intro t v w1 w2 hb' h
     revert h
     split <;> intro h <;> first
      | exact h
    ·refine ⟨?_, ?_, ?_, ?_, trivial⟩
     ·intro x w1 hb1 hx K hK
      clear hx hKc
      have Hl2 := Hl.up hb1
      obtain ⟨kl0, kl1⟩ := Hl2.c2
      have kl2 : w1.cell? ⟨wr.heap.size, 2, none⟩ = some (.int .i64 (mLo b.l1 b.h1 (g.chaff + 1) (40))) := Hl2.cell 2
      have kl3 : w1.cell? ⟨wr.heap.size, 3, none⟩ = some (.int .i64 (mHi b.l1 b.h1 (g.chaff + 1) (40))) := Hl2.cell 3
      have kl4 : w1.cell? ⟨wr.heap.size, 4, none⟩ = some (.int .i64 b.l2) := Hl2.cell 4
      have kl5 : w1.cell? ⟨wr.heap.size, 5, none⟩ = some (.int .i64 b.h2) := Hl2.cell 5
      have kl6 : w1.cell? ⟨wr.heap.size, 6, none⟩ = some (.int .i64 b.l3) := Hl2.cell 6
      have kl7 : w1.cell? ⟨wr.heap.size, 7, none⟩ = some (.int .i64 b.h3) := Hl2.cell 7
      simp only [frameOf, fill, sg, Nat.reduceBEq, if_true, if_false, Nat.reduceAdd, Nat.reduceEqDiff] at hK ⊢
      go_wp2_with (fail)
      exact hK _ _ (Below.refl _ _) rfl
     ·intro x w1 hb1 hx K hK
      clear hx hKc
      have Hl2 := Hl.up hb1
      obtain ⟨kl0, kl1⟩ := Hl2.c2
      have kl2 : w1.cell? ⟨wr.heap.size, 2, none⟩ = some (.int .i64 (mLo b.l1 b.h1 (g.chaff + 1) (40))) := Hl2.cell 2
      have kl3 : w1.cell? ⟨wr.heap.size, 3, none⟩ = some (.int .i64 (mHi b.l1 b.h1 (g.chaff + 1) (40))) := Hl2.cell 3
      have kl4 : w1.cell? ⟨wr.heap.size, 4, none⟩ = some (.int .i64 b.l2) := Hl2.cell 4
      have kl5 : w1.cell? ⟨wr.heap.size, 5, none⟩ = some (.int .i64 b.h2) := Hl2.cell 5
      have kl6 : w1.cell? ⟨wr.heap.size, 6, none⟩ = some (.int .i64 b.l3) := Hl2.cell 6
      have kl7 : w1.cell? ⟨wr.heap.size, 7, none⟩ = some (.int .i64 b.h3) := Hl2.cell 7
      simp only [frameOf, fill, sg, Nat.reduceBEq, if_true, if_false, Nat.reduceAdd, Nat.reduceEqDiff] at hK ⊢
      go_wp2_with (fail)
      exact hK _ _ (Below.refl _ _) rfl
     ·intro x w1 hb1 hx K hK
      have e32 : x 32 = .slice (some ⟨B, o, none⟩) (gs.length + 1) d := hx 32 (by rfl)
      clear hx hKc
      have Hl2 := Hl.up hb1
      obtain ⟨kl0, kl1⟩ := Hl2.c2
      have kl2 : w1.cell? ⟨wr.heap.size, 2, none⟩ = some (.int .i64 (mLo b.l1 b.h1 (g.chaff + 1) (40))) := Hl2.cell 2
      have kl3 : w1.cell? ⟨wr.heap.size, 3, none⟩ = some (.int .i64 (mHi b.l1 b.h1 (g.chaff + 1) (40))) := Hl2.cell 3
      have kl4 : w1.cell? ⟨wr.heap.size, 4, none⟩ = some (.int .i64 b.l2) := Hl2.cell 4
      have kl5 : w1.cell? ⟨wr.heap.size, 5, none⟩ = some (.int .i64 b.h2) := Hl2.cell 5
      have kl6 : w1.cell? ⟨wr.heap.size, 6, none⟩ = some (.int .i64 b.l3) := Hl2.cell 6
      have kl7 : w1.cell? ⟨wr.heap.size, 7, none⟩ = some (.int .i64 b.h3) := Hl2.cell 7
      simp only [frameOf, fill, sg, Nat.reduceBEq, if_true, if_false, Nat.reduceAdd, Nat.reduceEqDiff] at hK ⊢
      simp only [e32] at hK ⊢
      clear e32
      go_wp2_with (fail)
      exact hK _ _ (Below.refl _ _) rfl
     ·intro x w1 hb1 hx K hK
      clear hx hKc
      have Hl2 := Hl.up hb1
      obtain ⟨kl0, kl1⟩ := Hl2.c2
      have kl2 : w1.cell? ⟨wr.heap.size, 2, none⟩ = some (.int .i64 (mLo b.l1 b.h1 (g.chaff + 1) (40))) := Hl2.cell 2
      have kl3 : w1.cell? ⟨wr.heap.size, 3, none⟩ = some (.int .i64 (mHi b.l1 b.h1 (g.chaff + 1) (40))) := Hl2.cell 3
      have kl4 : w1.cell? ⟨wr.heap.size, 4, none⟩ = some (.int .i64 b.l2) := Hl2.cell 4
      have kl5 : w1.cell? ⟨wr.heap.size, 5, none⟩ = some (.int .i64 b.h2) := Hl2.cell 5
      have kl6 : w1.cell? ⟨wr.heap.size, 6, none⟩ = some (.int .i64 b.l3) := Hl2.cell 6
      have kl7 : w1.cell? ⟨wr.heap.size, 7, none⟩ = some (.int .i64 b.h3) := Hl2.cell 7
      simp only [frameOf, fill, sg, Nat.reduceBEq, if_true, if_false, Nat.reduceAdd, Nat.reduceEqDiff] at hK ⊢
      go_wp2_with (fail)
      exact hK _ _ (Below.refl _ _) rfl
    ·intro x w1 hb1 hx
     have e31 : x 31 = .agg #[.int .i64 b.l0, .int .i64 b.h0, .int .i64 (mLo b.l1 b.h1 (g.chaff + 1) (40)), .int .i64 (mHi b.l1 b.h1 (g.chaff + 1) (40)), .int .i64 b.l2, .int .i64 b.h2, .int .i64 b.l3, .int .i64 b.h3] := hx 31 (by decide)
     have e32 : x 32 = .slice (some ⟨B, o, none⟩) (gs.length + 1) d := hx 32 (by decide)
     have e33 : x 33 = .slice G5 gs.length (d - 1) := hx 33 (by decide)
     have e34 : x 34 = .func (.yield l) #[] #[] := hx 34 (by decide)
     clear hx
     have Hl2 := Hl.up hb1
     obtain ⟨kl0, kl1⟩ := Hl2.c2
     have kl2 : w1.cell? ⟨wr.heap.size, 2, none⟩ = some (.int .i64 (mLo b.l1 b.h1 (g.chaff + 1) (40))) := Hl2.cell 2
     have kl3 : w1.cell? ⟨wr.heap.size, 3, none⟩ = some (.int .i64 (mHi b.l1 b.h1 (g.chaff + 1) (40))) := Hl2.cell 3
     have kl4 : w1.cell? ⟨wr.heap.size, 4, none⟩ = some (.int .i64 b.l2) := Hl2.cell 4
     have kl5 : w1.cell? ⟨wr.heap.size, 5, none⟩ = some (.int .i64 b.h2) := Hl2.cell 5
     have kl6 : w1.cell? ⟨wr.heap.size, 6, none⟩ = some (.int .i64 b.l3) := Hl2.cell 6
     have kl7 : w1.cell? ⟨wr.heap.size, 7, none⟩ = some (.int .i64 b.h3) := Hl2.cell 7
     simp only [frameOf, fill, List.contains_cons, List.contains_nil, Nat.reduceBEq, Bool.or_false, Bool.false_or, Bool.or_true, Bool.true_or, if_true, if_false, Bool.false_eq_true, Nat.reduceAdd, Nat.zero_add]
     simp only [e31, e32, e33, e34]
     clear e31 e32 e33 e34
     have hcall := Lib.hid (IH.out ⟨b.less1 g, ob.less1 g⟩ G5 (d - 1) (pre ++ doneO ⟨b, ob⟩ g gs 1) w1 (HT.out.ckept (HK.out.trans (CKept.of (hB7.trans (hb1.mono hB7.size))))) (by omega) (HJ.out _ _ _ HJr.out (hB7.trans (hb1.mono hB7.size))) (by have := HNN.out; simp only [missO, List.length_append, doneO, List.length_nil, List.append_assoc] at this ⊢; omega))
     go_wp2_with (go_at_call 148; refine hcall.out.mono ?_; rintro e w4 (⟨rfl, hj4, hk4⟩ | ⟨rfl, q, hq, hx4⟩))
     ·go_roundw
      case rel =>
       refine ⟨2, rfl, by omega, ?_, (HK.out.trans (CKept.of (hB7.trans (hb1.mono hB7.size)))).trans hk4, ((Hbr.out.up (hB7.trans (hb1.mono hB7.size)))).ckept hk4⟩
       simpa [doneO, List.append_assoc] using hj4
      case measure => simp [intOf]
     ·go_ret
      refine .inr ⟨rfl, doneO ⟨b, ob⟩ g gs 1 ++ q, done_pre1 hq, by simpa [List.append_assoc] using hx4⟩
  ·-- kind 2
   have hk0 := HK.out.size
   have G0 := Lib.hid (HK.out.cell C0.out)
   have G1 := Lib.hid (HK.out.cell C1.out)
   have G2 := Lib.hid (HK.out.cell C2.out)
   have G3 := Lib.hid (HK.out.cell C3.out)
   have G4 := Lib.hid (HK.out.cell C4.out)
   have Hbq := Hbr.out
   go_wp2_with fail
   refine wp_world (fun W6 => Below wr.heap.size wr W6 ∧ wr.heap.size + 1 ≤ W6.heap.size ∧ Holds W6 (W.heap.size) 153 #[.int .i64 b.l0, .int .i64 b.h0, .int .i64 b.l1, .int .i64 b.h1, .int .i64 b.l2, .int .i64 b.h2, .int .i64 b.l3, .int .i64 b.h3] ∧ Holds W6 (wr.heap.size) 153 #[.int .i64 b.l0, .int .i64 b.h0, .int .i64 b.l1, .int .i64 b.h1, .int .i64 b.l2, .int .i64 b.h2, .int .i64 b.l3, .int .i64 b.h3] ∧ True) ?_ ?_
   ·exact ⟨zg, (by simp), zp0, zp0, trivial⟩
   rintro W6 ⟨hB6, hS6, Hb, Hl, -⟩
   rename_i Kc hKc
   refine wp_region_partsF (by kernel_rfl) 11 [20, 21, 22, 23, 24, 25, 26, 27, 28, 29, 30] (fun t v w' => match t with
    | 20 => v = .int .i64 2
    | 21 => v = .int .i64 2
    | 22 => v = .pointer (some ⟨W.heap.size, 4, none⟩)
    | 23 => v = .agg #[.int .i64 b.l2, .int .i64 b.h2]
    | 24 => v = .slice (some ⟨B, o, none⟩) (gs.length + 1) d
    | 25 => v = .pointer (some ⟨B, o, none⟩)
    | 26 => v = .agg #[.int .i64 g.corn, .int .i64 g.chaff, .int .i64 g.stones, .int .i64 g.damp, .int .i64 g.price]
    | 27 => v = .int .i64 2
    | 28 => v = .agg #[.int .i64 (g.stones + 1), .int .i64 (40)]
    | 29 => v = .agg #[.int .i64 (mLo b.l2 b.h2 (g.stones + 1) (40)), .int .i64 (mHi b.l2 b.h2 (g.stones + 1) (40))]
    | 30 => v = .pointer (some ⟨wr.heap.size, 4, none⟩)
    | _ => True) (by kernel_rfl) ?_ ?_ ?_
   ·intro t v w1 w2 hb' h
    revert h
    split <;> intro h <;> first
     | exact h
   ·refine ⟨?_, ?_, ?_, ?_, ?_, ?_, ?_, ?_, ?_, ?_, ?_, trivial⟩
    ·intro x w1 hb1 hx K hK
     clear hx hKc
     have Hb1 := Hb.up hb1
     have Hl1 := Hl.up hb1
     obtain ⟨kb0, kb1, kb2, kb3, kb4, kb5, kb6, kb7⟩ := Hb1.c8
     have g0 : w1.cell? ⟨B, o, none⟩ = some (.int .i64 g.corn) := up_cell hb1 (up_cell hB6 G0.out)
     have g1 : w1.cell? ⟨B, o + 1, none⟩ = some (.int .i64 g.chaff) := up_cell hb1 (up_cell hB6 G1.out)
     have g2 : w1.cell? ⟨B, o + 2, none⟩ = some (.int .i64 g.stones) := up_cell hb1 (up_cell hB6 G2.out)
     have g3 : w1.cell? ⟨B, o + 3, none⟩ = some (.int .i64 g.damp) := up_cell hb1 (up_cell hB6 G3.out)
     have g4 : w1.cell? ⟨B, o + 4, none⟩ = some (.int .i64 g.price) := up_cell hb1 (up_cell hB6 G4.out)
     simp only [frameOf, fill, sg, Nat.reduceBEq, if_true, if_false, Nat.reduceAdd, Nat.reduceEqDiff] at hK ⊢
     go_wp2_with (first | (go_at_call 150; refine (missing_2 g _ r0 r1 r2 r3 r4 r5 r6 r7).mono ?_; rintro e w2 ⟨rfl, hb2⟩) | (go_at_call 135; refine (meet_any _ _ _ _ _).mono ?_; rintro e w2 ⟨rfl, hb2⟩))
     exact hK _ _ (Below.refl _ _) rfl
    ·intro x w1 hb1 hx K hK
     clear hx hKc
     have Hb1 := Hb.up hb1
     have Hl1 := Hl.up hb1
     obtain ⟨kb0, kb1, kb2, kb3, kb4, kb5, kb6, kb7⟩ := Hb1.c8
     have g0 : w1.cell? ⟨B, o, none⟩ = some (.int .i64 g.corn) := up_cell hb1 (up_cell hB6 G0.out)
     have g1 : w1.cell? ⟨B, o + 1, none⟩ = some (.int .i64 g.chaff) := up_cell hb1 (up_cell hB6 G1.out)
     have g2 : w1.cell? ⟨B, o + 2, none⟩ = some (.int .i64 g.stones) := up_cell hb1 (up_cell hB6 G2.out)
     have g3 : w1.cell? ⟨B, o + 3, none⟩ = some (.int .i64 g.damp) := up_cell hb1 (up_cell hB6 G3.out)
     have g4 : w1.cell? ⟨B, o + 4, none⟩ = some (.int .i64 g.price) := up_cell hb1 (up_cell hB6 G4.out)
     simp only [frameOf, fill, sg, Nat.reduceBEq, if_true, if_false, Nat.reduceAdd, Nat.reduceEqDiff] at hK ⊢
     go_wp2_with (first | (go_at_call 150; refine (missing_2 g _ r0 r1 r2 r3 r4 r5 r6 r7).mono ?_; rintro e w2 ⟨rfl, hb2⟩) | (go_at_call 135; refine (meet_any _ _ _ _ _).mono ?_; rintro e w2 ⟨rfl, hb2⟩))
     exact hK _ _ (Below.refl _ _) rfl
    ·intro x w1 hb1 hx K hK
     have e21 : x 21 = .int .i64 2 := hx 21 (by rfl)
     clear hx hKc
     have Hb1 := Hb.up hb1
     have Hl1 := Hl.up hb1
     obtain ⟨kb0, kb1, kb2, kb3, kb4, kb5, kb6, kb7⟩ := Hb1.c8
     have g0 : w1.cell? ⟨B, o, none⟩ = some (.int .i64 g.corn) := up_cell hb1 (up_cell hB6 G0.out)
     have g1 : w1.cell? ⟨B, o + 1, none⟩ = some (.int .i64 g.chaff) := up_cell hb1 (up_cell hB6 G1.out)
     have g2 : w1.cell? ⟨B, o + 2, none⟩ = some (.int .i64 g.stones) := up_cell hb1 (up_cell hB6 G2.out)
     have g3 : w1.cell? ⟨B, o + 3, none⟩ = some (.int .i64 g.damp) := up_cell hb1 (up_cell hB6 G3.out)
     have g4 : w1.cell? ⟨B, o + 4, none⟩ = some (.int .i64 g.price) := up_cell hb1 (up_cell hB6 G4.out)
     simp only [frameOf, fill, sg, Nat.reduceBEq, if_true, if_false, Nat.reduceAdd, Nat.reduceEqDiff] at hK ⊢
     simp only [e21] at hK ⊢
     clear e21
     go_wp2_with (first | (go_at_call 150; refine (missing_2 g _ r0 r1 r2 r3 r4 r5 r6 r7).mono ?_; rintro e w2 ⟨rfl, hb2⟩) | (go_at_call 135; refine (meet_any _ _ _ _ _).mono ?_; rintro e w2 ⟨rfl, hb2⟩))
     exact hK _ _ (Below.refl _ _) rfl
    ·intro x w1 hb1 hx K hK
     have e22 : x 22 = .pointer (some ⟨W.heap.size, 4, none⟩) := hx 22 (by rfl)
     clear hx hKc
     have Hb1 := Hb.up hb1
     have Hl1 := Hl.up hb1
     obtain ⟨kb0, kb1, kb2, kb3, kb4, kb5, kb6, kb7⟩ := Hb1.c8
     have g0 : w1.cell? ⟨B, o, none⟩ = some (.int .i64 g.corn) := up_cell hb1 (up_cell hB6 G0.out)
     have g1 : w1.cell? ⟨B, o + 1, none⟩ = some (.int .i64 g.chaff) := up_cell hb1 (up_cell hB6 G1.out)
     have g2 : w1.cell? ⟨B, o + 2, none⟩ = some (.int .i64 g.stones) := up_cell hb1 (up_cell hB6 G2.out)
     have g3 : w1.cell? ⟨B, o + 3, none⟩ = some (.int .i64 g.damp) := up_cell hb1 (up_cell hB6 G3.out)
     have g4 : w1.cell? ⟨B, o + 4, none⟩ = some (.int .i64 g.price) := up_cell hb1 (up_cell hB6 G4.out)
     simp only [frameOf, fill, sg, Nat.reduceBEq, if_true, if_false, Nat.reduceAdd, Nat.reduceEqDiff] at hK ⊢
     simp only [e22] at hK ⊢
     clear e22
     go_wp2_with (first | (go_at_call 150; refine (missing_2 g _ r0 r1 r2 r3 r4 r5 r6 r7).mono ?_; rintro e w2 ⟨rfl, hb2⟩) | (go_at_call 135; refine (meet_any _ _ _ _ _).mono ?_; rintro e w2 ⟨rfl, hb2⟩))
     exact hK _ _ (Below.refl _ _) rfl
    ·intro x w1 hb1 hx K hK
     clear hx hKc
     have Hb1 := Hb.up hb1
     have Hl1 := Hl.up hb1
     obtain ⟨kb0, kb1, kb2, kb3, kb4, kb5, kb6, kb7⟩ := Hb1.c8
     have g0 : w1.cell? ⟨B, o, none⟩ = some (.int .i64 g.corn) := up_cell hb1 (up_cell hB6 G0.out)
     have g1 : w1.cell? ⟨B, o + 1, none⟩ = some (.int .i64 g.chaff) := up_cell hb1 (up_cell hB6 G1.out)
     have g2 : w1.cell? ⟨B, o + 2, none⟩ = some (.int .i64 g.stones) := up_cell hb1 (up_cell hB6 G2.out)
     have g3 : w1.cell? ⟨B, o + 3, none⟩ = some (.int .i64 g.damp) := up_cell hb1 (up_cell hB6 G3.out)
     have g4 : w1.cell? ⟨B, o + 4, none⟩ = some (.int .i64 g.price) := up_cell hb1 (up_cell hB6 G4.out)
     simp only [frameOf, fill, sg, Nat.reduceBEq, if_true, if_false, Nat.reduceAdd, Nat.reduceEqDiff] at hK ⊢
     go_wp2_with (first | (go_at_call 150; refine (missing_2 g _ r0 r1 r2 r3 r4 r5 r6 r7).mono ?_; rintro e w2 ⟨rfl, hb2⟩) | (go_at_call 135; refine (meet_any _ _ _ _ _).mono ?_; rintro e w2 ⟨rfl, hb2⟩))
     exact hK _ _ (Below.refl _ _) rfl
    ·intro x w1 hb1 hx K hK
     have e24 : x 24 = .slice (some ⟨B, o, none⟩) (gs.length + 1) d := hx 24 (by rfl)
     clear hx hKc
     have Hb1 := Hb.up hb1
     have Hl1 := Hl.up hb1
     obtain ⟨kb0, kb1, kb2, kb3, kb4, kb5, kb6, kb7⟩ := Hb1.c8
     have g0 : w1.cell? ⟨B, o, none⟩ = some (.int .i64 g.corn) := up_cell hb1 (up_cell hB6 G0.out)
     have g1 : w1.cell? ⟨B, o + 1, none⟩ = some (.int .i64 g.chaff) := up_cell hb1 (up_cell hB6 G1.out)
     have g2 : w1.cell? ⟨B, o + 2, none⟩ = some (.int .i64 g.stones) := up_cell hb1 (up_cell hB6 G2.out)
     have g3 : w1.cell? ⟨B, o + 3, none⟩ = some (.int .i64 g.damp) := up_cell hb1 (up_cell hB6 G3.out)
     have g4 : w1.cell? ⟨B, o + 4, none⟩ = some (.int .i64 g.price) := up_cell hb1 (up_cell hB6 G4.out)
     simp only [frameOf, fill, sg, Nat.reduceBEq, if_true, if_false, Nat.reduceAdd, Nat.reduceEqDiff] at hK ⊢
     simp only [e24] at hK ⊢
     clear e24
     go_wp2_with (first | (go_at_call 150; refine (missing_2 g _ r0 r1 r2 r3 r4 r5 r6 r7).mono ?_; rintro e w2 ⟨rfl, hb2⟩) | (go_at_call 135; refine (meet_any _ _ _ _ _).mono ?_; rintro e w2 ⟨rfl, hb2⟩))
     exact hK _ _ (Below.refl _ _) rfl
    ·intro x w1 hb1 hx K hK
     have e25 : x 25 = .pointer (some ⟨B, o, none⟩) := hx 25 (by rfl)
     clear hx hKc
     have Hb1 := Hb.up hb1
     have Hl1 := Hl.up hb1
     obtain ⟨kb0, kb1, kb2, kb3, kb4, kb5, kb6, kb7⟩ := Hb1.c8
     have g0 : w1.cell? ⟨B, o, none⟩ = some (.int .i64 g.corn) := up_cell hb1 (up_cell hB6 G0.out)
     have g1 : w1.cell? ⟨B, o + 1, none⟩ = some (.int .i64 g.chaff) := up_cell hb1 (up_cell hB6 G1.out)
     have g2 : w1.cell? ⟨B, o + 2, none⟩ = some (.int .i64 g.stones) := up_cell hb1 (up_cell hB6 G2.out)
     have g3 : w1.cell? ⟨B, o + 3, none⟩ = some (.int .i64 g.damp) := up_cell hb1 (up_cell hB6 G3.out)
     have g4 : w1.cell? ⟨B, o + 4, none⟩ = some (.int .i64 g.price) := up_cell hb1 (up_cell hB6 G4.out)
     simp only [frameOf, fill, sg, Nat.reduceBEq, if_true, if_false, Nat.reduceAdd, Nat.reduceEqDiff] at hK ⊢
     simp only [e25] at hK ⊢
     clear e25
     go_wp2_with (first | (go_at_call 150; refine (missing_2 g _ r0 r1 r2 r3 r4 r5 r6 r7).mono ?_; rintro e w2 ⟨rfl, hb2⟩) | (go_at_call 135; refine (meet_any _ _ _ _ _).mono ?_; rintro e w2 ⟨rfl, hb2⟩))
     exact hK _ _ (Below.refl _ _) rfl
    ·intro x w1 hb1 hx K hK
     clear hx hKc
     have Hb1 := Hb.up hb1
     have Hl1 := Hl.up hb1
     obtain ⟨kb0, kb1, kb2, kb3, kb4, kb5, kb6, kb7⟩ := Hb1.c8
     have g0 : w1.cell? ⟨B, o, none⟩ = some (.int .i64 g.corn) := up_cell hb1 (up_cell hB6 G0.out)
     have g1 : w1.cell? ⟨B, o + 1, none⟩ = some (.int .i64 g.chaff) := up_cell hb1 (up_cell hB6 G1.out)
     have g2 : w1.cell? ⟨B, o + 2, none⟩ = some (.int .i64 g.stones) := up_cell hb1 (up_cell hB6 G2.out)
     have g3 : w1.cell? ⟨B, o + 3, none⟩ = some (.int .i64 g.damp) := up_cell hb1 (up_cell hB6 G3.out)
     have g4 : w1.cell? ⟨B, o + 4, none⟩ = some (.int .i64 g.price) := up_cell hb1 (up_cell hB6 G4.out)
     simp only [frameOf, fill, sg, Nat.reduceBEq, if_true, if_false, Nat.reduceAdd, Nat.reduceEqDiff] at hK ⊢
     go_wp2_with (first | (go_at_call 150; refine (missing_2 g _ r0 r1 r2 r3 r4 r5 r6 r7).mono ?_; rintro e w2 ⟨rfl, hb2⟩) | (go_at_call 135; refine (meet_any _ _ _ _ _).mono ?_; rintro e w2 ⟨rfl, hb2⟩))
     exact hK _ _ (Below.refl _ _) rfl
    ·intro x w1 hb1 hx K hK
     have e26 : x 26 = .agg #[.int .i64 g.corn, .int .i64 g.chaff, .int .i64 g.stones, .int .i64 g.damp, .int .i64 g.price] := hx 26 (by rfl)
     have e27 : x 27 = .int .i64 2 := hx 27 (by rfl)
     clear hx hKc
     have Hb1 := Hb.up hb1
     have Hl1 := Hl.up hb1
     obtain ⟨kb0, kb1, kb2, kb3, kb4, kb5, kb6, kb7⟩ := Hb1.c8
     have g0 : w1.cell? ⟨B, o, none⟩ = some (.int .i64 g.corn) := up_cell hb1 (up_cell hB6 G0.out)
     have g1 : w1.cell? ⟨B, o + 1, none⟩ = some (.int .i64 g.chaff) := up_cell hb1 (up_cell hB6 G1.out)
     have g2 : w1.cell? ⟨B, o + 2, none⟩ = some (.int .i64 g.stones) := up_cell hb1 (up_cell hB6 G2.out)
     have g3 : w1.cell? ⟨B, o + 3, none⟩ = some (.int .i64 g.damp) := up_cell hb1 (up_cell hB6 G3.out)
     have g4 : w1.cell? ⟨B, o + 4, none⟩ = some (.int .i64 g.price) := up_cell hb1 (up_cell hB6 G4.out)
     simp only [frameOf, fill, sg, Nat.reduceBEq, if_true, if_false, Nat.reduceAdd, Nat.reduceEqDiff] at hK ⊢
     simp only [e26, e27] at hK ⊢
     clear e26 e27
     go_wp2_with (first | (go_at_call 150; refine (missing_2 g _ r0 r1 r2 r3 r4 r5 r6 r7).mono ?_; rintro e w2 ⟨rfl, hb2⟩) | (go_at_call 135; refine (meet_any _ _ _ _ _).mono ?_; rintro e w2 ⟨rfl, hb2⟩))
     exact hK _ _ hb2 rfl
    ·intro x w1 hb1 hx K hK
     have e23 : x 23 = .agg #[.int .i64 b.l2, .int .i64 b.h2] := hx 23 (by rfl)
     have e28 : x 28 = .agg #[.int .i64 (g.stones + 1), .int .i64 (40)] := hx 28 (by rfl)
     clear hx hKc
     have Hb1 := Hb.up hb1
     have Hl1 := Hl.up hb1
     obtain ⟨kb0, kb1, kb2, kb3, kb4, kb5, kb6, kb7⟩ := Hb1.c8
     have g0 : w1.cell? ⟨B, o, none⟩ = some (.int .i64 g.corn) := up_cell hb1 (up_cell hB6 G0.out)
     have g1 : w1.cell? ⟨B, o + 1, none⟩ = some (.int .i64 g.chaff) := up_cell hb1 (up_cell hB6 G1.out)
     have g2 : w1.cell? ⟨B, o + 2, none⟩ = some (.int .i64 g.stones) := up_cell hb1 (up_cell hB6 G2.out)
     have g3 : w1.cell? ⟨B, o + 3, none⟩ = some (.int .i64 g.damp) := up_cell hb1 (up_cell hB6 G3.out)
     have g4 : w1.cell? ⟨B, o + 4, none⟩ = some (.int .i64 g.price) := up_cell hb1 (up_cell hB6 G4.out)
     simp only [frameOf, fill, sg, Nat.reduceBEq, if_true, if_false, Nat.reduceAdd, Nat.reduceEqDiff] at hK ⊢
     simp only [e23, e28] at hK ⊢
     clear e23 e28
     go_wp2_with (first | (go_at_call 150; refine (missing_2 g _ r0 r1 r2 r3 r4 r5 r6 r7).mono ?_; rintro e w2 ⟨rfl, hb2⟩) | (go_at_call 135; refine (meet_any _ _ _ _ _).mono ?_; rintro e w2 ⟨rfl, hb2⟩))
     exact hK _ _ hb2 rfl
    ·intro x w1 hb1 hx K hK
     have e20 : x 20 = .int .i64 2 := hx 20 (by rfl)
     clear hx hKc
     have Hb1 := Hb.up hb1
     have Hl1 := Hl.up hb1
     obtain ⟨kb0, kb1, kb2, kb3, kb4, kb5, kb6, kb7⟩ := Hb1.c8
     have g0 : w1.cell? ⟨B, o, none⟩ = some (.int .i64 g.corn) := up_cell hb1 (up_cell hB6 G0.out)
     have g1 : w1.cell? ⟨B, o + 1, none⟩ = some (.int .i64 g.chaff) := up_cell hb1 (up_cell hB6 G1.out)
     have g2 : w1.cell? ⟨B, o + 2, none⟩ = some (.int .i64 g.stones) := up_cell hb1 (up_cell hB6 G2.out)
     have g3 : w1.cell? ⟨B, o + 3, none⟩ = some (.int .i64 g.damp) := up_cell hb1 (up_cell hB6 G3.out)
     have g4 : w1.cell? ⟨B, o + 4, none⟩ = some (.int .i64 g.price) := up_cell hb1 (up_cell hB6 G4.out)
     simp only [frameOf, fill, sg, Nat.reduceBEq, if_true, if_false, Nat.reduceAdd, Nat.reduceEqDiff] at hK ⊢
     simp only [e20] at hK ⊢
     clear e20
     go_wp2_with (first | (go_at_call 150; refine (missing_2 g _ r0 r1 r2 r3 r4 r5 r6 r7).mono ?_; rintro e w2 ⟨rfl, hb2⟩) | (go_at_call 135; refine (meet_any _ _ _ _ _).mono ?_; rintro e w2 ⟨rfl, hb2⟩))
     exact hK _ _ (Below.refl _ _) rfl
   ·intro x w1 hb1 hx
    have e20 : x 20 = .int .i64 2 := hx 20 (by decide)
    have e21 : x 21 = .int .i64 2 := hx 21 (by decide)
    have e22 : x 22 = .pointer (some ⟨W.heap.size, 4, none⟩) := hx 22 (by decide)
    have e23 : x 23 = .agg #[.int .i64 b.l2, .int .i64 b.h2] := hx 23 (by decide)
    have e24 : x 24 = .slice (some ⟨B, o, none⟩) (gs.length + 1) d := hx 24 (by decide)
    have e25 : x 25 = .pointer (some ⟨B, o, none⟩) := hx 25 (by decide)
    have e26 : x 26 = .agg #[.int .i64 g.corn, .int .i64 g.chaff, .int .i64 g.stones, .int .i64 g.damp, .int .i64 g.price] := hx 26 (by decide)
    have e27 : x 27 = .int .i64 2 := hx 27 (by decide)
    have e28 : x 28 = .agg #[.int .i64 (g.stones + 1), .int .i64 (40)] := hx 28 (by decide)
    have e29 : x 29 = .agg #[.int .i64 (mLo b.l2 b.h2 (g.stones + 1) (40)), .int .i64 (mHi b.l2 b.h2 (g.stones + 1) (40))] := hx 29 (by decide)
    have e30 : x 30 = .pointer (some ⟨wr.heap.size, 4, none⟩) := hx 30 (by decide)
    clear hx
    have Hb1 := Hb.up hb1
    have Hl1 := Hl.up hb1
    obtain ⟨kb0, kb1, kb2, kb3, kb4, kb5, kb6, kb7⟩ := Hb1.c8
    have g0 : w1.cell? ⟨B, o, none⟩ = some (.int .i64 g.corn) := up_cell hb1 (up_cell hB6 G0.out)
    have g1 : w1.cell? ⟨B, o + 1, none⟩ = some (.int .i64 g.chaff) := up_cell hb1 (up_cell hB6 G1.out)
    have g2 : w1.cell? ⟨B, o + 2, none⟩ = some (.int .i64 g.stones) := up_cell hb1 (up_cell hB6 G2.out)
    have g3 : w1.cell? ⟨B, o + 3, none⟩ = some (.int .i64 g.damp) := up_cell hb1 (up_cell hB6 G3.out)
    have g4 : w1.cell? ⟨B, o + 4, none⟩ = some (.int .i64 g.price) := up_cell hb1 (up_cell hB6 G4.out)
    simp only [frameOf, fill, List.contains_cons, List.contains_nil, Nat.reduceBEq, Bool.or_false, Bool.false_or, Bool.or_true, Bool.true_or, if_true, if_false, Bool.false_eq_true, Nat.reduceAdd, Nat.zero_add]
    simp only [e20, e21, e22, e23, e24, e25, e26, e27, e28, e29, e30]
    clear e20 e21 e22 e23 e24 e25 e26 e27 e28 e29 e30
    have hS1 := hb1.size
    have Hb2 := Hb.up hb1
    have Hl2 := Hl.up hb1
    have kl0 := Hl2.frozen 4
    have kl1 := Hl2.frozen 5
    have kl2 : w1.cell? ⟨wr.heap.size, 4, none⟩ = some (.int .i64 b.l2) := Hl2.cell 4
    have kl3 : w1.cell? ⟨wr.heap.size, 5, none⟩ = some (.int .i64 b.h2) := Hl2.cell 5
    have hBw1 : Below wr.heap.size wr w1 := hB6.trans (hb1.mono hB6.size)
    have hSw : wr.heap.size + 1 ≤ w1.heap.size := by omega
    clear hb1 hB6 hS6 Hb Hl
    go_wp2_with fail
    refine wp_world (fun W7 => Below wr.heap.size wr W7 ∧ wr.heap.size + 1 ≤ W7.heap.size ∧ Holds W7 (wr.heap.size) 153 #[.int .i64 b.l0, .int .i64 b.h0, .int .i64 b.l1, .int .i64 b.h1, .int .i64 (mLo b.l2 b.h2 (g.stones + 1) (40)), .int .i64 (mHi b.l2 b.h2 (g.stones + 1) (40)), .int .i64 b.l3, .int .i64 b.h3] ∧ True) ?_ ?_
    ·exact ⟨zg, (by simp; omega), (Hl2.set_ 4 _ |>.set_ 5 _), trivial⟩
    rintro W7 ⟨hB7, hS7, Hl, -⟩
    clear Hl2 Hb2 kl0 kl1 kl2 kl3 hBw1 hS1 hSw
    rename_i Kc hKc
    refine wp_region_partsF (by kernel_rfl) 4 [31, 32, 33, 34] (fun t v w' => match t with
     | 31 => v = .agg #[.int .i64 b.l0, .int .i64 b.h0, .int .i64 b.l1, .int .i64 b.h1, .int .i64 (mLo b.l2 b.h2 (g.stones + 1) (40)), .int .i64 (mHi b.l2 b.h2 (g.stones + 1) (40)), .int .i64 b.l3, .int .i64 b.h3]
     | 32 => v = .slice (some ⟨B, o, none⟩) (gs.length + 1) d
     | 33 => v = .slice G5 gs.length (d - 1)
     | 34 => v = .func (.yield l) #[] #[]
     | _ => True) (by kernel_rfl) ?_ ?_ ?_
    ·intro t v w1 w2 hb' h
     revert h
     split <;> intro h <;> first
      | exact h
    ·refine ⟨?_, ?_, ?_, ?_, trivial⟩
     ·intro x w1 hb1 hx K hK
      clear hx hKc
      have Hl2 := Hl.up hb1
      obtain ⟨kl0, kl1, kl2, kl3⟩ := Hl2.c4
      have kl4 : w1.cell? ⟨wr.heap.size, 4, none⟩ = some (.int .i64 (mLo b.l2 b.h2 (g.stones + 1) (40))) := Hl2.cell 4
      have kl5 : w1.cell? ⟨wr.heap.size, 5, none⟩ = some (.int .i64 (mHi b.l2 b.h2 (g.stones + 1) (40))) := Hl2.cell 5
      have kl6 : w1.cell? ⟨wr.heap.size, 6, none⟩ = some (.int .i64 b.l3) := Hl2.cell 6
      have kl7 : w1.cell? ⟨wr.heap.size, 7, none⟩ = some (.int .i64 b.h3) := Hl2.cell 7
      simp only [frameOf, fill, sg, Nat.reduceBEq, if_true, if_false, Nat.reduceAdd, Nat.reduceEqDiff] at hK ⊢
      go_wp2_with (fail)
      exact hK _ _ (Below.refl _ _) rfl
     ·intro x w1 hb1 hx K hK
      clear hx hKc
      have Hl2 := Hl.up hb1
      obtain ⟨kl0, kl1, kl2, kl3⟩ := Hl2.c4
      have kl4 : w1.cell? ⟨wr.heap.size, 4, none⟩ = some (.int .i64 (mLo b.l2 b.h2 (g.stones + 1) (40))) := Hl2.cell 4
      have kl5 : w1.cell? ⟨wr.heap.size, 5, none⟩ = some (.int .i64 (mHi b.l2 b.h2 (g.stones + 1) (40))) := Hl2.cell 5
      have kl6 : w1.cell? ⟨wr.heap.size, 6, none⟩ = some (.int .i64 b.l3) := Hl2.cell 6
      have kl7 : w1.cell? ⟨wr.heap.size, 7, none⟩ = some (.int .i64 b.h3) := Hl2.cell 7
      simp only [frameOf, fill, sg, Nat.reduceBEq, if_true, if_false, Nat.reduceAdd, Nat.reduceEqDiff] at hK ⊢
      go_wp2_with (fail)
      exact hK _ _ (Below.refl _ _) rfl
     ·intro x w1 hb1 hx K hK
      have e32 : x 32 = .slice (some ⟨B, o, none⟩) (gs.length + 1) d := hx 32 (by rfl)
      clear hx hKc
      have Hl2 := Hl.up hb1
      obtain ⟨kl0, kl1, kl2, kl3⟩ := Hl2.c4
      have kl4 : w1.cell? ⟨wr.heap.size, 4, none⟩ = some (.int .i64 (mLo b.l2 b.h2 (g.stones + 1) (40))) := Hl2.cell 4
      have kl5 : w1.cell? ⟨wr.heap.size, 5, none⟩ = some (.int .i64 (mHi b.l2 b.h2 (g.stones + 1) (40))) := Hl2.cell 5
      have kl6 : w1.cell? ⟨wr.heap.size, 6, none⟩ = some (.int .i64 b.l3) := Hl2.cell 6
      have kl7 : w1.cell? ⟨wr.heap.size, 7, none⟩ = some (.int .i64 b.h3) := Hl2.cell 7
      simp only [frameOf, fill, sg, Nat.reduceBEq, if_true, if_false, Nat.reduceAdd, Nat.reduceEqDiff] at hK ⊢
      simp only [e32] at hK ⊢
      clear e32
      go_wp2_with (fail)
      exact hK _ _ (Below.refl _ _) rfl
     ·intro x w1 hb1 hx K hK
      clear hx hKc
      have Hl2 := Hl.up hb1
      obtain ⟨kl0, kl1, kl2, kl3⟩ := Hl2.c4
      have kl4 : w1.cell? ⟨wr.heap.size, 4, none⟩ = some (.int .i64 (mLo b.l2 b.h2 (g.stones + 1) (40))) := Hl2.cell 4
      have kl5 : w1.cell? ⟨wr.heap.size, 5, none⟩ = some (.int .i64 (mHi b.l2 b.h2 (g.stones + 1) (40))) := Hl2.cell 5
      have kl6 : w1.cell? ⟨wr.heap.size, 6, none⟩ = some (.int .i64 b.l3) := Hl2.cell 6
      have kl7 : w1.cell? ⟨wr.heap.size, 7, none⟩ = some (.int .i64 b.h3) := Hl2.cell 7
      simp only [frameOf, fill, sg, Nat.reduceBEq, if_true, if_false, Nat.reduceAdd, Nat.reduceEqDiff] at hK ⊢
      go_wp2_with (fail)
      exact hK _ _ (Below.refl _ _) rfl
    ·intro x w1 hb1 hx
     have e31 : x 31 = .agg #[.int .i64 b.l0, .int .i64 b.h0, .int .i64 b.l1, .int .i64 b.h1, .int .i64 (mLo b.l2 b.h2 (g.stones + 1) (40)), .int .i64 (mHi b.l2 b.h2 (g.stones + 1) (40)), .int .i64 b.l3, .int .i64 b.h3] := hx 31 (by decide)
     have e32 : x 32 = .slice (some ⟨B, o, none⟩) (gs.length + 1) d := hx 32 (by decide)
     have e33 : x 33 = .slice G5 gs.length (d - 1) := hx 33 (by decide)
     have e34 : x 34 = .func (.yield l) #[] #[] := hx 34 (by decide)
     clear hx
     have Hl2 := Hl.up hb1
     obtain ⟨kl0, kl1, kl2, kl3⟩ := Hl2.c4
     have kl4 : w1.cell? ⟨wr.heap.size, 4, none⟩ = some (.int .i64 (mLo b.l2 b.h2 (g.stones + 1) (40))) := Hl2.cell 4
     have kl5 : w1.cell? ⟨wr.heap.size, 5, none⟩ = some (.int .i64 (mHi b.l2 b.h2 (g.stones + 1) (40))) := Hl2.cell 5
     have kl6 : w1.cell? ⟨wr.heap.size, 6, none⟩ = some (.int .i64 b.l3) := Hl2.cell 6
     have kl7 : w1.cell? ⟨wr.heap.size, 7, none⟩ = some (.int .i64 b.h3) := Hl2.cell 7
     simp only [frameOf, fill, List.contains_cons, List.contains_nil, Nat.reduceBEq, Bool.or_false, Bool.false_or, Bool.or_true, Bool.true_or, if_true, if_false, Bool.false_eq_true, Nat.reduceAdd, Nat.zero_add]
     simp only [e31, e32, e33, e34]
     clear e31 e32 e33 e34
     have hcall := Lib.hid (IH.out ⟨b.less2 g, ob.less2 g⟩ G5 (d - 1) (pre ++ doneO ⟨b, ob⟩ g gs 2) w1 (HT.out.ckept (HK.out.trans (CKept.of (hB7.trans (hb1.mono hB7.size))))) (by omega) (HJ.out _ _ _ HJr.out (hB7.trans (hb1.mono hB7.size))) (by have := HNN.out; simp only [missO, List.length_append, doneO, List.length_nil, List.append_assoc] at this ⊢; omega))
     go_wp2_with (go_at_call 148; refine hcall.out.mono ?_; rintro e w4 (⟨rfl, hj4, hk4⟩ | ⟨rfl, q, hq, hx4⟩))
     ·go_roundw
      case rel =>
       refine ⟨3, rfl, by omega, ?_, (HK.out.trans (CKept.of (hB7.trans (hb1.mono hB7.size)))).trans hk4, ((Hbr.out.up (hB7.trans (hb1.mono hB7.size)))).ckept hk4⟩
       simpa [doneO, List.append_assoc] using hj4
      case measure => simp [intOf]
     ·go_ret
      refine .inr ⟨rfl, doneO ⟨b, ob⟩ g gs 2 ++ q, done_pre2 hq, by simpa [List.append_assoc] using hx4⟩
  ·-- kind 3
   have hk0 := HK.out.size
   have G0 := Lib.hid (HK.out.cell C0.out)
   have G1 := Lib.hid (HK.out.cell C1.out)
   have G2 := Lib.hid (HK.out.cell C2.out)
   have G3 := Lib.hid (HK.out.cell C3.out)
   have G4 := Lib.hid (HK.out.cell C4.out)
   have Hbq := Hbr.out
   go_wp2_with fail
   refine wp_world (fun W6 => Below wr.heap.size wr W6 ∧ wr.heap.size + 1 ≤ W6.heap.size ∧ Holds W6 (W.heap.size) 153 #[.int .i64 b.l0, .int .i64 b.h0, .int .i64 b.l1, .int .i64 b.h1, .int .i64 b.l2, .int .i64 b.h2, .int .i64 b.l3, .int .i64 b.h3] ∧ Holds W6 (wr.heap.size) 153 #[.int .i64 b.l0, .int .i64 b.h0, .int .i64 b.l1, .int .i64 b.h1, .int .i64 b.l2, .int .i64 b.h2, .int .i64 b.l3, .int .i64 b.h3] ∧ True) ?_ ?_
   ·exact ⟨zg, (by simp), zp0, zp0, trivial⟩
   rintro W6 ⟨hB6, hS6, Hb, Hl, -⟩
   rename_i Kc hKc
   refine wp_region_partsF (by kernel_rfl) 11 [20, 21, 22, 23, 24, 25, 26, 27, 28, 29, 30] (fun t v w' => match t with
    | 20 => v = .int .i64 3
    | 21 => v = .int .i64 3
    | 22 => v = .pointer (some ⟨W.heap.size, 6, none⟩)
    | 23 => v = .agg #[.int .i64 b.l3, .int .i64 b.h3]
    | 24 => v = .slice (some ⟨B, o, none⟩) (gs.length + 1) d
    | 25 => v = .pointer (some ⟨B, o, none⟩)
    | 26 => v = .agg #[.int .i64 g.corn, .int .i64 g.chaff, .int .i64 g.stones, .int .i64 g.damp, .int .i64 g.price]
    | 27 => v = .int .i64 3
    | 28 => v = .agg #[.int .i64 (g.damp + 1), .int .i64 (40)]
    | 29 => v = .agg #[.int .i64 (mLo b.l3 b.h3 (g.damp + 1) (40)), .int .i64 (mHi b.l3 b.h3 (g.damp + 1) (40))]
    | 30 => v = .pointer (some ⟨wr.heap.size, 6, none⟩)
    | _ => True) (by kernel_rfl) ?_ ?_ ?_
   ·intro t v w1 w2 hb' h
    revert h
    split <;> intro h <;> first
     | exact h
   ·refine ⟨?_, ?_, ?_, ?_, ?_, ?_, ?_, ?_, ?_, ?_, ?_, trivial⟩
    ·intro x w1 hb1 hx K hK
     clear hx hKc
     have Hb1 := Hb.up hb1
     have Hl1 := Hl.up hb1
     obtain ⟨kb0, kb1, kb2, kb3, kb4, kb5, kb6, kb7⟩ := Hb1.c8
     have g0 : w1.cell? ⟨B, o, none⟩ = some (.int .i64 g.corn) := up_cell hb1 (up_cell hB6 G0.out)
     have g1 : w1.cell? ⟨B, o + 1, none⟩ = some (.int .i64 g.chaff) := up_cell hb1 (up_cell hB6 G1.out)
     have g2 : w1.cell? ⟨B, o + 2, none⟩ = some (.int .i64 g.stones) := up_cell hb1 (up_cell hB6 G2.out)
     have g3 : w1.cell? ⟨B, o + 3, none⟩ = some (.int .i64 g.damp) := up_cell hb1 (up_cell hB6 G3.out)
     have g4 : w1.cell? ⟨B, o + 4, none⟩ = some (.int .i64 g.price) := up_cell hb1 (up_cell hB6 G4.out)
     simp only [frameOf, fill, sg, Nat.reduceBEq, if_true, if_false, Nat.reduceAdd, Nat.reduceEqDiff] at hK ⊢
     go_wp2_with (first | (go_at_call 150; refine (missing_3 g _ r0 r1 r2 r3 r4 r5 r6 r7).mono ?_; rintro e w2 ⟨rfl, hb2⟩) | (go_at_call 135; refine (meet_any _ _ _ _ _).mono ?_; rintro e w2 ⟨rfl, hb2⟩))
     exact hK _ _ (Below.refl _ _) rfl
    ·intro x w1 hb1 hx K hK
     clear hx hKc
     have Hb1 := Hb.up hb1
     have Hl1 := Hl.up hb1
     obtain ⟨kb0, kb1, kb2, kb3, kb4, kb5, kb6, kb7⟩ := Hb1.c8
     have g0 : w1.cell? ⟨B, o, none⟩ = some (.int .i64 g.corn) := up_cell hb1 (up_cell hB6 G0.out)
     have g1 : w1.cell? ⟨B, o + 1, none⟩ = some (.int .i64 g.chaff) := up_cell hb1 (up_cell hB6 G1.out)
     have g2 : w1.cell? ⟨B, o + 2, none⟩ = some (.int .i64 g.stones) := up_cell hb1 (up_cell hB6 G2.out)
     have g3 : w1.cell? ⟨B, o + 3, none⟩ = some (.int .i64 g.damp) := up_cell hb1 (up_cell hB6 G3.out)
     have g4 : w1.cell? ⟨B, o + 4, none⟩ = some (.int .i64 g.price) := up_cell hb1 (up_cell hB6 G4.out)
     simp only [frameOf, fill, sg, Nat.reduceBEq, if_true, if_false, Nat.reduceAdd, Nat.reduceEqDiff] at hK ⊢
     go_wp2_with (first | (go_at_call 150; refine (missing_3 g _ r0 r1 r2 r3 r4 r5 r6 r7).mono ?_; rintro e w2 ⟨rfl, hb2⟩) | (go_at_call 135; refine (meet_any _ _ _ _ _).mono ?_; rintro e w2 ⟨rfl, hb2⟩))
     exact hK _ _ (Below.refl _ _) rfl
    ·intro x w1 hb1 hx K hK
     have e21 : x 21 = .int .i64 3 := hx 21 (by rfl)
     clear hx hKc
     have Hb1 := Hb.up hb1
     have Hl1 := Hl.up hb1
     obtain ⟨kb0, kb1, kb2, kb3, kb4, kb5, kb6, kb7⟩ := Hb1.c8
     have g0 : w1.cell? ⟨B, o, none⟩ = some (.int .i64 g.corn) := up_cell hb1 (up_cell hB6 G0.out)
     have g1 : w1.cell? ⟨B, o + 1, none⟩ = some (.int .i64 g.chaff) := up_cell hb1 (up_cell hB6 G1.out)
     have g2 : w1.cell? ⟨B, o + 2, none⟩ = some (.int .i64 g.stones) := up_cell hb1 (up_cell hB6 G2.out)
     have g3 : w1.cell? ⟨B, o + 3, none⟩ = some (.int .i64 g.damp) := up_cell hb1 (up_cell hB6 G3.out)
     have g4 : w1.cell? ⟨B, o + 4, none⟩ = some (.int .i64 g.price) := up_cell hb1 (up_cell hB6 G4.out)
     simp only [frameOf, fill, sg, Nat.reduceBEq, if_true, if_false, Nat.reduceAdd, Nat.reduceEqDiff] at hK ⊢
     simp only [e21] at hK ⊢
     clear e21
     go_wp2_with (first | (go_at_call 150; refine (missing_3 g _ r0 r1 r2 r3 r4 r5 r6 r7).mono ?_; rintro e w2 ⟨rfl, hb2⟩) | (go_at_call 135; refine (meet_any _ _ _ _ _).mono ?_; rintro e w2 ⟨rfl, hb2⟩))
     exact hK _ _ (Below.refl _ _) rfl
    ·intro x w1 hb1 hx K hK
     have e22 : x 22 = .pointer (some ⟨W.heap.size, 6, none⟩) := hx 22 (by rfl)
     clear hx hKc
     have Hb1 := Hb.up hb1
     have Hl1 := Hl.up hb1
     obtain ⟨kb0, kb1, kb2, kb3, kb4, kb5, kb6, kb7⟩ := Hb1.c8
     have g0 : w1.cell? ⟨B, o, none⟩ = some (.int .i64 g.corn) := up_cell hb1 (up_cell hB6 G0.out)
     have g1 : w1.cell? ⟨B, o + 1, none⟩ = some (.int .i64 g.chaff) := up_cell hb1 (up_cell hB6 G1.out)
     have g2 : w1.cell? ⟨B, o + 2, none⟩ = some (.int .i64 g.stones) := up_cell hb1 (up_cell hB6 G2.out)
     have g3 : w1.cell? ⟨B, o + 3, none⟩ = some (.int .i64 g.damp) := up_cell hb1 (up_cell hB6 G3.out)
     have g4 : w1.cell? ⟨B, o + 4, none⟩ = some (.int .i64 g.price) := up_cell hb1 (up_cell hB6 G4.out)
     simp only [frameOf, fill, sg, Nat.reduceBEq, if_true, if_false, Nat.reduceAdd, Nat.reduceEqDiff] at hK ⊢
     simp only [e22] at hK ⊢
     clear e22
     go_wp2_with (first | (go_at_call 150; refine (missing_3 g _ r0 r1 r2 r3 r4 r5 r6 r7).mono ?_; rintro e w2 ⟨rfl, hb2⟩) | (go_at_call 135; refine (meet_any _ _ _ _ _).mono ?_; rintro e w2 ⟨rfl, hb2⟩))
     exact hK _ _ (Below.refl _ _) rfl
    ·intro x w1 hb1 hx K hK
     clear hx hKc
     have Hb1 := Hb.up hb1
     have Hl1 := Hl.up hb1
     obtain ⟨kb0, kb1, kb2, kb3, kb4, kb5, kb6, kb7⟩ := Hb1.c8
     have g0 : w1.cell? ⟨B, o, none⟩ = some (.int .i64 g.corn) := up_cell hb1 (up_cell hB6 G0.out)
     have g1 : w1.cell? ⟨B, o + 1, none⟩ = some (.int .i64 g.chaff) := up_cell hb1 (up_cell hB6 G1.out)
     have g2 : w1.cell? ⟨B, o + 2, none⟩ = some (.int .i64 g.stones) := up_cell hb1 (up_cell hB6 G2.out)
     have g3 : w1.cell? ⟨B, o + 3, none⟩ = some (.int .i64 g.damp) := up_cell hb1 (up_cell hB6 G3.out)
     have g4 : w1.cell? ⟨B, o + 4, none⟩ = some (.int .i64 g.price) := up_cell hb1 (up_cell hB6 G4.out)
     simp only [frameOf, fill, sg, Nat.reduceBEq, if_true, if_false, Nat.reduceAdd, Nat.reduceEqDiff] at hK ⊢
     go_wp2_with (first | (go_at_call 150; refine (missing_3 g _ r0 r1 r2 r3 r4 r5 r6 r7).mono ?_; rintro e w2 ⟨rfl, hb2⟩) | (go_at_call 135; refine (meet_any _ _ _ _ _).mono ?_; rintro e w2 ⟨rfl, hb2⟩))
     exact hK _ _ (Below.refl _ _) rfl
    ·intro x w1 hb1 hx K hK
     have e24 : x 24 = .slice (some ⟨B, o, none⟩) (gs.length + 1) d := hx 24 (by rfl)
     clear hx hKc
     have Hb1 := Hb.up hb1
     have Hl1 := Hl.up hb1
     obtain ⟨kb0, kb1, kb2, kb3, kb4, kb5, kb6, kb7⟩ := Hb1.c8
     have g0 : w1.cell? ⟨B, o, none⟩ = some (.int .i64 g.corn) := up_cell hb1 (up_cell hB6 G0.out)
     have g1 : w1.cell? ⟨B, o + 1, none⟩ = some (.int .i64 g.chaff) := up_cell hb1 (up_cell hB6 G1.out)
     have g2 : w1.cell? ⟨B, o + 2, none⟩ = some (.int .i64 g.stones) := up_cell hb1 (up_cell hB6 G2.out)
     have g3 : w1.cell? ⟨B, o + 3, none⟩ = some (.int .i64 g.damp) := up_cell hb1 (up_cell hB6 G3.out)
     have g4 : w1.cell? ⟨B, o + 4, none⟩ = some (.int .i64 g.price) := up_cell hb1 (up_cell hB6 G4.out)
     simp only [frameOf, fill, sg, Nat.reduceBEq, if_true, if_false, Nat.reduceAdd, Nat.reduceEqDiff] at hK ⊢
     simp only [e24] at hK ⊢
     clear e24
     go_wp2_with (first | (go_at_call 150; refine (missing_3 g _ r0 r1 r2 r3 r4 r5 r6 r7).mono ?_; rintro e w2 ⟨rfl, hb2⟩) | (go_at_call 135; refine (meet_any _ _ _ _ _).mono ?_; rintro e w2 ⟨rfl, hb2⟩))
     exact hK _ _ (Below.refl _ _) rfl
    ·intro x w1 hb1 hx K hK
     have e25 : x 25 = .pointer (some ⟨B, o, none⟩) := hx 25 (by rfl)
     clear hx hKc
     have Hb1 := Hb.up hb1
     have Hl1 := Hl.up hb1
     obtain ⟨kb0, kb1, kb2, kb3, kb4, kb5, kb6, kb7⟩ := Hb1.c8
     have g0 : w1.cell? ⟨B, o, none⟩ = some (.int .i64 g.corn) := up_cell hb1 (up_cell hB6 G0.out)
     have g1 : w1.cell? ⟨B, o + 1, none⟩ = some (.int .i64 g.chaff) := up_cell hb1 (up_cell hB6 G1.out)
     have g2 : w1.cell? ⟨B, o + 2, none⟩ = some (.int .i64 g.stones) := up_cell hb1 (up_cell hB6 G2.out)
     have g3 : w1.cell? ⟨B, o + 3, none⟩ = some (.int .i64 g.damp) := up_cell hb1 (up_cell hB6 G3.out)
     have g4 : w1.cell? ⟨B, o + 4, none⟩ = some (.int .i64 g.price) := up_cell hb1 (up_cell hB6 G4.out)
     simp only [frameOf, fill, sg, Nat.reduceBEq, if_true, if_false, Nat.reduceAdd, Nat.reduceEqDiff] at hK ⊢
     simp only [e25] at hK ⊢
     clear e25
     go_wp2_with (first | (go_at_call 150; refine (missing_3 g _ r0 r1 r2 r3 r4 r5 r6 r7).mono ?_; rintro e w2 ⟨rfl, hb2⟩) | (go_at_call 135; refine (meet_any _ _ _ _ _).mono ?_; rintro e w2 ⟨rfl, hb2⟩))
     exact hK _ _ (Below.refl _ _) rfl
    ·intro x w1 hb1 hx K hK
     clear hx hKc
     have Hb1 := Hb.up hb1
     have Hl1 := Hl.up hb1
     obtain ⟨kb0, kb1, kb2, kb3, kb4, kb5, kb6, kb7⟩ := Hb1.c8
     have g0 : w1.cell? ⟨B, o, none⟩ = some (.int .i64 g.corn) := up_cell hb1 (up_cell hB6 G0.out)
     have g1 : w1.cell? ⟨B, o + 1, none⟩ = some (.int .i64 g.chaff) := up_cell hb1 (up_cell hB6 G1.out)
     have g2 : w1.cell? ⟨B, o + 2, none⟩ = some (.int .i64 g.stones) := up_cell hb1 (up_cell hB6 G2.out)
     have g3 : w1.cell? ⟨B, o + 3, none⟩ = some (.int .i64 g.damp) := up_cell hb1 (up_cell hB6 G3.out)
     have g4 : w1.cell? ⟨B, o + 4, none⟩ = some (.int .i64 g.price) := up_cell hb1 (up_cell hB6 G4.out)
     simp only [frameOf, fill, sg, Nat.reduceBEq, if_true, if_false, Nat.reduceAdd, Nat.reduceEqDiff] at hK ⊢
     go_wp2_with (first | (go_at_call 150; refine (missing_3 g _ r0 r1 r2 r3 r4 r5 r6 r7).mono ?_; rintro e w2 ⟨rfl, hb2⟩) | (go_at_call 135; refine (meet_any _ _ _ _ _).mono ?_; rintro e w2 ⟨rfl, hb2⟩))
     exact hK _ _ (Below.refl _ _) rfl
    ·intro x w1 hb1 hx K hK
     have e26 : x 26 = .agg #[.int .i64 g.corn, .int .i64 g.chaff, .int .i64 g.stones, .int .i64 g.damp, .int .i64 g.price] := hx 26 (by rfl)
     have e27 : x 27 = .int .i64 3 := hx 27 (by rfl)
     clear hx hKc
     have Hb1 := Hb.up hb1
     have Hl1 := Hl.up hb1
     obtain ⟨kb0, kb1, kb2, kb3, kb4, kb5, kb6, kb7⟩ := Hb1.c8
     have g0 : w1.cell? ⟨B, o, none⟩ = some (.int .i64 g.corn) := up_cell hb1 (up_cell hB6 G0.out)
     have g1 : w1.cell? ⟨B, o + 1, none⟩ = some (.int .i64 g.chaff) := up_cell hb1 (up_cell hB6 G1.out)
     have g2 : w1.cell? ⟨B, o + 2, none⟩ = some (.int .i64 g.stones) := up_cell hb1 (up_cell hB6 G2.out)
     have g3 : w1.cell? ⟨B, o + 3, none⟩ = some (.int .i64 g.damp) := up_cell hb1 (up_cell hB6 G3.out)
     have g4 : w1.cell? ⟨B, o + 4, none⟩ = some (.int .i64 g.price) := up_cell hb1 (up_cell hB6 G4.out)
     simp only [frameOf, fill, sg, Nat.reduceBEq, if_true, if_false, Nat.reduceAdd, Nat.reduceEqDiff] at hK ⊢
     simp only [e26, e27] at hK ⊢
     clear e26 e27
     go_wp2_with (first | (go_at_call 150; refine (missing_3 g _ r0 r1 r2 r3 r4 r5 r6 r7).mono ?_; rintro e w2 ⟨rfl, hb2⟩) | (go_at_call 135; refine (meet_any _ _ _ _ _).mono ?_; rintro e w2 ⟨rfl, hb2⟩))
     exact hK _ _ hb2 rfl
    ·intro x w1 hb1 hx K hK
     have e23 : x 23 = .agg #[.int .i64 b.l3, .int .i64 b.h3] := hx 23 (by rfl)
     have e28 : x 28 = .agg #[.int .i64 (g.damp + 1), .int .i64 (40)] := hx 28 (by rfl)
     clear hx hKc
     have Hb1 := Hb.up hb1
     have Hl1 := Hl.up hb1
     obtain ⟨kb0, kb1, kb2, kb3, kb4, kb5, kb6, kb7⟩ := Hb1.c8
     have g0 : w1.cell? ⟨B, o, none⟩ = some (.int .i64 g.corn) := up_cell hb1 (up_cell hB6 G0.out)
     have g1 : w1.cell? ⟨B, o + 1, none⟩ = some (.int .i64 g.chaff) := up_cell hb1 (up_cell hB6 G1.out)
     have g2 : w1.cell? ⟨B, o + 2, none⟩ = some (.int .i64 g.stones) := up_cell hb1 (up_cell hB6 G2.out)
     have g3 : w1.cell? ⟨B, o + 3, none⟩ = some (.int .i64 g.damp) := up_cell hb1 (up_cell hB6 G3.out)
     have g4 : w1.cell? ⟨B, o + 4, none⟩ = some (.int .i64 g.price) := up_cell hb1 (up_cell hB6 G4.out)
     simp only [frameOf, fill, sg, Nat.reduceBEq, if_true, if_false, Nat.reduceAdd, Nat.reduceEqDiff] at hK ⊢
     simp only [e23, e28] at hK ⊢
     clear e23 e28
     go_wp2_with (first | (go_at_call 150; refine (missing_3 g _ r0 r1 r2 r3 r4 r5 r6 r7).mono ?_; rintro e w2 ⟨rfl, hb2⟩) | (go_at_call 135; refine (meet_any _ _ _ _ _).mono ?_; rintro e w2 ⟨rfl, hb2⟩))
     exact hK _ _ hb2 rfl
    ·intro x w1 hb1 hx K hK
     have e20 : x 20 = .int .i64 3 := hx 20 (by rfl)
     clear hx hKc
     have Hb1 := Hb.up hb1
     have Hl1 := Hl.up hb1
     obtain ⟨kb0, kb1, kb2, kb3, kb4, kb5, kb6, kb7⟩ := Hb1.c8
     have g0 : w1.cell? ⟨B, o, none⟩ = some (.int .i64 g.corn) := up_cell hb1 (up_cell hB6 G0.out)
     have g1 : w1.cell? ⟨B, o + 1, none⟩ = some (.int .i64 g.chaff) := up_cell hb1 (up_cell hB6 G1.out)
     have g2 : w1.cell? ⟨B, o + 2, none⟩ = some (.int .i64 g.stones) := up_cell hb1 (up_cell hB6 G2.out)
     have g3 : w1.cell? ⟨B, o + 3, none⟩ = some (.int .i64 g.damp) := up_cell hb1 (up_cell hB6 G3.out)
     have g4 : w1.cell? ⟨B, o + 4, none⟩ = some (.int .i64 g.price) := up_cell hb1 (up_cell hB6 G4.out)
     simp only [frameOf, fill, sg, Nat.reduceBEq, if_true, if_false, Nat.reduceAdd, Nat.reduceEqDiff] at hK ⊢
     simp only [e20] at hK ⊢
     clear e20
     go_wp2_with (first | (go_at_call 150; refine (missing_3 g _ r0 r1 r2 r3 r4 r5 r6 r7).mono ?_; rintro e w2 ⟨rfl, hb2⟩) | (go_at_call 135; refine (meet_any _ _ _ _ _).mono ?_; rintro e w2 ⟨rfl, hb2⟩))
     exact hK _ _ (Below.refl _ _) rfl
   ·intro x w1 hb1 hx
    have e20 : x 20 = .int .i64 3 := hx 20 (by decide)
    have e21 : x 21 = .int .i64 3 := hx 21 (by decide)
    have e22 : x 22 = .pointer (some ⟨W.heap.size, 6, none⟩) := hx 22 (by decide)
    have e23 : x 23 = .agg #[.int .i64 b.l3, .int .i64 b.h3] := hx 23 (by decide)
    have e24 : x 24 = .slice (some ⟨B, o, none⟩) (gs.length + 1) d := hx 24 (by decide)
    have e25 : x 25 = .pointer (some ⟨B, o, none⟩) := hx 25 (by decide)
    have e26 : x 26 = .agg #[.int .i64 g.corn, .int .i64 g.chaff, .int .i64 g.stones, .int .i64 g.damp, .int .i64 g.price] := hx 26 (by decide)
    have e27 : x 27 = .int .i64 3 := hx 27 (by decide)
    have e28 : x 28 = .agg #[.int .i64 (g.damp + 1), .int .i64 (40)] := hx 28 (by decide)
    have e29 : x 29 = .agg #[.int .i64 (mLo b.l3 b.h3 (g.damp + 1) (40)), .int .i64 (mHi b.l3 b.h3 (g.damp + 1) (40))] := hx 29 (by decide)
    have e30 : x 30 = .pointer (some ⟨wr.heap.size, 6, none⟩) := hx 30 (by decide)
    clear hx
    have Hb1 := Hb.up hb1
    have Hl1 := Hl.up hb1
    obtain ⟨kb0, kb1, kb2, kb3, kb4, kb5, kb6, kb7⟩ := Hb1.c8
    have g0 : w1.cell? ⟨B, o, none⟩ = some (.int .i64 g.corn) := up_cell hb1 (up_cell hB6 G0.out)
    have g1 : w1.cell? ⟨B, o + 1, none⟩ = some (.int .i64 g.chaff) := up_cell hb1 (up_cell hB6 G1.out)
    have g2 : w1.cell? ⟨B, o + 2, none⟩ = some (.int .i64 g.stones) := up_cell hb1 (up_cell hB6 G2.out)
    have g3 : w1.cell? ⟨B, o + 3, none⟩ = some (.int .i64 g.damp) := up_cell hb1 (up_cell hB6 G3.out)
    have g4 : w1.cell? ⟨B, o + 4, none⟩ = some (.int .i64 g.price) := up_cell hb1 (up_cell hB6 G4.out)
    simp only [frameOf, fill, List.contains_cons, List.contains_nil, Nat.reduceBEq, Bool.or_false, Bool.false_or, Bool.or_true, Bool.true_or, if_true, if_false, Bool.false_eq_true, Nat.reduceAdd, Nat.zero_add]
    simp only [e20, e21, e22, e23, e24, e25, e26, e27, e28, e29, e30]
    clear e20 e21 e22 e23 e24 e25 e26 e27 e28 e29 e30
    have hS1 := hb1.size
    have Hb2 := Hb.up hb1
    have Hl2 := Hl.up hb1
    have kl0 := Hl2.frozen 6
    have kl1 := Hl2.frozen 7
    have kl2 : w1.cell? ⟨wr.heap.size, 6, none⟩ = some (.int .i64 b.l3) := Hl2.cell 6
    have kl3 : w1.cell? ⟨wr.heap.size, 7, none⟩ = some (.int .i64 b.h3) := Hl2.cell 7
    have hBw1 : Below wr.heap.size wr w1 := hB6.trans (hb1.mono hB6.size)
    have hSw : wr.heap.size + 1 ≤ w1.heap.size := by omega
    clear hb1 hB6 hS6 Hb Hl
    go_wp2_with fail
    refine wp_world (fun W7 => Below wr.heap.size wr W7 ∧ wr.heap.size + 1 ≤ W7.heap.size ∧ Holds W7 (wr.heap.size) 153 #[.int .i64 b.l0, .int .i64 b.h0, .int .i64 b.l1, .int .i64 b.h1, .int .i64 b.l2, .int .i64 b.h2, .int .i64 (mLo b.l3 b.h3 (g.damp + 1) (40)), .int .i64 (mHi b.l3 b.h3 (g.damp + 1) (40))] ∧ True) ?_ ?_
    ·exact ⟨zg, (by simp; omega), (Hl2.set_ 6 _ |>.set_ 7 _), trivial⟩
    rintro W7 ⟨hB7, hS7, Hl, -⟩
    clear Hl2 Hb2 kl0 kl1 kl2 kl3 hBw1 hS1 hSw
    rename_i Kc hKc
    refine wp_region_partsF (by kernel_rfl) 4 [31, 32, 33, 34] (fun t v w' => match t with
     | 31 => v = .agg #[.int .i64 b.l0, .int .i64 b.h0, .int .i64 b.l1, .int .i64 b.h1, .int .i64 b.l2, .int .i64 b.h2, .int .i64 (mLo b.l3 b.h3 (g.damp + 1) (40)), .int .i64 (mHi b.l3 b.h3 (g.damp + 1) (40))]
     | 32 => v = .slice (some ⟨B, o, none⟩) (gs.length + 1) d
     | 33 => v = .slice G5 gs.length (d - 1)
     | 34 => v = .func (.yield l) #[] #[]
     | _ => True) (by kernel_rfl) ?_ ?_ ?_
    ·intro t v w1 w2 hb' h
     revert h
     split <;> intro h <;> first
      | exact h
    ·refine ⟨?_, ?_, ?_, ?_, trivial⟩
     ·intro x w1 hb1 hx K hK
      clear hx hKc
      have Hl2 := Hl.up hb1
      have kl0 : w1.cell? ⟨wr.heap.size, 0, none⟩ = some (.int .i64 b.l0) := Hl2.cell 0
      have kl1 : w1.cell? ⟨wr.heap.size, 1, none⟩ = some (.int .i64 b.h0) := Hl2.cell 1
      have kl2 : w1.cell? ⟨wr.heap.size, 2, none⟩ = some (.int .i64 b.l1) := Hl2.cell 2
      have kl3 : w1.cell? ⟨wr.heap.size, 3, none⟩ = some (.int .i64 b.h1) := Hl2.cell 3
      have kl4 : w1.cell? ⟨wr.heap.size, 4, none⟩ = some (.int .i64 b.l2) := Hl2.cell 4
      have kl5 : w1.cell? ⟨wr.heap.size, 5, none⟩ = some (.int .i64 b.h2) := Hl2.cell 5
      have kl6 : w1.cell? ⟨wr.heap.size, 6, none⟩ = some (.int .i64 (mLo b.l3 b.h3 (g.damp + 1) (40))) := Hl2.cell 6
      have kl7 : w1.cell? ⟨wr.heap.size, 7, none⟩ = some (.int .i64 (mHi b.l3 b.h3 (g.damp + 1) (40))) := Hl2.cell 7
      simp only [frameOf, fill, sg, Nat.reduceBEq, if_true, if_false, Nat.reduceAdd, Nat.reduceEqDiff] at hK ⊢
      go_wp2_with (fail)
      exact hK _ _ (Below.refl _ _) rfl
     ·intro x w1 hb1 hx K hK
      clear hx hKc
      have Hl2 := Hl.up hb1
      have kl0 : w1.cell? ⟨wr.heap.size, 0, none⟩ = some (.int .i64 b.l0) := Hl2.cell 0
      have kl1 : w1.cell? ⟨wr.heap.size, 1, none⟩ = some (.int .i64 b.h0) := Hl2.cell 1
      have kl2 : w1.cell? ⟨wr.heap.size, 2, none⟩ = some (.int .i64 b.l1) := Hl2.cell 2
      have kl3 : w1.cell? ⟨wr.heap.size, 3, none⟩ = some (.int .i64 b.h1) := Hl2.cell 3
      have kl4 : w1.cell? ⟨wr.heap.size, 4, none⟩ = some (.int .i64 b.l2) := Hl2.cell 4
      have kl5 : w1.cell? ⟨wr.heap.size, 5, none⟩ = some (.int .i64 b.h2) := Hl2.cell 5
      have kl6 : w1.cell? ⟨wr.heap.size, 6, none⟩ = some (.int .i64 (mLo b.l3 b.h3 (g.damp + 1) (40))) := Hl2.cell 6
      have kl7 : w1.cell? ⟨wr.heap.size, 7, none⟩ = some (.int .i64 (mHi b.l3 b.h3 (g.damp + 1) (40))) := Hl2.cell 7
      simp only [frameOf, fill, sg, Nat.reduceBEq, if_true, if_false, Nat.reduceAdd, Nat.reduceEqDiff] at hK ⊢
      go_wp2_with (fail)
      exact hK _ _ (Below.refl _ _) rfl
     ·intro x w1 hb1 hx K hK
      have e32 : x 32 = .slice (some ⟨B, o, none⟩) (gs.length + 1) d := hx 32 (by rfl)
      clear hx hKc
      have Hl2 := Hl.up hb1
      have kl0 : w1.cell? ⟨wr.heap.size, 0, none⟩ = some (.int .i64 b.l0) := Hl2.cell 0
      have kl1 : w1.cell? ⟨wr.heap.size, 1, none⟩ = some (.int .i64 b.h0) := Hl2.cell 1
      have kl2 : w1.cell? ⟨wr.heap.size, 2, none⟩ = some (.int .i64 b.l1) := Hl2.cell 2
      have kl3 : w1.cell? ⟨wr.heap.size, 3, none⟩ = some (.int .i64 b.h1) := Hl2.cell 3
      have kl4 : w1.cell? ⟨wr.heap.size, 4, none⟩ = some (.int .i64 b.l2) := Hl2.cell 4
      have kl5 : w1.cell? ⟨wr.heap.size, 5, none⟩ = some (.int .i64 b.h2) := Hl2.cell 5
      have kl6 : w1.cell? ⟨wr.heap.size, 6, none⟩ = some (.int .i64 (mLo b.l3 b.h3 (g.damp + 1) (40))) := Hl2.cell 6
      have kl7 : w1.cell? ⟨wr.heap.size, 7, none⟩ = some (.int .i64 (mHi b.l3 b.h3 (g.damp + 1) (40))) := Hl2.cell 7
      simp only [frameOf, fill, sg, Nat.reduceBEq, if_true, if_false, Nat.reduceAdd, Nat.reduceEqDiff] at hK ⊢
      simp only [e32] at hK ⊢
      clear e32
      go_wp2_with (fail)
      exact hK _ _ (Below.refl _ _) rfl
     ·intro x w1 hb1 hx K hK
      clear hx hKc
      have Hl2 := Hl.up hb1
      have kl0 : w1.cell? ⟨wr.heap.size, 0, none⟩ = some (.int .i64 b.l0) := Hl2.cell 0
      have kl1 : w1.cell? ⟨wr.heap.size, 1, none⟩ = some (.int .i64 b.h0) := Hl2.cell 1
      have kl2 : w1.cell? ⟨wr.heap.size, 2, none⟩ = some (.int .i64 b.l1) := Hl2.cell 2
      have kl3 : w1.cell? ⟨wr.heap.size, 3, none⟩ = some (.int .i64 b.h1) := Hl2.cell 3
      have kl4 : w1.cell? ⟨wr.heap.size, 4, none⟩ = some (.int .i64 b.l2) := Hl2.cell 4
      have kl5 : w1.cell? ⟨wr.heap.size, 5, none⟩ = some (.int .i64 b.h2) := Hl2.cell 5
      have kl6 : w1.cell? ⟨wr.heap.size, 6, none⟩ = some (.int .i64 (mLo b.l3 b.h3 (g.damp + 1) (40))) := Hl2.cell 6
      have kl7 : w1.cell? ⟨wr.heap.size, 7, none⟩ = some (.int .i64 (mHi b.l3 b.h3 (g.damp + 1) (40))) := Hl2.cell 7
      simp only [frameOf, fill, sg, Nat.reduceBEq, if_true, if_false, Nat.reduceAdd, Nat.reduceEqDiff] at hK ⊢
      go_wp2_with (fail)
      exact hK _ _ (Below.refl _ _) rfl
    ·intro x w1 hb1 hx
     have e31 : x 31 = .agg #[.int .i64 b.l0, .int .i64 b.h0, .int .i64 b.l1, .int .i64 b.h1, .int .i64 b.l2, .int .i64 b.h2, .int .i64 (mLo b.l3 b.h3 (g.damp + 1) (40)), .int .i64 (mHi b.l3 b.h3 (g.damp + 1) (40))] := hx 31 (by decide)
     have e32 : x 32 = .slice (some ⟨B, o, none⟩) (gs.length + 1) d := hx 32 (by decide)
     have e33 : x 33 = .slice G5 gs.length (d - 1) := hx 33 (by decide)
     have e34 : x 34 = .func (.yield l) #[] #[] := hx 34 (by decide)
     clear hx
     have Hl2 := Hl.up hb1
     have kl0 : w1.cell? ⟨wr.heap.size, 0, none⟩ = some (.int .i64 b.l0) := Hl2.cell 0
     have kl1 : w1.cell? ⟨wr.heap.size, 1, none⟩ = some (.int .i64 b.h0) := Hl2.cell 1
     have kl2 : w1.cell? ⟨wr.heap.size, 2, none⟩ = some (.int .i64 b.l1) := Hl2.cell 2
     have kl3 : w1.cell? ⟨wr.heap.size, 3, none⟩ = some (.int .i64 b.h1) := Hl2.cell 3
     have kl4 : w1.cell? ⟨wr.heap.size, 4, none⟩ = some (.int .i64 b.l2) := Hl2.cell 4
     have kl5 : w1.cell? ⟨wr.heap.size, 5, none⟩ = some (.int .i64 b.h2) := Hl2.cell 5
     have kl6 : w1.cell? ⟨wr.heap.size, 6, none⟩ = some (.int .i64 (mLo b.l3 b.h3 (g.damp + 1) (40))) := Hl2.cell 6
     have kl7 : w1.cell? ⟨wr.heap.size, 7, none⟩ = some (.int .i64 (mHi b.l3 b.h3 (g.damp + 1) (40))) := Hl2.cell 7
     simp only [frameOf, fill, List.contains_cons, List.contains_nil, Nat.reduceBEq, Bool.or_false, Bool.false_or, Bool.or_true, Bool.true_or, if_true, if_false, Bool.false_eq_true, Nat.reduceAdd, Nat.zero_add]
     simp only [e31, e32, e33, e34]
     clear e31 e32 e33 e34
     have hcall := Lib.hid (IH.out ⟨b.less3 g, ob.less3 g⟩ G5 (d - 1) (pre ++ doneO ⟨b, ob⟩ g gs 3) w1 (HT.out.ckept (HK.out.trans (CKept.of (hB7.trans (hb1.mono hB7.size))))) (by omega) (HJ.out _ _ _ HJr.out (hB7.trans (hb1.mono hB7.size))) (by have := HNN.out; simp only [missO, List.length_append, doneO, List.length_nil, List.append_assoc] at this ⊢; omega))
     go_wp2_with (go_at_call 148; refine hcall.out.mono ?_; rintro e w4 (⟨rfl, hj4, hk4⟩ | ⟨rfl, q, hq, hx4⟩))
     ·go_roundw
      case rel =>
       refine ⟨4, rfl, by omega, ?_, (HK.out.trans (CKept.of (hB7.trans (hb1.mono hB7.size)))).trans hk4, ((Hbr.out.up (hB7.trans (hb1.mono hB7.size)))).ckept hk4⟩
       simpa [doneO, List.append_assoc] using hj4
      case measure => simp [intOf]
     ·go_ret
      refine .inr ⟨rfl, doneO ⟨b, ob⟩ g gs 3 ++ q, done_pre3 hq, by simpa [List.append_assoc] using hx4⟩
  ·go_wp2_with fail
   go_ret
   exact .inl ⟨rfl, by rw [← doneO_all]; exact HJr.out, HK.out⟩
end Go.Proofs.Ytifffonoipapgaa
