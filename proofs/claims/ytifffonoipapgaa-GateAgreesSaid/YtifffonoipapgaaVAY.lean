
import Derived.Test.YtifffonoipapgaaVAA
import Derived.Test.YtifffonoipapgaaVAC
import Derived.Test.YtifffonoipapgaaVAE
import Derived.Test.YtifffonoipapgaaVAU
import Derived.Test.YtifffonoipapgaaVAX
set_option linter.unusedSimpArgs false
set_option linter.unusedVariables false
namespace Go.Proofs.Ytifffonoipapgaa
open Go.RowKit
def boxesO (b : OBx) (gs : List Gr) : Option Nat → List OBx
 | none => missO b gs
 | some i => missO ⟨b.1.meet ((gs[i]?).getD ⟨0, 0, 0, 0, 0⟩).limits, b.2.meet _⟩ (gs.take i)
theorem boxesO_map (b : OBx) (gs : List Gr) (i : Option Nat) : (boxesO b gs i).map (·.1) = boxesOf b.1 gs i := by
 cases i <;> exact missO_map _ _
def BPost (J Jx : List OBx → World → Prop) (xs : List OBx) (e : Ending) (W' : World) : Prop :=
 (∃ v, e = .returned v) ∧ ((∃ ys, ys = xs ∧ J ys W') ∨ (∃ pre, pre <+: xs ∧ Jx pre W'))
set_option maxRecDepth 100000 in
set_option maxHeartbeats 4000000 in
theorem boxes1_none (l N : Nat) (J Jx : List OBx → World → Prop) (hJ : AbidesNew J) (hY : Rounds l N J Jx) (Bc Bg : Nat) (err miss full empty : Int) (G A : Option Addr) (d c : Nat) (gs : List Gr) (hs : List Hf) (W : World) (hc : Holds W Bc 147 #[.int .i64 full, .int .i64 empty, .slice A hs.length c, .int .i64 err, .int .i64 miss, .slice G gs.length d, .func (.func 99) #[.agg #[.int .i64 full, .int .i64 empty, .slice A hs.length c]] #[]]) (hG : GradesAt W G gs) (hgl : gs.length ≤ 4) (hgd : gs.length ≤ d) (hgr : ∀ g ∈ gs, g.right = true) (hA : HandsAt W A hs) (hl : hs.length ≤ 6) (m0 : 0 ≤ miss) (m1 : miss ≤ 20) (ht : ∀ x ∈ hs, x.taken = true) (hn : ∀ x ∈ hs, x.enough = true) (h0 : J [] W) (hg : Holds W Bg 3 #[.int .i64 (-1)]) (hN : (boxesO ⟨(boundsOf miss (fun _ => true) hs), bounds_ok miss _ hs⟩ gs none).length ≤ N) :
  Calls Try.prog 147 #[.func (.yield l) #[] #[], .pointer (some ⟨Bc, 0, none⟩), .pointer (some ⟨Bg, 0, none⟩)] W (BPost J Jx (boxesO ⟨(boundsOf miss (fun _ => true) hs), bounds_ok miss _ hs⟩ gs none)) := by
 have kc : W.cell? ⟨Bc, 0, none⟩ = some (.int .i64 full) ∧ W.cell? ⟨Bc, 1, none⟩ = some (.int .i64 empty) ∧ W.cell? ⟨Bc, 2, none⟩ = some (.slice A hs.length c) ∧ W.cell? ⟨Bc, 3, none⟩ = some (.int .i64 err) ∧ W.cell? ⟨Bc, 4, none⟩ = some (.int .i64 miss) ∧ W.cell? ⟨Bc, 5, none⟩ = some (.slice G gs.length d) ∧ W.cell? ⟨Bc, 6, none⟩ = some (.func (.func 99) #[.agg #[.int .i64 full, .int .i64 empty, .slice A hs.length c]] #[]) := ⟨hc.cell 0, hc.cell 1, hc.cell 2, hc.cell 3, hc.cell 4, hc.cell 5, hc.cell 6⟩
 obtain ⟨c0, c1, c2, c3, c4, c5, c6⟩ := kc
 have hlt := hc.lt
 have hltg := hg.lt
 have HJ := Lib.hid hJ
 have HY := Lib.hid hY
 have H0 := Lib.hid h0
 have HG := Lib.hid hG
 have HA := Lib.hid hA
 have HT := Lib.hid ht
 have HN := Lib.hid hn
 have HC := Lib.hid hc
 have HR := Lib.hid hgr
 have c8 : W.cell? ⟨Bg, 0, none⟩ = some (.int .i64 (-1)) := hg.cell 0
 have HGB := Lib.hid hg
 clear hJ hY h0 hG hA ht hn hc hg hgr
 go_enter Try.func147, Try.ntmps147
 go_wp2_with fail
 rename_i Kc hKc
 have HSL := Lib.hid (show slotsOf [some 6, some 7, some 8, some 9, some 10, some 4, none, some 5] = [6, 7, 8, 9, 10, 4, 5] from rfl)
 refine wp_region_partsG (by kernel_rfl) [some 6, some 7, some 8, some 9, some 10, some 4, none, some 5] (fun jq xq w' => match jq with
  | 0 => xq 6 = .agg #[.int .i64 full, .int .i64 empty, .slice A hs.length c, .int .i64 err, .int .i64 miss, .slice G gs.length d, .func (.func 99) #[.agg #[.int .i64 full, .int .i64 empty, .slice A hs.length c]] #[]]
  | 1 => xq 7 = .agg #[.int .i64 (boundsOf miss (fun _ => true) hs).l0, .int .i64 (boundsOf miss (fun _ => true) hs).h0, .int .i64 (boundsOf miss (fun _ => true) hs).l1, .int .i64 (boundsOf miss (fun _ => true) hs).h1, .int .i64 (boundsOf miss (fun _ => true) hs).l2, .int .i64 (boundsOf miss (fun _ => true) hs).h2, .int .i64 (boundsOf miss (fun _ => true) hs).l3, .int .i64 (boundsOf miss (fun _ => true) hs).h3]
  | 2 => xq 8 = .pointer (some ⟨Bc, 3, none⟩)
  | 3 => xq 9 = .pointer (some ⟨Bc, 5, none⟩)
  | 4 => xq 10 = .slice G gs.length d
  | 5 => ∃ B, xq 4 = .pointer (some ⟨B, 0, none⟩) ∧ W.heap.size ≤ B ∧ Holds w' B 153 #[.int .i64 0, .int .i64 0, .int .i64 0, .int .i64 0, .int .i64 0, .int .i64 0, .int .i64 0, .int .i64 0]
  | 6 => ∃ B, xq 4 = .pointer (some ⟨B, 0, none⟩) ∧ W.heap.size ≤ B ∧ Holds w' B 153 #[.int .i64 (boundsOf miss (fun _ => true) hs).l0, .int .i64 (boundsOf miss (fun _ => true) hs).h0, .int .i64 (boundsOf miss (fun _ => true) hs).l1, .int .i64 (boundsOf miss (fun _ => true) hs).h1, .int .i64 (boundsOf miss (fun _ => true) hs).l2, .int .i64 (boundsOf miss (fun _ => true) hs).h2, .int .i64 (boundsOf miss (fun _ => true) hs).l3, .int .i64 (boundsOf miss (fun _ => true) hs).h3]
  | 7 => xq 5 = .slice G gs.length d
  | _ => True) [[6], [7], [8], [9], [10], [4], [4], [5]] [(6, 5)] (Below W.heap.size W) (by kernel_rfl) ?_ ?_ (fun w w' hb h => h.trans (hb.mono h.size)) (Below.refl _ _) ?_ ?_ ?_
 ·intro jq xq xq' wq h hv
  match jq, h, hv with
  | 0, h, hv => show xq' 6 = .agg #[.int .i64 full, .int .i64 empty, .slice A hs.length c, .int .i64 err, .int .i64 miss, .slice G gs.length d, .func (.func 99) #[.agg #[.int .i64 full, .int .i64 empty, .slice A hs.length c]] #[]]; rw [← h 6 (by decide)]; exact hv
  | 1, h, hv => show xq' 7 = .agg #[.int .i64 (boundsOf miss (fun _ => true) hs).l0, .int .i64 (boundsOf miss (fun _ => true) hs).h0, .int .i64 (boundsOf miss (fun _ => true) hs).l1, .int .i64 (boundsOf miss (fun _ => true) hs).h1, .int .i64 (boundsOf miss (fun _ => true) hs).l2, .int .i64 (boundsOf miss (fun _ => true) hs).h2, .int .i64 (boundsOf miss (fun _ => true) hs).l3, .int .i64 (boundsOf miss (fun _ => true) hs).h3]; rw [← h 7 (by decide)]; exact hv
  | 2, h, hv => show xq' 8 = .pointer (some ⟨Bc, 3, none⟩); rw [← h 8 (by decide)]; exact hv
  | 3, h, hv => show xq' 9 = .pointer (some ⟨Bc, 5, none⟩); rw [← h 9 (by decide)]; exact hv
  | 4, h, hv => show xq' 10 = .slice G gs.length d; rw [← h 10 (by decide)]; exact hv
  | 5, h, hv => show ∃ B, xq' 4 = .pointer (some ⟨B, 0, none⟩) ∧ W.heap.size ≤ B ∧ Holds wq B 153 #[.int .i64 0, .int .i64 0, .int .i64 0, .int .i64 0, .int .i64 0, .int .i64 0, .int .i64 0, .int .i64 0]; rw [← h 4 (by decide)]; exact hv
  | 6, h, hv => show ∃ B, xq' 4 = .pointer (some ⟨B, 0, none⟩) ∧ W.heap.size ≤ B ∧ Holds wq B 153 #[.int .i64 (boundsOf miss (fun _ => true) hs).l0, .int .i64 (boundsOf miss (fun _ => true) hs).h0, .int .i64 (boundsOf miss (fun _ => true) hs).l1, .int .i64 (boundsOf miss (fun _ => true) hs).h1, .int .i64 (boundsOf miss (fun _ => true) hs).l2, .int .i64 (boundsOf miss (fun _ => true) hs).h2, .int .i64 (boundsOf miss (fun _ => true) hs).l3, .int .i64 (boundsOf miss (fun _ => true) hs).h3]; rw [← h 4 (by decide)]; exact hv
  | 7, h, hv => show xq' 5 = .slice G gs.length d; rw [← h 5 (by decide)]; exact hv
  | _ + 8, _, _ => trivial
 ·intro jq xq wq w' hb' hv
  match jq, hv with
  | 0, hv => exact hv
  | 1, hv => exact hv
  | 2, hv => exact hv
  | 3, hv => exact hv
  | 4, hv => exact hv
  | 5, ⟨b0, h0, h1, h2⟩ => exact ⟨b0, h0, h1, h2.up hb'⟩
  | 6, ⟨b0, h0, h1, h2⟩ => exact ⟨b0, h0, h1, h2.up hb'⟩
  | 7, hv => exact hv
  | _ + 8, _ => trivial
 ·intro jq hj
  match jq, hj with
  | 0, hj => exact absurd hj (by decide)
  | 1, hj => exact absurd hj (by decide)
  | 2, hj => exact absurd hj (by decide)
  | 3, hj => exact absurd hj (by decide)
  | 4, hj => exact absurd hj (by decide)
  | 5, hj => exact absurd hj (by decide)
  | 6, hj => exact absurd hj (by decide)
  | 7, hj => exact absurd hj (by decide)
  | _ + 8, _ => trivial
 ·refine ⟨?_, ?_, ?_, ?_, ?_, ?_, ?_, ?_, trivial⟩
  ·intro xq w1 hb1 hx K hK0
   have hK := fun v w' hb => hK0 v w' (.inl hb)
   clear hx hKc hK0
   have HC1 := HC.out.up hb1
   obtain ⟨k0, k1, k2, k3, k4, k5, k6⟩ := HC1.c7
   simp only [frameOf, fill, setSlot, sg, Nat.reduceBEq, if_true, if_false, Nat.reduceAdd, Nat.reduceEqDiff, HSL.out] at hK ⊢
   go_wp2_with (go_at_call 104; refine (bounds_hand full empty err miss A c hs (.slice G gs.length d) _ (HA.out.up hb1) (by omega) m0 m1 HT.out HN.out).mono ?_; rintro e w2 ⟨rfl, hb2⟩)
   exact hK _ _ (Below.refl _ _) rfl
  ·intro xq w1 hb1 hx K hK0
   have hK := fun v w' hb => hK0 v w' (.inl hb)
   have e6 : xq 6 = .agg #[.int .i64 full, .int .i64 empty, .slice A hs.length c, .int .i64 err, .int .i64 miss, .slice G gs.length d, .func (.func 99) #[.agg #[.int .i64 full, .int .i64 empty, .slice A hs.length c]] #[]] := hx 0 (by rfl) (by rfl)
   clear hx hKc hK0
   have HC1 := HC.out.up hb1
   obtain ⟨k0, k1, k2, k3, k4, k5, k6⟩ := HC1.c7
   simp only [frameOf, fill, setSlot, sg, Nat.reduceBEq, if_true, if_false, Nat.reduceAdd, Nat.reduceEqDiff, HSL.out] at hK ⊢
   simp only [e6] at hK ⊢
   clear e6
   go_wp2_with (go_at_call 104; refine (bounds_hand full empty err miss A c hs (.slice G gs.length d) _ (HA.out.up hb1) (by omega) m0 m1 HT.out HN.out).mono ?_; rintro e w2 ⟨rfl, hb2⟩)
   exact hK _ _ hb2 rfl
  ·intro xq w1 hb1 hx K hK0
   have hK := fun v w' hb => hK0 v w' (.inl hb)
   clear hx hKc hK0
   have HC1 := HC.out.up hb1
   obtain ⟨k0, k1, k2, k3, k4, k5, k6⟩ := HC1.c7
   simp only [frameOf, fill, setSlot, sg, Nat.reduceBEq, if_true, if_false, Nat.reduceAdd, Nat.reduceEqDiff, HSL.out] at hK ⊢
   go_wp2_with (go_at_call 104; refine (bounds_hand full empty err miss A c hs (.slice G gs.length d) _ (HA.out.up hb1) (by omega) m0 m1 HT.out HN.out).mono ?_; rintro e w2 ⟨rfl, hb2⟩)
   exact hK _ _ (Below.refl _ _) rfl
  ·intro xq w1 hb1 hx K hK0
   have hK := fun v w' hb => hK0 v w' (.inl hb)
   have e8 : xq 8 = .pointer (some ⟨Bc, 3, none⟩) := hx 2 (by rfl) (by rfl)
   clear hx hKc hK0
   have HC1 := HC.out.up hb1
   obtain ⟨k0, k1, k2, k3, k4, k5, k6⟩ := HC1.c7
   simp only [frameOf, fill, setSlot, sg, Nat.reduceBEq, if_true, if_false, Nat.reduceAdd, Nat.reduceEqDiff, HSL.out] at hK ⊢
   simp only [e8] at hK ⊢
   clear e8
   go_wp2_with (go_at_call 104; refine (bounds_hand full empty err miss A c hs (.slice G gs.length d) _ (HA.out.up hb1) (by omega) m0 m1 HT.out HN.out).mono ?_; rintro e w2 ⟨rfl, hb2⟩)
   exact hK _ _ (Below.refl _ _) rfl
  ·intro xq w1 hb1 hx K hK0
   have hK := fun v w' hb => hK0 v w' (.inl hb)
   have e9 : xq 9 = .pointer (some ⟨Bc, 5, none⟩) := hx 3 (by rfl) (by rfl)
   clear hx hKc hK0
   have HC1 := HC.out.up hb1
   obtain ⟨k0, k1, k2, k3, k4, k5, k6⟩ := HC1.c7
   simp only [frameOf, fill, setSlot, sg, Nat.reduceBEq, if_true, if_false, Nat.reduceAdd, Nat.reduceEqDiff, HSL.out] at hK ⊢
   simp only [e9] at hK ⊢
   clear e9
   go_wp2_with (go_at_call 104; refine (bounds_hand full empty err miss A c hs (.slice G gs.length d) _ (HA.out.up hb1) (by omega) m0 m1 HT.out HN.out).mono ?_; rintro e w2 ⟨rfl, hb2⟩)
   exact hK _ _ (Below.refl _ _) rfl
  ·intro xq w1 hb1 hx K hK0
   have hK := fun v w' hb => hK0 v w' (.inl hb)
   clear hx hKc hK0
   have HC1 := HC.out.up hb1
   obtain ⟨k0, k1, k2, k3, k4, k5, k6⟩ := HC1.c7
   simp only [frameOf, fill, setSlot, sg, Nat.reduceBEq, if_true, if_false, Nat.reduceAdd, Nat.reduceEqDiff, HSL.out] at hK ⊢
   go_wp2_with (go_at_call 104; refine (bounds_hand full empty err miss A c hs (.slice G gs.length d) _ (HA.out.up hb1) (by omega) m0 m1 HT.out HN.out).mono ?_; rintro e w2 ⟨rfl, hb2⟩)
   exact hK _ _ ((Below.refl _ _).alloc (Nat.le_refl _) _) ⟨_, rfl, hb1.size, Holds.new _ _ _⟩
  ·intro xq w1 hb1 hx K hK0
   have hK := fun v w' hb => hK0 v w' (.inr hb)
   have e7 : xq 7 = .agg #[.int .i64 (boundsOf miss (fun _ => true) hs).l0, .int .i64 (boundsOf miss (fun _ => true) hs).h0, .int .i64 (boundsOf miss (fun _ => true) hs).l1, .int .i64 (boundsOf miss (fun _ => true) hs).h1, .int .i64 (boundsOf miss (fun _ => true) hs).l2, .int .i64 (boundsOf miss (fun _ => true) hs).h2, .int .i64 (boundsOf miss (fun _ => true) hs).l3, .int .i64 (boundsOf miss (fun _ => true) hs).h3] := hx 1 (by rfl) (by rfl)
   obtain ⟨B4, e4, f4_0, f4_1⟩ := hx 5 (by rfl) (by rfl)
   clear hx hKc hK0
   have HC1 := HC.out.up hb1
   obtain ⟨k0, k1, k2, k3, k4, k5, k6⟩ := HC1.c7
   obtain ⟨q0, q1, q2, q3, q4, q5, q6, q7⟩ := f4_1.c8
   obtain ⟨y0, y1, y2, y3, y4, y5, y6, y7⟩ := f4_1.f8
   simp only [frameOf, fill, setSlot, sg, Nat.reduceBEq, if_true, if_false, Nat.reduceAdd, Nat.reduceEqDiff, HSL.out] at hK ⊢
   have E7 := Lib.hid e7
   have E4 := Lib.hid e4
   simp only [e7, e4] at hK ⊢
   clear e7 e4
   go_wp2_with (go_at_call 104; refine (bounds_hand full empty err miss A c hs (.slice G gs.length d) _ (HA.out.up hb1) (by omega) m0 m1 HT.out HN.out).mono ?_; rintro e w2 ⟨rfl, hb2⟩)
   refine hK undef _ ⟨zg, ?_⟩ ⟨B4, rfl, f4_0, zp0⟩
   intro jq xq hd hne hv
   match jq, hd, hne, hv with
   | 0, _, _, hv => exact hv
   | 1, _, _, hv => exact hv
   | 2, _, _, hv => exact hv
   | 3, _, _, hv => exact hv
   | 4, _, _, hv => exact hv
   | 5, hd, _, _ => exact absurd hd (by decide)
   | 6, _, hne, _ => exact absurd rfl hne
   | 7, _, _, hv => exact hv
   | _ + 8, _, _, _ => trivial
  ·intro xq w1 hb1 hx K hK0
   have hK := fun v w' hb => hK0 v w' (.inl hb)
   have e10 : xq 10 = .slice G gs.length d := hx 4 (by rfl) (by rfl)
   clear hx hKc hK0
   have HC1 := HC.out.up hb1
   obtain ⟨k0, k1, k2, k3, k4, k5, k6⟩ := HC1.c7
   simp only [frameOf, fill, setSlot, sg, Nat.reduceBEq, if_true, if_false, Nat.reduceAdd, Nat.reduceEqDiff, HSL.out] at hK ⊢
   simp only [e10] at hK ⊢
   clear e10
   go_wp2_with (go_at_call 104; refine (bounds_hand full empty err miss A c hs (.slice G gs.length d) _ (HA.out.up hb1) (by omega) m0 m1 HT.out HN.out).mono ?_; rintro e w2 ⟨rfl, hb2⟩)
   exact hK _ _ (Below.refl _ _) rfl
 ·intro xq w1 hb1 hx
  have e6 : xq 6 = .agg #[.int .i64 full, .int .i64 empty, .slice A hs.length c, .int .i64 err, .int .i64 miss, .slice G gs.length d, .func (.func 99) #[.agg #[.int .i64 full, .int .i64 empty, .slice A hs.length c]] #[]] := hx 0 (by decide)
  have e7 : xq 7 = .agg #[.int .i64 (boundsOf miss (fun _ => true) hs).l0, .int .i64 (boundsOf miss (fun _ => true) hs).h0, .int .i64 (boundsOf miss (fun _ => true) hs).l1, .int .i64 (boundsOf miss (fun _ => true) hs).h1, .int .i64 (boundsOf miss (fun _ => true) hs).l2, .int .i64 (boundsOf miss (fun _ => true) hs).h2, .int .i64 (boundsOf miss (fun _ => true) hs).l3, .int .i64 (boundsOf miss (fun _ => true) hs).h3] := hx 1 (by decide)
  have e8 : xq 8 = .pointer (some ⟨Bc, 3, none⟩) := hx 2 (by decide)
  have e9 : xq 9 = .pointer (some ⟨Bc, 5, none⟩) := hx 3 (by decide)
  have e10 : xq 10 = .slice G gs.length d := hx 4 (by decide)
  obtain ⟨Bn6, fn6_0, fn6_1, fn6_2⟩ := hx 6 (by decide)
  have e5 : xq 5 = .slice G gs.length d := hx 7 (by decide)
  clear hx
  have HC1 := HC.out.up hb1
  obtain ⟨k0, k1, k2, k3, k4, k5, k6⟩ := HC1.c7
  simp only [frameOf, fill, setSlot, sg, Nat.reduceBEq, if_true, if_false, Nat.reduceAdd, Nat.reduceEqDiff, HSL.out]
  simp only [e6, e7, e8, e9, e10, fn6_0, e5]
  clear e6 e7 e8 e9 e10 fn6_0 e5
  refine hKc _ _ ?_
  have u0 : w1.cell? ⟨Bn6, 0, none⟩ = some (.int .i64 (boundsOf miss (fun _ => true) hs).l0) := fn6_2.cell 0
  have u1 : w1.cell? ⟨Bn6, 1, none⟩ = some (.int .i64 (boundsOf miss (fun _ => true) hs).h0) := fn6_2.cell 1
  have u2 : w1.cell? ⟨Bn6, 2, none⟩ = some (.int .i64 (boundsOf miss (fun _ => true) hs).l1) := fn6_2.cell 2
  have u3 : w1.cell? ⟨Bn6, 3, none⟩ = some (.int .i64 (boundsOf miss (fun _ => true) hs).h1) := fn6_2.cell 3
  have u4 : w1.cell? ⟨Bn6, 4, none⟩ = some (.int .i64 (boundsOf miss (fun _ => true) hs).l2) := fn6_2.cell 4
  have u5 : w1.cell? ⟨Bn6, 5, none⟩ = some (.int .i64 (boundsOf miss (fun _ => true) hs).h2) := fn6_2.cell 5
  have u6 : w1.cell? ⟨Bn6, 6, none⟩ = some (.int .i64 (boundsOf miss (fun _ => true) hs).l3) := fn6_2.cell 6
  have u7 : w1.cell? ⟨Bn6, 7, none⟩ = some (.int .i64 (boundsOf miss (fun _ => true) hs).h3) := fn6_2.cell 7
  have k8 : w1.cell? ⟨Bg, 0, none⟩ = some _ := (HGB.out.up hb1).cell 0
  have hym := Lib.hid (ym_any l N J Jx HJ.out HY.out gs HR.out (by omega) ⟨(boundsOf miss (fun _ => true) hs), bounds_ok miss _ hs⟩ G d [] w1 (HG.out.up hb1) hgd (HJ.out _ _ _ H0.out hb1) (by simpa [boxesO] using hN))
  go_wp2_with (go_at_call 148; refine hym.out.mono ?_; rintro e w4 (⟨rfl, hj4, hk4⟩ | ⟨rfl, q, hq, hx4⟩))
  ·go_end0
   exact ⟨⟨_, rfl⟩, .inl ⟨_, rfl, by simpa [boxesO] using hj4⟩⟩
  ·go_end0
   exact ⟨⟨_, rfl⟩, .inr ⟨q, hq, by simpa using hx4⟩⟩
theorem GradesAt.take {w : World} {A : Option Addr} {gs : List Gr} (h : GradesAt w A gs) (i : Nat) : GradesAt w A (gs.take i) := fun hn => by
 obtain ⟨B, o, e, hc⟩ := h (by rw [List.length_take] at hn; omega)
 refine ⟨B, o, e, fun k x hx => hc k x ?_⟩
 rw [List.getElem?_take] at hx
 split at hx
 ·exact hx
 ·cases hx
theorem head_grades (B o n i d : Nat) (hi : i ≤ d) (w : World) : (Instr.slice 22 (.slice (some ⟨B, o, none⟩) n d) none (some (.int .i64 (i : Int))) none).run Try.prog w = .ok (.slice (some ⟨B, o, none⟩) i d) w := by
 have h1 : (Instr.sliceBound (.int .i64 (i : Int)) d .sliceAcap).run Try.prog w = .ok i w := by simp [Instr.sliceBound, asIntOf, hi]
 simp only [Instr.slice, Sem.run_bind, run_underlying und_grades, Result.andThen, Instr.sliceBounds, Option.isSome_none, Bool.false_eq_true, if_false, if_true, h1, Sem.run_pure, size_grade]
 simp [Addr.add]
set_option maxRecDepth 100000 in
set_option maxHeartbeats 4000000 in
theorem boxes1_some (l N : Nat) (J Jx : List OBx → World → Prop) (hJ : AbidesNew J) (hY : Rounds l N J Jx) (Bc Bg : Nat) (err miss full empty : Int) (B o i : Nat) (gi : Gr) (A : Option Addr) (d c : Nat) (gs : List Gr) (hs : List Hf) (W : World) (hc : Holds W Bc 147 #[.int .i64 full, .int .i64 empty, .slice A hs.length c, .int .i64 err, .int .i64 miss, .slice (some ⟨B, o, none⟩) gs.length d, .func (.func 99) #[.agg #[.int .i64 full, .int .i64 empty, .slice A hs.length c]] #[]]) (hG : GradesAt W (some ⟨B, o, none⟩) gs) (hgl : gs.length ≤ 4) (hgd : gs.length ≤ d) (hgr : ∀ g ∈ gs, g.right = true) (hA : HandsAt W A hs) (hl : hs.length ≤ 6) (m0 : 0 ≤ miss) (m1 : miss ≤ 20) (ht : ∀ x ∈ hs, x.taken = true) (hn : ∀ x ∈ hs, x.enough = true) (h0 : J [] W) (hi : i < gs.length) (hgi : gs[i]? = some gi) (hg : Holds W Bg 3 #[.int .i64 (i : Int)]) (hNN : (boxesO ⟨(boundsOf miss (fun _ => true) hs), bounds_ok miss _ hs⟩ gs (some i)).length ≤ N) :
  Calls Try.prog 147 #[.func (.yield l) #[] #[], .pointer (some ⟨Bc, 0, none⟩), .pointer (some ⟨Bg, 0, none⟩)] W (BPost J Jx (boxesO ⟨(boundsOf miss (fun _ => true) hs), bounds_ok miss _ hs⟩ gs (some i))) := by
 have hE : missO ⟨(boundsOf miss (fun _ => true) hs).meet gi.limits, (bounds_ok miss _ hs).meet _⟩ (gs.take i) = (boxesO ⟨(boundsOf miss (fun _ => true) hs), bounds_ok miss _ hs⟩ gs (some i)) := by simp [boxesO, hgi]
 have HE := Lib.hid hE
 have HNN : Hid (([] : List OBx).length + (missO ⟨(boundsOf miss (fun _ => true) hs).meet gi.limits, (bounds_ok miss _ hs).meet _⟩ (gs.take i)).length ≤ N) := Lib.hid (by have := hNN; rw [← hE] at this; simpa using this)
 have hcell : W.cell? ⟨B, o + i * 5, none⟩ = some (.int .i64 gi.corn) ∧ W.cell? ⟨B, o + i * 5 + 1, none⟩ = some (.int .i64 gi.chaff) ∧ W.cell? ⟨B, o + i * 5 + 2, none⟩ = some (.int .i64 gi.stones) ∧ W.cell? ⟨B, o + i * 5 + 3, none⟩ = some (.int .i64 gi.damp) ∧ W.cell? ⟨B, o + i * 5 + 4, none⟩ = some (.int .i64 gi.price) := by
  obtain ⟨B', o', e, h⟩ := hG (by omega)
  cases e
  exact h i gi hgi
 obtain ⟨x0, x1, x2, x3, x4⟩ := hcell
 have G0 := Lib.hid x0
 have G1 := Lib.hid x1
 have G2 := Lib.hid x2
 have G3 := Lib.hid x3
 have G4 := Lib.hid x4
 have hsl := head_grades B o gs.length i d (by omega)
 have hne : ((i : Int) == -1) = false := by first | (simp; done) | (simp; omega)
 have hne2 : ((i : Int) != -1) = true := by first | (simp; done) | (simp; omega)
 clear hE x0 x1 x2 x3 x4 hNN hgi
 have kc : W.cell? ⟨Bc, 0, none⟩ = some (.int .i64 full) ∧ W.cell? ⟨Bc, 1, none⟩ = some (.int .i64 empty) ∧ W.cell? ⟨Bc, 2, none⟩ = some (.slice A hs.length c) ∧ W.cell? ⟨Bc, 3, none⟩ = some (.int .i64 err) ∧ W.cell? ⟨Bc, 4, none⟩ = some (.int .i64 miss) ∧ W.cell? ⟨Bc, 5, none⟩ = some (.slice (some ⟨B, o, none⟩) gs.length d) ∧ W.cell? ⟨Bc, 6, none⟩ = some (.func (.func 99) #[.agg #[.int .i64 full, .int .i64 empty, .slice A hs.length c]] #[]) := ⟨hc.cell 0, hc.cell 1, hc.cell 2, hc.cell 3, hc.cell 4, hc.cell 5, hc.cell 6⟩
 obtain ⟨c0, c1, c2, c3, c4, c5, c6⟩ := kc
 have hlt := hc.lt
 have hltg := hg.lt
 have HJ := Lib.hid hJ
 have HY := Lib.hid hY
 have H0 := Lib.hid h0
 have HG := Lib.hid hG
 have HA := Lib.hid hA
 have HT := Lib.hid ht
 have HN := Lib.hid hn
 have HC := Lib.hid hc
 have HR := Lib.hid hgr
 have c8 : W.cell? ⟨Bg, 0, none⟩ = some (.int .i64 (i : Int)) := hg.cell 0
 have HGB := Lib.hid hg
 clear hJ hY h0 hG hA ht hn hc hg hgr
 go_enter Try.func147, Try.ntmps147
 go_wp2_with fail
 rename_i Kc hKc
 have HSL := Lib.hid (show slotsOf [some 6, some 7, some 8, some 9, some 10, some 4, none, some 5] = [6, 7, 8, 9, 10, 4, 5] from rfl)
 refine wp_region_partsG (by kernel_rfl) [some 6, some 7, some 8, some 9, some 10, some 4, none, some 5] (fun jq xq w' => match jq with
  | 0 => xq 6 = .agg #[.int .i64 full, .int .i64 empty, .slice A hs.length c, .int .i64 err, .int .i64 miss, .slice (some ⟨B, o, none⟩) gs.length d, .func (.func 99) #[.agg #[.int .i64 full, .int .i64 empty, .slice A hs.length c]] #[]]
  | 1 => xq 7 = .agg #[.int .i64 (boundsOf miss (fun _ => true) hs).l0, .int .i64 (boundsOf miss (fun _ => true) hs).h0, .int .i64 (boundsOf miss (fun _ => true) hs).l1, .int .i64 (boundsOf miss (fun _ => true) hs).h1, .int .i64 (boundsOf miss (fun _ => true) hs).l2, .int .i64 (boundsOf miss (fun _ => true) hs).h2, .int .i64 (boundsOf miss (fun _ => true) hs).l3, .int .i64 (boundsOf miss (fun _ => true) hs).h3]
  | 2 => xq 8 = .pointer (some ⟨Bc, 3, none⟩)
  | 3 => xq 9 = .pointer (some ⟨Bc, 5, none⟩)
  | 4 => xq 10 = .slice (some ⟨B, o, none⟩) gs.length d
  | 5 => ∃ B, xq 4 = .pointer (some ⟨B, 0, none⟩) ∧ W.heap.size ≤ B ∧ Holds w' B 153 #[.int .i64 0, .int .i64 0, .int .i64 0, .int .i64 0, .int .i64 0, .int .i64 0, .int .i64 0, .int .i64 0]
  | 6 => ∃ B, xq 4 = .pointer (some ⟨B, 0, none⟩) ∧ W.heap.size ≤ B ∧ Holds w' B 153 #[.int .i64 (boundsOf miss (fun _ => true) hs).l0, .int .i64 (boundsOf miss (fun _ => true) hs).h0, .int .i64 (boundsOf miss (fun _ => true) hs).l1, .int .i64 (boundsOf miss (fun _ => true) hs).h1, .int .i64 (boundsOf miss (fun _ => true) hs).l2, .int .i64 (boundsOf miss (fun _ => true) hs).h2, .int .i64 (boundsOf miss (fun _ => true) hs).l3, .int .i64 (boundsOf miss (fun _ => true) hs).h3]
  | 7 => xq 5 = .slice (some ⟨B, o, none⟩) gs.length d
  | _ => True) [[6], [7], [8], [9], [10], [4], [4], [5]] [(6, 5)] (Below W.heap.size W) (by kernel_rfl) ?_ ?_ (fun w w' hb h => h.trans (hb.mono h.size)) (Below.refl _ _) ?_ ?_ ?_
 ·intro jq xq xq' wq h hv
  match jq, h, hv with
  | 0, h, hv => show xq' 6 = .agg #[.int .i64 full, .int .i64 empty, .slice A hs.length c, .int .i64 err, .int .i64 miss, .slice (some ⟨B, o, none⟩) gs.length d, .func (.func 99) #[.agg #[.int .i64 full, .int .i64 empty, .slice A hs.length c]] #[]]; rw [← h 6 (by decide)]; exact hv
  | 1, h, hv => show xq' 7 = .agg #[.int .i64 (boundsOf miss (fun _ => true) hs).l0, .int .i64 (boundsOf miss (fun _ => true) hs).h0, .int .i64 (boundsOf miss (fun _ => true) hs).l1, .int .i64 (boundsOf miss (fun _ => true) hs).h1, .int .i64 (boundsOf miss (fun _ => true) hs).l2, .int .i64 (boundsOf miss (fun _ => true) hs).h2, .int .i64 (boundsOf miss (fun _ => true) hs).l3, .int .i64 (boundsOf miss (fun _ => true) hs).h3]; rw [← h 7 (by decide)]; exact hv
  | 2, h, hv => show xq' 8 = .pointer (some ⟨Bc, 3, none⟩); rw [← h 8 (by decide)]; exact hv
  | 3, h, hv => show xq' 9 = .pointer (some ⟨Bc, 5, none⟩); rw [← h 9 (by decide)]; exact hv
  | 4, h, hv => show xq' 10 = .slice (some ⟨B, o, none⟩) gs.length d; rw [← h 10 (by decide)]; exact hv
  | 5, h, hv => show ∃ B, xq' 4 = .pointer (some ⟨B, 0, none⟩) ∧ W.heap.size ≤ B ∧ Holds wq B 153 #[.int .i64 0, .int .i64 0, .int .i64 0, .int .i64 0, .int .i64 0, .int .i64 0, .int .i64 0, .int .i64 0]; rw [← h 4 (by decide)]; exact hv
  | 6, h, hv => show ∃ B, xq' 4 = .pointer (some ⟨B, 0, none⟩) ∧ W.heap.size ≤ B ∧ Holds wq B 153 #[.int .i64 (boundsOf miss (fun _ => true) hs).l0, .int .i64 (boundsOf miss (fun _ => true) hs).h0, .int .i64 (boundsOf miss (fun _ => true) hs).l1, .int .i64 (boundsOf miss (fun _ => true) hs).h1, .int .i64 (boundsOf miss (fun _ => true) hs).l2, .int .i64 (boundsOf miss (fun _ => true) hs).h2, .int .i64 (boundsOf miss (fun _ => true) hs).l3, .int .i64 (boundsOf miss (fun _ => true) hs).h3]; rw [← h 4 (by decide)]; exact hv
  | 7, h, hv => show xq' 5 = .slice (some ⟨B, o, none⟩) gs.length d; rw [← h 5 (by decide)]; exact hv
  | _ + 8, _, _ => trivial
 ·intro jq xq wq w' hb' hv
  match jq, hv with
  | 0, hv => exact hv
  | 1, hv => exact hv
  | 2, hv => exact hv
  | 3, hv => exact hv
  | 4, hv => exact hv
  | 5, ⟨b0, h0, h1, h2⟩ => exact ⟨b0, h0, h1, h2.up hb'⟩
  | 6, ⟨b0, h0, h1, h2⟩ => exact ⟨b0, h0, h1, h2.up hb'⟩
  | 7, hv => exact hv
  | _ + 8, _ => trivial
 ·intro jq hj
  match jq, hj with
  | 0, hj => exact absurd hj (by decide)
  | 1, hj => exact absurd hj (by decide)
  | 2, hj => exact absurd hj (by decide)
  | 3, hj => exact absurd hj (by decide)
  | 4, hj => exact absurd hj (by decide)
  | 5, hj => exact absurd hj (by decide)
  | 6, hj => exact absurd hj (by decide)
  | 7, hj => exact absurd hj (by decide)
  | _ + 8, _ => trivial
 ·refine ⟨?_, ?_, ?_, ?_, ?_, ?_, ?_, ?_, trivial⟩
  ·intro xq w1 hb1 hx K hK0
   have hK := fun v w' hb => hK0 v w' (.inl hb)
   clear hx hKc hK0
   have HC1 := HC.out.up hb1
   obtain ⟨k0, k1, k2, k3, k4, k5, k6⟩ := HC1.c7
   simp only [frameOf, fill, setSlot, sg, Nat.reduceBEq, if_true, if_false, Nat.reduceAdd, Nat.reduceEqDiff, HSL.out] at hK ⊢
   go_wp2_with (go_at_call 104; refine (bounds_hand full empty err miss A c hs (.slice (some ⟨B, o, none⟩) gs.length d) _ (HA.out.up hb1) (by omega) m0 m1 HT.out HN.out).mono ?_; rintro e w2 ⟨rfl, hb2⟩)
   exact hK _ _ (Below.refl _ _) rfl
  ·intro xq w1 hb1 hx K hK0
   have hK := fun v w' hb => hK0 v w' (.inl hb)
   have e6 : xq 6 = .agg #[.int .i64 full, .int .i64 empty, .slice A hs.length c, .int .i64 err, .int .i64 miss, .slice (some ⟨B, o, none⟩) gs.length d, .func (.func 99) #[.agg #[.int .i64 full, .int .i64 empty, .slice A hs.length c]] #[]] := hx 0 (by rfl) (by rfl)
   clear hx hKc hK0
   have HC1 := HC.out.up hb1
   obtain ⟨k0, k1, k2, k3, k4, k5, k6⟩ := HC1.c7
   simp only [frameOf, fill, setSlot, sg, Nat.reduceBEq, if_true, if_false, Nat.reduceAdd, Nat.reduceEqDiff, HSL.out] at hK ⊢
   simp only [e6] at hK ⊢
   clear e6
   go_wp2_with (go_at_call 104; refine (bounds_hand full empty err miss A c hs (.slice (some ⟨B, o, none⟩) gs.length d) _ (HA.out.up hb1) (by omega) m0 m1 HT.out HN.out).mono ?_; rintro e w2 ⟨rfl, hb2⟩)
   exact hK _ _ hb2 rfl
  ·intro xq w1 hb1 hx K hK0
   have hK := fun v w' hb => hK0 v w' (.inl hb)
   clear hx hKc hK0
   have HC1 := HC.out.up hb1
   obtain ⟨k0, k1, k2, k3, k4, k5, k6⟩ := HC1.c7
   simp only [frameOf, fill, setSlot, sg, Nat.reduceBEq, if_true, if_false, Nat.reduceAdd, Nat.reduceEqDiff, HSL.out] at hK ⊢
   go_wp2_with (go_at_call 104; refine (bounds_hand full empty err miss A c hs (.slice (some ⟨B, o, none⟩) gs.length d) _ (HA.out.up hb1) (by omega) m0 m1 HT.out HN.out).mono ?_; rintro e w2 ⟨rfl, hb2⟩)
   exact hK _ _ (Below.refl _ _) rfl
  ·intro xq w1 hb1 hx K hK0
   have hK := fun v w' hb => hK0 v w' (.inl hb)
   have e8 : xq 8 = .pointer (some ⟨Bc, 3, none⟩) := hx 2 (by rfl) (by rfl)
   clear hx hKc hK0
   have HC1 := HC.out.up hb1
   obtain ⟨k0, k1, k2, k3, k4, k5, k6⟩ := HC1.c7
   simp only [frameOf, fill, setSlot, sg, Nat.reduceBEq, if_true, if_false, Nat.reduceAdd, Nat.reduceEqDiff, HSL.out] at hK ⊢
   simp only [e8] at hK ⊢
   clear e8
   go_wp2_with (go_at_call 104; refine (bounds_hand full empty err miss A c hs (.slice (some ⟨B, o, none⟩) gs.length d) _ (HA.out.up hb1) (by omega) m0 m1 HT.out HN.out).mono ?_; rintro e w2 ⟨rfl, hb2⟩)
   exact hK _ _ (Below.refl _ _) rfl
  ·intro xq w1 hb1 hx K hK0
   have hK := fun v w' hb => hK0 v w' (.inl hb)
   have e9 : xq 9 = .pointer (some ⟨Bc, 5, none⟩) := hx 3 (by rfl) (by rfl)
   clear hx hKc hK0
   have HC1 := HC.out.up hb1
   obtain ⟨k0, k1, k2, k3, k4, k5, k6⟩ := HC1.c7
   simp only [frameOf, fill, setSlot, sg, Nat.reduceBEq, if_true, if_false, Nat.reduceAdd, Nat.reduceEqDiff, HSL.out] at hK ⊢
   simp only [e9] at hK ⊢
   clear e9
   go_wp2_with (go_at_call 104; refine (bounds_hand full empty err miss A c hs (.slice (some ⟨B, o, none⟩) gs.length d) _ (HA.out.up hb1) (by omega) m0 m1 HT.out HN.out).mono ?_; rintro e w2 ⟨rfl, hb2⟩)
   exact hK _ _ (Below.refl _ _) rfl
  ·intro xq w1 hb1 hx K hK0
   have hK := fun v w' hb => hK0 v w' (.inl hb)
   clear hx hKc hK0
   have HC1 := HC.out.up hb1
   obtain ⟨k0, k1, k2, k3, k4, k5, k6⟩ := HC1.c7
   simp only [frameOf, fill, setSlot, sg, Nat.reduceBEq, if_true, if_false, Nat.reduceAdd, Nat.reduceEqDiff, HSL.out] at hK ⊢
   go_wp2_with (go_at_call 104; refine (bounds_hand full empty err miss A c hs (.slice (some ⟨B, o, none⟩) gs.length d) _ (HA.out.up hb1) (by omega) m0 m1 HT.out HN.out).mono ?_; rintro e w2 ⟨rfl, hb2⟩)
   exact hK _ _ ((Below.refl _ _).alloc (Nat.le_refl _) _) ⟨_, rfl, hb1.size, Holds.new _ _ _⟩
  ·intro xq w1 hb1 hx K hK0
   have hK := fun v w' hb => hK0 v w' (.inr hb)
   have e7 : xq 7 = .agg #[.int .i64 (boundsOf miss (fun _ => true) hs).l0, .int .i64 (boundsOf miss (fun _ => true) hs).h0, .int .i64 (boundsOf miss (fun _ => true) hs).l1, .int .i64 (boundsOf miss (fun _ => true) hs).h1, .int .i64 (boundsOf miss (fun _ => true) hs).l2, .int .i64 (boundsOf miss (fun _ => true) hs).h2, .int .i64 (boundsOf miss (fun _ => true) hs).l3, .int .i64 (boundsOf miss (fun _ => true) hs).h3] := hx 1 (by rfl) (by rfl)
   obtain ⟨B4, e4, f4_0, f4_1⟩ := hx 5 (by rfl) (by rfl)
   clear hx hKc hK0
   have HC1 := HC.out.up hb1
   obtain ⟨k0, k1, k2, k3, k4, k5, k6⟩ := HC1.c7
   obtain ⟨q0, q1, q2, q3, q4, q5, q6, q7⟩ := f4_1.c8
   obtain ⟨y0, y1, y2, y3, y4, y5, y6, y7⟩ := f4_1.f8
   simp only [frameOf, fill, setSlot, sg, Nat.reduceBEq, if_true, if_false, Nat.reduceAdd, Nat.reduceEqDiff, HSL.out] at hK ⊢
   have E7 := Lib.hid e7
   have E4 := Lib.hid e4
   simp only [e7, e4] at hK ⊢
   clear e7 e4
   go_wp2_with (go_at_call 104; refine (bounds_hand full empty err miss A c hs (.slice (some ⟨B, o, none⟩) gs.length d) _ (HA.out.up hb1) (by omega) m0 m1 HT.out HN.out).mono ?_; rintro e w2 ⟨rfl, hb2⟩)
   refine hK undef _ ⟨zg, ?_⟩ ⟨B4, rfl, f4_0, zp0⟩
   intro jq xq hd hne hv
   match jq, hd, hne, hv with
   | 0, _, _, hv => exact hv
   | 1, _, _, hv => exact hv
   | 2, _, _, hv => exact hv
   | 3, _, _, hv => exact hv
   | 4, _, _, hv => exact hv
   | 5, hd, _, _ => exact absurd hd (by decide)
   | 6, _, hne, _ => exact absurd rfl hne
   | 7, _, _, hv => exact hv
   | _ + 8, _, _, _ => trivial
  ·intro xq w1 hb1 hx K hK0
   have hK := fun v w' hb => hK0 v w' (.inl hb)
   have e10 : xq 10 = .slice (some ⟨B, o, none⟩) gs.length d := hx 4 (by rfl) (by rfl)
   clear hx hKc hK0
   have HC1 := HC.out.up hb1
   obtain ⟨k0, k1, k2, k3, k4, k5, k6⟩ := HC1.c7
   simp only [frameOf, fill, setSlot, sg, Nat.reduceBEq, if_true, if_false, Nat.reduceAdd, Nat.reduceEqDiff, HSL.out] at hK ⊢
   simp only [e10] at hK ⊢
   clear e10
   go_wp2_with (go_at_call 104; refine (bounds_hand full empty err miss A c hs (.slice (some ⟨B, o, none⟩) gs.length d) _ (HA.out.up hb1) (by omega) m0 m1 HT.out HN.out).mono ?_; rintro e w2 ⟨rfl, hb2⟩)
   exact hK _ _ (Below.refl _ _) rfl
 ·intro xq w1 hb1 hx
  have e6 : xq 6 = .agg #[.int .i64 full, .int .i64 empty, .slice A hs.length c, .int .i64 err, .int .i64 miss, .slice (some ⟨B, o, none⟩) gs.length d, .func (.func 99) #[.agg #[.int .i64 full, .int .i64 empty, .slice A hs.length c]] #[]] := hx 0 (by decide)
  have e7 : xq 7 = .agg #[.int .i64 (boundsOf miss (fun _ => true) hs).l0, .int .i64 (boundsOf miss (fun _ => true) hs).h0, .int .i64 (boundsOf miss (fun _ => true) hs).l1, .int .i64 (boundsOf miss (fun _ => true) hs).h1, .int .i64 (boundsOf miss (fun _ => true) hs).l2, .int .i64 (boundsOf miss (fun _ => true) hs).h2, .int .i64 (boundsOf miss (fun _ => true) hs).l3, .int .i64 (boundsOf miss (fun _ => true) hs).h3] := hx 1 (by decide)
  have e8 : xq 8 = .pointer (some ⟨Bc, 3, none⟩) := hx 2 (by decide)
  have e9 : xq 9 = .pointer (some ⟨Bc, 5, none⟩) := hx 3 (by decide)
  have e10 : xq 10 = .slice (some ⟨B, o, none⟩) gs.length d := hx 4 (by decide)
  obtain ⟨Bn6, fn6_0, fn6_1, fn6_2⟩ := hx 6 (by decide)
  have e5 : xq 5 = .slice (some ⟨B, o, none⟩) gs.length d := hx 7 (by decide)
  clear hx
  have HC1 := HC.out.up hb1
  obtain ⟨k0, k1, k2, k3, k4, k5, k6⟩ := HC1.c7
  simp only [frameOf, fill, setSlot, sg, Nat.reduceBEq, if_true, if_false, Nat.reduceAdd, Nat.reduceEqDiff, HSL.out]
  simp only [e6, e7, e8, e9, e10, fn6_0, e5]
  clear e6 e7 e8 e9 e10 fn6_0 e5
  refine hKc _ _ ?_
  have k8 : w1.cell? ⟨Bg, 0, none⟩ = some (.int .i64 (i : Int)) := (HGB.out.up hb1).cell 0
  go_wp2_with fail
  rename_i Kc hKc
  have HSL := Lib.hid (show slotsOf [some 13, some 14, some 15, some 16, some 17, some 18, some 19, some 20, some 21, some 22, none, some 5] = [13, 14, 15, 16, 17, 18, 19, 20, 21, 22, 5] from rfl)
  refine wp_region_partsG (by kernel_rfl) [some 13, some 14, some 15, some 16, some 17, some 18, some 19, some 20, some 21, some 22, none, some 5] (fun jq xq w' => match jq with
   | 0 => xq 13 = .agg #[.int .i64 (boundsOf miss (fun _ => true) hs).l0, .int .i64 (boundsOf miss (fun _ => true) hs).h0, .int .i64 (boundsOf miss (fun _ => true) hs).l1, .int .i64 (boundsOf miss (fun _ => true) hs).h1, .int .i64 (boundsOf miss (fun _ => true) hs).l2, .int .i64 (boundsOf miss (fun _ => true) hs).h2, .int .i64 (boundsOf miss (fun _ => true) hs).l3, .int .i64 (boundsOf miss (fun _ => true) hs).h3]
   | 1 => xq 14 = .slice (some ⟨B, o, none⟩) gs.length d
   | 2 => xq 15 = .int .i64 (i : Int)
   | 3 => xq 16 = .pointer (some ⟨B, o + i * 5, none⟩)
   | 4 => xq 17 = .agg #[.int .i64 gi.corn, .int .i64 gi.chaff, .int .i64 gi.stones, .int .i64 gi.damp, .int .i64 gi.price]
   | 5 => xq 18 = .agg #[.int .i64 gi.corn, .int .i64 40, .int .i64 0, .int .i64 gi.chaff, .int .i64 0, .int .i64 gi.stones, .int .i64 0, .int .i64 gi.damp]
   | 6 => xq 19 = .agg #[.int .i64 ((boundsOf miss (fun _ => true) hs).meet gi.limits).l0, .int .i64 ((boundsOf miss (fun _ => true) hs).meet gi.limits).h0, .int .i64 ((boundsOf miss (fun _ => true) hs).meet gi.limits).l1, .int .i64 ((boundsOf miss (fun _ => true) hs).meet gi.limits).h1, .int .i64 ((boundsOf miss (fun _ => true) hs).meet gi.limits).l2, .int .i64 ((boundsOf miss (fun _ => true) hs).meet gi.limits).h2, .int .i64 ((boundsOf miss (fun _ => true) hs).meet gi.limits).l3, .int .i64 ((boundsOf miss (fun _ => true) hs).meet gi.limits).h3]
   | 7 => xq 20 = .slice (some ⟨B, o, none⟩) gs.length d
   | 8 => xq 21 = .int .i64 (i : Int)
   | 9 => xq 22 = .slice (some ⟨B, o, none⟩) i d
   | 10 => Holds w' Bn6 153 #[.int .i64 ((boundsOf miss (fun _ => true) hs).meet gi.limits).l0, .int .i64 ((boundsOf miss (fun _ => true) hs).meet gi.limits).h0, .int .i64 ((boundsOf miss (fun _ => true) hs).meet gi.limits).l1, .int .i64 ((boundsOf miss (fun _ => true) hs).meet gi.limits).h1, .int .i64 ((boundsOf miss (fun _ => true) hs).meet gi.limits).l2, .int .i64 ((boundsOf miss (fun _ => true) hs).meet gi.limits).h2, .int .i64 ((boundsOf miss (fun _ => true) hs).meet gi.limits).l3, .int .i64 ((boundsOf miss (fun _ => true) hs).meet gi.limits).h3]
   | 11 => xq 5 = .slice (some ⟨B, o, none⟩) i d
   | 12 => Holds w' Bn6 153 #[.int .i64 (boundsOf miss (fun _ => true) hs).l0, .int .i64 (boundsOf miss (fun _ => true) hs).h0, .int .i64 (boundsOf miss (fun _ => true) hs).l1, .int .i64 (boundsOf miss (fun _ => true) hs).h1, .int .i64 (boundsOf miss (fun _ => true) hs).l2, .int .i64 (boundsOf miss (fun _ => true) hs).h2, .int .i64 (boundsOf miss (fun _ => true) hs).l3, .int .i64 (boundsOf miss (fun _ => true) hs).h3]
   | 13 => xq 5 = .slice (some ⟨B, o, none⟩) gs.length d
   | _ => True) [[13], [14], [15], [16], [17], [18], [19], [20], [21], [22], [], [5], [], [5]] [(10, 12), (11, 13)] (Below W.heap.size W) (by kernel_rfl) ?_ ?_ (fun w w' hb h => h.trans (hb.mono h.size)) (hb1) ?_ ?_ ?_
  ·intro jq xq xq' wq h hv
   match jq, h, hv with
   | 0, h, hv => show xq' 13 = .agg #[.int .i64 (boundsOf miss (fun _ => true) hs).l0, .int .i64 (boundsOf miss (fun _ => true) hs).h0, .int .i64 (boundsOf miss (fun _ => true) hs).l1, .int .i64 (boundsOf miss (fun _ => true) hs).h1, .int .i64 (boundsOf miss (fun _ => true) hs).l2, .int .i64 (boundsOf miss (fun _ => true) hs).h2, .int .i64 (boundsOf miss (fun _ => true) hs).l3, .int .i64 (boundsOf miss (fun _ => true) hs).h3]; rw [← h 13 (by decide)]; exact hv
   | 1, h, hv => show xq' 14 = .slice (some ⟨B, o, none⟩) gs.length d; rw [← h 14 (by decide)]; exact hv
   | 2, h, hv => show xq' 15 = .int .i64 (i : Int); rw [← h 15 (by decide)]; exact hv
   | 3, h, hv => show xq' 16 = .pointer (some ⟨B, o + i * 5, none⟩); rw [← h 16 (by decide)]; exact hv
   | 4, h, hv => show xq' 17 = .agg #[.int .i64 gi.corn, .int .i64 gi.chaff, .int .i64 gi.stones, .int .i64 gi.damp, .int .i64 gi.price]; rw [← h 17 (by decide)]; exact hv
   | 5, h, hv => show xq' 18 = .agg #[.int .i64 gi.corn, .int .i64 40, .int .i64 0, .int .i64 gi.chaff, .int .i64 0, .int .i64 gi.stones, .int .i64 0, .int .i64 gi.damp]; rw [← h 18 (by decide)]; exact hv
   | 6, h, hv => show xq' 19 = .agg #[.int .i64 ((boundsOf miss (fun _ => true) hs).meet gi.limits).l0, .int .i64 ((boundsOf miss (fun _ => true) hs).meet gi.limits).h0, .int .i64 ((boundsOf miss (fun _ => true) hs).meet gi.limits).l1, .int .i64 ((boundsOf miss (fun _ => true) hs).meet gi.limits).h1, .int .i64 ((boundsOf miss (fun _ => true) hs).meet gi.limits).l2, .int .i64 ((boundsOf miss (fun _ => true) hs).meet gi.limits).h2, .int .i64 ((boundsOf miss (fun _ => true) hs).meet gi.limits).l3, .int .i64 ((boundsOf miss (fun _ => true) hs).meet gi.limits).h3]; rw [← h 19 (by decide)]; exact hv
   | 7, h, hv => show xq' 20 = .slice (some ⟨B, o, none⟩) gs.length d; rw [← h 20 (by decide)]; exact hv
   | 8, h, hv => show xq' 21 = .int .i64 (i : Int); rw [← h 21 (by decide)]; exact hv
   | 9, h, hv => show xq' 22 = .slice (some ⟨B, o, none⟩) i d; rw [← h 22 (by decide)]; exact hv
   | 10, h, hv => exact hv
   | 11, h, hv => show xq' 5 = .slice (some ⟨B, o, none⟩) i d; rw [← h 5 (by decide)]; exact hv
   | 12, h, hv => exact hv
   | 13, h, hv => show xq' 5 = .slice (some ⟨B, o, none⟩) gs.length d; rw [← h 5 (by decide)]; exact hv
   | _ + 14, _, _ => trivial
  ·intro jq xq wq w' hb' hv
   match jq, hv with
   | 0, hv => exact hv
   | 1, hv => exact hv
   | 2, hv => exact hv
   | 3, hv => exact hv
   | 4, hv => exact hv
   | 5, hv => exact hv
   | 6, hv => exact hv
   | 7, hv => exact hv
   | 8, hv => exact hv
   | 9, hv => exact hv
   | 10, h0 => exact h0.up hb'
   | 11, hv => exact hv
   | 12, h0 => exact h0.up hb'
   | 13, h0 => exact h0
   | _ + 14, _ => trivial
  ·intro jq hj
   match jq, hj with
   | 0, hj => exact absurd hj (by decide)
   | 1, hj => exact absurd hj (by decide)
   | 2, hj => exact absurd hj (by decide)
   | 3, hj => exact absurd hj (by decide)
   | 4, hj => exact absurd hj (by decide)
   | 5, hj => exact absurd hj (by decide)
   | 6, hj => exact absurd hj (by decide)
   | 7, hj => exact absurd hj (by decide)
   | 8, hj => exact absurd hj (by decide)
   | 9, hj => exact absurd hj (by decide)
   | 10, hj => exact absurd hj (by decide)
   | 11, hj => exact absurd hj (by decide)
   | 12, _ => exact fn6_2
   | 13, _ => exact rfl
   | _ + 14, _ => trivial
  ·refine ⟨?_, ?_, ?_, ?_, ?_, ?_, ?_, ?_, ?_, ?_, ?_, ?_, trivial⟩
   ·intro xq w1 hb1 hx K hK0
    have hK := fun v w' hb => hK0 v w' (.inl hb)
    have fib_0 : Holds w1 Bn6 153 #[.int .i64 (boundsOf miss (fun _ => true) hs).l0, .int .i64 (boundsOf miss (fun _ => true) hs).h0, .int .i64 (boundsOf miss (fun _ => true) hs).l1, .int .i64 (boundsOf miss (fun _ => true) hs).h1, .int .i64 (boundsOf miss (fun _ => true) hs).l2, .int .i64 (boundsOf miss (fun _ => true) hs).h2, .int .i64 (boundsOf miss (fun _ => true) hs).l3, .int .i64 (boundsOf miss (fun _ => true) hs).h3] := hx 12 (by rfl) (by rfl)
    clear hx hKc hK0
    have k8 : w1.cell? ⟨Bg, 0, none⟩ = some (.int .i64 (i : Int)) := (HGB.out.up hb1).cell 0
    have g0 : w1.cell? ⟨B, o + i * 5, none⟩ = some (.int .i64 gi.corn) := up_cell hb1 G0.out
    have g1 : w1.cell? ⟨B, o + i * 5 + 1, none⟩ = some (.int .i64 gi.chaff) := up_cell hb1 G1.out
    have g2 : w1.cell? ⟨B, o + i * 5 + 2, none⟩ = some (.int .i64 gi.stones) := up_cell hb1 G2.out
    have g3 : w1.cell? ⟨B, o + i * 5 + 3, none⟩ = some (.int .i64 gi.damp) := up_cell hb1 G3.out
    have g4 : w1.cell? ⟨B, o + i * 5 + 4, none⟩ = some (.int .i64 gi.price) := up_cell hb1 G4.out
    have p0 : w1.cell? ⟨Bn6, 0, none⟩ = some (.int .i64 (boundsOf miss (fun _ => true) hs).l0) := fib_0.cell 0
    have p1 : w1.cell? ⟨Bn6, 1, none⟩ = some (.int .i64 (boundsOf miss (fun _ => true) hs).h0) := fib_0.cell 1
    have p2 : w1.cell? ⟨Bn6, 2, none⟩ = some (.int .i64 (boundsOf miss (fun _ => true) hs).l1) := fib_0.cell 2
    have p3 : w1.cell? ⟨Bn6, 3, none⟩ = some (.int .i64 (boundsOf miss (fun _ => true) hs).h1) := fib_0.cell 3
    have p4 : w1.cell? ⟨Bn6, 4, none⟩ = some (.int .i64 (boundsOf miss (fun _ => true) hs).l2) := fib_0.cell 4
    have p5 : w1.cell? ⟨Bn6, 5, none⟩ = some (.int .i64 (boundsOf miss (fun _ => true) hs).h2) := fib_0.cell 5
    have p6 : w1.cell? ⟨Bn6, 6, none⟩ = some (.int .i64 (boundsOf miss (fun _ => true) hs).l3) := fib_0.cell 6
    have p7 : w1.cell? ⟨Bn6, 7, none⟩ = some (.int .i64 (boundsOf miss (fun _ => true) hs).h3) := fib_0.cell 7
    simp only [frameOf, fill, setSlot, sg, Nat.reduceBEq, if_true, if_false, Nat.reduceAdd, Nat.reduceEqDiff, HSL.out] at hK ⊢
    go_wp2_with (first | (go_at_call 106; refine (limits_any gi _).mono ?_; rintro e w2 ⟨rfl, hb2⟩) | (go_at_call 137; refine (boxMeet_bx (boundsOf miss (fun _ => true) hs) gi.limits _).mono ?_; rintro e w2 ⟨rfl, hb2⟩))
    exact hK _ _ (Below.refl _ _) rfl
   ·intro xq w1 hb1 hx K hK0
    have hK := fun v w' hb => hK0 v w' (.inl hb)
    have fis_0 : xq 5 = .slice (some ⟨B, o, none⟩) gs.length d := hx 13 (by rfl) (by rfl)
    clear hx hKc hK0
    have k8 : w1.cell? ⟨Bg, 0, none⟩ = some (.int .i64 (i : Int)) := (HGB.out.up hb1).cell 0
    have g0 : w1.cell? ⟨B, o + i * 5, none⟩ = some (.int .i64 gi.corn) := up_cell hb1 G0.out
    have g1 : w1.cell? ⟨B, o + i * 5 + 1, none⟩ = some (.int .i64 gi.chaff) := up_cell hb1 G1.out
    have g2 : w1.cell? ⟨B, o + i * 5 + 2, none⟩ = some (.int .i64 gi.stones) := up_cell hb1 G2.out
    have g3 : w1.cell? ⟨B, o + i * 5 + 3, none⟩ = some (.int .i64 gi.damp) := up_cell hb1 G3.out
    have g4 : w1.cell? ⟨B, o + i * 5 + 4, none⟩ = some (.int .i64 gi.price) := up_cell hb1 G4.out
    simp only [frameOf, fill, setSlot, sg, Nat.reduceBEq, if_true, if_false, Nat.reduceAdd, Nat.reduceEqDiff, HSL.out] at hK ⊢
    simp only [fis_0] at hK ⊢
    clear fis_0
    go_wp2_with (first | (go_at_call 106; refine (limits_any gi _).mono ?_; rintro e w2 ⟨rfl, hb2⟩) | (go_at_call 137; refine (boxMeet_bx (boundsOf miss (fun _ => true) hs) gi.limits _).mono ?_; rintro e w2 ⟨rfl, hb2⟩))
    exact hK _ _ (Below.refl _ _) rfl
   ·intro xq w1 hb1 hx K hK0
    have hK := fun v w' hb => hK0 v w' (.inl hb)
    clear hx hKc hK0
    have k8 : w1.cell? ⟨Bg, 0, none⟩ = some (.int .i64 (i : Int)) := (HGB.out.up hb1).cell 0
    have g0 : w1.cell? ⟨B, o + i * 5, none⟩ = some (.int .i64 gi.corn) := up_cell hb1 G0.out
    have g1 : w1.cell? ⟨B, o + i * 5 + 1, none⟩ = some (.int .i64 gi.chaff) := up_cell hb1 G1.out
    have g2 : w1.cell? ⟨B, o + i * 5 + 2, none⟩ = some (.int .i64 gi.stones) := up_cell hb1 G2.out
    have g3 : w1.cell? ⟨B, o + i * 5 + 3, none⟩ = some (.int .i64 gi.damp) := up_cell hb1 G3.out
    have g4 : w1.cell? ⟨B, o + i * 5 + 4, none⟩ = some (.int .i64 gi.price) := up_cell hb1 G4.out
    simp only [frameOf, fill, setSlot, sg, Nat.reduceBEq, if_true, if_false, Nat.reduceAdd, Nat.reduceEqDiff, HSL.out] at hK ⊢
    go_wp2_with (first | (go_at_call 106; refine (limits_any gi _).mono ?_; rintro e w2 ⟨rfl, hb2⟩) | (go_at_call 137; refine (boxMeet_bx (boundsOf miss (fun _ => true) hs) gi.limits _).mono ?_; rintro e w2 ⟨rfl, hb2⟩))
    exact hK _ _ (Below.refl _ _) rfl
   ·intro xq w1 hb1 hx K hK0
    have hK := fun v w' hb => hK0 v w' (.inl hb)
    have e14 : xq 14 = .slice (some ⟨B, o, none⟩) gs.length d := hx 1 (by rfl) (by rfl)
    have e15 : xq 15 = .int .i64 (i : Int) := hx 2 (by rfl) (by rfl)
    clear hx hKc hK0
    have k8 : w1.cell? ⟨Bg, 0, none⟩ = some (.int .i64 (i : Int)) := (HGB.out.up hb1).cell 0
    have g0 : w1.cell? ⟨B, o + i * 5, none⟩ = some (.int .i64 gi.corn) := up_cell hb1 G0.out
    have g1 : w1.cell? ⟨B, o + i * 5 + 1, none⟩ = some (.int .i64 gi.chaff) := up_cell hb1 G1.out
    have g2 : w1.cell? ⟨B, o + i * 5 + 2, none⟩ = some (.int .i64 gi.stones) := up_cell hb1 G2.out
    have g3 : w1.cell? ⟨B, o + i * 5 + 3, none⟩ = some (.int .i64 gi.damp) := up_cell hb1 G3.out
    have g4 : w1.cell? ⟨B, o + i * 5 + 4, none⟩ = some (.int .i64 gi.price) := up_cell hb1 G4.out
    simp only [frameOf, fill, setSlot, sg, Nat.reduceBEq, if_true, if_false, Nat.reduceAdd, Nat.reduceEqDiff, HSL.out] at hK ⊢
    simp only [e14, e15] at hK ⊢
    clear e14 e15
    go_wp2_with (first | (go_at_call 106; refine (limits_any gi _).mono ?_; rintro e w2 ⟨rfl, hb2⟩) | (go_at_call 137; refine (boxMeet_bx (boundsOf miss (fun _ => true) hs) gi.limits _).mono ?_; rintro e w2 ⟨rfl, hb2⟩))
    exact hK _ _ (Below.refl _ _) rfl
   ·intro xq w1 hb1 hx K hK0
    have hK := fun v w' hb => hK0 v w' (.inl hb)
    have e16 : xq 16 = .pointer (some ⟨B, o + i * 5, none⟩) := hx 3 (by rfl) (by rfl)
    clear hx hKc hK0
    have k8 : w1.cell? ⟨Bg, 0, none⟩ = some (.int .i64 (i : Int)) := (HGB.out.up hb1).cell 0
    have g0 : w1.cell? ⟨B, o + i * 5, none⟩ = some (.int .i64 gi.corn) := up_cell hb1 G0.out
    have g1 : w1.cell? ⟨B, o + i * 5 + 1, none⟩ = some (.int .i64 gi.chaff) := up_cell hb1 G1.out
    have g2 : w1.cell? ⟨B, o + i * 5 + 2, none⟩ = some (.int .i64 gi.stones) := up_cell hb1 G2.out
    have g3 : w1.cell? ⟨B, o + i * 5 + 3, none⟩ = some (.int .i64 gi.damp) := up_cell hb1 G3.out
    have g4 : w1.cell? ⟨B, o + i * 5 + 4, none⟩ = some (.int .i64 gi.price) := up_cell hb1 G4.out
    simp only [frameOf, fill, setSlot, sg, Nat.reduceBEq, if_true, if_false, Nat.reduceAdd, Nat.reduceEqDiff, HSL.out] at hK ⊢
    simp only [e16] at hK ⊢
    clear e16
    go_wp2_with (first | (go_at_call 106; refine (limits_any gi _).mono ?_; rintro e w2 ⟨rfl, hb2⟩) | (go_at_call 137; refine (boxMeet_bx (boundsOf miss (fun _ => true) hs) gi.limits _).mono ?_; rintro e w2 ⟨rfl, hb2⟩))
    exact hK _ _ (Below.refl _ _) rfl
   ·intro xq w1 hb1 hx K hK0
    have hK := fun v w' hb => hK0 v w' (.inl hb)
    have e17 : xq 17 = .agg #[.int .i64 gi.corn, .int .i64 gi.chaff, .int .i64 gi.stones, .int .i64 gi.damp, .int .i64 gi.price] := hx 4 (by rfl) (by rfl)
    clear hx hKc hK0
    have k8 : w1.cell? ⟨Bg, 0, none⟩ = some (.int .i64 (i : Int)) := (HGB.out.up hb1).cell 0
    have g0 : w1.cell? ⟨B, o + i * 5, none⟩ = some (.int .i64 gi.corn) := up_cell hb1 G0.out
    have g1 : w1.cell? ⟨B, o + i * 5 + 1, none⟩ = some (.int .i64 gi.chaff) := up_cell hb1 G1.out
    have g2 : w1.cell? ⟨B, o + i * 5 + 2, none⟩ = some (.int .i64 gi.stones) := up_cell hb1 G2.out
    have g3 : w1.cell? ⟨B, o + i * 5 + 3, none⟩ = some (.int .i64 gi.damp) := up_cell hb1 G3.out
    have g4 : w1.cell? ⟨B, o + i * 5 + 4, none⟩ = some (.int .i64 gi.price) := up_cell hb1 G4.out
    simp only [frameOf, fill, setSlot, sg, Nat.reduceBEq, if_true, if_false, Nat.reduceAdd, Nat.reduceEqDiff, HSL.out] at hK ⊢
    simp only [e17] at hK ⊢
    clear e17
    go_wp2_with (first | (go_at_call 106; refine (limits_any gi _).mono ?_; rintro e w2 ⟨rfl, hb2⟩) | (go_at_call 137; refine (boxMeet_bx (boundsOf miss (fun _ => true) hs) gi.limits _).mono ?_; rintro e w2 ⟨rfl, hb2⟩))
    exact hK _ _ hb2 rfl
   ·intro xq w1 hb1 hx K hK0
    have hK := fun v w' hb => hK0 v w' (.inl hb)
    have e13 : xq 13 = .agg #[.int .i64 (boundsOf miss (fun _ => true) hs).l0, .int .i64 (boundsOf miss (fun _ => true) hs).h0, .int .i64 (boundsOf miss (fun _ => true) hs).l1, .int .i64 (boundsOf miss (fun _ => true) hs).h1, .int .i64 (boundsOf miss (fun _ => true) hs).l2, .int .i64 (boundsOf miss (fun _ => true) hs).h2, .int .i64 (boundsOf miss (fun _ => true) hs).l3, .int .i64 (boundsOf miss (fun _ => true) hs).h3] := hx 0 (by rfl) (by rfl)
    have e18 : xq 18 = .agg #[.int .i64 gi.corn, .int .i64 40, .int .i64 0, .int .i64 gi.chaff, .int .i64 0, .int .i64 gi.stones, .int .i64 0, .int .i64 gi.damp] := hx 5 (by rfl) (by rfl)
    clear hx hKc hK0
    have k8 : w1.cell? ⟨Bg, 0, none⟩ = some (.int .i64 (i : Int)) := (HGB.out.up hb1).cell 0
    have g0 : w1.cell? ⟨B, o + i * 5, none⟩ = some (.int .i64 gi.corn) := up_cell hb1 G0.out
    have g1 : w1.cell? ⟨B, o + i * 5 + 1, none⟩ = some (.int .i64 gi.chaff) := up_cell hb1 G1.out
    have g2 : w1.cell? ⟨B, o + i * 5 + 2, none⟩ = some (.int .i64 gi.stones) := up_cell hb1 G2.out
    have g3 : w1.cell? ⟨B, o + i * 5 + 3, none⟩ = some (.int .i64 gi.damp) := up_cell hb1 G3.out
    have g4 : w1.cell? ⟨B, o + i * 5 + 4, none⟩ = some (.int .i64 gi.price) := up_cell hb1 G4.out
    simp only [frameOf, fill, setSlot, sg, Nat.reduceBEq, if_true, if_false, Nat.reduceAdd, Nat.reduceEqDiff, HSL.out] at hK ⊢
    simp only [e13, e18] at hK ⊢
    clear e13 e18
    go_wp2_with (first | (go_at_call 106; refine (limits_any gi _).mono ?_; rintro e w2 ⟨rfl, hb2⟩) | (go_at_call 137; refine (boxMeet_bx (boundsOf miss (fun _ => true) hs) gi.limits _).mono ?_; rintro e w2 ⟨rfl, hb2⟩))
    exact hK _ _ hb2 rfl
   ·intro xq w1 hb1 hx K hK0
    have hK := fun v w' hb => hK0 v w' (.inl hb)
    have fis_0 : xq 5 = .slice (some ⟨B, o, none⟩) gs.length d := hx 13 (by rfl) (by rfl)
    clear hx hKc hK0
    have k8 : w1.cell? ⟨Bg, 0, none⟩ = some (.int .i64 (i : Int)) := (HGB.out.up hb1).cell 0
    have g0 : w1.cell? ⟨B, o + i * 5, none⟩ = some (.int .i64 gi.corn) := up_cell hb1 G0.out
    have g1 : w1.cell? ⟨B, o + i * 5 + 1, none⟩ = some (.int .i64 gi.chaff) := up_cell hb1 G1.out
    have g2 : w1.cell? ⟨B, o + i * 5 + 2, none⟩ = some (.int .i64 gi.stones) := up_cell hb1 G2.out
    have g3 : w1.cell? ⟨B, o + i * 5 + 3, none⟩ = some (.int .i64 gi.damp) := up_cell hb1 G3.out
    have g4 : w1.cell? ⟨B, o + i * 5 + 4, none⟩ = some (.int .i64 gi.price) := up_cell hb1 G4.out
    simp only [frameOf, fill, setSlot, sg, Nat.reduceBEq, if_true, if_false, Nat.reduceAdd, Nat.reduceEqDiff, HSL.out] at hK ⊢
    simp only [fis_0] at hK ⊢
    clear fis_0
    go_wp2_with (first | (go_at_call 106; refine (limits_any gi _).mono ?_; rintro e w2 ⟨rfl, hb2⟩) | (go_at_call 137; refine (boxMeet_bx (boundsOf miss (fun _ => true) hs) gi.limits _).mono ?_; rintro e w2 ⟨rfl, hb2⟩))
    exact hK _ _ (Below.refl _ _) rfl
   ·intro xq w1 hb1 hx K hK0
    have hK := fun v w' hb => hK0 v w' (.inl hb)
    clear hx hKc hK0
    have k8 : w1.cell? ⟨Bg, 0, none⟩ = some (.int .i64 (i : Int)) := (HGB.out.up hb1).cell 0
    have g0 : w1.cell? ⟨B, o + i * 5, none⟩ = some (.int .i64 gi.corn) := up_cell hb1 G0.out
    have g1 : w1.cell? ⟨B, o + i * 5 + 1, none⟩ = some (.int .i64 gi.chaff) := up_cell hb1 G1.out
    have g2 : w1.cell? ⟨B, o + i * 5 + 2, none⟩ = some (.int .i64 gi.stones) := up_cell hb1 G2.out
    have g3 : w1.cell? ⟨B, o + i * 5 + 3, none⟩ = some (.int .i64 gi.damp) := up_cell hb1 G3.out
    have g4 : w1.cell? ⟨B, o + i * 5 + 4, none⟩ = some (.int .i64 gi.price) := up_cell hb1 G4.out
    simp only [frameOf, fill, setSlot, sg, Nat.reduceBEq, if_true, if_false, Nat.reduceAdd, Nat.reduceEqDiff, HSL.out] at hK ⊢
    go_wp2_with (first | (go_at_call 106; refine (limits_any gi _).mono ?_; rintro e w2 ⟨rfl, hb2⟩) | (go_at_call 137; refine (boxMeet_bx (boundsOf miss (fun _ => true) hs) gi.limits _).mono ?_; rintro e w2 ⟨rfl, hb2⟩))
    exact hK _ _ (Below.refl _ _) rfl
   ·intro xq w1 hb1 hx K hK0
    have hK := fun v w' hb => hK0 v w' (.inl hb)
    have e20 : xq 20 = .slice (some ⟨B, o, none⟩) gs.length d := hx 7 (by rfl) (by rfl)
    have e21 : xq 21 = .int .i64 (i : Int) := hx 8 (by rfl) (by rfl)
    clear hx hKc hK0
    have k8 : w1.cell? ⟨Bg, 0, none⟩ = some (.int .i64 (i : Int)) := (HGB.out.up hb1).cell 0
    have g0 : w1.cell? ⟨B, o + i * 5, none⟩ = some (.int .i64 gi.corn) := up_cell hb1 G0.out
    have g1 : w1.cell? ⟨B, o + i * 5 + 1, none⟩ = some (.int .i64 gi.chaff) := up_cell hb1 G1.out
    have g2 : w1.cell? ⟨B, o + i * 5 + 2, none⟩ = some (.int .i64 gi.stones) := up_cell hb1 G2.out
    have g3 : w1.cell? ⟨B, o + i * 5 + 3, none⟩ = some (.int .i64 gi.damp) := up_cell hb1 G3.out
    have g4 : w1.cell? ⟨B, o + i * 5 + 4, none⟩ = some (.int .i64 gi.price) := up_cell hb1 G4.out
    simp only [frameOf, fill, setSlot, sg, Nat.reduceBEq, if_true, if_false, Nat.reduceAdd, Nat.reduceEqDiff, HSL.out] at hK ⊢
    simp only [e20, e21] at hK ⊢
    clear e20 e21
    go_wp2_with (first | (go_at_call 106; refine (limits_any gi _).mono ?_; rintro e w2 ⟨rfl, hb2⟩) | (go_at_call 137; refine (boxMeet_bx (boundsOf miss (fun _ => true) hs) gi.limits _).mono ?_; rintro e w2 ⟨rfl, hb2⟩))
    exact hK _ _ (Below.refl _ _) rfl
   ·intro xq w1 hb1 hx K hK0
    have hK := fun v w' hb => hK0 v w' (.inr hb)
    have e19 : xq 19 = .agg #[.int .i64 ((boundsOf miss (fun _ => true) hs).meet gi.limits).l0, .int .i64 ((boundsOf miss (fun _ => true) hs).meet gi.limits).h0, .int .i64 ((boundsOf miss (fun _ => true) hs).meet gi.limits).l1, .int .i64 ((boundsOf miss (fun _ => true) hs).meet gi.limits).h1, .int .i64 ((boundsOf miss (fun _ => true) hs).meet gi.limits).l2, .int .i64 ((boundsOf miss (fun _ => true) hs).meet gi.limits).h2, .int .i64 ((boundsOf miss (fun _ => true) hs).meet gi.limits).l3, .int .i64 ((boundsOf miss (fun _ => true) hs).meet gi.limits).h3] := hx 6 (by rfl) (by rfl)
    have fib_0 : Holds w1 Bn6 153 #[.int .i64 (boundsOf miss (fun _ => true) hs).l0, .int .i64 (boundsOf miss (fun _ => true) hs).h0, .int .i64 (boundsOf miss (fun _ => true) hs).l1, .int .i64 (boundsOf miss (fun _ => true) hs).h1, .int .i64 (boundsOf miss (fun _ => true) hs).l2, .int .i64 (boundsOf miss (fun _ => true) hs).h2, .int .i64 (boundsOf miss (fun _ => true) hs).l3, .int .i64 (boundsOf miss (fun _ => true) hs).h3] := hx 12 (by rfl) (by rfl)
    clear hx hKc hK0
    have k8 : w1.cell? ⟨Bg, 0, none⟩ = some (.int .i64 (i : Int)) := (HGB.out.up hb1).cell 0
    have g0 : w1.cell? ⟨B, o + i * 5, none⟩ = some (.int .i64 gi.corn) := up_cell hb1 G0.out
    have g1 : w1.cell? ⟨B, o + i * 5 + 1, none⟩ = some (.int .i64 gi.chaff) := up_cell hb1 G1.out
    have g2 : w1.cell? ⟨B, o + i * 5 + 2, none⟩ = some (.int .i64 gi.stones) := up_cell hb1 G2.out
    have g3 : w1.cell? ⟨B, o + i * 5 + 3, none⟩ = some (.int .i64 gi.damp) := up_cell hb1 G3.out
    have g4 : w1.cell? ⟨B, o + i * 5 + 4, none⟩ = some (.int .i64 gi.price) := up_cell hb1 G4.out
    have p0 : w1.cell? ⟨Bn6, 0, none⟩ = some (.int .i64 (boundsOf miss (fun _ => true) hs).l0) := fib_0.cell 0
    have p1 : w1.cell? ⟨Bn6, 1, none⟩ = some (.int .i64 (boundsOf miss (fun _ => true) hs).h0) := fib_0.cell 1
    have p2 : w1.cell? ⟨Bn6, 2, none⟩ = some (.int .i64 (boundsOf miss (fun _ => true) hs).l1) := fib_0.cell 2
    have p3 : w1.cell? ⟨Bn6, 3, none⟩ = some (.int .i64 (boundsOf miss (fun _ => true) hs).h1) := fib_0.cell 3
    have p4 : w1.cell? ⟨Bn6, 4, none⟩ = some (.int .i64 (boundsOf miss (fun _ => true) hs).l2) := fib_0.cell 4
    have p5 : w1.cell? ⟨Bn6, 5, none⟩ = some (.int .i64 (boundsOf miss (fun _ => true) hs).h2) := fib_0.cell 5
    have p6 : w1.cell? ⟨Bn6, 6, none⟩ = some (.int .i64 (boundsOf miss (fun _ => true) hs).l3) := fib_0.cell 6
    have p7 : w1.cell? ⟨Bn6, 7, none⟩ = some (.int .i64 (boundsOf miss (fun _ => true) hs).h3) := fib_0.cell 7
    have y0 : w1.frozen? ⟨Bn6, 0, none⟩ = false := fib_0.frozen 0
    have y1 : w1.frozen? ⟨Bn6, 1, none⟩ = false := fib_0.frozen 1
    have y2 : w1.frozen? ⟨Bn6, 2, none⟩ = false := fib_0.frozen 2
    have y3 : w1.frozen? ⟨Bn6, 3, none⟩ = false := fib_0.frozen 3
    have y4 : w1.frozen? ⟨Bn6, 4, none⟩ = false := fib_0.frozen 4
    have y5 : w1.frozen? ⟨Bn6, 5, none⟩ = false := fib_0.frozen 5
    have y6 : w1.frozen? ⟨Bn6, 6, none⟩ = false := fib_0.frozen 6
    have y7 : w1.frozen? ⟨Bn6, 7, none⟩ = false := fib_0.frozen 7
    simp only [frameOf, fill, setSlot, sg, Nat.reduceBEq, if_true, if_false, Nat.reduceAdd, Nat.reduceEqDiff, HSL.out] at hK ⊢
    have E19 := Lib.hid e19
    simp only [e19] at hK ⊢
    clear e19
    go_wp2_with (first | (go_at_call 106; refine (limits_any gi _).mono ?_; rintro e w2 ⟨rfl, hb2⟩) | (go_at_call 137; refine (boxMeet_bx (boundsOf miss (fun _ => true) hs) gi.limits _).mono ?_; rintro e w2 ⟨rfl, hb2⟩))
    refine hK undef _ ⟨zg, ?_⟩ zp0
    intro jq xq hd hne hv
    match jq, hd, hne, hv with
    | 0, _, _, hv => exact hv
    | 1, _, _, hv => exact hv
    | 2, _, _, hv => exact hv
    | 3, _, _, hv => exact hv
    | 4, _, _, hv => exact hv
    | 5, _, _, hv => exact hv
    | 6, _, _, hv => exact hv
    | 7, _, _, hv => exact hv
    | 8, _, _, hv => exact hv
    | 9, _, _, hv => exact hv
    | 10, _, hne, _ => exact absurd rfl hne
    | 11, _, _, hv => exact hv
    | 12, hd, _, _ => exact absurd hd (by decide)
    | 13, _, _, hv => exact hv
    | _ + 14, _, _, _ => trivial
   ·intro xq w1 hb1 hx K hK0
    have hK := fun v w' hb => hK0 v w' (.inl hb)
    have e22 : xq 22 = .slice (some ⟨B, o, none⟩) i d := hx 9 (by rfl) (by rfl)
    clear hx hKc hK0
    have k8 : w1.cell? ⟨Bg, 0, none⟩ = some (.int .i64 (i : Int)) := (HGB.out.up hb1).cell 0
    have g0 : w1.cell? ⟨B, o + i * 5, none⟩ = some (.int .i64 gi.corn) := up_cell hb1 G0.out
    have g1 : w1.cell? ⟨B, o + i * 5 + 1, none⟩ = some (.int .i64 gi.chaff) := up_cell hb1 G1.out
    have g2 : w1.cell? ⟨B, o + i * 5 + 2, none⟩ = some (.int .i64 gi.stones) := up_cell hb1 G2.out
    have g3 : w1.cell? ⟨B, o + i * 5 + 3, none⟩ = some (.int .i64 gi.damp) := up_cell hb1 G3.out
    have g4 : w1.cell? ⟨B, o + i * 5 + 4, none⟩ = some (.int .i64 gi.price) := up_cell hb1 G4.out
    simp only [frameOf, fill, setSlot, sg, Nat.reduceBEq, if_true, if_false, Nat.reduceAdd, Nat.reduceEqDiff, HSL.out] at hK ⊢
    simp only [e22] at hK ⊢
    clear e22
    go_wp2_with (first | (go_at_call 106; refine (limits_any gi _).mono ?_; rintro e w2 ⟨rfl, hb2⟩) | (go_at_call 137; refine (boxMeet_bx (boundsOf miss (fun _ => true) hs) gi.limits _).mono ?_; rintro e w2 ⟨rfl, hb2⟩))
    exact hK _ _ (Below.refl _ _) rfl
  ·intro xq w1 hb1 hx
   have e13 : xq 13 = .agg #[.int .i64 (boundsOf miss (fun _ => true) hs).l0, .int .i64 (boundsOf miss (fun _ => true) hs).h0, .int .i64 (boundsOf miss (fun _ => true) hs).l1, .int .i64 (boundsOf miss (fun _ => true) hs).h1, .int .i64 (boundsOf miss (fun _ => true) hs).l2, .int .i64 (boundsOf miss (fun _ => true) hs).h2, .int .i64 (boundsOf miss (fun _ => true) hs).l3, .int .i64 (boundsOf miss (fun _ => true) hs).h3] := hx 0 (by decide)
   have e14 : xq 14 = .slice (some ⟨B, o, none⟩) gs.length d := hx 1 (by decide)
   have e15 : xq 15 = .int .i64 (i : Int) := hx 2 (by decide)
   have e16 : xq 16 = .pointer (some ⟨B, o + i * 5, none⟩) := hx 3 (by decide)
   have e17 : xq 17 = .agg #[.int .i64 gi.corn, .int .i64 gi.chaff, .int .i64 gi.stones, .int .i64 gi.damp, .int .i64 gi.price] := hx 4 (by decide)
   have e18 : xq 18 = .agg #[.int .i64 gi.corn, .int .i64 40, .int .i64 0, .int .i64 gi.chaff, .int .i64 0, .int .i64 gi.stones, .int .i64 0, .int .i64 gi.damp] := hx 5 (by decide)
   have e19 : xq 19 = .agg #[.int .i64 ((boundsOf miss (fun _ => true) hs).meet gi.limits).l0, .int .i64 ((boundsOf miss (fun _ => true) hs).meet gi.limits).h0, .int .i64 ((boundsOf miss (fun _ => true) hs).meet gi.limits).l1, .int .i64 ((boundsOf miss (fun _ => true) hs).meet gi.limits).h1, .int .i64 ((boundsOf miss (fun _ => true) hs).meet gi.limits).l2, .int .i64 ((boundsOf miss (fun _ => true) hs).meet gi.limits).h2, .int .i64 ((boundsOf miss (fun _ => true) hs).meet gi.limits).l3, .int .i64 ((boundsOf miss (fun _ => true) hs).meet gi.limits).h3] := hx 6 (by decide)
   have e20 : xq 20 = .slice (some ⟨B, o, none⟩) gs.length d := hx 7 (by decide)
   have e21 : xq 21 = .int .i64 (i : Int) := hx 8 (by decide)
   have e22 : xq 22 = .slice (some ⟨B, o, none⟩) i d := hx 9 (by decide)
   have fn10_0 : Holds w1 Bn6 153 #[.int .i64 ((boundsOf miss (fun _ => true) hs).meet gi.limits).l0, .int .i64 ((boundsOf miss (fun _ => true) hs).meet gi.limits).h0, .int .i64 ((boundsOf miss (fun _ => true) hs).meet gi.limits).l1, .int .i64 ((boundsOf miss (fun _ => true) hs).meet gi.limits).h1, .int .i64 ((boundsOf miss (fun _ => true) hs).meet gi.limits).l2, .int .i64 ((boundsOf miss (fun _ => true) hs).meet gi.limits).h2, .int .i64 ((boundsOf miss (fun _ => true) hs).meet gi.limits).l3, .int .i64 ((boundsOf miss (fun _ => true) hs).meet gi.limits).h3] := hx 10 (by decide)
   have e5 : xq 5 = .slice (some ⟨B, o, none⟩) i d := hx 11 (by decide)
   clear hx
   have k8 : w1.cell? ⟨Bg, 0, none⟩ = some (.int .i64 (i : Int)) := (HGB.out.up hb1).cell 0
   have g0 : w1.cell? ⟨B, o + i * 5, none⟩ = some (.int .i64 gi.corn) := up_cell hb1 G0.out
   have g1 : w1.cell? ⟨B, o + i * 5 + 1, none⟩ = some (.int .i64 gi.chaff) := up_cell hb1 G1.out
   have g2 : w1.cell? ⟨B, o + i * 5 + 2, none⟩ = some (.int .i64 gi.stones) := up_cell hb1 G2.out
   have g3 : w1.cell? ⟨B, o + i * 5 + 3, none⟩ = some (.int .i64 gi.damp) := up_cell hb1 G3.out
   have g4 : w1.cell? ⟨B, o + i * 5 + 4, none⟩ = some (.int .i64 gi.price) := up_cell hb1 G4.out
   simp only [frameOf, fill, setSlot, sg, Nat.reduceBEq, if_true, if_false, Nat.reduceAdd, Nat.reduceEqDiff, HSL.out]
   simp only [e13, e14, e15, e16, e17, e18, e19, e20, e21, e22, e5]
   clear e13 e14 e15 e16 e17 e18 e19 e20 e21 e22 e5
   refine hKc _ _ ?_
   have u0 : w1.cell? ⟨Bn6, 0, none⟩ = some (.int .i64 ((boundsOf miss (fun _ => true) hs).meet gi.limits).l0) := fn10_0.cell 0
   have u1 : w1.cell? ⟨Bn6, 1, none⟩ = some (.int .i64 ((boundsOf miss (fun _ => true) hs).meet gi.limits).h0) := fn10_0.cell 1
   have u2 : w1.cell? ⟨Bn6, 2, none⟩ = some (.int .i64 ((boundsOf miss (fun _ => true) hs).meet gi.limits).l1) := fn10_0.cell 2
   have u3 : w1.cell? ⟨Bn6, 3, none⟩ = some (.int .i64 ((boundsOf miss (fun _ => true) hs).meet gi.limits).h1) := fn10_0.cell 3
   have u4 : w1.cell? ⟨Bn6, 4, none⟩ = some (.int .i64 ((boundsOf miss (fun _ => true) hs).meet gi.limits).l2) := fn10_0.cell 4
   have u5 : w1.cell? ⟨Bn6, 5, none⟩ = some (.int .i64 ((boundsOf miss (fun _ => true) hs).meet gi.limits).h2) := fn10_0.cell 5
   have u6 : w1.cell? ⟨Bn6, 6, none⟩ = some (.int .i64 ((boundsOf miss (fun _ => true) hs).meet gi.limits).l3) := fn10_0.cell 6
   have u7 : w1.cell? ⟨Bn6, 7, none⟩ = some (.int .i64 ((boundsOf miss (fun _ => true) hs).meet gi.limits).h3) := fn10_0.cell 7
   have hti : (gs.take i).length = i := by rw [List.length_take]; omega
   have hym0 := ym_any l N J Jx HJ.out HY.out (gs.take i) (fun g hg => HR.out g (List.mem_of_mem_take hg)) (by omega) ⟨(boundsOf miss (fun _ => true) hs).meet gi.limits, (bounds_ok miss _ hs).meet _⟩ (some ⟨B, o, none⟩) d [] w1 ((HG.out.up hb1).take i) (by omega) (HJ.out _ _ _ H0.out hb1) HNN.out
   rw [hti] at hym0
   have hym := Lib.hid hym0
   have HTI := Lib.hid hti
   clear hym0 hti
   go_wp2_with (go_at_call 148; refine hym.out.mono ?_; rintro e w4 (⟨rfl, hj4, hk4⟩ | ⟨rfl, q, hq, hx4⟩))
   ·go_end0
    exact ⟨⟨_, rfl⟩, .inl ⟨_, HE.out, by simpa using hj4⟩⟩
   ·go_end0
    exact ⟨⟨_, rfl⟩, .inr ⟨q, by rw [← HE.out]; exact hq, by simpa using hx4⟩⟩
end Go.Proofs.Ytifffonoipapgaa
