
import Derived.Test.YtifffonoipapgaaVAA
import Derived.Test.YtifffonoipapgaaVAC
import Derived.Test.YtifffonoipapgaaVAX
import Derived.Test.YtifffonoipapgaaVBE
set_option linter.unusedSimpArgs false
set_option linter.unusedVariables false
namespace Go.Proofs.Ytifffonoipapgaa
open Go.RowKit
theorem HandsAt.low {w w' : World} {B n o : Nat} {hs : List Hf} (h : HandsAt w (some ⟨B, o, none⟩) hs) (hb : Below n w w') (hlt : B < n) : HandsAt w' (some ⟨B, o, none⟩) hs := fun hn => by
 obtain ⟨B', o', e, hc⟩ := h hn
 cases e
 refine ⟨B, o, rfl, fun k x hx => ?_⟩
 have hq := fun (p : Addr) (hp : p.block = B) (v : Value) (e : w.cell? p = some v) => (hb.cell (p := p) (by rw [hp]; exact hlt)).trans e
 obtain ⟨h0, h1, h2, h3, h4⟩ := hc k x hx
 exact ⟨hq _ rfl _ h0, hq _ rfl _ h1, hq _ rfl _ h2, hq _ rfl _ h3, hq _ rfl _ h4⟩
def allAt : Nat → Hf
 | 0 => ⟨0, 40, 5, 1, 4⟩
 | 1 => ⟨2, 30, 6, 2, 2⟩
 | _ => ⟨1, 12, 4, 0, 4⟩
def threeGr : List Gr := [⟨34, 4, 1, 3, 9⟩, ⟨30, 6, 2, 4, 7⟩, ⟨24, 10, 3, 8, 4⟩]
theorem all_at {j : Nat} (hj : j < 3) : [allAt 0, allAt 1, allAt 2][j]? = some (allAt j) := by
 match j, hj with
 | 0, _ => rfl
 | 1, _ => rfl
 | 2, _ => rfl
def ThreePost (js : List Nat) (w : World) (e : Ending) (w' : World) : Prop :=
 ∃ G A c, e = .returned (.tuple #[.agg #[.int .i64 5, .int .i64 2, .slice G 3 3], .agg #[.int .i64 1200, .int .i64 300, .slice A js.length c]]) ∧ GradesAt w' G threeGr ∧ HandsAt w' A (js.map allAt) ∧ js.length ≤ c ∧ Below w.heap.size w w'
def ThreeRel (js : List Nat) (w : World) (v18 : Value) (wr : World) : Prop :=
 ∃ k : Nat, ∃ sv : Value, v18 = .int .i64 (k : Int) ∧ k ≤ js.length ∧ Holds wr w.heap.size 24 #[.int .i64 0, .int .i64 0, .slice none 0 0] ∧ Holds wr (w.heap.size + 1) 27 #[.int .i64 0, .int .i64 0, .slice none 0 0] ∧
  HandsAt wr (some ⟨w.heap.size + 1 + 1, 0, none⟩) [allAt 0, allAt 1, allAt 2] ∧ Holds wr (w.heap.size + 1 + 1 + 1) 27 #[.int .i64 1200, .int .i64 300, sv] ∧ OwnHands wr (w.heap.size + 1 + 1 + 1 + 1) sv ((js.take k).map allAt) ∧ Below w.heap.size w wr ∧ w.heap.size + 1 + 1 + 1 + 1 ≤ wr.heap.size
theorem hand_one (h : Hf) : ∀ u ∈ h.cells, u.oneCell' = true := by
 intro u hu
 simp only [Hf.cells, List.mem_cons, List.not_mem_nil, or_false] at hu
 rcases hu with rfl | rfl | rfl | rfl | rfl <;> rfl
theorem grade_one (h : Gr) : ∀ u ∈ h.cells, u.oneCell' = true := by
 intro u hu
 simp only [Gr.cells, List.mem_cons, List.not_mem_nil, or_false] at hu
 rcases hu with rfl | rfl | rfl | rfl | rfl <;> rfl
theorem holds_news {w : World} {B : Nat} {t : TypeId} {l : List Value} (h : Holds w B t l.toArray) : ∀ (j : Nat) (u : Value), l[j]? = some u → w.cell? ((⟨B, 0, none⟩ : Addr).add j) = some u := fun j u hj => by
 have := h.cell j
 rw [List.getElem?_toArray, hj] at this
 rcases Nat.eq_zero_or_pos j with rfl | hp
 ·simpa [Addr.add] using this
 ·simpa [Addr.add, Nat.ne_of_gt hp] using this
theorem row_other {w : World} {B b n k : Nat} {t e : TypeId} {x y sv : Value} {A : Option Addr} {c : Nat} {xs : List Value} (h : Holds w B t #[x, y, .slice A (k + 1) c]) (h' : Holds w B t #[x, y, sv]) (ho : w.ownsRow b e 5 sv n xs) (hn : n = k) : False := by
 obtain ⟨A', c', rfl, _⟩ := row5_val ho
 have h1 := (h.cell 2).symm.trans (h'.cell 2)
 simp at h1
 omega
theorem Holds.set3 {w : World} {B : Nat} {t : TypeId} {a0 a1 a2 : Value} (u0 u1 u2 : Value) (h : Holds w B t #[a0, a1, a2]) : Holds (((w.setCell ⟨B, 0, none⟩ u0).setCell ⟨B, 1, none⟩ u1).setCell ⟨B, 2, none⟩ u2) B t #[u0, u1, u2] := ((h.setL 0 _).setL 1 _).setL 2 _
theorem zp4 {p : Prop} (h : p := by (repeat first | (with_reducible first | assumption | apply Holds.set3 | apply Holds.set4 | apply Holds.putL | ((refine Holds.new' _ _ ?_); (simp; done)) | refine Holds.alloc ?_ _ | refine Holds.drew ?_ | refine Holds.far ?_ (by simp only [ne_eq]; omega) _) | rfl)) : p := h
set_option maxRecDepth 100000 in
set_option maxHeartbeats 4000000 in
theorem Three_any (js : List Nat) (hjs : ∀ j ∈ js, j < 3) (hl : js.length ≤ 100) (A : Option Addr) (c : Nat) (w : World) (hA : IntsAt w A (js.map Int.ofNat)) :
  Calls Try.prog 79 #[.slice A js.length c] w (ThreePost js w) := by
 obtain ⟨i0, hi, hz0, hz1, hz2⟩ := info_parts info_hand
 have HA := Lib.hid hA
 have HJS := Lib.hid hjs
 clear hA hjs
 go_enter Try.func79, Try.ntmps79
 go_wp2_with fail
 go_loopw [18] (fun v18 wr => ThreeRel js w v18 wr) (fun v18 _ => js.length - (intOf v18).toNat)
 case atStart =>
  refine ⟨0, .slice none 0 0, rfl, Nat.zero_le _, ?_, ?_, hands_of (t := 30) ?_, ?_, OwnHands.nil _ _, zg, by simp⟩
  ·exact zp4
  ·exact zp4
  ·change Holds _ _ _ #[.int .i64 0, .int .i64 40, .int .i64 5, .int .i64 1, .int .i64 4, .int .i64 2, .int .i64 30, .int .i64 6, .int .i64 2, .int .i64 2, .int .i64 1, .int .i64 12, .int .i64 4, .int .i64 0, .int .i64 4]
   exact zp4
  ·exact zp4
 case round =>
  obtain ⟨k, sv, rfl, hk, h0, h1, ha3, hc, ho, hB, hS0⟩ := hrel
  have H0 := Lib.hid h0
  have H1 := Lib.hid h1
  have HA3 := Lib.hid ha3
  have HC := Lib.hid hc
  have HO := Lib.hid ho
  have HB := Lib.hid hB
  have hS := Lib.hid hS0
  clear h0 h1 ha3 hc ho
  by_cases hlt : k < js.length
  ·obtain ⟨j, hj⟩ : ∃ j, js[k]? = some j := ⟨_, List.getElem?_eq_getElem hlt⟩
   have hj3 : j < 3 := HJS.out j (List.mem_of_getElem? hj)
   obtain ⟨B, o, rfl, hcc⟩ := HA.out (by rw [List.length_map]; omega)
   have ha0 := hcc k (j : Int) (by rw [List.getElem?_map, hj]; rfl)
   have hlB := World.block_lt_of_cell? w _ ha0
   have ha1 : wr.cell? ⟨B, o + k, none⟩ = some (.int .i64 (j : Int)) := up_cell hB ha0
   obtain ⟨B', o', e, hc3⟩ := HA3.out (by decide)
   cases e
   obtain ⟨x0, x1, x2, x3, x4⟩ := hc3 j (allAt j) (all_at hj3)
   simp only [Nat.zero_add] at x0 x1 x2 x3 x4
   have G0 := Lib.hid x0
   have G1 := Lib.hid x1
   have G2 := Lib.hid x2
   have G3 := Lib.hid x3
   have G4 := Lib.hid x4
   have HJ := Lib.hid hj
   clear hcc hc3 x0 x1 x2 x3 x4 hj ha0
   go_wp2_with fail
   rename_i Kc hKc
   have HSL := Lib.hid (show slotsOf [some 22, some 23, some 24, some 25, some 26, some 27, some 28, some 29, some 30, none] = [22, 23, 24, 25, 26, 27, 28, 29, 30] from rfl)
   refine wp_region_partsG (by kernel_rfl) [some 22, some 23, some 24, some 25, some 26, some 27, some 28, some 29, some 30, none] (fun jq xq w' => match jq with
    | 0 => xq 22 = .pointer (some ⟨w.heap.size + 1 + 1 + 1, 2, none⟩)
    | 1 => xq 23 = sv
    | 2 => xq 24 = .slice (some ⟨w.heap.size + 1 + 1, 0, none⟩) 3 3
    | 3 => xq 25 = .int .i64 (j : Int)
    | 4 => xq 26 = .pointer (some ⟨w.heap.size + 1 + 1, j * 5, none⟩)
    | 5 => xq 27 = .agg #[.int .i64 (allAt j).spot, .int .i64 (allAt j).g0, .int .i64 (allAt j).g1, .int .i64 (allAt j).g2, .int .i64 (allAt j).g3]
    | 6 => ∃ b, xq 28 = .slice (some ⟨b, 0, none⟩) 1 1 ∧ Holds w' b 30 (allAt j).cells.toArray
    | 7 => ∃ A c, xq 29 = .slice A (k + 1) c ∧ OwnHands w' (w.heap.size + 1 + 1 + 1 + 1) (.slice A (k + 1) c) ((js.take k).map allAt ++ [allAt j])
    | 8 => xq 30 = .pointer (some ⟨w.heap.size + 1 + 1 + 1, 2, none⟩)
    | 9 => ∃ A c, Holds w' (w.heap.size + 1 + 1 + 1) 27 #[.int .i64 1200, .int .i64 300, .slice A (k + 1) c] ∧ OwnHands w' (w.heap.size + 1 + 1 + 1 + 1) (.slice A (k + 1) c) ((js.take k).map allAt ++ [allAt j])
    | 10 => Holds w' (w.heap.size + 1 + 1 + 1) 27 #[.int .i64 1200, .int .i64 300, sv]
    | 11 => OwnHands w' (w.heap.size + 1 + 1 + 1 + 1) sv ((js.take k).map allAt)
    | _ => True) [[22], [23], [24], [25], [26], [27], [28], [29], [30], [], [], []] [(7, 6), (9, 6), (9, 10), (7, 11), (9, 11)] (Below (w.heap.size + 1 + 1 + 1) wr) (by kernel_rfl) ?_ ?_ (fun w' w'' hb h => h.trans (hb.mono (Nat.le_trans (Nat.le_of_lt hS.out) h.size))) (Below.refl _ _) ?_ ?_ ?_
   ·intro jq xq xq' wq h hv
    match jq, h, hv with
    | 0, h, hv => show xq' 22 = .pointer (some ⟨w.heap.size + 1 + 1 + 1, 2, none⟩); rw [← h 22 (by decide)]; exact hv
    | 1, h, hv => show xq' 23 = sv; rw [← h 23 (by decide)]; exact hv
    | 2, h, hv => show xq' 24 = .slice (some ⟨w.heap.size + 1 + 1, 0, none⟩) 3 3; rw [← h 24 (by decide)]; exact hv
    | 3, h, hv => show xq' 25 = .int .i64 (j : Int); rw [← h 25 (by decide)]; exact hv
    | 4, h, hv => show xq' 26 = .pointer (some ⟨w.heap.size + 1 + 1, j * 5, none⟩); rw [← h 26 (by decide)]; exact hv
    | 5, h, hv => show xq' 27 = .agg #[.int .i64 (allAt j).spot, .int .i64 (allAt j).g0, .int .i64 (allAt j).g1, .int .i64 (allAt j).g2, .int .i64 (allAt j).g3]; rw [← h 27 (by decide)]; exact hv
    | 6, h, hv => show ∃ b, xq' 28 = .slice (some ⟨b, 0, none⟩) 1 1 ∧ Holds wq b 30 (allAt j).cells.toArray; rw [← h 28 (by decide)]; exact hv
    | 7, h, hv => show ∃ A c, xq' 29 = .slice A (k + 1) c ∧ OwnHands wq (w.heap.size + 1 + 1 + 1 + 1) (.slice A (k + 1) c) ((js.take k).map allAt ++ [allAt j]); rw [← h 29 (by decide)]; exact hv
    | 8, h, hv => show xq' 30 = .pointer (some ⟨w.heap.size + 1 + 1 + 1, 2, none⟩); rw [← h 30 (by decide)]; exact hv
    | 9, h, hv => exact hv
    | 10, h, hv => exact hv
    | 11, h, hv => exact hv
    | _ + 12, _, _ => trivial
   ·intro jq xq wq w' hb' hv
    match jq, hv with
    | 0, hv => exact hv
    | 1, hv => exact hv
    | 2, hv => exact hv
    | 3, hv => exact hv
    | 4, hv => exact hv
    | 5, hv => exact hv
    | 6, ⟨b0, h0, h1⟩ => exact ⟨b0, h0, h1.up hb'⟩
    | 7, ⟨b0, b1, h0, h1⟩ => exact ⟨b0, b1, h0, h1.up hb'⟩
    | 8, hv => exact hv
    | 9, ⟨b0, b1, h0, h1⟩ => exact ⟨b0, b1, h0.up hb', h1.up hb'⟩
    | 10, h0 => exact h0.up hb'
    | 11, h0 => exact h0.up hb'
    | _ + 12, _ => trivial
   ·intro jq hj
    match jq, hj with
    | 0, hj => exact absurd hj (by decide)
    | 1, hj => exact absurd hj (by decide)
    | 2, hj => exact absurd hj (by decide)
    | 3, hj => exact absurd hj (by decide)
    | 4, hj => exact absurd hj (by decide)
    | 5, hj => exact absurd hj (by decide)
    | 6, hj => exact absurd hj (by decide)
    | 7, hj => exact absurd hj (by decide)
    | 8, hj => exact absurd hj (by decide)
    | 9, hj => exact absurd hj (by decide)
    | 10, _ => exact HC.out
    | 11, _ => exact HO.out
    | _ + 12, _ => trivial
   ·refine ⟨?_, ?_, ?_, ?_, ?_, ?_, ?_, ?_, ?_, ?_, trivial⟩
    ·intro xq w1 hb1 hx K hK0
     have hK := fun v w' hb => hK0 v w' (.inl hb)
     clear hx hKc hK0
     have g0 : w1.cell? ⟨w.heap.size + 1 + 1, j * 5, none⟩ = some (.int .i64 (allAt j).spot) := (hb1.cell (p := ⟨w.heap.size + 1 + 1, j * 5, none⟩) (show w.heap.size + 1 + 1 < w.heap.size + 1 + 1 + 1 by omega)).trans G0.out
     have g1 : w1.cell? ⟨w.heap.size + 1 + 1, j * 5 + 1, none⟩ = some (.int .i64 (allAt j).g0) := (hb1.cell (p := ⟨w.heap.size + 1 + 1, j * 5 + 1, none⟩) (show w.heap.size + 1 + 1 < w.heap.size + 1 + 1 + 1 by omega)).trans G1.out
     have g2 : w1.cell? ⟨w.heap.size + 1 + 1, j * 5 + 2, none⟩ = some (.int .i64 (allAt j).g1) := (hb1.cell (p := ⟨w.heap.size + 1 + 1, j * 5 + 2, none⟩) (show w.heap.size + 1 + 1 < w.heap.size + 1 + 1 + 1 by omega)).trans G2.out
     have g3 : w1.cell? ⟨w.heap.size + 1 + 1, j * 5 + 3, none⟩ = some (.int .i64 (allAt j).g2) := (hb1.cell (p := ⟨w.heap.size + 1 + 1, j * 5 + 3, none⟩) (show w.heap.size + 1 + 1 < w.heap.size + 1 + 1 + 1 by omega)).trans G3.out
     have g4 : w1.cell? ⟨w.heap.size + 1 + 1, j * 5 + 4, none⟩ = some (.int .i64 (allAt j).g3) := (hb1.cell (p := ⟨w.heap.size + 1 + 1, j * 5 + 4, none⟩) (show w.heap.size + 1 + 1 < w.heap.size + 1 + 1 + 1 by omega)).trans G4.out
     have hS1 : w.heap.size + 1 + 1 + 1 + 1 ≤ w1.heap.size := Nat.le_trans hS.out hb1.size
     simp only [frameOf, fill, setSlot, sg, Nat.reduceBEq, if_true, if_false, Nat.reduceAdd, Nat.reduceEqDiff, HSL.out] at hK ⊢
     go_wp2_with (at_builtin; (refine wpList_append_own _ rfl _ _ 25 rfl (w.heap.size + 1 + 1 + 1 + 1) 30 i0 _ 5 40 und_hands hi hz0 hz1 hz2 rfl (by decide) _ _ _ rfl HO1.out ⟨b28, 0, none⟩ 1 1 (allAt j).cells rfl rfl (holds_news f28_0) (hand_one _) (by unfold maxLen; omega) (by omega) (by omega) ?_); intro v5 w5 hown5 hgrow5 _; obtain ⟨A5, c5, rfl, _⟩ := row5_val hown5; have ho5 := OwnHands.snoc hown5; simp only [hlen] at ho5 ⊢; have HO5 := Lib.hid ho5; have HG5 := Lib.hid hgrow5; clear hown5 hgrow5 ho5)
     exact hK _ _ (Below.refl _ _) rfl
    ·intro xq w1 hb1 hx K hK0
     have hK := fun v w' hb => hK0 v w' (.inl hb)
     have e22 : xq 22 = .pointer (some ⟨w.heap.size + 1 + 1 + 1, 2, none⟩) := hx 0 (by rfl) (by rfl)
     have fic_0 : Holds w1 (w.heap.size + 1 + 1 + 1) 27 #[.int .i64 1200, .int .i64 300, sv] := hx 10 (by rfl) (by rfl)
     clear hx hKc hK0
     have g0 : w1.cell? ⟨w.heap.size + 1 + 1, j * 5, none⟩ = some (.int .i64 (allAt j).spot) := (hb1.cell (p := ⟨w.heap.size + 1 + 1, j * 5, none⟩) (show w.heap.size + 1 + 1 < w.heap.size + 1 + 1 + 1 by omega)).trans G0.out
     have g1 : w1.cell? ⟨w.heap.size + 1 + 1, j * 5 + 1, none⟩ = some (.int .i64 (allAt j).g0) := (hb1.cell (p := ⟨w.heap.size + 1 + 1, j * 5 + 1, none⟩) (show w.heap.size + 1 + 1 < w.heap.size + 1 + 1 + 1 by omega)).trans G1.out
     have g2 : w1.cell? ⟨w.heap.size + 1 + 1, j * 5 + 2, none⟩ = some (.int .i64 (allAt j).g1) := (hb1.cell (p := ⟨w.heap.size + 1 + 1, j * 5 + 2, none⟩) (show w.heap.size + 1 + 1 < w.heap.size + 1 + 1 + 1 by omega)).trans G2.out
     have g3 : w1.cell? ⟨w.heap.size + 1 + 1, j * 5 + 3, none⟩ = some (.int .i64 (allAt j).g2) := (hb1.cell (p := ⟨w.heap.size + 1 + 1, j * 5 + 3, none⟩) (show w.heap.size + 1 + 1 < w.heap.size + 1 + 1 + 1 by omega)).trans G3.out
     have g4 : w1.cell? ⟨w.heap.size + 1 + 1, j * 5 + 4, none⟩ = some (.int .i64 (allAt j).g3) := (hb1.cell (p := ⟨w.heap.size + 1 + 1, j * 5 + 4, none⟩) (show w.heap.size + 1 + 1 < w.heap.size + 1 + 1 + 1 by omega)).trans G4.out
     have hS1 : w.heap.size + 1 + 1 + 1 + 1 ≤ w1.heap.size := Nat.le_trans hS.out hb1.size
     obtain ⟨c0, c1, c2⟩ := fic_0.c3
     simp only [frameOf, fill, setSlot, sg, Nat.reduceBEq, if_true, if_false, Nat.reduceAdd, Nat.reduceEqDiff, HSL.out] at hK ⊢
     simp only [e22] at hK ⊢
     clear e22
     go_wp2_with (at_builtin; (refine wpList_append_own _ rfl _ _ 25 rfl (w.heap.size + 1 + 1 + 1 + 1) 30 i0 _ 5 40 und_hands hi hz0 hz1 hz2 rfl (by decide) _ _ _ rfl HO1.out ⟨b28, 0, none⟩ 1 1 (allAt j).cells rfl rfl (holds_news f28_0) (hand_one _) (by unfold maxLen; omega) (by omega) (by omega) ?_); intro v5 w5 hown5 hgrow5 _; obtain ⟨A5, c5, rfl, _⟩ := row5_val hown5; have ho5 := OwnHands.snoc hown5; simp only [hlen] at ho5 ⊢; have HO5 := Lib.hid ho5; have HG5 := Lib.hid hgrow5; clear hown5 hgrow5 ho5)
     exact hK _ _ (Below.refl _ _) rfl
    ·intro xq w1 hb1 hx K hK0
     have hK := fun v w' hb => hK0 v w' (.inl hb)
     clear hx hKc hK0
     have g0 : w1.cell? ⟨w.heap.size + 1 + 1, j * 5, none⟩ = some (.int .i64 (allAt j).spot) := (hb1.cell (p := ⟨w.heap.size + 1 + 1, j * 5, none⟩) (show w.heap.size + 1 + 1 < w.heap.size + 1 + 1 + 1 by omega)).trans G0.out
     have g1 : w1.cell? ⟨w.heap.size + 1 + 1, j * 5 + 1, none⟩ = some (.int .i64 (allAt j).g0) := (hb1.cell (p := ⟨w.heap.size + 1 + 1, j * 5 + 1, none⟩) (show w.heap.size + 1 + 1 < w.heap.size + 1 + 1 + 1 by omega)).trans G1.out
     have g2 : w1.cell? ⟨w.heap.size + 1 + 1, j * 5 + 2, none⟩ = some (.int .i64 (allAt j).g1) := (hb1.cell (p := ⟨w.heap.size + 1 + 1, j * 5 + 2, none⟩) (show w.heap.size + 1 + 1 < w.heap.size + 1 + 1 + 1 by omega)).trans G2.out
     have g3 : w1.cell? ⟨w.heap.size + 1 + 1, j * 5 + 3, none⟩ = some (.int .i64 (allAt j).g2) := (hb1.cell (p := ⟨w.heap.size + 1 + 1, j * 5 + 3, none⟩) (show w.heap.size + 1 + 1 < w.heap.size + 1 + 1 + 1 by omega)).trans G3.out
     have g4 : w1.cell? ⟨w.heap.size + 1 + 1, j * 5 + 4, none⟩ = some (.int .i64 (allAt j).g3) := (hb1.cell (p := ⟨w.heap.size + 1 + 1, j * 5 + 4, none⟩) (show w.heap.size + 1 + 1 < w.heap.size + 1 + 1 + 1 by omega)).trans G4.out
     have hS1 : w.heap.size + 1 + 1 + 1 + 1 ≤ w1.heap.size := Nat.le_trans hS.out hb1.size
     simp only [frameOf, fill, setSlot, sg, Nat.reduceBEq, if_true, if_false, Nat.reduceAdd, Nat.reduceEqDiff, HSL.out] at hK ⊢
     go_wp2_with (at_builtin; (refine wpList_append_own _ rfl _ _ 25 rfl (w.heap.size + 1 + 1 + 1 + 1) 30 i0 _ 5 40 und_hands hi hz0 hz1 hz2 rfl (by decide) _ _ _ rfl HO1.out ⟨b28, 0, none⟩ 1 1 (allAt j).cells rfl rfl (holds_news f28_0) (hand_one _) (by unfold maxLen; omega) (by omega) (by omega) ?_); intro v5 w5 hown5 hgrow5 _; obtain ⟨A5, c5, rfl, _⟩ := row5_val hown5; have ho5 := OwnHands.snoc hown5; simp only [hlen] at ho5 ⊢; have HO5 := Lib.hid ho5; have HG5 := Lib.hid hgrow5; clear hown5 hgrow5 ho5)
     exact hK _ _ (Below.refl _ _) rfl
    ·intro xq w1 hb1 hx K hK0
     have hK := fun v w' hb => hK0 v w' (.inl hb)
     clear hx hKc hK0
     have g0 : w1.cell? ⟨w.heap.size + 1 + 1, j * 5, none⟩ = some (.int .i64 (allAt j).spot) := (hb1.cell (p := ⟨w.heap.size + 1 + 1, j * 5, none⟩) (show w.heap.size + 1 + 1 < w.heap.size + 1 + 1 + 1 by omega)).trans G0.out
     have g1 : w1.cell? ⟨w.heap.size + 1 + 1, j * 5 + 1, none⟩ = some (.int .i64 (allAt j).g0) := (hb1.cell (p := ⟨w.heap.size + 1 + 1, j * 5 + 1, none⟩) (show w.heap.size + 1 + 1 < w.heap.size + 1 + 1 + 1 by omega)).trans G1.out
     have g2 : w1.cell? ⟨w.heap.size + 1 + 1, j * 5 + 2, none⟩ = some (.int .i64 (allAt j).g1) := (hb1.cell (p := ⟨w.heap.size + 1 + 1, j * 5 + 2, none⟩) (show w.heap.size + 1 + 1 < w.heap.size + 1 + 1 + 1 by omega)).trans G2.out
     have g3 : w1.cell? ⟨w.heap.size + 1 + 1, j * 5 + 3, none⟩ = some (.int .i64 (allAt j).g2) := (hb1.cell (p := ⟨w.heap.size + 1 + 1, j * 5 + 3, none⟩) (show w.heap.size + 1 + 1 < w.heap.size + 1 + 1 + 1 by omega)).trans G3.out
     have g4 : w1.cell? ⟨w.heap.size + 1 + 1, j * 5 + 4, none⟩ = some (.int .i64 (allAt j).g3) := (hb1.cell (p := ⟨w.heap.size + 1 + 1, j * 5 + 4, none⟩) (show w.heap.size + 1 + 1 < w.heap.size + 1 + 1 + 1 by omega)).trans G4.out
     have hS1 : w.heap.size + 1 + 1 + 1 + 1 ≤ w1.heap.size := Nat.le_trans hS.out hb1.size
     simp only [frameOf, fill, setSlot, sg, Nat.reduceBEq, if_true, if_false, Nat.reduceAdd, Nat.reduceEqDiff, HSL.out] at hK ⊢
     go_wp2_with (at_builtin; (refine wpList_append_own _ rfl _ _ 25 rfl (w.heap.size + 1 + 1 + 1 + 1) 30 i0 _ 5 40 und_hands hi hz0 hz1 hz2 rfl (by decide) _ _ _ rfl HO1.out ⟨b28, 0, none⟩ 1 1 (allAt j).cells rfl rfl (holds_news f28_0) (hand_one _) (by unfold maxLen; omega) (by omega) (by omega) ?_); intro v5 w5 hown5 hgrow5 _; obtain ⟨A5, c5, rfl, _⟩ := row5_val hown5; have ho5 := OwnHands.snoc hown5; simp only [hlen] at ho5 ⊢; have HO5 := Lib.hid ho5; have HG5 := Lib.hid hgrow5; clear hown5 hgrow5 ho5)
     exact hK _ _ (Below.refl _ _) rfl
    ·intro xq w1 hb1 hx K hK0
     have hK := fun v w' hb => hK0 v w' (.inl hb)
     have e24 : xq 24 = .slice (some ⟨w.heap.size + 1 + 1, 0, none⟩) 3 3 := hx 2 (by rfl) (by rfl)
     have e25 : xq 25 = .int .i64 (j : Int) := hx 3 (by rfl) (by rfl)
     clear hx hKc hK0
     have g0 : w1.cell? ⟨w.heap.size + 1 + 1, j * 5, none⟩ = some (.int .i64 (allAt j).spot) := (hb1.cell (p := ⟨w.heap.size + 1 + 1, j * 5, none⟩) (show w.heap.size + 1 + 1 < w.heap.size + 1 + 1 + 1 by omega)).trans G0.out
     have g1 : w1.cell? ⟨w.heap.size + 1 + 1, j * 5 + 1, none⟩ = some (.int .i64 (allAt j).g0) := (hb1.cell (p := ⟨w.heap.size + 1 + 1, j * 5 + 1, none⟩) (show w.heap.size + 1 + 1 < w.heap.size + 1 + 1 + 1 by omega)).trans G1.out
     have g2 : w1.cell? ⟨w.heap.size + 1 + 1, j * 5 + 2, none⟩ = some (.int .i64 (allAt j).g1) := (hb1.cell (p := ⟨w.heap.size + 1 + 1, j * 5 + 2, none⟩) (show w.heap.size + 1 + 1 < w.heap.size + 1 + 1 + 1 by omega)).trans G2.out
     have g3 : w1.cell? ⟨w.heap.size + 1 + 1, j * 5 + 3, none⟩ = some (.int .i64 (allAt j).g2) := (hb1.cell (p := ⟨w.heap.size + 1 + 1, j * 5 + 3, none⟩) (show w.heap.size + 1 + 1 < w.heap.size + 1 + 1 + 1 by omega)).trans G3.out
     have g4 : w1.cell? ⟨w.heap.size + 1 + 1, j * 5 + 4, none⟩ = some (.int .i64 (allAt j).g3) := (hb1.cell (p := ⟨w.heap.size + 1 + 1, j * 5 + 4, none⟩) (show w.heap.size + 1 + 1 < w.heap.size + 1 + 1 + 1 by omega)).trans G4.out
     have hS1 : w.heap.size + 1 + 1 + 1 + 1 ≤ w1.heap.size := Nat.le_trans hS.out hb1.size
     simp only [frameOf, fill, setSlot, sg, Nat.reduceBEq, if_true, if_false, Nat.reduceAdd, Nat.reduceEqDiff, HSL.out] at hK ⊢
     simp only [e24, e25] at hK ⊢
     clear e24 e25
     go_wp2_with (at_builtin; (refine wpList_append_own _ rfl _ _ 25 rfl (w.heap.size + 1 + 1 + 1 + 1) 30 i0 _ 5 40 und_hands hi hz0 hz1 hz2 rfl (by decide) _ _ _ rfl HO1.out ⟨b28, 0, none⟩ 1 1 (allAt j).cells rfl rfl (holds_news f28_0) (hand_one _) (by unfold maxLen; omega) (by omega) (by omega) ?_); intro v5 w5 hown5 hgrow5 _; obtain ⟨A5, c5, rfl, _⟩ := row5_val hown5; have ho5 := OwnHands.snoc hown5; simp only [hlen] at ho5 ⊢; have HO5 := Lib.hid ho5; have HG5 := Lib.hid hgrow5; clear hown5 hgrow5 ho5)
     exact hK _ _ (Below.refl _ _) rfl
    ·intro xq w1 hb1 hx K hK0
     have hK := fun v w' hb => hK0 v w' (.inl hb)
     have e26 : xq 26 = .pointer (some ⟨w.heap.size + 1 + 1, j * 5, none⟩) := hx 4 (by rfl) (by rfl)
     clear hx hKc hK0
     have g0 : w1.cell? ⟨w.heap.size + 1 + 1, j * 5, none⟩ = some (.int .i64 (allAt j).spot) := (hb1.cell (p := ⟨w.heap.size + 1 + 1, j * 5, none⟩) (show w.heap.size + 1 + 1 < w.heap.size + 1 + 1 + 1 by omega)).trans G0.out
     have g1 : w1.cell? ⟨w.heap.size + 1 + 1, j * 5 + 1, none⟩ = some (.int .i64 (allAt j).g0) := (hb1.cell (p := ⟨w.heap.size + 1 + 1, j * 5 + 1, none⟩) (show w.heap.size + 1 + 1 < w.heap.size + 1 + 1 + 1 by omega)).trans G1.out
     have g2 : w1.cell? ⟨w.heap.size + 1 + 1, j * 5 + 2, none⟩ = some (.int .i64 (allAt j).g1) := (hb1.cell (p := ⟨w.heap.size + 1 + 1, j * 5 + 2, none⟩) (show w.heap.size + 1 + 1 < w.heap.size + 1 + 1 + 1 by omega)).trans G2.out
     have g3 : w1.cell? ⟨w.heap.size + 1 + 1, j * 5 + 3, none⟩ = some (.int .i64 (allAt j).g2) := (hb1.cell (p := ⟨w.heap.size + 1 + 1, j * 5 + 3, none⟩) (show w.heap.size + 1 + 1 < w.heap.size + 1 + 1 + 1 by omega)).trans G3.out
     have g4 : w1.cell? ⟨w.heap.size + 1 + 1, j * 5 + 4, none⟩ = some (.int .i64 (allAt j).g3) := (hb1.cell (p := ⟨w.heap.size + 1 + 1, j * 5 + 4, none⟩) (show w.heap.size + 1 + 1 < w.heap.size + 1 + 1 + 1 by omega)).trans G4.out
     have hS1 : w.heap.size + 1 + 1 + 1 + 1 ≤ w1.heap.size := Nat.le_trans hS.out hb1.size
     simp only [frameOf, fill, setSlot, sg, Nat.reduceBEq, if_true, if_false, Nat.reduceAdd, Nat.reduceEqDiff, HSL.out] at hK ⊢
     simp only [e26] at hK ⊢
     clear e26
     go_wp2_with (at_builtin; (refine wpList_append_own _ rfl _ _ 25 rfl (w.heap.size + 1 + 1 + 1 + 1) 30 i0 _ 5 40 und_hands hi hz0 hz1 hz2 rfl (by decide) _ _ _ rfl HO1.out ⟨b28, 0, none⟩ 1 1 (allAt j).cells rfl rfl (holds_news f28_0) (hand_one _) (by unfold maxLen; omega) (by omega) (by omega) ?_); intro v5 w5 hown5 hgrow5 _; obtain ⟨A5, c5, rfl, _⟩ := row5_val hown5; have ho5 := OwnHands.snoc hown5; simp only [hlen] at ho5 ⊢; have HO5 := Lib.hid ho5; have HG5 := Lib.hid hgrow5; clear hown5 hgrow5 ho5)
     exact hK _ _ (Below.refl _ _) rfl
    ·intro xq w1 hb1 hx K hK0
     have hK := fun v w' hb => hK0 v w' (.inl hb)
     have e27 : xq 27 = .agg #[.int .i64 (allAt j).spot, .int .i64 (allAt j).g0, .int .i64 (allAt j).g1, .int .i64 (allAt j).g2, .int .i64 (allAt j).g3] := hx 5 (by rfl) (by rfl)
     clear hx hKc hK0
     have g0 : w1.cell? ⟨w.heap.size + 1 + 1, j * 5, none⟩ = some (.int .i64 (allAt j).spot) := (hb1.cell (p := ⟨w.heap.size + 1 + 1, j * 5, none⟩) (show w.heap.size + 1 + 1 < w.heap.size + 1 + 1 + 1 by omega)).trans G0.out
     have g1 : w1.cell? ⟨w.heap.size + 1 + 1, j * 5 + 1, none⟩ = some (.int .i64 (allAt j).g0) := (hb1.cell (p := ⟨w.heap.size + 1 + 1, j * 5 + 1, none⟩) (show w.heap.size + 1 + 1 < w.heap.size + 1 + 1 + 1 by omega)).trans G1.out
     have g2 : w1.cell? ⟨w.heap.size + 1 + 1, j * 5 + 2, none⟩ = some (.int .i64 (allAt j).g1) := (hb1.cell (p := ⟨w.heap.size + 1 + 1, j * 5 + 2, none⟩) (show w.heap.size + 1 + 1 < w.heap.size + 1 + 1 + 1 by omega)).trans G2.out
     have g3 : w1.cell? ⟨w.heap.size + 1 + 1, j * 5 + 3, none⟩ = some (.int .i64 (allAt j).g2) := (hb1.cell (p := ⟨w.heap.size + 1 + 1, j * 5 + 3, none⟩) (show w.heap.size + 1 + 1 < w.heap.size + 1 + 1 + 1 by omega)).trans G3.out
     have g4 : w1.cell? ⟨w.heap.size + 1 + 1, j * 5 + 4, none⟩ = some (.int .i64 (allAt j).g3) := (hb1.cell (p := ⟨w.heap.size + 1 + 1, j * 5 + 4, none⟩) (show w.heap.size + 1 + 1 < w.heap.size + 1 + 1 + 1 by omega)).trans G4.out
     have hS1 : w.heap.size + 1 + 1 + 1 + 1 ≤ w1.heap.size := Nat.le_trans hS.out hb1.size
     simp only [frameOf, fill, setSlot, sg, Nat.reduceBEq, if_true, if_false, Nat.reduceAdd, Nat.reduceEqDiff, HSL.out] at hK ⊢
     simp only [e27] at hK ⊢
     clear e27
     go_wp2_with (at_builtin; (refine wpList_append_own _ rfl _ _ 25 rfl (w.heap.size + 1 + 1 + 1 + 1) 30 i0 _ 5 40 und_hands hi hz0 hz1 hz2 rfl (by decide) _ _ _ rfl HO1.out ⟨b28, 0, none⟩ 1 1 (allAt j).cells rfl rfl (holds_news f28_0) (hand_one _) (by unfold maxLen; omega) (by omega) (by omega) ?_); intro v5 w5 hown5 hgrow5 _; obtain ⟨A5, c5, rfl, _⟩ := row5_val hown5; have ho5 := OwnHands.snoc hown5; simp only [hlen] at ho5 ⊢; have HO5 := Lib.hid ho5; have HG5 := Lib.hid hgrow5; clear hown5 hgrow5 ho5)
     exact hK _ _ ((Below.refl _ _).alloc (Nat.le_refl _) _) ⟨_, rfl, Holds.new _ _ _⟩
    ·intro xq w1 hb1 hx K hK0
     have hK := fun v w' hb => hK0 v w' (.inr hb)
     have e23 : xq 23 = sv := hx 1 (by rfl) (by rfl)
     obtain ⟨b28, e28, f28_0⟩ := hx 6 (by rfl) (by rfl)
     have fio_0 : OwnHands w1 (w.heap.size + 1 + 1 + 1 + 1) sv ((js.take k).map allAt) := hx 11 (by rfl) (by rfl)
     have fic_0 : Holds w1 (w.heap.size + 1 + 1 + 1) 27 #[.int .i64 1200, .int .i64 300, sv] := hx 10 (by rfl) (by rfl)
     clear hx hKc hK0
     have g0 : w1.cell? ⟨w.heap.size + 1 + 1, j * 5, none⟩ = some (.int .i64 (allAt j).spot) := (hb1.cell (p := ⟨w.heap.size + 1 + 1, j * 5, none⟩) (show w.heap.size + 1 + 1 < w.heap.size + 1 + 1 + 1 by omega)).trans G0.out
     have g1 : w1.cell? ⟨w.heap.size + 1 + 1, j * 5 + 1, none⟩ = some (.int .i64 (allAt j).g0) := (hb1.cell (p := ⟨w.heap.size + 1 + 1, j * 5 + 1, none⟩) (show w.heap.size + 1 + 1 < w.heap.size + 1 + 1 + 1 by omega)).trans G1.out
     have g2 : w1.cell? ⟨w.heap.size + 1 + 1, j * 5 + 2, none⟩ = some (.int .i64 (allAt j).g1) := (hb1.cell (p := ⟨w.heap.size + 1 + 1, j * 5 + 2, none⟩) (show w.heap.size + 1 + 1 < w.heap.size + 1 + 1 + 1 by omega)).trans G2.out
     have g3 : w1.cell? ⟨w.heap.size + 1 + 1, j * 5 + 3, none⟩ = some (.int .i64 (allAt j).g2) := (hb1.cell (p := ⟨w.heap.size + 1 + 1, j * 5 + 3, none⟩) (show w.heap.size + 1 + 1 < w.heap.size + 1 + 1 + 1 by omega)).trans G3.out
     have g4 : w1.cell? ⟨w.heap.size + 1 + 1, j * 5 + 4, none⟩ = some (.int .i64 (allAt j).g3) := (hb1.cell (p := ⟨w.heap.size + 1 + 1, j * 5 + 4, none⟩) (show w.heap.size + 1 + 1 < w.heap.size + 1 + 1 + 1 by omega)).trans G4.out
     have hS1 : w.heap.size + 1 + 1 + 1 + 1 ≤ w1.heap.size := Nat.le_trans hS.out hb1.size
     have HO1 : Hid (w1.ownsRow (w.heap.size + 1 + 1 + 1 + 1) 30 5 sv ((js.take k).map allAt).length (((js.take k).map allAt).flatMap Hf.cells)) := Lib.hid fio_0
     have hlen : ((js.take k).map allAt).length = k := by rw [List.length_map, List.length_take]; omega
     simp only [frameOf, fill, setSlot, sg, Nat.reduceBEq, if_true, if_false, Nat.reduceAdd, Nat.reduceEqDiff, HSL.out] at hK ⊢
     simp only [e23, e28] at hK ⊢
     clear e23 e28
     go_wp2_with (at_builtin; (refine wpList_append_own _ rfl _ _ 25 rfl (w.heap.size + 1 + 1 + 1 + 1) 30 i0 _ 5 40 und_hands hi hz0 hz1 hz2 rfl (by decide) _ _ _ rfl HO1.out ⟨b28, 0, none⟩ 1 1 (allAt j).cells rfl rfl (holds_news f28_0) (hand_one _) (by unfold maxLen; omega) (by omega) (by omega) ?_); intro v5 w5 hown5 hgrow5 _; obtain ⟨A5, c5, rfl, _⟩ := row5_val hown5; have ho5 := OwnHands.snoc hown5; simp only [hlen] at ho5 ⊢; have HO5 := Lib.hid ho5; have HG5 := Lib.hid hgrow5; clear hown5 hgrow5 ho5)
     refine hK _ _ ⟨(hb1.trans (Below.grown (Below.refl _ _) HG5.out (by omega) (fun k hk => Nat.le_trans (by omega) (row5_block HO1.out k hk)))), ?_⟩ ⟨_, _, rfl, HO5.out⟩
     intro jq xq hd hne hv
     match jq, hd, hne, hv with
     | 0, _, _, hv => exact hv
     | 1, _, _, hv => exact hv
     | 2, _, _, hv => exact hv
     | 3, _, _, hv => exact hv
     | 4, _, _, hv => exact hv
     | 5, _, _, hv => exact hv
     | 6, hd, _, _ => exact absurd hd (by decide)
     | 7, _, hne, _ => exact absurd rfl hne
     | 8, _, _, hv => exact hv
     | 9, _, _, hv => obtain ⟨_, _, h9, _⟩ := hv; exact (row_other h9 fic_0 HO1.out hlen).elim
     | 10, _, _, hv => exact hv.low (Below.grown (Below.refl _ _) HG5.out hS1 (row5_block HO1.out)) (by omega)
     | 11, hd, _, _ => exact absurd hd (by decide)
     | _ + 12, _, _, _ => trivial
    ·intro xq w1 hb1 hx K hK0
     have hK := fun v w' hb => hK0 v w' (.inl hb)
     clear hx hKc hK0
     have g0 : w1.cell? ⟨w.heap.size + 1 + 1, j * 5, none⟩ = some (.int .i64 (allAt j).spot) := (hb1.cell (p := ⟨w.heap.size + 1 + 1, j * 5, none⟩) (show w.heap.size + 1 + 1 < w.heap.size + 1 + 1 + 1 by omega)).trans G0.out
     have g1 : w1.cell? ⟨w.heap.size + 1 + 1, j * 5 + 1, none⟩ = some (.int .i64 (allAt j).g0) := (hb1.cell (p := ⟨w.heap.size + 1 + 1, j * 5 + 1, none⟩) (show w.heap.size + 1 + 1 < w.heap.size + 1 + 1 + 1 by omega)).trans G1.out
     have g2 : w1.cell? ⟨w.heap.size + 1 + 1, j * 5 + 2, none⟩ = some (.int .i64 (allAt j).g1) := (hb1.cell (p := ⟨w.heap.size + 1 + 1, j * 5 + 2, none⟩) (show w.heap.size + 1 + 1 < w.heap.size + 1 + 1 + 1 by omega)).trans G2.out
     have g3 : w1.cell? ⟨w.heap.size + 1 + 1, j * 5 + 3, none⟩ = some (.int .i64 (allAt j).g2) := (hb1.cell (p := ⟨w.heap.size + 1 + 1, j * 5 + 3, none⟩) (show w.heap.size + 1 + 1 < w.heap.size + 1 + 1 + 1 by omega)).trans G3.out
     have g4 : w1.cell? ⟨w.heap.size + 1 + 1, j * 5 + 4, none⟩ = some (.int .i64 (allAt j).g3) := (hb1.cell (p := ⟨w.heap.size + 1 + 1, j * 5 + 4, none⟩) (show w.heap.size + 1 + 1 < w.heap.size + 1 + 1 + 1 by omega)).trans G4.out
     have hS1 : w.heap.size + 1 + 1 + 1 + 1 ≤ w1.heap.size := Nat.le_trans hS.out hb1.size
     simp only [frameOf, fill, setSlot, sg, Nat.reduceBEq, if_true, if_false, Nat.reduceAdd, Nat.reduceEqDiff, HSL.out] at hK ⊢
     go_wp2_with (at_builtin; (refine wpList_append_own _ rfl _ _ 25 rfl (w.heap.size + 1 + 1 + 1 + 1) 30 i0 _ 5 40 und_hands hi hz0 hz1 hz2 rfl (by decide) _ _ _ rfl HO1.out ⟨b28, 0, none⟩ 1 1 (allAt j).cells rfl rfl (holds_news f28_0) (hand_one _) (by unfold maxLen; omega) (by omega) (by omega) ?_); intro v5 w5 hown5 hgrow5 _; obtain ⟨A5, c5, rfl, _⟩ := row5_val hown5; have ho5 := OwnHands.snoc hown5; simp only [hlen] at ho5 ⊢; have HO5 := Lib.hid ho5; have HG5 := Lib.hid hgrow5; clear hown5 hgrow5 ho5)
     exact hK _ _ (Below.refl _ _) rfl
    ·intro xq w1 hb1 hx K hK0
     have hK := fun v w' hb => hK0 v w' (.inr hb)
     obtain ⟨A29, c29, e29, f29_0⟩ := hx 7 (by rfl) (by rfl)
     have e30 : xq 30 = .pointer (some ⟨w.heap.size + 1 + 1 + 1, 2, none⟩) := hx 8 (by rfl) (by rfl)
     have fic_0 : Holds w1 (w.heap.size + 1 + 1 + 1) 27 #[.int .i64 1200, .int .i64 300, sv] := hx 10 (by rfl) (by rfl)
     clear hx hKc hK0
     have g0 : w1.cell? ⟨w.heap.size + 1 + 1, j * 5, none⟩ = some (.int .i64 (allAt j).spot) := (hb1.cell (p := ⟨w.heap.size + 1 + 1, j * 5, none⟩) (show w.heap.size + 1 + 1 < w.heap.size + 1 + 1 + 1 by omega)).trans G0.out
     have g1 : w1.cell? ⟨w.heap.size + 1 + 1, j * 5 + 1, none⟩ = some (.int .i64 (allAt j).g0) := (hb1.cell (p := ⟨w.heap.size + 1 + 1, j * 5 + 1, none⟩) (show w.heap.size + 1 + 1 < w.heap.size + 1 + 1 + 1 by omega)).trans G1.out
     have g2 : w1.cell? ⟨w.heap.size + 1 + 1, j * 5 + 2, none⟩ = some (.int .i64 (allAt j).g1) := (hb1.cell (p := ⟨w.heap.size + 1 + 1, j * 5 + 2, none⟩) (show w.heap.size + 1 + 1 < w.heap.size + 1 + 1 + 1 by omega)).trans G2.out
     have g3 : w1.cell? ⟨w.heap.size + 1 + 1, j * 5 + 3, none⟩ = some (.int .i64 (allAt j).g2) := (hb1.cell (p := ⟨w.heap.size + 1 + 1, j * 5 + 3, none⟩) (show w.heap.size + 1 + 1 < w.heap.size + 1 + 1 + 1 by omega)).trans G3.out
     have g4 : w1.cell? ⟨w.heap.size + 1 + 1, j * 5 + 4, none⟩ = some (.int .i64 (allAt j).g3) := (hb1.cell (p := ⟨w.heap.size + 1 + 1, j * 5 + 4, none⟩) (show w.heap.size + 1 + 1 < w.heap.size + 1 + 1 + 1 by omega)).trans G4.out
     have hS1 : w.heap.size + 1 + 1 + 1 + 1 ≤ w1.heap.size := Nat.le_trans hS.out hb1.size
     obtain ⟨c0, c1, c2⟩ := fic_0.c3
     obtain ⟨y0, y1, y2⟩ := fic_0.f3
     simp only [frameOf, fill, setSlot, sg, Nat.reduceBEq, if_true, if_false, Nat.reduceAdd, Nat.reduceEqDiff, HSL.out] at hK ⊢
     have E29 := Lib.hid e29
     have E30 := Lib.hid e30
     simp only [e29, e30] at hK ⊢
     clear e29 e30
     go_wp2_with (at_builtin; (refine wpList_append_own _ rfl _ _ 25 rfl (w.heap.size + 1 + 1 + 1 + 1) 30 i0 _ 5 40 und_hands hi hz0 hz1 hz2 rfl (by decide) _ _ _ rfl HO1.out ⟨b28, 0, none⟩ 1 1 (allAt j).cells rfl rfl (holds_news f28_0) (hand_one _) (by unfold maxLen; omega) (by omega) (by omega) ?_); intro v5 w5 hown5 hgrow5 _; obtain ⟨A5, c5, rfl, _⟩ := row5_val hown5; have ho5 := OwnHands.snoc hown5; simp only [hlen] at ho5 ⊢; have HO5 := Lib.hid ho5; have HG5 := Lib.hid hgrow5; clear hown5 hgrow5 ho5)
     refine hK undef _ ⟨(hb1.trans (Below.setCell (p := ⟨w.heap.size + 1 + 1 + 1, 2, none⟩) (Below.refl _ _) (Nat.le_refl _) _)), ?_⟩ ⟨A29, c29, zp4, f29_0.far (Nat.lt_succ_self _) _⟩
     intro jq xq hd hne hv
     match jq, hd, hne, hv with
     | 0, _, _, hv => exact hv
     | 1, _, _, hv => exact hv
     | 2, _, _, hv => exact hv
     | 3, _, _, hv => exact hv
     | 4, _, _, hv => exact hv
     | 5, _, _, hv => exact hv
     | 6, hd, _, _ => exact absurd hd (by decide)
     | 7, _, _, hv => obtain ⟨z, y, e, h⟩ := hv; exact ⟨z, y, e, h.far (Nat.lt_succ_self _) _⟩
     | 8, _, _, hv => exact hv
     | 9, _, hne, _ => exact absurd rfl hne
     | 10, hd, _, _ => exact absurd hd (by decide)
     | 11, hd, _, _ => exact absurd hd (by decide)
     | _ + 12, _, _, _ => trivial
   ·intro xq w1 hb1 hx
    have e22 : xq 22 = .pointer (some ⟨w.heap.size + 1 + 1 + 1, 2, none⟩) := hx 0 (by decide)
    have e23 : xq 23 = sv := hx 1 (by decide)
    have e24 : xq 24 = .slice (some ⟨w.heap.size + 1 + 1, 0, none⟩) 3 3 := hx 2 (by decide)
    have e25 : xq 25 = .int .i64 (j : Int) := hx 3 (by decide)
    have e26 : xq 26 = .pointer (some ⟨w.heap.size + 1 + 1, j * 5, none⟩) := hx 4 (by decide)
    have e27 : xq 27 = .agg #[.int .i64 (allAt j).spot, .int .i64 (allAt j).g0, .int .i64 (allAt j).g1, .int .i64 (allAt j).g2, .int .i64 (allAt j).g3] := hx 5 (by decide)
    obtain ⟨A29, c29, e29, f29_0⟩ := hx 7 (by decide)
    have e30 : xq 30 = .pointer (some ⟨w.heap.size + 1 + 1 + 1, 2, none⟩) := hx 8 (by decide)
    obtain ⟨An9, cn9, fn9_0, fn9_1⟩ := hx 9 (by decide)
    clear hx
    have g0 : w1.cell? ⟨w.heap.size + 1 + 1, j * 5, none⟩ = some (.int .i64 (allAt j).spot) := (hb1.cell (p := ⟨w.heap.size + 1 + 1, j * 5, none⟩) (show w.heap.size + 1 + 1 < w.heap.size + 1 + 1 + 1 by omega)).trans G0.out
    have g1 : w1.cell? ⟨w.heap.size + 1 + 1, j * 5 + 1, none⟩ = some (.int .i64 (allAt j).g0) := (hb1.cell (p := ⟨w.heap.size + 1 + 1, j * 5 + 1, none⟩) (show w.heap.size + 1 + 1 < w.heap.size + 1 + 1 + 1 by omega)).trans G1.out
    have g2 : w1.cell? ⟨w.heap.size + 1 + 1, j * 5 + 2, none⟩ = some (.int .i64 (allAt j).g1) := (hb1.cell (p := ⟨w.heap.size + 1 + 1, j * 5 + 2, none⟩) (show w.heap.size + 1 + 1 < w.heap.size + 1 + 1 + 1 by omega)).trans G2.out
    have g3 : w1.cell? ⟨w.heap.size + 1 + 1, j * 5 + 3, none⟩ = some (.int .i64 (allAt j).g2) := (hb1.cell (p := ⟨w.heap.size + 1 + 1, j * 5 + 3, none⟩) (show w.heap.size + 1 + 1 < w.heap.size + 1 + 1 + 1 by omega)).trans G3.out
    have g4 : w1.cell? ⟨w.heap.size + 1 + 1, j * 5 + 4, none⟩ = some (.int .i64 (allAt j).g3) := (hb1.cell (p := ⟨w.heap.size + 1 + 1, j * 5 + 4, none⟩) (show w.heap.size + 1 + 1 < w.heap.size + 1 + 1 + 1 by omega)).trans G4.out
    have hS1 : w.heap.size + 1 + 1 + 1 + 1 ≤ w1.heap.size := Nat.le_trans hS.out hb1.size
    simp only [frameOf, fill, setSlot, sg, Nat.reduceBEq, if_true, if_false, Nat.reduceAdd, Nat.reduceEqDiff, HSL.out]
    simp only [e22, e23, e24, e25, e26, e27, e29, e30]
    clear e22 e23 e24 e25 e26 e27 e29 e30
    refine hKc _ _ ?_
    go_wp2_with fail
    go_roundw
    case rel =>
     have hk1 : (js.take (k + 1)).map allAt = (js.take k).map allAt ++ [allAt j] := by rw [List.take_add_one, HJ.out, Option.toList_some, List.map_append, List.map_singleton]
     refine ⟨k + 1, _, by go_num, hlt, H0.out.low hb1 (by omega), H1.out.low hb1 (by omega), ?_, fn9_0, ?_, HB.out.trans (hb1.mono (by omega)), Nat.le_trans hS.out hb1.size⟩
     ·exact HandsAt.low HA3.out hb1 (by omega)
     ·rw [hk1]; exact fn9_1
    case measure => simp [intOf]; omega
  ·have hkl : k = js.length := by omega
   subst hkl
   have hlen : Hid (((js.take js.length).map allAt).length = js.length) := Lib.hid (by rw [List.take_length, List.length_map])
   obtain ⟨A7, c7, hsv, _⟩ := OwnHands.at_ HO.out
   rw [hlen.out] at hsv
   subst hsv
   go_wp2_with fail
   rename_i Kc hKc
   have HSL := Lib.hid (show slotsOf [some 32, some 33, some 34, some 35, some 36, some 37, none, none] = [32, 33, 34, 35, 36, 37] from rfl)
   refine wp_region_partsG (by kernel_rfl) [some 32, some 33, some 34, some 35, some 36, some 37, none, none] (fun jq xq w' => match jq with
    | 0 => xq 32 = .agg #[.int .i64 34, .int .i64 4, .int .i64 1, .int .i64 3, .int .i64 9]
    | 1 => xq 33 = .agg #[.int .i64 30, .int .i64 6, .int .i64 2, .int .i64 4, .int .i64 7]
    | 2 => xq 34 = .agg #[.int .i64 24, .int .i64 10, .int .i64 3, .int .i64 8, .int .i64 4]
    | 3 => ∃ b, xq 35 = .slice (some ⟨b, 0, none⟩) 3 3 ∧ w.heap.size + 1 + 1 + 1 + 1 ≤ b ∧ Holds w' b 128 (threeGr.flatMap Gr.cells).toArray
    | 4 => ∃ b, xq 36 = .agg #[.int .i64 5, .int .i64 2, .slice (some ⟨b, 0, none⟩) 3 3] ∧ w.heap.size + 1 + 1 + 1 + 1 ≤ b ∧ Holds w' b 128 (threeGr.flatMap Gr.cells).toArray
    | 5 => xq 37 = .agg #[.int .i64 1200, .int .i64 300, .slice A7 js.length c7]
    | 6 => ∃ b, Holds w' w.heap.size 24 #[.int .i64 5, .int .i64 2, .slice (some ⟨b, 0, none⟩) 3 3] ∧ w.heap.size + 1 + 1 + 1 + 1 ≤ b ∧ Holds w' b 128 (threeGr.flatMap Gr.cells).toArray
    | 7 => Holds w' (w.heap.size + 1) 27 #[.int .i64 1200, .int .i64 300, .slice A7 js.length c7]
    | 8 => Holds w' (w.heap.size + 1 + 1 + 1) 27 #[.int .i64 1200, .int .i64 300, .slice A7 js.length c7]
    | 9 => OwnHands w' (w.heap.size + 1 + 1 + 1 + 1) (.slice A7 js.length c7) ((js.take js.length).map allAt)
    | 10 => Holds w' w.heap.size 24 #[.int .i64 0, .int .i64 0, .slice none 0 0]
    | 11 => Holds w' (w.heap.size + 1) 27 #[.int .i64 0, .int .i64 0, .slice none 0 0]
    | _ => True) [[32], [33], [34], [35], [36], [37], [], [], [], [], [], []] [(6, 10), (7, 11)] (Below w.heap.size wr) (by kernel_rfl) ?_ ?_ (fun w' w'' hb h => h.trans (hb.mono (Nat.le_trans (by have := hS.out; omega) h.size))) (Below.refl _ _) ?_ ?_ ?_
   ·intro jq xq xq' wq h hv
    match jq, h, hv with
    | 0, h, hv => show xq' 32 = .agg #[.int .i64 34, .int .i64 4, .int .i64 1, .int .i64 3, .int .i64 9]; rw [← h 32 (by decide)]; exact hv
    | 1, h, hv => show xq' 33 = .agg #[.int .i64 30, .int .i64 6, .int .i64 2, .int .i64 4, .int .i64 7]; rw [← h 33 (by decide)]; exact hv
    | 2, h, hv => show xq' 34 = .agg #[.int .i64 24, .int .i64 10, .int .i64 3, .int .i64 8, .int .i64 4]; rw [← h 34 (by decide)]; exact hv
    | 3, h, hv => show ∃ b, xq' 35 = .slice (some ⟨b, 0, none⟩) 3 3 ∧ w.heap.size + 1 + 1 + 1 + 1 ≤ b ∧ Holds wq b 128 (threeGr.flatMap Gr.cells).toArray; rw [← h 35 (by decide)]; exact hv
    | 4, h, hv => show ∃ b, xq' 36 = .agg #[.int .i64 5, .int .i64 2, .slice (some ⟨b, 0, none⟩) 3 3] ∧ w.heap.size + 1 + 1 + 1 + 1 ≤ b ∧ Holds wq b 128 (threeGr.flatMap Gr.cells).toArray; rw [← h 36 (by decide)]; exact hv
    | 5, h, hv => show xq' 37 = .agg #[.int .i64 1200, .int .i64 300, .slice A7 js.length c7]; rw [← h 37 (by decide)]; exact hv
    | 6, h, hv => exact hv
    | 7, h, hv => exact hv
    | 8, h, hv => exact hv
    | 9, h, hv => exact hv
    | 10, h, hv => exact hv
    | 11, h, hv => exact hv
    | _ + 12, _, _ => trivial
   ·intro jq xq wq w' hb' hv
    match jq, hv with
    | 0, hv => exact hv
    | 1, hv => exact hv
    | 2, hv => exact hv
    | 3, ⟨b0, h0, h1, h2⟩ => exact ⟨b0, h0, h1, h2.up hb'⟩
    | 4, ⟨b0, h0, h1, h2⟩ => exact ⟨b0, h0, h1, h2.up hb'⟩
    | 5, hv => exact hv
    | 6, ⟨b0, h0, h1, h2⟩ => exact ⟨b0, h0.up hb', h1, h2.up hb'⟩
    | 7, h0 => exact h0.up hb'
    | 8, h0 => exact h0.up hb'
    | 9, h0 => exact h0.up hb'
    | 10, h0 => exact h0.up hb'
    | 11, h0 => exact h0.up hb'
    | _ + 12, _ => trivial
   ·intro jq hj
    match jq, hj with
    | 0, hj => exact absurd hj (by decide)
    | 1, hj => exact absurd hj (by decide)
    | 2, hj => exact absurd hj (by decide)
    | 3, hj => exact absurd hj (by decide)
    | 4, hj => exact absurd hj (by decide)
    | 5, hj => exact absurd hj (by decide)
    | 6, hj => exact absurd hj (by decide)
    | 7, hj => exact absurd hj (by decide)
    | 8, _ => exact HC.out
    | 9, _ => exact HO.out
    | 10, _ => exact H0.out
    | 11, _ => exact H1.out
    | _ + 12, _ => trivial
   ·refine ⟨?_, ?_, ?_, ?_, ?_, ?_, ?_, ?_, trivial⟩
    ·intro xq w1 hb1 hx K hK0
     have hK := fun v w' hb => hK0 v w' (.inl hb)
     clear hx hKc hK0
     have hS1 : w.heap.size + 1 + 1 + 1 + 1 ≤ w1.heap.size := Nat.le_trans hS.out hb1.size
     simp only [frameOf, fill, setSlot, sg, Nat.reduceBEq, if_true, if_false, Nat.reduceAdd, Nat.reduceEqDiff, HSL.out] at hK ⊢
     go_wp2_with (fail)
     exact hK _ _ (Below.refl _ _) rfl
    ·intro xq w1 hb1 hx K hK0
     have hK := fun v w' hb => hK0 v w' (.inl hb)
     clear hx hKc hK0
     have hS1 : w.heap.size + 1 + 1 + 1 + 1 ≤ w1.heap.size := Nat.le_trans hS.out hb1.size
     simp only [frameOf, fill, setSlot, sg, Nat.reduceBEq, if_true, if_false, Nat.reduceAdd, Nat.reduceEqDiff, HSL.out] at hK ⊢
     go_wp2_with (fail)
     exact hK _ _ (Below.refl _ _) rfl
    ·intro xq w1 hb1 hx K hK0
     have hK := fun v w' hb => hK0 v w' (.inl hb)
     clear hx hKc hK0
     have hS1 : w.heap.size + 1 + 1 + 1 + 1 ≤ w1.heap.size := Nat.le_trans hS.out hb1.size
     simp only [frameOf, fill, setSlot, sg, Nat.reduceBEq, if_true, if_false, Nat.reduceAdd, Nat.reduceEqDiff, HSL.out] at hK ⊢
     go_wp2_with (fail)
     exact hK _ _ (Below.refl _ _) rfl
    ·intro xq w1 hb1 hx K hK0
     have hK := fun v w' hb => hK0 v w' (.inl hb)
     have e32 : xq 32 = .agg #[.int .i64 34, .int .i64 4, .int .i64 1, .int .i64 3, .int .i64 9] := hx 0 (by rfl) (by rfl)
     have e33 : xq 33 = .agg #[.int .i64 30, .int .i64 6, .int .i64 2, .int .i64 4, .int .i64 7] := hx 1 (by rfl) (by rfl)
     have e34 : xq 34 = .agg #[.int .i64 24, .int .i64 10, .int .i64 3, .int .i64 8, .int .i64 4] := hx 2 (by rfl) (by rfl)
     clear hx hKc hK0
     have hS1 : w.heap.size + 1 + 1 + 1 + 1 ≤ w1.heap.size := Nat.le_trans hS.out hb1.size
     simp only [frameOf, fill, setSlot, sg, Nat.reduceBEq, if_true, if_false, Nat.reduceAdd, Nat.reduceEqDiff, HSL.out] at hK ⊢
     simp only [e32, e33, e34] at hK ⊢
     clear e32 e33 e34
     go_wp2_with (fail)
     exact hK _ _ ((Below.refl _ _).alloc (Nat.le_refl _) _) ⟨_, rfl, hS1, Holds.new _ _ _⟩
    ·intro xq w1 hb1 hx K hK0
     have hK := fun v w' hb => hK0 v w' (.inl hb)
     obtain ⟨b35, e35, f35_0, f35_1⟩ := hx 3 (by rfl) (by rfl)
     clear hx hKc hK0
     have hS1 : w.heap.size + 1 + 1 + 1 + 1 ≤ w1.heap.size := Nat.le_trans hS.out hb1.size
     simp only [frameOf, fill, setSlot, sg, Nat.reduceBEq, if_true, if_false, Nat.reduceAdd, Nat.reduceEqDiff, HSL.out] at hK ⊢
     simp only [e35] at hK ⊢
     clear e35
     go_wp2_with (fail)
     exact hK _ _ (Below.refl _ _) ⟨b35, rfl, f35_0, f35_1⟩
    ·intro xq w1 hb1 hx K hK0
     have hK := fun v w' hb => hK0 v w' (.inl hb)
     have fic_0 : Holds w1 (w.heap.size + 1 + 1 + 1) 27 #[.int .i64 1200, .int .i64 300, .slice A7 js.length c7] := hx 8 (by rfl) (by rfl)
     clear hx hKc hK0
     have hS1 : w.heap.size + 1 + 1 + 1 + 1 ≤ w1.heap.size := Nat.le_trans hS.out hb1.size
     obtain ⟨c0, c1, c2⟩ := fic_0.c3
     simp only [frameOf, fill, setSlot, sg, Nat.reduceBEq, if_true, if_false, Nat.reduceAdd, Nat.reduceEqDiff, HSL.out] at hK ⊢
     go_wp2_with (fail)
     exact hK _ _ (Below.refl _ _) rfl
    ·intro xq w1 hb1 hx K hK0
     have hK := fun v w' hb => hK0 v w' (.inr hb)
     obtain ⟨b36, e36, f36_0, f36_1⟩ := hx 4 (by rfl) (by rfl)
     have fig_0 : Holds w1 w.heap.size 24 #[.int .i64 0, .int .i64 0, .slice none 0 0] := hx 10 (by rfl) (by rfl)
     clear hx hKc hK0
     have hS1 : w.heap.size + 1 + 1 + 1 + 1 ≤ w1.heap.size := Nat.le_trans hS.out hb1.size
     obtain ⟨v0, v1, v2⟩ := fig_0.c3
     obtain ⟨y0, y1, y2⟩ := fig_0.f3
     simp only [frameOf, fill, setSlot, sg, Nat.reduceBEq, if_true, if_false, Nat.reduceAdd, Nat.reduceEqDiff, HSL.out] at hK ⊢
     have E36 := Lib.hid e36
     simp only [e36] at hK ⊢
     clear e36
     go_wp2_with (fail)
     refine hK undef _ ⟨zg, ?_⟩ ⟨b36, zp4, f36_0, (by have h := f36_1; (repeat first | (with_reducible first | assumption | apply Holds.set3 | apply Holds.set4 | apply Holds.putL | ((refine Holds.new' _ _ ?_); (simp; done)) | refine Holds.alloc ?_ _ | refine Holds.drew ?_ | refine Holds.far ?_ (by simp only [ne_eq]; omega) _) | rfl))⟩
     intro jq xq hd hne hv
     match jq, hd, hne, hv with
     | 0, _, _, hv => exact hv
     | 1, _, _, hv => exact hv
     | 2, _, _, hv => exact hv
     | 3, _, _, hv => obtain ⟨b, e, hge, h⟩ := hv; exact ⟨b, e, hge, zp4⟩
     | 4, _, _, hv => obtain ⟨b, e, hge, h⟩ := hv; exact ⟨b, e, hge, zp4⟩
     | 5, _, _, hv => exact hv
     | 6, _, hne, _ => exact absurd rfl hne
     | 7, _, _, hv => have h : Holds _ _ _ _ := hv; show Holds _ _ _ _; (repeat first | (with_reducible first | assumption | apply Holds.set3 | apply Holds.set4 | apply Holds.putL | ((refine Holds.new' _ _ ?_); (simp; done)) | refine Holds.alloc ?_ _ | refine Holds.drew ?_ | refine Holds.far ?_ (by simp only [ne_eq]; omega) _) | rfl)
     | 8, _, _, hv => have h : Holds _ _ _ _ := hv; show Holds _ _ _ _; (repeat first | (with_reducible first | assumption | apply Holds.set3 | apply Holds.set4 | apply Holds.putL | ((refine Holds.new' _ _ ?_); (simp; done)) | refine Holds.alloc ?_ _ | refine Holds.drew ?_ | refine Holds.far ?_ (by simp only [ne_eq]; omega) _) | rfl)
     | 9, _, _, hv => exact ((hv.far (by first | exact Nat.lt_succ_self _ | (simp; done) | (simp; omega)) _).far (by first | exact Nat.lt_succ_self _ | (simp; done) | (simp; omega)) _).far (by first | exact Nat.lt_succ_self _ | (simp; done) | (simp; omega)) _
     | 10, hd, _, _ => exact absurd hd (by decide)
     | 11, _, _, hv => have h : Holds _ _ _ _ := hv; show Holds _ _ _ _; (repeat first | (with_reducible first | assumption | apply Holds.set3 | apply Holds.set4 | apply Holds.putL | ((refine Holds.new' _ _ ?_); (simp; done)) | refine Holds.alloc ?_ _ | refine Holds.drew ?_ | refine Holds.far ?_ (by simp only [ne_eq]; omega) _) | rfl)
     | _ + 12, _, _, _ => trivial
    ·intro xq w1 hb1 hx K hK0
     have hK := fun v w' hb => hK0 v w' (.inr hb)
     have e37 : xq 37 = .agg #[.int .i64 1200, .int .i64 300, .slice A7 js.length c7] := hx 5 (by rfl) (by rfl)
     have fir_0 : Holds w1 (w.heap.size + 1) 27 #[.int .i64 0, .int .i64 0, .slice none 0 0] := hx 11 (by rfl) (by rfl)
     clear hx hKc hK0
     have hS1 : w.heap.size + 1 + 1 + 1 + 1 ≤ w1.heap.size := Nat.le_trans hS.out hb1.size
     obtain ⟨v0, v1, v2⟩ := fir_0.c3
     obtain ⟨y0, y1, y2⟩ := fir_0.f3
     simp only [frameOf, fill, setSlot, sg, Nat.reduceBEq, if_true, if_false, Nat.reduceAdd, Nat.reduceEqDiff, HSL.out] at hK ⊢
     have E37 := Lib.hid e37
     simp only [e37] at hK ⊢
     clear e37
     go_wp2_with (fail)
     refine hK undef _ ⟨zg, ?_⟩ zp4
     intro jq xq hd hne hv
     match jq, hd, hne, hv with
     | 0, _, _, hv => exact hv
     | 1, _, _, hv => exact hv
     | 2, _, _, hv => exact hv
     | 3, _, _, hv => obtain ⟨b, e, hge, h⟩ := hv; exact ⟨b, e, hge, zp4⟩
     | 4, _, _, hv => obtain ⟨b, e, hge, h⟩ := hv; exact ⟨b, e, hge, zp4⟩
     | 5, _, _, hv => exact hv
     | 6, _, _, hv => obtain ⟨b, h0, hge, h⟩ := hv; exact ⟨b, zp4, hge, zp4⟩
     | 7, _, hne, _ => exact absurd rfl hne
     | 8, _, _, hv => have h : Holds _ _ _ _ := hv; show Holds _ _ _ _; (repeat first | (with_reducible first | assumption | apply Holds.set3 | apply Holds.set4 | apply Holds.putL | ((refine Holds.new' _ _ ?_); (simp; done)) | refine Holds.alloc ?_ _ | refine Holds.drew ?_ | refine Holds.far ?_ (by simp only [ne_eq]; omega) _) | rfl)
     | 9, _, _, hv => exact ((hv.far (by first | exact Nat.lt_succ_self _ | (simp; done) | (simp; omega)) _).far (by first | exact Nat.lt_succ_self _ | (simp; done) | (simp; omega)) _).far (by first | exact Nat.lt_succ_self _ | (simp; done) | (simp; omega)) _
     | 10, _, _, hv => have h : Holds _ _ _ _ := hv; show Holds _ _ _ _; (repeat first | (with_reducible first | assumption | apply Holds.set3 | apply Holds.set4 | apply Holds.putL | ((refine Holds.new' _ _ ?_); (simp; done)) | refine Holds.alloc ?_ _ | refine Holds.drew ?_ | refine Holds.far ?_ (by simp only [ne_eq]; omega) _) | rfl)
     | 11, hd, _, _ => exact absurd hd (by decide)
     | _ + 12, _, _, _ => trivial
   ·intro xq w1 hb1 hx
    have e32 : xq 32 = .agg #[.int .i64 34, .int .i64 4, .int .i64 1, .int .i64 3, .int .i64 9] := hx 0 (by decide)
    have e33 : xq 33 = .agg #[.int .i64 30, .int .i64 6, .int .i64 2, .int .i64 4, .int .i64 7] := hx 1 (by decide)
    have e34 : xq 34 = .agg #[.int .i64 24, .int .i64 10, .int .i64 3, .int .i64 8, .int .i64 4] := hx 2 (by decide)
    obtain ⟨b35, e35, f35_0, f35_1⟩ := hx 3 (by decide)
    obtain ⟨b36, e36, f36_0, f36_1⟩ := hx 4 (by decide)
    have e37 : xq 37 = .agg #[.int .i64 1200, .int .i64 300, .slice A7 js.length c7] := hx 5 (by decide)
    obtain ⟨bn6, fn6_0, fn6_1, fn6_2⟩ := hx 6 (by decide)
    have fn7_0 : Holds w1 (w.heap.size + 1) 27 #[.int .i64 1200, .int .i64 300, .slice A7 js.length c7] := hx 7 (by decide)
    have fio_0 : OwnHands w1 (w.heap.size + 1 + 1 + 1 + 1) (.slice A7 js.length c7) ((js.take js.length).map allAt) := hx 9 (by decide)
    clear hx
    have hS1 : w.heap.size + 1 + 1 + 1 + 1 ≤ w1.heap.size := Nat.le_trans hS.out hb1.size
    simp only [frameOf, fill, setSlot, sg, Nat.reduceBEq, if_true, if_false, Nat.reduceAdd, Nat.reduceEqDiff, HSL.out]
    simp only [e32, e33, e34, e35, e36, e37]
    clear e32 e33 e34 e35 e36 e37
    obtain ⟨A9, c9, hsv, hcl, hat⟩ := OwnHands.at_ fio_0
    rw [hlen.out] at hsv hcl
    rw [List.take_length] at hat
    cases hsv
    refine hKc _ _ ?_
    go_wp2_with fail
    exact ret_cells rfl rfl fn6_0 Try.underlying24 rfl (by kernel_rfl) rfl fn7_0 Try.underlying27 rfl (by kernel_rfl) rfl ⟨_, _, _, rfl, grades_of fn6_2, hat, hcl, HB.out.trans hb1⟩
end Go.Proofs.Ytifffonoipapgaa
