
import Derived.Test.YtifffonoipapgaaVAA
import Derived.Test.YtifffonoipapgaaVAC
import Derived.Test.YtifffonoipapgaaVAN
import Derived.Test.YtifffonoipapgaaVBB
set_option linter.unusedSimpArgs false
set_option linter.unusedVariables false
namespace Go.Proofs.Ytifffonoipapgaa
open Go.RowKit
theorem grow_set {w w' : World} {S : Nat} (h : w.grownBy w' (some S)) (i : Nat) (u : Value) : w.grownBy (w'.setCell ⟨S, i, none⟩ u) (some S) :=
 ⟨h.os, h.tape, h.output, by simpa using h.size, fun k hk hne => (Below.heap_setCell w' ⟨S, i, none⟩ u k (fun e => hne (by rw [e]))).trans (h.block k hk hne)⟩
theorem OwnInts.grown {w w' : World} {B mb : Nat} {v : Value} {xs : List Int} (h : OwnInts w B v xs) (hg : w.grownBy w' (some mb)) (hB : mb < B) : OwnInts w' B v xs := by
 obtain ⟨hl, h | ⟨g, cap, cur, e, hBg, hgg, r⟩⟩ := h
 ·exact ⟨hl, .inl h⟩
 ·exact ⟨hl, .inr ⟨g, cap, cur, e, hBg, (hg.block g (Array.getElem?_eq_some_iff.1 hgg).1 (fun e => by cases e; omega)).trans hgg, r⟩⟩
def loPrice (gs : List Gr) : List Int → Int
 | [] => 100
 | n :: l => min (loPrice gs l) (priceOf gs n)
def hiPrice (gs : List Gr) : List Int → Int
 | [] => 0
 | n :: l => max (hiPrice gs l) (priceOf gs n)
theorem lo_perm {gs : List Gr} {l : List Int} {n : Int} : loPrice gs (l ++ [n]) = min (loPrice gs l) (priceOf gs n) := by
 induction l with
 | nil => simp [loPrice]
 | cons a l ih => simp only [List.cons_append, loPrice, ih]; omega
theorem hi_perm {gs : List Gr} {l : List Int} {n : Int} : hiPrice gs (l ++ [n]) = max (hiPrice gs l) (priceOf gs n) := by
 induction l with
 | nil => simp [hiPrice]
 | cons a l ih => simp only [List.cons_append, hiPrice, ih]; omega
theorem price_bd {gs : List Gr} (hr : ∀ g ∈ gs, g.right = true) (n : Int) : 0 ≤ priceOf gs n ∧ priceOf gs n ≤ 100 := by
 unfold priceOf
 split
 ·omega
 ·cases h : gs[n.toNat]? with
  | none => simp
  | some g =>
   have := hr g (List.mem_of_getElem? h)
   simp only [Gr.right, within, Bool.and_eq_true, decide_eq_true_eq] at this
   simp
   omega
theorem lo_bd {gs : List Gr} (hr : ∀ g ∈ gs, g.right = true) (l : List Int) : 0 ≤ loPrice gs l ∧ loPrice gs l ≤ 100 := by
 induction l with
 | nil => simp [loPrice]
 | cons a l ih => have := price_bd hr a; simp only [loPrice]; omega
theorem hi_bd {gs : List Gr} (hr : ∀ g ∈ gs, g.right = true) (l : List Int) : 0 ≤ hiPrice gs l ∧ hiPrice gs l ≤ 100 := by
 induction l with
 | nil => simp [hiPrice]
 | cons a l ih => have := price_bd hr a; simp only [hiPrice]; omega
theorem mul_bd {a b : Int} (a0 : 0 ≤ a) (a1 : a ≤ 20000) (b0 : 0 ≤ b) (b1 : b ≤ 100) : 0 ≤ a * b ∧ a * b ≤ 2000000 := by
 have h1 := Int.mul_nonneg a0 b0
 have h2 := Int.mul_le_mul a1 b1 b0 (by omega)
 exact ⟨h1, by omega⟩
theorem canOf_len (b : Bx) (gs : List Gr) : (canOf b gs).length ≤ gs.length + 1 := by
 have h := canTo_len b gs gs.length
 cases hq : (shownBx b gs none).isSome with
 | true => rw [canOf_yes hq]; simp; exact h
 | false => rw [canOf_no hq]; omega
theorem canOf_mem {b : Bx} {gs : List Gr} {n : Int} (h : n ∈ canOf b gs) : n = -1 ∨ (0 ≤ n ∧ n < gs.length) := by
 unfold canOf at h
 rcases List.mem_append.1 h with h | h
 ·obtain ⟨i, hi, rfl⟩ := List.mem_map.1 h
  have := (List.mem_filter.1 hi).1
  rw [List.mem_range] at this
  exact .inr ⟨by simp, by simp; omega⟩
 ·split at h
  ·simp at h; exact .inl h
  ·cases h
def PayRel (w w2 : World) (A3 : Option Addr) (c3 : Nat) (gs : List Gr) (B : Nat) (L : List Int) (gv cv : Array Value) (v28 : Value) (wr : World) : Prop :=
 ∃ k : Nat, v28 = .int .i64 (k : Int) ∧ k ≤ L.length ∧ Below w.heap.size w wr ∧ Holds wr w.heap.size 24 gv ∧ Holds wr w2.heap.size 147 cv ∧ Holds wr (w.heap.size + 1 + 1) 60 #[.int .i64 0, .int .i64 0] ∧ Holds wr (w2.heap.size + 1 + 1) 60 #[.int .i64 (loPrice gs (L.take k)), .int .i64 (hiPrice gs (L.take k))] ∧ OwnInts wr B (.slice A3 L.length c3) L
theorem holds_ne {w : World} {B C : Nat} {t u : TypeId} {cs ds : Array Value} (h : Holds w B t cs) (k : Holds w C u ds) (hne : t ≠ u) : B ≠ C := fun e => by
 subst e
 have h' : w.heap[B]? = _ := h
 rw [show w.heap[B]? = _ from k] at h'
 injection h' with h'
 injection h' with _ h'
 exact hne h'.symm
theorem zp3 {p : Prop} (h : p := by (repeat first | (with_reducible first | assumption | apply Holds.set8 | apply Holds.set7 | apply Holds.set2 | apply Holds.set4 | apply Holds.putL | ((refine Holds.new' _ _ ?_); (simp; done)) | refine Holds.alloc ?_ _ | refine Holds.drew ?_ | refine Holds.far ?_ (by simp only [ne_eq]; omega) _) | rfl)) : p := h
set_option maxRecDepth 100000 in
set_option maxHeartbeats 4000000 in
theorem Pay_ok (err miss full empty : Int) (G A : Option Addr) (d c : Nat) (gs : List Gr) (hs : List Hf) (w : World) (hG : GradesAt w G gs) (hgl : gs.length ≤ 1000) (hgd : gs.length ≤ d) (hA : HandsAt w A hs) (hl : hs.length ≤ 1000) (he : bothErr err miss gs full empty hs = 0) (hx : (boundsOf miss (fun _ => true) hs).empty = false) :
  Calls Try.prog 61 #[.agg #[.int .i64 err, .int .i64 miss, .slice G gs.length d], .agg #[.int .i64 full, .int .i64 empty, .slice A hs.length c]] w fun e w' => e = .returned (.tuple #[.agg #[.int .i64 (max 0 (full - empty - 2 * err) * loPrice gs (canOf (boundsOf miss (fun _ => true) hs) gs)), .int .i64 (max 0 (full - empty + 2 * err) * hiPrice gs (canOf (boundsOf miss (fun _ => true) hs) gs))], .int .i64 0]) ∧ Below w.heap.size w w' := by
 have HA := Lib.hid hA
 have HG := Lib.hid hG
 clear hA hG
 obtain ⟨hg0, hc0⟩ := bothErr_zero he
 obtain ⟨hg4, r0, r1, m0, m1, hgr, _⟩ := gateErr_zero hg0
 obtain ⟨hl6, f0, f1, e0, e1, ht, hn⟩ := cartErr_zero hc0
 have HE := Lib.hid he
 have HX := Lib.hid hx
 have HT := Lib.hid ht
 have HN := Lib.hid hn
 have HR := Lib.hid hgr
 clear he hg0 hc0 ht hn hgr hx
 go_enter Try.func61, Try.ntmps61
 go_wp2_with (first | (go_at_call 107; refine (arriveFitting_ok err miss full empty G A d c gs hs _ (HG.out.up zg) hgl (HA.out.up zg) hl HE.out HX.out).mono ?_; rintro e w2 ⟨rfl, hb2⟩; have Hr2 : Holds w2 (w.heap.size + 1 + 1) 60 #[.int .i64 0, .int .i64 0] := Holds.up zp3 hb2; have Hg2 : Holds w2 (w.heap.size) 24 #[.int .i64 err, .int .i64 miss, .slice G gs.length d] := Holds.up zp3 hb2; have cr0 : w2.cell? ⟨w.heap.size + 1 + 1, 0, none⟩ = some (.int .i64 0) := Hr2.cell 0; have cr1 : w2.cell? ⟨w.heap.size + 1 + 1, 1, none⟩ = some (.int .i64 0) := Hr2.cell 1; have zr0 := Hr2.frozen 0; have zr1 := Hr2.frozen 1; have hB2 : Below w.heap.size w w2 := Below.trans zg (hb2.mono (by first | omega | (simp; done) | (simp; omega))); have hs2 := hb2.size; (try simp only [World.size_alloc] at hs2); have hl2 : w.heap.size + 1 + 1 < w2.heap.size := (by omega); have hl2b : w.heap.size + 1 + 1 < w2.heap.size + 1 := (by omega); clear hb2) | (go_at_call 120; refine (can_any err miss full empty G A d c gs hs _ (HG.out.up zg) hg4 hgd HR.out (HA.out.up zg) hl6 m0 m1 HT.out HN.out).mono ?_; rintro e w3 ⟨v3, rfl, ho3, hb3⟩; obtain ⟨A3, c3, e3⟩ := row_val ho3; have HO3 := Lib.hid ho3; subst e3; have hB3 : Below w.heap.size w w3 := Below.trans zg (hb3.mono (by first | omega | (simp; done) | (simp; omega))); have hs3 := hb3.size; have H9 := Lib.hid (Holds.up (zp3 : Holds _ (w2.heap.size + 1 + 1) 60 #[.int .i64 100, .int .i64 0]) hb3); have H6 := Lib.hid (Holds.up (zp3 : Holds _ w2.heap.size 147 #[.int .i64 full, .int .i64 empty, .slice A hs.length c, .int .i64 err, .int .i64 miss, .slice G gs.length d, .func (.func 99) #[.agg #[.int .i64 full, .int .i64 empty, .slice A hs.length c]] #[]]) hb3); have HG3 := Lib.hid (Holds.up (zp3 : Holds _ (w.heap.size) 24 #[.int .i64 err, .int .i64 miss, .slice G gs.length d]) hb3); have HR3 := Lib.hid (Holds.up (zp3 : Holds _ (w.heap.size + 1 + 1) 60 #[.int .i64 0, .int .i64 0]) hb3); clear ho3 hb3))
 have hcl5 := canOf_len (boundsOf miss (fun _ => true) hs) gs
 go_loopw [28] (fun v28 wr => PayRel w w2 A3 c3 gs (w2.heap.size + 1 + 1 + 1) (canOf (boundsOf miss (fun _ => true) hs) gs) #[.int .i64 err, .int .i64 miss, .slice G gs.length d] #[.int .i64 full, .int .i64 empty, .slice A hs.length c, .int .i64 err, .int .i64 miss, .slice G gs.length d, .func (.func 99) #[.agg #[.int .i64 full, .int .i64 empty, .slice A hs.length c]] #[]] v28 wr) (fun v28 _ => (canOf (boundsOf miss (fun _ => true) hs) gs).length - (intOf v28).toNat)
 case atStart => exact ⟨0, rfl, Nat.zero_le _, hB3, HG3.out, H6.out, HR3.out, H9.out, HO3.out.mono (by first | omega | (simp; done) | (simp; omega))⟩
 case round =>
  obtain ⟨k, rfl, hk, hB, hgr, hcr, hzr, hpr, hlr⟩ := hrel
  have HGr := Lib.hid hgr
  have HCr := Lib.hid hcr
  have HZr := Lib.hid hzr
  have HPr := Lib.hid hpr
  have HLr := Lib.hid hlr
  have hSw := hB.size
  have hl9 := hpr.lt
  by_cases hlt : k < (canOf (boundsOf miss (fun _ => true) hs) gs).length
  ·obtain ⟨y, hy⟩ : ∃ y, (canOf (boundsOf miss (fun _ => true) hs) gs)[k]? = some y := ⟨_, List.getElem?_eq_getElem hlt⟩
   have HY := Lib.hid (canOf_mem (List.mem_of_getElem? hy))
   have HYK := Lib.hid hy
   obtain ⟨B3, o3, rfl, hcl⟩ := (ints_at hlr) (by omega)
   have ky : wr.cell? ⟨B3, o3 + k, none⟩ = some (.int .i64 y) := hcl k y hy
   have HGW : Hid (∀ w1 : World, wr.grownBy w1 (some (w2.heap.size + 1 + 1)) → GradesAt w1 G gs) := Lib.hid (fun w1 hg => HG.out.up ⟨hg.os.trans hB.os, hg.tape.trans hB.tape, hg.output.trans hB.output, Nat.le_trans hB.size hg.size, fun q hq => (hg.block q (Nat.lt_of_lt_of_le hq hB.size) (fun e => by cases e; omega)).trans (hB.block q hq)⟩)
   clear hcl hy hgr hcr hzr hpr hlr
   go_wp2_with fail
   rename_i Kc hKc
   have HSL := Lib.hid (show slotsOf [some 32, some 33, some 34, some 35, some 36, some 37, some 38, none] = [32, 33, 34, 35, 36, 37, 38] from rfl)
   refine wp_region_partsG (by kernel_rfl) [some 32, some 33, some 34, some 35, some 36, some 37, some 38, none] (fun jq xq w' => match jq with
    | 0 => xq 32 = .pointer (some ⟨(w2.heap.size + 1 + 1), 0, none⟩)
    | 1 => xq 33 = .int .i64 (loPrice gs ((canOf (boundsOf miss (fun _ => true) hs) gs).take k))
    | 2 => xq 34 = .agg #[.int .i64 err, .int .i64 miss, .slice G gs.length d]
    | 3 => xq 35 = .int .i64 y
    | 4 => xq 36 = .int .i64 (priceOf gs y)
    | 5 => xq 37 = .int .i64 (min (loPrice gs ((canOf (boundsOf miss (fun _ => true) hs) gs).take k)) (priceOf gs y))
    | 6 => xq 38 = .pointer (some ⟨(w2.heap.size + 1 + 1), 0, none⟩)
    | 7 => Holds w' (w2.heap.size + 1 + 1) 60 #[.int .i64 (min (loPrice gs ((canOf (boundsOf miss (fun _ => true) hs) gs).take k)) (priceOf gs y)), .int .i64 (hiPrice gs ((canOf (boundsOf miss (fun _ => true) hs) gs).take k))]
    | 8 => Holds w' (w2.heap.size + 1 + 1) 60 #[.int .i64 (loPrice gs ((canOf (boundsOf miss (fun _ => true) hs) gs).take k)), .int .i64 (hiPrice gs ((canOf (boundsOf miss (fun _ => true) hs) gs).take k))]
    | _ => True) [[32], [33], [34], [35], [36], [37], [38], [], []] [(7, 8)] (fun w1 => wr.grownBy w1 (some (w2.heap.size + 1 + 1))) (by kernel_rfl) ?_ ?_ (fun _ _ hb h => grow_up h hb) (grow_refl _ _) ?_ ?_ ?_
   ·intro jq xq xq' wq h hv
    match jq, h, hv with
    | 0, h, hv => show xq' 32 = .pointer (some ⟨(w2.heap.size + 1 + 1), 0, none⟩); rw [← h 32 (by decide)]; exact hv
    | 1, h, hv => show xq' 33 = .int .i64 (loPrice gs ((canOf (boundsOf miss (fun _ => true) hs) gs).take k)); rw [← h 33 (by decide)]; exact hv
    | 2, h, hv => show xq' 34 = .agg #[.int .i64 err, .int .i64 miss, .slice G gs.length d]; rw [← h 34 (by decide)]; exact hv
    | 3, h, hv => show xq' 35 = .int .i64 y; rw [← h 35 (by decide)]; exact hv
    | 4, h, hv => show xq' 36 = .int .i64 (priceOf gs y); rw [← h 36 (by decide)]; exact hv
    | 5, h, hv => show xq' 37 = .int .i64 (min (loPrice gs ((canOf (boundsOf miss (fun _ => true) hs) gs).take k)) (priceOf gs y)); rw [← h 37 (by decide)]; exact hv
    | 6, h, hv => show xq' 38 = .pointer (some ⟨(w2.heap.size + 1 + 1), 0, none⟩); rw [← h 38 (by decide)]; exact hv
    | 7, h, hv => exact hv
    | 8, h, hv => exact hv
    | _ + 9, _, _ => trivial
   ·intro jq xq wq w' hb' hv
    match jq, hv with
    | 0, hv => exact hv
    | 1, hv => exact hv
    | 2, hv => exact hv
    | 3, hv => exact hv
    | 4, hv => exact hv
    | 5, hv => exact hv
    | 6, hv => exact hv
    | 7, h0 => exact h0.up hb'
    | 8, h0 => exact h0.up hb'
    | _ + 9, _ => trivial
   ·intro jq hj
    match jq, hj with
    | 0, hj => exact absurd hj (by decide)
    | 1, hj => exact absurd hj (by decide)
    | 2, hj => exact absurd hj (by decide)
    | 3, hj => exact absurd hj (by decide)
    | 4, hj => exact absurd hj (by decide)
    | 5, hj => exact absurd hj (by decide)
    | 6, hj => exact absurd hj (by decide)
    | 7, hj => exact absurd hj (by decide)
    | 8, _ => exact HPr.out
    | _ + 9, _ => trivial
   ·refine ⟨?_, ?_, ?_, ?_, ?_, ?_, ?_, ?_, trivial⟩
    ·intro xq w1 hb1 hx K hK0
     have hK := fun v w' hb => hK0 v w' (.inl hb)
     clear hx hKc hK0
     have q0 : w1.cell? ⟨w.heap.size, 0, none⟩ = some (.int .i64 err) := (HGr.out.grown hb1 (by omega)).cell 0
     have q1 : w1.cell? ⟨w.heap.size, 1, none⟩ = some (.int .i64 miss) := (HGr.out.grown hb1 (by omega)).cell 1
     have q2 : w1.cell? ⟨w.heap.size, 2, none⟩ = some (.slice G gs.length d) := (HGr.out.grown hb1 (by omega)).cell 2
     simp only [frameOf, fill, setSlot, sg, Nat.reduceBEq, if_true, if_false, Nat.reduceAdd, Nat.reduceEqDiff, HSL.out] at hK ⊢
     go_wp2_with (first | (go_at_call 122; refine (price_any err miss G d gs y _ (HGW.out _ hb1) hgl HY.out).mono ?_; rintro e w5 ⟨rfl, hb5⟩) | (go_at_call 123; refine (greatest_one _ _ _ _ (f44_0.cell 0)).mono ?_; rintro e w5 ⟨rfl, rfl⟩))
     exact hK _ _ (Below.refl _ _) rfl
    ·intro xq w1 hb1 hx K hK0
     have hK := fun v w' hb => hK0 v w' (.inl hb)
     have e32 : xq 32 = .pointer (some ⟨(w2.heap.size + 1 + 1), 0, none⟩) := hx 0 (by rfl) (by rfl)
     have fip_0 : Holds w1 (w2.heap.size + 1 + 1) 60 #[.int .i64 (loPrice gs ((canOf (boundsOf miss (fun _ => true) hs) gs).take k)), .int .i64 (hiPrice gs ((canOf (boundsOf miss (fun _ => true) hs) gs).take k))] := hx 8 (by rfl) (by rfl)
     clear hx hKc hK0
     have q0 : w1.cell? ⟨w.heap.size, 0, none⟩ = some (.int .i64 err) := (HGr.out.grown hb1 (by omega)).cell 0
     have q1 : w1.cell? ⟨w.heap.size, 1, none⟩ = some (.int .i64 miss) := (HGr.out.grown hb1 (by omega)).cell 1
     have q2 : w1.cell? ⟨w.heap.size, 2, none⟩ = some (.slice G gs.length d) := (HGr.out.grown hb1 (by omega)).cell 2
     have p0 : w1.cell? ⟨(w2.heap.size + 1 + 1), 0, none⟩ = some (.int .i64 (loPrice gs ((canOf (boundsOf miss (fun _ => true) hs) gs).take k))) := fip_0.cell 0
     have p1 : w1.cell? ⟨(w2.heap.size + 1 + 1), 1, none⟩ = some (.int .i64 (hiPrice gs ((canOf (boundsOf miss (fun _ => true) hs) gs).take k))) := fip_0.cell 1
     have y0 := fip_0.frozen 0
     have y1 := fip_0.frozen 1
     simp only [frameOf, fill, setSlot, sg, Nat.reduceBEq, if_true, if_false, Nat.reduceAdd, Nat.reduceEqDiff, HSL.out] at hK ⊢
     simp only [e32] at hK ⊢
     clear e32
     go_wp2_with (first | (go_at_call 122; refine (price_any err miss G d gs y _ (HGW.out _ hb1) hgl HY.out).mono ?_; rintro e w5 ⟨rfl, hb5⟩) | (go_at_call 123; refine (greatest_one _ _ _ _ (f44_0.cell 0)).mono ?_; rintro e w5 ⟨rfl, rfl⟩))
     exact hK _ _ (Below.refl _ _) rfl
    ·intro xq w1 hb1 hx K hK0
     have hK := fun v w' hb => hK0 v w' (.inl hb)
     clear hx hKc hK0
     have q0 : w1.cell? ⟨w.heap.size, 0, none⟩ = some (.int .i64 err) := (HGr.out.grown hb1 (by omega)).cell 0
     have q1 : w1.cell? ⟨w.heap.size, 1, none⟩ = some (.int .i64 miss) := (HGr.out.grown hb1 (by omega)).cell 1
     have q2 : w1.cell? ⟨w.heap.size, 2, none⟩ = some (.slice G gs.length d) := (HGr.out.grown hb1 (by omega)).cell 2
     simp only [frameOf, fill, setSlot, sg, Nat.reduceBEq, if_true, if_false, Nat.reduceAdd, Nat.reduceEqDiff, HSL.out] at hK ⊢
     go_wp2_with (first | (go_at_call 122; refine (price_any err miss G d gs y _ (HGW.out _ hb1) hgl HY.out).mono ?_; rintro e w5 ⟨rfl, hb5⟩) | (go_at_call 123; refine (greatest_one _ _ _ _ (f44_0.cell 0)).mono ?_; rintro e w5 ⟨rfl, rfl⟩))
     exact hK _ _ (Below.refl _ _) rfl
    ·intro xq w1 hb1 hx K hK0
     have hK := fun v w' hb => hK0 v w' (.inl hb)
     clear hx hKc hK0
     have q0 : w1.cell? ⟨w.heap.size, 0, none⟩ = some (.int .i64 err) := (HGr.out.grown hb1 (by omega)).cell 0
     have q1 : w1.cell? ⟨w.heap.size, 1, none⟩ = some (.int .i64 miss) := (HGr.out.grown hb1 (by omega)).cell 1
     have q2 : w1.cell? ⟨w.heap.size, 2, none⟩ = some (.slice G gs.length d) := (HGr.out.grown hb1 (by omega)).cell 2
     simp only [frameOf, fill, setSlot, sg, Nat.reduceBEq, if_true, if_false, Nat.reduceAdd, Nat.reduceEqDiff, HSL.out] at hK ⊢
     go_wp2_with (first | (go_at_call 122; refine (price_any err miss G d gs y _ (HGW.out _ hb1) hgl HY.out).mono ?_; rintro e w5 ⟨rfl, hb5⟩) | (go_at_call 123; refine (greatest_one _ _ _ _ (f44_0.cell 0)).mono ?_; rintro e w5 ⟨rfl, rfl⟩))
     exact hK _ _ (Below.refl _ _) rfl
    ·intro xq w1 hb1 hx K hK0
     have hK := fun v w' hb => hK0 v w' (.inl hb)
     have e34 : xq 34 = .agg #[.int .i64 err, .int .i64 miss, .slice G gs.length d] := hx 2 (by rfl) (by rfl)
     have e35 : xq 35 = .int .i64 y := hx 3 (by rfl) (by rfl)
     clear hx hKc hK0
     have q0 : w1.cell? ⟨w.heap.size, 0, none⟩ = some (.int .i64 err) := (HGr.out.grown hb1 (by omega)).cell 0
     have q1 : w1.cell? ⟨w.heap.size, 1, none⟩ = some (.int .i64 miss) := (HGr.out.grown hb1 (by omega)).cell 1
     have q2 : w1.cell? ⟨w.heap.size, 2, none⟩ = some (.slice G gs.length d) := (HGr.out.grown hb1 (by omega)).cell 2
     simp only [frameOf, fill, setSlot, sg, Nat.reduceBEq, if_true, if_false, Nat.reduceAdd, Nat.reduceEqDiff, HSL.out] at hK ⊢
     simp only [e34, e35] at hK ⊢
     clear e34 e35
     go_wp2_with (first | (go_at_call 122; refine (price_any err miss G d gs y _ (HGW.out _ hb1) hgl HY.out).mono ?_; rintro e w5 ⟨rfl, hb5⟩) | (go_at_call 123; refine (greatest_one _ _ _ _ (f44_0.cell 0)).mono ?_; rintro e w5 ⟨rfl, rfl⟩))
     exact hK _ _ hb5 rfl
    ·intro xq w1 hb1 hx K hK0
     have hK := fun v w' hb => hK0 v w' (.inl hb)
     have e33 : xq 33 = .int .i64 (loPrice gs ((canOf (boundsOf miss (fun _ => true) hs) gs).take k)) := hx 1 (by rfl) (by rfl)
     have e36 : xq 36 = .int .i64 (priceOf gs y) := hx 4 (by rfl) (by rfl)
     clear hx hKc hK0
     have q0 : w1.cell? ⟨w.heap.size, 0, none⟩ = some (.int .i64 err) := (HGr.out.grown hb1 (by omega)).cell 0
     have q1 : w1.cell? ⟨w.heap.size, 1, none⟩ = some (.int .i64 miss) := (HGr.out.grown hb1 (by omega)).cell 1
     have q2 : w1.cell? ⟨w.heap.size, 2, none⟩ = some (.slice G gs.length d) := (HGr.out.grown hb1 (by omega)).cell 2
     simp only [frameOf, fill, setSlot, sg, Nat.reduceBEq, if_true, if_false, Nat.reduceAdd, Nat.reduceEqDiff, HSL.out] at hK ⊢
     simp only [e33, e36] at hK ⊢
     clear e33 e36
     go_wp2_with (first | (go_at_call 122; refine (price_any err miss G d gs y _ (HGW.out _ hb1) hgl HY.out).mono ?_; rintro e w5 ⟨rfl, hb5⟩) | (go_at_call 123; refine (greatest_one _ _ _ _ (f44_0.cell 0)).mono ?_; rintro e w5 ⟨rfl, rfl⟩))
     all_goals exact hK _ _ (Below.refl _ _) (by simp; omega)
    ·intro xq w1 hb1 hx K hK0
     have hK := fun v w' hb => hK0 v w' (.inl hb)
     clear hx hKc hK0
     have q0 : w1.cell? ⟨w.heap.size, 0, none⟩ = some (.int .i64 err) := (HGr.out.grown hb1 (by omega)).cell 0
     have q1 : w1.cell? ⟨w.heap.size, 1, none⟩ = some (.int .i64 miss) := (HGr.out.grown hb1 (by omega)).cell 1
     have q2 : w1.cell? ⟨w.heap.size, 2, none⟩ = some (.slice G gs.length d) := (HGr.out.grown hb1 (by omega)).cell 2
     simp only [frameOf, fill, setSlot, sg, Nat.reduceBEq, if_true, if_false, Nat.reduceAdd, Nat.reduceEqDiff, HSL.out] at hK ⊢
     go_wp2_with (first | (go_at_call 122; refine (price_any err miss G d gs y _ (HGW.out _ hb1) hgl HY.out).mono ?_; rintro e w5 ⟨rfl, hb5⟩) | (go_at_call 123; refine (greatest_one _ _ _ _ (f44_0.cell 0)).mono ?_; rintro e w5 ⟨rfl, rfl⟩))
     exact hK _ _ (Below.refl _ _) rfl
    ·intro xq w1 hb1 hx K hK0
     have hK := fun v w' hb => hK0 v w' (.inr hb)
     have e37 : xq 37 = .int .i64 (min (loPrice gs ((canOf (boundsOf miss (fun _ => true) hs) gs).take k)) (priceOf gs y)) := hx 5 (by rfl) (by rfl)
     have e38 : xq 38 = .pointer (some ⟨(w2.heap.size + 1 + 1), 0, none⟩) := hx 6 (by rfl) (by rfl)
     have fip_0 : Holds w1 (w2.heap.size + 1 + 1) 60 #[.int .i64 (loPrice gs ((canOf (boundsOf miss (fun _ => true) hs) gs).take k)), .int .i64 (hiPrice gs ((canOf (boundsOf miss (fun _ => true) hs) gs).take k))] := hx 8 (by rfl) (by rfl)
     clear hx hKc hK0
     have q0 : w1.cell? ⟨w.heap.size, 0, none⟩ = some (.int .i64 err) := (HGr.out.grown hb1 (by omega)).cell 0
     have q1 : w1.cell? ⟨w.heap.size, 1, none⟩ = some (.int .i64 miss) := (HGr.out.grown hb1 (by omega)).cell 1
     have q2 : w1.cell? ⟨w.heap.size, 2, none⟩ = some (.slice G gs.length d) := (HGr.out.grown hb1 (by omega)).cell 2
     have p0 : w1.cell? ⟨(w2.heap.size + 1 + 1), 0, none⟩ = some (.int .i64 (loPrice gs ((canOf (boundsOf miss (fun _ => true) hs) gs).take k))) := fip_0.cell 0
     have p1 : w1.cell? ⟨(w2.heap.size + 1 + 1), 1, none⟩ = some (.int .i64 (hiPrice gs ((canOf (boundsOf miss (fun _ => true) hs) gs).take k))) := fip_0.cell 1
     have y0 := fip_0.frozen 0
     have y1 := fip_0.frozen 1
     simp only [frameOf, fill, setSlot, sg, Nat.reduceBEq, if_true, if_false, Nat.reduceAdd, Nat.reduceEqDiff, HSL.out] at hK ⊢
     have E37 := Lib.hid e37
     have E38 := Lib.hid e38
     simp only [e37, e38] at hK ⊢
     clear e37 e38
     go_wp2_with (first | (go_at_call 122; refine (price_any err miss G d gs y _ (HGW.out _ hb1) hgl HY.out).mono ?_; rintro e w5 ⟨rfl, hb5⟩) | (go_at_call 123; refine (greatest_one _ _ _ _ (f44_0.cell 0)).mono ?_; rintro e w5 ⟨rfl, rfl⟩))
     refine hK undef _ ⟨grow_set hb1 _ _, ?_⟩ zp3
     intro jq xq hd hne hv
     match jq, hd, hne, hv with
     | 0, _, _, hv => exact hv
     | 1, _, _, hv => exact hv
     | 2, _, _, hv => exact hv
     | 3, _, _, hv => exact hv
     | 4, _, _, hv => exact hv
     | 5, _, _, hv => exact hv
     | 6, _, _, hv => exact hv
     | 7, _, hne, _ => exact absurd rfl hne
     | 8, hd, _, _ => exact absurd hd (by decide)
     | _ + 9, _, _, _ => trivial
   ·intro xq w1 hb1 hx
    have e32 : xq 32 = .pointer (some ⟨(w2.heap.size + 1 + 1), 0, none⟩) := hx 0 (by decide)
    have e33 : xq 33 = .int .i64 (loPrice gs ((canOf (boundsOf miss (fun _ => true) hs) gs).take k)) := hx 1 (by decide)
    have e34 : xq 34 = .agg #[.int .i64 err, .int .i64 miss, .slice G gs.length d] := hx 2 (by decide)
    have e35 : xq 35 = .int .i64 y := hx 3 (by decide)
    have e36 : xq 36 = .int .i64 (priceOf gs y) := hx 4 (by decide)
    have e37 : xq 37 = .int .i64 (min (loPrice gs ((canOf (boundsOf miss (fun _ => true) hs) gs).take k)) (priceOf gs y)) := hx 5 (by decide)
    have e38 : xq 38 = .pointer (some ⟨(w2.heap.size + 1 + 1), 0, none⟩) := hx 6 (by decide)
    have fn7_0 : Holds w1 (w2.heap.size + 1 + 1) 60 #[.int .i64 (min (loPrice gs ((canOf (boundsOf miss (fun _ => true) hs) gs).take k)) (priceOf gs y)), .int .i64 (hiPrice gs ((canOf (boundsOf miss (fun _ => true) hs) gs).take k))] := hx 7 (by decide)
    clear hx
    have q0 : w1.cell? ⟨w.heap.size, 0, none⟩ = some (.int .i64 err) := (HGr.out.grown hb1 (by omega)).cell 0
    have q1 : w1.cell? ⟨w.heap.size, 1, none⟩ = some (.int .i64 miss) := (HGr.out.grown hb1 (by omega)).cell 1
    have q2 : w1.cell? ⟨w.heap.size, 2, none⟩ = some (.slice G gs.length d) := (HGr.out.grown hb1 (by omega)).cell 2
    simp only [frameOf, fill, setSlot, sg, Nat.reduceBEq, if_true, if_false, Nat.reduceAdd, Nat.reduceEqDiff, HSL.out]
    simp only [e32, e33, e34, e35, e36, e37, e38]
    clear e32 e33 e34 e35 e36 e37 e38
    refine hKc _ _ ?_
    go_wp2_with fail
    rename_i Kc hKc
    have HSL := Lib.hid (show slotsOf [some 39, some 40, some 41, some 42, some 43, some 44, some 45, some 46, none] = [39, 40, 41, 42, 43, 44, 45, 46] from rfl)
    refine wp_region_partsG (by kernel_rfl) [some 39, some 40, some 41, some 42, some 43, some 44, some 45, some 46, none] (fun jq xq w' => match jq with
     | 0 => xq 39 = .pointer (some ⟨(w2.heap.size + 1 + 1), 1, none⟩)
     | 1 => xq 40 = .int .i64 (hiPrice gs ((canOf (boundsOf miss (fun _ => true) hs) gs).take k))
     | 2 => xq 41 = .agg #[.int .i64 err, .int .i64 miss, .slice G gs.length d]
     | 3 => xq 42 = .int .i64 y
     | 4 => xq 43 = .int .i64 (priceOf gs y)
     | 5 => ∃ B, xq 44 = .slice (some ⟨B, 0, none⟩) 1 1 ∧ Holds w' B 3 #[.int .i64 (priceOf gs y)]
     | 6 => xq 45 = .int .i64 (max (hiPrice gs ((canOf (boundsOf miss (fun _ => true) hs) gs).take k)) (priceOf gs y))
     | 7 => xq 46 = .pointer (some ⟨(w2.heap.size + 1 + 1), 1, none⟩)
     | 8 => Holds w' (w2.heap.size + 1 + 1) 60 #[.int .i64 (min (loPrice gs ((canOf (boundsOf miss (fun _ => true) hs) gs).take k)) (priceOf gs y)), .int .i64 (max (hiPrice gs ((canOf (boundsOf miss (fun _ => true) hs) gs).take k)) (priceOf gs y))]
     | 9 => Holds w' (w2.heap.size + 1 + 1) 60 #[.int .i64 (min (loPrice gs ((canOf (boundsOf miss (fun _ => true) hs) gs).take k)) (priceOf gs y)), .int .i64 (hiPrice gs ((canOf (boundsOf miss (fun _ => true) hs) gs).take k))]
     | _ => True) [[39], [40], [41], [42], [43], [44], [45], [46], [], []] [(8, 9)] (fun w1 => wr.grownBy w1 (some (w2.heap.size + 1 + 1))) (by kernel_rfl) ?_ ?_ (fun _ _ hb h => grow_up h hb) (hb1) ?_ ?_ ?_
    ·intro jq xq xq' wq h hv
     match jq, h, hv with
     | 0, h, hv => show xq' 39 = .pointer (some ⟨(w2.heap.size + 1 + 1), 1, none⟩); rw [← h 39 (by decide)]; exact hv
     | 1, h, hv => show xq' 40 = .int .i64 (hiPrice gs ((canOf (boundsOf miss (fun _ => true) hs) gs).take k)); rw [← h 40 (by decide)]; exact hv
     | 2, h, hv => show xq' 41 = .agg #[.int .i64 err, .int .i64 miss, .slice G gs.length d]; rw [← h 41 (by decide)]; exact hv
     | 3, h, hv => show xq' 42 = .int .i64 y; rw [← h 42 (by decide)]; exact hv
     | 4, h, hv => show xq' 43 = .int .i64 (priceOf gs y); rw [← h 43 (by decide)]; exact hv
     | 5, h, hv => show ∃ B, xq' 44 = .slice (some ⟨B, 0, none⟩) 1 1 ∧ Holds wq B 3 #[.int .i64 (priceOf gs y)]; rw [← h 44 (by decide)]; exact hv
     | 6, h, hv => show xq' 45 = .int .i64 (max (hiPrice gs ((canOf (boundsOf miss (fun _ => true) hs) gs).take k)) (priceOf gs y)); rw [← h 45 (by decide)]; exact hv
     | 7, h, hv => show xq' 46 = .pointer (some ⟨(w2.heap.size + 1 + 1), 1, none⟩); rw [← h 46 (by decide)]; exact hv
     | 8, h, hv => exact hv
     | 9, h, hv => exact hv
     | _ + 10, _, _ => trivial
    ·intro jq xq wq w' hb' hv
     match jq, hv with
     | 0, hv => exact hv
     | 1, hv => exact hv
     | 2, hv => exact hv
     | 3, hv => exact hv
     | 4, hv => exact hv
     | 5, ⟨b0, h0, h1⟩ => exact ⟨b0, h0, h1.up hb'⟩
     | 6, hv => exact hv
     | 7, hv => exact hv
     | 8, h0 => exact h0.up hb'
     | 9, h0 => exact h0.up hb'
     | _ + 10, _ => trivial
    ·intro jq hj
     match jq, hj with
     | 0, hj => exact absurd hj (by decide)
     | 1, hj => exact absurd hj (by decide)
     | 2, hj => exact absurd hj (by decide)
     | 3, hj => exact absurd hj (by decide)
     | 4, hj => exact absurd hj (by decide)
     | 5, hj => exact absurd hj (by decide)
     | 6, hj => exact absurd hj (by decide)
     | 7, hj => exact absurd hj (by decide)
     | 8, hj => exact absurd hj (by decide)
     | 9, _ => exact fn7_0
     | _ + 10, _ => trivial
    ·refine ⟨?_, ?_, ?_, ?_, ?_, ?_, ?_, ?_, ?_, trivial⟩
     ·intro xq w1 hb1 hx K hK0
      have hK := fun v w' hb => hK0 v w' (.inl hb)
      clear hx hKc hK0
      have q0 : w1.cell? ⟨w.heap.size, 0, none⟩ = some (.int .i64 err) := (HGr.out.grown hb1 (by omega)).cell 0
      have q1 : w1.cell? ⟨w.heap.size, 1, none⟩ = some (.int .i64 miss) := (HGr.out.grown hb1 (by omega)).cell 1
      have q2 : w1.cell? ⟨w.heap.size, 2, none⟩ = some (.slice G gs.length d) := (HGr.out.grown hb1 (by omega)).cell 2
      simp only [frameOf, fill, setSlot, sg, Nat.reduceBEq, if_true, if_false, Nat.reduceAdd, Nat.reduceEqDiff, HSL.out] at hK ⊢
      go_wp2_with (first | (go_at_call 122; refine (price_any err miss G d gs y _ (HGW.out _ hb1) hgl HY.out).mono ?_; rintro e w5 ⟨rfl, hb5⟩) | (go_at_call 123; refine (greatest_one _ _ _ _ (f44_0.cell 0)).mono ?_; rintro e w5 ⟨rfl, rfl⟩))
      exact hK _ _ (Below.refl _ _) rfl
     ·intro xq w1 hb1 hx K hK0
      have hK := fun v w' hb => hK0 v w' (.inl hb)
      have e39 : xq 39 = .pointer (some ⟨(w2.heap.size + 1 + 1), 1, none⟩) := hx 0 (by rfl) (by rfl)
      have fip_0 : Holds w1 (w2.heap.size + 1 + 1) 60 #[.int .i64 (min (loPrice gs ((canOf (boundsOf miss (fun _ => true) hs) gs).take k)) (priceOf gs y)), .int .i64 (hiPrice gs ((canOf (boundsOf miss (fun _ => true) hs) gs).take k))] := hx 9 (by rfl) (by rfl)
      clear hx hKc hK0
      have q0 : w1.cell? ⟨w.heap.size, 0, none⟩ = some (.int .i64 err) := (HGr.out.grown hb1 (by omega)).cell 0
      have q1 : w1.cell? ⟨w.heap.size, 1, none⟩ = some (.int .i64 miss) := (HGr.out.grown hb1 (by omega)).cell 1
      have q2 : w1.cell? ⟨w.heap.size, 2, none⟩ = some (.slice G gs.length d) := (HGr.out.grown hb1 (by omega)).cell 2
      have p0 : w1.cell? ⟨(w2.heap.size + 1 + 1), 0, none⟩ = some (.int .i64 (min (loPrice gs ((canOf (boundsOf miss (fun _ => true) hs) gs).take k)) (priceOf gs y))) := fip_0.cell 0
      have p1 : w1.cell? ⟨(w2.heap.size + 1 + 1), 1, none⟩ = some (.int .i64 (hiPrice gs ((canOf (boundsOf miss (fun _ => true) hs) gs).take k))) := fip_0.cell 1
      have y0 := fip_0.frozen 0
      have y1 := fip_0.frozen 1
      simp only [frameOf, fill, setSlot, sg, Nat.reduceBEq, if_true, if_false, Nat.reduceAdd, Nat.reduceEqDiff, HSL.out] at hK ⊢
      simp only [e39] at hK ⊢
      clear e39
      go_wp2_with (first | (go_at_call 122; refine (price_any err miss G d gs y _ (HGW.out _ hb1) hgl HY.out).mono ?_; rintro e w5 ⟨rfl, hb5⟩) | (go_at_call 123; refine (greatest_one _ _ _ _ (f44_0.cell 0)).mono ?_; rintro e w5 ⟨rfl, rfl⟩))
      exact hK _ _ (Below.refl _ _) rfl
     ·intro xq w1 hb1 hx K hK0
      have hK := fun v w' hb => hK0 v w' (.inl hb)
      clear hx hKc hK0
      have q0 : w1.cell? ⟨w.heap.size, 0, none⟩ = some (.int .i64 err) := (HGr.out.grown hb1 (by omega)).cell 0
      have q1 : w1.cell? ⟨w.heap.size, 1, none⟩ = some (.int .i64 miss) := (HGr.out.grown hb1 (by omega)).cell 1
      have q2 : w1.cell? ⟨w.heap.size, 2, none⟩ = some (.slice G gs.length d) := (HGr.out.grown hb1 (by omega)).cell 2
      simp only [frameOf, fill, setSlot, sg, Nat.reduceBEq, if_true, if_false, Nat.reduceAdd, Nat.reduceEqDiff, HSL.out] at hK ⊢
      go_wp2_with (first | (go_at_call 122; refine (price_any err miss G d gs y _ (HGW.out _ hb1) hgl HY.out).mono ?_; rintro e w5 ⟨rfl, hb5⟩) | (go_at_call 123; refine (greatest_one _ _ _ _ (f44_0.cell 0)).mono ?_; rintro e w5 ⟨rfl, rfl⟩))
      exact hK _ _ (Below.refl _ _) rfl
     ·intro xq w1 hb1 hx K hK0
      have hK := fun v w' hb => hK0 v w' (.inl hb)
      clear hx hKc hK0
      have q0 : w1.cell? ⟨w.heap.size, 0, none⟩ = some (.int .i64 err) := (HGr.out.grown hb1 (by omega)).cell 0
      have q1 : w1.cell? ⟨w.heap.size, 1, none⟩ = some (.int .i64 miss) := (HGr.out.grown hb1 (by omega)).cell 1
      have q2 : w1.cell? ⟨w.heap.size, 2, none⟩ = some (.slice G gs.length d) := (HGr.out.grown hb1 (by omega)).cell 2
      simp only [frameOf, fill, setSlot, sg, Nat.reduceBEq, if_true, if_false, Nat.reduceAdd, Nat.reduceEqDiff, HSL.out] at hK ⊢
      go_wp2_with (first | (go_at_call 122; refine (price_any err miss G d gs y _ (HGW.out _ hb1) hgl HY.out).mono ?_; rintro e w5 ⟨rfl, hb5⟩) | (go_at_call 123; refine (greatest_one _ _ _ _ (f44_0.cell 0)).mono ?_; rintro e w5 ⟨rfl, rfl⟩))
      exact hK _ _ (Below.refl _ _) rfl
     ·intro xq w1 hb1 hx K hK0
      have hK := fun v w' hb => hK0 v w' (.inl hb)
      have e41 : xq 41 = .agg #[.int .i64 err, .int .i64 miss, .slice G gs.length d] := hx 2 (by rfl) (by rfl)
      have e42 : xq 42 = .int .i64 y := hx 3 (by rfl) (by rfl)
      clear hx hKc hK0
      have q0 : w1.cell? ⟨w.heap.size, 0, none⟩ = some (.int .i64 err) := (HGr.out.grown hb1 (by omega)).cell 0
      have q1 : w1.cell? ⟨w.heap.size, 1, none⟩ = some (.int .i64 miss) := (HGr.out.grown hb1 (by omega)).cell 1
      have q2 : w1.cell? ⟨w.heap.size, 2, none⟩ = some (.slice G gs.length d) := (HGr.out.grown hb1 (by omega)).cell 2
      simp only [frameOf, fill, setSlot, sg, Nat.reduceBEq, if_true, if_false, Nat.reduceAdd, Nat.reduceEqDiff, HSL.out] at hK ⊢
      simp only [e41, e42] at hK ⊢
      clear e41 e42
      go_wp2_with (first | (go_at_call 122; refine (price_any err miss G d gs y _ (HGW.out _ hb1) hgl HY.out).mono ?_; rintro e w5 ⟨rfl, hb5⟩) | (go_at_call 123; refine (greatest_one _ _ _ _ (f44_0.cell 0)).mono ?_; rintro e w5 ⟨rfl, rfl⟩))
      exact hK _ _ hb5 rfl
     ·intro xq w1 hb1 hx K hK0
      have hK := fun v w' hb => hK0 v w' (.inl hb)
      have e43 : xq 43 = .int .i64 (priceOf gs y) := hx 4 (by rfl) (by rfl)
      clear hx hKc hK0
      have q0 : w1.cell? ⟨w.heap.size, 0, none⟩ = some (.int .i64 err) := (HGr.out.grown hb1 (by omega)).cell 0
      have q1 : w1.cell? ⟨w.heap.size, 1, none⟩ = some (.int .i64 miss) := (HGr.out.grown hb1 (by omega)).cell 1
      have q2 : w1.cell? ⟨w.heap.size, 2, none⟩ = some (.slice G gs.length d) := (HGr.out.grown hb1 (by omega)).cell 2
      simp only [frameOf, fill, setSlot, sg, Nat.reduceBEq, if_true, if_false, Nat.reduceAdd, Nat.reduceEqDiff, HSL.out] at hK ⊢
      simp only [e43] at hK ⊢
      clear e43
      go_wp2_with (first | (go_at_call 122; refine (price_any err miss G d gs y _ (HGW.out _ hb1) hgl HY.out).mono ?_; rintro e w5 ⟨rfl, hb5⟩) | (go_at_call 123; refine (greatest_one _ _ _ _ (f44_0.cell 0)).mono ?_; rintro e w5 ⟨rfl, rfl⟩))
      exact hK _ _ ((Below.refl _ _).alloc (Nat.le_refl _) _) ⟨_, rfl, Holds.new _ _ _⟩
     ·intro xq w1 hb1 hx K hK0
      have hK := fun v w' hb => hK0 v w' (.inl hb)
      have e40 : xq 40 = .int .i64 (hiPrice gs ((canOf (boundsOf miss (fun _ => true) hs) gs).take k)) := hx 1 (by rfl) (by rfl)
      obtain ⟨B44, e44, f44_0⟩ := hx 5 (by rfl) (by rfl)
      clear hx hKc hK0
      have q0 : w1.cell? ⟨w.heap.size, 0, none⟩ = some (.int .i64 err) := (HGr.out.grown hb1 (by omega)).cell 0
      have q1 : w1.cell? ⟨w.heap.size, 1, none⟩ = some (.int .i64 miss) := (HGr.out.grown hb1 (by omega)).cell 1
      have q2 : w1.cell? ⟨w.heap.size, 2, none⟩ = some (.slice G gs.length d) := (HGr.out.grown hb1 (by omega)).cell 2
      simp only [frameOf, fill, setSlot, sg, Nat.reduceBEq, if_true, if_false, Nat.reduceAdd, Nat.reduceEqDiff, HSL.out] at hK ⊢
      simp only [e40, e44] at hK ⊢
      clear e40 e44
      go_wp2_with (first | (go_at_call 122; refine (price_any err miss G d gs y _ (HGW.out _ hb1) hgl HY.out).mono ?_; rintro e w5 ⟨rfl, hb5⟩) | (go_at_call 123; refine (greatest_one _ _ _ _ (f44_0.cell 0)).mono ?_; rintro e w5 ⟨rfl, rfl⟩))
      exact hK _ _ (Below.refl _ _) rfl
     ·intro xq w1 hb1 hx K hK0
      have hK := fun v w' hb => hK0 v w' (.inl hb)
      clear hx hKc hK0
      have q0 : w1.cell? ⟨w.heap.size, 0, none⟩ = some (.int .i64 err) := (HGr.out.grown hb1 (by omega)).cell 0
      have q1 : w1.cell? ⟨w.heap.size, 1, none⟩ = some (.int .i64 miss) := (HGr.out.grown hb1 (by omega)).cell 1
      have q2 : w1.cell? ⟨w.heap.size, 2, none⟩ = some (.slice G gs.length d) := (HGr.out.grown hb1 (by omega)).cell 2
      simp only [frameOf, fill, setSlot, sg, Nat.reduceBEq, if_true, if_false, Nat.reduceAdd, Nat.reduceEqDiff, HSL.out] at hK ⊢
      go_wp2_with (first | (go_at_call 122; refine (price_any err miss G d gs y _ (HGW.out _ hb1) hgl HY.out).mono ?_; rintro e w5 ⟨rfl, hb5⟩) | (go_at_call 123; refine (greatest_one _ _ _ _ (f44_0.cell 0)).mono ?_; rintro e w5 ⟨rfl, rfl⟩))
      exact hK _ _ (Below.refl _ _) rfl
     ·intro xq w1 hb1 hx K hK0
      have hK := fun v w' hb => hK0 v w' (.inr hb)
      have e45 : xq 45 = .int .i64 (max (hiPrice gs ((canOf (boundsOf miss (fun _ => true) hs) gs).take k)) (priceOf gs y)) := hx 6 (by rfl) (by rfl)
      have e46 : xq 46 = .pointer (some ⟨(w2.heap.size + 1 + 1), 1, none⟩) := hx 7 (by rfl) (by rfl)
      have fip_0 : Holds w1 (w2.heap.size + 1 + 1) 60 #[.int .i64 (min (loPrice gs ((canOf (boundsOf miss (fun _ => true) hs) gs).take k)) (priceOf gs y)), .int .i64 (hiPrice gs ((canOf (boundsOf miss (fun _ => true) hs) gs).take k))] := hx 9 (by rfl) (by rfl)
      clear hx hKc hK0
      have q0 : w1.cell? ⟨w.heap.size, 0, none⟩ = some (.int .i64 err) := (HGr.out.grown hb1 (by omega)).cell 0
      have q1 : w1.cell? ⟨w.heap.size, 1, none⟩ = some (.int .i64 miss) := (HGr.out.grown hb1 (by omega)).cell 1
      have q2 : w1.cell? ⟨w.heap.size, 2, none⟩ = some (.slice G gs.length d) := (HGr.out.grown hb1 (by omega)).cell 2
      have p0 : w1.cell? ⟨(w2.heap.size + 1 + 1), 0, none⟩ = some (.int .i64 (min (loPrice gs ((canOf (boundsOf miss (fun _ => true) hs) gs).take k)) (priceOf gs y))) := fip_0.cell 0
      have p1 : w1.cell? ⟨(w2.heap.size + 1 + 1), 1, none⟩ = some (.int .i64 (hiPrice gs ((canOf (boundsOf miss (fun _ => true) hs) gs).take k))) := fip_0.cell 1
      have y0 := fip_0.frozen 0
      have y1 := fip_0.frozen 1
      simp only [frameOf, fill, setSlot, sg, Nat.reduceBEq, if_true, if_false, Nat.reduceAdd, Nat.reduceEqDiff, HSL.out] at hK ⊢
      have E45 := Lib.hid e45
      have E46 := Lib.hid e46
      simp only [e45, e46] at hK ⊢
      clear e45 e46
      go_wp2_with (first | (go_at_call 122; refine (price_any err miss G d gs y _ (HGW.out _ hb1) hgl HY.out).mono ?_; rintro e w5 ⟨rfl, hb5⟩) | (go_at_call 123; refine (greatest_one _ _ _ _ (f44_0.cell 0)).mono ?_; rintro e w5 ⟨rfl, rfl⟩))
      refine hK undef _ ⟨grow_set hb1 _ _, ?_⟩ zp3
      intro jq xq hd hne hv
      match jq, hd, hne, hv with
      | 0, _, _, hv => exact hv
      | 1, _, _, hv => exact hv
      | 2, _, _, hv => exact hv
      | 3, _, _, hv => exact hv
      | 4, _, _, hv => exact hv
      | 5, _, _, hv => (obtain ⟨B, e, h⟩ := hv; exact ⟨B, e, h.far (p := ⟨(w2.heap.size + 1 + 1), 1, none⟩) (holds_ne h fip_0 (by decide)) _⟩)
      | 6, _, _, hv => exact hv
      | 7, _, _, hv => exact hv
      | 8, _, hne, _ => exact absurd rfl hne
      | 9, hd, _, _ => exact absurd hd (by decide)
      | _ + 10, _, _, _ => trivial
    ·intro xq w1 hb1 hx
     have e39 : xq 39 = .pointer (some ⟨(w2.heap.size + 1 + 1), 1, none⟩) := hx 0 (by decide)
     have e40 : xq 40 = .int .i64 (hiPrice gs ((canOf (boundsOf miss (fun _ => true) hs) gs).take k)) := hx 1 (by decide)
     have e41 : xq 41 = .agg #[.int .i64 err, .int .i64 miss, .slice G gs.length d] := hx 2 (by decide)
     have e42 : xq 42 = .int .i64 y := hx 3 (by decide)
     have e43 : xq 43 = .int .i64 (priceOf gs y) := hx 4 (by decide)
     obtain ⟨B44, e44, f44_0⟩ := hx 5 (by decide)
     have e45 : xq 45 = .int .i64 (max (hiPrice gs ((canOf (boundsOf miss (fun _ => true) hs) gs).take k)) (priceOf gs y)) := hx 6 (by decide)
     have e46 : xq 46 = .pointer (some ⟨(w2.heap.size + 1 + 1), 1, none⟩) := hx 7 (by decide)
     have fn8_0 : Holds w1 (w2.heap.size + 1 + 1) 60 #[.int .i64 (min (loPrice gs ((canOf (boundsOf miss (fun _ => true) hs) gs).take k)) (priceOf gs y)), .int .i64 (max (hiPrice gs ((canOf (boundsOf miss (fun _ => true) hs) gs).take k)) (priceOf gs y))] := hx 8 (by decide)
     clear hx
     have q0 : w1.cell? ⟨w.heap.size, 0, none⟩ = some (.int .i64 err) := (HGr.out.grown hb1 (by omega)).cell 0
     have q1 : w1.cell? ⟨w.heap.size, 1, none⟩ = some (.int .i64 miss) := (HGr.out.grown hb1 (by omega)).cell 1
     have q2 : w1.cell? ⟨w.heap.size, 2, none⟩ = some (.slice G gs.length d) := (HGr.out.grown hb1 (by omega)).cell 2
     simp only [frameOf, fill, setSlot, sg, Nat.reduceBEq, if_true, if_false, Nat.reduceAdd, Nat.reduceEqDiff, HSL.out]
     simp only [e39, e40, e41, e42, e43, e44, e45, e46]
     clear e39 e40 e41 e42 e43 e44 e45 e46
     go_wp2_with fail
     go_roundw
     case rel =>
      refine ⟨k + 1, by go_num, hlt, ?_, HGr.out.grown hb1 (by omega), HCr.out.grown hb1 (by omega), HZr.out.grown hb1 (by omega), ?_, HLr.out.grown hb1 (by omega)⟩
      ·exact ⟨hb1.os.trans hB.os, hb1.tape.trans hB.tape, hb1.output.trans hB.output, Nat.le_trans hB.size hb1.size, fun q hq => (hb1.block q (Nat.lt_of_lt_of_le hq hB.size) (fun e => by cases e; omega)).trans (hB.block q hq)⟩
      ·have e1 : (canOf (boundsOf miss (fun _ => true) hs) gs).take (k + 1) = (canOf (boundsOf miss (fun _ => true) hs) gs).take k ++ [y] := by rw [List.take_add_one, HYK.out]; rfl
       rw [e1, lo_perm, hi_perm]
       exact fn8_0
     case measure => simp [intOf]; omega
  ·have hkl : k = (canOf (boundsOf miss (fun _ => true) hs) gs).length := by omega
   subst hkl
   rw [List.take_length] at hpr
   obtain ⟨b0, b1⟩ := lo_bd HR.out (canOf (boundsOf miss (fun _ => true) hs) gs)
   obtain ⟨b2, b3⟩ := hi_bd HR.out (canOf (boundsOf miss (fun _ => true) hs) gs)
   have kc : wr.cell? ⟨w2.heap.size, 0, none⟩ = some (.int .i64 full) ∧ wr.cell? ⟨w2.heap.size, 1, none⟩ = some (.int .i64 empty) ∧ wr.cell? ⟨w2.heap.size, 2, none⟩ = some (.slice A hs.length c) ∧ wr.cell? ⟨w2.heap.size, 3, none⟩ = some (.int .i64 err) ∧ wr.cell? ⟨w2.heap.size, 4, none⟩ = some (.int .i64 miss) ∧ wr.cell? ⟨w2.heap.size, 5, none⟩ = some (.slice G gs.length d) ∧ wr.cell? ⟨w2.heap.size, 6, none⟩ = some (.func (.func 99) #[.agg #[.int .i64 full, .int .i64 empty, .slice A hs.length c]] #[]) := ⟨hcr.cell 0, hcr.cell 1, hcr.cell 2, hcr.cell 3, hcr.cell 4, hcr.cell 5, hcr.cell 6⟩
   obtain ⟨c0, c1, c2, c3', c4, c5, c6⟩ := kc
   clear hgr hcr hlr
   have hN0 : 0 ≤ max 0 (full - empty - 2 * err) * loPrice gs (canOf (boundsOf miss (fun _ => true) hs) gs) ∧ max 0 (full - empty - 2 * err) * loPrice gs (canOf (boundsOf miss (fun _ => true) hs) gs) ≤ 2000000 := mul_bd (by omega) (by omega) b0 b1
   have hN1 : 0 ≤ max 0 (full - empty + 2 * err) * hiPrice gs (canOf (boundsOf miss (fun _ => true) hs) gs) ∧ max 0 (full - empty + 2 * err) * hiPrice gs (canOf (boundsOf miss (fun _ => true) hs) gs) ≤ 2000000 := mul_bd (by omega) (by omega) b2 b3
   obtain ⟨n0, n1⟩ := hN0
   obtain ⟨n2, n3⟩ := hN1
   go_wp2_with (go_at_call 98; refine (net_any full empty err miss _ _ _ _ f0 f1 e0 e1 r0 r1).mono ?_; rintro e w4 ⟨rfl, hb4⟩; have Hz4 := Lib.hid (hzr.up hb4); have zc0 : w4.cell? ⟨w.heap.size + 1 + 1, 0, none⟩ = some (.int .i64 0) := Hz4.out.cell 0; have zc1 : w4.cell? ⟨w.heap.size + 1 + 1, 1, none⟩ = some (.int .i64 0) := Hz4.out.cell 1; have zz0 := Hz4.out.frozen 0; have zz1 := Hz4.out.frozen 1; have Hp4 := Lib.hid (hpr.up hb4); have pc0 : w4.cell? ⟨(w2.heap.size + 1 + 1), 0, none⟩ = some (.int .i64 (loPrice gs (canOf (boundsOf miss (fun _ => true) hs) gs))) := Hp4.out.cell 0; have pc1 : w4.cell? ⟨(w2.heap.size + 1 + 1), 1, none⟩ = some (.int .i64 (hiPrice gs (canOf (boundsOf miss (fun _ => true) hs) gs))) := Hp4.out.cell 1; have hB4 : Below w.heap.size w w4 := hB.trans (hb4.mono hSw); have hs4 := hb4.size; have hl4 : w.heap.size + 1 + 1 < w4.heap.size := (by omega); have hl4b : (w2.heap.size + 1 + 1) < w4.heap.size := (by omega); clear hb4)
   refine ret_cell2 (t := 60) rfl rfl rfl ?_ Try.underlying60 rfl (by kernel_rfl) rfl ⟨rfl, zg⟩
   have Hzz := Hz4.out
   exact zp3
end Go.Proofs.Ytifffonoipapgaa
