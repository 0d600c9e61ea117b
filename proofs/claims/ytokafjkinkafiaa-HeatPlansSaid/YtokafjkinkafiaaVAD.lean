
import Derived.Test.YtokafjkinkafiaaVAA
import Derived.Test.YtokafjkinkafiaaVAC
set_option linter.unusedSimpArgs false
set_option linter.unusedVariables false
namespace Go.Proofs.Ytokafjkinkafiaa
open Go.RowKit
def incFrom : List Int → Bool
 | a :: b :: l => decide (a < b) && incFrom (b :: l)
 | _ => true
theorem inc_step {xs : List Int} {j : Nat} {x y : Int} (hx : xs[j]? = some x) (hy : xs[j + 1]? = some y) : incFrom (xs.drop j) = (decide (x < y) && incFrom (xs.drop (j + 1))) := by
 have h1 : xs.drop j = x :: xs.drop (j + 1) := by
  obtain ⟨hl, rfl⟩ := List.getElem?_eq_some_iff.1 hx
  exact List.drop_eq_getElem_cons hl
 have h2 : xs.drop (j + 1) = y :: xs.drop (j + 1 + 1) := by
  obtain ⟨hl, rfl⟩ := List.getElem?_eq_some_iff.1 hy
  exact List.drop_eq_getElem_cons hl
 rw [h1, h2, incFrom]
theorem inc_drop {xs : List Int} : ∀ {j : Nat}, incFrom xs = true → incFrom (xs.drop j) = true := by
 intro j
 induction j generalizing xs with
 | zero => intro h; simpa using h
 | succ j ih =>
  intro h
  match xs, h with
  | [], _ => simp [incFrom]
  | [a], _ => simp [incFrom]
  | a :: b :: l, h =>
   rw [List.drop_succ_cons]
   apply ih
   simp only [incFrom, Bool.and_eq_true] at h
   exact h.2
theorem inc_not {xs : List Int} {j : Nat} {x y : Int} (hx : xs[j]? = some x) (hy : xs[j + 1]? = some y) (h : y ≤ x) : incFrom xs = false := by
 cases hr : incFrom xs with
 | false => rfl
 | true =>
  have := inc_drop (j := j) hr
  rw [inc_step hx hy, decide_eq_false (by omega)] at this
  cases this
theorem inc_all : ∀ {xs : List Int}, (∀ (j : Nat) (x y : Int), xs[j]? = some x → xs[j + 1]? = some y → x < y) → incFrom xs = true := by
 intro xs
 induction xs with
 | nil => intro _; rfl
 | cons a l ih =>
  intro h
  match l, ih, h with
  | [], _, _ => rfl
  | b :: l, ih, h =>
   rw [incFrom, ih (fun j x y hx hy => h (j + 1) x y hx hy), decide_eq_true (h 0 a b rfl rfl)]
   rfl
def IncTo (xs : List Int) (i : Nat) : Prop := ∀ (j : Nat) (x y : Int), j + 1 < i → xs[j]? = some x → xs[j + 1]? = some y → x < y
theorem IncTo.next {xs : List Int} {k : Nat} {x y : Int} (h : IncTo xs (k + 1)) (hx : xs[k]? = some x) (hy : xs[k + 1]? = some y) (hp : x < y) : IncTo xs (k + 1 + 1) := by
 intro j a b hj ha hb
 by_cases e : j = k
 ·subst e; rw [hx] at ha; rw [hy] at hb; cases ha; cases hb; exact hp
 ·exact h j a b (by omega) ha hb
theorem IncTo.all {xs : List Int} {i : Nat} (h : IncTo xs i) (hi : xs.length ≤ i ∨ xs.length ≤ 1) : incFrom xs = true :=
 inc_all (fun j x y hx hy => h j x y (by have := (List.getElem?_eq_some_iff.1 hy).1; omega) hx hy)
def dayErr (n : Nat) (gangs : Int) (l : List Int) : Int := if l.all (fun k => within k 0 (n - 1)) = false then 1 else if incFrom l = false then 4 else if gangs < l.length then 9 else 0
def planErrs (n : Nat) (gangs : Int) : List (List Int) → Int
 | [] => 0
 | l :: p => if dayErr n gangs l ≠ 0 then dayErr n gangs l else planErrs n gangs p
def planErr (n : Nat) (gangs : Int) (p : List (List Int)) : Int := if 20000 < p.length then 2 else planErrs n gangs p
theorem dayErr_not {n : Nat} {gangs : Int} {l : List Int} (h : l.all (fun k => within k 0 (n - 1)) = false) : dayErr n gangs l = 1 := by unfold dayErr; rw [if_pos h]
theorem dayErr_order {n : Nat} {gangs : Int} {l : List Int} (h : l.all (fun k => within k 0 (n - 1)) = true) (h2 : incFrom l = false) : dayErr n gangs l = 4 := by unfold dayErr; rw [if_neg (by rw [h]; decide), if_pos h2]
theorem dayErr_full {n : Nat} {gangs : Int} {l : List Int} (h : l.all (fun k => within k 0 (n - 1)) = true) (h2 : incFrom l = true) (h3 : gangs < l.length) : dayErr n gangs l = 9 := by unfold dayErr; rw [if_neg (by rw [h]; decide), if_neg (by rw [h2]; decide), if_pos h3]
theorem dayErr_ok {n : Nat} {gangs : Int} {l : List Int} (h : l.all (fun k => within k 0 (n - 1)) = true) (h2 : incFrom l = true) (h3 : ¬ gangs < l.length) : dayErr n gangs l = 0 := by unfold dayErr; rw [if_neg (by rw [h]; decide), if_neg (by rw [h2]; decide), if_neg h3]
theorem planErrs_at {n : Nat} {gangs : Int} {p : List (List Int)} {k : Nat} {l : List Int} (hl : p[k]? = some l) (he : dayErr n gangs l ≠ 0) : planErrs n gangs (p.drop k) = dayErr n gangs l := by
 obtain ⟨h, rfl⟩ := List.getElem?_eq_some_iff.1 hl
 rw [List.drop_eq_getElem_cons h, planErrs, if_pos he]
theorem planErrs_next {n : Nat} {gangs : Int} {p : List (List Int)} {k : Nat} {l : List Int} (hl : p[k]? = some l) (he : dayErr n gangs l = 0) : planErrs n gangs (p.drop k) = planErrs n gangs (p.drop (k + 1)) := by
 obtain ⟨h, rfl⟩ := List.getElem?_eq_some_iff.1 hl
 rw [List.drop_eq_getElem_cons h, planErrs, if_neg (by simp [he])]
def PlanAt (w : World) (P : Option Addr) (p : List (List Int)) : Prop :=
 0 < p.length → ∃ B o, P = some ⟨B, o, none⟩ ∧ ∀ d l, p[d]? = some l → ∃ A c, w.cell? ⟨B, o + d, none⟩ = some (.slice A l.length c) ∧ IntsAt w A l ∧ (A = none → l.length = 0 ∧ c = 0)
theorem PlanAt.up {w w' : World} {P : Option Addr} {p : List (List Int)} (h : PlanAt w P p) (hb : Below w.heap.size w w') : PlanAt w' P p := fun hn => by
 obtain ⟨B, o, e, hc⟩ := h hn
 refine ⟨B, o, e, fun d l hl => ?_⟩
 obtain ⟨A, c, h1, h2, h3⟩ := hc d l hl
 exact ⟨A, c, up_cell hb h1, h2.up hb, h3⟩
set_option maxRecDepth 100000 in
set_option maxHeartbeats 4000000 in
theorem hasBin_any (b : Br) (A : Option Addr) (c n : Nat) (hn : n ≤ 1000) (bin : Int) (w : World) :
  Calls Try.prog 70 #[.agg #[.int .i64 b.cool, .int .i64 b.gangs, .int .i64 b.r0, .int .i64 b.r1, .int .i64 b.r2, .int .i64 b.r3, .int .i64 b.r4, .int .i64 b.r5, .slice A n c], .int .i64 bin] w fun e w' => e = .returned (.bool (within bin 0 (n - 1))) ∧ Below w.heap.size w w' := by
 go_enter Try.func70, Try.ntmps70
 go_wp2_with (go_at_call 51; refine (within_any _ _ _ _).mono ?_; rintro e w' ⟨rfl, rfl⟩)
 go_ret
 exact ⟨rfl, zg⟩
theorem rise_nat {w : World} {B : Nat} {t : TypeId} {b : Br} {v : Value} {l : Nat} (h : Holds w B t #[.int .i64 b.cool, .int .i64 b.gangs, .int .i64 b.r0, .int .i64 b.r1, .int .i64 b.r2, .int .i64 b.r3, .int .i64 b.r4, .int .i64 b.r5, v]) (hl : l < 6) : w.cell? ⟨B, 2 + l, none⟩ = some (.int .i64 (b.rise (l : Int))) := by
 refine rise_cell h ?_
 unfold Br.rise
 rw [List.getD_eq_getElem?_getD, Int.toNat_natCast, List.getElem?_eq_getElem (by simp [Br.rises]; omega)]
 rfl
set_option maxRecDepth 100000 in
set_option maxHeartbeats 4000000 in
theorem rises_any (b : Br) (A : Option Addr) (c : Nat) (bs : List Bn)  (w : World) (hA : BinsAt w A bs) (hl : bs.length ≤ 1000) (k : Nat) (x : Bn) (hx : bs[k]? = some x) (l m : Nat) (hlo : x.lo = l) (hhi : x.hi = m) (hl6 : l < 6) (hh6 : m < 6) :
  Calls Try.prog 59 #[.agg #[.int .i64 b.cool, .int .i64 b.gangs, .int .i64 b.r0, .int .i64 b.r1, .int .i64 b.r2, .int .i64 b.r3, .int .i64 b.r4, .int .i64 b.r5, .slice A bs.length c], .int .i64 (k : Int)] w fun e w' => e = .returned (.agg #[.int .i64 (b.rise l), .int .i64 (b.rise m)]) ∧ Below w.heap.size w w' := by
 have h6l : (l : Int) < 6 := by omega
 have h6h : (m : Int) < 6 := by omega
 obtain ⟨E0, oo, rfl, hcell⟩ := hA (by have := (List.getElem?_eq_some_iff.1 hx).1; omega)
 have hk : k < bs.length := (List.getElem?_eq_some_iff.1 hx).1
 have hk' : (k : Int) < bs.length := by omega
 have ke2 : w.cell? ⟨E0, oo + k * 4 + 2, none⟩ = some (.int .i64 x.lo) := hcell k x hx 2 _ rfl
 have ke3 : w.cell? ⟨E0, oo + k * 4 + 3, none⟩ = some (.int .i64 x.hi) := hcell k x hx 3 _ rfl
 have lE : E0 < w.heap.size := World.block_lt_of_cell? w _ ke2
 have ke3' : w.cell? ⟨E0, oo + k * 4 + 2 + 1, none⟩ = some (.int .i64 x.hi) := ke3
 rw [hlo] at ke2
 rw [hhi] at ke3 ke3'
 have HL6 := Lib.hid hl6
 have HH6 := Lib.hid hh6
 clear hcell hA hx hlo hhi
 go_enter Try.func59, Try.ntmps59
 go_wp2_with fail
 rename_i Kc hKc
 have HSL := Lib.hid (show slotsOf [some 12, some 13, some 14, some 15, some 16, some 17, some 18, some 19, some 20, some 21, some 22, none] = [12, 13, 14, 15, 16, 17, 18, 19, 20, 21, 22] from rfl)
 refine wp_region_partsG (by kernel_rfl) [some 12, some 13, some 14, some 15, some 16, some 17, some 18, some 19, some 20, some 21, some 22, none] (fun jq xq w' => match jq with
  | 0 => xq 12 = .pointer (some ⟨w.heap.size + 1 + 1, 0, none⟩)
  | 1 => xq 13 = .int .i64 (l : Int)
  | 2 => xq 14 = .pointer (some ⟨w.heap.size, 2, none⟩)
  | 3 => xq 15 = .pointer (some ⟨w.heap.size, 2 + l, none⟩)
  | 4 => xq 16 = .int .i64 (b.rise l)
  | 5 => xq 17 = .pointer (some ⟨w.heap.size + 1 + 1, 1, none⟩)
  | 6 => xq 18 = .int .i64 (m : Int)
  | 7 => xq 19 = .pointer (some ⟨w.heap.size, 2, none⟩)
  | 8 => xq 20 = .pointer (some ⟨w.heap.size, 2 + m, none⟩)
  | 9 => xq 21 = .int .i64 (b.rise m)
  | 10 => xq 22 = .agg #[.int .i64 (b.rise l), .int .i64 (b.rise m)]
  | 11 => Holds w' (w.heap.size + 1) 27 #[.int .i64 (b.rise l), .int .i64 (b.rise m)]
  | 12 => Holds w' (w.heap.size + 1) 27 #[.int .i64 0, .int .i64 0]
  | _ => True) [[12], [13], [14], [15], [16], [17], [18], [19], [20], [21], [22], [], []] [(11, 12)] (fun w' => Below w.heap.size w w' ∧ w.heap.size + 1 + 1 + 1 ≤ w'.heap.size ∧ Holds w' (w.heap.size) 25 #[.int .i64 b.cool, .int .i64 b.gangs, .int .i64 b.r0, .int .i64 b.r1, .int .i64 b.r2, .int .i64 b.r3, .int .i64 b.r4, .int .i64 b.r5, .slice (some ⟨E0, oo, none⟩) bs.length c] ∧ Holds w' (w.heap.size + 1 + 1) 27 #[.int .i64 (l : Int), .int .i64 (m : Int)]) (by kernel_rfl)  ?_ ?_ (fun w' w'' hb g => ⟨g.1.trans (hb.mono g.1.size), Nat.le_trans g.2.1 hb.size, g.2.2.1.up hb, g.2.2.2.up hb⟩) (⟨zg, by (simp; done), by (repeat first | (with_reducible first | assumption | apply Holds.set4 | apply Holds.set2 | apply Holds.putL | ((refine Holds.new' _ _ ?_); (simp; done)) | refine Holds.alloc ?_ _ | refine Holds.drew ?_ | refine Holds.far ?_ (by simp only [ne_eq]; omega) _) | rfl), by (repeat first | (with_reducible first | assumption | apply Holds.set4 | apply Holds.set2 | apply Holds.putL | ((refine Holds.new' _ _ ?_); (simp; done)) | refine Holds.alloc ?_ _ | refine Holds.drew ?_ | refine Holds.far ?_ (by simp only [ne_eq]; omega) _) | rfl)⟩) ?_ ?_ ?_
 ·intro jq xq xq' wqq h hv
  match jq, h, hv with
  | 0, h, hv => show xq' 12 = .pointer (some ⟨w.heap.size + 1 + 1, 0, none⟩); rw [← h 12 (by decide)]; exact hv
  | 1, h, hv => show xq' 13 = .int .i64 (l : Int); rw [← h 13 (by decide)]; exact hv
  | 2, h, hv => show xq' 14 = .pointer (some ⟨w.heap.size, 2, none⟩); rw [← h 14 (by decide)]; exact hv
  | 3, h, hv => show xq' 15 = .pointer (some ⟨w.heap.size, 2 + l, none⟩); rw [← h 15 (by decide)]; exact hv
  | 4, h, hv => show xq' 16 = .int .i64 (b.rise l); rw [← h 16 (by decide)]; exact hv
  | 5, h, hv => show xq' 17 = .pointer (some ⟨w.heap.size + 1 + 1, 1, none⟩); rw [← h 17 (by decide)]; exact hv
  | 6, h, hv => show xq' 18 = .int .i64 (m : Int); rw [← h 18 (by decide)]; exact hv
  | 7, h, hv => show xq' 19 = .pointer (some ⟨w.heap.size, 2, none⟩); rw [← h 19 (by decide)]; exact hv
  | 8, h, hv => show xq' 20 = .pointer (some ⟨w.heap.size, 2 + m, none⟩); rw [← h 20 (by decide)]; exact hv
  | 9, h, hv => show xq' 21 = .int .i64 (b.rise m); rw [← h 21 (by decide)]; exact hv
  | 10, h, hv => show xq' 22 = .agg #[.int .i64 (b.rise l), .int .i64 (b.rise m)]; rw [← h 22 (by decide)]; exact hv
  | 11, h, hv => exact hv
  | 12, h, hv => exact hv
  | _ + 13, _, _ => trivial
 ·intro jq xq wqq w' hb' hv
  match jq, hv with
  | 0, hv => exact hv
  | 1, hv => exact hv
  | 2, hv => exact hv
  | 3, hv => exact hv
  | 4, hv => exact hv
  | 5, hv => exact hv
  | 6, hv => exact hv
  | 7, hv => exact hv
  | 8, hv => exact hv
  | 9, hv => exact hv
  | 10, hv => exact hv
  | 11, h0 => exact h0.up hb'
  | 12, h0 => exact h0.up hb'
  | _ + 13, _ => trivial
 ·intro jq hj
  match jq, hj with
  | 0, hj => exact absurd hj (by decide)
  | 1, hj => exact absurd hj (by decide)
  | 2, hj => exact absurd hj (by decide)
  | 3, hj => exact absurd hj (by decide)
  | 4, hj => exact absurd hj (by decide)
  | 5, hj => exact absurd hj (by decide)
  | 6, hj => exact absurd hj (by decide)
  | 7, hj => exact absurd hj (by decide)
  | 8, hj => exact absurd hj (by decide)
  | 9, hj => exact absurd hj (by decide)
  | 10, hj => exact absurd hj (by decide)
  | 11, hj => exact absurd hj (by decide)
  | 12, _ => exact (show Holds _ (w.heap.size + 1) 27 #[.int .i64 0, .int .i64 0] from by (repeat first | (with_reducible first | assumption | apply Holds.set4 | apply Holds.set2 | apply Holds.putL | ((refine Holds.new' _ _ ?_); (simp; done)) | refine Holds.alloc ?_ _ | refine Holds.drew ?_ | refine Holds.far ?_ (by simp only [ne_eq]; omega) _) | rfl))
  | _ + 13, _ => trivial
 ·refine ⟨?_, ?_, ?_, ?_, ?_, ?_, ?_, ?_, ?_, ?_, ?_, ?_, trivial⟩
  ·intro xq w1 hb1 hx K hK0
   have hK := fun v w' hb => hK0 v w' (.inl hb)
   clear hx hKc hK0
   simp only [frameOf, fill, setSlot, sg, Nat.reduceBEq, if_true, if_false, Nat.reduceAdd, Nat.reduceEqDiff, HSL.out] at hK ⊢
   go_wp2_with (fail)
   exact hK _ _ (Below.refl _ _) rfl
  ·intro xq w1 hb1 hx K hK0
   have hK := fun v w' hb => hK0 v w' (.inl hb)
   have e12 : xq 12 = .pointer (some ⟨w.heap.size + 1 + 1, 0, none⟩) := hx 0 (by rfl) (by rfl)
   clear hx hKc hK0
   have q13 : w1.cell? ⟨w.heap.size + 1 + 1, 0, none⟩ = some (.int .i64 (l : Int)) := hb1.2.2.2.cell 0
   simp only [frameOf, fill, setSlot, sg, Nat.reduceBEq, if_true, if_false, Nat.reduceAdd, Nat.reduceEqDiff, HSL.out] at hK ⊢
   simp only [e12] at hK ⊢
   clear e12
   go_wp2_with (fail)
   exact hK _ _ (Below.refl _ _) rfl
  ·intro xq w1 hb1 hx K hK0
   have hK := fun v w' hb => hK0 v w' (.inl hb)
   clear hx hKc hK0
   simp only [frameOf, fill, setSlot, sg, Nat.reduceBEq, if_true, if_false, Nat.reduceAdd, Nat.reduceEqDiff, HSL.out] at hK ⊢
   go_wp2_with (fail)
   exact hK _ _ (Below.refl _ _) rfl
  ·intro xq w1 hb1 hx K hK0
   have hK := fun v w' hb => hK0 v w' (.inl hb)
   have e13 : xq 13 = .int .i64 (l : Int) := hx 1 (by rfl) (by rfl)
   have e14 : xq 14 = .pointer (some ⟨w.heap.size, 2, none⟩) := hx 2 (by rfl) (by rfl)
   clear hx hKc hK0
   have h6 := h6l
   simp only [frameOf, fill, setSlot, sg, Nat.reduceBEq, if_true, if_false, Nat.reduceAdd, Nat.reduceEqDiff, HSL.out] at hK ⊢
   simp only [e13, e14] at hK ⊢
   clear e13 e14
   go_wp2_with (fail)
   exact hK _ _ (Below.refl _ _) rfl
  ·intro xq w1 hb1 hx K hK0
   have hK := fun v w' hb => hK0 v w' (.inl hb)
   have e15 : xq 15 = .pointer (some ⟨w.heap.size, 2 + l, none⟩) := hx 3 (by rfl) (by rfl)
   clear hx hKc hK0
   have q16 := rise_nat hb1.2.2.1 HL6.out
   simp only [frameOf, fill, setSlot, sg, Nat.reduceBEq, if_true, if_false, Nat.reduceAdd, Nat.reduceEqDiff, HSL.out] at hK ⊢
   simp only [e15] at hK ⊢
   clear e15
   go_wp2_with (fail)
   exact hK _ _ (Below.refl _ _) rfl
  ·intro xq w1 hb1 hx K hK0
   have hK := fun v w' hb => hK0 v w' (.inl hb)
   clear hx hKc hK0
   simp only [frameOf, fill, setSlot, sg, Nat.reduceBEq, if_true, if_false, Nat.reduceAdd, Nat.reduceEqDiff, HSL.out] at hK ⊢
   go_wp2_with (fail)
   exact hK _ _ (Below.refl _ _) rfl
  ·intro xq w1 hb1 hx K hK0
   have hK := fun v w' hb => hK0 v w' (.inl hb)
   have e17 : xq 17 = .pointer (some ⟨w.heap.size + 1 + 1, 1, none⟩) := hx 5 (by rfl) (by rfl)
   clear hx hKc hK0
   have q18 : w1.cell? ⟨w.heap.size + 1 + 1, 1, none⟩ = some (.int .i64 (m : Int)) := hb1.2.2.2.cell 1
   simp only [frameOf, fill, setSlot, sg, Nat.reduceBEq, if_true, if_false, Nat.reduceAdd, Nat.reduceEqDiff, HSL.out] at hK ⊢
   simp only [e17] at hK ⊢
   clear e17
   go_wp2_with (fail)
   exact hK _ _ (Below.refl _ _) rfl
  ·intro xq w1 hb1 hx K hK0
   have hK := fun v w' hb => hK0 v w' (.inl hb)
   clear hx hKc hK0
   simp only [frameOf, fill, setSlot, sg, Nat.reduceBEq, if_true, if_false, Nat.reduceAdd, Nat.reduceEqDiff, HSL.out] at hK ⊢
   go_wp2_with (fail)
   exact hK _ _ (Below.refl _ _) rfl
  ·intro xq w1 hb1 hx K hK0
   have hK := fun v w' hb => hK0 v w' (.inl hb)
   have e18 : xq 18 = .int .i64 (m : Int) := hx 6 (by rfl) (by rfl)
   have e19 : xq 19 = .pointer (some ⟨w.heap.size, 2, none⟩) := hx 7 (by rfl) (by rfl)
   clear hx hKc hK0
   have h6 := h6h
   simp only [frameOf, fill, setSlot, sg, Nat.reduceBEq, if_true, if_false, Nat.reduceAdd, Nat.reduceEqDiff, HSL.out] at hK ⊢
   simp only [e18, e19] at hK ⊢
   clear e18 e19
   go_wp2_with (fail)
   exact hK _ _ (Below.refl _ _) rfl
  ·intro xq w1 hb1 hx K hK0
   have hK := fun v w' hb => hK0 v w' (.inl hb)
   have e20 : xq 20 = .pointer (some ⟨w.heap.size, 2 + m, none⟩) := hx 8 (by rfl) (by rfl)
   clear hx hKc hK0
   have q21 := rise_nat hb1.2.2.1 HH6.out
   simp only [frameOf, fill, setSlot, sg, Nat.reduceBEq, if_true, if_false, Nat.reduceAdd, Nat.reduceEqDiff, HSL.out] at hK ⊢
   simp only [e20] at hK ⊢
   clear e20
   go_wp2_with (fail)
   exact hK _ _ (Below.refl _ _) rfl
  ·intro xq w1 hb1 hx K hK0
   have hK := fun v w' hb => hK0 v w' (.inl hb)
   have e16 : xq 16 = .int .i64 (b.rise l) := hx 4 (by rfl) (by rfl)
   have e21 : xq 21 = .int .i64 (b.rise m) := hx 9 (by rfl) (by rfl)
   clear hx hKc hK0
   simp only [frameOf, fill, setSlot, sg, Nat.reduceBEq, if_true, if_false, Nat.reduceAdd, Nat.reduceEqDiff, HSL.out] at hK ⊢
   simp only [e16, e21] at hK ⊢
   clear e16 e21
   go_wp2_with (fail)
   exact hK _ _ (Below.refl _ _) rfl
  ·intro xq w1 hb1 hx K hK0
   have hK := fun v w' hb => hK0 v w' (.inr hb)
   have e22 : xq 22 = .agg #[.int .i64 (b.rise l), .int .i64 (b.rise m)] := hx 10 (by rfl) (by rfl)
   have fi4_0 : Holds w1 (w.heap.size + 1) 27 #[.int .i64 0, .int .i64 0] := hx 12 (by rfl) (by rfl)
   clear hx hKc hK0
   have lt4 : w.heap.size + 1 < w1.heap.size := by have := hb1.2.1; omega
   obtain ⟨k40, k41⟩ := fi4_0.c2
   obtain ⟨z40, z41⟩ := fi4_0.f2
   simp only [frameOf, fill, setSlot, sg, Nat.reduceBEq, if_true, if_false, Nat.reduceAdd, Nat.reduceEqDiff, HSL.out] at hK ⊢
   have E22 := Lib.hid e22
   simp only [e22] at hK ⊢
   clear e22
   go_wp2_with (fail)
   refine hK undef _ ⟨(by have h := hb1; exact ⟨h.1.trans zg, by simp only [World.size_setCell]; exact h.2.1, by (have h' := h.2.2.1; (repeat first | (with_reducible first | assumption | apply Holds.set4 | apply Holds.set2 | apply Holds.putL | ((refine Holds.new' _ _ ?_); (simp; done)) | refine Holds.alloc ?_ _ | refine Holds.drew ?_ | refine Holds.far ?_ (by simp only [ne_eq]; omega) _) | rfl)), by (have h' := h.2.2.2; (repeat first | (with_reducible first | assumption | apply Holds.set4 | apply Holds.set2 | apply Holds.putL | ((refine Holds.new' _ _ ?_); (simp; done)) | refine Holds.alloc ?_ _ | refine Holds.drew ?_ | refine Holds.far ?_ (by simp only [ne_eq]; omega) _) | rfl))⟩), ?_⟩ (Holds.set2 _ _ fi4_0)
   intro jq xq hd hne hv
   match jq, hd, hne, hv with
   | 0, _, _, hv => exact hv
   | 1, _, _, hv => exact hv
   | 2, _, _, hv => exact hv
   | 3, _, _, hv => exact hv
   | 4, _, _, hv => exact hv
   | 5, _, _, hv => exact hv
   | 6, _, _, hv => exact hv
   | 7, _, _, hv => exact hv
   | 8, _, _, hv => exact hv
   | 9, _, _, hv => exact hv
   | 10, _, _, hv => exact hv
   | 11, _, hne, _ => exact absurd rfl hne
   | 12, hd, _, _ => exact absurd hd (by decide)
   | _ + 13, _, _, _ => trivial
 ·intro xq w1 hb1 hx
  have e12 : xq 12 = .pointer (some ⟨w.heap.size + 1 + 1, 0, none⟩) := hx 0 (by decide)
  have e13 : xq 13 = .int .i64 (l : Int) := hx 1 (by decide)
  have e14 : xq 14 = .pointer (some ⟨w.heap.size, 2, none⟩) := hx 2 (by decide)
  have e15 : xq 15 = .pointer (some ⟨w.heap.size, 2 + l, none⟩) := hx 3 (by decide)
  have e16 : xq 16 = .int .i64 (b.rise l) := hx 4 (by decide)
  have e17 : xq 17 = .pointer (some ⟨w.heap.size + 1 + 1, 1, none⟩) := hx 5 (by decide)
  have e18 : xq 18 = .int .i64 (m : Int) := hx 6 (by decide)
  have e19 : xq 19 = .pointer (some ⟨w.heap.size, 2, none⟩) := hx 7 (by decide)
  have e20 : xq 20 = .pointer (some ⟨w.heap.size, 2 + m, none⟩) := hx 8 (by decide)
  have e21 : xq 21 = .int .i64 (b.rise m) := hx 9 (by decide)
  have e22 : xq 22 = .agg #[.int .i64 (b.rise l), .int .i64 (b.rise m)] := hx 10 (by decide)
  have fn11_0 : Holds w1 (w.heap.size + 1) 27 #[.int .i64 (b.rise l), .int .i64 (b.rise m)] := hx 11 (by decide)
  clear hx
  simp only [frameOf, fill, setSlot, sg, Nat.reduceBEq, if_true, if_false, Nat.reduceAdd, Nat.reduceEqDiff, HSL.out]
  simp only [e12, e13, e14, e15, e16, e17, e18, e19, e20, e21, e22]
  clear e12 e13 e14 e15 e16 e17 e18 e19 e20 e21 e22
  refine hKc _ _ ?_
  go_wp2_with fail
  refine ret_cell (t := 27) (cs := #[.int .i64 (b.rise l), .int .i64 (b.rise m)]) rfl rfl fn11_0 Try.underlying27 rfl (by kernel_rfl) rfl ⟨rfl, hb1.1⟩
theorem fld_lo (a b : Int) (w : World) : (Instr.field 27 (.agg #[.int .i64 a, .int .i64 b]) 0).run Try.prog w = .ok (.int .i64 a) w := by kernel_rfl
theorem fld_hi (a b : Int) (w : World) : (Instr.field 27 (.agg #[.int .i64 a, .int .i64 b]) 1).run Try.prog w = .ok (.int .i64 b) w := by kernel_rfl
attribute [local go_sem] fld_lo fld_hi
theorem good_bin {b : Br} {bs : List Bn} {k : Nat} {x : Bn} (h : barnErr b bs = 0) (hx : bs[k]? = some x) : ∃ l m : Nat, x.lo = l ∧ x.hi = m ∧ l < 6 ∧ m < 6 ∧ 0 ≤ x.mark ∧ x.mark ≤ 60 ∧ 0 ≤ x.warm ∧ x.warm ≤ x.mark ∧ 0 ≤ b.cool ∧ b.cool ≤ 60 ∧ (b.rise m = 0 ∨ (6 ≤ b.rise m ∧ b.rise m ≤ 20)) := by
 obtain ⟨_, hc, _, hr, hb, _, _⟩ := barn_right h
 have hx' := List.all_eq_true.1 hb x (List.mem_of_getElem? hx)
 simp only [Bn.inRange, within, Bool.and_eq_true, decide_eq_true_eq] at hx' hc
 obtain ⟨⟨⟨a1, a2⟩, a3, a4⟩, ⟨a5, a6⟩, a7, a8⟩ := hx'
 refine ⟨x.lo.toNat, x.hi.toNat, by omega, by omega, by omega, by omega, a1, a2, a3, a4, hc.1, hc.2, ?_⟩
 exact riseOk_cases (rise_in hr _)
theorem bin_of {bs : List Bn} {bin : Int} (h : within bin 0 ((bs.length : Int) - 1) = true) : ∃ (k : Nat) (x : Bn), bin = k ∧ bs[k]? = some x := by
 simp only [within, Bool.and_eq_true, decide_eq_true_eq] at h
 exact ⟨bin.toNat, bs[bin.toNat]'(by omega), by omega, List.getElem?_eq_getElem _⟩
set_option maxRecDepth 100000 in
set_option maxHeartbeats 40000000 in
theorem isIncreasing_any (A : Option Addr) (c : Nat) (xs : List Int) (w : World) (hA : IntsAt w A xs) (hl : xs.length ≤ 1000) :
  Calls Try.prog 113 #[.slice A xs.length c] w fun e w' => e = .returned (.bool (incFrom xs)) ∧ Below w.heap.size w w' := by
 have HA := Lib.hid hA
 clear hA
 go_enter Try.func113, Try.ntmps113
 go_wp2_with fail
 go_loopw [3] (fun v3 wr => ∃ i : Nat, v3 = .int .i64 (i : Int) ∧ 1 ≤ i ∧ (i ≤ xs.length ∨ i = 1) ∧ IncTo xs i ∧ Below w.heap.size w wr) (fun v3 _ => xs.length + 1 - (intOf v3).toNat)
 case atStart => exact ⟨1, rfl, Nat.le_refl _, .inr rfl, (fun j a b h => by omega), Below.refl _ _⟩
 case round =>
  obtain ⟨i, rfl, h1, h2, hf, hBr⟩ := hrel
  have HF := Lib.hid hf
  clear hf
  by_cases hlt : i < xs.length
  ·have hlt' : (i : Int) < xs.length := by omega
   obtain ⟨k, rfl⟩ : ∃ k, i = k + 1 := ⟨i - 1, by omega⟩
   obtain ⟨x, hx⟩ : ∃ z, xs[k]? = some z := ⟨_, List.getElem?_eq_getElem (by omega)⟩
   obtain ⟨y, hy⟩ : ∃ z, xs[k + 1]? = some z := ⟨_, List.getElem?_eq_getElem hlt⟩
   obtain ⟨B, o, rfl, hc⟩ := HA.out (by omega)
   have HCX := Lib.hid (hc k x hx)
   have HCY := Lib.hid (hc (k + 1) y hy)
   have hlB := World.block_lt_of_cell? w _ HCX.out
   have HX := Lib.hid hx
   have HY := Lib.hid hy
   have HJ := Lib.hid hlt
   have hj3 : k + 1 ≤ 1000 := by omega
   clear hc hx hy hlt
   by_cases hp : x < y
   ·go_wp2_with fail
    rename_i Kc hKc
    have HSL := Lib.hid (show slotsOf [some 10, some 11, some 12, some 13, some 14, some 15, some 16, some 17, some 18, some 19] = [10, 11, 12, 13, 14, 15, 16, 17, 18, 19] from rfl)
    refine wp_region_partsG (by kernel_rfl) [some 10, some 11, some 12, some 13, some 14, some 15, some 16, some 17, some 18, some 19] (fun jq xq w' => match jq with
     | 0 => xq 10 = .slice (some ⟨B, o, none⟩) xs.length c
     | 1 => xq 11 = .int .i64 ((k + 1 : Nat) : Int)
     | 2 => xq 12 = .pointer (some ⟨B, o + (k + 1), none⟩)
     | 3 => xq 13 = .int .i64 y
     | 4 => xq 14 = .slice (some ⟨B, o, none⟩) xs.length c
     | 5 => xq 15 = .int .i64 ((k + 1 : Nat) : Int)
     | 6 => xq 16 = .int .i64 (k : Int)
     | 7 => xq 17 = .pointer (some ⟨B, o + k, none⟩)
     | 8 => xq 18 = .int .i64 x
     | 9 => xq 19 = .bool false
     | _ => True) [[10], [11], [12], [13], [14], [15], [16], [17], [18], [19]] [] (Below w.heap.size w) (by kernel_rfl)  ?_ ?_ (fun w' w'' hb h => h.trans (hb.mono h.size)) (hBr) ?_ ?_ ?_
    ·intro jq xq xq' wqq h hv
     match jq, h, hv with
     | 0, h, hv => show xq' 10 = .slice (some ⟨B, o, none⟩) xs.length c; rw [← h 10 (by decide)]; exact hv
     | 1, h, hv => show xq' 11 = .int .i64 ((k + 1 : Nat) : Int); rw [← h 11 (by decide)]; exact hv
     | 2, h, hv => show xq' 12 = .pointer (some ⟨B, o + (k + 1), none⟩); rw [← h 12 (by decide)]; exact hv
     | 3, h, hv => show xq' 13 = .int .i64 y; rw [← h 13 (by decide)]; exact hv
     | 4, h, hv => show xq' 14 = .slice (some ⟨B, o, none⟩) xs.length c; rw [← h 14 (by decide)]; exact hv
     | 5, h, hv => show xq' 15 = .int .i64 ((k + 1 : Nat) : Int); rw [← h 15 (by decide)]; exact hv
     | 6, h, hv => show xq' 16 = .int .i64 (k : Int); rw [← h 16 (by decide)]; exact hv
     | 7, h, hv => show xq' 17 = .pointer (some ⟨B, o + k, none⟩); rw [← h 17 (by decide)]; exact hv
     | 8, h, hv => show xq' 18 = .int .i64 x; rw [← h 18 (by decide)]; exact hv
     | 9, h, hv => show xq' 19 = .bool false; rw [← h 19 (by decide)]; exact hv
     | _ + 10, _, _ => trivial
    ·intro jq xq wqq w' hb' hv
     match jq, hv with
     | 0, hv => exact hv
     | 1, hv => exact hv
     | 2, hv => exact hv
     | 3, hv => exact hv
     | 4, hv => exact hv
     | 5, hv => exact hv
     | 6, hv => exact hv
     | 7, hv => exact hv
     | 8, hv => exact hv
     | 9, hv => exact hv
     | _ + 10, _ => trivial
    ·intro jq hj
     match jq, hj with
     | 0, hj => exact absurd hj (by decide)
     | 1, hj => exact absurd hj (by decide)
     | 2, hj => exact absurd hj (by decide)
     | 3, hj => exact absurd hj (by decide)
     | 4, hj => exact absurd hj (by decide)
     | 5, hj => exact absurd hj (by decide)
     | 6, hj => exact absurd hj (by decide)
     | 7, hj => exact absurd hj (by decide)
     | 8, hj => exact absurd hj (by decide)
     | 9, hj => exact absurd hj (by decide)
     | _ + 10, _ => trivial
    ·refine ⟨?_, ?_, ?_, ?_, ?_, ?_, ?_, ?_, ?_, ?_, trivial⟩
     ·intro xq w1 hb1 hx K hK0
      have hK := fun v w' hb => hK0 v w' (.inl hb)
      clear hx hKc hK0
      simp only [frameOf, fill, setSlot, sg, Nat.reduceBEq, if_true, if_false, Nat.reduceAdd, Nat.reduceEqDiff, HSL.out] at hK ⊢
      go_wp2_with (fail)
      exact hK _ _ (Below.refl _ _) rfl
     ·intro xq w1 hb1 hx K hK0
      have hK := fun v w' hb => hK0 v w' (.inl hb)
      clear hx hKc hK0
      simp only [frameOf, fill, setSlot, sg, Nat.reduceBEq, if_true, if_false, Nat.reduceAdd, Nat.reduceEqDiff, HSL.out] at hK ⊢
      go_wp2_with (fail)
      first | exact hK _ _ (Below.refl _ _) rfl | exact hK _ _ (Below.refl _ _) (by go_num)
     ·intro xq w1 hb1 hx K hK0
      have hK := fun v w' hb => hK0 v w' (.inl hb)
      have e10 : xq 10 = .slice (some ⟨B, o, none⟩) xs.length c := hx 0 (by rfl) (by rfl)
      have e11 : xq 11 = .int .i64 ((k + 1 : Nat) : Int) := hx 1 (by rfl) (by rfl)
      clear hx hKc hK0
      have hjl : k + 1 < xs.length := HJ.out
      simp only [frameOf, fill, setSlot, sg, Nat.reduceBEq, if_true, if_false, Nat.reduceAdd, Nat.reduceEqDiff, HSL.out] at hK ⊢
      simp only [e10, e11] at hK ⊢
      clear e10 e11
      go_wp2_with (fail)
      exact hK _ _ (Below.refl _ _) rfl
     ·intro xq w1 hb1 hx K hK0
      have hK := fun v w' hb => hK0 v w' (.inl hb)
      have e12 : xq 12 = .pointer (some ⟨B, o + (k + 1), none⟩) := hx 2 (by rfl) (by rfl)
      clear hx hKc hK0
      have q13 : w1.cell? ⟨B, o + (k + 1), none⟩ = some (.int .i64 y) := (hb1.cell (p := ⟨B, o + (k + 1), none⟩) hlB).trans HCY.out
      simp only [frameOf, fill, setSlot, sg, Nat.reduceBEq, if_true, if_false, Nat.reduceAdd, Nat.reduceEqDiff, HSL.out] at hK ⊢
      simp only [e12] at hK ⊢
      clear e12
      go_wp2_with (fail)
      exact hK _ _ (Below.refl _ _) rfl
     ·intro xq w1 hb1 hx K hK0
      have hK := fun v w' hb => hK0 v w' (.inl hb)
      clear hx hKc hK0
      simp only [frameOf, fill, setSlot, sg, Nat.reduceBEq, if_true, if_false, Nat.reduceAdd, Nat.reduceEqDiff, HSL.out] at hK ⊢
      go_wp2_with (fail)
      exact hK _ _ (Below.refl _ _) rfl
     ·intro xq w1 hb1 hx K hK0
      have hK := fun v w' hb => hK0 v w' (.inl hb)
      clear hx hKc hK0
      simp only [frameOf, fill, setSlot, sg, Nat.reduceBEq, if_true, if_false, Nat.reduceAdd, Nat.reduceEqDiff, HSL.out] at hK ⊢
      go_wp2_with (fail)
      first | exact hK _ _ (Below.refl _ _) rfl | exact hK _ _ (Below.refl _ _) (by go_num)
     ·intro xq w1 hb1 hx K hK0
      have hK := fun v w' hb => hK0 v w' (.inl hb)
      have e15 : xq 15 = .int .i64 ((k + 1 : Nat) : Int) := hx 5 (by rfl) (by rfl)
      clear hx hKc hK0
      simp only [frameOf, fill, setSlot, sg, Nat.reduceBEq, if_true, if_false, Nat.reduceAdd, Nat.reduceEqDiff, HSL.out] at hK ⊢
      simp only [e15] at hK ⊢
      clear e15
      go_wp2_with (fail)
      first | exact hK _ _ (Below.refl _ _) rfl | exact hK _ _ (Below.refl _ _) (by go_num)
     ·intro xq w1 hb1 hx K hK0
      have hK := fun v w' hb => hK0 v w' (.inl hb)
      have e14 : xq 14 = .slice (some ⟨B, o, none⟩) xs.length c := hx 4 (by rfl) (by rfl)
      have e16 : xq 16 = .int .i64 (k : Int) := hx 6 (by rfl) (by rfl)
      clear hx hKc hK0
      have hjl : k < xs.length := Nat.lt_of_succ_lt HJ.out
      simp only [frameOf, fill, setSlot, sg, Nat.reduceBEq, if_true, if_false, Nat.reduceAdd, Nat.reduceEqDiff, HSL.out] at hK ⊢
      simp only [e14, e16] at hK ⊢
      clear e14 e16
      go_wp2_with (fail)
      exact hK _ _ (Below.refl _ _) rfl
     ·intro xq w1 hb1 hx K hK0
      have hK := fun v w' hb => hK0 v w' (.inl hb)
      have e17 : xq 17 = .pointer (some ⟨B, o + k, none⟩) := hx 7 (by rfl) (by rfl)
      clear hx hKc hK0
      have q18 : w1.cell? ⟨B, o + k, none⟩ = some (.int .i64 x) := (hb1.cell (p := ⟨B, o + k, none⟩) hlB).trans HCX.out
      simp only [frameOf, fill, setSlot, sg, Nat.reduceBEq, if_true, if_false, Nat.reduceAdd, Nat.reduceEqDiff, HSL.out] at hK ⊢
      simp only [e17] at hK ⊢
      clear e17
      go_wp2_with (fail)
      exact hK _ _ (Below.refl _ _) rfl
     ·intro xq w1 hb1 hx K hK0
      have hK := fun v w' hb => hK0 v w' (.inl hb)
      have e13 : xq 13 = .int .i64 y := hx 3 (by rfl) (by rfl)
      have e18 : xq 18 = .int .i64 x := hx 8 (by rfl) (by rfl)
      clear hx hKc hK0
      simp only [frameOf, fill, setSlot, sg, Nat.reduceBEq, if_true, if_false, Nat.reduceAdd, Nat.reduceEqDiff, HSL.out] at hK ⊢
      simp only [e13, e18] at hK ⊢
      clear e13 e18
      go_wp2_with (fail)
      first | exact hK _ _ (Below.refl _ _) rfl | exact hK _ _ (Below.refl _ _) (congrArg Value.bool (decide_eq_false (by omega)))
    ·intro xq w1 hb1 hx
     have e10 : xq 10 = .slice (some ⟨B, o, none⟩) xs.length c := hx 0 (by decide)
     have e11 : xq 11 = .int .i64 ((k + 1 : Nat) : Int) := hx 1 (by decide)
     have e12 : xq 12 = .pointer (some ⟨B, o + (k + 1), none⟩) := hx 2 (by decide)
     have e13 : xq 13 = .int .i64 y := hx 3 (by decide)
     have e14 : xq 14 = .slice (some ⟨B, o, none⟩) xs.length c := hx 4 (by decide)
     have e15 : xq 15 = .int .i64 ((k + 1 : Nat) : Int) := hx 5 (by decide)
     have e16 : xq 16 = .int .i64 (k : Int) := hx 6 (by decide)
     have e17 : xq 17 = .pointer (some ⟨B, o + k, none⟩) := hx 7 (by decide)
     have e18 : xq 18 = .int .i64 x := hx 8 (by decide)
     have e19 : xq 19 = .bool false := hx 9 (by decide)
     clear hx
     simp only [frameOf, fill, setSlot, sg, Nat.reduceBEq, if_true, if_false, Nat.reduceAdd, Nat.reduceEqDiff, HSL.out]
     simp only [e10, e11, e12, e13, e14, e15, e16, e17, e18, e19]
     clear e10 e11 e12 e13 e14 e15 e16 e17 e18 e19
     refine hKc _ _ ?_
     go_wp2_with fail
     go_roundw
     case rel => exact ⟨k + 1 + 1, by go_num, by omega, .inl (Nat.succ_le_of_lt HJ.out), HF.out.next HX.out HY.out hp, hb1⟩
     case measure => first | (simp [intOf]; done) | (simp [intOf]; omega)
   ·have hp' : y ≤ x := by omega
    go_wp2_with fail
    rename_i Kc hKc
    have HSL := Lib.hid (show slotsOf [some 10, some 11, some 12, some 13, some 14, some 15, some 16, some 17, some 18, some 19] = [10, 11, 12, 13, 14, 15, 16, 17, 18, 19] from rfl)
    refine wp_region_partsG (by kernel_rfl) [some 10, some 11, some 12, some 13, some 14, some 15, some 16, some 17, some 18, some 19] (fun jq xq w' => match jq with
     | 0 => xq 10 = .slice (some ⟨B, o, none⟩) xs.length c
     | 1 => xq 11 = .int .i64 ((k + 1 : Nat) : Int)
     | 2 => xq 12 = .pointer (some ⟨B, o + (k + 1), none⟩)
     | 3 => xq 13 = .int .i64 y
     | 4 => xq 14 = .slice (some ⟨B, o, none⟩) xs.length c
     | 5 => xq 15 = .int .i64 ((k + 1 : Nat) : Int)
     | 6 => xq 16 = .int .i64 (k : Int)
     | 7 => xq 17 = .pointer (some ⟨B, o + k, none⟩)
     | 8 => xq 18 = .int .i64 x
     | 9 => xq 19 = .bool true
     | _ => True) [[10], [11], [12], [13], [14], [15], [16], [17], [18], [19]] [] (Below w.heap.size w) (by kernel_rfl)  ?_ ?_ (fun w' w'' hb h => h.trans (hb.mono h.size)) (hBr) ?_ ?_ ?_
    ·intro jq xq xq' wqq h hv
     match jq, h, hv with
     | 0, h, hv => show xq' 10 = .slice (some ⟨B, o, none⟩) xs.length c; rw [← h 10 (by decide)]; exact hv
     | 1, h, hv => show xq' 11 = .int .i64 ((k + 1 : Nat) : Int); rw [← h 11 (by decide)]; exact hv
     | 2, h, hv => show xq' 12 = .pointer (some ⟨B, o + (k + 1), none⟩); rw [← h 12 (by decide)]; exact hv
     | 3, h, hv => show xq' 13 = .int .i64 y; rw [← h 13 (by decide)]; exact hv
     | 4, h, hv => show xq' 14 = .slice (some ⟨B, o, none⟩) xs.length c; rw [← h 14 (by decide)]; exact hv
     | 5, h, hv => show xq' 15 = .int .i64 ((k + 1 : Nat) : Int); rw [← h 15 (by decide)]; exact hv
     | 6, h, hv => show xq' 16 = .int .i64 (k : Int); rw [← h 16 (by decide)]; exact hv
     | 7, h, hv => show xq' 17 = .pointer (some ⟨B, o + k, none⟩); rw [← h 17 (by decide)]; exact hv
     | 8, h, hv => show xq' 18 = .int .i64 x; rw [← h 18 (by decide)]; exact hv
     | 9, h, hv => show xq' 19 = .bool true; rw [← h 19 (by decide)]; exact hv
     | _ + 10, _, _ => trivial
    ·intro jq xq wqq w' hb' hv
     match jq, hv with
     | 0, hv => exact hv
     | 1, hv => exact hv
     | 2, hv => exact hv
     | 3, hv => exact hv
     | 4, hv => exact hv
     | 5, hv => exact hv
     | 6, hv => exact hv
     | 7, hv => exact hv
     | 8, hv => exact hv
     | 9, hv => exact hv
     | _ + 10, _ => trivial
    ·intro jq hj
     match jq, hj with
     | 0, hj => exact absurd hj (by decide)
     | 1, hj => exact absurd hj (by decide)
     | 2, hj => exact absurd hj (by decide)
     | 3, hj => exact absurd hj (by decide)
     | 4, hj => exact absurd hj (by decide)
     | 5, hj => exact absurd hj (by decide)
     | 6, hj => exact absurd hj (by decide)
     | 7, hj => exact absurd hj (by decide)
     | 8, hj => exact absurd hj (by decide)
     | 9, hj => exact absurd hj (by decide)
     | _ + 10, _ => trivial
    ·refine ⟨?_, ?_, ?_, ?_, ?_, ?_, ?_, ?_, ?_, ?_, trivial⟩
     ·intro xq w1 hb1 hx K hK0
      have hK := fun v w' hb => hK0 v w' (.inl hb)
      clear hx hKc hK0
      simp only [frameOf, fill, setSlot, sg, Nat.reduceBEq, if_true, if_false, Nat.reduceAdd, Nat.reduceEqDiff, HSL.out] at hK ⊢
      go_wp2_with (fail)
      exact hK _ _ (Below.refl _ _) rfl
     ·intro xq w1 hb1 hx K hK0
      have hK := fun v w' hb => hK0 v w' (.inl hb)
      clear hx hKc hK0
      simp only [frameOf, fill, setSlot, sg, Nat.reduceBEq, if_true, if_false, Nat.reduceAdd, Nat.reduceEqDiff, HSL.out] at hK ⊢
      go_wp2_with (fail)
      first | exact hK _ _ (Below.refl _ _) rfl | exact hK _ _ (Below.refl _ _) (by go_num)
     ·intro xq w1 hb1 hx K hK0
      have hK := fun v w' hb => hK0 v w' (.inl hb)
      have e10 : xq 10 = .slice (some ⟨B, o, none⟩) xs.length c := hx 0 (by rfl) (by rfl)
      have e11 : xq 11 = .int .i64 ((k + 1 : Nat) : Int) := hx 1 (by rfl) (by rfl)
      clear hx hKc hK0
      have hjl : k + 1 < xs.length := HJ.out
      simp only [frameOf, fill, setSlot, sg, Nat.reduceBEq, if_true, if_false, Nat.reduceAdd, Nat.reduceEqDiff, HSL.out] at hK ⊢
      simp only [e10, e11] at hK ⊢
      clear e10 e11
      go_wp2_with (fail)
      exact hK _ _ (Below.refl _ _) rfl
     ·intro xq w1 hb1 hx K hK0
      have hK := fun v w' hb => hK0 v w' (.inl hb)
      have e12 : xq 12 = .pointer (some ⟨B, o + (k + 1), none⟩) := hx 2 (by rfl) (by rfl)
      clear hx hKc hK0
      have q13 : w1.cell? ⟨B, o + (k + 1), none⟩ = some (.int .i64 y) := (hb1.cell (p := ⟨B, o + (k + 1), none⟩) hlB).trans HCY.out
      simp only [frameOf, fill, setSlot, sg, Nat.reduceBEq, if_true, if_false, Nat.reduceAdd, Nat.reduceEqDiff, HSL.out] at hK ⊢
      simp only [e12] at hK ⊢
      clear e12
      go_wp2_with (fail)
      exact hK _ _ (Below.refl _ _) rfl
     ·intro xq w1 hb1 hx K hK0
      have hK := fun v w' hb => hK0 v w' (.inl hb)
      clear hx hKc hK0
      simp only [frameOf, fill, setSlot, sg, Nat.reduceBEq, if_true, if_false, Nat.reduceAdd, Nat.reduceEqDiff, HSL.out] at hK ⊢
      go_wp2_with (fail)
      exact hK _ _ (Below.refl _ _) rfl
     ·intro xq w1 hb1 hx K hK0
      have hK := fun v w' hb => hK0 v w' (.inl hb)
      clear hx hKc hK0
      simp only [frameOf, fill, setSlot, sg, Nat.reduceBEq, if_true, if_false, Nat.reduceAdd, Nat.reduceEqDiff, HSL.out] at hK ⊢
      go_wp2_with (fail)
      first | exact hK _ _ (Below.refl _ _) rfl | exact hK _ _ (Below.refl _ _) (by go_num)
     ·intro xq w1 hb1 hx K hK0
      have hK := fun v w' hb => hK0 v w' (.inl hb)
      have e15 : xq 15 = .int .i64 ((k + 1 : Nat) : Int) := hx 5 (by rfl) (by rfl)
      clear hx hKc hK0
      simp only [frameOf, fill, setSlot, sg, Nat.reduceBEq, if_true, if_false, Nat.reduceAdd, Nat.reduceEqDiff, HSL.out] at hK ⊢
      simp only [e15] at hK ⊢
      clear e15
      go_wp2_with (fail)
      first | exact hK _ _ (Below.refl _ _) rfl | exact hK _ _ (Below.refl _ _) (by go_num)
     ·intro xq w1 hb1 hx K hK0
      have hK := fun v w' hb => hK0 v w' (.inl hb)
      have e14 : xq 14 = .slice (some ⟨B, o, none⟩) xs.length c := hx 4 (by rfl) (by rfl)
      have e16 : xq 16 = .int .i64 (k : Int) := hx 6 (by rfl) (by rfl)
      clear hx hKc hK0
      have hjl : k < xs.length := Nat.lt_of_succ_lt HJ.out
      simp only [frameOf, fill, setSlot, sg, Nat.reduceBEq, if_true, if_false, Nat.reduceAdd, Nat.reduceEqDiff, HSL.out] at hK ⊢
      simp only [e14, e16] at hK ⊢
      clear e14 e16
      go_wp2_with (fail)
      exact hK _ _ (Below.refl _ _) rfl
     ·intro xq w1 hb1 hx K hK0
      have hK := fun v w' hb => hK0 v w' (.inl hb)
      have e17 : xq 17 = .pointer (some ⟨B, o + k, none⟩) := hx 7 (by rfl) (by rfl)
      clear hx hKc hK0
      have q18 : w1.cell? ⟨B, o + k, none⟩ = some (.int .i64 x) := (hb1.cell (p := ⟨B, o + k, none⟩) hlB).trans HCX.out
      simp only [frameOf, fill, setSlot, sg, Nat.reduceBEq, if_true, if_false, Nat.reduceAdd, Nat.reduceEqDiff, HSL.out] at hK ⊢
      simp only [e17] at hK ⊢
      clear e17
      go_wp2_with (fail)
      exact hK _ _ (Below.refl _ _) rfl
     ·intro xq w1 hb1 hx K hK0
      have hK := fun v w' hb => hK0 v w' (.inl hb)
      have e13 : xq 13 = .int .i64 y := hx 3 (by rfl) (by rfl)
      have e18 : xq 18 = .int .i64 x := hx 8 (by rfl) (by rfl)
      clear hx hKc hK0
      simp only [frameOf, fill, setSlot, sg, Nat.reduceBEq, if_true, if_false, Nat.reduceAdd, Nat.reduceEqDiff, HSL.out] at hK ⊢
      simp only [e13, e18] at hK ⊢
      clear e13 e18
      go_wp2_with (fail)
      first | exact hK _ _ (Below.refl _ _) rfl | exact hK _ _ (Below.refl _ _) (congrArg Value.bool (decide_eq_true (by omega)))
    ·intro xq w1 hb1 hx
     have e10 : xq 10 = .slice (some ⟨B, o, none⟩) xs.length c := hx 0 (by decide)
     have e11 : xq 11 = .int .i64 ((k + 1 : Nat) : Int) := hx 1 (by decide)
     have e12 : xq 12 = .pointer (some ⟨B, o + (k + 1), none⟩) := hx 2 (by decide)
     have e13 : xq 13 = .int .i64 y := hx 3 (by decide)
     have e14 : xq 14 = .slice (some ⟨B, o, none⟩) xs.length c := hx 4 (by decide)
     have e15 : xq 15 = .int .i64 ((k + 1 : Nat) : Int) := hx 5 (by decide)
     have e16 : xq 16 = .int .i64 (k : Int) := hx 6 (by decide)
     have e17 : xq 17 = .pointer (some ⟨B, o + k, none⟩) := hx 7 (by decide)
     have e18 : xq 18 = .int .i64 x := hx 8 (by decide)
     have e19 : xq 19 = .bool true := hx 9 (by decide)
     clear hx
     simp only [frameOf, fill, setSlot, sg, Nat.reduceBEq, if_true, if_false, Nat.reduceAdd, Nat.reduceEqDiff, HSL.out]
     simp only [e10, e11, e12, e13, e14, e15, e16, e17, e18, e19]
     clear e10 e11 e12 e13 e14 e15 e16 e17 e18 e19
     refine hKc _ _ ?_
     go_wp2_with fail
     go_ret
     exact ⟨by rw [inc_not HX.out HY.out (by omega)]; rfl, hb1⟩
  ·have hlt' : ¬ (i : Int) < xs.length := by omega
   have HE := Lib.hid (HF.out.all (by omega))
   go_wp2_with fail
   go_ret
   exact ⟨by rw [HE.out]; rfl, hBr⟩
set_option maxRecDepth 100000 in
set_option maxHeartbeats 1000000 in
theorem everyBound_any (b : Br) (A0 : Option Addr) (c0 n : Nat) (F : FuncId) (p : Int → Bool) (xs : List Int) (hcf : ∀ (args : Array Value) (w : World), (callFunc F args).run Try.prog w = .ok (.enter F args) w) (hF : ∀ h ∈ xs, ∀ w : World, Calls Try.prog F #[.agg #[.int .i64 b.cool, .int .i64 b.gangs, .int .i64 b.r0, .int .i64 b.r1, .int .i64 b.r2, .int .i64 b.r3, .int .i64 b.r4, .int .i64 b.r5, .slice A0 n c0], .int .i64 h] w fun e w' => e = .returned (.bool (p h)) ∧ Below w.heap.size w w')
  (A : Option Addr) (c : Nat) (w : World) (hA : IntsAt w A xs) (hl : xs.length ≤ 1000) :
  Calls Try.prog 52 #[.slice A xs.length c, .func (.func F) #[.agg #[.int .i64 b.cool, .int .i64 b.gangs, .int .i64 b.r0, .int .i64 b.r1, .int .i64 b.r2, .int .i64 b.r3, .int .i64 b.r4, .int .i64 b.r5, .slice A0 n c0]] #[]] w fun e w' => e = .returned (.bool (xs.all p)) ∧ Below w.heap.size w w' := by
 have HF := Lib.hid hF
 have HA := Lib.hid hA
 clear hF hA
 go_enter Try.func52, Try.ntmps52
 go_wp2_with fail
 go_loopw [9] (fun v9 wr => ∃ k : Nat, k ≤ xs.length ∧ v9 = .int .i64 k ∧ Hid (xs.all p = (xs.drop k).all p) ∧ Below w.heap.size w wr) (fun v9 _ => xs.length - (intOf v9).toNat)
 case atStart => exact ⟨0, Nat.zero_le _, rfl, rfl, Below.refl _ _⟩
 case round =>
  obtain ⟨k, hk, rfl, hp, hB⟩ := hrel
  by_cases hlt : k < xs.length
  ·have hx : xs[k]? = some xs[k] := List.getElem?_eq_getElem hlt
   obtain ⟨B, o, rfl, hc⟩ := (HA.out.up hB) (by omega)
   have c0 := hc k _ hx
   clear hc
   have HX := Lib.hid hx
   clear hx
   have hS := hB.size
   cases hq : p xs[k] with
   | true =>
    go_wp2_with ((with_reducible refine Calls.mono (HF.out _ (List.getElem_mem hlt) _) ?_); rintro e w2 ⟨rfl, hb2⟩; have hB2 : Below w.heap.size w w2 := Below.trans zg (hb2.mono (by first | omega | (simp; omega))))
    go_roundw
    case rel => exact ⟨k + 1, hlt, by go_num, by rw [hp.out, List.drop_eq_getElem_cons hlt, List.all_cons, hq, Bool.true_and]; exact rfl, hB2⟩
    case measure => simp [intOf]; omega
   | false =>
    go_wp2_with ((with_reducible refine Calls.mono (HF.out _ (List.getElem_mem hlt) _) ?_); rintro e w2 ⟨rfl, hb2⟩; have hB2 : Below w.heap.size w w2 := Below.trans zg (hb2.mono (by first | omega | (simp; omega))))
    go_ret
    have hfin : xs.all p = false := by rw [hp.out, List.drop_eq_getElem_cons hlt, List.all_cons, hq, Bool.false_and]
    exact ⟨by rw [hfin]; rfl, hB2⟩
  ·have hkl : k = xs.length := by omega
   go_wp2_with fail
   go_ret
   have hfin : xs.all p = true := by rw [hp.out, hkl, List.drop_length]; rfl
   exact ⟨by rw [hfin]; rfl, hB⟩
theorem cf_hasBin (args : Array Value) (w : World) : (callFunc 70 args).run Try.prog w = .ok (.enter 70 args) w := by kernel_rfl
set_option maxRecDepth 100000 in
set_option maxHeartbeats 40000000 in
theorem errorOf_any (b : Br) (A : Option Addr) (c n : Nat) (hn : n ≤ 1000) (P : Option Addr) (q : Nat) (p : List (List Int)) (w : World) (hP : PlanAt w P p) (hl : p.length ≤ 1000000) (hll : ∀ l ∈ p, l.length ≤ 1000) :
  Calls Try.prog 95 #[.agg #[.int .i64 b.cool, .int .i64 b.gangs, .int .i64 b.r0, .int .i64 b.r1, .int .i64 b.r2, .int .i64 b.r3, .int .i64 b.r4, .int .i64 b.r5, .slice A n c], .slice P p.length q] w fun e w' => e = .returned (.int .i64 (planErr n b.gangs p)) ∧ Below w.heap.size w w' := by
 have HP := Lib.hid hP
 have HLL := Lib.hid hll
 obtain ⟨E, hE⟩ : ∃ z, planErr n b.gangs p = z := ⟨_, rfl⟩
 rw [hE]
 have HEQ := Lib.hid hE
 clear hP hll hE
 by_cases hbig : 20000 < p.length
 ·have hbig' : (20000 : Int) < p.length := by omega
  have HE2 : Hid (E = 2) := Lib.hid (by rw [← HEQ.out]; unfold planErr; rw [if_pos hbig])
  go_enter Try.func95, Try.ntmps95
  go_wp2_with fail
  go_ret
  exact ⟨by rw [HE2.out]; rfl, zg⟩
 ·have hbig' : ¬ (20000 : Int) < p.length := by omega
  have HE0 : Hid (E = planErrs n b.gangs p) := Lib.hid (by rw [← HEQ.out]; unfold planErr; rw [if_neg hbig])
  go_enter Try.func95, Try.ntmps95
  go_wp2_with fail
  go_loopw [12] (fun v12 wr => ∃ k : Nat, v12 = .int .i64 (k : Int) ∧ k ≤ p.length ∧ Hid (E = planErrs n b.gangs (p.drop k)) ∧ Below w.heap.size w wr ∧ Holds wr w.heap.size 25 #[.int .i64 b.cool, .int .i64 b.gangs, .int .i64 b.r0, .int .i64 b.r1, .int .i64 b.r2, .int .i64 b.r3, .int .i64 b.r4, .int .i64 b.r5, .slice A n c]) (fun v12 _ => p.length - (intOf v12).toNat)
  case atStart => exact ⟨0, rfl, Nat.zero_le _, Lib.hid (by rw [List.drop_zero]; exact HE0.out), zg, by (repeat first | (with_reducible first | assumption | apply Holds.set4 | apply Holds.set2 | apply Holds.putL | ((refine Holds.new' _ _ ?_); (simp; done)) | refine Holds.alloc ?_ _ | refine Holds.drew ?_ | refine Holds.far ?_ (by simp only [ne_eq]; omega) _) | rfl)⟩
  case round =>
   obtain ⟨k, rfl, hk, hE, hB, hH⟩ := hrel
   have HB := Lib.hid hB
   have HH := Lib.hid hH
   have kb0 : wr.cell? ⟨w.heap.size, 0, none⟩ = some (.int .i64 b.cool) := hH.cell 0
   have kb1 : wr.cell? ⟨w.heap.size, 1, none⟩ = some (.int .i64 b.gangs) := hH.cell 1
   have kb2 : wr.cell? ⟨w.heap.size, 2, none⟩ = some (.int .i64 b.r0) := hH.cell 2
   have kb3 : wr.cell? ⟨w.heap.size, 3, none⟩ = some (.int .i64 b.r1) := hH.cell 3
   have kb4 : wr.cell? ⟨w.heap.size, 4, none⟩ = some (.int .i64 b.r2) := hH.cell 4
   have kb5 : wr.cell? ⟨w.heap.size, 5, none⟩ = some (.int .i64 b.r3) := hH.cell 5
   have kb6 : wr.cell? ⟨w.heap.size, 6, none⟩ = some (.int .i64 b.r4) := hH.cell 6
   have kb7 : wr.cell? ⟨w.heap.size, 7, none⟩ = some (.int .i64 b.r5) := hH.cell 7
   have kb8 : wr.cell? ⟨w.heap.size, 8, none⟩ = some (.slice A n c) := hH.cell 8
   have lb := hH.lt
   clear hB hH
   by_cases hlt : k < p.length
   ·have hlt' : (k : Int) < p.length := by omega
    obtain ⟨l, hl2⟩ : ∃ z, p[k]? = some z := ⟨_, List.getElem?_eq_getElem hlt⟩
    obtain ⟨B0, oo, rfl, hrow⟩ := (HP.out.up HB.out) (by omega)
    obtain ⟨LA, lc, kl, hI, -⟩ := hrow k l hl2
    have lP := World.block_lt_of_cell? wr _ kl
    have hlen : l.length ≤ 1000 := HLL.out l (List.mem_of_getElem? hl2)
    have HL2 := Lib.hid hl2
    have HI := Lib.hid hI
    clear hrow hl2 hI
    cases h1 : l.all (fun z => within z 0 ((n : Int) - 1)) with
    | false =>
     go_wp2_with (go_at_call 52; refine (everyBound_any b A c n 70 (fun z => within z 0 ((n : Int) - 1)) l cf_hasBin (fun z _ w => hasBin_any b A c n hn z w) LA lc _ (HI.out.up zg) hlen).mono ?_; simp only [h1]; rintro e w2 ⟨rfl, hb2⟩; have hB2 : Below w.heap.size w w2 := HB.out.trans (hb2.mono HB.out.size); have HH2 := Lib.hid (HH.out.up hb2); have kb21 : w2.cell? ⟨w.heap.size, 1, none⟩ = some (.int .i64 b.gangs) := HH2.out.cell 1; have lb2 := HH2.out.lt)
     go_ret
     exact ⟨by rw [hE.out, planErrs_at HL2.out (by rw [dayErr_not h1]; decide), dayErr_not h1]; rfl, hB2⟩
    | true =>
     cases h2 : incFrom l with
     | false =>
      go_wp2_with (first | (go_at_call 52; refine (everyBound_any b A c n 70 (fun z => within z 0 ((n : Int) - 1)) l cf_hasBin (fun z _ w => hasBin_any b A c n hn z w) LA lc _ (HI.out.up zg) hlen).mono ?_; simp only [h1]; rintro e w2 ⟨rfl, hb2⟩; have hB2 : Below w.heap.size w w2 := HB.out.trans (hb2.mono HB.out.size); have HH2 := Lib.hid (HH.out.up hb2); have kb21 : w2.cell? ⟨w.heap.size, 1, none⟩ = some (.int .i64 b.gangs) := HH2.out.cell 1; have lb2 := HH2.out.lt) | (go_at_call 113; refine (isIncreasing_any LA lc l _ (HI.out.up (by first | exact hb2 | (repeat' (first | (with_reducible first | exact Below.refl _ _ | assumption | refine Below.alloc ?_ ?_ _ | refine Below.drew ?_ | refine Below.setCell ?_ ?_ _ | exact Nat.le_refl _) | omega | (simp only [World.size_alloc, World.size_setCell, World.size_drew]; omega) | (simp; omega) | (simp; done))))) hlen).mono ?_; simp only [h2]; rintro e w3 ⟨rfl, hb3⟩; have hB3 : Below w.heap.size w w3 := hB2.trans (hb3.mono hB2.size); have HH3 := Lib.hid (HH2.out.up hb3); have kb31 : w3.cell? ⟨w.heap.size, 1, none⟩ = some (.int .i64 b.gangs) := HH3.out.cell 1; have lb3 := HH3.out.lt))
      go_ret
      exact ⟨by rw [hE.out, planErrs_at HL2.out (by rw [dayErr_order h1 h2]; decide), dayErr_order h1 h2]; rfl, hB3⟩
     | true =>
      by_cases h3 : b.gangs < l.length
      ·go_wp2_with (first | (go_at_call 52; refine (everyBound_any b A c n 70 (fun z => within z 0 ((n : Int) - 1)) l cf_hasBin (fun z _ w => hasBin_any b A c n hn z w) LA lc _ (HI.out.up zg) hlen).mono ?_; simp only [h1]; rintro e w2 ⟨rfl, hb2⟩; have hB2 : Below w.heap.size w w2 := HB.out.trans (hb2.mono HB.out.size); have HH2 := Lib.hid (HH.out.up hb2); have kb21 : w2.cell? ⟨w.heap.size, 1, none⟩ = some (.int .i64 b.gangs) := HH2.out.cell 1; have lb2 := HH2.out.lt) | (go_at_call 113; refine (isIncreasing_any LA lc l _ (HI.out.up (by first | exact hb2 | (repeat' (first | (with_reducible first | exact Below.refl _ _ | assumption | refine Below.alloc ?_ ?_ _ | refine Below.drew ?_ | refine Below.setCell ?_ ?_ _ | exact Nat.le_refl _) | omega | (simp only [World.size_alloc, World.size_setCell, World.size_drew]; omega) | (simp; omega) | (simp; done))))) hlen).mono ?_; simp only [h2]; rintro e w3 ⟨rfl, hb3⟩; have hB3 : Below w.heap.size w w3 := hB2.trans (hb3.mono hB2.size); have HH3 := Lib.hid (HH2.out.up hb3); have kb31 : w3.cell? ⟨w.heap.size, 1, none⟩ = some (.int .i64 b.gangs) := HH3.out.cell 1; have lb3 := HH3.out.lt))
       go_ret
       exact ⟨by rw [hE.out, planErrs_at HL2.out (by rw [dayErr_full h1 h2 h3]; decide), dayErr_full h1 h2 h3]; rfl, hB3⟩
      ·have h3' : (l.length : Int) ≤ b.gangs := by omega
       go_wp2_with (first | (go_at_call 52; refine (everyBound_any b A c n 70 (fun z => within z 0 ((n : Int) - 1)) l cf_hasBin (fun z _ w => hasBin_any b A c n hn z w) LA lc _ (HI.out.up zg) hlen).mono ?_; simp only [h1]; rintro e w2 ⟨rfl, hb2⟩; have hB2 : Below w.heap.size w w2 := HB.out.trans (hb2.mono HB.out.size); have HH2 := Lib.hid (HH.out.up hb2); have kb21 : w2.cell? ⟨w.heap.size, 1, none⟩ = some (.int .i64 b.gangs) := HH2.out.cell 1; have lb2 := HH2.out.lt) | (go_at_call 113; refine (isIncreasing_any LA lc l _ (HI.out.up (by first | exact hb2 | (repeat' (first | (with_reducible first | exact Below.refl _ _ | assumption | refine Below.alloc ?_ ?_ _ | refine Below.drew ?_ | refine Below.setCell ?_ ?_ _ | exact Nat.le_refl _) | omega | (simp only [World.size_alloc, World.size_setCell, World.size_drew]; omega) | (simp; omega) | (simp; done))))) hlen).mono ?_; simp only [h2]; rintro e w3 ⟨rfl, hb3⟩; have hB3 : Below w.heap.size w w3 := hB2.trans (hb3.mono hB2.size); have HH3 := Lib.hid (HH2.out.up hb3); have kb31 : w3.cell? ⟨w.heap.size, 1, none⟩ = some (.int .i64 b.gangs) := HH3.out.cell 1; have lb3 := HH3.out.lt))
       go_roundw
       case rel => exact ⟨k + 1, by go_num, hlt, Lib.hid (hE.out.trans (planErrs_next HL2.out (dayErr_ok h1 h2 (by omega)))), hB3, HH3.out⟩
       case measure => first | (simp [intOf]; done) | (simp [intOf]; omega)
   ·have hkl : k = p.length := by omega
    have hlt' : ¬ (k : Int) < p.length := by omega
    have HZ : Hid (E = 0) := Lib.hid (by rw [hE.out, hkl, List.drop_length]; rfl)
    go_wp2_with fail
    go_ret
    exact ⟨by rw [HZ.out]; rfl, HB.out⟩
end Go.Proofs.Ytokafjkinkafiaa
