
import Derived.Test.YtokafjkinkafiaaGreatVAA
set_option linter.unusedSimpArgs false
set_option linter.unusedVariables false
namespace Go.Proofs.YtokafjkinkafiaaGreat
open Go.RowKit
def within (n lo hi : Int) : Bool := decide (lo ≤ n) && decide (n ≤ hi)
theorem flat_at {α : Type} (f : α → List Value) (q : Nat) (hf : ∀ x, (f x).length = q) (xs : List α) (k j : Nat) (x : α) (hx : xs[k]? = some x) (hj : j < q) : (xs.flatMap f)[k * q + j]? = (f x)[j]? := by
 induction xs generalizing k with
 | nil => cases hx
 | cons a l ih =>
  rw [List.flatMap_cons]
  cases k with
  | zero =>
   rw [List.getElem?_cons_zero] at hx
   cases hx
   rw [List.getElem?_append_left (by rw [hf]; omega)]
   simp
  | succ k =>
   rw [List.getElem?_cons_succ] at hx
   have e : (k + 1) * q = k * q + q := Nat.succ_mul k q
   rw [List.getElem?_append_right (by rw [hf, e]; omega), hf, show (k + 1) * q + j - q = k * q + j from by rw [e]; omega]
   exact ih k hx
def RowAt {α : Type} (f : α → List Value) (q : Nat) (w : World) (A : Option Addr) (xs : List α) : Prop :=
 0 < xs.length → ∃ B o, A = some ⟨B, o, none⟩ ∧ ∀ k x, xs[k]? = some x → ∀ j u, (f x)[j]? = some u → w.cell? ⟨B, o + k * q + j, none⟩ = some u
theorem RowAt.up {α : Type} {f : α → List Value} {q : Nat} {w w' : World} {A : Option Addr} {xs : List α} (h : RowAt f q w A xs) (hb : Below w.heap.size w w') : RowAt f q w' A xs := fun hn => by
 obtain ⟨B, o, e, hc⟩ := h hn
 exact ⟨B, o, e, fun k x hx j u hj => up_cell hb (hc k x hx j u hj)⟩
theorem RowAt.low {α : Type} {f : α → List Value} {q : Nat} {w w' : World} {B n o : Nat} {xs : List α} (h : RowAt f q w (some ⟨B, o, none⟩) xs) (hb : Below n w w') (hlt : B < n) : RowAt f q w' (some ⟨B, o, none⟩) xs := fun hn => by
 obtain ⟨B', o', e, hc⟩ := h hn
 cases e
 exact ⟨B, o, rfl, fun k x hx j u hj => (hb.cell (p := ⟨B, o + k * q + j, none⟩) hlt).trans (hc k x hx j u hj)⟩
theorem RowAt.nil {α : Type} (f : α → List Value) (q : Nat) (w : World) (A : Option Addr) : RowAt f q w A ([] : List α) := fun h => absurd h (Nat.lt_irrefl 0)
theorem rowq_up {w w' : World} {B n q : Nat} {e : TypeId} {v : Value} {xs : List Value} (h : w.ownsRow B e q v n xs) (hb : Below w.heap.size w w') : w'.ownsRow B e q v n xs := by
 obtain ⟨hl, h | ⟨g, cap, cur, ev, hB, hg, r⟩⟩ := h
 ·exact ⟨hl, .inl h⟩
 ·exact ⟨hl, .inr ⟨g, cap, cur, ev, hB, (hb.block g (Array.getElem?_eq_some_iff.1 hg).1).trans hg, r⟩⟩
theorem rowq_far {w : World} {B n q : Nat} {e : TypeId} {v : Value} {xs : List Value} (h : w.ownsRow B e q v n xs) {p : Addr} (hp : p.block < B) (u : Value) : (w.setCell p u).ownsRow B e q v n xs := by
 obtain ⟨hl, h | ⟨g, cap, cur, ev, hB, hg, r⟩⟩ := h
 ·exact ⟨hl, .inl h⟩
 ·exact ⟨hl, .inr ⟨g, cap, cur, ev, hB, (Below.heap_setCell w p u g (by omega)).trans hg, r⟩⟩
theorem rowq_val {w : World} {B n q : Nat} {e : TypeId} {v : Value} {xs : List Value} (h : w.ownsRow B e q v n xs) : ∃ A c, v = .slice A n c ∧ n ≤ c ∧ (A = none → n = 0 ∧ c = 0) ∧ (0 < n → ∃ g, A = some ⟨g, 0, none⟩ ∧ B ≤ g ∧ ∀ j u, xs[j]? = some u → w.cell? ⟨g, j, none⟩ = some u) := by
 obtain ⟨hl, ⟨rfl, rfl⟩ | ⟨g, cap, cur, rfl, hB, hg, hn, _, hsz, ht⟩⟩ := h
 ·exact ⟨none, 0, rfl, Nat.le_refl _, fun _ => ⟨rfl, rfl⟩, fun h => absurd h (Nat.lt_irrefl 0)⟩
 ·refine ⟨_, cap, rfl, hn, (fun h => by cases h), fun _ => ⟨g, rfl, hB, fun j u hj => ?_⟩⟩
  have hlt : j < xs.length := (List.getElem?_eq_some_iff.1 hj).1
  rw [← ht, List.getElem?_take, if_pos (by omega)] at hj
  simp only [World.cell?, hg, Option.bind_some]
  simpa using hj
theorem rowq_mono {w : World} {B B' n q : Nat} {e : TypeId} {v : Value} {xs : List Value} (h : w.ownsRow B e q v n xs) (hb : B' ≤ B) : w.ownsRow B' e q v n xs := by
 obtain ⟨hl, h | ⟨g, cap, cur, ev, hB, r⟩⟩ := h
 ·exact ⟨hl, .inl h⟩
 ·exact ⟨hl, .inr ⟨g, cap, cur, ev, Nat.le_trans hb hB, r⟩⟩
theorem row_own {α : Type} {f : α → List Value} {q : Nat} (hf : ∀ x, (f x).length = q) {w : World} {B : Nat} {e : TypeId} {v : Value} {xs : List α} (h : w.ownsRow B e q v xs.length (xs.flatMap f)) : ∃ A c, v = .slice A xs.length c ∧ xs.length ≤ c ∧ (A = none → xs.length = 0 ∧ c = 0) ∧ RowAt f q w A xs := by
 obtain ⟨A, c, rfl, hc, hnil, hat⟩ := rowq_val h
 refine ⟨A, c, rfl, hc, hnil, fun hp => ?_⟩
 obtain ⟨g, rfl, _, hcell⟩ := hat hp
 refine ⟨g, 0, rfl, fun k x hx j u hj => ?_⟩
 have hlt : j < q := by have := (List.getElem?_eq_some_iff.1 hj).1; rwa [hf] at this
 rw [Nat.zero_add]
 exact hcell _ _ ((flat_at f q hf xs k j x hx hlt).trans hj)
def IntsAt (w : World) (A : Option Addr) (xs : List Int) : Prop :=
 0 < xs.length → ∃ B o, A = some ⟨B, o, none⟩ ∧ ∀ (k : Nat) (x : Int), xs[k]? = some x → w.cell? ⟨B, o + k, none⟩ = some (.int .i64 x)
theorem IntsAt.up {w w' : World} {A : Option Addr} {xs : List Int} (h : IntsAt w A xs) (hb : Below w.heap.size w w') : IntsAt w' A xs := fun hn => by
 obtain ⟨B, o, e, hc⟩ := h hn
 exact ⟨B, o, e, fun k x hx => up_cell hb (hc k x hx)⟩
theorem ret_two {P : Program} {fn : Func} {p q : Tmp} (h : fn.results = #[.tmp p, .tmp q]) {a : Act} {w : World} {R : Ending → World → Prop} (hdf : a.defers = [])
  (hR : R (.returned (.tuple #[a.tmps.getD p undef, a.tmps.getD q undef])) w) : bodyPost P fn R .ret a w :=
 bodyPost_ret (results_tmp2 h _ _ _) hdf hR
structure Bn where
 warm : Int
 mark : Int
 lo : Int
 hi : Int
def Bn.cells (b : Bn) : List Value := [.int .i64 b.warm, .int .i64 b.mark, .int .i64 b.lo, .int .i64 b.hi]
theorem Bn.len (b : Bn) : b.cells.length = 4 := rfl
def BinsAt (w : World) (A : Option Addr) (bs : List Bn) : Prop := RowAt Bn.cells 4 w A bs
structure Br where
 cool : Int
 gangs : Int
 r0 : Int
 r1 : Int
 r2 : Int
 r3 : Int
 r4 : Int
 r5 : Int
def Br.rises (b : Br) : List Int := [b.r0, b.r1, b.r2, b.r3, b.r4, b.r5]
def Br.rise (b : Br) (k : Int) : Int := b.rises.getD k.toNat 0
def riseOk (n : Int) : Bool := n == 0 || within n 6 20
def Bn.inRange (b : Bn) : Bool := within b.mark 0 60 && within b.warm 0 b.mark && (within b.lo 0 5 && within b.hi 0 5)
def Bn.inOrder (b : Bn) : Bool := decide (b.lo ≤ b.hi)
def risesFrom : List Int → Bool
 | a :: b :: l => decide (a ≤ b) && risesFrom (b :: l)
 | _ => true
def barnErr (b : Br) (bs : List Bn) : Int :=
 if within bs.length 1 4 = false then 2
 else if (within b.cool 0 60 && within b.gangs 0 3 && b.rises.all riseOk && bs.all Bn.inRange) = false then 3
 else if (risesFrom b.rises && bs.all Bn.inOrder) = false then 4
 else 0
def binErr (b : Br) (bs : List Bn) (bin : Int) : Int :=
 if barnErr b bs ≠ 0 then barnErr b bs else if within bin 0 (bs.length - 1) = false then 1 else 0
theorem barnErr_many {b : Br} {bs : List Bn} (h : within bs.length 1 4 = false) : barnErr b bs = 2 := by unfold barnErr; rw [if_pos h]
theorem barnErr_range {b : Br} {bs : List Bn} (h : within bs.length 1 4 = true) (h2 : (within b.cool 0 60 && within b.gangs 0 3 && b.rises.all riseOk && bs.all Bn.inRange) = false) : barnErr b bs = 3 := by
 unfold barnErr; rw [if_neg (by rw [h]; decide), if_pos h2]
theorem barnErr_order {b : Br} {bs : List Bn} (h : within bs.length 1 4 = true) (h2 : (within b.cool 0 60 && within b.gangs 0 3 && b.rises.all riseOk && bs.all Bn.inRange) = true) (h3 : (risesFrom b.rises && bs.all Bn.inOrder) = false) : barnErr b bs = 4 := by
 unfold barnErr; rw [if_neg (by rw [h]; decide), if_neg (by rw [h2]; decide), if_pos h3]
theorem barnErr_ok {b : Br} {bs : List Bn} (h : within bs.length 1 4 = true) (h2 : (within b.cool 0 60 && within b.gangs 0 3 && b.rises.all riseOk && bs.all Bn.inRange) = true) (h3 : (risesFrom b.rises && bs.all Bn.inOrder) = true) : barnErr b bs = 0 := by
 unfold barnErr; rw [if_neg (by rw [h]; decide), if_neg (by rw [h2]; decide), if_neg (by rw [h3]; decide)]
theorem barn_right {b : Br} {bs : List Bn} (h : barnErr b bs = 0) : within bs.length 1 4 = true ∧ within b.cool 0 60 = true ∧ within b.gangs 0 3 = true ∧ b.rises.all riseOk = true ∧ bs.all Bn.inRange = true ∧ risesFrom b.rises = true ∧ bs.all Bn.inOrder = true := by
 unfold barnErr at h
 split at h
 ·cases h
 ·split at h
  ·cases h
  ·split at h
   ·cases h
   ·rename_i h1 h2 h3
    simp only [Bool.not_eq_false, Bool.and_eq_true] at h1 h2 h3
    exact ⟨h1, h2.1.1.1, h2.1.1.2, h2.1.2, h2.2, h3.1, h3.2⟩
theorem binErr_barn {b : Br} {bs : List Bn} {bin : Int} (h : barnErr b bs ≠ 0) : binErr b bs bin = barnErr b bs := by unfold binErr; rw [if_pos h]
theorem binErr_not {b : Br} {bs : List Bn} {bin : Int} (h : barnErr b bs = 0) (h2 : within bin 0 (bs.length - 1) = false) : binErr b bs bin = 1 := by unfold binErr; rw [if_neg (by simp [h]), if_pos h2]
theorem binErr_ok {b : Br} {bs : List Bn} {bin : Int} (h : barnErr b bs = 0) (h2 : within bin 0 (bs.length - 1) = true) : binErr b bs bin = 0 := by unfold binErr; rw [if_neg (by simp [h]), if_neg (by rw [h2]; decide)]
def daysOf (rise warm mark : Int) : Int := if rise = 0 then 1000000 else max 0 (mark - warm) / rise
theorem rise_in {b : Br} (h : b.rises.all riseOk = true) (k : Int) : riseOk (b.rise k) = true := by
 unfold Br.rise
 by_cases hk : k.toNat < b.rises.length
 ·rw [List.getD_eq_getElem?_getD, List.getElem?_eq_getElem hk]
  exact List.all_eq_true.1 h _ (List.getElem_mem hk)
 ·rw [List.getD_eq_getElem?_getD, List.getElem?_eq_none (by omega)]; rfl
theorem riseOk_cases {n : Int} (h : riseOk n = true) : n = 0 ∨ (6 ≤ n ∧ n ≤ 20) := by
 simp only [riseOk, within, Bool.or_eq_true, beq_iff_eq, Bool.and_eq_true, decide_eq_true_eq] at h
 exact h
theorem within_any (n lo hi : Int) (w : World) :
  Calls Tryz.prog 42 #[.int .i64 n, .int .i64 lo, .int .i64 hi] w fun e w' => e = .returned (.bool (within n lo hi)) ∧ w = w' := by
 unfold within
 by_cases h1 : lo ≤ n <;> by_cases h2 : n ≤ hi
 all_goals
  go_enter Tryz.func42, Tryz.ntmps42
  go_wp2
  go_ret
  simp [*]
theorem isRise_any (n : Int) (w : World) :
  Calls Tryz.prog 69 #[.int .i64 n] w fun e w' => e = .returned (.bool (riseOk n)) ∧ Below w.heap.size w w' := by
 by_cases h0 : n = 0
 ·subst h0
  go_enter Tryz.func69, Tryz.ntmps69
  go_wp2_with (go_at_call 42; refine (within_any _ _ _ _).mono ?_; rintro e w' ⟨rfl, rfl⟩)
  go_ret
  exact ⟨rfl, zg⟩
 ·have hr : riseOk n = within n 6 20 := by unfold riseOk; rw [show (n == 0) = false from by simpa using h0]; rfl
  rw [hr]
  go_enter Tryz.func69, Tryz.ntmps69
  go_wp2_with (go_at_call 42; refine (within_any _ _ _ _).mono ?_; rintro e w' ⟨rfl, rfl⟩)
  go_ret
  exact ⟨by first | rfl | (simp; done) | (simp; intro h; exact absurd h h0), zg⟩
theorem hasClasses_any (lo hi : Int) (w : World) :
  Calls Tryz.prog 93 #[.agg #[.int .i64 lo, .int .i64 hi]] w fun e w' => e = .returned (.bool (within lo 0 5 && within hi 0 5)) ∧ Below w.heap.size w w' := by
 cases h1 : within lo 0 5
 all_goals
  go_enter Tryz.func93, Tryz.ntmps93
  go_wp2_with (go_at_call 42; refine (within_any _ _ _ _).mono ?_; (try simp only [h1]); rintro e w' ⟨rfl, rfl⟩)
  go_ret
  exact ⟨by first | rfl | simp, zg⟩
theorem isEmpty_any (lo hi : Int) (w : World) :
  Calls Tryz.prog 94 #[.agg #[.int .i64 lo, .int .i64 hi]] w fun e w' => e = .returned (.bool (decide (hi < lo))) ∧ Below w.heap.size w w' := by
 go_enter Tryz.func94, Tryz.ntmps94
 go_wp2_with fail
 go_ret
 exact ⟨by first | rfl | simp, zg⟩
theorem isInOrder_any (b : Bn) (w : World) :
  Calls Tryz.prog 73 #[.agg #[.int .i64 b.warm, .int .i64 b.mark, .int .i64 b.lo, .int .i64 b.hi]] w fun e w' => e = .returned (.bool b.inOrder) ∧ Below w.heap.size w w' := by
 go_enter Tryz.func73, Tryz.ntmps73
 go_wp2_with (go_at_call 94; refine (isEmpty_any _ _ _).mono ?_; rintro e w2 ⟨rfl, hb2⟩)
 go_ret
 refine ⟨?_, Below.trans zg (hb2.mono (by first | exact Nat.le_refl _ | (simp; done) | (simp; omega)))⟩
 by_cases h : b.hi < b.lo
 ·have h' : ¬ b.lo ≤ b.hi := by omega
  simp [Bn.inOrder, h, h']
 ·have h' : b.lo ≤ b.hi := by omega
  simp [Bn.inOrder, h, h']
theorem isBin_any (b : Bn) (w : World) :
  Calls Tryz.prog 71 #[.agg #[.int .i64 b.warm, .int .i64 b.mark, .int .i64 b.lo, .int .i64 b.hi]] w fun e w' => e = .returned (.bool b.inRange) ∧ Below w.heap.size w w' := by
 cases h1 : within b.mark 0 60
 ·go_enter Tryz.func71, Tryz.ntmps71
  go_wp2_with (go_at_call 42; refine (within_any _ _ _ _).mono ?_; (try simp only [h1]); rintro e w' ⟨rfl, rfl⟩)
  go_ret
  exact ⟨by simp [Bn.inRange, h1], zg⟩
 ·cases h2 : within b.warm 0 b.mark
  ·go_enter Tryz.func71, Tryz.ntmps71
   go_wp2_with (go_at_call 42; refine (within_any _ _ _ _).mono ?_; (try simp only [h1, h2]); rintro e w' ⟨rfl, rfl⟩)
   go_ret
   exact ⟨by simp [Bn.inRange, h1, h2], zg⟩
  ·have E := Lib.hid (show b.inRange = (within b.lo 0 5 && within b.hi 0 5) by simp [Bn.inRange, h1, h2])
   go_enter Tryz.func71, Tryz.ntmps71
   go_wp2_with (first
    | (go_at_call 42; refine (within_any _ _ _ _).mono ?_; (try simp only [h1, h2]); rintro e w' ⟨rfl, rfl⟩)
    | (go_at_call 93; refine (hasClasses_any _ _ _).mono ?_; rintro e w2 ⟨rfl, hb2⟩))
   go_ret
   exact ⟨by rw [E.out]; first | rfl | simp, Below.trans zg (hb2.mono (by first | exact Nat.le_refl _ | (simp; done) | (simp; omega)))⟩
set_option maxRecDepth 100000 in
set_option maxHeartbeats 1000000 in
theorem everyInt_any (F : FuncId) (p : Int → Bool) (xs : List Int) (hcf : ∀ (args : Array Value) (w : World), (callFunc F args).run Tryz.prog w = .ok (.enter F args) w) (hF : ∀ h ∈ xs, ∀ w : World, Calls Tryz.prog F #[.int .i64 h] w fun e w' => e = .returned (.bool (p h)) ∧ Below w.heap.size w w')
  (A : Option Addr) (c : Nat) (w : World) (hA : IntsAt w A xs) (hl : xs.length ≤ 1000) :
  Calls Tryz.prog 68 #[.slice A xs.length c, .func (.func F) #[] #[]] w fun e w' => e = .returned (.bool (xs.all p)) ∧ Below w.heap.size w w' := by
 have HF := Lib.hid hF
 have HA := Lib.hid hA
 clear hF hA
 go_enter Tryz.func68, Tryz.ntmps68
 go_wp2_with fail
 go_loopw [9] (fun v9 wr => ∃ k : Nat, k ≤ xs.length ∧ v9 = .int .i64 k ∧ Hid (xs.all p = (xs.drop k).all p) ∧ Below w.heap.size w wr) (fun v9 _ => xs.length - (intOf v9).toNat)
 case atStart => exact ⟨0, Nat.zero_le _, rfl, rfl, Below.refl _ _⟩
 case round =>
  obtain ⟨k, hk, rfl, hp, hB⟩ := hrel
  by_cases hlt : k < xs.length
  ·have hx : xs[k]? = some xs[k] := List.getElem?_eq_getElem hlt
   obtain ⟨B, o, rfl, hc⟩ := (HA.out.up hB) (by omega)
   have c0 := hc k _ hx
   clear hc
   have HX := Lib.hid hx
   clear hx
   have hS := hB.size
   cases hq : p xs[k] with
   | true =>
    go_wp2_with ((with_reducible refine Calls.mono (HF.out _ (List.getElem_mem hlt) _) ?_); rintro e w2 ⟨rfl, hb2⟩; have hB2 : Below w.heap.size w w2 := Below.trans zg (hb2.mono (by first | omega | (simp; omega))))
    go_roundw
    case rel => exact ⟨k + 1, hlt, by go_num, by rw [hp.out, List.drop_eq_getElem_cons hlt, List.all_cons, hq, Bool.true_and]; exact rfl, hB2⟩
    case measure => simp [intOf]; omega
   | false =>
    go_wp2_with ((with_reducible refine Calls.mono (HF.out _ (List.getElem_mem hlt) _) ?_); rintro e w2 ⟨rfl, hb2⟩; have hB2 : Below w.heap.size w w2 := Below.trans zg (hb2.mono (by first | omega | (simp; omega))))
    go_ret
    have hfin : xs.all p = false := by rw [hp.out, List.drop_eq_getElem_cons hlt, List.all_cons, hq, Bool.false_and]
    exact ⟨by rw [hfin]; rfl, hB2⟩
  ·have hkl : k = xs.length := by omega
   go_wp2_with fail
   go_ret
   have hfin : xs.all p = true := by rw [hp.out, hkl, List.drop_length]; rfl
   exact ⟨by rw [hfin]; rfl, hB⟩
set_option maxRecDepth 100000 in
set_option maxHeartbeats 1000000 in
theorem everyBin_any (F : FuncId) (p : Bn → Bool) (xs : List Bn) (hcf : ∀ (args : Array Value) (w : World), (callFunc F args).run Tryz.prog w = .ok (.enter F args) w) (hF : ∀ h ∈ xs, ∀ w : World, Calls Tryz.prog F #[.agg #[.int .i64 h.warm, .int .i64 h.mark, .int .i64 h.lo, .int .i64 h.hi]] w fun e w' => e = .returned (.bool (p h)) ∧ Below w.heap.size w w')
  (A : Option Addr) (c : Nat) (w : World) (hA : BinsAt w A xs) (hl : xs.length ≤ 1000) :
  Calls Tryz.prog 70 #[.slice A xs.length c, .func (.func F) #[] #[]] w fun e w' => e = .returned (.bool (xs.all p)) ∧ Below w.heap.size w w' := by
 have HF := Lib.hid hF
 have HA := Lib.hid hA
 clear hF hA
 go_enter Tryz.func70, Tryz.ntmps70
 go_wp2_with fail
 go_loopw [9] (fun v9 wr => ∃ k : Nat, k ≤ xs.length ∧ v9 = .int .i64 k ∧ Hid (xs.all p = (xs.drop k).all p) ∧ Below w.heap.size w wr) (fun v9 _ => xs.length - (intOf v9).toNat)
 case atStart => exact ⟨0, Nat.zero_le _, rfl, rfl, Below.refl _ _⟩
 case round =>
  obtain ⟨k, hk, rfl, hp, hB⟩ := hrel
  by_cases hlt : k < xs.length
  ·have hx : xs[k]? = some xs[k] := List.getElem?_eq_getElem hlt
   obtain ⟨B, o, rfl, hc⟩ := (HA.out.up hB) (by omega)
   have c0 : wr.cell? ⟨B, o + k * 4, none⟩ = some (.int .i64 xs[k].warm) := hc k _ hx 0 _ rfl
   have c1 : wr.cell? ⟨B, o + k * 4 + 1, none⟩ = some (.int .i64 xs[k].mark) := hc k _ hx 1 _ rfl
   have c2 : wr.cell? ⟨B, o + k * 4 + 2, none⟩ = some (.int .i64 xs[k].lo) := hc k _ hx 2 _ rfl
   have c3 : wr.cell? ⟨B, o + k * 4 + 3, none⟩ = some (.int .i64 xs[k].hi) := hc k _ hx 3 _ rfl
   clear hc
   have HX := Lib.hid hx
   clear hx
   have hS := hB.size
   cases hq : p xs[k] with
   | true =>
    go_wp2_with ((with_reducible refine Calls.mono (HF.out _ (List.getElem_mem hlt) _) ?_); rintro e w2 ⟨rfl, hb2⟩; have hB2 : Below w.heap.size w w2 := Below.trans zg (hb2.mono (by first | omega | (simp; omega))))
    go_roundw
    case rel => exact ⟨k + 1, hlt, by go_num, by rw [hp.out, List.drop_eq_getElem_cons hlt, List.all_cons, hq, Bool.true_and]; exact rfl, hB2⟩
    case measure => simp [intOf]; omega
   | false =>
    go_wp2_with ((with_reducible refine Calls.mono (HF.out _ (List.getElem_mem hlt) _) ?_); rintro e w2 ⟨rfl, hb2⟩; have hB2 : Below w.heap.size w w2 := Below.trans zg (hb2.mono (by first | omega | (simp; omega))))
    go_ret
    have hfin : xs.all p = false := by rw [hp.out, List.drop_eq_getElem_cons hlt, List.all_cons, hq, Bool.false_and]
    exact ⟨by rw [hfin]; rfl, hB2⟩
  ·have hkl : k = xs.length := by omega
   go_wp2_with fail
   go_ret
   have hfin : xs.all p = true := by rw [hp.out, hkl, List.drop_length]; rfl
   exact ⟨by rw [hfin]; rfl, hB⟩
theorem cf_isRise (args : Array Value) (w : World) : (callFunc 69 args).run Tryz.prog w = .ok (.enter 69 args) w := by kernel_rfl
theorem cf_isBin (args : Array Value) (w : World) : (callFunc 71 args).run Tryz.prog w = .ok (.enter 71 args) w := by kernel_rfl
theorem cf_isInOrder (args : Array Value) (w : World) : (callFunc 73 args).run Tryz.prog w = .ok (.enter 73 args) w := by kernel_rfl
theorem isNaN_any (x : Int) (w : World) : Calls Tryz.prog 92 #[.int .i64 x] w fun e w' => e = .returned (.bool false) ∧ Below w.heap.size w w' := by
 go_enter Tryz.func92, Tryz.ntmps92
 go_wp2_with fail
 go_ret
 exact ⟨by first | rfl | simp, zg⟩
theorem Less_any (x y : Int) (w : World) : Calls Tryz.prog 63 #[.int .i64 x, .int .i64 y] w fun e w' => e = .returned (.bool (decide (x < y))) ∧ Below w.heap.size w w' := by
 go_enter Tryz.func63, Tryz.ntmps63
 go_wp2_with (go_at_call 92; refine (isNaN_any _ _).mono ?_; rintro e w2 ⟨rfl, hb2⟩)
 go_ret
 exact ⟨by first | rfl | simp, Below.trans zg (hb2.mono (by first | exact Nat.le_refl _ | (simp; done) | (simp; omega)))⟩
theorem sorted_end {xs : List Int} (h : xs.length ≤ 1) : risesFrom xs = true := by
 match xs, h with
 | [], _ => rfl
 | [_], _ => rfl
theorem sorted_step {xs : List Int} {j : Nat} {x y : Int} (hx : xs[j]? = some x) (hy : xs[j + 1]? = some y) : risesFrom (xs.drop j) = (decide (x ≤ y) && risesFrom (xs.drop (j + 1))) := by
 have h1 : xs.drop j = x :: xs.drop (j + 1) := by
  obtain ⟨hl, rfl⟩ := List.getElem?_eq_some_iff.1 hx
  exact List.drop_eq_getElem_cons hl
 have h2 : xs.drop (j + 1) = y :: xs.drop (j + 1 + 1) := by
  obtain ⟨hl, rfl⟩ := List.getElem?_eq_some_iff.1 hy
  exact List.drop_eq_getElem_cons hl
 rw [h1, h2, risesFrom]
theorem sorted_drop {xs : List Int} : ∀ {j : Nat}, risesFrom xs = true → risesFrom (xs.drop j) = true := by
 intro j
 induction j generalizing xs with
 | zero => intro h; simpa using h
 | succ j ih =>
  intro h
  match xs, h with
  | [], _ => simp [risesFrom]
  | [a], _ => simp [risesFrom]
  | a :: b :: l, h =>
   rw [List.drop_succ_cons]
   apply ih
   simp only [risesFrom, Bool.and_eq_true] at h
   exact h.2
set_option maxRecDepth 100000 in
set_option maxHeartbeats 4000000 in
theorem IsSorted_any (A : Option Addr) (c : Nat) (xs : List Int) (w : World) (hA : IntsAt w A xs) (h0 : 0 < xs.length) (hl : xs.length ≤ 1000) :
  Calls Tryz.prog 72 #[.slice A xs.length c] w fun e w' => e = .returned (.bool (risesFrom xs)) ∧ Below w.heap.size w w' := by
 have HA := Lib.hid hA
 clear hA
 obtain ⟨n, hn⟩ : ∃ n, xs.length = n + 1 := ⟨xs.length - 1, by omega⟩
 have HN := Lib.hid hn
 clear hn
 go_enter Tryz.func72, Tryz.ntmps72
 go_wp2_with fail
 go_loopw [3] (fun v3 wr => ∃ j : Nat, v3 = .int .i64 (j : Int) ∧ j < xs.length ∧ Hid (risesFrom (xs.drop j) = true) ∧ Below w.heap.size w wr) (fun v3 _ => (intOf v3).toNat)
 case atStart => exact ⟨n, by (have h := HN.out); (first | (rw [h]; go_num) | (simp [h]) | go_num), by (have h := HN.out); omega, Lib.hid (sorted_end (by (have h := HN.out); simp [h])), zg⟩
 case round =>
  obtain ⟨i, rfl, hi, hs, hBr⟩ := hrel
  by_cases hi0 : i = 0
  ·have hz : ¬ (0 : Int) < (i : Int) := by omega
   have hz2 : ¬ (i : Int) > 0 := by omega
   have HI0 := Lib.hid hi0
   clear hi0 hi
   go_wp2_with fail
   go_ret
   exact ⟨by have h := hs.out; rw [HI0.out, List.drop_zero] at h; rw [h]; rfl, hBr⟩
  ·obtain ⟨j, rfl⟩ : ∃ j, i = j + 1 := ⟨i - 1, by omega⟩
   obtain ⟨x, hx⟩ : ∃ z, xs[j]? = some z := ⟨_, List.getElem?_eq_getElem (by omega)⟩
   obtain ⟨y, hy⟩ : ∃ z, xs[j + 1]? = some z := ⟨_, List.getElem?_eq_getElem hi⟩
   obtain ⟨B, o, rfl, hc⟩ := HA.out h0
   have x0 := hc j x hx
   have y0 := hc (j + 1) y hy
   have hlB := World.block_lt_of_cell? w _ x0
   have hfalse : y < x → risesFrom xs = false := fun h => by
    cases hr : risesFrom xs with
    | false => rfl
    | true =>
     have := sorted_drop (j := j) hr
     rw [sorted_step hx hy, decide_eq_false (by omega)] at this
     cases this
   have htrue : ¬ y < x → Hid (risesFrom (xs.drop j) = true) := fun h => Lib.hid (by rw [sorted_step hx hy, hs.out, decide_eq_true (by omega)]; rfl)
   have HX := Lib.hid x0
   have HY := Lib.hid y0
   have HJ := Lib.hid hi
   have hj3 : j + 1 ≤ 1000 := by omega
   clear hc hx hy x0 y0 hi
   go_wp2_with fail
   rename_i Kc hKc
   have HSL := Lib.hid (show slotsOf [some 11, some 12, some 13, some 14, some 15, some 16, some 17, some 18, some 19, some 20] = [11, 12, 13, 14, 15, 16, 17, 18, 19, 20] from rfl)
   refine wp_region_partsG (by kernel_rfl) [some 11, some 12, some 13, some 14, some 15, some 16, some 17, some 18, some 19, some 20] (fun jq xq w' => match jq with
    | 0 => xq 11 = .slice (some ⟨B, o, none⟩) xs.length c
    | 1 => xq 12 = .int .i64 ((j + 1 : Nat) : Int)
    | 2 => xq 13 = .pointer (some ⟨B, o + (j + 1), none⟩)
    | 3 => xq 14 = .int .i64 y
    | 4 => xq 15 = .slice (some ⟨B, o, none⟩) xs.length c
    | 5 => xq 16 = .int .i64 ((j + 1 : Nat) : Int)
    | 6 => xq 17 = .int .i64 (j : Int)
    | 7 => xq 18 = .pointer (some ⟨B, o + j, none⟩)
    | 8 => xq 19 = .int .i64 x
    | 9 => xq 20 = .bool (decide (y < x))
    | _ => True) [[11], [12], [13], [14], [15], [16], [17], [18], [19], [20]] [] (Below w.heap.size w) (by kernel_rfl)  ?_ ?_ (fun w' w'' hb h => h.trans (hb.mono h.size)) (hBr) ?_ ?_ ?_
   ·intro jq xq xq' wqq h hv
    match jq, h, hv with
    | 0, h, hv => show xq' 11 = .slice (some ⟨B, o, none⟩) xs.length c; rw [← h 11 (by decide)]; exact hv
    | 1, h, hv => show xq' 12 = .int .i64 ((j + 1 : Nat) : Int); rw [← h 12 (by decide)]; exact hv
    | 2, h, hv => show xq' 13 = .pointer (some ⟨B, o + (j + 1), none⟩); rw [← h 13 (by decide)]; exact hv
    | 3, h, hv => show xq' 14 = .int .i64 y; rw [← h 14 (by decide)]; exact hv
    | 4, h, hv => show xq' 15 = .slice (some ⟨B, o, none⟩) xs.length c; rw [← h 15 (by decide)]; exact hv
    | 5, h, hv => show xq' 16 = .int .i64 ((j + 1 : Nat) : Int); rw [← h 16 (by decide)]; exact hv
    | 6, h, hv => show xq' 17 = .int .i64 (j : Int); rw [← h 17 (by decide)]; exact hv
    | 7, h, hv => show xq' 18 = .pointer (some ⟨B, o + j, none⟩); rw [← h 18 (by decide)]; exact hv
    | 8, h, hv => show xq' 19 = .int .i64 x; rw [← h 19 (by decide)]; exact hv
    | 9, h, hv => show xq' 20 = .bool (decide (y < x)); rw [← h 20 (by decide)]; exact hv
    | _ + 10, _, _ => trivial
   ·intro jq xq wqq w' hb' hv
    match jq, hv with
    | 0, hv => exact hv
    | 1, hv => exact hv
    | 2, hv => exact hv
    | 3, hv => exact hv
    | 4, hv => exact hv
    | 5, hv => exact hv
    | 6, hv => exact hv
    | 7, hv => exact hv
    | 8, hv => exact hv
    | 9, hv => exact hv
    | _ + 10, _ => trivial
   ·intro jq hj
    match jq, hj with
    | 0, hj => exact absurd hj (by decide)
    | 1, hj => exact absurd hj (by decide)
    | 2, hj => exact absurd hj (by decide)
    | 3, hj => exact absurd hj (by decide)
    | 4, hj => exact absurd hj (by decide)
    | 5, hj => exact absurd hj (by decide)
    | 6, hj => exact absurd hj (by decide)
    | 7, hj => exact absurd hj (by decide)
    | 8, hj => exact absurd hj (by decide)
    | 9, hj => exact absurd hj (by decide)
    | _ + 10, _ => trivial
   ·refine ⟨?_, ?_, ?_, ?_, ?_, ?_, ?_, ?_, ?_, ?_, trivial⟩
    ·intro xq w1 hb1 hx K hK0
     have hK := fun v w' hb => hK0 v w' (.inl hb)
     clear hx hKc hK0
     simp only [frameOf, fill, setSlot, sg, Nat.reduceBEq, if_true, if_false, Nat.reduceAdd, Nat.reduceEqDiff, HSL.out] at hK ⊢
     go_wp2_with (fail)
     exact hK _ _ (Below.refl _ _) rfl
    ·intro xq w1 hb1 hx K hK0
     have hK := fun v w' hb => hK0 v w' (.inl hb)
     clear hx hKc hK0
     simp only [frameOf, fill, setSlot, sg, Nat.reduceBEq, if_true, if_false, Nat.reduceAdd, Nat.reduceEqDiff, HSL.out] at hK ⊢
     go_wp2_with (fail)
     first | exact hK _ _ (Below.refl _ _) rfl | exact hK _ _ (Below.refl _ _) (by go_num)
    ·intro xq w1 hb1 hx K hK0
     have hK := fun v w' hb => hK0 v w' (.inl hb)
     have e11 : xq 11 = .slice (some ⟨B, o, none⟩) xs.length c := hx 0 (by rfl) (by rfl)
     have e12 : xq 12 = .int .i64 ((j + 1 : Nat) : Int) := hx 1 (by rfl) (by rfl)
     clear hx hKc hK0
     have hjl : j + 1 < xs.length := HJ.out
     simp only [frameOf, fill, setSlot, sg, Nat.reduceBEq, if_true, if_false, Nat.reduceAdd, Nat.reduceEqDiff, HSL.out] at hK ⊢
     simp only [e11, e12] at hK ⊢
     clear e11 e12
     go_wp2_with (fail)
     exact hK _ _ (Below.refl _ _) rfl
    ·intro xq w1 hb1 hx K hK0
     have hK := fun v w' hb => hK0 v w' (.inl hb)
     have e13 : xq 13 = .pointer (some ⟨B, o + (j + 1), none⟩) := hx 2 (by rfl) (by rfl)
     clear hx hKc hK0
     have q14 : w1.cell? ⟨B, o + (j + 1), none⟩ = some (.int .i64 y) := (hb1.cell (p := ⟨B, o + (j + 1), none⟩) hlB).trans HY.out
     simp only [frameOf, fill, setSlot, sg, Nat.reduceBEq, if_true, if_false, Nat.reduceAdd, Nat.reduceEqDiff, HSL.out] at hK ⊢
     simp only [e13] at hK ⊢
     clear e13
     go_wp2_with (fail)
     exact hK _ _ (Below.refl _ _) rfl
    ·intro xq w1 hb1 hx K hK0
     have hK := fun v w' hb => hK0 v w' (.inl hb)
     clear hx hKc hK0
     simp only [frameOf, fill, setSlot, sg, Nat.reduceBEq, if_true, if_false, Nat.reduceAdd, Nat.reduceEqDiff, HSL.out] at hK ⊢
     go_wp2_with (fail)
     exact hK _ _ (Below.refl _ _) rfl
    ·intro xq w1 hb1 hx K hK0
     have hK := fun v w' hb => hK0 v w' (.inl hb)
     clear hx hKc hK0
     simp only [frameOf, fill, setSlot, sg, Nat.reduceBEq, if_true, if_false, Nat.reduceAdd, Nat.reduceEqDiff, HSL.out] at hK ⊢
     go_wp2_with (fail)
     first | exact hK _ _ (Below.refl _ _) rfl | exact hK _ _ (Below.refl _ _) (by go_num)
    ·intro xq w1 hb1 hx K hK0
     have hK := fun v w' hb => hK0 v w' (.inl hb)
     have e16 : xq 16 = .int .i64 ((j + 1 : Nat) : Int) := hx 5 (by rfl) (by rfl)
     clear hx hKc hK0
     simp only [frameOf, fill, setSlot, sg, Nat.reduceBEq, if_true, if_false, Nat.reduceAdd, Nat.reduceEqDiff, HSL.out] at hK ⊢
     simp only [e16] at hK ⊢
     clear e16
     go_wp2_with (fail)
     first | exact hK _ _ (Below.refl _ _) rfl | exact hK _ _ (Below.refl _ _) (by go_num)
    ·intro xq w1 hb1 hx K hK0
     have hK := fun v w' hb => hK0 v w' (.inl hb)
     have e15 : xq 15 = .slice (some ⟨B, o, none⟩) xs.length c := hx 4 (by rfl) (by rfl)
     have e17 : xq 17 = .int .i64 (j : Int) := hx 6 (by rfl) (by rfl)
     clear hx hKc hK0
     have hjl : j < xs.length := Nat.lt_of_succ_lt HJ.out
     simp only [frameOf, fill, setSlot, sg, Nat.reduceBEq, if_true, if_false, Nat.reduceAdd, Nat.reduceEqDiff, HSL.out] at hK ⊢
     simp only [e15, e17] at hK ⊢
     clear e15 e17
     go_wp2_with (fail)
     exact hK _ _ (Below.refl _ _) rfl
    ·intro xq w1 hb1 hx K hK0
     have hK := fun v w' hb => hK0 v w' (.inl hb)
     have e18 : xq 18 = .pointer (some ⟨B, o + j, none⟩) := hx 7 (by rfl) (by rfl)
     clear hx hKc hK0
     have q19 : w1.cell? ⟨B, o + j, none⟩ = some (.int .i64 x) := (hb1.cell (p := ⟨B, o + j, none⟩) hlB).trans HX.out
     simp only [frameOf, fill, setSlot, sg, Nat.reduceBEq, if_true, if_false, Nat.reduceAdd, Nat.reduceEqDiff, HSL.out] at hK ⊢
     simp only [e18] at hK ⊢
     clear e18
     go_wp2_with (fail)
     exact hK _ _ (Below.refl _ _) rfl
    ·intro xq w1 hb1 hx K hK0
     have hK := fun v w' hb => hK0 v w' (.inl hb)
     have e14 : xq 14 = .int .i64 y := hx 3 (by rfl) (by rfl)
     have e19 : xq 19 = .int .i64 x := hx 8 (by rfl) (by rfl)
     clear hx hKc hK0
     simp only [frameOf, fill, setSlot, sg, Nat.reduceBEq, if_true, if_false, Nat.reduceAdd, Nat.reduceEqDiff, HSL.out] at hK ⊢
     simp only [e14, e19] at hK ⊢
     clear e14 e19
     go_wp2_with (go_at_call 63; refine (Less_any _ _ _).mono ?_; rintro e w2_ ⟨rfl, hb_⟩)
     exact hK _ _ hb_ rfl
   ·intro xq w1 hb1 hx
    have e11 : xq 11 = .slice (some ⟨B, o, none⟩) xs.length c := hx 0 (by decide)
    have e12 : xq 12 = .int .i64 ((j + 1 : Nat) : Int) := hx 1 (by decide)
    have e13 : xq 13 = .pointer (some ⟨B, o + (j + 1), none⟩) := hx 2 (by decide)
    have e14 : xq 14 = .int .i64 y := hx 3 (by decide)
    have e15 : xq 15 = .slice (some ⟨B, o, none⟩) xs.length c := hx 4 (by decide)
    have e16 : xq 16 = .int .i64 ((j + 1 : Nat) : Int) := hx 5 (by decide)
    have e17 : xq 17 = .int .i64 (j : Int) := hx 6 (by decide)
    have e18 : xq 18 = .pointer (some ⟨B, o + j, none⟩) := hx 7 (by decide)
    have e19 : xq 19 = .int .i64 x := hx 8 (by decide)
    have e20 : xq 20 = .bool (decide (y < x)) := hx 9 (by decide)
    clear hx
    simp only [frameOf, fill, setSlot, sg, Nat.reduceBEq, if_true, if_false, Nat.reduceAdd, Nat.reduceEqDiff, HSL.out]
    simp only [e11, e12, e13, e14, e15, e16, e17, e18, e19, e20]
    clear e11 e12 e13 e14 e15 e16 e17 e18 e19 e20
    refine hKc _ _ ?_
    by_cases hyx : y < x
    ·go_wp2_with fail
     go_ret
     exact ⟨by rw [hfalse hyx]; first | rfl | simp, hb1⟩
    ·go_wp2_with fail
     go_roundw
     case rel => exact ⟨j, by go_num, Nat.lt_of_succ_lt HJ.out, htrue (by omega), hb1⟩
     case measure => first | (simp [intOf]; done) | (simp [intOf]; omega)
theorem rises_at {w : World} {B : Nat} {t : TypeId} {b : Br} {v : Value} (h : Holds w B t #[.int .i64 b.cool, .int .i64 b.gangs, .int .i64 b.r0, .int .i64 b.r1, .int .i64 b.r2, .int .i64 b.r3, .int .i64 b.r4, .int .i64 b.r5, v]) : IntsAt w (some ⟨B, 2, none⟩) b.rises := fun _ => by
 refine ⟨B, 2, rfl, fun k x hx => ?_⟩
 match k, hx with
 | 0, hx | 1, hx | 2, hx | 3, hx | 4, hx | 5, hx => simp [Br.rises] at hx; subst hx; exact h.cell _
 | k + 6, hx => simp [Br.rises] at hx
set_option maxRecDepth 100000 in
set_option maxHeartbeats 4000000 in
theorem Check_any (b : Br) (A : Option Addr) (c : Nat) (bs : List Bn) (w : World) (hA : BinsAt w A bs) (hl : bs.length ≤ 1000) :
  Calls Tryz.prog 40 #[.agg #[.int .i64 b.cool, .int .i64 b.gangs, .int .i64 b.r0, .int .i64 b.r1, .int .i64 b.r2, .int .i64 b.r3, .int .i64 b.r4, .int .i64 b.r5, .slice A bs.length c]] w fun e w' => e = .returned (.int .i64 (barnErr b bs)) ∧ Below w.heap.size w w' := by
 have HA := Lib.hid hA
 clear hA
 have HX := Lib.hid (Holds.new w 26 #[.int .i64 b.cool, .int .i64 b.gangs, .int .i64 b.r0, .int .i64 b.r1, .int .i64 b.r2, .int .i64 b.r3, .int .i64 b.r4, .int .i64 b.r5, .slice A bs.length c])
 obtain ⟨E, hE⟩ : ∃ z, z = barnErr b bs := ⟨_, rfl⟩
 rw [← hE]
 have HEQ := Lib.hid hE
 clear hE
 cases h0 : within (bs.length : Int) 1 4 with
 | false =>
  go_enter Tryz.func40, Tryz.ntmps40
  go_wp2_with (first
   | (go_at_call 42; refine (within_any _ _ _ _).mono ?_; simp only [h0, Bool.not_true, Bool.not_false]; rintro e w' ⟨rfl, rfl⟩)
   )
  go_ret
  exact ⟨by rw [HEQ.out, barnErr_many h0 ]; rfl, zg⟩
 | true =>
  cases h1 : within b.cool 0 60 with
  | false =>
   go_enter Tryz.func40, Tryz.ntmps40
   go_wp2_with (first
    | (go_at_call 42; refine (within_any _ _ _ _).mono ?_; simp only [h0, h1, Bool.not_true, Bool.not_false]; rintro e w' ⟨rfl, rfl⟩)
    )
   go_ret
   exact ⟨by rw [HEQ.out, barnErr_range h0 (by rw [h1]; rfl)]; rfl, zg⟩
  | true =>
   cases h2 : within b.gangs 0 3 with
   | false =>
    go_enter Tryz.func40, Tryz.ntmps40
    go_wp2_with (first
     | (go_at_call 42; refine (within_any _ _ _ _).mono ?_; simp only [h0, h1, h2, Bool.not_true, Bool.not_false]; rintro e w' ⟨rfl, rfl⟩)
     )
    go_ret
    exact ⟨by rw [HEQ.out, barnErr_range h0 (by rw [h1, h2]; rfl)]; rfl, zg⟩
   | true =>
    cases h3 : b.rises.all riseOk with
    | false =>
     have tok1 : True := trivial
     have tok2 : True := trivial
     go_enter Tryz.func40, Tryz.ntmps40
     go_wp2_with (first
      | (go_at_call 42; refine (within_any _ _ _ _).mono ?_; simp only [h0, h1, h2, Bool.not_true, Bool.not_false]; rintro e w' ⟨rfl, rfl⟩)
      | (go_at_call 68; have tk1 := tok1; clear tok1; refine (everyInt_any 69 riseOk b.rises cf_isRise (fun n _ w => isRise_any n w) (some ⟨w.heap.size, 2, none⟩) 6 _ (rises_at HX.out) (by simp [Br.rises])).mono ?_; simp only [h3]; rintro e w2 ⟨rfl, hb2⟩; have hB2 : Below (w.heap.size + 1) (w.alloc (.cells #[.int .i64 b.cool, .int .i64 b.gangs, .int .i64 b.r0, .int .i64 b.r1, .int .i64 b.r2, .int .i64 b.r3, .int .i64 b.r4, .int .i64 b.r5, .slice A bs.length c] 26)) w2 := (hb2.mono (by simp)); have hs2 : w.heap.size + 1 ≤ w2.heap.size := (by have h := hB2.size; simp only [World.size_alloc] at h; exact h); have k82 : w2.cell? ⟨w.heap.size, 8, none⟩ = some (.slice A bs.length c) := (HX.out.up (hB2.mono (by simp))).cell 8; have lt2 : w.heap.size < w2.heap.size := by omega)
      )
     go_ret
     exact ⟨by rw [HEQ.out, barnErr_range h0 (by rw [h1, h2, h3]; rfl)]; rfl, Below.trans zg (hB2.mono (by simp))⟩
    | true =>
     cases h4 : bs.all Bn.inRange with
     | false =>
      have tok1 : True := trivial
      have tok2 : True := trivial
      go_enter Tryz.func40, Tryz.ntmps40
      go_wp2_with (first
       | (go_at_call 42; refine (within_any _ _ _ _).mono ?_; simp only [h0, h1, h2, Bool.not_true, Bool.not_false]; rintro e w' ⟨rfl, rfl⟩)
       | (go_at_call 68; have tk1 := tok1; clear tok1; refine (everyInt_any 69 riseOk b.rises cf_isRise (fun n _ w => isRise_any n w) (some ⟨w.heap.size, 2, none⟩) 6 _ (rises_at HX.out) (by simp [Br.rises])).mono ?_; simp only [h3]; rintro e w2 ⟨rfl, hb2⟩; have hB2 : Below (w.heap.size + 1) (w.alloc (.cells #[.int .i64 b.cool, .int .i64 b.gangs, .int .i64 b.r0, .int .i64 b.r1, .int .i64 b.r2, .int .i64 b.r3, .int .i64 b.r4, .int .i64 b.r5, .slice A bs.length c] 26)) w2 := (hb2.mono (by simp)); have hs2 : w.heap.size + 1 ≤ w2.heap.size := (by have h := hB2.size; simp only [World.size_alloc] at h; exact h); have k82 : w2.cell? ⟨w.heap.size, 8, none⟩ = some (.slice A bs.length c) := (HX.out.up (hB2.mono (by simp))).cell 8; have lt2 : w.heap.size < w2.heap.size := by omega)
       | (go_at_call 70; have tk2 := tok2; clear tok2; refine (everyBin_any 71 Bn.inRange bs cf_isBin (fun h _ w => isBin_any h w) A c _ (HA.out.up (Below.trans zg (hB2.mono (by simp)))) hl).mono ?_; simp only [h4]; rintro e w3 ⟨rfl, hb3⟩; have hB3 : Below (w.heap.size + 1) (w.alloc (.cells #[.int .i64 b.cool, .int .i64 b.gangs, .int .i64 b.r0, .int .i64 b.r1, .int .i64 b.r2, .int .i64 b.r3, .int .i64 b.r4, .int .i64 b.r5, .slice A bs.length c] 26)) w3 := hB2.trans (hb3.mono hs2); have hs3 : w.heap.size + 1 ≤ w3.heap.size := (by have h := hB3.size; simp only [World.size_alloc] at h; exact h); have k83 : w3.cell? ⟨w.heap.size, 8, none⟩ = some (.slice A bs.length c) := (HX.out.up (hB3.mono (by simp))).cell 8; have lt3 : w.heap.size < w3.heap.size := by omega)
       )
      go_ret
      exact ⟨by rw [HEQ.out, barnErr_range h0 (by rw [h1, h2, h3, h4]; rfl)]; rfl, Below.trans zg (hB3.mono (by simp))⟩
     | true =>
      cases h5 : risesFrom b.rises with
      | false =>
       have tok1 : True := trivial
       have tok2 : True := trivial
       go_enter Tryz.func40, Tryz.ntmps40
       go_wp2_with (first
        | (go_at_call 42; refine (within_any _ _ _ _).mono ?_; simp only [h0, h1, h2, Bool.not_true, Bool.not_false]; rintro e w' ⟨rfl, rfl⟩)
        | (go_at_call 68; have tk1 := tok1; clear tok1; refine (everyInt_any 69 riseOk b.rises cf_isRise (fun n _ w => isRise_any n w) (some ⟨w.heap.size, 2, none⟩) 6 _ (rises_at HX.out) (by simp [Br.rises])).mono ?_; simp only [h3]; rintro e w2 ⟨rfl, hb2⟩; have hB2 : Below (w.heap.size + 1) (w.alloc (.cells #[.int .i64 b.cool, .int .i64 b.gangs, .int .i64 b.r0, .int .i64 b.r1, .int .i64 b.r2, .int .i64 b.r3, .int .i64 b.r4, .int .i64 b.r5, .slice A bs.length c] 26)) w2 := (hb2.mono (by simp)); have hs2 : w.heap.size + 1 ≤ w2.heap.size := (by have h := hB2.size; simp only [World.size_alloc] at h; exact h); have k82 : w2.cell? ⟨w.heap.size, 8, none⟩ = some (.slice A bs.length c) := (HX.out.up (hB2.mono (by simp))).cell 8; have lt2 : w.heap.size < w2.heap.size := by omega)
        | (go_at_call 70; have tk2 := tok2; clear tok2; refine (everyBin_any 71 Bn.inRange bs cf_isBin (fun h _ w => isBin_any h w) A c _ (HA.out.up (Below.trans zg (hB2.mono (by simp)))) hl).mono ?_; simp only [h4]; rintro e w3 ⟨rfl, hb3⟩; have hB3 : Below (w.heap.size + 1) (w.alloc (.cells #[.int .i64 b.cool, .int .i64 b.gangs, .int .i64 b.r0, .int .i64 b.r1, .int .i64 b.r2, .int .i64 b.r3, .int .i64 b.r4, .int .i64 b.r5, .slice A bs.length c] 26)) w3 := hB2.trans (hb3.mono hs2); have hs3 : w.heap.size + 1 ≤ w3.heap.size := (by have h := hB3.size; simp only [World.size_alloc] at h; exact h); have k83 : w3.cell? ⟨w.heap.size, 8, none⟩ = some (.slice A bs.length c) := (HX.out.up (hB3.mono (by simp))).cell 8; have lt3 : w.heap.size < w3.heap.size := by omega)
        | (go_at_call 72; refine (IsSorted_any (some ⟨w.heap.size, 2, none⟩) 6 b.rises _ (rises_at (HX.out.up (hB3.mono (by simp)))) (by simp [Br.rises]) (by simp [Br.rises])).mono ?_; simp only [h5]; rintro e w4 ⟨rfl, hb4⟩; have hB4 : Below (w.heap.size + 1) (w.alloc (.cells #[.int .i64 b.cool, .int .i64 b.gangs, .int .i64 b.r0, .int .i64 b.r1, .int .i64 b.r2, .int .i64 b.r3, .int .i64 b.r4, .int .i64 b.r5, .slice A bs.length c] 26)) w4 := hB3.trans (hb4.mono hs3); have hs4 : w.heap.size + 1 ≤ w4.heap.size := (by have h := hB4.size; simp only [World.size_alloc] at h; exact h); have k84 : w4.cell? ⟨w.heap.size, 8, none⟩ = some (.slice A bs.length c) := (HX.out.up (hB4.mono (by simp))).cell 8; have lt4 : w.heap.size < w4.heap.size := by omega)
        )
       go_ret
       exact ⟨by rw [HEQ.out, barnErr_order h0 (by rw [h1, h2, h3, h4]; rfl) (by rw [h5]; rfl)]; rfl, Below.trans zg (hB4.mono (by simp))⟩
      | true =>
       cases h6 : bs.all Bn.inOrder with
       | false =>
        have tok1 : True := trivial
        have tok2 : True := trivial
        go_enter Tryz.func40, Tryz.ntmps40
        go_wp2_with (first
         | (go_at_call 42; refine (within_any _ _ _ _).mono ?_; simp only [h0, h1, h2, Bool.not_true, Bool.not_false]; rintro e w' ⟨rfl, rfl⟩)
         | (go_at_call 68; have tk1 := tok1; clear tok1; refine (everyInt_any 69 riseOk b.rises cf_isRise (fun n _ w => isRise_any n w) (some ⟨w.heap.size, 2, none⟩) 6 _ (rises_at HX.out) (by simp [Br.rises])).mono ?_; simp only [h3]; rintro e w2 ⟨rfl, hb2⟩; have hB2 : Below (w.heap.size + 1) (w.alloc (.cells #[.int .i64 b.cool, .int .i64 b.gangs, .int .i64 b.r0, .int .i64 b.r1, .int .i64 b.r2, .int .i64 b.r3, .int .i64 b.r4, .int .i64 b.r5, .slice A bs.length c] 26)) w2 := (hb2.mono (by simp)); have hs2 : w.heap.size + 1 ≤ w2.heap.size := (by have h := hB2.size; simp only [World.size_alloc] at h; exact h); have k82 : w2.cell? ⟨w.heap.size, 8, none⟩ = some (.slice A bs.length c) := (HX.out.up (hB2.mono (by simp))).cell 8; have lt2 : w.heap.size < w2.heap.size := by omega)
         | (go_at_call 70; have tk2 := tok2; clear tok2; refine (everyBin_any 71 Bn.inRange bs cf_isBin (fun h _ w => isBin_any h w) A c _ (HA.out.up (Below.trans zg (hB2.mono (by simp)))) hl).mono ?_; simp only [h4]; rintro e w3 ⟨rfl, hb3⟩; have hB3 : Below (w.heap.size + 1) (w.alloc (.cells #[.int .i64 b.cool, .int .i64 b.gangs, .int .i64 b.r0, .int .i64 b.r1, .int .i64 b.r2, .int .i64 b.r3, .int .i64 b.r4, .int .i64 b.r5, .slice A bs.length c] 26)) w3 := hB2.trans (hb3.mono hs2); have hs3 : w.heap.size + 1 ≤ w3.heap.size := (by have h := hB3.size; simp only [World.size_alloc] at h; exact h); have k83 : w3.cell? ⟨w.heap.size, 8, none⟩ = some (.slice A bs.length c) := (HX.out.up (hB3.mono (by simp))).cell 8; have lt3 : w.heap.size < w3.heap.size := by omega)
         | (go_at_call 72; refine (IsSorted_any (some ⟨w.heap.size, 2, none⟩) 6 b.rises _ (rises_at (HX.out.up (hB3.mono (by simp)))) (by simp [Br.rises]) (by simp [Br.rises])).mono ?_; simp only [h5]; rintro e w4 ⟨rfl, hb4⟩; have hB4 : Below (w.heap.size + 1) (w.alloc (.cells #[.int .i64 b.cool, .int .i64 b.gangs, .int .i64 b.r0, .int .i64 b.r1, .int .i64 b.r2, .int .i64 b.r3, .int .i64 b.r4, .int .i64 b.r5, .slice A bs.length c] 26)) w4 := hB3.trans (hb4.mono hs3); have hs4 : w.heap.size + 1 ≤ w4.heap.size := (by have h := hB4.size; simp only [World.size_alloc] at h; exact h); have k84 : w4.cell? ⟨w.heap.size, 8, none⟩ = some (.slice A bs.length c) := (HX.out.up (hB4.mono (by simp))).cell 8; have lt4 : w.heap.size < w4.heap.size := by omega)
         | (go_at_call 70; refine (everyBin_any 73 Bn.inOrder bs cf_isInOrder (fun h _ w => isInOrder_any h w) A c _ (HA.out.up (Below.trans zg (hB4.mono (by simp)))) hl).mono ?_; simp only [h6]; rintro e w5 ⟨rfl, hb5⟩; have hB5 : Below (w.heap.size + 1) (w.alloc (.cells #[.int .i64 b.cool, .int .i64 b.gangs, .int .i64 b.r0, .int .i64 b.r1, .int .i64 b.r2, .int .i64 b.r3, .int .i64 b.r4, .int .i64 b.r5, .slice A bs.length c] 26)) w5 := hB4.trans (hb5.mono hs4); have hs5 : w.heap.size + 1 ≤ w5.heap.size := (by have h := hB5.size; simp only [World.size_alloc] at h; exact h); have k85 : w5.cell? ⟨w.heap.size, 8, none⟩ = some (.slice A bs.length c) := (HX.out.up (hB5.mono (by simp))).cell 8; have lt5 : w.heap.size < w5.heap.size := by omega)
         )
        go_ret
        exact ⟨by rw [HEQ.out, barnErr_order h0 (by rw [h1, h2, h3, h4]; rfl) (by rw [h5, h6]; rfl)]; rfl, Below.trans zg (hB5.mono (by simp))⟩
       | true =>
        have tok1 : True := trivial
        have tok2 : True := trivial
        go_enter Tryz.func40, Tryz.ntmps40
        go_wp2_with (first
         | (go_at_call 42; refine (within_any _ _ _ _).mono ?_; simp only [h0, h1, h2, Bool.not_true, Bool.not_false]; rintro e w' ⟨rfl, rfl⟩)
         | (go_at_call 68; have tk1 := tok1; clear tok1; refine (everyInt_any 69 riseOk b.rises cf_isRise (fun n _ w => isRise_any n w) (some ⟨w.heap.size, 2, none⟩) 6 _ (rises_at HX.out) (by simp [Br.rises])).mono ?_; simp only [h3]; rintro e w2 ⟨rfl, hb2⟩; have hB2 : Below (w.heap.size + 1) (w.alloc (.cells #[.int .i64 b.cool, .int .i64 b.gangs, .int .i64 b.r0, .int .i64 b.r1, .int .i64 b.r2, .int .i64 b.r3, .int .i64 b.r4, .int .i64 b.r5, .slice A bs.length c] 26)) w2 := (hb2.mono (by simp)); have hs2 : w.heap.size + 1 ≤ w2.heap.size := (by have h := hB2.size; simp only [World.size_alloc] at h; exact h); have k82 : w2.cell? ⟨w.heap.size, 8, none⟩ = some (.slice A bs.length c) := (HX.out.up (hB2.mono (by simp))).cell 8; have lt2 : w.heap.size < w2.heap.size := by omega)
         | (go_at_call 70; have tk2 := tok2; clear tok2; refine (everyBin_any 71 Bn.inRange bs cf_isBin (fun h _ w => isBin_any h w) A c _ (HA.out.up (Below.trans zg (hB2.mono (by simp)))) hl).mono ?_; simp only [h4]; rintro e w3 ⟨rfl, hb3⟩; have hB3 : Below (w.heap.size + 1) (w.alloc (.cells #[.int .i64 b.cool, .int .i64 b.gangs, .int .i64 b.r0, .int .i64 b.r1, .int .i64 b.r2, .int .i64 b.r3, .int .i64 b.r4, .int .i64 b.r5, .slice A bs.length c] 26)) w3 := hB2.trans (hb3.mono hs2); have hs3 : w.heap.size + 1 ≤ w3.heap.size := (by have h := hB3.size; simp only [World.size_alloc] at h; exact h); have k83 : w3.cell? ⟨w.heap.size, 8, none⟩ = some (.slice A bs.length c) := (HX.out.up (hB3.mono (by simp))).cell 8; have lt3 : w.heap.size < w3.heap.size := by omega)
         | (go_at_call 72; refine (IsSorted_any (some ⟨w.heap.size, 2, none⟩) 6 b.rises _ (rises_at (HX.out.up (hB3.mono (by simp)))) (by simp [Br.rises]) (by simp [Br.rises])).mono ?_; simp only [h5]; rintro e w4 ⟨rfl, hb4⟩; have hB4 : Below (w.heap.size + 1) (w.alloc (.cells #[.int .i64 b.cool, .int .i64 b.gangs, .int .i64 b.r0, .int .i64 b.r1, .int .i64 b.r2, .int .i64 b.r3, .int .i64 b.r4, .int .i64 b.r5, .slice A bs.length c] 26)) w4 := hB3.trans (hb4.mono hs3); have hs4 : w.heap.size + 1 ≤ w4.heap.size := (by have h := hB4.size; simp only [World.size_alloc] at h; exact h); have k84 : w4.cell? ⟨w.heap.size, 8, none⟩ = some (.slice A bs.length c) := (HX.out.up (hB4.mono (by simp))).cell 8; have lt4 : w.heap.size < w4.heap.size := by omega)
         | (go_at_call 70; refine (everyBin_any 73 Bn.inOrder bs cf_isInOrder (fun h _ w => isInOrder_any h w) A c _ (HA.out.up (Below.trans zg (hB4.mono (by simp)))) hl).mono ?_; simp only [h6]; rintro e w5 ⟨rfl, hb5⟩; have hB5 : Below (w.heap.size + 1) (w.alloc (.cells #[.int .i64 b.cool, .int .i64 b.gangs, .int .i64 b.r0, .int .i64 b.r1, .int .i64 b.r2, .int .i64 b.r3, .int .i64 b.r4, .int .i64 b.r5, .slice A bs.length c] 26)) w5 := hB4.trans (hb5.mono hs4); have hs5 : w.heap.size + 1 ≤ w5.heap.size := (by have h := hB5.size; simp only [World.size_alloc] at h; exact h); have k85 : w5.cell? ⟨w.heap.size, 8, none⟩ = some (.slice A bs.length c) := (HX.out.up (hB5.mono (by simp))).cell 8; have lt5 : w.heap.size < w5.heap.size := by omega)
         )
        go_ret
        exact ⟨by rw [HEQ.out, barnErr_ok h0 (by rw [h1, h2, h3, h4]; rfl) (by rw [h5, h6]; rfl)]; rfl, Below.trans zg (hB5.mono (by simp))⟩
theorem rise_cell {w : World} {B i : Nat} {t : TypeId} {b : Br} {v : Value} {r : Int} (h : Holds w B t #[.int .i64 b.cool, .int .i64 b.gangs, .int .i64 b.r0, .int .i64 b.r1, .int .i64 b.r2, .int .i64 b.r3, .int .i64 b.r4, .int .i64 b.r5, v]) (hr : b.rises[i]? = some r) : w.cell? ⟨B, 2 + i, none⟩ = some (.int .i64 r) := by
 obtain ⟨B', o', e, hc⟩ := rises_at h (by simp [Br.rises])
 cases e
 exact hc i r hr
def UpTo (xs : List Int) (i : Nat) : Prop := ∀ (j : Nat) (x y : Int), j + 1 < i → xs[j]? = some x → xs[j + 1]? = some y → x ≤ y
theorem UpTo.next {xs : List Int} {k : Nat} {x y : Int} (h : UpTo xs (k + 1)) (hx : xs[k]? = some x) (hy : xs[k + 1]? = some y) (hp : x ≤ y) : UpTo xs (k + 1 + 1) := by
 intro j a b hj ha hb
 by_cases e : j = k
 ·subst e; rw [hx] at ha; rw [hy] at hb; cases ha; cases hb; exact hp
 ·exact h j a b (by omega) ha hb
def incFrom : List Int → Bool
 | a :: b :: l => decide (a < b) && incFrom (b :: l)
 | _ => true
theorem inc_step {xs : List Int} {j : Nat} {x y : Int} (hx : xs[j]? = some x) (hy : xs[j + 1]? = some y) : incFrom (xs.drop j) = (decide (x < y) && incFrom (xs.drop (j + 1))) := by
 have h1 : xs.drop j = x :: xs.drop (j + 1) := by
  obtain ⟨hl, rfl⟩ := List.getElem?_eq_some_iff.1 hx
  exact List.drop_eq_getElem_cons hl
 have h2 : xs.drop (j + 1) = y :: xs.drop (j + 1 + 1) := by
  obtain ⟨hl, rfl⟩ := List.getElem?_eq_some_iff.1 hy
  exact List.drop_eq_getElem_cons hl
 rw [h1, h2, incFrom]
theorem inc_drop {xs : List Int} : ∀ {j : Nat}, incFrom xs = true → incFrom (xs.drop j) = true := by
 intro j
 induction j generalizing xs with
 | zero => intro h; simpa using h
 | succ j ih =>
  intro h
  match xs, h with
  | [], _ => simp [incFrom]
  | [a], _ => simp [incFrom]
  | a :: b :: l, h =>
   rw [List.drop_succ_cons]
   apply ih
   simp only [incFrom, Bool.and_eq_true] at h
   exact h.2
theorem inc_not {xs : List Int} {j : Nat} {x y : Int} (hx : xs[j]? = some x) (hy : xs[j + 1]? = some y) (h : y ≤ x) : incFrom xs = false := by
 cases hr : incFrom xs with
 | false => rfl
 | true =>
  have := inc_drop (j := j) hr
  rw [inc_step hx hy, decide_eq_false (by omega)] at this
  cases this
theorem inc_all : ∀ {xs : List Int}, (∀ (j : Nat) (x y : Int), xs[j]? = some x → xs[j + 1]? = some y → x < y) → incFrom xs = true := by
 intro xs
 induction xs with
 | nil => intro _; rfl
 | cons a l ih =>
  intro h
  match l, ih, h with
  | [], _, _ => rfl
  | b :: l, ih, h =>
   rw [incFrom, ih (fun j x y hx hy => h (j + 1) x y hx hy), decide_eq_true (h 0 a b rfl rfl)]
   rfl
def IncTo (xs : List Int) (i : Nat) : Prop := ∀ (j : Nat) (x y : Int), j + 1 < i → xs[j]? = some x → xs[j + 1]? = some y → x < y
theorem IncTo.next {xs : List Int} {k : Nat} {x y : Int} (h : IncTo xs (k + 1)) (hx : xs[k]? = some x) (hy : xs[k + 1]? = some y) (hp : x < y) : IncTo xs (k + 1 + 1) := by
 intro j a b hj ha hb
 by_cases e : j = k
 ·subst e; rw [hx] at ha; rw [hy] at hb; cases ha; cases hb; exact hp
 ·exact h j a b (by omega) ha hb
theorem IncTo.all {xs : List Int} {i : Nat} (h : IncTo xs i) (hi : xs.length ≤ i ∨ xs.length ≤ 1) : incFrom xs = true :=
 inc_all (fun j x y hx hy => h j x y (by have := (List.getElem?_eq_some_iff.1 hy).1; omega) hx hy)
def dayErr (n : Nat) (gangs : Int) (l : List Int) : Int := if l.all (fun k => within k 0 (n - 1)) = false then 1 else if incFrom l = false then 4 else if gangs < l.length then 9 else 0
def planErrs (n : Nat) (gangs : Int) : List (List Int) → Int
 | [] => 0
 | l :: p => if dayErr n gangs l ≠ 0 then dayErr n gangs l else planErrs n gangs p
def planErr (n : Nat) (gangs : Int) (p : List (List Int)) : Int := if 20000 < p.length then 2 else planErrs n gangs p
theorem dayErr_not {n : Nat} {gangs : Int} {l : List Int} (h : l.all (fun k => within k 0 (n - 1)) = false) : dayErr n gangs l = 1 := by unfold dayErr; rw [if_pos h]
theorem dayErr_order {n : Nat} {gangs : Int} {l : List Int} (h : l.all (fun k => within k 0 (n - 1)) = true) (h2 : incFrom l = false) : dayErr n gangs l = 4 := by unfold dayErr; rw [if_neg (by rw [h]; decide), if_pos h2]
theorem dayErr_full {n : Nat} {gangs : Int} {l : List Int} (h : l.all (fun k => within k 0 (n - 1)) = true) (h2 : incFrom l = true) (h3 : gangs < l.length) : dayErr n gangs l = 9 := by unfold dayErr; rw [if_neg (by rw [h]; decide), if_neg (by rw [h2]; decide), if_pos h3]
theorem dayErr_ok {n : Nat} {gangs : Int} {l : List Int} (h : l.all (fun k => within k 0 (n - 1)) = true) (h2 : incFrom l = true) (h3 : ¬ gangs < l.length) : dayErr n gangs l = 0 := by unfold dayErr; rw [if_neg (by rw [h]; decide), if_neg (by rw [h2]; decide), if_neg h3]
theorem planErrs_at {n : Nat} {gangs : Int} {p : List (List Int)} {k : Nat} {l : List Int} (hl : p[k]? = some l) (he : dayErr n gangs l ≠ 0) : planErrs n gangs (p.drop k) = dayErr n gangs l := by
 obtain ⟨h, rfl⟩ := List.getElem?_eq_some_iff.1 hl
 rw [List.drop_eq_getElem_cons h, planErrs, if_pos he]
theorem planErrs_next {n : Nat} {gangs : Int} {p : List (List Int)} {k : Nat} {l : List Int} (hl : p[k]? = some l) (he : dayErr n gangs l = 0) : planErrs n gangs (p.drop k) = planErrs n gangs (p.drop (k + 1)) := by
 obtain ⟨h, rfl⟩ := List.getElem?_eq_some_iff.1 hl
 rw [List.drop_eq_getElem_cons h, planErrs, if_neg (by simp [he])]
def PlanAt (w : World) (P : Option Addr) (p : List (List Int)) : Prop :=
 0 < p.length → ∃ B o, P = some ⟨B, o, none⟩ ∧ ∀ d l, p[d]? = some l → ∃ A c, w.cell? ⟨B, o + d, none⟩ = some (.slice A l.length c) ∧ IntsAt w A l ∧ (A = none → l.length = 0 ∧ c = 0)
theorem PlanAt.up {w w' : World} {P : Option Addr} {p : List (List Int)} (h : PlanAt w P p) (hb : Below w.heap.size w w') : PlanAt w' P p := fun hn => by
 obtain ⟨B, o, e, hc⟩ := h hn
 refine ⟨B, o, e, fun d l hl => ?_⟩
 obtain ⟨A, c, h1, h2, h3⟩ := hc d l hl
 exact ⟨A, c, up_cell hb h1, h2.up hb, h3⟩
end Go.Proofs.YtokafjkinkafiaaGreat
