import Derived.Laws.ResultCell
import Derived.Laws.Rows
import Derived.Test.YtifffonoipapgaaVAA
import Derived.Test.YtifffonoipapgaaVAB
set_option linter.unusedSimpArgs false
set_option linter.unusedVariables false
namespace Go.Proofs.Ytifffonoipapgaa
open Go.RowKit
theorem wp_world {P : Program} {c : Code} {Q : Exit → Act → World → Prop} {a : Act} {w : World} (R : World → Prop) (hR : R w) (h : ∀ W, R W → Code.wp P c Q a W) : Code.wp P c Q a w := h w hR
def Holds (w : World) (B : Nat) (t : TypeId) (cs : Array Value) : Prop := w.heap[B]? = some (.cells cs t (0, 0))
theorem Holds.lt {w : World} {B : Nat} {t : TypeId} {cs : Array Value} (h : Holds w B t cs) : B < w.heap.size := by
 unfold Holds at h
 exact (Array.getElem?_eq_some_iff.1 h).1
theorem Holds.cell {w : World} {B : Nat} {t : TypeId} {cs : Array Value} (h : Holds w B t cs) (i : Nat) : w.cell? ⟨B, i, none⟩ = cs[i]? := by
 unfold Holds at h
 simp [World.cell?, h]
theorem Holds.frozen {w : World} {B : Nat} {t : TypeId} {cs : Array Value} (h : Holds w B t cs) (i : Nat) : w.frozen? ⟨B, i, none⟩ = false := by
 unfold Holds at h
 simp [World.frozen?, h]
theorem Holds.c2 {w : World} {B : Nat} {t : TypeId} {a0 a1 : Value} {l : List Value} (h : Holds w B t (a0 :: a1 :: l).toArray) : w.cell? ⟨B, 0, none⟩ = some a0 ∧ w.cell? ⟨B, 1, none⟩ = some a1 := ⟨h.cell 0, h.cell 1⟩
theorem Holds.f2 {w : World} {B : Nat} {t : TypeId} {cs : Array Value} (h : Holds w B t cs) : w.frozen? ⟨B, 0, none⟩ = false ∧ w.frozen? ⟨B, 1, none⟩ = false := ⟨h.frozen 0, h.frozen 1⟩
theorem Holds.c3 {w : World} {B : Nat} {t : TypeId} {a0 a1 a2 : Value} {l : List Value} (h : Holds w B t (a0 :: a1 :: a2 :: l).toArray) : w.cell? ⟨B, 0, none⟩ = some a0 ∧ w.cell? ⟨B, 1, none⟩ = some a1 ∧ w.cell? ⟨B, 2, none⟩ = some a2 := ⟨h.cell 0, h.cell 1, h.cell 2⟩
theorem Holds.f3 {w : World} {B : Nat} {t : TypeId} {cs : Array Value} (h : Holds w B t cs) : w.frozen? ⟨B, 0, none⟩ = false ∧ w.frozen? ⟨B, 1, none⟩ = false ∧ w.frozen? ⟨B, 2, none⟩ = false := ⟨h.frozen 0, h.frozen 1, h.frozen 2⟩
theorem Holds.c4 {w : World} {B : Nat} {t : TypeId} {a0 a1 a2 a3 : Value} {l : List Value} (h : Holds w B t (a0 :: a1 :: a2 :: a3 :: l).toArray) : w.cell? ⟨B, 0, none⟩ = some a0 ∧ w.cell? ⟨B, 1, none⟩ = some a1 ∧ w.cell? ⟨B, 2, none⟩ = some a2 ∧ w.cell? ⟨B, 3, none⟩ = some a3 := ⟨h.cell 0, h.cell 1, h.cell 2, h.cell 3⟩
theorem Holds.f4 {w : World} {B : Nat} {t : TypeId} {cs : Array Value} (h : Holds w B t cs) : w.frozen? ⟨B, 0, none⟩ = false ∧ w.frozen? ⟨B, 1, none⟩ = false ∧ w.frozen? ⟨B, 2, none⟩ = false ∧ w.frozen? ⟨B, 3, none⟩ = false := ⟨h.frozen 0, h.frozen 1, h.frozen 2, h.frozen 3⟩
theorem Holds.c5 {w : World} {B : Nat} {t : TypeId} {a0 a1 a2 a3 a4 : Value} {l : List Value} (h : Holds w B t (a0 :: a1 :: a2 :: a3 :: a4 :: l).toArray) : w.cell? ⟨B, 0, none⟩ = some a0 ∧ w.cell? ⟨B, 1, none⟩ = some a1 ∧ w.cell? ⟨B, 2, none⟩ = some a2 ∧ w.cell? ⟨B, 3, none⟩ = some a3 ∧ w.cell? ⟨B, 4, none⟩ = some a4 := ⟨h.cell 0, h.cell 1, h.cell 2, h.cell 3, h.cell 4⟩
theorem Holds.f5 {w : World} {B : Nat} {t : TypeId} {cs : Array Value} (h : Holds w B t cs) : w.frozen? ⟨B, 0, none⟩ = false ∧ w.frozen? ⟨B, 1, none⟩ = false ∧ w.frozen? ⟨B, 2, none⟩ = false ∧ w.frozen? ⟨B, 3, none⟩ = false ∧ w.frozen? ⟨B, 4, none⟩ = false := ⟨h.frozen 0, h.frozen 1, h.frozen 2, h.frozen 3, h.frozen 4⟩
theorem Holds.c7 {w : World} {B : Nat} {t : TypeId} {a0 a1 a2 a3 a4 a5 a6 : Value} {l : List Value} (h : Holds w B t (a0 :: a1 :: a2 :: a3 :: a4 :: a5 :: a6 :: l).toArray) : w.cell? ⟨B, 0, none⟩ = some a0 ∧ w.cell? ⟨B, 1, none⟩ = some a1 ∧ w.cell? ⟨B, 2, none⟩ = some a2 ∧ w.cell? ⟨B, 3, none⟩ = some a3 ∧ w.cell? ⟨B, 4, none⟩ = some a4 ∧ w.cell? ⟨B, 5, none⟩ = some a5 ∧ w.cell? ⟨B, 6, none⟩ = some a6 := ⟨h.cell 0, h.cell 1, h.cell 2, h.cell 3, h.cell 4, h.cell 5, h.cell 6⟩
theorem Holds.f7 {w : World} {B : Nat} {t : TypeId} {cs : Array Value} (h : Holds w B t cs) : w.frozen? ⟨B, 0, none⟩ = false ∧ w.frozen? ⟨B, 1, none⟩ = false ∧ w.frozen? ⟨B, 2, none⟩ = false ∧ w.frozen? ⟨B, 3, none⟩ = false ∧ w.frozen? ⟨B, 4, none⟩ = false ∧ w.frozen? ⟨B, 5, none⟩ = false ∧ w.frozen? ⟨B, 6, none⟩ = false := ⟨h.frozen 0, h.frozen 1, h.frozen 2, h.frozen 3, h.frozen 4, h.frozen 5, h.frozen 6⟩
theorem Holds.c8 {w : World} {B : Nat} {t : TypeId} {a0 a1 a2 a3 a4 a5 a6 a7 : Value} {l : List Value} (h : Holds w B t (a0 :: a1 :: a2 :: a3 :: a4 :: a5 :: a6 :: a7 :: l).toArray) : w.cell? ⟨B, 0, none⟩ = some a0 ∧ w.cell? ⟨B, 1, none⟩ = some a1 ∧ w.cell? ⟨B, 2, none⟩ = some a2 ∧ w.cell? ⟨B, 3, none⟩ = some a3 ∧ w.cell? ⟨B, 4, none⟩ = some a4 ∧ w.cell? ⟨B, 5, none⟩ = some a5 ∧ w.cell? ⟨B, 6, none⟩ = some a6 ∧ w.cell? ⟨B, 7, none⟩ = some a7 := ⟨h.cell 0, h.cell 1, h.cell 2, h.cell 3, h.cell 4, h.cell 5, h.cell 6, h.cell 7⟩
theorem Holds.f8 {w : World} {B : Nat} {t : TypeId} {cs : Array Value} (h : Holds w B t cs) : w.frozen? ⟨B, 0, none⟩ = false ∧ w.frozen? ⟨B, 1, none⟩ = false ∧ w.frozen? ⟨B, 2, none⟩ = false ∧ w.frozen? ⟨B, 3, none⟩ = false ∧ w.frozen? ⟨B, 4, none⟩ = false ∧ w.frozen? ⟨B, 5, none⟩ = false ∧ w.frozen? ⟨B, 6, none⟩ = false ∧ w.frozen? ⟨B, 7, none⟩ = false := ⟨h.frozen 0, h.frozen 1, h.frozen 2, h.frozen 3, h.frozen 4, h.frozen 5, h.frozen 6, h.frozen 7⟩
theorem Holds.up {w w' : World} {B : Nat} {t : TypeId} {cs : Array Value} (h : Holds w B t cs) (hb : Below w.heap.size w w') : Holds w' B t cs := (hb.block B h.lt).trans h
theorem Holds.new (w : World) (t : TypeId) (cs : Array Value) : Holds (w.alloc (.cells cs t)) w.heap.size t cs := by
 exact heap_alloc_new w _
theorem Holds.drew {w : World} {B : Nat} {t : TypeId} {cs : Array Value} (h : Holds w B t cs) : Holds w.drew B t cs := h
theorem Holds.alloc {w : World} {B : Nat} {t : TypeId} {cs : Array Value} (h : Holds w B t cs) (o : Obj) : Holds (w.alloc o) B t cs := h.up ((Below.refl _ _).alloc (Nat.le_refl _) o)
theorem Holds.set_ {w : World} {B : Nat} {t : TypeId} {cs : Array Value} (h : Holds w B t cs) (i : Nat) (u : Value) : Holds (w.setCell ⟨B, i, none⟩ u) B t (cs.setIfInBounds i u) := by
 unfold Holds at h ⊢
 simp [World.setCell, Array.getElem?_modify, h]
theorem Holds.far {w : World} {B : Nat} {t : TypeId} {cs : Array Value} (h : Holds w B t cs) {p : Addr} (hp : B ≠ p.block) (u : Value) : Holds (w.setCell p u) B t cs := (Below.heap_setCell w p u B hp).trans h
theorem up_cell {w w' : World} {p : Addr} {v : Value} (hb : Below w.heap.size w w') (h : w.cell? p = some v) : w'.cell? p = some v := (hb.cell (World.block_lt_of_cell? w p h)).trans h
theorem ret_cell {P : Program} {fn : Func} {p : Tmp} {ty : TypeId} (h : fn.results = #[.cell p ty]) {a : Act} {w : World} {g : Nat} {t : TypeId} {cs : Array Value} {d : TypeDesc} {R : Ending → World → Prop}
  (hp : a.tmps.getD p undef = .pointer (some ⟨g, 0, none⟩)) (hg : Holds w g t cs) (hu : P.underlying ty = some d) (hd : (match d with | .struct _ | .array _ _ => true | _ => false) = true)
  (hi : (P.info? ty).map (·.size) = some cs.size) (hdf : a.defers = []) (hR : R (.returned (.agg cs)) w) : bodyPost P fn R .ret a w :=
 bodyPost_ret (results_cell_row h _ w g t cs (0, 0) d hp hg hu hd hi) hdf hR
theorem ret_cell2 {P : Program} {fn : Func} {p u : Tmp} {ty : TypeId} (h : fn.results = #[.cell p ty, .tmp u]) {a : Act} {w : World} {g : Nat} {t : TypeId} {cs : Array Value} {d : TypeDesc} {R : Ending → World → Prop} {v : Value}
  (hp : a.tmps.getD p undef = .pointer (some ⟨g, 0, none⟩)) (hq : a.tmps.getD u undef = v) (hg : Holds w g t cs) (hu : P.underlying ty = some d) (hd : (match d with | .struct _ | .array _ _ => true | _ => false) = true)
  (hi : (P.info? ty).map (·.size) = some cs.size) (hdf : a.defers = []) (hR : R (.returned (.tuple #[.agg cs, v])) w) : bodyPost P fn R .ret a w :=
 bodyPost_ret (by rw [results_cell_tmp h, hp, hq]; simp [asAddr, run_loadVar_row w g t ty cs (0, 0) d hg hu hd hi]) hdf hR
theorem Holds.put {w : World} {B : Nat} {t : TypeId} {cs cs' : Array Value} {i : Nat} {u : Value} (h : Holds w B t cs) (e : cs.setIfInBounds i u = cs') : Holds (w.setCell ⟨B, i, none⟩ u) B t cs' := e ▸ h.set_ i u
theorem Holds.new' {B : Nat} (w : World) {t : TypeId} (cs : Array Value) (h : B = w.heap.size) : Holds (w.alloc (.cells cs t)) B t cs := h ▸ Holds.new w t cs
theorem nothing_any (w : World) :
  Calls Try.prog 102 #[] w fun e w' => e = .returned (.agg #[.int .i64 1, .int .i64 0]) ∧ Below w.heap.size w w' := by
 go_enter Try.func102, Try.ntmps102
 go_wp2
 exact ret_cell rfl rfl (Holds.new w _ _) Try.underlying60 rfl (by kernel_rfl) rfl ⟨rfl, zg⟩
set_option maxRecDepth 100000 in
theorem meet_any0 (a b c d : Int) (w : World) :
  Calls Try.prog 135 #[.agg #[.int .i64 a, .int .i64 b], .agg #[.int .i64 c, .int .i64 d]] w fun e w' =>
   e = .returned (.agg (if max a c > min b d then #[.int .i64 1, .int .i64 0] else #[.int .i64 (max a c), .int .i64 (min b d)])) ∧ Below w.heap.size w w' := by
 go_enter Try.func135, Try.ntmps135
 go_wp2_with fail
 refine wp_world (fun W => Below w.heap.size w W ∧ W.heap.size = w.heap.size + 1 + 1 + 1 ∧ Holds W w.heap.size 60 #[.int .i64 a, .int .i64 b] ∧ Holds W (w.heap.size + 1) 60 #[.int .i64 c, .int .i64 d] ∧
  Holds W (w.heap.size + 1 + 1) 60 #[.int .i64 0, .int .i64 0]) ?_ ?_
 ·refine ⟨zg, by go_simp, ((Holds.new w _ _).alloc _).alloc _, ?_, ?_⟩
  ·have := (Holds.new (w.alloc (.cells #[.int .i64 a, .int .i64 b] 60)) 60 #[.int .i64 c, .int .i64 d]).alloc (.cells #[.int .i64 0, .int .i64 0] 60)
   simpa using this
  ·have := Holds.new ((w.alloc (.cells #[.int .i64 a, .int .i64 b] 60)).alloc (.cells #[.int .i64 c, .int .i64 d] 60)) 60 #[.int .i64 0, .int .i64 0]
   simpa using this
 ·rintro W ⟨hb, hs, h1, h2, h3⟩
  rename_i Kc hKc
  refine wp_region_parts (by kernel_rfl) 13 [6, 7, 8, 9, 10, 11, 12, 13, 14, 15, 16, 17, 5] (fun t v w' => match t with
   | 6 => v = .pointer (some ⟨w.heap.size, 0, none⟩)
   | 7 => v = .int .i64 a
   | 8 => v = .pointer (some ⟨w.heap.size + 1, 0, none⟩)
   | 9 => v = .int .i64 c
   | 10 => ∃ B, v = .slice (some ⟨B, 0, none⟩) 1 1 ∧ Holds w' B 3 #[.int .i64 c]
   | 11 => v = .int .i64 (max a c)
   | 12 => v = .pointer (some ⟨w.heap.size, 1, none⟩)
   | 13 => v = .int .i64 b
   | 14 => v = .pointer (some ⟨w.heap.size + 1, 1, none⟩)
   | 15 => v = .int .i64 d
   | 16 => v = .int .i64 (min b d)
   | 17 => v = .agg #[.int .i64 (max a c), .int .i64 (min b d)]
   | 5 => ∃ B, v = .pointer (some ⟨B, 0, none⟩) ∧ W.heap.size ≤ B ∧ Holds w' B 60 #[.int .i64 0, .int .i64 0]
   | _ => True) (by kernel_rfl) ?_ ?_ ?_
  ·intro t v w1 w2 hb' h
   revert h
   split <;> intro h <;> first
    | exact h
    | (obtain ⟨b0, rfl, h0, h1⟩ := h; exact ⟨b0, rfl, h0, h1.up hb'⟩)
    | (obtain ⟨b0, rfl, h0⟩ := h; exact ⟨b0, rfl, h0.up hb'⟩)
  ·refine ⟨?_, ?_, ?_, ?_, ?_, ?_, ?_, ?_, ?_, ?_, ?_, ?_, ?_, trivial⟩
   ·intro x w1 hb1 hx K hK
    clear hx hKc
    obtain ⟨k1, k2⟩ := (h1.up hb1).c2
    obtain ⟨k3, k4⟩ := (h2.up hb1).c2
    simp only [frameOf, fill, sg, Nat.reduceBEq, if_true, if_false, Nat.reduceAdd, Nat.reduceEqDiff] at hK ⊢
    go_wp2_with (go_at_call 123; refine (greatest_one a c B10 _ (f10_0.cell 0)).mono ?_; rintro e w' ⟨rfl, rfl⟩)
    exact hK _ _ (Below.refl _ _) rfl
   ·intro x w1 hb1 hx K hK
    have e6 : x 6 = .pointer (some ⟨w.heap.size, 0, none⟩) := hx 6 (by rfl)
    clear hx hKc
    obtain ⟨k1, k2⟩ := (h1.up hb1).c2
    obtain ⟨k3, k4⟩ := (h2.up hb1).c2
    simp only [frameOf, fill, sg, Nat.reduceBEq, if_true, if_false, Nat.reduceAdd, Nat.reduceEqDiff] at hK ⊢
    simp only [e6] at hK ⊢
    clear e6
    go_wp2_with (go_at_call 123; refine (greatest_one a c B10 _ (f10_0.cell 0)).mono ?_; rintro e w' ⟨rfl, rfl⟩)
    exact hK _ _ (Below.refl _ _) rfl
   ·intro x w1 hb1 hx K hK
    clear hx hKc
    obtain ⟨k1, k2⟩ := (h1.up hb1).c2
    obtain ⟨k3, k4⟩ := (h2.up hb1).c2
    simp only [frameOf, fill, sg, Nat.reduceBEq, if_true, if_false, Nat.reduceAdd, Nat.reduceEqDiff] at hK ⊢
    go_wp2_with (go_at_call 123; refine (greatest_one a c B10 _ (f10_0.cell 0)).mono ?_; rintro e w' ⟨rfl, rfl⟩)
    exact hK _ _ (Below.refl _ _) rfl
   ·intro x w1 hb1 hx K hK
    have e8 : x 8 = .pointer (some ⟨w.heap.size + 1, 0, none⟩) := hx 8 (by rfl)
    clear hx hKc
    obtain ⟨k1, k2⟩ := (h1.up hb1).c2
    obtain ⟨k3, k4⟩ := (h2.up hb1).c2
    simp only [frameOf, fill, sg, Nat.reduceBEq, if_true, if_false, Nat.reduceAdd, Nat.reduceEqDiff] at hK ⊢
    simp only [e8] at hK ⊢
    clear e8
    go_wp2_with (go_at_call 123; refine (greatest_one a c B10 _ (f10_0.cell 0)).mono ?_; rintro e w' ⟨rfl, rfl⟩)
    exact hK _ _ (Below.refl _ _) rfl
   ·intro x w1 hb1 hx K hK
    have e9 : x 9 = .int .i64 c := hx 9 (by rfl)
    clear hx hKc
    obtain ⟨k1, k2⟩ := (h1.up hb1).c2
    obtain ⟨k3, k4⟩ := (h2.up hb1).c2
    simp only [frameOf, fill, sg, Nat.reduceBEq, if_true, if_false, Nat.reduceAdd, Nat.reduceEqDiff] at hK ⊢
    simp only [e9] at hK ⊢
    clear e9
    go_wp2_with (go_at_call 123; refine (greatest_one a c B10 _ (f10_0.cell 0)).mono ?_; rintro e w' ⟨rfl, rfl⟩)
    exact hK _ _ ((Below.refl _ _).alloc (Nat.le_refl _) _) ⟨_, rfl, Holds.new _ _ _⟩
   ·intro x w1 hb1 hx K hK
    have e7 : x 7 = .int .i64 a := hx 7 (by rfl)
    have e10 := hx 10 (by rfl)
    obtain ⟨B10, e10, f10_0⟩ := e10
    clear hx hKc
    obtain ⟨k1, k2⟩ := (h1.up hb1).c2
    obtain ⟨k3, k4⟩ := (h2.up hb1).c2
    simp only [frameOf, fill, sg, Nat.reduceBEq, if_true, if_false, Nat.reduceAdd, Nat.reduceEqDiff] at hK ⊢
    simp only [e7, e10] at hK ⊢
    clear e7 e10
    go_wp2_with (go_at_call 123; refine (greatest_one a c B10 _ (f10_0.cell 0)).mono ?_; rintro e w' ⟨rfl, rfl⟩)
    exact hK _ _ (Below.refl _ _) rfl
   ·intro x w1 hb1 hx K hK
    clear hx hKc
    obtain ⟨k1, k2⟩ := (h1.up hb1).c2
    obtain ⟨k3, k4⟩ := (h2.up hb1).c2
    simp only [frameOf, fill, sg, Nat.reduceBEq, if_true, if_false, Nat.reduceAdd, Nat.reduceEqDiff] at hK ⊢
    go_wp2_with (go_at_call 123; refine (greatest_one a c B10 _ (f10_0.cell 0)).mono ?_; rintro e w' ⟨rfl, rfl⟩)
    exact hK _ _ (Below.refl _ _) rfl
   ·intro x w1 hb1 hx K hK
    have e12 : x 12 = .pointer (some ⟨w.heap.size, 1, none⟩) := hx 12 (by rfl)
    clear hx hKc
    obtain ⟨k1, k2⟩ := (h1.up hb1).c2
    obtain ⟨k3, k4⟩ := (h2.up hb1).c2
    simp only [frameOf, fill, sg, Nat.reduceBEq, if_true, if_false, Nat.reduceAdd, Nat.reduceEqDiff] at hK ⊢
    simp only [e12] at hK ⊢
    clear e12
    go_wp2_with (go_at_call 123; refine (greatest_one a c B10 _ (f10_0.cell 0)).mono ?_; rintro e w' ⟨rfl, rfl⟩)
    exact hK _ _ (Below.refl _ _) rfl
   ·intro x w1 hb1 hx K hK
    clear hx hKc
    obtain ⟨k1, k2⟩ := (h1.up hb1).c2
    obtain ⟨k3, k4⟩ := (h2.up hb1).c2
    simp only [frameOf, fill, sg, Nat.reduceBEq, if_true, if_false, Nat.reduceAdd, Nat.reduceEqDiff] at hK ⊢
    go_wp2_with (go_at_call 123; refine (greatest_one a c B10 _ (f10_0.cell 0)).mono ?_; rintro e w' ⟨rfl, rfl⟩)
    exact hK _ _ (Below.refl _ _) rfl
   ·intro x w1 hb1 hx K hK
    have e14 : x 14 = .pointer (some ⟨w.heap.size + 1, 1, none⟩) := hx 14 (by rfl)
    clear hx hKc
    obtain ⟨k1, k2⟩ := (h1.up hb1).c2
    obtain ⟨k3, k4⟩ := (h2.up hb1).c2
    simp only [frameOf, fill, sg, Nat.reduceBEq, if_true, if_false, Nat.reduceAdd, Nat.reduceEqDiff] at hK ⊢
    simp only [e14] at hK ⊢
    clear e14
    go_wp2_with (go_at_call 123; refine (greatest_one a c B10 _ (f10_0.cell 0)).mono ?_; rintro e w' ⟨rfl, rfl⟩)
    exact hK _ _ (Below.refl _ _) rfl
   ·intro x w1 hb1 hx K hK
    have e13 : x 13 = .int .i64 b := hx 13 (by rfl)
    have e15 : x 15 = .int .i64 d := hx 15 (by rfl)
    clear hx hKc
    obtain ⟨k1, k2⟩ := (h1.up hb1).c2
    obtain ⟨k3, k4⟩ := (h2.up hb1).c2
    simp only [frameOf, fill, sg, Nat.reduceBEq, if_true, if_false, Nat.reduceAdd, Nat.reduceEqDiff] at hK ⊢
    simp only [e13, e15] at hK ⊢
    clear e13 e15
    go_wp2_with (go_at_call 123; refine (greatest_one a c B10 _ (f10_0.cell 0)).mono ?_; rintro e w' ⟨rfl, rfl⟩)
    all_goals exact hK _ _ (Below.refl _ _) (by simp; omega)
   ·intro x w1 hb1 hx K hK
    have e11 : x 11 = .int .i64 (max a c) := hx 11 (by rfl)
    have e16 : x 16 = .int .i64 (min b d) := hx 16 (by rfl)
    clear hx hKc
    obtain ⟨k1, k2⟩ := (h1.up hb1).c2
    obtain ⟨k3, k4⟩ := (h2.up hb1).c2
    simp only [frameOf, fill, sg, Nat.reduceBEq, if_true, if_false, Nat.reduceAdd, Nat.reduceEqDiff] at hK ⊢
    simp only [e11, e16] at hK ⊢
    clear e11 e16
    go_wp2_with (go_at_call 123; refine (greatest_one a c B10 _ (f10_0.cell 0)).mono ?_; rintro e w' ⟨rfl, rfl⟩)
    exact hK _ _ (Below.refl _ _) rfl
   ·intro x w1 hb1 hx K hK
    clear hx hKc
    obtain ⟨k1, k2⟩ := (h1.up hb1).c2
    obtain ⟨k3, k4⟩ := (h2.up hb1).c2
    simp only [frameOf, fill, sg, Nat.reduceBEq, if_true, if_false, Nat.reduceAdd, Nat.reduceEqDiff] at hK ⊢
    go_wp2_with (go_at_call 123; refine (greatest_one a c B10 _ (f10_0.cell 0)).mono ?_; rintro e w' ⟨rfl, rfl⟩)
    exact hK _ _ ((Below.refl _ _).alloc (Nat.le_refl _) _) ⟨_, rfl, hb1.size, Holds.new _ _ _⟩
  ·intro x w1 hb1 hx
   have e6 : x 6 = .pointer (some ⟨w.heap.size, 0, none⟩) := hx 6 (by decide)
   have e7 : x 7 = .int .i64 a := hx 7 (by decide)
   have e8 : x 8 = .pointer (some ⟨w.heap.size + 1, 0, none⟩) := hx 8 (by decide)
   have e9 : x 9 = .int .i64 c := hx 9 (by decide)
   have e10 := hx 10 (by decide)
   obtain ⟨B10, e10, f10_0⟩ := e10
   have e11 : x 11 = .int .i64 (max a c) := hx 11 (by decide)
   have e12 : x 12 = .pointer (some ⟨w.heap.size, 1, none⟩) := hx 12 (by decide)
   have e13 : x 13 = .int .i64 b := hx 13 (by decide)
   have e14 : x 14 = .pointer (some ⟨w.heap.size + 1, 1, none⟩) := hx 14 (by decide)
   have e15 : x 15 = .int .i64 d := hx 15 (by decide)
   have e16 : x 16 = .int .i64 (min b d) := hx 16 (by decide)
   have e17 : x 17 = .agg #[.int .i64 (max a c), .int .i64 (min b d)] := hx 17 (by decide)
   have e5 := hx 5 (by decide)
   obtain ⟨B5, e5, f5_0, f5_1⟩ := e5
   clear hx
   obtain ⟨k1, k2⟩ := (h1.up hb1).c2
   obtain ⟨k3, k4⟩ := (h2.up hb1).c2
   simp only [frameOf, fill, List.contains_cons, List.contains_nil, Nat.reduceBEq, Bool.or_false, Bool.false_or, Bool.or_true, Bool.true_or, if_true, if_false, Bool.false_eq_true, Nat.reduceAdd, Nat.zero_add]
   simp only [e6, e7, e8, e9, e10, e11, e12, e13, e14, e15, e16, e17, e5]
   clear e6 e7 e8 e9 e10 e11 e12 e13 e14 e15 e16 e17 e5
   obtain ⟨q0, q1⟩ := f5_1.c2
   have q2 := f5_1.frozen 0
   have q3 := f5_1.frozen 1
   have H4 : Holds w1 (w.heap.size + 1 + 1) 60 #[.int .i64 0, .int .i64 0] := h3.up hb1
   obtain ⟨q4, q5⟩ := H4.c2
   have q6 := H4.frozen 0
   have q7 := H4.frozen 1
   have hn : w.heap.size + 1 + 1 ≠ B5 := by omega
   have hn' : w.heap.size ≤ B5 := by omega
   have hB1 : Below w.heap.size w w1 := hb.trans (hb1.mono (by omega))
   clear hs h1 h2 h3 k1 k2 k3 k4
   by_cases hgt : max a c > min b d
   ·go_wp2_with (go_at_call 102; refine (nothing_any _).mono ?_; rintro e w2 ⟨rfl, hb2⟩; have H5 : Holds w2 (w.heap.size + 1 + 1) 60 #[.int .i64 0, .int .i64 0] := ((H4.far (p := ⟨B5, 0, none⟩) hn _).far (p := ⟨B5, 1, none⟩) hn _).up hb2; have z0 : w2.cell? ⟨w.heap.size + 1 + 1, 0, none⟩ = some (.int .i64 0) := H5.cell 0; have z1 : w2.cell? ⟨w.heap.size + 1 + 1, 1, none⟩ = some (.int .i64 0) := H5.cell 1; have z2 := H5.frozen 0; have z3 := H5.frozen 1; have hB2 : Below w.heap.size w w2 := ((hB1.setCell (p := ⟨B5, 0, none⟩) hn' _).setCell (p := ⟨B5, 1, none⟩) hn' _).trans (hb2.mono (by simpa using hB1.size)))
    refine ret_cell rfl rfl ((H5.set_ 0 _).set_ 1 _) Try.underlying60 rfl (by kernel_rfl) rfl ⟨rfl, zg⟩
   ·go_wp2_with fail
    refine ret_cell rfl rfl ((((H4.far (p := ⟨B5, 0, none⟩) hn _).far (p := ⟨B5, 1, none⟩) hn _).set_ 0 _).set_ 1 _) Try.underlying60 rfl (by kernel_rfl) rfl ⟨rfl, zg⟩
theorem meet_any (a b c d : Int) (w : World) :
  Calls Try.prog 135 #[.agg #[.int .i64 a, .int .i64 b], .agg #[.int .i64 c, .int .i64 d]] w fun e w' =>
   e = .returned (.agg #[.int .i64 (mLo a b c d), .int .i64 (mHi a b c d)]) ∧ Below w.heap.size w w' :=
 (meet_any0 a b c d w).mono fun e w' ⟨h1, h2⟩ => ⟨by rw [h1]; unfold mLo mHi; split <;> rfl, h2⟩
theorem Holds.setL {w : World} {B : Nat} {t : TypeId} {l : List Value} (h : Holds w B t l.toArray) (i : Nat) (u : Value) : Holds (w.setCell ⟨B, i, none⟩ u) B t (l.set i u).toArray := by
 have := h.set_ i u
 simpa using this
theorem Holds.putL {w : World} {B : Nat} {t : TypeId} {l l' : List Value} {i : Nat} {u : Value} (h : Holds w B t l.toArray) (e : l.set i u = l') : Holds (w.setCell ⟨B, i, none⟩ u) B t l'.toArray := e ▸ h.setL i u
theorem Holds.set2 {w : World} {B : Nat} {t : TypeId} {a0 a1 : Value} (u0 u1 : Value) (h : Holds w B t #[a0, a1]) : Holds ((w.setCell ⟨B, 0, none⟩ u0).setCell ⟨B, 1, none⟩ u1) B t #[u0, u1] := (h.setL 0 _).setL 1 _
theorem Holds.set4 {w : World} {B : Nat} {t : TypeId} {a0 a1 a2 a3 : Value} (u0 u1 u2 u3 : Value) (h : Holds w B t #[a0, a1, a2, a3]) :
  Holds ((((w.setCell ⟨B, 0, none⟩ u0).setCell ⟨B, 1, none⟩ u1).setCell ⟨B, 2, none⟩ u2).setCell ⟨B, 3, none⟩ u3) B t #[u0, u1, u2, u3] := (((h.setL 0 _).setL 1 _).setL 2 _).setL 3 _
theorem Holds.set8 {w : World} {B : Nat} {t : TypeId} {a0 a1 a2 a3 a4 a5 a6 a7 : Value} (u0 u1 u2 u3 u4 u5 u6 u7 : Value) (h : Holds w B t #[a0, a1, a2, a3, a4, a5, a6, a7]) :
  Holds ((((((((w.setCell ⟨B, 0, none⟩ u0).setCell ⟨B, 1, none⟩ u1).setCell ⟨B, 2, none⟩ u2).setCell ⟨B, 3, none⟩ u3).setCell ⟨B, 4, none⟩ u4).setCell ⟨B, 5, none⟩ u5).setCell ⟨B, 6, none⟩ u6).setCell ⟨B, 7, none⟩ u7) B t #[u0, u1, u2, u3, u4, u5, u6, u7] :=
 (((((((h.setL 0 _).setL 1 _).setL 2 _).setL 3 _).setL 4 _).setL 5 _).setL 6 _).setL 7 _
set_option maxRecDepth 100000 in
theorem anyParts_any (w : World) :
  Calls Try.prog 136 #[] w fun e w' =>
   e = .returned (.agg #[.int .i64 0, .int .i64 40, .int .i64 0, .int .i64 40, .int .i64 0, .int .i64 40, .int .i64 0, .int .i64 40]) ∧ Below w.heap.size w w' := by
 go_enter Try.func136, Try.ntmps136
 go_wp2
 (refine wp_loop_rounds 5 ?_; repeat any_goals (rw [rounds_succ]; go_wp2))
 refine ret_cell (t := 153) rfl rfl ?_ Try.underlying153 rfl (by kernel_rfl) rfl ⟨rfl, zg⟩
 (repeat first | (with_reducible first | assumption | apply Holds.set8 | apply Holds.set4 | apply Holds.putL | ((refine Holds.new' _ _ ?_); (simp; done)) | refine Holds.alloc ?_ _ | refine Holds.drew ?_ | refine Holds.far ?_ (by simp only [ne_eq]; omega) _) | rfl)
end Go.Proofs.Ytifffonoipapgaa
