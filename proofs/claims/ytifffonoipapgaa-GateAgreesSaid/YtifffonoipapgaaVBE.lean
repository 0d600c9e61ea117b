
import Derived.Test.YtifffonoipapgaaVAA
import Derived.Test.YtifffonoipapgaaVAC
import Derived.Test.YtifffonoipapgaaVAN
import Derived.Test.YtifffonoipapgaaVBD
set_option linter.unusedSimpArgs false
set_option linter.unusedVariables false
namespace Go.Proofs.Ytifffonoipapgaa
open Go.RowKit
def Hf.cells (h : Hf) : List Value := [.int .i64 h.spot, .int .i64 h.g0, .int .i64 h.g1, .int .i64 h.g2, .int .i64 h.g3]
def Gr.cells (g : Gr) : List Value := [.int .i64 g.corn, .int .i64 g.chaff, .int .i64 g.stones, .int .i64 g.damp, .int .i64 g.price]
theorem flat_len {α : Type} (f : α → List Value) (hf : ∀ x, (f x).length = 5) (xs : List α) : (xs.flatMap f).length = xs.length * 5 := by
 induction xs with
 | nil => rfl
 | cons a l ih => rw [List.flatMap_cons, List.length_append, ih, hf, List.length_cons]; omega
theorem flat_at {α : Type} (f : α → List Value) (hf : ∀ x, (f x).length = 5) (xs : List α) (k j : Nat) (x : α) (hx : xs[k]? = some x) (hj : j < 5) : (xs.flatMap f)[k * 5 + j]? = (f x)[j]? := by
 induction xs generalizing k with
 | nil => cases hx
 | cons a l ih =>
  rw [List.flatMap_cons]
  cases k with
  | zero =>
   rw [List.getElem?_cons_zero] at hx
   cases hx
   rw [List.getElem?_append_left (by rw [hf]; omega)]
   simp
  | succ k =>
   rw [List.getElem?_cons_succ] at hx
   rw [List.getElem?_append_right (by rw [hf]; omega), hf, show (k + 1) * 5 + j - 5 = k * 5 + j from by omega]
   exact ih k hx
def OwnHands (w : World) (B : Nat) (v : Value) (hs : List Hf) : Prop := w.ownsRow B 30 5 v hs.length (hs.flatMap Hf.cells)
def OwnGrades (w : World) (B : Nat) (v : Value) (gs : List Gr) : Prop := w.ownsRow B 128 5 v gs.length (gs.flatMap Gr.cells)
theorem row5_up {w w' : World} {B n : Nat} {e : TypeId} {v : Value} {xs : List Value} (h : w.ownsRow B e 5 v n xs) (hb : Below w.heap.size w w') : w'.ownsRow B e 5 v n xs := by
 obtain ⟨hl, h | ⟨g, cap, cur, ev, hB, hg, r⟩⟩ := h
 ·exact ⟨hl, .inl h⟩
 ·exact ⟨hl, .inr ⟨g, cap, cur, ev, hB, (hb.block g (Array.getElem?_eq_some_iff.1 hg).1).trans hg, r⟩⟩
theorem row5_far {w : World} {B n : Nat} {e : TypeId} {v : Value} {xs : List Value} (h : w.ownsRow B e 5 v n xs) {p : Addr} (hp : p.block < B) (u : Value) : (w.setCell p u).ownsRow B e 5 v n xs := by
 obtain ⟨hl, h | ⟨g, cap, cur, ev, hB, hg, r⟩⟩ := h
 ·exact ⟨hl, .inl h⟩
 ·exact ⟨hl, .inr ⟨g, cap, cur, ev, hB, (Below.heap_setCell w p u g (by omega)).trans hg, r⟩⟩
theorem row5_val {w : World} {B n : Nat} {e : TypeId} {v : Value} {xs : List Value} (h : w.ownsRow B e 5 v n xs) : ∃ A c, v = .slice A n c ∧ n ≤ c ∧ (0 < n → ∃ g, A = some ⟨g, 0, none⟩ ∧ B ≤ g ∧ ∀ j u, xs[j]? = some u → w.cell? ⟨g, j, none⟩ = some u) := by
 obtain ⟨hl, ⟨rfl, rfl⟩ | ⟨g, cap, cur, rfl, hB, hg, hn, _, hsz, ht⟩⟩ := h
 ·exact ⟨none, 0, rfl, Nat.le_refl _, fun h => absurd h (Nat.lt_irrefl 0)⟩
 ·refine ⟨_, cap, rfl, hn, fun _ => ⟨g, rfl, hB, fun j u hj => ?_⟩⟩
  have hlt : j < xs.length := (List.getElem?_eq_some_iff.1 hj).1
  rw [← ht, List.getElem?_take, if_pos (by omega)] at hj
  simp only [World.cell?, hg, Option.bind_some]
  simpa using hj
theorem row5_block {w : World} {B n : Nat} {e : TypeId} {v : Value} {xs : List Value} (h : w.ownsRow B e 5 v n xs) : ∀ k, v.ownBlock = some k → B ≤ k := by
 obtain ⟨_, ⟨rfl, rfl⟩ | ⟨g, cap, cur, rfl, hB, _⟩⟩ := h
 ·intro k hk; cases hk
 ·intro k hk; cases hk; exact hB
theorem OwnHands.up {w w' : World} {B : Nat} {v : Value} {hs : List Hf} (h : OwnHands w B v hs) (hb : Below w.heap.size w w') : OwnHands w' B v hs := row5_up h hb
theorem OwnGrades.up {w w' : World} {B : Nat} {v : Value} {gs : List Gr} (h : OwnGrades w B v gs) (hb : Below w.heap.size w w') : OwnGrades w' B v gs := row5_up h hb
theorem OwnHands.far {w : World} {B : Nat} {v : Value} {hs : List Hf} (h : OwnHands w B v hs) {p : Addr} (hp : p.block < B) (u : Value) : OwnHands (w.setCell p u) B v hs := row5_far h hp u
theorem OwnGrades.far {w : World} {B : Nat} {v : Value} {gs : List Gr} (h : OwnGrades w B v gs) {p : Addr} (hp : p.block < B) (u : Value) : OwnGrades (w.setCell p u) B v gs := row5_far h hp u
theorem OwnHands.nil (w : World) (B : Nat) : OwnHands w B (.slice none 0 0) [] := ⟨rfl, .inl ⟨rfl, rfl⟩⟩
theorem OwnGrades.nil (w : World) (B : Nat) : OwnGrades w B (.slice none 0 0) [] := ⟨rfl, .inl ⟨rfl, rfl⟩⟩
theorem OwnHands.snoc {w : World} {B : Nat} {v : Value} {hs : List Hf} {h : Hf} (hr : w.ownsRow B 30 5 v (hs.length + 1) (hs.flatMap Hf.cells ++ h.cells)) : OwnHands w B v (hs ++ [h]) := by
 unfold OwnHands
 simpa using hr
theorem OwnGrades.snoc {w : World} {B : Nat} {v : Value} {gs : List Gr} {g : Gr} (hr : w.ownsRow B 128 5 v (gs.length + 1) (gs.flatMap Gr.cells ++ g.cells)) : OwnGrades w B v (gs ++ [g]) := by
 unfold OwnGrades
 simpa using hr
theorem OwnHands.at_ {w : World} {B : Nat} {v : Value} {hs : List Hf} (h : OwnHands w B v hs) : ∃ A c, v = .slice A hs.length c ∧ hs.length ≤ c ∧ HandsAt w A hs := by
 obtain ⟨A, c, rfl, hc, hat⟩ := row5_val h
 refine ⟨A, c, rfl, hc, fun hp => ?_⟩
 obtain ⟨g, rfl, _, hcell⟩ := hat hp
 refine ⟨g, 0, rfl, fun k x hx => ?_⟩
 have hq := fun j hj => hcell (k * 5 + j) _ ((flat_at Hf.cells (fun _ => rfl) hs k j x hx hj).trans (List.getElem?_eq_getElem (l := x.cells) (i := j) hj))
 simp only [Nat.zero_add]
 exact ⟨hq 0 (by decide), hq 1 (by decide), hq 2 (by decide), hq 3 (by decide), hq 4 (by decide)⟩
theorem OwnGrades.at_ {w : World} {B : Nat} {v : Value} {gs : List Gr} (h : OwnGrades w B v gs) : ∃ A c, v = .slice A gs.length c ∧ gs.length ≤ c ∧ GradesAt w A gs := by
 obtain ⟨A, c, rfl, hc, hat⟩ := row5_val h
 refine ⟨A, c, rfl, hc, fun hp => ?_⟩
 obtain ⟨g, rfl, _, hcell⟩ := hat hp
 refine ⟨g, 0, rfl, fun k x hx => ?_⟩
 have hq := fun j hj => hcell (k * 5 + j) _ ((flat_at Gr.cells (fun _ => rfl) gs k j x hx hj).trans (List.getElem?_eq_getElem (l := x.cells) (i := j) hj))
 simp only [Nat.zero_add]
 exact ⟨hq 0 (by decide), hq 1 (by decide), hq 2 (by decide), hq 3 (by decide), hq 4 (by decide)⟩
theorem Holds.low {w w' : World} {B n : Nat} {t : TypeId} {cs : Array Value} (h : Holds w B t cs) (hb : Below n w w') (hlt : B < n) : Holds w' B t cs := (hb.block B hlt).trans h
theorem hands_of {w : World} {B : Nat} {t : TypeId} {hs : List Hf} (h : Holds w B t (hs.flatMap Hf.cells).toArray) : HandsAt w (some ⟨B, 0, none⟩) hs := fun _ => by
 refine ⟨B, 0, rfl, fun k x hx => ?_⟩
 have hq : ∀ j (hj : j < 5), w.cell? ⟨B, k * 5 + j, none⟩ = some (x.cells[j]'hj) := fun j hj => by
  rw [h.cell, List.getElem?_toArray, flat_at Hf.cells (fun _ => rfl) hs k j x hx hj]
  exact List.getElem?_eq_getElem (l := x.cells) (i := j) hj
 simp only [Nat.zero_add]
 exact ⟨hq 0 (by decide), hq 1 (by decide), hq 2 (by decide), hq 3 (by decide), hq 4 (by decide)⟩
theorem grades_of {w : World} {B : Nat} {t : TypeId} {gs : List Gr} (h : Holds w B t (gs.flatMap Gr.cells).toArray) : GradesAt w (some ⟨B, 0, none⟩) gs := fun _ => by
 refine ⟨B, 0, rfl, fun k x hx => ?_⟩
 have hq : ∀ j (hj : j < 5), w.cell? ⟨B, k * 5 + j, none⟩ = some (x.cells[j]'hj) := fun j hj => by
  rw [h.cell, List.getElem?_toArray, flat_at Gr.cells (fun _ => rfl) gs k j x hx hj]
  exact List.getElem?_eq_getElem (l := x.cells) (i := j) hj
 simp only [Nat.zero_add]
 exact ⟨hq 0 (by decide), hq 1 (by decide), hq 2 (by decide), hq 3 (by decide), hq 4 (by decide)⟩
theorem results_cells {fn : Func} {p q : Tmp} {ty uy : TypeId} (h : fn.results = #[.cell p ty, .cell q uy]) (tmps : Array Value) (P : Program) (w : World) :
  (results fn tmps).run P w =
   ((asAddr (tmps.getD p undef)).run P w).andThen fun a w₁ => ((loadVar ty a).run P w₁).andThen fun v w₂ => ((asAddr (tmps.getD q undef)).run P w₂).andThen fun b w₃ => ((loadVar uy b).run P w₃).andThen fun u w₄ => .ok (.tuple #[v, u]) w₄ := by
 simp only [results, h]
 simp [Sem.run_bind, Result.andThen]
theorem ret_cells {P : Program} {fn : Func} {p q : Tmp} {ty uy : TypeId} (h : fn.results = #[.cell p ty, .cell q uy]) {a : Act} {w : World} {g g' : Nat} {t t' : TypeId} {cs cs' : Array Value} {d d' : TypeDesc} {R : Ending → World → Prop}
  (hp : a.tmps.getD p undef = .pointer (some ⟨g, 0, none⟩)) (hg : Holds w g t cs) (hu : P.underlying ty = some d) (hd : (match d with | .struct _ | .array _ _ => true | _ => false) = true)
  (hi : (P.info? ty).map (·.size) = some cs.size)
  (hq : a.tmps.getD q undef = .pointer (some ⟨g', 0, none⟩)) (hg' : Holds w g' t' cs') (hu' : P.underlying uy = some d') (hd' : (match d' with | .struct _ | .array _ _ => true | _ => false) = true)
  (hi' : (P.info? uy).map (·.size) = some cs'.size) (hdf : a.defers = []) (hR : R (.returned (.tuple #[.agg cs, .agg cs'])) w) : bodyPost P fn R .ret a w :=
 bodyPost_ret (by rw [results_cells h, hp, hq]; simp [asAddr, Result.andThen, run_loadVar_row w g t ty cs (0, 0) d hg hu hd hi, run_loadVar_row w g' t' uy cs' (0, 0) d' hg' hu' hd' hi']) hdf hR
theorem info_hand : (Try.prog.info? 30).map (fun i => (i.zero, i.size, i.bytes)) = some (some (.agg #[.int .i64 0, .int .i64 0, .int .i64 0, .int .i64 0, .int .i64 0]), 5, 40) := by kernel_rfl
theorem und_hands : Try.prog.underlying 25 = some (.slice 30) := by kernel_rfl
theorem info_grade : (Try.prog.info? 128).map (fun i => (i.zero, i.size, i.bytes)) = some (some (.agg #[.int .i64 0, .int .i64 0, .int .i64 0, .int .i64 0, .int .i64 0]), 5, 40) := by kernel_rfl
end Go.Proofs.Ytifffonoipapgaa
