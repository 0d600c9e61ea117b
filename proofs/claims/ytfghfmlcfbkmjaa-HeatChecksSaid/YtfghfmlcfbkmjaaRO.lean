/- Rows of cells: lists of things of q cells each, where a slice leads, and rows that a call owns. No Go in sight. -/
import Derived.Test.YtfghfmlcfbkmjaaBA
set_option linter.unusedSimpArgs false
set_option linter.unusedVariables false
namespace Go.Proofs.Ytfghfmlcfbkmjaa
open Go.RowKit

def within (n lo hi : Int) : Bool := decide (lo ≤ n) && decide (n ≤ hi)
theorem within_eq (n lo hi : Int) : within n lo hi = (decide (lo ≤ n) && decide (n ≤ hi)) := rfl
theorem flat_len {α : Type} (f : α → List Value) (q : Nat) (hf : ∀ x, (f x).length = q) (xs : List α) : (xs.flatMap f).length = xs.length * q := by
  induction xs with
  | nil => simp
  | cons a l ih => rw [List.flatMap_cons, List.length_append, ih, hf, List.length_cons, Nat.succ_mul]; omega
theorem flat_at {α : Type} (f : α → List Value) (q : Nat) (hf : ∀ x, (f x).length = q) (xs : List α) (k j : Nat) (x : α) (hx : xs[k]? = some x) (hj : j < q) : (xs.flatMap f)[k * q + j]? = (f x)[j]? := by
  induction xs generalizing k with
  | nil => cases hx
  | cons a l ih =>
    rw [List.flatMap_cons]
    cases k with
    | zero =>
      rw [List.getElem?_cons_zero] at hx
      cases hx
      rw [List.getElem?_append_left (by rw [hf]; omega)]
      simp
    | succ k =>
      rw [List.getElem?_cons_succ] at hx
      have e : (k + 1) * q = k * q + q := Nat.succ_mul k q
      rw [List.getElem?_append_right (by rw [hf, e]; omega), hf, show (k + 1) * q + j - q = k * q + j from by rw [e]; omega]
      exact ih k hx
/-- The things xs, each of q cells, lie where A leads. -/
def RowAt {α : Type} (f : α → List Value) (q : Nat) (w : World) (A : Option Addr) (xs : List α) : Prop :=
  0 < xs.length → ∃ B o, A = some ⟨B, o, none⟩ ∧ ∀ k x, xs[k]? = some x → ∀ j u, (f x)[j]? = some u → w.cell? ⟨B, o + k * q + j, none⟩ = some u
theorem RowAt.up {α : Type} {f : α → List Value} {q : Nat} {w w' : World} {A : Option Addr} {xs : List α} (h : RowAt f q w A xs) (hb : Below w.heap.size w w') : RowAt f q w' A xs := fun hn => by
  obtain ⟨B, o, e, hc⟩ := h hn
  exact ⟨B, o, e, fun k x hx j u hj => up_cell hb (hc k x hx j u hj)⟩
theorem RowAt.low {α : Type} {f : α → List Value} {q : Nat} {w w' : World} {B n o : Nat} {xs : List α} (h : RowAt f q w (some ⟨B, o, none⟩) xs) (hb : Below n w w') (hlt : B < n) : RowAt f q w' (some ⟨B, o, none⟩) xs := fun hn => by
  obtain ⟨B', o', e, hc⟩ := h hn
  cases e
  exact ⟨B, o, rfl, fun k x hx j u hj => (hb.cell (p := ⟨B, o + k * q + j, none⟩) hlt).trans (hc k x hx j u hj)⟩
theorem RowAt.nil {α : Type} (f : α → List Value) (q : Nat) (w : World) (A : Option Addr) : RowAt f q w A ([] : List α) := fun h => absurd h (Nat.lt_irrefl 0)
/-- A block of whole rows is a list. -/
theorem row_of {α : Type} {f : α → List Value} {q : Nat} (hf : ∀ x, (f x).length = q) {w : World} {B : Nat} {t : TypeId} {xs : List α} (h : Holds w B t (xs.flatMap f).toArray) : RowAt f q w (some ⟨B, 0, none⟩) xs := fun _ =>
  ⟨B, 0, rfl, fun k x hx j u hj => by
    have hlt : j < q := by have := (List.getElem?_eq_some_iff.1 hj).1; rwa [hf] at this
    rw [Nat.zero_add, h.cell, List.getElem?_toArray, flat_at f q hf xs k j x hx hlt]
    exact hj⟩
theorem row_flat {α : Type} {f : α → List Value} {q : Nat} (hf : ∀ x, (f x).length = q) (hq : 0 < q) {w : World} {B o : Nat} {xs : List α} (hc : RowAt f q w (some ⟨B, o, none⟩) xs) : ∀ j v, (xs.flatMap f)[j]? = some v → w.cell? ((⟨B, o, none⟩ : Addr).add j) = some v := by
  intro j v hj
  rw [Addr.add_mid]
  have hlt : j < xs.length * q := by rw [← flat_len f q hf xs]; exact (List.getElem?_eq_some_iff.1 hj).1
  have hk : j / q < xs.length := by rw [Nat.div_lt_iff_lt_mul hq]; exact hlt
  obtain ⟨B', o', e, hcell⟩ := hc (Nat.lt_of_le_of_lt (Nat.zero_le _) hk)
  cases e
  have hx : xs[j / q]? = some xs[j / q] := List.getElem?_eq_getElem hk
  have h5 : j % q < q := Nat.mod_lt _ hq
  have hqq := flat_at f q hf xs (j / q) (j % q) _ hx h5
  have ej : j / q * q + j % q = j := by rw [Nat.mul_comm]; exact Nat.div_add_mod j q
  rw [ej, hj] at hqq
  have := hcell _ _ hx (j % q) v hqq.symm
  rwa [show o + j / q * q + j % q = o + j from by omega] at this

theorem rowq_up {w w' : World} {B n q : Nat} {e : TypeId} {v : Value} {xs : List Value} (h : w.ownsRow B e q v n xs) (hb : Below w.heap.size w w') : w'.ownsRow B e q v n xs := by
  obtain ⟨hl, h | ⟨g, cap, cur, ev, hB, hg, r⟩⟩ := h
  · exact ⟨hl, .inl h⟩
  · exact ⟨hl, .inr ⟨g, cap, cur, ev, hB, (hb.block g (Array.getElem?_eq_some_iff.1 hg).1).trans hg, r⟩⟩
theorem rowq_far {w : World} {B n q : Nat} {e : TypeId} {v : Value} {xs : List Value} (h : w.ownsRow B e q v n xs) {p : Addr} (hp : p.block < B) (u : Value) : (w.setCell p u).ownsRow B e q v n xs := by
  obtain ⟨hl, h | ⟨g, cap, cur, ev, hB, hg, r⟩⟩ := h
  · exact ⟨hl, .inl h⟩
  · exact ⟨hl, .inr ⟨g, cap, cur, ev, hB, (Below.heap_setCell w p u g (by omega)).trans hg, r⟩⟩
theorem rowq_val {w : World} {B n q : Nat} {e : TypeId} {v : Value} {xs : List Value} (h : w.ownsRow B e q v n xs) : ∃ A c, v = .slice A n c ∧ n ≤ c ∧ (A = none → n = 0 ∧ c = 0) ∧ (0 < n → ∃ g, A = some ⟨g, 0, none⟩ ∧ B ≤ g ∧ ∀ j u, xs[j]? = some u → w.cell? ⟨g, j, none⟩ = some u) := by
  obtain ⟨hl, ⟨rfl, rfl⟩ | ⟨g, cap, cur, rfl, hB, hg, hn, _, hsz, ht⟩⟩ := h
  · exact ⟨none, 0, rfl, Nat.le_refl _, fun _ => ⟨rfl, rfl⟩, fun h => absurd h (Nat.lt_irrefl 0)⟩
  · refine ⟨_, cap, rfl, hn, (fun h => by cases h), fun _ => ⟨g, rfl, hB, fun j u hj => ?_⟩⟩
    have hlt : j < xs.length := (List.getElem?_eq_some_iff.1 hj).1
    rw [← ht, List.getElem?_take, if_pos (by omega)] at hj
    simp only [World.cell?, hg, Option.bind_some]
    simpa using hj
theorem rowq_mono {w : World} {B B' n q : Nat} {e : TypeId} {v : Value} {xs : List Value} (h : w.ownsRow B e q v n xs) (hb : B' ≤ B) : w.ownsRow B' e q v n xs := by
  obtain ⟨hl, h | ⟨g, cap, cur, ev, hB, r⟩⟩ := h
  · exact ⟨hl, .inl h⟩
  · exact ⟨hl, .inr ⟨g, cap, cur, ev, Nat.le_trans hb hB, r⟩⟩
theorem rowq_at {w : World} {B n q : Nat} {e : TypeId} {v : Value} {xs : List Value} (h : w.ownsRow B e q v n xs) {b : Nat} {t : TypeId} {cs : Array Value} (s : Holds w b t cs) (ht : t ≠ e) : v.ownBlock ≠ some b := by
  intro hb
  obtain ⟨_, ⟨rfl, _⟩ | ⟨g, cap, cur, rfl, _, hg, _⟩⟩ := h
  · cases hb
  · cases hb; have := s.symm.trans hg; simp at this; first | exact ht this.2 | exact ht this.2.1
theorem row_own {α : Type} {f : α → List Value} {q : Nat} (hf : ∀ x, (f x).length = q) {w : World} {B : Nat} {e : TypeId} {v : Value} {xs : List α} (h : w.ownsRow B e q v xs.length (xs.flatMap f)) : ∃ A c, v = .slice A xs.length c ∧ xs.length ≤ c ∧ (A = none → xs.length = 0 ∧ c = 0) ∧ RowAt f q w A xs := by
  obtain ⟨A, c, rfl, hc, hnil, hat⟩ := rowq_val h
  refine ⟨A, c, rfl, hc, hnil, fun hp => ?_⟩
  obtain ⟨g, rfl, _, hcell⟩ := hat hp
  refine ⟨g, 0, rfl, fun k x hx j u hj => ?_⟩
  have hlt : j < q := by have := (List.getElem?_eq_some_iff.1 hj).1; rwa [hf] at this
  rw [Nat.zero_add]
  exact hcell _ _ ((flat_at f q hf xs k j x hx hlt).trans hj)
theorem row_take {α : Type} {f : α → List Value} {q i : Nat} {w : World} {B : Nat} {e : TypeId} {v : Value} {xs : List α} {y : α} (hy : xs[i]? = some y) (h : w.ownsRow B e q v (i + 1) ((xs.take i).flatMap f ++ f y)) : w.ownsRow B e q v (i + 1) ((xs.take (i + 1)).flatMap f) := by
  have e : xs.take (i + 1) = xs.take i ++ [y] := by rw [List.take_add_one, hy]; rfl
  rw [e, List.flatMap_append]
  simpa using h

/-- The numbers xs lie where A leads. -/
def IntsAt (w : World) (A : Option Addr) (xs : List Int) : Prop :=
  0 < xs.length → ∃ B o, A = some ⟨B, o, none⟩ ∧ ∀ (k : Nat) (x : Int), xs[k]? = some x → w.cell? ⟨B, o + k, none⟩ = some (.int .i64 x)
theorem IntsAt.up {w w' : World} {A : Option Addr} {xs : List Int} (h : IntsAt w A xs) (hb : Below w.heap.size w w') : IntsAt w' A xs := fun hn => by
  obtain ⟨B, o, e, hc⟩ := h hn
  exact ⟨B, o, e, fun k x hx => up_cell hb (hc k x hx)⟩
theorem ret_two {P : Program} {fn : Func} {p q : Tmp} (h : fn.results = #[.tmp p, .tmp q]) {a : Act} {w : World} {R : Ending → World → Prop} (hdf : a.defers = [])
    (hR : R (.returned (.tuple #[a.tmps.getD p undef, a.tmps.getD q undef])) w) : bodyPost P fn R .ret a w :=
  bodyPost_ret (results_tmp2 h _ _ _) hdf hR
end Go.Proofs.Ytfghfmlcfbkmjaa
