/- The frame behind a region whose slots stand in a row: cheap to write out. No program in sight. -/
import Derived.Test.YtfghfmlcfbkmjaaRW
set_option linter.unusedSimpArgs false
set_option linter.unusedVariables false
namespace Go.Proofs.Ytfghfmlcfbkmjaa
open Go.RowKit

theorem fill_append (ds : List Nat) (x : Nat → Value) : ∀ (l r : List Value) (t : Nat), fill ds x t (l ++ r) = fill ds x t l ++ fill ds x (t + l.length) r
  | [], r, t => by simp [fill]
  | v :: l, r, t => by
    simp only [List.cons_append, fill, fill_append ds x l r (t + 1), List.length_cons]
    rw [show t + 1 + l.length = t + (l.length + 1) by omega]
theorem fill_out (ds : List Nat) (x : Nat → Value) : ∀ (l : List Value) (t : Nat), (∀ i, t ≤ i → i < t + l.length → ds.contains i = false) → fill ds x t l = l
  | [], t, _ => rfl
  | v :: l, t, h => by
    have h0 := h t (Nat.le_refl _) (by simp)
    simp only [fill, h0, Bool.false_eq_true, if_false]
    rw [fill_out ds x l (t + 1) (fun i h1 h2 => h i (by omega) (by simp; omega))]
theorem fill_in (ds : List Nat) (x : Nat → Value) : ∀ (l : List Value) (t : Nat), (∀ i, t ≤ i → i < t + l.length → ds.contains i = true) → fill ds x t l = (List.range' t l.length).map x
  | [], t, _ => rfl
  | v :: l, t, h => by
    have h0 := h t (Nat.le_refl _) (by simp)
    simp only [fill, h0, if_true, List.length_cons, List.range'_succ, List.map_cons]
    rw [fill_in ds x l (t + 1) (fun i h1 h2 => h i (by omega) (by simp; omega))]
theorem frameOf_run {ds : List Nat} (a n : Nat) (hds : ds = List.range' a n) (x : Nat → Value) (l : List Value) (df : _) (hl : decide (a + n ≤ l.length) = true) :
    frameOf ds x ⟨l.toArray, df⟩ = ⟨(l.take a ++ ((List.range' a n).map x ++ l.drop (a + n))).toArray, df⟩ := by
  have hl' : a + n ≤ l.length := by simpa using hl
  subst hds
  have e : l = l.take a ++ ((l.drop a).take n ++ l.drop (a + n)) := by
    rw [show l.drop (a + n) = (l.drop a).drop n by simp [List.drop_drop], List.take_append_drop, List.take_append_drop]
  unfold frameOf
  simp only
  congr 2
  conv => lhs; rw [e]
  have l1 : (l.take a).length = a := by simp; omega
  have l2 : ((l.drop a).take n).length = n := by simp; omega
  have c : ∀ i, (List.range' a n).contains i = (decide (a ≤ i) && decide (i < a + n)) := by
    intro i
    rw [Bool.eq_iff_iff, List.contains_iff_mem, List.mem_range'_1]
    simp
  rw [fill_append, fill_append, l1, l2, fill_out _ _ (l.take a) 0 (fun i h1 h2 => by rw [c]; simp; omega),
    fill_in _ _ ((l.drop a).take n) (0 + a) (fun i h1 h2 => by rw [c]; simp; omega), fill_out _ _ (l.drop (a + n)) _ (fun i h1 h2 => by rw [c]; simp; omega), l2, Nat.zero_add]
section
variable {P : Program} {ops : Array Oper} {Q : Exit → Act → World → Prop}
/-- The frame with its slots from a on, written out. -/
def runOf (a n : Nat) (x : Nat → Value) (l : List Value) : Array Value := (l.take a ++ ((List.range' a n).map x ++ l.drop (a + n))).toArray
theorem wp_region_partsR {id : Nat} {l : List Value} {df : _} {w0 : World} (a n : Nat) (hm : P.follows .mixedOrders = true) (ds : List (Option Nat)) (V : Nat → (Nat → Value) → World → Prop) (uses : List (List Nat)) (dead : List (Nat × Nat)) (Base : World → Prop)
    (hok : partsOkW ops ds uses dead l.length = true) (hds : slotsOf ds = List.range' a n) (hl : decide (a + n ≤ l.length) = true)
    (hx : ∀ j x x' w, (∀ t ∈ uses.getD j [], x t = x' t) → V j x w → V j x' w)
    (hV : ∀ j x w w', Below w.heap.size w w' → V j x w → V j x w')
    (hB : ∀ w w', Below w.heap.size w w' → Base w → Base w') (h0 : Base w0) (h00 : ∀ j, ops.size ≤ j → V j (fun t => l.toArray.getD t undef) w0)
    (hstep : Each (fun i o => ∀ (x : Nat → Value) (w : World), Base w → (∀ j, (waits o j || decide (ops.size ≤ j)) = true → safe ops dead i j = true → V j x w) →
      ∀ K : Act → World → Prop, (∀ v w', (Below w.heap.size w w' ∨ Base w' ∧ ∀ j x, dead.contains (i, j) = false → j ≠ i → V j x w → V j x w') → V i (setSlot x (ds.getD i none) v) w' → K ⟨runOf a n (setSlot x (ds.getD i none) v) l, df⟩ w') →
        wpList P ops (Thence Q K) [o] ⟨runOf a n x l, df⟩ w) 0 ops.toList)
    (hend : ∀ (x : Nat → Value) (w : World), Base w → (∀ j, (∀ i, i < ops.size → dead.contains (i, j) = false) → V j x w) → Q .normal ⟨runOf a n x l, df⟩ w) :
    (Code.region id ops true).wp P Q ⟨l.toArray, df⟩ w0 := by
  have e : ∀ x, frameOf (slotsOf ds) x ⟨l.toArray, df⟩ = ⟨runOf a n x l, df⟩ := fun x => frameOf_run a n hds x l df hl
  refine wp_region_partsW hm ds V uses dead Base (by simpa using hok) hx hV hB h0 h00 ?_ ?_
  · simp only [e]; exact hstep
  · simp only [e]; exact hend
end
end Go.Proofs.Ytfghfmlcfbkmjaa
