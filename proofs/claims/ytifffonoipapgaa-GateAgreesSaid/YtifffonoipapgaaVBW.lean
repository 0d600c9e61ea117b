import Derived.Deep.SlicePairs
import Derived.Lib.SmallJoins
import Derived.OpenShut
import Derived.Deep.CutRange
import Derived.Test.YtifffonoipapgaaVAA
import Derived.Test.YtifffonoipapgaaVAC
import Derived.Test.YtifffonoipapgaaVBR
import Derived.Test.YtifffonoipapgaaVBT
import Derived.Test.YtifffonoipapgaaVBU
import Derived.Test.YtifffonoipapgaaVBV
set_option linter.unusedSimpArgs false
set_option linter.unusedVariables false
namespace Go.Proofs.Ytifffonoipapgaa
open Go.RowKit
theorem trod_one {H : Type} {enc : TypeId × Value → H} {w : World} {base : Nat} {spare : Nat → Bool} {held : Bool} {fuel : Nat} {v : Value} {y : DataW H × List MemPlace} (h : DataW.trod enc Try.prog w base spare held fuel 3 [v] = some y) : ∃ n, v = .int .i64 n := by
 obtain ⟨n, e, _⟩ := DataW.trod_int Try.underlying3 h
 cases e
 exact ⟨n, rfl⟩
theorem cells_int : Try.prog.cellsOf 3 = 1 := by kernel_rfl
theorem cells_four : Try.prog.cellsOf 28 = 4 := by kernel_rfl
theorem cells_grade : Try.prog.cellsOf 128 = 5 := by kernel_rfl
theorem cells_hand : Try.prog.cellsOf 30 = 5 := by kernel_rfl
theorem list5 {α : Type} {l : List α} (h : l.length = 5) : ∃ a b c d e, l = [a, b, c, d, e] := by
 match l, h with
 | [a, b, c, d, e], _ => exact ⟨a, b, c, d, e, rfl⟩
theorem list4 {α : Type} {l : List α} (h : l.length = 4) : ∃ a b c d, l = [a, b, c, d] := by
 match l, h with
 | [a, b, c, d], _ => exact ⟨a, b, c, d, rfl⟩
theorem list2 {α : Type} {l : List α} (h : l.length = 2) : ∃ a b, l = [a, b] := by
 match l, h with
 | [a, b], _ => exact ⟨a, b, rfl⟩
theorem open_grade {H : Type} {enc : TypeId × Value → H} {w : World} {base : Nat} {spare : Nat → Bool} {held : Bool} {fuel : Nat} {cs : List Value} {x : DataW H × List MemPlace} (h : DataW.trod enc Try.prog w base spare held fuel 128 cs = some x) : ∃ g : Gr, cs = g.cells := by
 obtain ⟨xs, n, _, _, hl, hxl, hf⟩ := DataW.trod_struct Try.underlying128 h
 rw [cells_grade] at hl
 obtain ⟨v0, v1, v2, v3, v4, rfl⟩ := list5 hl
 obtain ⟨y0, y1, y2, y3, y4, rfl⟩ := list5 hxl
 have g0 := hf 0 _ rfl
 have g1 := hf 1 _ rfl
 have g2 := hf 2 _ rfl
 have g3 := hf 3 _ rfl
 have g4 := hf 4 _ rfl
 simp [cells_int] at g0 g1 g2 g3 g4
 obtain ⟨a0, rfl⟩ := trod_one g0
 obtain ⟨a1, rfl⟩ := trod_one g1
 obtain ⟨a2, rfl⟩ := trod_one g2
 obtain ⟨a3, rfl⟩ := trod_one g3
 obtain ⟨a4, rfl⟩ := trod_one g4
 exact ⟨⟨a0, a1, a2, a3, a4⟩, rfl⟩
theorem open_hand {H : Type} {enc : TypeId × Value → H} {w : World} {base : Nat} {spare : Nat → Bool} {held : Bool} {fuel : Nat} {cs : List Value} {x : DataW H × List MemPlace} (h : DataW.trod enc Try.prog w base spare held fuel 30 cs = some x) : ∃ g : Hf, cs = g.cells := by
 obtain ⟨xs, n, _, _, hl, hxl, hf⟩ := DataW.trod_struct Try.underlying30 h
 rw [cells_hand] at hl
 obtain ⟨v0, v1, v2, v3, v4, rfl⟩ := list5 hl
 obtain ⟨y0, y1, rfl⟩ := list2 hxl
 have g0 := hf 0 _ rfl
 have g1 := hf 1 _ rfl
 simp [cells_int, cells_four] at g0 g1
 obtain ⟨a0, rfl⟩ := trod_one g0
 obtain ⟨zs, m, _, _, _, hzl, hz⟩ := DataW.trod_array Try.underlying28 g1
 obtain ⟨z0, z1, z2, z3, rfl⟩ := list4 hzl
 have k0 := hz 0 (by decide)
 have k1 := hz 1 (by decide)
 have k2 := hz 2 (by decide)
 have k3 := hz 3 (by decide)
 simp [cells_int] at k0 k1 k2 k3
 obtain ⟨a1, rfl⟩ := trod_one k0
 obtain ⟨a2, rfl⟩ := trod_one k1
 obtain ⟨a3, rfl⟩ := trod_one k2
 obtain ⟨a4, rfl⟩ := trod_one k3
 exact ⟨⟨a0, a1, a2, a3, a4⟩, rfl⟩
theorem list_of {α : Type} {n : Nat} {p : Nat → α → Prop} (h : ∀ i, i < n → ∃ x, p i x) : ∃ xs : List α, xs.length = n ∧ ∀ i x, xs[i]? = some x → p i x := by
 induction n with
 | zero => exact ⟨[], rfl, fun i x h => by simp at h⟩
 | succ n ih =>
  obtain ⟨xs, hl, hx⟩ := ih (fun i hi => h i (by omega))
  obtain ⟨y, hy⟩ := h n (by omega)
  refine ⟨xs ++ [y], by rw [List.length_append, hl]; rfl, fun i x hi => ?_⟩
  by_cases hlt : i < xs.length
  ·rw [List.getElem?_append_left hlt] at hi; exact hx i x hi
  ·rw [List.getElem?_append_right (by omega)] at hi
   have : i - xs.length = 0 := by have := (List.getElem?_eq_some_iff.1 hi).1; simp at this; omega
   rw [this] at hi
   simp at hi
   subst hi
   rw [show i = n from by omega]
   exact hy
theorem no_spot {w : World} {base : Nat} {a : Addr} {n : Nat} {cs : List Value} (h : w.cells? base (a.add (0 * n)) n = some cs) (hn : 0 < n) : a.spot = none := by
 obtain ⟨_, hl, hc⟩ := World.cells?_some h
 have c0 := hc 0 hn
 have e : (a.add (0 * n)).add 0 = a := by simp [Addr.add]
 rw [e, List.getElem?_eq_getElem (by omega)] at c0
 unfold World.cell? at c0
 split at c0
 ·cases hs : a.spot with
  | none => rfl
  | some k => rw [hs] at c0; simp at c0
 ·cases c0
theorem open_grades {H : Type} {enc : TypeId × Value → H} {w : World} {base : Nat} {spare : Nat → Bool} {held : Bool} {fuel : Nat} {v : Value} {x : DataW H × List MemPlace} (h : DataW.trod enc Try.prog w base spare held fuel 22 [v] = some x) :
  ∃ (A : Option Addr) (d : Nat) (gs : List Gr), v = .slice A gs.length d ∧ gs.length ≤ d ∧ d ≤ maxLen ∧ GradesAt w A gs ∧ (A = none → gs.length = 0 ∧ d = 0) := by
 rcases Go.Deep.open_slice Try.underlying22 h with ⟨e, _⟩ | ⟨a, len, cap, m, n, D, Pl, e, _, hl, hm, hmm, _, hx⟩
 ·cases e
  exact ⟨none, 0, [], rfl, Nat.le_refl _, by decide, fun h => absurd h (Nat.lt_irrefl 0), fun _ => ⟨rfl, rfl⟩⟩
 ·cases e
  have hlm : len ≤ m := by rw [hmm]; split <;> omega
  obtain ⟨gs, hgl, hg⟩ := list_of (n := len) (p := fun i (g : Gr) => w.cells? base (a.add (i * 5)) 5 = some g.cells) (fun i hi => by
   obtain ⟨cs', h1, h2⟩ := hx i (by omega)
   obtain ⟨g, rfl⟩ := open_grade h2
   rw [cells_grade] at h1
   exact ⟨g, h1⟩)
  subst hgl
  refine ⟨some a, cap, gs, rfl, hl, hm, fun h0 => ?_, fun h => by cases h⟩
  obtain ⟨B, o, sp⟩ := a
  have hsp := no_spot (hg 0 gs[0] (List.getElem?_eq_getElem h0)) (by decide : 0 < 5)
  simp only at hsp
  subst hsp
  refine ⟨B, o, rfl, fun k x hx => ?_⟩
  obtain ⟨_, _, hc⟩ := World.cells?_some (hg k x hx)
  have c0 := hc 0 (by decide)
  have c1 := hc 1 (by decide)
  have c2 := hc 2 (by decide)
  have c3 := hc 3 (by decide)
  have c4 := hc 4 (by decide)
  rw [Addr.add_mid, Addr.add_mid] at c0 c1 c2 c3 c4
  exact ⟨c0, c1, c2, c3, c4⟩
theorem open_hands {H : Type} {enc : TypeId × Value → H} {w : World} {base : Nat} {spare : Nat → Bool} {held : Bool} {fuel : Nat} {v : Value} {x : DataW H × List MemPlace} (h : DataW.trod enc Try.prog w base spare held fuel 25 [v] = some x) :
  ∃ (A : Option Addr) (d : Nat) (gs : List Hf), v = .slice A gs.length d ∧ gs.length ≤ d ∧ d ≤ maxLen ∧ HandsAt w A gs ∧ (A = none → gs.length = 0 ∧ d = 0) := by
 rcases Go.Deep.open_slice Try.underlying25 h with ⟨e, _⟩ | ⟨a, len, cap, m, n, D, Pl, e, _, hl, hm, hmm, _, hx⟩
 ·cases e
  exact ⟨none, 0, [], rfl, Nat.le_refl _, by decide, fun h => absurd h (Nat.lt_irrefl 0), fun _ => ⟨rfl, rfl⟩⟩
 ·cases e
  have hlm : len ≤ m := by rw [hmm]; split <;> omega
  obtain ⟨gs, hgl, hg⟩ := list_of (n := len) (p := fun i (g : Hf) => w.cells? base (a.add (i * 5)) 5 = some g.cells) (fun i hi => by
   obtain ⟨cs', h1, h2⟩ := hx i (by omega)
   obtain ⟨g, rfl⟩ := open_hand h2
   rw [cells_hand] at h1
   exact ⟨g, h1⟩)
  subst hgl
  refine ⟨some a, cap, gs, rfl, hl, hm, fun h0 => ?_, fun h => by cases h⟩
  obtain ⟨B, o, sp⟩ := a
  have hsp := no_spot (hg 0 gs[0] (List.getElem?_eq_getElem h0)) (by decide : 0 < 5)
  simp only at hsp
  subst hsp
  refine ⟨B, o, rfl, fun k x hx => ?_⟩
  obtain ⟨_, _, hc⟩ := World.cells?_some (hg k x hx)
  have c0 := hc 0 (by decide)
  have c1 := hc 1 (by decide)
  have c2 := hc 2 (by decide)
  have c3 := hc 3 (by decide)
  have c4 := hc 4 (by decide)
  rw [Addr.add_mid, Addr.add_mid] at c0 c1 c2 c3 c4
  exact ⟨c0, c1, c2, c3, c4⟩
set_option maxRecDepth 100000 in
theorem open_gate {H : Type} {enc : TypeId × Value → H} {w : World} {base : Nat} {spare : Nat → Bool} {held : Bool} {r : Reach} {b0 : Nat} {v : Value} {d : DataW H} {p : List MemPlace} (hv : Value.okWide Try.prog w r b0 24 v) (h : DataW.Trod enc Try.prog w base spare held 24 v d p) :
  ∃ (err miss : Int) (A : Option Addr) (c : Nat) (gs : List Gr), v = .agg #[.int .i64 err, .int .i64 miss, .slice A gs.length c] ∧ gs.length ≤ c ∧ c ≤ maxLen ∧ GradesAt w A gs ∧ (A = none → gs.length = 0 ∧ c = 0) := by
 obtain ⟨v0, v1, v2, y0, y1, y2, n, rfl, _, _, h0, h1, h2⟩ := Go.Joins.open_agg3 Try.underlying24 (by kernel_rfl) (by kernel_rfl) hv h
 obtain ⟨a0, rfl⟩ := trod_one h0
 obtain ⟨a1, rfl⟩ := trod_one h1
 obtain ⟨A, c, gs, rfl, hr⟩ := open_grades h2
 exact ⟨a0, a1, A, c, gs, rfl, hr⟩
set_option maxRecDepth 100000 in
theorem open_cart {H : Type} {enc : TypeId × Value → H} {w : World} {base : Nat} {spare : Nat → Bool} {held : Bool} {r : Reach} {b0 : Nat} {v : Value} {d : DataW H} {p : List MemPlace} (hv : Value.okWide Try.prog w r b0 27 v) (h : DataW.Trod enc Try.prog w base spare held 27 v d p) :
  ∃ (full emp : Int) (A : Option Addr) (c : Nat) (gs : List Hf), v = .agg #[.int .i64 full, .int .i64 emp, .slice A gs.length c] ∧ gs.length ≤ c ∧ c ≤ maxLen ∧ HandsAt w A gs ∧ (A = none → gs.length = 0 ∧ c = 0) := by
 obtain ⟨v0, v1, v2, y0, y1, y2, n, rfl, _, _, h0, h1, h2⟩ := Go.Joins.open_agg3 Try.underlying27 (by kernel_rfl) (by kernel_rfl) hv h
 obtain ⟨a0, rfl⟩ := trod_one h0
 obtain ⟨a1, rfl⟩ := trod_one h1
 obtain ⟨A, c, gs, rfl, hr⟩ := open_hands h2
 exact ⟨a0, a1, A, c, gs, rfl, hr⟩
theorem row5_set3 {w : World} {B b n : Nat} {e t : TypeId} {v : Value} {xs : List Value} {ds : Array Value} {u0 u1 u2 : Value} (h : w.ownsRow B e 5 v n xs) (h2 : Holds w b t ds) (ht : e ≠ t) : (((w.setCell ⟨b, 0, none⟩ u0).setCell ⟨b, 1, none⟩ u1).setCell ⟨b, 2, none⟩ u2).ownsRow B e 5 v n xs := by
 obtain ⟨hl, h | ⟨k, cap, cur, ev, hB, hg, r⟩⟩ := h
 ·exact ⟨hl, .inl h⟩
 ·have hk : Holds w k e cur := hg
  exact ⟨hl, .inr ⟨k, cap, cur, ev, hB, hk.set3_ne h2 ht, r⟩⟩
theorem great_no {n m : Nat} (h : greatB n m = false) : n ≤ 7 ∧ m ≤ 9 := by
 simp only [greatB, Bool.or_eq_false_iff, decide_eq_false_iff_not] at h
 omega

theorem rowed_at {w : World} {B c n : Nat} {A : Option Addr} {hs : List Hf} (h : Rowed w B 42 (.slice A hs.length c) n (hs.flatMap Hf.cells)) (e : n = hs.length := by rfl) : HandsAt w A hs := by
 subst e
 obtain ⟨A', q, ev, _, hh⟩ := come_at h
 cases ev
 exact hh
theorem their_at {w : World} {B c n : Nat} {A : Option Addr} {hs : List Gr} (h : Rowed w B 139 (.slice A hs.length c) n (hs.flatMap Gr.cells)) (e : n = hs.length := by rfl) : GradesAt w A hs := by
 subst e
 obtain ⟨A', q, ev, _, hh⟩ := theirs_at h
 cases ev
 exact hh
end Go.Proofs.Ytifffonoipapgaa
