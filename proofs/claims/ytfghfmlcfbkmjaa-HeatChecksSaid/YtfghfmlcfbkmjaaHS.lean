/- What comes in as a barn or a span: opened. -/
import Derived.Test.YtfghfmlcfbkmjaaRO
import Derived.Test.YtfghfmlcfbkmjaaHE
import Derived.Deep.SlicePairs
import Derived.Lib.SmallJoins
import Derived.OpenShut
set_option linter.unusedSimpArgs false
set_option linter.unusedVariables false
namespace Go.Proofs.Ytfghfmlcfbkmjaa
open Go.RowKit

theorem trod_one {H : Type} {enc : TypeId × Value → H} {w : World} {base : Nat} {spare : Nat → Bool} {held : Bool} {fuel : Nat} {v : Value} {y : DataW H × List MemPlace} (h : DataW.trod enc Try.prog w base spare held fuel 3 [v] = some y) : ∃ n, v = .int .i64 n := by
  obtain ⟨n, e, _⟩ := DataW.trod_int Try.underlying3 h
  cases e
  exact ⟨n, rfl⟩
theorem cells_int : Try.prog.cellsOf 3 = 1 := by kernel_rfl
theorem cells_six : Try.prog.cellsOf 22 = 6 := by kernel_rfl
theorem cells_span : Try.prog.cellsOf 27 = 2 := by kernel_rfl
theorem cells_bin : Try.prog.cellsOf 39 = 4 := by kernel_rfl
theorem cells_bins : Try.prog.cellsOf 23 = 1 := by kernel_rfl
theorem cells_barn : Try.prog.cellsOf 25 = 9 := by kernel_rfl
theorem list2 {α : Type} {l : List α} (h : l.length = 2) : ∃ a b, l = [a, b] := by
  match l, h with
  | [a, b], _ => exact ⟨a, b, rfl⟩
theorem list3 {α : Type} {l : List α} (h : l.length = 3) : ∃ a b c, l = [a, b, c] := by
  match l, h with
  | [a, b, c], _ => exact ⟨a, b, c, rfl⟩
theorem list4 {α : Type} {l : List α} (h : l.length = 4) : ∃ a b c d, l = [a, b, c, d] := by
  match l, h with
  | [a, b, c, d], _ => exact ⟨a, b, c, d, rfl⟩
theorem list6 {α : Type} {l : List α} (h : l.length = 6) : ∃ a b c d e f, l = [a, b, c, d, e, f] := by
  match l, h with
  | [a, b, c, d, e, f], _ => exact ⟨a, b, c, d, e, f, rfl⟩
theorem list9 {α : Type} {l : List α} (h : l.length = 9) : ∃ a b c d e f g i j, l = [a, b, c, d, e, f, g, i, j] := by
  match l, h with
  | [a, b, c, d, e, f, g, i, j], _ => exact ⟨a, b, c, d, e, f, g, i, j, rfl⟩
theorem open_span {H : Type} {enc : TypeId × Value → H} {w : World} {base : Nat} {spare : Nat → Bool} {held : Bool} {fuel : Nat} {cs : List Value} {x : DataW H × List MemPlace} (h : DataW.trod enc Try.prog w base spare held fuel 27 cs = some x) : ∃ a b : Int, cs = [.int .i64 a, .int .i64 b] := by
  obtain ⟨xs, n, _, _, hl, hxl, hf⟩ := DataW.trod_struct Try.underlying27 h
  rw [cells_span] at hl
  obtain ⟨v0, v1, rfl⟩ := list2 hl
  obtain ⟨y0, y1, rfl⟩ := list2 hxl
  have g0 := hf 0 _ rfl
  have g1 := hf 1 _ rfl
  simp [cells_int] at g0 g1
  obtain ⟨a0, rfl⟩ := trod_one g0
  obtain ⟨a1, rfl⟩ := trod_one g1
  exact ⟨a0, a1, rfl⟩
theorem open_bin {H : Type} {enc : TypeId × Value → H} {w : World} {base : Nat} {spare : Nat → Bool} {held : Bool} {fuel : Nat} {cs : List Value} {x : DataW H × List MemPlace} (h : DataW.trod enc Try.prog w base spare held fuel 39 cs = some x) : ∃ g : Bn, cs = g.cells := by
  obtain ⟨xs, n, _, _, hl, hxl, hf⟩ := DataW.trod_struct Try.underlying39 h
  rw [cells_bin] at hl
  obtain ⟨v0, v1, v2, v3, rfl⟩ := list4 hl
  obtain ⟨y0, y1, y2, rfl⟩ := list3 hxl
  have g0 := hf 0 _ rfl
  have g1 := hf 1 _ rfl
  have g2 := hf 2 _ rfl
  simp [cells_int, cells_span] at g0 g1 g2
  obtain ⟨a0, rfl⟩ := trod_one g0
  obtain ⟨a1, rfl⟩ := trod_one g1
  obtain ⟨a2, a3, e⟩ := open_span g2
  simp at e
  obtain ⟨rfl, rfl⟩ := e
  exact ⟨⟨a0, a1, a2, a3⟩, rfl⟩
theorem list_of {α : Type} {n : Nat} {p : Nat → α → Prop} (h : ∀ i, i < n → ∃ x, p i x) : ∃ xs : List α, xs.length = n ∧ ∀ i x, xs[i]? = some x → p i x := by
  induction n with
  | zero => exact ⟨[], rfl, fun i x h => by simp at h⟩
  | succ n ih =>
    obtain ⟨xs, hl, hx⟩ := ih (fun i hi => h i (by omega))
    obtain ⟨y, hy⟩ := h n (by omega)
    refine ⟨xs ++ [y], by rw [List.length_append, hl]; rfl, fun i x hi => ?_⟩
    by_cases hlt : i < xs.length
    · rw [List.getElem?_append_left hlt] at hi; exact hx i x hi
    · rw [List.getElem?_append_right (by omega)] at hi
      have : i - xs.length = 0 := by have := (List.getElem?_eq_some_iff.1 hi).1; simp at this; omega
      rw [this] at hi
      simp at hi
      subst hi
      rw [show i = n from by omega]
      exact hy
theorem no_spot {w : World} {base : Nat} {a : Addr} {n : Nat} {cs : List Value} (h : w.cells? base (a.add (0 * n)) n = some cs) (hn : 0 < n) : a.spot = none := by
  obtain ⟨_, hl, hc⟩ := World.cells?_some h
  have c0 := hc 0 hn
  have e : (a.add (0 * n)).add 0 = a := by simp [Addr.add]
  rw [e, List.getElem?_eq_getElem (by omega)] at c0
  unfold World.cell? at c0
  split at c0
  · cases hs : a.spot with
    | none => rfl
    | some k => rw [hs] at c0; simp at c0
  · cases c0
theorem open_bins {H : Type} {enc : TypeId × Value → H} {w : World} {base : Nat} {spare : Nat → Bool} {held : Bool} {fuel : Nat} {v : Value} {x : DataW H × List MemPlace} (h : DataW.trod enc Try.prog w base spare held fuel 23 [v] = some x) :
    ∃ (A : Option Addr) (d : Nat) (gs : List Bn), v = .slice A gs.length d ∧ gs.length ≤ d ∧ d ≤ maxLen ∧ BinsAt w A gs ∧ (A = none → gs.length = 0 ∧ d = 0) := by
  rcases Go.Deep.open_slice Try.underlying23 h with ⟨e, _⟩ | ⟨a, len, cap, m, n, D, Pl, e, _, hl, hm, hmm, _, hx⟩
  · cases e
    exact ⟨none, 0, [], rfl, Nat.le_refl _, by decide, fun h => absurd h (Nat.lt_irrefl 0), fun _ => ⟨rfl, rfl⟩⟩
  · cases e
    have hlm : len ≤ m := by rw [hmm]; split <;> omega
    obtain ⟨gs, hgl, hg⟩ := list_of (n := len) (p := fun i (g : Bn) => w.cells? base (a.add (i * 4)) 4 = some g.cells) (fun i hi => by
      obtain ⟨cs', h1, h2⟩ := hx i (by omega)
      obtain ⟨g, rfl⟩ := open_bin h2
      rw [cells_bin] at h1
      exact ⟨g, h1⟩)
    subst hgl
    refine ⟨some a, cap, gs, rfl, hl, hm, fun h0 => ?_, fun h => by cases h⟩
    obtain ⟨B, o, sp⟩ := a
    have hsp := no_spot (hg 0 gs[0] (List.getElem?_eq_getElem h0)) (by decide : 0 < 4)
    simp only at hsp
    subst hsp
    refine ⟨B, o, rfl, fun k x hx j u hj => ?_⟩
    obtain ⟨_, _, hc⟩ := World.cells?_some (hg k x hx)
    have hj4 : j < 4 := by have := (List.getElem?_eq_some_iff.1 hj).1; rwa [Bn.len] at this
    have c0 := hc j hj4
    rw [Addr.add_mid, Addr.add_mid] at c0
    exact c0.trans hj
set_option maxRecDepth 100000 in
theorem open_barn {H : Type} {enc : TypeId × Value → H} {w : World} {base : Nat} {spare : Nat → Bool} {held : Bool} {r : Reach} {b0 : Nat} {v : Value} {d : DataW H} {p : List MemPlace} (hv : Value.okWide Try.prog w r b0 25 v) (h : DataW.Trod enc Try.prog w base spare held 25 v d p) :
    ∃ (b : Br) (A : Option Addr) (c : Nat) (bs : List Bn), v = .agg #[.int .i64 b.cool, .int .i64 b.gangs, .int .i64 b.r0, .int .i64 b.r1, .int .i64 b.r2, .int .i64 b.r3, .int .i64 b.r4, .int .i64 b.r5, .slice A bs.length c] ∧ bs.length ≤ c ∧ c ≤ maxLen ∧ BinsAt w A bs ∧ (A = none → bs.length = 0 ∧ c = 0) := by
  obtain ⟨cs, rfl, hsz⟩ := Go.WideShapes.okWide_struct Try.underlying25 hv
  obtain ⟨fuel, hff⟩ := h
  have hff' : DataW.trod enc Try.prog w base spare held fuel 25 cs.toList = some (d, p) := hff
  obtain ⟨xs, n, _, _, hl, hxl, hf⟩ := DataW.trod_struct Try.underlying25 hff'
  rw [cells_barn] at hl
  obtain ⟨v0, v1, v2, v3, v4, v5, v6, v7, v8, e9⟩ := list9 hl
  rw [e9] at hf
  obtain ⟨y0, y1, y2, y3, rfl⟩ := list4 hxl
  have g0 := hf 0 _ rfl
  have g1 := hf 1 _ rfl
  have g2 := hf 2 _ rfl
  have g3 := hf 3 _ rfl
  simp [cells_int, cells_six, cells_bins] at g0 g1 g2 g3
  obtain ⟨a0, rfl⟩ := trod_one g0
  obtain ⟨a1, rfl⟩ := trod_one g1
  obtain ⟨zs, m, _, _, _, hzl, hz⟩ := DataW.trod_array Try.underlying22 g2
  obtain ⟨z0, z1, z2, z3, z4, z5, rfl⟩ := list6 hzl
  have k0 := hz 0 (by decide)
  have k1 := hz 1 (by decide)
  have k2 := hz 2 (by decide)
  have k3 := hz 3 (by decide)
  have k4 := hz 4 (by decide)
  have k5 := hz 5 (by decide)
  simp [cells_int] at k0 k1 k2 k3 k4 k5
  obtain ⟨b0, rfl⟩ := trod_one k0
  obtain ⟨b1, rfl⟩ := trod_one k1
  obtain ⟨b2, rfl⟩ := trod_one k2
  obtain ⟨b3, rfl⟩ := trod_one k3
  obtain ⟨b4, rfl⟩ := trod_one k4
  obtain ⟨b5, rfl⟩ := trod_one k5
  obtain ⟨A, c, bs, rfl, hr⟩ := open_bins g3
  refine ⟨⟨a0, a1, b0, b1, b2, b3, b4, b5⟩, A, c, bs, ?_, hr⟩
  have e' : cs = cs.toList.toArray := by rw [Array.toArray_toList]
  rw [e', e9]
set_option maxRecDepth 100000 in
theorem open_one_span {H : Type} {enc : TypeId × Value → H} {w : World} {base : Nat} {spare : Nat → Bool} {held : Bool} {r : Reach} {b0 : Nat} {v : Value} {d : DataW H} {p : List MemPlace} (hv : Value.okWide Try.prog w r b0 27 v) (h : DataW.Trod enc Try.prog w base spare held 27 v d p) :
    ∃ a b : Int, v = .agg #[.int .i64 a, .int .i64 b] := by
  obtain ⟨cs, rfl, hsz⟩ := Go.WideShapes.okWide_struct Try.underlying27 hv
  obtain ⟨fuel, hf⟩ := h
  obtain ⟨a, b, e⟩ := open_span hf
  refine ⟨a, b, ?_⟩
  have e' : cs = cs.toList.toArray := by rw [Array.toArray_toList]
  have e2 : cs.toList = [.int .i64 a, .int .i64 b] := e
  rw [e', e2]
end Go.Proofs.Ytfghfmlcfbkmjaa
