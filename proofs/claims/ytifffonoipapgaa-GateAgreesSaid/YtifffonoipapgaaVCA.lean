
import Derived.Test.YtifffonoipapgaaVAA
import Derived.Test.YtifffonoipapgaaVAC
import Derived.Test.YtifffonoipapgaaVBW
import Derived.Test.YtifffonoipapgaaVBY
import Derived.Test.YtifffonoipapgaaVBZ
set_option linter.unusedSimpArgs false
set_option linter.unusedVariables false
namespace Go.Proofs.Ytifffonoipapgaa
open Go.RowKit
set_option maxRecDepth 100000 in
theorem open_list {H : Type} {enc : TypeId × Value → H} {w : World} {base : Nat} {spare : Nat → Bool} {held : Bool} {r : Reach} {b0 : Nat} {v : Value} {d : DataW H} {p : List MemPlace} (hv : Value.okWide Try.prog w r b0 87 v) (h : DataW.Trod enc Try.prog w base spare held 87 v d p) :
  ∃ (A : Option Addr) (c : Nat) (xs : List Int), v = .slice A xs.length c ∧ xs.length ≤ c ∧ c ≤ maxLen ∧ IntsAt w A xs ∧ (A = none → xs.length = 0 ∧ c = 0) := by
 obtain ⟨a, len, cap, rfl⟩ := Go.WideShapes.okWide_slice Try.underlying87 hv
 obtain ⟨fuel, hf⟩ := h
 have hgf : DataW.trod enc Try.prog w base spare held fuel 87 [.slice a len cap] = some (d, p) := hf
 rcases Go.Deep.open_slice Try.underlying87 hgf with ⟨e, _⟩ | ⟨a, len, cap, m, n, D, Pl, e, _, hl, hm, hmm, _, hx⟩
 ·cases e
  exact ⟨none, 0, [], rfl, Nat.le_refl _, by decide, fun h => absurd h (Nat.lt_irrefl 0), fun _ => ⟨rfl, rfl⟩⟩
 ·cases e
  have hlm : len ≤ m := by rw [hmm]; split <;> omega
  obtain ⟨xs, hgl, hg⟩ := list_of (n := len) (p := fun i (x : Int) => w.cells? base (a.add (i * 1)) 1 = some [.int .i64 x]) (fun i hi => by
   obtain ⟨cs', h1, h2⟩ := hx i (by omega)
   rw [cells_int] at h1
   have hl1 : cs'.length = 1 := (World.cells?_some h1).2.1
   obtain ⟨c0, rfl⟩ : ∃ c0, cs' = [c0] := by
    cases cs' with
    | nil => simp at hl1
    | cons c l => cases l with
     | nil => exact ⟨c, rfl⟩
     | cons => simp at hl1
   obtain ⟨x, rfl⟩ := trod_one h2
   exact ⟨x, h1⟩)
  subst hgl
  refine ⟨some a, cap, xs, rfl, hl, hm, fun h0 => ?_, fun h => by cases h⟩
  obtain ⟨B, o, sp⟩ := a
  have hsp := no_spot (hg 0 xs[0] (List.getElem?_eq_getElem h0)) (by decide : 0 < 1)
  simp only at hsp
  subst hsp
  refine ⟨B, o, rfl, fun k x hx => ?_⟩
  obtain ⟨_, _, hc⟩ := World.cells?_some (hg k x hx)
  have c0 := hc 0 (by decide)
  rw [Addr.add_mid, Addr.add_mid] at c0
  simpa using c0
end Go.Proofs.Ytifffonoipapgaa
