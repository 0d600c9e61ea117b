/- What every package's proofs begin with: blocks that hold cells, results that are cells, rows that a call owns. No Go in sight. -/
import Derived.Test.YtfghfmlcfbkmjaaProg
import Derived.WalkKit
import Derived.WalkLawsBesides
import Derived.WalkSpells
import Derived.Below
import Derived.Outline
import Derived.Deep.RegionHeld3
import Derived.Deep.QuietTactic
import Derived.BigQuiet
import Derived.Lib.Hide
import Derived.LoopTactic
import Derived.LoopN
import Derived.Laws.EntriesVeiled
import Derived.Laws.AppendOwnNone
import Derived.Laws.AppendOwn
import Derived.Laws.ResultCell
import Derived.Laws.Rows
import Derived.Laws.StructEq
import Derived.OwnWalk
import Derived.Deep.OwnRows
import Derived.Deep.SlicePairs
import Derived.Lib.SmallJoins
import Derived.OpenShut
import Derived.Lib.OwnBridge
import Derived.RegionTactic
import Derived.IntWalk
import Derived.Test.YtfghfmlcfbkmjaaRF
set_option linter.unusedSimpArgs false
set_option linter.unusedVariables false
namespace Go.Proofs.Ytfghfmlcfbkmjaa
open Go.RowKit

/-- The world at hand under a name of its own, with what is wanted of it. -/
theorem wp_world {P : Program} {c : Code} {Q : Exit → Act → World → Prop} {a : Act} {w : World} (R : World → Prop) (hR : R w) (h : ∀ W, R W → Code.wp P c Q a W) : Code.wp P c Q a w := h w hR
/-- Block B holds just these cells, and none is frozen. -/
def Holds (w : World) (B : Nat) (t : TypeId) (cs : Array Value) : Prop := w.heap[B]? = some (.cells cs t (0, 0))
theorem Holds.lt {w : World} {B : Nat} {t : TypeId} {cs : Array Value} (h : Holds w B t cs) : B < w.heap.size := by
  unfold Holds at h
  exact (Array.getElem?_eq_some_iff.1 h).1
theorem Holds.cell {w : World} {B : Nat} {t : TypeId} {cs : Array Value} (h : Holds w B t cs) (i : Nat) : w.cell? ⟨B, i, none⟩ = cs[i]? := by
  unfold Holds at h
  simp [World.cell?, h]
theorem Holds.frozen {w : World} {B : Nat} {t : TypeId} {cs : Array Value} (h : Holds w B t cs) (i : Nat) : w.frozen? ⟨B, i, none⟩ = false := by
  unfold Holds at h
  simp [World.frozen?, h]
theorem Holds.up {w w' : World} {B : Nat} {t : TypeId} {cs : Array Value} (h : Holds w B t cs) (hb : Below w.heap.size w w') : Holds w' B t cs := (hb.block B h.lt).trans h
theorem Holds.new (w : World) (t : TypeId) (cs : Array Value) : Holds (w.alloc (.cells cs t)) w.heap.size t cs := by
  exact heap_alloc_new w _
theorem Holds.drew {w : World} {B : Nat} {t : TypeId} {cs : Array Value} (h : Holds w B t cs) : Holds w.drew B t cs := h
theorem Holds.alloc {w : World} {B : Nat} {t : TypeId} {cs : Array Value} (h : Holds w B t cs) (o : Obj) : Holds (w.alloc o) B t cs := h.up ((Below.refl _ _).alloc (Nat.le_refl _) o)
theorem Holds.set_ {w : World} {B : Nat} {t : TypeId} {cs : Array Value} (h : Holds w B t cs) (i : Nat) (u : Value) : Holds (w.setCell ⟨B, i, none⟩ u) B t (cs.setIfInBounds i u) := by
  unfold Holds at h ⊢
  simp [World.setCell, Array.getElem?_modify, h]
theorem Holds.far {w : World} {B : Nat} {t : TypeId} {cs : Array Value} (h : Holds w B t cs) {p : Addr} (hp : B ≠ p.block) (u : Value) : Holds (w.setCell p u) B t cs := (Below.heap_setCell w p u B hp).trans h
theorem up_cell {w w' : World} {p : Addr} {v : Value} (hb : Below w.heap.size w w') (h : w.cell? p = some v) : w'.cell? p = some v := (hb.cell (World.block_lt_of_cell? w p h)).trans h
theorem ret_cell {P : Program} {fn : Func} {p : Tmp} {ty : TypeId} (h : fn.results = #[.cell p ty]) {a : Act} {w : World} {g : Nat} {t : TypeId} {cs : Array Value} {d : TypeDesc} {R : Ending → World → Prop}
    (hp : a.tmps.getD p undef = .pointer (some ⟨g, 0, none⟩)) (hg : Holds w g t cs) (hu : P.underlying ty = some d) (hd : (match d with | .struct _ | .array _ _ => true | _ => false) = true)
    (hi : (P.info? ty).map (·.size) = some cs.size) (hdf : a.defers = []) (hR : R (.returned (.agg cs)) w) : bodyPost P fn R .ret a w :=
  bodyPost_ret (results_cell_row h _ w g t cs (0, 0) d hp hg hu hd hi) hdf hR
theorem ret_cell2 {P : Program} {fn : Func} {p u : Tmp} {ty : TypeId} (h : fn.results = #[.cell p ty, .tmp u]) {a : Act} {w : World} {g : Nat} {t : TypeId} {cs : Array Value} {d : TypeDesc} {R : Ending → World → Prop} {v : Value}
    (hp : a.tmps.getD p undef = .pointer (some ⟨g, 0, none⟩)) (hq : a.tmps.getD u undef = v) (hg : Holds w g t cs) (hu : P.underlying ty = some d) (hd : (match d with | .struct _ | .array _ _ => true | _ => false) = true)
    (hi : (P.info? ty).map (·.size) = some cs.size) (hdf : a.defers = []) (hR : R (.returned (.tuple #[.agg cs, v])) w) : bodyPost P fn R .ret a w :=
  bodyPost_ret (by rw [results_cell_tmp h, hp, hq]; simp [asAddr, run_loadVar_row w g t ty cs (0, 0) d hg hu hd hi]) hdf hR
theorem Holds.put {w : World} {B : Nat} {t : TypeId} {cs cs' : Array Value} {i : Nat} {u : Value} (h : Holds w B t cs) (e : cs.setIfInBounds i u = cs') : Holds (w.setCell ⟨B, i, none⟩ u) B t cs' := e ▸ h.set_ i u
theorem Holds.new' {B : Nat} (w : World) {t : TypeId} (cs : Array Value) (h : B = w.heap.size) : Holds (w.alloc (.cells cs t)) B t cs := h ▸ Holds.new w t cs
theorem Holds.setL {w : World} {B : Nat} {t : TypeId} {l : List Value} (h : Holds w B t l.toArray) (i : Nat) (u : Value) : Holds (w.setCell ⟨B, i, none⟩ u) B t (l.set i u).toArray := by
  have := h.set_ i u
  simpa using this
theorem Holds.putL {w : World} {B : Nat} {t : TypeId} {l l' : List Value} {i : Nat} {u : Value} (h : Holds w B t l.toArray) (e : l.set i u = l') : Holds (w.setCell ⟨B, i, none⟩ u) B t l'.toArray := e ▸ h.setL i u
theorem Holds.set2 {w : World} {B : Nat} {t : TypeId} {a0 a1 : Value} (u0 u1 : Value) (h : Holds w B t #[a0, a1]) : Holds ((w.setCell ⟨B, 0, none⟩ u0).setCell ⟨B, 1, none⟩ u1) B t #[u0, u1] := (h.setL 0 _).setL 1 _
theorem Holds.set4 {w : World} {B : Nat} {t : TypeId} {a0 a1 a2 a3 : Value} (u0 u1 u2 u3 : Value) (h : Holds w B t #[a0, a1, a2, a3]) :
    Holds ((((w.setCell ⟨B, 0, none⟩ u0).setCell ⟨B, 1, none⟩ u1).setCell ⟨B, 2, none⟩ u2).setCell ⟨B, 3, none⟩ u3) B t #[u0, u1, u2, u3] := (((h.setL 0 _).setL 1 _).setL 2 _).setL 3 _
theorem Holds.set8 {w : World} {B : Nat} {t : TypeId} {a0 a1 a2 a3 a4 a5 a6 a7 : Value} (u0 u1 u2 u3 u4 u5 u6 u7 : Value) (h : Holds w B t #[a0, a1, a2, a3, a4, a5, a6, a7]) :
    Holds ((((((((w.setCell ⟨B, 0, none⟩ u0).setCell ⟨B, 1, none⟩ u1).setCell ⟨B, 2, none⟩ u2).setCell ⟨B, 3, none⟩ u3).setCell ⟨B, 4, none⟩ u4).setCell ⟨B, 5, none⟩ u5).setCell ⟨B, 6, none⟩ u6).setCell ⟨B, 7, none⟩ u7) B t #[u0, u1, u2, u3, u4, u5, u6, u7] :=
  (((((((h.setL 0 _).setL 1 _).setL 2 _).setL 3 _).setL 4 _).setL 5 _).setL 6 _).setL 7 _
theorem Holds.set3 {w : World} {B : Nat} {t : TypeId} {a0 a1 a2 : Value} (u0 u1 u2 : Value) (h : Holds w B t #[a0, a1, a2]) : Holds (((w.setCell ⟨B, 0, none⟩ u0).setCell ⟨B, 1, none⟩ u1).setCell ⟨B, 2, none⟩ u2) B t #[u0, u1, u2] := ((h.setL 0 _).setL 1 _).setL 2 _
theorem Holds.set5 {w : World} {B : Nat} {t : TypeId} {a0 a1 a2 a3 a4 : Value} (u0 u1 u2 u3 u4 : Value) (h : Holds w B t #[a0, a1, a2, a3, a4]) :
    Holds (((((w.setCell ⟨B, 0, none⟩ u0).setCell ⟨B, 1, none⟩ u1).setCell ⟨B, 2, none⟩ u2).setCell ⟨B, 3, none⟩ u3).setCell ⟨B, 4, none⟩ u4) B t #[u0, u1, u2, u3, u4] := ((((h.setL 0 _).setL 1 _).setL 2 _).setL 3 _).setL 4 _
theorem Holds.set7 {w : World} {B : Nat} {t : TypeId} {a0 a1 a2 a3 a4 a5 a6 : Value} (u0 u1 u2 u3 u4 u5 u6 : Value) (h : Holds w B t #[a0, a1, a2, a3, a4, a5, a6]) :
    Holds (((((((w.setCell ⟨B, 0, none⟩ u0).setCell ⟨B, 1, none⟩ u1).setCell ⟨B, 2, none⟩ u2).setCell ⟨B, 3, none⟩ u3).setCell ⟨B, 4, none⟩ u4).setCell ⟨B, 5, none⟩ u5).setCell ⟨B, 6, none⟩ u6) B t #[u0, u1, u2, u3, u4, u5, u6] := (((((((h.setL 0 _).setL 1 _).setL 2 _).setL 3 _).setL 4 _).setL 5 _).setL 6 _)
theorem Holds.grown {W w : World} {B mb : Nat} {t : TypeId} {cs : Array Value} (h : Holds W B t cs) (hg : W.grownBy w (some mb)) (hne : B ≠ mb) : Holds w B t cs :=
  (hg.block B h.lt (fun e => hne (by cases e; rfl))).trans h
theorem grow_refl (W : World) (mb : Nat) : W.grownBy W (some mb) := ⟨rfl, rfl, rfl, Nat.le_refl _, fun _ _ _ => rfl⟩
theorem holds_ne {w : World} {B C : Nat} {t u : TypeId} {cs ds : Array Value} (h : Holds w B t cs) (k : Holds w C u ds) (hne : t ≠ u) : B ≠ C := fun e => by
  subst e
  have h' : w.heap[B]? = _ := h
  rw [show w.heap[B]? = _ from k] at h'
  injection h' with h'
  injection h' with _ h'
  exact hne h'.symm
theorem Holds.low {w w' : World} {B n : Nat} {t : TypeId} {cs : Array Value} (h : Holds w B t cs) (hb : Below n w w') (hlt : B < n) : Holds w' B t cs := (hb.block B hlt).trans h
theorem results_cells {fn : Func} {p q : Tmp} {ty uy : TypeId} (h : fn.results = #[.cell p ty, .cell q uy]) (tmps : Array Value) (P : Program) (w : World) :
    (results fn tmps).run P w =
      ((asAddr (tmps.getD p undef)).run P w).andThen fun a w₁ => ((loadVar ty a).run P w₁).andThen fun v w₂ => ((asAddr (tmps.getD q undef)).run P w₂).andThen fun b w₃ => ((loadVar uy b).run P w₃).andThen fun u w₄ => .ok (.tuple #[v, u]) w₄ := by
  simp only [results, h]
  simp [Sem.run_bind, Result.andThen]
theorem ret_cells {P : Program} {fn : Func} {p q : Tmp} {ty uy : TypeId} (h : fn.results = #[.cell p ty, .cell q uy]) {a : Act} {w : World} {g g' : Nat} {t t' : TypeId} {cs cs' : Array Value} {d d' : TypeDesc} {R : Ending → World → Prop}
    (hp : a.tmps.getD p undef = .pointer (some ⟨g, 0, none⟩)) (hg : Holds w g t cs) (hu : P.underlying ty = some d) (hd : (match d with | .struct _ | .array _ _ => true | _ => false) = true)
    (hi : (P.info? ty).map (·.size) = some cs.size)
    (hq : a.tmps.getD q undef = .pointer (some ⟨g', 0, none⟩)) (hg' : Holds w g' t' cs') (hu' : P.underlying uy = some d') (hd' : (match d' with | .struct _ | .array _ _ => true | _ => false) = true)
    (hi' : (P.info? uy).map (·.size) = some cs'.size) (hdf : a.defers = []) (hR : R (.returned (.tuple #[.agg cs, .agg cs'])) w) : bodyPost P fn R .ret a w :=
  bodyPost_ret (by rw [results_cells h, hp, hq]; simp [asAddr, Result.andThen, run_loadVar_row w g t ty cs (0, 0) d hg hu hd hi, run_loadVar_row w g' t' uy cs' (0, 0) d' hg' hu' hd' hi']) hdf hR
theorem Holds.row {w w' : World} {B : Nat} {t : TypeId} {cs : Array Value} {ob : Option Nat} (h : Holds w B t cs) (hg : w.grownBy w' ob) (hB : ∀ k, ob = some k → B < k) : Holds w' B t cs :=
  (hg.block B h.lt (fun e => by have := hB B e.symm; omega)).trans h
theorem results_cells3 {fn : Func} {p q r : Tmp} {ty uy vy : TypeId} (h : fn.results = #[.cell p ty, .cell q uy, .cell r vy]) (tmps : Array Value) (P : Program) (w : World) :
    (results fn tmps).run P w =
      ((asAddr (tmps.getD p undef)).run P w).andThen fun a w₁ => ((loadVar ty a).run P w₁).andThen fun v w₂ => ((asAddr (tmps.getD q undef)).run P w₂).andThen fun b w₃ => ((loadVar uy b).run P w₃).andThen fun u w₄ =>
        ((asAddr (tmps.getD r undef)).run P w₄).andThen fun c w₅ => ((loadVar vy c).run P w₅).andThen fun x w₆ => .ok (.tuple #[v, u, x]) w₆ := by
  simp only [results, h]
  simp [Sem.run_bind, Result.andThen]
theorem ret_cells3 {P : Program} {fn : Func} {p q r : Tmp} {ty uy vy : TypeId} (h : fn.results = #[.cell p ty, .cell q uy, .cell r vy]) {a : Act} {w : World} {g g' g'' : Nat} {t t' t'' : TypeId} {cs cs' cs'' : Array Value} {d d' d'' : TypeDesc} {R : Ending → World → Prop}
    (hp : a.tmps.getD p undef = .pointer (some ⟨g, 0, none⟩)) (hg : Holds w g t cs) (hu : P.underlying ty = some d) (hd : (match d with | .struct _ | .array _ _ => true | _ => false) = true)
    (hi : (P.info? ty).map (·.size) = some cs.size)
    (hq : a.tmps.getD q undef = .pointer (some ⟨g', 0, none⟩)) (hg' : Holds w g' t' cs') (hu' : P.underlying uy = some d') (hd' : (match d' with | .struct _ | .array _ _ => true | _ => false) = true)
    (hi' : (P.info? uy).map (·.size) = some cs'.size)
    (hr : a.tmps.getD r undef = .pointer (some ⟨g'', 0, none⟩)) (hg'' : Holds w g'' t'' cs'') (hu'' : P.underlying vy = some d'') (hd'' : (match d'' with | .struct _ | .array _ _ => true | _ => false) = true)
    (hi'' : (P.info? vy).map (·.size) = some cs''.size) (hdf : a.defers = []) (hR : R (.returned (.tuple #[.agg cs, .agg cs', .agg cs''])) w) : bodyPost P fn R .ret a w :=
  bodyPost_ret (by rw [results_cells3 h, hp, hq, hr]; simp [asAddr, Result.andThen, run_loadVar_row w g t ty cs (0, 0) d hg hu hd hi, run_loadVar_row w g' t' uy cs' (0, 0) d' hg' hu' hd' hi', run_loadVar_row w g'' t'' vy cs'' (0, 0) d'' hg'' hu'' hd'' hi'']) hdf hR

/-! ### Grades and carts that are right -/
theorem ret_cell3 {P : Program} {fn : Func} {p q u : Tmp} {ty uy : TypeId} (h : fn.results = #[.cell p ty, .cell q uy, .tmp u]) {a : Act} {w : World} {g k : Nat} {t r : TypeId} {cs ds : Array Value} {d e : TypeDesc} {R : Ending → World → Prop} {v : Value}
    (hp : a.tmps.getD p undef = .pointer (some ⟨g, 0, none⟩)) (hq : a.tmps.getD q undef = .pointer (some ⟨k, 0, none⟩)) (hv : a.tmps.getD u undef = v) (hg : Holds w g t cs) (hk : Holds w k r ds)
    (hu : P.underlying ty = some d) (hd : (match d with | .struct _ | .array _ _ => true | _ => false) = true) (hi : (P.info? ty).map (·.size) = some cs.size)
    (hu' : P.underlying uy = some e) (hd' : (match e with | .struct _ | .array _ _ => true | _ => false) = true) (hi' : (P.info? uy).map (·.size) = some ds.size)
    (hdf : a.defers = []) (hR : R (.returned (.tuple #[.agg cs, .agg ds, v])) w) : bodyPost P fn R .ret a w := by
  refine bodyPost_ret ?_ hdf hR
  have e1 := run_loadVar_row (P := P) w g t ty cs (0, 0) d hg hu hd hi
  have e2 := run_loadVar_row (P := P) w k r uy ds (0, 0) e hk hu' hd' hi'
  simp only [Array.getD_eq_getD_getElem?] at hp hq hv
  simp only [results, h]
  simp [Sem.run_bind, asAddr, hp, hq, hv, e1, e2]
theorem below_none {w w' : World} (h : w.grownBy w' none) : Below w.heap.size w w' := ⟨h.os, h.tape, h.output, h.size, fun k hk => h.block k hk (by simp)⟩
theorem wpList_append_run {P : Program} (w : World) {ops : Array Oper} {rest : List Oper} {o : Oper} {a : Act} {Q : Exit → Act → World → Prop} (hgd : o.guard = none) (d s : Operand) (t t' : TypeId)
    (ho : o.op = .call { callee := .builtin .append, args := #[d, s], argTypes := #[t, t'] }) (v u : Value) (hd : a.eval d = v) (hs : a.eval s = u) {v' : Value} {w' : World}
    (hr : (Builtin.append_ #[t, t'] o.type #[v, u]).run P w = .ok v' w') (h : wpList P ops Q rest (a.put o.dst v') w') : wpList P ops Q (o :: rest) a w :=
  wpList_plain hgd fun _ hK => by
    unfold Oper.wp execOp
    simp only [ho, resolve, invoke, builtin, Sem.run_bind, Sem.run_pure, Result.andThen_ok, List.map_toArray, List.map_cons, List.map_nil, hd, hs, hr]
    exact hK _ _ h
theorem wpList_clear_run {P : Program} (w : World) {ops : Array Oper} {rest : List Oper} {o : Oper} {a : Act} {Q : Exit → Act → World → Prop} (hgd : o.guard = none) (d : Operand) (t : TypeId)
    (ho : o.op = .call { callee := .builtin .clear, args := #[d], argTypes := #[t] }) (v : Value) (hd : a.eval d = v) {v' : Value} {w' : World}
    (hr : (Builtin.clear_ #[t] o.type #[v]).run P w = .ok v' w') (h : wpList P ops Q rest (a.put o.dst v') w') : wpList P ops Q (o :: rest) a w :=
  wpList_plain hgd fun _ hK => by
    unfold Oper.wp execOp
    simp only [ho, resolve, invoke, builtin, Sem.run_bind, Sem.run_pure, Result.andThen_ok, List.map_toArray, List.map_cons, List.map_nil, hd, hr]
    exact hK _ _ h
theorem held_row {w w' : World} {b : Nat} {t : TypeId} {cs : Array Value} (s : Holds w b t cs) {row : Option Nat} (g : w.grownBy w' row) (hne : row ≠ some b) : Holds w' b t cs := (g.block b s.lt (fun e => hne e.symm)).trans s
theorem holds_news {w : World} {B : Nat} {t : TypeId} {l : List Value} (h : Holds w B t l.toArray) : ∀ (j : Nat) (u : Value), l[j]? = some u → w.cell? ((⟨B, 0, none⟩ : Addr).add j) = some u := fun j u hj => by
  have := h.cell j
  rw [List.getElem?_toArray, hj] at this
  rcases Nat.eq_zero_or_pos j with rfl | hp
  · simpa [Addr.add] using this
  · simpa [Addr.add, Nat.ne_of_gt hp] using this
end Go.Proofs.Ytfghfmlcfbkmjaa
