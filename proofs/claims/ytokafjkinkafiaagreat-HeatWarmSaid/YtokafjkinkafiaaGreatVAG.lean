import Derived.RangeFuncNested
import Derived.RangeFuncBound
import Derived.RangeFuncCalls
import Derived.RangeFuncLeaves
import Derived.OwnWalkIn
import Derived.TacticsInMore
import Derived.LoopIn
import Derived.TacticsIn
import Derived.OrdersIn
import Derived.Shelf.Abstract
import Derived.Test.YtokafjkinkafiaaGreatVAA
import Derived.Test.YtokafjkinkafiaaGreatVAC
import Derived.Test.YtokafjkinkafiaaGreatVAD
import Derived.Test.YtokafjkinkafiaaGreatVAE
import Derived.Test.YtokafjkinkafiaaGreatVAF
set_option linter.unusedSimpArgs false
set_option linter.unusedVariables false
namespace Go.Proofs.YtokafjkinkafiaaGreat
open Go.RowKit
def CellT (t : TypeId) (o : Obj) : Prop := ∃ cs fr, o = Obj.cells cs t fr
def OwnT {β : Type} (t : TypeId) (B : Nat) (I : β → World → Prop) : Prop :=
 ∀ s W W' row, I s W → W.grownBy W' row → (∀ r, row = some r → B ≤ r ∧ ∃ o : Obj, W.heap[r]? = some o ∧ (o.isCells = false ∨ CellT t o)) → I s W'
def AbT {β : Type} (t : TypeId) (B : Nat) (J : β → World → Prop) : Prop :=
 ∀ s W W' row, J s W → W.grownBy W' row → (∀ r, row = some r → B ≤ r ∧ ∃ o : Obj, W.heap[r]? = some o ∧ CellT t o) → J s W'
structure KeptT (t : TypeId) (p : Nat → Prop) (B : Nat) (X Y : World) : Prop where
 size : X.heap.size ≤ Y.heap.size
 same : ∀ (k : Nat) (cs : Array Value) (u : TypeId) (fr : Nat × Nat), X.heap[k]? = some (Obj.cells cs u fr) → (p k ∨ B ≤ k ∧ u = t) → Y.heap[k]? = some (Obj.cells cs u fr)
theorem KeptT.refl (t : TypeId) (p : Nat → Prop) (B : Nat) (X : World) : KeptT t p B X X := ⟨Nat.le_refl _, fun _ _ _ _ h _ => h⟩
theorem KeptT.trans {t : TypeId} {p : Nat → Prop} {B : Nat} {X Y Z : World} (h : KeptT t p B X Y) (k : KeptT t p B Y Z) : KeptT t p B X Z :=
 ⟨Nat.le_trans h.size k.size, fun i cs u fr hi hp => k.same i cs u fr (h.same i cs u fr hi hp) hp⟩
theorem KeptT.of {t : TypeId} {p : Nat → Prop} {B : Nat} {X Y : World} (h : Below X.heap.size X Y) : KeptT t p B X Y :=
 ⟨h.size, fun k _ _ _ hk _ => (h.block k (Array.getElem?_eq_some_iff.1 hk).1).trans hk⟩
theorem KeptT.turn {t : TypeId} {p : Nat → Prop} {B : Nat} {X Y : World} {row : Option Nat} (h : X.grownBy Y row) (hr : ∀ r, row = some r → ∀ cs u fr, X.heap[r]? = some (Obj.cells cs u fr) → ¬ p r ∧ (B ≤ r → u ≠ t)) : KeptT t p B X Y :=
 ⟨h.size, fun k cs u fr hk hp => (h.block k (Array.getElem?_eq_some_iff.1 hk).1 (fun e => by
  obtain ⟨h1, h2⟩ := hr k e.symm cs u fr hk
  rcases hp with hp | ⟨hp, hu⟩
  ·exact h1 hp
  ·exact h2 hp hu)).trans hk⟩
theorem KeptT.book {t : TypeId} {p : Nat → Prop} {B l : Nat} {X : World} {o : Obj} (o' : Obj) (hl : X.heap[l]? = some o) (ho : o.isCells = false) : KeptT t p B X (X.putObj l o') :=
 KeptT.turn (grownBy_putObj' X l o') (fun r e cs u fr hr => by cases e; rw [hl] at hr; cases hr; cases ho)
def SeqT {α : Type} (P : Program) (t : TypeId) (g : Nat) (lb : Array Value) (encs : α → Array Value) (p : Nat → Prop) (all : List α) (w : World) : Prop :=
 ∀ (l m : Nat) (J Jx : List α → World → Prop) (W : World), Below w.heap.size w W → AbT t W.heap.size J → AbT t W.heap.size Jx →
  (∀ pre x W1, pre ++ [x] <+: all → J pre W1 → YieldAt Fence.wide m P l (encs x) W1 fun e W' =>
   (e = .returned (.bool true) ∧ J (pre ++ [x]) W' ∧ KeptT t p w.heap.size W1 W') ∨ (e = .returned (.bool false) ∧ Jx (pre ++ [x]) W')) →
  J [] W →
  CallsIn Fence.wide (m + 1) P g (#[.func (.yield l) #[] #[]] ++ lb) W fun e W' => (∃ v, e = .returned v) ∧ (J all W' ∨ ∃ pre, pre <+: all ∧ Jx pre W')
structure Book (B : Nat) (r : Loop) (W : World) : Prop where
 loop : W.heap[B + 1]? = some (.loop r)
 defs : W.heap[B]? = some (.deferred (some []))
theorem Book.lt {B : Nat} {r : Loop} {W : World} (h : Book B r W) : B + 1 < W.heap.size := (Array.getElem?_eq_some_iff.1 h.loop).1
theorem Book.up {B : Nat} {r : Loop} {W W' : World} {row : Option Nat} (h : Book B r W) (hg : W.grownBy W' row) (hr : ∀ k, row = some k → B + 1 < k) : Book B r W' :=
 ⟨(hg.block _ h.lt (fun e => by have := hr _ e.symm; omega)).trans h.loop, (hg.block _ (by have := h.lt; omega) (fun e => by have := hr _ e.symm; omega)).trans h.defs⟩
theorem Book.put {B : Nat} {r : Loop} {W : World} (h : Book B r W) (r' : Loop) : Book B r' (W.putObj (B + 1) (.loop r')) :=
 ⟨World.putObj_heap_same h.lt, (World.putObj_heap_other (by omega)).trans h.defs⟩
theorem Book.keeps {B : Nat} {r : Loop} {W W' : World} (h : Book B r W) (hk : KeepsFrom B W W') : Book B r W' :=
 ⟨hk.same _ _ (by omega) h.loop rfl, hk.same _ _ (Nat.le_refl _) h.defs rfl⟩
theorem Book.new (w : World) (r : Loop) : Book w.heap.size r ((w.alloc (.deferred (some []))).alloc (.loop r)) := by
 refine ⟨?_, (Below.heap_alloc _ _ _ (by simp)).trans (World.alloc_heap_new w _)⟩
 have h := World.alloc_heap_new (w.alloc (.deferred (some []))) (.loop r)
 rwa [World.size_alloc] at h
theorem OwnT.put {β : Type} {t : TypeId} {B : Nat} {I : β → World → Prop} (hI : OwnT t B I) {s : β} {W : World} {r : Loop} (h : I s W) (hb : Book B r W) (r' : Loop) : I s (W.putObj (B + 1) (.loop r')) :=
 hI s W _ _ h (grownBy_putObj' W (B + 1) _) (fun k e => by cases e; exact ⟨by omega, _, hb.loop, .inl rfl⟩)
theorem range_own {α : Type} {P : Program} {g : Operand} {ps : Array Tmp} {assign body : Code} {Q : Exit → Act → World → Prop} {a : Act} {w : World} {t : TypeId} {m gf : Nat} {lb : Array Value}
  (hg : a.eval g = .func (.func gf) #[] lb) (eg : ∀ args w, (callFunc gf args).run P w = .ok (.enter gf args) w)
  {encs : α → Array Value} {p : Nat → Prop} {all : List α} (hseq : SeqT P t gf lb encs p all w) (hps : ∀ x, (encs x).size = ps.size)
  (I : List α → World → Prop) (Ix : Code → List α → World → Prop) (hI : OwnT t w.heap.size I) (hIx : ∀ c, OwnT t w.heap.size (Ix c)) (h0 : I [] w)
  (Ax : α → Act → World → Prop) (hAx : ∀ x a', OwnFrom w.heap.size (fun (_ : Unit) W => Ax x a' W))
  (hassign : ∀ (l : Nat) (pre : List α) (x : α) (W : World) (K : Act → World → Prop), pre ++ [x] <+: all → I pre W → (∀ a' W', KeepsFrom w.heap.size W W' → KeptT t p w.heap.size W W' → I pre W' → Ax x a' W' → K a' W') →
   assign.wpIn (Fence.wide.inRound l) m P (Exit.then K (fun _ _ _ => False)) { tmps := (ps.zip (encs x)).foldl (fun t (p, v) => t.setIfInBounds p v) a.tmps, defers := [] } W)
  (hbody : ∀ (l : Nat) (pre : List α) (x : α) (a' : Act) (W : World), w.heap.size ≤ l → pre ++ [x] <+: all → I pre W → Ax x a' W → body.wpIn (Fence.wide.inRound l) m P (ownPostG w.heap.size (KeptT t p w.heap.size) I Ix (pre ++ [x]) W) a' W)
  (hdone : ∀ (D : Nat) (W : World), w.heap.size ≤ D → I all W → W.heap[D]? = some (.deferred (some [])) → Q .normal { a with defers := { target := .collected D, args := #[] } :: a.defers } W)
  (hstop : ∀ (D : Nat) (c : Code) (pre : List α) (W : World), w.heap.size ≤ D → pre <+: all → Ix c pre W → W.heap[D]? = some (.deferred (some [])) → c.wpIn Fence.wide (m + 2) P Q { a with defers := { target := .collected D, args := #[] } :: a.defers } W) :
  (Code.rangeFunc g ps assign body).wpIn Fence.wide (m + 2) P Q a w := by
 refine wpIn_rangeFunc fun fn _ => ?_
 obtain ⟨R, hR⟩ : ∃ R : LoopState → Option Code → Loop, R = fun st pe => { state := st, pending := pe, fn, tmps := a.tmps, params := ps, assign, body, defers := w.heap.size } := ⟨_, rfl⟩
 obtain ⟨V, hV⟩ : ∃ V, (w.alloc (.deferred (some []))).alloc (.loop (R .ready none)) = V := ⟨_, rfl⟩
 have hbV : Book w.heap.size (R .ready none) V := by rw [← hV]; exact Book.new w _
 have hgV : ∀ {β : Type} {J : β → World → Prop} {s : β}, OwnT t w.heap.size J → J s w → J s V := fun hJ h => by
  rw [← hV]
  exact hJ _ _ _ none (hJ _ _ _ none h (World.grownBy_alloc _ _ none) (fun _ e => by cases e)) (World.grownBy_alloc _ _ none) (fun _ e => by cases e)
 have hwV : Below w.heap.size w V := by
  rw [← hV]; exact ((Below.refl _ w).alloc (Nat.le_refl _) _).alloc (by simp) _
 have hsz : V.heap.size = w.heap.size + 2 := by rw [← hV]; simp
 refine ⟨w.heap.size + 1, [{ target := .collected w.heap.size, args := #[] }], V, { target := .fn (.func gf) lb, args := #[.func (.yield (w.heap.size + 1)) #[] #[]] }, V, gf,
  #[.func (.yield (w.heap.size + 1)) #[] #[]] ++ lb, V, ?_, ?_, fun _ _ => trivial, ?_, fun _ => by omega, ?_⟩
 ·rw [← hV, hR]; exact run_enterLoop_outer _ _ _ _ _
 ·simp only [resolve, hg]; simp [go_sem]
 ·simp [invoke, go_sem, eg]
 have hrow : ∀ {X : World} {row : Option Nat}, (∀ r, row = some r → V.heap.size ≤ r ∧ ∃ o : Obj, X.heap[r]? = some o ∧ CellT t o) → (∀ r, row = some r → w.heap.size ≤ r ∧ ∃ o : Obj, X.heap[r]? = some o ∧ (o.isCells = false ∨ CellT t o)) :=
  fun h r e => by obtain ⟨h1, o, h2, h3⟩ := h r e; exact ⟨by omega, o, h2, .inr h3⟩
 have hrow' : ∀ {X : World} {row : Option Nat}, (∀ r, row = some r → V.heap.size ≤ r ∧ ∃ o : Obj, X.heap[r]? = some o ∧ CellT t o) → (∀ r, row = some r → w.heap.size + 1 < r) :=
  fun h r e => by have := (h r e).1; omega
 refine (hseq (w.heap.size + 1) m (fun pre W => I pre W ∧ Book w.heap.size (R .ready none) W) (fun pre W => ∃ c, Ix c pre W ∧ Book w.heap.size (R .done (some c)) W) V hwV
  (fun s X Y row h hg hr => ⟨hI s X Y row h.1 hg (hrow hr), h.2.up hg (hrow' hr)⟩)
  (fun s X Y row h hg hr => by obtain ⟨c, hc, hb⟩ := h; exact ⟨c, hIx c s X Y row hc hg (hrow hr), hb.up hg (hrow' hr)⟩) ?_ ⟨hgV hI h0, hbV⟩).mono ?_
 ·rintro pre x W hpre ⟨hi, hb⟩
  have hy := run_yield (P := P) (args := encs x) hb.loop (by rw [hR]; exact hps x)
  rw [hR] at hy
  refine ⟨fn, _, assign, body, hy, roundIn_of_wpIn trivial (hassign _ pre x W _ hpre hi ?_)⟩
  intro a' X hkf hkp hiX hax
  have hbX := hb.keeps hkf
  refine ⟨_, run_beginRound hbX.loop (by rw [hR]), ?_⟩
  have hbY : Book w.heap.size _ (X.putObj (w.heap.size + 1) (.loop { R .ready none with state := .busy })) := hbX.put _
  have hk1 : KeptT t p w.heap.size X (X.putObj (w.heap.size + 1) (.loop { R .ready none with state := .busy })) := KeptT.book _ hbX.loop rfl
  refine wpIn_mono (hbody (w.heap.size + 1) pre x a' _ (by omega) hpre (hI.put hiX hbX _) ((hAx x a').putObj (s := ()) _ hax (by omega) hbX.loop rfl)) ?_
  have hfin : ∀ (jump : Option Code) (Z : World), KeepsFrom w.heap.size (X.putObj (w.heap.size + 1) (.loop { R .ready none with state := .busy })) Z →
    Book w.heap.size { R .ready none with state := .busy } Z ∧ (Instr.endRound (w.heap.size + 1) jump).run P Z = .ok (.bool jump.isNone) (Z.putObj (w.heap.size + 1) (.loop (R (if jump.isNone then .ready else .done) jump))) := fun jump Z hk => by
   have hbZ := hbY.keeps hk
   have := run_endRound (P := P) jump hbZ.loop
   rw [hR] at this hbZ ⊢
   exact ⟨hbZ, this⟩
  rintro e a3 Z hp
  cases e with
  | normal =>
   obtain ⟨h1, h2, h3⟩ := hp
   obtain ⟨hbZ, hr⟩ := hfin none Z h1
   exact ⟨_, _, hr, .inl ⟨rfl, ⟨hI.put h3 hbZ _, hbZ.put _⟩, ((hkp.trans hk1).trans h2).trans (KeptT.book _ hbZ.loop rfl)⟩⟩
  | ret =>
   obtain ⟨h1, h3⟩ := hp
   obtain ⟨hbZ, hr⟩ := hfin (some .ret) Z h1
   exact ⟨_, _, hr, .inr ⟨rfl, .ret, (hIx _).put h3 hbZ _, hbZ.put _⟩⟩
  | exit id =>
   obtain ⟨h1, h3⟩ := hp
   obtain ⟨hbZ, hr⟩ := hfin (some (.exit id)) Z h1
   exact ⟨_, _, hr, .inr ⟨rfl, .exit id, (hIx _).put h3 hbZ _, hbZ.put _⟩⟩
  | goto tt =>
   obtain ⟨h1, h3⟩ := hp
   obtain ⟨hbZ, hr⟩ := hfin (some (.goto tt)) Z h1
   exact ⟨_, _, hr, .inr ⟨rfl, .goto tt, (hIx _).put h3 hbZ _, hbZ.put _⟩⟩
  | panic ch => exact hp.elim
  | outgrown => exact hp.elim
 ·rintro e Z ⟨⟨v, rfl⟩, (⟨hi, hb⟩ | ⟨pre, hSp, c, hi, hb⟩)⟩
  ·have h := run_endLoop (P := P) hb.loop (by rw [hR]; simp)
   refine ⟨_, _, h, ?_⟩
   have e : (R .ready none).pending = none := by rw [hR]
   rw [e]
   exact hdone w.heap.size _ (Nat.le_refl _) (hI.put hi hb _) (hb.put _).defs
  ·have h := run_endLoop (P := P) hb.loop (by rw [hR]; simp)
   refine ⟨_, _, h, ?_⟩
   have e : (R .done (some c)).pending = some c := by rw [hR]
   rw [e]
   exact hstop w.heap.size c pre _ (Nat.le_refl _) hSp ((hIx c).put hi hb _) (hb.put _).defs
theorem wpListIn_store_run {F : Fence} {n : Nat} {P : Program} (w : World) {ops : Array Oper} {rest : List Oper} {op : Oper} {a : Act} {Q : Exit → Act → World → Prop} (hgd : op.guard = none) (ty : TypeId) (x y : Operand) (ho : op.op = .store ty x y)
  (p : Addr) {v : Value} (hx : a.eval x = .pointer (some p)) (hy : a.eval y = v) {w' : World} (hr : (storeVar ty p v).run P w = .ok () w')
  (h : wpListIn F n P ops Q rest (a.put op.dst undef) w') : wpListIn F n P ops Q (op :: rest) a w :=
 wpListIn_plain hgd fun _ hK => by
  unfold Oper.wpIn
  refine ⟨by simp [Oper.about, ho], ?_⟩
  rw [Oper.semAt_plain F _ _ (by rw [ho]; intro c hc; cases hc)]
  unfold execOp
  simp only [ho, hx, hy, Instr.storeAt, Instr.sureAddr, Sem.run_bind, Sem.run_pure, Result.andThen_ok, hr]
  exact hK _ _ h
def Cup (w w' : World) : Prop := ∀ (k : Nat) (cs : Array Value) (u : TypeId) (fr : Nat × Nat), w.heap[k]? = some (Obj.cells cs u fr) → w'.heap[k]? = some (Obj.cells cs u fr)
theorem Cup.of {w w' : World} (h : Below w.heap.size w w') : Cup w w' := fun k _ _ _ hk => (h.block k (Array.getElem?_eq_some_iff.1 hk).1).trans hk
theorem Cup.refl (w : World) : Cup w w := fun _ _ _ _ h => h
theorem Cup.trans {a b c : World} (h : Cup a b) (k : Cup b c) : Cup a c := fun i cs u fr hi => k i cs u fr (h i cs u fr hi)
theorem Cup.kept {t : TypeId} {p : Nat → Prop} {B : Nat} {w X Y : World} (h : Cup w X) (hk : KeptT t p B X Y) (hp : ∀ k, k < w.heap.size → p k) : Cup w Y :=
 fun k cs u fr hw => hk.same k cs u fr (h k cs u fr hw) (.inl (hp k (Array.getElem?_eq_some_iff.1 hw).1))
theorem Cup.turn {w X Y : World} {row : Option Nat} (h : Cup w X) (hg : X.grownBy Y row) (hr : ∀ r, row = some r → w.heap.size ≤ r) : Cup w Y :=
 fun k cs u fr hw => (hg.block k (Array.getElem?_eq_some_iff.1 (h k cs u fr hw)).1 (fun e => by have := hr k e.symm; have := (Array.getElem?_eq_some_iff.1 hw).1; omega)).trans (h k cs u fr hw)
theorem Cup.cell {w w' : World} (h : Cup w w') {p : Addr} {v : Value} (hc : w.cell? p = some v) : w'.cell? p = some v := by
 cases hb : w.heap[p.block]? with
 | none => simp [World.cell?, hb] at hc
 | some o =>
  cases o with
  | cells cs t fr =>
   have h2 := h _ _ _ _ hb
   simp only [World.cell?, hb] at hc
   simp only [World.cell?, h2]
   exact hc
  | _ => simp [World.cell?, hb] at hc
theorem RowAt.cup {α : Type} {f : α → List Value} {q : Nat} {w w' : World} {A : Option Addr} {xs : List α} (h : RowAt f q w A xs) (hb : Cup w w') : RowAt f q w' A xs := fun hn => by
 obtain ⟨B, o, e, hc⟩ := h hn
 exact ⟨B, o, e, fun k x hx j u hj => hb.cell (hc k x hx j u hj)⟩
theorem IntsAt.cup {w w' : World} {A : Option Addr} {xs : List Int} (h : IntsAt w A xs) (hb : Cup w w') : IntsAt w' A xs := fun hn => by
 obtain ⟨B, o, e, hc⟩ := h hn
 exact ⟨B, o, e, fun k x hx => hb.cell (hc k x hx)⟩
theorem Holds.cup {w w' : World} {B : Nat} {t : TypeId} {cs : Array Value} (h : Holds w B t cs) (hb : Cup w w') : Holds w' B t cs := hb _ _ _ _ h
theorem Holds.keptT {t : TypeId} {p : Nat → Prop} {n : Nat} {X Y : World} {B : Nat} {u : TypeId} {cs : Array Value} (h : Holds X B u cs) (hk : KeptT t p n X Y) (hp : p B ∨ n ≤ B ∧ u = t) : Holds Y B u cs := hk.same _ _ _ _ h hp
theorem grow_none {X Y : World} (h : Below X.heap.size X Y) : X.grownBy Y none := ⟨h.os, h.tape, h.output, h.size, fun k hk _ => h.block k hk⟩
theorem AbT.up {β : Type} {t : TypeId} {B : Nat} {J : β → World → Prop} (h : AbT t B J) {s : β} {X Y : World} (hs : J s X) (hb : Below X.heap.size X Y) : J s Y :=
 h s X Y none hs (grow_none hb) (fun r e => by cases e)
theorem ownT_below {β : Type} (t : TypeId) {n B : Nat} {w : World} (hn : n ≤ w.heap.size) (hB : n ≤ B) : OwnT t B (fun (_ : β) W => Below n w W) :=
 fun _ _ _ _ hs hg hr => hs.grown hg (Nat.le_trans hn hs.size) (fun k e => Nat.le_trans hB (hr k e).1)
theorem ownT_holds {β : Type} (t : TypeId) {g B : Nat} {u : TypeId} {cs : Array Value} (hB : g < B) : OwnT t B (fun (_ : β) W => Holds W g u cs) :=
 fun _ _ _ _ hs hg hr => (hg.block g hs.lt (fun e => by have := (hr g e.symm).1; omega)).trans hs
theorem leaves_one {F : Fence} {n : Nat} {P : Program} {fn : Func} {tmps : Array Value} {R : Ending → World → Prop} {v : Value} {w : World} {D : Nat} (hD : w.heap[D]? = some (.deferred (some []))) (h1 : (results fn tmps).run P (w.putObj D (.deferred none)) = .ok v (w.putObj D (.deferred none))) (h2 : R (.returned v) (w.putObj D (.deferred none))) : LeavesInM F n P fn tmps R [{ target := .collected D, args := #[] }] .returning w :=
 ⟨by simp, .inl ⟨D, _, rfl, run_takeDeferred hD, v, h1, h2⟩⟩
theorem below_shut {n D : Nat} {w w' : World} (h : Below n w w') (hn : n ≤ w.heap.size) (hD : n ≤ D) (o : Obj) : Below n w (w'.putObj D o) :=
 h.grown (grownBy_putObj' w' D o) (Nat.le_trans hn h.size) (fun k e => by cases e; exact hD)
theorem KeepsFrom.of_below {B : Nat} {X Y : World} (h : Below X.heap.size X Y) : KeepsFrom B X Y := ⟨h.size, fun k o _ hk _ => (h.block k (Array.getElem?_eq_some_iff.1 hk).1).trans hk⟩
theorem KeepsFrom.set {B : Nat} {X : World} {p : Addr} (h : p.block < B) (u : Value) : KeepsFrom B X (X.setCell p u) :=
 ⟨by simp [World.setCell], fun k o hB hk _ => by rw [Below.heap_setCell X p u k (by omega)]; exact hk⟩
theorem PlanAt.cup {w w' : World} {P : Option Addr} {p : List (List Int)} (h : PlanAt w P p) (hb : Cup w w') : PlanAt w' P p := fun hn => by
 obtain ⟨B, o, e, hc⟩ := h hn
 refine ⟨B, o, e, fun d l hl => ?_⟩
 obtain ⟨A, c, h1, h2, h3⟩ := hc d l hl
 exact ⟨A, c, hb.cell h1, h2.cup hb, h3⟩
theorem BinsAt.cup {w w' : World} {A : Option Addr} {bs : List Bn} (h : BinsAt w A bs) (hb : Cup w w') : BinsAt w' A bs := RowAt.cup h hb
def yEnc (y : Nat × List (Int × Int)) : Array Value := #[.int .i64 y.1, .agg (y.2.flatMap spCells).toArray]
theorem info_warmth : (Tryz.prog.info? 63).map (fun i => (i.zero, i.size, i.bytes)) = some (some (.agg #[.int .i64 0, .int .i64 0, .int .i64 0, .int .i64 0, .int .i64 0, .int .i64 0, .int .i64 0, .int .i64 0]), 8, 64) := by kernel_rfl
theorem store_wall (w : World) (g : Nat) (a0 a1 a2 a3 a4 a5 a6 a7 v0 v1 v2 v3 v4 v5 v6 v7 : Value) (hg : Holds w g 63 #[a0, a1, a2, a3, a4, a5, a6, a7]) (ho : [v0, v1, v2, v3, v4, v5, v6, v7].all Value.oneCell' = true := by rfl) :
  (storeVar 63 ⟨g, 0, none⟩ (.agg #[v0, v1, v2, v3, v4, v5, v6, v7])).run Tryz.prog w = .ok () (w.setRow g #[v0, v1, v2, v3, v4, v5, v6, v7]) := by
 obtain ⟨i0, hi, hz0, hz1, hz2⟩ := info_parts info_warmth
 have h := run_storeCells_at Tryz.prog g 0 63 [v0, v1, v2, v3, v4, v5, v6, v7] 0 _ w hg (by simp) (fun v hv => List.all_eq_true.1 ho v hv)
 simp at h
 simp [storeVar, sizeOf, typeInfo, hi, hz1, Value.cells, h]
theorem wall_vals (s0 s1 s2 s3 : Int × Int) : ([s0, s1, s2, s3].flatMap spCells).toArray = #[.int .i64 s0.1, .int .i64 s0.2, .int .i64 s1.1, .int .i64 s1.2, .int .i64 s2.1, .int .i64 s2.2, .int .i64 s3.1, .int .i64 s3.2] := rfl
theorem grown_row (w : World) (g : Nat) (cs : Array Value) : w.grownBy (w.setRow g cs) (some g) := ⟨rfl, rfl, rfl, by simp [World.setRow], fun k hk hne => setRow_other w g k cs (fun e => hne (by rw [e]))⟩
theorem first_mild {b : Br} {bs : List Bn} (hE : barnErr b bs = 0) : Mild 60 (firstOf bs bs.length) := by
 intro k s hs
 unfold firstOf at hs
 rw [List.take_length] at hs
 by_cases hk : k < bs.length
 ·rw [List.getElem?_append_left (by rw [List.length_map]; exact hk), List.getElem?_map] at hs
  obtain ⟨x, hx⟩ : ∃ z, bs[k]? = some z := ⟨_, List.getElem?_eq_getElem hk⟩
  rw [hx] at hs
  cases hs
  obtain ⟨l, m, hlo, hhi, hl6, hm6, hmk0, hmk1, hw0, hw1, hc0, hc1, -⟩ := good_bin hE hx
  refine ⟨?_, ?_, ?_, ?_⟩ <;> dsimp only <;> omega
 ·rw [List.getElem?_append_right (by rw [List.length_map]; omega), List.getElem?_replicate] at hs
  split at hs
  ·cases hs; exact ⟨by decide, by decide, by decide, by decide⟩
  ·cases hs
theorem pre_next {α : Type} {all pre : List α} {x : α} {r : List α} (h : all = pre ++ x :: r) : pre ++ [x] <+: all := ⟨r, by rw [h, List.append_assoc]; rfl⟩
attribute [local go_sem] Oper.semAt_some
set_option maxRecDepth 100000 in
set_option maxHeartbeats 40000000 in
theorem ends_seq (b : Br) (A : Option Addr) (c : Nat) (bs : List Bn) (hE : barnErr b bs = 0) (P : Option Addr) (q : Nat) (p : List (List Int)) (hpl : p.length ≤ 20000) (hll : ∀ l ∈ p, l.length ≤ 1000) (hin : ∀ l ∈ p, ∀ z ∈ l, within z 0 ((bs.length : Int) - 1) = true) (w0 w : World) (hA : BinsAt w0 A bs) (hP : PlanAt w0 P p) (hb0 : Below w0.heap.size w0 w) (B1 B2 : Nat) (h1 : Holds w B1 26 #[.int .i64 b.cool, .int .i64 b.gangs, .int .i64 b.r0, .int .i64 b.r1, .int .i64 b.r2, .int .i64 b.r3, .int .i64 b.r4, .int .i64 b.r5, .slice A bs.length c]) (h2 : Holds w B2 30 #[.slice P p.length q]) (pk : Nat → Prop) (hpk : ∀ k, k < w0.heap.size → pk k) (hp1 : pk B1) (hp2 : pk B2) :
  SeqT Tryz.prog 63 43 #[.pointer (some ⟨B1, 0, none⟩), .pointer (some ⟨B2, 0, none⟩)] yEnc pk (wallsFrom b bs 0 (firstOf bs bs.length) p) w := by
 intro l m J Jx W hbW hJ hJx hY h0
 have hgood := barn_right hE
 have hn4 : bs.length ≤ 4 := by have := hgood.1; simp only [within, Bool.and_eq_true, decide_eq_true_eq] at this; omega
 clear hgood
 have HE := Lib.hid hE
 have HLL := Lib.hid hll
 have HIN := Lib.hid hin
 have HJ := Lib.hid hJ
 have HJX := Lib.hid hJx
 have HY := Lib.hid hY
 have H0 := Lib.hid h0
 have HPK := Lib.hid hpk
 have HP1 := Lib.hid hp1
 have HP2 := Lib.hid hp2
 have HA := Lib.hid hA
 have HP := Lib.hid hP
 have HSZ : w0.heap.size ≤ W.heap.size := Nat.le_trans hb0.size hbW.size
 have HC : Hid (Cup w0 W) := Lib.hid ((Cup.of hb0).trans (Cup.of hbW))
 have HB1 := Lib.hid (h1.up hbW)
 have HB2 := Lib.hid (h2.up hbW)
 have hq : w.heap.size ≤ W.heap.size := hbW.size
 obtain ⟨f0, f1, f2, f3, e4⟩ := four_of (first_len (Nat.le_refl bs.length) hn4)
 have HF := Lib.hid e4
 have HWL : Hid (WallAt b bs p 0 (firstOf bs bs.length)) := Lib.hid (wall_first hn4)
 have HMF : Hid (Mild 60 [f0, f1, f2, f3]) := Lib.hid (by rw [← e4]; exact first_mild hE)
 clear hE hll hin hJ hJx hY h0 hpk hp1 hp2 hA hP hb0 hbW h1 h2 e4
 have kb0 : W.cell? ⟨B1, 0, none⟩ = some (.int .i64 b.cool) := HB1.out.cell 0
 have kb1 : W.cell? ⟨B1, 1, none⟩ = some (.int .i64 b.gangs) := HB1.out.cell 1
 have kb2 : W.cell? ⟨B1, 2, none⟩ = some (.int .i64 b.r0) := HB1.out.cell 2
 have kb3 : W.cell? ⟨B1, 3, none⟩ = some (.int .i64 b.r1) := HB1.out.cell 3
 have kb4 : W.cell? ⟨B1, 4, none⟩ = some (.int .i64 b.r2) := HB1.out.cell 4
 have kb5 : W.cell? ⟨B1, 5, none⟩ = some (.int .i64 b.r3) := HB1.out.cell 5
 have kb6 : W.cell? ⟨B1, 6, none⟩ = some (.int .i64 b.r4) := HB1.out.cell 6
 have kb7 : W.cell? ⟨B1, 7, none⟩ = some (.int .i64 b.r5) := HB1.out.cell 7
 have kb8 : W.cell? ⟨B1, 8, none⟩ = some (.slice A bs.length c) := HB1.out.cell 8
 have lb := HB1.out.lt
 have kp0 : W.cell? ⟨B2, 0, none⟩ = some (.slice P p.length q) := HB2.out.cell 0
 have lp := HB2.out.lt
 refine callsIn_of_wp Tryz.func43 rfl trivial ?_ rfl
 simp only [Tryz.ntmps43, List.size_toArray, List.length_cons, List.length_nil, Nat.reduceAdd, Nat.reduceSub, Array.replicate_succ, Array.replicate_zero, List.push_toArray, List.append_toArray, List.nil_append, List.cons_append]
 gi_wp2_with (refine ⟨trivial, ?_⟩; gi_at_call 44; refine (callsIn_wide.2 (atFirst_any b A c bs _ (HA.out.cup HC.out) hn4)).mono ?_; rw [HF.out, wall_vals]; rintro e w1 ⟨rfl, hb1⟩; have HQ1 := Lib.hid hb1; have kp0' := up_cell hb1 kp0; have lp' := World.block_lt_of_cell? w1 _ kp0'; clear kb0 kb1 kb2 kb3 kb4 kb5 kb6 kb7 kb8 lb kp0 lp)
 have hq1 := HQ1.out.size
 gi_loopw [11] (fun v11 wr => ∃ (d : Nat) (s0 s1 s2 s3 : Int × Int) (pre : List (Nat × List (Int × Int))), v11 = .int .i64 (d : Int) ∧ d ≤ p.length ∧ Hid (wallsFrom b bs 0 (firstOf bs bs.length) p = pre ++ wallsFrom b bs d [s0, s1, s2, s3] (p.drop d)) ∧ Hid (Mild (60 + 20 * (d : Int)) [s0, s1, s2, s3]) ∧ Hid (J pre wr) ∧ Hid (Cup w0 wr) ∧ Hid (Holds wr B1 26 #[.int .i64 b.cool, .int .i64 b.gangs, .int .i64 b.r0, .int .i64 b.r1, .int .i64 b.r2, .int .i64 b.r3, .int .i64 b.r4, .int .i64 b.r5, .slice A bs.length c]) ∧ Hid (Holds wr B2 30 #[.slice P p.length q]) ∧ Hid (Holds wr w1.heap.size 63 #[.int .i64 s0.1, .int .i64 s0.2, .int .i64 s1.1, .int .i64 s1.2, .int .i64 s2.1, .int .i64 s2.2, .int .i64 s3.1, .int .i64 s3.2])) (fun v11 _ => p.length - (intOf v11).toNat)
 case atStart => exact ⟨0, f0, f1, f2, f3, [], rfl, Nat.zero_le _, Lib.hid (by rw [List.drop_zero, HF.out]; rfl), Lib.hid HMF.out, Lib.hid (AbT.up HJ.out H0.out (HQ1.out.trans zg)), Lib.hid (HC.out.trans (Cup.of (HQ1.out.trans zg))), Lib.hid (HB1.out.up (HQ1.out.trans zg)), Lib.hid (HB2.out.up (HQ1.out.trans zg)), Lib.hid (show Holds _ _ 63 #[.int .i64 f0.1, .int .i64 f0.2, .int .i64 f1.1, .int .i64 f1.2, .int .i64 f2.1, .int .i64 f2.2, .int .i64 f3.1, .int .i64 f3.2] from by (repeat first | (with_reducible first | assumption | apply Holds.set4 | apply Holds.set2 | apply Holds.putL | ((refine Holds.new' _ _ ?_); (simp; done)) | refine Holds.alloc ?_ _ | refine Holds.drew ?_ | refine Holds.far ?_ (by simp only [ne_eq]; omega) _) | rfl))⟩
 case round =>
  have hq1 := HQ1.out.size
  obtain ⟨d, s0, s1, s2, s3, pre, rfl, hd, HWA, HM, HJA, HCA, HBA, HPA, HOA⟩ := hrel
  by_cases hlt : d < p.length
  ·have hlt' : (d : Int) < p.length := by omega
   obtain ⟨l2, hl2⟩ : ∃ z, p[d]? = some z := ⟨_, List.getElem?_eq_getElem hlt⟩
   have hmem : l2 ∈ p := List.mem_of_getElem? hl2
   obtain ⟨Bp, op, rfl, hrow⟩ := (HP.out.cup HCA.out) (by omega)
   obtain ⟨LA, lc, kl, hI, -⟩ := hrow d l2 hl2
   have ll := World.block_lt_of_cell? wr _ kl
   have HI := Lib.hid hI
   have HL2 := Lib.hid hl2
   have HI2 := Lib.hid (HIN.out l2 hmem)
   have hlen := HLL.out l2 hmem
   clear hrow hI hl2 hmem
   have kb0 : wr.cell? ⟨B1, 0, none⟩ = some (.int .i64 b.cool) := HBA.out.cell 0
   have kb1 : wr.cell? ⟨B1, 1, none⟩ = some (.int .i64 b.gangs) := HBA.out.cell 1
   have kb2 : wr.cell? ⟨B1, 2, none⟩ = some (.int .i64 b.r0) := HBA.out.cell 2
   have kb3 : wr.cell? ⟨B1, 3, none⟩ = some (.int .i64 b.r1) := HBA.out.cell 3
   have kb4 : wr.cell? ⟨B1, 4, none⟩ = some (.int .i64 b.r2) := HBA.out.cell 4
   have kb5 : wr.cell? ⟨B1, 5, none⟩ = some (.int .i64 b.r3) := HBA.out.cell 5
   have kb6 : wr.cell? ⟨B1, 6, none⟩ = some (.int .i64 b.r4) := HBA.out.cell 6
   have kb7 : wr.cell? ⟨B1, 7, none⟩ = some (.int .i64 b.r5) := HBA.out.cell 7
   have kb8 : wr.cell? ⟨B1, 8, none⟩ = some (.slice A bs.length c) := HBA.out.cell 8
   have lb := HBA.out.lt
   obtain ⟨ko0, ko1, ko2, ko3, ko4, ko5, ko6, ko7⟩ := HOA.out.c8
   have lo := HOA.out.lt
   gi_wp2_with (first | (refine wpListIn_store_run _ rfl 63 _ _ rfl ⟨w1.heap.size, 0, none⟩ rfl rfl hrun ?_) | (refine ⟨trivial, ?_⟩; gi_at_call 45; refine (callsIn_wide.2 (warmer_any b A c bs HE.out s0 s1 s2 s3 (60 + 20 * (d : Int)) (by omega) (by omega) HM.out LA lc l2 _ (HA.out.cup HCA.out) HI.out hlen HI2.out)).mono ?_; rintro e w2 ⟨ws, rfl, hw, hb2⟩; obtain ⟨t0, t1, t2, t3, et⟩ := four_of hw.1; subst et; rw [wall_vals]; have HO2 := Lib.hid (HOA.out.up hb2); obtain ⟨w3, hw3⟩ : ∃ z, z = w2.setRow w1.heap.size #[.int .i64 t0.1, .int .i64 t0.2, .int .i64 t1.1, .int .i64 t1.2, .int .i64 t2.1, .int .i64 t2.2, .int .i64 t3.1, .int .i64 t3.2] := ⟨_, rfl⟩; have hrun := store_wall w2 w1.heap.size (.int .i64 s0.1) (.int .i64 s0.2) (.int .i64 s1.1) (.int .i64 s1.2) (.int .i64 s2.1) (.int .i64 s2.2) (.int .i64 s3.1) (.int .i64 s3.2) (.int .i64 t0.1) (.int .i64 t0.2) (.int .i64 t1.1) (.int .i64 t1.2) (.int .i64 t2.1) (.int .i64 t2.2) (.int .i64 t3.1) (.int .i64 t3.2) HO2.out; rw [← hw3] at hrun; have HO3 : Holds w3 w1.heap.size 63 #[.int .i64 t0.1, .int .i64 t0.2, .int .i64 t1.1, .int .i64 t1.2, .int .i64 t2.1, .int .i64 t2.2, .int .i64 t3.1, .int .i64 t3.2] := (by rw [hw3]; exact setRow_heap w2 _ _ _ _ _ HO2.out); have HG3 : w2.grownBy w3 (some w1.heap.size) := (by rw [hw3]; exact grown_row w2 _ _); have HS := step_of hw rfl; have HT : Hid ([t0, t1, t2, t3] = stepW b bs l2 [s0, s1, s2, s3]) := Lib.hid HS; have HW := Lib.hid hw; have HR2 := Lib.hid hb2; have HOO := Lib.hid HO3; have HGG := Lib.hid HG3; clear hw HS; have kt0 : w3.cell? ⟨w1.heap.size, 0, none⟩ = some (.int .i64 t0.1) := HOO.out.cell 0; have kt1 : w3.cell? ⟨w1.heap.size, 1, none⟩ = some (.int .i64 t0.2) := HOO.out.cell 1; have kt2 : w3.cell? ⟨w1.heap.size, 2, none⟩ = some (.int .i64 t1.1) := HOO.out.cell 2; have kt3 : w3.cell? ⟨w1.heap.size, 3, none⟩ = some (.int .i64 t1.2) := HOO.out.cell 3; have kt4 : w3.cell? ⟨w1.heap.size, 4, none⟩ = some (.int .i64 t2.1) := HOO.out.cell 4; have kt5 : w3.cell? ⟨w1.heap.size, 5, none⟩ = some (.int .i64 t2.2) := HOO.out.cell 5; have kt6 : w3.cell? ⟨w1.heap.size, 6, none⟩ = some (.int .i64 t3.1) := HOO.out.cell 6; have kt7 : w3.cell? ⟨w1.heap.size, 7, none⟩ = some (.int .i64 t3.2) := HOO.out.cell 7; have lt := HOO.out.lt; have HJ3 : J pre w3 := HJ.out _ _ _ _ (AbT.up HJ.out HJA.out HR2.out) HGG.out (fun r e => (by cases e; exact ⟨hq1, _, HO2.out, _, _, rfl⟩)); have HNX : wallsFrom b bs 0 (firstOf bs bs.length) p = pre ++ (d, [t0, t1, t2, t3]) :: wallsFrom b bs (d + 1) [t0, t1, t2, t3] (p.drop (d + 1)) := (by rw [HWA.out, walls_step HL2.out, ← HT.out]); obtain ⟨fn, tmps, assign, body, hy, hR⟩ := HY.out pre (d, [t0, t1, t2, t3]) w3 (pre_next HNX) HJ3; have HN := Lib.hid HNX; clear HNX HJ3 HO3 HG3 hb2 hw3; simp only [yEnc, wall_vals] at hy) | (refine hR.mono ?_; clear hR; rintro e w4 (⟨rfl, hj4, hk4⟩ | ⟨rfl, hx4⟩)))
   ·have HC3 : Cup w0 w3 := (HCA.out.trans (Cup.of HR2.out)).turn HGG.out (fun r e => by cases e; exact Nat.le_trans HSZ HQ1.out.size)
    have hn1 : B1 ≠ w1.heap.size := by have h := HB1.out.lt; have := HQ1.out.size; omega
    have hn2 : B2 ≠ w1.heap.size := by have h := HB2.out.lt; have := HQ1.out.size; omega
    have H13 := (HBA.out.up HR2.out).grown HGG.out hn1
    have H23 := (HPA.out.up HR2.out).grown HGG.out hn2
    have HM3 : Mild (60 + 20 * ((d + 1 : Nat) : Int)) [t0, t1, t2, t3] := by have h := stepW_mild (l := l2) HE.out rfl HM.out; rw [← HT.out] at h; rw [show (60 : Int) + 20 * ((d + 1 : Nat) : Int) = 60 + 20 * (d : Int) + 20 from by omega]; exact h
    have HX13 := Lib.hid (H13.keptT hk4 (.inl HP1.out))
    have HX23 := Lib.hid (H23.keptT hk4 (.inl HP2.out))
    have HXO := Lib.hid (HOO.out.keptT hk4 (.inr ⟨Nat.le_trans hq HQ1.out.size, rfl⟩))
    have HXC := Lib.hid (HC3.kept hk4 HPK.out)
    have HXJ := Lib.hid hj4
    have HXM := Lib.hid HM3
    clear HC3 H13 H23 HM3 hk4 hj4
    have HXN : Hid (wallsFrom b bs 0 (firstOf bs bs.length) p = (pre ++ [(d, [t0, t1, t2, t3])]) ++ wallsFrom b bs (d + 1) [t0, t1, t2, t3] (p.drop (d + 1))) := Lib.hid (by rw [HN.out, List.append_assoc]; rfl)
    gi_wp2_with fail
    go_roundw
    case rel => exact ⟨d + 1, t0, t1, t2, t3, pre ++ [(d, [t0, t1, t2, t3])], by go_num, hlt, HXN, HXM, HXJ, HXC, HX13, HX23, HXO⟩
    case measure => first | (simp [intOf]; done) | (simp [intOf]; omega)
   ·gi_wp2_with fail
    exact bodyPost_ret (results_none rfl _ _ _) rfl ⟨⟨_, rfl⟩, .inr ⟨_, pre_next HN.out, hx4⟩⟩
  ·have hlt' : ¬ (d : Int) < p.length := by omega
   have HEND : Hid (pre = wallsFrom b bs 0 (firstOf bs bs.length) p) := Lib.hid (by rw [HWA.out, List.drop_of_length_le (by omega)]; simp [wallsFrom])
   gi_wp2_with fail
   exact bodyPost_end (results_none rfl _ _ _) rfl ⟨⟨_, rfl⟩, .inl (by rw [← HEND.out]; exact HJA.out)⟩
section
variable {F : Fence} {nF : Nat} {P : Program} {ops : Array Oper} {Q : Exit → Act → World → Prop}
theorem wp_of_listIn {o : Oper} {a : Act} {w : World} {K : Act → World → Prop} {ops' : Array Oper} (hg : o.guard = none) (h : wpListIn F nF P ops' (Thence Q K) [o] a w) : o.wpIn F nF P a w K Q := by
 unfold wpListIn at h
 rw [if_pos (by simp [Region.wanted, hg])] at h
 unfold Oper.wpIn at h ⊢
 refine ⟨h.1, ?_⟩
 have h := h.2
 generalize (o.semAt F.round a.eval).run P w = r at *
 cases r with
 | ok x w' =>
  cases x <;> simp only [Oper.uponIn] at h ⊢ <;>
   first
    | exact h
    | exact ⟨h.1, CallsIn.mono h.2 (fun e w'' he => by cases e <;> first | exact he | (obtain ⟨a', w', h2⟩ := he; exact ⟨a', w', h2⟩))⟩
    | exact ⟨h.1, RowsIn.mono h.2 (fun _ _ he => he)⟩
    | exact ⟨h.1, RoundIn.mono h.2 (fun e w'' he => by cases e <;> first | exact he | (obtain ⟨a', w', h2⟩ := he; exact ⟨a', w', h2⟩))⟩
 | halt x w' => cases x <;> simp only [Oper.uponIn] at h ⊢ <;> exact h
theorem wp_region_partsGI {id : Nat} {a0 : Act} {w0 : World} (hm : P.follows .mixedOrders = true) (ds : List (Option Nat)) (V : Nat → (Nat → Value) → World → Prop) (uses : List (List Nat)) (dead : List (Nat × Nat)) (Base : World → Prop)
  (hok : partsOkG ops ds uses dead a0.tmps.size = true)
  (hx : ∀ j x x' w, (∀ t ∈ uses.getD j [], x t = x' t) → V j x w → V j x' w)
  (hV : ∀ j x w w', Below w.heap.size w w' → V j x w → V j x w')
  (hB : ∀ w w', Below w.heap.size w w' → Base w → Base w') (h0 : Base w0) (h00 : ∀ j, ops.size ≤ j → V j (fun t => a0.tmps.getD t undef) w0)
  (hstep : Each (fun i o => ∀ (x : Nat → Value) (w : World), Base w → (∀ j, (waits o j || decide (ops.size ≤ j)) = true → safe ops dead i j = true → V j x w) →
   ∀ K : Act → World → Prop, (∀ v w', (Below w.heap.size w w' ∨ Base w' ∧ ∀ j x, dead.contains (i, j) = false → j ≠ i → V j x w → V j x w') → V i (setSlot x (ds.getD i none) v) w' → K (frameOf (slotsOf ds) (setSlot x (ds.getD i none) v) a0) w') →
    wpListIn F nF P ops (Thence Q K) [o] (frameOf (slotsOf ds) x a0) w) 0 ops.toList)
  (hend : ∀ (x : Nat → Value) (w : World), Base w → (∀ j, (∀ i, i < ops.size → dead.contains (i, j) = false) → V j x w) → Q .normal (frameOf (slotsOf ds) x a0) w) :
  (Code.region id ops true).wpIn F nF P Q a0 w0 := by
 simp only [partsOkG, Bool.and_eq_true, decide_eq_true_eq, beq_iff_eq, List.all_eq_true, List.mem_range, Bool.or_eq_true] at hok
 obtain ⟨⟨⟨⟨⟨⟨hdst, hnd⟩, hlt⟩, hgd⟩, hord⟩, huse⟩, huse0⟩ := hok
 have hget : ∀ i, i < ops.size → ∃ o, ops[i]? = some o ∧ ops.toList[i]? = some o ∧ o.guard = none ∧ o.dst = ds.getD i none := by
  intro i hi
  refine ⟨ops[i], by simp [hi], by simp [hi], ?_, ?_⟩
  ·have := hgd (ops[i]) (List.mem_of_getElem? (i := i) (by simp [hi]))
   simpa using this
  ·rw [← hdst]
   simp [List.getD, hi]
 have hordr : ∀ (listed : Array Bool), listed.size = ops.size → Region.ready .any ops listed = [] → ∀ i, i < ops.size → listed.getD i false = true := by
  intro listed hsz hr i
  induction i using Nat.strongRecOn with
  | ind i ih =>
   intro hi
   cases hl : listed.getD i false with
   | true => rfl
   | false =>
    exfalso
    have : i ∈ Region.ready .any ops listed := by
     simp only [Region.ready, List.mem_filter, List.mem_range, Bool.and_eq_true, Bool.not_eq_true']
     refine ⟨hi, by rw [getD_tf (by omega) true false]; exact hl, ?_⟩
     have ho : ops[i]? = some ops[i] := by simp [hi]
     have hb := hord i hi
     rw [ho] at hb ⊢
     simp only [Option.map_some, Option.getD_some, Array.all_eq_true_iff_forall_mem] at hb ⊢
     intro e he
     cases hbd : Region.binds .any e with
     | false => simp
     | true =>
      have h1 : e.on < i := by simpa [hbd] using hb e he
      simp [ih e.on h1 (by omega)]
    rw [hr] at this
    cases this
 have fin : ∀ (listed : Array Bool) (a : Act) (w : World), OnTheWayG ops ds V dead Base a0 listed a w → Region.ready .any ops listed = [] → Q .normal a w := by
  rintro listed a w ⟨hsz, _, hb, x, rfl, hx'⟩ hr
  have hall := hordr listed hsz hr
  exact hend x w hb (fun j hd => hx' j (fun hj => hall j hj) (fun i hi _ => hd i hi))
 have main : ∀ (fuel : Nat) (listed : Array Bool) (a : Act) (w : World), listed.toList.countP (fun b => !b) ≤ fuel → OnTheWayG ops ds V dead Base a0 listed a w → wpAnyIn F nF P .any ops Q fuel listed a w := by
  intro fuel
  induction fuel with
  | zero =>
   intro listed a w hfuel hway
   have hr : Region.ready .any ops listed = [] := by
    rw [List.eq_nil_iff_forall_not_mem]
    intro i hi
    obtain ⟨h1, h2, _⟩ := ready_spec hi
    have h0 : listed.toList.countP (fun b => !b) = 0 := by omega
    rw [List.countP_eq_zero] at h0
    have hsz := hway.1
    have : listed[i]'(by omega) = true := by
     have := h0 (listed[i]'(by omega)) (by simp)
     simpa using this
    simp [Array.getD, show i < listed.size from by omega, this] at h2
   exact ⟨hr, fin listed a w hway hr⟩
  | succ fuel ih =>
   intro listed a w hfuel hway
   refine ⟨fin listed a w hway, fun i hi => ?_⟩
   obtain ⟨h1, h2, h3⟩ := ready_spec hi
   have hsz := hway.1
   have his : i < listed.size := by omega
   have hfl : listed[i] = false := by simpa [Array.getD, his] using h2
   have hcount : (listed.setIfInBounds i true).toList.countP (fun b => !b) ≤ fuel := by
    have hli : listed.toList[i]'(by simpa using his) = false := by simpa using hfl
    have hpos : 0 < listed.toList.countP (fun b => !b) := List.countP_pos_iff.2 ⟨false, List.mem_of_getElem? (i := i) (by simp [his, hfl]), rfl⟩
    rw [Array.toList_setIfInBounds, List.countP_set (by simpa using his), hli]
    simp only [Bool.not_false, Bool.not_true, if_true, Bool.false_eq_true, if_false]
    omega
   have hsz' : (listed.setIfInBounds i true).size = ops.size := by simp [hsz]
   have hnew : ∀ j, (listed.setIfInBounds i true).getD j false = if j = i then true else listed.getD j false := by
    intro j
    by_cases hj : j < listed.size
    ·by_cases hji : j = i
     ·subst hji; simp [Array.getD, hj]
     ·simp [Array.getD, hj, hji, Array.getElem_setIfInBounds, Ne.symm hji]
    ·have : j ≠ i := by omega
     simp [Array.getD, hj, this]
   obtain ⟨_, hcl, hb, x, rfl, hx'⟩ := hway
   have hli : listed.getD i false = false := by rw [getD_tf his false true]; exact h2
   have hcl' : ∀ k o, ops[k]? = some o → (listed.setIfInBounds i true).getD k false = true → ∀ e ∈ o.after, Region.binds .any e = true → (listed.setIfInBounds i true).getD e.on false = true := by
    intro k o hk hl e he hb
    rw [hnew] at hl ⊢
    by_cases hei : e.on = i
    ·rw [if_pos hei]
    ·rw [if_neg hei]
     by_cases hki : k = i
     ·subst hki; exact h3 o hk e he hb
     ·rw [if_neg hki] at hl; exact hcl k o hk hl e he hb
   obtain ⟨o, ho1, ho2, hg, hd⟩ := hget i h1
   have hst := Each.at_ _ 0 i o hstep ho2
   simp only [Nat.zero_add] at hst
   unfold wpOpIn
   rw [ho1]
   simp only [Region.wanted, hg, if_true]
   have hseen : ∀ j, (waits o j || decide (ops.size ≤ j)) = true → safe ops dead i j = true → V j x w := by
    intro j hj hsafe
    simp only [safe, List.all_eq_true, Bool.or_eq_true, Bool.not_eq_true', beq_eq_false_iff_ne, beq_iff_eq] at hsafe
    have hlj : j < ops.size → listed.getD j false = true := by
     intro hjs
     rw [Bool.or_eq_true] at hj
     rcases hj with hj | hj
     ·simp only [waits, List.any_eq_true, Bool.and_eq_true, beq_iff_eq] at hj
      obtain ⟨e, he, hbd, rfl⟩ := hj
      exact h3 o ho1 e (by simpa using he) hbd
     ·exact absurd hjs (by simpa using hj)
    refine hx' j hlj (fun k hk hlk => ?_)
    cases hdd : dead.contains (k, j) with
    | false => rfl
    | true =>
     exfalso
     have hmem : (k, j) ∈ dead := by simpa using hdd
     rcases hsafe _ hmem with (h | h) | h
     ·exact h rfl
     ·simp only at h; subst h; rw [hli] at hlk; cases hlk
     ·have := reach_spec hcl 6 k i (fun o' ho' e' he' hb' => hcl k o' ho' hlk e' he' hb') h
      rw [hli] at this
      cases this
   have hds : ∀ t, ds.getD i none = some t → t ∈ slotsOf ds := by
    intro t ht
    refine List.mem_filterMap.2 ⟨some t, ?_, rfl⟩
    rw [List.getD_eq_getElem?_getD] at ht
    cases hq : ds[i]? with
    | none => rw [hq] at ht; cases ht
    | some u => rw [hq] at ht; simp at ht; subst ht; exact List.mem_of_getElem? hq
   refine wp_of_listIn (ops' := ops) hg (hst x w hb hseen _ (fun v w' hor hv => ?_))
   rw [← frame_putG (slotsOf ds) x a0 (ds.getD i none) v hds]
   rw [frame_putG (slotsOf ds) x a0 (ds.getD i none) v hds]
   have hkeep : Base w' ∧ ∀ j x, dead.contains (i, j) = false → j ≠ i → V j x w → V j x w' := by
    rcases hor with h | h
    ·exact ⟨hB _ _ h hb, fun j x _ _ hv => hV j x w w' h hv⟩
    ·exact h
   refine ih _ _ w' hcount ⟨hsz', hcl', hkeep.1, _, rfl, fun j hlj hdj => ?_⟩
   by_cases hji : j = i
   ·subst hji; exact hv
   ·have hlj' : j < ops.size → listed.getD j false = true := fun hj => by
     have := hlj hj
     rwa [hnew, if_neg hji] at this
    have hold := hx' j hlj' (fun k hk hlk => hdj k hk (by rw [hnew]; split; rfl; exact hlk))
    have hdi := hdj i h1 (by rw [hnew]; simp)
    refine hx j x _ w' (fun t ht => ?_) (hkeep.2 j x hdi hji hold)
    cases hdi' : ds.getD i none with
    | none => rfl
    | some d =>
     simp only [setSlot]
     by_cases htd : t = d
     ·subst htd
      exfalso
      by_cases hj : j < ops.size
      ·rcases huse j hj t ht i h1 with (h | h) | h
       ·exact hji h.symm
       ·rw [hdi'] at h; simp at h
       ·have := reach_spec hcl 6 j i (fun o' ho' e' he' hb' => hcl j o' ho' (hlj' hj) e' he' hb') h
        rw [hli] at this
        cases this
      ·have hjl : j < uses.length := by
        rcases Nat.lt_or_ge j uses.length with h | h
        ·exact h
        ·rw [List.getD_eq_getElem?_getD, List.getElem?_eq_none h] at ht; cases ht
       rcases huse0 j hjl with h | h
       ·exact hj h
       ·rcases h t ht i h1 with h | h
        ·rw [hdi'] at h; simp at h
        ·rw [h] at hdi; cases hdi
     ·rw [if_neg htd]
 refine wpIn_region_any hm (main ops.size _ a0 _ ?_ ⟨by simp, fun i o _ hl => absurd hl (by simp [Array.getD]), hB _ _ ((Below.refl _ w0).drew) h0, _, (frame_self (slotsOf ds) a0).symm, fun j hl _ => ?_⟩)
 ·have := List.countP_le_length (p := fun b => !b) (l := (Array.replicate ops.size false).toList)
  simpa using this
 ·rcases Nat.lt_or_ge j ops.size with h | h
  ·have := hl h
   simp [Array.getD] at this
  ·exact hV _ _ _ _ ((Below.refl _ w0).drew) (h00 j h)
end
open Go.RowKit Go.Shelf
theorem walls_four (b : Br) (bs : List Bn) : ∀ (p : List (List Int)) (d : Nat) (ws : List (Int × Int)), ws.length = 4 → ∀ y ∈ wallsFrom b bs d ws p, y.2.length = 4 := by
 intro p
 induction p with
 | nil => intro d ws _ y h; simp [wallsFrom] at h
 | cons l p ih =>
  intro d ws h4 y h
  rw [wallsFrom] at h
  have h5 : (stepW b bs l ws).length = 4 := by rw [step_len, h4]
  rcases List.mem_cons.1 h with rfl | h
  ·exact h5
  ·exact ih _ _ h5 y h
theorem mem_pre {α : Type} {pre all : List α} {x : α} (h : pre ++ [x] <+: all) : x ∈ all := h.subset (by simp)
attribute [local go_sem] Oper.semAt_some
theorem planErrs_right {n : Nat} {gangs : Int} : ∀ {p : List (List Int)}, planErrs n gangs p = 0 → ∀ l ∈ p, dayErr n gangs l = 0 := by
 intro p
 induction p with
 | nil => intro _ l hl; cases hl
 | cons x p ih =>
  intro h l hl
  rw [planErrs] at h
  by_cases hx : dayErr n gangs x = 0
  ·rw [if_neg (by simp [hx])] at h
   rcases List.mem_cons.1 hl with rfl | hl
   ·exact hx
   ·exact ih h l hl
  ·rw [if_pos hx] at h; exact absurd h hx
theorem dayErr_in {n : Nat} {gangs : Int} {l : List Int} (h : dayErr n gangs l = 0) : ∀ z ∈ l, within z 0 ((n : Int) - 1) = true := by
 have ha : l.all (fun k => within k 0 ((n : Int) - 1)) = true := by
  cases hb : l.all (fun k => within k 0 ((n : Int) - 1)) with
  | true => rfl
  | false => rw [dayErr_not hb] at h; cases h
 exact List.all_eq_true.1 ha
theorem plan_right {n : Nat} {gangs : Int} {p : List (List Int)} (h : planErr n gangs p = 0) : p.length ≤ 20000 ∧ ∀ l ∈ p, ∀ z ∈ l, within z 0 ((n : Int) - 1) = true := by
 unfold planErr at h
 split at h
 ·cases h
 ·exact ⟨by omega, fun l hl => dayErr_in (planErrs_right h l hl)⟩
theorem check_right {b : Br} {bs : List Bn} {p : List (List Int)} (h : checkErr b bs p = 0) : barnErr b bs = 0 ∧ p.length ≤ 20000 ∧ ∀ l ∈ p, ∀ z ∈ l, within z 0 ((bs.length : Int) - 1) = true := by
 unfold checkErr at h
 by_cases hb : barnErr b bs = 0
 ·rw [if_neg (by simp [hb])] at h
  exact ⟨hb, plan_right h⟩
 ·rw [if_pos hb] at h; exact absurd h hb
open Go.RowKit Go.Shelf
def pick (k : Nat) (y : Nat × List (Int × Int)) : Int × Int := (y.2[k]?).getD (0, 0)
def OwnSp (w : World) (B : Nat) (v : Value) (l : List (Int × Int)) : Prop := w.ownsRow B 40 2 v l.length (l.flatMap spCells)
theorem OwnSp.up {w w' : World} {B : Nat} {v : Value} {l : List (Int × Int)} (h : OwnSp w B v l) (hb : Below w.heap.size w w') : OwnSp w' B v l := rowq_up h hb
theorem OwnSp.far {w : World} {B : Nat} {v : Value} {l : List (Int × Int)} (h : OwnSp w B v l) {p : Addr} (hp : p.block < B) (u : Value) : OwnSp (w.setCell p u) B v l := rowq_far h hp u
theorem OwnSp.nil (w : World) (B : Nat) : OwnSp w B (.slice none 0 0) [] := World.ownsRow_nil w B _ _
theorem OwnSp.snoc {w : World} {B : Nat} {v : Value} {l : List (Int × Int)} {s : Int × Int} (h : w.ownsRow B 40 2 v (l.length + 1) (l.flatMap spCells ++ spCells s)) : OwnSp w B v (l ++ [s]) := by
 unfold OwnSp
 rw [List.length_append, List.flatMap_append]
 simpa using h
theorem OwnSp.turn {w w' : World} {B : Nat} {v : Value} {l : List (Int × Int)} {row : Option Nat} (h : OwnSp w B v l) (hg : w.grownBy w' row) (hr : ∀ r, row = some r → ∀ cs u fr, w.heap[r]? = some (Obj.cells cs u fr) → u ≠ 40) : OwnSp w' B v l := by
 obtain ⟨hl, h | ⟨g, cap, cur, hv, hB, hgc, r⟩⟩ := h
 ·exact ⟨hl, .inl h⟩
 ·exact ⟨hl, .inr ⟨g, cap, cur, hv, hB, (hg.block g (Array.getElem?_eq_some_iff.1 hgc).1 (fun e => hr g e.symm _ _ _ hgc rfl)).trans hgc, r⟩⟩
theorem ownT_sp {β : Type} {t : TypeId} {B C : Nat} {v : Value} {l : List (Int × Int)} (ht : t ≠ 40) : OwnT t C (fun (_ : β) W => OwnSp W B v l) := fun _ X Y row hs hg hr =>
 hs.turn hg (fun r e cs u fr hc => by
  obtain ⟨_, o, ho, hq⟩ := hr r e
  rw [hc] at ho
  cases ho
  rcases hq with hq | ⟨cs', fr', hq⟩
  ·cases hq
  ·cases hq; exact ht)
theorem OwnSp.block {w : World} {B : Nat} {v : Value} {l : List (Int × Int)} (h : OwnSp w B v l) : ∀ r, v.ownBlock = some r → B ≤ r ∧ ∃ cs fr, w.heap[r]? = some (Obj.cells cs 40 fr) := by
 intro r e
 obtain ⟨_, ⟨rfl, _⟩ | ⟨g, cap, cur, rfl, hB, hg, _⟩⟩ := h
 ·cases e
 ·cases e; exact ⟨hB, cur, _, hg⟩
theorem sp_one (s : Int × Int) : ∀ u ∈ spCells s, u.oneCell' = true := by
 intro u hu
 simp only [spCells, List.mem_cons, List.not_mem_nil, or_false] at hu
 rcases hu with rfl | rfl <;> rfl
theorem und_spans0 : Tryz.prog.underlying 33 = some (.slice 40) := by kernel_rfl
theorem keeps_row {B : Nat} {X Y : World} {row : Option Nat} (hg : X.grownBy Y row) (hr : ∀ r, row = some r → ∃ cs u fr, X.heap[r]? = some (Obj.cells cs u fr)) : KeepsFrom B X Y :=
 ⟨hg.size, fun k o hB hk ho => (hg.block k (Array.getElem?_eq_some_iff.1 hk).1 (fun e => by
  obtain ⟨cs, u, fr, hc⟩ := hr k e.symm
  rw [hk] at hc
  cases hc
  cases ho)).trans hk⟩
attribute [local go_sem] Oper.semAt_some
set_option maxRecDepth 100000 in
set_option maxHeartbeats 40000000 in
theorem Warmth_good (b : Br) (A : Option Addr) (c : Nat) (bs : List Bn) (hl : bs.length ≤ 1000) (P : Option Addr) (q : Nat) (p : List (List Int)) (hpl : p.length ≤ 1000000) (hll : ∀ l ∈ p, l.length ≤ 1000) (he : checkErr b bs p = 0) (h20 : p.length ≤ 20) (k : Nat) (hk : k < bs.length) (w : World) (hA : BinsAt w A bs) (hP : PlanAt w P p) :
  Calls Tryz.prog 8 #[.agg #[.int .i64 b.cool, .int .i64 b.gangs, .int .i64 b.r0, .int .i64 b.r1, .int .i64 b.r2, .int .i64 b.r3, .int .i64 b.r4, .int .i64 b.r5, .slice A bs.length c], .slice P p.length q, .int .i64 (k : Int)] w fun e w' => ∃ G g, e = .returned (.tuple #[.slice G p.length g, .int .i64 0]) ∧ OwnSp w' w.heap.size (.slice G p.length g) ((wallsFrom b bs 0 (firstOf bs bs.length) p).map (pick k)) ∧ Below w.heap.size w w' := by
 have HEQ := Lib.hid he
 have h20' : ¬ (20 : Int) < p.length := by omega
 have HA := Lib.hid hA
 have HP := Lib.hid hP
 have HLL := Lib.hid hll
 obtain ⟨hb, hp2, hin⟩ := check_right HEQ.out
 have hgood := barn_right hb
 have hn4 : bs.length ≤ 4 := by have := hgood.1; simp only [within, Bool.and_eq_true, decide_eq_true_eq] at this; omega
 have HBE := Lib.hid hb
 have HIN := Lib.hid hin
 have hk4 : (k : Int) < 4 := by omega
 have H4 : Hid (∀ y ∈ (wallsFrom b bs 0 (firstOf bs bs.length) p), y.2.length = 4) := Lib.hid (walls_four b bs p 0 _ (first_len (Nat.le_refl _) hn4))
 have HWLN : Hid ((wallsFrom b bs 0 (firstOf bs bs.length) p).length = p.length) := Lib.hid (walls_len _ _ _ _ _)
 have HNB : Hid (within (k : Int) 0 ((bs.length : Int) - 1) = true) := Lib.hid (by simp only [within, Bool.and_eq_true, decide_eq_true_eq]; omega)
 obtain ⟨ti, hti, hti0, hti1, hti2⟩ := info_parts info_span
 have hm5 := hti
 clear hm5 he hgood hb hin hA hP hll
 refine (callsIn_wide (n := 8)).1 (callsIn_of_wp_marks Tryz.func8 rfl trivial ?_ rfl)
 refine wpIn_wide.2 ?_
 simp only [Tryz.ntmps8, List.size_toArray, List.length_cons, List.length_nil, Nat.reduceAdd, Nat.reduceSub, Array.replicate_succ, Array.replicate_zero, List.push_toArray, List.append_toArray, List.nil_append, List.cons_append]
 go_wp2_with fail
 refine (checkPlan_any b A c bs P q p _ (HA.out.up zg) hl (HP.out.up zg) hpl HLL.out).mono ?_
 rw [HEQ.out]
 rintro e w1 ⟨rfl, hb1⟩
 have Hb1 := Lib.hid (Holds.up (zp0 : Holds _ (w.heap.size) 26 #[.int .i64 b.cool, .int .i64 b.gangs, .int .i64 b.r0, .int .i64 b.r1, .int .i64 b.r2, .int .i64 b.r3, .int .i64 b.r4, .int .i64 b.r5, .slice A bs.length c]) hb1)
 have Hi1 := Lib.hid (Holds.up (zp0 : Holds _ (w.heap.size + 1) 3 #[.int .i64 (k : Int)]) hb1)
 have HS1 : Hid (Below w.heap.size w w1) := Lib.hid (Below.trans zg (hb1.mono (by first | exact Nat.le_refl _ | omega | (simp; done) | (simp; omega))))
 have HB1 := HS1
 have hs1 := HB1.out.size
 have hst1 := HS1.out.size
 have HA1 := Lib.hid (HA.out.up HS1.out)
 have HP1 := Lib.hid (HP.out.up HS1.out)
 clear hb1
 have kb0 : w1.cell? ⟨w.heap.size, 0, none⟩ = some (.int .i64 b.cool) := Hb1.out.cell 0
 have kb1 : w1.cell? ⟨w.heap.size, 1, none⟩ = some (.int .i64 b.gangs) := Hb1.out.cell 1
 have kb2 : w1.cell? ⟨w.heap.size, 2, none⟩ = some (.int .i64 b.r0) := Hb1.out.cell 2
 have kb3 : w1.cell? ⟨w.heap.size, 3, none⟩ = some (.int .i64 b.r1) := Hb1.out.cell 3
 have kb4 : w1.cell? ⟨w.heap.size, 4, none⟩ = some (.int .i64 b.r2) := Hb1.out.cell 4
 have kb5 : w1.cell? ⟨w.heap.size, 5, none⟩ = some (.int .i64 b.r3) := Hb1.out.cell 5
 have kb6 : w1.cell? ⟨w.heap.size, 6, none⟩ = some (.int .i64 b.r4) := Hb1.out.cell 6
 have kb7 : w1.cell? ⟨w.heap.size, 7, none⟩ = some (.int .i64 b.r5) := Hb1.out.cell 7
 have kb8 : w1.cell? ⟨w.heap.size, 8, none⟩ = some (.slice A bs.length c) := Hb1.out.cell 8
 have lt_b : w.heap.size < w1.heap.size := Hb1.out.lt
 have ki0 : w1.cell? ⟨w.heap.size + 1, 0, none⟩ = some (.int .i64 (k : Int)) := Hi1.out.cell 0
 have lt_i : w.heap.size + 1 < w1.heap.size := Hi1.out.lt
 go_wp2_with fail
 refine (hasBin_any b A c bs.length hl (k : Int) _).mono ?_
 rw [HNB.out]
 rintro e w2 ⟨rfl, hb2⟩
 have Hb2 := Lib.hid (Holds.up (by have h := Hb1.out; exact zp0 : Holds _ (w.heap.size) 26 #[.int .i64 b.cool, .int .i64 b.gangs, .int .i64 b.r0, .int .i64 b.r1, .int .i64 b.r2, .int .i64 b.r3, .int .i64 b.r4, .int .i64 b.r5, .slice A bs.length c]) hb2)
 have Hi2 := Lib.hid (Holds.up (by have h := Hi1.out; exact zp0 : Holds _ (w.heap.size + 1) 3 #[.int .i64 (k : Int)]) hb2)
 have HS2 : Hid (Below w1.heap.size w1 w2) := Lib.hid (Below.trans zg (hb2.mono (by first | exact Nat.le_refl _ | omega | (simp; done) | (simp; omega))))
 have HB2 : Hid (Below w.heap.size w w2) := Lib.hid (HB1.out.trans (HS2.out.mono hs1))
 have hs2 := HB2.out.size
 have hst2 := HS2.out.size
 have HA2 := Lib.hid (HA1.out.up HS2.out)
 have HP2 := Lib.hid (HP1.out.up HS2.out)
 clear hb2
 clear kb0 kb1 kb2 kb3 kb4 kb5 kb6 kb7 kb8 lt_b ki0 lt_i
 have kb0 : w2.cell? ⟨w.heap.size, 0, none⟩ = some (.int .i64 b.cool) := Hb2.out.cell 0
 have kb1 : w2.cell? ⟨w.heap.size, 1, none⟩ = some (.int .i64 b.gangs) := Hb2.out.cell 1
 have kb2 : w2.cell? ⟨w.heap.size, 2, none⟩ = some (.int .i64 b.r0) := Hb2.out.cell 2
 have kb3 : w2.cell? ⟨w.heap.size, 3, none⟩ = some (.int .i64 b.r1) := Hb2.out.cell 3
 have kb4 : w2.cell? ⟨w.heap.size, 4, none⟩ = some (.int .i64 b.r2) := Hb2.out.cell 4
 have kb5 : w2.cell? ⟨w.heap.size, 5, none⟩ = some (.int .i64 b.r3) := Hb2.out.cell 5
 have kb6 : w2.cell? ⟨w.heap.size, 6, none⟩ = some (.int .i64 b.r4) := Hb2.out.cell 6
 have kb7 : w2.cell? ⟨w.heap.size, 7, none⟩ = some (.int .i64 b.r5) := Hb2.out.cell 7
 have kb8 : w2.cell? ⟨w.heap.size, 8, none⟩ = some (.slice A bs.length c) := Hb2.out.cell 8
 have lt_b : w.heap.size < w2.heap.size := Hb2.out.lt
 have ki0 : w2.cell? ⟨w.heap.size + 1, 0, none⟩ = some (.int .i64 (k : Int)) := Hi2.out.cell 0
 have lt_i : w.heap.size + 1 < w2.heap.size := Hi2.out.lt
 go_wp2_with fail
 refine (ends_any b A c bs.length P q p.length _).mono ?_
 rintro e w3 ⟨rfl, hb3, hx1, hx2⟩
 simp only [World.size_alloc] at hb3 hx1 hx2
 have HX1 := Lib.hid hx1
 have HX2 := Lib.hid hx2
 have Hb3 := Lib.hid (Holds.low (Hb2.out.alloc (.cells #[.slice none 0 0] 33)) hb3 (by have := Hb2.out.lt; omega))
 have Hi3 := Lib.hid (Holds.low (Hi2.out.alloc (.cells #[.slice none 0 0] 33)) hb3 (by have := Hi2.out.lt; omega))
 have HV3 : Hid (Holds w3 (w2.heap.size) 33 #[.slice none 0 0]) := Lib.hid (Holds.low (Holds.new w2 33 #[.slice none 0 0]) hb3 (by omega))
 have HS3 : Hid (Below (w2.heap.size) w2 w3) := Lib.hid ((zg : Below (w2.heap.size) w2 _).trans (hb3.mono (by omega)))
 have HB3 : Hid (Below w.heap.size w w3) := Lib.hid (HB2.out.trans (HS3.out.mono hs2))
 have hS3 : w2.heap.size + 1 + 1 < w3.heap.size := HX2.out.lt
 clear hb3 hx1 hx2
 clear kb0 kb1 kb2 kb3 kb4 kb5 kb6 kb7 kb8 lt_b ki0 lt_i
 go_wp2_with fail
 refine wpIn_wide.1 (range_own (m := 6) (t := 63) (gf := 43) (lb := #[.pointer (some ⟨w2.heap.size + 1, 0, none⟩), .pointer (some ⟨w2.heap.size + 1 + 1, 0, none⟩)]) rfl (enters_of Tryz.func43 (by kernel_rfl) rfl) (encs := yEnc) (all := (wallsFrom b bs 0 (firstOf bs bs.length) p))
  (ends_seq b A c bs HBE.out P q p hp2 HLL.out HIN.out w w3 HA.out HP.out HB3.out (w2.heap.size + 1) (w2.heap.size + 1 + 1) HX1.out HX2.out (fun k => k < w.heap.size ∨ k = w2.heap.size + 1 ∨ k = w2.heap.size + 1 + 1) (fun k h => .inl h) (.inr (.inl rfl)) (.inr (.inr rfl))) (fun _ => rfl) (fun pre W => ∃ v, Holds W (w2.heap.size) 33 #[v] ∧ OwnSp W w3.heap.size v (pre.map (pick k)) ∧ Below (w2.heap.size) w3 W) (fun _ _ _ => False)
  (fun s X Y row hs hg hr => by obtain ⟨v, h1, h2, h3⟩ := hs; exact ⟨v, ownT_holds (β := Unit) 63 (by omega) () X Y row h1 hg hr, ownT_sp (β := Unit) (by decide) () X Y row h2 hg hr, ownT_below (β := Unit) 63 (by omega) (by omega) () X Y row h3 hg hr⟩)
  (fun c s X Y row hs hg hr => hs)
  ⟨_, HV3.out, OwnSp.nil _ _, Below.refl _ _⟩
  (fun x a' W => ∃ Bx, w3.heap.size ≤ Bx ∧ Holds W Bx 63 (x.2.flatMap spCells).toArray ∧ a' = { tmps := #[.agg #[.int .i64 b.cool, .int .i64 b.gangs, .int .i64 b.r0, .int .i64 b.r1, .int .i64 b.r2, .int .i64 b.r3, .int .i64 b.r4, .int .i64 b.r5, .slice A bs.length c], .slice P p.length q, .int .i64 (k : Int), .pointer (some ⟨w.heap.size, 0, none⟩), undef, .pointer (some ⟨w.heap.size + 1, 0, none⟩), .slice none 0 0, .int .i64 0, .int .i64 0, .pointer (some ⟨w2.heap.size, 0, none⟩), undef, .pointer (some ⟨Bx, 0, none⟩), .agg #[.int .i64 b.cool, .int .i64 b.gangs, .int .i64 b.r0, .int .i64 b.r1, .int .i64 b.r2, .int .i64 b.r3, .int .i64 b.r4, .int .i64 b.r5, .slice A bs.length c], .slice P p.length q, .int .i64 0, .int .i64 0, .bool false, undef, .bool (decide ((20 : Int) < (p.length : Int))), .slice P p.length q, .int .i64 (p.length : Int), .bool (decide ((20 : Int) < (p.length : Int))), .bool false, .agg #[.int .i64 b.cool, .int .i64 b.gangs, .int .i64 b.r0, .int .i64 b.r1, .int .i64 b.r2, .int .i64 b.r3, .int .i64 b.r4, .int .i64 b.r5, .slice A bs.length c], .int .i64 (k : Int), .bool true, .bool false, .agg #[.int .i64 b.cool, .int .i64 b.gangs, .int .i64 b.r0, .int .i64 b.r1, .int .i64 b.r2, .int .i64 b.r3, .int .i64 b.r4, .int .i64 b.r5, .slice A bs.length c], .slice P p.length q, .func (.func 43) #[] #[.pointer (some ⟨w2.heap.size + 1, 0, none⟩), .pointer (some ⟨w2.heap.size + 1 + 1, 0, none⟩)], .int .i64 (x.1 : Int), .agg (x.2.flatMap spCells).toArray, undef, undef, undef, undef, undef, undef, undef], defers := [] })
  (fun x a' _ X Y row hs hg hr => by obtain ⟨Bx, h1, h2, h3⟩ := hs; exact ⟨Bx, h1, (hg.block Bx h2.lt (fun e => by obtain ⟨o, ho, hc⟩ := (hr Bx e.symm).2; rw [show X.heap[Bx]? = _ from h2] at ho; cases ho; cases hc)).trans h2, h3⟩) ?assign ?body ?done ?stop)
 case assign =>
  rintro l pre x W K hpre ⟨v, h1, h2, h3⟩ hK
  obtain ⟨day, wl⟩ := x
  have h4 := H4.out _ (mem_pre hpre)
  obtain ⟨s0, s1, s2, s3, rfl⟩ := four_of h4
  simp only [yEnc, wall_vals]
  gi_wp2
  have hbel : Below W.heap.size W _ := (Below.refl W.heap.size W).alloc (Nat.le_refl _) (.cells #[.int .i64 s0.1, .int .i64 s0.2, .int .i64 s1.1, .int .i64 s1.2, .int .i64 s2.1, .int .i64 s2.2, .int .i64 s3.1, .int .i64 s3.2] 63)
  exact hK _ _ (KeepsFrom.of_below hbel) (KeptT.of hbel) ⟨v, h1.up hbel, h2.up hbel, h3.trans (hbel.mono (Nat.le_trans (by omega) h3.size))⟩ ⟨W.heap.size, h3.size, Holds.new _ _ _, rfl⟩
 case body =>
  rintro l pre x a' W hl hpre ⟨v, h1, h2, h3⟩ ⟨Bx, hBx, HX, rfl⟩
  obtain ⟨day, wl⟩ := x
  have h4 := H4.out _ (mem_pre hpre)
  have hpl1 : pre.length < 20 := by have h := hpre.length_le; rw [List.length_append, HWLN.out] at h; simp only [List.length_cons, List.length_nil] at h; omega
  obtain ⟨s, hs⟩ : ∃ z, wl[k]? = some z := ⟨_, List.getElem?_eq_getElem (by rw [h4]; omega)⟩
  have HPK : Hid (pick k (day, wl) = s) := Lib.hid (by unfold pick; rw [hs]; rfl)
  have HSS := Lib.hid hs
  obtain ⟨A0, c0, rfl, -, -, -⟩ := rowq_val h2
  have hmap : (pre.map (pick k)).length = pre.length := List.length_map ..
  rw [hmap] at h1 h2
  have HVW := Lib.hid h1
  have HOW := Lib.hid h2
  have HBW := Lib.hid h3
  have HXW := Lib.hid HX
  have HIW := Lib.hid (Holds.low Hi3.out h3 (by have := Hi2.out.lt; omega))
  have hsW : w3.heap.size ≤ W.heap.size := h3.size
  have hlV := h1.lt
  have HMP := Lib.hid hmap
  clear h4 hs h1 h2 h3 hmap hpre HX
  gi_wp2_with fail
  have hKc := True.intro
  have HSL := Lib.hid (show slotsOf [some 32, some 33, some 34, some 35, some 36, some 37, none] = [32, 33, 34, 35, 36, 37] from rfl)
  refine wp_region_partsGI (by kernel_rfl) [some 32, some 33, some 34, some 35, some 36, some 37, none] (fun jq xq w' => match jq with
   | 0 => xq 32 = .slice A0 pre.length c0
   | 1 => xq 33 = .int .i64 (k : Int)
   | 2 => xq 34 = .pointer (some ⟨Bx, k * 2, none⟩)
   | 3 => xq 35 = .agg #[.int .i64 s.1, .int .i64 s.2]
   | 4 => ∃ z, xq 36 = .slice (some ⟨z, 0, none⟩) 1 1 ∧ Holds w' z 40 #[.int .i64 s.1, .int .i64 s.2]
   | 5 => ∃ G g, xq 37 = .slice G (pre.length + 1) g ∧ OwnSp w' w3.heap.size (.slice G (pre.length + 1) g) (pre.map (pick k) ++ [s])
   | 6 => ∃ G g, Holds w' (w2.heap.size) 33 #[.slice G (pre.length + 1) g] ∧ OwnSp w' w3.heap.size (.slice G (pre.length + 1) g) (pre.map (pick k) ++ [s])
   | 7 => Holds w' (w2.heap.size) 33 #[.slice A0 pre.length c0]
   | 8 => Holds w' Bx 63 (wl.flatMap spCells).toArray
   | 9 => OwnSp w' w3.heap.size (.slice A0 pre.length c0) (pre.map (pick k))
   | _ => True) [[32], [33], [34], [35], [36], [37], [], [], [], []] [(5, 4), (5, 8), (5, 9), (6, 7), (6, 4), (6, 8), (6, 9)] (fun w' => Below (w2.heap.size) w3 w' ∧ W.heap.size ≤ w'.heap.size ∧ KeptT 63 (fun k => k < w.heap.size ∨ k = w2.heap.size + 1 ∨ k = w2.heap.size + 1 + 1) w3.heap.size W w' ∧ KeepsFrom w3.heap.size W w' ∧ Holds w' (w.heap.size + 1) 3 #[.int .i64 (k : Int)]) (by kernel_rfl)  ?_ ?_ (fun w' w'' hb g => ⟨g.1.trans (hb.mono (Nat.le_trans (by omega) g.1.size)), Nat.le_trans g.2.1 hb.size, g.2.2.1.trans (KeptT.of hb), g.2.2.2.1.trans (KeepsFrom.of_below hb), g.2.2.2.2.up hb⟩) (⟨HBW.out, Nat.le_refl _, KeptT.refl _ _ _ _, KeepsFrom.refl _ _, HIW.out⟩) ?_ ?_ ?_
  ·intro jq xq xq' wqq h hv
   match jq, h, hv with
   | 0, h, hv => show xq' 32 = .slice A0 pre.length c0; rw [← h 32 (by decide)]; exact hv
   | 1, h, hv => show xq' 33 = .int .i64 (k : Int); rw [← h 33 (by decide)]; exact hv
   | 2, h, hv => show xq' 34 = .pointer (some ⟨Bx, k * 2, none⟩); rw [← h 34 (by decide)]; exact hv
   | 3, h, hv => show xq' 35 = .agg #[.int .i64 s.1, .int .i64 s.2]; rw [← h 35 (by decide)]; exact hv
   | 4, h, hv => show ∃ z, xq' 36 = .slice (some ⟨z, 0, none⟩) 1 1 ∧ Holds wqq z 40 #[.int .i64 s.1, .int .i64 s.2]; rw [← h 36 (by decide)]; exact hv
   | 5, h, hv => show ∃ G g, xq' 37 = .slice G (pre.length + 1) g ∧ OwnSp wqq w3.heap.size (.slice G (pre.length + 1) g) (pre.map (pick k) ++ [s]); rw [← h 37 (by decide)]; exact hv
   | 6, h, hv => exact hv
   | 7, h, hv => exact hv
   | 8, h, hv => exact hv
   | 9, h, hv => exact hv
   | _ + 10, _, _ => trivial
  ·intro jq xq wqq w' hb' hv
   match jq, hv with
   | 0, hv => exact hv
   | 1, hv => exact hv
   | 2, hv => exact hv
   | 3, hv => exact hv
   | 4, ⟨b0, h0, h1⟩ => exact ⟨b0, h0, h1.up hb'⟩
   | 5, ⟨b0, b1, h0, h1⟩ => exact ⟨b0, b1, h0, h1.up hb'⟩
   | 6, ⟨b0, b1, h0, h1⟩ => exact ⟨b0, b1, h0.up hb', h1.up hb'⟩
   | 7, h0 => exact h0.up hb'
   | 8, h0 => exact h0.up hb'
   | 9, h0 => exact h0.up hb'
   | _ + 10, _ => trivial
  ·intro jq hj
   match jq, hj with
   | 0, hj => exact absurd hj (by decide)
   | 1, hj => exact absurd hj (by decide)
   | 2, hj => exact absurd hj (by decide)
   | 3, hj => exact absurd hj (by decide)
   | 4, hj => exact absurd hj (by decide)
   | 5, hj => exact absurd hj (by decide)
   | 6, hj => exact absurd hj (by decide)
   | 7, _ => exact HVW.out
   | 8, _ => exact HXW.out
   | 9, _ => exact HOW.out
   | _ + 10, _ => trivial
  ·refine ⟨?_, ?_, ?_, ?_, ?_, ?_, ?_, trivial⟩
   ·intro xq w1 hb1 hx K hK0
    have hK := fun v w' hb => hK0 v w' (.inl hb)
    have fiv_0 : Holds w1 (w2.heap.size) 33 #[.slice A0 pre.length c0] := hx 7 (by rfl) (by rfl)
    clear hx hKc hK0
    have q32 : w1.cell? ⟨w2.heap.size, 0, none⟩ = some (.slice A0 pre.length c0) := fiv_0.cell 0
    simp only [frameOf, fill, setSlot, sg, Nat.reduceBEq, if_true, if_false, Nat.reduceAdd, Nat.reduceEqDiff, HSL.out] at hK ⊢
    gi_wp2_with (fail)
    exact hK _ _ (Below.refl _ _) rfl
   ·intro xq w1 hb1 hx K hK0
    have hK := fun v w' hb => hK0 v w' (.inl hb)
    clear hx hKc hK0
    have q33 : w1.cell? ⟨w.heap.size + 1, 0, none⟩ = some (.int .i64 (k : Int)) := hb1.2.2.2.2.cell 0
    simp only [frameOf, fill, setSlot, sg, Nat.reduceBEq, if_true, if_false, Nat.reduceAdd, Nat.reduceEqDiff, HSL.out] at hK ⊢
    gi_wp2_with (fail)
    exact hK _ _ (Below.refl _ _) rfl
   ·intro xq w1 hb1 hx K hK0
    have hK := fun v w' hb => hK0 v w' (.inl hb)
    have e33 : xq 33 = .int .i64 (k : Int) := hx 1 (by rfl) (by rfl)
    clear hx hKc hK0
    simp only [frameOf, fill, setSlot, sg, Nat.reduceBEq, if_true, if_false, Nat.reduceAdd, Nat.reduceEqDiff, HSL.out] at hK ⊢
    simp only [e33] at hK ⊢
    clear e33
    gi_wp2_with (fail)
    exact hK _ _ (Below.refl _ _) rfl
   ·intro xq w1 hb1 hx K hK0
    have hK := fun v w' hb => hK0 v w' (.inl hb)
    have e34 : xq 34 = .pointer (some ⟨Bx, k * 2, none⟩) := hx 2 (by rfl) (by rfl)
    have fix_0 : Holds w1 Bx 63 (wl.flatMap spCells).toArray := hx 8 (by rfl) (by rfl)
    clear hx hKc hK0
    obtain ⟨q0, q1⟩ := warm_cell fix_0 HSS.out
    simp only [frameOf, fill, setSlot, sg, Nat.reduceBEq, if_true, if_false, Nat.reduceAdd, Nat.reduceEqDiff, HSL.out] at hK ⊢
    simp only [e34] at hK ⊢
    clear e34
    gi_wp2_with (fail)
    exact hK _ _ (Below.refl _ _) rfl
   ·intro xq w1 hb1 hx K hK0
    have hK := fun v w' hb => hK0 v w' (.inl hb)
    have e35 : xq 35 = .agg #[.int .i64 s.1, .int .i64 s.2] := hx 3 (by rfl) (by rfl)
    clear hx hKc hK0
    simp only [frameOf, fill, setSlot, sg, Nat.reduceBEq, if_true, if_false, Nat.reduceAdd, Nat.reduceEqDiff, HSL.out] at hK ⊢
    simp only [e35] at hK ⊢
    clear e35
    gi_wp2_with (fail)
    exact hK _ _ ((Below.refl _ _).alloc (Nat.le_refl _) _) ⟨_, rfl, Holds.new _ _ _⟩
   ·intro xq w1 hb1 hx K hK0
    have hK := fun v w' hb => hK0 v w' (.inr hb)
    have e32 : xq 32 = .slice A0 pre.length c0 := hx 0 (by rfl) (by rfl)
    obtain ⟨z36, e36, f36_0⟩ := hx 4 (by rfl) (by rfl)
    have fiv_0 : Holds w1 (w2.heap.size) 33 #[.slice A0 pre.length c0] := hx 7 (by rfl) (by rfl)
    have fio_0 : OwnSp w1 w3.heap.size (.slice A0 pre.length c0) (pre.map (pick k)) := hx 9 (by rfl) (by rfl)
    clear hx hKc hK0
    have HO1 := Lib.hid fio_0
    have hsz := hb1.2.1
    simp only [frameOf, fill, setSlot, sg, Nat.reduceBEq, if_true, if_false, Nat.reduceAdd, Nat.reduceEqDiff, HSL.out] at hK ⊢
    simp only [e32, e36] at hK ⊢
    clear e32 e36
    gi_wp2_with (gi_at_builtin; (refine wpListIn_append_own _ rfl _ _ 33 rfl w3.heap.size 40 ti _ 2 16 und_spans0 hti hti0 hti1 hti2 rfl (by decide) _ _ _ rfl HO1.out ⟨z36, 0, none⟩ 1 1 (spCells s) rfl rfl (holds_news f36_0) (sp_one s) (by rw [HMP.out]; unfold maxLen; omega) (by rw [HMP.out]; omega) (by omega) ?_); intro v5 w5 hown5 hgrow5 _; have ho5 := OwnSp.snoc hown5; obtain ⟨G5, g5, rfl, -, -, -⟩ := rowq_val ho5; rw [List.length_append, HMP.out] at ho5 ⊢; have HO5 := Lib.hid ho5; have HG5 := Lib.hid hgrow5; clear hown5 hgrow5 ho5)
    refine hK _ _ ⟨(by obtain ⟨h1_, h2_, h3_, h4_, h5_⟩ := hb1; exact ⟨h1_.grown HG5.out (Nat.le_trans (by omega) h1_.size) (fun k hk => Nat.le_trans (by omega) ((OwnSp.block HO1.out) k hk).1), Nat.le_trans h2_ HG5.out.size, h3_.trans (KeptT.turn HG5.out (fun r e cs u fr hc => by obtain ⟨hr1, cs', fr', hr2⟩ := (OwnSp.block HO1.out) r e; rw [hc] at hr2; cases hr2; exact ⟨by omega, fun _ => by decide⟩)), h4_.trans (keeps_row HG5.out (fun r e => by obtain ⟨hr1, cs', fr', hr2⟩ := (OwnSp.block HO1.out) r e; exact ⟨_, _, _, hr2⟩)), Holds.row h5_ HG5.out (fun k hk => by have := ((OwnSp.block HO1.out) k hk).1; have := Hi3.out.lt; omega)⟩), ?_⟩ ⟨_, _, rfl, HO5.out⟩
    intro jq xq hd hne hv
    match jq, hd, hne, hv with
    | 0, _, _, hv => exact hv
    | 1, _, _, hv => exact hv
    | 2, _, _, hv => exact hv
    | 3, _, _, hv => exact hv
    | 4, hd, _, _ => exact absurd hd (by decide)
    | 5, _, hne, _ => exact absurd rfl hne
    | 6, _, _, hv => obtain ⟨G_, g_, h1_, _⟩ := hv; have h2_ := h1_.cell 0; rw [fiv_0.cell 0] at h2_; simp at h2_
    | 7, _, _, hv => exact Holds.row hv HG5.out (fun k hk => by have := ((OwnSp.block HO1.out) k hk).1; omega)
    | 8, hd, _, _ => exact absurd hd (by decide)
    | 9, hd, _, _ => exact absurd hd (by decide)
    | _ + 10, _, _, _ => trivial
   ·intro xq w1 hb1 hx K hK0
    have hK := fun v w' hb => hK0 v w' (.inr hb)
    obtain ⟨G37, g37, e37, f37_0⟩ := hx 5 (by rfl) (by rfl)
    have fiv_0 : Holds w1 (w2.heap.size) 33 #[.slice A0 pre.length c0] := hx 7 (by rfl) (by rfl)
    clear hx hKc hK0
    have qn6 : w1.cell? ⟨w2.heap.size, 0, none⟩ = some (.slice A0 pre.length c0) := fiv_0.cell 0
    have zn6 := fiv_0.frozen 0
    have ln6 := fiv_0.lt
    simp only [frameOf, fill, setSlot, sg, Nat.reduceBEq, if_true, if_false, Nat.reduceAdd, Nat.reduceEqDiff, HSL.out] at hK ⊢
    have E37 := Lib.hid e37
    simp only [e37] at hK ⊢
    clear e37
    gi_wp2_with (fail)
    refine hK undef _ ⟨(by obtain ⟨h1_, h2_, h3_, h4_, h5_⟩ := hb1; exact ⟨h1_.setCell (Nat.le_refl _) _, by simp only [World.size_setCell]; exact h2_, h3_.trans (KeptT.turn (grownBy_setCell' w1 (w2.heap.size) _) (fun r e cs u fr hc => by cases e; exact ⟨by have := Hi2.out.lt; omega, fun h => by omega⟩)), h4_.trans (KeepsFrom.set (by simp only; omega) _), h5_.far (p := ⟨w2.heap.size, 0, none⟩) (by have := Hi2.out.lt; simp only [ne_eq]; omega) _⟩), ?_⟩ ⟨_, _, zp0, f37_0.far (by simp only; omega) _⟩
    intro jq xq hd hne hv
    match jq, hd, hne, hv with
    | 0, _, _, hv => exact hv
    | 1, _, _, hv => exact hv
    | 2, _, _, hv => exact hv
    | 3, _, _, hv => exact hv
    | 4, hd, _, _ => exact absurd hd (by decide)
    | 5, _, _, hv => obtain ⟨z_, y_, e_, h_⟩ := hv; exact ⟨z_, y_, e_, h_.far (by simp only; omega) _⟩
    | 6, _, hne, _ => exact absurd rfl hne
    | 7, hd, _, _ => exact absurd hd (by decide)
    | 8, hd, _, _ => exact absurd hd (by decide)
    | 9, hd, _, _ => exact absurd hd (by decide)
    | _ + 10, _, _, _ => trivial
  ·intro xq w1 hb1 hx
   have e32 : xq 32 = .slice A0 pre.length c0 := hx 0 (by decide)
   have e33 : xq 33 = .int .i64 (k : Int) := hx 1 (by decide)
   have e34 : xq 34 = .pointer (some ⟨Bx, k * 2, none⟩) := hx 2 (by decide)
   have e35 : xq 35 = .agg #[.int .i64 s.1, .int .i64 s.2] := hx 3 (by decide)
   obtain ⟨G37, g37, e37, f37_0⟩ := hx 5 (by decide)
   obtain ⟨Gn6, gn6, fn6_0, fn6_1⟩ := hx 6 (by decide)
   clear hx
   simp only [frameOf, fill, setSlot, sg, Nat.reduceBEq, if_true, if_false, Nat.reduceAdd, Nat.reduceEqDiff, HSL.out]
   simp only [e32, e33, e34, e35, e37]
   clear e32 e33 e34 e35 e37
   gi_wp2_with fail
   exact ⟨hb1.2.2.2.1, hb1.2.2.1, _, fn6_0, (by have h := fn6_1; rw [← HPK.out] at h; rw [List.map_append]; exact h), hb1.1⟩
 case done =>
  rintro D W hD ⟨v, h1, h2, h3⟩ hK
  obtain ⟨G, g, rfl, -, -, -⟩ := rowq_val h2
  rw [List.length_map, HWLN.out] at h1 h2
  have kv : W.cell? ⟨w2.heap.size, 0, none⟩ = some (.slice G p.length g) := h1.cell 0
  have HOW := Lib.hid h2
  have HBW := Lib.hid h3
  have HK := Lib.hid hK
  clear h1 h2 h3 hK
  go_wp2_with fail
  refine leaves_one HK.out (results_tmp2 rfl _ _ _) ⟨_, _, rfl, ?_, below_shut (HB3.out.trans (HBW.out.mono hs2)) (Nat.le_refl _) (by omega) _⟩
  exact rowq_mono (OwnSp.turn HOW.out (grownBy_putObj' W D (.deferred none)) (fun r e cs u fr hc => by cases e; rw [HK.out] at hc; cases hc)) (by have := HV3.out.lt; omega)
 case stop =>
  rintro D c pre W hD hpre h hK
  exact h.elim
open Go.RowKit Go.Shelf
attribute [local go_sem] Oper.semAt_some
def PlanT (w : World) (P : Option Addr) (p : List (List Int)) : Prop :=
 0 < p.length → ∃ B o, P = some ⟨B, o, none⟩ ∧ (∃ cs fr, w.heap[B]? = some (Obj.cells cs 43 fr)) ∧ ∀ d l, p[d]? = some l → ∃ A c, w.cell? ⟨B, o + d, none⟩ = some (.slice A l.length c) ∧ IntsAt w A l ∧ (A = none → l.length = 0 ∧ c = 0) ∧ (∀ B' o', A = some ⟨B', o', none⟩ → 0 < l.length → ∃ cs fr, w.heap[B']? = some (Obj.cells cs 3 fr))
theorem PlanT.at_ {w : World} {P : Option Addr} {p : List (List Int)} (h : PlanT w P p) : PlanAt w P p := fun hn => by
 obtain ⟨B, o, e, -, hc⟩ := h hn
 exact ⟨B, o, e, fun d l hl => by obtain ⟨A, c, h1, h2, h3, -⟩ := hc d l hl; exact ⟨A, c, h1, h2, h3⟩⟩
theorem PlanT.up {w w' : World} {P : Option Addr} {p : List (List Int)} (h : PlanT w P p) (hb : Below w.heap.size w w') : PlanT w' P p := fun hn => by
 obtain ⟨B, o, e, ⟨cs, fr, ht⟩, hc⟩ := h hn
 refine ⟨B, o, e, ⟨cs, fr, (hb.block B (Array.getElem?_eq_some_iff.1 ht).1).trans ht⟩, fun d l hl => ?_⟩
 obtain ⟨A, c, h1, h2, h3, h4⟩ := hc d l hl
 exact ⟨A, c, up_cell hb h1, h2.up hb, h3, fun B' o' e' h0 => by obtain ⟨cs', fr', q⟩ := h4 B' o' e' h0; exact ⟨cs', fr', (hb.block B' (Array.getElem?_eq_some_iff.1 q).1).trans q⟩⟩
theorem PlanT.far {w : World} {P : Option Addr} {p : List (List Int)} {z i : Nat} {t : TypeId} {ds : Array Value} (h : PlanT w P p) (hz : Holds w z t ds) (h1 : t ≠ 43) (h2 : t ≠ 3) (u : Value) : PlanT (w.setCell ⟨z, i, none⟩ u) P p := fun hn => by
 have off : ∀ (B : Nat) (cs : Array Value) (s : TypeId) (fr : Nat × Nat), w.heap[B]? = some (Obj.cells cs s fr) → t ≠ s → B ≠ z := fun B cs s fr hB hts e => by
  subst e
  rw [show w.heap[B]? = _ from hz] at hB
  cases hB
  exact hts rfl
 obtain ⟨B, o, e, ⟨cs, fr, ht⟩, hc⟩ := h hn
 have hB := off B cs _ fr ht h1
 refine ⟨B, o, e, ⟨cs, fr, (Below.heap_setCell w _ u B hB).trans ht⟩, fun d l hl => ?_⟩
 obtain ⟨A, c, k1, k2, k3, k4⟩ := hc d l hl
 refine ⟨A, c, (World.cell?_setCell_other w _ _ _ (fun e' => hB (by have := congrArg Addr.block e'; simp at this; omega))).trans k1, fun h0 => ?_, k3, fun B' o' e' h0 => ?_⟩
 ·obtain ⟨B', o', eA, hat⟩ := k2 h0
  obtain ⟨cs', fr', q⟩ := k4 B' o' eA h0
  have hB' := off B' cs' _ fr' q h2
  exact ⟨B', o', eA, fun j y hj => (World.cell?_setCell_other w _ _ _ (fun e' => hB' (by have := congrArg Addr.block e'; simp at this; omega))).trans (hat j y hj)⟩
 ·obtain ⟨cs', fr', q⟩ := k4 B' o' e' h0
  exact ⟨cs', fr', (Below.heap_setCell w _ u B' (off B' cs' _ fr' q h2)).trans q⟩
theorem PlanT.set9 {w : World} {P : Option Addr} {p : List (List Int)} {z : Nat} {t : TypeId} {ds : Array Value} {u0 u1 u2 u3 u4 u5 u6 u7 u8 : Value} (h : PlanT w P p) (hz : Holds w z t ds) (h1 : t ≠ 43) (h2 : t ≠ 3) :
  PlanT (((((((((w.setCell ⟨z, 0, none⟩ u0).setCell ⟨z, 1, none⟩ u1).setCell ⟨z, 2, none⟩ u2).setCell ⟨z, 3, none⟩ u3).setCell ⟨z, 4, none⟩ u4).setCell ⟨z, 5, none⟩ u5).setCell ⟨z, 6, none⟩ u6).setCell ⟨z, 7, none⟩ u7).setCell ⟨z, 8, none⟩ u8) P p := by
 have s1 := h.far (i := 0) hz h1 h2 u0
 have z1 := hz.set_ 0 u0
 have s2 := s1.far (i := 1) z1 h1 h2 u1
 have z2 := z1.set_ 1 u1
 have s3 := s2.far (i := 2) z2 h1 h2 u2
 have z3 := z2.set_ 2 u2
 have s4 := s3.far (i := 3) z3 h1 h2 u3
 have z4 := z3.set_ 3 u3
 have s5 := s4.far (i := 4) z4 h1 h2 u4
 have z5 := z4.set_ 4 u4
 have s6 := s5.far (i := 5) z5 h1 h2 u5
 have z6 := z5.set_ 5 u5
 have s7 := s6.far (i := 6) z6 h1 h2 u6
 have z7 := z6.set_ 6 u6
 have s8 := s7.far (i := 7) z7 h1 h2 u7
 have z8 := z7.set_ 7 u7
 exact s8.far (i := 8) z8 h1 h2 u8
def warmPairs (b : Br) (p : List (List Int)) (k : Nat) (x : Bn) : List (Int × Int) := List.zip (warmList b.cool (b.rise x.lo) (k : Int) x.warm p) (warmList b.cool (b.rise x.hi) (k : Int) x.warm p)
theorem pairs_len (b : Br) (p : List (List Int)) (k : Nat) (x : Bn) : (warmPairs b p k x).length = p.length := by
 unfold warmPairs
 rw [List.length_zip, warm_len, warm_len, Nat.min_self]
theorem walls_pick {b : Br} {bs : List Bn} {p : List (List Int)} {k : Nat} {x : Bn} (h4 : bs.length ≤ 4) (hx : bs[k]? = some x) : (wallsFrom b bs 0 (firstOf bs bs.length) p).map (pick k) = warmPairs b p k x := by
 apply List.ext_getElem?
 intro i
 rw [List.getElem?_map]
 cases hy : (wallsFrom b bs 0 (firstOf bs bs.length) p)[i]? with
 | none =>
  have := List.getElem?_eq_none_iff.1 hy
  rw [walls_len] at this
  rw [List.getElem?_eq_none (by rw [pairs_len]; exact this)]
  rfl
 | some y =>
  have hw := (walls_at (P := p) p 0 (firstOf bs bs.length) rfl (wall_first h4) i y hy).2
  obtain ⟨s, hs, h1, h2⟩ := hw.2 k x hx
  rw [Nat.zero_add, List.getElem?_cons_succ] at h1 h2
  unfold warmPairs pick
  rw [List.getElem?_zip_eq_some.2 ⟨h1, h2⟩]
  simp [hs]
end Go.Proofs.YtokafjkinkafiaaGreat
