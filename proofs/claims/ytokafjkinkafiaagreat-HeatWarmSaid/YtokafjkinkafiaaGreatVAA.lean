import Derived.Orders
import Derived.Tactics
import Derived.Below
import Derived.Test.YtokafjkinkafiaaGreatProg
import Derived.WalkKit
import Derived.WalkLawsBesides
import Derived.WalkSpells
import Derived.Outline
import Derived.Deep.RegionHeld3
import Derived.Deep.QuietTactic
import Derived.BigQuiet
import Derived.Lib.Hide
import Derived.LoopTactic
import Derived.LoopN
import Derived.Laws.EntriesVeiled
import Derived.Laws.AppendOwnNone
import Derived.Laws.AppendOwn
import Derived.Laws.ResultCell
import Derived.Laws.Rows
import Derived.Laws.StructEq
import Derived.OwnWalk
import Derived.Deep.OwnRows
import Derived.Deep.SlicePairs
import Derived.Lib.SmallJoins
import Derived.OpenShut
import Derived.Lib.OwnBridge
import Derived.RegionTactic
import Derived.IntWalk

set_option linter.unusedSimpArgs false
set_option linter.unusedVariables false
namespace Go.Proofs.YtokafjkinkafiaaGreat
open Go.RowKit
theorem sg : (∀ (a x : Nat) (l : List Nat), (a :: l).contains x = (x == a || l.contains x)) ∧ (∀ x : Nat, ([] : List Nat).contains x = false) ∧ (∀ b, (b || false) = b) ∧ (∀ b, (false || b) = b) ∧ (∀ b, (b || true) = true) ∧ (∀ b, (true || b) = true) ∧ ((false = true) = False) ∧ (∀ {α : Type} (a d : α) (l : List α), (a :: l).getD 0 d = a) ∧ (∀ {α : Type} (a d : α) (l : List α) (n : Nat), (a :: l).getD (n + 1) d = l.getD n d) ∧ ∀ n : Nat, 0 + n = n :=
  ⟨fun _ _ _ => List.contains_cons, fun _ => List.contains_nil, Bool.or_false, Bool.false_or, Bool.or_true, Bool.true_or, Bool.false_eq_true, fun {_} _ _ _ => List.getD_cons_zero, fun {_} _ _ _ _ => List.getD_cons_succ, Nat.zero_add⟩
theorem sr : (∀ {α : Type} (a : α) (l : List α) (n : Nat), (a :: l).take (n + 1) = a :: l.take n) ∧ (∀ {α : Type} (l : List α), l.take 0 = []) ∧ (∀ {α : Type} (a : α) (l : List α) (n : Nat), (a :: l).drop (n + 1) = l.drop n) ∧ (∀ {α : Type} (l : List α), l.drop 0 = l) ∧ (∀ {α β : Type} (f : α → β) (a : α) (l : List α), (a :: l).map f = f a :: l.map f) ∧ (∀ {α β : Type} (f : α → β), ([] : List α).map f = []) ∧ (∀ {α : Type} (a : α) (l m : List α), a :: l ++ m = a :: (l ++ m)) ∧ (∀ {α : Type} (l : List α), [] ++ l = l) ∧ (∀ {α : Type} (a d : α) (l : List α), (a :: l).getD 0 d = a) ∧ (∀ {α : Type} (a d : α) (l : List α) (n : Nat), (a :: l).getD (n + 1) d = l.getD n d) ∧ ∀ n : Nat, 0 + n = n :=
  ⟨fun {_} _ _ _ => List.take_succ_cons, fun {_} _ => List.take_zero, fun {_} _ _ _ => List.drop_succ_cons, fun {_} _ => List.drop_zero, fun {_ _} _ _ _ => List.map_cons, fun {_ _} _ => List.map_nil, fun {_} _ _ _ => List.cons_append, fun {_} _ => List.nil_append _, fun {_} _ _ _ => List.getD_cons_zero, fun {_} _ _ _ _ => List.getD_cons_succ, Nat.zero_add⟩
theorem zg {p : Prop} (h : p := by (repeat' (first | (with_reducible first | exact Below.refl _ _ | assumption | refine Below.alloc ?_ ?_ _ | refine Below.drew ?_ | refine Below.setCell ?_ ?_ _ | exact Nat.le_refl _) | omega | (simp only [World.size_alloc, World.size_setCell, World.size_drew]; omega) | (simp; omega) | (simp; done)))) : p := h
def Thence (Q : Exit → Act → World → Prop) (K : Act → World → Prop) : Exit → Act → World → Prop
 | .normal, a, w => K a w
 | e, a, w => Q e a w
def fill (ds : List Nat) (x : Nat → Value) : Nat → List Value → List Value
 | _, [] => []
 | t, v :: vs => (if ds.contains t then x t else v) :: fill ds x (t + 1) vs
def frameOf (ds : List Nat) (x : Nat → Value) (a : Act) : Act := { tmps := (fill ds x 0 a.tmps.toList).toArray, defers := a.defers }
def sees (ops : Array Oper) (o : Oper) (d : Nat) : Bool :=
 o.after.toList.any fun e => Region.binds .any e && ((ops[e.on]?).bind (·.dst) == some d)
def partsOk (m : Nat) (ops : Array Oper) (ds : List Nat) (n : Nat) : Bool :=
 decide (m ≤ ops.size) && ((ops.toList.take m).map (·.dst) == ds.map some) && decide ds.Nodup && ds.all (fun d => decide (d < n)) &&
 (ops.toList.take m).all (fun o => o.guard.isNone) &&
 (List.range ops.size).all (fun i => ((ops[i]?).map fun o => o.after.all fun e => !Region.binds .any e || decide (e.on < i)).getD true) &&
 (List.range ops.size).all (fun i => decide (i < m) || (List.range i).all fun j => ((ops[i]?).map fun o => o.after.toList.any fun e => Region.binds .any e && (e.on == j || ((ops[e.on]?).map fun o' => o'.after.toList.any fun e' => e'.on == j && Region.binds .any e').getD false)).getD false)
def Each (p : Nat → Oper → Prop) : Nat → List Oper → Prop
 | _, [] => True
 | i, o :: os => p i o ∧ Each p (i + 1) os
theorem Each.at_ {p : Nat → Oper → Prop} : ∀ (l : List Oper) (k i : Nat) (o : Oper), Each p k l → l[i]? = some o → p (k + i) o := by
 intro l
 induction l with
 | nil => intro k i o _ h; simp at h
 | cons x l ih =>
  intro k i o h hi
  cases i with
  | zero => simp at hi; subst hi; exact h.1
  | succ i => have := ih (k + 1) i o h.2 (by simpa using hi); rwa [Nat.add_assoc, Nat.add_comm 1 i] at this
theorem fill_length (ds : List Nat) (x : Nat → Value) : ∀ (l : List Value) (t : Nat), (fill ds x t l).length = l.length := by
 intro l
 induction l with
 | nil => intro t; rfl
 | cons v l ih => intro t; simp [fill, ih]
theorem fill_get (ds : List Nat) (x : Nat → Value) : ∀ (l : List Value) (t i : Nat), (fill ds x t l)[i]? = (l[i]?).map fun v => if ds.contains (t + i) then x (t + i) else v := by
 intro l
 induction l with
 | nil => intro t i; simp [fill]
 | cons v l ih =>
  intro t i
  cases i with
  | zero => simp [fill]
  | succ i =>
   simp only [fill, List.getElem?_cons_succ, ih]
   rw [show t + 1 + i = t + (i + 1) from by omega]
theorem frame_self (ds : List Nat) (a : Act) : frameOf ds (fun t => a.tmps.getD t undef) a = a := by
 obtain ⟨⟨l⟩, d⟩ := a
 simp only [frameOf, Act.mk.injEq, and_true]
 congr 1
 apply List.ext_getElem?
 intro i
 rw [fill_get]
 cases h : l[i]? with
 | none => rfl
 | some v =>
  simp [Array.getD, List.getElem?_eq_some_iff] at h ⊢
  obtain ⟨hl, rfl⟩ := h
  simp [hl]
theorem frame_put (ds : List Nat) (x : Nat → Value) (a : Act) (d : Nat) (v : Value) (hd : d ∈ ds) : (frameOf ds x a).put (some d) v = frameOf ds (fun t => if t = d then v else x t) a := by
 obtain ⟨⟨l⟩, df⟩ := a
 simp only [frameOf, Act.put, Act.mk.injEq, and_true, List.setIfInBounds_toArray]
 congr 1
 apply List.ext_getElem?
 intro i
 rw [List.getElem?_set, fill_get, fill_get, fill_length]
 by_cases hi : d = i
 ·subst hi
  by_cases hl : d < l.length
  ·simp [hl, hd]
  ·simp [hl]
 ·cases h : l[i]? with
  | none => simp [hi]
  | some u => simp [hi, Ne.symm hi]
section
variable {P : Program} {ops : Array Oper} {Q : Exit → Act → World → Prop}
theorem wp_of_list {o : Oper} {a : Act} {w : World} {K : Act → World → Prop} {ops' : Array Oper} (hg : o.guard = none) (h : wpList P ops' (Thence Q K) [o] a w) :
  o.wp P a w K Q ∨ (o.asks P a w ∧ LetsOut Q) := by
 unfold wpList at h
 rw [if_pos (by simp [Region.wanted, hg])] at h
 rcases h with h | ⟨h1, a', w', h2⟩
 ·left
  unfold Oper.wp at h ⊢
  generalize (execOp a.eval o).run P w = r at *
  cases r with
  | ok n w' =>
   cases n <;> simp only [Oper.upon] at h ⊢ <;>
    first
     | exact h
     | exact Calls.mono h (fun e w'' he => by cases e <;> first | exact he | (obtain ⟨a', w', h2⟩ := he; exact ⟨a', w', h2⟩))
     | exact Rows.mono h (fun _ _ he => he)
  | halt x w' => cases x <;> simp only [Oper.upon] at h ⊢ <;> exact h
 ·exact .inr ⟨h1, a', w', h2⟩
theorem wpOp_of_wpList {i : Nat} {o : Oper} {rest : List Oper} {a : Act} {w : World} (ho : ops[i]? = some o) (h : wpList P ops Q (o :: rest) a w) : wpOp P ops Q i (wpList P ops Q rest) a w := by
 unfold wpOp
 rw [ho]
 exact h
def OnTheWay (P : Program) (ops : Array Oper) (Q : Exit → Act → World → Prop) (m : Nat) (ds : List Nat) (V : Nat → Value → World → Prop) (a0 : Act) (w0 : World) (listed : Array Bool) (a : Act) (w : World) : Prop :=
  listed.size = ops.size ∧ (∀ i o, ops[i]? = some o → listed.getD i false = true → ∀ e ∈ o.after, Region.binds .any e = true → listed.getD e.on false = true) ∧
  ((Below w0.heap.size w0 w ∧ (∀ i, m ≤ i → listed.getD i false = false) ∧ ∃ x : Nat → Value, a = frameOf ds x a0 ∧ ∀ i o d, i < m → ops[i]? = some o → listed.getD i false = true → o.dst = some d → V d (x d) w) ∨
   ∃ c, m ≤ c ∧ (∀ i, i < ops.size → listed.getD i false = decide (i < c)) ∧ wpList P ops Q (ops.toList.drop c) a w)
theorem ready_spec {listed : Array Bool} {i : Nat} (h : i ∈ Region.ready .any ops listed) :
  i < ops.size ∧ listed.getD i true = false ∧ ∀ o, ops[i]? = some o → ∀ e ∈ o.after, Region.binds .any e = true → listed.getD e.on false = true := by
 simp only [Region.ready, List.mem_filter, List.mem_range, Bool.and_eq_true, Bool.not_eq_true'] at h
 obtain ⟨h1, h2, h3⟩ := h
 refine ⟨h1, h2, fun o ho e he hb => ?_⟩
 rw [ho] at h3
 simp only [Option.map_some, Option.getD_some, Array.all_eq_true_iff_forall_mem] at h3
 have := h3 e he
 simpa [hb] using this
theorem getD_tf {listed : Array Bool} {i : Nat} (hi : i < listed.size) (b c : Bool) : listed.getD i b = listed.getD i c := by simp [Array.getD, hi]
theorem wp_region_parts {id : Nat} {a0 : Act} {w0 : World} (hm : P.follows .mixedOrders = true) (m : Nat) (ds : List Nat) (V : Nat → Value → World → Prop)
  (hok : partsOk m ops ds a0.tmps.size = true)
  (hV : ∀ d v w w', Below w.heap.size w w' → V d v w → V d v w')
  (hstep : Each (fun i o => ∀ (x : Nat → Value) (w : World), Below w0.heap.size w0 w → (∀ d, sees ops o d = true → V d (x d) w) →
   ∀ K : Act → World → Prop, (∀ v w', Below w.heap.size w w' → V (ds.getD i 0) v w' → K (frameOf ds (fun t => if t = ds.getD i 0 then v else x t) a0) w') →
    wpList P ops (Thence Q K) [o] (frameOf ds x a0) w) 0 (ops.toList.take m))
  (htail : ∀ (x : Nat → Value) (w : World), Below w0.heap.size w0 w → (∀ d ∈ ds, V d (x d) w) → wpList P ops Q (ops.toList.drop m) (frameOf ds x a0) w) :
  (Code.region id ops true).wp P Q a0 w0 := by
 simp only [partsOk, Bool.and_eq_true, decide_eq_true_eq, beq_iff_eq, List.all_eq_true, List.mem_range, Bool.or_eq_true] at hok
 obtain ⟨⟨⟨⟨⟨⟨hms, hdst⟩, hnd⟩, hlt⟩, hgd⟩, hord⟩, htl⟩ := hok
 have hget : ∀ i, i < m → ∃ o, ops[i]? = some o ∧ (ops.toList.take m)[i]? = some o ∧ o.guard = none ∧ o.dst = some (ds.getD i 0) ∧ ds[i]? = some (ds.getD i 0) := by
  intro i hi
  have hs : i < ops.size := by omega
  refine ⟨ops[i], by simp [hs], by simp [List.getElem?_take, hi, hs], ?_, ?_⟩
  ·have := hgd (ops[i]) (List.mem_of_getElem? (i := i) (by simp [List.getElem?_take, hi, hs]))
   simpa using this
  ·have h1 := congrArg (·[i]?) hdst
   simp only [List.getElem?_map, List.getElem?_take, hi, if_true] at h1
   have h2 : ops.toList[i]? = some ops[i] := by simp [hs]
   rw [h2] at h1
   cases hd : ds[i]? with
   | none => rw [hd] at h1; simp at h1
   | some d => rw [hd] at h1; simp at h1; rw [h1]; simp [List.getD, hd]
 have hordr : ∀ (listed : Array Bool), listed.size = ops.size → Region.ready .any ops listed = [] → ∀ i, i < ops.size → listed.getD i false = true := by
  intro listed hsz hr i
  induction i using Nat.strongRecOn with
  | ind i ih =>
   intro hi
   cases hl : listed.getD i false with
   | true => rfl
   | false =>
    exfalso
    have : i ∈ Region.ready .any ops listed := by
     simp only [Region.ready, List.mem_filter, List.mem_range, Bool.and_eq_true, Bool.not_eq_true']
     refine ⟨hi, by rw [getD_tf (by omega) true false]; exact hl, ?_⟩
     have ho : ops[i]? = some ops[i] := by simp [hi]
     have hb := hord i hi
     rw [ho] at hb ⊢
     simp only [Option.map_some, Option.getD_some, Array.all_eq_true_iff_forall_mem] at hb ⊢
     intro e he
     cases hbd : Region.binds .any e with
     | false => simp
     | true =>
      have h1 : e.on < i := by simpa [hbd] using hb e he
      simp [ih e.on h1 (by omega)]
    rw [hr] at this
    cases this
 have hnext : ∀ (listed : Array Bool) (c i : Nat), listed.size = ops.size → (∀ i o, ops[i]? = some o → listed.getD i false = true → ∀ e ∈ o.after, Region.binds .any e = true → listed.getD e.on false = true) → m ≤ c → (∀ j, c ≤ j → j < ops.size → listed.getD j false = false) → m ≤ i → i ∈ Region.ready .any ops listed →
   (∀ j, j < i → listed.getD j false = true) := by
  intro listed c i hsz hcl hc hun hi hr j hj
  obtain ⟨h1, h2, h3⟩ := ready_spec hr
  have ho : ops[i]? = some ops[i] := by simp [h1]
  rcases htl i h1 with h | h
  ·omega
  ·have := h j hj
   rw [ho] at this
   simp only [Option.map_some, Option.getD_some, List.any_eq_true, Bool.and_eq_true, Bool.or_eq_true, beq_iff_eq] at this
   obtain ⟨e, he, hb, h⟩ := this
   have hle := h3 _ ho e (by simpa using he) hb
   rcases h with rfl | h
   ·exact hle
   ·cases hoe : ops[e.on]? with
    | none => rw [hoe] at h; simp at h
    | some oe =>
     rw [hoe] at h
     simp only [Option.map_some, Option.getD_some, List.any_eq_true, Bool.and_eq_true, beq_iff_eq] at h
     obtain ⟨e', he', rfl, hb'⟩ := h
     exact hcl e.on oe hoe hle e' (by simpa using he') hb'
 have main : ∀ (fuel : Nat) (listed : Array Bool) (a : Act) (w : World), listed.toList.countP (fun b => !b) ≤ fuel → OnTheWay P ops Q m ds V a0 w0 listed a w → wpAny P .any ops Q fuel listed a w := by
  have fin : ∀ (listed : Array Bool) (a : Act) (w : World), OnTheWay P ops Q m ds V a0 w0 listed a w → Region.ready .any ops listed = [] → Q .normal a w := by
   intro listed a w ⟨hsz, _, hway⟩ hr
   have hall := hordr listed hsz hr
   rcases hway with ⟨hb, hun, x, rfl, hx⟩ | ⟨c, hc, hl, h⟩
   ·have hm' : m = ops.size := by
     rcases Nat.lt_or_ge m ops.size with h | h
     ·have := hun m (Nat.le_refl _); rw [hall m h] at this; cases this
     ·omega
    have := htail x w hb (fun d hd => by
     obtain ⟨i, hi⟩ := List.mem_iff_getElem?.1 hd
     have him : i < m := by
      have h1 := congrArg List.length hdst
      have h2 := (List.getElem?_eq_some_iff.1 hi).1
      simp at h1; omega
     obtain ⟨o, h1, h2, h3, h4, h5⟩ := hget i him
     rw [hi] at h5
     injection h5 with h5
     exact hx i o d him h1 (hall i (by omega)) (by rw [h4, ← h5]))
    rw [hm', ← Array.length_toList, List.drop_length] at this
    exact this
   ·have hcs : ops.size ≤ c := by
     rcases Nat.lt_or_ge c ops.size with h' | h'
     ·have h1 := hl c h'; rw [hall c h'] at h1; simp at h1
     ·exact h'
    rw [List.drop_eq_nil_of_le (by simpa using hcs)] at h
    exact h
  intro fuel
  induction fuel with
  | zero =>
   intro listed a w hfuel hway
   have hr : Region.ready .any ops listed = [] := by
    rw [List.eq_nil_iff_forall_not_mem]
    intro i hi
    obtain ⟨h1, h2, _⟩ := ready_spec hi
    have h0 : listed.toList.countP (fun b => !b) = 0 := by omega
    rw [List.countP_eq_zero] at h0
    have hsz := hway.1
    have : listed[i]'(by omega) = true := by
     have := h0 (listed[i]'(by omega)) (by simp)
     simpa using this
    simp [Array.getD, show i < listed.size from by omega, this] at h2
   exact ⟨hr, fin listed a w hway hr⟩
  | succ fuel ih =>
   intro listed a w hfuel hway
   refine ⟨fin listed a w hway, fun i hi => ?_⟩
   obtain ⟨h1, h2, h3⟩ := ready_spec hi
   have hsz := hway.1
   have his : i < listed.size := by omega
   have hfl : listed[i] = false := by simpa [Array.getD, his] using h2
   have hcount : (listed.setIfInBounds i true).toList.countP (fun b => !b) ≤ fuel := by
    have hli : listed.toList[i]'(by simpa using his) = false := by simpa using hfl
    have hpos : 0 < listed.toList.countP (fun b => !b) := List.countP_pos_iff.2 ⟨false, List.mem_of_getElem? (i := i) (by simp [his, hfl]), rfl⟩
    rw [Array.toList_setIfInBounds, List.countP_set (by simpa using his), hli]
    simp only [Bool.not_false, Bool.not_true, if_true, Bool.false_eq_true, if_false]
    omega
   have hsz' : (listed.setIfInBounds i true).size = ops.size := by simp [hsz]
   have hnew : ∀ j, (listed.setIfInBounds i true).getD j false = if j = i then true else listed.getD j false := by
    intro j
    by_cases hj : j < listed.size
    ·by_cases hji : j = i
     ·subst hji; simp [Array.getD, hj]
     ·simp [Array.getD, hj, hji, Array.getElem_setIfInBounds, Ne.symm hji]
    ·have : j ≠ i := by omega
     simp [Array.getD, hj, this]
   obtain ⟨_, hcl, hway⟩ := hway
   have hcl' : ∀ k o, ops[k]? = some o → (listed.setIfInBounds i true).getD k false = true → ∀ e ∈ o.after, Region.binds .any e = true → (listed.setIfInBounds i true).getD e.on false = true := by
    intro k o hk hl e he hb
    rw [hnew] at hl ⊢
    by_cases hei : e.on = i
    ·rw [if_pos hei]
    ·rw [if_neg hei]
     by_cases hki : k = i
     ·subst hki; exact h3 o hk e he hb
     ·rw [if_neg hki] at hl; exact hcl k o hk hl e he hb
   -- the tail, from place c on
   have tail : ∀ c, m ≤ c → (∀ j, j < ops.size → listed.getD j false = decide (j < c)) → wpList P ops Q (ops.toList.drop c) a w →
     wpOp P ops Q i (wpAny P .any ops Q fuel (listed.setIfInBounds i true)) a w := by
    intro c hc hl h
    have hci : c ≤ i := by
     rcases Nat.lt_or_ge i c with h' | h'
     ·have h4 := hl i h1
      rw [getD_tf his false true, h2] at h4
      simp [h'] at h4
     ·exact h'
    have hbefore := hnext listed c i hsz hcl hc (fun j hj hjs => by rw [hl j hjs]; simp; omega) (by omega) hi
    have hic : i = c := by
     rcases Nat.lt_or_ge c i with h' | h'
     ·have h4 := hbefore c h'
      rw [hl c (by omega)] at h4
      simp at h4
     ·omega
    subst hic
    have ho : ops[i]? = some ops[i] := by simp [h1]
    have hdrop : ops.toList.drop i = ops[i] :: ops.toList.drop (i + 1) := by
     rw [List.drop_eq_getElem_cons (by simpa using h1)]
     simp
    rw [hdrop] at h
    refine wpOp_mono (fun a' w' h' => ih _ a' w' hcount ⟨hsz', hcl', .inr ⟨i + 1, by omega, fun j hj => ?_, h'⟩⟩) (wpOp_of_wpList ho h)
    rw [hnew]
    by_cases hji : j = i
    ·subst hji; simp
    ·rw [if_neg hji, hl j hj]; simp; omega
   rcases hway with ⟨hb, hun, x, rfl, hx⟩ | ⟨c, hc, hl, h⟩
   ·rcases Nat.lt_or_ge i m with him | him
    ·obtain ⟨o, ho1, ho2, hg, hd, hdi⟩ := hget i him
     have hst := Each.at_ _ 0 i o hstep ho2
     simp only [Nat.zero_add] at hst
     unfold wpOp
     rw [ho1]
     simp only [Region.wanted, hg, if_true]
     refine wp_of_list (ops' := ops) hg (hst x w hb (fun d hs => ?_) _ (fun v w' hb' hv => ?_))
     ·simp only [sees, List.any_eq_true, Bool.and_eq_true, beq_iff_eq] at hs
      obtain ⟨e, he, hbd, heo⟩ := hs
      cases hoe : ops[e.on]? with
      | none => rw [hoe] at heo; cases heo
      | some oe =>
       rw [hoe] at heo
       have hle := h3 o ho1 e (by simpa using he) hbd
       have hem : e.on < m := by
        rcases Nat.lt_or_ge e.on m with h | h
        ·exact h
        ·rw [hun _ h] at hle; cases hle
       exact hx e.on oe d hem hoe hle heo
     ·refine ih _ _ w' hcount ⟨hsz', hcl', .inl ⟨hb.trans (hb'.mono hb.size), fun j hj => ?_, _, rfl, fun j oj d hj hoj hlj hdj => ?_⟩⟩
      ·rw [hnew, if_neg (by omega)]; exact hun j hj
      ·obtain ⟨oj', hoj1, _, _, hdj', hdij⟩ := hget j hj
       rw [hoj] at hoj1
       injection hoj1 with hoj1
       subst hoj1
       rw [hdj] at hdj'
       injection hdj' with hdj'
       by_cases hji : j = i
       ·subst hji
        subst hdj'
        simpa using hv
       ·have hne : d ≠ ds.getD i 0 := by
         intro e
         rw [hdj'] at e
         rw [e] at hdij
         exact hji ((List.getElem?_inj (List.getElem?_eq_some_iff.1 hdij).1 hnd).1 (hdij.trans hdi.symm))
        rw [hnew, if_neg hji] at hlj
        simp only [hne, if_false]
        exact hV _ _ _ _ hb' (hx j oj d hj hoj hlj hdj)
    ·have hbefore := hnext listed m i hsz hcl (Nat.le_refl _) (fun j hj _ => hun j hj) him hi
     have hl : ∀ j, j < ops.size → listed.getD j false = decide (j < m) := fun j hj => by
      by_cases h : j < m
      ·rw [hbefore j (by omega)]; simp [h]
      ·rw [hun j (by omega)]; simp [h]
     refine tail m (Nat.le_refl _) hl (htail x w hb fun d hd => ?_)
     obtain ⟨k, hk⟩ := List.mem_iff_getElem?.1 hd
     have hkm : k < m := by
      have h1 := congrArg List.length hdst
      have h2 := (List.getElem?_eq_some_iff.1 hk).1
      simp at h1; omega
     obtain ⟨o, ho1, _, _, ho4, ho5⟩ := hget k hkm
     rw [hk] at ho5
     injection ho5 with ho5
     exact hx k o d hkm ho1 (hbefore k (by omega)) (by rw [ho4, ← ho5])
   ·exact tail c hc hl h
 refine wp_region_any hm (main ops.size _ a0 _ ?_ ⟨by simp, fun i o _ hl => absurd hl (by simp [Array.getD]), .inl ⟨(Below.refl _ w0).drew, fun i _ => by simp [Array.getD], _, (frame_self ds a0).symm, fun i o d hi ho hl => ?_⟩⟩)
 ·have := List.countP_le_length (p := fun b => !b) (l := (Array.replicate ops.size false).toList)
  simpa using this
 ·exfalso
  revert hl
  simp [Array.getD]
end
def reach (ops : Array Oper) : Nat → Nat → Nat → Bool
 | 0, _, _ => false
 | n + 1, i, j => ((ops[i]?).map fun o => o.after.toList.any fun e => Region.binds .any e && (e.on == j || reach ops n e.on j)).getD false
theorem reach_spec {ops : Array Oper} {listed : Array Bool} (hcl : ∀ i o, ops[i]? = some o → listed.getD i false = true → ∀ e ∈ o.after, Region.binds .any e = true → listed.getD e.on false = true) :
  ∀ (n i j : Nat), (∀ o, ops[i]? = some o → ∀ e ∈ o.after, Region.binds .any e = true → listed.getD e.on false = true) → reach ops n i j = true → listed.getD j false = true := by
 intro n
 induction n with
 | zero => intro i j _ h; simp [reach] at h
 | succ n ih =>
  intro i j hi h
  cases ho : ops[i]? with
  | none => rw [reach, ho] at h; simp at h
  | some o =>
   rw [reach, ho] at h
   simp only [Option.map_some, Option.getD_some, List.any_eq_true, Bool.and_eq_true, Bool.or_eq_true, beq_iff_eq] at h
   obtain ⟨e, he, hb, h⟩ := h
   have hle := hi o ho e (by simpa using he) hb
   rcases h with rfl | h
   ·exact hle
   ·exact ih e.on j (fun o' ho' e' he' hb' => hcl e.on o' ho' hle e' he' hb') h
section
variable {P : Program} {ops : Array Oper} {Q : Exit → Act → World → Prop}
end
def waits (o : Oper) (j : Nat) : Bool := o.after.toList.any fun e => Region.binds .any e && e.on == j
def setSlot (x : Nat → Value) : Option Nat → Value → Nat → Value
 | some d, v => fun t => if t = d then v else x t
 | none, _ => x
def slotsOf (ds : List (Option Nat)) : List Nat := ds.filterMap id
def partsOkG (ops : Array Oper) (ds : List (Option Nat)) (uses : List (List Nat)) (dead : List (Nat × Nat)) (n : Nat) : Bool :=
 (ops.toList.map (·.dst) == ds) && decide (slotsOf ds).Nodup && (slotsOf ds).all (fun d => decide (d < n)) &&
 ops.toList.all (fun o => o.guard.isNone) &&
 (List.range ops.size).all (fun i => ((ops[i]?).map fun o => o.after.all fun e => !Region.binds .any e || decide (e.on < i)).getD true) &&
 (List.range ops.size).all (fun j => (uses.getD j []).all fun t => (List.range ops.size).all fun i => i == j || !(ds.getD i none == some t) || reach ops 6 j i) &&
 (List.range uses.length).all (fun j => decide (j < ops.size) || (uses.getD j []).all fun t => (List.range ops.size).all fun i => !(ds.getD i none == some t) || dead.contains (i, j))
def safe (ops : Array Oper) (dead : List (Nat × Nat)) (i j : Nat) : Bool := dead.all fun p => !(p.2 == j) || p.1 == i || reach ops 6 p.1 i
theorem frame_putG (ds : List Nat) (x : Nat → Value) (a : Act) (d : Option Nat) (v : Value) (hd : ∀ t, d = some t → t ∈ ds) : (frameOf ds x a).put d v = frameOf ds (setSlot x d v) a := by
 cases d with
 | none => rfl
 | some d => exact frame_put ds x a d v (hd d rfl)
section
variable {P : Program} {ops : Array Oper} {Q : Exit → Act → World → Prop}
def OnTheWayG (ops : Array Oper) (ds : List (Option Nat)) (V : Nat → (Nat → Value) → World → Prop) (dead : List (Nat × Nat)) (Base : World → Prop) (a0 : Act) (listed : Array Bool) (a : Act) (w : World) : Prop :=
 listed.size = ops.size ∧ (∀ i o, ops[i]? = some o → listed.getD i false = true → ∀ e ∈ o.after, Region.binds .any e = true → listed.getD e.on false = true) ∧ Base w ∧
 ∃ x : Nat → Value, a = frameOf (slotsOf ds) x a0 ∧ ∀ j, (j < ops.size → listed.getD j false = true) → (∀ i, i < ops.size → listed.getD i false = true → dead.contains (i, j) = false) → V j x w
theorem wp_region_partsG {id : Nat} {a0 : Act} {w0 : World} (hm : P.follows .mixedOrders = true) (ds : List (Option Nat)) (V : Nat → (Nat → Value) → World → Prop) (uses : List (List Nat)) (dead : List (Nat × Nat)) (Base : World → Prop)
  (hok : partsOkG ops ds uses dead a0.tmps.size = true)
  (hx : ∀ j x x' w, (∀ t ∈ uses.getD j [], x t = x' t) → V j x w → V j x' w)
  (hV : ∀ j x w w', Below w.heap.size w w' → V j x w → V j x w')
  (hB : ∀ w w', Below w.heap.size w w' → Base w → Base w') (h0 : Base w0) (h00 : ∀ j, ops.size ≤ j → V j (fun t => a0.tmps.getD t undef) w0)
  (hstep : Each (fun i o => ∀ (x : Nat → Value) (w : World), Base w → (∀ j, (waits o j || decide (ops.size ≤ j)) = true → safe ops dead i j = true → V j x w) →
   ∀ K : Act → World → Prop, (∀ v w', (Below w.heap.size w w' ∨ Base w' ∧ ∀ j x, dead.contains (i, j) = false → j ≠ i → V j x w → V j x w') → V i (setSlot x (ds.getD i none) v) w' → K (frameOf (slotsOf ds) (setSlot x (ds.getD i none) v) a0) w') →
    wpList P ops (Thence Q K) [o] (frameOf (slotsOf ds) x a0) w) 0 ops.toList)
  (hend : ∀ (x : Nat → Value) (w : World), Base w → (∀ j, (∀ i, i < ops.size → dead.contains (i, j) = false) → V j x w) → Q .normal (frameOf (slotsOf ds) x a0) w) :
  (Code.region id ops true).wp P Q a0 w0 := by
 simp only [partsOkG, Bool.and_eq_true, decide_eq_true_eq, beq_iff_eq, List.all_eq_true, List.mem_range, Bool.or_eq_true] at hok
 obtain ⟨⟨⟨⟨⟨⟨hdst, hnd⟩, hlt⟩, hgd⟩, hord⟩, huse⟩, huse0⟩ := hok
 have hget : ∀ i, i < ops.size → ∃ o, ops[i]? = some o ∧ ops.toList[i]? = some o ∧ o.guard = none ∧ o.dst = ds.getD i none := by
  intro i hi
  refine ⟨ops[i], by simp [hi], by simp [hi], ?_, ?_⟩
  ·have := hgd (ops[i]) (List.mem_of_getElem? (i := i) (by simp [hi]))
   simpa using this
  ·rw [← hdst]
   simp [List.getD, hi]
 have hordr : ∀ (listed : Array Bool), listed.size = ops.size → Region.ready .any ops listed = [] → ∀ i, i < ops.size → listed.getD i false = true := by
  intro listed hsz hr i
  induction i using Nat.strongRecOn with
  | ind i ih =>
   intro hi
   cases hl : listed.getD i false with
   | true => rfl
   | false =>
    exfalso
    have : i ∈ Region.ready .any ops listed := by
     simp only [Region.ready, List.mem_filter, List.mem_range, Bool.and_eq_true, Bool.not_eq_true']
     refine ⟨hi, by rw [getD_tf (by omega) true false]; exact hl, ?_⟩
     have ho : ops[i]? = some ops[i] := by simp [hi]
     have hb := hord i hi
     rw [ho] at hb ⊢
     simp only [Option.map_some, Option.getD_some, Array.all_eq_true_iff_forall_mem] at hb ⊢
     intro e he
     cases hbd : Region.binds .any e with
     | false => simp
     | true =>
      have h1 : e.on < i := by simpa [hbd] using hb e he
      simp [ih e.on h1 (by omega)]
    rw [hr] at this
    cases this
 have fin : ∀ (listed : Array Bool) (a : Act) (w : World), OnTheWayG ops ds V dead Base a0 listed a w → Region.ready .any ops listed = [] → Q .normal a w := by
  rintro listed a w ⟨hsz, _, hb, x, rfl, hx'⟩ hr
  have hall := hordr listed hsz hr
  exact hend x w hb (fun j hd => hx' j (fun hj => hall j hj) (fun i hi _ => hd i hi))
 have main : ∀ (fuel : Nat) (listed : Array Bool) (a : Act) (w : World), listed.toList.countP (fun b => !b) ≤ fuel → OnTheWayG ops ds V dead Base a0 listed a w → wpAny P .any ops Q fuel listed a w := by
  intro fuel
  induction fuel with
  | zero =>
   intro listed a w hfuel hway
   have hr : Region.ready .any ops listed = [] := by
    rw [List.eq_nil_iff_forall_not_mem]
    intro i hi
    obtain ⟨h1, h2, _⟩ := ready_spec hi
    have h0 : listed.toList.countP (fun b => !b) = 0 := by omega
    rw [List.countP_eq_zero] at h0
    have hsz := hway.1
    have : listed[i]'(by omega) = true := by
     have := h0 (listed[i]'(by omega)) (by simp)
     simpa using this
    simp [Array.getD, show i < listed.size from by omega, this] at h2
   exact ⟨hr, fin listed a w hway hr⟩
  | succ fuel ih =>
   intro listed a w hfuel hway
   refine ⟨fin listed a w hway, fun i hi => ?_⟩
   obtain ⟨h1, h2, h3⟩ := ready_spec hi
   have hsz := hway.1
   have his : i < listed.size := by omega
   have hfl : listed[i] = false := by simpa [Array.getD, his] using h2
   have hcount : (listed.setIfInBounds i true).toList.countP (fun b => !b) ≤ fuel := by
    have hli : listed.toList[i]'(by simpa using his) = false := by simpa using hfl
    have hpos : 0 < listed.toList.countP (fun b => !b) := List.countP_pos_iff.2 ⟨false, List.mem_of_getElem? (i := i) (by simp [his, hfl]), rfl⟩
    rw [Array.toList_setIfInBounds, List.countP_set (by simpa using his), hli]
    simp only [Bool.not_false, Bool.not_true, if_true, Bool.false_eq_true, if_false]
    omega
   have hsz' : (listed.setIfInBounds i true).size = ops.size := by simp [hsz]
   have hnew : ∀ j, (listed.setIfInBounds i true).getD j false = if j = i then true else listed.getD j false := by
    intro j
    by_cases hj : j < listed.size
    ·by_cases hji : j = i
     ·subst hji; simp [Array.getD, hj]
     ·simp [Array.getD, hj, hji, Array.getElem_setIfInBounds, Ne.symm hji]
    ·have : j ≠ i := by omega
     simp [Array.getD, hj, this]
   obtain ⟨_, hcl, hb, x, rfl, hx'⟩ := hway
   have hli : listed.getD i false = false := by rw [getD_tf his false true]; exact h2
   have hcl' : ∀ k o, ops[k]? = some o → (listed.setIfInBounds i true).getD k false = true → ∀ e ∈ o.after, Region.binds .any e = true → (listed.setIfInBounds i true).getD e.on false = true := by
    intro k o hk hl e he hb
    rw [hnew] at hl ⊢
    by_cases hei : e.on = i
    ·rw [if_pos hei]
    ·rw [if_neg hei]
     by_cases hki : k = i
     ·subst hki; exact h3 o hk e he hb
     ·rw [if_neg hki] at hl; exact hcl k o hk hl e he hb
   obtain ⟨o, ho1, ho2, hg, hd⟩ := hget i h1
   have hst := Each.at_ _ 0 i o hstep ho2
   simp only [Nat.zero_add] at hst
   unfold wpOp
   rw [ho1]
   simp only [Region.wanted, hg, if_true]
   have hseen : ∀ j, (waits o j || decide (ops.size ≤ j)) = true → safe ops dead i j = true → V j x w := by
    intro j hj hsafe
    simp only [safe, List.all_eq_true, Bool.or_eq_true, Bool.not_eq_true', beq_eq_false_iff_ne, beq_iff_eq] at hsafe
    have hlj : j < ops.size → listed.getD j false = true := by
     intro hjs
     rw [Bool.or_eq_true] at hj
     rcases hj with hj | hj
     ·simp only [waits, List.any_eq_true, Bool.and_eq_true, beq_iff_eq] at hj
      obtain ⟨e, he, hbd, rfl⟩ := hj
      exact h3 o ho1 e (by simpa using he) hbd
     ·exact absurd hjs (by simpa using hj)
    refine hx' j hlj (fun k hk hlk => ?_)
    cases hdd : dead.contains (k, j) with
    | false => rfl
    | true =>
     exfalso
     have hmem : (k, j) ∈ dead := by simpa using hdd
     rcases hsafe _ hmem with (h | h) | h
     ·exact h rfl
     ·simp only at h; subst h; rw [hli] at hlk; cases hlk
     ·have := reach_spec hcl 6 k i (fun o' ho' e' he' hb' => hcl k o' ho' hlk e' he' hb') h
      rw [hli] at this
      cases this
   have hds : ∀ t, ds.getD i none = some t → t ∈ slotsOf ds := by
    intro t ht
    refine List.mem_filterMap.2 ⟨some t, ?_, rfl⟩
    rw [List.getD_eq_getElem?_getD] at ht
    cases hq : ds[i]? with
    | none => rw [hq] at ht; cases ht
    | some u => rw [hq] at ht; simp at ht; subst ht; exact List.mem_of_getElem? hq
   refine wp_of_list (ops' := ops) hg (hst x w hb hseen _ (fun v w' hor hv => ?_))
   rw [← frame_putG (slotsOf ds) x a0 (ds.getD i none) v hds]
   rw [frame_putG (slotsOf ds) x a0 (ds.getD i none) v hds]
   have hkeep : Base w' ∧ ∀ j x, dead.contains (i, j) = false → j ≠ i → V j x w → V j x w' := by
    rcases hor with h | h
    ·exact ⟨hB _ _ h hb, fun j x _ _ hv => hV j x w w' h hv⟩
    ·exact h
   refine ih _ _ w' hcount ⟨hsz', hcl', hkeep.1, _, rfl, fun j hlj hdj => ?_⟩
   by_cases hji : j = i
   ·subst hji; exact hv
   ·have hlj' : j < ops.size → listed.getD j false = true := fun hj => by
     have := hlj hj
     rwa [hnew, if_neg hji] at this
    have hold := hx' j hlj' (fun k hk hlk => hdj k hk (by rw [hnew]; split; rfl; exact hlk))
    have hdi := hdj i h1 (by rw [hnew]; simp)
    refine hx j x _ w' (fun t ht => ?_) (hkeep.2 j x hdi hji hold)
    cases hdi' : ds.getD i none with
    | none => rfl
    | some d =>
     simp only [setSlot]
     by_cases htd : t = d
     ·subst htd
      exfalso
      by_cases hj : j < ops.size
      ·rcases huse j hj t ht i h1 with (h | h) | h
       ·exact hji h.symm
       ·rw [hdi'] at h; simp at h
       ·have := reach_spec hcl 6 j i (fun o' ho' e' he' hb' => hcl j o' ho' (hlj' hj) e' he' hb') h
        rw [hli] at this
        cases this
      ·have hjl : j < uses.length := by
        rcases Nat.lt_or_ge j uses.length with h | h
        ·exact h
        ·rw [List.getD_eq_getElem?_getD, List.getElem?_eq_none h] at ht; cases ht
       rcases huse0 j hjl with h | h
       ·exact hj h
       ·rcases h t ht i h1 with h | h
        ·rw [hdi'] at h; simp at h
        ·rw [h] at hdi; cases hdi
     ·rw [if_neg htd]
 refine wp_region_any hm (main ops.size _ a0 _ ?_ ⟨by simp, fun i o _ hl => absurd hl (by simp [Array.getD]), hB _ _ ((Below.refl _ w0).drew) h0, _, (frame_self (slotsOf ds) a0).symm, fun j hl _ => ?_⟩)
 ·have := List.countP_le_length (p := fun b => !b) (l := (Array.replicate ops.size false).toList)
  simpa using this
 ·rcases Nat.lt_or_ge j ops.size with h | h
  ·have := hl h
   simp [Array.getD] at this
  ·exact hV _ _ _ _ ((Below.refl _ w0).drew) (h00 j h)
end
def partsOkW (ops : Array Oper) (ds : List (Option Nat)) (uses : List (List Nat)) (dead : List (Nat × Nat)) (n : Nat) : Bool :=
 (ops.toList.map (·.dst) == ds) && decide (slotsOf ds).Nodup && (slotsOf ds).all (fun d => decide (d < n)) &&
 (List.range ops.size).all (fun i => ((ops[i]?).map fun o => o.after.all fun e => !Region.binds .any e || decide (e.on < i)).getD true) &&
 (List.range ops.size).all (fun j => (uses.getD j []).all fun t => (List.range ops.size).all fun i => i == j || !(ds.getD i none == some t) || reach ops 6 j i) &&
 (List.range uses.length).all (fun j => decide (j < ops.size) || (uses.getD j []).all fun t => (List.range ops.size).all fun i => !(ds.getD i none == some t) || dead.contains (i, j))
section
variable {P : Program} {ops : Array Oper} {Q : Exit → Act → World → Prop}
theorem wpOp_of_list {i : Nat} {o : Oper} {a : Act} {w : World} {K : Act → World → Prop} (ho : ops[i]? = some o) (h : wpList P ops (Thence Q K) [o] a w) : wpOp P ops Q i K a w := by
 unfold wpOp
 rw [ho]
 simp only
 by_cases hw : Region.wanted o (yielded ops a.tmps) = true
 ·rw [if_pos hw]
  unfold wpList at h
  rw [if_pos hw] at h
  rcases h with h | ⟨h1, a', w', h2⟩
  ·left
   unfold Oper.wp at h ⊢
   generalize (execOp a.eval o).run P w = r at *
   cases r with
   | ok n w' =>
    cases n <;> simp only [Oper.upon] at h ⊢ <;>
     first
      | exact h
      | exact Calls.mono h (fun e w'' he => by cases e <;> first | exact he | (obtain ⟨a', w', h2⟩ := he; exact ⟨a', w', h2⟩))
      | exact Rows.mono h (fun _ _ he => he)
   | _ => exact h
  ·right
   exact ⟨h1, a', w', h2⟩
 ·rw [if_neg hw]
  unfold wpList at h
  rw [if_neg hw] at h
  exact h
theorem wp_region_partsW {id : Nat} {a0 : Act} {w0 : World} (hm : P.follows .mixedOrders = true) (ds : List (Option Nat)) (V : Nat → (Nat → Value) → World → Prop) (uses : List (List Nat)) (dead : List (Nat × Nat)) (Base : World → Prop)
  (hok : partsOkW ops ds uses dead a0.tmps.size = true)
  (hx : ∀ j x x' w, (∀ t ∈ uses.getD j [], x t = x' t) → V j x w → V j x' w)
  (hV : ∀ j x w w', Below w.heap.size w w' → V j x w → V j x w')
  (hB : ∀ w w', Below w.heap.size w w' → Base w → Base w') (h0 : Base w0) (h00 : ∀ j, ops.size ≤ j → V j (fun t => a0.tmps.getD t undef) w0)
  (hstep : Each (fun i o => ∀ (x : Nat → Value) (w : World), Base w → (∀ j, (waits o j || decide (ops.size ≤ j)) = true → safe ops dead i j = true → V j x w) →
   ∀ K : Act → World → Prop, (∀ v w', (Below w.heap.size w w' ∨ Base w' ∧ ∀ j x, dead.contains (i, j) = false → j ≠ i → V j x w → V j x w') → V i (setSlot x (ds.getD i none) v) w' → K (frameOf (slotsOf ds) (setSlot x (ds.getD i none) v) a0) w') →
    wpList P ops (Thence Q K) [o] (frameOf (slotsOf ds) x a0) w) 0 ops.toList)
  (hend : ∀ (x : Nat → Value) (w : World), Base w → (∀ j, (∀ i, i < ops.size → dead.contains (i, j) = false) → V j x w) → Q .normal (frameOf (slotsOf ds) x a0) w) :
  (Code.region id ops true).wp P Q a0 w0 := by
 simp only [partsOkW, Bool.and_eq_true, decide_eq_true_eq, beq_iff_eq, List.all_eq_true, List.mem_range, Bool.or_eq_true] at hok
 obtain ⟨⟨⟨⟨⟨hdst, hnd⟩, hlt⟩, hord⟩, huse⟩, huse0⟩ := hok
 have hget : ∀ i, i < ops.size → ∃ o, ops[i]? = some o ∧ ops.toList[i]? = some o ∧ o.dst = ds.getD i none := by
  intro i hi
  refine ⟨ops[i], by simp [hi], by simp [hi], ?_⟩
  ·rw [← hdst]
   simp [List.getD, hi]
 have hordr : ∀ (listed : Array Bool), listed.size = ops.size → Region.ready .any ops listed = [] → ∀ i, i < ops.size → listed.getD i false = true := by
  intro listed hsz hr i
  induction i using Nat.strongRecOn with
  | ind i ih =>
   intro hi
   cases hl : listed.getD i false with
   | true => rfl
   | false =>
    exfalso
    have : i ∈ Region.ready .any ops listed := by
     simp only [Region.ready, List.mem_filter, List.mem_range, Bool.and_eq_true, Bool.not_eq_true']
     refine ⟨hi, by rw [getD_tf (by omega) true false]; exact hl, ?_⟩
     have ho : ops[i]? = some ops[i] := by simp [hi]
     have hb := hord i hi
     rw [ho] at hb ⊢
     simp only [Option.map_some, Option.getD_some, Array.all_eq_true_iff_forall_mem] at hb ⊢
     intro e he
     cases hbd : Region.binds .any e with
     | false => simp
     | true =>
      have h1 : e.on < i := by simpa [hbd] using hb e he
      simp [ih e.on h1 (by omega)]
    rw [hr] at this
    cases this
 have fin : ∀ (listed : Array Bool) (a : Act) (w : World), OnTheWayG ops ds V dead Base a0 listed a w → Region.ready .any ops listed = [] → Q .normal a w := by
  rintro listed a w ⟨hsz, _, hb, x, rfl, hx'⟩ hr
  have hall := hordr listed hsz hr
  exact hend x w hb (fun j hd => hx' j (fun hj => hall j hj) (fun i hi _ => hd i hi))
 have main : ∀ (fuel : Nat) (listed : Array Bool) (a : Act) (w : World), listed.toList.countP (fun b => !b) ≤ fuel → OnTheWayG ops ds V dead Base a0 listed a w → wpAny P .any ops Q fuel listed a w := by
  intro fuel
  induction fuel with
  | zero =>
   intro listed a w hfuel hway
   have hr : Region.ready .any ops listed = [] := by
    rw [List.eq_nil_iff_forall_not_mem]
    intro i hi
    obtain ⟨h1, h2, _⟩ := ready_spec hi
    have h0 : listed.toList.countP (fun b => !b) = 0 := by omega
    rw [List.countP_eq_zero] at h0
    have hsz := hway.1
    have : listed[i]'(by omega) = true := by
     have := h0 (listed[i]'(by omega)) (by simp)
     simpa using this
    simp [Array.getD, show i < listed.size from by omega, this] at h2
   exact ⟨hr, fin listed a w hway hr⟩
  | succ fuel ih =>
   intro listed a w hfuel hway
   refine ⟨fin listed a w hway, fun i hi => ?_⟩
   obtain ⟨h1, h2, h3⟩ := ready_spec hi
   have hsz := hway.1
   have his : i < listed.size := by omega
   have hfl : listed[i] = false := by simpa [Array.getD, his] using h2
   have hcount : (listed.setIfInBounds i true).toList.countP (fun b => !b) ≤ fuel := by
    have hli : listed.toList[i]'(by simpa using his) = false := by simpa using hfl
    have hpos : 0 < listed.toList.countP (fun b => !b) := List.countP_pos_iff.2 ⟨false, List.mem_of_getElem? (i := i) (by simp [his, hfl]), rfl⟩
    rw [Array.toList_setIfInBounds, List.countP_set (by simpa using his), hli]
    simp only [Bool.not_false, Bool.not_true, if_true, Bool.false_eq_true, if_false]
    omega
   have hsz' : (listed.setIfInBounds i true).size = ops.size := by simp [hsz]
   have hnew : ∀ j, (listed.setIfInBounds i true).getD j false = if j = i then true else listed.getD j false := by
    intro j
    by_cases hj : j < listed.size
    ·by_cases hji : j = i
     ·subst hji; simp [Array.getD, hj]
     ·simp [Array.getD, hj, hji, Array.getElem_setIfInBounds, Ne.symm hji]
    ·have : j ≠ i := by omega
     simp [Array.getD, hj, this]
   obtain ⟨_, hcl, hb, x, rfl, hx'⟩ := hway
   have hli : listed.getD i false = false := by rw [getD_tf his false true]; exact h2
   have hcl' : ∀ k o, ops[k]? = some o → (listed.setIfInBounds i true).getD k false = true → ∀ e ∈ o.after, Region.binds .any e = true → (listed.setIfInBounds i true).getD e.on false = true := by
    intro k o hk hl e he hb
    rw [hnew] at hl ⊢
    by_cases hei : e.on = i
    ·rw [if_pos hei]
    ·rw [if_neg hei]
     by_cases hki : k = i
     ·subst hki; exact h3 o hk e he hb
     ·rw [if_neg hki] at hl; exact hcl k o hk hl e he hb
   obtain ⟨o, ho1, ho2, hd⟩ := hget i h1
   have hst := Each.at_ _ 0 i o hstep ho2
   simp only [Nat.zero_add] at hst
   have hseen : ∀ j, (waits o j || decide (ops.size ≤ j)) = true → safe ops dead i j = true → V j x w := by
    intro j hj hsafe
    simp only [safe, List.all_eq_true, Bool.or_eq_true, Bool.not_eq_true', beq_eq_false_iff_ne, beq_iff_eq] at hsafe
    have hlj : j < ops.size → listed.getD j false = true := by
     intro hjs
     rw [Bool.or_eq_true] at hj
     rcases hj with hj | hj
     ·simp only [waits, List.any_eq_true, Bool.and_eq_true, beq_iff_eq] at hj
      obtain ⟨e, he, hbd, rfl⟩ := hj
      exact h3 o ho1 e (by simpa using he) hbd
     ·exact absurd hjs (by simpa using hj)
    refine hx' j hlj (fun k hk hlk => ?_)
    cases hdd : dead.contains (k, j) with
    | false => rfl
    | true =>
     exfalso
     have hmem : (k, j) ∈ dead := by simpa using hdd
     rcases hsafe _ hmem with (h | h) | h
     ·exact h rfl
     ·simp only at h; subst h; rw [hli] at hlk; cases hlk
     ·have := reach_spec hcl 6 k i (fun o' ho' e' he' hb' => hcl k o' ho' hlk e' he' hb') h
      rw [hli] at this
      cases this
   have hds : ∀ t, ds.getD i none = some t → t ∈ slotsOf ds := by
    intro t ht
    refine List.mem_filterMap.2 ⟨some t, ?_, rfl⟩
    rw [List.getD_eq_getElem?_getD] at ht
    cases hq : ds[i]? with
    | none => rw [hq] at ht; cases ht
    | some u => rw [hq] at ht; simp at ht; subst ht; exact List.mem_of_getElem? hq
   refine wpOp_of_list ho1 (hst x w hb hseen _ (fun v w' hor hv => ?_))
   rw [← frame_putG (slotsOf ds) x a0 (ds.getD i none) v hds]
   rw [frame_putG (slotsOf ds) x a0 (ds.getD i none) v hds]
   have hkeep : Base w' ∧ ∀ j x, dead.contains (i, j) = false → j ≠ i → V j x w → V j x w' := by
    rcases hor with h | h
    ·exact ⟨hB _ _ h hb, fun j x _ _ hv => hV j x w w' h hv⟩
    ·exact h
   refine ih _ _ w' hcount ⟨hsz', hcl', hkeep.1, _, rfl, fun j hlj hdj => ?_⟩
   by_cases hji : j = i
   ·subst hji; exact hv
   ·have hlj' : j < ops.size → listed.getD j false = true := fun hj => by
     have := hlj hj
     rwa [hnew, if_neg hji] at this
    have hold := hx' j hlj' (fun k hk hlk => hdj k hk (by rw [hnew]; split; rfl; exact hlk))
    have hdi := hdj i h1 (by rw [hnew]; simp)
    refine hx j x _ w' (fun t ht => ?_) (hkeep.2 j x hdi hji hold)
    cases hdi' : ds.getD i none with
    | none => rfl
    | some d =>
     simp only [setSlot]
     by_cases htd : t = d
     ·subst htd
      exfalso
      by_cases hj : j < ops.size
      ·rcases huse j hj t ht i h1 with (h | h) | h
       ·exact hji h.symm
       ·rw [hdi'] at h; simp at h
       ·have := reach_spec hcl 6 j i (fun o' ho' e' he' hb' => hcl j o' ho' (hlj' hj) e' he' hb') h
        rw [hli] at this
        cases this
      ·have hjl : j < uses.length := by
        rcases Nat.lt_or_ge j uses.length with h | h
        ·exact h
        ·rw [List.getD_eq_getElem?_getD, List.getElem?_eq_none h] at ht; cases ht
       rcases huse0 j hjl with h | h
       ·exact hj h
       ·rcases h t ht i h1 with h | h
        ·rw [hdi'] at h; simp at h
        ·rw [h] at hdi; cases hdi
     ·rw [if_neg htd]
 refine wp_region_any hm (main ops.size _ a0 _ ?_ ⟨by simp, fun i o _ hl => absurd hl (by simp [Array.getD]), hB _ _ ((Below.refl _ w0).drew) h0, _, (frame_self (slotsOf ds) a0).symm, fun j hl _ => ?_⟩)
 ·have := List.countP_le_length (p := fun b => !b) (l := (Array.replicate ops.size false).toList)
  simpa using this
 ·rcases Nat.lt_or_ge j ops.size with h | h
  ·have := hl h
   simp [Array.getD] at this
  ·exact hV _ _ _ _ ((Below.refl _ w0).drew) (h00 j h)
end
theorem fill_append (ds : List Nat) (x : Nat → Value) : ∀ (l r : List Value) (t : Nat), fill ds x t (l ++ r) = fill ds x t l ++ fill ds x (t + l.length) r
 | [], r, t => by simp [fill]
 | v :: l, r, t => by
  simp only [List.cons_append, fill, fill_append ds x l r (t + 1), List.length_cons]
  rw [show t + 1 + l.length = t + (l.length + 1) by omega]
theorem fill_out (ds : List Nat) (x : Nat → Value) : ∀ (l : List Value) (t : Nat), (∀ i, t ≤ i → i < t + l.length → ds.contains i = false) → fill ds x t l = l
 | [], t, _ => rfl
 | v :: l, t, h => by
  have h0 := h t (Nat.le_refl _) (by simp)
  simp only [fill, h0, Bool.false_eq_true, if_false]
  rw [fill_out ds x l (t + 1) (fun i h1 h2 => h i (by omega) (by simp; omega))]
theorem fill_in (ds : List Nat) (x : Nat → Value) : ∀ (l : List Value) (t : Nat), (∀ i, t ≤ i → i < t + l.length → ds.contains i = true) → fill ds x t l = (List.range' t l.length).map x
 | [], t, _ => rfl
 | v :: l, t, h => by
  have h0 := h t (Nat.le_refl _) (by simp)
  simp only [fill, h0, if_true, List.length_cons, List.range'_succ, List.map_cons]
  rw [fill_in ds x l (t + 1) (fun i h1 h2 => h i (by omega) (by simp; omega))]
theorem frameOf_run {ds : List Nat} (a n : Nat) (hds : ds = List.range' a n) (x : Nat → Value) (l : List Value) (df : _) (hl : decide (a + n ≤ l.length) = true) :
  frameOf ds x ⟨l.toArray, df⟩ = ⟨(l.take a ++ ((List.range' a n).map x ++ l.drop (a + n))).toArray, df⟩ := by
 have hl' : a + n ≤ l.length := by simpa using hl
 subst hds
 have e : l = l.take a ++ ((l.drop a).take n ++ l.drop (a + n)) := by
  rw [show l.drop (a + n) = (l.drop a).drop n by simp [List.drop_drop], List.take_append_drop, List.take_append_drop]
 unfold frameOf
 simp only
 congr 2
 conv => lhs; rw [e]
 have l1 : (l.take a).length = a := by simp; omega
 have l2 : ((l.drop a).take n).length = n := by simp; omega
 have c : ∀ i, (List.range' a n).contains i = (decide (a ≤ i) && decide (i < a + n)) := by
  intro i
  rw [Bool.eq_iff_iff, List.contains_iff_mem, List.mem_range'_1]
  simp
 rw [fill_append, fill_append, l1, l2, fill_out _ _ (l.take a) 0 (fun i h1 h2 => by rw [c]; simp; omega),
  fill_in _ _ ((l.drop a).take n) (0 + a) (fun i h1 h2 => by rw [c]; simp; omega), fill_out _ _ (l.drop (a + n)) _ (fun i h1 h2 => by rw [c]; simp; omega), l2, Nat.zero_add]
section
variable {P : Program} {ops : Array Oper} {Q : Exit → Act → World → Prop}
def runOf (a n : Nat) (x : Nat → Value) (l : List Value) : Array Value := (l.take a ++ ((List.range' a n).map x ++ l.drop (a + n))).toArray
theorem wp_region_partsR {id : Nat} {l : List Value} {df : _} {w0 : World} (a n : Nat) (hm : P.follows .mixedOrders = true) (ds : List (Option Nat)) (V : Nat → (Nat → Value) → World → Prop) (uses : List (List Nat)) (dead : List (Nat × Nat)) (Base : World → Prop)
  (hok : partsOkW ops ds uses dead l.length = true) (hds : slotsOf ds = List.range' a n) (hl : decide (a + n ≤ l.length) = true)
  (hx : ∀ j x x' w, (∀ t ∈ uses.getD j [], x t = x' t) → V j x w → V j x' w)
  (hV : ∀ j x w w', Below w.heap.size w w' → V j x w → V j x w')
  (hB : ∀ w w', Below w.heap.size w w' → Base w → Base w') (h0 : Base w0) (h00 : ∀ j, ops.size ≤ j → V j (fun t => l.toArray.getD t undef) w0)
  (hstep : Each (fun i o => ∀ (x : Nat → Value) (w : World), Base w → (∀ j, (waits o j || decide (ops.size ≤ j)) = true → safe ops dead i j = true → V j x w) →
   ∀ K : Act → World → Prop, (∀ v w', (Below w.heap.size w w' ∨ Base w' ∧ ∀ j x, dead.contains (i, j) = false → j ≠ i → V j x w → V j x w') → V i (setSlot x (ds.getD i none) v) w' → K ⟨runOf a n (setSlot x (ds.getD i none) v) l, df⟩ w') →
    wpList P ops (Thence Q K) [o] ⟨runOf a n x l, df⟩ w) 0 ops.toList)
  (hend : ∀ (x : Nat → Value) (w : World), Base w → (∀ j, (∀ i, i < ops.size → dead.contains (i, j) = false) → V j x w) → Q .normal ⟨runOf a n x l, df⟩ w) :
  (Code.region id ops true).wp P Q ⟨l.toArray, df⟩ w0 := by
 have e : ∀ x, frameOf (slotsOf ds) x ⟨l.toArray, df⟩ = ⟨runOf a n x l, df⟩ := fun x => frameOf_run a n hds x l df hl
 refine wp_region_partsW hm ds V uses dead Base (by simpa using hok) hx hV hB h0 h00 ?_ ?_
 ·simp only [e]; exact hstep
 ·simp only [e]; exact hend
end
theorem fill_two (x : Nat → Value) (d : Nat) : ∀ (ds : List Nat) (l : List Value) (t : Nat), fill (ds ++ [d]) x t l = fill [d] x t (fill ds x t l)
 | ds, [], t => rfl
 | ds, v :: l, t => by
  simp only [fill]
  rw [fill_two x d ds l (t + 1)]
  congr 1
  by_cases h1 : (ds ++ [d]).contains t = true
  ·rw [if_pos h1]
   by_cases h2 : [d].contains t = true
   ·rw [if_pos h2]
   ·have h3 : ds.contains t = true := by
     rw [List.contains_iff_mem, List.mem_append] at h1
     rw [List.contains_iff_mem] at h2 ⊢
     exact h1.resolve_right h2
    rw [if_neg h2, if_pos h3]
  ·have h2 : ¬ [d].contains t = true := by
    rw [List.contains_iff_mem] at h1 ⊢
    exact fun h => h1 (List.mem_append_right _ h)
   have h3 : ¬ ds.contains t = true := by
    rw [List.contains_iff_mem] at h1 ⊢
    exact fun h => h1 (List.mem_append_left _ h)
   rw [if_neg h1, if_neg h2, if_neg h3]
theorem fill_none (x : Nat → Value) (d : Nat) : ∀ (l : List Value) (t : Nat), d < t → fill [d] x t l = l
 | [], t, _ => rfl
 | v :: l, t, h => by
  have e : [d].contains t = false := by simp; omega
  simp only [fill, e, Bool.false_eq_true, if_false]
  rw [fill_none x d l (t + 1) (by omega)]
theorem fill_one (x : Nat → Value) (d : Nat) : ∀ (l : List Value) (t : Nat), t ≤ d → fill [d] x t l = l.set (d - t) (x d)
 | [], t, _ => by simp [fill]
 | v :: l, t, h => by
  simp only [fill]
  by_cases e : t = d
  ·subst e
   rw [fill_none x t l (t + 1) (by omega), Nat.sub_self, List.set_cons_zero]
   simp
  ·have e2 : [d].contains t = false := by simp; omega
   rw [e2, fill_one x d l (t + 1) (by omega), show d - t = (d - (t + 1)) + 1 by omega, List.set_cons_succ]
   simp
def runOf1 (d a n : Nat) (x : Nat → Value) (l : List Value) : Array Value := ((l.take a).set d (x d) ++ ((List.range' a n).map x ++ l.drop (a + n))).toArray
theorem frameOf_run1 {ds : List Nat} (d a n : Nat) (hda : decide (d < a) = true) (hds : ds = List.range' a n ++ [d]) (x : Nat → Value) (l : List Value) (df : _) (hl : decide (a + n ≤ l.length) = true) :
  frameOf ds x ⟨l.toArray, df⟩ = ⟨runOf1 d a n x l, df⟩ := by
 have h := frameOf_run a n rfl x l df hl
 unfold frameOf at h ⊢
 simp only at h ⊢
 have h' : fill (List.range' a n) x 0 l = l.take a ++ ((List.range' a n).map x ++ l.drop (a + n)) := by
  have h2 := congrArg (fun z : Act => z.tmps.toList) h
  simpa using h2
 have hd : d < a := by simpa using hda
 have hl' : a + n ≤ l.length := by simpa using hl
 rw [hds, fill_two, h', fill_one x d _ 0 (Nat.zero_le _), Nat.sub_zero, List.set_append_left _ _ (by simp; omega)]
 rfl
section
variable {P : Program} {ops : Array Oper} {Q : Exit → Act → World → Prop}
theorem wp_region_partsR1 {id : Nat} {l : List Value} {df : _} {w0 : World} (d a n : Nat) (hm : P.follows .mixedOrders = true) (ds : List (Option Nat)) (V : Nat → (Nat → Value) → World → Prop) (uses : List (List Nat)) (dead : List (Nat × Nat)) (Base : World → Prop)
  (hok : partsOkW ops ds uses dead l.length = true) (hda : decide (d < a) = true) (hds : slotsOf ds = List.range' a n ++ [d]) (hl : decide (a + n ≤ l.length) = true)
  (hx : ∀ j x x' w, (∀ t ∈ uses.getD j [], x t = x' t) → V j x w → V j x' w)
  (hV : ∀ j x w w', Below w.heap.size w w' → V j x w → V j x w')
  (hB : ∀ w w', Below w.heap.size w w' → Base w → Base w') (h0 : Base w0) (h00 : ∀ j, ops.size ≤ j → V j (fun t => l.toArray.getD t undef) w0)
  (hstep : Each (fun i o => ∀ (x : Nat → Value) (w : World), Base w → (∀ j, (waits o j || decide (ops.size ≤ j)) = true → safe ops dead i j = true → V j x w) →
   ∀ K : Act → World → Prop, (∀ v w', (Below w.heap.size w w' ∨ Base w' ∧ ∀ j x, dead.contains (i, j) = false → j ≠ i → V j x w → V j x w') → V i (setSlot x (ds.getD i none) v) w' → K ⟨runOf1 d a n (setSlot x (ds.getD i none) v) l, df⟩ w') →
    wpList P ops (Thence Q K) [o] ⟨runOf1 d a n x l, df⟩ w) 0 ops.toList)
  (hend : ∀ (x : Nat → Value) (w : World), Base w → (∀ j, (∀ i, i < ops.size → dead.contains (i, j) = false) → V j x w) → Q .normal ⟨runOf1 d a n x l, df⟩ w) :
  (Code.region id ops true).wp P Q ⟨l.toArray, df⟩ w0 := by
 have e : ∀ x, frameOf (slotsOf ds) x ⟨l.toArray, df⟩ = ⟨runOf1 d a n x l, df⟩ := fun x => frameOf_run1 d a n hda hds x l df hl
 refine wp_region_partsW hm ds V uses dead Base (by simpa using hok) hx hV hB h0 h00 ?_ ?_
 ·simp only [e]; exact hstep
 ·simp only [e]; exact hend
end
theorem wp_world {P : Program} {c : Code} {Q : Exit → Act → World → Prop} {a : Act} {w : World} (R : World → Prop) (hR : R w) (h : ∀ W, R W → Code.wp P c Q a W) : Code.wp P c Q a w := h w hR
def Holds (w : World) (B : Nat) (t : TypeId) (cs : Array Value) : Prop := w.heap[B]? = some (.cells cs t (0, 0))
theorem Holds.lt {w : World} {B : Nat} {t : TypeId} {cs : Array Value} (h : Holds w B t cs) : B < w.heap.size := by
 unfold Holds at h
 exact (Array.getElem?_eq_some_iff.1 h).1
theorem Holds.cell {w : World} {B : Nat} {t : TypeId} {cs : Array Value} (h : Holds w B t cs) (i : Nat) : w.cell? ⟨B, i, none⟩ = cs[i]? := by
 unfold Holds at h
 simp [World.cell?, h]
theorem Holds.frozen {w : World} {B : Nat} {t : TypeId} {cs : Array Value} (h : Holds w B t cs) (i : Nat) : w.frozen? ⟨B, i, none⟩ = false := by
 unfold Holds at h
 simp [World.frozen?, h]
theorem Holds.c2 {w : World} {B : Nat} {t : TypeId} {a0 a1 : Value} {l : List Value} (h : Holds w B t (a0 :: a1 :: l).toArray) : w.cell? ⟨B, 0, none⟩ = some a0 ∧ w.cell? ⟨B, 1, none⟩ = some a1 := ⟨h.cell 0, h.cell 1⟩
theorem Holds.f2 {w : World} {B : Nat} {t : TypeId} {cs : Array Value} (h : Holds w B t cs) : w.frozen? ⟨B, 0, none⟩ = false ∧ w.frozen? ⟨B, 1, none⟩ = false := ⟨h.frozen 0, h.frozen 1⟩
theorem Holds.c3 {w : World} {B : Nat} {t : TypeId} {a0 a1 a2 : Value} {l : List Value} (h : Holds w B t (a0 :: a1 :: a2 :: l).toArray) : w.cell? ⟨B, 0, none⟩ = some a0 ∧ w.cell? ⟨B, 1, none⟩ = some a1 ∧ w.cell? ⟨B, 2, none⟩ = some a2 := ⟨h.cell 0, h.cell 1, h.cell 2⟩
theorem Holds.f3 {w : World} {B : Nat} {t : TypeId} {cs : Array Value} (h : Holds w B t cs) : w.frozen? ⟨B, 0, none⟩ = false ∧ w.frozen? ⟨B, 1, none⟩ = false ∧ w.frozen? ⟨B, 2, none⟩ = false := ⟨h.frozen 0, h.frozen 1, h.frozen 2⟩
theorem Holds.c4 {w : World} {B : Nat} {t : TypeId} {a0 a1 a2 a3 : Value} {l : List Value} (h : Holds w B t (a0 :: a1 :: a2 :: a3 :: l).toArray) : w.cell? ⟨B, 0, none⟩ = some a0 ∧ w.cell? ⟨B, 1, none⟩ = some a1 ∧ w.cell? ⟨B, 2, none⟩ = some a2 ∧ w.cell? ⟨B, 3, none⟩ = some a3 := ⟨h.cell 0, h.cell 1, h.cell 2, h.cell 3⟩
theorem Holds.f4 {w : World} {B : Nat} {t : TypeId} {cs : Array Value} (h : Holds w B t cs) : w.frozen? ⟨B, 0, none⟩ = false ∧ w.frozen? ⟨B, 1, none⟩ = false ∧ w.frozen? ⟨B, 2, none⟩ = false ∧ w.frozen? ⟨B, 3, none⟩ = false := ⟨h.frozen 0, h.frozen 1, h.frozen 2, h.frozen 3⟩
theorem Holds.c5 {w : World} {B : Nat} {t : TypeId} {a0 a1 a2 a3 a4 : Value} {l : List Value} (h : Holds w B t (a0 :: a1 :: a2 :: a3 :: a4 :: l).toArray) : w.cell? ⟨B, 0, none⟩ = some a0 ∧ w.cell? ⟨B, 1, none⟩ = some a1 ∧ w.cell? ⟨B, 2, none⟩ = some a2 ∧ w.cell? ⟨B, 3, none⟩ = some a3 ∧ w.cell? ⟨B, 4, none⟩ = some a4 := ⟨h.cell 0, h.cell 1, h.cell 2, h.cell 3, h.cell 4⟩
theorem Holds.f5 {w : World} {B : Nat} {t : TypeId} {cs : Array Value} (h : Holds w B t cs) : w.frozen? ⟨B, 0, none⟩ = false ∧ w.frozen? ⟨B, 1, none⟩ = false ∧ w.frozen? ⟨B, 2, none⟩ = false ∧ w.frozen? ⟨B, 3, none⟩ = false ∧ w.frozen? ⟨B, 4, none⟩ = false := ⟨h.frozen 0, h.frozen 1, h.frozen 2, h.frozen 3, h.frozen 4⟩
theorem Holds.c7 {w : World} {B : Nat} {t : TypeId} {a0 a1 a2 a3 a4 a5 a6 : Value} {l : List Value} (h : Holds w B t (a0 :: a1 :: a2 :: a3 :: a4 :: a5 :: a6 :: l).toArray) : w.cell? ⟨B, 0, none⟩ = some a0 ∧ w.cell? ⟨B, 1, none⟩ = some a1 ∧ w.cell? ⟨B, 2, none⟩ = some a2 ∧ w.cell? ⟨B, 3, none⟩ = some a3 ∧ w.cell? ⟨B, 4, none⟩ = some a4 ∧ w.cell? ⟨B, 5, none⟩ = some a5 ∧ w.cell? ⟨B, 6, none⟩ = some a6 := ⟨h.cell 0, h.cell 1, h.cell 2, h.cell 3, h.cell 4, h.cell 5, h.cell 6⟩
theorem Holds.f7 {w : World} {B : Nat} {t : TypeId} {cs : Array Value} (h : Holds w B t cs) : w.frozen? ⟨B, 0, none⟩ = false ∧ w.frozen? ⟨B, 1, none⟩ = false ∧ w.frozen? ⟨B, 2, none⟩ = false ∧ w.frozen? ⟨B, 3, none⟩ = false ∧ w.frozen? ⟨B, 4, none⟩ = false ∧ w.frozen? ⟨B, 5, none⟩ = false ∧ w.frozen? ⟨B, 6, none⟩ = false := ⟨h.frozen 0, h.frozen 1, h.frozen 2, h.frozen 3, h.frozen 4, h.frozen 5, h.frozen 6⟩
theorem Holds.c8 {w : World} {B : Nat} {t : TypeId} {a0 a1 a2 a3 a4 a5 a6 a7 : Value} {l : List Value} (h : Holds w B t (a0 :: a1 :: a2 :: a3 :: a4 :: a5 :: a6 :: a7 :: l).toArray) : w.cell? ⟨B, 0, none⟩ = some a0 ∧ w.cell? ⟨B, 1, none⟩ = some a1 ∧ w.cell? ⟨B, 2, none⟩ = some a2 ∧ w.cell? ⟨B, 3, none⟩ = some a3 ∧ w.cell? ⟨B, 4, none⟩ = some a4 ∧ w.cell? ⟨B, 5, none⟩ = some a5 ∧ w.cell? ⟨B, 6, none⟩ = some a6 ∧ w.cell? ⟨B, 7, none⟩ = some a7 := ⟨h.cell 0, h.cell 1, h.cell 2, h.cell 3, h.cell 4, h.cell 5, h.cell 6, h.cell 7⟩
theorem Holds.f8 {w : World} {B : Nat} {t : TypeId} {cs : Array Value} (h : Holds w B t cs) : w.frozen? ⟨B, 0, none⟩ = false ∧ w.frozen? ⟨B, 1, none⟩ = false ∧ w.frozen? ⟨B, 2, none⟩ = false ∧ w.frozen? ⟨B, 3, none⟩ = false ∧ w.frozen? ⟨B, 4, none⟩ = false ∧ w.frozen? ⟨B, 5, none⟩ = false ∧ w.frozen? ⟨B, 6, none⟩ = false ∧ w.frozen? ⟨B, 7, none⟩ = false := ⟨h.frozen 0, h.frozen 1, h.frozen 2, h.frozen 3, h.frozen 4, h.frozen 5, h.frozen 6, h.frozen 7⟩
theorem Holds.up {w w' : World} {B : Nat} {t : TypeId} {cs : Array Value} (h : Holds w B t cs) (hb : Below w.heap.size w w') : Holds w' B t cs := (hb.block B h.lt).trans h
theorem Holds.new (w : World) (t : TypeId) (cs : Array Value) : Holds (w.alloc (.cells cs t)) w.heap.size t cs := by
 exact heap_alloc_new w _
theorem Holds.drew {w : World} {B : Nat} {t : TypeId} {cs : Array Value} (h : Holds w B t cs) : Holds w.drew B t cs := h
theorem Holds.alloc {w : World} {B : Nat} {t : TypeId} {cs : Array Value} (h : Holds w B t cs) (o : Obj) : Holds (w.alloc o) B t cs := h.up ((Below.refl _ _).alloc (Nat.le_refl _) o)
theorem Holds.set_ {w : World} {B : Nat} {t : TypeId} {cs : Array Value} (h : Holds w B t cs) (i : Nat) (u : Value) : Holds (w.setCell ⟨B, i, none⟩ u) B t (cs.setIfInBounds i u) := by
 unfold Holds at h ⊢
 simp [World.setCell, Array.getElem?_modify, h]
theorem Holds.far {w : World} {B : Nat} {t : TypeId} {cs : Array Value} (h : Holds w B t cs) {p : Addr} (hp : B ≠ p.block) (u : Value) : Holds (w.setCell p u) B t cs := (Below.heap_setCell w p u B hp).trans h
theorem up_cell {w w' : World} {p : Addr} {v : Value} (hb : Below w.heap.size w w') (h : w.cell? p = some v) : w'.cell? p = some v := (hb.cell (World.block_lt_of_cell? w p h)).trans h
theorem ret_cell {P : Program} {fn : Func} {p : Tmp} {ty : TypeId} (h : fn.results = #[.cell p ty]) {a : Act} {w : World} {g : Nat} {t : TypeId} {cs : Array Value} {d : TypeDesc} {R : Ending → World → Prop}
  (hp : a.tmps.getD p undef = .pointer (some ⟨g, 0, none⟩)) (hg : Holds w g t cs) (hu : P.underlying ty = some d) (hd : (match d with | .struct _ | .array _ _ => true | _ => false) = true)
  (hi : (P.info? ty).map (·.size) = some cs.size) (hdf : a.defers = []) (hR : R (.returned (.agg cs)) w) : bodyPost P fn R .ret a w :=
 bodyPost_ret (results_cell_row h _ w g t cs (0, 0) d hp hg hu hd hi) hdf hR
theorem ret_cell2 {P : Program} {fn : Func} {p u : Tmp} {ty : TypeId} (h : fn.results = #[.cell p ty, .tmp u]) {a : Act} {w : World} {g : Nat} {t : TypeId} {cs : Array Value} {d : TypeDesc} {R : Ending → World → Prop} {v : Value}
  (hp : a.tmps.getD p undef = .pointer (some ⟨g, 0, none⟩)) (hq : a.tmps.getD u undef = v) (hg : Holds w g t cs) (hu : P.underlying ty = some d) (hd : (match d with | .struct _ | .array _ _ => true | _ => false) = true)
  (hi : (P.info? ty).map (·.size) = some cs.size) (hdf : a.defers = []) (hR : R (.returned (.tuple #[.agg cs, v])) w) : bodyPost P fn R .ret a w :=
 bodyPost_ret (by rw [results_cell_tmp h, hp, hq]; simp [asAddr, run_loadVar_row w g t ty cs (0, 0) d hg hu hd hi]) hdf hR
theorem Holds.put {w : World} {B : Nat} {t : TypeId} {cs cs' : Array Value} {i : Nat} {u : Value} (h : Holds w B t cs) (e : cs.setIfInBounds i u = cs') : Holds (w.setCell ⟨B, i, none⟩ u) B t cs' := e ▸ h.set_ i u
theorem Holds.new' {B : Nat} (w : World) {t : TypeId} (cs : Array Value) (h : B = w.heap.size) : Holds (w.alloc (.cells cs t)) B t cs := h ▸ Holds.new w t cs
theorem Holds.setL {w : World} {B : Nat} {t : TypeId} {l : List Value} (h : Holds w B t l.toArray) (i : Nat) (u : Value) : Holds (w.setCell ⟨B, i, none⟩ u) B t (l.set i u).toArray := by
 have := h.set_ i u
 simpa using this
theorem Holds.putL {w : World} {B : Nat} {t : TypeId} {l l' : List Value} {i : Nat} {u : Value} (h : Holds w B t l.toArray) (e : l.set i u = l') : Holds (w.setCell ⟨B, i, none⟩ u) B t l'.toArray := e ▸ h.setL i u
theorem Holds.set2 {w : World} {B : Nat} {t : TypeId} {a0 a1 : Value} (u0 u1 : Value) (h : Holds w B t #[a0, a1]) : Holds ((w.setCell ⟨B, 0, none⟩ u0).setCell ⟨B, 1, none⟩ u1) B t #[u0, u1] := (h.setL 0 _).setL 1 _
theorem Holds.set4 {w : World} {B : Nat} {t : TypeId} {a0 a1 a2 a3 : Value} (u0 u1 u2 u3 : Value) (h : Holds w B t #[a0, a1, a2, a3]) :
  Holds ((((w.setCell ⟨B, 0, none⟩ u0).setCell ⟨B, 1, none⟩ u1).setCell ⟨B, 2, none⟩ u2).setCell ⟨B, 3, none⟩ u3) B t #[u0, u1, u2, u3] := (((h.setL 0 _).setL 1 _).setL 2 _).setL 3 _
theorem Holds.set8 {w : World} {B : Nat} {t : TypeId} {a0 a1 a2 a3 a4 a5 a6 a7 : Value} (u0 u1 u2 u3 u4 u5 u6 u7 : Value) (h : Holds w B t #[a0, a1, a2, a3, a4, a5, a6, a7]) :
  Holds ((((((((w.setCell ⟨B, 0, none⟩ u0).setCell ⟨B, 1, none⟩ u1).setCell ⟨B, 2, none⟩ u2).setCell ⟨B, 3, none⟩ u3).setCell ⟨B, 4, none⟩ u4).setCell ⟨B, 5, none⟩ u5).setCell ⟨B, 6, none⟩ u6).setCell ⟨B, 7, none⟩ u7) B t #[u0, u1, u2, u3, u4, u5, u6, u7] :=
 (((((((h.setL 0 _).setL 1 _).setL 2 _).setL 3 _).setL 4 _).setL 5 _).setL 6 _).setL 7 _
theorem Holds.grown {W w : World} {B mb : Nat} {t : TypeId} {cs : Array Value} (h : Holds W B t cs) (hg : W.grownBy w (some mb)) (hne : B ≠ mb) : Holds w B t cs :=
 (hg.block B h.lt (fun e => hne (by cases e; rfl))).trans h
theorem Holds.low {w w' : World} {B n : Nat} {t : TypeId} {cs : Array Value} (h : Holds w B t cs) (hb : Below n w w') (hlt : B < n) : Holds w' B t cs := (hb.block B hlt).trans h
theorem Holds.row {w w' : World} {B : Nat} {t : TypeId} {cs : Array Value} {ob : Option Nat} (h : Holds w B t cs) (hg : w.grownBy w' ob) (hB : ∀ k, ob = some k → B < k) : Holds w' B t cs :=
 (hg.block B h.lt (fun e => by have := hB B e.symm; omega)).trans h
theorem holds_news {w : World} {B : Nat} {t : TypeId} {l : List Value} (h : Holds w B t l.toArray) : ∀ (j : Nat) (u : Value), l[j]? = some u → w.cell? ((⟨B, 0, none⟩ : Addr).add j) = some u := fun j u hj => by
 have := h.cell j
 rw [List.getElem?_toArray, hj] at this
 rcases Nat.eq_zero_or_pos j with rfl | hp
 ·simpa [Addr.add] using this
 ·simpa [Addr.add, Nat.ne_of_gt hp] using this
end Go.Proofs.YtokafjkinkafiaaGreat
