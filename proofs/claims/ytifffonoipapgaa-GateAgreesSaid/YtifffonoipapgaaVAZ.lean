import Derived.Maps.OwnSet
import Derived.Maps.OwnIn
import Derived.Maps.Views
import Derived.TacticsIn
import Derived.OrdersIn
import Derived.Test.YtifffonoipapgaaVAA
import Derived.Test.YtifffonoipapgaaVAC
import Derived.Test.YtifffonoipapgaaVAV
import Derived.Test.YtifffonoipapgaaVAX
import Derived.Test.YtifffonoipapgaaVAY
set_option linter.unusedSimpArgs false
set_option linter.unusedVariables false
namespace Go.Proofs.Ytifffonoipapgaa
open Go.RowKit
open Go.RowKit Go.Maps
def mixD (a b c d : Int) : DataW Unit := .agg [.lit (.int .i64 a), .lit (.int .i64 b), .lit (.int .i64 c), .lit (.int .i64 d)]
def mixElem : Value → Option (DataW Unit × List MemPlace)
 | .agg ⟨[.int .i64 a, .int .i64 b, .int .i64 c, .int .i64 d]⟩ => some (mixD a b c d, [])
 | _ => none
theorem mixElem_inv {v : Value} {z : DataW Unit × List MemPlace} (h : mixElem v = some z) : ∃ a b c d, v = .agg #[.int .i64 a, .int .i64 b, .int .i64 c, .int .i64 d] ∧ z.1 = mixD a b c d := by
 unfold mixElem at h
 split at h
 ·cases h; exact ⟨_, _, _, _, rfl, rfl⟩
 ·cases h
def ix : Nat → Option Nat
 | 0 => none
 | j + 1 => some j
def keyAt (j : Nat) : Lit := .int .i64 ((j : Int) - 1)
theorem keyAt_ne {i j : Nat} (h : i ≠ j) : keyAt i ≠ keyAt j := by
 intro e
 simp only [keyAt, Lit.int.injEq, true_and] at e
 omega
def mixOf (c : Bx) : DataW Unit := mixD (c.l0 + c.t0) (c.l1 + c.t1) (c.l2 + c.t2) (c.l3 + c.t3)
def shownD (b : Bx) (gs : List Gr) : Nat → DataW Unit
 | 0 => .map []
 | j + 1 => match shownBx b gs (ix j) with
  | some c => (shownD b gs j).put (keyAt j) (mixOf c)
  | none => shownD b gs j
theorem key_is (j : Nat) : WideAt.IsKeyLit (keyAt j) := by
 unfold keyAt; simp [WideAt.IsKeyLit]
theorem shownD_map (b : Bx) (gs : List Gr) : ∀ n, IsMap (shownD b gs n) := by
 intro n
 induction n with
 | zero => exact isMap_empty
 | succ n ih =>
  unfold shownD
  split
  ·exact ih.put _ _
  ·exact ih
theorem shownD_has (b : Bx) (gs : List Gr) : ∀ (n j : Nat), Maps.has (shownD b gs n) (keyAt j) = (decide (j < n) && (shownBx b gs (ix j)).isSome) := by
 intro n
 induction n with
 | zero => intro j; rfl
 | succ n ih =>
  intro j
  unfold shownD
  by_cases hj : j = n
  ·subst hj
   split
   ·next c h => rw [has_put_same (shownD_map b gs j) (key_is j)]; simp [h]
   ·next h => rw [ih]; simp [h]
  ·have : decide (j < n + 1) = decide (j < n) := by rw [decide_eq_decide]; omega
   rw [this]
   split
   ·rw [has_put_other (keyAt_ne hj)]; exact ih j
   ·exact ih j
structure Shut (ms : List Nat) (w w' : World) : Prop where
 os : w'.os = w.os
 tape : w'.tape = w.tape
 output : w'.output = w.output
 size : w'.heap.size = w.heap.size
 same : ∀ k, k ∉ ms → w'.heap[k]? = w.heap[k]?
def mark (D : Nat) : Deferred := { target := .collected D, args := #[] }
theorem leaves_marks {F : Fence} {n : Nat} {P : Program} {fn : Func} {tmps : Array Value} {R : Ending → World → Prop} {v : Value} : ∀ (ms : List Nat) (w : World), ms.Nodup → (∀ D ∈ ms, w.heap[D]? = some (.deferred (some []))) →
  (∀ w', Shut ms w w' → (results fn tmps).run P w' = .ok v w' ∧ R (.returned v) w') → LeavesInM F n P fn tmps R (ms.map mark) .returning w := by
 intro ms
 induction ms with
 | nil => intro w _ _ h; obtain ⟨h1, h2⟩ := h w ⟨rfl, rfl, rfl, rfl, fun _ _ => rfl⟩; exact ⟨v, h1, h2⟩
 | cons D ms ih =>
  intro w hnd hd h
  have hnd' := List.nodup_cons.1 hnd
  have hD := hd D (by simp)
  refine ⟨by simp, .inl ⟨D, _, rfl, run_takeDeferred hD, ih _ hnd'.2 (fun E hE => ?_) (fun w' hs => h w' ?_)⟩⟩
  ·have hne : E ≠ D := fun e => by subst e; exact hnd'.1 hE
   rw [World.putObj_heap_other (by first | exact hne | exact hne.symm)]; exact hd E (by simp [hE])
  ·refine ⟨hs.os, hs.tape, hs.output, by rw [hs.size]; simp, fun k hk => ?_⟩
   have hne : k ≠ D := fun e => hk (by simp [e])
   rw [hs.same k (fun h => hk (by simp [h])), World.putObj_heap_other (by first | exact hne | exact hne.symm)]
theorem Shut.below {ms : List Nat} {w w' : World} {B : Nat} (h : Shut ms w w') (hB : ∀ D ∈ ms, B ≤ D) : Below B w w' :=
 ⟨h.os, h.tape, h.output, by rw [h.size]; exact Nat.le_refl _, fun k hk => h.same k (fun hm => by have := hB k hm; omega)⟩
section
variable {F : Fence} {nF : Nat} {P : Program} {ops : Array Oper} {Q : Exit → Act → World → Prop}
theorem wp_of_listIn {o : Oper} {a : Act} {w : World} {K : Act → World → Prop} {ops' : Array Oper} (hg : o.guard = none) (h : wpListIn F nF P ops' (Thence Q K) [o] a w) : o.wpIn F nF P a w K Q := by
 unfold wpListIn at h
 rw [if_pos (by simp [Region.wanted, hg])] at h
 unfold Oper.wpIn at h ⊢
 refine ⟨h.1, ?_⟩
 have h := h.2
 generalize (o.semAt F.round a.eval).run P w = r at *
 cases r with
 | ok x w' =>
  cases x <;> simp only [Oper.uponIn] at h ⊢ <;>
   first
    | exact h
    | exact ⟨h.1, CallsIn.mono h.2 (fun e w'' he => by cases e <;> first | exact he | (obtain ⟨a', w', h2⟩ := he; exact ⟨a', w', h2⟩))⟩
    | exact ⟨h.1, RowsIn.mono h.2 (fun _ _ he => he)⟩
    | exact ⟨h.1, RoundIn.mono h.2 (fun e w'' he => by cases e <;> first | exact he | (obtain ⟨a', w', h2⟩ := he; exact ⟨a', w', h2⟩))⟩
 | halt x w' => cases x <;> simp only [Oper.uponIn] at h ⊢ <;> exact h
theorem wp_region_partsGI {id : Nat} {a0 : Act} {w0 : World} (hm : P.follows .mixedOrders = true) (ds : List (Option Nat)) (V : Nat → (Nat → Value) → World → Prop) (uses : List (List Nat)) (dead : List (Nat × Nat)) (Base : World → Prop)
  (hok : partsOkG ops ds uses dead a0.tmps.size = true)
  (hx : ∀ j x x' w, (∀ t ∈ uses.getD j [], x t = x' t) → V j x w → V j x' w)
  (hV : ∀ j x w w', Below w.heap.size w w' → V j x w → V j x w')
  (hB : ∀ w w', Below w.heap.size w w' → Base w → Base w') (h0 : Base w0) (h00 : ∀ j, ops.size ≤ j → V j (fun t => a0.tmps.getD t undef) w0)
  (hstep : Each (fun i o => ∀ (x : Nat → Value) (w : World), Base w → (∀ j, (waits o j || decide (ops.size ≤ j)) = true → safe ops dead i j = true → V j x w) →
   ∀ K : Act → World → Prop, (∀ v w', (Below w.heap.size w w' ∨ Base w' ∧ ∀ j x, dead.contains (i, j) = false → j ≠ i → V j x w → V j x w') → V i (setSlot x (ds.getD i none) v) w' → K (frameOf (slotsOf ds) (setSlot x (ds.getD i none) v) a0) w') →
    wpListIn F nF P ops (Thence Q K) [o] (frameOf (slotsOf ds) x a0) w) 0 ops.toList)
  (hend : ∀ (x : Nat → Value) (w : World), Base w → (∀ j, (∀ i, i < ops.size → dead.contains (i, j) = false) → V j x w) → Q .normal (frameOf (slotsOf ds) x a0) w) :
  (Code.region id ops true).wpIn F nF P Q a0 w0 := by
 simp only [partsOkG, Bool.and_eq_true, decide_eq_true_eq, beq_iff_eq, List.all_eq_true, List.mem_range, Bool.or_eq_true] at hok
 obtain ⟨⟨⟨⟨⟨⟨hdst, hnd⟩, hlt⟩, hgd⟩, hord⟩, huse⟩, huse0⟩ := hok
 have hget : ∀ i, i < ops.size → ∃ o, ops[i]? = some o ∧ ops.toList[i]? = some o ∧ o.guard = none ∧ o.dst = ds.getD i none := by
  intro i hi
  refine ⟨ops[i], by simp [hi], by simp [hi], ?_, ?_⟩
  ·have := hgd (ops[i]) (List.mem_of_getElem? (i := i) (by simp [hi]))
   simpa using this
  ·rw [← hdst]
   simp [List.getD, hi]
 have hordr : ∀ (listed : Array Bool), listed.size = ops.size → Region.ready .any ops listed = [] → ∀ i, i < ops.size → listed.getD i false = true := by
  intro listed hsz hr i
  induction i using Nat.strongRecOn with
  | ind i ih =>
   intro hi
   cases hl : listed.getD i false with
   | true => rfl
   | false =>
    exfalso
    have : i ∈ Region.ready .any ops listed := by
     simp only [Region.ready, List.mem_filter, List.mem_range, Bool.and_eq_true, Bool.not_eq_true']
     refine ⟨hi, by rw [getD_tf (by omega) true false]; exact hl, ?_⟩
     have ho : ops[i]? = some ops[i] := by simp [hi]
     have hb := hord i hi
     rw [ho] at hb ⊢
     simp only [Option.map_some, Option.getD_some, Array.all_eq_true_iff_forall_mem] at hb ⊢
     intro e he
     cases hbd : Region.binds .any e with
     | false => simp
     | true =>
      have h1 : e.on < i := by simpa [hbd] using hb e he
      simp [ih e.on h1 (by omega)]
    rw [hr] at this
    cases this
 have fin : ∀ (listed : Array Bool) (a : Act) (w : World), OnTheWayG ops ds V dead Base a0 listed a w → Region.ready .any ops listed = [] → Q .normal a w := by
  rintro listed a w ⟨hsz, _, hb, x, rfl, hx'⟩ hr
  have hall := hordr listed hsz hr
  exact hend x w hb (fun j hd => hx' j (fun hj => hall j hj) (fun i hi _ => hd i hi))
 have main : ∀ (fuel : Nat) (listed : Array Bool) (a : Act) (w : World), listed.toList.countP (fun b => !b) ≤ fuel → OnTheWayG ops ds V dead Base a0 listed a w → wpAnyIn F nF P .any ops Q fuel listed a w := by
  intro fuel
  induction fuel with
  | zero =>
   intro listed a w hfuel hway
   have hr : Region.ready .any ops listed = [] := by
    rw [List.eq_nil_iff_forall_not_mem]
    intro i hi
    obtain ⟨h1, h2, _⟩ := ready_spec hi
    have h0 : listed.toList.countP (fun b => !b) = 0 := by omega
    rw [List.countP_eq_zero] at h0
    have hsz := hway.1
    have : listed[i]'(by omega) = true := by
     have := h0 (listed[i]'(by omega)) (by simp)
     simpa using this
    simp [Array.getD, show i < listed.size from by omega, this] at h2
   exact ⟨hr, fin listed a w hway hr⟩
  | succ fuel ih =>
   intro listed a w hfuel hway
   refine ⟨fin listed a w hway, fun i hi => ?_⟩
   obtain ⟨h1, h2, h3⟩ := ready_spec hi
   have hsz := hway.1
   have his : i < listed.size := by omega
   have hfl : listed[i] = false := by simpa [Array.getD, his] using h2
   have hcount : (listed.setIfInBounds i true).toList.countP (fun b => !b) ≤ fuel := by
    have hli : listed.toList[i]'(by simpa using his) = false := by simpa using hfl
    have hpos : 0 < listed.toList.countP (fun b => !b) := List.countP_pos_iff.2 ⟨false, List.mem_of_getElem? (i := i) (by simp [his, hfl]), rfl⟩
    rw [Array.toList_setIfInBounds, List.countP_set (by simpa using his), hli]
    simp only [Bool.not_false, Bool.not_true, if_true, Bool.false_eq_true, if_false]
    omega
   have hsz' : (listed.setIfInBounds i true).size = ops.size := by simp [hsz]
   have hnew : ∀ j, (listed.setIfInBounds i true).getD j false = if j = i then true else listed.getD j false := by
    intro j
    by_cases hj : j < listed.size
    ·by_cases hji : j = i
     ·subst hji; simp [Array.getD, hj]
     ·simp [Array.getD, hj, hji, Array.getElem_setIfInBounds, Ne.symm hji]
    ·have : j ≠ i := by omega
     simp [Array.getD, hj, this]
   obtain ⟨_, hcl, hb, x, rfl, hx'⟩ := hway
   have hli : listed.getD i false = false := by rw [getD_tf his false true]; exact h2
   have hcl' : ∀ k o, ops[k]? = some o → (listed.setIfInBounds i true).getD k false = true → ∀ e ∈ o.after, Region.binds .any e = true → (listed.setIfInBounds i true).getD e.on false = true := by
    intro k o hk hl e he hb
    rw [hnew] at hl ⊢
    by_cases hei : e.on = i
    ·rw [if_pos hei]
    ·rw [if_neg hei]
     by_cases hki : k = i
     ·subst hki; exact h3 o hk e he hb
     ·rw [if_neg hki] at hl; exact hcl k o hk hl e he hb
   obtain ⟨o, ho1, ho2, hg, hd⟩ := hget i h1
   have hst := Each.at_ _ 0 i o hstep ho2
   simp only [Nat.zero_add] at hst
   unfold wpOpIn
   rw [ho1]
   simp only [Region.wanted, hg, if_true]
   have hseen : ∀ j, (waits o j || decide (ops.size ≤ j)) = true → safe ops dead i j = true → V j x w := by
    intro j hj hsafe
    simp only [safe, List.all_eq_true, Bool.or_eq_true, Bool.not_eq_true', beq_eq_false_iff_ne, beq_iff_eq] at hsafe
    have hlj : j < ops.size → listed.getD j false = true := by
     intro hjs
     rw [Bool.or_eq_true] at hj
     rcases hj with hj | hj
     ·simp only [waits, List.any_eq_true, Bool.and_eq_true, beq_iff_eq] at hj
      obtain ⟨e, he, hbd, rfl⟩ := hj
      exact h3 o ho1 e (by simpa using he) hbd
     ·exact absurd hjs (by simpa using hj)
    refine hx' j hlj (fun k hk hlk => ?_)
    cases hdd : dead.contains (k, j) with
    | false => rfl
    | true =>
     exfalso
     have hmem : (k, j) ∈ dead := by simpa using hdd
     rcases hsafe _ hmem with (h | h) | h
     ·exact h rfl
     ·simp only at h; subst h; rw [hli] at hlk; cases hlk
     ·have := reach_spec hcl 6 k i (fun o' ho' e' he' hb' => hcl k o' ho' hlk e' he' hb') h
      rw [hli] at this
      cases this
   have hds : ∀ t, ds.getD i none = some t → t ∈ slotsOf ds := by
    intro t ht
    refine List.mem_filterMap.2 ⟨some t, ?_, rfl⟩
    rw [List.getD_eq_getElem?_getD] at ht
    cases hq : ds[i]? with
    | none => rw [hq] at ht; cases ht
    | some u => rw [hq] at ht; simp at ht; subst ht; exact List.mem_of_getElem? hq
   refine wp_of_listIn (ops' := ops) hg (hst x w hb hseen _ (fun v w' hor hv => ?_))
   rw [← frame_putG (slotsOf ds) x a0 (ds.getD i none) v hds]
   rw [frame_putG (slotsOf ds) x a0 (ds.getD i none) v hds]
   have hkeep : Base w' ∧ ∀ j x, dead.contains (i, j) = false → j ≠ i → V j x w → V j x w' := by
    rcases hor with h | h
    ·exact ⟨hB _ _ h hb, fun j x _ _ hv => hV j x w w' h hv⟩
    ·exact h
   refine ih _ _ w' hcount ⟨hsz', hcl', hkeep.1, _, rfl, fun j hlj hdj => ?_⟩
   by_cases hji : j = i
   ·subst hji; exact hv
   ·have hlj' : j < ops.size → listed.getD j false = true := fun hj => by
     have := hlj hj
     rwa [hnew, if_neg hji] at this
    have hold := hx' j hlj' (fun k hk hlk => hdj k hk (by rw [hnew]; split; rfl; exact hlk))
    have hdi := hdj i h1 (by rw [hnew]; simp)
    refine hx j x _ w' (fun t ht => ?_) (hkeep.2 j x hdi hji hold)
    cases hdi' : ds.getD i none with
    | none => rfl
    | some d =>
     simp only [setSlot]
     by_cases htd : t = d
     ·subst htd
      exfalso
      by_cases hj : j < ops.size
      ·rcases huse j hj t ht i h1 with (h | h) | h
       ·exact hji h.symm
       ·rw [hdi'] at h; simp at h
       ·have := reach_spec hcl 6 j i (fun o' ho' e' he' hb' => hcl j o' ho' (hlj' hj) e' he' hb') h
        rw [hli] at this
        cases this
      ·have hjl : j < uses.length := by
        rcases Nat.lt_or_ge j uses.length with h | h
        ·exact h
        ·rw [List.getD_eq_getElem?_getD, List.getElem?_eq_none h] at ht; cases ht
       rcases huse0 j hjl with h | h
       ·exact hj h
       ·rcases h t ht i h1 with h | h
        ·rw [hdi'] at h; simp at h
        ·rw [h] at hdi; cases hdi
     ·rw [if_neg htd]
 refine wpIn_region_any hm (main ops.size _ a0 _ ?_ ⟨by simp, fun i o _ hl => absurd hl (by simp [Array.getD]), hB _ _ ((Below.refl _ w0).drew) h0, _, (frame_self (slotsOf ds) a0).symm, fun j hl _ => ?_⟩)
 ·have := List.countP_le_length (p := fun b => !b) (l := (Array.replicate ops.size false).toList)
  simpa using this
 ·rcases Nat.lt_or_ge j ops.size with h | h
  ·have := hl h
   simp [Array.getD] at this
  ·exact hV _ _ _ _ ((Below.refl _ w0).drew) (h00 j h)
end
open Go.RowKit Go.Maps
theorem roundIn_wide {m m' : Nat} {P : Program} {l : Nat} {f : FuncId} {tmps : Array Value} {assign body : Code} {w : World} {R : Ending → World → Prop} (h : RoundIn Fence.wide m P l f tmps assign body w R) : RoundIn Fence.wide m' P l f tmps assign body w R :=
 ⟨h.1, fun c cs _ => h.2 c cs (room_wide _)⟩
theorem yieldAt_wide {m : Nat} (m' : Nat) {P : Program} {l : Nat} {args : Array Value} {W : World} {R : Ending → World → Prop} (h : YieldAt Fence.wide m P l args W R) : YieldAt Fence.wide m' P l args W R := by
 obtain ⟨fn, tmps, assign, body, hy, hR⟩ := h
 exact ⟨fn, tmps, assign, body, hy, roundIn_wide hR⟩
theorem grown_none {w w' : World} (hb : Below w.heap.size w w') : w.grownBy w' none := ⟨hb.os, hb.tape, hb.output, hb.size, fun k hk _ => hb.block k hk⟩
theorem abides_new {β : Type} {B : Nat} {J : β → World → Prop} (hJ : AbidesFrom B J) : ∀ s A A', J s A → Below A.heap.size A A' → J s A' :=
 fun s A A' hj hb => hJ s A A' none hj (grown_none hb) (fun r e => by cases e)
theorem stops_any (n Bc Bg : Nat) (err miss full empty : Int) (G A : Option Addr) (d c : Nat) (gs : List Gr) (hs : List Hf) (j : Nat) (W0 : World)
  (hc : Holds W0 Bc 147 #[.int .i64 full, .int .i64 empty, .slice A hs.length c, .int .i64 err, .int .i64 miss, .slice G gs.length d, .func (.func 99) #[.agg #[.int .i64 full, .int .i64 empty, .slice A hs.length c]] #[]])
  (hg : Holds W0 Bg 3 #[.int .i64 ((j : Int) - 1)]) (hj : j ≤ gs.length)
  (hG : GradesAt W0 G gs) (hgl : gs.length ≤ 4) (hgd : gs.length ≤ d) (hgr : ∀ g ∈ gs, g.right = true) (hA : HandsAt W0 A hs) (hl : hs.length ≤ 6) (m0 : 0 ≤ miss) (m1 : miss ≤ 20) (ht : ∀ x ∈ hs, x.taken = true) (hn : ∀ x ∈ hs, x.enough = true) :
  SeqStopsK Fence.wide n Try.prog 147 #[.pointer (some ⟨Bc, 0, none⟩), .pointer (some ⟨Bg, 0, none⟩)] (fun x : OBx => #[bxVal x.1]) CKept
   (fun ys => ys = boxesO ⟨boundsOf miss (fun _ => true) hs, bounds_ok miss _ hs⟩ gs (ix j)) (fun pre => pre <+: boxesO ⟨boundsOf miss (fun _ => true) hs, bounds_ok miss _ hs⟩ gs (ix j))
   (boxesO ⟨boundsOf miss (fun _ => true) hs, bounds_ok miss _ hs⟩ gs (ix j)).length W0 := by
 intro l J Jx W hW hJ _ hY h0
 refine callsIn_wide.2 ?_
 have hY' : Rounds l (boxesO ⟨boundsOf miss (fun _ => true) hs, bounds_ok miss _ hs⟩ gs (ix j)).length J Jx := fun m pre x W1 hj1 hlen => yieldAt_wide m (hY pre x W1 hj1 hlen)
 cases j with
 | zero =>
  exact boxes1_none l _ J Jx (abides_new hJ) hY' Bc Bg err miss full empty G A d c gs hs W (hc.up hW) (hG.up hW) hgl hgd hgr (hA.up hW) hl m0 m1 ht hn h0 (hg.up hW) (Nat.le_refl _)
 | succ i =>
  obtain ⟨B, o, rfl, _⟩ := hG (by omega)
  have hg' : Holds W Bg 3 #[.int .i64 (i : Int)] := by
   have h1 := hg.up hW
   rwa [show (((i + 1 : Nat) : Int) - 1) = (i : Int) from by omega] at h1
  exact boxes1_some l _ J Jx (abides_new hJ) hY' Bc Bg err miss full empty B o i gs[i] A d c gs hs W (hc.up hW) (hG.up hW) hgl hgd hgr (hA.up hW) hl m0 m1 ht hn h0 (by omega) (by simp) hg' (Nat.le_refl _)
theorem Holds.grown {W w : World} {B mb : Nat} {t : TypeId} {cs : Array Value} (h : Holds W B t cs) (hg : W.grownBy w (some mb)) (hne : B ≠ mb) : Holds w B t cs :=
 (hg.block B h.lt (fun e => hne (by cases e; rfl))).trans h
theorem grow_up {W w w' : World} {mb : Nat} (h : W.grownBy w (some mb)) (hb : Below w.heap.size w w') : W.grownBy w' (some mb) :=
 ⟨hb.os.trans h.os, hb.tape.trans h.tape, hb.output.trans h.output, Nat.le_trans h.size hb.size, fun k hk hne => (hb.block k (Nat.lt_of_lt_of_le hk h.size)).trans (h.block k hk hne)⟩
theorem grow_refl (W : World) (mb : Nat) : W.grownBy W (some mb) := ⟨rfl, rfl, rfl, Nat.le_refl _, fun _ _ _ => rfl⟩
theorem grow_trans {W w w' : World} {mb : Nat} (h : W.grownBy w (some mb)) (hb : w.grownBy w' (some mb)) : W.grownBy w' (some mb) :=
 ⟨hb.os.trans h.os, hb.tape.trans h.tape, hb.output.trans h.output, Nat.le_trans h.size hb.size, fun k hk hne => (hb.block k (Nat.lt_of_lt_of_le hk h.size) hne).trans (h.block k hk hne)⟩
theorem grow_below {W w w' : World} {mb : Nat} (h : Below W.heap.size W w) (hb : w.grownBy w' (some mb)) : W.grownBy w' (some mb) :=
 ⟨hb.os.trans h.os, hb.tape.trans h.tape, hb.output.trans h.output, Nat.le_trans h.size hb.size, fun k hk hne => (hb.block k (Nat.lt_of_lt_of_le hk h.size) hne).trans (h.block k hk)⟩
theorem KeepsFrom.below {B : Nat} {W W' : World} (h : Below W.heap.size W W') : KeepsFrom B W W' := ⟨h.size, fun k _ _ hk _ => (h.block k (Array.getElem?_eq_some_iff.1 hk).1).trans hk⟩
def MapAt (mb n : Nat) (D : DataW Unit) (w : World) : Prop := w.ownsMap Try.prog 3 mixElem mb n D
theorem MapAt.up {mb n : Nat} {D : DataW Unit} {w w' : World} (h : MapAt mb n D w) (hb : Below w.heap.size w w') : MapAt mb n D w' := World.ownsMap.kept h (grown_none hb) (by simp)
theorem und_int : Try.prog.underlying 3 = some (.int .i64) := by kernel_rfl
theorem und_map : Try.prog.underlying 166 = some (.map 3 28) := by kernel_rfl
theorem key_at {j : Nat} (hj : j ≤ 10) : keyOf Try.prog 3 (.int .i64 ((j : Int) - 1)) = some (keyAt j) := Maps.keyOf_int_mk und_int (by
 have h1 : IntKind.i64.min = -9223372036854775808 := by decide
 have h2 : IntKind.i64.max = 9223372036854775807 := by decide
 simp only [Lit.wf, h1, h2, Bool.and_eq_true, decide_eq_true_eq]
 omega)
end Go.Proofs.Ytifffonoipapgaa
