/- A region that draws its order, op by op, to its end: each operation is walked alone, wherever its edges let it stand; what it leaves is told by its number, over the slots and the world. No program in sight. -/
import Derived.Test.YtfghfmlcfbkmjaaRD
set_option linter.unusedSimpArgs false
set_option linter.unusedVariables false
namespace Go.Proofs.Ytfghfmlcfbkmjaa
open Go.RowKit

/-- Operation o waits for operation j. -/
def waits (o : Oper) (j : Nat) : Bool := o.after.toList.any fun e => Region.binds .any e && e.on == j
def setSlot (x : Nat → Value) : Option Nat → Value → Nat → Value
  | some d, v => fun t => if t = d then v else x t
  | none, _ => x
def slotsOf (ds : List (Option Nat)) : List Nat := ds.filterMap id

def partsOkG (ops : Array Oper) (ds : List (Option Nat)) (uses : List (List Nat)) (dead : List (Nat × Nat)) (n : Nat) : Bool :=
  (ops.toList.map (·.dst) == ds) && decide (slotsOf ds).Nodup && (slotsOf ds).all (fun d => decide (d < n)) &&
  ops.toList.all (fun o => o.guard.isNone) &&
  (List.range ops.size).all (fun i => ((ops[i]?).map fun o => o.after.all fun e => !Region.binds .any e || decide (e.on < i)).getD true) &&
  (List.range ops.size).all (fun j => (uses.getD j []).all fun t => (List.range ops.size).all fun i => i == j || !(ds.getD i none == some t) || reach ops 6 j i) &&
  (List.range uses.length).all (fun j => decide (j < ops.size) || (uses.getD j []).all fun t => (List.range ops.size).all fun i => !(ds.getD i none == some t) || dead.contains (i, j))
/-- No operation that kills what j made can have run ahead of operation i. -/
def safe (ops : Array Oper) (dead : List (Nat × Nat)) (i j : Nat) : Bool := dead.all fun p => !(p.2 == j) || p.1 == i || reach ops 6 p.1 i

theorem frame_putG (ds : List Nat) (x : Nat → Value) (a : Act) (d : Option Nat) (v : Value) (hd : ∀ t, d = some t → t ∈ ds) : (frameOf ds x a).put d v = frameOf ds (setSlot x d v) a := by
  cases d with
  | none => rfl
  | some d => exact frame_put ds x a d v (hd d rfl)

section
variable {P : Program} {ops : Array Oper} {Q : Exit → Act → World → Prop}

def OnTheWayG (ops : Array Oper) (ds : List (Option Nat)) (V : Nat → (Nat → Value) → World → Prop) (dead : List (Nat × Nat)) (Base : World → Prop) (a0 : Act) (listed : Array Bool) (a : Act) (w : World) : Prop :=
  listed.size = ops.size ∧ (∀ i o, ops[i]? = some o → listed.getD i false = true → ∀ e ∈ o.after, Region.binds .any e = true → listed.getD e.on false = true) ∧ Base w ∧
  ∃ x : Nat → Value, a = frameOf (slotsOf ds) x a0 ∧ ∀ j, (j < ops.size → listed.getD j false = true) → (∀ i, i < ops.size → listed.getD i false = true → dead.contains (i, j) = false) → V j x w

theorem wp_region_partsG {id : Nat} {a0 : Act} {w0 : World} (hm : P.follows .mixedOrders = true) (ds : List (Option Nat)) (V : Nat → (Nat → Value) → World → Prop) (uses : List (List Nat)) (dead : List (Nat × Nat)) (Base : World → Prop)
    (hok : partsOkG ops ds uses dead a0.tmps.size = true)
    (hx : ∀ j x x' w, (∀ t ∈ uses.getD j [], x t = x' t) → V j x w → V j x' w)
    (hV : ∀ j x w w', Below w.heap.size w w' → V j x w → V j x w')
    (hB : ∀ w w', Below w.heap.size w w' → Base w → Base w') (h0 : Base w0) (h00 : ∀ j, ops.size ≤ j → V j (fun t => a0.tmps.getD t undef) w0)
    (hstep : Each (fun i o => ∀ (x : Nat → Value) (w : World), Base w → (∀ j, (waits o j || decide (ops.size ≤ j)) = true → safe ops dead i j = true → V j x w) →
      ∀ K : Act → World → Prop, (∀ v w', (Below w.heap.size w w' ∨ Base w' ∧ ∀ j x, dead.contains (i, j) = false → j ≠ i → V j x w → V j x w') → V i (setSlot x (ds.getD i none) v) w' → K (frameOf (slotsOf ds) (setSlot x (ds.getD i none) v) a0) w') →
        wpList P ops (Thence Q K) [o] (frameOf (slotsOf ds) x a0) w) 0 ops.toList)
    (hend : ∀ (x : Nat → Value) (w : World), Base w → (∀ j, (∀ i, i < ops.size → dead.contains (i, j) = false) → V j x w) → Q .normal (frameOf (slotsOf ds) x a0) w) :
    (Code.region id ops true).wp P Q a0 w0 := by
  simp only [partsOkG, Bool.and_eq_true, decide_eq_true_eq, beq_iff_eq, List.all_eq_true, List.mem_range, Bool.or_eq_true] at hok
  obtain ⟨⟨⟨⟨⟨⟨hdst, hnd⟩, hlt⟩, hgd⟩, hord⟩, huse⟩, huse0⟩ := hok
  have hget : ∀ i, i < ops.size → ∃ o, ops[i]? = some o ∧ ops.toList[i]? = some o ∧ o.guard = none ∧ o.dst = ds.getD i none := by
    intro i hi
    refine ⟨ops[i], by simp [hi], by simp [hi], ?_, ?_⟩
    · have := hgd (ops[i]) (List.mem_of_getElem? (i := i) (by simp [hi]))
      simpa using this
    · rw [← hdst]
      simp [List.getD, hi]
  have hordr : ∀ (listed : Array Bool), listed.size = ops.size → Region.ready .any ops listed = [] → ∀ i, i < ops.size → listed.getD i false = true := by
    intro listed hsz hr i
    induction i using Nat.strongRecOn with
    | ind i ih =>
      intro hi
      cases hl : listed.getD i false with
      | true => rfl
      | false =>
        exfalso
        have : i ∈ Region.ready .any ops listed := by
          simp only [Region.ready, List.mem_filter, List.mem_range, Bool.and_eq_true, Bool.not_eq_true']
          refine ⟨hi, by rw [getD_tf (by omega) true false]; exact hl, ?_⟩
          have ho : ops[i]? = some ops[i] := by simp [hi]
          have hb := hord i hi
          rw [ho] at hb ⊢
          simp only [Option.map_some, Option.getD_some, Array.all_eq_true_iff_forall_mem] at hb ⊢
          intro e he
          cases hbd : Region.binds .any e with
          | false => simp
          | true =>
            have h1 : e.on < i := by simpa [hbd] using hb e he
            simp [ih e.on h1 (by omega)]
        rw [hr] at this
        cases this
  have fin : ∀ (listed : Array Bool) (a : Act) (w : World), OnTheWayG ops ds V dead Base a0 listed a w → Region.ready .any ops listed = [] → Q .normal a w := by
    rintro listed a w ⟨hsz, _, hb, x, rfl, hx'⟩ hr
    have hall := hordr listed hsz hr
    exact hend x w hb (fun j hd => hx' j (fun hj => hall j hj) (fun i hi _ => hd i hi))
  have main : ∀ (fuel : Nat) (listed : Array Bool) (a : Act) (w : World), listed.toList.countP (fun b => !b) ≤ fuel → OnTheWayG ops ds V dead Base a0 listed a w → wpAny P .any ops Q fuel listed a w := by
    intro fuel
    induction fuel with
    | zero =>
      intro listed a w hfuel hway
      have hr : Region.ready .any ops listed = [] := by
        rw [List.eq_nil_iff_forall_not_mem]
        intro i hi
        obtain ⟨h1, h2, _⟩ := ready_spec hi
        have h0 : listed.toList.countP (fun b => !b) = 0 := by omega
        rw [List.countP_eq_zero] at h0
        have hsz := hway.1
        have : listed[i]'(by omega) = true := by
          have := h0 (listed[i]'(by omega)) (by simp)
          simpa using this
        simp [Array.getD, show i < listed.size from by omega, this] at h2
      exact ⟨hr, fin listed a w hway hr⟩
    | succ fuel ih =>
      intro listed a w hfuel hway
      refine ⟨fin listed a w hway, fun i hi => ?_⟩
      obtain ⟨h1, h2, h3⟩ := ready_spec hi
      have hsz := hway.1
      have his : i < listed.size := by omega
      have hfl : listed[i] = false := by simpa [Array.getD, his] using h2
      have hcount : (listed.setIfInBounds i true).toList.countP (fun b => !b) ≤ fuel := by
        have hli : listed.toList[i]'(by simpa using his) = false := by simpa using hfl
        have hpos : 0 < listed.toList.countP (fun b => !b) := List.countP_pos_iff.2 ⟨false, List.mem_of_getElem? (i := i) (by simp [his, hfl]), rfl⟩
        rw [Array.toList_setIfInBounds, List.countP_set (by simpa using his), hli]
        simp only [Bool.not_false, Bool.not_true, if_true, Bool.false_eq_true, if_false]
        omega
      have hsz' : (listed.setIfInBounds i true).size = ops.size := by simp [hsz]
      have hnew : ∀ j, (listed.setIfInBounds i true).getD j false = if j = i then true else listed.getD j false := by
        intro j
        by_cases hj : j < listed.size
        · by_cases hji : j = i
          · subst hji; simp [Array.getD, hj]
          · simp [Array.getD, hj, hji, Array.getElem_setIfInBounds, Ne.symm hji]
        · have : j ≠ i := by omega
          simp [Array.getD, hj, this]
      obtain ⟨_, hcl, hb, x, rfl, hx'⟩ := hway
      have hli : listed.getD i false = false := by rw [getD_tf his false true]; exact h2
      have hcl' : ∀ k o, ops[k]? = some o → (listed.setIfInBounds i true).getD k false = true → ∀ e ∈ o.after, Region.binds .any e = true → (listed.setIfInBounds i true).getD e.on false = true := by
        intro k o hk hl e he hb
        rw [hnew] at hl ⊢
        by_cases hei : e.on = i
        · rw [if_pos hei]
        · rw [if_neg hei]
          by_cases hki : k = i
          · subst hki; exact h3 o hk e he hb
          · rw [if_neg hki] at hl; exact hcl k o hk hl e he hb
      obtain ⟨o, ho1, ho2, hg, hd⟩ := hget i h1
      have hst := Each.at_ _ 0 i o hstep ho2
      simp only [Nat.zero_add] at hst
      unfold wpOp
      rw [ho1]
      simp only [Region.wanted, hg, if_true]
      have hseen : ∀ j, (waits o j || decide (ops.size ≤ j)) = true → safe ops dead i j = true → V j x w := by
        intro j hj hsafe
        simp only [safe, List.all_eq_true, Bool.or_eq_true, Bool.not_eq_true', beq_eq_false_iff_ne, beq_iff_eq] at hsafe
        have hlj : j < ops.size → listed.getD j false = true := by
          intro hjs
          rw [Bool.or_eq_true] at hj
          rcases hj with hj | hj
          · simp only [waits, List.any_eq_true, Bool.and_eq_true, beq_iff_eq] at hj
            obtain ⟨e, he, hbd, rfl⟩ := hj
            exact h3 o ho1 e (by simpa using he) hbd
          · exact absurd hjs (by simpa using hj)
        refine hx' j hlj (fun k hk hlk => ?_)
        cases hdd : dead.contains (k, j) with
        | false => rfl
        | true =>
          exfalso
          have hmem : (k, j) ∈ dead := by simpa using hdd
          rcases hsafe _ hmem with (h | h) | h
          · exact h rfl
          · simp only at h; subst h; rw [hli] at hlk; cases hlk
          · have := reach_spec hcl 6 k i (fun o' ho' e' he' hb' => hcl k o' ho' hlk e' he' hb') h
            rw [hli] at this
            cases this
      have hds : ∀ t, ds.getD i none = some t → t ∈ slotsOf ds := by
        intro t ht
        refine List.mem_filterMap.2 ⟨some t, ?_, rfl⟩
        rw [List.getD_eq_getElem?_getD] at ht
        cases hq : ds[i]? with
        | none => rw [hq] at ht; cases ht
        | some u => rw [hq] at ht; simp at ht; subst ht; exact List.mem_of_getElem? hq
      refine wp_of_list (ops' := ops) hg (hst x w hb hseen _ (fun v w' hor hv => ?_))
      rw [← frame_putG (slotsOf ds) x a0 (ds.getD i none) v hds]
      rw [frame_putG (slotsOf ds) x a0 (ds.getD i none) v hds]
      have hkeep : Base w' ∧ ∀ j x, dead.contains (i, j) = false → j ≠ i → V j x w → V j x w' := by
        rcases hor with h | h
        · exact ⟨hB _ _ h hb, fun j x _ _ hv => hV j x w w' h hv⟩
        · exact h
      refine ih _ _ w' hcount ⟨hsz', hcl', hkeep.1, _, rfl, fun j hlj hdj => ?_⟩
      by_cases hji : j = i
      · subst hji; exact hv
      · have hlj' : j < ops.size → listed.getD j false = true := fun hj => by
          have := hlj hj
          rwa [hnew, if_neg hji] at this
        have hold := hx' j hlj' (fun k hk hlk => hdj k hk (by rw [hnew]; split; rfl; exact hlk))
        have hdi := hdj i h1 (by rw [hnew]; simp)
        refine hx j x _ w' (fun t ht => ?_) (hkeep.2 j x hdi hji hold)
        cases hdi' : ds.getD i none with
        | none => rfl
        | some d =>
          simp only [setSlot]
          by_cases htd : t = d
          · subst htd
            exfalso
            by_cases hj : j < ops.size
            · rcases huse j hj t ht i h1 with (h | h) | h
              · exact hji h.symm
              · rw [hdi'] at h; simp at h
              · have := reach_spec hcl 6 j i (fun o' ho' e' he' hb' => hcl j o' ho' (hlj' hj) e' he' hb') h
                rw [hli] at this
                cases this
            · have hjl : j < uses.length := by
                rcases Nat.lt_or_ge j uses.length with h | h
                · exact h
                · rw [List.getD_eq_getElem?_getD, List.getElem?_eq_none h] at ht; cases ht
              rcases huse0 j hjl with h | h
              · exact hj h
              · rcases h t ht i h1 with h | h
                · rw [hdi'] at h; simp at h
                · rw [h] at hdi; cases hdi
          · rw [if_neg htd]
  refine wp_region_any hm (main ops.size _ a0 _ ?_ ⟨by simp, fun i o _ hl => absurd hl (by simp [Array.getD]), hB _ _ ((Below.refl _ w0).drew) h0, _, (frame_self (slotsOf ds) a0).symm, fun j hl _ => ?_⟩)
  · have := List.countP_le_length (p := fun b => !b) (l := (Array.replicate ops.size false).toList)
    simpa using this
  · rcases Nat.lt_or_ge j ops.size with h | h
    · have := hl h
      simp [Array.getD] at this
    · exact hV _ _ _ _ ((Below.refl _ w0).drew) (h00 j h)
end
end Go.Proofs.Ytfghfmlcfbkmjaa
