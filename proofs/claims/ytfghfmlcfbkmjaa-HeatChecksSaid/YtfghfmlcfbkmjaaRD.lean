/- A region that draws its order, by its parts, where one operation may turn what another one has made: what it kills nobody looks at behind it. No program in sight. -/
import Derived.Test.YtfghfmlcfbkmjaaR
set_option linter.unusedSimpArgs false
set_option linter.unusedVariables false
namespace Go.Proofs.Ytfghfmlcfbkmjaa
open Go.RowKit
/-- Operation i comes behind operation j, by edges. -/
def reach (ops : Array Oper) : Nat → Nat → Nat → Bool
  | 0, _, _ => false
  | n + 1, i, j => ((ops[i]?).map fun o => o.after.toList.any fun e => Region.binds .any e && (e.on == j || reach ops n e.on j)).getD false
theorem reach_spec {ops : Array Oper} {listed : Array Bool} (hcl : ∀ i o, ops[i]? = some o → listed.getD i false = true → ∀ e ∈ o.after, Region.binds .any e = true → listed.getD e.on false = true) :
    ∀ (n i j : Nat), (∀ o, ops[i]? = some o → ∀ e ∈ o.after, Region.binds .any e = true → listed.getD e.on false = true) → reach ops n i j = true → listed.getD j false = true := by
  intro n
  induction n with
  | zero => intro i j _ h; simp [reach] at h
  | succ n ih =>
    intro i j hi h
    cases ho : ops[i]? with
    | none => rw [reach, ho] at h; simp at h
    | some o =>
      rw [reach, ho] at h
      simp only [Option.map_some, Option.getD_some, List.any_eq_true, Bool.and_eq_true, Bool.or_eq_true, beq_iff_eq] at h
      obtain ⟨e, he, hb, h⟩ := h
      have hle := hi o ho e (by simpa using he) hb
      rcases h with rfl | h
      · exact hle
      · exact ih e.on j (fun o' ho' e' he' hb' => hcl e.on o' ho' hle e' he' hb') h
def partsOkD (m : Nat) (ops : Array Oper) (ds : List Nat) (n : Nat) : Bool :=
  decide (m ≤ ops.size) && ((ops.toList.take m).map (·.dst) == ds.map some) && decide ds.Nodup && ds.all (fun d => decide (d < n)) &&
  (ops.toList.take m).all (fun o => o.guard.isNone) &&
  (List.range ops.size).all (fun i => ((ops[i]?).map fun o => o.after.all fun e => !Region.binds .any e || decide (e.on < i)).getD true) &&
  (List.range ops.size).all (fun i => decide (i < m) || (List.range i).all fun j => reach ops 6 i j)

section
variable {P : Program} {ops : Array Oper} {Q : Exit → Act → World → Prop}

/-- What holds on the way: some free operations are done; or all of them, and some of the tail. -/
def OnTheWayD (P : Program) (ops : Array Oper) (Q : Exit → Act → World → Prop) (m : Nat) (ds : List Nat) (V : Nat → Value → World → Prop) (dead : Nat → Nat → Bool) (a0 : Act) (w0 : World) (listed : Array Bool) (a : Act) (w : World) : Prop :=
  listed.size = ops.size ∧ (∀ i o, ops[i]? = some o → listed.getD i false = true → ∀ e ∈ o.after, Region.binds .any e = true → listed.getD e.on false = true) ∧
  ((Below w0.heap.size w0 w ∧ (∀ i, m ≤ i → listed.getD i false = false) ∧ ∃ x : Nat → Value, a = frameOf ds x a0 ∧ ∀ i o d, i < m → ops[i]? = some o → listed.getD i false = true → o.dst = some d → (∀ j, j < m → listed.getD j false = true → dead j d = false) → V d (x d) w) ∨
   ∃ c, m ≤ c ∧ (∀ i, i < ops.size → listed.getD i false = decide (i < c)) ∧ wpList P ops Q (ops.toList.drop c) a w)

theorem wp_region_partsD {id : Nat} {a0 : Act} {w0 : World} (hm : P.follows .mixedOrders = true) (m : Nat) (ds : List Nat) (V : Nat → Value → World → Prop) (dead : Nat → Nat → Bool)
    (hdead : (List.range m).all (fun i => ds.all fun d => !dead i d || (List.range m).all fun j => j == i || ((ops[j]?).map fun o => !sees ops o d).getD true) = true)
    (hok : partsOkD m ops ds a0.tmps.size = true)
    (hstep : Each (fun i o => ∀ (x : Nat → Value) (w : World), Below w0.heap.size w0 w → (∀ d, sees ops o d = true → V d (x d) w) →
      ∀ K : Act → World → Prop, (∀ v w', Below w0.heap.size w w' → (∀ d u, dead i d = false → d ≠ ds.getD i 0 → V d u w → V d u w') → V (ds.getD i 0) v w' → K (frameOf ds (fun t => if t = ds.getD i 0 then v else x t) a0) w') →
        wpList P ops (Thence Q K) [o] (frameOf ds x a0) w) 0 (ops.toList.take m))
    (htail : ∀ (x : Nat → Value) (w : World), Below w0.heap.size w0 w → (∀ d ∈ ds, (∀ i, i < m → dead i d = false) → V d (x d) w) → wpList P ops Q (ops.toList.drop m) (frameOf ds x a0) w) :
    (Code.region id ops true).wp P Q a0 w0 := by
  simp only [partsOkD, Bool.and_eq_true, decide_eq_true_eq, beq_iff_eq, List.all_eq_true, List.mem_range, Bool.or_eq_true] at hok
  simp only [List.all_eq_true, List.mem_range, Bool.or_eq_true, Bool.not_eq_true', beq_iff_eq] at hdead
  obtain ⟨⟨⟨⟨⟨⟨hms, hdst⟩, hnd⟩, hlt⟩, hgd⟩, hord⟩, htl⟩ := hok
  have hget : ∀ i, i < m → ∃ o, ops[i]? = some o ∧ (ops.toList.take m)[i]? = some o ∧ o.guard = none ∧ o.dst = some (ds.getD i 0) ∧ ds[i]? = some (ds.getD i 0) := by
    intro i hi
    have hs : i < ops.size := by omega
    refine ⟨ops[i], by simp [hs], by simp [List.getElem?_take, hi, hs], ?_, ?_⟩
    · have := hgd (ops[i]) (List.mem_of_getElem? (i := i) (by simp [List.getElem?_take, hi, hs]))
      simpa using this
    · have h1 := congrArg (·[i]?) hdst
      simp only [List.getElem?_map, List.getElem?_take, hi, if_true] at h1
      have h2 : ops.toList[i]? = some ops[i] := by simp [hs]
      rw [h2] at h1
      cases hd : ds[i]? with
      | none => rw [hd] at h1; simp at h1
      | some d => rw [hd] at h1; simp at h1; rw [h1]; simp [List.getD, hd]
  have hordr : ∀ (listed : Array Bool), listed.size = ops.size → Region.ready .any ops listed = [] → ∀ i, i < ops.size → listed.getD i false = true := by
    intro listed hsz hr i
    induction i using Nat.strongRecOn with
    | ind i ih =>
      intro hi
      cases hl : listed.getD i false with
      | true => rfl
      | false =>
        exfalso
        have : i ∈ Region.ready .any ops listed := by
          simp only [Region.ready, List.mem_filter, List.mem_range, Bool.and_eq_true, Bool.not_eq_true']
          refine ⟨hi, by rw [getD_tf (by omega) true false]; exact hl, ?_⟩
          have ho : ops[i]? = some ops[i] := by simp [hi]
          have hb := hord i hi
          rw [ho] at hb ⊢
          simp only [Option.map_some, Option.getD_some, Array.all_eq_true_iff_forall_mem] at hb ⊢
          intro e he
          cases hbd : Region.binds .any e with
          | false => simp
          | true =>
            have h1 : e.on < i := by simpa [hbd] using hb e he
            simp [ih e.on h1 (by omega)]
        rw [hr] at this
        cases this
  have hnext : ∀ (listed : Array Bool) (c i : Nat), listed.size = ops.size → (∀ i o, ops[i]? = some o → listed.getD i false = true → ∀ e ∈ o.after, Region.binds .any e = true → listed.getD e.on false = true) → m ≤ c → (∀ j, c ≤ j → j < ops.size → listed.getD j false = false) → m ≤ i → i ∈ Region.ready .any ops listed →
      (∀ j, j < i → listed.getD j false = true) := by
    intro listed c i hsz hcl hc hun hi hr j hj
    obtain ⟨h1, h2, h3⟩ := ready_spec hr
    have ho : ops[i]? = some ops[i] := by simp [h1]
    rcases htl i h1 with h | h
    · omega
    · exact reach_spec hcl 6 i j h3 (h j hj)
  have main : ∀ (fuel : Nat) (listed : Array Bool) (a : Act) (w : World), listed.toList.countP (fun b => !b) ≤ fuel → OnTheWayD P ops Q m ds V dead a0 w0 listed a w → wpAny P .any ops Q fuel listed a w := by
    have fin : ∀ (listed : Array Bool) (a : Act) (w : World), OnTheWayD P ops Q m ds V dead a0 w0 listed a w → Region.ready .any ops listed = [] → Q .normal a w := by
      intro listed a w ⟨hsz, _, hway⟩ hr
      have hall := hordr listed hsz hr
      rcases hway with ⟨hb, hun, x, rfl, hx⟩ | ⟨c, hc, hl, h⟩
      · have hm' : m = ops.size := by
          rcases Nat.lt_or_ge m ops.size with h | h
          · have := hun m (Nat.le_refl _); rw [hall m h] at this; cases this
          · omega
        have := htail x w hb (fun d hd hdd => by
          obtain ⟨i, hi⟩ := List.mem_iff_getElem?.1 hd
          have him : i < m := by
            have h1 := congrArg List.length hdst
            have h2 := (List.getElem?_eq_some_iff.1 hi).1
            simp at h1; omega
          obtain ⟨o, h1, h2, h3, h4, h5⟩ := hget i him
          rw [hi] at h5
          injection h5 with h5
          exact hx i o d him h1 (hall i (by omega)) (by rw [h4, ← h5]) (fun j hj _ => hdd j hj))
        rw [hm', ← Array.length_toList, List.drop_length] at this
        exact this
      · have hcs : ops.size ≤ c := by
          rcases Nat.lt_or_ge c ops.size with h' | h'
          · have h1 := hl c h'; rw [hall c h'] at h1; simp at h1
          · exact h'
        rw [List.drop_eq_nil_of_le (by simpa using hcs)] at h
        exact h
    intro fuel
    induction fuel with
    | zero =>
      intro listed a w hfuel hway
      have hr : Region.ready .any ops listed = [] := by
        rw [List.eq_nil_iff_forall_not_mem]
        intro i hi
        obtain ⟨h1, h2, _⟩ := ready_spec hi
        have h0 : listed.toList.countP (fun b => !b) = 0 := by omega
        rw [List.countP_eq_zero] at h0
        have hsz := hway.1
        have : listed[i]'(by omega) = true := by
          have := h0 (listed[i]'(by omega)) (by simp)
          simpa using this
        simp [Array.getD, show i < listed.size from by omega, this] at h2
      exact ⟨hr, fin listed a w hway hr⟩
    | succ fuel ih =>
      intro listed a w hfuel hway
      refine ⟨fin listed a w hway, fun i hi => ?_⟩
      obtain ⟨h1, h2, h3⟩ := ready_spec hi
      have hsz := hway.1
      have his : i < listed.size := by omega
      have hfl : listed[i] = false := by simpa [Array.getD, his] using h2
      have hcount : (listed.setIfInBounds i true).toList.countP (fun b => !b) ≤ fuel := by
        have hli : listed.toList[i]'(by simpa using his) = false := by simpa using hfl
        have hpos : 0 < listed.toList.countP (fun b => !b) := List.countP_pos_iff.2 ⟨false, List.mem_of_getElem? (i := i) (by simp [his, hfl]), rfl⟩
        rw [Array.toList_setIfInBounds, List.countP_set (by simpa using his), hli]
        simp only [Bool.not_false, Bool.not_true, if_true, Bool.false_eq_true, if_false]
        omega
      have hsz' : (listed.setIfInBounds i true).size = ops.size := by simp [hsz]
      have hnew : ∀ j, (listed.setIfInBounds i true).getD j false = if j = i then true else listed.getD j false := by
        intro j
        by_cases hj : j < listed.size
        · by_cases hji : j = i
          · subst hji; simp [Array.getD, hj]
          · simp [Array.getD, hj, hji, Array.getElem_setIfInBounds, Ne.symm hji]
        · have : j ≠ i := by omega
          simp [Array.getD, hj, this]
      obtain ⟨_, hcl, hway⟩ := hway
      have hcl' : ∀ k o, ops[k]? = some o → (listed.setIfInBounds i true).getD k false = true → ∀ e ∈ o.after, Region.binds .any e = true → (listed.setIfInBounds i true).getD e.on false = true := by
        intro k o hk hl e he hb
        rw [hnew] at hl ⊢
        by_cases hei : e.on = i
        · rw [if_pos hei]
        · rw [if_neg hei]
          by_cases hki : k = i
          · subst hki; exact h3 o hk e he hb
          · rw [if_neg hki] at hl; exact hcl k o hk hl e he hb
      -- the tail, from place c on
      have tail : ∀ c, m ≤ c → (∀ j, j < ops.size → listed.getD j false = decide (j < c)) → wpList P ops Q (ops.toList.drop c) a w →
          wpOp P ops Q i (wpAny P .any ops Q fuel (listed.setIfInBounds i true)) a w := by
        intro c hc hl h
        have hci : c ≤ i := by
          rcases Nat.lt_or_ge i c with h' | h'
          · have h4 := hl i h1
            rw [getD_tf his false true, h2] at h4
            simp [h'] at h4
          · exact h'
        have hbefore := hnext listed c i hsz hcl hc (fun j hj hjs => by rw [hl j hjs]; simp; omega) (by omega) hi
        have hic : i = c := by
          rcases Nat.lt_or_ge c i with h' | h'
          · have h4 := hbefore c h'
            rw [hl c (by omega)] at h4
            simp at h4
          · omega
        subst hic
        have ho : ops[i]? = some ops[i] := by simp [h1]
        have hdrop : ops.toList.drop i = ops[i] :: ops.toList.drop (i + 1) := by
          rw [List.drop_eq_getElem_cons (by simpa using h1)]
          simp
        rw [hdrop] at h
        refine wpOp_mono (fun a' w' h' => ih _ a' w' hcount ⟨hsz', hcl', .inr ⟨i + 1, by omega, fun j hj => ?_, h'⟩⟩) (wpOp_of_wpList ho h)
        rw [hnew]
        by_cases hji : j = i
        · subst hji; simp
        · rw [if_neg hji, hl j hj]; simp; omega
      rcases hway with ⟨hb, hun, x, rfl, hx⟩ | ⟨c, hc, hl, h⟩
      · rcases Nat.lt_or_ge i m with him | him
        · obtain ⟨o, ho1, ho2, hg, hd, hdi⟩ := hget i him
          have hst := Each.at_ _ 0 i o hstep ho2
          simp only [Nat.zero_add] at hst
          unfold wpOp
          rw [ho1]
          simp only [Region.wanted, hg, if_true]
          refine wp_of_list (ops' := ops) hg (hst x w hb (fun d hs => ?_) _ (fun v w' hb' hst' hv => ?_))
          · have hs0 := hs
            simp only [sees, List.any_eq_true, Bool.and_eq_true, beq_iff_eq] at hs
            obtain ⟨e, he, hbd, heo⟩ := hs
            cases hoe : ops[e.on]? with
            | none => rw [hoe] at heo; cases heo
            | some oe =>
              rw [hoe] at heo
              have hle := h3 o ho1 e (by simpa using he) hbd
              have hem : e.on < m := by
                rcases Nat.lt_or_ge e.on m with h | h
                · exact h
                · rw [hun _ h] at hle; cases hle
              refine hx e.on oe d hem hoe hle heo (fun j hj hlj => ?_)
              cases hdj : dead j d with
              | false => rfl
              | true =>
                exfalso
                have hdm : d ∈ ds := by
                  obtain ⟨o', h1, _, _, h4, h5⟩ := hget e.on hem
                  rw [hoe] at h1
                  injection h1 with h1
                  subst h1
                  have heo' : oe.dst = some d := heo
                  rw [heo'] at h4
                  injection h4 with h4
                  rw [← h4] at h5
                  exact List.mem_of_getElem? h5
                have hw := hdead j hj d hdm
                rw [hdj] at hw
                rcases hw with hw | hw
                · cases hw
                · have h6 := hw i him
                  rw [ho1] at h6
                  simp only [Option.map_some, Option.getD_some, hs0, Bool.not_true, Bool.or_false, Bool.false_eq_true, or_false] at h6
                  subst h6
                  rw [getD_tf his false true, h2] at hlj
                  cases hlj
          · refine ih _ _ w' hcount ⟨hsz', hcl', .inl ⟨hb.trans hb', fun j hj => ?_, _, rfl, fun j oj d hj hoj hlj hdj hdd => ?_⟩⟩
            · rw [hnew, if_neg (by omega)]; exact hun j hj
            · obtain ⟨oj', hoj1, _, _, hdj', hdij⟩ := hget j hj
              rw [hoj] at hoj1
              injection hoj1 with hoj1
              subst hoj1
              rw [hdj] at hdj'
              injection hdj' with hdj'
              by_cases hji : j = i
              · subst hji
                subst hdj'
                simpa using hv
              · have hne : d ≠ ds.getD i 0 := by
                  intro e
                  rw [hdj'] at e
                  rw [e] at hdij
                  exact hji ((List.getElem?_inj (List.getElem?_eq_some_iff.1 hdij).1 hnd).1 (hdij.trans hdi.symm))
                rw [hnew, if_neg hji] at hlj
                simp only [hne, if_false]
                have hdi' : dead i d = false := hdd i him (by rw [hnew]; simp)
                exact hst' _ _ hdi' hne (hx j oj d hj hoj hlj hdj (fun j' hj' hlj' => hdd j' hj' (by rw [hnew]; split; rfl; exact hlj')))
        · have hbefore := hnext listed m i hsz hcl (Nat.le_refl _) (fun j hj _ => hun j hj) him hi
          have hl : ∀ j, j < ops.size → listed.getD j false = decide (j < m) := fun j hj => by
            by_cases h : j < m
            · rw [hbefore j (by omega)]; simp [h]
            · rw [hun j (by omega)]; simp [h]
          refine tail m (Nat.le_refl _) hl (htail x w hb fun d hd hdd => ?_)
          obtain ⟨k, hk⟩ := List.mem_iff_getElem?.1 hd
          have hkm : k < m := by
            have h1 := congrArg List.length hdst
            have h2 := (List.getElem?_eq_some_iff.1 hk).1
            simp at h1; omega
          obtain ⟨o, ho1, _, _, ho4, ho5⟩ := hget k hkm
          rw [hk] at ho5
          injection ho5 with ho5
          exact hx k o d hkm ho1 (hbefore k (by omega)) (by rw [ho4, ← ho5]) (fun j hj _ => hdd j hj)
      · exact tail c hc hl h
  refine wp_region_any hm (main ops.size _ a0 _ ?_ ⟨by simp, fun i o _ hl => absurd hl (by simp [Array.getD]), .inl ⟨(Below.refl _ w0).drew, fun i _ => by simp [Array.getD], _, (frame_self ds a0).symm, fun i o d hi ho hl => ?_⟩⟩)
  · have := List.countP_le_length (p := fun b => !b) (l := (Array.replicate ops.size false).toList)
    simpa using this
  · exfalso
    revert hl
    simp [Array.getD]

/-- The same; an operation that only adds to memory says so, and all that was made stands. -/
theorem wp_region_partsE {id : Nat} {a0 : Act} {w0 : World} (hm : P.follows .mixedOrders = true) (m : Nat) (ds : List Nat) (V : Nat → Value → World → Prop) (dead : Nat → Nat → Bool)
    (hdead : (List.range m).all (fun i => ds.all fun d => !dead i d || (List.range m).all fun j => j == i || ((ops[j]?).map fun o => !sees ops o d).getD true) = true)
    (hok : partsOkD m ops ds a0.tmps.size = true)
    (hV : ∀ d v w w', Below w.heap.size w w' → V d v w → V d v w')
    (hstep : Each (fun i o => ∀ (x : Nat → Value) (w : World), Below w0.heap.size w0 w → (∀ d, sees ops o d = true → V d (x d) w) →
      ∀ K : Act → World → Prop, (∀ v w', (Below w.heap.size w w' ∨ Below w0.heap.size w w' ∧ ∀ d u, dead i d = false → d ≠ ds.getD i 0 → V d u w → V d u w') → V (ds.getD i 0) v w' → K (frameOf ds (fun t => if t = ds.getD i 0 then v else x t) a0) w') →
        wpList P ops (Thence Q K) [o] (frameOf ds x a0) w) 0 (ops.toList.take m))
    (htail : ∀ (x : Nat → Value) (w : World), Below w0.heap.size w0 w → (∀ d ∈ ds, (∀ i, i < m → dead i d = false) → V d (x d) w) → wpList P ops Q (ops.toList.drop m) (frameOf ds x a0) w) :
    (Code.region id ops true).wp P Q a0 w0 := by
  refine wp_region_partsD hm m ds V dead hdead hok ?_ htail
  have hmono : ∀ (p q : Nat → Oper → Prop), (∀ i o, p i o → q i o) → ∀ (l : List Oper) (k : Nat), Each p k l → Each q k l := by
    intro p q h l
    induction l with
    | nil => intro k _; trivial
    | cons o l ih => intro k ho; exact ⟨h _ _ ho.1, ih _ ho.2⟩
  refine hmono _ _ (fun i o h => ?_) _ _ hstep
  intro x w hb hx K hK
  refine h x w hb hx K (fun v w' hor hv => ?_)
  rcases hor with hb' | ⟨hb', hs⟩
  · exact hK v w' (hb'.mono hb.size) (fun d u _ _ hd => hV d u w w' hb' hd) hv
  · exact hK v w' hb' hs hv

/-- 'wp_region_parts' where the tail's order follows by any chain of edges. -/
theorem wp_region_partsF {id : Nat} {a0 : Act} {w0 : World} (hm : P.follows .mixedOrders = true) (m : Nat) (ds : List Nat) (V : Nat → Value → World → Prop)
    (hok : partsOkD m ops ds a0.tmps.size = true)
    (hV : ∀ d v w w', Below w.heap.size w w' → V d v w → V d v w')
    (hstep : Each (fun i o => ∀ (x : Nat → Value) (w : World), Below w0.heap.size w0 w → (∀ d, sees ops o d = true → V d (x d) w) →
      ∀ K : Act → World → Prop, (∀ v w', Below w.heap.size w w' → V (ds.getD i 0) v w' → K (frameOf ds (fun t => if t = ds.getD i 0 then v else x t) a0) w') →
        wpList P ops (Thence Q K) [o] (frameOf ds x a0) w) 0 (ops.toList.take m))
    (htail : ∀ (x : Nat → Value) (w : World), Below w0.heap.size w0 w → (∀ d ∈ ds, V d (x d) w) → wpList P ops Q (ops.toList.drop m) (frameOf ds x a0) w) :
    (Code.region id ops true).wp P Q a0 w0 := by
  refine wp_region_partsE hm m ds V (fun _ _ => false) (by simp) hok hV ?_ (fun x w hb hx => htail x w hb (fun d hd => hx d hd (fun _ _ => rfl)))
  have hmono : ∀ (p q : Nat → Oper → Prop), (∀ i o, p i o → q i o) → ∀ (l : List Oper) (k : Nat), Each p k l → Each q k l := by
    intro p q h l
    induction l with
    | nil => intro k _; trivial
    | cons o l ih => intro k ho; exact ⟨h _ _ ho.1, ih _ ho.2⟩
  exact hmono _ _ (fun i o h x w hb hx K hK => h x w hb hx K (fun v w' hb' hv => hK v w' (.inl hb') hv)) _ _ hstep
end
end Go.Proofs.Ytfghfmlcfbkmjaa
