/- The small machine: an evaluator of the model's code, and what it computes is what the model's machine does. No Go in sight. -/
import Derived.Test.YtokafjkinkafiaaGreatSMB
set_option linter.unusedSimpArgs false
set_option linter.unusedVariables false
namespace Go.Proofs.YtokafjkinkafiaaGreat.Mini
noncomputable section
open Go.RowKit
variable {P : Program}

def mkPl (ops : List Oper) (ms : List Nat) (hids owns : List (List Nat)) (i : Nat) : List Plan :=
  match ops with
  | [] => []
  | o :: os => ⟨i, o, ms.getD i 0, hids.getD i [], owns.getD i []⟩ :: mkPl os ms hids owns (i + 1)
theorem mkPl_get {ms : List Nat} {hids owns : List (List Nat)} : ∀ {ops : List Oper} {i k : Nat} {o : Oper}, ops[k]? = some o → (mkPl ops ms hids owns i)[k]? = some ⟨i + k, o, ms.getD (i + k) 0, hids.getD (i + k) [], owns.getD (i + k) []⟩ := by
  intro ops
  induction ops with
  | nil => intro i k o h; simp at h
  | cons x ops ih =>
    intro i k o h
    cases k with
    | zero => simp at h; subst h; simp [mkPl]
    | succ k =>
      simp at h
      have := ih (i := i + 1) h
      simp only [mkPl, List.getElem?_cons_succ, this]
      rw [show i + 1 + k = i + (k + 1) from by omega]
theorem mkPl_length {ms : List Nat} {hids owns : List (List Nat)} : ∀ (ops : List Oper) (i : Nat), (mkPl ops ms hids owns i).length = ops.length := by
  intro ops
  induction ops with
  | nil => intro i; rfl
  | cons x ops ih => intro i; simp [mkPl, ih]

theorem Chain.funs {c : Ctx} {n : Nat} {ops : Array Oper} {s s' : Tr CV} {rs : List (Nat × Nat × Nat)} {H H' : CH} {pl : List Plan} (h : Chain P c n ops s rs H pl s' H') :
    ∃ (sq : Nat → Tr CV) (Hq : Nat → CH) (vq : Nat → CV) (rq : Nat → List (Nat × Nat × Nat)), sq 0 = s ∧ Hq 0 = H ∧ rq 0 = rs ∧ sq pl.length = s' ∧ Hq pl.length = H' ∧
      ∀ k p, pl[k]? = some p → Stp P c n ops p (sq k) (rq k) (Hq k) (vq k) (Hq (k + 1)) ∧ sq (k + 1) = putDst (sq k) p.o.dst (vq k) ∧ rq (k + 1) = (p.i, (Hq k).next, (Hq (k + 1)).next) :: rq k := by
  induction h with
  | @nil s rs H => exact ⟨fun _ => s, fun _ => H, fun _ => .nilp, fun _ => rs, rfl, rfl, rfl, rfl, rfl, fun k p h => by simp at h⟩
  | @cons s rs H p v H1 pl s' H' h t ih =>
    obtain ⟨sq, Hq, vq, rq, h1, h2, h3, h4, h5, h6⟩ := ih
    refine ⟨fun k => match k with | 0 => s | k + 1 => sq k, fun k => match k with | 0 => H | k + 1 => Hq k, fun k => match k with | 0 => v | k + 1 => vq k, fun k => match k with | 0 => rs | k + 1 => rq k, rfl, rfl, rfl, h4, h5, fun k p' hk => ?_⟩
    cases k with
    | zero =>
      simp at hk; subst hk
      simp only [h1, h2, h3]
      exact ⟨h, trivial, trivial⟩
    | succ k =>
      simp at hk
      exact h6 k p' hk

/-! ### What is looked at once for each region that draws -/
def bit (m j : Nat) : Bool := Nat.beq ((m >>> j) % 2) 1
def edgesOk : List Oper → Nat → Bool
  | [], _ => true
  | o :: os, k => (o.after.toList.all fun e => !Region.binds .any e || Nat.blt e.on k) && edgesOk os (k + 1)
def masksOk (M : List Nat) (n : Nat) : List Oper → Nat → Bool
  | [], _ => true
  | o :: os, k => ((List.range n).all fun j => !bit (M.getD k 0) j || o.after.toList.any fun e => Region.binds .any e && (Nat.beq e.on j || bit (M.getD e.on 0) j)) && masksOk M n os (k + 1)
def dstIs (t : Tmp) (o : Oper) : Bool := match o.dst with | some d => Nat.beq d t | none => false
def dstsOk : List Oper → Bool
  | [] => true
  | o :: os => (match o.dst with | some d => os.all fun o' => !dstIs d o' | none => true) && dstsOk os
def readsOk (ops : Array Oper) (M : List Nat) : List Oper → Nat → Bool
  | [], _ => true
  | o :: os, k => ((readsOf ops o).all fun t => (ops.toList.zipIdx).all fun q => !dstIs t q.1 || (bit (M.getD k 0) q.2)) && readsOk ops M os (k + 1)
def masksUp (M : List Nat) (n : Nat) : List Oper → Nat → Bool
  | [], _ => true
  | o :: os, k => (o.after.toList.all fun e => !Region.binds .any e || (bit (M.getD k 0) e.on && (List.range n).all fun j => !bit (M.getD e.on 0) j || bit (M.getD k 0) j)) && masksUp M n os (k + 1)
def modesOk (M ms : List Nat) (hids : List (List Nat)) (n : Nat) : Bool :=
  (List.range n).all fun k => (Nat.ble (ms.getD k 0) 3) &&
    ((List.range k).all fun j => Nat.beq (ms.getD j 0) 0 || Nat.beq (ms.getD k 0) 0 ||
      ((Nat.beq (ms.getD k 0) 2 && bit (M.getD k 0) j) || ((Nat.beq (ms.getD k 0) 1 || Nat.beq (ms.getD k 0) 3) && !Nat.beq (ms.getD j 0) 2 && (bit (M.getD k 0) j || (hids.getD k []).any (Nat.beq j)))))
def ownsOk (M ms : List Nat) (hids owns : List (List Nat)) (n : Nat) : Bool :=
  (List.range n).all fun k => !Nat.beq (ms.getD k 0) 3 || (owns.getD k []).all fun j =>
    Nat.blt j k && bit (M.getD k 0) j && Nat.beq (ms.getD j 0) 1 && !(hids.getD k []).any (Nat.beq j) &&
    ((List.range n).all fun i => Nat.beq (ms.getD i 0) 0 || !bit (M.getD i 0) j || Nat.beq i k || bit (M.getD k 0) i || bit (M.getD i 0) k) &&
    ((List.range n).all fun i => !Nat.beq (ms.getD i 0) 3 || Nat.beq i k || !(owns.getD i []).any (Nat.beq j))
def rgOk (ops : Array Oper) (M ms : List Nat) (hids owns : List (List Nat)) : Bool :=
  edgesOk ops.toList 0 && masksOk M ops.size ops.toList 0 && dstsOk ops.toList && readsOk ops M ops.toList 0 && modesOk M ms hids ops.size && Nat.beq ms.length ops.size && masksUp M ops.size ops.toList 0 && ownsOk M ms hids owns ops.size

theorem masksUp_spec {M : List Nat} {n : Nat} : ∀ {os : List Oper} {k : Nat}, masksUp M n os k = true → ∀ (i : Nat) (o : Oper), os[i]? = some o → ∀ e ∈ o.after, Region.binds .any e = true → bit (M.getD (k + i) 0) e.on = true ∧ ∀ j, j < n → bit (M.getD e.on 0) j = true → bit (M.getD (k + i) 0) j = true := by
  intro os
  induction os with
  | nil => intro k _ i o h; simp at h
  | cons x os ih =>
    intro k h i o ho e he hb
    simp only [masksUp, Bool.and_eq_true, List.all_eq_true] at h
    cases i with
    | zero =>
      simp at ho; subst ho
      have := h.1 e (by simpa using he)
      rw [hb] at this
      simp only [Bool.not_true, Bool.false_or, Bool.and_eq_true, List.all_eq_true, List.mem_range] at this
      refine ⟨this.1, fun j hj hbj => ?_⟩
      have := this.2 j hj
      rw [hbj] at this
      simpa using this
    | succ i => simp at ho; rw [show k + (i + 1) = k + 1 + i from by omega]; exact ih h.2 i o ho e he hb
theorem any_beq {l : List Nat} {j : Nat} : l.any (Nat.beq j) = true ↔ j ∈ l := by
  rw [List.any_eq_true]
  constructor
  · rintro ⟨x, hx, he⟩; rw [Nat.eq_of_beq_eq_true he]; exact hx
  · intro h; exact ⟨j, h, Nat.beq_refl j⟩
theorem edgesOk_spec : ∀ {os : List Oper} {k : Nat}, edgesOk os k = true → ∀ i o, os[i]? = some o → ∀ e ∈ o.after, Region.binds .any e = true → e.on < k + i := by
  intro os
  induction os with
  | nil => intro k _ i o h; simp at h
  | cons x os ih =>
    intro k h i o ho e he hb
    simp only [edgesOk, Bool.and_eq_true, List.all_eq_true] at h
    cases i with
    | zero =>
      simp at ho; subst ho
      have := h.1 e (by simpa using he)
      rw [hb] at this
      simpa [Nat.blt_eq] using this
    | succ i => simp at ho; have := ih h.2 i o ho e he hb; omega
theorem masksOk_spec {M : List Nat} {n : Nat} : ∀ {os : List Oper} {k : Nat}, masksOk M n os k = true → ∀ i o, os[i]? = some o → ∀ j, j < n → bit (M.getD (k + i) 0) j = true → ∃ e ∈ o.after, Region.binds .any e = true ∧ (e.on = j ∨ bit (M.getD e.on 0) j = true) := by
  intro os
  induction os with
  | nil => intro k _ i o h; simp at h
  | cons x os ih =>
    intro k h i o ho j hj hb
    simp only [masksOk, Bool.and_eq_true, List.all_eq_true, List.mem_range] at h
    cases i with
    | zero =>
      simp at ho; subst ho
      have := h.1 j hj
      rw [Nat.add_zero] at hb
      rw [hb] at this
      simp only [Bool.not_true, Bool.false_or, List.any_eq_true, Bool.and_eq_true, Bool.or_eq_true] at this
      obtain ⟨e, he, hbd, h3⟩ := this
      exact ⟨e, by simpa using he, hbd, h3.imp Nat.eq_of_beq_eq_true id⟩
    | succ i => simp at ho; exact ih h.2 i o ho j hj (by rw [show k + 1 + i = k + (i + 1) from by omega]; exact hb)
theorem dstIs_spec {t : Tmp} {o : Oper} : dstIs t o = true ↔ o.dst = some t := by
  unfold dstIs
  cases o.dst with
  | none => simp
  | some d => simp only [Option.some.injEq]; exact ⟨Nat.eq_of_beq_eq_true, fun h => beq_t h⟩
theorem dstsOk_spec : ∀ {os : List Oper}, dstsOk os = true → ∀ (i j : Nat) (o o' : Oper) (d : Tmp), os[i]? = some o → os[j]? = some o' → o.dst = some d → o'.dst = some d → i = j := by
  intro os
  induction os with
  | nil => intro _ i j o o' d h; simp at h
  | cons x os ih =>
    intro h i j o o' d hi hj hd hd'
    simp only [dstsOk, Bool.and_eq_true] at h
    have far : ∀ (o o' : Oper) (j : Nat), x = o → os[j]? = some o' → o.dst = some d → o'.dst = some d → False := by
      intro o o' j hxo hj hd hd'
      subst hxo
      have h1 := h.1
      rw [hd] at h1
      simp only [List.all_eq_true] at h1
      have := h1 o' (List.mem_of_getElem? hj)
      rw [dstIs_spec.2 hd'] at this
      cases this
    cases i with
    | zero =>
      cases j with
      | zero => rfl
      | succ j => simp at hi hj; exact (far o o' j hi hj hd hd').elim
    | succ i =>
      cases j with
      | zero => simp at hi hj; exact (far o' o i hj hi hd' hd).elim
      | succ j => simp at hi hj; rw [ih h.2 i j o o' d hi hj hd hd']
theorem readsOk_spec {ops : Array Oper} {M : List Nat} : ∀ {os : List Oper} {k : Nat}, readsOk ops M os k = true → ∀ i o, os[i]? = some o → ∀ t ∈ readsOf ops o, ∀ j oj, ops[j]? = some oj → oj.dst = some t → bit (M.getD (k + i) 0) j = true := by
  intro os
  induction os with
  | nil => intro k _ i o h; simp at h
  | cons x os ih =>
    intro k h i o ho t ht j oj hj hd
    simp only [readsOk, Bool.and_eq_true, List.all_eq_true] at h
    cases i with
    | zero =>
      simp at ho; subst ho
      have := h.1 t ht (oj, j) (by
        rw [List.mem_zipIdx_iff_getElem?]; simpa using hj)
      rw [dstIs_spec.2 hd] at this
      simpa using this
    | succ i => simp at ho; rw [show k + (i + 1) = k + 1 + i from by omega]; exact ih h.2 i o ho t ht j oj hj hd

theorem Dr.of {c : Ctx} {n : Nat} {ops : Array Oper} {M ms : List Nat} {hids owns : List (List Nat)} {s s' : Tr CV} {H H' : CH} (h : Chain P c n ops s [] H (mkPl ops.toList ms hids owns 0) s' H') (hok : rgOk ops M ms hids owns = true) :
    ∃ (pf : Nat → Plan) (sq : Nat → Tr CV) (Hq : Nat → CH) (vq : Nat → CV) (rq : Nat → List (Nat × Nat × Nat)), Dr P c n ops pf sq Hq vq rq ∧ sq 0 = s ∧ Hq 0 = H ∧ sq ops.size = s' ∧ Hq ops.size = H' := by
  obtain ⟨sq, Hq, vq, rq, h1, h2, h3, h4, h5, h6⟩ := h.funs
  rw [mkPl_length] at h4 h5
  simp only [Array.length_toList] at h4 h5
  simp only [rgOk, Bool.and_eq_true] at hok
  obtain ⟨⟨⟨⟨⟨⟨⟨e1, e2⟩, e3⟩, e4⟩, e5⟩, e6⟩, e7⟩, e8⟩ := hok
  have hop : ∀ k, k < ops.size → ops.toList[k]? = some (ops.getD k default) := fun k hk => by simp [Array.getD, hk]
  have hpl : ∀ k, k < ops.size → (mkPl ops.toList ms hids owns 0)[k]? = some ⟨k, ops.getD k default, ms.getD k 0, hids.getD k [], owns.getD k []⟩ := fun k hk => by
    have := mkPl_get (ms := ms) (hids := hids) (owns := owns) (i := 0) (hop k hk)
    simpa using this
  have hedge : ∀ k o, ops[k]? = some o → ∀ e ∈ o.after, Region.binds .any e = true → e.on < k := fun k o ho e he hb => by
    have := edgesOk_spec e1 k o (by simpa using ho) e he hb; omega
  have hbef : ∀ k, k < ops.size → ∀ j, j < ops.size → bit (M.getD k 0) j = true → Bef ops j k := by
    intro k
    induction k using Nat.strongRecOn with
    | ind k ih =>
      intro hk j hj hb
      obtain ⟨e, he, hbd, h7⟩ := masksOk_spec e2 k _ (hop k hk) j hj (by simpa using hb)
      have ho : ops[k]? = some (ops.getD k default) := by simpa using hop k hk
      rcases h7 with rfl | h7
      · exact .edge ho he hbd
      · have hlt := hedge k _ ho e he hbd
        exact .more ho he hbd (ih e.on hlt (by omega) j hj h7)
  have hbit : ∀ j k, Bef ops j k → j < ops.size → bit (M.getD k 0) j = true := by
    intro j k hb
    induction hb with
    | edge ho he hbd => intro _; have := masksUp_spec e7 _ _ (by simpa using ho) _ he hbd; simpa using this.1
    | more ho he hbd _ ih => intro hj; have := masksUp_spec e7 _ _ (by simpa using ho) _ he hbd; simpa using this.2 _ hj (ih hj)
  simp only [modesOk, List.all_eq_true, List.mem_range, Bool.and_eq_true, Bool.or_eq_true] at e5
  have e8 : ∀ k, k < ops.size → ms.getD k 0 = 3 → ∀ j ∈ owns.getD k [], j < k ∧ bit (M.getD k 0) j = true ∧ ms.getD j 0 = 1 ∧ j ∉ hids.getD k [] ∧ (∀ i, i < ops.size → ms.getD i 0 ≠ 0 → bit (M.getD i 0) j = true → i = k ∨ bit (M.getD k 0) i = true ∨ bit (M.getD i 0) k = true) ∧ (∀ i, i < ops.size → ms.getD i 0 = 3 → j ∈ owns.getD i [] → i = k) := by
    intro k hk hm j hj
    simp only [ownsOk, List.all_eq_true, List.mem_range, Bool.or_eq_true] at e8
    rcases e8 k hk with h | h
    · rw [hm] at h; cases h
    · have h := h j hj
      simp only [Bool.and_eq_true, List.all_eq_true, List.mem_range] at h
      obtain ⟨⟨⟨⟨⟨g1, g2⟩, g3⟩, g4⟩, g5⟩, g6⟩ := h
      refine ⟨by simpa [Nat.blt_eq] using g1, g2, Nat.eq_of_beq_eq_true g3, fun hx => ?_, fun i hi hmi hb => ?_, fun i hi hmi hx => ?_⟩
      · rw [any_beq.2 hx] at g4; cases g4
      · have := g5 i hi
        rw [hb, beq_f hmi] at this
        simp only [Bool.not_true, Bool.or_eq_true, Bool.false_eq_true, false_or] at this
        rcases this with (h | h) | h
        · exact .inl (Nat.eq_of_beq_eq_true h)
        · exact .inr (.inl h)
        · exact .inr (.inr h)
      · have := g6 i hi
        rw [hmi, any_beq.2 hx] at this
        simp only [Bool.not_true, Bool.or_eq_true] at this
        rcases this with (h | h) | h
        · cases h
        · exact Nat.eq_of_beq_eq_true h
        · cases h
  refine ⟨fun k => ⟨k, ops.getD k default, ms.getD k 0, hids.getD k [], owns.getD k []⟩, sq, Hq, vq, rq, ⟨?_, ?_, ?_, ?_, ?_, hedge, ?_, ?_, ?_, ?_, ?_, ?_, ?_, ?_⟩, h1, h2, h4, h5⟩
  · intro k hk; simpa using hop k hk
  · intro k hk; exact (h6 k _ (hpl k hk)).1
  · intro k hk; exact (h6 k _ (hpl k hk)).2.1
  · intro k
    induction k with
    | zero => intro _ x hx; rw [h3] at hx; cases hx
    | succ k ih =>
      intro hk x hx
      rw [(h6 k _ (hpl k (by omega))).2.2] at hx
      rcases List.mem_cons.1 hx with rfl | hx
      · exact ⟨k, by omega, rfl⟩
      · obtain ⟨j, hj, e⟩ := ih (by omega) x hx; exact ⟨j, by omega, e⟩
  · intro k
    induction k with
    | zero => intro _ j hj; omega
    | succ k ih =>
      intro hk j hj
      rw [(h6 k _ (hpl k (by omega))).2.2]
      by_cases e : j = k
      · subst e; exact List.mem_cons_self
      · exact List.mem_cons_of_mem _ (ih (by omega) j (by omega))
  · intro j k d hj hk hd hd'
    exact dstsOk_spec e3 j k _ _ d (hop j hj) (hop k hk) hd hd'
  · intro k hk t ht j hj hd
    exact hbef k hk j hj (by
      have := readsOk_spec e4 k _ (hop k hk) t ht j _ (by simpa using hop j hj) hd
      simpa using this)
  · intro k hk hm j hj hmj
    have hm : ms.getD k 0 = 1 ∨ ms.getD k 0 = 3 := hm
    have hmj : ms.getD j 0 ≠ 0 := hmj
    rcases (e5 k hk).2 j hj with (h7 | h7) | (h7 | h7)
    · exact absurd (Nat.eq_of_beq_eq_true h7) hmj
    · have := Nat.eq_of_beq_eq_true h7; omega
    · have := Nat.eq_of_beq_eq_true h7.1; omega
    · obtain ⟨⟨_, h8⟩, h9⟩ := h7
      refine ⟨fun h10 => ?_, ?_⟩
      · have h10 : ms.getD j 0 = 2 := h10
        rw [h10] at h8; cases h8
      · rcases h9 with h9 | h9
        · exact .inl (hbef k hk j (by omega) h9)
        · exact .inr (any_beq.1 h9)
  · intro k hk hm j hj hmj
    have hm : ms.getD k 0 = 2 := hm
    have hmj : ms.getD j 0 ≠ 0 := hmj
    rcases (e5 k hk).2 j hj with (h7 | h7) | (h7 | h7)
    · exact absurd (Nat.eq_of_beq_eq_true h7) hmj
    · have := Nat.eq_of_beq_eq_true h7; omega
    · exact hbef k hk j (by omega) h7.2
    · rcases h7.1.1 with h | h <;> have := Nat.eq_of_beq_eq_true h <;> omega
  · intro k hk hm j hj
    obtain ⟨g1, g2, g3, g4, _, _⟩ := e8 k hk hm j hj
    exact ⟨g1, hbef k hk j (by omega) g2, g3, g4⟩
  · intro k k' j hk hk' hm hm' hj hj'
    exact ((e8 k hk hm j hj).2.2.2.2.2 k' hk' hm' hj').symm
  · intro k hk hm j hj i hi hmi hb
    obtain ⟨g1, g2, g3, g4, g5, _⟩ := e8 k hk hm j hj
    rcases g5 i hi hmi (hbit j i hb (by omega)) with h | h | h
    · exact .inl h
    · exact .inr (.inl (hbef k hk i hi h))
    · exact .inr (.inr (hbef i hi k hk h))
  · intro k
    show ms.getD k 0 ≤ 3
    rcases Nat.lt_or_ge k ops.size with hk | hk
    · exact Nat.le_of_ble_eq_true (e5 k hk).1
    · have := Nat.eq_of_beq_eq_true e6
      simp [List.getD, List.getElem?_eq_none (show ms.length ≤ k by omega)]

/-! ### Any order -/
theorem ready_mem {ops : Array Oper} {listed : Array Bool} {i : Nat} (h : i ∈ Region.ready .any ops listed) :
    i < ops.size ∧ listed.getD i true = false ∧ ∀ o, ops[i]? = some o → ∀ e ∈ o.after, Region.binds .any e = true → listed.getD e.on false = true := by
  simp only [Region.ready, List.mem_filter, List.mem_range, Bool.and_eq_true, Bool.not_eq_true'] at h
  obtain ⟨h1, h2, h3⟩ := h
  refine ⟨h1, h2, fun o ho e he hb => ?_⟩
  rw [ho] at h3
  simp only [Option.map_some, Option.getD_some, Array.all_eq_true_iff_forall_mem] at h3
  have := h3 e he
  simpa [hb] using this
theorem getD_tf {listed : Array Bool} {i : Nat} (hi : i < listed.size) (b c : Bool) : listed.getD i b = listed.getD i c := by simp [Array.getD, hi]
theorem all_listed {ops : Array Oper} (hedge : ∀ k o, ops[k]? = some o → ∀ e ∈ o.after, Region.binds .any e = true → e.on < k) {listed : Array Bool} (hsz : listed.size = ops.size) (hr : Region.ready .any ops listed = []) : ∀ i, i < ops.size → listed.getD i false = true := by
  intro i
  induction i using Nat.strongRecOn with
  | ind i ih =>
    intro hi
    cases hl : listed.getD i false with
    | true => rfl
    | false =>
      exfalso
      have : i ∈ Region.ready .any ops listed := by
        simp only [Region.ready, List.mem_filter, List.mem_range, Bool.and_eq_true, Bool.not_eq_true']
        refine ⟨hi, by rw [getD_tf (by omega) true false]; exact hl, ?_⟩
        have ho : ops[i]? = some ops[i] := by simp [hi]
        rw [ho]
        simp only [Option.map_some, Option.getD_some, Array.all_eq_true_iff_forall_mem]
        intro e he
        cases hbd : Region.binds .any e with
        | false => simp
        | true =>
          have h1 := hedge i _ ho e he hbd
          simp [ih e.on h1 (by omega)]
      rw [hr] at this
      cases this

section
variable {c : Ctx} {T : Nat} {n : Nat} {ops : Array Oper} {pf : Nat → Plan} {sq : Nat → Tr CV} {Hq : Nat → CH} {vq : Nat → CV} {rq : Nat → List (Nat × Nat × Nat)}

def lS (listed : Array Bool) : Nat → Prop := fun j => listed.getD j false = true

theorem lin_sound (D : Dr P c n ops pf sq Hq vq rq) {ι0 : Emb} {w0 : World} {a0 : Act} (hH : HRel c T ι0 (Hq 0) w0) (hT : (Hq ops.size).next ≤ T) (hs0 : Slots ι0 (sq 0) a0.tmps) :
    ∀ (fuel t : Nat) (listed : Array Bool) (a : Act) (w : World), listed.size = ops.size → listed.toList.countP (fun b => !b) ≤ fuel → Closed ops (lS listed) → OnW c T ops pf Hq vq n (lS listed) ι0 w0 a0 a w →
      ∃ S a' w', (∀ j, j < ops.size → S j) ∧ OnW c T ops pf Hq vq n S ι0 w0 a0 a' w' ∧ ∀ (b : Frame) (K : List Item) (cs : List Frame), Steps P (lone (b.atR a (.inRegion ops (Region.linearise.go .any ops fuel t listed []) :: K)) cs w) (lone (b.atR a' K) cs w') := by
  intro fuel
  induction fuel with
  | zero =>
    intro t listed a w hsz hc hcl hon
    have hr : Region.ready .any ops listed = [] := by
      rw [List.eq_nil_iff_forall_not_mem]
      intro i hi
      obtain ⟨h1, h2, _⟩ := ready_mem hi
      have h0 : listed.toList.countP (fun b => !b) = 0 := by omega
      rw [List.countP_eq_zero] at h0
      have : listed[i]'(by omega) = true := by
        have := h0 (listed[i]'(by omega)) (by simp)
        simpa using this
      simp [Array.getD, show i < listed.size from by omega, this] at h2
    refine ⟨lS listed, a, w, all_listed D.edge hsz hr, hon, fun b K cs => ?_⟩
    simp only [Region.linearise.go, List.reverse_nil]
    exact .one stepR_region_end
  | succ fuel ih =>
    intro t listed a w hsz hc hcl hon
    have hgo : Region.linearise.go .any ops (fuel + 1) t listed [] = (match (Region.ready .any ops listed)[t % (Region.ready .any ops listed).length]? with
      | some i => Region.linearise.go .any ops fuel (t / (Region.ready .any ops listed).length) (listed.setIfInBounds i true) [i]
      | none => ([] : List Nat).reverse) := rfl
    cases hi : (Region.ready .any ops listed)[t % (Region.ready .any ops listed).length]? with
    | none =>
      have hnil : Region.ready .any ops listed = [] := by
        cases hr : Region.ready .any ops listed with
        | nil => rfl
        | cons x xs =>
          rw [hr] at hi
          have hlt : t % (x :: xs).length < (x :: xs).length := Nat.mod_lt _ (by simp)
          simp at hi
          simp at hlt
          omega
      refine ⟨lS listed, a, w, all_listed D.edge hsz hnil, hon, fun b K cs => ?_⟩
      rw [hgo, hi]
      exact .one stepR_region_end
    | some k =>
      have hk := List.mem_of_getElem? hi
      obtain ⟨h1, h2, h3⟩ := ready_mem hk
      have hkl : k < listed.size := by omega
      have hnk : ¬ lS listed k := by
        unfold lS
        rw [getD_tf hkl false true, h2]; simp
      have hSe : (fun j => j = k ∨ lS listed j) = lS (listed.setIfInBounds k true) := by
        funext j
        apply propext
        unfold lS
        simp only [Array.getD_eq_getD_getElem?]
        by_cases e : j = k
        · subst e; simp [hkl]
        · rw [Array.getElem?_setIfInBounds_ne (fun h => e h.symm)]; simp [e]
      obtain ⟨a1, w1, hon1, hst⟩ := hon.step D hH hT hs0 h1 hnk hcl (fun j hb => hb.ready hcl h3)
      rw [hSe] at hon1
      have hcount : (listed.setIfInBounds k true).toList.countP (fun b => !b) ≤ fuel := by
        have hfl : listed[k] = false := by simpa [Array.getD, hkl] using h2
        have hli : listed.toList[k]'(by simpa using hkl) = false := by simpa using hfl
        have hpos : 0 < listed.toList.countP (fun b => !b) := List.countP_pos_iff.2 ⟨false, List.mem_of_getElem? (i := k) (by simp [hkl, hfl]), rfl⟩
        rw [Array.toList_setIfInBounds, List.countP_set (by simpa using hkl), hli]
        simp only [Bool.not_false, Bool.not_true, if_true, Bool.false_eq_true, if_false]
        omega
      have hcl' : Closed ops (lS (listed.setIfInBounds k true)) := by
        rw [← hSe]
        intro j o ho hj e he hb
        rcases hj with rfl | hj
        · exact .inr (h3 o ho e he hb)
        · exact .inr (hcl j o ho hj e he hb)
      obtain ⟨S, a', w', hall, hon', hst'⟩ := ih (t / (Region.ready .any ops listed).length) _ a1 w1 (by simp [hsz]) hcount hcl' hon1
      refine ⟨S, a', w', hall, hon', fun b K cs => ?_⟩
      rw [hgo, hi]
      simp only []
      rw [linearise_go_acc, List.reverse_singleton, List.singleton_append]
      exact (hst b _ K cs).trans (hst' b K cs)

/-- All is done. -/
theorem OnW.fin (D : Dr P c n ops pf sq Hq vq rq) {S : Nat → Prop} {ι0 : Emb} {w0 : World} {a0 a : Act} {w : World} {ds : List Nat} (hH : HRel c T ι0 (Hq 0) w0) (hT : (Hq ops.size).next ≤ T) (hF : FR ι0 (sq 0) n ds a0) (hall : ∀ j, j < ops.size → S j)
    (h : OnW c T ops pf Hq vq n S ι0 w0 a0 a w) : ∃ ι, Post c ι0 (Hq 0) w0 ι (Hq ops.size) w ∧ HRel c T ι (Hq ops.size) w ∧ FR ι (sq ops.size) n ds a := by
  obtain ⟨ι, hsl, hph⟩ := h
  have hext := OnW.ext hph
  have hfr : FR ι (sq ops.size) n ds a := ⟨fun t => hsl.at_ D hF.slots hext (Nat.le_refl _) (fun j hj _ => ⟨hall j hj, hj⟩), hsl.size, by rw [hsl.dfr]; exact hF.dfr.mono hext⟩
  rcases hph with A | ⟨q, B⟩
  · obtain ⟨h1, h2⟩ := A.post D hH hT (k := ops.size) (Nat.le_refl _) (fun j hj _ => ⟨A.noord j hj (hall j hj), hall j hj⟩) (fun j hj _ _ => hj)
    exact ⟨ι, h2, h1, hfr⟩
  · have he := D.quiet (q := q) (k := ops.size) B.le (Nat.le_refl _) (fun j h1 h2 => by
      by_cases hm : (pf j).m = 0
      · exact hm
      · have := (B.tch j h2 hm).1 (hall j h2); omega)
    rw [he]
    refine ⟨ι, B.post, B.hr, hfr⟩
end

/-- **A REGION THAT DRAWS ITS ORDER.** -/
theorem drawn_sound (hmix : P.follows .mixedOrders = true) {c : Ctx} {n : Nat} {ops : Array Oper} {M ms : List Nat} {hids owns : List (List Nat)} {s s' : Tr CV} {H H' : CH} (h : Chain P c n ops s [] H (mkPl ops.toList ms hids owns 0) s' H') (hok : rgOk ops M ms hids owns = true)
    {T : Nat} {ι : Emb} {w : World} {a : Act} {ds : List Nat} (hT : H'.next ≤ T) (hF : FR ι s n ds a) (hH : HRel c T ι H w) (fn : FuncId) (id : Nat) :
    ∃ ι' w' a', Post c ι H w ι' H' w' ∧ HRel c T ι' H' w' ∧ FR ι' s' n ds a' ∧ ∀ (b : Frame) (K : List Item) (cs : List Frame), b.fn = fn → Steps P (lone (b.atR a (.code (.region id ops true) :: K)) cs w) (lone (b.atR a' K) cs w') := by
  obtain ⟨pf, sq, Hq, vq, rq, D, rfl, rfl, rfl, rfl⟩ := Dr.of h hok
  have hon : OnW c T ops pf Hq vq n (lS (Array.replicate ops.size false)) ι w.drew a a w.drew := by
    refine ⟨ι, ⟨hF.size, rfl, fun _ _ => rfl, fun j t hj hs _ => ?_⟩, .inl ?_⟩
    · simp [lS, Array.getD, hj] at hs
    · have := PhA.start (ops := ops) (pf := pf) hH.drew
      have e : lS (Array.replicate ops.size false) = fun _ => False := by
        funext j; apply propext; unfold lS
        by_cases hj : j < ops.size
        · simp [Array.getD, hj]
        · simp [Array.getD, hj]
      rw [e]; exact this
  obtain ⟨S, a', w', hall, hon', hst⟩ := lin_sound D hH.drew hT hF.slots ops.size (w.tape w.drawn (.order fn id)) (Array.replicate ops.size false) a w.drew (by simp) (by
      have := List.countP_le_length (p := fun b => !b) (l := (Array.replicate ops.size false).toList)
      simpa using this) (fun k o ho hs => by
        have hk := (Array.getElem?_eq_some_iff.1 ho).1
        simp [lS, Array.getD, hk] at hs) hon
  obtain ⟨ι', h1, h2, h3⟩ := hon'.fin D hH.drew hT hF hall
  refine ⟨ι', w', a', ?_, h2, h3, fun b K cs hb => ?_⟩
  · exact { h1 with size := h1.size, os := h1.os, tape := h1.tape, output := h1.output, frame := h1.frame, fresh := h1.fresh }
  · refine .head stepR_region_draw ?_
    simp only [Region.schedule, hmix, Bool.true_or, if_true]
    rw [hb]
    exact hst b K cs

/-- **A REGION IN THE TEXT's ORDER.** -/
theorem seq_sound {c : Ctx} {n : Nat} {ops : Array Oper} (hdst : ∀ (j : Nat) (o : Oper), ops[j]? = some o → okDst n o.dst = true) {s s' : Tr CV} {rs : List (Nat × Nat × Nat)} {H H' : CH} {pl : List Plan} (h : Chain P c n ops s rs H pl s' H') (hp : ∀ p ∈ pl, p.m = 2 ∧ ops[p.i]? = some p.o)
    {T : Nat} {ds : List Nat} (hT : H'.next ≤ T) : ∀ {ι : Emb} {w : World} {a : Act}, FR ι s n ds a → HRel c T ι H w →
    ∃ ι' w' a', Post c ι H w ι' H' w' ∧ HRel c T ι' H' w' ∧ FR ι' s' n ds a' ∧ ∀ (b : Frame) (K : List Item) (cs : List Frame), Steps P (lone (b.atR a (.inRegion ops (pl.map (·.i)) :: K)) cs w) (lone (b.atR a' K) cs w') := by
  induction h with
  | nil => intro ι w a hF hH; exact ⟨ι, w, a, Post.refl _ _ _ _, hH, hF, fun b K cs => .one stepR_region_end⟩
  | @cons s rs H p v H1 pl s' H' h t ih =>
    intro ι w a hF hH
    obtain ⟨hm, ho⟩ := hp p List.mem_cons_self
    have ih := fun {ι : Emb} {w : World} {a : Act} => @ih (fun q hq => hp q (List.mem_cons_of_mem _ hq)) hT ι w a
    have hN : H1.next ≤ T := Nat.le_trans t.sta.next hT
    have hwt : Region.wanted p.o (yielded ops a.tmps) = cwanted ops s p.o := cwanted_spec (fun j want _ => cyield_spec (ι := ι) (fun d hd => by
      cases hoj : ops[j]? with
      | none => rw [hoj] at hd; cases hd
      | some oj =>
        rw [hoj] at hd
        have hdd := hdst j oj hoj
        have hd : oj.dst = some d := hd
        rw [hd] at hdd
        simp only [okDst, Bool.and_eq_true] at hdd
        exact ⟨by rw [hF.size]; simpa [Nat.blt_eq] using hdd.2, hF.slots d⟩))
    rcases h.ok with ⟨hw, hv, he⟩ | ⟨hw, H2, hop, hp0, hp1, _⟩
    · subst he
      obtain ⟨ι', w', a', h1, h2, h3, h4⟩ := ih (hF.put h.dst (by rw [hv]; exact undef_rel)) hH
      refine ⟨ι', w', a', h1, h2, h3, fun b K cs => .head ?_ (h4 b K cs)⟩
      have := stepR_op_skip (P := P) (b := b) (a := a) (k := K) (cs := cs) (w := w) (ops := ops) (i := p.i) (rest := pl.map (·.i)) (by rw [ho]; simp [hwt, hw])
      rw [ho] at this
      exact this
    · have e := hp1 (by omega)
      subst e
      have hct : ctxAt c p rs H = c := by simp only [ctxAt, hm]
      have hht : heapAt p H = H := by simp only [heapAt, hm]
      rw [hct, hht] at hop
      obtain ⟨ι1, w1, u, p1, r1, hvr, hrun⟩ := hop.2 T ι w a hN (hF.slots.eval _) hH
      obtain ⟨ι', w', a', h1, h2, h3, h4⟩ := ih ((hF.mono p1.ext).put h.dst hvr) r1
      exact ⟨ι', w', a', Post.trans hH r1 hN p1 h1, h2, h3, fun b K cs => (hrun b ops p.i _ K cs ho (by rw [hwt, hw])).trans (h4 b K cs)⟩

end
end Go.Proofs.YtokafjkinkafiaaGreat.Mini

namespace Go.Proofs.YtokafjkinkafiaaGreat.Mini
noncomputable section
open Go.RowKit
variable {P : Program}

theorem OpSim.of_op {c : Ctx} {s : Tr CV} {H H' : CH} {o : Oper} {v : CV} (h : evOp P c s H o = some (v, H')) : OpSim P c s H o v H' := by
  refine ⟨evOp_sta h, fun T ι w a hT he hH => ?_⟩
  obtain ⟨ι', w', u, hy, h1, h2, h3⟩ := evOp_sound hH hT he h
  refine ⟨ι', w', u, h1, h2, h3, fun b ops i rest k cs ho hw => ?_⟩
  have hnd : ∀ q, o.op ≠ .defer q := fun q hq => by
    unfold evOp at h; rw [hq] at h; cases h
  refine .one (step_lone_go ?_)
  rw [stepGR_op ho hw, Oper.semAt_eq _ _ _ hnd]
  have hfin : ∀ v, (b.atR a (.inRegion ops (i :: rest) :: k)).finish v = b.atR (a.put o.dst v) (.inRegion ops rest :: k) := by
    intro v; rw [Frame.finish_atR, ho]; rfl
  rcases hy with hy | ⟨hy, rfl⟩
  · simp [stepG.apply, Sem.runT_eq, hy, hfin]
  · simp [stepG.apply, Sem.runT_eq, hy, hfin]

def isCall (o : Oper) : Option (Operand × List Operand) :=
  match o.op with
  | .call k => match k.callee with
    | .value f => some (f, k.args.toList)
    | _ => none
  | _ => none

theorem OpSim.of_call {c : Ctx} {s : Tr CV} {H H' : CH} {o : Oper} {v fv : CV} {f : Operand} {as : List Operand} {args : List CV} (hc : isCall o = some (f, as)) (hf : evC s f = some fv) (ha : evL s as = some args) (h : CallSim P c fv args H v H') : OpSim P c s H o v H' := by
  refine ⟨h.1, fun T ι w a hT he hH => ?_⟩
  obtain ⟨dst, op, ty, pos, after, guard⟩ := o
  unfold isCall at hc
  simp only at hc he
  split at hc
  · rename_i k
    split at hc
    · rename_i f' hcal
      injection hc with hc; injection hc with e1 e2; subst e1; subst e2
      have k1 := he f' (by simp [Op.operands, Call.operands, hcal]) _ hf
      have k2 := he.list (l := k.args.toList) (fun x hx => by simp [Op.operands, Call.operands]; right; simpa using hx) ha
      obtain ⟨ι', w', u, h1, h2, h3, nx, w1, hrun, hl⟩ := h.2 T ι w _ _ hT k1 k2 hH
      refine ⟨ι', w', u, h1, h2, h3, fun b ops i rest K cs ho hw => ?_⟩
      have e1 : (k.args.toList.map a.eval).toArray = k.args.map a.eval := by apply Array.ext'; simp
      rw [e1] at hrun
      have hres : (execOp a.eval ⟨dst, .call k, ty, pos, after, guard⟩).run P w = .ok nx w1 := by
        simp only [execOp, resolve, hcal]
        exact hrun
      have hg := stepGR_op (P := P) (b := b) (a := a) (k := K) (cs := cs) (w := w) (rest := rest) ho hw
      rw [Oper.semAt_eq _ _ _ (fun q hq => by cases hq)] at hg
      have hfin : ∀ v, (b.atR a (.inRegion ops (i :: rest) :: K)).finish v = b.atR (a.put dst v) (.inRegion ops rest :: K) := by
        intro v; rw [Frame.finish_atR, ho]; rfl
      cases nx with
      | enter g as' =>
        have hl : ∀ c cs, Steps P (lone (Frame.enter P g as' .normal) (c :: cs) w1) (lone (c.finish u) cs w') := hl
        have := hl (b.atR a (.inRegion ops (i :: rest) :: K)) cs
        rw [hfin] at this
        refine .head ?_ this
        refine step_lone_go ?_
        rw [hg]
        simp [stepG.apply, Sem.runT_eq, hres, Frame.atR]
      | round l g tm asg bd =>
        have hl : ∀ c cs, Steps P (lone (Frame.round l g tm asg bd .normal) (c :: cs) w1) (lone (c.finish u) cs w') := hl
        have := hl (b.atR a (.inRegion ops (i :: rest) :: K)) cs
        rw [hfin] at this
        refine .head ?_ this
        refine step_lone_go ?_
        rw [hg]
        simp [stepG.apply, Sem.runT_eq, hres]
      | _ => exact hl.elim
    · cases hc
  · cases hc

/-- Slots for arguments. -/
def slotsOf : List CV → Nat → Tr CV → Tr CV
  | [], _, s => s
  | v :: l, k, s => slotsOf l (k + 1) (Tr.set deep s k (some v))
theorem slotsOf_get : ∀ (l : List CV) (k : Nat) (s : Tr CV), k + l.length < 1000000000 → ∀ t, (slotsOf l k s).get t = if k ≤ t ∧ t < k + l.length then l[t - k]? else s.get t := by
  intro l
  induction l with
  | nil => intro k s _ t; simp only [slotsOf, List.length_nil]; rw [if_neg (by omega)]
  | cons v l ih =>
    intro k s hk t
    simp only [List.length_cons] at hk
    simp only [slotsOf]
    rw [ih (k + 1) _ (by omega) t, Tr.get_set _ _ _ _ _ (small_deep (by simp [small, Nat.blt_eq]; omega))]
    simp only [List.length_cons]
    by_cases e : t = k
    · subst e
      rw [if_neg (by omega), if_pos rfl, if_pos (by omega)]
      simp
    · rw [if_neg e]
      by_cases h : k + 1 ≤ t ∧ t < k + 1 + l.length
      · rw [if_pos h, if_pos (by omega)]
        obtain ⟨j, rfl⟩ : ∃ j, t = k + 1 + j := ⟨t - (k + 1), by omega⟩
        rw [show k + 1 + j - (k + 1) = j from by omega, show k + 1 + j - k = j + 1 from by omega]
        simp
      · rw [if_neg h, if_neg (by omega)]
theorem slots_enter {ι : Emb} {l : List CV} {us : List Value} (h : LRel ι l us) (hs : l.length < 1000000000) (m : Nat) : Slots ι (slotsOf l 0 .leaf) (us.toArray ++ Array.replicate m undef) := by
  intro t
  rw [slotsOf_get l 0 .leaf (by omega) t]
  have hl := h.length
  by_cases ht : t < l.length
  · rw [if_pos (by omega), Nat.sub_zero]
    obtain ⟨u, hu, hr⟩ := h.get (n := t) (v := l[t]) (by simp [ht])
    have e : (us.toArray ++ Array.replicate m undef).getD t undef = u := by
      simp only [Array.getD_eq_getD_getElem?]
      rw [Array.getElem?_append_left (by simp; omega)]
      simp [hu]
    rw [e]; simpa [ht] using hr
  · rw [if_neg (by omega), Tr.get_leaf]
    have e : (us.toArray ++ Array.replicate m undef).getD t undef = undef := by
      simp only [Array.getD_eq_getD_getElem?]
      rw [Array.getElem?_append_right (by simp; omega)]
      simp only [Array.getElem?_replicate]
      split <;> rfl
    rw [e]; exact undef_rel

theorem CallSim.of_fn {c : Ctx} {g : FuncId} {first args caps : List CV} {H H' : CH} {v : CV} {F : Func} {cd : Code} (hF : P.funcs[g]? = some F) (hb : F.body = some cd) (hn : F.name ≠ "runtime.NumGoroutine") (hs : (first ++ args ++ caps).length < 1000000000)
    (h : RunSim P c g ((first ++ args ++ caps).length + (F.ntmps - (first ++ args ++ caps).length)) none (slotsOf (first ++ args ++ caps) 0 .leaf) [] [.code cd] H v H') : CallSim P c (.fn g first caps) args H v H' := by
  refine ⟨h.1, fun T ι w f us hT hf ha hH => ?_⟩
  cases hf with
  | fn _ h1 h2 =>
    rename_i a' c'
    have hall := (h1.append ha).append h2
    have hl := hall.length
    have hl' : first.length + args.length + caps.length = a'.length + us.length + c'.length := by have := h1.length; have := ha.length; have := h2.length; omega
    obtain ⟨ι', w', u, q1, q2, q3, q4⟩ := h.2 T ι w { tmps := (a' ++ us ++ c').toArray ++ Array.replicate (F.ntmps - (first ++ args ++ caps).length) undef, defers := [] } { (default : Frame) with fn := g, kind := .normal } hT rfl rfl trivial ⟨slots_enter hall hs _, by simp at hl ⊢; omega, .nil⟩ hH
    refine ⟨ι', w', u, q1, q2, q3, .enter g (a' ++ us ++ c').toArray, w, ?_, fun fr cs => ?_⟩
    · have hne : (F.name == "runtime.NumGoroutine") = false := by simpa using hn
      simp [Deferred.ofValue, invoke, callFunc, hF, hb, hn]
    · obtain ⟨fr', k1, k2, k3⟩ := q4 (fr :: cs)
      have he : Frame.enter P g (a' ++ us ++ c').toArray .normal = ({ (default : Frame) with fn := g, kind := .normal } : Frame).atR { tmps := (a' ++ us ++ c').toArray ++ Array.replicate (F.ntmps - (first ++ args ++ caps).length) undef, defers := [] } [.code cd] := by
        have hsz : (a' ++ us ++ c').toArray.size = (first ++ args ++ caps).length := by simp at hl ⊢; omega
        simp only [Frame.enter, Frame.atR, hF, hb, Option.map_some, Option.getD_some, Option.bind_some, hsz]
        rfl
      rw [he]
      exact k1.trans (.one (step_leave_returned k3))

/-! ### Rounds of a range over a function -/
def setAll (s : Tr CV) : List Tmp → List CV → Tr CV
  | t :: ts, v :: vs => setAll (Tr.set deep s t (some v)) ts vs
  | _, _ => s
def okTs (n : Nat) : List Tmp → Bool
  | [] => true
  | t :: ts => (small t && Nat.blt t n) && okTs n ts
theorem setAll_rel {ι : Emb} : ∀ {ts : List Tmp} {vs : List CV} {us : List Value} {s : Tr CV} {a : Array Value}, LRel ι vs us → Slots ι s a → okTs a.size ts = true →
    Slots ι (setAll s ts vs) ((ts.zip us).foldl (fun (tm : Array Value) (t, u) => tm.setIfInBounds t u) a) ∧ ((ts.zip us).foldl (fun (tm : Array Value) (t, u) => tm.setIfInBounds t u) a).size = a.size := by
  intro ts
  induction ts with
  | nil => intro vs us s a _ hs _; exact ⟨by simpa [setAll] using hs, by simp⟩
  | cons t ts ih =>
    intro vs us s a hv hs hok
    cases hv with
    | nil => exact ⟨by simpa [setAll] using hs, by simp⟩
    | cons h hv =>
      simp only [okTs, Bool.and_eq_true] at hok
      have hlt : t < a.size := by simpa [Nat.blt_eq] using hok.1.2
      have := ih hv (hs.put h hok.1.1 hlt) (by simpa using hok.2)
      simp only [setAll, List.zip_cons_cons, List.foldl_cons]
      exact ⟨this.1, by rw [this.2]; simp⟩
theorem run_getLoop {w : World} {r : Nat} {L : Loop} (h : w.heap[r]? = some (.loop L)) : (Instr.getLoop r).run P w = .ok L w := by
  simp [Instr.getLoop, getObj, Sem.run, h]

theorem CallSim.of_yield {c : Ctx} {l : Nat} {args : List CV} {H H' : CH} {v : CV} {st : LoopState} {pend : Option Code} {fn : FuncId} {s : Tr CV} {n : Nat} {ps : List Tmp} {asg bd : Code} {dfr : Nat}
    (hg : H.tr.get l = some (.loop st pend fn s n ps asg bd dfr)) (hv : c.vis l = true) (hlen : args.length = ps.length) (hok : okTs n ps = true)
    (h : RunSim P c fn n (some l) (setAll s ps args) [] [.code asg, .beginRound, .code bd] H v H') : CallSim P c (.yl l) args H v H' := by
  refine ⟨h.1, fun T ι w f us hT hf ha hH => ?_⟩
  obtain ⟨r, C, ob, q1, q2, a, rd, K, rfl, q3, q4, q5⟩ := hH.blk _ _ hg hv
  cases hf with
  | yl hι =>
    rename_i r0 C0
    rw [hι] at q1; injection q1 with q1; injection q1 with q1 q1'; subst q1; subst q1'
    have hul := ha.length
    obtain ⟨k1, k2⟩ := setAll_rel (ts := ps) ha q3 (by rw [q4]; exact hok)
    generalize htm : (ps.zip us).foldl (fun (tm : Array Value) (t, u) => tm.setIfInBounds t u) a = tm at k1 k2
    obtain ⟨ι', w', u, p1, p2, p3, p4⟩ := h.2 T ι w { tmps := tm, defers := [] } { (default : Frame) with fn := fn, kind := .normal, roundOf := some _ } hT rfl rfl ⟨_, hι⟩ ⟨k1, by rw [k2, q4], .nil⟩ hH
    refine ⟨ι', w', u, p1, p2, p3, .round r0 fn tm asg bd, w, ?_, fun fr cs => p4 fr cs⟩
    simp only [Deferred.ofValue, Sem.run_bind, Sem.run_pure, Result.andThen_ok, invoke, Instr.yield, run_getLoop q2]
    simp only [Array.empty_append]
    rw [if_neg (by simp; omega)]
    simp only [Sem.run_pure]
    rw [← htm, ← Array.foldl_toList]
    simp

theorem RunSim.begin {c : Ctx} {fn : FuncId} {n : Nat} {l : Nat} {s s1 : Tr CV} {ds : List Nat} {k : List Item} {H H' : CH} {v : CV} {pend : Option Code} {fn1 : FuncId} {n1 : Nat} {ps : List Tmp} {asg bd : Code} {dfr : Nat}
    (hg : H.tr.get l = some (.loop .ready pend fn1 s1 n1 ps asg bd dfr)) (hm : c.may l = true) (hs : small l = true)
    (h : RunSim P c fn n (some l) s ds k (H.put l (.loop .busy pend fn1 s1 n1 ps asg bd dfr)) v H') : RunSim P c fn n (some l) s ds (.beginRound :: k) H v H' := by
  refine ⟨(sta_put hm hs hg).trans h.1, fun T ι w a b hT hk hf hr hF hH => ?_⟩
  obtain ⟨r, C, ob, q1, q2, tm, rd, K, rfl, q3, q4, q5⟩ := hH.blk _ _ hg (may_vis hm)
  obtain ⟨p1, p2⟩ := hH.write hm hs hg q1 (o' := .loop .busy pend fn1 s1 n1 ps asg bd dfr) (ob' := .loop { state := .busy, pending := pend, fn := fn1, tmps := tm, params := ps.toArray, assign := asg, body := bd, defers := rd }) ⟨tm, rd, K, rfl, q3, q4, q5⟩ (w' := { w with heap := w.heap.setIfInBounds r (.loop { state := .busy, pending := pend, fn := fn1, tmps := tm, params := ps.toArray, assign := asg, body := bd, defers := rd }) }) (by simp) (put_same q2) (fun k hk => put_other hk) rfl rfl rfl
  obtain ⟨ι', w', u, k1, k2, k3, k4⟩ := h.2 T ι _ a b hT hk hf hr hF p2
  refine ⟨ι', w', u, Post.trans hH p2 (Nat.le_trans h.1.next hT) p1 k1, k2, k3, Fin.steps (fun cs => ?_) k4⟩
  have hro : b.roundOf = some r := by
    cases hb : b.roundOf with
    | none => rw [hb] at hr; exact hr.elim
    | some r' => rw [hb] at hr; obtain ⟨C', hr⟩ := hr; rw [q1] at hr; injection hr with hr; injection hr with hr _; rw [hr]
  refine .one (stepR_beginRound hro ?_)
  simp only [Instr.beginRound, Sem.run_bind, run_getLoop q2, Result.andThen_ok]
  rw [run_setObj q2 rfl]; rfl

def cend (c : Ctx) (H : CH) (l : Nat) (jump : Option Code) : Option CH :=
  match H.tr.get l with
  | some (.loop _ _ fn s n ps asg bd dfr) =>
    match c.may l && small l with
    | true => some (H.put l (.loop (match jump with | none => .ready | some _ => .done) jump fn s n ps asg bd dfr))
    | false => none
  | _ => none
theorem cend_sta {c : Ctx} {H H' : CH} {l : Nat} {jump : Option Code} (h : cend c H l jump = some H') : Sta c H H' := by
  unfold cend at h
  split at h
  · rename_i hg
    split at h
    · rename_i hb
      simp only [Bool.and_eq_true] at hb
      injection h with h; subst h
      exact sta_put hb.1 hb.2 hg
    · cases h
  · cases h
theorem cend_sound {c : Ctx} {T : Nat} {ι : Emb} {H H' : CH} {w : World} (hH : HRel c T ι H w) {l : Nat} {jump : Option Code} (h : cend c H l jump = some H') {r C : Nat} (hι : ι l = some (r, C)) :
    ∃ w', (Instr.endRound r jump).run P w = .ok (.bool jump.isNone) w' ∧ Post c ι H w ι H' w' ∧ HRel c T ι H' w' := by
  unfold cend at h
  split at h
  · rename_i st pend fn s n ps asg bd dfr hg
    split at h
    · rename_i hb
      simp only [Bool.and_eq_true] at hb
      injection h with h; subst h
      obtain ⟨r', C', ob, q1, q2, tm, rd, K, rfl, q3, q4, q5⟩ := hH.blk _ _ hg (may_vis hb.1)
      rw [hι] at q1; injection q1 with q1; injection q1 with q1 q1'; subst q1; subst q1'
      obtain ⟨p1, p2⟩ := hH.write hb.1 hb.2 hg hι (o' := .loop (match jump with | none => .ready | some _ => .done) jump fn s n ps asg bd dfr) (ob' := .loop { state := (match jump with | none => .ready | some _ => .done), pending := jump, fn := fn, tmps := tm, params := ps.toArray, assign := asg, body := bd, defers := rd }) ⟨tm, rd, K, rfl, q3, q4, q5⟩ (w' := { w with heap := w.heap.setIfInBounds r (.loop { state := (match jump with | none => .ready | some _ => .done), pending := jump, fn := fn, tmps := tm, params := ps.toArray, assign := asg, body := bd, defers := rd }) }) (by simp) (put_same q2) (fun k hk => put_other hk) rfl rfl rfl
      refine ⟨_, ?_, p1, p2⟩
      simp only [Instr.endRound, Sem.run_bind, run_getLoop q2, Result.andThen_ok]
      rw [run_setObj q2 rfl]
      cases jump <;> rfl
    · cases h
  · cases h

theorem RndRel.get {ι : Emb} {l : Nat} {ro : Option Nat} (h : RndRel ι (some l) ro) : ∃ r C, ro = some r ∧ ι l = some (r, C) := by
  cases ro with
  | none => exact h.elim
  | some r => obtain ⟨C, h⟩ := h; exact ⟨r, C, rfl, h⟩

/-- A round's end. -/
theorem RunSim.round_end {c : Ctx} {fn : FuncId} {n : Nat} {l : Nat} {s : Tr CV} {ds : List Nat} {k : List Item} {H H' : CH} {jump : Option Code} (h : cend c H l jump = some H')
    (hk : (k = [] ∧ jump = none) ∨ (∃ k', k = .code .ret :: k' ∧ jump = some .ret) ∨ (∃ id k', k = .code (.exit id) :: k' ∧ jump = some (.exit id) ∧ exitTo id k' = none) ∨ (∃ t k', k = .code (.goto t) :: k' ∧ jump = some (.goto t) ∧ gotoIn t k' = none)) :
    RunSim P c fn n (some l) s ds k H (.bool jump.isNone) H' := by
  refine ⟨cend_sta h, fun T ι w a b hT hkd hf hr hF hH => ?_⟩
  obtain ⟨r, C, hro, hι⟩ := hr.get
  obtain ⟨w', h1, h2, h3⟩ := cend_sound (P := P) hH h hι
  refine ⟨ι, w', .bool jump.isNone, h2, h3, .bool _, fun fr cs => .one ?_⟩
  rcases hk with ⟨rfl, rfl⟩ | ⟨k', rfl, rfl⟩ | ⟨id, k', rfl, rfl, hx⟩ | ⟨t, k', rfl, rfl, hx⟩
  · exact stepR_round_end hro hkd h1
  · exact stepR_round_ret hro hkd h1
  · exact stepR_round_exit hro hkd hx h1
  · exact stepR_round_goto hro hkd hx h1

/-- A body's end. -/
theorem RunSim.body_end {c : Ctx} {fn : FuncId} {n : Nat} {s : Tr CV} {ds : List Nat} {k : List Item} {H H1 : CH} {F : Func} {vs : List CV} (hF : P.funcs[fn]? = some F) (ht : ctake c H ds = some H1) (hst : Sta c H H1) (hr : cresults P c s H1 F.results.toList = some vs)
    (hk : k = [] ∨ ∃ k', k = .code .ret :: k') : RunSim P c fn n none s ds k H (cresult vs) H1 := by
  refine ⟨hst, fun T ι w a b hT hkd hf hro hFr hH => ?_⟩
  have hro : b.roundOf = none := by
    cases hb : b.roundOf with
    | none => rfl
    | some r => rw [hb] at hro; exact hro.elim
  obtain ⟨w', h1, h2, h3⟩ := ctake_sound (P := P) (Nat.le_trans hst.next hT) hH hFr.dfr ht
  obtain ⟨u, h4, h5⟩ := results_sound (P := P) (F := F) h2 hFr.slots hr
  refine ⟨ι, w', u, h1, h2, h5, fun cs => ?_⟩
  have hs : ∃ todo, Steps P (lone (b.atR a k) cs w) (lone { b.atR a todo with mode := .returning } cs w) := by
    rcases hk with rfl | ⟨k', rfl⟩
    · exact ⟨[], .one (stepR_end hro)⟩
    · exact ⟨_, .one (stepR_ret hro)⟩
  obtain ⟨todo, hs⟩ := hs
  refine ⟨_, hs.trans (h3 _ cs rfl rfl), hf, rfl, rfl, ?_, F, ?_, h4⟩
  · simpa [Frame.atR] using hkd
  · show P.funcs[b.fn]? = some F
    rw [hf]; exact hF
theorem ctake_sta {c : Ctx} : ∀ {ds : List Nat} {H H' : CH}, ctake c H ds = some H' → Sta c H H' := by
  intro ds
  induction ds with
  | nil => intro H H' h; simp only [ctake] at h; injection h with h; subst h; exact Sta.refl _ _
  | cons b ds ih =>
    intro H H' h
    simp only [ctake] at h
    split at h
    · rename_i hg
      split at h
      · rename_i hb
        simp only [Bool.and_eq_true] at hb
        exact (sta_put hb.1 hb.2 hg).trans (ih h)
      · cases h
    · cases h

end
end Go.Proofs.YtokafjkinkafiaaGreat.Mini

namespace Go.Proofs.YtokafjkinkafiaaGreat.Mini
noncomputable section
open Go.RowKit
variable {P : Program}

/-- Entering a range over a function. -/
def EnterOk (P : Program) (c : Ctx) (fn : FuncId) (n : Nat) (rnd : Option Nat) (s : Tr CV) (ds : List Nat) (H : CH) (ps : Array Tmp) (asg bd : Code) (l : Nat) (ds' : List Nat) (H2 : CH) : Prop :=
  Sta c H H2 ∧ ∀ (T : Nat) (ι : Emb) (w : World) (a : Act) (b : Frame), H2.next ≤ T → b.fn = fn → RndRel ι rnd b.roundOf → FR ι s n ds a → HRel c T ι H w →
    ∃ ι2 w2 r C mark, (Instr.enterLoop b.fn a.tmps ps asg bd b.roundOf).run P w = .ok (r, mark) w2 ∧ Post c ι H w ι2 H2 w2 ∧ HRel c T ι2 H2 w2 ∧ ι2 l = some (r, C) ∧ FR ι2 s n ds' { a with defers := mark ++ a.defers }

theorem enter_none {c : Ctx} {fn : FuncId} {n : Nat} {s : Tr CV} {ds : List Nat} {H : CH} {ps : Array Tmp} {asg bd : Code} (h1 : small H.next = true) (h2 : small (H.next + 1) = true) :
    EnterOk P c fn n none s ds H ps asg bd (H.next + 1) (H.next :: ds) ((H.add (.dfd true)).add (.loop .ready none fn s n ps.toList asg bd H.next)) := by
  refine ⟨(sta_add h1).trans (sta_add h2), fun T ι w a b hT hf hr hF hH => ?_⟩
  have hT2 : H.next + 1 < T := hT
  obtain ⟨p1, q1⟩ := hH.alloc (by omega) h1 (o := .dfd true) (ob := .deferred (some [])) (C := 0) rfl
  have hd : (ι.add H.next w.heap.size 0) H.next = some (w.heap.size, 0) := Emb.add_self
  obtain ⟨p2, q2⟩ := q1.alloc hT2 h2 (o := .loop .ready none fn s n ps.toList asg bd H.next) (ob := .loop { state := .ready, pending := none, fn := fn, tmps := a.tmps, params := ps.toList.toArray, assign := asg, body := bd, defers := w.heap.size }) (C := 0) ⟨a.tmps, w.heap.size, 0, rfl, hF.slots.mono p1.ext, hF.size, hd⟩
  have hro : b.roundOf = none := by
    cases hb : b.roundOf with
    | none => rfl
    | some r => rw [hb] at hr; exact hr.elim
  refine ⟨_, _, (w.alloc (.deferred (some []))).heap.size, 0, [{ target := .collected w.heap.size, args := #[] }], ?_, Post.trans hH q1 (show H.next + 1 ≤ T by omega) p1 p2, q2, Emb.add_self, ?_⟩
  · rw [hro, hf]
    simp only [Instr.enterLoop, Sem.run_bind, run_newObj, Result.andThen_ok, Sem.run_pure]
    simp
    rfl
  · have hm := (hF.mono p1.ext).mono p2.ext
    exact ⟨hm.slots, hm.size, .cons (p2.ext _ _ hd) hm.dfr⟩

theorem enter_some {c : Ctx} {fn : FuncId} {n : Nat} {l0 : Nat} {s : Tr CV} {ds : List Nat} {H : CH} {ps : Array Tmp} {asg bd : Code} {st : LoopState} {pend : Option Code} {fn0 : FuncId} {s0 : Tr CV} {n0 : Nat} {ps0 : List Tmp} {asg0 bd0 : Code} {dfr : Nat}
    (hg : H.tr.get l0 = some (.loop st pend fn0 s0 n0 ps0 asg0 bd0 dfr)) (hv : c.vis l0 = true) (h1 : small H.next = true) :
    EnterOk P c fn n (some l0) s ds H ps asg bd H.next ds (H.add (.loop .ready none fn s n ps.toList asg bd dfr)) := by
  refine ⟨sta_add h1, fun T ι w a b hT hf hr hF hH => ?_⟩
  have hT2 : H.next < T := hT
  obtain ⟨r0, C0, hro, hι⟩ := hr.get
  obtain ⟨r1, C1, ob, k1, k2, tm, rd, K, rfl, k3, k4, k5⟩ := hH.blk _ _ hg hv
  rw [hι] at k1; injection k1 with k1; injection k1 with k1 _; subst k1
  obtain ⟨p2, q2⟩ := hH.alloc hT2 h1 (o := .loop .ready none fn s n ps.toList asg bd dfr) (ob := .loop { state := .ready, pending := none, fn := fn, tmps := a.tmps, params := ps.toList.toArray, assign := asg, body := bd, defers := rd }) (C := 0) ⟨a.tmps, rd, K, rfl, hF.slots, hF.size, k5⟩
  refine ⟨_, _, w.heap.size, 0, [], ?_, p2, q2, Emb.add_self, ?_⟩
  · rw [hro, hf]
    simp only [Instr.enterLoop, Sem.run_bind, run_getLoop k2, run_newObj, Result.andThen_ok, Sem.run_pure]
    simp [World.alloc_eq]
  · exact hF.mono p2.ext

theorem stepR_endRange {b : Frame} {a : Act} {k : List Item} {cs : List Frame} {w w' : World} {l : Nat} {jump : Option Code} (h : (Instr.endLoop l).run P w = .ok jump w') :
    step P (lone (b.atR a (.endRangeFunc l :: k)) cs w) = .next (lone (b.atR a ((jump.map Item.code).toList ++ k)) cs w') :=
  step_lone_go (by simp [stepG, stepG.exec, Frame.atR, Sem.runT_eq, h])

/-- The call of a range over a function. -/
abbrev rCall (g : Operand) (l : Nat) : Call := { callee := .value g, args := #[.const (.func (.yield l) #[] #[])], argTypes := #[] }
theorem step_rangeFunc {b : Frame} {a : Act} {k : List Item} {cs : List Frame} {w w1 w2 : World} {g : Operand} {ps : Array Tmp} {asg bd : Code} {l : Nat} {mark : List Deferred} {nx : Next}
    (he : (Instr.enterLoop b.fn a.tmps ps asg bd b.roundOf).run P w = .ok (l, mark) w1) (hr : (do let d ← Deferred.ofValue (a.eval g) #[.func (.yield l) #[] #[]]; invoke d.target d.args : Sem Next).run P w1 = .ok nx w2) {u : Value} {w' : World} (hl : Leads P u w' nx w2) :
    Steps P (lone (b.atR a (.code (.rangeFunc g ps asg bd) :: k)) cs w) (lone (b.atR { a with defers := mark ++ a.defers } (.endRangeFunc l :: k)) cs w') := by
  have hev := Frame.eval_atR b { a with defers := mark ++ a.defers } (.inRangeFunc l :: k)
  simp only [Frame.atR] at hev
  have hre : resolve ({ tmps := a.tmps, defers := mark ++ a.defers } : Act).eval (rCall g l) 0 = Deferred.ofValue (a.eval g) #[.func (.yield l) #[] #[]] := by
    have e : ({ tmps := a.tmps, defers := mark ++ a.defers } : Act).eval = a.eval := by funext x; cases x <;> rfl
    rw [e]; simp [resolve, Act.eval]
  have hres : (do let d ← resolve ({ tmps := a.tmps, defers := mark ++ a.defers } : Act).eval (rCall g l) 0; invoke d.target d.args : Sem Next).run P w1 = .ok nx w2 := by rw [hre]; exact hr
  simp only [Sem.run_bind] at hres
  have hfin : ∀ v, (b.atR { a with defers := mark ++ a.defers } (.inRangeFunc l :: k)).finish v = b.atR { a with defers := mark ++ a.defers } (.endRangeFunc l :: k) := fun v => by simp [Frame.finish, Frame.atR]
  cases nx with
  | enter f as =>
    have hl : ∀ c cs, Steps P (lone (Frame.enter P f as .normal) (c :: cs) w2) (lone (c.finish u) cs w') := hl
    have := hl (b.atR { a with defers := mark ++ a.defers } (.inRangeFunc l :: k)) cs
    rw [hfin] at this
    refine .head (step_lone_go ?_) this
    simp [stepG, stepG.exec, Frame.atR, Sem.runT_eq, he, stepG.apply, hev, hres]
  | round l' f tm asg' bd' =>
    have hl : ∀ c cs, Steps P (lone (Frame.round l' f tm asg' bd' .normal) (c :: cs) w2) (lone (c.finish u) cs w') := hl
    have := hl (b.atR { a with defers := mark ++ a.defers } (.inRangeFunc l :: k)) cs
    rw [hfin] at this
    refine .head (step_lone_go ?_) this
    simp [stepG, stepG.exec, Frame.atR, Sem.runT_eq, he, stepG.apply, hev, hres]
  | _ => exact hl.elim

theorem RunSim.range {c : Ctx} {fn : FuncId} {n : Nat} {rnd : Option Nat} {s : Tr CV} {ds ds' : List Nat} {k : List Item} {H H2 H3 H' : CH} {ps : Array Tmp} {asg bd : Code} {g : Operand} {fv v v' : CV} {l : Nat}
    (he : EnterOk P c fn n rnd s ds H ps asg bd l ds' H2) (hg : evC s g = some fv) (hc : CallSim P c fv [.yl l] H2 v H3)
    {st : LoopState} {pend : Option Code} {fn1 : FuncId} {s1 : Tr CV} {n1 : Nat} {ps1 : List Tmp} {asg1 bd1 : Code} {dfr : Nat} (hl : H3.tr.get l = some (.loop st pend fn1 s1 n1 ps1 asg1 bd1 dfr)) (hb : st ≠ .busy) (hm : c.may l = true) (hs : small l = true)
    (h : RunSim P c fn n rnd s ds' ((pend.map Item.code).toList ++ k) (H3.put l (.loop .exhausted pend fn1 s1 n1 ps1 asg1 bd1 dfr)) v' H') :
    RunSim P c fn n rnd s ds (.code (.rangeFunc g ps asg bd) :: k) H v' H' := by
  refine ⟨(he.1.trans hc.1).trans ((sta_put hm hs hl).trans h.1), fun T ι w a b hT hk hf hr hF hH => ?_⟩
  have hT4 : H3.next ≤ T := Nat.le_trans h.1.next hT
  have hT2 : H2.next ≤ T := Nat.le_trans hc.1.next hT4
  obtain ⟨ι2, w2, r, C, mark, e1, e2, e3, e4, e5⟩ := he.2 T ι w a b hT2 hf hr hF hH
  have hgv : VRel ι2 fv (a.eval g) := (e5.slots.eval (a := { a with defers := mark ++ a.defers }) [g]) g (by simp) _ hg
  obtain ⟨ι3, w3, u, c1, c2, c3, nx, w4, c4, c5⟩ := hc.2 T ι2 w2 (a.eval g) [.func (.yield r) #[] #[]] hT4 hgv (.cons (.yl e4) .nil) e3
  obtain ⟨r', C', ob, q1, q2, tm, rd, K, rfl, q3, q4, q5⟩ := c2.blk _ _ hl (may_vis hm)
  have hι3 := c1.ext _ _ e4
  rw [hι3] at q1; injection q1 with q1; injection q1 with q1 q1'; subst q1; subst q1'
  obtain ⟨p1, p2⟩ := c2.write hm hs hl hι3 (o' := .loop .exhausted pend fn1 s1 n1 ps1 asg1 bd1 dfr) (ob' := .loop { state := .exhausted, pending := pend, fn := fn1, tmps := tm, params := ps1.toArray, assign := asg1, body := bd1, defers := rd }) ⟨tm, rd, K, rfl, q3, q4, q5⟩ (w' := { w3 with heap := w3.heap.setIfInBounds r (.loop { state := .exhausted, pending := pend, fn := fn1, tmps := tm, params := ps1.toArray, assign := asg1, body := bd1, defers := rd }) }) (by simp) (put_same q2) (fun k hk => put_other hk) rfl rfl rfl
  have P12 := Post.trans hH e3 hT2 e2 c1
  have P13 := Post.trans hH c2 hT4 P12 p1
  obtain ⟨ι', w', u', k1, k2, k3, k4⟩ := h.2 T ι3 _ { a with defers := mark ++ a.defers } b hT hk hf (hr.mono P12.ext) (e5.mono c1.ext) p2
  refine ⟨ι', w', u', Post.trans hH p2 hT4 P13 k1, k2, k3, Fin.steps (fun cs => ?_) k4⟩
  refine (step_rangeFunc e1 c4 c5).trans (.one (stepR_endRange ?_))
  simp only [Instr.endLoop, Sem.run_bind, run_getLoop q2, Result.andThen_ok]
  rw [if_neg (by cases st <;> simp_all)]
  simp only [Sem.run_bind, Sem.run_pure, Result.andThen_ok]
  rw [run_setObj q2 rfl]; rfl

/-! ### The evaluator -/
/-- What is to be known of a region that draws: what comes ahead of what; how each operation is to be done; what it may not see. -/
def masksOf : List Oper → List Nat → List Nat
  | [], acc => acc
  | o :: os, acc => masksOf os (acc ++ [o.after.toList.foldl (fun s e => if Region.binds .any e then s ||| (1 <<< e.on) ||| acc.getD e.on 0 else s) 0])
def isPure (o : Oper) : Bool :=
  match o.op with
  | .move _ | .assign _ | .pick .. | .binOp .. | .unOp .. | .convert .. | .extract .. | .field .. | .index .. | .build .. | .makeFunc .. | .nilCheck _ | .indexAddr .. | .fieldAddr .. => true
  | .call k => match k.callee with
    | .builtin .max | .builtin .min => true
    | _ => false
  | _ => false
def ordFrom (M : List Nat) (touch : List Nat) : List Nat → List Nat → List Nat
  | [], acc => acc
  | j :: js, acc => match touch.all (fun k => Nat.beq k j || bit (M.getD j 0) k || bit (M.getD k 0) j) with
    | true => ordFrom M touch js (j :: acc)
    | false => acc
def rootOf (ops : List Oper) : Nat → Operand → Option Nat
  | f + 1, .tmp t => match ops.findIdx? (dstIs t) with
    | some j => match (ops[j]?).map (fun o => o.op) with
      | some (Op.fieldAddr _ y _) => rootOf ops f y
      | some (Op.indexAddr _ y _) => rootOf ops f y
      | some (Op.move y) => rootOf ops f y
      | some (Op.assign y) => rootOf ops f y
      | some (Op.slice _ y _ _ _) => rootOf ops f y
      | some (Op.alloc _) => some j
      | some (Op.box _ _) => some j
      | some (Op.buildSlice _ _ _) => some j
      | some (Op.makeSlice _ _ _) => some j
      | _ => none
    | none => none
  | _, _ => none
def ownOf (ops : List Oper) (o : Oper) : Option Nat :=
  match o.op with
  | .store _ x _ => rootOf ops 20 x
  | _ => none
def infoOf (ops : List Oper) : List Nat × List Nat × List (List Nat) × List (List Nat) :=
  let M := masksOf ops []
  let touch := (ops.zipIdx.filter fun q => !isPure q.1).map (·.2)
  let ord := ordFrom M touch touch.reverse []
  let ow := ops.zipIdx.map fun q => if isPure q.1 then [] else if ord.any (Nat.beq q.2) then [] else (ownOf ops q.1).toList
  let ms := ops.zipIdx.map fun q => if isPure q.1 then 0 else if ord.any (Nat.beq q.2) then 2 else if (ow.getD q.2 []).isEmpty then 1 else 3
  let hids := ops.zipIdx.map fun q => if isPure q.1 then [] else touch.filter fun j => Nat.blt j q.2 && !bit (M.getD q.2 0) j
  (M, ms, hids, ow)

def mkSeq : List Oper → Nat → List Plan
  | [], _ => []
  | o :: os, i => ⟨i, o, 2, [], []⟩ :: mkSeq os (i + 1)
theorem mkSeq_map : ∀ (os : List Oper) (i : Nat), (mkSeq os i).map (·.i) = List.range' i os.length := by
  intro os
  induction os with
  | nil => intro i; rfl
  | cons o os ih => intro i; simp [mkSeq, ih, List.range'_succ]
theorem mkSeq_mem : ∀ (os : List Oper) (i : Nat), ∀ p ∈ mkSeq os i, p.m = 2 ∧ i ≤ p.i ∧ os[p.i - i]? = some p.o := by
  intro os
  induction os with
  | nil => intro i p hp; cases hp
  | cons o os ih =>
    intro i p hp
    simp only [mkSeq] at hp
    rcases List.mem_cons.1 hp with rfl | hp
    · exact ⟨rfl, Nat.le_refl _, by simp⟩
    · obtain ⟨h1, h2, h3⟩ := ih (i + 1) p hp
      refine ⟨h1, by omega, ?_⟩
      rw [show p.i - i = p.i - (i + 1) + 1 from by omega]; simpa using h3
def dstAll (n : Nat) : List Oper → Bool
  | [] => true
  | o :: os => match okDst n o.dst with
    | true => dstAll n os
    | false => false
theorem dstAll_spec {n : Nat} : ∀ {os : List Oper}, dstAll n os = true → ∀ (j : Nat) (o : Oper), os[j]? = some o → okDst n o.dst = true := by
  intro os
  induction os with
  | nil => intro _ j o h; simp at h
  | cons x os ih =>
    intro h j o ho
    simp only [dstAll] at h
    split at h
    · rename_i hx
      cases j with
      | zero => simp at ho; subst ho; exact hx
      | succ j => simp at ho; exact ih h j o ho
    · cases h

end
end Go.Proofs.YtokafjkinkafiaaGreat.Mini

namespace Go.Proofs.YtokafjkinkafiaaGreat.Mini
noncomputable section
open Go.RowKit

structure Frm where
  c : Ctx
  fn : FuncId
  n : Nat
  rnd : Option Nat
  ds : List Nat
inductive Task where
  | run (F : Frm) (s : Tr CV) (todo : List Item) (H : CH)
  | ops (c : Ctx) (n : Nat) (os : Array Oper) (s : Tr CV) (rs : List (Nat × Nat × Nat)) (H : CH) (pl : List Plan)
  | call (c : Ctx) (f : CV) (args : List CV) (H : CH)
inductive Res where
  | ok (v : CV) (s : Tr CV) (H : CH)
  | no (l : List Nat)

/-! ### Operations -/
abbrev OpK := Program → (Task → Res) → Ctx → Tr CV → CH → Option (CV × CH)
def oP (H : CH) : Option CV → Option (CV × CH)
  | some v => some (v, H)
  | none => none
def oU : Option CH → Option (CV × CH)
  | some H' => some (.tup [], H')
  | none => none
def oNone : OpK := fun _ _ _ _ _ => none
def oMove (x : Operand) : OpK := fun _ _ _ s H => oP H (evC s x)
def oPick (q a b : Operand) : OpK := fun _ _ _ s H => match evC s q with
    | some (.bool t) => match evC s a, evC s b with
      | some va, some vb => some ((match t with | true => va | false => vb), H)
      | _, _ => none
    | _ => none
def oAlloc (t : TypeId) : OpK := fun P _ _ _ H => calloc P H t
def oBox (t : TypeId) (x : Operand) : OpK := fun _ _ _ s H => match evC s x with
    | some v => cbox H t v
    | none => none
def oBuild (t : TypeId) (parts : Array (Nat × Operand)) : OpK := fun P _ _ s H => match evP s parts.toList with
    | some ps => oP H (cbuild P t ps)
    | none => none
def oBuildSlice (t : TypeId) (len : Nat) (parts : Array (Nat × Operand)) : OpK := fun P _ _ s H => match evP s parts.toList with
    | some ps => cbuildSlice P H t len ps
    | none => none
def oLoad (t : TypeId) (a : Operand) : OpK := fun P _ c s H => match evC s a with
    | some (.ptr b off) => oP H (cload P c H t b off)
    | _ => none
def oStore (t : TypeId) (a x : Operand) : OpK := fun P _ c s H => match evC s a, evC s x with
    | some (.ptr b off), some v => oU (cstore P c H t b off v)
    | _, _ => none
def oNilCheck (x : Operand) : OpK := fun _ _ _ s H => match evC s x with
    | some (.ptr b off) => some (.ptr b off, H)
    | some (.fn f a k) => some (.fn f a k, H)
    | some (.yl l) => some (.yl l, H)
    | _ => none
def oBin (op : BinOp) (t : TypeId) (x y : Operand) (_ : TypeId) : OpK := fun P _ _ s H => match evC s x, evC s y with
    | some a, some b => oP H (cbin P op t x y a b)
    | _, _ => none
def oUn (op : UnOp) (_ : TypeId) (x : Operand) : OpK := fun P _ _ s H => match evC s x with
    | some a => match toV a with
      | some u => oP H (viaP P (Op.unary op u))
      | none => none
    | none => none
def oConvert (src dst : TypeId) (x : Operand) : OpK := fun P _ _ s H => match evC s x with
    | some a => match toV a with
      | some u => oP H (viaP P (convert src dst u))
      | none => none
    | none => none
def oMakeFunc (fn : Fn) (first captured : Array Operand) : OpK := fun _ _ _ s H => match fn, evL s first.toList, evL s captured.toList with
    | .func f, some a, some b => some (.fn f a b, H)
    | _, _, _ => none
def oMakeMap (t : TypeId) (r : Option Operand) : OpK := fun P _ _ s H => match evO s r with
    | some v => cmakeMap P H t v
    | none => none
def oMakeSlice (t : TypeId) (l k : Operand) : OpK := fun P _ _ s H => match evC s l, evC s k with
    | some a, some b => cmakeSlice P H t a b
    | _, _ => none
def oSlice (t : TypeId) (x : Operand) (lo hi mx : Option Operand) : OpK := fun P _ c s H => match evC s x, evO s lo, evO s hi, evO s mx with
    | some v, some l, some h, some m => oP H (cslice P c H t v l h m)
    | _, _, _, _ => none
def oFieldAddr (t : TypeId) (x : Operand) (f : Nat) : OpK := fun P _ _ s H => match evC s x with
    | some v => oP H (cfieldAddr P t v f)
    | none => none
def oField (t : TypeId) (x : Operand) (f : Nat) : OpK := fun P _ _ s H => match evC s x with
    | some v => oP H (cfield P t v f)
    | none => none
def oIndexAddr (t : TypeId) (x i : Operand) : OpK := fun P _ _ s H => match evC s x, evC s i with
    | some v, some k => oP H (cindexAddr P t v k)
    | _, _ => none
def oIndex (t : TypeId) (x i : Operand) : OpK := fun P _ _ s H => match evC s x, evC s i with
    | some v, some k => oP H (cindex P t v k)
    | _, _ => none
def oLookup (t : TypeId) (x i : Operand) (ok : Bool) : OpK := fun P _ c s H => match evC s x, evC s i with
    | some v, some k => oP H (clookup P c H t v k ok)
    | _, _ => none
def oMapUpdate (t : TypeId) (m k x : Operand) : OpK := fun P _ c s H => match evC s m, evC s k, evC s x with
    | some a, some b, some d => oU (cmapUpdate P c H t a b d)
    | _, _, _ => none
def oMapEntry (t : TypeId) (m k : Operand) : OpK := fun P _ c s H => match evC s m, evC s k with
    | some a, some b => cmapEntry P c H t a b
    | _, _ => none
def oEntryStore (_ : TypeId) (m k x : Operand) : OpK := fun _ _ c s H => match evC s m, evC s k, evC s x with
    | some a, some b, some d => oU (centryStore c H a b d)
    | _, _, _ => none
def oExtract (x : Operand) (i : Nat) : OpK := fun _ _ _ s H => match evC s x with
    | some (.tup vs) => oP H (vs[i]?)
    | _ => none
def oCall (k : Call) : OpK := fun P ih c s H => match k.callee with
    | .builtin b => match evL s k.args.toList with
      | some args => cbuiltin P c H b k.argTypes.toList args
      | none => none
    | .value fo => match evC s fo, evL s k.args.toList with
      | some fv, some args => match ih (.call c fv args H) with
        | .ok v _ H2 => some (v, H2)
        | .no _ => none
      | _, _ => none
    | _ => none

def opK (op : Op) : OpK :=
  Op.rec (motive := fun _ => OpK) oMove oMove oPick oAlloc oBox oBuild oBuildSlice oMapUpdate oLoad oStore (fun _ => oNone) (fun _ => oNone) oNilCheck oBin oUn oConvert (fun _ _ => oNone) (fun _ _ => oNone) oMakeFunc oMakeMap (fun _ _ => oNone)
    oMakeSlice oSlice oFieldAddr oField oIndexAddr oIndex oLookup oMapUpdate oMapEntry oEntryStore (fun _ _ => oNone) (fun _ _ => oNone) (fun _ => oNone) (fun _ _ _ _ => oNone) oExtract oCall (fun _ => oNone) (fun _ => oNone) (fun _ => oNone) (fun _ _ => oNone) (fun _ _ _ => oNone) (fun _ _ => oNone) op

/-! ### The end of a body, or of a round -/
def fin (P : Program) (F : Frm) (s : Tr CV) (H : CH) (jump : Option Code) : Res :=
  match F.rnd with
  | none => match ctake F.c H F.ds with
    | some H1 => match fOf P F.fn with
      | some f => match cresults P F.c s H1 f.results.toList with
        | some vs => .ok (cresult vs) s H1
        | none => .no [F.fn, 1]
      | none => .no [F.fn, 2]
    | none => .no [F.fn, 3]
  | some l => match cend F.c H l jump with
    | some H1 => .ok (.bool jump.isNone) s H1
    | none => .no [F.fn, 4]

/-! ### Code -/
abbrev CodeK := Program → (Task → Res) → Frm → Tr CV → List Item → CH → Res
def kSkip : CodeK := fun _ ih F s k H => ih (.run F s k H)
def kSeq (a b : Code) : CodeK := fun _ ih F s k H => ih (.run F s (.code a :: .code b :: k) H)
def kCond (q : Operand) (x y : Code) : CodeK := fun _ ih F s k H => match evC s q with
  | some (.bool true) => ih (.run F s (.code x :: k) H)
  | some (.bool false) => ih (.run F s (.code y :: k) H)
  | _ => .no [F.fn, 5]
def kBlock (id : Nat) (b : Code) : CodeK := fun _ ih F s k H => ih (.run F s (.code b :: .inBlock id :: k) H)
def kLoop (b : Code) : CodeK := fun _ ih F s k H => ih (.run F s (.code b :: .inLoop b :: k) H)
def kScope (b : Code) : CodeK := fun _ ih F s k H => ih (.run F s (.code b :: .inScope b :: k) H)
def kOut (P : Program) (F : Frm) (s : Tr CV) (H : CH) (j : Code) : Res :=
  match F.rnd with
  | some _ => fin P F s H (some j)
  | none => .no [F.fn, 6]
def kExit (id : Nat) : CodeK := fun P ih F s k H => match exitTo id k with
  | some k' => ih (.run F s k' H)
  | none => kOut P F s H (.exit id)
def kGoto (l : Nat) : CodeK := fun P ih F s k H => match gotoIn l k with
  | some k' => ih (.run F s k' H)
  | none => kOut P F s H (.goto l)
def kRet : CodeK := fun P _ F s _ H => fin P F s H (some .ret)
def kAfter (ih : Task → Res) (F : Frm) (k : List Item) (id : Nat) : Res → Res
  | .ok _ s' H' => ih (.run F s' k H')
  | .no l => .no (F.fn :: (1000 + id) :: l)
def rgOf (os : Array Oper) (I : List Nat × List Nat × List (List Nat) × List (List Nat)) : Option (List Plan) :=
  match rgOk os I.1 I.2.1 I.2.2.1 I.2.2.2 with
  | true => some (mkPl os.toList I.2.1 I.2.2.1 I.2.2.2 0)
  | false => none
def planOf (os : Array Oper) (draw : Bool) (n : Nat) : Option (List Plan) :=
  match draw with
  | false => match dstAll n os.toList with
    | true => some (mkSeq os.toList 0)
    | false => none
  | true => rgOf os (infoOf os.toList)
def kRegion (id : Nat) (os : Array Oper) (draw : Bool) : CodeK := fun _ ih F s k H => match planOf os draw F.n with
  | some pl => kAfter ih F k id (ih (.ops F.c F.n os s [] H pl))
  | none => .no [F.fn, 7, id]
def kEnter (F : Frm) (s : Tr CV) (H : CH) (ps : Array Tmp) (asg bd : Code) : Option (Nat × List Nat × CH) :=
  match F.rnd with
  | none => match small H.next && small (H.next + 1) with
    | true => some (H.next + 1, H.next :: F.ds, (H.add (.dfd true)).add (.loop .ready none F.fn s F.n ps.toList asg bd H.next))
    | false => none
  | some l0 => match H.tr.get l0 with
    | some (.loop _ _ _ _ _ _ _ _ dfr) => match F.c.vis l0 && small H.next with
      | true => some (H.next, F.ds, H.add (.loop .ready none F.fn s F.n ps.toList asg bd dfr))
      | false => none
    | _ => none
def kLeave (ih : Task → Res) (F : Frm) (s : Tr CV) (k : List Item) (l : Nat) (ds' : List Nat) : Res → Res
  | .ok _ _ H3 => match H3.tr.get l with
    | some (.loop st pend fn1 s1 n1 ps1 asg1 bd1 dfr) => match F.c.may l && small l && !(st == .busy) with
      | true => ih (.run { F with ds := ds' } s ((pend.map Item.code).toList ++ k) (H3.put l (.loop .exhausted pend fn1 s1 n1 ps1 asg1 bd1 dfr)))
      | false => .no [F.fn, 8]
    | _ => .no [F.fn, 9]
  | .no e => .no (F.fn :: 10 :: e)
def kRange (g : Operand) (ps : Array Tmp) (asg bd : Code) : CodeK := fun _ ih F s k H => match evC s g with
  | some fv => match kEnter F s H ps asg bd with
    | some (l, ds', H2) => kLeave ih F s k l ds' (ih (.call F.c fv [.yl l] H2))
    | none => .no [F.fn, 11]
  | none => .no [F.fn, 12]
def kNo (m : Nat) : CodeK := fun _ _ F _ _ _ => .no [F.fn, m]

def codeK (cd : Code) : CodeK :=
  Code.rec (motive := fun _ => CodeK) kSkip kRegion (fun a b _ _ => kSeq a b) (fun q a b _ _ => kCond q a b) (fun id b _ => kBlock id b) (fun b _ => kLoop b) (fun g ps a b _ _ => kRange g ps a b) kExit (fun b _ => kScope b) (fun _ => kSkip) kGoto kRet (fun _ => kNo 13) cd

/-! ### Items -/
def iLoop (b : Code) : CodeK := fun _ ih F s k H => ih (.run F s (.code b :: .inLoop b :: k) H)
def iBegin : CodeK := fun _ ih F s k H => match F.rnd with
  | some l => match H.tr.get l with
    | some (.loop .ready pend fn1 s1 n1 ps asg bd dfr) => match F.c.may l && small l with
      | true => ih (.run F s k (H.put l (.loop .busy pend fn1 s1 n1 ps asg bd dfr)))
      | false => .no [F.fn, 14]
    | _ => .no [F.fn, 15]
  | none => .no [F.fn, 16]
def itemK (it : Item) : CodeK :=
  Item.rec (motive := fun _ => CodeK) codeK (fun _ => kSkip) iLoop (fun _ => kSkip) (fun _ _ => kNo 17) (fun _ => kNo 18) (fun _ => kNo 19) iBegin (fun _ _ _ _ => kNo 31) (fun _ _ => kNo 32) it
def runK (P : Program) (ih : Task → Res) (F : Frm) (s : Tr CV) (H : CH) : List Item → Res
  | [] => fin P F s H none
  | it :: k => itemK it P ih F s k H

/-! ### The operations of a region -/
def opsGo (ih : Task → Res) (c : Ctx) (n : Nat) (os : Array Oper) (s : Tr CV) (rs : List (Nat × Nat × Nat)) (p : Plan) (pl : List Plan) (v : CV) (h : Nat) (H2 : CH) : Res :=
  ih (.ops c n os (putDst s p.o.dst v) ((p.i, h, H2.next) :: rs) H2 pl)
def opsEnd (ih : Task → Res) (c : Ctx) (n : Nat) (os : Array Oper) (s : Tr CV) (rs : List (Nat × Nat × Nat)) (H : CH) (p : Plan) (pl : List Plan) : Option (CV × CH) → Res
  | none => .no [21, p.i]
  | some (v, H2) => match Nat.beq p.m 0 with
    | true => match Nat.beq H2.next H.next with
      | true => opsGo ih c n os s rs p pl v H.next H
      | false => .no [22, p.i]
    | false => match Nat.beq p.m 3 with
      | true => match Nat.beq H2.next H.next && (rng p.own rs).all (fun q => Nat.ble c.floor q.1 && c.forb.all fun x => Nat.ble x.2 q.1) with
        | true => opsGo ih c n os s rs p pl v H.next H2
        | false => .no [23, p.i]
      | false => opsGo ih c n os s rs p pl v H.next H2
def opsK (P : Program) (ih : Task → Res) (c : Ctx) (n : Nat) (os : Array Oper) (s : Tr CV) (rs : List (Nat × Nat × Nat)) (H : CH) : List Plan → Res
  | [] => .ok .nilp s H
  | p :: pl => match okDst n p.o.dst with
    | false => .no [20]
    | true => match cwanted os s p.o with
      | false => opsGo ih c n os s rs p pl (.tup []) H.next H
      | true => opsEnd ih c n os s rs H p pl (opK p.o.op P ih (ctxAt c p rs H) s (heapAt p H))

/-! ### Calls -/
def callBody (ih : Task → Res) (c : Ctx) (g : FuncId) (F : Func) (as : List CV) (H : CH) : Res :=
  match F.body with
  | some cd => match F.name == "runtime.NumGoroutine" with
    | true => .no [24, g]
    | false => match small as.length with
      | true => ih (.run ⟨c, g, as.length + (F.ntmps - as.length), none, []⟩ (slotsOf as 0 .leaf) [.code cd] H)
      | false => .no [25, g]
  | none => .no [26, g]
def callFn (P : Program) (ih : Task → Res) (c : Ctx) (g : FuncId) (as : List CV) (H : CH) : Res :=
  match fOf P g with
  | some F => callBody ih c g F as H
  | none => .no [27, g]
def callYl (ih : Task → Res) (c : Ctx) (l : Nat) (args : List CV) (H : CH) : Res :=
  match H.tr.get l with
  | some (.loop _ _ fn s n ps asg bd _) => match c.vis l && Nat.beq args.length ps.length && okTs n ps with
    | true => ih (.run ⟨c, fn, n, some l, []⟩ (setAll s ps args) [.code asg, .beginRound, .code bd] H)
    | false => .no [28]
  | _ => .no [29]
def callK (P : Program) (ih : Task → Res) (c : Ctx) (args : List CV) (H : CH) : CV → Res
  | .fn g first caps => callFn P ih c g (first ++ args ++ caps) H
  | .yl l => callYl ih c l args H
  | _ => .no [30]

def taskK (P : Program) (ih : Task → Res) (t : Task) : Res :=
  Task.rec (motive := fun _ => Res) (fun F s todo H => runK P ih F s H todo) (fun c n os s rs H pl => opsK P ih c n os s rs H pl) (fun c f args H => callK P ih c args H f) t
def ev (P : Program) (fuel : Nat) : Task → Res :=
  Nat.rec (motive := fun _ => Task → Res) (fun _ => .no [0]) (fun _ ih => taskK P ih) fuel

/-- For the eye: a list of numbers as one. -/
def codes : Res → List Nat
  | .no l => l
  | .ok (.bool b) _ H => [0, if b then 1 else 0, H.next]
  | .ok _ _ H => [0, 2, H.next]
def one (l : List Nat) : Nat := l.foldl (fun a x => a * 10000000 + x) 1
def isB (b : Bool) : Res → Bool
  | .ok (.bool c) _ _ => c == b
  | _ => false
end
end Go.Proofs.YtokafjkinkafiaaGreat.Mini

namespace Go.Proofs.YtokafjkinkafiaaGreat.Mini
noncomputable section
open Go.RowKit
variable {P : Program}

def TaskOk (P : Program) : Task → CV → Tr CV → CH → Prop
  | .run F s todo H, v, _, H' => RunSim P F.c F.fn F.n F.rnd s F.ds todo H v H'
  | .ops c n os s rs H pl, _, s', H' => Chain P c n os s rs H pl s' H'
  | .call c f args H, v, _, H' => CallSim P c f args H v H'
def Good (P : Program) (ih : Task → Res) : Prop := ∀ t v s H, ih t = .ok v s H → TaskOk P t v s H

/-! ### Operations -/
theorem oP_eq (H : CH) (r : Option CV) : oP H r = (match r with | some v => some (v, H) | none => none) := by cases r <;> rfl
theorem oU_eq (r : Option CH) : oU r = (match r with | some H' => some (.tup [], H') | none => none) := by cases r <;> rfl
theorem opK_eq {ih : Task → Res} {c : Ctx} {s : Tr CV} {H : CH} {o : Oper} (hn : isCall o = none) : opK o.op P ih c s H = evOp P c s H o := by
  obtain ⟨dst, op, ty, pos, after, guard⟩ := o
  cases op with
  | call k =>
    obtain ⟨callee, args, ats⟩ := k
    cases callee with
    | value f => cases hn
    | invoke r m => rfl
    | builtin b => rfl
  | move x => exact (by show oMove x P ih c s H = _; simp only [evOp, oMove, oP_eq, oU_eq]; first | done | rfl)
  | assign x => exact (by show oMove x P ih c s H = _; simp only [evOp, oMove, oP_eq, oU_eq]; first | done | rfl)
  | build t ps => exact (by show oBuild t ps P ih c s H = _; simp only [evOp, oBuild, oP_eq, oU_eq]; first | done | rfl)
  | insert t m k x => exact (by show oMapUpdate t m k x P ih c s H = _; simp only [evOp, oMapUpdate, oP_eq, oU_eq]; first | done | rfl)
  | mapUpdate t m k x => exact (by show oMapUpdate t m k x P ih c s H = _; simp only [evOp, oMapUpdate, oP_eq, oU_eq]; first | done | rfl)
  | load t a => exact (by show oLoad t a P ih c s H = _; simp only [evOp, oLoad, oP_eq, oU_eq]; first | done | rfl)
  | store t a x => exact (by show oStore t a x P ih c s H = _; simp only [evOp, oStore, oP_eq, oU_eq]; first | done | rfl)
  | binOp op t x y u => exact (by show oBin op t x y u P ih c s H = _; simp only [evOp, oBin, oP_eq, oU_eq]; first | done | rfl)
  | unOp op t x => exact (by show oUn op t x P ih c s H = _; simp only [evOp, oUn, oP_eq, oU_eq]; first | done | rfl)
  | convert a b x => exact (by show oConvert a b x P ih c s H = _; simp only [evOp, oConvert, oP_eq, oU_eq]; first | done | rfl)
  | slice t x lo hi mx => exact (by show oSlice t x lo hi mx P ih c s H = _; simp only [evOp, oSlice, oP_eq, oU_eq]; first | done | rfl)
  | fieldAddr t x f => exact (by show oFieldAddr t x f P ih c s H = _; simp only [evOp, oFieldAddr, oP_eq, oU_eq]; first | done | rfl)
  | field t x f => exact (by show oField t x f P ih c s H = _; simp only [evOp, oField, oP_eq, oU_eq]; first | done | rfl)
  | indexAddr t x i => exact (by show oIndexAddr t x i P ih c s H = _; simp only [evOp, oIndexAddr, oP_eq, oU_eq]; first | done | rfl)
  | index t x i => exact (by show oIndex t x i P ih c s H = _; simp only [evOp, oIndex, oP_eq, oU_eq]; first | done | rfl)
  | lookup t x i ok => exact (by show oLookup t x i ok P ih c s H = _; simp only [evOp, oLookup, oP_eq, oU_eq]; first | done | rfl)
  | entryStore t m k x => exact (by show oEntryStore t m k x P ih c s H = _; simp only [evOp, oEntryStore, oP_eq, oU_eq]; first | done | rfl)
  | extract x i => exact (by show oExtract x i P ih c s H = _; simp only [evOp, oExtract, oP_eq, oU_eq]; first | done | rfl)
  | _ => rfl

theorem opK_ok {ih : Task → Res} (hih : Good P ih) {c : Ctx} {s : Tr CV} {H : CH} {o : Oper} {v : CV} {H' : CH} (h : opK o.op P ih c s H = some (v, H')) : OpSim P c s H o v H' := by
  cases hc : isCall o with
  | none => rw [opK_eq hc] at h; exact OpSim.of_op h
  | some q =>
    obtain ⟨fo, as⟩ := q
    have hc' := hc
    obtain ⟨dst, op, ty, pos, after, guard⟩ := o
    unfold isCall at hc
    simp only at hc h
    split at hc
    · rename_i k
      split at hc
      · rename_i f' hcal
        injection hc with hc; injection hc with e1 e2; subst e1; subst e2
        have h : oCall k P ih c s H = some (v, H') := h
        unfold oCall at h
        rw [hcal] at h
        simp only at h
        split at h
        · rename_i fv args hf ha
          split at h
          · rename_i v' s' H2 hr
            injection h with h; injection h with h1 h2; subst h1; subst h2
            exact OpSim.of_call hc' hf ha (hih _ _ _ _ hr)
          · cases h
        · cases h
      · cases hc
    · cases hc

/-! ### Ends -/
theorem fin_ok {F : Frm} {s s' : Tr CV} {H H' : CH} {v : CV} {jump : Option Code} {k : List Item} (h : fin P F s H jump = .ok v s' H')
    (hk : (k = [] ∧ jump = none) ∨ (∃ k', k = .code .ret :: k' ∧ jump = some .ret) ∨ (∃ id k', k = .code (.exit id) :: k' ∧ jump = some (.exit id) ∧ exitTo id k' = none ∧ F.rnd ≠ none) ∨ (∃ t k', k = .code (.goto t) :: k' ∧ jump = some (.goto t) ∧ gotoIn t k' = none ∧ F.rnd ≠ none)) :
    RunSim P F.c F.fn F.n F.rnd s F.ds k H v H' := by
  obtain ⟨c, fn, n, rnd, ds⟩ := F
  unfold fin at h
  cases rnd with
  | none =>
    simp only at h
    split at h
    · rename_i H1 ht
      split at h
      · rename_i f hf
        rw [fOf_eq] at hf
        split at h
        · rename_i vs hr
          injection h with h1 h2 h3; subst h1; subst h3
          refine RunSim.body_end hf ht (ctake_sta ht) hr ?_
          rcases hk with ⟨rfl, _⟩ | ⟨k', rfl, _⟩ | ⟨_, _, _, _, _, hx⟩ | ⟨_, _, _, _, _, hx⟩
          · exact .inl rfl
          · exact .inr ⟨_, rfl⟩
          · exact absurd rfl hx
          · exact absurd rfl hx
        · cases h
      · cases h
    · cases h
  | some l =>
    simp only at h
    split at h
    · rename_i H1 he
      injection h with h1 h2 h3; subst h1; subst h3
      refine RunSim.round_end he ?_
      rcases hk with ⟨rfl, rfl⟩ | ⟨k', rfl, rfl⟩ | ⟨id, k', rfl, rfl, hx, _⟩ | ⟨t, k', rfl, rfl, hx, _⟩
      · exact .inl ⟨rfl, rfl⟩
      · exact .inr (.inl ⟨_, rfl, rfl⟩)
      · exact .inr (.inr (.inl ⟨_, _, rfl, rfl, hx⟩))
      · exact .inr (.inr (.inr ⟨_, _, rfl, rfl, hx⟩))
    · cases h

/-! ### Regions -/
theorem RunSim.region_seq {c : Ctx} {fn : FuncId} {n : Nat} {rnd : Option Nat} {s s1 : Tr CV} {ds : List Nat} {k : List Item} {H H1 H' : CH} {v : CV} {id : Nat} {os : Array Oper}
    (hch : Chain P c n os s [] H (mkSeq os.toList 0) s1 H1) (hd : dstAll n os.toList = true) (h : RunSim P c fn n rnd s1 ds k H1 v H') : RunSim P c fn n rnd s ds (.code (.region id os false) :: k) H v H' := by
  refine ⟨hch.sta.trans h.1, fun T ι w a b hT hk hf hr hF hH => ?_⟩
  have hT1 : H1.next ≤ T := Nat.le_trans h.1.next hT
  obtain ⟨ι1, w1, a1, p1, r1, f1, st⟩ := seq_sound (P := P) (fun j o ho => dstAll_spec hd j o (by simpa using ho)) hch (fun p hp => by
    obtain ⟨h1, h2, h3⟩ := mkSeq_mem _ _ p hp
    refine ⟨h1, ?_⟩
    rw [Nat.sub_zero] at h3
    simpa using h3) hT1 hF hH
  obtain ⟨ι', w', u, k1, k2, k3, k4⟩ := h.2 T ι1 w1 a1 b hT hk hf (hr.mono p1.ext) f1 r1
  refine ⟨ι', w', u, Post.trans hH r1 hT1 p1 k1, k2, k3, Fin.steps (fun cs => .head stepR_region ?_) k4⟩
  have := st b k cs
  rw [mkSeq_map] at this
  rw [List.range_eq_range']
  simpa using this
theorem RunSim.region_draw (hmix : P.follows .mixedOrders = true) {c : Ctx} {fn : FuncId} {n : Nat} {rnd : Option Nat} {s s1 : Tr CV} {ds : List Nat} {k : List Item} {H H1 H' : CH} {v : CV} {id : Nat} {os : Array Oper} {M ms : List Nat} {hids owns : List (List Nat)}
    (hch : Chain P c n os s [] H (mkPl os.toList ms hids owns 0) s1 H1) (hok : rgOk os M ms hids owns = true) (h : RunSim P c fn n rnd s1 ds k H1 v H') : RunSim P c fn n rnd s ds (.code (.region id os true) :: k) H v H' := by
  refine ⟨hch.sta.trans h.1, fun T ι w a b hT hk hf hr hF hH => ?_⟩
  have hT1 : H1.next ≤ T := Nat.le_trans h.1.next hT
  obtain ⟨ι1, w1, a1, p1, r1, f1, st⟩ := drawn_sound hmix hch hok hT1 hF hH fn id
  obtain ⟨ι', w', u, k1, k2, k3, k4⟩ := h.2 T ι1 w1 a1 b hT hk hf (hr.mono p1.ext) f1 r1
  exact ⟨ι', w', u, Post.trans hH r1 hT1 p1 k1, k2, k3, Fin.steps (fun cs => st b k cs hf) k4⟩

theorem kRegion_ok (hmix : P.follows .mixedOrders = true) {ih : Task → Res} (hih : Good P ih) {F : Frm} {s s' : Tr CV} {H H' : CH} {v : CV} {k : List Item} {id : Nat} {os : Array Oper} {draw : Bool} (h : kRegion id os draw P ih F s k H = .ok v s' H') :
    RunSim P F.c F.fn F.n F.rnd s F.ds (.code (.region id os draw) :: k) H v H' := by
  unfold kRegion at h
  split at h
  · rename_i pl hpl
    unfold kAfter at h
    split at h
    · rename_i v1 s1 H1 hr
      have hch : Chain P F.c F.n os s [] H pl s1 H1 := hih _ _ _ _ hr
      have hrun : RunSim P F.c F.fn F.n F.rnd s1 F.ds k H1 v H' := hih _ _ _ _ h
      unfold planOf at hpl
      split at hpl
      · split at hpl
        · rename_i hd
          injection hpl with hpl; subst hpl
          exact RunSim.region_seq hch hd hrun
        · cases hpl
      · unfold rgOf at hpl
        split at hpl
        · rename_i hok
          injection hpl with hpl; subst hpl
          exact RunSim.region_draw hmix hch hok hrun
        · cases hpl
    · cases h
  · cases h

/-! ### Ranges over functions -/
theorem kRange_ok {ih : Task → Res} (hih : Good P ih) {F : Frm} {s s' : Tr CV} {H H' : CH} {v : CV} {k : List Item} {g : Operand} {ps : Array Tmp} {asg bd : Code} (h : kRange g ps asg bd P ih F s k H = .ok v s' H') :
    RunSim P F.c F.fn F.n F.rnd s F.ds (.code (.rangeFunc g ps asg bd) :: k) H v H' := by
  unfold kRange at h
  split at h
  · rename_i fv hg
    split at h
    · rename_i l ds' H2 hen
      have hE : EnterOk P F.c F.fn F.n F.rnd s F.ds H ps asg bd l ds' H2 := by
        obtain ⟨c, fn, n, rnd, ds⟩ := F
        unfold kEnter at hen
        cases rnd with
        | none =>
          simp only at hen
          split at hen
          · rename_i hb
            simp only [Bool.and_eq_true] at hb
            injection hen with hen; injection hen with e1 e2; injection e2 with e2 e3
            subst e1; subst e2; subst e3
            exact enter_none hb.1 hb.2
          · cases hen
        | some l0 =>
          simp only at hen
          split at hen
          · rename_i hg0
            split at hen
            · rename_i hb
              simp only [Bool.and_eq_true] at hb
              injection hen with hen; injection hen with e1 e2; injection e2 with e2 e3
              subst e1; subst e2; subst e3
              exact enter_some hg0 hb.1 hb.2
            · cases hen
          · cases hen
      unfold kLeave at h
      split at h
      · rename_i v1 s1 H3 hr
        have hc : CallSim P F.c fv [.yl l] H2 v1 H3 := hih _ _ _ _ hr
        split at h
        · rename_i hl
          split at h
          · rename_i hb
            simp only [Bool.and_eq_true] at hb
            have hrun := hih _ _ _ _ h
            refine RunSim.range hE hg hc hl ?_ hb.1.1 hb.1.2 hrun
            intro e
            rw [e] at hb
            simp at hb
          · cases h
        · cases h
      · cases h
    · cases h
  · cases h

/-! ### Code and items -/
theorem kExit_ok {ih : Task → Res} (hih : Good P ih) {F : Frm} {s s' : Tr CV} {H H' : CH} {v : CV} {k : List Item} {id : Nat} (h : kExit id P ih F s k H = .ok v s' H') :
    RunSim P F.c F.fn F.n F.rnd s F.ds (.code (.exit id) :: k) H v H' := by
  unfold kExit at h
  split at h
  · rename_i k' hx
    exact RunSim.step (fun _ a b cs w _ => .one (stepR_exit hx)) (hih _ _ _ _ h)
  · rename_i hx
    unfold kOut at h
    split at h
    · rename_i hr
      exact fin_ok h (.inr (.inr (.inl ⟨_, _, rfl, rfl, hx, by rw [hr]; exact fun e => by cases e⟩)))
    · cases h
theorem kGoto_ok {ih : Task → Res} (hih : Good P ih) {F : Frm} {s s' : Tr CV} {H H' : CH} {v : CV} {k : List Item} {l : Nat} (h : kGoto l P ih F s k H = .ok v s' H') :
    RunSim P F.c F.fn F.n F.rnd s F.ds (.code (.goto l) :: k) H v H' := by
  unfold kGoto at h
  split at h
  · rename_i k' hx
    exact RunSim.step (fun _ a b cs w _ => .one (stepR_goto hx)) (hih _ _ _ _ h)
  · rename_i hx
    unfold kOut at h
    split at h
    · rename_i hr
      exact fin_ok h (.inr (.inr (.inr ⟨_, _, rfl, rfl, hx, by rw [hr]; exact fun e => by cases e⟩)))
    · cases h
theorem kCond_ok {ih : Task → Res} (hih : Good P ih) {F : Frm} {s s' : Tr CV} {H H' : CH} {v : CV} {k : List Item} {q : Operand} {x y : Code} (h : kCond q x y P ih F s k H = .ok v s' H') :
    RunSim P F.c F.fn F.n F.rnd s F.ds (.code (.cond q x y) :: k) H v H' := by
  have key : ∀ (t : Bool), evC s q = some (.bool t) → ∀ {ι : Emb} {a : Act}, FR ι s F.n F.ds a → a.eval q = .bool t := by
    intro t hq ι a hF
    have := hF.slots.eval (a := a) [q] q (by simp) _ hq
    generalize a.eval q = u at this
    cases this; rfl
  unfold kCond at h
  split at h
  · rename_i hq
    exact RunSim.step (fun _ a b cs w hF => .one (by have := stepR_cond (P := P) (b := b) (k := k) (cs := cs) (w := w) (x := x) (y := y) (key true hq hF); simpa using this)) (hih _ _ _ _ h)
  · rename_i hq
    exact RunSim.step (fun _ a b cs w hF => .one (by have := stepR_cond (P := P) (b := b) (k := k) (cs := cs) (w := w) (x := x) (y := y) (key false hq hF); simpa using this)) (hih _ _ _ _ h)
  · cases h

theorem codeK_ok (hmix : P.follows .mixedOrders = true) {ih : Task → Res} (hih : Good P ih) {F : Frm} {s s' : Tr CV} {H H' : CH} {v : CV} {k : List Item} {cd : Code} (h : codeK cd P ih F s k H = .ok v s' H') :
    RunSim P F.c F.fn F.n F.rnd s F.ds (.code cd :: k) H v H' := by
  cases cd with
  | skip => exact RunSim.step (fun _ a b cs w _ => .one stepR_skip) (hih _ _ _ _ h)
  | region id os d => exact kRegion_ok hmix hih h
  | seq a b => exact RunSim.step (fun _ a b cs w _ => .one stepR_seq) (hih _ _ _ _ h)
  | cond q x y => exact kCond_ok hih h
  | block id b => exact RunSim.step (fun _ a b cs w _ => .one stepR_block) (hih _ _ _ _ h)
  | loop b => exact RunSim.step (fun _ a b cs w _ => .one stepR_loop) (hih _ _ _ _ h)
  | rangeFunc g ps a b => exact kRange_ok hih h
  | exit id => exact kExit_ok hih h
  | scope b => exact RunSim.step (fun _ a b cs w _ => .one stepR_scope) (hih _ _ _ _ h)
  | label l => exact RunSim.step (fun _ a b cs w _ => .one stepR_label) (hih _ _ _ _ h)
  | goto l => exact kGoto_ok hih h
  | ret => exact fin_ok h (.inr (.inl ⟨_, rfl, rfl⟩))
  | refuse why => cases h

theorem iBegin_ok {ih : Task → Res} (hih : Good P ih) {F : Frm} {s s' : Tr CV} {H H' : CH} {v : CV} {k : List Item} (h : iBegin P ih F s k H = .ok v s' H') :
    RunSim P F.c F.fn F.n F.rnd s F.ds (.beginRound :: k) H v H' := by
  obtain ⟨c, fn, n, rnd, ds⟩ := F
  unfold iBegin at h
  cases rnd with
  | none => cases h
  | some l =>
    simp only at h
    split at h
    · rename_i hg
      split at h
      · rename_i hb
        simp only [Bool.and_eq_true] at hb
        exact RunSim.begin hg hb.1 hb.2 (hih _ _ _ _ h)
      · cases h
    · cases h
theorem itemK_ok (hmix : P.follows .mixedOrders = true) {ih : Task → Res} (hih : Good P ih) {F : Frm} {s s' : Tr CV} {H H' : CH} {v : CV} {k : List Item} {it : Item} (h : itemK it P ih F s k H = .ok v s' H') :
    RunSim P F.c F.fn F.n F.rnd s F.ds (it :: k) H v H' := by
  cases it with
  | code c => exact codeK_ok hmix hih h
  | inBlock id => exact RunSim.step (fun _ a b cs w _ => .one stepR_inBlock) (hih _ _ _ _ h)
  | inLoop b => exact RunSim.step (fun _ a b cs w _ => .one stepR_inLoop) (hih _ _ _ _ h)
  | inScope b => exact RunSim.step (fun _ a b cs w _ => .one stepR_inScope) (hih _ _ _ _ h)
  | beginRound => exact iBegin_ok hih h
  | _ => cases h

/-! ### The operations of a region -/
theorem opsGo_ok {ih : Task → Res} (hih : Good P ih) {c : Ctx} {n : Nat} {os : Array Oper} {s s' : Tr CV} {rs : List (Nat × Nat × Nat)} {p : Plan} {pl : List Plan} {v v' : CV} {H H2 H' : CH} (h : opsGo ih c n os s rs p pl v H.next H2 = .ok v' s' H')
    (hs : Stp P c n os p s rs H v H2) : Chain P c n os s rs H (p :: pl) s' H' := .cons hs (hih _ _ _ _ h)
theorem opsK_ok {ih : Task → Res} (hih : Good P ih) {c : Ctx} {n : Nat} {os : Array Oper} {s s' : Tr CV} {rs : List (Nat × Nat × Nat)} {pl : List Plan} {v' : CV} {H H' : CH} (h : opsK P ih c n os s rs H pl = .ok v' s' H') : Chain P c n os s rs H pl s' H' := by
  cases pl with
  | nil => injection h with _ h1 h2; subst h1; subst h2; exact .nil
  | cons p pl =>
    simp only [opsK] at h
    split at h
    · cases h
    · rename_i hd
      split at h
      · rename_i hw
        exact opsGo_ok hih h ⟨hd, .inl ⟨hw, rfl, rfl⟩⟩
      · rename_i hw
        unfold opsEnd at h
        split at h
        · cases h
        · rename_i v2 H2 hop
          have ho := opK_ok hih hop
          split at h
          · rename_i hm
            have hm := Nat.eq_of_beq_eq_true hm
            split at h
            · rename_i hn
              exact opsGo_ok hih h ⟨hd, .inr ⟨hw, H2, ho, fun _ => ⟨Nat.eq_of_beq_eq_true hn, rfl⟩, fun h0 => absurd hm h0, fun h3 => absurd (hm.symm.trans h3) (by decide)⟩⟩
            · cases h
          · rename_i hm
            have hm : p.m ≠ 0 := fun e => by rw [e] at hm; cases hm
            split at h
            · rename_i h3
              split at h
              · rename_i hq
                simp only [Bool.and_eq_true, List.all_eq_true] at hq
                refine opsGo_ok hih h ⟨hd, .inr ⟨hw, H2, ho, fun h0 => absurd h0 hm, fun _ => rfl, fun _ => ⟨Nat.eq_of_beq_eq_true hq.1, fun q hqm => ?_⟩⟩⟩
                have := hq.2 q hqm
                exact ⟨Nat.le_of_ble_eq_true this.1, fun x hx => Nat.le_of_ble_eq_true (this.2 x hx)⟩
              · cases h
            · rename_i h3
              exact opsGo_ok hih h ⟨hd, .inr ⟨hw, H2, ho, fun h0 => absurd h0 hm, fun _ => rfl, fun e => by rw [e] at h3; cases h3⟩⟩

/-! ### Calls -/
theorem callFn_ok {ih : Task → Res} (hih : Good P ih) {c : Ctx} {g : FuncId} {first args caps : List CV} {s' : Tr CV} {H H' : CH} {v : CV} (h : callFn P ih c g (first ++ args ++ caps) H = .ok v s' H') : CallSim P c (.fn g first caps) args H v H' := by
  unfold callFn at h
  split at h
  · rename_i F hF
    rw [fOf_eq] at hF
    unfold callBody at h
    split at h
    · rename_i cd hb
      split at h
      · cases h
      · rename_i hn
        split at h
        · rename_i hs
          exact CallSim.of_fn hF hb (by simpa using hn) (by simpa [small, Nat.blt_eq] using hs) (hih _ _ _ _ h)
        · cases h
    · cases h
  · cases h
theorem callYl_ok {ih : Task → Res} (hih : Good P ih) {c : Ctx} {l : Nat} {args : List CV} {s' : Tr CV} {H H' : CH} {v : CV} (h : callYl ih c l args H = .ok v s' H') : CallSim P c (.yl l) args H v H' := by
  unfold callYl at h
  split at h
  · rename_i hg
    split at h
    · rename_i hb
      simp only [Bool.and_eq_true] at hb
      exact CallSim.of_yield hg hb.1.1 (Nat.eq_of_beq_eq_true hb.1.2) hb.2 (hih _ _ _ _ h)
    · cases h
  · cases h
theorem taskK_ok (hmix : P.follows .mixedOrders = true) {ih : Task → Res} (hih : Good P ih) : Good P (taskK P ih) := by
  intro t v s' H' h
  cases t with
  | run F s todo H =>
    cases todo with
    | nil => exact fin_ok h (.inl ⟨rfl, rfl⟩)
    | cons it k => exact itemK_ok hmix hih h
  | ops c n os s rs H pl => exact opsK_ok hih h
  | call c f args H =>
    cases f with
    | fn g a b => exact callFn_ok hih h
    | yl l => exact callYl_ok hih h
    | _ => cases h

/-- **THE EVALUATOR IS RIGHT.** -/
theorem ev_ok (hmix : P.follows .mixedOrders = true) : ∀ fuel, Good P (ev P fuel) := by
  intro fuel
  induction fuel with
  | zero => intro t v s H h; cases h
  | succ f ih => exact taskK_ok hmix ih

end
end Go.Proofs.YtokafjkinkafiaaGreat.Mini

namespace Go.Proofs.YtokafjkinkafiaaGreat.Mini
noncomputable section
open Go.RowKit
variable {P : Program}

/-- The run of a function without arguments, from nothing. -/
def closed (P : Program) (n : Nat) (f : FuncId) : Res := ev P n (.call ⟨0, [], []⟩ (.fn f [] []) [] ⟨.leaf, 0⟩)

/-- **A CLOSED RUN**: what the evaluator says of a function without arguments holds in each world. -/
theorem calls_closed (hmix : P.follows .mixedOrders = true) {n : Nat} {f : FuncId} {r : Bool} (h : isB r (closed P n f) = true) (w : World) :
    Calls P f #[] w (fun e w' => e = .returned (.bool r) ∧ Below w.heap.size w w') := by
  cases n with
  | zero => cases h
  | succ n =>
    have e : closed P (n + 1) f = callFn P (ev P n) ⟨0, [], []⟩ f [] ⟨.leaf, 0⟩ := rfl
    rw [e] at h
    unfold callFn at h
    split at h
    · rename_i F hF
      rw [fOf_eq] at hF
      unfold callBody at h
      split at h
      · rename_i cd hb
        split at h
        · cases h
        · rename_i hn
          split at h
          · generalize hr : ev P n (.run ⟨⟨0, [], []⟩, f, ([] : List CV).length + (F.ntmps - ([] : List CV).length), none, []⟩ (slotsOf [] 0 .leaf) [.code cd] ⟨.leaf, 0⟩) = res at h
            cases res with
            | no l => cases h
            | ok v s' H' =>
              have hv : v = .bool r := by
                cases v with
                | bool b => simp only [isB, beq_iff_eq] at h; rw [h]
                | _ => cases h
              subst hv
              have hrun : RunSim P ⟨0, [], []⟩ f (([] : List CV).length + (F.ntmps - ([] : List CV).length)) none (slotsOf [] 0 .leaf) [] [.code cd] ⟨.leaf, 0⟩ (.bool r) H' := ev_ok hmix n _ _ _ _ hr
              have hH : HRel ⟨0, [], []⟩ H'.next (fun _ => none) ⟨.leaf, 0⟩ w := ⟨fun b o hg => (by rw [Tr.get_leaf] at hg; cases hg), fun b b' o o' r C C' hg => (by rw [Tr.get_leaf] at hg; cases hg), fun b _ _ => rfl, fun b o hg => (by rw [Tr.get_leaf] at hg; cases hg)⟩
              obtain ⟨ι', w', u, p, _, hu, hf⟩ := hrun.2 H'.next (fun _ => none) w { tmps := (#[] : Array Value) ++ Array.replicate (F.ntmps - 0) undef, defers := [] } { (default : Frame) with fn := f, kind := .normal } (Nat.le_refl _) rfl rfl trivial
                ⟨slots_enter (l := []) (us := []) .nil (by simp) _, by simp, .nil⟩ hH
              cases hu
              intro cs
              obtain ⟨fr, k1, k2, k3⟩ := hf cs
              refine ⟨.returned (.bool r), w', fr, ⟨rfl, p.os, p.tape, p.output, p.size, fun k hk => p.frame k hk (fun b o C _ hg => (by rw [Tr.get_leaf] at hg; cases hg))⟩, ?_, k2, k3⟩
              have he : Frame.enter P f #[] .normal = ({ (default : Frame) with fn := f, kind := .normal } : Frame).atR { tmps := (#[] : Array Value) ++ Array.replicate (F.ntmps - 0) undef, defers := [] } [.code cd] := by
                simp only [Frame.enter, Frame.atR, hF, hb, Option.map_some, Option.getD_some, Option.bind_some]
                rfl
              show Steps P _ _
              rw [he]
              exact k1
          · cases h
      · cases h
    · cases h

end
end Go.Proofs.YtokafjkinkafiaaGreat.Mini

namespace Go.Proofs.YtokafjkinkafiaaGreat.Mini
noncomputable section
open Go.RowKit
variable {P : Program}

/-! ### When two values are the same -/
mutual
def ceq : CV → CV → Bool
  | .bool a, .bool b => a == b
  | .int k a, .int l b => decide (k = l) && decide (a = b)
  | .ptr a b, .ptr c d => Nat.beq a c && Nat.beq b d
  | .nilp, .nilp => true
  | .sl a b c d, .sl e f g h => Nat.beq a e && (Nat.beq b f && (Nat.beq c g && Nat.beq d h))
  | .slo a b c d, .slo e f g h => Nat.beq a e && (Nat.beq b f && (Nat.beq c g && Nat.beq d h))
  | .nils, .nils => true
  | .mp a, .mp b => Nat.beq a b
  | .nilm, .nilm => true
  | .fn f a c, .fn g b d => Nat.beq f g && (ceqL a b && ceqL c d)
  | .yl a, .yl b => Nat.beq a b
  | .nilf, .nilf => true
  | .agg a, .agg b => ceqL a b
  | .tup a, .tup b => ceqL a b
  | _, _ => false
def ceqL : List CV → List CV → Bool
  | [], [] => true
  | a :: l, b :: m => ceq a b && ceqL l m
  | _, _ => false
end
mutual
theorem ceq_eq : ∀ (a b : CV), ceq a b = true → a = b
  | .bool a, b, h => by cases b <;> simp [ceq] at h; rw [h]
  | .int k a, b, h => by cases b <;> simp [ceq] at h; rw [h.1, h.2]
  | .str a, b, h => by cases b <;> simp [ceq] at h
  | .ptr a b, c, h => by cases c <;> simp [ceq] at h; rw [h.1, h.2]
  | .nilp, b, h => by cases b <;> simp [ceq] at h; rfl
  | .sl a b c d, e, h => by cases e <;> simp [ceq] at h; rw [h.1, h.2.1, h.2.2.1, h.2.2.2]
  | .slo a b c d, e, h => by cases e <;> simp [ceq] at h; rw [h.1, h.2.1, h.2.2.1, h.2.2.2]
  | .nils, b, h => by cases b <;> simp [ceq] at h; rfl
  | .mp a, b, h => by cases b <;> simp [ceq] at h; rw [h]
  | .nilm, b, h => by cases b <;> simp [ceq] at h; rfl
  | .fn f a c, b, h => by
    cases b <;> simp [ceq] at h
    rename_i g b d
    rw [h.1, ceqL_eq a b h.2.1, ceqL_eq c d h.2.2]
  | .yl a, b, h => by cases b <;> simp [ceq] at h; rw [h]
  | .nilf, b, h => by cases b <;> simp [ceq] at h; rfl
  | .agg a, b, h => by
    cases b <;> simp [ceq] at h
    rw [ceqL_eq a _ h]
  | .tup a, b, h => by
    cases b <;> simp [ceq] at h
    rw [ceqL_eq a _ h]
theorem ceqL_eq : ∀ (a b : List CV), ceqL a b = true → a = b
  | [], b, h => by cases b <;> simp [ceqL] at h; rfl
  | a :: l, b, h => by
    cases b <;> simp [ceqL] at h
    rw [ceq_eq a _ h.1, ceqL_eq l _ h.2]
end

def heq : How → How → Bool
  | .ro, .ro => true
  | .rw, .rw => true
  | .opn a, .opn b => Nat.beq a b
  | _, _ => false
theorem heq_eq {a b : How} (h : heq a b = true) : a = b := by
  cases a <;> cases b <;> simp [heq] at h <;> first | rfl | rw [h]
def oeq : CO → CO → Bool
  | .cells t m a, .cells u n b => Nat.beq t u && (heq m n && ceqL a b)
  | .map [] c, .map [] d => Nat.beq c d
  | .dfd a, .dfd b => a == b
  | _, _ => false
theorem oeq_eq {a b : CO} (h : oeq a b = true) : a = b := by
  unfold oeq at h
  split at h
  · simp only [Bool.and_eq_true] at h
    rw [Nat.eq_of_beq_eq_true h.1, heq_eq h.2.1, ceqL_eq _ _ h.2.2]
  · rw [Nat.eq_of_beq_eq_true h]
  · rw [eq_of_beq h]
  · cases h

/-! ### Slots and blocks, written out -/
def mkS (l : List (Nat × CV)) : Tr CV := l.foldr (fun p s => setP (path p.1) s (some p.2)) .leaf
def mkH (l : List (Nat × CO)) : Tr CO := l.foldr (fun p s => setP (path p.1) s (some p.2)) .leaf
theorem setP_get {α : Type} (t : Tr α) (k i : Nat) (x : Option α) : (setP (path k) t x).get i = if i = k then x else t.get i := by
  show getP (path i) (setP (path k) t x) = _
  rw [getP_setP]
  by_cases e : i = k
  · subst e; rw [if_pos rfl, if_pos rfl]
  · rw [if_neg e, if_neg (fun h => e (path_inj h))]; rfl
theorem mk_out {α : Type} : ∀ (l : List (Nat × α)) (k : Nat), (∀ p ∈ l, p.1 ≠ k) → (l.foldr (fun p s => setP (path p.1) s (some p.2)) (.leaf : Tr α)).get k = none := by
  intro l
  induction l with
  | nil => intro k _; exact Tr.get_leaf k
  | cons p l ih =>
    intro k h
    simp only [List.foldr_cons]
    rw [setP_get, if_neg (fun e => h p List.mem_cons_self e.symm), ih k (fun q hq => h q (List.mem_cons_of_mem _ hq))]
theorem mk_mem {α : Type} : ∀ (l : List (Nat × α)) (k : Nat) (x : α), (l.foldr (fun p s => setP (path p.1) s (some p.2)) (.leaf : Tr α)).get k = some x → (k, x) ∈ l := by
  intro l
  induction l with
  | nil => intro k x h; rw [show ([] : List (Nat × α)).foldr (fun p s => setP (path p.1) s (some p.2)) (.leaf : Tr α) = .leaf from rfl, Tr.get_leaf] at h; cases h
  | cons p l ih =>
    intro k x h
    simp only [List.foldr_cons] at h
    rw [setP_get] at h
    by_cases e : k = p.1
    · rw [if_pos e] at h; injection h with h; subst h; subst e; exact List.mem_cons_self
    · rw [if_neg e] at h; exact List.mem_cons_of_mem _ (ih k x h)

def eqO : Option CV → Option CV → Bool
  | none, none => true
  | some a, some b => ceq a b
  | _, _ => false
theorem eqO_eq {a b : Option CV} (h : eqO a b = true) : a = b := by
  cases a <;> cases b <;> simp [eqO] at h
  · rfl
  · rw [ceq_eq _ _ h]
def slotsEq (n : Nat) (L : List (Nat × CV)) (s : Tr CV) : Bool := (L.all fun p => Nat.blt p.1 n) && ((List.range n).all fun t => eqO ((mkS L).get t) (s.get t))
def heapIn (L : List (Nat × CO)) (H : CH) : Bool := L.all fun p => match H.tr.get p.1 with | some o => oeq p.2 o | none => false

/-! ### What is left out -/
theorem RunSim.weak {c : Ctx} {fn : FuncId} {n : Nat} {rnd : Option Nat} {s sL : Tr CV} {ds : List Nat} {todo : List Item} {H HL H' : CH} {v : CV} (hc : ∀ b, c.may b = true)
    (hs : ∀ t, t < n → sL.get t = s.get t) (hs2 : ∀ t, n ≤ t → sL.get t = none) (hh : ∀ b o, HL.tr.get b = some o → H.tr.get b = some o) (hn : HL.next = H.next)
    (h : RunSim P c fn n rnd sL ds todo HL v H') : RunSim P c fn n rnd s ds todo H v H' := by
  refine ⟨⟨hn ▸ h.1.next, fun k => h.1.nxt (fun b o hg => hn ▸ k b o (hh b o hg)), fun _ b _ hb => by rw [hc b] at hb; cases hb⟩, fun T ι w a b hT hk hf hr hF hH => ?_⟩
  have hF' : FR ι sL n ds a := ⟨fun t => by
    by_cases ht : t < n
    · rw [hs t ht]; exact hF.slots t
    · rw [hs2 t (by omega)]
      have e : a.tmps.getD t undef = undef := by
        have : ¬ t < a.tmps.size := by rw [hF.size]; exact ht
        simp [Array.getD, this]
      rw [e]; exact undef_rel, hF.size, hF.dfr⟩
  have hH' : HRel c T ι HL w := ⟨fun b o hg hv => hH.blk b o (hh b o hg) hv, fun b b' o o' r C C' h1 h2 => hH.inj b b' o o' r C C' (hh _ _ h1) (hh _ _ h2), fun b h1 h2 => hH.dom b (hn ▸ h1) h2, fun b o hg => hn ▸ hH.nxt b o (hh b o hg)⟩
  obtain ⟨ι', w', u, p, k2, k3, k4⟩ := h.2 T ι w a b hT hk hf hr hF' hH'
  refine ⟨ι', w', u, ⟨p.ext, hn ▸ p.next, fun b hb q hq => hn ▸ p.old b hb q hq, fun b r C h1 h2 => ?_, p.size, p.os, p.tape, p.output, fun r hr hno => p.frame r hr (fun b o C hm hg => hno b o C hm (hh b o hg)), fun b _ hb => (by rw [hc b] at hb; cases hb), fun b o hb hg => ?_⟩, k2, k3, k4⟩
  · rcases p.fresh b r C h1 h2 with h | ⟨b0, o, C0, q1, q2, q3⟩
    · exact .inl h
    · exact .inr ⟨b0, o, C0, q1, hh _ _ q2, q3⟩
  · obtain ⟨o', ho'⟩ := p.live b o (hn.symm ▸ hb) hg
    exact ⟨o', hh _ _ ho'⟩

/-! ### A stretch -/
/-- What is left to do behind some items that do not turn aside. -/
def skK : Nat → List Item → List Item
  | 0, k => k
  | m + 1, .code (.seq a b) :: k => skK m (.code a :: .code b :: k)
  | m + 1, .code (.scope b) :: k => skK m (.code b :: .inScope b :: k)
  | m + 1, .code (.block id b) :: k => skK m (.code b :: .inBlock id :: k)
  | m + 1, _ :: k => skK m k
  | _ + 1, [] => []
def goK (P : Program) (fuel : Nat) (F : Frm) : Nat → Tr CV → List Item → CH → Option (Tr CV × CH)
  | 0, s, _, H => some (s, H)
  | m + 1, s, .code (.seq a b) :: k, H => goK P fuel F m s (.code a :: .code b :: k) H
  | m + 1, s, .code (.scope b) :: k, H => goK P fuel F m s (.code b :: .inScope b :: k) H
  | m + 1, s, .code (.block id b) :: k, H => goK P fuel F m s (.code b :: .inBlock id :: k) H
  | m + 1, s, .code .skip :: k, H => goK P fuel F m s k H
  | m + 1, s, .code (.region _ os draw) :: k, H => match planOf os draw F.n with
    | some pl => match ev P fuel (.ops F.c F.n os s [] H pl) with
      | .ok _ s' H' => goK P fuel F m s' k H'
      | .no _ => none
    | none => none
  | _, _, _, _ => none

theorem region_ok (hmix : P.follows .mixedOrders = true) {F : Frm} {s s1 : Tr CV} {H H1 H' : CH} {v v1 : CV} {k : List Item} {id : Nat} {os : Array Oper} {draw : Bool} {pl : List Plan} {fuel : Nat} (hpl : planOf os draw F.n = some pl) (hr : ev P fuel (.ops F.c F.n os s [] H pl) = .ok v1 s1 H1)
    (hrun : RunSim P F.c F.fn F.n F.rnd s1 F.ds k H1 v H') : RunSim P F.c F.fn F.n F.rnd s F.ds (.code (.region id os draw) :: k) H v H' := by
  have hch : Chain P F.c F.n os s [] H pl s1 H1 := ev_ok hmix fuel _ _ _ _ hr
  unfold planOf at hpl
  split at hpl
  · split at hpl
    · rename_i hd
      injection hpl with hpl; subst hpl
      exact RunSim.region_seq hch hd hrun
    · cases hpl
  · unfold rgOf at hpl
    split at hpl
    · rename_i hok
      injection hpl with hpl; subst hpl
      exact RunSim.region_draw hmix hch hok hrun
    · cases hpl

theorem goK_ok (hmix : P.follows .mixedOrders = true) {fuel : Nat} {F : Frm} {v : CV} {H' : CH} : ∀ (m : Nat) {s s1 : Tr CV} {todo : List Item} {H H1 : CH}, goK P fuel F m s todo H = some (s1, H1) →
    RunSim P F.c F.fn F.n F.rnd s1 F.ds (skK m todo) H1 v H' → RunSim P F.c F.fn F.n F.rnd s F.ds todo H v H' := by
  intro m
  induction m with
  | zero => intro s s1 todo H H1 h hr; simp only [goK] at h; injection h with h; injection h with h1 h2; subst h1; subst h2; exact hr
  | succ m ih =>
    intro s s1 todo H H1 h hr
    unfold goK at h
    split at h
    · rename_i hm; cases hm
    · rename_i hm; injection hm with hm; subst hm
      exact RunSim.step (fun _ a b cs w _ => .one stepR_seq) (ih h hr)
    · rename_i hm; injection hm with hm; subst hm
      exact RunSim.step (fun _ a b cs w _ => .one stepR_scope) (ih h hr)
    · rename_i hm; injection hm with hm; subst hm
      exact RunSim.step (fun _ a b cs w _ => .one stepR_block) (ih h hr)
    · rename_i hm; injection hm with hm; subst hm
      exact RunSim.step (fun _ a b cs w _ => .one stepR_skip) (ih h hr)
    · rename_i hm; injection hm with hm; subst hm
      split at h
      · rename_i pl hpl
        split at h
        · rename_i v1 s2 H2 hev
          exact region_ok hmix hpl hev (ih h hr)
        · cases h
      · cases h
    · cases h

/-- A stretch leads to what is written out. -/
def cutB (P : Program) (fuel : Nat) (F : Frm) (m : Nat) (s : Tr CV) (todo : List Item) (H : CH) (LS : List (Nat × CV)) (LH : List (Nat × CO)) (nx : Nat) : Bool :=
  match goK P fuel F m s todo H with
  | some (s1, H1) => Nat.beq H1.next nx && (slotsEq F.n LS s1 && heapIn LH H1)
  | none => false
/-- **A STRETCH**. -/
theorem cut_ok (hmix : P.follows .mixedOrders = true) {fuel : Nat} {F : Frm} {m : Nat} {s : Tr CV} {todo : List Item} {H H' : CH} {v : CV} {LS : List (Nat × CV)} {LH : List (Nat × CO)} {nx : Nat} (hc : ∀ b, F.c.may b = true)
    (h : cutB P fuel F m s todo H LS LH nx = true) (hr : RunSim P F.c F.fn F.n F.rnd (mkS LS) F.ds (skK m todo) ⟨mkH LH, nx⟩ v H') : RunSim P F.c F.fn F.n F.rnd s F.ds todo H v H' := by
  unfold cutB at h
  split at h
  · rename_i s1 H1 hg
    simp only [Bool.and_eq_true] at h
    obtain ⟨h1, h2, h3⟩ := h
    unfold slotsEq at h2
    simp only [Bool.and_eq_true, List.all_eq_true] at h2
    refine goK_ok hmix m hg (RunSim.weak hc (fun t ht => eqO_eq (h2.2 t (List.mem_range.2 ht))) (fun t ht => ?_) (fun b o hb => ?_) (Nat.eq_of_beq_eq_true h1).symm hr)
    · refine mk_out LS t (fun p hp e => ?_)
      have := h2.1 p hp
      simp only [Nat.blt_eq] at this
      omega
    · unfold heapIn at h3
      rw [List.all_eq_true] at h3
      have := h3 (b, o) (mk_mem LH b o hb)
      simp only at this
      split at this
      · rename_i o' ho'
        rw [ho', oeq_eq this]
      · cases this
  · cases h

end
end Go.Proofs.YtokafjkinkafiaaGreat.Mini

namespace Go.Proofs.YtokafjkinkafiaaGreat.Mini
noncomputable section
open Go.RowKit
variable {P : Program}

/-- The frame of a function without arguments. -/
abbrev frm0 (P : Program) (f : FuncId) : Frm := ⟨⟨0, [], []⟩, f, ((fOf P f).map (·.ntmps)).getD 0, none, []⟩
def code0 (P : Program) (f : FuncId) : List Item := [.code (((fOf P f).bind (·.body)).getD .skip)]
def okFn (P : Program) (f : FuncId) : Bool := match fOf P f with
  | some F => match F.body with
    | some _ => !(F.name == "runtime.NumGoroutine")
    | none => false
  | none => false
/-- It is to be shown that a run ends with a Boolean. -/
def Ends (P : Program) (F : Frm) (s : Tr CV) (todo : List Item) (H : CH) (r : Bool) : Prop := ∃ H', RunSim P F.c F.fn F.n F.rnd s F.ds todo H (.bool r) H'

theorem ends_ev (hmix : P.follows .mixedOrders = true) {n : Nat} {F : Frm} {s : Tr CV} {todo : List Item} {H : CH} {r : Bool} (h : isB r (ev P n (.run F s todo H)) = true) : Ends P F s todo H r := by
  generalize hr : ev P n (.run F s todo H) = res at h
  cases res with
  | no l => cases h
  | ok v s' H' =>
    have hv : v = .bool r := by
      cases v with
      | bool b => simp only [isB, beq_iff_eq] at h; rw [h]
      | _ => cases h
    subst hv
    exact ⟨H', ev_ok hmix n _ _ _ _ hr⟩
theorem ends_cut (hmix : P.follows .mixedOrders = true) {fuel : Nat} {f : FuncId} {m : Nat} {s : Tr CV} {todo : List Item} {H : CH} {r : Bool} {LS : List (Nat × CV)} {LH : List (Nat × CO)} {nx : Nat}
    (h : cutB P fuel (frm0 P f) m s todo H LS LH nx = true) (hr : Ends P (frm0 P f) (mkS LS) (skK m todo) ⟨mkH LH, nx⟩ r) : Ends P (frm0 P f) s todo H r := by
  obtain ⟨H', hr⟩ := hr
  exact ⟨H', cut_ok hmix (fun b => by simp [Ctx.may, Ctx.vis]) h hr⟩

/-- **A CLOSED RUN**, from its end. -/
theorem calls_ends {f : FuncId} {r : Bool} (hok : okFn P f = true) (h : Ends P (frm0 P f) .leaf (code0 P f) ⟨.leaf, 0⟩ r) (w : World) :
    Calls P f #[] w (fun e w' => e = .returned (.bool r) ∧ Below w.heap.size w w') := by
  obtain ⟨H', hrun⟩ := h
  unfold okFn at hok
  split at hok
  · rename_i F hF
    split at hok
    · rename_i cd hb
      have hn0 : (frm0 P f).n = F.ntmps := by simp [frm0, hF]
      have hcd : code0 P f = [.code cd] := by simp [code0, hF, hb]
      rw [fOf_eq] at hF
      rw [hcd] at hrun
      have hH : HRel ⟨0, [], []⟩ H'.next (fun _ => none) ⟨.leaf, 0⟩ w := ⟨fun b o hg => (by rw [Tr.get_leaf] at hg; cases hg), fun b b' o o' r C C' hg => (by rw [Tr.get_leaf] at hg; cases hg), fun b _ _ => rfl, fun b o hg => (by rw [Tr.get_leaf] at hg; cases hg)⟩
      obtain ⟨ι', w', u, p, _, hu, hf⟩ := hrun.2 H'.next (fun _ => none) w { tmps := (#[] : Array Value) ++ Array.replicate (F.ntmps - 0) undef, defers := [] } { (default : Frame) with fn := f, kind := .normal } (Nat.le_refl _) rfl rfl trivial
        ⟨slots_enter (l := []) (us := []) .nil (by simp) _, by rw [hn0]; simp, .nil⟩ hH
      cases hu
      intro cs
      obtain ⟨fr, k1, k2, k3⟩ := hf cs
      refine ⟨.returned (.bool r), w', fr, ⟨rfl, p.os, p.tape, p.output, p.size, fun k hk => p.frame k hk (fun b o C _ hg => (by rw [Tr.get_leaf] at hg; cases hg))⟩, ?_, k2, k3⟩
      have he : Frame.enter P f #[] .normal = ({ (default : Frame) with fn := f, kind := .normal } : Frame).atR { tmps := (#[] : Array Value) ++ Array.replicate (F.ntmps - 0) undef, defers := [] } [.code cd] := by
        simp only [Frame.enter, Frame.atR, hF, hb, Option.map_some, Option.getD_some, Option.bind_some]
        rfl
      show Steps P _ _
      rw [he]
      exact k1
    · cases hok
  · cases hok

end
end Go.Proofs.YtokafjkinkafiaaGreat.Mini
