/- The small machine: an evaluator of the model's code, and what it computes is what the model's machine does. No Go in sight. -/
import Derived.Test.YtokafjkinkafiaaGreatSMA
set_option linter.unusedSimpArgs false
set_option linter.unusedVariables false
namespace Go.Proofs.YtokafjkinkafiaaGreat.Mini
noncomputable section
open Go.RowKit
variable {P : Program}

theorem ERel.length {ι : Emb} {l : List (CV × CV × Nat)} {m : List MapEntry} (h : ERel ι l m) : l.length = m.length := by
  induction h with
  | nil => rfl
  | cons _ _ _ ih => simp [ih]
theorem ERel.get {ι : Emb} {l : List (CV × CV × Nat)} {m : List MapEntry} (h : ERel ι l m) {i : Nat} {k v : CV} {n : Nat} (hi : l[i]? = some (k, v, n)) : ∃ e, m[i]? = some e ∧ VRel ι k e.key ∧ VRel ι v e.val ∧ e.born = n := by
  induction h generalizing i with
  | nil => simp at hi
  | cons hk hv _ ih =>
    cases i with
    | zero => simp at hi; obtain ⟨rfl, rfl, rfl⟩ := hi; exact ⟨_, List.getElem?_cons_zero, hk, hv, rfl⟩
    | succ i => simp at hi ⊢; exact ih hi
theorem ERel.set {ι : Emb} {l : List (CV × CV × Nat)} {m : List MapEntry} (h : ERel ι l m) {k v : CV} {k' v' : Value} {n : Nat} (hk : VRel ι k k') (hv : VRel ι v v') (i : Nat) : ERel ι (l.set i (k, v, n)) (m.set i ⟨k', v', n⟩) := by
  induction h generalizing i with
  | nil => simp; exact .nil
  | cons hk' hv' t ih =>
    cases i with
    | zero => exact .cons hk hv t
    | succ i => exact .cons hk' hv' (ih i)
theorem ERel.snoc {ι : Emb} {l : List (CV × CV × Nat)} {m : List MapEntry} (h : ERel ι l m) {k v : CV} {k' v' : Value} {n : Nat} (hk : VRel ι k k') (hv : VRel ι v v') : ERel ι (l ++ [(k, v, n)]) (m ++ [⟨k', v', n⟩]) := by
  induction h with
  | nil => exact .cons hk hv .nil
  | cons hk' hv' _ ih => exact .cons hk' hv' ih

/-- The first entry of a key. -/
def cfind (P : Program) (kt : TypeId) (d : TypeDesc) (k : Value) : List (CV × CV × Nat) → Nat → Option (Option (Nat × CV × CV × Nat))
  | [], _ => some none
  | (ck, cv, n) :: es, i =>
    match toV ck with
    | some kv =>
      match (match Instr.sameNow d k kv with | some b => some b | none => prun P (Op.equal kt k kv)) with
      | some true => some (some (i, ck, cv, n))
      | some false => cfind P kt d k es (i + 1)
      | none => none
    | none => none
theorem sameNow_equal {kt : TypeId} {d : TypeDesc} {k kv : Value} {b : Bool} (hd : P.underlying kt = some d) (h : Instr.sameNow d k kv = some b) (w : World) : (Op.equal kt k kv).run P w = .ok b w := by
  have key : ∀ n, (Op.equalIn (n + 1) kt k kv).run P w = .ok b w := by
    intro n
    unfold Instr.sameNow at h
    split at h <;> first
      | (cases h; done)
      | (injection h with h; subst h; rw [Op.equalIn, Sem.run_bind, run_underlying hd]; rfl)
      | (split at h <;> first | (cases h; done) | (rename_i hk; subst hk; injection h with h; subst h; rw [Op.equalIn, Sem.run_bind, run_underlying hd]; simp))
  exact key 9999
theorem findAsking_sound {ι : Emb} {kt : TypeId} {d : TypeDesc} {k : Value} (hd : P.underlying kt = some d) (w : World) : ∀ {es : List (CV × CV × Nat)} {m : List MapEntry} (i : Nat) {r : Option (Nat × CV × CV × Nat)}, ERel ι es m → cfind P kt d k es i = some r →
    (Instr.findAsking kt k m i).run P w = .ok (r.bind fun q => (m[q.1 - i]?).map fun e => (q.1, e.val)) w ∧ (∀ q, r = some q → i ≤ q.1 ∧ es[q.1 - i]? = some (q.2.1, q.2.2.1, q.2.2.2)) := by
  intro es
  induction es with
  | nil => intro m i r h hc; cases h; simp only [cfind] at hc; injection hc with hc; subst hc; exact ⟨rfl, fun q hq => by cases hq⟩
  | cons x es ih =>
    obtain ⟨ck, cv, n⟩ := x
    intro m i r h hc
    cases h with
    | cons hk hv t =>
      rename_i k' v' m'
      simp only [cfind] at hc
      split at hc
      · rename_i kv hkv
        have e1 := toV_rel hk hkv
        subst e1
        have heq : ∀ b, (match Instr.sameNow d k k' with | some b => some b | none => prun P (Op.equal kt k k')) = some b → (Op.equal kt k k').run P w = .ok b w := by
          intro b hb
          split at hb
          · rename_i b' hs; injection hb with hb; subst hb; exact sameNow_equal hd hs w
          · exact prun_sound hb w
        split at hc
        · rename_i hb
          injection hc with hc; subst hc
          refine ⟨?_, fun q hq => by injection hq with hq; subst hq; exact ⟨Nat.le_refl _, by simp⟩⟩
          simp only [Instr.findAsking, Sem.run_bind, heq _ hb, Result.andThen_ok]
          simp
        · rename_i hb
          obtain ⟨h1, h2⟩ := ih (i + 1) t hc
          refine ⟨?_, ?_⟩
          · simp only [Instr.findAsking, Sem.run_bind, heq _ hb, Result.andThen_ok]
            rw [if_neg (by decide), h1]
            cases r with
            | none => rfl
            | some q =>
              obtain ⟨h3, _⟩ := h2 q rfl
              have : q.1 - i = q.1 - (i + 1) + 1 := by omega
              simp [this]
          · intro q hq
            obtain ⟨h3, h4⟩ := h2 q hq
            refine ⟨by omega, ?_⟩
            have : q.1 - i = q.1 - (i + 1) + 1 := by omega
            rw [this]; simpa using h4
        · cases hc
      · cases hc
theorem findNow_sound {ι : Emb} {kt : TypeId} {d : TypeDesc} {k : Value} (hd : P.underlying kt = some d) (w : World) : ∀ {es : List (CV × CV × Nat)} {m : List MapEntry} (i : Nat) {r : Option (Nat × CV × CV × Nat)} {r' : Option (Nat × Value)}, ERel ι es m → cfind P kt d k es i = some r →
    Instr.findNow d k m i = some r' → r' = r.bind fun q => (m[q.1 - i]?).map fun e => (q.1, e.val) := by
  intro es
  induction es with
  | nil => intro m i r r' h hc hn; cases h; simp only [cfind] at hc; injection hc with hc; subst hc; simp only [Instr.findNow] at hn; injection hn with hn; exact hn.symm
  | cons x es ih =>
    obtain ⟨ck, cv, n⟩ := x
    intro m i r r' h hc hn
    have hfa := (findAsking_sound hd w i h hc).2
    cases h with
    | cons hk hv t =>
      rename_i k' v' m'
      simp only [cfind] at hc
      simp only [Instr.findNow] at hn
      split at hc
      · rename_i kv hkv
        have e1 := toV_rel hk hkv
        subst e1
        split at hn
        · rename_i hs
          rw [hs] at hc
          simp only at hc
          injection hc with hc; subst hc
          injection hn with hn; subst hn
          simp
        · rename_i hs
          rw [hs] at hc
          simp only at hc
          rw [ih (i + 1) t hc hn]
          have h2 := (findAsking_sound hd w (i + 1) t hc).2
          cases r with
          | none => rfl
          | some q =>
            obtain ⟨h3, _⟩ := h2 q rfl
            have : q.1 - i = q.1 - (i + 1) + 1 := by omega
            simp [this]
        · cases hn
      · cases hc
theorem findKey_sound {ι : Emb} {kt : TypeId} {d : TypeDesc} {k : Value} (hd : P.underlying kt = some d) (w : World) {es : List (CV × CV × Nat)} {m : List MapEntry} {r : Option (Nat × CV × CV × Nat)} (he : ERel ι es m) (hc : cfind P kt d k es 0 = some r) :
    (∀ q, r = some q → ∃ e, m[q.1]? = some e ∧ es[q.1]? = some (q.2.1, q.2.2.1, q.2.2.2) ∧ VRel ι q.2.1 e.key ∧ VRel ι q.2.2.1 e.val ∧ e.born = q.2.2.2 ∧ (Instr.findKey kt k m).run P w = .ok (some (q.1, e.val)) w) ∧ (r = none → (Instr.findKey kt k m).run P w = .ok none w) := by
  have h1 := findAsking_sound hd w 0 he hc
  have hrun : (Instr.findKey kt k m).run P w = .ok (r.bind fun q => (m[q.1 - 0]?).map fun e => (q.1, e.val)) w := by
    simp only [Instr.findKey, Sem.run_bind, run_underlying hd, Result.andThen_ok]
    split
    · rename_i r' hr'
      rw [findNow_sound hd w 0 he hc hr']; rfl
    · exact h1.1
  refine ⟨?_, ?_⟩
  · intro q hq
    obtain ⟨_, h2⟩ := h1.2 q hq
    simp only [Nat.sub_zero] at h2
    obtain ⟨e, h3, h4, h5, h6⟩ := he.get h2
    refine ⟨e, h3, h2, h4, h5, h6, ?_⟩
    rw [hrun, hq]; simp [h3]
  · intro hr; rw [hrun, hr]; rfl

def cmapOf (c : Ctx) (H : CH) : CV → Option (List (CV × CV × Nat) × Nat)
  | .nilm => some ([], 0)
  | .mp b => match H.tr.get b with
    | some (.map es clock) => match c.vis b with
      | true => some (es, clock)
      | false => none
    | _ => none
  | _ => none

def clookup (P : Program) (c : Ctx) (H : CH) (t : TypeId) (x ix : CV) (ok : Bool) : Option CV :=
  match und P t with
  | some (.map kt et) =>
    match cmapOf c H x, toV ix, und P kt with
    | some (es, _), some k, some d =>
      match prun P (Instr.checkKey es.isEmpty 10000 kt k) with
      | some () =>
        match cfind P kt d k es 0 with
        | some (some q) => match ok with
          | true => some (.tup [q.2.2.1, .bool true])
          | false => some q.2.2.1
        | some none => match inf P et with
          | some i => match i.zero with
            | some z => match ofV z with
              | some zc => match ok with
                | true => some (.tup [zc, .bool false])
                | false => some zc
              | none => none
            | none => none
          | none => none
        | none => none
      | none => none
    | _, _, _ => none
  | _ => none
theorem clookup_sound {c : Ctx} {T : Nat} {ι : Emb} {H : CH} {w : World} (hH : HRel c T ι H w) {t : TypeId} {x ix v : CV} {u uk : Value} {ok : Bool} (h : clookup P c H t x ix ok = some v) (hx : VRel ι x u) (hk : VRel ι ix uk) :
    ∃ r, (Instr.lookup t u uk ok).run P w = .ok r w ∧ VRel ι v r := by
  unfold clookup at h
  try simp only [inf_eq, und_eq] at h
  split at h
  · rename_i kt et hd
    split at h
    · rename_i es clock k d hes hk0 hdk
      have e1 := toV_rel hk hk0
      subst e1
      split at h
      · rename_i hck
        have hm : ∃ m : List MapEntry, ERel ι es m ∧ ((∃ r, u = .map (some r) ∧ w.heap[r]? = some (.map m.toArray clock)) ∨ (u = .map none ∧ m = [])) := by
          unfold cmapOf at hes
          split at hes
          · injection hes with hes; injection hes with h1 h2; subst h1; cases hx; exact ⟨[], .nil, .inr ⟨rfl, rfl⟩⟩
          · split at hes
            · rename_i es' clock' hg
              split at hes
              · rename_i hv
                injection hes with hes; injection hes with h1 h2; subst h1; subst h2
                obtain ⟨r, C, ob, q1, q2, m, rfl, q3⟩ := hH.blk _ _ hg hv
                cases hx with
                | mp hι => rw [hι] at q1; injection q1 with q1; injection q1 with q1 _; subst q1; exact ⟨m, q3, .inl ⟨_, rfl, q2⟩⟩
              · cases hes
            · cases hes
          · cases hes
        obtain ⟨m, hmr, hmu⟩ := hm
        have hemp : m.isEmpty = es.isEmpty := by
          have := hmr.length
          cases m <;> cases es <;> simp_all
        have hckr := prun_sound hck w
        have stepS : ∀ (i : Nat) (y : Value), (Instr.findKey kt uk m).run P w = .ok (some (i, y)) w → (Instr.lookup t u uk ok).run P w = .ok (if ok then .tuple #[y, .bool true] else y) w := by
          intro i y hf
          rcases hmu with ⟨rr, rfl, hw⟩ | ⟨rfl, rfl⟩
          · have hgo : (getObj rr).run P w = .ok (.map m.toArray clock) w := by simp [getObj, Sem.run, hw]
            simp only [Instr.lookup, Sem.run_bind, run_underlying hd, Result.andThen_ok, hgo, Sem.run_pure]
            rw [show m.toArray.isEmpty = es.isEmpty from by simpa using hemp, hckr]
            simp only [Result.andThen_ok, hf, Sem.run_bind, Sem.run_pure]
          · simp only [Instr.lookup, Sem.run_bind, run_underlying hd, Result.andThen_ok, Sem.run_pure]
            rw [show (#[] : Array MapEntry).isEmpty = es.isEmpty from by rw [← hemp]; rfl, hckr]
            simp only [Result.andThen_ok, hf, Sem.run_bind, Sem.run_pure]
        have stepN : ∀ (y : Value), (Instr.findKey kt uk m).run P w = .ok none w → (zeroValue et).run P w = .ok y w → (Instr.lookup t u uk ok).run P w = .ok (if ok then .tuple #[y, .bool false] else y) w := by
          intro y hf hz
          rcases hmu with ⟨rr, rfl, hw⟩ | ⟨rfl, rfl⟩
          · have hgo : (getObj rr).run P w = .ok (.map m.toArray clock) w := by simp [getObj, Sem.run, hw]
            simp only [Instr.lookup, Sem.run_bind, run_underlying hd, Result.andThen_ok, hgo, Sem.run_pure]
            rw [show m.toArray.isEmpty = es.isEmpty from by simpa using hemp, hckr]
            simp only [Result.andThen_ok, hf, Sem.run_bind, Sem.run_pure, hz]
          · simp only [Instr.lookup, Sem.run_bind, run_underlying hd, Result.andThen_ok, Sem.run_pure]
            rw [show (#[] : Array MapEntry).isEmpty = es.isEmpty from by rw [← hemp]; rfl, hckr]
            simp only [Result.andThen_ok, hf, Sem.run_bind, Sem.run_pure, hz]
        split at h
        · rename_i q hq
          obtain ⟨e, q1, q2, q3, q4, q5, q6⟩ := (findKey_sound hdk w hmr hq).1 q rfl
          split at h
          · injection h with h; subst h
            exact ⟨_, by simpa using stepS _ _ q6, VRel.tup (c' := [e.val, .bool true]) (.cons q4 (.cons (.bool _) .nil))⟩
          · injection h with h; subst h
            exact ⟨_, by simpa using stepS _ _ q6, q4⟩
        · rename_i hq
          have q6 := (findKey_sound hdk w hmr hq).2 rfl
          split at h
          · rename_i i hi
            split at h
            · rename_i z hz
              split at h
              · rename_i zc hzc
                have hz' := run_zeroValue' hi hz w
                split at h
                · injection h with h; subst h
                  exact ⟨_, by simpa using stepN _ q6 hz', VRel.tup (c' := [z, .bool false]) (.cons (ofV_rel hzc) (.cons (.bool _) .nil))⟩
                · injection h with h; subst h
                  exact ⟨_, by simpa using stepN _ q6 hz', ofV_rel hzc⟩
              · cases h
            · cases h
          · cases h
        · cases h
      · cases h
    · cases h
  · cases h

def cmapUpdate (P : Program) (c : Ctx) (H : CH) (t : TypeId) (x ix v : CV) : Option CH :=
  match und P t with
  | some (.map kt _) =>
    match x with
    | .mp b => match H.tr.get b, toV ix, und P kt with
      | some (.map es clock), some k, some d =>
        match c.may b && small b, prun P (Instr.checkKey false 10000 kt k) with
        | true, some () =>
          match cfind P kt d k es 0 with
          | some (some q) => match toV q.2.1 with
            | some ko => match prun P (Instr.keyThatStays ko k) with
              | some kn => match ofV kn with
                | some ck => some (H.put b (.map (es.set q.1 (ck, v, q.2.2.2)) clock))
                | none => none
              | none => none
            | none => none
          | some none => some (H.put b (.map (es ++ [(ix, v, clock)]) (clock + 1)))
          | none => none
        | _, _ => none
      | _, _, _ => none
    | _ => none
  | _ => none
theorem modify_set {α : Type} (l : List α) (i : Nat) (f : α → α) {x : α} (h : l[i]? = some x) : (l.toArray.modify i f) = (l.set i (f x)).toArray := by
  apply Array.ext'
  apply List.ext_getElem?
  intro j
  simp only [Array.getElem?_toList, Array.getElem?_modify, List.getElem?_toArray, List.getElem?_set]
  by_cases e : i = j
  · subst e
    obtain ⟨h1, h2⟩ := List.getElem?_eq_some_iff.1 h
    simp [h1, h2]
  · simp [e]
def noCells : Obj → Bool
  | .cells .. => false
  | _ => true
theorem run_setObj {w : World} {r : Nat} {o ob : Obj} (h : w.heap[r]? = some o) (hc : noCells o = true) : (setObj r ob).run P w = .ok () { w with heap := w.heap.setIfInBounds r ob } := by
  cases o with
  | cells => cases hc
  | _ => simp [setObj, Sem.run, h]
theorem run_getMap {w : World} {r : Nat} {m : Array MapEntry} {k : Nat} (h : w.heap[r]? = some (.map m k)) : (getObj r).run P w = .ok (.map m k) w := by
  simp [getObj, Sem.run, h]
theorem put_same {w : World} {r : Nat} {o ob : Obj} (h : w.heap[r]? = some o) : (w.heap.setIfInBounds r ob)[r]? = some ob := by
  have := (Array.getElem?_eq_some_iff.1 h).1
  simp [this]
theorem put_other {w : World} {r k : Nat} {ob : Obj} (h : k ≠ r) : (w.heap.setIfInBounds r ob)[k]? = w.heap[k]? := Array.getElem?_setIfInBounds_ne (fun e => h e.symm)

theorem cmapUpdate_sound {c : Ctx} {T : Nat} {ι : Emb} {H H' : CH} {w : World} (hH : HRel c T ι H w) {t : TypeId} {x ix v : CV} {u uk uv : Value} (h : cmapUpdate P c H t x ix v = some H') (hx : VRel ι x u) (hk : VRel ι ix uk) (hv : VRel ι v uv) :
    ∃ w', (Instr.mapUpdate t u uk uv).run P w = .ok () w' ∧ Post c ι H w ι H' w' ∧ HRel c T ι H' w' := by
  unfold cmapUpdate at h
  try simp only [inf_eq, und_eq] at h
  split at h
  · rename_i kt et hd
    split at h
    · rename_i b
      split at h
      · rename_i es clock k d hg hk0 hdk
        have e1 := toV_rel hk hk0
        subst e1
        split at h
        · rename_i hb hck
          simp only [Bool.and_eq_true] at hb
          have hckr := prun_sound hck w
          obtain ⟨r, C, ob, q1, q2, m, rfl, q3⟩ := hH.blk _ _ hg (may_vis hb.1)
          cases hx with
          | mp hι =>
            rw [hι] at q1; injection q1 with q1; injection q1 with q1 q1'; subst q1; subst q1'
            split at h
            · rename_i q hq
              obtain ⟨e, p1, p2, p3, p4, p5, p6⟩ := (findKey_sound hdk w q3 hq).1 q rfl
              split at h
              · rename_i ko hko
                split at h
                · rename_i kn hkn
                  split at h
                  · rename_i ck hcks
                    injection h with h; subst h
                    have e2 := toV_rel p3 hko
                    subst e2
                    obtain ⟨hp, hr⟩ := hH.write hb.1 hb.2 hg hι (o' := .map (es.set q.1 (ck, v, q.2.2.2)) clock) (ob' := .map (m.set q.1 ⟨kn, uv, q.2.2.2⟩).toArray clock) ⟨_, rfl, q3.set (ofV_rel hcks) hv q.1⟩ (w' := { w with heap := w.heap.setIfInBounds _ (.map (m.set q.1 ⟨kn, uv, q.2.2.2⟩).toArray clock) }) (by simp) (put_same q2) (fun k hk => put_other hk) rfl rfl rfl
                    refine ⟨_, ?_, hp, hr⟩
                    have hkr := prun_sound hkn w
                    simp only [Instr.mapUpdate, Sem.run_bind, run_underlying hd, Result.andThen_ok, run_getMap q2, hckr]
                    simp only [p6, Result.andThen_ok, Sem.run_bind]
                    have hkey : ((m.toArray[q.1]?).map (·.key)).getD uk = e.key := by simp [p1]
                    rw [hkey, hkr]
                    simp only [Result.andThen_ok]
                    rw [run_setObj q2 rfl, modify_set m q.1 _ p1]
                    rw [p5]
                  · cases h
                · cases h
              · cases h
            · rename_i hq
              have p6 := (findKey_sound hdk w q3 hq).2 rfl
              injection h with h; subst h
              obtain ⟨hp, hr⟩ := hH.write hb.1 hb.2 hg hι (o' := .map (es ++ [(ix, v, clock)]) (clock + 1)) (ob' := .map (m ++ [MapEntry.mk uk uv clock]).toArray (clock + 1)) ⟨_, rfl, q3.snoc hk hv⟩ (w' := { w with heap := w.heap.setIfInBounds _ (.map (m ++ [MapEntry.mk uk uv clock]).toArray (clock + 1)) }) (by simp) (put_same q2) (fun k hk => put_other hk) rfl rfl rfl
              refine ⟨_, ?_, hp, hr⟩
              simp only [Instr.mapUpdate, Sem.run_bind, run_underlying hd, Result.andThen_ok, run_getMap q2, hckr]
              simp only [p6, Result.andThen_ok]
              rw [run_setObj q2 rfl]
              simp
            · cases h
        · cases h
      · cases h
    · cases h
  · cases h

def cmapEntry (P : Program) (c : Ctx) (H : CH) (t : TypeId) (x ix : CV) : Option (CV × CH) :=
  match und P t with
  | some (.map kt et) =>
    match x with
    | .mp b => match H.tr.get b, toV ix, und P kt with
      | some (.map es clock), some k, some d =>
        match c.may b && small b, prun P (Instr.checkKey false 10000 kt k) with
        | true, some () =>
          match cfind P kt d k es 0 with
          | some (some q) => match toV q.2.1 with
            | some ko => match prun P (Instr.keyThatStays ko k) with
              | some kn => match ofV kn with
                | some ck => some (.tup [q.2.2.1, .int .i64 (q.2.2.2 : Nat)], H.put b (.map (es.set q.1 (ck, q.2.2.1, q.2.2.2)) clock))
                | none => none
              | none => none
            | none => none
          | some none => match inf P et with
            | some i => match i.zero with
              | some z => match ofV z with
                | some zc => some (.tup [zc, .int .i64 (clock : Nat)], H.put b (.map (es ++ [(ix, zc, clock)]) (clock + 1)))
                | none => none
              | none => none
            | none => none
          | none => none
        | _, _ => none
      | _, _, _ => none
    | _ => none
  | _ => none
theorem cmapEntry_sound {c : Ctx} {T : Nat} {ι : Emb} {H H' : CH} {w : World} (hH : HRel c T ι H w) {t : TypeId} {x ix v : CV} {u uk : Value} (h : cmapEntry P c H t x ix = some (v, H')) (hx : VRel ι x u) (hk : VRel ι ix uk) :
    ∃ w' r, (Instr.mapEntry t u uk).run P w = .ok r w' ∧ Post c ι H w ι H' w' ∧ HRel c T ι H' w' ∧ VRel ι v r := by
  unfold cmapEntry at h
  try simp only [inf_eq, und_eq] at h
  split at h
  · rename_i kt et hd
    split at h
    · rename_i b
      split at h
      · rename_i es clock k d hg hk0 hdk
        have e1 := toV_rel hk hk0
        subst e1
        split at h
        · rename_i hb hck
          simp only [Bool.and_eq_true] at hb
          have hckr := prun_sound hck w
          obtain ⟨r, C, ob, q1, q2, m, rfl, q3⟩ := hH.blk _ _ hg (may_vis hb.1)
          cases hx with
          | mp hι =>
            rw [hι] at q1; injection q1 with q1; injection q1 with q1 q1'; subst q1; subst q1'
            split at h
            · rename_i q hq
              obtain ⟨e, p1, p2, p3, p4, p5, p6⟩ := (findKey_sound hdk w q3 hq).1 q rfl
              split at h
              · rename_i ko hko
                split at h
                · rename_i kn hkn
                  split at h
                  · rename_i ck hcks
                    injection h with h; injection h with h1 h2; subst h1; subst h2
                    have e2 := toV_rel p3 hko
                    subst e2
                    obtain ⟨hp, hr⟩ := hH.write hb.1 hb.2 hg hι (o' := .map (es.set q.1 (ck, q.2.2.1, q.2.2.2)) clock) (ob' := .map (m.set q.1 ⟨kn, e.val, q.2.2.2⟩).toArray clock) ⟨_, rfl, q3.set (ofV_rel hcks) p4 q.1⟩ (w' := { w with heap := w.heap.setIfInBounds _ (.map (m.set q.1 ⟨kn, e.val, q.2.2.2⟩).toArray clock) }) (by simp) (put_same q2) (fun k hk => put_other hk) rfl rfl rfl
                    refine ⟨_, .tuple #[e.val, goInt q.2.2.2], ?_, hp, hr, VRel.tup (c' := [e.val, goInt q.2.2.2]) (.cons p4 (.cons (.int _ _) .nil))⟩
                    have hkr := prun_sound hkn w
                    simp only [Instr.mapEntry, Sem.run_bind, run_underlying hd, Result.andThen_ok, run_getMap q2, hckr]
                    simp only [p6, Result.andThen_ok, Sem.run_bind]
                    have hkey : ((m.toArray[q.1]?).map (·.key)).getD uk = e.key := by simp [p1]
                    rw [hkey, hkr]
                    simp only [Result.andThen_ok, Sem.run_bind]
                    rw [run_setObj q2 rfl, modify_set m q.1 _ p1]
                    rw [p5]
                    simp [p1, p5]
                  · cases h
                · cases h
              · cases h
            · rename_i hq
              have p6 := (findKey_sound hdk w q3 hq).2 rfl
              split at h
              · rename_i i hi
                split at h
                · rename_i z hz
                  split at h
                  · rename_i zc hzc
                    injection h with h; injection h with h1 h2; subst h1; subst h2
                    have hz' := run_zeroValue' hi hz w
                    obtain ⟨hp, hr⟩ := hH.write hb.1 hb.2 hg hι (o' := .map (es ++ [(ix, zc, clock)]) (clock + 1)) (ob' := .map (m ++ [MapEntry.mk uk z clock]).toArray (clock + 1)) ⟨_, rfl, q3.snoc hk (ofV_rel hzc)⟩ (w' := { w with heap := w.heap.setIfInBounds _ (.map (m ++ [MapEntry.mk uk z clock]).toArray (clock + 1)) }) (by simp) (put_same q2) (fun k hk => put_other hk) rfl rfl rfl
                    refine ⟨_, .tuple #[z, goInt clock], ?_, hp, hr, VRel.tup (c' := [z, goInt clock]) (.cons (ofV_rel hzc) (.cons (.int _ _) .nil))⟩
                    simp only [Instr.mapEntry, Sem.run_bind, run_underlying hd, Result.andThen_ok, run_getMap q2, hckr]
                    simp only [p6, Result.andThen_ok, Sem.run_bind, hz']
                    rw [run_setObj q2 rfl]
                    simp
                  · cases h
                · cases h
              · cases h
            · cases h
        · cases h
      · cases h
    · cases h
  · cases h

end
end Go.Proofs.YtokafjkinkafiaaGreat.Mini

namespace Go.Proofs.YtokafjkinkafiaaGreat.Mini
noncomputable section
open Go.RowKit
variable {P : Program}

theorem find_born {ι : Emb} {es : List (CV × CV × Nat)} {m : List MapEntry} (h : ERel ι es m) (n : Nat) : m.findIdx? (fun e => (e.born : Int) == (n : Int)) = es.findIdx? (fun e => Nat.beq e.2.2 n) := by
  induction h with
  | nil => rfl
  | cons hk hv t ih =>
    rename_i k v k' v' b l m
    simp only [List.findIdx?_cons, ih]
    have e : ((b : Int) == (n : Int)) = Nat.beq b n := by
      by_cases h : b = n
      · subst h; rw [beq_t rfl]; simp
      · rw [beq_f h]; simp; omega
    rw [e]

def centryStore (c : Ctx) (H : CH) (x stamp v : CV) : Option CH :=
  match x with
  | .mp b => match H.tr.get b, stamp with
    | some (.map es clock), .int _ (.ofNat n) =>
      match c.may b && small b with
      | true => match es.findIdx? (fun e => Nat.beq e.2.2 n) with
        | some i => match es[i]? with
          | some (k, _, bn) => some (H.put b (.map (es.set i (k, v, bn)) clock))
          | none => none
        | none => none
      | false => none
    | _, _ => none
  | _ => none
theorem centryStore_sound {c : Ctx} {T : Nat} {ι : Emb} {H H' : CH} {w : World} (hH : HRel c T ι H w) {t : TypeId} {x st v : CV} {u us uv : Value} (h : centryStore c H x st v = some H') (hx : VRel ι x u) (hs : VRel ι st us) (hv : VRel ι v uv) :
    ∃ w', (Instr.entryStore t u us uv).run P w = .ok () w' ∧ Post c ι H w ι H' w' ∧ HRel c T ι H' w' := by
  unfold centryStore at h
  split at h
  · rename_i b
    split at h
    · rename_i es clock kk n hg
      split at h
      · rename_i hb
        simp only [Bool.and_eq_true] at hb
        split at h
        · rename_i i hi
          split at h
          · rename_i k v0 bn hei
            injection h with h; subst h
            obtain ⟨r, C, ob, q1, q2, m, rfl, q3⟩ := hH.blk _ _ hg (may_vis hb.1)
            cases hs
            cases hx with
            | mp hι =>
              rw [hι] at q1; injection q1 with q1; injection q1 with q1 q1'; subst q1; subst q1'
              obtain ⟨e, p1, p2, p3, p4⟩ := q3.get hei
              have hf := find_born q3 n
              rw [hi] at hf
              obtain ⟨hp, hr⟩ := hH.write hb.1 hb.2 hg hι (o' := .map (es.set i (k, v, bn)) clock) (ob' := .map (m.set i (MapEntry.mk e.key uv bn)).toArray clock) ⟨_, rfl, q3.set p2 hv i⟩ (w' := { w with heap := w.heap.setIfInBounds _ (.map (m.set i (MapEntry.mk e.key uv bn)).toArray clock) }) (by simp) (put_same q2) (fun k hk => put_other hk) rfl rfl rfl
              refine ⟨_, ?_, hp, hr⟩
              have hf' : m.toArray.findIdx? (fun e => (e.born : Int) == (Int.ofNat n)) = some i := by
                rw [List.findIdx?_toArray]; exact hf
              simp only [Instr.entryStore, Sem.run_bind, Result.andThen_ok, run_getMap q2, asInt, asIntOf, Sem.run_pure, hf']
              rw [run_setObj q2 rfl, modify_set m i _ p1, p4]
          · cases h
        · cases h
      · cases h
    · cases h
  · cases h

def cclear (P : Program) (c : Ctx) (H : CH) (ts : List TypeId) (args : List CV) : Option (CV × CH) :=
  match ts, args with
  | t :: _, x :: _ =>
    match und P t, x with
    | some (.slice e), .sl b off n _ => match Nat.beq n 0 with
      | true => some (.tup [], H)
      | false => match czero P e with
        | some zs => match Nat.blt 0 zs.length with
          | true => match cput c H b off (crep (n * zs.length) zs) with
            | some H' => some (.tup [], H')
            | none => none
          | false => none
        | none => none
    | some (.slice _), .nils => some (.tup [], H)
    | some (.slice e), .slo b off _ n => match Nat.beq n 0 with
      | true => some (.tup [], H)
      | false => match czero P e with
        | some zs => match Nat.blt 0 zs.length with
          | true => match cput c H b off (crep (n * zs.length) zs) with
            | some H' => some (.tup [], H')
            | none => none
          | false => none
        | none => none
    | _, _ => none
  | _, _ => none
theorem crep_zero {ι : Emb} {n : Nat} {zs : List CV} {z : Array Value} (h : LRel ι zs z.toList) (hp : 0 < zs.length) : LRel ι (crep (n * zs.length) zs) (Builtin.zeroCells z n).toList := by
  have hl := h.length
  simp at hl
  rw [show n * zs.length = n * z.size from by rw [hl]]
  exact crep_rel (n := n * z.size) h (.inr hp)
theorem cclear_sound {c : Ctx} {T : Nat} {ι : Emb} {H H' : CH} {w : World} (hH : HRel c T ι H w) {ts : List TypeId} {args : List CV} {us : List Value} {v : CV} (h : cclear P c H ts args = some (v, H')) (ha : LRel ι args us) (ty : TypeId) :
    ∃ w' u, (Builtin.clear_ ts.toArray ty us.toArray).run P w = .ok u w' ∧ Post c ι H w ι H' w' ∧ HRel c T ι H' w' ∧ VRel ι v u := by
  unfold cclear at h
  try simp only [inf_eq, und_eq] at h
  split at h
  · rename_i t ts' x args'
    cases ha with
    | cons hx hrest =>
    rename_i ux m
    have hu : ∀ {ι : Emb}, VRel ι (.tup []) (.tuple #[]) := fun {ι} => VRel.tup (c' := []) .nil
    split at h
    · rename_i e b off n cp hd
      cases hx with
      | sl _ _ _ hι =>
      split at h
      · rename_i hn; have hn := Nat.eq_of_beq_eq_true hn; subst hn
        injection h with h; injection h with h1 h2; subst h1; subst h2
        exact ⟨w, _, by simp [Builtin.clear_, run_underlying hd], Post.refl _ _ _ _, hH, hu⟩
      · rename_i hn
        have hn : n ≠ 0 := fun e => by rw [e] at hn; cases hn
        split at h
        · rename_i zs hz
          split at h
          · rename_i hp
            split at h
            · rename_i H1 hput
              injection h with h; injection h with h1 h2; subst h1; subst h2
              obtain ⟨z, hz1, hz2⟩ := czero_sound hz w ι
              obtain ⟨r, C, w', p1, p2, p3, p4⟩ := cput_sound (P := P) hH hput (crep_zero (n := n) hz2 (by simpa [Nat.blt_eq] using hp))
              rw [hι] at p1; injection p1 with p1; injection p1 with p1 _; subst p1
              refine ⟨w', _, ?_, p3, p4, hu⟩
              obtain ⟨k, rfl⟩ := Nat.exists_eq_succ_of_ne_zero hn
              simp [Builtin.clear_, run_underlying hd, hz1, p2]
            · cases h
          · cases h
        · cases h
    · rename_i e hd
      injection h with h; injection h with h1 h2; subst h1; subst h2
      cases hx
      exact ⟨w, _, by simp [Builtin.clear_, run_underlying hd], Post.refl _ _ _ _, hH, hu⟩
    · rename_i e b off sk n hd
      cases hx with
      | slo _ _ _ hι =>
      split at h
      · rename_i hn; have hn := Nat.eq_of_beq_eq_true hn; subst hn
        injection h with h; injection h with h1 h2; subst h1; subst h2
        exact ⟨w, _, by simp [Builtin.clear_, run_underlying hd], Post.refl _ _ _ _, hH, hu⟩
      · rename_i hn
        have hn : n ≠ 0 := fun e => by rw [e] at hn; cases hn
        split at h
        · rename_i zs hz
          split at h
          · rename_i hp
            split at h
            · rename_i H1 hput
              injection h with h; injection h with h1 h2; subst h1; subst h2
              obtain ⟨z, hz1, hz2⟩ := czero_sound hz w ι
              obtain ⟨r, C, w', p1, p2, p3, p4⟩ := cput_sound (P := P) hH hput (crep_zero (n := n) hz2 (by simpa [Nat.blt_eq] using hp))
              rw [hι] at p1; injection p1 with p1; injection p1 with p1 _; subst p1
              refine ⟨w', _, ?_, p3, p4, hu⟩
              obtain ⟨k, rfl⟩ := Nat.exists_eq_succ_of_ne_zero hn
              simp [Builtin.clear_, run_underlying hd, hz1, p2]
            · cases h
          · cases h
        · cases h
    · cases h
  · cases h

def clen (P : Program) (c : Ctx) (H : CH) (ts : List TypeId) (args : List CV) : Option CV :=
  match ts, args with
  | t :: _, x :: _ =>
    match und P t with
    | some (.slice _) => match clenOf x with
      | some n => some (.int .i64 (n : Nat))
      | none => none
    | some (.array n _) => some (.int .i64 (n : Nat))
    | some (.map _ _) => match cmapOf c H x with
      | some (es, _) => some (.int .i64 (es.length : Nat))
      | none => none
    | some .string => match x with
      | .str s => some (.int .i64 (s.size : Nat))
      | _ => none
    | _ => none
  | _, _ => none
theorem clen_sound {c : Ctx} {T : Nat} {ι : Emb} {H : CH} {w : World} (hH : HRel c T ι H w) {ts : List TypeId} {args : List CV} {us : List Value} {v : CV} (h : clen P c H ts args = some v) (ha : LRel ι args us) (ty : TypeId) :
    ∃ u, (Builtin.len_ ts.toArray ty us.toArray).run P w = .ok u w ∧ VRel ι v u := by
  unfold clen at h
  try simp only [inf_eq, und_eq] at h
  split at h
  · rename_i t ts' x args'
    cases ha with
    | cons hx hrest =>
    split at h
    · rename_i e hd
      split at h
      · rename_i n hn
        injection h with h; subst h
        refine ⟨_, ?_, .int _ _⟩
        cases hx <;> first | (cases hn; done) | (simp only [clenOf, Option.some.injEq] at hn; subst hn; simp [Builtin.len_, run_underlying hd, goInt])
      · cases h
    · rename_i n e hd
      injection h with h; subst h
      exact ⟨_, by simp [Builtin.len_, run_underlying hd, goInt], .int _ _⟩
    · rename_i k e hd
      split at h
      · rename_i es clock hes
        injection h with h; subst h
        refine ⟨_, ?_, .int _ _⟩
        unfold cmapOf at hes
        split at hes
        · injection hes with hes; injection hes with h1 h2; subst h1; cases hx; simp [Builtin.len_, run_underlying hd, goInt]
        · split at hes
          · rename_i es' clock' hg
            split at hes
            · rename_i hv
              injection hes with hes; injection hes with h1 h2; subst h1; subst h2
              obtain ⟨r, C, ob, q1, q2, m, rfl, q3⟩ := hH.blk _ _ hg hv
              cases hx with
              | mp hι =>
                rw [hι] at q1; injection q1 with q1; injection q1 with q1 _; subst q1
                simp [Builtin.len_, run_underlying hd, goInt, run_getMap q2, q3.length]
            · cases hes
          · cases hes
        · cases hes
      · cases h
    · rename_i hd
      split at h
      · injection h with h; subst h
        cases hx
        exact ⟨_, by simp [Builtin.len_, run_underlying hd, goInt], .int _ _⟩
      · cases h
    · cases h
  · cases h

def cbuiltin (P : Program) (c : Ctx) (H : CH) (b : Builtin) (ts : List TypeId) (args : List CV) : Option (CV × CH) :=
  match b with
  | .append => cappend P c H ts args
  | .copy => ccopy P c H ts args
  | .clear => cclear P c H ts args
  | .len => match clen P c H ts args with
    | some v => some (v, H)
    | none => none
  | .max => match toVs args with
    | some vs => match viaP P (Builtin.max_ #[] 0 vs.toArray) with
      | some v => some (v, H)
      | none => none
    | none => none
  | .min => match toVs args with
    | some vs => match viaP P (Builtin.min_ #[] 0 vs.toArray) with
      | some v => some (v, H)
      | none => none
    | none => none
  | _ => none
theorem cbuiltin_sound {c : Ctx} {T : Nat} {ι : Emb} {H H' : CH} {w : World} (hH : HRel c T ι H w) (hT : H'.next ≤ T) {b : Builtin} {ts : List TypeId} {args : List CV} {us : List Value} {v : CV} (h : cbuiltin P c H b ts args = some (v, H')) (ha : LRel ι args us) (ty : TypeId) (cs : Array Bool) :
    ∃ ι' w' u, (builtin b ts.toArray ty cs us.toArray).run P w = .ok (.value u) w' ∧ Post c ι H w ι' H' w' ∧ HRel c T ι' H' w' ∧ VRel ι' v u := by
  unfold cbuiltin at h
  split at h
  · obtain ⟨ι', w', u, h1, h2⟩ := cappend_sound hH hT h ha ty
    exact ⟨ι', w', u, by simp [builtin, h1], h2⟩
  · obtain ⟨w', u, h1, h2⟩ := ccopy_sound hH h ha ty
    exact ⟨ι, w', u, by simp [builtin, h1], h2⟩
  · obtain ⟨w', u, h1, h2⟩ := cclear_sound hH h ha ty
    exact ⟨ι, w', u, by simp [builtin, h1], h2⟩
  · split at h
    · rename_i v' hv
      injection h with h; injection h with h1 h2; subst h1; subst h2
      obtain ⟨u, h1, h2⟩ := clen_sound hH hv ha ty
      exact ⟨ι, w, u, by simp [builtin, h1], Post.refl _ _ _ _, hH, h2⟩
    · cases h
  · split at h
    · rename_i vs hvs
      have := toVs_rel ha hvs
      subst this
      split at h
      · rename_i v' hv
        injection h with h; injection h with h1 h2; subst h1; subst h2
        obtain ⟨u, h1, h2⟩ := viaP_sound hv ι w
        exact ⟨ι, w, u, by show (do pure (Next.value (← Builtin.max_ ts.toArray ty us.toArray)) : Sem Next).run P w = _; rw [Sem.run_bind, show Builtin.max_ ts.toArray ty us.toArray = Builtin.max_ #[] 0 us.toArray from rfl, h1]; rfl, Post.refl _ _ _ _, hH, h2⟩
      · cases h
    · cases h
  · split at h
    · rename_i vs hvs
      have := toVs_rel ha hvs
      subst this
      split at h
      · rename_i v' hv
        injection h with h; injection h with h1 h2; subst h1; subst h2
        obtain ⟨u, h1, h2⟩ := viaP_sound hv ι w
        exact ⟨ι, w, u, by show (do pure (Next.value (← Builtin.min_ ts.toArray ty us.toArray)) : Sem Next).run P w = _; rw [Sem.run_bind, show Builtin.min_ ts.toArray ty us.toArray = Builtin.min_ #[] 0 us.toArray from rfl, h1]; rfl, Post.refl _ _ _ _, hH, h2⟩
      · cases h
    · cases h
  · cases h

/-- An operation that is no call of a function's. -/
def evOp (P : Program) (c : Ctx) (s : Tr CV) (H : CH) (o : Oper) : Option (CV × CH) :=
  let pureV (r : Option CV) : Option (CV × CH) := match r with | some v => some (v, H) | none => none
  let unit (r : Option CH) : Option (CV × CH) := match r with | some H' => some (.tup [], H') | none => none
  match o.op with
  | .move x => pureV (evC s x)
  | .assign x => pureV (evC s x)
  | .pick q a b => match evC s q with
    | some (.bool t) => match evC s a, evC s b with
      | some va, some vb => some ((match t with | true => va | false => vb), H)
      | _, _ => none
    | _ => none
  | .alloc t => calloc P H t
  | .box t x => match evC s x with
    | some v => cbox H t v
    | none => none
  | .build t parts => match evP s parts.toList with
    | some ps => pureV (cbuild P t ps)
    | none => none
  | .buildSlice t len parts => match evP s parts.toList with
    | some ps => cbuildSlice P H t len ps
    | none => none
  | .load t a => match evC s a with
    | some (.ptr b off) => pureV (cload P c H t b off)
    | _ => none
  | .store t a x => match evC s a, evC s x with
    | some (.ptr b off), some v => unit (cstore P c H t b off v)
    | _, _ => none
  | .nilCheck x => match evC s x with
    | some (.ptr b off) => some (.ptr b off, H)
    | some (.fn f a k) => some (.fn f a k, H)
    | some (.yl l) => some (.yl l, H)
    | _ => none
  | .binOp op t x y _ => match evC s x, evC s y with
    | some a, some b => pureV (cbin P op t x y a b)
    | _, _ => none
  | .unOp op _ x => match evC s x with
    | some a => match toV a with
      | some u => pureV (viaP P (Op.unary op u))
      | none => none
    | none => none
  | .convert src dst x => match evC s x with
    | some a => match toV a with
      | some u => pureV (viaP P (convert src dst u))
      | none => none
    | none => none
  | .makeFunc fn first captured => match fn, evL s first.toList, evL s captured.toList with
    | .func f, some a, some b => some (.fn f a b, H)
    | _, _, _ => none
  | .makeMap t r => match evO s r with
    | some v => cmakeMap P H t v
    | none => none
  | .makeSlice t l k => match evC s l, evC s k with
    | some a, some b => cmakeSlice P H t a b
    | _, _ => none
  | .slice t x lo hi mx => match evC s x, evO s lo, evO s hi, evO s mx with
    | some v, some l, some h, some m => pureV (cslice P c H t v l h m)
    | _, _, _, _ => none
  | .fieldAddr t x f => match evC s x with
    | some v => pureV (cfieldAddr P t v f)
    | none => none
  | .field t x f => match evC s x with
    | some v => pureV (cfield P t v f)
    | none => none
  | .indexAddr t x i => match evC s x, evC s i with
    | some v, some k => pureV (cindexAddr P t v k)
    | _, _ => none
  | .index t x i => match evC s x, evC s i with
    | some v, some k => pureV (cindex P t v k)
    | _, _ => none
  | .lookup t x i ok => match evC s x, evC s i with
    | some v, some k => pureV (clookup P c H t v k ok)
    | _, _ => none
  | .mapUpdate t m k x => match evC s m, evC s k, evC s x with
    | some a, some b, some d => unit (cmapUpdate P c H t a b d)
    | _, _, _ => none
  | .insert t m k x => match evC s m, evC s k, evC s x with
    | some a, some b, some d => unit (cmapUpdate P c H t a b d)
    | _, _, _ => none
  | .mapEntry t m k => match evC s m, evC s k with
    | some a, some b => cmapEntry P c H t a b
    | _, _ => none
  | .entryStore _ m k x => match evC s m, evC s k, evC s x with
    | some a, some b, some d => unit (centryStore c H a b d)
    | _, _, _ => none
  | .extract x i => match evC s x with
    | some (.tup vs) => pureV (vs[i]?)
    | _ => none
  | .call k => match k.callee with
    | .builtin b => match evL s k.args.toList with
      | some args => cbuiltin P c H b k.argTypes.toList args
      | none => none
    | _ => none
  | _ => none

/-- What an operation of the model's does: it hands back a value. -/
def Yields (P : Program) (ρ : Operand → Value) (o : Oper) (w : World) (u : Value) (w' : World) : Prop :=
  (execOp ρ o).run P w = .ok (.value u) w' ∨ ((execOp ρ o).run P w = .ok .skip w' ∧ u = undef)

theorem evOp_sound {c : Ctx} {T : Nat} {ι : Emb} {H H' : CH} {w : World} (hH : HRel c T ι H w) (hT : H'.next ≤ T) {s : Tr CV} {ρ : Operand → Value} {o : Oper} {v : CV} (he : Eval ι s ρ o.op.operands.toList) (h : evOp P c s H o = some (v, H')) :
    ∃ ι' w' u, Yields P ρ o w u w' ∧ Post c ι H w ι' H' w' ∧ HRel c T ι' H' w' ∧ VRel ι' v u := by
  have pv : ∀ (r : Option CV), (match r with | some v => some (v, H) | none => none) = some (v, H') → r = some v ∧ H' = H := fun r hr => by
    cases r with
    | none => cases hr
    | some v' => injection hr with hr; injection hr with h1 h2; subst h1; exact ⟨rfl, h2.symm⟩
  have pu : ∀ (r : Option CH), (match r with | some H' => some (CV.tup [], H') | none => none) = some (v, H') → r = some H' ∧ v = .tup [] := fun r hr => by
    cases r with
    | none => cases hr
    | some v' => injection hr with hr; injection hr with h1 h2; subst h2; exact ⟨rfl, h1.symm⟩
  have hu : ∀ {ι : Emb}, VRel ι (.tup []) undef := fun {ι} => VRel.tup (c' := []) .nil
  obtain ⟨dst, op, ty, pos, after, guard⟩ := o
  simp only at he
  cases op
  case move x =>
    obtain ⟨h1, rfl⟩ := pv _ h
    exact ⟨ι, w, _, .inl rfl, Post.refl _ _ _ _, hH, he x (by simp [Op.operands]) _ h1⟩
  case assign x =>
    obtain ⟨h1, rfl⟩ := pv _ h
    exact ⟨ι, w, _, .inl rfl, Post.refl _ _ _ _, hH, he x (by simp [Op.operands]) _ h1⟩
  case pick q a b =>
    simp only [evOp] at h
    split at h
    · rename_i t hq
      split at h
      · rename_i va vb h1 h2
        injection h with h; injection h with h3 h4; subst h3; subst h4
        have k1 := he q (by simp [Op.operands]) _ hq
        generalize hρ : ρ q = z at k1
        cases k1
        refine ⟨ι, w, (if t then ρ a else ρ b), .inl (by simp [execOp, hρ, asBool]), Post.refl _ _ _ _, hH, ?_⟩
        · cases t
          · exact he b (by simp [Op.operands]) _ h2
          · exact he a (by simp [Op.operands]) _ h1
      · cases h
    · cases h
  case alloc t =>
    obtain ⟨ι', w', u, h1, h2⟩ := calloc_sound hH hT h
    exact ⟨ι', w', u, .inl (by simp [execOp, h1]), h2⟩
  case box t x =>
    simp only [evOp] at h
    split at h
    · rename_i x' hx
      obtain ⟨ι', w', u, h1, h2⟩ := cbox_sound (P := P) hH hT h (he x (by simp [Op.operands]) _ hx)
      exact ⟨ι', w', u, .inl (by simp [execOp, h1]), h2⟩
    · cases h
  case build t parts =>
    simp only [evOp] at h
    split at h
    · rename_i ps hp
      obtain ⟨h1, rfl⟩ := pv _ h
      have hpr := he.parts (l := parts.toList) (fun x hx => by simp [Op.operands]; exact ⟨x.1, by simpa using hx⟩) hp
      obtain ⟨r, h2, h3⟩ := cbuild_sound h1 hpr w
      refine ⟨ι, w, r, .inl ?_, Post.refl _ _ _ _, hH, h3⟩
      have e : parts.map (fun x => (x.1, ρ x.2)) = (parts.toList.map fun x => (x.1, ρ x.2)).toArray := by apply Array.ext'; simp
      simp only [execOp, Sem.run_bind]
      rw [show (parts.map fun (i, x) => (i, ρ x)) = parts.map (fun x => (x.1, ρ x.2)) from rfl, e, h2]; rfl
    · cases h
  case buildSlice t len parts =>
    simp only [evOp] at h
    split at h
    · rename_i ps hp
      have hpr := he.parts (l := parts.toList) (fun x hx => by simp [Op.operands]; exact ⟨x.1, by simpa using hx⟩) hp
      obtain ⟨ι', w', r, h2, h3⟩ := cbuildSlice_sound hH hT h hpr
      refine ⟨ι', w', r, .inl ?_, h3⟩
      have e : parts.map (fun x => (x.1, ρ x.2)) = (parts.toList.map fun x => (x.1, ρ x.2)).toArray := by apply Array.ext'; simp
      simp only [execOp, Sem.run_bind]
      rw [show (parts.map fun (i, x) => (i, ρ x)) = parts.map (fun x => (x.1, ρ x.2)) from rfl, e, h2]; rfl
    · cases h
  case load t a =>
    simp only [evOp] at h
    split at h
    · rename_i b off ha
      obtain ⟨h1, rfl⟩ := pv _ h
      obtain ⟨r, C, u, h2, h3, h4⟩ := cload_sound hH h1
      have k1 := he a (by simp [Op.operands]) _ ha
      generalize hρ : ρ a = z at k1
      cases k1 with
      | ptr _ hι =>
        rw [hι] at h2; injection h2 with h2; injection h2 with h2 _; subst h2
        exact ⟨ι, w, u, .inl (by simp [execOp, hρ, Instr.loadAt, Instr.sureAddr, h4]), Post.refl _ _ _ _, hH, h3⟩
    · cases h
  case store t a x =>
    simp only [evOp] at h
    split at h
    · rename_i b off vx ha hx
      obtain ⟨h1, rfl⟩ := pu _ h
      obtain ⟨r, C, w', h2, h3, h4, h5⟩ := cstore_sound hH h1 (he x (by simp [Op.operands]) _ hx)
      have k1 := he a (by simp [Op.operands]) _ ha
      generalize hρ : ρ a = z at k1
      cases k1 with
      | ptr _ hι =>
        rw [hι] at h2; injection h2 with h2; injection h2 with h2 _; subst h2
        exact ⟨ι, w', undef, .inr ⟨by simp [execOp, hρ, Instr.storeAt, Instr.sureAddr, h3], rfl⟩, h4, h5, hu⟩
    · cases h
  case nilCheck x =>
    simp only [evOp] at h
    split at h
    · rename_i b off ha
      injection h with h; injection h with h3 h4; subst h3; subst h4
      have k1 := he x (by simp [Op.operands]) _ ha
      refine ⟨ι, w, ρ x, .inl ?_, Post.refl _ _ _ _, hH, k1⟩
      generalize hρ : ρ x = z at k1
      cases k1; simp [execOp, hρ]
    · rename_i f a k ha
      injection h with h; injection h with h3 h4; subst h3; subst h4
      have k1 := he x (by simp [Op.operands]) _ ha
      refine ⟨ι, w, ρ x, .inl ?_, Post.refl _ _ _ _, hH, k1⟩
      generalize hρ : ρ x = z at k1
      cases k1; simp [execOp, hρ]
    · rename_i l ha
      injection h with h; injection h with h3 h4; subst h3; subst h4
      have k1 := he x (by simp [Op.operands]) _ ha
      refine ⟨ι, w, ρ x, .inl ?_, Post.refl _ _ _ _, hH, k1⟩
      generalize hρ : ρ x = z at k1
      cases k1; simp [execOp, hρ]
    · cases h
  case binOp op t x y yt =>
    simp only [evOp] at h
    split at h
    · rename_i a b ha hb
      obtain ⟨h1, rfl⟩ := pv _ h
      obtain ⟨r, h2, h3⟩ := cbin_sound h1 (he x (by simp [Op.operands]) _ ha) (he y (by simp [Op.operands]) _ hb) w
      exact ⟨ι, w, r, .inl (by simp only [execOp]; rw [Sem.run_bind, h2]; rfl), Post.refl _ _ _ _, hH, h3⟩
    · cases h
  case unOp op t x =>
    simp only [evOp] at h
    split at h
    · rename_i a ha
      split at h
      · rename_i u hu'
        obtain ⟨h1, rfl⟩ := pv _ h
        have e1 := toV_rel (he x (by simp [Op.operands]) _ ha) hu'
        obtain ⟨r, h2, h3⟩ := viaP_sound h1 ι w
        exact ⟨ι, w, r, .inl (by simp [execOp, e1, h2]), Post.refl _ _ _ _, hH, h3⟩
      · cases h
    · cases h
  case convert src dst' x =>
    simp only [evOp] at h
    split at h
    · rename_i a ha
      split at h
      · rename_i u hu'
        obtain ⟨h1, rfl⟩ := pv _ h
        have e1 := toV_rel (he x (by simp [Op.operands]) _ ha) hu'
        obtain ⟨r, h2, h3⟩ := viaP_sound h1 ι w
        exact ⟨ι, w, r, .inl (by simp [execOp, e1, h2]), Post.refl _ _ _ _, hH, h3⟩
      · cases h
    · cases h
  case makeFunc fn first captured =>
    simp only [evOp] at h
    split at h
    · rename_i f a b h1 h2
      injection h with h; injection h with h3 h4; subst h3; subst h4
      have k1 := he.list (l := first.toList) (fun x hx => by simp [Op.operands]; left; simpa using hx) h1
      have k2 := he.list (l := captured.toList) (fun x hx => by simp [Op.operands]; right; simpa using hx) h2
      refine ⟨ι, w, _, .inl ?_, Post.refl _ _ _ _, hH, .fn f k1 k2⟩
      have e1 : (first.toList.map ρ).toArray = first.map ρ := by apply Array.ext'; simp
      have e2 : (captured.toList.map ρ).toArray = captured.map ρ := by apply Array.ext'; simp
      simp only [execOp, Instr.makeFunc, e1, e2]; rfl
    · cases h
  case makeMap t r =>
    simp only [evOp] at h
    split at h
    · rename_i r' hr
      obtain ⟨ι', w', u, h1, h2⟩ := cmakeMap_sound hH hT h (he.opt (fun x hx => by subst hx; simp [Op.operands]) hr)
      exact ⟨ι', w', u, .inl (by simp [execOp, h1]), h2⟩
    · cases h
  case makeSlice t l k =>
    simp only [evOp] at h
    split at h
    · rename_i a b ha hb
      obtain ⟨ι', w', u, h1, h2⟩ := cmakeSlice_sound hH hT h (he l (by simp [Op.operands]) _ ha) (he k (by simp [Op.operands]) _ hb)
      exact ⟨ι', w', u, .inl (by simp [execOp, h1]), h2⟩
    · cases h
  case slice t x lo hi mx =>
    simp only [evOp] at h
    split at h
    · rename_i a l hh m ha hl hhh hm
      obtain ⟨h1, rfl⟩ := pv _ h
      obtain ⟨r, h2, h3⟩ := cslice_sound (P := P) hH h1 (he x (by simp [Op.operands]) _ ha) (he.opt (fun x hx => by subst hx; simp [Op.operands]) hl) (he.opt (fun x hx => by subst hx; simp [Op.operands]) hhh) (he.opt (fun x hx => by subst hx; simp [Op.operands]) hm)
      exact ⟨ι, w, r, .inl (by simp [execOp, h2]), Post.refl _ _ _ _, hH, h3⟩
    · cases h
  case fieldAddr t x f =>
    simp only [evOp] at h
    split at h
    · rename_i a ha
      obtain ⟨h1, rfl⟩ := pv _ h
      obtain ⟨r, h2, h3⟩ := cfieldAddr_sound h1 (he x (by simp [Op.operands]) _ ha) w
      exact ⟨ι, w, r, .inl (by simp [execOp, h2]), Post.refl _ _ _ _, hH, h3⟩
    · cases h
  case field t x f =>
    simp only [evOp] at h
    split at h
    · rename_i a ha
      obtain ⟨h1, rfl⟩ := pv _ h
      obtain ⟨r, h2, h3⟩ := cfield_sound h1 (he x (by simp [Op.operands]) _ ha) w
      exact ⟨ι, w, r, .inl (by simp [execOp, h2]), Post.refl _ _ _ _, hH, h3⟩
    · cases h
  case indexAddr t x i =>
    simp only [evOp] at h
    split at h
    · rename_i a k ha hk
      obtain ⟨h1, rfl⟩ := pv _ h
      obtain ⟨r, h2, h3⟩ := cindexAddr_sound h1 (he x (by simp [Op.operands]) _ ha) (he i (by simp [Op.operands]) _ hk) w
      exact ⟨ι, w, r, .inl (by simp [execOp, h2]), Post.refl _ _ _ _, hH, h3⟩
    · cases h
  case index t x i =>
    simp only [evOp] at h
    split at h
    · rename_i a k ha hk
      obtain ⟨h1, rfl⟩ := pv _ h
      obtain ⟨r, h2, h3⟩ := cindex_sound h1 (he x (by simp [Op.operands]) _ ha) (he i (by simp [Op.operands]) _ hk) w
      exact ⟨ι, w, r, .inl (by simp [execOp, h2]), Post.refl _ _ _ _, hH, h3⟩
    · cases h
  case lookup t x i ok =>
    simp only [evOp] at h
    split at h
    · rename_i a k ha hk
      obtain ⟨h1, rfl⟩ := pv _ h
      obtain ⟨r, h2, h3⟩ := clookup_sound hH h1 (he x (by simp [Op.operands]) _ ha) (he i (by simp [Op.operands]) _ hk)
      exact ⟨ι, w, r, .inl (by simp [execOp, h2]), Post.refl _ _ _ _, hH, h3⟩
    · cases h
  case mapUpdate t m k x =>
    simp only [evOp] at h
    split at h
    · rename_i a b d ha hb hd
      obtain ⟨h1, rfl⟩ := pu _ h
      obtain ⟨w', h2, h3, h4⟩ := cmapUpdate_sound hH h1 (he m (by simp [Op.operands]) _ ha) (he k (by simp [Op.operands]) _ hb) (he x (by simp [Op.operands]) _ hd)
      exact ⟨ι, w', undef, .inr ⟨by simp [execOp, h2], rfl⟩, h3, h4, hu⟩
    · cases h
  case insert t m k x =>
    simp only [evOp] at h
    split at h
    · rename_i a b d ha hb hd
      obtain ⟨h1, rfl⟩ := pu _ h
      obtain ⟨w', h2, h3, h4⟩ := cmapUpdate_sound hH h1 (he m (by simp [Op.operands]) _ ha) (he k (by simp [Op.operands]) _ hb) (he x (by simp [Op.operands]) _ hd)
      exact ⟨ι, w', undef, .inr ⟨by simp [execOp, h2], rfl⟩, h3, h4, hu⟩
    · cases h
  case mapEntry t m k =>
    simp only [evOp] at h
    split at h
    · rename_i a b ha hb
      obtain ⟨w', r, h2, h3, h4, h5⟩ := cmapEntry_sound hH h (he m (by simp [Op.operands]) _ ha) (he k (by simp [Op.operands]) _ hb)
      exact ⟨ι, w', r, .inl (by simp [execOp, h2]), h3, h4, h5⟩
    · cases h
  case entryStore t m k x =>
    simp only [evOp] at h
    split at h
    · rename_i a b d ha hb hd
      obtain ⟨h1, rfl⟩ := pu _ h
      obtain ⟨w', h2, h3, h4⟩ := centryStore_sound (P := P) (t := t) hH h1 (he m (by simp [Op.operands]) _ ha) (he k (by simp [Op.operands]) _ hb) (he x (by simp [Op.operands]) _ hd)
      exact ⟨ι, w', undef, .inr ⟨by simp [execOp, h2], rfl⟩, h3, h4, hu⟩
    · cases h
  case extract x i =>
    simp only [evOp] at h
    split at h
    · rename_i vs ha
      obtain ⟨h1, rfl⟩ := pv _ h
      have k1 := he x (by simp [Op.operands]) _ ha
      generalize hρ : ρ x = z at k1
      cases k1 with
      | tup hl =>
        obtain ⟨u, h2, h3⟩ := hl.get h1
        exact ⟨ι, w, u, .inl (by simp [execOp, hρ, Instr.extract, h2]), Post.refl _ _ _ _, hH, h3⟩
    · cases h
  case call k =>
    simp only [evOp] at h
    split at h
    · rename_i b hb
      split at h
      · rename_i args ha
        have k1 := he.list (l := k.args.toList) (fun x hx => by simp [Op.operands, Call.operands]; right; simpa using hx) ha
        obtain ⟨ι', w', u, h1, h2⟩ := cbuiltin_sound hH hT h k1 ty (k.args.map fun | .const _ => true | _ => false)
        refine ⟨ι', w', u, .inl ?_, h2⟩
        have e1 : (k.args.toList.map ρ).toArray = k.args.map ρ := by apply Array.ext'; simp
        rw [e1, Array.toArray_toList] at h1
        simp only [execOp, Sem.run_bind, resolve, hb, Sem.run_pure, Result.andThen_ok, invoke]
        exact h1
      · cases h
    · cases h
  all_goals (simp only [evOp] at h; cases h)

end
end Go.Proofs.YtokafjkinkafiaaGreat.Mini

namespace Go.Proofs.YtokafjkinkafiaaGreat.Mini
noncomputable section
open Go.RowKit
variable {P : Program}

def NxtOk (H : CH) : Prop := ∀ b o, H.tr.get b = some o → b < H.next
structure Sta (c : Ctx) (H H' : CH) : Prop where
  next : H.next ≤ H'.next
  nxt : NxtOk H → NxtOk H'
  keep : NxtOk H → ∀ b, b < H.next → c.may b = false → H'.tr.get b = H.tr.get b
theorem Sta.refl (c : Ctx) (H : CH) : Sta c H H := ⟨Nat.le_refl _, id, fun _ _ _ _ => rfl⟩
theorem Sta.trans {c : Ctx} {H H1 H2 : CH} (h : Sta c H H1) (k : Sta c H1 H2) : Sta c H H2 :=
  ⟨Nat.le_trans h.next k.next, fun n => k.nxt (h.nxt n), fun n b hb hm => by rw [k.keep (h.nxt n) b (Nat.lt_of_lt_of_le hb h.next) hm, h.keep n b hb hm]⟩
theorem sta_add {c : Ctx} {H : CH} {o : CO} (hs : small H.next = true) : Sta c H (H.add o) := by
  have hget : ∀ b, (H.add o).tr.get b = if b = H.next then some o else H.tr.get b := fun b => Tr.get_set _ _ _ _ _ (small_deep hs)
  refine ⟨Nat.le_succ _, fun n b ob hg => ?_, fun _ b hb _ => by rw [hget, if_neg (by omega)]⟩
  rw [hget] at hg
  show b < H.next + 1
  by_cases e : b = H.next
  · omega
  · rw [if_neg e] at hg; have := n b ob hg; omega
theorem sta_put {c : Ctx} {H : CH} {b : Nat} {o o' : CO} (hm : c.may b = true) (hs : small b = true) (hg : H.tr.get b = some o) : Sta c H (H.put b o') := by
  have hget : ∀ x, (H.put b o').tr.get x = if x = b then some o' else H.tr.get x := fun x => Tr.get_set _ _ _ _ _ (small_deep hs)
  refine ⟨Nat.le_refl _, fun n x ox hx => ?_, fun _ x hx hmx => by rw [hget, if_neg (fun e => by rw [e, hm] at hmx; cases hmx)]⟩
  rw [hget] at hx
  by_cases e : x = b
  · subst e; exact n _ _ hg
  · rw [if_neg e] at hx; exact n _ _ hx
theorem sta_kill {c : Ctx} {H : CH} {b : Nat} (hm : c.may b = true) (hs : small b = true) : Sta c H (H.kill b) := by
  have hget : ∀ x, (H.kill b).tr.get x = if x = b then none else H.tr.get x := fun x => Tr.get_set _ _ _ _ _ (small_deep hs)
  refine ⟨Nat.le_refl _, fun n x ox hx => ?_, fun _ x hx hmx => by rw [hget, if_neg (fun e => by rw [e, hm] at hmx; cases hmx)]⟩
  rw [hget] at hx
  by_cases e : x = b
  · rw [if_pos e] at hx; cases hx
  · rw [if_neg e] at hx; exact n _ _ hx

theorem cput_sta {c : Ctx} {H H' : CH} {b off : Nat} {new : List CV} (h : cput c H b off new = some H') : Sta c H H' := by
  unfold cput at h
  split at h
  · rename_i hg
    split at h
    · cases h
    · split at h
      · rename_i hc
        simp only [Bool.and_eq_true] at hc
        injection h with h; subst h
        exact sta_put hc.1.1.1 hc.1.1.2 hg
      · cases h
  · cases h
theorem cputS_sta {c : Ctx} {H H' : CH} {b off : Nat} {new : List CV} (h : cputS c H b off new = some H') : Sta c H H' := by
  unfold cputS at h
  split at h
  · rename_i h1
    injection h with h; subst h
    exact cput_sta h1
  · unfold cputSame at h
    split at h
    · split at h
      · cases h
      · split at h
        · injection h with h; subst h; exact Sta.refl _ _
        · cases h
    · cases h
theorem cstore_sta {c : Ctx} {H H' : CH} {t : TypeId} {b off : Nat} {v : CV} (h : cstore P c H t b off v = some H') : Sta c H H' := by
  unfold cstore at h
  split at h
  · split at h
    · exact cputS_sta h
    · cases h
  · cases h
theorem calloc_sta {c : Ctx} {H H' : CH} {t : TypeId} {v : CV} (h : calloc P H t = some (v, H')) : Sta c H H' := by
  unfold calloc at h
  split at h
  · split at h
    · rename_i hs; injection h with h; injection h with _ h; subst h; exact sta_add hs
    · cases h
  · cases h
theorem cbox_sta {c : Ctx} {H H' : CH} {t : TypeId} {x v : CV} (h : cbox H t x = some (v, H')) : Sta c H H' := by
  unfold cbox at h
  split at h
  · rename_i hs; injection h with h; injection h with _ h; subst h; exact sta_add hs
  · cases h
theorem cbuildSlice_sta {c : Ctx} {H H' : CH} {t : TypeId} {n : Nat} {ps : List (Nat × CV)} {v : CV} (h : cbuildSlice P H t n ps = some (v, H')) : Sta c H H' := by
  unfold cbuildSlice at h
  split at h
  · split at h
    · split at h
      · rename_i hb
        simp only [Bool.and_eq_true] at hb
        split at h
        · split at h
          · split at h
            · injection h with h; injection h with _ h; subst h; exact sta_add hb.2
            · cases h
          · cases h
        · cases h
      · cases h
    · cases h
  · cases h
theorem cmakeSlice_sta {c : Ctx} {H H' : CH} {t : TypeId} {l k v : CV} (h : cmakeSlice P H t l k = some (v, H')) : Sta c H H' := by
  unfold cmakeSlice at h
  split at h
  · split at h
    · split at h
      · split at h
        · rename_i hb
          simp only [Bool.and_eq_true] at hb
          split at h
          · split at h
            · injection h with h; injection h with _ h; subst h; exact sta_add hb.2
            · cases h
          · cases h
        · cases h
      · cases h
    · cases h
  · cases h
theorem cmakeMap_sta {c : Ctx} {H H' : CH} {t : TypeId} {r : Option CV} {v : CV} (h : cmakeMap P H t r = some (v, H')) : Sta c H H' := by
  unfold cmakeMap at h
  split at h
  · rename_i hs
    split at h
    · injection h with h; injection h with _ h; subst h; exact sta_add hs
    · split at h
      · split at h
        · injection h with h; injection h with _ h; subst h; exact sta_add hs
        · cases h
      · cases h
  · cases h
theorem ccopy_sta {c : Ctx} {H H' : CH} {ts : List TypeId} {as : List CV} {v : CV} (h : ccopy P c H ts as = some (v, H')) : Sta c H H' := by
  unfold ccopy at h
  split at h
  · split at h
    · split at h
      · split at h
        · split at h
          · split at h
            · injection h with h; injection h with _ h; subst h; exact Sta.refl _ _
            · split at h
              · rename_i hp; injection h with h; injection h with _ h; subst h; exact cput_sta hp
              · cases h
            · split at h
              · rename_i hp; injection h with h; injection h with _ h; subst h; exact cput_sta hp
              · cases h
            · cases h
          · cases h
        · cases h
      · cases h
    · cases h
  · cases h
theorem cclear_sta {c : Ctx} {H H' : CH} {ts : List TypeId} {as : List CV} {v : CV} (h : cclear P c H ts as = some (v, H')) : Sta c H H' := by
  have one : ∀ {e : TypeId} {b off n : Nat}, (match Nat.beq n 0 with
      | true => some (CV.tup [], H)
      | false => match czero P e with
        | some zs => match Nat.blt 0 zs.length with
          | true => match cput c H b off (crep (n * zs.length) zs) with
            | some H' => some (CV.tup [], H')
            | none => none
          | false => none
        | none => none) = some (v, H') → Sta c H H' := by
    intro e b off n h
    split at h
    · injection h with h; injection h with _ h; subst h; exact Sta.refl _ _
    · split at h
      · split at h
        · split at h
          · rename_i hp; injection h with h; injection h with _ h; subst h; exact cput_sta hp
          · cases h
        · cases h
      · cases h
  unfold cclear at h
  split at h
  · split at h
    · exact one h
    · injection h with h; injection h with _ h; subst h; exact Sta.refl _ _
    · exact one h
    · cases h
  · cases h
theorem cmapUpdate_sta {c : Ctx} {H H' : CH} {t : TypeId} {x k v : CV} (h : cmapUpdate P c H t x k v = some H') : Sta c H H' := by
  unfold cmapUpdate at h
  split at h
  · split at h
    · split at h
      · rename_i hg _ _
        split at h
        · rename_i hb _
          simp only [Bool.and_eq_true] at hb
          split at h
          · split at h
            · split at h
              · split at h
                · injection h with h; subst h; exact sta_put hb.1 hb.2 hg
                · cases h
              · cases h
            · cases h
          · injection h with h; subst h; exact sta_put hb.1 hb.2 hg
          · cases h
        · cases h
      · cases h
    · cases h
  · cases h
theorem cmapEntry_sta {c : Ctx} {H H' : CH} {t : TypeId} {x k v : CV} (h : cmapEntry P c H t x k = some (v, H')) : Sta c H H' := by
  unfold cmapEntry at h
  split at h
  · split at h
    · split at h
      · rename_i hg _ _
        split at h
        · rename_i hb _
          simp only [Bool.and_eq_true] at hb
          split at h
          · split at h
            · split at h
              · split at h
                · injection h with h; injection h with _ h; subst h; exact sta_put hb.1 hb.2 hg
                · cases h
              · cases h
            · cases h
          · split at h
            · split at h
              · split at h
                · injection h with h; injection h with _ h; subst h; exact sta_put hb.1 hb.2 hg
                · cases h
              · cases h
            · cases h
          · cases h
        · cases h
      · cases h
    · cases h
  · cases h
theorem centryStore_sta {c : Ctx} {H H' : CH} {x k v : CV} (h : centryStore c H x k v = some H') : Sta c H H' := by
  unfold centryStore at h
  split at h
  · split at h
    · rename_i hg
      split at h
      · rename_i hb
        simp only [Bool.and_eq_true] at hb
        split at h
        · split at h
          · injection h with h; subst h; exact sta_put hb.1 hb.2 hg
          · cases h
        · cases h
      · cases h
    · cases h
  · cases h
theorem cappend_sta {c : Ctx} {H H' : CH} {ts : List TypeId} {as : List CV} {v : CV} (h : cappend P c H ts as = some (v, H')) : Sta c H H' := by
  unfold cappend at h
  split at h
  · split at h
    · split at h
      · split at h
        · split at h
          · split at h
            · cases h
            · rename_i hb
              simp only [Bool.and_eq_true] at hb
              have hs := hb.1.1.1
              split at h
              · split at h
                · injection h with h; injection h with _ h; subst h; exact Sta.refl _ _
                · injection h with h; injection h with _ h; subst h; exact sta_add hs
              · split at h
                · split at h
                  · rename_i hp; injection h with h; injection h with _ h; subst h; exact cput_sta hp
                  · cases h
                · split at h
                  · injection h with h; injection h with _ h; subst h; exact sta_add hs
                  · cases h
              · split at h
                · split at h
                  · injection h with h; injection h with _ h; subst h; exact Sta.refl _ _
                  · cases h
                · split at h
                  · split at h
                    · rename_i hq
                      simp only [Bool.and_eq_true] at hq
                      injection h with h; injection h with _ h; subst h
                      exact (sta_kill hq.1.1.1.1.2 hq.1.1.1.2).trans (sta_add hs)
                    · cases h
                  · cases h
              · cases h
          · cases h
        · cases h
      · cases h
    · cases h
  · cases h
theorem cbuiltin_sta {c : Ctx} {H H' : CH} {b : Builtin} {ts : List TypeId} {as : List CV} {v : CV} (h : cbuiltin P c H b ts as = some (v, H')) : Sta c H H' := by
  unfold cbuiltin at h
  split at h
  · exact cappend_sta h
  · exact ccopy_sta h
  · exact cclear_sta h
  · split at h
    · injection h with h; injection h with _ h; subst h; exact Sta.refl _ _
    · cases h
  · split at h
    · split at h
      · injection h with h; injection h with _ h; subst h; exact Sta.refl _ _
      · cases h
    · cases h
  · split at h
    · split at h
      · injection h with h; injection h with _ h; subst h; exact Sta.refl _ _
      · cases h
    · cases h
  · cases h

theorem evOp_sta {c : Ctx} {s : Tr CV} {H H' : CH} {o : Oper} {v : CV} (h : evOp P c s H o = some (v, H')) : Sta c H H' := by
  have pv : ∀ (r : Option CV), (match r with | some v => some (v, H) | none => none) = some (v, H') → Sta c H H' := fun r hr => by
    cases r with
    | none => cases hr
    | some v' => injection hr with hr; injection hr with h1 h2; subst h2; exact Sta.refl _ _
  have pu : ∀ (r : Option CH), (∀ H1, r = some H1 → Sta c H H1) → (match r with | some H' => some (CV.tup [], H') | none => none) = some (v, H') → Sta c H H' := fun r hs hr => by
    cases r with
    | none => cases hr
    | some v' => injection hr with hr; injection hr with h1 h2; subst h2; exact hs _ rfl
  obtain ⟨dst, op, ty, pos, after, guard⟩ := o
  cases op
  all_goals simp only [evOp] at h
  case move => exact pv _ h
  case assign => exact pv _ h
  case alloc => exact calloc_sta h
  case call k =>
    split at h
    · split at h
      · exact cbuiltin_sta h
      · cases h
    · cases h
  case box => split at h <;> first | exact cbox_sta h | cases h
  case buildSlice => split at h <;> first | exact cbuildSlice_sta h | cases h
  case makeMap => split at h <;> first | exact cmakeMap_sta h | cases h
  case makeSlice => split at h <;> first | exact cmakeSlice_sta h | cases h
  case mapEntry => split at h <;> first | exact cmapEntry_sta h | cases h
  case store => split at h <;> first | exact pu _ (fun _ => cstore_sta) h | cases h
  case mapUpdate => split at h <;> first | exact pu _ (fun _ => cmapUpdate_sta) h | cases h
  case insert => split at h <;> first | exact pu _ (fun _ => cmapUpdate_sta) h | cases h
  case entryStore => split at h <;> first | exact pu _ (fun _ => centryStore_sta) h | cases h
  case nilCheck =>
    split at h
    · injection h with h; injection h with _ h; subst h; exact Sta.refl _ _
    · injection h with h; injection h with _ h; subst h; exact Sta.refl _ _
    · injection h with h; injection h with _ h; subst h; exact Sta.refl _ _
    · cases h
  case pick =>
    split at h
    · split at h
      · injection h with h; injection h with _ h; subst h; exact Sta.refl _ _
      · cases h
    · cases h
  case makeFunc =>
    split at h
    · injection h with h; injection h with _ h; subst h; exact Sta.refl _ _
    · cases h
  case unOp => split at h <;> first | (split at h <;> first | exact pv _ h | cases h) | cases h
  case convert => split at h <;> first | (split at h <;> first | exact pv _ h | cases h) | cases h
  all_goals first
    | (cases h; done)
    | (split at h <;> first | exact pv _ h | (cases h; done))

end
end Go.Proofs.YtokafjkinkafiaaGreat.Mini

namespace Go.Proofs.YtokafjkinkafiaaGreat.Mini
noncomputable section
open Go.RowKit
variable {P : Program}

inductive DRel (ι : Emb) : List Nat → List Deferred → Prop
  | nil : DRel ι [] []
  | cons {b r C : Nat} {l : List Nat} {m : List Deferred} (h : ι b = some (r, C)) (t : DRel ι l m) : DRel ι (b :: l) ({ target := .collected r, args := #[] } :: m)
theorem DRel.mono {ι ι' : Emb} (hι : ι.le ι') {l : List Nat} {m : List Deferred} (h : DRel ι l m) : DRel ι' l m := by
  induction h with
  | nil => exact .nil
  | cons h _ ih => exact .cons (hι _ _ h) ih

structure FR (ι : Emb) (s : Tr CV) (n : Nat) (ds : List Nat) (a : Act) : Prop where
  slots : Slots ι s a.tmps
  size : a.tmps.size = n
  dfr : DRel ι ds a.defers
theorem FR.mono {ι ι' : Emb} {s : Tr CV} {n : Nat} {ds : List Nat} {a : Act} (h : FR ι s n ds a) (hι : ι.le ι') : FR ι' s n ds a := ⟨h.slots.mono hι, h.size, h.dfr.mono hι⟩

def okDst (n : Nat) : Option Tmp → Bool
  | none => true
  | some d => small d && Nat.blt d n
def putDst (s : Tr CV) (d : Option Tmp) (v : CV) : Tr CV :=
  match d with
  | none => s
  | some d => Tr.set deep s d (some v)
theorem FR.put {ι : Emb} {s : Tr CV} {n : Nat} {ds : List Nat} {a : Act} (h : FR ι s n ds a) {d : Option Tmp} (hd : okDst n d = true) {v : CV} {u : Value} (hv : VRel ι v u) : FR ι (putDst s d v) n ds (a.put d u) := by
  cases d with
  | none => exact h
  | some d =>
    simp only [okDst, Bool.and_eq_true] at hd
    have hlt : d < a.tmps.size := by rw [h.size]; simpa [Nat.blt_eq] using hd.2
    exact ⟨h.slots.put hv hd.1 hlt, by simp [Act.put, h.size], h.dfr⟩

/-- Is an operation wanted? -/
def cyield (ops : Array Oper) (s : Tr CV) (j : Nat) : Option Bool :=
  match (ops[j]?).bind (·.dst) with
  | some d => match s.get d with
    | some (.bool b) => some b
    | _ => none
  | none => none
def cwanted (ops : Array Oper) (s : Tr CV) (o : Oper) : Bool :=
  match o.guard with
  | none => true
  | some (j, want) => match cyield ops s j with
    | some b => b == want
    | none => false
theorem cyield_spec {ι : Emb} {ops : Array Oper} {s : Tr CV} {tm : Array Value} {j : Nat} (h : ∀ d, (ops[j]?).bind (·.dst) = some d → d < tm.size ∧ VRel ι ((s.get d).getD (.tup [])) (tm.getD d undef)) : yielded ops tm j = cyield ops s j := by
  unfold yielded cyield
  cases hd : (ops[j]?).bind (·.dst) with
  | none => rfl
  | some d =>
    obtain ⟨h1, h2⟩ := h d hd
    have e : tm[d]? = some (tm.getD d undef) := by simp [Array.getD, h1]
    simp only [Option.bind_some, e]
    generalize tm.getD d undef = u at h2
    cases hg : s.get d with
    | none => rw [hg] at h2; cases h2; rfl
    | some v => rw [hg] at h2; simp only [Option.getD_some] at h2; cases h2 <;> rfl
theorem cwanted_spec {ops : Array Oper} {s : Tr CV} {tm : Array Value} {o : Oper} (h : ∀ j want, o.guard = some (j, want) → yielded ops tm j = cyield ops s j) : Region.wanted o (yielded ops tm) = cwanted ops s o := by
  unfold Region.wanted cwanted
  cases hg : o.guard with
  | none => rfl
  | some q =>
    obtain ⟨j, want⟩ := q
    simp only
    rw [h j want hg]
    cases cyield ops s j with
    | none => rfl
    | some b => cases b <;> cases want <;> rfl

/-- An operation of a region: whatever frame runs it. -/
def OpSim (P : Program) (c : Ctx) (s : Tr CV) (H : CH) (o : Oper) (v : CV) (H' : CH) : Prop :=
  Sta c H H' ∧ ∀ (T : Nat) (ι : Emb) (w : World) (a : Act), H'.next ≤ T → Eval ι s a.eval o.op.operands.toList → HRel c T ι H w →
    ∃ ι' w' u, Post c ι H w ι' H' w' ∧ HRel c T ι' H' w' ∧ VRel ι' v u ∧
      ∀ (b : Frame) (ops : Array Oper) (i : Nat) (rest : List Nat) (k : List Item) (cs : List Frame), ops[i]? = some o → Region.wanted o (yielded ops a.tmps) = true →
        Steps P (lone (b.atR a (.inRegion ops (i :: rest) :: k)) cs w) (lone (b.atR (a.put o.dst u) (.inRegion ops rest :: k)) cs w')

/-- What a call leads to. -/
def Leads (P : Program) (u : Value) (w' : World) : Next → World → Prop
  | .enter f as, w1 => ∀ c cs, Steps P (lone (Frame.enter P f as .normal) (c :: cs) w1) (lone (c.finish u) cs w')
  | .round l f tm asg bd, w1 => ∀ c cs, Steps P (lone (Frame.round l f tm asg bd .normal) (c :: cs) w1) (lone (c.finish u) cs w')
  | _, _ => False
def CallSim (P : Program) (c : Ctx) (fv : CV) (args : List CV) (H : CH) (v : CV) (H' : CH) : Prop :=
  Sta c H H' ∧ ∀ (T : Nat) (ι : Emb) (w : World) (f : Value) (us : List Value), H'.next ≤ T → VRel ι fv f → LRel ι args us → HRel c T ι H w →
    ∃ ι' w' u, Post c ι H w ι' H' w' ∧ HRel c T ι' H' w' ∧ VRel ι' v u ∧
      ∃ nx w1, (do let d ← Deferred.ofValue f us.toArray; invoke d.target d.args : Sem Next).run P w = .ok nx w1 ∧ Leads P u w' nx w1

/-- How a body ends. -/
def Fin (P : Program) (rnd : Bool) (fn : FuncId) (m : List Frame → World → Machine) (w w' : World) (u : Value) : Prop :=
  match rnd with
  | false => ∀ cs, ∃ fr, Steps P (m cs w) (lone fr cs w') ∧ fr.fn = fn ∧ fr.leaving P w' (.returned u)
  | true => ∀ c cs, Steps P (m (c :: cs) w) (lone (c.finish u) cs w')
def RndRel (ι : Emb) : Option Nat → Option Nat → Prop
  | none, none => True
  | some l, some r => ∃ C, ι l = some (r, C)
  | _, _ => False
def RunSim (P : Program) (c : Ctx) (fn : FuncId) (n : Nat) (rnd : Option Nat) (s : Tr CV) (ds : List Nat) (todo : List Item) (H : CH) (v : CV) (H' : CH) : Prop :=
  Sta c H H' ∧ ∀ (T : Nat) (ι : Emb) (w : World) (a : Act) (b : Frame), H'.next ≤ T → b.kind = .normal → b.fn = fn → RndRel ι rnd b.roundOf → FR ι s n ds a → HRel c T ι H w →
    ∃ ι' w' u, Post c ι H w ι' H' w' ∧ HRel c T ι' H' w' ∧ VRel ι' v u ∧ Fin P rnd.isSome fn (fun cs w => lone (b.atR a todo) cs w) w w' u

theorem RndRel.mono {ι ι' : Emb} (hι : ι.le ι') {a b : Option Nat} (h : RndRel ι a b) : RndRel ι' a b := by
  cases a <;> cases b <;> simp only [RndRel] at h ⊢
  obtain ⟨C, h⟩ := h; exact ⟨C, hι _ _ h⟩

/-- Steps of the machine ahead of a run. -/
theorem Fin.steps {rnd : Bool} {fn : FuncId} {m m1 : List Frame → World → Machine} {w w1 w' : World} {u : Value} (h : ∀ cs, Steps P (m cs w) (m1 cs w1)) (k : Fin P rnd fn m1 w1 w' u) : Fin P rnd fn m w w' u := by
  cases rnd with
  | false => intro cs; obtain ⟨fr, h1, h2⟩ := k cs; exact ⟨fr, (h cs).trans h1, h2⟩
  | true => intro c cs; exact (h _).trans (k c cs)

/-- One item of the small machine: the world is the same. -/
theorem RunSim.step {c : Ctx} {fn : FuncId} {n : Nat} {rnd : Option Nat} {s : Tr CV} {ds : List Nat} {todo todo' : List Item} {H H' : CH} {v : CV}
    (hs : ∀ (ι : Emb) (a : Act) (b : Frame) (cs : List Frame) (w : World), FR ι s n ds a → Steps P (lone (b.atR a todo) cs w) (lone (b.atR a todo') cs w))
    (h : RunSim P c fn n rnd s ds todo' H v H') : RunSim P c fn n rnd s ds todo H v H' := by
  refine ⟨h.1, ?_⟩
  intro T ι w a b hT hk hf hr hF hH
  obtain ⟨ι', w', u, h1, h2, h3, h4⟩ := h.2 T ι w a b hT hk hf hr hF hH
  exact ⟨ι', w', u, h1, h2, h3, h4.steps (fun cs => hs ι a b cs w hF)⟩

theorem stepR_inScope {b : Frame} {a : Act} {k : List Item} {cs : List Frame} {w : World} {c : Code} : step P (lone (b.atR a (.inScope c :: k)) cs w) = .next (lone (b.atR a k) cs w) :=
  step_lone_go (by simp [stepG, stepG.exec, Frame.atR])
theorem stepR_scope {b : Frame} {a : Act} {k : List Item} {cs : List Frame} {w : World} {c : Code} : step P (lone (b.atR a (.code (.scope c) :: k)) cs w) = .next (lone (b.atR a (.code c :: .inScope c :: k)) cs w) :=
  step_lone_go (by simp [stepG, stepG.exec, Frame.atR])

/-! ### The end of a body -/
def cresults (P : Program) (c : Ctx) (s : Tr CV) (H : CH) : List ResultVar → Option (List CV)
  | [] => some []
  | .tmp t :: l => match cresults P c s H l with
    | some vs => some ((s.get t).getD (.tup []) :: vs)
    | none => none
  | .cell t ty :: l => match s.get t with
    | some (.ptr b off) => match cload P c H ty b off with
      | some v => match cresults P c s H l with
        | some vs => some (v :: vs)
        | none => none
      | none => none
    | _ => none
def cresult : List CV → CV
  | [v] => v
  | vs => .tup vs
theorem cresults_sound {c : Ctx} {T : Nat} {ι : Emb} {H : CH} {w : World} (hH : HRel c T ι H w) {s : Tr CV} {tm : Array Value} (hs : Slots ι s tm) : ∀ {rs : List ResultVar} {vs : List CV}, cresults P c s H rs = some vs →
    ∃ us, (rs.mapM (fun | .tmp t => pure (tm.getD t undef) | .cell a t => do loadVar t (← asAddr (tm.getD a undef)) : ResultVar → Sem Value)).run P w = .ok us w ∧ LRel ι vs us := by
  intro rs
  induction rs with
  | nil => intro vs h; simp only [cresults] at h; injection h with h; subst h; exact ⟨[], rfl, .nil⟩
  | cons r rs ih =>
    intro vs h
    cases r with
    | tmp t =>
      simp only [cresults] at h
      split at h
      · rename_i vs' hvs
        injection h with h; subst h
        obtain ⟨us, h1, h2⟩ := ih hvs
        refine ⟨tm.getD t undef :: us, ?_, .cons (hs t) h2⟩
        rw [List.mapM_cons]
        simp only [Sem.run_bind, Sem.run_pure, Result.andThen_ok, h1]
      · cases h
    | cell t ty =>
      simp only [cresults] at h
      split at h
      · rename_i b off hg
        split at h
        · rename_i v hv
          split at h
          · rename_i vs' hvs
            injection h with h; subst h
            obtain ⟨us, h1, h2⟩ := ih hvs
            obtain ⟨r, C, u, q1, q2, q3⟩ := cload_sound (P := P) hH hv
            have hp := hs t
            rw [hg, Option.getD_some] at hp
            refine ⟨u :: us, ?_, .cons q2 h2⟩
            rw [List.mapM_cons]
            generalize hz : tm.getD t undef = z at hp
            cases hp with
            | ptr _ hι =>
              rename_i r0 C0
              rw [hι] at q1; injection q1 with q1; injection q1 with q1 _; subst q1
              have ha : (asAddr (tm.getD t undef)).run P w = .ok ⟨r0, off, none⟩ w := by rw [hz]; rfl
              simp only [Sem.run_bind, ha, Sem.run_pure, Result.andThen_ok, q3, h1]
          · cases h
        · cases h
      · cases h
theorem results_sound {c : Ctx} {T : Nat} {ι : Emb} {H : CH} {w : World} (hH : HRel c T ι H w) {s : Tr CV} {tm : Array Value} (hs : Slots ι s tm) {F : Func} {vs : List CV} (h : cresults P c s H F.results.toList = some vs) :
    ∃ u, (results F tm).run P w = .ok u w ∧ VRel ι (cresult vs) u := by
  obtain ⟨us, h1, h2⟩ := cresults_sound (P := P) hH hs h
  have hm : (F.results.mapM (fun | .tmp t => pure (tm.getD t undef) | .cell a t => do loadVar t (← asAddr (tm.getD a undef)) : ResultVar → Sem Value)).run P w = .ok us.toArray w := by
    rw [← Array.toArray_toList (xs := F.results), List.mapM_toArray]
    simp only [Sem.run_map, h1, Result.andThen_ok]
  refine ⟨(if h : us.toArray.size = 1 then us.toArray[0] else .tuple us.toArray), ?_, ?_⟩
  · unfold results
    rw [Sem.run_bind]
    refine (congrArg (fun r => Result.andThen r _) hm).trans ?_
    rfl
  · cases h2 with
    | nil => exact VRel.tup (c' := []) .nil
    | cons hv t =>
      cases t with
      | nil => simpa [cresult] using hv
      | cons hv2 t => exact VRel.tup (c' := _ :: _ :: _) (.cons hv (.cons hv2 t))

/-- The blocks for deferred calls, taken. -/
def ctake (c : Ctx) : CH → List Nat → Option CH
  | H, [] => some H
  | H, b :: l => match H.tr.get b with
    | some (.dfd true) => match c.may b && small b with
      | true => ctake c (H.put b (.dfd false)) l
      | false => none
    | _ => none
theorem step_take {fr : Frame} {cs : List Frame} {w w' : World} {r : Nat} {ds : List Deferred} (hm : fr.mode = .returning) (hd : fr.defers = { target := .collected r, args := #[] } :: ds) (ht : (Instr.takeDeferred r).run P w = .ok [] w') :
    step P (lone fr cs w) = .next (lone { fr with defers := ds } cs w') :=
  step_lone_go (by simp [stepG, unwind, hm, hd, Sem.runT_eq, ht])
theorem ctake_sound {c : Ctx} {T : Nat} {ι : Emb} : ∀ {ds : List Nat} {H H' : CH} {w : World} {dd : List Deferred}, H.next ≤ T → HRel c T ι H w → DRel ι ds dd → ctake c H ds = some H' →
    ∃ w', Post c ι H w ι H' w' ∧ HRel c T ι H' w' ∧ ∀ (fr : Frame) (cs : List Frame), fr.mode = .returning → fr.defers = dd → Steps P (lone fr cs w) (lone { fr with defers := [] } cs w') := by
  intro ds
  induction ds with
  | nil =>
    intro H H' w dd hT hH hd h
    cases hd
    simp only [ctake] at h; injection h with h; subst h
    refine ⟨w, Post.refl _ _ _ _, hH, fun fr cs _ hd => ?_⟩
    have : { fr with defers := [] } = fr := by cases fr; simp at hd; subst hd; rfl
    rw [this]; exact Steps.refl _ _
  | cons b ds ih =>
    intro H H' w dd hT hH hd h
    cases hd with
    | cons hι t =>
      rename_i r C m
      simp only [ctake] at h
      split at h
      · rename_i hg
        split at h
        · rename_i hb
          simp only [Bool.and_eq_true] at hb
          obtain ⟨r', C', ob, q1, q2, q3⟩ := hH.blk _ _ hg (may_vis hb.1)
          rw [hι] at q1; injection q1 with q1; injection q1 with q1 _; subst q1
          have q3 : ob = .deferred (some []) := q3
          subst q3
          obtain ⟨p1, p2⟩ := hH.write hb.1 hb.2 hg hι (o' := .dfd false) (ob' := .deferred none) rfl (w' := { w with heap := w.heap.setIfInBounds r (.deferred none) }) (by simp) (put_same q2) (fun k hk => put_other hk) rfl rfl rfl
          obtain ⟨w', k1, k2, k3⟩ := ih (show (H.put b (.dfd false)).next ≤ T from hT) p2 t h
          refine ⟨w', Post.trans hH p2 hT p1 k1, k2, fun fr cs hm hd => ?_⟩
          have ht : (Instr.takeDeferred r).run P w = .ok [] { w with heap := w.heap.setIfInBounds r (.deferred none) } := by
            have hgo : (getObj r).run P w = .ok (.deferred (some [])) w := by simp [getObj, Sem.run, q2]
            simp only [Instr.takeDeferred, Sem.run_bind, hgo, Result.andThen_ok]
            rw [run_setObj q2 rfl]; rfl
          exact .head (step_take hm hd ht) (k3 { fr with defers := m } cs hm rfl)
        · cases h
      · cases h

end
end Go.Proofs.YtokafjkinkafiaaGreat.Mini

namespace Go.Proofs.YtokafjkinkafiaaGreat.Mini
noncomputable section
open Go.RowKit
variable {P : Program}

structure Plan where
  i : Nat
  o : Oper
  m : Nat
  hid : List Nat
  own : List Nat

def rng (hid : List Nat) : List (Nat × Nat × Nat) → List (Nat × Nat)
  | [] => []
  | (j, r) :: rs => match hid.any (Nat.beq j) with
    | true => r :: rng hid rs
    | false => rng hid rs
theorem rng_spec {hid : List Nat} {rs : List (Nat × Nat × Nat)} {q : Nat × Nat} : q ∈ rng hid rs ↔ ∃ j, (j, q) ∈ rs ∧ j ∈ hid := by
  induction rs with
  | nil => simp [rng]
  | cons x rs ih =>
    obtain ⟨j, r⟩ := x
    simp only [rng]
    have hm : hid.any (Nat.beq j) = true ↔ j ∈ hid := by
      rw [List.any_eq_true]
      constructor
      · rintro ⟨x, hx, he⟩; rw [Nat.eq_of_beq_eq_true he]; exact hx
      · intro h; exact ⟨j, h, Nat.beq_refl j⟩
    split
    · rename_i h
      rw [List.mem_cons, ih]
      constructor
      · rintro (rfl | ⟨j', h1, h2⟩)
        · exact ⟨j, by simp, hm.1 h⟩
        · exact ⟨j', by simp [h1], h2⟩
      · rintro ⟨j', h1, h2⟩
        rcases List.mem_cons.1 h1 with h1 | h1
        · injection h1 with _ h1; exact .inl h1
        · exact .inr ⟨j', h1, h2⟩
    · rename_i h
      rw [ih]
      constructor
      · rintro ⟨j', h1, h2⟩; exact ⟨j', by simp [h1], h2⟩
      · rintro ⟨j', h1, h2⟩
        rcases List.mem_cons.1 h1 with h1 | h1
        · injection h1 with h1 _; subst h1; rw [hm.2 h2] at h; cases h
        · exact ⟨j', h1, h2⟩

def ctxAt (c : Ctx) (p : Plan) (rs : List (Nat × Nat × Nat)) (H : CH) : Ctx :=
  match p.m with
  | 1 => ⟨H.next, rng p.hid rs ++ c.forb, []⟩
  | 3 => ⟨H.next, rng p.hid rs ++ c.forb, rng p.own rs⟩
  | _ => c
def heapAt (p : Plan) (H : CH) : CH :=
  match p.m with
  | 0 => ⟨.leaf, H.next⟩
  | _ => H

structure Stp (P : Program) (c : Ctx) (n : Nat) (ops : Array Oper) (p : Plan) (s : Tr CV) (rs : List (Nat × Nat × Nat)) (H : CH) (v : CV) (H1 : CH) : Prop where
  dst : okDst n p.o.dst = true
  ok : (cwanted ops s p.o = false ∧ v = .tup [] ∧ H1 = H) ∨
    (cwanted ops s p.o = true ∧ ∃ H2, OpSim P (ctxAt c p rs H) s (heapAt p H) p.o v H2 ∧ (p.m = 0 → H2.next = H.next ∧ H1 = H) ∧ (p.m ≠ 0 → H1 = H2) ∧ (p.m = 3 → H2.next = H.next ∧ ∀ q ∈ rng p.own rs, c.floor ≤ q.1 ∧ ∀ x ∈ c.forb, x.2 ≤ q.1))

inductive Chain (P : Program) (c : Ctx) (n : Nat) (ops : Array Oper) : Tr CV → List (Nat × Nat × Nat) → CH → List Plan → Tr CV → CH → Prop
  | nil {s : Tr CV} {rs : List (Nat × Nat × Nat)} {H : CH} : Chain P c n ops s rs H [] s H
  | cons {s : Tr CV} {rs : List (Nat × Nat × Nat)} {H : CH} {p : Plan} {v : CV} {H1 : CH} {pl : List Plan} {s' : Tr CV} {H' : CH} (h : Stp P c n ops p s rs H v H1)
      (t : Chain P c n ops (putDst s p.o.dst v) ((p.i, H.next, H1.next) :: rs) H1 pl s' H') : Chain P c n ops s rs H (p :: pl) s' H'

theorem may3 {c : Ctx} {p : Plan} {rs : List (Nat × Nat × Nat)} {H : CH} (hm : p.m = 3) {b : Nat} (hb : b < H.next) (hn : ∀ q ∈ rng p.own rs, ¬ (q.1 ≤ b ∧ b < q.2)) : (ctxAt c p rs H).may b = false := by
  simp only [ctxAt, hm, Ctx.may]
  have h1 : Nat.ble H.next b = false := by
    cases h : Nat.ble H.next b with
    | false => rfl
    | true => have := Nat.le_of_ble_eq_true h; omega
  have h2 : (rng p.own rs).any (fun p => Nat.ble p.1 b && Nat.blt b p.2) = false := by
    rw [List.any_eq_false]
    intro q hq
    have := hn q hq
    simp only [Bool.and_eq_true, Nat.ble_eq, Nat.blt_eq]
    exact this
  rw [h1, h2]; rfl
theorem may1 {c : Ctx} {p : Plan} {rs : List (Nat × Nat × Nat)} {H : CH} (hm : p.m = 1) {b : Nat} (hb : b < H.next) : (ctxAt c p rs H).may b = false := by
  simp only [ctxAt, hm, Ctx.may]
  have h1 : Nat.ble H.next b = false := by
    cases h : Nat.ble H.next b with
    | false => rfl
    | true => have := Nat.le_of_ble_eq_true h; omega
  rw [h1]; rfl
theorem heapAt_of {p : Plan} {H : CH} (hm : p.m ≠ 0) : heapAt p H = H := by unfold heapAt; split <;> simp_all
theorem ctxAt_of {c : Ctx} {p : Plan} {rs : List (Nat × Nat × Nat)} {H : CH} (h1 : p.m ≠ 1) (h3 : p.m ≠ 3) : ctxAt c p rs H = c := by unfold ctxAt; split <;> simp_all
theorem Stp.sta {c : Ctx} {n : Nat} {ops : Array Oper} {p : Plan} {s : Tr CV} {rs : List (Nat × Nat × Nat)} {H H1 : CH} {v : CV} (h : Stp P c n ops p s rs H v H1) : Sta c H H1 := by
  rcases h.ok with ⟨_, _, rfl⟩ | ⟨_, H2, ho, h0, h1, h3⟩
  · exact Sta.refl _ _
  · by_cases hm : p.m = 0
    · obtain ⟨_, rfl⟩ := h0 hm; exact Sta.refl _ _
    · have e := h1 hm; subst e
      have hs := ho.1
      rw [heapAt_of hm] at hs
      by_cases h1m : p.m = 1
      · exact ⟨hs.next, hs.nxt, fun hn b hb _ => hs.keep hn b hb (may1 h1m hb)⟩
      · by_cases h3m : p.m = 3
        · obtain ⟨_, hown⟩ := h3 h3m
          refine ⟨hs.next, hs.nxt, fun hn b hb hmb => hs.keep hn b hb (may3 h3m hb (fun q hq hin => ?_))⟩
          obtain ⟨g1, g2⟩ := hown q hq
          have : c.may b = true := by
            simp only [Ctx.may, Ctx.vis, Bool.and_eq_true, Bool.or_eq_true, List.all_eq_true, Nat.ble_eq, Nat.blt_eq]
            exact ⟨.inl (by omega), fun x hx => .inr (by have := g2 x hx; omega)⟩
          rw [this] at hmb; cases hmb
        · rw [ctxAt_of h1m h3m] at hs; exact hs
/-- What an operation that is not an ordered one leaves. -/
theorem Stp.keep {c : Ctx} {n : Nat} {ops : Array Oper} {p : Plan} {s : Tr CV} {rs : List (Nat × Nat × Nat)} {H H1 : CH} {v : CV} (h : Stp P c n ops p s rs H v H1) (hm : p.m ≠ 2) (hm2 : p.m ≤ 3) (hn : NxtOk H) : ∀ b, b < H.next → (p.m = 3 → ∀ q ∈ rng p.own rs, ¬ (q.1 ≤ b ∧ b < q.2)) → H1.tr.get b = H.tr.get b := by
  intro b hb hno
  rcases h.ok with ⟨_, _, rfl⟩ | ⟨_, H2, ho, h0, h1, h3⟩
  · rfl
  · by_cases hm0 : p.m = 0
    · obtain ⟨_, rfl⟩ := h0 hm0; rfl
    · have e := h1 hm0; subst e
      have hs := ho.1
      rw [heapAt_of hm0] at hs
      by_cases h1m : p.m = 1
      · exact hs.keep hn b hb (may1 h1m hb)
      · have h3m : p.m = 3 := by omega
        exact hs.keep hn b hb (may3 h3m hb (hno h3m))
theorem Chain.sta {c : Ctx} {n : Nat} {ops : Array Oper} {s s' : Tr CV} {rs : List (Nat × Nat × Nat)} {H H' : CH} {pl : List Plan} (h : Chain P c n ops s rs H pl s' H') : Sta c H H' := by
  induction h with
  | nil => exact Sta.refl _ _
  | cons h _ ih => exact h.sta.trans ih

/-- What comes ahead of what. -/
inductive Bef (ops : Array Oper) : Nat → Nat → Prop
  | edge {k : Nat} {o : Oper} {e : Edge} (ho : ops[k]? = some o) (he : e ∈ o.after) (hb : Region.binds .any e = true) : Bef ops e.on k
  | more {j k : Nat} {o : Oper} {e : Edge} (ho : ops[k]? = some o) (he : e ∈ o.after) (hb : Region.binds .any e = true) (t : Bef ops j e.on) : Bef ops j k

def readsOf (ops : Array Oper) (o : Oper) : List Tmp :=
  (o.op.operands.toList.filterMap fun | .tmp t => some t | _ => none) ++
  (match o.guard with
   | some (j, _) => ((ops[j]?).bind (·.dst)).toList
   | none => [])

structure Dr (P : Program) (c : Ctx) (n : Nat) (ops : Array Oper) (pf : Nat → Plan) (sq : Nat → Tr CV) (Hq : Nat → CH) (vq : Nat → CV) (rq : Nat → List (Nat × Nat × Nat)) : Prop where
  op : ∀ k, k < ops.size → ops[k]? = some (pf k).o
  stp : ∀ k, k < ops.size → Stp P c n ops (pf k) (sq k) (rq k) (Hq k) (vq k) (Hq (k + 1))
  sn : ∀ k, k < ops.size → sq (k + 1) = putDst (sq k) (pf k).o.dst (vq k)
  rq1 : ∀ k, k ≤ ops.size → ∀ x ∈ rq k, ∃ j, j < k ∧ x = (j, (Hq j).next, (Hq (j + 1)).next)
  rq2 : ∀ k, k ≤ ops.size → ∀ j, j < k → (j, (Hq j).next, (Hq (j + 1)).next) ∈ rq k
  edge : ∀ k o, ops[k]? = some o → ∀ e ∈ o.after, Region.binds .any e = true → e.on < k
  dst : ∀ j k d, j < ops.size → k < ops.size → (pf j).o.dst = some d → (pf k).o.dst = some d → j = k
  reads : ∀ k, k < ops.size → ∀ t ∈ readsOf ops (pf k).o, ∀ j, j < ops.size → (pf j).o.dst = some t → Bef ops j k
  free : ∀ k, k < ops.size → (pf k).m = 1 ∨ (pf k).m = 3 → ∀ j, j < k → (pf j).m ≠ 0 → (pf j).m ≠ 2 ∧ (Bef ops j k ∨ j ∈ (pf k).hid)
  ord : ∀ k, k < ops.size → (pf k).m = 2 → ∀ j, j < k → (pf j).m ≠ 0 → Bef ops j k
  own1 : ∀ k, k < ops.size → (pf k).m = 3 → ∀ j ∈ (pf k).own, j < k ∧ Bef ops j k ∧ (pf j).m = 1 ∧ j ∉ (pf k).hid
  own2 : ∀ k k' j, k < ops.size → k' < ops.size → (pf k).m = 3 → (pf k').m = 3 → j ∈ (pf k).own → j ∈ (pf k').own → k = k'
  own3 : ∀ k, k < ops.size → (pf k).m = 3 → ∀ j ∈ (pf k).own, ∀ i, i < ops.size → (pf i).m ≠ 0 → Bef ops j i → i = k ∨ Bef ops i k ∨ Bef ops k i
  ms : ∀ k, (pf k).m ≤ 3

theorem Bef.lt {ops : Array Oper} (he : ∀ k o, ops[k]? = some o → ∀ e ∈ o.after, Region.binds .any e = true → e.on < k) {j k : Nat} (h : Bef ops j k) : j < k := by
  induction h with
  | edge ho h1 hb => exact he _ _ ho _ h1 hb
  | more ho h1 hb _ ih => exact Nat.lt_trans ih (he _ _ ho _ h1 hb)

/-- Whatever is listed, all ahead of it is. -/
def Closed (ops : Array Oper) (S : Nat → Prop) : Prop := ∀ k o, ops[k]? = some o → S k → ∀ e ∈ o.after, Region.binds .any e = true → S e.on
theorem Bef.listed {ops : Array Oper} {S : Nat → Prop} (hc : Closed ops S) {j k : Nat} (h : Bef ops j k) : S k → S j := by
  induction h with
  | edge ho h1 hb => exact fun hk => hc _ _ ho hk _ h1 hb
  | more ho h1 hb _ ih => exact fun hk => ih (hc _ _ ho hk _ h1 hb)
theorem Bef.ready {ops : Array Oper} {S : Nat → Prop} (hc : Closed ops S) {j k : Nat} (h : Bef ops j k) (hr : ∀ o, ops[k]? = some o → ∀ e ∈ o.after, Region.binds .any e = true → S e.on) : S j := by
  cases h with
  | edge ho h1 hb => exact hr _ ho _ h1 hb
  | more ho h1 hb t => exact t.listed hc (hr _ ho _ h1 hb)

section
variable {c : Ctx} {n : Nat} {ops : Array Oper} {pf : Nat → Plan} {sq : Nat → Tr CV} {Hq : Nat → CH} {vq : Nat → CV} {rq : Nat → List (Nat × Nat × Nat)}

theorem Dr.mono (D : Dr P c n ops pf sq Hq vq rq) : ∀ {j k : Nat}, j ≤ k → k ≤ ops.size → (Hq j).next ≤ (Hq k).next := by
  intro j k hjk hk
  induction k with
  | zero => have : j = 0 := by omega
            subst this; exact Nat.le_refl _
  | succ k ih =>
    rcases Nat.lt_or_ge k j with h | h
    · have : j = k + 1 := by omega
      subst this; exact Nat.le_refl _
    · exact Nat.le_trans (ih h (by omega)) (D.stp k (by omega)).sta.next
theorem Dr.nxt (D : Dr P c n ops pf sq Hq vq rq) (h0 : NxtOk (Hq 0)) : ∀ k, k ≤ ops.size → NxtOk (Hq k) := by
  intro k
  induction k with
  | zero => intro _; exact h0
  | succ k ih => intro hk; exact (D.stp k (by omega)).sta.nxt (ih (by omega))
/-- Operation e may write what operation j made. -/
def Owns (pf : Nat → Plan) (e j : Nat) : Prop := (pf e).m = 3 ∧ j ∈ (pf e).own
theorem Dr.mem_rng (D : Dr P c n ops pf sq Hq vq rq) {k : Nat} (hk : k ≤ ops.size) {l : List Nat} {q : Nat × Nat} (h : q ∈ rng l (rq k)) : ∃ j, j < k ∧ j ∈ l ∧ q = ((Hq j).next, (Hq (j + 1)).next) := by
  obtain ⟨j, h1, h2⟩ := rng_spec.1 h
  obtain ⟨i, h3, h4⟩ := D.rq1 k hk _ h1
  injection h4 with h4 h5
  subst h4
  exact ⟨j, h3, h2, h5⟩
/-- Free operations leave what there was. -/
theorem Dr.same (D : Dr P c n ops pf sq Hq vq rq) (h0 : NxtOk (Hq 0)) {i : Nat} : ∀ {k : Nat}, i ≤ k → k ≤ ops.size → (∀ j, i ≤ j → j < k → (pf j).m ≠ 2) → ∀ b, b < (Hq i).next → (∀ e j, i ≤ e → e < k → Owns pf e j → ¬ ((Hq j).next ≤ b ∧ b < (Hq (j + 1)).next)) → (Hq k).tr.get b = (Hq i).tr.get b := by
  intro k hik hk
  induction k with
  | zero => intro _ b _ _; have : i = 0 := by omega
            subst this; rfl
  | succ k ih =>
    intro hm b hb hno
    rcases Nat.lt_or_ge k i with h | h
    · have : i = k + 1 := by omega
      subst this; rfl
    · rw [(D.stp k (by omega)).keep (hm k h (by omega)) (D.ms k) (D.nxt h0 k (by omega)) b (Nat.lt_of_lt_of_le hb (D.mono h (by omega))) (fun h3 q hq => by
        obtain ⟨j, _, h5, rfl⟩ := D.mem_rng (by omega) hq
        exact hno k j h (by omega) ⟨h3, h5⟩), ih h (by omega) (fun j h1 h2 => hm j h1 (by omega)) b hb (fun e j h1 h2 => hno e j h1 (by omega))]
/-- Which operation made a block. -/
theorem Dr.maker (D : Dr P c n ops pf sq Hq vq rq) : ∀ {k : Nat}, k ≤ ops.size → ∀ b, (Hq 0).next ≤ b → b < (Hq k).next → ∃ j, j < k ∧ (Hq j).next ≤ b ∧ b < (Hq (j + 1)).next := by
  intro k
  induction k with
  | zero => intro _ b h1 h2; omega
  | succ k ih =>
    intro hk b h1 h2
    rcases Nat.lt_or_ge b (Hq k).next with h | h
    · obtain ⟨j, h3, h4⟩ := ih (by omega) b h1 h; exact ⟨j, by omega, h4⟩
    · exact ⟨k, by omega, h, h2⟩
theorem Dr.pure_next (D : Dr P c n ops pf sq Hq vq rq) {k : Nat} (hk : k < ops.size) (hm : (pf k).m = 0) : Hq (k + 1) = Hq k := by
  rcases (D.stp k hk).ok with ⟨_, _, h⟩ | ⟨_, H2, _, h0, _⟩
  · exact h
  · exact (h0 hm).2
theorem Dr.own_next (D : Dr P c n ops pf sq Hq vq rq) {k : Nat} (hk : k < ops.size) (hm : (pf k).m = 3) : (Hq (k + 1)).next = (Hq k).next := by
  rcases (D.stp k hk).ok with ⟨_, _, h⟩ | ⟨_, H2, _, _, h1, h3⟩
  · rw [h]
  · rw [h1 (by omega)]; exact (h3 hm).1
theorem Dr.apart (D : Dr P c n ops pf sq Hq vq rq) {j k b : Nat} (hj : j < ops.size) (hk : k < ops.size) (h1 : (Hq j).next ≤ b) (h2 : b < (Hq (j + 1)).next) (h3 : (Hq k).next ≤ b) (h4 : b < (Hq (k + 1)).next) : j = k := by
  rcases Nat.lt_trichotomy j k with h | h | h
  · have := D.mono (j := j + 1) (k := k) h (by omega); omega
  · exact h
  · have := D.mono (j := k + 1) (k := j) h (by omega); omega

/-- The slots on the way. -/
structure SlotsOn (ops : Array Oper) (pf : Nat → Plan) (vq : Nat → CV) (S : Nat → Prop) (n : Nat) (a0 : Act) (ι : Emb) (a : Act) : Prop where
  size : a.tmps.size = n
  dfr : a.defers = a0.defers
  old : ∀ t, (∀ j, j < ops.size → S j → (pf j).o.dst ≠ some t) → a.tmps.getD t undef = a0.tmps.getD t undef
  new : ∀ j t, j < ops.size → S j → (pf j).o.dst = some t → VRel ι (vq j) (a.tmps.getD t undef)
theorem SlotsOn.mono {S : Nat → Prop} {a0 a : Act} {ι ι' : Emb} (h : SlotsOn ops pf vq S n a0 ι a) (hι : ι.le ι') : SlotsOn ops pf vq S n a0 ι' a := ⟨h.size, h.dfr, h.old, fun j t h1 h2 h3 => (h.new j t h1 h2 h3).mono hι⟩
theorem SlotsOn.put (D : Dr P c n ops pf sq Hq vq rq) {S : Nat → Prop} {a0 a : Act} {ι : Emb} (h : SlotsOn ops pf vq S n a0 ι a) {k : Nat} (hk : k < ops.size) {u : Value} (hu : VRel ι (vq k) u) : SlotsOn ops pf vq (fun j => j = k ∨ S j) n a0 ι (a.put (pf k).o.dst u) := by
  have hd := (D.stp k hk).dst
  cases hdk : (pf k).o.dst with
  | none =>
    refine ⟨h.size, h.dfr, fun t ht => h.old t (fun j hj hs => ht j hj (.inr hs)), fun j t hj hs hjt => ?_⟩
    rcases hs with rfl | hs
    · rw [hdk] at hjt; cases hjt
    · exact h.new j t hj hs hjt
  | some d =>
    rw [hdk] at hd
    simp only [okDst, Bool.and_eq_true] at hd
    have hlt : d < a.tmps.size := by rw [h.size]; simpa [Nat.blt_eq] using hd.2
    refine ⟨by simp [Act.put, h.size], h.dfr, fun t ht => ?_, fun j t hj hs hjt => ?_⟩
    · have hne : t ≠ d := fun e => ht k hk (.inl rfl) (by rw [hdk, e])
      simp only [Act.put, Array.getD_eq_getD_getElem?]
      rw [Array.getElem?_setIfInBounds_ne (fun e => hne e.symm)]
      rw [← Array.getD_eq_getD_getElem?, ← Array.getD_eq_getD_getElem?]
      exact h.old t (fun j hj hs => ht j hj (.inr hs))
    · by_cases e : j = k
      · subst e
        rw [hdk] at hjt; injection hjt with hjt; subst hjt
        simpa [Act.put, Array.getD, hlt] using hu
      · have hs : S j := by rcases hs with h1 | h1; exact absurd h1 e; exact h1
        have hne : t ≠ d := fun et => e (D.dst j k d hj hk (by rw [hjt, et]) hdk)
        have := h.new j t hj hs hjt
        simp only [Act.put, Array.getD_eq_getD_getElem?] at this ⊢
        rw [Array.getElem?_setIfInBounds_ne (fun e => hne e.symm)]
        exact this

theorem putDst_get {s : Tr CV} {n : Nat} {d : Option Tmp} {v : CV} (hd : okDst n d = true) (t : Nat) : (putDst s d v).get t = if d = some t then some v else s.get t := by
  cases d with
  | none => simp [putDst]
  | some d =>
    simp only [okDst, Bool.and_eq_true] at hd
    simp only [putDst]
    rw [Tr.get_set _ _ _ _ _ (small_deep hd.1)]
    by_cases e : t = d
    · subst e; simp
    · rw [if_neg e, if_neg (fun h => e (by injection h with h; exact h.symm))]
theorem Dr.slot (D : Dr P c n ops pf sq Hq vq rq) (t : Nat) : ∀ k, k ≤ ops.size → (∀ j, j < k → (pf j).o.dst = some t → (sq k).get t = some (vq j)) ∧ ((∀ j, j < k → (pf j).o.dst ≠ some t) → (sq k).get t = (sq 0).get t) := by
  intro k
  induction k with
  | zero => intro _; exact ⟨fun j hj => by omega, fun _ => rfl⟩
  | succ k ih =>
    intro hk
    obtain ⟨i1, i2⟩ := ih (by omega)
    rw [D.sn k (by omega)]
    refine ⟨fun j hj hd => ?_, fun hn => ?_⟩
    · rw [putDst_get (D.stp k (by omega)).dst]
      by_cases e : j = k
      · subst e; rw [if_pos hd]
      · rw [if_neg (fun h => e (D.dst j k t (by omega) (by omega) hd h)), i1 j (by omega) hd]
    · rw [putDst_get (D.stp k (by omega)).dst, if_neg (hn k (by omega)), i2 (fun j hj => hn j (by omega))]

/-- A slot that operation k may look at. -/
theorem SlotsOn.at_ (D : Dr P c n ops pf sq Hq vq rq) {S : Nat → Prop} {a0 a : Act} {ι0 ι : Emb} (h : SlotsOn ops pf vq S n a0 ι a) (h0 : Slots ι0 (sq 0) a0.tmps) (hι : ι0.le ι) {k : Nat} (hk : k ≤ ops.size) {t : Nat}
    (ht : ∀ j, j < ops.size → (pf j).o.dst = some t → S j ∧ j < k) : VRel ι (((sq k).get t).getD (.tup [])) (a.tmps.getD t undef) := by
  by_cases he : ∃ j, j < ops.size ∧ (pf j).o.dst = some t
  · obtain ⟨j, hj, hd⟩ := he
    obtain ⟨hs, hjk⟩ := ht j hj hd
    rw [(D.slot t k hk).1 j hjk hd, Option.getD_some]
    exact h.new j t hj hs hd
  · have hn : ∀ j, j < ops.size → (pf j).o.dst ≠ some t := fun j hj hd => he ⟨j, hj, hd⟩
    rw [(D.slot t k hk).2 (fun j hj => hn j (by omega)), h.old t (fun j hj _ => hn j hj)]
    exact (h0 t).mono hι

theorem SlotsOn.eval (D : Dr P c n ops pf sq Hq vq rq) {S : Nat → Prop} {a0 a : Act} {ι0 ι : Emb} (h : SlotsOn ops pf vq S n a0 ι a) (h0 : Slots ι0 (sq 0) a0.tmps) (hι : ι0.le ι) {k : Nat} (hk : k < ops.size) (hb : ∀ j, Bef ops j k → S j) :
    Eval ι (sq k) a.eval (pf k).o.op.operands.toList ∧ Region.wanted (pf k).o (yielded ops a.tmps) = cwanted ops (sq k) (pf k).o := by
  have hat : ∀ t ∈ readsOf ops (pf k).o, VRel ι (((sq k).get t).getD (.tup [])) (a.tmps.getD t undef) := fun t ht => h.at_ D h0 hι (by omega) (fun j hj hd => by
    have := D.reads k hk t ht j hj hd
    exact ⟨hb j this, this.lt D.edge⟩)
  refine ⟨?_, ?_⟩
  · intro x hx v hv
    cases x with
    | tmp t =>
      have := hat t (by
        unfold readsOf
        refine List.mem_append.2 (.inl (List.mem_filterMap.2 ⟨.tmp t, hx, rfl⟩)))
      simp only [evC] at hv
      split at hv
      · rename_i v' hv'; injection hv with hv; subst hv; rw [hv'] at this; exact this
      · rename_i hv'; injection hv with hv; subst hv; rw [hv'] at this; exact this
    | const v' => exact ofV_rel hv
    | global g => simp [evC] at hv
    | func f => simp only [evC] at hv; injection hv with hv; subst hv; exact VRel.fn _ (a' := []) (c' := []) .nil .nil
  · refine cwanted_spec (fun j want hg => cyield_spec (ι := ι) (fun d hd => ?_))
    have hmem : d ∈ readsOf ops (pf k).o := by
      unfold readsOf
      rw [hg]
      refine List.mem_append.2 (.inr ?_)
      simp [hd]
    refine ⟨?_, hat d hmem⟩
    cases hoj : ops[j]? with
    | none => rw [hoj] at hd; cases hd
    | some oj =>
      rw [hoj] at hd
      have hj : j < ops.size := (Array.getElem?_eq_some_iff.1 hoj).1
      have := D.op j hj
      rw [hoj] at this; injection this with this
      have hdj : (pf j).o.dst = some d := by rw [← this]; exact hd
      have hdd := (D.stp j hj).dst
      rw [hdj] at hdd
      simp only [okDst, Bool.and_eq_true] at hdd
      rw [h.size]; simpa [Nat.blt_eq] using hdd.2
end

end
end Go.Proofs.YtokafjkinkafiaaGreat.Mini

namespace Go.Proofs.YtokafjkinkafiaaGreat.Mini
noncomputable section
open Go.RowKit
variable {P : Program}

section
variable {c : Ctx} {T : Nat} {n : Nat} {ops : Array Oper} {pf : Nat → Plan} {sq : Nat → Tr CV} {Hq : Nat → CH} {vq : Nat → CV} {rq : Nat → List (Nat × Nat × Nat)}

/-- By which operation a block that operation j made bears what it bears. -/
def Ver (ops : Array Oper) (pf : Nat → Plan) (S : Nat → Prop) (j e : Nat) : Prop :=
  (e = j ∧ ∀ k, k < ops.size → S k → ¬ Owns pf k j) ∨ (e < ops.size ∧ S e ∧ Owns pf e j)

/-- No ordered operation has been done yet. -/
structure PhA (c : Ctx) (T : Nat) (ops : Array Oper) (pf : Nat → Plan) (Hq : Nat → CH) (S : Nat → Prop) (ι0 : Emb) (w0 : World) (ι : Emb) (w : World) : Prop where
  noord : ∀ j, j < ops.size → S j → (pf j).m ≠ 2
  ext : ι0.le ι
  size : w0.heap.size ≤ w.heap.size
  os : w.os = w0.os
  tape : w.tape = w0.tape
  output : w.output = w0.output
  base : ∀ r, r < w0.heap.size → w.heap[r]? = w0.heap[r]?
  dom : ∀ b, (Hq 0).next ≤ b → b < T → (∀ j, j < ops.size → S j → (pf j).m = 1 → ¬ ((Hq j).next ≤ b ∧ b < (Hq (j + 1)).next)) → ι b = none
  rngd : ∀ b p, ι0 b = none → ι b = some p → (Hq 0).next ≤ b ∧ b < (Hq ops.size).next
  blk : ∀ j e, j < ops.size → S j → (pf j).m = 1 → Ver ops pf S j e → ∀ b o, (Hq j).next ≤ b → b < (Hq (j + 1)).next → (Hq (e + 1)).tr.get b = some o → c.vis b = true → ∃ r C ob, ι b = some (r, C) ∧ w.heap[r]? = some ob ∧ ORel ι C o ob
  fresh : ∀ b r C, ι0 b = none → ι b = some (r, C) → w0.heap.size ≤ r
  inj : ∀ j j' e e' b b' o o' r C C', j < ops.size → j' < ops.size → S j → S j' → (pf j).m = 1 → (pf j').m = 1 → Ver ops pf S j e → Ver ops pf S j' e' → (Hq j).next ≤ b → b < (Hq (j + 1)).next → (Hq j').next ≤ b' → b' < (Hq (j' + 1)).next → (Hq (e + 1)).tr.get b = some o → (Hq (e' + 1)).tr.get b' = some o' →
    c.vis b = true → c.vis b' = true → ι b = some (r, C) → ι b' = some (r, C') → b = b'

theorem PhA.start {ι0 : Emb} {w0 : World} (h : HRel c T ι0 (Hq 0) w0) : PhA c T ops pf Hq (fun _ => False) ι0 w0 ι0 w0 where
  noord := fun _ _ h => h.elim
  ext := Emb.le_refl _
  size := Nat.le_refl _
  os := rfl
  tape := rfl
  output := rfl
  base := fun _ _ => rfl
  dom := fun b h1 h2 _ => h.dom b h1 h2
  rngd := fun b p h1 h2 => by rw [h1] at h2; cases h2
  blk := fun _ _ _ h => h.elim
  fresh := fun b r C h1 h2 => by rw [h1] at h2; cases h2
  inj := fun _ _ _ _ _ _ _ _ _ _ _ _ _ h => h.elim

theorem PhA.live (D : Dr P c n ops pf sq Hq vq rq) {S : Nat → Prop} {ι0 ι : Emb} {w0 w : World} (_A : PhA c T ops pf Hq S ι0 w0 ι w) (h0 : NxtOk (Hq 0)) {c' : Ctx} {k : Nat} (hk : k ≤ ops.size)
    (hj : ∀ j, j < k → (pf j).m ≠ 0 → (pf j).m ≠ 2 ∧ (S j ∨ ∀ b, (Hq j).next ≤ b → b < (Hq (j + 1)).next → c'.vis b = false))
    (hw : ∀ j, j < k → (pf j).m = 1 → ∀ b, (Hq j).next ≤ b → b < (Hq (j + 1)).next → c'.vis b = true → ∀ e, e < ops.size → Owns pf e j → (S e ↔ e < k))
    {b : Nat} {o : CO} (hg : (Hq k).tr.get b = some o) (hv' : c'.vis b = true) :
    (b < (Hq 0).next ∧ (Hq 0).tr.get b = some o) ∨ ∃ j e, j < k ∧ S j ∧ (pf j).m = 1 ∧ (Hq j).next ≤ b ∧ b < (Hq (j + 1)).next ∧ Ver ops pf S j e ∧ (Hq (e + 1)).tr.get b = some o := by
  have hb := D.nxt h0 k hk b o hg
  have hno : ∀ j, j < k → (pf j).m ≠ 2 := fun j hjk => by
    by_cases hm : (pf j).m = 0
    · omega
    · exact (hj j hjk hm).1
  rcases Nat.lt_or_ge b (Hq 0).next with hlt | hge
  · left
    refine ⟨hlt, ?_⟩
    rw [← D.same h0 (Nat.zero_le k) hk (fun j _ h2 => hno j h2) b hlt (fun e j _ h2 hown hin => by
      have := (D.own1 e (by omega) hown.1 j hown.2).1
      have := D.mono (j := 0) (k := j) (Nat.zero_le _) (by omega)
      omega)]
    exact hg
  · right
    obtain ⟨j, hjk, h1, h2⟩ := D.maker hk b hge hb
    have hm0 : (pf j).m ≠ 0 := fun hm => by have := D.pure_next (k := j) (by omega) hm; rw [this] at h2; omega
    have hm3 : (pf j).m ≠ 3 := fun hm => by have := D.own_next (k := j) (by omega) hm; omega
    obtain ⟨hm2, hs⟩ := hj j hjk hm0
    have hm1 : (pf j).m = 1 := by have := D.ms j; omega
    have hs : S j := by
      rcases hs with hs | hs
      · exact hs
      · have := hs b h1 h2; rw [hv'] at this; cases this
    have hwj := hw j hjk hm1 b h1 h2 hv'
    by_cases hex : ∃ e, e < k ∧ Owns pf e j
    · obtain ⟨e, hek, hown⟩ := hex
      have hje := (D.own1 e (by omega) hown.1 j hown.2).1
      refine ⟨j, e, hjk, hs, hm1, h1, h2, .inr ⟨by omega, (hwj e (by omega) hown).2 hek, hown⟩, ?_⟩
      rw [← D.same h0 (i := e + 1) (k := k) hek hk (fun i _ h4 => hno i h4) b (by have := D.mono (j := j + 1) (k := e + 1) (by omega) (by omega); omega) (fun e' j' h5 h6 hown' hin => by
        have := (D.own1 e' (by omega) hown'.1 j' hown'.2).1
        have := D.apart (j := j') (k := j) (b := b) (by omega) (by omega) hin.1 hin.2 h1 h2
        subst this
        have := D.own2 e' e j' (by omega) (by omega) hown'.1 hown.1 hown'.2 hown.2
        omega)]
      exact hg
    · refine ⟨j, j, hjk, hs, hm1, h1, h2, .inl ⟨rfl, fun e he hse hown => hex ⟨e, (hwj e he hown).1 hse, hown⟩⟩, ?_⟩
      rw [← D.same h0 (i := j + 1) (k := k) hjk hk (fun i _ h4 => hno i h4) b h2 (fun e' j' h5 h6 hown' hin => by
        have := (D.own1 e' (by omega) hown'.1 j' hown'.2).1
        have := D.apart (j := j') (k := j) (b := b) (by omega) (by omega) hin.1 hin.2 h1 h2
        subst this
        exact hex ⟨e', h6, hown'⟩)]
      exact hg

theorem PhA.hrel (D : Dr P c n ops pf sq Hq vq rq) {S : Nat → Prop} {ι0 ι : Emb} {w0 w : World} (A : PhA c T ops pf Hq S ι0 w0 ι w) (hH : HRel c T ι0 (Hq 0) w0) (hT : (Hq ops.size).next ≤ T) {c' : Ctx} {T' : Nat} {k : Nat} (hk : k ≤ ops.size)
    (hv : ∀ b, c'.vis b = true → c.vis b = true)
    (hj : ∀ j, j < k → (pf j).m ≠ 0 → (pf j).m ≠ 2 ∧ (S j ∨ ∀ b, (Hq j).next ≤ b → b < (Hq (j + 1)).next → c'.vis b = false))
    (hw : ∀ j, j < k → (pf j).m = 1 → ∀ b, (Hq j).next ≤ b → b < (Hq (j + 1)).next → c'.vis b = true → ∀ e, e < ops.size → Owns pf e j → (S e ↔ e < k))
    (hd : ∀ b, (Hq k).next ≤ b → b < T' → b < T ∧ ∀ j, j < ops.size → S j → (pf j).m = 1 → ¬ ((Hq j).next ≤ b ∧ b < (Hq (j + 1)).next)) :
    HRel c' T' ι (Hq k) w := by
  have h0 : NxtOk (Hq 0) := hH.nxt
  refine ⟨?_, ?_, ?_, D.nxt h0 k hk⟩
  · intro b o hg hv'
    rcases A.live D h0 hk hj hw hg hv' with ⟨hlt, hg0⟩ | ⟨j, e, hjk, hs, hm, h1, h2, hver, hgj⟩
    · obtain ⟨r, C, ob, q1, q2, q3⟩ := hH.blk b o hg0 (hv b hv')
      exact ⟨r, C, ob, A.ext _ _ q1, by rw [A.base r (hH.lt hg0 (hv b hv') q1)]; exact q2, q3.mono A.ext⟩
    · exact A.blk j e (by omega) hs hm hver b o h1 h2 hgj (hv b hv')
  · intro b b' o o' r C C' hg hg' v1 v2 i1 i2
    rcases A.live D h0 hk hj hw hg v1 with ⟨hlt, hg0⟩ | ⟨j, e, hjk, hs, hm, h1, h2, hver, hgj⟩ <;>
    rcases A.live D h0 hk hj hw hg' v2 with ⟨hlt', hg0'⟩ | ⟨j', e', hjk', hs', hm', h1', h2', hver', hgj'⟩
    · obtain ⟨r1, C1, ob1, q1, q2, q3⟩ := hH.blk b o hg0 (hv b v1)
      obtain ⟨r2, C2, ob2, p1, p2, p3⟩ := hH.blk b' o' hg0' (hv b' v2)
      have e1 := A.ext _ _ q1
      have e2 := A.ext _ _ p1
      rw [i1] at e1; rw [i2] at e2
      injection e1 with e1; injection e2 with e2
      injection e1 with e1 e1'; injection e2 with e2 e2'
      subst e1; subst e2
      exact hH.inj b b' o o' _ C1 C2 hg0 hg0' (hv b v1) (hv b' v2) q1 p1
    · obtain ⟨r1, C1, ob1, q1, q2, q3⟩ := hH.blk b o hg0 (hv b v1)
      have e1 := A.ext _ _ q1
      rw [i1] at e1; injection e1 with e1; injection e1 with e1 e1'
      subst e1
      have hlt1 := hH.lt hg0 (hv b v1) q1
      have hb' : ι0 b' = none := hH.dom b' (by have := D.mono (j := 0) (k := j') (Nat.zero_le _) (by omega); omega) (by have := D.mono (j := j' + 1) (k := ops.size) (by omega) (Nat.le_refl _); omega)
      have := A.fresh b' _ C' hb' i2
      omega
    · obtain ⟨r1, C1, ob1, q1, q2, q3⟩ := hH.blk b' o' hg0' (hv b' v2)
      have e1 := A.ext _ _ q1
      rw [i2] at e1; injection e1 with e1; injection e1 with e1 e1'
      subst e1
      have hlt1 := hH.lt hg0' (hv b' v2) q1
      have hb' : ι0 b = none := hH.dom b (by have := D.mono (j := 0) (k := j) (Nat.zero_le _) (by omega); omega) (by have := D.mono (j := j + 1) (k := ops.size) (by omega) (Nat.le_refl _); omega)
      have := A.fresh b _ C hb' i1
      omega
    · exact A.inj j j' e e' b b' o o' r C C' (by omega) (by omega) hs hs' hm hm' hver hver' h1 h2 h1' h2' hgj hgj' (hv b v1) (hv b' v2) i1 i2
  · intro b hb hbT
    obtain ⟨h1, h2⟩ := hd b hb hbT
    exact A.dom b (Nat.le_trans (D.mono (Nat.zero_le k) hk) hb) h1 h2

/-- All that touches memory ahead of k has been done, and nothing else. -/
theorem PhA.post (D : Dr P c n ops pf sq Hq vq rq) {S : Nat → Prop} {ι0 ι : Emb} {w0 w : World} (A : PhA c T ops pf Hq S ι0 w0 ι w) (hH : HRel c T ι0 (Hq 0) w0) (hT : (Hq ops.size).next ≤ T) {k : Nat} (hk : k ≤ ops.size)
    (hj : ∀ j, j < k → (pf j).m ≠ 0 → (pf j).m ≠ 2 ∧ S j) (hl : ∀ j, j < ops.size → S j → (pf j).m ≠ 0 → j < k) :
    HRel c T ι (Hq k) w ∧ Post c ι0 (Hq 0) w0 ι (Hq k) w := by
  have h0 : NxtOk (Hq 0) := hH.nxt
  have hno : ∀ j, j < k → (pf j).m ≠ 2 := fun j hjk => by
    by_cases hm : (pf j).m = 0
    · omega
    · exact (hj j hjk hm).1
  have hsame := fun b hb => D.same h0 (Nat.zero_le k) hk (fun j _ h2 => hno j h2) b hb (fun e j _ h2 hown hin => by
      have := (D.own1 e (by omega) hown.1 j hown.2).1
      have := D.mono (j := 0) (k := j) (Nat.zero_le _) (by omega)
      omega)
  have hN := D.mono (Nat.zero_le k) hk
  have hin : ∀ b p, ι0 b = none → ι b = some p → b < (Hq k).next := by
    intro b p h1 h2
    obtain ⟨q1, q2⟩ := A.rngd b p h1 h2
    rcases Nat.lt_or_ge b (Hq k).next with h | h
    · exact h
    · have := A.dom b q1 (by omega) (fun j hj' hs hm hb => by
        have h3 := hl j hj' hs (by omega)
        have := D.mono (j := j + 1) (k := k) h3 hk
        omega)
      rw [h2] at this; cases this
  refine ⟨A.hrel D hH hT hk (fun _ h => h) (fun j h1 h2 => ⟨(hj j h1 h2).1, .inl (hj j h1 h2).2⟩) (fun j _ _ b _ _ _ e he hown => ⟨fun hs => hl e he hs (by have := hown.1; omega), fun hek => (hj e hek (by have := hown.1; omega)).2⟩) (fun b h1 h2 => ⟨h2, fun j hj' hs hm hb => by
      have h3 := hl j hj' hs (by omega)
      have := D.mono (j := j + 1) (k := k) h3 hk
      omega⟩), ⟨A.ext, hN, fun b h1 p h2 => ⟨(A.rngd b p h1 h2).1, hin b p h1 h2⟩, fun b r C h1 h2 => .inl (A.fresh b r C h1 h2), A.size, A.os, A.tape, A.output, fun r hr _ => A.base r hr, fun b hb _ => hsame b hb, fun b o hb hg => ⟨o, by rw [← hsame b hb]; exact hg⟩⟩⟩

/-- The world may have grown, no more. -/
theorem HRel.grew {ι : Emb} {H : CH} {w w' : World} (h : HRel c T ι H w) (hw : ∀ r, r < w.heap.size → w'.heap[r]? = w.heap[r]?) : HRel c T ι H w' :=
  ⟨fun b o hg hv => by
    obtain ⟨r, C, ob, q1, q2, q3⟩ := h.blk b o hg hv
    exact ⟨r, C, ob, q1, by rw [hw r (h.lt hg hv q1)]; exact q2, q3⟩, h.inj, h.dom, h.nxt⟩
theorem PhA.grew {S : Nat → Prop} {ι0 ι : Emb} {w0 w w' : World} (A : PhA c T ops pf Hq S ι0 w0 ι w) (hs : w.heap.size ≤ w'.heap.size) (hw : ∀ r, r < w.heap.size → w'.heap[r]? = w.heap[r]?) (h1 : w'.os = w.os) (h2 : w'.tape = w.tape) (h3 : w'.output = w.output) : PhA c T ops pf Hq S ι0 w0 ι w' :=
  { A with
    size := Nat.le_trans A.size hs
    os := h1.trans A.os
    tape := h2.trans A.tape
    output := h3.trans A.output
    base := fun r hr => by rw [hw r (Nat.lt_of_lt_of_le hr A.size), A.base r hr]
    blk := fun j e hj hs hm hver b o hb hb2 hg hv => by
      obtain ⟨r, C, ob, q1, q2, q3⟩ := A.blk j e hj hs hm hver b o hb hb2 hg hv
      exact ⟨r, C, ob, q1, by rw [hw r (Array.getElem?_eq_some_iff.1 q2).1]; exact q2, q3⟩ }
/-- Of one more that writes nothing the blocks bear what they bore. -/
theorem Ver.less {S : Nat → Prop} {k : Nat} (hm : (pf k).m ≠ 3) {j e : Nat} (h : Ver ops pf (fun j => j = k ∨ S j) j e) : Ver ops pf S j e := by
  rcases h with ⟨h1, h2⟩ | ⟨h1, h2, h3⟩
  · exact .inl ⟨h1, fun i hi hs => h2 i hi (.inr hs)⟩
  · rcases h2 with rfl | h2
    · exact absurd h3.1 hm
    · exact .inr ⟨h1, h2, h3⟩
/-- One more is done that touches no memory, or has been skipped. -/
theorem PhA.also {S : Nat → Prop} {ι0 ι : Emb} {w0 w : World} (A : PhA c T ops pf Hq S ι0 w0 ι w) {k : Nat} (hm : (pf k).m ≠ 2) (hm3 : (pf k).m ≠ 3) (he : (Hq (k + 1)).next = (Hq k).next) : PhA c T ops pf Hq (fun j => j = k ∨ S j) ι0 w0 ι w := by
  exact { A with
    noord := fun j hj hs => by rcases hs with rfl | hs; exact hm; exact A.noord j hj hs
    dom := fun b h1 h2 h3 => A.dom b h1 h2 (fun j hj hs hmj => h3 j hj (.inr hs) hmj)
    blk := fun j e hj hs hmj hver b o hb hb2 hg hv => by
      rcases hs with rfl | hs
      · omega
      · exact A.blk j e hj hs hmj (hver.less hm3) b o hb hb2 hg hv
    inj := fun j j' e e' b b' o o' r C C' hj hj' hs hs' hm1 hm2 v1 v2 h1 h2 h3 h4 => by
      rcases hs with rfl | hs
      · omega
      · rcases hs' with rfl | hs'
        · omega
        · exact A.inj j j' e e' b b' o o' r C C' hj hj' hs hs' hm1 hm2 (v1.less hm3) (v2.less hm3) h1 h2 h3 h4 }

/-- A free operation is done. -/
theorem PhA.free (D : Dr P c n ops pf sq Hq vq rq) {S : Nat → Prop} {ι0 ι ι' : Emb} {w0 w w' : World} (A : PhA c T ops pf Hq S ι0 w0 ι w) (hH : HRel c T ι0 (Hq 0) w0) (hT : (Hq ops.size).next ≤ T) {k : Nat} (hk : k < ops.size) (hm : (pf k).m = 1) (hnk : ¬ S k) (hcl : Closed ops S)
    (hc : ∀ b, (Hq k).next ≤ b → c.vis b = true → (ctxAt c (pf k) (rq k) (Hq k)).vis b = true) (hfl : ∀ b, b < (Hq k).next → (ctxAt c (pf k) (rq k) (Hq k)).may b = false)
    (p : Post (ctxAt c (pf k) (rq k) (Hq k)) ι (Hq k) w ι' (Hq (k + 1)) w') (hr : HRel (ctxAt c (pf k) (rq k) (Hq k)) (Hq (k + 1)).next ι' (Hq (k + 1)) w') : PhA c T ops pf Hq (fun j => j = k ∨ S j) ι0 w0 ι' w' := by
  have h0 : NxtOk (Hq 0) := hH.nxt
  have hm3 : (pf k).m ≠ 3 := by omega
  have hnxt := D.nxt h0 k (by omega)
  have hNk := D.mono (Nat.zero_le k) (by omega)
  have hNk1 := D.mono (j := k + 1) (k := ops.size) (by omega) (Nat.le_refl _)
  have hnm : ∀ b o, (ctxAt c (pf k) (rq k) (Hq k)).may b = true → (Hq k).tr.get b = some o → False := fun b o h1 h2 => by
    have := hfl b (hnxt b o h2)
    rw [h1] at this; cases this
  have hfr : ∀ r, r < w.heap.size → w'.heap[r]? = w.heap[r]? := fun r hrr => p.frame r hrr (fun b o C hmay hg _ => hnm b o hmay hg)
  have hιk : ∀ b, (Hq k).next ≤ b → b < (Hq (k + 1)).next → ι b = none := fun b h1 h2 => A.dom b (by omega) (by omega) (fun j hj hs _ hb => hnk (by rw [← D.apart hj hk hb.1 hb.2 h1 h2]; exact hs))
  have hfresh : ∀ b r C, ι b = none → ι' b = some (r, C) → w.heap.size ≤ r := fun b r C h1 h2 => by
    rcases p.fresh b r C h1 h2 with h | ⟨b0, o, C0, hmay, hg, _⟩
    · exact h
    · exact (hnm b0 o hmay hg).elim
  have hverk : ∀ e, Ver ops pf (fun j => j = k ∨ S j) k e → e = k := fun e hv => by
    rcases hv with ⟨h1, _⟩ | ⟨h1, h2, h3⟩
    · exact h1
    · rcases h2 with rfl | h2
      · rfl
      · exact absurd ((D.own1 e h1 h3.1 k h3.2).2.1.listed hcl h2) hnk
  refine ⟨?_, Emb.le_trans A.ext p.ext, Nat.le_trans A.size p.size, p.os.trans A.os, p.tape.trans A.tape, p.output.trans A.output, fun r hrr => by rw [hfr r (Nat.lt_of_lt_of_le hrr A.size), A.base r hrr], ?_, ?_, ?_, ?_, ?_⟩
  · intro j hj hs
    rcases hs with rfl | hs
    · omega
    · exact A.noord j hj hs
  · intro b h1 h2 h3
    have hi := A.dom b h1 h2 (fun j hj hs hmj => h3 j hj (.inr hs) hmj)
    cases hb : ι' b with
    | none => rfl
    | some q => exact absurd (p.old b hi q hb) (h3 k hk (.inl rfl) hm)
  · intro b q h1 h2
    cases hb : ι b with
    | none => have := p.old b hb q h2; omega
    | some q' => exact A.rngd b q' h1 hb
  · intro j e hj hs hmj hver b o hb hb2 hg hv
    rcases hs with rfl | hs
    · have := hverk e hver
      subst this
      obtain ⟨r, C, ob, q1, q2, q3⟩ := hr.blk b o hg (hc b hb hv)
      exact ⟨r, C, ob, q1, q2, q3⟩
    · obtain ⟨r, C, ob, q1, q2, q3⟩ := A.blk j e hj hs hmj (hver.less hm3) b o hb hb2 hg hv
      exact ⟨r, C, ob, p.ext _ _ q1, by rw [hfr r (Array.getElem?_eq_some_iff.1 q2).1]; exact q2, q3.mono p.ext⟩
  · intro b r C h1 h2
    cases hb : ι b with
    | none => exact Nat.le_trans A.size (hfresh b r C hb h2)
    | some q' =>
      have := p.ext _ _ hb
      rw [h2] at this; injection this with this; subst this
      exact A.fresh b r C h1 hb
  · intro j j' e e' b b' o o' r C C' hj hj' hs hs' hm1 hm2 u1 u2 h1 h1b h2 h2b g1 g2 v1 v2 i1 i2
    have old : ∀ (j e : Nat) (b : Nat) (o : CO) (r C : Nat), j < ops.size → S j → (pf j).m = 1 → Ver ops pf (fun j => j = k ∨ S j) j e → (Hq j).next ≤ b → b < (Hq (j + 1)).next → (Hq (e + 1)).tr.get b = some o → c.vis b = true → ι' b = some (r, C) → ι b = some (r, C) ∧ r < w.heap.size := by
      intro j e b o r C hj hs hmj hver hb hb2 hg hv hi
      obtain ⟨r1, C1, ob, q1, q2, q3⟩ := A.blk j e hj hs hmj (hver.less hm3) b o hb hb2 hg hv
      have := p.ext _ _ q1
      rw [hi] at this; injection this with this; injection this with e1 e2; subst e1; subst e2
      exact ⟨q1, (Array.getElem?_eq_some_iff.1 q2).1⟩
    rcases hs with rfl | hs <;> rcases hs' with rfl | hs'
    · have := hverk e u1
      have := hverk e' u2
      subst e; subst e'
      exact hr.inj b b' o o' r C C' g1 g2 (hc b h1 v1) (hc b' h2 v2) i1 i2
    · obtain ⟨_, hlt⟩ := old j' e' b' o' r C' hj' hs' hm2 u2 h2 h2b g2 v2 i2
      have := hfresh b r C (hιk b h1 h1b) i1
      omega
    · obtain ⟨_, hlt⟩ := old j e b o r C hj hs hm1 u1 h1 h1b g1 v1 i1
      have := hfresh b' r C' (hιk b' h2 h2b) i2
      omega
    · obtain ⟨e1, _⟩ := old j e b o r C hj hs hm1 u1 h1 h1b g1 v1 i1
      obtain ⟨e2, _⟩ := old j' e' b' o' r C' hj' hs' hm2 u2 h2 h2b g2 v2 i2
      exact A.inj j j' e e' b b' o o' r C C' hj hj' hs hs' hm1 hm2 (u1.less hm3) (u2.less hm3) h1 h1b h2 h2b g1 g2 v1 v2 e1 e2

/-- An operation is done that writes what others of the region have made. -/
theorem PhA.owned (D : Dr P c n ops pf sq Hq vq rq) {S : Nat → Prop} {ι0 ι : Emb} {w0 w w' : World} (A : PhA c T ops pf Hq S ι0 w0 ι w) (hH : HRel c T ι0 (Hq 0) w0) (hT : (Hq ops.size).next ≤ T) {k : Nat} (hk : k < ops.size) (hm : (pf k).m = 3)
    (hvis : ∀ j, j ∈ (pf k).own → ∀ b, (Hq j).next ≤ b → b < (Hq (j + 1)).next → c.vis b = true → (ctxAt c (pf k) (rq k) (Hq k)).vis b = true)
    (hcv : ∀ b, (ctxAt c (pf k) (rq k) (Hq k)).vis b = true → c.vis b = true)
    (hj : ∀ j, j < k → (pf j).m ≠ 0 → (pf j).m ≠ 2 ∧ (S j ∨ ∀ b, (Hq j).next ≤ b → b < (Hq (j + 1)).next → (ctxAt c (pf k) (rq k) (Hq k)).vis b = false))
    (hw : ∀ j, j < k → (pf j).m = 1 → ∀ b, (Hq j).next ≤ b → b < (Hq (j + 1)).next → (ctxAt c (pf k) (rq k) (Hq k)).vis b = true → ∀ e, e < ops.size → Owns pf e j → (S e ↔ e < k))
    (p : Post (ctxAt c (pf k) (rq k) (Hq k)) ι (Hq k) w ι (Hq (k + 1)) w') (hr : HRel (ctxAt c (pf k) (rq k) (Hq k)) (Hq (k + 1)).next ι (Hq (k + 1)) w') : PhA c T ops pf Hq (fun j => j = k ∨ S j) ι0 w0 ι w' := by
  have h0 : NxtOk (Hq 0) := hH.nxt
  have hnxt := D.nxt h0 k (by omega)
  have hN := D.own_next hk hm
  -- what may be written
  have hmay : ∀ b o, (ctxAt c (pf k) (rq k) (Hq k)).may b = true → (Hq k).tr.get b = some o → ∃ j e, j ∈ (pf k).own ∧ j < k ∧ S j ∧ (pf j).m = 1 ∧ (Hq j).next ≤ b ∧ b < (Hq (j + 1)).next ∧ Ver ops pf S j e ∧ (Hq (e + 1)).tr.get b = some o := by
    intro b o hb hg
    have hlt := hnxt b o hg
    have hex : ∃ q ∈ rng (pf k).own (rq k), q.1 ≤ b ∧ b < q.2 := by
      cases hall : (rng (pf k).own (rq k)).any (fun q => Nat.ble q.1 b && Nat.blt b q.2) with
      | true =>
        obtain ⟨q, hq, h2⟩ := List.any_eq_true.1 hall
        simp only [Bool.and_eq_true, Nat.ble_eq, Nat.blt_eq] at h2
        exact ⟨q, hq, h2⟩
      | false =>
        have := may3 (c := c) (rs := rq k) (H := Hq k) hm hlt (fun q hq hin => by
          have := List.any_eq_false.1 hall q hq
          simp only [Bool.and_eq_true, Nat.ble_eq, Nat.blt_eq] at this
          exact this hin)
        rw [hb] at this; cases this
    obtain ⟨q, hq, hin⟩ := hex
    obtain ⟨j, hjk, hjo, rfl⟩ := D.mem_rng (by omega) hq
    rcases A.live D h0 (by omega) hj hw hg (may_vis hb) with ⟨hb0, _⟩ | ⟨j', e, hjk', hs, hm', h1, h2, hver, hgj⟩
    · have := D.mono (j := 0) (k := j) (Nat.zero_le _) (by omega)
      have h3 : (Hq j).next ≤ b := hin.1
      omega
    · have := D.apart (j := j) (k := j') (b := b) (by omega) (by omega) hin.1 hin.2 h1 h2
      subst this
      exact ⟨j, e, hjo, hjk', hs, hm', h1, h2, hver, hgj⟩
  have hverk : ∀ j e, Ver ops pf (fun j => j = k ∨ S j) j e → (e = k ∧ j ∈ (pf k).own) ∨ (j ∉ (pf k).own ∧ Ver ops pf S j e) := fun j e hv => by
    rcases hv with ⟨h1, h2⟩ | ⟨h1, h2, h3⟩
    · right
      exact ⟨fun hjo => h2 k hk (.inl rfl) ⟨hm, hjo⟩, .inl ⟨h1, fun i hi hs => h2 i hi (.inr hs)⟩⟩
    · rcases h2 with rfl | h2
      · exact .inl ⟨rfl, h3.2⟩
      · by_cases hjo : j ∈ (pf k).own
        · exact .inl ⟨D.own2 e k j h1 hk h3.1 hm h3.2 hjo, hjo⟩
        · exact .inr ⟨hjo, .inr ⟨h1, h2, h3⟩⟩
  have hkeep : ∀ j e b o r C, j < ops.size → S j → (pf j).m = 1 → j ∉ (pf k).own → Ver ops pf S j e → (Hq j).next ≤ b → b < (Hq (j + 1)).next → (Hq (e + 1)).tr.get b = some o → c.vis b = true → ι b = some (r, C) → r < w.heap.size → w'.heap[r]? = w.heap[r]? := by
    intro j e b o r C hj' hs hmj hno hver h1 h2 hg hv hi hlt
    refine p.frame r hlt (fun b0 o0 C0 hb0 hg0 hi0 => ?_)
    obtain ⟨j0, e0, k1, k2, k3, k4, k5, k6, k7, k8⟩ := hmay b0 o0 hb0 hg0
    have := A.inj j0 j e0 e b0 b o0 o r C0 C (by omega) hj' k3 hs k4 hmj k7 hver k5 k6 h1 h2 k8 hg (hcv b0 (may_vis hb0)) hv hi0 hi
    subst this
    have := D.apart (j := j0) (k := j) (b := b0) (by omega) hj' k5 k6 h1 h2
    subst this
    exact hno k1
  refine { A with noord := ?_, size := Nat.le_trans A.size p.size, os := p.os.trans A.os, tape := p.tape.trans A.tape, output := p.output.trans A.output, base := ?_, dom := ?_, blk := ?_, inj := ?_ }
  · intro j hj' hs
    rcases hs with rfl | hs
    · omega
    · exact A.noord j hj' hs
  · intro r hrr
    rw [p.frame r (Nat.lt_of_lt_of_le hrr A.size) (fun b0 o0 C0 hb0 hg0 hi0 => ?_), A.base r hrr]
    obtain ⟨j0, e0, k1, k2, k3, k4, k5, k6, k7, k8⟩ := hmay b0 o0 hb0 hg0
    have hb' : ι0 b0 = none := hH.dom b0 (by have := D.mono (j := 0) (k := j0) (Nat.zero_le _) (by omega); omega) (by have := D.mono (j := j0 + 1) (k := ops.size) (by omega) (Nat.le_refl _); omega)
    have := A.fresh b0 r C0 hb' hi0
    omega
  · intro b h1 h2 h3
    exact A.dom b h1 h2 (fun j hj' hs hmj => h3 j hj' (.inr hs) hmj)
  · intro j e hj' hs hmj hver b o hb hb2 hg hv
    have hs : S j := by
      rcases hs with rfl | hs
      · omega
      · exact hs
    rcases hverk j e hver with ⟨rfl, hjo⟩ | ⟨hno, hver⟩
    · exact hr.blk b o hg (hvis j hjo b hb hb2 hv)
    · obtain ⟨r, C, ob, q1, q2, q3⟩ := A.blk j e hj' hs hmj hver b o hb hb2 hg hv
      exact ⟨r, C, ob, q1, by rw [hkeep j e b o r C hj' hs hmj hno hver hb hb2 hg hv q1 (Array.getElem?_eq_some_iff.1 q2).1]; exact q2, q3⟩
  · intro j j' e e' b b' o o' r C C' hj1 hj2 hs hs' hm1 hm2 u1 u2 h1 h1b h2 h2b g1 g2 v1 v2 i1 i2
    have hs : S j := by
      rcases hs with rfl | hs
      · omega
      · exact hs
    have hs' : S j' := by
      rcases hs' with rfl | hs'
      · omega
      · exact hs'
    -- each block bore something before
    have before : ∀ j e b o, j < ops.size → S j → (pf j).m = 1 → Ver ops pf (fun j => j = k ∨ S j) j e → (Hq j).next ≤ b → b < (Hq (j + 1)).next → (Hq (e + 1)).tr.get b = some o → c.vis b = true → ∃ e1 o1, Ver ops pf S j e1 ∧ (Hq (e1 + 1)).tr.get b = some o1 := by
      intro j e b o hjj hs hmj hver hb hb2 hg hv
      rcases hverk j e hver with ⟨rfl, hjo⟩ | ⟨hno, hver⟩
      · have hjk := (D.own1 e hk hm j hjo).1
        have hbk : b < (Hq e).next := by have := D.mono (j := j + 1) (k := e) hjk (by omega); omega
        obtain ⟨o1, ho1⟩ := p.live b o hbk hg
        have hvb := hvis j hjo b hb hb2 hv
        rcases A.live D h0 (by omega) hj hw ho1 hvb with ⟨hb0, _⟩ | ⟨j', e1, _, _, _, k1, k2, k3, k4⟩
        · have := D.mono (j := 0) (k := j) (Nat.zero_le _) (by omega); omega
        · have := D.apart (j := j') (k := j) (b := b) (by omega) hjj k1 k2 hb hb2
          subst this
          exact ⟨e1, o1, k3, k4⟩
      · exact ⟨e, o, hver, hg⟩
    obtain ⟨e1, o1, a1, a2⟩ := before j e b o hj1 hs hm1 u1 h1 h1b g1 v1
    obtain ⟨e2, o2, b1, b2⟩ := before j' e' b' o' hj2 hs' hm2 u2 h2 h2b g2 v2
    exact A.inj j j' e1 e2 b b' o1 o2 r C C' hj1 hj2 hs hs' hm1 hm2 a1 b1 h1 h1b h2 h2b a2 b2 v1 v2 i1 i2

/-- Ordered operations are being done. -/
structure PhB (c : Ctx) (T : Nat) (ops : Array Oper) (pf : Nat → Plan) (Hq : Nat → CH) (S : Nat → Prop) (ι0 : Emb) (w0 : World) (ι : Emb) (w : World) (q : Nat) : Prop where
  le : q ≤ ops.size
  hr : HRel c T ι (Hq q) w
  post : Post c ι0 (Hq 0) w0 ι (Hq q) w
  tch : ∀ j, j < ops.size → (pf j).m ≠ 0 → (S j ↔ j < q)
  late : ∀ j, q ≤ j → j < ops.size → (pf j).m ≠ 0 → (pf j).m = 2
theorem Dr.quiet (D : Dr P c n ops pf sq Hq vq rq) {q : Nat} : ∀ {k : Nat}, q ≤ k → k ≤ ops.size → (∀ j, q ≤ j → j < k → (pf j).m = 0) → Hq k = Hq q := by
  intro k hq hk
  induction k with
  | zero => intro _; have : q = 0 := by omega
            subst this; rfl
  | succ k ih =>
    intro h
    rcases Nat.lt_or_ge k q with hlt | hge
    · have : q = k + 1 := by omega
      subst this; rfl
    · rw [D.pure_next (by omega) (h k hge (by omega)), ih hge (by omega) (fun j h1 h2 => h j h1 (by omega))]

def OnW (c : Ctx) (T : Nat) (ops : Array Oper) (pf : Nat → Plan) (Hq : Nat → CH) (vq : Nat → CV) (n : Nat) (S : Nat → Prop) (ι0 : Emb) (w0 : World) (a0 : Act) (a : Act) (w : World) : Prop :=
  ∃ ι, SlotsOn ops pf vq S n a0 ι a ∧ (PhA c T ops pf Hq S ι0 w0 ι w ∨ ∃ q, PhB c T ops pf Hq S ι0 w0 ι w q)

theorem OnW.ext {S : Nat → Prop} {ι0 ι : Emb} {w0 w : World} (h : PhA c T ops pf Hq S ι0 w0 ι w ∨ ∃ q, PhB c T ops pf Hq S ι0 w0 ι w q) : ι0.le ι := by
  rcases h with h | ⟨q, h⟩
  · exact h.ext
  · exact h.post.ext

theorem undef_rel {ι : Emb} : VRel ι (.tup []) undef := VRel.tup (c' := []) .nil

theorem OnW.step (D : Dr P c n ops pf sq Hq vq rq) {S : Nat → Prop} {ι0 : Emb} {w0 : World} {a0 a : Act} {w : World} (hH : HRel c T ι0 (Hq 0) w0) (hT : (Hq ops.size).next ≤ T) (hs0 : Slots ι0 (sq 0) a0.tmps)
    (h : OnW c T ops pf Hq vq n S ι0 w0 a0 a w) {k : Nat} (hk : k < ops.size) (hnk : ¬ S k) (hcl : Closed ops S) (hb : ∀ j, Bef ops j k → S j) :
    ∃ a' w', OnW c T ops pf Hq vq n (fun j => j = k ∨ S j) ι0 w0 a0 a' w' ∧ ∀ (b : Frame) (rest : List Nat) (K : List Item) (cs : List Frame), Steps P (lone (b.atR a (.inRegion ops (k :: rest) :: K)) cs w) (lone (b.atR a' (.inRegion ops rest :: K)) cs w') := by
  have h0 : NxtOk (Hq 0) := hH.nxt
  have hok := D.op k hk
  obtain ⟨ι, hsl, hph⟩ := h
  have hext := OnW.ext hph
  obtain ⟨hev, hwt⟩ := hsl.eval D hs0 hext hk hb
  have hstp := D.stp k hk
  have hrng : ∀ x ∈ rq k, x.2.2 ≤ (Hq k).next := fun x hx => by
    obtain ⟨j, hj, rfl⟩ := D.rq1 k (by omega) x hx
    exact D.mono (j := j + 1) (k := k) hj (by omega)
  -- ahead of an ordered operation
  have toB : (pf k).m = 2 → ∃ q, q ≤ k ∧ HRel c T ι (Hq k) w ∧ Post c ι0 (Hq 0) w0 ι (Hq k) w ∧ (∀ j, j < ops.size → (pf j).m ≠ 0 → (S j ↔ j < k)) ∧ (∀ j, k ≤ j → j < ops.size → (pf j).m ≠ 0 → (pf j).m = 2) ∧ True := by
    intro hm
    have hbk : ∀ j, j < k → (pf j).m ≠ 0 → S j := fun j hj hmj => hb j (D.ord k hk hm j hj hmj)
    have hlate : ∀ j, k ≤ j → j < ops.size → (pf j).m ≠ 0 → (pf j).m = 2 := fun j hkj hj hmj => by
      rcases Nat.lt_or_ge k j with h | h
      · by_cases h1 : (pf j).m = 1 ∨ (pf j).m = 3
        · exact absurd hm (D.free j hj h1 k h (by omega)).1
        · have := D.ms j; omega
      · have : j = k := by omega
        subst this; exact hm
    rcases hph with A | ⟨q, B⟩
    · have hj1 : ∀ j, j < k → (pf j).m ≠ 0 → (pf j).m ≠ 2 ∧ S j := fun j hj hmj => ⟨A.noord j (by omega) (hbk j hj hmj), hbk j hj hmj⟩
      have hl1 : ∀ j, j < ops.size → S j → (pf j).m ≠ 0 → j < k := fun j hj hs hmj => by
        rcases Nat.lt_or_ge j k with h | h
        · exact h
        · exact absurd (hlate j h hj hmj) (A.noord j hj hs)
      obtain ⟨q1, q2⟩ := A.post D hH hT (k := k) (by omega) hj1 hl1
      refine ⟨k, Nat.le_refl _, q1, q2, fun j hj hmj => ⟨fun hs => ?_, fun hjk => hbk j hjk hmj⟩, hlate, trivial⟩
      rcases Nat.lt_or_ge j k with h | h
      · exact h
      · exact absurd (hlate j h hj hmj) (A.noord j hj hs)
    · have hqk : q ≤ k := by
        rcases Nat.lt_or_ge k q with h | h
        · exact absurd ((B.tch k hk (by omega)).2 h) hnk
        · exact h
      have hq0 : ∀ j, q ≤ j → j < k → (pf j).m = 0 := fun j h1 h2 => by
        by_cases hmj : (pf j).m = 0
        · exact hmj
        · have := (B.tch j (by omega) hmj).1 (hbk j h2 hmj); omega
      have he := D.quiet hqk (by omega) hq0
      refine ⟨q, hqk, by rw [he]; exact B.hr, by rw [he]; exact B.post, fun j hj hmj => ⟨fun hs => ?_, fun hjk => hbk j hjk hmj⟩, hlate, trivial⟩
      have := (B.tch j hj hmj).1 hs; omega
  -- nothing touched
  have also : (pf k).m ≠ 2 → (pf k).m ≠ 3 → Hq (k + 1) = Hq k → (PhA c T ops pf Hq S ι0 w0 ι w ∨ ∃ q, PhB c T ops pf Hq S ι0 w0 ι w q) → ∀ w', w.heap.size ≤ w'.heap.size → (∀ r, r < w.heap.size → w'.heap[r]? = w.heap[r]?) → w'.os = w.os → w'.tape = w.tape → w'.output = w.output →
      ((pf k).m ≠ 0 → ∃ A : PhA c T ops pf Hq S ι0 w0 ι w, True) → (PhA c T ops pf Hq (fun j => j = k ∨ S j) ι0 w0 ι w' ∨ ∃ q, PhB c T ops pf Hq (fun j => j = k ∨ S j) ι0 w0 ι w' q) := by
    intro hm hm3 he hph w' g1 g2 g3 g4 g5 hA
    rcases hph with A | ⟨q, B⟩
    · exact .inl ((A.grew g1 g2 g3 g4 g5).also hm hm3 (by rw [he]))
    · by_cases hm0 : (pf k).m = 0
      · right
        refine ⟨q, B.le, B.hr.grew g2, ?_, fun j hj hmj => ?_, B.late⟩
        · refine { B.post with size := Nat.le_trans B.post.size g1, os := g3.trans B.post.os, tape := g4.trans B.post.tape, output := g5.trans B.post.output, frame := fun r hr hn => ?_ }
          rw [g2 r (Nat.lt_of_lt_of_le hr B.post.size), B.post.frame r hr hn]
        · rw [← B.tch j hj hmj]
          constructor
          · rintro (rfl | hs)
            · exact absurd hm0 hmj
            · exact hs
          · exact .inr
      · obtain ⟨A, _⟩ := hA hm0
        exact .inl ((A.grew g1 g2 g3 g4 g5).also hm hm3 (by rw [he]))
  have freeA : (pf k).m ≠ 2 → (pf k).m ≠ 0 → ∃ A : PhA c T ops pf Hq S ι0 w0 ι w, True := by
    intro hm hm0
    rcases hph with A | ⟨q, B⟩
    · exact ⟨A, trivial⟩
    · exfalso
      have hkq : ¬ k < q := fun h => hnk ((B.tch k hk hm0).2 h)
      exact hm (B.late k (by omega) hk hm0)
  -- what a free operation sees
  have vis13 : (pf k).m = 1 ∨ (pf k).m = 3 → ∀ b, (ctxAt c (pf k) (rq k) (Hq k)).vis b = true ↔ (∀ x ∈ rng (pf k).hid (rq k), b < x.1 ∨ x.2 ≤ b) ∧ c.vis b = true := by
    intro hm b
    rcases hm with hm | hm <;>
    · simp only [ctxAt, hm]
      simp only [Ctx.vis, List.all_append, Bool.and_eq_true, List.all_eq_true, Bool.or_eq_true, Nat.blt_eq, Nat.ble_eq]
  have hjk13 : (pf k).m = 1 ∨ (pf k).m = 3 → ∀ j, j < k → (pf j).m ≠ 0 → (pf j).m ≠ 2 ∧ (S j ∨ ∀ b, (Hq j).next ≤ b → b < (Hq (j + 1)).next → (ctxAt c (pf k) (rq k) (Hq k)).vis b = false) := by
    intro hm j hj hmj
    obtain ⟨f1, f2⟩ := D.free k hk hm j hj hmj
    refine ⟨f1, ?_⟩
    rcases f2 with f2 | f2
    · exact .inl (hb j f2)
    · right
      intro b h1 h2
      cases hx : (ctxAt c (pf k) (rq k) (Hq k)).vis b with
      | false => rfl
      | true =>
        have := ((vis13 hm b).1 hx).1 ((Hq j).next, (Hq (j + 1)).next) (rng_spec.2 ⟨j, D.rq2 k (by omega) j hj, f2⟩)
        simp only at this
        omega
  have hw13 : (pf k).m = 1 ∨ (pf k).m = 3 → ∀ j, j < k → (pf j).m = 1 → ∀ b, (Hq j).next ≤ b → b < (Hq (j + 1)).next → (ctxAt c (pf k) (rq k) (Hq k)).vis b = true → ∀ e, e < ops.size → Owns pf e j → (S e ↔ e < k) := by
    intro hm j hj hmj b h1 h2 hv e he hown
    have hbef : Bef ops j k := by
      rcases (D.free k hk hm j hj (by omega)).2 with h | h
      · exact h
      · have := ((vis13 hm b).1 hv).1 ((Hq j).next, (Hq (j + 1)).next) (rng_spec.2 ⟨j, D.rq2 k (by omega) j hj, h⟩)
        simp only at this
        omega
    rcases D.own3 e he hown.1 j hown.2 k hk (by omega) hbef with h | h | h
    · subst h; exact ⟨fun hs => absurd hs hnk, fun h => by omega⟩
    · have := h.lt D.edge
      exact ⟨fun hs => absurd (h.listed hcl hs) hnk, fun h => by omega⟩
    · exact ⟨fun _ => h.lt D.edge, fun _ => hb e h⟩
  have hd13 : ∀ b, (Hq k).next ≤ b → b < (Hq (k + 1)).next → b < T ∧ ∀ j, j < ops.size → S j → (pf j).m = 1 → ¬ ((Hq j).next ≤ b ∧ b < (Hq (j + 1)).next) := fun b h1 h2 => ⟨by have := D.mono (j := k + 1) (k := ops.size) (by omega) (Nat.le_refl _); omega, fun j hj hs _ hb' => hnk (by rw [← D.apart hj hk hb'.1 hb'.2 h1 h2]; exact hs)⟩
  have own13 : (pf k).m = 3 → ∀ j, j ∈ (pf k).own → ∀ b, (Hq j).next ≤ b → b < (Hq (j + 1)).next → c.vis b = true → (ctxAt c (pf k) (rq k) (Hq k)).vis b = true := by
    intro hm j hjo b h1 h2 hv
    refine (vis13 (.inr hm) b).2 ⟨fun x hx => ?_, hv⟩
    obtain ⟨i, hik, hih, rfl⟩ := D.mem_rng (by omega) hx
    by_cases hin : (Hq i).next ≤ b ∧ b < (Hq (i + 1)).next
    · have hjk := (D.own1 k hk hm j hjo)
      have := D.apart (j := i) (k := j) (b := b) (by omega) (by omega) hin.1 hin.2 h1 h2
      subst this
      exact absurd hih hjk.2.2.2
    · simp only; omega
  rcases hstp.ok with ⟨hw, hv, he⟩ | ⟨hw, H2, hop, hp0, hp1, hp3⟩
  · -- skipped
    have hu : VRel ι (vq k) undef := by rw [hv]; exact undef_rel
    have hstep : ∀ (b : Frame) (rest : List Nat) (K : List Item) (cs : List Frame), Steps P (lone (b.atR a (.inRegion ops (k :: rest) :: K)) cs w) (lone (b.atR (a.put (pf k).o.dst undef) (.inRegion ops rest :: K)) cs w) := by
      intro b rest K cs
      have := stepR_op_skip (P := P) (b := b) (a := a) (k := K) (cs := cs) (w := w) (ops := ops) (i := k) (rest := rest) (by rw [hok]; simp [hwt, hw])
      rw [hok] at this
      exact .one this
    refine ⟨_, w, ⟨ι, hsl.put D hk hu, ?_⟩, hstep⟩
    by_cases hm : (pf k).m = 2
    · obtain ⟨q, hqk, q1, q2, q3, q4, _⟩ := toB hm
      right
      refine ⟨k + 1, by omega, by rw [he]; exact q1, by rw [he]; exact q2, fun j hj hmj => ?_, fun j h1 h2 h3 => q4 j (by omega) h2 h3⟩
      constructor
      · rintro (rfl | hs)
        · omega
        · have := (q3 j hj hmj).1 hs; omega
      · intro hjk
        by_cases e : j = k
        · exact .inl e
        · exact .inr ((q3 j hj hmj).2 (by omega))
    · by_cases hm3 : (pf k).m = 3
      · obtain ⟨A, _⟩ := freeA hm (by omega)
        have hr := A.hrel D hH hT (c' := ctxAt c (pf k) (rq k) (Hq k)) (T' := (Hq (k + 1)).next) (k := k) (by omega) (fun b hb' => ((vis13 (.inr hm3) b).1 hb').2) (hjk13 (.inr hm3)) (hw13 (.inr hm3)) hd13
        refine .inl (A.owned D hH hT hk hm3 (own13 hm3) (fun b hb' => ((vis13 (.inr hm3) b).1 hb').2) (hjk13 (.inr hm3)) (hw13 (.inr hm3)) (by rw [he]; exact Post.refl _ _ _ _) ?_)
        rw [he] at hr ⊢; exact hr
      · exact also hm hm3 he hph w (Nat.le_refl _) (fun _ _ => rfl) rfl rfl rfl (fun h2 => freeA hm h2)
  · -- done
    by_cases hm0 : (pf k).m = 0
    · obtain ⟨hn2, he⟩ := hp0 hm0
      have hct : ctxAt c (pf k) (rq k) (Hq k) = c := ctxAt_of (by omega) (by omega)
      have hht : heapAt (pf k) (Hq k) = ⟨.leaf, (Hq k).next⟩ := by simp only [heapAt, hm0]
      rw [hct, hht] at hop
      have hHl : HRel c (Hq k).next ι ⟨.leaf, (Hq k).next⟩ w := ⟨fun b o hg => (by rw [Tr.get_leaf] at hg; cases hg), fun b b' o o' r C C' hg => (by rw [Tr.get_leaf] at hg; cases hg), fun b h1 h2 => (by have h1 : (Hq k).next ≤ b := h1; omega), fun b o hg => (by rw [Tr.get_leaf] at hg; cases hg)⟩
      obtain ⟨ι', w', u, p, q, hvr, hrun⟩ := hop.2 _ ι w a (by omega) hev hHl
      have hιe : ι' = ι := by
        funext b
        cases hb' : ι b with
        | some x => exact p.ext _ _ hb'
        | none =>
          cases hb2 : ι' b with
          | none => rfl
          | some x =>
            have h3 := p.old b hb' x hb2
            have h4 : (Hq k).next ≤ b := h3.1
            have h5 := h3.2
            omega
      subst hιe
      refine ⟨_, w', ⟨ι', hsl.put D hk hvr, ?_⟩, fun b rest K cs => hrun b ops k rest K cs hok (by rw [hwt, hw])⟩
      exact also (by omega) (by omega) he hph w' p.size (fun r hr => p.frame r hr (fun b o C _ hg => (by rw [Tr.get_leaf] at hg; cases hg))) p.os p.tape p.output (fun h => absurd hm0 h)
    · have e := hp1 hm0
      subst e
      rw [heapAt_of hm0] at hop
      by_cases hm2 : (pf k).m = 2
      · rw [ctxAt_of (by omega) (by omega)] at hop
        obtain ⟨q, hqk, q1, q2, q3, q4, _⟩ := toB hm2
        have hTk : (Hq (k + 1)).next ≤ T := Nat.le_trans (D.mono (j := k + 1) (k := ops.size) (by omega) (Nat.le_refl _)) hT
        obtain ⟨ι', w', u, p, r, hvr, hrun⟩ := hop.2 T ι w a hTk hev q1
        refine ⟨_, w', ⟨ι', (hsl.mono p.ext).put D hk hvr, .inr ⟨k + 1, by omega, r, Post.trans hH q1 (Nat.le_trans (D.mono (by omega) (by omega)) hTk) q2 p, fun j hj hmj => ?_, fun j h1 h2 h3 => q4 j (by omega) h2 h3⟩⟩, fun b rest K cs => hrun b ops k rest K cs hok (by rw [hwt, hw])⟩
        constructor
        · rintro (rfl | hs)
          · omega
          · have := (q3 j hj hmj).1 hs; omega
        · intro hjk
          by_cases e : j = k
          · exact .inl e
          · exact .inr ((q3 j hj hmj).2 (by omega))
      · obtain ⟨A, _⟩ := freeA hm2 hm0
        have hm13 : (pf k).m = 1 ∨ (pf k).m = 3 := by have := D.ms k; omega
        have hr := A.hrel D hH hT (c' := ctxAt c (pf k) (rq k) (Hq k)) (T' := (Hq (k + 1)).next) (k := k) (by omega) (fun b hb' => ((vis13 hm13 b).1 hb').2) (hjk13 hm13) (hw13 hm13) hd13
        obtain ⟨ι', w', u, p, r, hvr, hrun⟩ := hop.2 (Hq (k + 1)).next ι w a (Nat.le_refl _) hev hr
        by_cases hm3 : (pf k).m = 3
        · have hn3 := (hp3 hm3).1
          have hιe : ι' = ι := by
            funext b
            cases hb' : ι b with
            | some x => exact p.ext _ _ hb'
            | none =>
              cases hb2 : ι' b with
              | none => rfl
              | some x => have h3 := p.old b hb' x hb2; omega
          subst hιe
          exact ⟨_, w', ⟨ι', hsl.put D hk hvr, .inl (A.owned D hH hT hk hm3 (own13 hm3) (fun b hb' => ((vis13 hm13 b).1 hb').2) (hjk13 hm13) (hw13 hm13) p r)⟩, fun b rest K cs => hrun b ops k rest K cs hok (by rw [hwt, hw])⟩
        · have hm1 : (pf k).m = 1 := by omega
          refine ⟨_, w', ⟨ι', (hsl.mono p.ext).put D hk hvr, .inl (A.free D hH hT hk hm1 hnk hcl (fun b h1 h2 => (vis13 hm13 b).2 ⟨fun x hx => ?_, h2⟩) (fun b hlt => may1 hm1 hlt) p r)⟩, fun b rest K cs => hrun b ops k rest K cs hok (by rw [hwt, hw])⟩
          obtain ⟨j, h3, _⟩ := rng_spec.1 hx
          have := hrng _ h3
          simp only at this
          omega
end

end
end Go.Proofs.YtokafjkinkafiaaGreat.Mini
