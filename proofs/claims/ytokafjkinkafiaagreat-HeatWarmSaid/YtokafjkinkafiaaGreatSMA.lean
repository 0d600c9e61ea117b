/- The small machine: an evaluator of the model's code, and what it computes is what the model's machine does. No Go in sight. -/
import Derived.AtR
import Derived.Orders
import Derived.Below
import Derived.Laws.CopyRow
import Derived.Laws.Cells
import Derived.Laws.Entries
import Derived.Laws.Tables
set_option linter.unusedSimpArgs false
set_option linter.unusedVariables false
namespace Go.Proofs.YtokafjkinkafiaaGreat.Mini
open Go.RowKit

inductive Dig where
  | d0 | d1 | d2 | d3 | d4 | d5 | d6 | d7
  deriving DecidableEq
inductive Tr (α : Type) where
  | leaf
  | node (v : Option α) (a b c d e f g h : Tr α)

/-! The digits of a number, with eight for a base: the kernel keeps what it has computed of a number. -/
def digOf (k : Nat) : Dig :=
  match Nat.beq k 0 with
  | true => .d0
  | false => match Nat.beq k 1 with
    | true => .d1
    | false => match Nat.beq k 2 with
      | true => .d2
      | false => match Nat.beq k 3 with
        | true => .d3
        | false => match Nat.beq k 4 with
          | true => .d4
          | false => match Nat.beq k 5 with
            | true => .d5
            | false => match Nat.beq k 6 with
              | true => .d6
              | false => .d7
def pathF : Nat → Nat → List Dig
  | 0, _ => []
  | f + 1, k => match Nat.beq k 0 with
    | true => []
    | false => digOf (Nat.mod k 8) :: pathF f (Nat.div k 8)
def path (k : Nat) : List Dig := pathF k k
def digVal : Dig → Nat
  | .d0 => 0 | .d1 => 1 | .d2 => 2 | .d3 => 3 | .d4 => 4 | .d5 => 5 | .d6 => 6 | .d7 => 7
def pathVal : List Dig → Nat
  | [] => 0
  | d :: l => digVal d + 8 * pathVal l

noncomputable def kid0 {α : Type} (t : Tr α) : Tr α := Tr.rec (motive := fun _ => Tr α) .leaf (fun _ a _ _ _ _ _ _ _ _ _ _ _ _ _ _ _ => a) t
noncomputable def kid1 {α : Type} (t : Tr α) : Tr α := Tr.rec (motive := fun _ => Tr α) .leaf (fun _ _ b _ _ _ _ _ _ _ _ _ _ _ _ _ _ => b) t
noncomputable def kid2 {α : Type} (t : Tr α) : Tr α := Tr.rec (motive := fun _ => Tr α) .leaf (fun _ _ _ c _ _ _ _ _ _ _ _ _ _ _ _ _ => c) t
noncomputable def kid3 {α : Type} (t : Tr α) : Tr α := Tr.rec (motive := fun _ => Tr α) .leaf (fun _ _ _ _ d _ _ _ _ _ _ _ _ _ _ _ _ => d) t
noncomputable def kid4 {α : Type} (t : Tr α) : Tr α := Tr.rec (motive := fun _ => Tr α) .leaf (fun _ _ _ _ _ e _ _ _ _ _ _ _ _ _ _ _ => e) t
noncomputable def kid5 {α : Type} (t : Tr α) : Tr α := Tr.rec (motive := fun _ => Tr α) .leaf (fun _ _ _ _ _ _ f _ _ _ _ _ _ _ _ _ _ => f) t
noncomputable def kid6 {α : Type} (t : Tr α) : Tr α := Tr.rec (motive := fun _ => Tr α) .leaf (fun _ _ _ _ _ _ _ g _ _ _ _ _ _ _ _ _ => g) t
noncomputable def kid7 {α : Type} (t : Tr α) : Tr α := Tr.rec (motive := fun _ => Tr α) .leaf (fun _ _ _ _ _ _ _ _ h _ _ _ _ _ _ _ _ => h) t
noncomputable def sk0 {α : Type} (t x : Tr α) : Tr α := Tr.rec (motive := fun _ => Tr α) (.node none x .leaf .leaf .leaf .leaf .leaf .leaf .leaf) (fun v _ b c d e f g h _ _ _ _ _ _ _ _ => .node v x b c d e f g h) t
noncomputable def sk1 {α : Type} (t x : Tr α) : Tr α := Tr.rec (motive := fun _ => Tr α) (.node none .leaf x .leaf .leaf .leaf .leaf .leaf .leaf) (fun v a _ c d e f g h _ _ _ _ _ _ _ _ => .node v a x c d e f g h) t
noncomputable def sk2 {α : Type} (t x : Tr α) : Tr α := Tr.rec (motive := fun _ => Tr α) (.node none .leaf .leaf x .leaf .leaf .leaf .leaf .leaf) (fun v a b _ d e f g h _ _ _ _ _ _ _ _ => .node v a b x d e f g h) t
noncomputable def sk3 {α : Type} (t x : Tr α) : Tr α := Tr.rec (motive := fun _ => Tr α) (.node none .leaf .leaf .leaf x .leaf .leaf .leaf .leaf) (fun v a b c _ e f g h _ _ _ _ _ _ _ _ => .node v a b c x e f g h) t
noncomputable def sk4 {α : Type} (t x : Tr α) : Tr α := Tr.rec (motive := fun _ => Tr α) (.node none .leaf .leaf .leaf .leaf x .leaf .leaf .leaf) (fun v a b c d _ f g h _ _ _ _ _ _ _ _ => .node v a b c d x f g h) t
noncomputable def sk5 {α : Type} (t x : Tr α) : Tr α := Tr.rec (motive := fun _ => Tr α) (.node none .leaf .leaf .leaf .leaf .leaf x .leaf .leaf) (fun v a b c d e _ g h _ _ _ _ _ _ _ _ => .node v a b c d e x g h) t
noncomputable def sk6 {α : Type} (t x : Tr α) : Tr α := Tr.rec (motive := fun _ => Tr α) (.node none .leaf .leaf .leaf .leaf .leaf .leaf x .leaf) (fun v a b c d e f _ h _ _ _ _ _ _ _ _ => .node v a b c d e f x h) t
noncomputable def sk7 {α : Type} (t x : Tr α) : Tr α := Tr.rec (motive := fun _ => Tr α) (.node none .leaf .leaf .leaf .leaf .leaf .leaf .leaf x) (fun v a b c d e f g _ _ _ _ _ _ _ _ _ => .node v a b c d e f g x) t
noncomputable def tval {α : Type} (t : Tr α) : Option α := Tr.rec (motive := fun _ => Option α) none (fun v _ _ _ _ _ _ _ _ _ _ _ _ _ _ _ _ => v) t
noncomputable def tput {α : Type} (t : Tr α) (x : Option α) : Tr α := Tr.rec (motive := fun _ => Tr α) (.node x .leaf .leaf .leaf .leaf .leaf .leaf .leaf .leaf) (fun _ a b c d e f g h _ _ _ _ _ _ _ _ => .node x a b c d e f g h) t
noncomputable def kid {α : Type} (d : Dig) : Tr α → Tr α := Dig.rec (motive := fun _ => Tr α → Tr α) kid0 kid1 kid2 kid3 kid4 kid5 kid6 kid7 d
noncomputable def setKid {α : Type} (d : Dig) : Tr α → Tr α → Tr α := Dig.rec (motive := fun _ => Tr α → Tr α → Tr α) sk0 sk1 sk2 sk3 sk4 sk5 sk6 sk7 d
noncomputable def getP {α : Type} (p : List Dig) : Tr α → Option α := List.rec (motive := fun _ => Tr α → Option α) tval (fun d _ ih t => ih (kid d t)) p
noncomputable def setP {α : Type} (p : List Dig) : Tr α → Option α → Tr α := List.rec (motive := fun _ => Tr α → Option α → Tr α) tput (fun d _ ih t x => setKid d t (ih (kid d t) x)) p
noncomputable def Tr.get {α : Type} (t : Tr α) (k : Nat) : Option α := getP (path k) t
noncomputable def Tr.set {α : Type} (_ : Nat) (t : Tr α) (k : Nat) (x : Option α) : Tr α := setP (path k) t x

theorem beq_t {a b : Nat} (h : a = b) : Nat.beq a b = true := by subst h; exact Nat.beq_refl a
theorem beq_f {a b : Nat} (h : a ≠ b) : Nat.beq a b = false := by
  cases hb : Nat.beq a b with
  | false => rfl
  | true => exact absurd (Nat.eq_of_beq_eq_true hb) h

theorem digVal_digOf {k : Nat} (h : k < 8) : digVal (digOf k) = k := by
  match k, h with
  | 0, _ => rfl
  | 1, _ => rfl
  | 2, _ => rfl
  | 3, _ => rfl
  | 4, _ => rfl
  | 5, _ => rfl
  | 6, _ => rfl
  | 7, _ => rfl
theorem pathVal_pathF : ∀ (f k : Nat), k ≤ f → pathVal (pathF f k) = k := by
  intro f
  induction f with
  | zero => intro k h; have : k = 0 := by omega
            subst this; rfl
  | succ f ih =>
    intro k h
    unfold pathF
    by_cases k0 : k = 0
    · subst k0; rfl
    · rw [beq_f k0]
      have e1 : Nat.mod k 8 = k % 8 := rfl
      have e2 : Nat.div k 8 = k / 8 := rfl
      simp only [pathVal, e1, e2]
      rw [digVal_digOf (Nat.mod_lt _ (by omega)), ih (k / 8) (by omega)]
      omega
theorem path_inj {k k' : Nat} (h : path k = path k') : k = k' := by
  rw [← pathVal_pathF k k (Nat.le_refl _), ← pathVal_pathF k' k' (Nat.le_refl _)]
  exact congrArg pathVal h
theorem kid_setKid {α : Type} (d d' : Dig) (t x : Tr α) : kid d' (setKid d t x) = if d' = d then x else kid d' t := by
  cases t <;> cases d <;> cases d' <;> rfl
theorem tval_setKid {α : Type} (d : Dig) (t x : Tr α) : tval (setKid d t x) = tval t := by
  cases t <;> cases d <;> rfl
theorem kid_tput {α : Type} (d : Dig) (t : Tr α) (x : Option α) : kid d (tput t x) = kid d t := by
  cases t <;> cases d <;> rfl
theorem tval_tput {α : Type} (t : Tr α) (x : Option α) : tval (tput t x) = x := by
  cases t <;> rfl
theorem getP_setP {α : Type} (x : Option α) : ∀ (p p' : List Dig) (t : Tr α), getP p' (setP p t x) = if p' = p then x else getP p' t := by
  intro p
  induction p with
  | nil =>
    intro p' t
    cases p' with
    | nil => rw [if_pos rfl]; exact tval_tput t x
    | cons d q =>
      rw [if_neg (fun h => by cases h)]
      show getP q (kid d (tput t x)) = getP q (kid d t)
      rw [kid_tput]
  | cons d p ih =>
    intro p' t
    cases p' with
    | nil => rw [if_neg (fun h => by cases h)]; exact tval_setKid d t _
    | cons d' q =>
      show getP q (kid d' (setKid d t (setP p (kid d t) x))) = _
      rw [kid_setKid]
      by_cases e : d' = d
      · subst e
        rw [if_pos rfl, ih]
        by_cases e2 : q = p
        · subst e2; rw [if_pos rfl, if_pos rfl]
        · rw [if_neg e2, if_neg (fun h => e2 (by injection h))]; rfl
      · rw [if_neg e, if_neg (fun h => e (by injection h))]; rfl
theorem getP_leaf {α : Type} : ∀ (p : List Dig), getP p (Tr.leaf : Tr α) = none := by
  intro p
  induction p with
  | nil => rfl
  | cons d p ih =>
    show getP p (kid d .leaf) = none
    have : kid d (Tr.leaf : Tr α) = .leaf := by cases d <;> rfl
    rw [this, ih]
theorem Tr.get_leaf {α : Type} (k : Nat) : (Tr.leaf : Tr α).get k = none := getP_leaf _
theorem Tr.get_set {α : Type} (x : Option α) (f : Nat) (t : Tr α) (k k' : Nat) (_ : k + 1 < 2 ^ f) : (Tr.set f t k x).get k' = if k' = k then x else t.get k' := by
  show getP (path k') (setP (path k) t x) = _
  rw [getP_setP]
  by_cases e : k' = k
  · subst e; rw [if_pos rfl, if_pos rfl]
  · rw [if_neg e, if_neg (fun h => e (path_inj h))]; rfl

/-! Tables of a program's functions and types. -/
noncomputable def tabG {α : Type} (l : List α) : Nat → Tr α → Tr α := List.rec (motive := fun _ => Nat → Tr α → Tr α) (fun _ t => t) (fun x _ ih k t => ih (Nat.succ k) (setP (path k) t (some x))) l
theorem tabG_get {α : Type} : ∀ (l : List α) (k : Nat) (t : Tr α) (i : Nat), (tabG l k t).get i = if k ≤ i ∧ i < k + l.length then l[i - k]? else t.get i := by
  intro l
  induction l with
  | nil => intro k t i; rw [if_neg (by rw [List.length_nil]; omega)]; rfl
  | cons x l ih =>
    intro k t i
    show (tabG l (k + 1) (setP (path k) t (some x))).get i = _
    rw [ih]
    have hg : (setP (path k) t (some x)).get i = if i = k then some x else t.get i := by
      show getP (path i) (setP (path k) t (some x)) = _
      rw [getP_setP]
      by_cases e : i = k
      · subst e; rw [if_pos rfl, if_pos rfl]
      · rw [if_neg e, if_neg (fun h => e (path_inj h))]; rfl
    simp only [List.length_cons]
    by_cases e : i = k
    · subst e
      rw [if_neg (by omega), if_pos (by omega), hg, if_pos rfl]
      simp
    · by_cases h : k + 1 ≤ i ∧ i < k + 1 + l.length
      · rw [if_pos h, if_pos (by omega)]
        obtain ⟨j, rfl⟩ : ∃ j, i = k + 1 + j := ⟨i - (k + 1), by omega⟩
        rw [show k + 1 + j - (k + 1) = j from by omega, show k + 1 + j - k = j + 1 from by omega]
        simp
      · rw [if_neg h, if_neg (by omega), hg, if_neg e]
noncomputable def tabOf {α : Type} (l : List α) : Tr α := tabG l 0 .leaf
theorem tabOf_get {α : Type} (l : List α) (i : Nat) : (tabOf l).get i = l[i]? := by
  unfold tabOf
  rw [tabG_get]
  by_cases h : i < l.length
  · rw [if_pos (by omega), Nat.sub_zero]
  · rw [if_neg (by omega), Tr.get_leaf]
    exact (List.getElem?_eq_none (by omega)).symm
noncomputable def fOf (P : Program) (g : FuncId) : Option Func := (tabOf P.funcs.toList).get g
theorem fOf_eq (P : Program) (g : FuncId) : fOf P g = P.funcs[g]? := by
  unfold fOf; rw [tabOf_get]; simp
noncomputable def inf (P : Program) (t : TypeId) : Option TypeInfo :=
  match (tabOf P.types.toList).get t with
  | some i => some i
  | none => P.info? t
theorem inf_eq (P : Program) (t : TypeId) : inf P t = P.info? t := by
  unfold inf
  rw [tabOf_get]
  by_cases h : t < P.types.size
  · simp [Tables.info?, h]
  · have : P.types.toList[t]? = none := List.getElem?_eq_none (by simpa using h)
    rw [this]
noncomputable def undI (P : Program) (i : TypeInfo) : Option TypeDesc :=
  match i.desc with
  | .named _ u => match inf P u with
    | some j => some j.desc
    | none => none
  | d => some d
noncomputable def und (P : Program) (t : TypeId) : Option TypeDesc :=
  match inf P t with
  | some i => undI P i
  | none => none
theorem und_eq (P : Program) (t : TypeId) : und P t = P.underlying t := by
  unfold und Program.underlying
  rw [inf_eq]
  cases P.info? t with
  | none => rfl
  | some i =>
    simp only [undI]
    obtain ⟨desc, r⟩ := i
    cases desc <;> simp [inf_eq]
    rename_i u
    cases P.info? u <;> rfl

/-- How deep a trie may be. -/
abbrev deep : Nat := 40
def small (k : Nat) : Bool := Nat.blt k 1000000000
theorem small_deep {k : Nat} (h : small k = true) : k + 1 < 2 ^ deep := by
  have : k < 1000000000 := by simpa [small, Nat.blt_eq] using h
  have : (2 : Nat) ^ deep = 1099511627776 := by decide
  omega

/-- Values whose blocks bear names of their own. -/
inductive CV where
  | bool (b : Bool)
  | int (k : IntKind) (n : Int)
  | str (s : ByteArray)
  | ptr (b off : Nat)
  | nilp
  | sl (b off len cap : Nat)
  | slo (b off skip len : Nat)
  | nils
  | mp (b : Nat)
  | nilm
  | fn (f : FuncId) (first caps : List CV)
  | yl (l : Nat)
  | nilf
  | agg (cs : List CV)
  | tup (vs : List CV)
  deriving Inhabited

/-- Where blocks lie, and with what capacity. -/
abbrev Emb := Nat → Option (Nat × Nat)
def Emb.le (ι ι' : Emb) : Prop := ∀ b p, ι b = some p → ι' b = some p
theorem Emb.le_refl (ι : Emb) : ι.le ι := fun _ _ h => h
theorem Emb.le_trans {a b c : Emb} (h : a.le b) (k : b.le c) : a.le c := fun x p e => k x p (h x p e)

mutual
inductive VRel (ι : Emb) : CV → Value → Prop
  | bool (b : Bool) : VRel ι (.bool b) (.bool b)
  | int (k : IntKind) (n : Int) : VRel ι (.int k n) (.int k n)
  | str (s : ByteArray) : VRel ι (.str s) (.string s)
  | ptr {b r C : Nat} (off : Nat) (h : ι b = some (r, C)) : VRel ι (.ptr b off) (.pointer (some ⟨r, off, none⟩))
  | nilp : VRel ι .nilp (.pointer none)
  | sl {b r C : Nat} (off len cap : Nat) (h : ι b = some (r, C)) : VRel ι (.sl b off len cap) (.slice (some ⟨r, off, none⟩) len cap)
  | slo {b r C : Nat} (off skip len : Nat) (h : ι b = some (r, C)) : VRel ι (.slo b off skip len) (.slice (some ⟨r, off, none⟩) len (C - skip))
  | nils : VRel ι .nils (.slice none 0 0)
  | mp {b r C : Nat} (h : ι b = some (r, C)) : VRel ι (.mp b) (.map (some r))
  | nilm : VRel ι .nilm (.map none)
  | fn (f : FuncId) {a c : List CV} {a' c' : List Value} (ha : LRel ι a a') (hc : LRel ι c c') : VRel ι (.fn f a c) (.func (.func f) a'.toArray c'.toArray)
  | yl {b r C : Nat} (h : ι b = some (r, C)) : VRel ι (.yl b) (.func (.yield r) #[] #[])
  | nilf : VRel ι .nilf .nilFunc
  | agg {c : List CV} {c' : List Value} (hc : LRel ι c c') : VRel ι (.agg c) (.agg c'.toArray)
  | tup {c : List CV} {c' : List Value} (hc : LRel ι c c') : VRel ι (.tup c) (.tuple c'.toArray)
inductive LRel (ι : Emb) : List CV → List Value → Prop
  | nil : LRel ι [] []
  | cons {v : CV} {u : Value} {l : List CV} {m : List Value} (h : VRel ι v u) (t : LRel ι l m) : LRel ι (v :: l) (u :: m)
end

mutual
theorem VRel.mono {ι ι' : Emb} (hι : ι.le ι') : ∀ {v : CV} {u : Value}, VRel ι v u → VRel ι' v u
  | _, _, .bool b => .bool b
  | _, _, .int k n => .int k n
  | _, _, .str s => .str s
  | _, _, .ptr off h => .ptr off (hι _ _ h)
  | _, _, .nilp => .nilp
  | _, _, .sl off len cap h => .sl off len cap (hι _ _ h)
  | _, _, .slo off skip len h => .slo off skip len (hι _ _ h)
  | _, _, .nils => .nils
  | _, _, .mp h => .mp (hι _ _ h)
  | _, _, .nilm => .nilm
  | _, _, .fn f ha hc => .fn f (LRel.mono hι ha) (LRel.mono hι hc)
  | _, _, .yl h => .yl (hι _ _ h)
  | _, _, .nilf => .nilf
  | _, _, .agg hc => .agg (LRel.mono hι hc)
  | _, _, .tup hc => .tup (LRel.mono hι hc)
theorem LRel.mono {ι ι' : Emb} (hι : ι.le ι') : ∀ {l : List CV} {m : List Value}, LRel ι l m → LRel ι' l m
  | _, _, .nil => .nil
  | _, _, .cons h t => .cons (VRel.mono hι h) (LRel.mono hι t)
end

theorem LRel.length {ι : Emb} {l : List CV} {m : List Value} (h : LRel ι l m) : l.length = m.length := by
  induction l generalizing m with
  | nil => cases h; rfl
  | cons v l ih => cases h with | cons h t => simp [ih t]
theorem LRel.append {ι : Emb} {l l2 : List CV} {m m2 : List Value} (h : LRel ι l m) (h2 : LRel ι l2 m2) : LRel ι (l ++ l2) (m ++ m2) := by
  induction l generalizing m with
  | nil => cases h; exact h2
  | cons v l ih => cases h with | cons h t => exact .cons h (ih t)
theorem LRel.take {ι : Emb} {l : List CV} {m : List Value} (h : LRel ι l m) (n : Nat) : LRel ι (l.take n) (m.take n) := by
  induction l generalizing m n with
  | nil => cases h; simp; exact .nil
  | cons v l ih => cases h with | cons h t => cases n with
    | zero => exact .nil
    | succ n => exact .cons h (ih t n)
theorem LRel.drop {ι : Emb} {l : List CV} {m : List Value} (h : LRel ι l m) (n : Nat) : LRel ι (l.drop n) (m.drop n) := by
  induction l generalizing m n with
  | nil => cases h; simp; exact .nil
  | cons v l ih => cases h with | cons h t => cases n with
    | zero => exact .cons h t
    | succ n => exact ih t n
theorem LRel.set {ι : Emb} {l : List CV} {m : List Value} {v : CV} {u : Value} (h : LRel ι l m) (hv : VRel ι v u) (n : Nat) : LRel ι (l.set n v) (m.set n u) := by
  induction l generalizing m n with
  | nil => cases h; simp; exact .nil
  | cons v l ih => cases h with | cons h t => cases n with
    | zero => exact .cons hv t
    | succ n => exact .cons h (ih t n)
theorem LRel.get {ι : Emb} {l : List CV} {m : List Value} (h : LRel ι l m) {n : Nat} {v : CV} (hv : l[n]? = some v) : ∃ u, m[n]? = some u ∧ VRel ι v u := by
  induction l generalizing m n with
  | nil => simp at hv
  | cons v l ih => cases h with | cons h t => cases n with
    | zero => simp at hv; subst hv; exact ⟨_, by simp, h⟩
    | succ n => simp at hv ⊢; exact ih t hv

/-- The cells of a value. -/
def CV.cells : CV → List CV
  | .agg cs => cs
  | v => [v]
theorem VRel.cells {ι : Emb} {v : CV} {u : Value} (h : VRel ι v u) : LRel ι v.cells u.cells.toList := by
  cases h <;> first | (rename_i hc; simpa [CV.cells, Value.cells] using hc) | (refine .cons ?_ .nil; constructor <;> assumption) | (refine .cons ?_ .nil; constructor)
def CV.one : CV → Bool
  | .agg _ | .tup _ => false
  | _ => true
theorem VRel.one {ι : Emb} {v : CV} {u : Value} (h : VRel ι v u) (ho : v.one = true) : u.oneCell' = true := by
  cases h <;> first | rfl | simp [CV.one] at ho

/-- A value of the model's that leads to no memory. -/
def ofV1 : Value → Option CV
  | .bool b => some (.bool b)
  | .int k n => some (.int k n)
  | .string s => some (.str s)
  | .pointer none => some .nilp
  | .slice none 0 0 => some .nils
  | .map none => some .nilm
  | .nilFunc => some .nilf
  | .func (.func f) ⟨[]⟩ ⟨[]⟩ => some (.fn f [] [])
  | _ => none
def ofVs : List Value → Option (List CV)
  | [] => some []
  | v :: l => match ofV1 v with
    | some c => match ofVs l with
      | some cs => some (c :: cs)
      | none => none
    | none => none
def ofV : Value → Option CV
  | .agg cs => (ofVs cs.toList).map .agg
  | .tuple cs => (ofVs cs.toList).map .tup
  | v => ofV1 v
theorem ofV1_rel {ι : Emb} {v : Value} {c : CV} (h : ofV1 v = some c) : VRel ι c v := by
  unfold ofV1 at h
  split at h <;> first
    | (injection h with h; subst h; first | exact VRel.fn _ (a' := []) (c' := []) .nil .nil | constructor)
    | cases h
theorem ofVs_rel {ι : Emb} {l : List Value} {cs : List CV} (h : ofVs l = some cs) : LRel ι cs l := by
  induction l generalizing cs with
  | nil => simp [ofVs] at h; subst h; exact .nil
  | cons v l ih =>
    simp only [ofVs] at h
    split at h
    · rename_i c hc
      split at h
      · rename_i cs' hcs
        injection h with h; subst h
        exact .cons (ofV1_rel hc) (ih hcs)
      · cases h
    · cases h
theorem ofV_rel {ι : Emb} {v : Value} {c : CV} (h : ofV v = some c) : VRel ι c v := by
  unfold ofV at h
  split at h
  · rename_i cs
    cases hc : ofVs cs.toList with
    | none => rw [hc] at h; cases h
    | some l => rw [hc] at h; injection h with h; subst h; exact VRel.agg (c' := cs.toList) (ofVs_rel hc)
  · rename_i cs
    cases hc : ofVs cs.toList with
    | none => rw [hc] at h; cases h
    | some l => rw [hc] at h; injection h with h; subst h; exact VRel.tup (c' := cs.toList) (ofVs_rel hc)
  · exact ofV1_rel h

/-- Slots: a trie of values; what it does not hold is undefined. -/
def Slots (ι : Emb) (s : Tr CV) (a : Array Value) : Prop := ∀ t, VRel ι ((s.get t).getD (.tup [])) (a.getD t undef)
theorem Slots.mono {ι ι' : Emb} {s : Tr CV} {a : Array Value} (h : Slots ι s a) (hι : ι.le ι') : Slots ι' s a := fun t => (h t).mono hι
theorem Slots.put {ι : Emb} {s : Tr CV} {a : Array Value} {v : CV} {u : Value} (h : Slots ι s a) (hv : VRel ι v u) {d : Nat} (hd : small d = true) (hs : d < a.size) : Slots ι (Tr.set deep s d (some v)) (a.setIfInBounds d u) := by
  intro t
  rw [Tr.get_set _ _ _ _ _ (small_deep hd)]
  by_cases e : t = d
  · subst e; simpa [Array.getD, hs] using hv
  · rw [if_neg e]
    have := h t
    simp only [Array.getD_eq_getD_getElem?] at this ⊢
    rw [Array.getElem?_setIfInBounds_ne (fun h => e h.symm)]
    exact this

/-- How a block of cells may be used: read only; read and written; grown (of so many cells an element). -/
inductive How where
  | ro | rw | opn (e : Nat)

inductive CO where
  | cells (ty : TypeId) (m : How) (cs : List CV)
  | map (es : List (CV × CV × Nat)) (clock : Nat)
  | loop (st : LoopState) (pend : Option Code) (fn : FuncId) (slots : Tr CV) (n : Nat) (ps : List Tmp) (as body : Code) (dfr : Nat)
  | dfd (b : Bool)

inductive ERel (ι : Emb) : List (CV × CV × Nat) → List MapEntry → Prop
  | nil : ERel ι [] []
  | cons {k v : CV} {k' v' : Value} {n : Nat} {l : List (CV × CV × Nat)} {m : List MapEntry} (hk : VRel ι k k') (hv : VRel ι v v') (t : ERel ι l m) : ERel ι ((k, v, n) :: l) (⟨k', v', n⟩ :: m)
theorem ERel.mono {ι ι' : Emb} (hι : ι.le ι') {l : List (CV × CV × Nat)} {m : List MapEntry} (h : ERel ι l m) : ERel ι' l m := by
  induction h with
  | nil => exact .nil
  | cons hk hv _ ih => exact .cons (hk.mono hι) (hv.mono hι) ih

def How.fits (C : Nat) (m : How) (n : Nat) (size : Nat) (fz : Nat × Nat) : Prop :=
  match m with
  | .ro => True
  | .rw => fz = (0, 0) ∧ size = n
  | .opn e => fz = (0, 0) ∧ size = C * e

def ORel (ι : Emb) (C : Nat) : CO → Obj → Prop
  | .cells ty m cs, ob => ∃ (l : List Value) (fz : Nat × Nat), ob = .cells l.toArray ty fz ∧ LRel ι cs (l.take cs.length) ∧ cs.length ≤ l.length ∧ m.fits C cs.length l.length fz
  | .map es clock, ob => ∃ l : List MapEntry, ob = .map l.toArray clock ∧ ERel ι es l
  | .loop st pend fn s n ps as body dfr, ob => ∃ (a : Array Value) (r K : Nat), ob = .loop { state := st, pending := pend, fn, tmps := a, params := ps.toArray, assign := as, body, defers := r } ∧ Slots ι s a ∧ a.size = n ∧ ι dfr = some (r, K)
  | .dfd b, ob => ob = .deferred (if b then some [] else none)
theorem ORel.mono {ι ι' : Emb} (hι : ι.le ι') {C : Nat} {o : CO} {ob : Obj} (h : ORel ι C o ob) : ORel ι' C o ob := by
  cases o with
  | cells ty m cs => obtain ⟨l, fz, h1, h2, h3⟩ := h; exact ⟨l, fz, h1, h2.mono hι, h3⟩
  | map es clock => obtain ⟨l, h1, h2⟩ := h; exact ⟨l, h1, h2.mono hι⟩
  | loop st pend fn s n ps as body dfr => obtain ⟨a, r, K, h1, h2, h3, h4⟩ := h; exact ⟨a, r, K, h1, h2.mono hι, h3, hι _ _ h4⟩
  | dfd b => exact h

/-- The heap: blocks by their names, and the next name. -/
structure CH where
  tr : Tr CO
  next : Nat

/-- What may be seen, and written: from 'floor' on, and the ranges 'own'; but nothing of the ranges 'forb'. -/
structure Ctx where
  floor : Nat
  forb : List (Nat × Nat)
  own : List (Nat × Nat)
def Ctx.vis (c : Ctx) (b : Nat) : Bool := c.forb.all fun p => Nat.blt b p.1 || Nat.ble p.2 b
def Ctx.may (c : Ctx) (b : Nat) : Bool := (Nat.ble c.floor b || c.own.any fun p => Nat.ble p.1 b && Nat.blt b p.2) && c.vis b

structure HRel (c : Ctx) (T : Nat) (ι : Emb) (H : CH) (w : World) : Prop where
  blk : ∀ b o, H.tr.get b = some o → c.vis b = true → ∃ r C ob, ι b = some (r, C) ∧ w.heap[r]? = some ob ∧ ORel ι C o ob
  inj : ∀ b b' o o' r C C', H.tr.get b = some o → H.tr.get b' = some o' → c.vis b = true → c.vis b' = true → ι b = some (r, C) → ι b' = some (r, C') → b = b'
  dom : ∀ b, H.next ≤ b → b < T → ι b = none
  nxt : ∀ b o, H.tr.get b = some o → b < H.next

structure Post (c : Ctx) (ι : Emb) (H : CH) (w : World) (ι' : Emb) (H' : CH) (w' : World) : Prop where
  ext : ι.le ι'
  next : H.next ≤ H'.next
  old : ∀ b, ι b = none → ∀ p, ι' b = some p → H.next ≤ b ∧ b < H'.next
  fresh : ∀ b r C, ι b = none → ι' b = some (r, C) → w.heap.size ≤ r ∨ ∃ b0 o C0, c.may b0 = true ∧ H.tr.get b0 = some o ∧ ι b0 = some (r, C0)
  size : w.heap.size ≤ w'.heap.size
  os : w'.os = w.os
  tape : w'.tape = w.tape
  output : w'.output = w.output
  frame : ∀ r, r < w.heap.size → (∀ b o C, c.may b = true → H.tr.get b = some o → ι b ≠ some (r, C)) → w'.heap[r]? = w.heap[r]?
  keep : ∀ b, b < H.next → c.may b = false → H'.tr.get b = H.tr.get b
  live : ∀ b o, b < H.next → H'.tr.get b = some o → ∃ o', H.tr.get b = some o'

theorem Post.refl (c : Ctx) (ι : Emb) (H : CH) (w : World) : Post c ι H w ι H w where
  ext := Emb.le_refl ι
  next := Nat.le_refl _
  old := fun b h p h' => by rw [h] at h'; cases h'
  fresh := fun b r C h h' => by rw [h] at h'; cases h'
  size := Nat.le_refl _
  os := rfl
  tape := rfl
  output := rfl
  frame := fun _ _ _ => rfl
  keep := fun _ _ _ => rfl
  live := fun b o _ h => ⟨o, h⟩

theorem Post.trans {c : Ctx} {T : Nat} {ι ι1 ι2 : Emb} {H H1 H2 : CH} {w w1 w2 : World} (h0 : HRel c T ι H w) (hr : HRel c T ι1 H1 w1) (hT : H1.next ≤ T) (h : Post c ι H w ι1 H1 w1) (k : Post c ι1 H1 w1 ι2 H2 w2) : Post c ι H w ι2 H2 w2 where
  ext := Emb.le_trans h.ext k.ext
  next := Nat.le_trans h.next k.next
  old := fun b hb p hp => by
    cases h1 : ι1 b with
    | some q => exact ⟨(h.old b hb q h1).1, Nat.lt_of_lt_of_le (h.old b hb q h1).2 k.next⟩
    | none => exact ⟨Nat.le_trans h.next (k.old b h1 p hp).1, (k.old b h1 p hp).2⟩
  fresh := fun b r C hb hp => by
    cases h1 : ι1 b with
    | some q =>
      have := k.ext b q h1
      rw [hp] at this; injection this with this; subst this
      exact h.fresh b r C hb h1
    | none =>
      rcases k.fresh b r C h1 hp with hr' | ⟨b0, o, C0, hm, hg, hi⟩
      · exact .inl (Nat.le_trans h.size hr')
      · cases h2 : ι b0 with
        | none => exact h.fresh b0 r C0 h2 hi
        | some q =>
          have := h.ext b0 q h2
          rw [hi] at this; injection this with this; subst this
          have hlt : b0 < H.next := by
            rcases Nat.lt_or_ge b0 H.next with hlt | hge
            · exact hlt
            · rw [h0.dom b0 hge (Nat.lt_of_lt_of_le (hr.nxt b0 o hg) hT)] at h2; cases h2
          obtain ⟨o', ho'⟩ := h.live b0 o hlt hg
          exact .inr ⟨b0, o', C0, hm, ho', h2⟩
  size := Nat.le_trans h.size k.size
  os := k.os.trans h.os
  tape := k.tape.trans h.tape
  output := k.output.trans h.output
  frame := fun r hrr hn => by
    rw [k.frame r (Nat.lt_of_lt_of_le hrr h.size) ?_, h.frame r hrr hn]
    intro b o C hm hg hi
    cases h2 : ι b with
    | none =>
      rcases h.fresh b r C h2 hi with hge | ⟨b0, o0, C0, hm0, hg0, hi0⟩
      · omega
      · exact hn b0 o0 C0 hm0 hg0 hi0
    | some q =>
      have := h.ext b q h2
      rw [hi] at this; injection this with this; subst this
      have hlt : b < H.next := by
        rcases Nat.lt_or_ge b H.next with hlt | hge
        · exact hlt
        · rw [h0.dom b hge (Nat.lt_of_lt_of_le (hr.nxt b o hg) hT)] at h2; cases h2
      obtain ⟨o', ho'⟩ := h.live b o hlt hg
      exact hn b o' C hm ho' h2
  keep := fun b hb hm => by rw [k.keep b (Nat.lt_of_lt_of_le hb h.next) hm, h.keep b hb hm]
  live := fun b o hb hg => by
    obtain ⟨o', h'⟩ := k.live b o (Nat.lt_of_lt_of_le hb h.next) hg
    exact h.live b o' hb h'

end Go.Proofs.YtokafjkinkafiaaGreat.Mini

namespace Go.Proofs.YtokafjkinkafiaaGreat.Mini
noncomputable section
open Go.RowKit

theorem may_vis {c : Ctx} {b : Nat} (h : c.may b = true) : c.vis b = true := by
  unfold Ctx.may at h; simp at h; exact h.2

theorem HRel.fresh {c : Ctx} {T : Nat} {ι : Emb} {H : CH} {w : World} (h : HRel c T ι H w) : H.tr.get H.next = none := by
  cases hg : H.tr.get H.next with
  | none => rfl
  | some o => exact absurd (h.nxt _ _ hg) (Nat.lt_irrefl _)

def CH.add (H : CH) (o : CO) : CH := ⟨Tr.set deep H.tr H.next (some o), H.next + 1⟩
def CH.put (H : CH) (b : Nat) (o : CO) : CH := ⟨Tr.set deep H.tr b (some o), H.next⟩
def CH.kill (H : CH) (b : Nat) : CH := ⟨Tr.set deep H.tr b none, H.next⟩
def Emb.add (ι : Emb) (b r C : Nat) : Emb := fun x => if x = b then some (r, C) else ι x
theorem Emb.add_le {ι : Emb} {b r C : Nat} (h : ι b = none) : ι.le (ι.add b r C) := fun x p hp => by
  unfold Emb.add
  by_cases e : x = b
  · subst e; rw [h] at hp; cases hp
  · rw [if_neg e]; exact hp
theorem Emb.add_self {ι : Emb} {b r C : Nat} : (ι.add b r C) b = some (r, C) := by simp [Emb.add]

theorem HRel.lt {c : Ctx} {T : Nat} {ι : Emb} {H : CH} {w : World} (h : HRel c T ι H w) {b : Nat} {o : CO} (hg : H.tr.get b = some o) (hv : c.vis b = true) {r C : Nat} (hi : ι b = some (r, C)) : r < w.heap.size := by
  obtain ⟨r', C', ob, h1, h2, _⟩ := h.blk b o hg hv
  rw [hi] at h1; injection h1 with h1; injection h1 with h1 h3; subst h1
  exact (Array.getElem?_eq_some_iff.1 h2).1

/-- A new block. -/
theorem HRel.alloc {c : Ctx} {T : Nat} {ι : Emb} {H : CH} {w : World} (h : HRel c T ι H w) (hT : H.next < T) (hs : small H.next = true) {o : CO} {ob : Obj} {C : Nat} (ho : ORel ι C o ob) :
    Post c ι H w (ι.add H.next w.heap.size C) (H.add o) (w.alloc ob) ∧ HRel c T (ι.add H.next w.heap.size C) (H.add o) (w.alloc ob) := by
  have hn : ι H.next = none := h.dom _ (Nat.le_refl _) hT
  have hle := Emb.add_le (r := w.heap.size) (C := C) hn
  have hget : ∀ b, (H.add o).tr.get b = if b = H.next then some o else H.tr.get b := fun b => Tr.get_set _ _ _ _ _ (small_deep hs)
  have hold : ∀ k, k < w.heap.size → (w.alloc ob).heap[k]? = w.heap[k]? := fun k hk => Below.heap_alloc _ _ _ hk
  have hnew : (w.alloc ob).heap[w.heap.size]? = some ob := by show (w.heap.push ob)[w.heap.size]? = _; simp
  have hι : ∀ b, b ≠ H.next → (ι.add H.next w.heap.size C) b = ι b := fun b hb => by simp [Emb.add, hb]
  refine ⟨⟨hle, Nat.le_succ _, ?_, ?_, by show w.heap.size ≤ (w.heap.push ob).size; simp, rfl, rfl, rfl, fun r hr _ => hold r hr, ?_, ?_⟩, ⟨?_, ?_, ?_, ?_⟩⟩
  · intro b hb p hp
    by_cases e : b = H.next
    · subst e; exact ⟨Nat.le_refl _, Nat.lt_succ_self _⟩
    · rw [hι b e, hb] at hp; cases hp
  · intro b r C' hb hp
    by_cases e : b = H.next
    · subst e; rw [Emb.add_self] at hp; injection hp with hp; injection hp with hp; omega
    · rw [hι b e, hb] at hp; cases hp
  · intro b hb _
    rw [hget, if_neg (by omega)]
  · intro b o' hb hg
    rw [hget, if_neg (by omega)] at hg
    exact ⟨o', hg⟩
  · intro b o' hg hv
    rw [hget] at hg
    by_cases e : b = H.next
    · rw [if_pos e] at hg; injection hg with hg; subst hg; subst e
      exact ⟨_, C, ob, Emb.add_self, hnew, ho.mono hle⟩
    · rw [if_neg e] at hg
      obtain ⟨r, C', ob', h1, h2, h3⟩ := h.blk b o' hg hv
      exact ⟨r, C', ob', by rw [hι b e]; exact h1, by rw [hold r (h.lt hg hv h1)]; exact h2, h3.mono hle⟩
  · intro b b' o1 o2 r C1 C2 h1 h2 v1 v2 i1 i2
    rw [hget] at h1 h2
    by_cases e : b = H.next <;> by_cases e' : b' = H.next
    · omega
    · rw [if_neg e'] at h2; rw [hι b' e'] at i2; subst e; rw [Emb.add_self] at i1
      injection i1 with i1; injection i1 with i1
      have := h.lt h2 v2 i2; omega
    · rw [if_neg e] at h1; rw [hι b e] at i1; subst e'; rw [Emb.add_self] at i2
      injection i2 with i2; injection i2 with i2
      have := h.lt h1 v1 i1; omega
    · rw [if_neg e] at h1; rw [if_neg e'] at h2; rw [hι b e] at i1; rw [hι b' e'] at i2
      exact h.inj b b' o1 o2 r C1 C2 h1 h2 v1 v2 i1 i2
  · intro b hb hbT
    rw [hι b (by simp [CH.add] at hb; omega)]
    exact h.dom b (by simp [CH.add] at hb; omega) hbT
  · intro b o' hg
    rw [hget] at hg
    by_cases e : b = H.next
    · simp [CH.add]; omega
    · rw [if_neg e] at hg; have := h.nxt _ _ hg; simp [CH.add]; omega

/-- A block that is written. -/
theorem HRel.write {c : Ctx} {T : Nat} {ι : Emb} {H : CH} {w w' : World} (h : HRel c T ι H w) {b : Nat} {o o' : CO} {r C : Nat} {ob' : Obj} (hm : c.may b = true) (hs : small b = true) (hg : H.tr.get b = some o) (hi : ι b = some (r, C)) (ho : ORel ι C o' ob')
    (hw1 : w'.heap.size = w.heap.size) (hw2 : w'.heap[r]? = some ob') (hw3 : ∀ k, k ≠ r → w'.heap[k]? = w.heap[k]?) (hw4 : w'.os = w.os) (hw5 : w'.tape = w.tape) (hw6 : w'.output = w.output) :
    Post c ι H w ι (H.put b o') w' ∧ HRel c T ι (H.put b o') w' := by
  have hget : ∀ x, (H.put b o').tr.get x = if x = b then some o' else H.tr.get x := fun x => Tr.get_set _ _ _ _ _ (small_deep hs)
  have hlt := h.nxt _ _ hg
  have hv := may_vis hm
  refine ⟨⟨Emb.le_refl ι, Nat.le_refl _, ?_, ?_, by omega, hw4, hw5, hw6, ?_, ?_, ?_⟩, ⟨?_, ?_, h.dom, ?_⟩⟩
  · intro x hx p hp; rw [hx] at hp; cases hp
  · intro x r' C' hx hp; rw [hx] at hp; cases hp
  · intro k hk hn
    exact hw3 k (fun e => hn b o C hm hg (by rw [hi, e]))
  · intro x hx hmx
    rw [hget, if_neg (fun e => by rw [e, hm] at hmx; cases hmx)]
  · intro x ox hx hgx
    rw [hget] at hgx
    by_cases e : x = b
    · subst e; exact ⟨o, hg⟩
    · rw [if_neg e] at hgx; exact ⟨ox, hgx⟩
  · intro x ox hgx hvx
    rw [hget] at hgx
    by_cases e : x = b
    · rw [if_pos e] at hgx; injection hgx with hgx; subst hgx; subst e
      exact ⟨r, C, ob', hi, hw2, ho⟩
    · rw [if_neg e] at hgx
      obtain ⟨r', C', ob, h1, h2, h3⟩ := h.blk x ox hgx hvx
      refine ⟨r', C', ob, h1, ?_, h3⟩
      rw [hw3 r' (fun er => ?_)]; exact h2
      obtain ⟨_, _⟩ : True ∧ True := ⟨trivial, trivial⟩
      obtain ⟨r0, C0, ob0, q1, q2, q3⟩ := h.blk b o hg hv
      rw [hi] at q1; injection q1 with q1; injection q1 with q1 q4
      subst er
      have hinj := h.inj x b ox o r' C' C hgx hg hvx hv h1 hi
      exact e hinj
  · intro x x' o1 o2 r' C1 C2 h1 h2 v1 v2 i1 i2
    have f : ∀ y oy, (H.put b o').tr.get y = some oy → ∃ oz, H.tr.get y = some oz := fun y oy hy => by
      rw [hget] at hy
      by_cases e : y = b
      · subst e; exact ⟨o, hg⟩
      · rw [if_neg e] at hy; exact ⟨oy, hy⟩
    obtain ⟨a1, ha1⟩ := f _ _ h1
    obtain ⟨a2, ha2⟩ := f _ _ h2
    exact h.inj x x' a1 a2 r' C1 C2 ha1 ha2 v1 v2 i1 i2
  · intro x ox hgx
    rw [hget] at hgx
    by_cases e : x = b
    · subst e; exact hlt
    · rw [if_neg e] at hgx; exact h.nxt _ _ hgx

theorem HRel.drew {c : Ctx} {T : Nat} {ι : Emb} {H : CH} {w : World} (h : HRel c T ι H w) : HRel c T ι H w.drew := ⟨h.blk, h.inj, h.dom, h.nxt⟩
theorem HRel.less {c c' : Ctx} {T : Nat} {ι : Emb} {H : CH} {w : World} (h : HRel c T ι H w) (hv : ∀ b, c'.vis b = true → c.vis b = true) : HRel c' T ι H w :=
  ⟨fun b o hg h' => h.blk b o hg (hv b h'), fun b b' o o' r C C' h1 h2 v1 v2 => h.inj b b' o o' r C C' h1 h2 (hv b v1) (hv b' v2), h.dom, h.nxt⟩
theorem Post.drew {c : Ctx} {ι : Emb} {H : CH} {w : World} : Post c ι H w ι H w.drew :=
  { Post.refl c ι H w with size := Nat.le_refl _, os := rfl, tape := rfl, output := rfl, frame := fun _ _ _ => rfl }

variable {P : Program}

def aggD : TypeDesc → Bool
  | .struct _ | .array _ _ => true
  | _ => false
theorem run_isAgg {t : TypeId} {d : TypeDesc} (h : P.underlying t = some d) (w : World) : (isAgg t).run P w = .ok (aggD d) w := by
  cases d <;> simp [isAgg, run_underlying h, aggD]
theorem run_sizeOf' {t : TypeId} {i : TypeInfo} (h : P.info? t = some i) (w : World) : (sizeOf t).run P w = .ok i.size w := by
  simp [sizeOf, typeInfo, h]
theorem run_typeInfo' {t : TypeId} {i : TypeInfo} (h : P.info? t = some i) (w : World) : (typeInfo t).run P w = .ok i w := by
  simp [typeInfo, h]
theorem run_zeroValue' {t : TypeId} {i : TypeInfo} {z : Value} (h : P.info? t = some i) (hz : i.zero = some z) (w : World) : (zeroValue t).run P w = .ok z w := by
  simp [zeroValue, typeInfo, h, hz]

theorem addr_add (r off i : Nat) : (⟨r, off, none⟩ : Addr).add i = ⟨r, off + i, none⟩ := by unfold Addr.add; split <;> simp_all

/-- The cells from an offset on. -/
def seg (cs : List CV) (off n : Nat) : List CV := (cs.drop off).take n

theorem run_cells {c : Ctx} {T : Nat} {ι : Emb} {H : CH} {w : World} (h : HRel c T ι H w) {b : Nat} {ty : TypeId} {m : How} {cs : List CV} (hg : H.tr.get b = some (.cells ty m cs)) (hv : c.vis b = true) {off n : Nat} (hn : off + n ≤ cs.length) :
    ∃ r C us, ι b = some (r, C) ∧ LRel ι (seg cs off n) us ∧ us.length = n ∧ (loadCells ⟨r, off, none⟩ n).run P w = .ok us.toArray w := by
  obtain ⟨r, C, ob, h1, h2, l, fz, rfl, h3, h4, _⟩ := h.blk b _ hg hv
  have hr : LRel ι (seg cs off n) (((l.take cs.length).drop off).take n) := (h3.drop off).take n
  have hl : (((l.take cs.length).drop off).take n).length = n := by simp; omega
  refine ⟨r, C, _, h1, hr, hl, ?_⟩
  have := run_loadCells_list (P := P) w ⟨r, off, none⟩ (((l.take cs.length).drop off).take n) (fun j v hj => by
    rw [addr_add]
    simp only [World.cell?, h2]
    simp only [List.getElem?_take, List.getElem?_drop] at hj
    by_cases hjn : j < n
    · rw [if_pos hjn] at hj
      by_cases hjc : off + j < cs.length
      · rw [if_pos hjc] at hj; simpa using hj
      · rw [if_neg hjc] at hj; cases hj
    · rw [if_neg hjn] at hj; cases hj)
  rw [hl] at this
  exact this

/-- A variable's value. -/
def cload (P : Program) (c : Ctx) (H : CH) (t : TypeId) (b off : Nat) : Option CV :=
  match H.tr.get b with
  | some (.cells _ _ cs) =>
    match c.vis b with
    | true =>
      match und P t with
      | some d =>
        match aggD d with
        | true =>
          match inf P t with
          | some i => match Nat.ble (off + i.size) cs.length with
            | true => some (.agg (seg cs off i.size))
            | false => none
          | none => none
        | false => cs[off]?
      | none => none
    | false => none
  | _ => none

theorem cload_sound {c : Ctx} {T : Nat} {ι : Emb} {H : CH} {w : World} (h : HRel c T ι H w) {t : TypeId} {b off : Nat} {v : CV} (hl : cload P c H t b off = some v) :
    ∃ r C u, ι b = some (r, C) ∧ VRel ι v u ∧ (loadVar t ⟨r, off, none⟩).run P w = .ok u w := by
  unfold cload at hl
  try simp only [inf_eq, und_eq] at hl
  split at hl
  · rename_i ty m cs hg
    split at hl
    · rename_i hv
      split at hl
      · rename_i d hd
        split at hl
        · rename_i ha
          split at hl
          · rename_i i hi
            split at hl
            · rename_i hb
              injection hl with hl; subst hl
              have hb' := Nat.le_of_ble_eq_true hb
              obtain ⟨r, C, us, h1, h2, h3, h4⟩ := run_cells (P := P) h hg hv hb'
              refine ⟨r, C, .agg us.toArray, h1, .agg h2, ?_⟩
              simp [loadVar, run_isAgg hd, ha, run_sizeOf' hi, h4]
            · cases hl
          · cases hl
        · rename_i ha
          obtain ⟨r, C, ob, h1, h2, l, fz, rfl, h3, h4, _⟩ := h.blk b _ hg hv
          obtain ⟨u, hu, hr⟩ := h3.get hl
          refine ⟨r, C, u, h1, hr, ?_⟩
          have hlt := (List.getElem?_eq_some_iff.1 hl).1
          have hc : w.cell? ⟨r, off, none⟩ = some u := by
            simp only [World.cell?, h2]
            rw [List.getElem?_take, if_pos hlt] at hu
            simpa using hu
          simp [loadVar, run_isAgg hd, ha, hc]
      · cases hl
    · cases hl
  · cases hl

def splice (cs new : List CV) (off : Nat) : List CV := cs.take off ++ new ++ cs.drop (off + new.length)

def allOne : List CV → Bool
  | [] => true
  | v :: l => match v.one with | true => allOne l | false => false
theorem allOne_rel {ι : Emb} {l : List CV} {m : List Value} (h : LRel ι l m) (ho : allOne l = true) : ∀ u ∈ m, u.oneCell' = true := by
  induction l generalizing m with
  | nil => cases h; simp
  | cons v l ih =>
    cases h with
    | cons h t =>
      simp only [allOne] at ho
      split at ho
      · rename_i hv
        intro u hu
        rcases List.mem_cons.1 hu with rfl | hu
        · exact h.one hv
        · exact ih t ho u hu
      · cases ho

def How.wr : How → Bool
  | .ro => false
  | _ => true
/-- Cells that are written. -/
def cput (c : Ctx) (H : CH) (b off : Nat) (new : List CV) : Option CH :=
  match H.tr.get b with
  | some (.cells ty m cs) =>
    match m.wr with
    | false => none
    | true =>
      match c.may b && small b && Nat.ble (off + new.length) cs.length && allOne new with
      | true => some (H.put b (.cells ty m (splice cs new off)))
      | false => none
  | _ => none

theorem cput_sound {c : Ctx} {T : Nat} {ι : Emb} {H H' : CH} {w : World} (h : HRel c T ι H w) {b off : Nat} {new : List CV} (hp : cput c H b off new = some H') {us : List Value} (hu : LRel ι new us) :
    ∃ r C w', ι b = some (r, C) ∧ (storeCells ⟨r, off, none⟩ us).run P w = .ok () w' ∧ Post c ι H w ι H' w' ∧ HRel c T ι H' w' := by
  unfold cput at hp
  split at hp
  · rename_i ty m cs hg
    split at hp
    · cases hp
    · rename_i hm
      split at hp
      · rename_i hc
        injection hp with hp; subst hp
        simp only [Bool.and_eq_true] at hc
        obtain ⟨⟨⟨hc1, hc2⟩, hc3⟩, hc4⟩ := hc
        have hc3' := Nat.le_of_ble_eq_true hc3
        obtain ⟨r, C, ob, h1, h2, l, fz, rfl, h3, h4, h5⟩ := h.blk b _ hg (may_vis hc1)
        have hfz : fz = (0, 0) := by
          cases m with
          | ro => cases hm
          | rw => exact h5.1
          | opn e => exact h5.1
        subst hfz
        have hul : us.length = new.length := hu.length.symm
        have hst := run_storeCells_at P r off ty us 0 l.toArray w h2 (by simp; omega) (allOne_rel hu hc4)
        simp only [Nat.add_zero] at hst
        refine ⟨r, C, _, h1, hst, ?_⟩
        refine h.write hc1 hc2 hg h1 (ob' := .cells (l.take off ++ us ++ l.drop (off + us.length)).toArray ty (0, 0)) ?_ (by simp) (setRow_heap w r _ _ _ _ h2) (fun k hk => setRow_other w r k _ hk) rfl rfl rfl
        refine ⟨_, _, rfl, ?_, by simp [splice]; omega, ?_⟩
        · have hlen : (splice cs new off).length = cs.length := by simp [splice]; omega
          rw [hlen]
          have e : (l.take off ++ us ++ l.drop (off + us.length)).take cs.length = (l.take cs.length).take off ++ us ++ (l.take cs.length).drop (off + us.length) := by
            apply List.ext_getElem?
            intro j
            simp only [List.getElem?_take, List.getElem?_append, List.getElem?_drop, List.length_take, List.length_append]
            by_cases hj : j < cs.length
            · simp only [hj, if_true]
              by_cases h6 : j < min off l.length
              · have : j < min off (min cs.length l.length) + us.length := by omega
                have h7 : j < min off (min cs.length l.length) := by omega
                simp only [h6, h7, if_true, this]
                simp [show j < min off l.length + us.length from by omega, show j < off from by omega]
              · have e1 : min off l.length = off := by omega
                have e2 : min off (min cs.length l.length) = off := by omega
                simp only [e1, e2]
                by_cases h8 : j < off + us.length
                · simp [h8]
                · simp only [h8, if_false]
                  rw [if_pos (by omega)]
            · rw [if_neg hj]
              have e2 : min off (min cs.length l.length) = off := by omega
              simp only [e2]
              rw [if_neg (by omega), if_neg (by omega)]
          rw [e, hul]
          exact ((h3.take off).append hu).append (h3.drop _)
        · have hlen : (splice cs new off).length = cs.length := by simp [splice]; omega
          have hl2 : (l.take off ++ us ++ l.drop (off + us.length)).length = l.length := by simp; omega
          rw [hlen, hl2]; exact h5
      · cases hp
  · cases hp

/-- Cells that hold already what is to be written: numbers and truths alone. -/
def same1 : CV → CV → Bool
  | .int .i64 a, .int .i64 b => decide (a = b)
  | .bool a, .bool b => a == b
  | _, _ => false
def sameL : List CV → List CV → Bool
  | [], _ => true
  | v :: l, u :: m => match same1 v u with | true => sameL l m | false => false
  | _ :: _, [] => false
theorem same1_eq {ι : Emb} {a b : CV} {u v : Value} (h : same1 a b = true) (ha : VRel ι a u) (hb : VRel ι b v) : u = v := by
  unfold same1 at h
  split at h
  · rename_i x y
    have e := of_decide_eq_true h; subst e
    cases ha; cases hb; rfl
  · rename_i x y
    have e : x = y := by simpa using h
    subst e
    cases ha; cases hb; rfl
  · cases h
theorem sameL_eq {ι : Emb} {l m : List CV} {us vs : List Value} (h : sameL l m = true) (hl : LRel ι l us) (hm : LRel ι m vs) : us = vs.take us.length ∧ us.length ≤ vs.length := by
  induction l generalizing m us vs with
  | nil => cases hl; simp
  | cons v l ih =>
    cases hm with
    | nil => simp [sameL] at h
    | cons hu t' =>
      cases hl with
      | cons hv t =>
        simp only [sameL] at h
        split at h
        · rename_i h1
          have e := same1_eq h1 hv hu
          obtain ⟨e1, e2⟩ := ih h t t'
          subst e
          simp only [List.length_cons, List.take_succ_cons]
          exact ⟨by rw [← e1], by omega⟩
        · cases h
/-- Cells that are written with what they hold: they need but be seen. -/
def cputSame (c : Ctx) (H : CH) (b off : Nat) (new : List CV) : Option CH :=
  match H.tr.get b with
  | some (.cells ty m cs) =>
    match m.wr with
    | false => none
    | true =>
      match c.vis b && Nat.ble (off + new.length) cs.length && allOne new && sameL new (cs.drop off) with
      | true => some H
      | false => none
  | _ => none
theorem cputSame_sound {c : Ctx} {T : Nat} {ι : Emb} {H H' : CH} {w : World} (h : HRel c T ι H w) {b off : Nat} {new : List CV} (hp : cputSame c H b off new = some H') {us : List Value} (hu : LRel ι new us) :
    ∃ r C w', ι b = some (r, C) ∧ (storeCells ⟨r, off, none⟩ us).run P w = .ok () w' ∧ Post c ι H w ι H' w' ∧ HRel c T ι H' w' := by
  unfold cputSame at hp
  split at hp
  · rename_i ty m cs hg
    split at hp
    · cases hp
    · rename_i hm
      split at hp
      · rename_i hc
        injection hp with hp; subst hp
        simp only [Bool.and_eq_true] at hc
        obtain ⟨⟨⟨hc1, hc3⟩, hc4⟩, hc5⟩ := hc
        have hc3' := Nat.le_of_ble_eq_true hc3
        obtain ⟨r, C, ob, h1, h2, l, fz, rfl, h3, h4, h5⟩ := h.blk b _ hg hc1
        have hfz : fz = (0, 0) := by
          cases m with
          | ro => cases hm
          | rw => exact h5.1
          | opn e => exact h5.1
        subst hfz
        have hul : us.length = new.length := hu.length.symm
        have hst := run_storeCells_at P r off ty us 0 l.toArray w h2 (by simp; omega) (allOne_rel hu hc4)
        simp only [Nat.add_zero] at hst
        obtain ⟨e1, e2⟩ := sameL_eq hc5 hu (h3.drop off)
        have e : (l.take off ++ us ++ l.drop (off + us.length)) = l := by
          have e3 : us = (l.drop off).take us.length := by
            rw [List.drop_take, List.take_take] at e1
            rw [show min us.length (cs.length - off) = us.length from by omega] at e1
            exact e1
          rw [← List.drop_drop, e3, List.append_assoc]
          simp only [List.length_take, List.length_drop]
          rw [show min us.length (l.length - off) = us.length from by omega, List.take_append_drop, List.take_append_drop]
        rw [e, setRow_self w r l.toArray ty (0, 0) h2] at hst
        exact ⟨r, C, w, h1, hst, Post.refl _ _ _ _, h⟩
      · cases hp
  · cases hp
def cputS (c : Ctx) (H : CH) (b off : Nat) (new : List CV) : Option CH :=
  match cput c H b off new with
  | some H' => some H'
  | none => cputSame c H b off new
theorem cputS_sound {c : Ctx} {T : Nat} {ι : Emb} {H H' : CH} {w : World} (h : HRel c T ι H w) {b off : Nat} {new : List CV} (hp : cputS c H b off new = some H') {us : List Value} (hu : LRel ι new us) :
    ∃ r C w', ι b = some (r, C) ∧ (storeCells ⟨r, off, none⟩ us).run P w = .ok () w' ∧ Post c ι H w ι H' w' ∧ HRel c T ι H' w' := by
  unfold cputS at hp
  split at hp
  · rename_i h1
    injection hp with hp; subst hp
    exact cput_sound h h1 hu
  · exact cputSame_sound h hp hu

/-- A variable that is written. -/
def cstore (P : Program) (c : Ctx) (H : CH) (t : TypeId) (b off : Nat) (v : CV) : Option CH :=
  match inf P t with
  | some i => match Nat.beq v.cells.length i.size with
    | true => cputS c H b off v.cells
    | false => none
  | none => none
theorem cstore_sound {c : Ctx} {T : Nat} {ι : Emb} {H H' : CH} {w : World} (h : HRel c T ι H w) {t : TypeId} {b off : Nat} {v : CV} {u : Value} (hp : cstore P c H t b off v = some H') (hu : VRel ι v u) :
    ∃ r C w', ι b = some (r, C) ∧ (storeVar t ⟨r, off, none⟩ u).run P w = .ok () w' ∧ Post c ι H w ι H' w' ∧ HRel c T ι H' w' := by
  unfold cstore at hp
  try simp only [inf_eq, und_eq] at hp
  split at hp
  · rename_i i hi
    split at hp
    · rename_i hn
      have hn' := Nat.eq_of_beq_eq_true hn
      obtain ⟨r, C, w', h1, h2, h3⟩ := cputS_sound (P := P) h hp hu.cells
      refine ⟨r, C, w', h1, ?_, h3⟩
      have hc := hu.cells.length
      simp at hc
      simp [storeVar, run_sizeOf' hi, show u.cells.size = i.size from by omega, h2]
    · cases hp
  · cases hp

end
end Go.Proofs.YtokafjkinkafiaaGreat.Mini

namespace Go.Proofs.YtokafjkinkafiaaGreat.Mini
noncomputable section
open Go.RowKit
variable {P : Program}

def prun {α : Type} (P : Program) : Sem α → Option α
  | .pure a => some a
  | .program k => prun P (k P)
  | _ => none
theorem prun_sound {α : Type} {s : Sem α} {a : α} (h : prun P s = some a) (w : World) : s.run P w = .ok a w := by
  induction s with
  | pure b => simp only [prun] at h; injection h with h; subst h; rfl
  | program k ih => simp only [prun] at h; exact ih P h
  | _ => simp [prun] at h

def toV1 : CV → Option Value
  | .bool b => some (.bool b)
  | .int k n => some (.int k n)
  | .str s => some (.string s)
  | .nilp => some (.pointer none)
  | .nils => some (.slice none 0 0)
  | .nilm => some (.map none)
  | .nilf => some .nilFunc
  | _ => none
def toVs : List CV → Option (List Value)
  | [] => some []
  | c :: l => match toV1 c with
    | some v => match toVs l with
      | some vs => some (v :: vs)
      | none => none
    | none => none
def toV : CV → Option Value
  | .agg cs => match toVs cs with
    | some vs => some (.agg vs.toArray)
    | none => none
  | c => toV1 c
theorem toV1_rel {ι : Emb} {c : CV} {u v : Value} (h : VRel ι c u) (hc : toV1 c = some v) : u = v := by
  cases h <;> first | (simp only [toV1, Option.some.injEq] at hc; exact hc) | (simp [toV1] at hc)
theorem toVs_rel {ι : Emb} {cs : List CV} {us vs : List Value} (h : LRel ι cs us) (hc : toVs cs = some vs) : us = vs := by
  induction cs generalizing us vs with
  | nil => cases h; simp only [toVs] at hc; injection hc with hc
  | cons c cs ih =>
    cases h with
    | cons h t =>
      simp only [toVs] at hc
      split at hc
      · rename_i v hv
        split at hc
        · rename_i vs' hvs
          injection hc with hc; subst hc
          rw [toV1_rel h hv, ih t hvs]
        · cases hc
      · cases hc
theorem toV_rel {ι : Emb} {c : CV} {u v : Value} (h : VRel ι c u) (hc : toV c = some v) : u = v := by
  cases c with
  | agg cs =>
    cases h with
    | agg hl =>
      simp only [toV] at hc
      split at hc
      · rename_i vs hvs
        injection hc with hc; subst hc
        rw [toVs_rel hl hvs]
      · cases hc
  | _ => exact toV1_rel h hc

/-- The operands. -/
def evC (s : Tr CV) : Operand → Option CV
  | .tmp t => match s.get t with
    | some v => some v
    | none => some (.tup [])
  | .const v => ofV v
  | .global _ => none
  | .func f => some (.fn f [] [])
def evL (s : Tr CV) : List Operand → Option (List CV)
  | [] => some []
  | x :: l => match evC s x with
    | some c => match evL s l with
      | some cs => some (c :: cs)
      | none => none
    | none => none
/-- The operands that an operation looks at are what the slots say. -/
def Eval (ι : Emb) (s : Tr CV) (ρ : Operand → Value) (xs : List Operand) : Prop := ∀ x ∈ xs, ∀ c, evC s x = some c → VRel ι c (ρ x)
theorem Slots.eval {ι : Emb} {s : Tr CV} {a : Act} (h : Slots ι s a.tmps) (xs : List Operand) : Eval ι s a.eval xs := by
  intro x _ c hc
  cases x with
  | tmp t =>
    have := h t
    simp only [evC] at hc
    split at hc
    · rename_i v hv; injection hc with hc; subst hc; rw [hv] at this; exact this
    · rename_i hv; injection hc with hc; subst hc; rw [hv] at this; exact this
  | const v => exact ofV_rel hc
  | global g => simp [evC] at hc
  | func f => simp only [evC] at hc; injection hc with hc; subst hc; exact VRel.fn _ (a' := []) (c' := []) .nil .nil
theorem Eval.list {ι : Emb} {s : Tr CV} {ρ : Operand → Value} {xs l : List Operand} (h : Eval ι s ρ xs) (hs : ∀ x ∈ l, x ∈ xs) {cs : List CV} (hc : evL s l = some cs) : LRel ι cs (l.map ρ) := by
  induction l generalizing cs with
  | nil => simp only [evL] at hc; injection hc with hc; subst hc; exact .nil
  | cons x l ih =>
    simp only [evL] at hc
    split at hc
    · rename_i c h1
      split at hc
      · rename_i cs' h2
        injection hc with hc; subst hc
        exact .cons (h x (hs x (by simp)) c h1) (ih (fun y hy => hs y (by simp [hy])) h2)
      · cases hc
    · cases hc

def viaP (P : Program) (s : Sem Value) : Option CV :=
  match prun P s with
  | some r => ofV r
  | none => none
theorem viaP_sound {s : Sem Value} {c : CV} (h : viaP P s = some c) (ι : Emb) (w : World) : ∃ u, s.run P w = .ok u w ∧ VRel ι c u := by
  unfold viaP at h
  split at h
  · rename_i r hr; exact ⟨r, prun_sound hr w, ofV_rel h⟩
  · cases h

def guardFree : Value → Value → Bool
  | .nilIface, .nilIface => false
  | .agg _, .agg _ => false
  | _, _ => true
/-- Comparison with nil. -/
def nilCmp : TypeDesc → CV → CV → Option Bool
  | .slice _, .nils, .nils => some true
  | .slice _, .nils, .sl .. => some false
  | .slice _, .nils, .slo .. => some false
  | .slice _, .sl .., .nils => some false
  | .slice _, .slo .., .nils => some false
  | .map _ _, .nilm, .nilm => some true
  | .map _ _, .nilm, .mp _ => some false
  | .map _ _, .mp _, .nilm => some false
  | .func _ _ _, .nilf, .nilf => some true
  | .func _ _ _, .nilf, .fn .. => some false
  | .func _ _ _, .fn .., .nilf => some false
  | .func _ _ _, .nilf, .yl _ => some false
  | .func _ _ _, .yl _, .nilf => some false
  | .pointer _, .nilp, .nilp => some true
  | .pointer _, .nilp, .ptr .. => some false
  | .pointer _, .ptr .., .nilp => some false
  | _, _, _ => none
theorem nilCmp_in {ι : Emb} {t : TypeId} {d : TypeDesc} {x y : CV} {u v : Value} {b : Bool} (n : Nat) (hd : P.underlying t = some d) (h : nilCmp d x y = some b) (hx : VRel ι x u) (hy : VRel ι y v) (w : World) : (Op.equalIn (n + 1) t u v).run P w = .ok b w := by
  unfold nilCmp at h
  split at h <;> first
    | (cases h; done)
    | (injection h with h; subst h; cases hx; cases hy; rw [Op.equalIn, Sem.run_bind, run_underlying hd]; rfl)
theorem nilCmp_sound {ι : Emb} {t : TypeId} {d : TypeDesc} {x y : CV} {u v : Value} {b : Bool} (hd : P.underlying t = some d) (h : nilCmp d x y = some b) (hx : VRel ι x u) (hy : VRel ι y v) (w : World) : (Op.equal t u v).run P w = .ok b w :=
  nilCmp_in 9999 hd h hx hy w
theorem nilCmp_guard {ι : Emb} {d : TypeDesc} {x y : CV} {u v : Value} {b : Bool} (h : nilCmp d x y = some b) (hx : VRel ι x u) (hy : VRel ι y v) : guardFree u v = true := by
  unfold nilCmp at h
  split at h <;> first
    | (cases h; done)
    | (cases hx; cases hy; rfl)
theorem nilCmp_eql {ι : Emb} {d : TypeDesc} {x y : CV} {u v : Value} {b : Bool} (t : TypeId) (h : nilCmp d x y = some b) (hx : VRel ι x u) (hy : VRel ι y v) : binOp .eql t u v = (do pure (.bool (← Op.equal t u v))) ∧ binOp .neq t u v = (do pure (.bool (!(← Op.equal t u v)))) := by
  unfold nilCmp at h
  split at h <;> first
    | (cases h; done)
    | (cases hx; cases hy; exact ⟨rfl, rfl⟩)

def cint (op : BinOp) (k : IntKind) (a b : Int) : Option CV :=
  match op with
  | .add => some (.int k (k.wrap (a + b)))
  | .sub => some (.int k (k.wrap (a - b)))
  | .mul => some (.int k (k.wrap (a * b)))
  | .eql => some (.bool (a == b))
  | .neq => some (.bool (a != b))
  | .lss => some (.bool (a < b))
  | .leq => some (.bool (a ≤ b))
  | .gtr => some (.bool (a > b))
  | .geq => some (.bool (a ≥ b))
  | _ => none

def cbin (P : Program) (op : BinOp) (t : TypeId) (ox oy : Operand) (x y : CV) : Option CV :=
  match x, y with
  | .int k a, .int k' b =>
    match decide (k = k') with
    | true => match cint op k a b with
      | some c => some c
      | none => viaP P (do eqGuard op t ox oy (.int k a) (.int k' b); binOp op t (.int k a) (.int k' b))
    | false => none
  | x, y =>
    match toV x, toV y with
    | some u, some v => viaP P (do eqGuard op t ox oy u v; binOp op t u v)
    | _, _ =>
      match und P t with
      | some d => match nilCmp d x y with
        | some b => match op with
          | .eql => some (.bool b)
          | .neq => some (.bool (!b))
          | _ => none
        | none => none
      | none => none

theorem eqGuard_pure {op : BinOp} {t : TypeId} {ox oy : Operand} {u v : Value} (h : guardFree u v = true) (w : World) : (eqGuard op t ox oy u v).run P w = .ok () w := by
  unfold eqGuard
  cases u <;> cases v <;> first | (cases op <;> rfl) | cases h

theorem cbin_sound {ι : Emb} {op : BinOp} {t : TypeId} {ox oy : Operand} {x y c : CV} {u v : Value} (h : cbin P op t ox oy x y = some c) (hx : VRel ι x u) (hy : VRel ι y v) (w : World) :
    ∃ r, ((do eqGuard op t ox oy u v; binOp op t u v) : Sem Value).run P w = .ok r w ∧ VRel ι c r := by
  unfold cbin at h
  try simp only [inf_eq, und_eq] at h
  split at h
  · rename_i k a k' b
    cases hx; cases hy
    split at h
    · rename_i hk
      have hk := of_decide_eq_true hk
      subst hk
      split at h
      · rename_i c' hc
        injection h with h; subst h
        have hg : (eqGuard op t ox oy (.int k a) (.int k b)).run P w = .ok () w := eqGuard_pure rfl w
        unfold cint at hc
        split at hc <;> first
          | (injection hc with hc; subst hc; refine ⟨_, ?_, by constructor⟩; rw [Sem.run_bind, hg]; simp [binOp, Op.intArith, Op.intCmp])
          | cases hc
      · exact viaP_sound h ι w
    · cases h
  · split at h
    · rename_i u' v' h1 h2
      have e1 := toV_rel hx h1
      have e2 := toV_rel hy h2
      subst e1; subst e2
      exact viaP_sound h ι w
    · split at h
      · rename_i d hd
        split at h
        · rename_i b hb
          have he := nilCmp_sound hd hb hx hy w
          have hg : (eqGuard op t ox oy u v).run P w = .ok () w := eqGuard_pure (nilCmp_guard hb hx hy) w
          obtain ⟨q1, q2⟩ := nilCmp_eql t hb hx hy
          split at h
          · injection h with h; subst h
            refine ⟨.bool b, ?_, .bool b⟩
            rw [Sem.run_bind, hg, Result.andThen_ok, q1, Sem.run_bind, he]; rfl
          · injection h with h; subst h
            refine ⟨.bool (!b), ?_, .bool (!b)⟩
            rw [Sem.run_bind, hg, Result.andThen_ok, q2, Sem.run_bind, he]; rfl
          · cases h
        · cases h
      · cases h

/-- A part of a struct or an array. -/
def cpart (P : Program) (t : TypeId) (cs : List CV) (off : Nat) : Option CV :=
  match und P t with
  | some d =>
    match aggD d with
    | true => match inf P t with
      | some i => some (.agg ((cs.take (off + i.size)).drop off))
      | none => none
    | false => cs[off]?
  | none => none
theorem cpart_sound {ι : Emb} {t : TypeId} {cs : List CV} {us : List Value} {off : Nat} {c : CV} (h : cpart P t cs off = some c) (hl : LRel ι cs us) (w : World) : ∃ u, (part t us.toArray off).run P w = .ok u w ∧ VRel ι c u := by
  unfold cpart at h
  try simp only [inf_eq, und_eq] at h
  split at h
  · rename_i d hd
    split at h
    · rename_i ha
      split at h
      · rename_i i hi
        injection h with h; subst h
        refine ⟨.agg ((us.take (off + i.size)).drop off).toArray, ?_, .agg ((hl.take _).drop _)⟩
        simp only [part, Sem.run_bind, run_isAgg hd, ha, Result.andThen_ok, if_true, run_sizeOf' hi, Sem.run_pure]
        congr 2
        apply Array.ext'
        simp [List.extract_eq_take_drop, List.drop_take]
      · cases h
    · rename_i ha
      obtain ⟨u, hu, hr⟩ := hl.get h
      refine ⟨u, ?_, hr⟩
      simp [part, run_isAgg hd, ha, hu]
  · cases h

def cfield (P : Program) (t : TypeId) (x : CV) (f : Nat) : Option CV :=
  match x with
  | .agg cs =>
    match und P t with
    | some (.struct fs) => match fs[f]? with
      | some fd => cpart P fd.type cs fd.offset
      | none => none
    | _ => none
  | _ => none
theorem cfield_sound {ι : Emb} {t : TypeId} {x c : CV} {f : Nat} {u : Value} (h : cfield P t x f = some c) (hx : VRel ι x u) (w : World) : ∃ r, (Instr.field t u f).run P w = .ok r w ∧ VRel ι c r := by
  unfold cfield at h
  try simp only [inf_eq, und_eq] at h
  split at h
  · split at h
    · rename_i fs hd
      split at h
      · rename_i fd hf
        cases hx with
        | agg hl =>
          obtain ⟨r, h1, h2⟩ := cpart_sound h hl w
          refine ⟨r, ?_, h2⟩
          simp [Instr.field, run_underlying hd, hf, asAgg, h1]
      · cases h
    · cases h
  · cases h

/-- An index: the number, where it is one and in range. -/
def cidx (i : CV) (len : Nat) : Option Nat :=
  match i with
  | .int _ n => match n with
    | .ofNat m => match Nat.blt m len with
      | true => some m
      | false => none
    | .negSucc _ => none
  | _ => none
theorem cidx_sound {ι : Emb} {i : CV} {len m : Nat} {u : Value} (h : cidx i len = some m) (hi : VRel ι i u) : ∃ k, u = .int k (m : Int) ∧ m < len := by
  unfold cidx at h
  split at h
  · split at h
    · split at h
      · rename_i hb
        injection h with h; subst h
        cases hi
        exact ⟨_, rfl, by simpa [Nat.blt_eq] using hb⟩
      · cases h
    · cases h
  · cases h

def cindex (P : Program) (t : TypeId) (x i : CV) : Option CV :=
  match x with
  | .agg cs =>
    match und P t with
    | some (.array len e) => match cidx i len with
      | some m => match inf P e with
        | some inf => cpart P e cs (m * inf.size)
        | none => none
      | none => none
    | _ => none
  | .str s => match toV i with
    | some iv => viaP P (Instr.index t (.string s) iv)
    | none => none
  | _ => none
theorem cindex_sound {ι : Emb} {t : TypeId} {x i c : CV} {u v : Value} (h : cindex P t x i = some c) (hx : VRel ι x u) (hi : VRel ι i v) (w : World) : ∃ r, (Instr.index t u v).run P w = .ok r w ∧ VRel ι c r := by
  unfold cindex at h
  try simp only [inf_eq, und_eq] at h
  split at h
  · split at h
    · rename_i len e hd
      split at h
      · rename_i m hm
        split at h
        · rename_i inf hinf
          obtain ⟨k, rfl, hlt⟩ := cidx_sound hm hi
          cases hx with
          | agg hl =>
            obtain ⟨r, h1, h2⟩ := cpart_sound h hl w
            refine ⟨r, ?_, h2⟩
            simp [Instr.index, asIntOf, run_underlying hd, hlt, run_sizeOf' hinf, h1]
        · cases h
      · cases h
    · cases h
  · split at h
    · rename_i iv hiv
      have := toV_rel hi hiv
      subst this
      cases hx
      exact viaP_sound h ι w
    · cases h
  · cases h

def cfill (place : Nat → Option (Nat × Nat)) (cells : List CV) : List (Nat × CV) → Option (List CV)
  | [] => some cells
  | (i, v) :: rest =>
    match place i with
    | none => none
    | some (off, size) =>
      match Nat.beq v.cells.length size && Nat.ble (off + v.cells.length) cells.length with
      | true => cfill place (v.cells.zipIdx.foldl (fun cs (c, j) => cs.set (off + j) c) cells) rest
      | false => none
inductive PRel (ι : Emb) : List (Nat × CV) → List (Nat × Value) → Prop
  | nil : PRel ι [] []
  | cons {n : Nat} {v : CV} {u : Value} {l : List (Nat × CV)} {m : List (Nat × Value)} (h : VRel ι v u) (t : PRel ι l m) : PRel ι ((n, v) :: l) ((n, u) :: m)
theorem fold_rel {ι : Emb} (off : Nat) : ∀ {vs : List CV} {us : List Value} (k : Nat) {cs : List CV} {xs : List Value}, LRel ι vs us → LRel ι cs xs →
    LRel ι ((vs.zipIdx k).foldl (fun cs (c, j) => cs.set (off + j) c) cs) ((us.zipIdx k).foldl (fun (l : List Value) (c, j) => l.set (off + j) c) xs) := by
  intro vs
  induction vs with
  | nil => intro us k cs xs h hc; cases h; exact hc
  | cons v vs ih =>
    intro us k cs xs h hc
    cases h with
    | cons h t => simp only [List.zipIdx_cons, List.foldl_cons]; exact ih (k + 1) t (hc.set h _)
theorem fold_arr (off : Nat) : ∀ (us : List (Value × Nat)) (a : Array Value), us.foldl (fun cs (c, j) => cs.setIfInBounds (off + j) c) a = (us.foldl (fun (l : List Value) (c, j) => l.set (off + j) c) a.toList).toArray := by
  intro us
  induction us with
  | nil => intro a; simp
  | cons x us ih => intro a; simp only [List.foldl_cons]; rw [ih]; simp
theorem cfill_sound {ι : Emb} {place : Nat → Option (Nat × Nat)} : ∀ {parts : List (Nat × CV)} {parts' : List (Nat × Value)} {cs : List CV} {us : List Value} {r : List CV}, PRel ι parts parts' → LRel ι cs us → cfill place cs parts = some r →
    ∃ r', Instr.fill place us.toArray parts' = some r'.toArray ∧ LRel ι r r' := by
  intro parts
  induction parts with
  | nil => intro parts' cs us r hp hl h; cases hp; simp only [cfill] at h; injection h with h; subst h; exact ⟨us, rfl, hl⟩
  | cons p parts ih =>
    intro parts' cs us r hp hl h
    cases hp with
    | cons hv ht =>
      rename_i n v u m
      simp only [cfill] at h
      split at h
      · cases h
      · rename_i off size hpl
        split at h
        · rename_i hb
          simp only [Bool.and_eq_true] at hb
          have h1 := Nat.eq_of_beq_eq_true hb.1
          have h2 := Nat.le_of_ble_eq_true hb.2
          have hc := hv.cells
          have hcl := hc.length
          have hll := hl.length
          simp at hcl
          obtain ⟨r', hr', hrel⟩ := ih ht (fold_rel off 0 hc hl) h
          refine ⟨r', ?_, hrel⟩
          simp only [Instr.fill, hpl]
          rw [if_neg (by simp; omega)]
          rw [← Array.foldl_toList, fold_arr]
          simpa using hr'
        · cases h

def evP (s : Tr CV) : List (Nat × Operand) → Option (List (Nat × CV))
  | [] => some []
  | (n, x) :: l => match evC s x with
    | some c => match evP s l with
      | some cs => some ((n, c) :: cs)
      | none => none
    | none => none
theorem Eval.parts {ι : Emb} {s : Tr CV} {ρ : Operand → Value} {xs : List Operand} {l : List (Nat × Operand)} (h : Eval ι s ρ xs) (hs : ∀ x ∈ l, x.2 ∈ xs) {cs : List (Nat × CV)} (hc : evP s l = some cs) : PRel ι cs (l.map fun x => (x.1, ρ x.2)) := by
  induction l generalizing cs with
  | nil => simp only [evP] at hc; injection hc with hc; subst hc; exact .nil
  | cons x l ih =>
    obtain ⟨n, x⟩ := x
    simp only [evP] at hc
    split at hc
    · rename_i c h1
      split at hc
      · rename_i cs' h2
        injection hc with hc; subst hc
        exact .cons (h x (hs (n, x) (by simp)) c h1) (ih (fun y hy => hs y (by simp [hy])) h2)
      · cases hc
    · cases hc

/-- The zero cells of a type. -/
def czero (P : Program) (t : TypeId) : Option (List CV) :=
  match inf P t with
  | some i => match i.zero with
    | some z => ofVs z.cells.toList
    | none => none
  | none => none
theorem czero_sound {t : TypeId} {zs : List CV} (h : czero P t = some zs) (w : World) (ι : Emb) : ∃ z, (zeroValue t).run P w = .ok z w ∧ LRel ι zs z.cells.toList := by
  unfold czero at h
  try simp only [inf_eq, und_eq] at h
  split at h
  · rename_i i hi
    split at h
    · rename_i z hz; exact ⟨z, run_zeroValue' hi hz w, ofVs_rel h⟩
    · cases h
  · cases h

def placesOf (P : Program) : List Field → Option (List (Nat × Nat))
  | [] => some []
  | f :: fs => match inf P f.type with
    | some i => match placesOf P fs with
      | some l => some ((f.offset, i.size) :: l)
      | none => none
    | none => none
theorem placesOf_sound {fs : List Field} {l : List (Nat × Nat)} (h : placesOf P fs = some l) (w : World) : (fs.mapM fun f => (do pure (f.offset, ← sizeOf f.type) : Sem (Nat × Nat))).run P w = .ok l w := by
  induction fs generalizing l with
  | nil => simp only [placesOf] at h; injection h with h; subst h; rfl
  | cons f fs ih =>
    simp only [placesOf, inf_eq] at h
    split at h
    · rename_i i hi
      split at h
      · rename_i l' hl
        injection h with h; subst h
        simp [List.mapM_cons, run_sizeOf' hi]
        have := ih hl
        simp at this
        simp [this]
      · cases h
    · cases h

def cbuild (P : Program) (t : TypeId) (parts : List (Nat × CV)) : Option CV :=
  match czero P t with
  | some zs =>
    match und P t with
    | some (.struct fs) => match placesOf P fs.toList with
      | some pl => match cfill (pl[·]?) zs parts with
        | some r => some (.agg r)
        | none => none
      | none => none
    | some (.array _ e) => match inf P e with
      | some i => match cfill (fun j => some (j * i.size, i.size)) zs parts with
        | some r => some (.agg r)
        | none => none
      | none => none
    | _ => none
  | none => none
theorem cbuild_sound {ι : Emb} {t : TypeId} {parts : List (Nat × CV)} {parts' : List (Nat × Value)} {c : CV} (h : cbuild P t parts = some c) (hp : PRel ι parts parts') (w : World) : ∃ r, (Instr.build t parts'.toArray).run P w = .ok r w ∧ VRel ι c r := by
  unfold cbuild at h
  try simp only [inf_eq, und_eq] at h
  split at h
  · rename_i zs hz
    obtain ⟨z, hz1, hz2⟩ := czero_sound hz w ι
    split at h
    · rename_i fs hd
      split at h
      · rename_i pl hpl
        split at h
        · rename_i r hr
          injection h with h; subst h
          obtain ⟨r', h1, h2⟩ := cfill_sound hp hz2 hr
          refine ⟨.agg r'.toArray, ?_, .agg h2⟩
          have hm := placesOf_sound hpl w
          have hm2 : (fs.mapM fun f => (do pure (f.offset, ← sizeOf f.type) : Sem (Nat × Nat))).run P w = .ok pl.toArray w := by
            rw [← Array.toArray_toList (xs := fs), List.mapM_toArray]
            simp at hm ⊢
            simp [hm]
          simp only [Instr.build, Sem.run_bind, hz1, Result.andThen_ok, run_underlying hd]
          simp at hm2 h1
          simp [hm2, h1]
        · cases h
      · cases h
    · rename_i e hd
      split at h
      · rename_i i hi
        split at h
        · rename_i r hr
          injection h with h; subst h
          obtain ⟨r', h1, h2⟩ := cfill_sound hp hz2 hr
          refine ⟨.agg r'.toArray, ?_, .agg h2⟩
          simp only [Instr.build, Sem.run_bind, hz1, Result.andThen_ok, run_underlying hd, run_sizeOf' hi]
          simp at h1
          simp [h1]
        · cases h
      · cases h
    · cases h
  · cases h

end
end Go.Proofs.YtokafjkinkafiaaGreat.Mini

namespace Go.Proofs.YtokafjkinkafiaaGreat.Mini
noncomputable section
open Go.RowKit
variable {P : Program}

theorem LRel.of_get {ι : Emb} : ∀ {cs : List CV} {us : List Value}, cs.length = us.length → (∀ (i : Nat) (c : CV) (u : Value), cs[i]? = some c → us[i]? = some u → VRel ι c u) → LRel ι cs us
  | [], [], _, _ => .nil
  | c :: cs, u :: us, hl, h => .cons (h 0 c u (by simp) (by simp)) (LRel.of_get (by simpa using hl) (fun i c' u' h1 h2 => h (i + 1) c' u' (by simpa using h1) (by simpa using h2)))

inductive Opt (ι : Emb) : Option CV → Option Value → Prop
  | none : Opt ι none none
  | some {c : CV} {u : Value} (h : VRel ι c u) : Opt ι (some c) (some u)

def evO (s : Tr CV) : Option Operand → Option (Option CV)
  | none => some none
  | some x => match evC s x with
    | some c => some (some c)
    | none => none
theorem Eval.opt {ι : Emb} {s : Tr CV} {ρ : Operand → Value} {xs : List Operand} {o : Option Operand} (h : Eval ι s ρ xs) (hs : ∀ x, o = some x → x ∈ xs) {c : Option CV} (hc : evO s o = some c) : Opt ι c (o.map ρ) := by
  cases o with
  | none => simp only [evO] at hc; injection hc with hc; subst hc; exact .none
  | some x =>
    simp only [evO] at hc
    split at hc
    · rename_i c' h1; injection hc with hc; subst hc; exact .some (h x (hs x rfl) c' h1)
    · cases hc

def cbnd (i : CV) (y : Nat) : Option Nat :=
  match i with
  | .int _ n => match n with
    | .ofNat m => match Nat.ble m y with
      | true => some m
      | false => none
    | .negSucc _ => none
  | _ => none
theorem cbnd_sound {ι : Emb} {i : CV} {y m : Nat} {u : Value} (h : cbnd i y = some m) (hi : VRel ι i u) : (∃ k, u = .int k (m : Int)) ∧ m ≤ y := by
  unfold cbnd at h
  split at h
  · split at h
    · split at h
      · rename_i hb
        injection h with h; subst h
        cases hi
        exact ⟨⟨_, rfl⟩, Nat.le_of_ble_eq_true hb⟩
      · cases h
    · cases h
  · cases h
theorem run_sliceBound {k : IntKind} {m y : Nat} (h : m ≤ y) (code : BoundsCode) (w : World) : (Instr.sliceBound (.int k (m : Int)) y code).run P w = .ok m w := by
  have h1 : (m : Int) ≤ (y : Int) := by omega
  simp [Instr.sliceBound, asIntOf, h]

def cbounds (len cap : Nat) (lo hi mx : Option CV) : Option (Nat × Nat × Nat) :=
  match (match mx with | none => some cap | some v => cbnd v cap) with
  | none => none
  | some m =>
    match (match hi, mx with | some v, _ => cbnd v m | none, none => some len | none, some _ => none) with
    | none => none
    | some h =>
      match (match lo with | some v => cbnd v h | none => some 0) with
      | none => none
      | some l => some (l, h, m)
theorem cbounds_sound {ι : Emb} {len cap l h m : Nat} {lo hi mx : Option CV} {lo' hi' mx' : Option Value} (hc : cbounds len cap lo hi mx = some (l, h, m)) (r1 : Opt ι lo lo') (r2 : Opt ι hi hi') (r3 : Opt ι mx mx') (b : Bool) (w : World) :
    (Instr.sliceBounds b len cap lo' hi' mx').run P w = .ok (l, h, m) w := by
  unfold cbounds at hc
  split at hc
  · cases hc
  · rename_i m0 hm
    split at hc
    · cases hc
    · rename_i h0 hh
      split at hc
      · cases hc
      · rename_i l0 hl
        injection hc with hc; injection hc with e1 hc; injection hc with e2 e3
        subst e1; subst e2; subst e3
        cases r3 with
        | none =>
          simp only [Option.some.injEq] at hm; subst hm
          cases r2 with
          | none =>
            simp only [Option.some.injEq] at hh; subst hh
            cases r1 with
            | none => simp only [Option.some.injEq] at hl; subst hl; simp [Instr.sliceBounds]
            | some r => obtain ⟨⟨k, rfl⟩, hle⟩ := cbnd_sound hl r; simp [Instr.sliceBounds, run_sliceBound hle]
          | some r =>
            obtain ⟨⟨k, rfl⟩, hle⟩ := cbnd_sound hh r
            cases r1 with
            | none => simp only [Option.some.injEq] at hl; subst hl; simp [Instr.sliceBounds, run_sliceBound hle]
            | some r' => obtain ⟨⟨k', rfl⟩, hle'⟩ := cbnd_sound hl r'; simp [Instr.sliceBounds, run_sliceBound hle, run_sliceBound hle']
        | some r0 =>
          obtain ⟨⟨k0, rfl⟩, hle0⟩ := cbnd_sound hm r0
          cases r2 with
          | none => cases hh
          | some r =>
            obtain ⟨⟨k, rfl⟩, hle⟩ := cbnd_sound hh r
            cases r1 with
            | none => simp only [Option.some.injEq] at hl; subst hl; simp [Instr.sliceBounds, run_sliceBound hle, run_sliceBound hle0]
            | some r' => obtain ⟨⟨k', rfl⟩, hle'⟩ := cbnd_sound hl r'; simp [Instr.sliceBounds, run_sliceBound hle, run_sliceBound hle', run_sliceBound hle0]

def cutAt (m l off size : Nat) : Nat := match Nat.beq m l with
  | true => off
  | false => off + l * size
theorem cutAt_spec (r m l off size : Nat) : (if m = l then (⟨r, off, none⟩ : Addr) else (⟨r, off, none⟩ : Addr).add (l * size)) = ⟨r, cutAt m l off size, none⟩ := by
  unfold cutAt
  by_cases h : m = l
  · rw [beq_t h, if_pos h]
  · rw [beq_f h, if_neg h, addr_add]

/-- Of a block that may have been grown: is there room for so many elements? -/
def room (c : Ctx) (H : CH) (b n : Nat) : Bool :=
  match H.tr.get b with
  | some (.cells _ (.opn e) cs) => c.vis b && Nat.blt 0 e && Nat.ble (n * e) cs.length
  | _ => false
theorem room_sound {c : Ctx} {T : Nat} {ι : Emb} {H : CH} {w : World} (h : HRel c T ι H w) {b n r C : Nat} (hr : room c H b n = true) (hi : ι b = some (r, C)) : n ≤ C := by
  unfold room at hr
  split at hr
  · rename_i ty e cs hg
    simp only [Bool.and_eq_true] at hr
    obtain ⟨⟨h1, h2⟩, h3⟩ := hr
    have h3 := Nat.le_of_ble_eq_true h3
    obtain ⟨r', C', ob, q1, q2, l, fz, rfl, q3, q4, q5⟩ := h.blk b _ hg h1
    rw [hi] at q1; injection q1 with q1; injection q1 with q1 q6; subst q6
    have q5 : fz = (0, 0) ∧ l.length = C * e := q5
    have he : 0 < e := by simpa [Nat.blt_eq] using h2
    have : n * e ≤ C * e := by omega
    exact Nat.le_of_mul_le_mul_right this he
  · cases hr

def cslice (P : Program) (c : Ctx) (H : CH) (t : TypeId) (x : CV) (lo hi mx : Option CV) : Option CV :=
  match und P t with
  | some (.array n e) =>
    match x with
    | .ptr b off => match cbounds n n lo hi mx with
      | some (l, h, m) => match inf P e with
        | some i => some (.sl b (cutAt m l off i.size) (h - l) (m - l))
        | none => none
      | none => none
    | _ => none
  | some (.slice e) =>
    match x with
    | .sl b off len cap => match cbounds len cap lo hi mx with
      | some (l, h, m) => match inf P e with
        | some i => some (.sl b (cutAt m l off i.size) (h - l) (m - l))
        | none => none
      | none => none
    | .nils => match cbounds 0 0 lo hi mx with
      | some _ => match inf P e with
        | some _ => some .nils
        | none => none
      | none => none
    | .slo b off skip len =>
      match mx with
      | some _ => none
      | none =>
        match (match hi with | none => some len | some v => cbnd v 1000000000) with
        | none => none
        | some h =>
          match (match lo with | none => some 0 | some v => cbnd v h) with
          | none => none
          | some l =>
            match inf P e with
            | none => none
            | some i =>
              match (match hi with | none => Nat.beq l 0 | some _ => false) || (room c H b (h + skip) && (Nat.beq l 0 || Nat.blt l h)) with
              | true => some (.slo b (off + l * i.size) (skip + l) (h - l))
              | false => none
    | _ => none
  | _ => none
theorem cslice_sound {c : Ctx} {T : Nat} {ι : Emb} {H : CH} {w : World} (hH : HRel c T ι H w) {t : TypeId} {x v : CV} {u : Value} {lo hi mx : Option CV} {lo' hi' mx' : Option Value} (h : cslice P c H t x lo hi mx = some v) (hx : VRel ι x u) (r1 : Opt ι lo lo') (r2 : Opt ι hi hi') (r3 : Opt ι mx mx') :
    ∃ r, (Instr.sliceAt t u lo' hi' mx').run P w = .ok r w ∧ VRel ι v r := by
  unfold cslice at h
  try simp only [inf_eq, und_eq] at h
  split at h
  · rename_i n e hd
    split at h
    · rename_i b off
      split at h
      · rename_i l hh m hb
        split at h
        · rename_i i hi'
          injection h with h; subst h
          cases hx with
          | ptr _ hι =>
            refine ⟨_, ?_, .sl _ _ _ hι⟩
            have := cbounds_sound (P := P) hb r1 r2 r3 false w
            simp [Instr.sliceAt, run_underlying hd, Instr.sureAddr, this, run_sizeOf' hi', cutAt_spec]
        · cases h
      · cases h
    · cases h
  · rename_i e hd
    split at h
    · rename_i b off len cap
      split at h
      · rename_i l hh m hb
        split at h
        · rename_i i hi'
          injection h with h; subst h
          cases hx with
          | sl _ _ _ hι =>
            refine ⟨_, ?_, .sl _ _ _ hι⟩
            have := cbounds_sound (P := P) hb r1 r2 r3 true w
            have e := cutAt_spec
            simp only [Instr.sliceAt, Instr.slice, Sem.run_bind, run_underlying hd, Result.andThen_ok, this, run_sizeOf' hi', Sem.run_pure]
            congr 2
            rw [← cutAt_spec]
            split <;> rfl
        · cases h
      · cases h
    · split at h
      · rename_i q hb
        obtain ⟨l, hh, m⟩ := q
        split at h
        · rename_i i hi'
          injection h with h; subst h
          cases hx
          have h0 : l = 0 ∧ hh = 0 ∧ m = 0 := by
            unfold cbounds at hb
            have z : ∀ (v : CV) (x : Nat), cbnd v 0 = some x → x = 0 := fun v x hv => by
              unfold cbnd at hv
              split at hv
              · split at hv
                · split at hv
                  · rename_i hq; injection hv with hv; have := Nat.le_of_ble_eq_true hq; omega
                  · cases hv
                · cases hv
              · cases hv
            split at hb
            · cases hb
            · rename_i m0 hm
              have hm0 : m0 = 0 := by
                split at hm
                · simpa using hm.symm
                · exact z _ _ hm
              subst hm0
              split at hb
              · cases hb
              · rename_i h0 hh'
                have hh0 : h0 = 0 := by
                  split at hh'
                  · exact z _ _ hh'
                  · simpa using hh'.symm
                  · cases hh'
                subst hh0
                split at hb
                · cases hb
                · rename_i l0 hl
                  have hl0 : l0 = 0 := by
                    split at hl
                    · exact z _ _ hl
                    · simpa using hl.symm
                  subst hl0
                  injection hb with hb; injection hb with e1 hb; injection hb with e2 e3
                  exact ⟨e1.symm, e2.symm, e3.symm⟩
          obtain ⟨rfl, rfl, rfl⟩ := h0
          refine ⟨_, ?_, .nils⟩
          have := cbounds_sound (P := P) hb r1 r2 r3 true w
          simp [Instr.sliceAt, Instr.slice, run_underlying hd, this, run_sizeOf' hi']
        · cases h
      · cases h
    · rename_i b off skip len
      split at h
      · cases h
      · split at h
        · cases h
        · rename_i hv hh
          split at h
          · cases h
          · rename_i lv hl
            split at h
            · cases h
            · rename_i i hinf
              split at h
              · rename_i hc
                injection h with h; subst h
                cases r3
                cases hx with
                | slo _ _ _ hι =>
                  rename_i r C
                  have hroom : (hi = none ∧ lv = 0) ∨ (hv + skip ≤ C ∧ (lv = 0 ∨ lv < hv)) := by
                    simp only [Bool.or_eq_true, Bool.and_eq_true] at hc
                    rcases hc with hc | ⟨hc1, hc2⟩
                    · left
                      split at hc
                      · exact ⟨rfl, Nat.eq_of_beq_eq_true hc⟩
                      · cases hc
                    · right
                      refine ⟨room_sound hH hc1 hι, ?_⟩
                      rcases hc2 with hc2 | hc2
                      · exact .inl (Nat.eq_of_beq_eq_true hc2)
                      · exact .inr (by simpa [Nat.blt_eq] using hc2)
                  have hlow : lv ≤ hv := by
                    split at hl
                    · simp at hl; omega
                    · cases r1 with
                      | some r' => exact (cbnd_sound hl r').2
                  have hb : (Instr.sliceBounds true len (C - skip) lo' hi' none).run P w = .ok (lv, hv, C - skip) w := by
                    cases r2 with
                    | none =>
                      simp only [Option.some.injEq] at hh; subst hh
                      cases r1 with
                      | none => simp only [Option.some.injEq] at hl; subst hl; simp [Instr.sliceBounds]
                      | some r' => obtain ⟨⟨k, rfl⟩, hle⟩ := cbnd_sound hl r'; simp [Instr.sliceBounds, run_sliceBound hle]
                    | some r'' =>
                      obtain ⟨⟨k, rfl⟩, _⟩ := cbnd_sound hh r''
                      have hle2 : hv ≤ C - skip := by
                        rcases hroom with ⟨h1, _⟩ | ⟨h1, _⟩
                        · cases h1
                        · omega
                      cases r1 with
                      | none => simp only [Option.some.injEq] at hl; subst hl; simp [Instr.sliceBounds, run_sliceBound hle2]
                      | some r' => obtain ⟨⟨k', rfl⟩, hle⟩ := cbnd_sound hl r'; simp [Instr.sliceBounds, run_sliceBound hle, run_sliceBound hle2]
                  refine ⟨.slice (some ⟨r, off + lv * i.size, none⟩) (hv - lv) (C - (skip + lv)), ?_, .slo _ _ _ hι⟩
                  simp only [Instr.sliceAt, Instr.slice, Sem.run_bind, run_underlying hd, Result.andThen_ok, hb, run_sizeOf' hinf, Sem.run_pure]
                  have ha : (if C - skip = lv then (some (⟨r, off, none⟩ : Addr)) else (some (⟨r, off, none⟩ : Addr)).map (·.add (lv * i.size))) = some ⟨r, off + lv * i.size, none⟩ := by
                    by_cases hz : lv = 0
                    · subst hz; simp [Addr.add]
                    · rw [if_neg (by rcases hroom with ⟨_, h1⟩ | ⟨h1, h2⟩ <;> omega), Option.map_some, addr_add]
                  rw [ha, Nat.sub_sub]
              · cases h
    · cases h
  · cases h

def cindexAddr (P : Program) (t : TypeId) (x i : CV) : Option CV :=
  match und P t with
  | some (.array n e) => match x with
    | .ptr b off => match cidx i n with
      | some m => match inf P e with
        | some inf => some (.ptr b (off + m * inf.size))
        | none => none
      | none => none
    | _ => none
  | some (.slice e) => match x with
    | .sl b off len _ => match cidx i len with
      | some m => match inf P e with
        | some inf => some (.ptr b (off + m * inf.size))
        | none => none
      | none => none
    | .slo b off _ len => match cidx i len with
      | some m => match inf P e with
        | some inf => some (.ptr b (off + m * inf.size))
        | none => none
      | none => none
    | _ => none
  | _ => none
theorem cindexAddr_sound {ι : Emb} {t : TypeId} {x i c : CV} {u v : Value} (h : cindexAddr P t x i = some c) (hx : VRel ι x u) (hi : VRel ι i v) (w : World) : ∃ r, (Instr.indexAt t u v).run P w = .ok r w ∧ VRel ι c r := by
  unfold cindexAddr at h
  try simp only [inf_eq, und_eq] at h
  split at h
  · rename_i n e hd
    split at h
    · split at h
      · rename_i m hm
        split at h
        · rename_i inf hinf
          injection h with h; subst h
          obtain ⟨k, rfl, hlt⟩ := cidx_sound hm hi
          cases hx with
          | ptr _ hι =>
            refine ⟨_, ?_, .ptr _ hι⟩
            simp [Instr.indexAt, asIntOf, run_underlying hd, Instr.sureAddr, hlt, run_sizeOf' hinf, addr_add]
        · cases h
      · cases h
    · cases h
  · rename_i e hd
    split at h
    · split at h
      · rename_i m hm
        split at h
        · rename_i inf hinf
          injection h with h; subst h
          obtain ⟨k, rfl, hlt⟩ := cidx_sound hm hi
          cases hx with
          | sl _ _ _ hι =>
            refine ⟨_, ?_, .ptr _ hι⟩
            simp [Instr.indexAt, asIntOf, run_underlying hd, hlt, run_sizeOf' hinf, addr_add]
        · cases h
      · cases h
    · split at h
      · rename_i m hm
        split at h
        · rename_i inf hinf
          injection h with h; subst h
          obtain ⟨k, rfl, hlt⟩ := cidx_sound hm hi
          cases hx with
          | slo _ _ _ hι =>
            refine ⟨_, ?_, .ptr _ hι⟩
            simp [Instr.indexAt, asIntOf, run_underlying hd, hlt, run_sizeOf' hinf, addr_add]
        · cases h
      · cases h
    · cases h
  · cases h

def cfieldAddr (P : Program) (t : TypeId) (x : CV) (f : Nat) : Option CV :=
  match und P t with
  | some (.struct fs) => match fs[f]? with
    | some fd => match x with
      | .ptr b off => match inf P fd.type with
        | some inf => match Nat.beq inf.size 0 with
          | true => none
          | false => some (.ptr b (off + fd.offset))
        | none => none
      | _ => none
    | none => none
  | _ => none
theorem cfieldAddr_sound {ι : Emb} {t : TypeId} {x c : CV} {f : Nat} {u : Value} (h : cfieldAddr P t x f = some c) (hx : VRel ι x u) (w : World) : ∃ r, (Instr.fieldAt t u f).run P w = .ok r w ∧ VRel ι c r := by
  unfold cfieldAddr at h
  try simp only [inf_eq, und_eq] at h
  split at h
  · rename_i fs hd
    split at h
    · rename_i fd hf
      split at h
      · split at h
        · rename_i inf hinf
          split at h
          · cases h
          · rename_i hz
            injection h with h; subst h
            cases hx with
            | ptr _ hι =>
              refine ⟨_, ?_, .ptr _ hι⟩
              have hz : inf.size ≠ 0 := fun e => by rw [e] at hz; cases hz
              simp [Instr.fieldAt, run_underlying hd, hf, Instr.sureAddr, fieldPlace, run_sizeOf' hinf, hz, addr_add]
        · cases h
      · cases h
    · cases h
  · cases h

/-! ### What makes a block -/
theorem HRel.row {c : Ctx} {T : Nat} {ι : Emb} {H : CH} {w : World} (h : HRel c T ι H w) (hT : H.next < T) (hs : small H.next = true) (ty : TypeId) {cs : List CV} {a : Array Value} (hr : LRel ι cs a.toList) :
    Post c ι H w (ι.add H.next w.heap.size 0) (H.add (.cells ty .rw cs)) (w.alloc (.cells a ty)) ∧ HRel c T (ι.add H.next w.heap.size 0) (H.add (.cells ty .rw cs)) (w.alloc (.cells a ty)) := by
  refine h.alloc hT hs ⟨a.toList, (0, 0), by simp, ?_, ?_, rfl, hr.length.symm⟩
  · rw [hr.length, List.take_length]; exact hr
  · rw [hr.length]; exact Nat.le_refl _
theorem run_newRow (ty : TypeId) (a : Array Value) (w : World) : (newRow ty a).run P w = .ok ⟨w.heap.size, 0, none⟩ (w.alloc (.cells a ty)) := rfl
theorem run_newVar (ty : TypeId) (v : Value) (w : World) : (newVar ty v).run P w = .ok ⟨w.heap.size, 0, none⟩ (w.alloc (.cells v.cells ty)) := rfl

def calloc (P : Program) (H : CH) (t : TypeId) : Option (CV × CH) :=
  match czero P t with
  | some zs => match small H.next with
    | true => some (.ptr H.next 0, H.add (.cells t .rw zs))
    | false => none
  | none => none
theorem calloc_sound {c : Ctx} {T : Nat} {ι : Emb} {H H' : CH} {w : World} (hH : HRel c T ι H w) {t : TypeId} {v : CV} (hT : H'.next ≤ T) (h : calloc P H t = some (v, H')) :
    ∃ ι' w' u, (Instr.alloc t true (.tuple #[])).run P w = .ok u w' ∧ Post c ι H w ι' H' w' ∧ HRel c T ι' H' w' ∧ VRel ι' v u := by
  unfold calloc at h
  split at h
  · rename_i zs hz
    split at h
    · rename_i hs
      injection h with h; injection h with h1 h2; subst h1; subst h2
      obtain ⟨z, hz1, hz2⟩ := czero_sound hz w ι
      obtain ⟨p, q⟩ := hH.row (Nat.lt_of_succ_le hT) hs t hz2
      refine ⟨_, _, .pointer (some ⟨w.heap.size, 0, none⟩), ?_, p, q, .ptr 0 Emb.add_self⟩
      simp [Instr.alloc, hz1, run_newVar]
    · cases h
  · cases h

def cbox (H : CH) (t : TypeId) (x : CV) : Option (CV × CH) :=
  match small H.next with
  | true => some (.ptr H.next 0, H.add (.cells t .rw x.cells))
  | false => none
theorem cbox_sound {c : Ctx} {T : Nat} {ι : Emb} {H H' : CH} {w : World} (hH : HRel c T ι H w) {t : TypeId} {x v : CV} {u : Value} (hT : H'.next ≤ T) (h : cbox H t x = some (v, H')) (hx : VRel ι x u) :
    ∃ ι' w' r, (Instr.box t u).run P w = .ok r w' ∧ Post c ι H w ι' H' w' ∧ HRel c T ι' H' w' ∧ VRel ι' v r := by
  unfold cbox at h
  split at h
  · rename_i hs
    injection h with h; injection h with h1 h2; subst h1; subst h2
    obtain ⟨p, q⟩ := hH.row (Nat.lt_of_succ_le hT) hs t hx.cells
    refine ⟨_, _, .pointer (some ⟨w.heap.size, 0, none⟩), ?_, p, q, .ptr 0 Emb.add_self⟩
    simp [Instr.box, run_newVar]
  · cases h

/-- Zero cells, again and again. -/
def crep (n : Nat) (zs : List CV) : List CV := (List.range n).map fun i => zs.getD (i % zs.length) .nilp
theorem crep_rel {ι : Emb} {n : Nat} {zs : List CV} {z : Array Value} (h : LRel ι zs z.toList) (hp : n = 0 ∨ 0 < zs.length) : LRel ι (crep n zs) ((Array.range n).map (z[· % z.size]!)).toList := by
  have hl := h.length
  simp at hl
  refine LRel.of_get (by simp [crep]) ?_
  intro i c u h1 h2
  simp only [crep, List.getElem?_map] at h1
  simp only [Array.toList_map, Array.toList_range, List.getElem?_map] at h2
  by_cases hi : i < n
  · rw [List.getElem?_range hi] at h1 h2
    simp only [Option.map_some, Option.some.injEq] at h1 h2
    subst h1; subst h2
    have hz : 0 < zs.length := by omega
    have hm : i % zs.length < zs.length := Nat.mod_lt _ hz
    obtain ⟨u, hu, hr⟩ := h.get (n := i % zs.length) (v := zs[i % zs.length]) (by simp [hm])
    have e1 : zs.getD (i % zs.length) CV.nilp = zs[i % zs.length] := by simp [List.getD, hm]
    have e2 : z[i % z.size]! = u := by
      rw [← hl]
      simp at hu
      rw [getElem!_def, hu]
    rw [e1, e2]; exact hr
  · rw [List.getElem?_eq_none (by simp; omega)] at h1
    cases h1

def cbuildSlice (P : Program) (H : CH) (t : TypeId) (len : Nat) (parts : List (Nat × CV)) : Option (CV × CH) :=
  match und P t with
  | some (.slice e) => match inf P e with
    | some i =>
      match Nat.ble (len * i.size) 10000 && small H.next with
      | true =>
        match (match Nat.beq (len * i.size) 0 with | true => some [] | false => czero P e) with
        | some zs => match Nat.beq (len * i.size) 0 || Nat.blt 0 zs.length with
          | true => match cfill (fun j => some (j * i.size, i.size)) (crep (len * i.size) zs) parts with
            | some r => some (.sl H.next 0 len len, H.add (.cells e .rw r))
            | none => none
          | false => none
        | none => none
      | false => none
    | none => none
  | _ => none
theorem cbuildSlice_sound {c : Ctx} {T : Nat} {ι : Emb} {H H' : CH} {w : World} (hH : HRel c T ι H w) {t : TypeId} {len : Nat} {parts : List (Nat × CV)} {parts' : List (Nat × Value)} {v : CV} (hT : H'.next ≤ T) (h : cbuildSlice P H t len parts = some (v, H')) (hp : PRel ι parts parts') :
    ∃ ι' w' u, (Instr.buildSlice t len parts'.toArray).run P w = .ok u w' ∧ Post c ι H w ι' H' w' ∧ HRel c T ι' H' w' ∧ VRel ι' v u := by
  unfold cbuildSlice at h
  try simp only [inf_eq, und_eq] at h
  split at h
  · rename_i e hd
    split at h
    · rename_i i hi
      split at h
      · rename_i hb
        simp only [Bool.and_eq_true] at hb
        have hle := Nat.le_of_ble_eq_true hb.1
        split at h
        · rename_i zs hz
          split at h
          · rename_i hpos
            split at h
            · rename_i r hr
              injection h with h; injection h with h1 h2; subst h1; subst h2
              have hzero : ∃ z : Array Value, ((len * i.size = 0 ∧ z = #[]) ∨ (len * i.size ≠ 0 ∧ ∃ zv : Value, (zeroValue e).run P w = .ok zv w ∧ z = zv.cells)) ∧ LRel ι zs z.toList := by
                by_cases h0 : len * i.size = 0
                · rw [beq_t h0] at hz; simp only [Option.some.injEq] at hz; subst hz
                  exact ⟨#[], .inl ⟨h0, rfl⟩, .nil⟩
                · rw [beq_f h0] at hz
                  obtain ⟨z, hz1, hz2⟩ := czero_sound hz w ι
                  exact ⟨z.cells, .inr ⟨h0, z, hz1, rfl⟩, hz2⟩
              obtain ⟨z, hz1, hz2⟩ := hzero
              have hrep := crep_rel (n := len * i.size) hz2 (by
                simp only [Bool.or_eq_true] at hpos
                rcases hpos with h0 | h0
                · exact .inl (Nat.eq_of_beq_eq_true h0)
                · exact .inr (by simpa [Nat.blt_eq] using h0))
              obtain ⟨r', h1, h2⟩ := cfill_sound hp hrep hr
              obtain ⟨p, q⟩ := hH.row (Nat.lt_of_succ_le hT) (a := r'.toArray) hb.2 e (by simpa using h2)
              refine ⟨_, _, .slice (some ⟨w.heap.size, 0, none⟩) len len, ?_, p, q, .sl _ _ _ Emb.add_self⟩
              have h1' : Instr.fill (fun j => some (j * i.size, i.size)) ((Array.range (len * i.size)).map (z[· % z.size]!)) parts' = some r'.toArray := by rw [Array.toArray_toList] at h1; exact h1
              clear h1
              have h16 : ¬ (len * i.size > 2 ^ 24) := by omega
              simp only [Instr.buildSlice, Sem.run_bind, run_underlying hd, Result.andThen_ok, run_sizeOf' hi, h16, if_false]
              rcases hz1 with ⟨h0, rfl⟩ | ⟨h0, zv, hz1, rfl⟩
              · rw [if_pos h0]; simp only [Sem.run_bind, Sem.run_pure, Result.andThen_ok, h1']; rfl
              · rw [if_neg h0]; simp only [Sem.run_bind, hz1, Sem.run_pure, Result.andThen_ok, h1']; rfl
            · cases h
          · cases h
        · cases h
      · cases h
    · cases h
  · cases h

theorem wrap_small {n : Nat} (h : n < 1000000000) : IntKind.i64.wrap (n : Int) = (n : Int) := by
  have e : (n : Int) % (2 ^ 64) = n := Int.emod_eq_of_lt (by omega) (by omega)
  simp only [IntKind.wrap, IntKind.bits, IntKind.signed, e]
  rw [if_neg]
  simp
  omega

def cnat (v : CV) : Option Nat :=
  match v with
  | .int _ n => match n with
    | .ofNat m => match small m with
      | true => some m
      | false => none
    | .negSucc _ => none
  | _ => none
theorem small_lt {k : Nat} (h : small k = true) : k < 1000000000 := by simpa [small, Nat.blt_eq] using h
theorem cnat_sound {ι : Emb} {v : CV} {m : Nat} {u : Value} (h : cnat v = some m) (hi : VRel ι v u) : (∃ k, u = .int k (m : Int)) ∧ m < 1000000000 := by
  unfold cnat at h
  split at h
  · split at h
    · split at h
      · rename_i hb
        injection h with h; subst h
        cases hi
        exact ⟨⟨_, rfl⟩, small_lt hb⟩
      · cases h
    · cases h
  · cases h

def cmakeSlice (P : Program) (H : CH) (t : TypeId) (len cap : CV) : Option (CV × CH) :=
  match und P t with
  | some (.slice e) => match inf P e with
    | some i => match cnat len, cnat cap with
      | some l, some k =>
        match Nat.ble l k && Nat.ble (i.bytes * k) 281474976710656 && small H.next with
        | true =>
          match (match Nat.beq (k * i.size) 0 with | true => some [] | false => czero P e) with
          | some zs => match Nat.beq (k * i.size) 0 || Nat.blt 0 zs.length with
            | true => some (.sl H.next 0 l k, H.add (.cells e .rw (crep (k * i.size) zs)))
            | false => none
          | none => none
        | false => none
      | _, _ => none
    | none => none
  | _ => none
theorem cmakeSlice_sound {c : Ctx} {T : Nat} {ι : Emb} {H H' : CH} {w : World} (hH : HRel c T ι H w) {t : TypeId} {len cap v : CV} {ul uc : Value} (hT : H'.next ≤ T) (h : cmakeSlice P H t len cap = some (v, H')) (hl : VRel ι len ul) (hc : VRel ι cap uc) :
    ∃ ι' w' u, (Instr.makeSlice t ul uc).run P w = .ok u w' ∧ Post c ι H w ι' H' w' ∧ HRel c T ι' H' w' ∧ VRel ι' v u := by
  unfold cmakeSlice at h
  try simp only [inf_eq, und_eq] at h
  split at h
  · rename_i e hd
    split at h
    · rename_i i hi
      split at h
      · rename_i l k hl0 hk0
        split at h
        · rename_i hb
          simp only [Bool.and_eq_true] at hb
          have hle := Nat.le_of_ble_eq_true hb.1.1
          have hby := Nat.le_of_ble_eq_true hb.1.2
          split at h
          · rename_i zs hz
            split at h
            · rename_i hpos
              injection h with h; injection h with h1 h2; subst h1; subst h2
              obtain ⟨⟨kl, rfl⟩, hl1⟩ := cnat_sound hl0 hl
              obtain ⟨⟨kc, rfl⟩, hk1⟩ := cnat_sound hk0 hc
              have hzero : ∃ z : Array Value, ((k * i.size = 0 ∧ z = #[]) ∨ (k * i.size ≠ 0 ∧ ∃ zv : Value, (zeroValue e).run P w = .ok zv w ∧ z = zv.cells)) ∧ LRel ι zs z.toList := by
                by_cases h0 : k * i.size = 0
                · rw [beq_t h0] at hz; simp only [Option.some.injEq] at hz; subst hz
                  exact ⟨#[], .inl ⟨h0, rfl⟩, .nil⟩
                · rw [beq_f h0] at hz
                  obtain ⟨z, hz1, hz2⟩ := czero_sound hz w ι
                  exact ⟨z.cells, .inr ⟨h0, z, hz1, rfl⟩, hz2⟩
              obtain ⟨z, hz1, hz2⟩ := hzero
              have hrep := crep_rel (n := k * i.size) hz2 (by
                simp only [Bool.or_eq_true] at hpos
                rcases hpos with h0 | h0
                · exact .inl (Nat.eq_of_beq_eq_true h0)
                · exact .inr (by simpa [Nat.blt_eq] using h0))
              obtain ⟨p, q⟩ := hH.row (Nat.lt_of_succ_le hT) (a := (Array.range (k * i.size)).map (z[· % z.size]!)) hb.2 e hrep
              refine ⟨_, _, .slice (some ⟨w.heap.size, 0, none⟩) l k, ?_, p, q, .sl _ _ _ Emb.add_self⟩
              have t1 : ¬ ((k : Int) < 0) := by omega
              have t2 : ¬ (((i.bytes : Int) * (k : Int)) > 2 ^ 48) := by
                have : ((i.bytes * k : Nat) : Int) ≤ 281474976710656 := by omega
                rw [Int.natCast_mul] at this
                omega
              have t3 : ¬ ((l : Int) < 0) := by omega
              have t4 : ¬ ((l : Int) > (k : Int)) := by omega
              simp only [Instr.makeSlice, Sem.run_bind, run_underlying hd, Result.andThen_ok, asInt, asIntOf, Sem.run_pure, run_typeInfo' hi, wrap_small hl1, wrap_small hk1, run_sizeOf' hi]
              simp only [t1, t2, t3, t4, decide_false, Bool.or_false, Bool.false_eq_true, if_false, Result.andThen_ok, Sem.run_bind, run_askRoom, Int.toNat_natCast, run_sizeOf' hi]
              rcases hz1 with ⟨h0, rfl⟩ | ⟨h0, zv, hz1, rfl⟩
              · rw [if_pos h0]; simp [run_newRow]
              · rw [if_neg h0]; simp [hz1, run_newRow]
            · cases h
          · cases h
        · cases h
      · cases h
    · cases h
  · cases h

def cmakeMap (P : Program) (H : CH) (t : TypeId) (r : Option CV) : Option (CV × CH) :=
  match small H.next with
  | true =>
    match r with
    | none => some (.mp H.next, H.add (.map [] 0))
    | some v => match und P t with
      | some (.map _ _) => match v with
        | .int _ _ => some (.mp H.next, H.add (.map [] 0))
        | _ => none
      | _ => none
  | false => none
theorem cmakeMap_sound {c : Ctx} {T : Nat} {ι : Emb} {H H' : CH} {w : World} (hH : HRel c T ι H w) {t : TypeId} {r : Option CV} {r' : Option Value} {v : CV} (hT : H'.next ≤ T) (h : cmakeMap P H t r = some (v, H')) (hr : Opt ι r r') :
    ∃ ι' w' u, (Instr.makeMap t r').run P w = .ok u w' ∧ Post c ι H w ι' H' w' ∧ HRel c T ι' H' w' ∧ VRel ι' v u := by
  unfold cmakeMap at h
  try simp only [inf_eq, und_eq] at h
  split at h
  · rename_i hs
    have pq := fun (hT : H.next < T) => hH.alloc hT hs (o := .map [] 0) (ob := .map #[] 0) (C := 0) ⟨[], rfl, .nil⟩
    split at h
    · injection h with h; injection h with h1 h2; subst h1; subst h2
      obtain ⟨p, q⟩ := pq (Nat.lt_of_succ_le hT)
      cases hr
      exact ⟨_, _, .map (some w.heap.size), rfl, p, q, .mp Emb.add_self⟩
    · split at h
      · rename_i hd
        split at h
        · injection h with h; injection h with h1 h2; subst h1; subst h2
          obtain ⟨p, q⟩ := pq (Nat.lt_of_succ_le hT)
          cases hr with
          | some hv =>
            cases hv
            refine ⟨_, _, .map (some w.heap.size), ?_, p, q, .mp Emb.add_self⟩
            simp [Instr.makeMap, run_underlying hd, asInt, asIntOf]
        · cases h
      · cases h
  · cases h

end
end Go.Proofs.YtokafjkinkafiaaGreat.Mini

namespace Go.Proofs.YtokafjkinkafiaaGreat.Mini
noncomputable section
open Go.RowKit
variable {P : Program}

/-- The cells that a slice shows. -/
def cfirst (c : Ctx) (H : CH) (size n : Nat) (x : CV) : Option (List CV) :=
  match x with
  | .nils => some []
  | .sl b off _ _ => match H.tr.get b with
    | some (.cells _ _ cs) => match c.vis b && Nat.ble (off + n * size) cs.length with
      | true => some (seg cs off (n * size))
      | false => none
    | _ => none
  | .slo b off _ _ => match H.tr.get b with
    | some (.cells _ _ cs) => match c.vis b && Nat.ble (off + n * size) cs.length with
      | true => some (seg cs off (n * size))
      | false => none
    | _ => none
  | _ => none
theorem cfirst_sound {c : Ctx} {T : Nat} {ι : Emb} {H : CH} {w : World} (hH : HRel c T ι H w) {size n : Nat} {x : CV} {u : Value} {cs : List CV} (h : cfirst c H size n x = some cs) (hx : VRel ι x u) :
    ∃ us : List Value, (Builtin.firstCells size n u).run P w = .ok us.toArray w ∧ LRel ι cs us := by
  unfold cfirst at h
  split at h
  · injection h with h; subst h; cases hx; exact ⟨[], rfl, .nil⟩
  · split at h
    · rename_i ty m bs hg
      split at h
      · rename_i hb
        injection h with h; subst h
        simp only [Bool.and_eq_true] at hb
        obtain ⟨r, C, us, h1, h2, h3, h4⟩ := run_cells (P := P) hH hg hb.1 (Nat.le_of_ble_eq_true hb.2)
        cases hx with
        | sl _ _ _ hι => rw [hι] at h1; injection h1 with h1; injection h1 with h1 _; subst h1; exact ⟨us, h4, h2⟩
      · cases h
    · cases h
  · split at h
    · rename_i ty m bs hg
      split at h
      · rename_i hb
        injection h with h; subst h
        simp only [Bool.and_eq_true] at hb
        obtain ⟨r, C, us, h1, h2, h3, h4⟩ := run_cells (P := P) hH hg hb.1 (Nat.le_of_ble_eq_true hb.2)
        cases hx with
        | slo _ _ _ hι => rw [hι] at h1; injection h1 with h1; injection h1 with h1 _; subst h1; exact ⟨us, h4, h2⟩
      · cases h
    · cases h
  · cases h

def clenOf : CV → Option Nat
  | .sl _ _ len _ => some len
  | .slo _ _ _ len => some len
  | .nils => some 0
  | _ => none
theorem clenOf_sound {ι : Emb} {x : CV} {u : Value} {n : Nat} (h : clenOf x = some n) (hx : VRel ι x u) (w : World) : (Builtin.lenOf u).run P w = .ok n w := by
  unfold clenOf at h
  split at h <;> first
    | (injection h with h; subst h; cases hx; rfl)
    | cases h

def ccopy (P : Program) (c : Ctx) (H : CH) (ts : List TypeId) (args : List CV) : Option (CV × CH) :=
  match ts, args with
  | t :: _, dst :: src :: _ =>
    match und P t with
    | some (.slice e) => match inf P e with
      | some i => match clenOf dst, clenOf src with
        | some dl, some sl =>
          match cfirst c H i.size (Nat.min sl dl) src with
          | some cs =>
            match dst with
            | .nils => some (.int .i64 (Nat.min sl dl : Nat), H)
            | .sl b off _ _ => match cput c H b off cs with
              | some H' => some (.int .i64 (Nat.min sl dl : Nat), H')
              | none => none
            | .slo b off _ _ => match cput c H b off cs with
              | some H' => some (.int .i64 (Nat.min sl dl : Nat), H')
              | none => none
            | _ => none
          | none => none
        | _, _ => none
      | none => none
    | _ => none
  | _, _ => none
theorem ccopy_sound {c : Ctx} {T : Nat} {ι : Emb} {H H' : CH} {w : World} (hH : HRel c T ι H w) {ts : List TypeId} {args : List CV} {us : List Value} {v : CV} (h : ccopy P c H ts args = some (v, H')) (ha : LRel ι args us) (ty : TypeId) :
    ∃ w' u, (Builtin.copy_ ts.toArray ty us.toArray).run P w = .ok u w' ∧ Post c ι H w ι H' w' ∧ HRel c T ι H' w' ∧ VRel ι v u := by
  unfold ccopy at h
  try simp only [inf_eq, und_eq] at h
  split at h
  · rename_i t ts' dst src args'
    cases ha with
    | cons hd hrest =>
    cases hrest with
    | cons hs hrest =>
    rename_i ud m us0 us1
    split at h
    · rename_i e hde
      split at h
      · rename_i i hi
        split at h
        · rename_i dl sl hdl hsl
          split at h
          · rename_i cs hcs
            obtain ⟨us, hf, hr⟩ := cfirst_sound (P := P) hH hcs hs
            have q2 := clenOf_sound (P := P) hsl hs w
            split at h
            · injection h with h; injection h with h1 h2; subst h1; subst h2
              cases hd
              simp only [clenOf, Option.some.injEq] at hdl; subst hdl
              rw [show Nat.min sl 0 = 0 from Nat.min_zero sl] at hf
              refine ⟨w, _, ?_, Post.refl _ _ _ _, hH, .int _ _⟩
              simp [Builtin.copy_, run_underlying hde, q2, run_sizeOf' hi, hf, goInt]
            · split at h
              · rename_i H1 hp
                injection h with h; injection h with h1 h2; subst h1; subst h2
                obtain ⟨r, C, w', p1, p2, p3, p4⟩ := cput_sound (P := P) hH hp hr
                cases hd with
                | sl _ _ _ hι =>
                  rw [hι] at p1; injection p1 with p1; injection p1 with p1 _; subst p1
                  simp only [clenOf, Option.some.injEq] at hdl; subst hdl
                  refine ⟨w', _, ?_, p3, p4, .int _ _⟩
                  simp [Builtin.copy_, run_underlying hde, q2, run_sizeOf' hi, hf, p2, goInt]
              · cases h
            · split at h
              · rename_i H1 hp
                injection h with h; injection h with h1 h2; subst h1; subst h2
                obtain ⟨r, C, w', p1, p2, p3, p4⟩ := cput_sound (P := P) hH hp hr
                cases hd with
                | slo _ _ _ hι =>
                  rw [hι] at p1; injection p1 with p1; injection p1 with p1 _; subst p1
                  simp only [clenOf, Option.some.injEq] at hdl; subst hdl
                  refine ⟨w', _, ?_, p3, p4, .int _ _⟩
                  simp [Builtin.copy_, run_underlying hde, q2, run_sizeOf' hi, hf, p2, goInt]
              · cases h
            · cases h
          · cases h
        · cases h
      · cases h
    · cases h
  · cases h

theorem growBy_le (n : Nat) : ∀ (r c : Nat), Builtin.growBy n r c ≤ (c + 768) * 2 ^ r := by
  intro r
  induction r with
  | zero => intro c; simp [Builtin.growBy]
  | succ r ih =>
    intro c
    have h2 : 2 ^ (r + 1) = 2 * 2 ^ r := by rw [Nat.pow_succ]; omega
    simp only [Builtin.growBy]
    split
    · have : 0 < 2 ^ (r + 1) := Nat.two_pow_pos _
      have := Nat.le_mul_of_pos_right (c + 768) this
      omega
    · refine Nat.le_trans (ih _) ?_
      rw [h2, ← Nat.mul_assoc]
      exact Nat.mul_le_mul_right _ (by omega)
theorem nextcap_le {n k B : Nat} (h : k < n) (hn : n ≤ B) : Builtin.nextslicecap n k ≤ (B + 768) * 16 := by
  have h1 : Builtin.growBy n 4 k ≤ (k + 768) * 16 := growBy_le n 4 k
  have h2 : Builtin.nextslicecap n k ≤ max n (max (2 * k) (Builtin.growBy n 4 k)) := by
    unfold Builtin.nextslicecap
    by_cases c1 : n > 2 * k
    · rw [if_pos c1]; exact Nat.le_max_left _ _
    · rw [if_neg c1]
      by_cases c2 : k < 256
      · rw [if_pos c2]; exact Nat.le_trans (Nat.le_max_left _ _) (Nat.le_max_right _ _)
      · rw [if_neg c2]; exact Nat.le_trans (Nat.le_max_right _ _) (Nat.le_max_right _ _)
  omega

/-- Slices that grow: a new block, of unknown capacity. -/
theorem HRel.grow {c : Ctx} {T : Nat} {ι : Emb} {H : CH} {w : World} (h : HRel c T ι H w) (hT : H.next < T) (hs : small H.next = true) (ty : TypeId) {cs : List CV} {us rest : List Value} (hr : LRel ι cs us) {e C : Nat} (hl : (us ++ rest).length = C * e) :
    Post c ι H w (ι.add H.next w.heap.size C) (H.add (.cells ty (.opn e) cs)) (w.alloc (.cells (us ++ rest).toArray ty)) ∧ HRel c T (ι.add H.next w.heap.size C) (H.add (.cells ty (.opn e) cs)) (w.alloc (.cells (us ++ rest).toArray ty)) := by
  refine h.alloc hT hs ⟨us ++ rest, (0, 0), rfl, ?_, ?_, rfl, hl⟩
  · rw [hr.length, List.take_left]; exact hr
  · rw [hr.length]; simp

theorem HRel.kill {c : Ctx} {T : Nat} {ι : Emb} {H : CH} {w : World} (h : HRel c T ι H w) {b : Nat} (hs : small b = true) (hm : c.may b = true) : Post c ι H w ι (H.kill b) w ∧ HRel c T ι (H.kill b) w := by
  have hget : ∀ x, (H.kill b).tr.get x = if x = b then none else H.tr.get x := fun x => Tr.get_set _ _ _ _ _ (small_deep hs)
  have hsub : ∀ x o, (H.kill b).tr.get x = some o → H.tr.get x = some o := fun x o hx => by
    rw [hget] at hx
    by_cases e : x = b
    · rw [if_pos e] at hx; cases hx
    · rw [if_neg e] at hx; exact hx
  refine ⟨{ Post.refl c ι H w with keep := ?_, live := fun x o _ hx => ⟨o, hsub x o hx⟩ }, ⟨fun x o hg hv => h.blk x o (hsub x o hg) hv, fun x y o o' r C C' h1 h2 => h.inj x y o o' r C C' (hsub _ _ h1) (hsub _ _ h2), h.dom, fun x o hg => h.nxt x o (hsub x o hg)⟩⟩
  intro x hx hmx
  rw [hget, if_neg (fun e => by rw [e, hm] at hmx; cases hmx)]

/-- A slice that may be grown, grown in place: the old block's name is given up for a new one. -/
theorem HRel.regrow {c : Ctx} {T : Nat} {ι : Emb} {H : CH} {w w' : World} (h : HRel c T ι H w) (hT : H.next < T) {b : Nat} {o o' : CO} {r C : Nat} {ob' : Obj} (hm : c.may b = true) (hs : small b = true) (hn : small H.next = true) (hg : H.tr.get b = some o) (hi : ι b = some (r, C)) (ho : ORel ι C o' ob')
    (hw1 : w'.heap.size = w.heap.size) (hw2 : w'.heap[r]? = some ob') (hw3 : ∀ k, k ≠ r → w'.heap[k]? = w.heap[k]?) (hw4 : w'.os = w.os) (hw5 : w'.tape = w.tape) (hw6 : w'.output = w.output) :
    Post c ι H w (ι.add H.next r C) ((H.kill b).add o') w' ∧ HRel c T (ι.add H.next r C) ((H.kill b).add o') w' := by
  have hnone : ι H.next = none := h.dom _ (Nat.le_refl _) hT
  have hle := Emb.add_le (r := r) (C := C) hnone
  have hlt := h.nxt _ _ hg
  have hv := may_vis hm
  have hget : ∀ x, ((H.kill b).add o').tr.get x = if x = H.next then some o' else if x = b then none else H.tr.get x := fun x => by
    show (Tr.set deep (H.kill b).tr H.next (some o')).get x = _
    rw [Tr.get_set _ _ _ _ _ (small_deep hn)]
    show (if x = H.next then _ else (Tr.set deep H.tr b none).get x) = _
    rw [Tr.get_set _ _ _ _ _ (small_deep hs)]
  have hι : ∀ x, x ≠ H.next → (ι.add H.next r C) x = ι x := fun x hx => by simp [Emb.add, hx]
  have hsub : ∀ x ox, x ≠ H.next → ((H.kill b).add o').tr.get x = some ox → x ≠ b ∧ H.tr.get x = some ox := fun x ox hx hgx => by
    rw [hget, if_neg hx] at hgx
    by_cases e : x = b
    · rw [if_pos e] at hgx; cases hgx
    · rw [if_neg e] at hgx; exact ⟨e, hgx⟩
  refine ⟨⟨hle, Nat.le_succ _, ?_, ?_, by omega, hw4, hw5, hw6, ?_, ?_, ?_⟩, ⟨?_, ?_, ?_, ?_⟩⟩
  · intro x hx p hp
    by_cases e : x = H.next
    · subst e; exact ⟨Nat.le_refl _, Nat.lt_succ_self _⟩
    · rw [hι x e, hx] at hp; cases hp
  · intro x r' C' hx hp
    by_cases e : x = H.next
    · subst e; rw [Emb.add_self] at hp; injection hp with hp; injection hp with hp1 hp2; subst hp1; subst hp2
      exact .inr ⟨b, o, C, hm, hg, hi⟩
    · rw [hι x e, hx] at hp; cases hp
  · intro k hk hn'
    exact hw3 k (fun e => hn' b o C hm hg (by rw [hi, e]))
  · intro x hx hmx
    rw [hget, if_neg (by omega), if_neg (fun e => by rw [e, hm] at hmx; cases hmx)]
  · intro x ox hx hgx
    exact ⟨ox, (hsub x ox (by omega) hgx).2⟩
  · intro x ox hgx hvx
    by_cases e : x = H.next
    · subst e
      rw [hget, if_pos rfl] at hgx; injection hgx with hgx; subst hgx
      exact ⟨r, C, ob', Emb.add_self, hw2, ho.mono hle⟩
    · obtain ⟨hxb, hgx⟩ := hsub x ox e hgx
      obtain ⟨r', C', ob, h1, h2, h3⟩ := h.blk x ox hgx hvx
      refine ⟨r', C', ob, by rw [hι x e]; exact h1, ?_, h3.mono hle⟩
      rw [hw3 r' (fun er => ?_)]; exact h2
      subst er
      exact hxb (h.inj x b ox o r' C' C hgx hg hvx hv h1 hi)
  · intro x y o1 o2 r' C1 C2 h1 h2 v1 v2 i1 i2
    have f : ∀ z oz, ((H.kill b).add o').tr.get z = some oz → c.vis z = true → z ≠ H.next → z ≠ b ∧ H.tr.get z = some oz := fun z oz hz _ hne => hsub z oz hne hz
    by_cases e : x = H.next <;> by_cases e' : y = H.next
    · omega
    · obtain ⟨hyb, hy⟩ := f y o2 h2 v2 e'
      subst e; rw [Emb.add_self] at i1; rw [hι y e'] at i2
      injection i1 with i1; injection i1 with i1 _; subst i1
      exact absurd (h.inj y b o2 o r C2 C hy hg v2 hv i2 hi) hyb
    · obtain ⟨hxb, hx⟩ := f x o1 h1 v1 e
      subst e'; rw [Emb.add_self] at i2; rw [hι x e] at i1
      injection i2 with i2; injection i2 with i2 _; subst i2
      exact absurd (h.inj x b o1 o r C1 C hx hg v1 hv i1 hi) hxb
    · obtain ⟨_, hx⟩ := f x o1 h1 v1 e
      obtain ⟨_, hy⟩ := f y o2 h2 v2 e'
      rw [hι x e] at i1; rw [hι y e'] at i2
      exact h.inj x y o1 o2 r' C1 C2 hx hy v1 v2 i1 i2
  · intro x hx hxT
    have hx : H.next + 1 ≤ x := hx
    rw [hι x (by omega)]; exact h.dom x (by omega) hxT
  · intro x ox hgx
    by_cases e : x = H.next
    · show x < H.next + 1; omega
    · have := h.nxt _ _ (hsub x ox e hgx).2
      show x < H.next + 1; omega

def cappend (P : Program) (c : Ctx) (H : CH) (ts : List TypeId) (args : List CV) : Option (CV × CH) :=
  match ts, args with
  | t :: t1 :: _, s :: x :: _ =>
    match und P t, und P t1 with
    | some (.slice e), some (.slice _) => match inf P e, czero P e with
      | some i, some zs => match clenOf s, clenOf x with
        | some sl, some n =>
          match cfirst c H i.size n x with
          | some new =>
            match small H.next && Nat.ble (sl + n) 1000000 && Nat.ble i.bytes 1000000 && Nat.beq zs.length i.size with
            | false => none
            | true =>
              match s with
              | .nils => match Nat.beq n 0 with
                | true => some (.nils, H)
                | false => some (.slo H.next 0 0 n, H.add (.cells e (.opn i.size) new))
              | .sl b off _ cap => match Nat.ble (sl + n) cap with
                | true => match cput c H b (off + sl * i.size) new with
                  | some H' => some (.sl b off (sl + n) cap, H')
                  | none => none
                | false => match cfirst c H i.size sl s with
                  | some old => some (.slo H.next 0 0 (sl + n), H.add (.cells e (.opn i.size) (old ++ new)))
                  | none => none
              | .slo b off skip _ =>
                match Nat.beq n 0 with
                | true => match room c H b (sl + skip) with
                  | true => some (.slo b off skip sl, H)
                  | false => none
                | false =>
                  match H.tr.get b with
                  | some (.cells ty (.opn e') cs) =>
                    match Nat.beq off 0 && Nat.beq skip 0 && Nat.beq e' i.size && c.may b && small b && Nat.ble (sl * i.size) cs.length && allOne new && Nat.beq ty e with
                    | true => some (.slo H.next 0 0 (sl + n), (H.kill b).add (.cells e (.opn i.size) (cs.take (sl * i.size) ++ new)))
                    | false => none
                  | _ => none
              | _ => none
          | none => none
        | _, _ => none
      | _, _ => none
    | _, _ => none
  | _, _ => none

end
end Go.Proofs.YtokafjkinkafiaaGreat.Mini

namespace Go.Proofs.YtokafjkinkafiaaGreat.Mini
noncomputable section
open Go.RowKit
variable {P : Program}

theorem run_append_in {t t1 ty e : TypeId} {d1 : TypeId} {i : TypeInfo} {ts : List TypeId} {w w' : World} {base : Option Addr} {sLen sCap n : Nat} {x : Value} {rest : List Value} {new : List Value}
    (hd : P.underlying t = some (.slice e)) (hd1 : P.underlying t1 = some (.slice d1)) (hi : P.info? e = some i) (hn : (Builtin.lenOf x).run P w = .ok n w) (hle : sLen + n ≤ sCap) (hf : (Builtin.firstCells i.size n x).run P w = .ok new.toArray w)
    (hs : match base with | some a => (storeCells (a.add (sLen * i.size)) new).run P w = .ok () w' | none => w' = w) :
    (Builtin.append_ (t :: t1 :: ts).toArray ty (.slice base sLen sCap :: x :: rest).toArray).run P w = .ok (.slice base (sLen + n) sCap) w' := by
  cases base with
  | none => simp only at hs; subst hs; simp [Builtin.append_, run_underlying hd, run_underlying hd1, run_sizeOf' hi, hn, hle, hf]
  | some a => simp only at hs; simp [Builtin.append_, run_underlying hd, run_underlying hd1, run_sizeOf' hi, hn, hle, hf, hs]

theorem run_append_out {t t1 ty e : TypeId} {d1 : TypeId} {i : TypeInfo} {ts : List TypeId} {w : World} {base : Option Addr} {sLen sCap n : Nat} {x z : Value} {rest : List Value} {old new : List Value}
    (hd : P.underlying t = some (.slice e)) (hd1 : P.underlying t1 = some (.slice d1)) (hi : P.info? e = some i) (hn : (Builtin.lenOf x).run P w = .ok n w) (hle : sCap < sLen + n) (hb : sLen + n ≤ 1000000) (hby : i.bytes ≤ 1000000)
    (hz : ∀ w, (zeroValue e).run P w = .ok z w) (hzs : z.cells.size = i.size)
    (ho : (Builtin.firstCells i.size sLen (.slice base sLen sCap)).run P w.drew = .ok old.toArray w.drew) (hf : (Builtin.firstCells i.size n x).run P w.drew = .ok new.toArray w.drew) :
    ∃ (C : Nat) (fill : List Value), sLen + n ≤ C ∧ fill.length = (C - (sLen + n)) * i.size ∧
    (Builtin.append_ (t :: t1 :: ts).toArray ty (.slice base sLen sCap :: x :: rest).toArray).run P w = .ok (.slice (some ⟨w.heap.size, 0, none⟩) (sLen + n) C) (w.drew.alloc (.cells (old ++ new ++ fill).toArray e)) := by
  obtain ⟨C, hC⟩ : ∃ C, C = (Question.appendCap (sLen + n) sCap e).cut (w.tape w.drawn (Question.appendCap (sLen + n) sCap e)) := ⟨_, rfl⟩
  have hCle : sLen + n ≤ C := by rw [hC]; simp only [Question.cut]; omega
  refine ⟨C, (Builtin.zeroCells z.cells (C - (sLen + n))).toList, hCle, by simp [Builtin.zeroCells, hzs], ?_⟩
  have h1 : ¬ (sLen + n ≤ sCap) := by omega
  have hmax : IntKind.i64.max = 9223372036854775807 := by decide
  have h2 : ¬ (((sLen + n : Nat) : Int) > IntKind.i64.max ∧ i.bytes = 0) := by rw [hmax]; omega
  have h3 : ¬ (Builtin.nextslicecap (sLen + n) sCap * i.bytes > 2 ^ 48) := by
    have a1 := nextcap_le hle hb
    have a2 : Builtin.nextslicecap (sLen + n) sCap * i.bytes ≤ ((1000000 + 768) * 16) * 1000000 := Nat.mul_le_mul a1 hby
    omega
  have hch : (choose (.appendCap (sLen + n) sCap e)).run P w = .ok C w.drew := by
    rw [run_choose, hC]; rfl
  simp only [Builtin.append_, List.getElem?_toArray, List.getElem?_cons_zero, List.getElem?_cons_succ, Sem.run_bind, run_underlying hd, Result.andThen_ok, run_sizeOf' hi, run_underlying hd1, Sem.run_pure]
  simp only [hn, Result.andThen_ok, Sem.run_bind, Bool.false_eq_true, if_false, h1, run_typeInfo' hi, false_or, h2, h3, hch, run_askRoom, ho, hf, hz, Bool.not_false, if_true, Sem.run_ite, Sem.run_pure]
  rw [run_newRow, Result.andThen_ok]
  have e1 : old.toArray ++ new.toArray ++ Builtin.zeroCells z.cells (C - (sLen + n)) = (old ++ new ++ (Builtin.zeroCells z.cells (C - (sLen + n))).toList).toArray := by apply Array.ext'; simp
  rw [e1]; rfl


theorem cappend_sound {c : Ctx} {T : Nat} {ι : Emb} {H H' : CH} {w : World} (hH : HRel c T ι H w) (hT : H'.next ≤ T) {ts : List TypeId} {args : List CV} {us : List Value} {v : CV} (h : cappend P c H ts args = some (v, H')) (ha : LRel ι args us) (ty : TypeId) :
    ∃ ι' w' u, (Builtin.append_ ts.toArray ty us.toArray).run P w = .ok u w' ∧ Post c ι H w ι' H' w' ∧ HRel c T ι' H' w' ∧ VRel ι' v u := by
  unfold cappend at h
  try simp only [inf_eq, und_eq] at h
  split at h
  · rename_i t t1 ts' s x args'
    cases ha with
    | cons hs hrest =>
    cases hrest with
    | cons hx hrest =>
    rename_i _ls su xu us1
    split at h
    · rename_i e d1 hd hd1
      split at h
      · rename_i i zs hi hz
        split at h
        · rename_i sLen n hsl hnl
          split at h
          · rename_i new hnew
            split at h
            · cases h
            · rename_i hb
              simp only [Bool.and_eq_true] at hb
              obtain ⟨⟨⟨hb1, hb2⟩, hb3⟩, hb4⟩ := hb
              have hb2 := Nat.le_of_ble_eq_true hb2
              have hb3 := Nat.le_of_ble_eq_true hb3
              have hb4 := Nat.eq_of_beq_eq_true hb4
              have hn := clenOf_sound (P := P) hnl hx w
              obtain ⟨newu, hf, hnr⟩ := cfirst_sound (P := P) hH hnew hx
              obtain ⟨newu2, hf2, hnr2⟩ := cfirst_sound (P := P) hH.drew hnew hx
              have hzz : ∃ z : Value, (∀ w, (zeroValue e).run P w = .ok z w) ∧ z.cells.size = i.size := by
                unfold czero at hz
                try simp only [inf_eq, und_eq] at hz
                rw [hi] at hz
                split at hz
                · rename_i i' hi'
                  injection hi' with hi'; subst hi'
                  split at hz
                  · rename_i z hz'
                    refine ⟨z, fun w => run_zeroValue' hi hz' w, ?_⟩
                    have := (ofVs_rel (ι := ι) hz).length
                    simp at this; omega
                  · cases hz
                · cases hz
              obtain ⟨z, hz1, hz2⟩ := hzz
              -- a new block of whatever capacity
              have out : H.next < T → ∀ (base : Option Addr) (sCap : Nat) (old : List CV), su = .slice base sLen sCap → sCap < sLen + n → cfirst c H i.size sLen s = some old →
                  ∃ ι' w' u, (Builtin.append_ (t :: t1 :: ts').toArray ty (su :: xu :: us1).toArray).run P w = .ok u w' ∧ Post c ι H w ι' (H.add (.cells e (.opn i.size) (old ++ new))) w' ∧ HRel c T ι' (H.add (.cells e (.opn i.size) (old ++ new))) w' ∧ VRel ι' (.slo H.next 0 0 (sLen + n)) u := by
                intro hT base sCap old hsu hlt hold
                subst hsu
                obtain ⟨oldu, ho, hor⟩ := cfirst_sound (P := P) hH.drew hold hs
                obtain ⟨C, fill, hC, hfl, hrun⟩ := run_append_out (ty := ty) (ts := ts') (rest := us1) hd hd1 hi hn hlt hb2 hb3 hz1 hz2 ho hf2
                have holdl : oldu.length = sLen * i.size := by
                  have e1 := hor.length
                  unfold cfirst at hold
                  cases hs with
                  | sl _ _ _ _ =>
                    simp only at hold
                    split at hold
                    · split at hold
                      · rename_i hq; injection hold with hold; simp only [Bool.and_eq_true] at hq; have := Nat.le_of_ble_eq_true hq.2; rw [← e1, ← hold]; simp [seg]; omega
                      · cases hold
                    · cases hold
                  | slo _ _ _ _ =>
                    simp only at hold
                    split at hold
                    · split at hold
                      · rename_i hq; injection hold with hold; simp only [Bool.and_eq_true] at hq; have := Nat.le_of_ble_eq_true hq.2; rw [← e1, ← hold]; simp [seg]; omega
                      · cases hold
                    · cases hold
                  | nils =>
                    simp only [Option.some.injEq] at hold
                    rw [← e1, ← hold]; simp
                  | _ => cases hold
                have hnewl : newu2.length = n * i.size := by
                  have e1 := hnr2.length
                  unfold cfirst at hnew
                  cases hx with
                  | sl _ _ _ _ =>
                    simp only at hnew
                    split at hnew
                    · split at hnew
                      · rename_i hq; injection hnew with hnew; simp only [Bool.and_eq_true] at hq; have := Nat.le_of_ble_eq_true hq.2; rw [← e1, ← hnew]; simp [seg]; omega
                      · cases hnew
                    · cases hnew
                  | slo _ _ _ _ =>
                    simp only at hnew
                    split at hnew
                    · split at hnew
                      · rename_i hq; injection hnew with hnew; simp only [Bool.and_eq_true] at hq; have := Nat.le_of_ble_eq_true hq.2; rw [← e1, ← hnew]; simp [seg]; omega
                      · cases hnew
                    · cases hnew
                  | nils =>
                    simp only [Option.some.injEq] at hnew
                    have h0 : n = 0 := by simpa [clenOf] using hnl.symm
                    rw [← e1, ← hnew, h0]; simp
                  | _ => cases hnew
                have hlen : ((oldu ++ newu2) ++ fill).length = C * i.size := by
                  simp only [List.length_append, holdl, hnewl, hfl]
                  rw [← Nat.add_mul, ← Nat.add_mul]
                  congr 1
                  omega
                obtain ⟨p, q⟩ := hH.drew.grow hT hb1 e (hor.append hnr2) hlen
                have pp := Post.trans hH hH.drew (Nat.le_of_lt hT) (Post.drew (c := c) (ι := ι) (H := H) (w := w)) p
                refine ⟨_, _, _, hrun, pp, q, ?_⟩
                have hvr := VRel.slo (ι := ι.add H.next w.heap.size C) 0 0 (sLen + n) (Emb.add_self (ι := ι) (b := H.next) (r := w.heap.size) (C := C))
                simpa using hvr
              split at h
              · -- nil
                cases hs
                simp only [clenOf, Option.some.injEq] at hsl; subst hsl
                split at h
                · rename_i hn0
                  have hn0 := Nat.eq_of_beq_eq_true hn0
                  subst hn0
                  injection h with h; injection h with h1 h2; subst h1; subst h2
                  have := run_append_in (ty := ty) (ts := ts') (rest := us1) (base := none) (sLen := 0) (sCap := 0) hd hd1 hi hn (Nat.le_refl 0) hf (w' := w) rfl
                  exact ⟨ι, w, _, this, Post.refl _ _ _ _, hH, .nils⟩
                · rename_i hn0
                  have hn0 : n ≠ 0 := fun e => by rw [e] at hn0; cases hn0
                  injection h with h; injection h with h1 h2; subst h1; subst h2
                  have := out (Nat.lt_of_succ_le hT) none 0 [] rfl (by omega) (by simp [cfirst])
                  simpa using this
              · rename_i b off len cap
                split at h
                · rename_i hle
                  have hle := Nat.le_of_ble_eq_true hle
                  split at h
                  · rename_i H1 hp
                    injection h with h; injection h with h1 h2; subst h1; subst h2
                    cases hs with
                    | sl _ _ _ hι =>
                      simp only [clenOf, Option.some.injEq] at hsl; subst hsl
                      obtain ⟨r, C, w', p1, p2, p3, p4⟩ := cput_sound (P := P) hH hp hnr
                      rw [hι] at p1; injection p1 with p1; injection p1 with p1 _; subst p1
                      have := run_append_in (ty := ty) (ts := ts') (rest := us1) (base := some ⟨_, off, none⟩) hd hd1 hi hn hle hf (w' := w') (by simp only [addr_add]; exact p2)
                      exact ⟨ι, w', _, this, p3, p4, .sl _ _ _ hι⟩
                  · cases h
                · rename_i hle
                  have hle : ¬ (sLen + n ≤ cap) := fun e => by rw [Nat.ble_eq_true_of_le e] at hle; cases hle
                  split at h
                  · rename_i old hold
                    injection h with h; injection h with h1 h2; subst h1; subst h2
                    cases hs with
                    | sl _ _ _ hι =>
                      simp only [clenOf, Option.some.injEq] at hsl; subst hsl
                      exact out (Nat.lt_of_succ_le hT) _ cap old rfl (by omega) hold
                  · cases h
              · rename_i b off skip len
                cases hs with
                | slo _ _ _ hι =>
                  rename_i r C
                  simp only [clenOf, Option.some.injEq] at hsl; subst hsl
                  split at h
                  · rename_i hn0
                    have hn0 := Nat.eq_of_beq_eq_true hn0
                    subst hn0
                    split at h
                    · rename_i hroom
                      injection h with h; injection h with h1 h2; subst h1; subst h2
                      have hC := room_sound hH hroom hι
                      have hnil : newu = [] := by
                        have e1 := hnr.length
                        have e2 : new = [] := by
                          unfold cfirst at hnew
                          split at hnew
                          · simpa using hnew.symm
                          · split at hnew
                            · split at hnew
                              · injection hnew with hnew; rw [← hnew]; simp [seg]
                              · cases hnew
                            · cases hnew
                          · split at hnew
                            · split at hnew
                              · injection hnew with hnew; rw [← hnew]; simp [seg]
                              · cases hnew
                            · cases hnew
                          · cases hnew
                        rw [e2] at e1; exact List.eq_nil_of_length_eq_zero e1.symm
                      subst hnil
                      have := run_append_in (ty := ty) (ts := ts') (rest := us1) (base := some ⟨r, off, none⟩) (sLen := len) (sCap := C - skip) hd hd1 hi hn (by omega) hf (w' := w) rfl
                      exact ⟨ι, w, _, this, Post.refl _ _ _ _, hH, .slo _ _ _ hι⟩
                    · cases h
                  · rename_i hn0
                    have hn0 : n ≠ 0 := fun e => by rw [e] at hn0; cases hn0
                    split at h
                    · rename_i bty e' cs hg
                      split at h
                      · rename_i hq
                        injection h with h; injection h with h1 h2; subst h1; subst h2
                        simp only [Bool.and_eq_true] at hq
                        obtain ⟨⟨⟨⟨⟨⟨⟨q1, q2⟩, q3⟩, q4⟩, q5⟩, q6⟩, q7⟩, q8⟩ := hq
                        have q1 := Nat.eq_of_beq_eq_true q1
                        have q2 := Nat.eq_of_beq_eq_true q2
                        have q3 := Nat.eq_of_beq_eq_true q3
                        have q6 := Nat.le_of_ble_eq_true q6
                        have q8 := Nat.eq_of_beq_eq_true q8
                        subst q1; subst q2; subst q3; subst q8
                        by_cases hin : len + n ≤ C
                        · -- in place
                          obtain ⟨r', C', ob, k1, k2, l, fz, rfl, k3, k4, k5⟩ := hH.blk b _ hg (may_vis q4)
                          rw [hι] at k1; injection k1 with k1; injection k1 with k1 k6; subst k1; subst k6
                          have k7 : fz = (0, 0) ∧ l.length = C * i.size := k5
                          clear k5
                          obtain ⟨hfz, k5⟩ := k7
                          subst hfz
                          have hnewl : newu.length = n * i.size := by
                            have e1 := hnr.length
                            unfold cfirst at hnew
                            cases hx with
                            | sl _ _ _ _ =>
                              simp only at hnew
                              split at hnew
                              · split at hnew
                                · rename_i hq; injection hnew with hnew; simp only [Bool.and_eq_true] at hq; have := Nat.le_of_ble_eq_true hq.2; rw [← e1, ← hnew]; simp [seg]; omega
                                · cases hnew
                              · cases hnew
                            | slo _ _ _ _ =>
                              simp only at hnew
                              split at hnew
                              · split at hnew
                                · rename_i hq; injection hnew with hnew; simp only [Bool.and_eq_true] at hq; have := Nat.le_of_ble_eq_true hq.2; rw [← e1, ← hnew]; simp [seg]; omega
                                · cases hnew
                              · cases hnew
                            | nils => simp only [clenOf, Option.some.injEq] at hnl; omega
                            | _ => cases hnew
                          have hfit : len * i.size + newu.length ≤ l.length := by
                            rw [hnewl, ← Nat.add_mul, k5]; exact Nat.mul_le_mul_right _ hin
                          have hst := run_storeCells_at P r (len * i.size) bty newu 0 l.toArray w k2 (by simpa using hfit) (allOne_rel hnr q7)
                          simp only [Nat.add_zero] at hst
                          have := run_append_in (ty := ty) (ts := ts') (rest := us1) (base := some ⟨r, 0, none⟩) (sLen := len) (sCap := C - 0) hd hd1 hi hn (by omega) hf (w' := _) (by simp only [addr_add, Nat.zero_add]; exact hst)
                          have hlt : ((l.take (len * i.size)).length) = len * i.size := by simp; omega
                          obtain ⟨p, q⟩ := hH.regrow (Nat.lt_of_succ_le hT) q4 q5 hb1 hg hι (o' := .cells bty (.opn i.size) (cs.take (len * i.size) ++ new)) (ob' := .cells (l.take (len * i.size) ++ newu ++ l.drop (len * i.size + newu.length)).toArray bty (0, 0))
                            (by
                              refine ⟨_, _, rfl, ?_, ?_, rfl, ?_⟩
                              · have hr := (k3.take (len * i.size)).append hnr
                                have e2 : (l.take cs.length).take (len * i.size) = l.take (len * i.size) := by rw [List.take_take]; congr 1; omega
                                rw [e2] at hr
                                rw [hr.length, List.take_left]
                                exact hr
                              · have hr := hnr.length
                                simp; omega
                              · simp; omega)
                            (by simp) (setRow_heap w r _ _ _ _ k2) (fun k hk => setRow_other w r k _ hk) rfl rfl rfl
                          refine ⟨_, _, _, this, p, q, ?_⟩
                          have hvr := VRel.slo (ι := ι.add H.next r C) 0 0 (len + n) (Emb.add_self (ι := ι) (b := H.next) (r := r) (C := C))
                          simpa using hvr
                        · -- a new block
                          have hold : cfirst c H i.size len (.slo b 0 0 len) = some (cs.take (len * i.size)) := by
                            simp only [cfirst, hg, may_vis q4, Bool.true_and, Nat.zero_add]
                            rw [Nat.ble_eq_true_of_le q6]
                            simp [seg]
                          obtain ⟨kp, kq⟩ := hH.kill q5 q4
                          obtain ⟨ι', w', u, h1, h2, h3, h4⟩ := out (Nat.lt_of_succ_le hT) (some ⟨r, 0, none⟩) (C - 0) _ rfl (by omega) hold
                          -- the same over the heap without the old block
                          have hk := HRel.kill h3 (b := b) q5 q4
                          have hne : b ≠ H.next := by have := hH.nxt _ _ hg; omega
                          have hgets : ∀ y, ((H.add (.cells bty (.opn i.size) (cs.take (len * i.size) ++ new))).kill b).tr.get y = ((H.kill b).add (.cells bty (.opn i.size) (cs.take (len * i.size) ++ new))).tr.get y := by
                            intro y
                            show (Tr.set deep (Tr.set deep H.tr H.next _) b none).get y = (Tr.set deep (Tr.set deep H.tr b none) H.next _).get y
                            rw [Tr.get_set _ _ _ _ _ (small_deep q5), Tr.get_set _ _ _ _ _ (small_deep hb1), Tr.get_set _ _ _ _ _ (small_deep hb1), Tr.get_set _ _ _ _ _ (small_deep q5)]
                            by_cases e1 : y = b
                            · rw [if_pos e1, if_neg (by omega), if_pos e1]
                            · rw [if_neg e1]
                              by_cases e2 : y = H.next
                              · rw [if_pos e2, if_pos e2]
                              · rw [if_neg e2, if_neg e2, if_neg e1]
                          have pp := Post.trans hH h3 hT h2 hk.1
                          refine ⟨ι', w', u, h1, ⟨pp.ext, pp.next, pp.old, pp.fresh, pp.size, pp.os, pp.tape, pp.output, pp.frame, fun y hy hm => by rw [← hgets]; exact pp.keep y hy hm, fun y o hy hg' => pp.live y o hy (by rw [hgets]; exact hg')⟩, ⟨fun y o hg' hv => hk.2.blk y o (by rw [hgets]; exact hg') hv, fun y y' o o' r C C' h1 h2 => hk.2.inj y y' o o' r C C' (by rw [hgets]; exact h1) (by rw [hgets]; exact h2), hk.2.dom, fun y o hg' => hk.2.nxt y o (by rw [hgets]; exact hg')⟩, h4⟩
                      · cases h
                    · cases h
              · cases h
          · cases h
        · cases h
      · cases h
    · cases h
  · cases h

end
end Go.Proofs.YtokafjkinkafiaaGreat.Mini
