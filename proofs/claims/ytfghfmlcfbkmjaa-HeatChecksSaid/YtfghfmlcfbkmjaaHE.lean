/- The plain mathematics of package heat: bins, what is wrong with a barn, days that are left. No Go in sight. -/
import Derived.Test.YtfghfmlcfbkmjaaRO
set_option linter.unusedSimpArgs false
set_option linter.unusedVariables false
namespace Go.Proofs.Ytfghfmlcfbkmjaa
open Go.RowKit

structure Bn where
  warm : Int
  mark : Int
  lo : Int
  hi : Int
def Bn.cells (b : Bn) : List Value := [.int .i64 b.warm, .int .i64 b.mark, .int .i64 b.lo, .int .i64 b.hi]
theorem Bn.len (b : Bn) : b.cells.length = 4 := rfl
theorem Bn.one (b : Bn) : ∀ u ∈ b.cells, u.oneCell' = true := by
  intro u hu
  simp only [Bn.cells, List.mem_cons, List.not_mem_nil, or_false] at hu
  rcases hu with rfl | rfl | rfl | rfl <;> rfl
theorem bins_one (bs : List Bn) : ∀ v ∈ bs.flatMap Bn.cells, v.oneCell' = true := by
  intro v hv
  obtain ⟨x, _, hx⟩ := List.mem_flatMap.1 hv
  exact x.one v hx
def BinsAt (w : World) (A : Option Addr) (bs : List Bn) : Prop := RowAt Bn.cells 4 w A bs

/-- What a barn has besides its bins. -/
structure Br where
  cool : Int
  gangs : Int
  r0 : Int
  r1 : Int
  r2 : Int
  r3 : Int
  r4 : Int
  r5 : Int
def Br.rises (b : Br) : List Int := [b.r0, b.r1, b.r2, b.r3, b.r4, b.r5]
def Br.val (b : Br) (v : Value) : Array Value := #[.int .i64 b.cool, .int .i64 b.gangs, .int .i64 b.r0, .int .i64 b.r1, .int .i64 b.r2, .int .i64 b.r3, .int .i64 b.r4, .int .i64 b.r5, v]
def Br.rise (b : Br) (k : Int) : Int := b.rises.getD k.toNat 0
def riseOk (n : Int) : Bool := n == 0 || within n 6 20
def Bn.inRange (b : Bn) : Bool := within b.mark 0 60 && within b.warm 0 b.mark && (within b.lo 0 5 && within b.hi 0 5)
def Bn.inOrder (b : Bn) : Bool := decide (b.lo ≤ b.hi)
def risesFrom : List Int → Bool
  | a :: b :: l => decide (a ≤ b) && risesFrom (b :: l)
  | _ => true
def barnErr (b : Br) (bs : List Bn) : Int :=
  if within bs.length 1 4 = false then 2
  else if (within b.cool 0 60 && within b.gangs 0 3 && b.rises.all riseOk && bs.all Bn.inRange) = false then 3
  else if (risesFrom b.rises && bs.all Bn.inOrder) = false then 4
  else 0
def binErr (b : Br) (bs : List Bn) (bin : Int) : Int :=
  if barnErr b bs ≠ 0 then barnErr b bs else if within bin 0 (bs.length - 1) = false then 1 else 0
theorem barnErr_many {b : Br} {bs : List Bn} (h : within bs.length 1 4 = false) : barnErr b bs = 2 := by unfold barnErr; rw [if_pos h]
theorem barnErr_range {b : Br} {bs : List Bn} (h : within bs.length 1 4 = true) (h2 : (within b.cool 0 60 && within b.gangs 0 3 && b.rises.all riseOk && bs.all Bn.inRange) = false) : barnErr b bs = 3 := by
  unfold barnErr; rw [if_neg (by rw [h]; decide), if_pos h2]
theorem barnErr_order {b : Br} {bs : List Bn} (h : within bs.length 1 4 = true) (h2 : (within b.cool 0 60 && within b.gangs 0 3 && b.rises.all riseOk && bs.all Bn.inRange) = true) (h3 : (risesFrom b.rises && bs.all Bn.inOrder) = false) : barnErr b bs = 4 := by
  unfold barnErr; rw [if_neg (by rw [h]; decide), if_neg (by rw [h2]; decide), if_pos h3]
theorem barnErr_ok {b : Br} {bs : List Bn} (h : within bs.length 1 4 = true) (h2 : (within b.cool 0 60 && within b.gangs 0 3 && b.rises.all riseOk && bs.all Bn.inRange) = true) (h3 : (risesFrom b.rises && bs.all Bn.inOrder) = true) : barnErr b bs = 0 := by
  unfold barnErr; rw [if_neg (by rw [h]; decide), if_neg (by rw [h2]; decide), if_neg (by rw [h3]; decide)]
theorem barn_right {b : Br} {bs : List Bn} (h : barnErr b bs = 0) : within bs.length 1 4 = true ∧ within b.cool 0 60 = true ∧ within b.gangs 0 3 = true ∧ b.rises.all riseOk = true ∧ bs.all Bn.inRange = true ∧ risesFrom b.rises = true ∧ bs.all Bn.inOrder = true := by
  unfold barnErr at h
  split at h
  · cases h
  · split at h
    · cases h
    · split at h
      · cases h
      · rename_i h1 h2 h3
        simp only [Bool.not_eq_false, Bool.and_eq_true] at h1 h2 h3
        exact ⟨h1, h2.1.1.1, h2.1.1.2, h2.1.2, h2.2, h3.1, h3.2⟩
theorem binErr_barn {b : Br} {bs : List Bn} {bin : Int} (h : barnErr b bs ≠ 0) : binErr b bs bin = barnErr b bs := by unfold binErr; rw [if_pos h]
theorem binErr_not {b : Br} {bs : List Bn} {bin : Int} (h : barnErr b bs = 0) (h2 : within bin 0 (bs.length - 1) = false) : binErr b bs bin = 1 := by unfold binErr; rw [if_neg (by simp [h]), if_pos h2]
theorem binErr_ok {b : Br} {bs : List Bn} {bin : Int} (h : barnErr b bs = 0) (h2 : within bin 0 (bs.length - 1) = true) : binErr b bs bin = 0 := by unfold binErr; rw [if_neg (by simp [h]), if_neg (by rw [h2]; decide)]
theorem all_not {α : Type} {p : α → Bool} {xs : List α} {i : Nat} {x : α} (h : xs[i]? = some x) (hp : p x = false) : xs.all p = false := by
  cases hq : xs.all p with
  | false => rfl
  | true => rw [List.all_eq_true.1 hq x (List.mem_of_getElem? h)] at hp; cases hp
theorem take_next {α : Type} {p : α → Bool} {xs : List α} {i : Nat} {x : α} (h : xs[i]? = some x) (hall : ∀ y ∈ xs.take i, p y = true) (hp : p x = true) : ∀ y ∈ xs.take (i + 1), p y = true := by
  rw [List.take_add_one, h]
  intro y hy
  rcases List.mem_append.1 hy with hy | hy
  · exact hall y hy
  · simp at hy; subst hy; exact hp
/-- For how many days a bin that is so warm cannot burn. -/
def daysOf (rise warm mark : Int) : Int := if rise = 0 then 1000000 else max 0 (mark - warm) / rise
theorem rise_in {b : Br} (h : b.rises.all riseOk = true) (k : Int) : riseOk (b.rise k) = true := by
  unfold Br.rise
  by_cases hk : k.toNat < b.rises.length
  · rw [List.getD_eq_getElem?_getD, List.getElem?_eq_getElem hk]
    exact List.all_eq_true.1 h _ (List.getElem_mem hk)
  · rw [List.getD_eq_getElem?_getD, List.getElem?_eq_none (by omega)]; rfl
theorem riseOk_cases {n : Int} (h : riseOk n = true) : n = 0 ∨ (6 ≤ n ∧ n ≤ 20) := by
  simp only [riseOk, within, Bool.or_eq_true, beq_iff_eq, Bool.and_eq_true, decide_eq_true_eq] at h
  exact h
end Go.Proofs.Ytfghfmlcfbkmjaa
