import Derived.Shelf.Spec.SlicesInsertGrow
import Derived.Shelf.Slices.Delete
import Derived.Lib.OwnBridge
import Derived.Test.YtifffonoipapgaaVAA
import Derived.Test.YtifffonoipapgaaVAC
import Derived.Test.YtifffonoipapgaaVAQ
import Derived.Test.YtifffonoipapgaaVAT
import Derived.Test.YtifffonoipapgaaVAU
import Derived.Test.YtifffonoipapgaaVBH
import Derived.Test.YtifffonoipapgaaVBI
import Derived.Test.YtifffonoipapgaaVBJ
import Derived.Test.YtifffonoipapgaaVBK
set_option linter.unusedSimpArgs false
set_option linter.unusedVariables false
namespace Go.Proofs.Ytifffonoipapgaa
open Go.RowKit
theorem agree_iff {miss : Int} {p : Nat → Bool} {hs : List Hf} (hn : ∀ h ∈ hs, 0 < h.sum) : (boundsOf miss p hs).empty = false ↔
  ∃ m0 m1 m2 m3 : Int, m0 + m1 + m2 + m3 = 40 ∧ Bx.any.has m0 m1 m2 m3 ∧ ∀ k h, hs[k]? = some h → p k = true → h.fitsM miss m0 m1 m2 m3 := by
 constructor
 ·intro he
  have t := bounds_tight he
  obtain ⟨x, y, z, hs40, hh⟩ := t.at0 (Int.le_refl _) t.k0
  have := (bounds_has hn hs40).1 hh
  exact ⟨_, _, _, _, hs40, this.1, this.2⟩
 ·rintro ⟨m0, m1, m2, m3, h40, ha, hf⟩
  exact bounds_nonempty h40 ((bounds_has hn h40).2 ⟨ha, hf⟩)
theorem empty_mono {miss : Int} {p p' : Nat → Bool} {hs hs' : List Hf} (hn : ∀ h ∈ hs, 0 < h.sum) (hn' : ∀ h ∈ hs', 0 < h.sum)
  (hp : ∀ k h, hs[k]? = some h → p k = true → ∃ j, hs'[j]? = some h ∧ p' j = true) (he : (boundsOf miss p hs).empty = true) : (boundsOf miss p' hs').empty = true := by
 cases hq : (boundsOf miss p' hs').empty with
 | true => rfl
 | false =>
  obtain ⟨m0, m1, m2, m3, h40, ha, hf⟩ := (agree_iff hn').1 hq
  have := (agree_iff (miss := miss) (p := p) hn).2 ⟨m0, m1, m2, m3, h40, ha, fun k h hk hpk => by
   obtain ⟨j, hj, hpj⟩ := hp k h hk hpk
   exact hf j h hj hpj⟩
  rw [this] at he
  cases he
theorem empty_same {miss : Int} {p p' : Nat → Bool} {hs hs' : List Hf} (hn : ∀ h ∈ hs, 0 < h.sum) (hn' : ∀ h ∈ hs', 0 < h.sum)
  (h1 : ∀ k h, hs[k]? = some h → p k = true → ∃ j, hs'[j]? = some h ∧ p' j = true) (h2 : ∀ k h, hs'[k]? = some h → p' k = true → ∃ j, hs[j]? = some h ∧ p j = true) :
  (boundsOf miss p hs).empty = (boundsOf miss p' hs').empty := by
 cases he : (boundsOf miss p hs).empty with
 | true => rw [empty_mono hn hn' h1 he]
 | false =>
  cases he' : (boundsOf miss p' hs').empty with
  | false => rfl
  | true => rw [empty_mono hn' hn h2 he'] at he; cases he
theorem none_agree {miss : Int} {p : Nat → Bool} {hs : List Hf} (hn : ∀ h ∈ hs, 0 < h.sum) (hp : ∀ k, k < hs.length → p k = false) : (boundsOf miss p hs).empty = false := by
 refine (agree_iff hn).2 ⟨40, 0, 0, 0, by decide, ?_, fun k h hk hpk => ?_⟩
 ·simp [Bx.has, Bx.any]
 ·have := (List.getElem?_eq_some_iff.1 hk).1
  rw [hp k this] at hpk
  cases hpk
theorem mem_choose (n : Int) (size : Nat) : ∀ (k : Nat) (l t : List Int), (l ++ t).length = size → t.Pairwise (· < ·) → (∀ y ∈ t, n - (k : Int) ≤ y ∧ y < n) → l ++ t ∈ chooseK n size k l := by
 intro k
 induction k with
 | zero =>
  intro l t hl _ hy
  cases t with
  | nil => rw [List.append_nil] at hl ⊢; simp [chooseK, hl]
  | cons y t => have := hy y (by simp); omega
 | succ k ih =>
  intro l t hl hp hy
  unfold chooseK
  cases t with
  | nil => rw [List.append_nil] at hl ⊢; simp [hl]
  | cons y t =>
   have hne : l.length ≠ size := by rw [List.length_append, List.length_cons] at hl; omega
   rw [if_neg hne]
   obtain ⟨p1, p2⟩ := List.pairwise_cons.1 hp
   refine List.mem_append.2 ?_
   by_cases he : y = n - ((k + 1 : Nat) : Int)
   ·subst he
    left
    have := ih (l ++ [n - ((k + 1 : Nat) : Int)]) t (by rw [List.append_assoc]; exact hl) p2 (fun z hz => by
     have a := p1 z hz
     have b := hy z (by simp [hz])
     omega)
    rw [List.append_assoc] at this
    exact this
   ·right
    refine ih l (y :: t) hl hp (fun z hz => ?_)
    have b := hy z hz
    have c := hy y (by simp)
    rcases List.mem_cons.1 hz with e | hz
    ·subst e; omega
    ·have := p1 z hz; omega
theorem choose_mem (n : Int) (size : Nat) : ∀ (k : Nat) (l x : List Int), x ∈ chooseK n size k l → ∃ t, x = l ++ t ∧ t.Pairwise (· < ·) ∧ (∀ y ∈ t, n - (k : Int) ≤ y ∧ y < n) := by
 intro k
 induction k with
 | zero =>
  intro l x hx
  unfold chooseK at hx
  split at hx
  ·rw [List.mem_singleton] at hx; subst hx; exact ⟨[], by simp, .nil, fun y h => by cases h⟩
  ·cases hx
 | succ k ih =>
  intro l x hx
  unfold chooseK at hx
  split at hx
  ·rw [List.mem_singleton] at hx; subst hx; exact ⟨[], by simp, .nil, fun y h => by cases h⟩
  ·rcases List.mem_append.1 hx with hx | hx
   ·obtain ⟨t, e, hp, hy⟩ := ih _ _ hx
    refine ⟨(n - ((k + 1 : Nat) : Int)) :: t, by rw [e, List.append_assoc]; rfl, ?_, ?_⟩
    ·refine List.pairwise_cons.2 ⟨fun z hz => ?_, hp⟩
     have := hy z hz; omega
    ·intro z hz
     rcases List.mem_cons.1 hz with rfl | hz
     ·omega
     ·have := hy z hz; omega
   ·obtain ⟨t, e, hp, hy⟩ := ih _ _ hx
    refine ⟨t, e, hp, fun z hz => ?_⟩
    have := hy z hz; omega
def Rising (n : Nat) (x : List Int) : Prop := x.Pairwise (· < ·) ∧ ∀ y ∈ x, 0 ≤ y ∧ y < (n : Int)
theorem rising_len : ∀ (x : List Int) (a b : Int), x.Pairwise (· < ·) → (∀ y ∈ x, a ≤ y ∧ y < b) → a ≤ b → (x.length : Int) ≤ b - a := by
 intro x
 induction x with
 | nil => intro a b _ _ h; simp; omega
 | cons y x ih =>
  intro a b hp hy h
  obtain ⟨p1, p2⟩ := List.pairwise_cons.1 hp
  have c := hy y (by simp)
  have := ih (y + 1) b p2 (fun z hz => by have := p1 z hz; have := hy z (by simp [hz]); omega) (by omega)
  rw [List.length_cons]
  omega
theorem Rising.len {n : Nat} {x : List Int} (h : Rising n x) : x.length ≤ n := by
 have := rising_len x 0 n h.1 h.2 (by omega)
 omega
theorem later_len (n : Nat) : ∀ (k : Nat), k ≤ n → ∀ x ∈ laterLists n k, n - k < x.length + 1 := by
 intro k
 induction k with
 | zero => intro _ x hx; cases hx
 | succ k ih =>
  intro hk x hx
  rw [laterLists] at hx
  rcases List.mem_append.1 hx with hx | hx
  ·have := len_choose _ _ _ _ (by simp) x hx; omega
  ·have := ih (by omega) x hx; omega
theorem mem_later (n : Nat) : ∀ (k : Nat), k ≤ n → ∀ x, Rising n x → n - k < x.length → x ∈ laterLists n k := by
 intro k
 induction k with
 | zero => intro _ x hx hl; have := hx.len; omega
 | succ k ih =>
  intro hk x hx hl
  rw [laterLists]
  refine List.mem_append.2 ?_
  by_cases he : x.length = n - k
  ·left; exact mem_choose (n : Int) (n - k) n [] x (by simpa using he) hx.1 (fun y hy => by have := hx.2 y hy; omega)
  ·right; exact ih (by omega) x hx (by omega)
theorem later_rising (n : Nat) : ∀ (k : Nat), ∀ x ∈ laterLists n k, Rising n x := by
 intro k
 induction k with
 | zero => intro x hx; cases hx
 | succ k ih =>
  intro x hx
  rw [laterLists] at hx
  rcases List.mem_append.1 hx with hx | hx
  ·obtain ⟨t, e, hp, hy⟩ := choose_mem _ _ _ _ _ hx
   rw [List.nil_append] at e
   subst e
   exact ⟨hp, fun y hy' => by have := hy y hy'; omega⟩
  ·exact ih x hx
theorem later_first (n : Nat) (p : List Int → Bool) : ∀ (k : Nat), k ≤ n → ∀ l, (laterLists n k).find? p = some l → ∀ x ∈ laterLists n k, p x = true → l.length ≤ x.length := by
 intro k
 induction k with
 | zero => intro _ l h; simp [laterLists] at h
 | succ k ih =>
  intro hk l h x hx hpx
  rw [laterLists, List.find?_append] at h
  rw [laterLists] at hx
  cases hq : (chooseK n (n - k) n []).find? p with
  | some l' =>
   rw [hq] at h
   simp at h
   subst h
   have a := len_choose _ _ _ _ (by simp) l' (List.mem_of_find?_eq_some hq)
   rcases List.mem_append.1 hx with hx | hx
   ·have := len_choose _ _ _ _ (by simp) x hx; omega
   ·have := later_len n k (by omega) x hx; omega
  | none =>
   rw [hq] at h
   simp at h
   rcases List.mem_append.1 hx with hx | hx
   ·have := List.find?_eq_none.1 hq x hx; exact absurd hpx this
   ·exact ih (by omega) l h x hx hpx
theorem clash_some {miss : Int} {hs : List Hf} {x : List Int} (hx : Rising hs.length x) (h1 : 1 ≤ x.length) (hc : clashes miss hs x = true) :
  Rising hs.length (clashOf miss hs) ∧ clashes miss hs (clashOf miss hs) = true ∧ 1 ≤ (clashOf miss hs).length ∧ (clashOf miss hs).length ≤ x.length := by
 have hm := mem_later hs.length hs.length (Nat.le_refl _) x hx (by omega)
 unfold clashOf firstClash
 cases hq : (laterLists hs.length hs.length).find? (clashes miss hs) with
 | none => have := List.find?_eq_none.1 hq x hm; exact absurd hc this
 | some l =>
  have hl := List.mem_of_find?_eq_some hq
  refine ⟨later_rising _ _ l hl, List.find?_some hq, ?_, later_first _ _ _ (Nat.le_refl _) l hq x hm hc⟩
  rw [Option.getD_some]
  have := later_len hs.length hs.length (Nat.le_refl _) l hl
  cases l with
  | cons => simp
  | nil =>
   exfalso
   have : ∀ (k : Nat), k ≤ hs.length → ([] : List Int) ∉ laterLists hs.length k := by
    intro k
    induction k with
    | zero => intro _ h; cases h
    | succ k ih =>
     intro hk h
     rw [laterLists] at h
     rcases List.mem_append.1 h with h | h
     ·have := len_choose _ _ _ _ (by simp) [] h; simp at this; omega
     ·exact ih (by omega) h
   exact this _ (Nat.le_refl _) hl
theorem clash_none {miss : Int} {hs : List Hf} (h : ∀ x, Rising hs.length x → clashes miss hs x = false) : clashOf miss hs = [] := by
 unfold clashOf firstClash
 cases hq : (laterLists hs.length hs.length).find? (clashes miss hs) with
 | none => rfl
 | some l =>
  have := List.find?_some hq
  rw [h l (later_rising _ _ l (List.mem_of_find?_eq_some hq))] at this
  cases this
def idxs (p : Nat → Bool) (n : Nat) : List Int := ((List.range n).filter p).map Int.ofNat
theorem idxs_rising (p : Nat → Bool) (n : Nat) : Rising n (idxs p n) := by
 refine ⟨?_, fun y hy => ?_⟩
 ·refine List.Pairwise.map _ (fun a b h => ?_) ((List.pairwise_lt_range (n := n)).filter p)
  exact Int.ofNat_lt.2 h
 ·obtain ⟨i, hi, rfl⟩ := List.mem_map.1 hy
  have := List.mem_range.1 (List.mem_filter.1 hi).1
  exact ⟨Int.natCast_nonneg _, Int.ofNat_lt.2 this⟩
theorem idxs_mem {p : Nat → Bool} {n i : Nat} (hi : i < n) : (idxs p n).contains (i : Int) = p i := by
 cases hp : p i with
 | true => exact List.contains_iff_mem.2 (List.mem_map.2 ⟨i, List.mem_filter.2 ⟨List.mem_range.2 hi, hp⟩, rfl⟩)
 | false =>
  cases hc : (idxs p n).contains (i : Int) with
  | false => rfl
  | true =>
   obtain ⟨j, hj, e⟩ := List.mem_map.1 (List.contains_iff_mem.1 hc)
   have : j = i := by have e : (j : Int) = i := e; omega
   subst this
   rw [(List.mem_filter.1 hj).2] at hp
   cases hp
theorem idxs_clash {miss : Int} {hs : List Hf} (hn : ∀ h ∈ hs, 0 < h.sum) (p : Nat → Bool) : clashes miss hs (idxs p hs.length) = (boundsOf miss p hs).empty := by
 unfold clashes listBx
 exact empty_same hn hn (fun k h hk hp => ⟨k, hk, by have := idxs_mem (p := p) (List.getElem?_eq_some_iff.1 hk).1; simp only [this] at hp; exact hp⟩)
  (fun k h hk hp => ⟨k, hk, by have := idxs_mem (p := p) (List.getElem?_eq_some_iff.1 hk).1; simp only [this]; exact hp⟩)
theorem Rising.within {n : Nat} {x : List Int} (h : Rising n x) : ∀ y ∈ x, within y 0 ((n : Int) - 1) = true := fun y hy => by
 have := h.2 y hy
 simp only [Go.Proofs.Ytifffonoipapgaa.within, Bool.and_eq_true, decide_eq_true_eq]
 omega
theorem Rising.nodup {n : Nat} {x : List Int} (h : Rising n x) : x.Nodup := h.1.imp (fun hab e => by omega)
open Go.RowKit Go.Shelf
structure Shuffled (n : Nat) (xs : List Int) : Prop where
 len : xs.length = n
 nodup : xs.Nodup
 ran : ∀ x ∈ xs, 0 ≤ x ∧ x < (n : Int)
theorem Shuffled.next {k r : Nat} {xs : List Int} (h : Shuffled k xs) (hr : r ≤ k) : Shuffled (k + 1) (xs.take r ++ (k : Int) :: xs.drop r) := by
 obtain ⟨h1, h2, h3⟩ := h
 have hm : ∀ x, x ∈ xs.take r ++ (k : Int) :: xs.drop r ↔ x = (k : Int) ∨ x ∈ xs := by
  intro x
  have : x ∈ xs ↔ x ∈ xs.take r ∨ x ∈ xs.drop r := by rw [← List.mem_append, List.take_append_drop]
  rw [this, List.mem_append, List.mem_cons]
  constructor
  ·rintro (h | h | h)
   ·exact .inr (.inl h)
   ·exact .inl h
   ·exact .inr (.inr h)
  ·rintro (h | h | h)
   ·exact .inr (.inl h)
   ·exact .inl h
   ·exact .inr (.inr h)
 refine ⟨by rw [List.length_append, List.length_cons, List.length_take, List.length_drop]; omega, ?_, fun x hx => ?_⟩
 ·have hp : (xs.take r ++ (k : Int) :: xs.drop r).Perm ((k : Int) :: xs) := by
   have := List.perm_middle (a := (k : Int)) (l₁ := xs.take r) (l₂ := xs.drop r)
   rw [List.take_append_drop] at this
   exact this
  exact hp.nodup_iff.2 (List.nodup_cons.2 ⟨fun h => by have := h3 _ h; omega, h2⟩)
 ·rcases (hm x).1 hx with rfl | h
  ·omega
  ·have := h3 x h; omega
theorem Shuffled.all {n : Nat} : ∀ {xs : List Int}, Shuffled n xs → ∀ i : Nat, i < n → (i : Int) ∈ xs := by
 intro xs h i hi
 refine Classical.byContradiction fun hno => ?_
 have key : ∀ (m : Nat) (ys : List Int), ys.Nodup → (∀ y ∈ ys, 0 ≤ y ∧ y < (m : Int)) → ys.length ≤ m := by
  intro m
  induction m with
  | zero =>
   intro ys _ hy
   cases ys with
   | nil => exact Nat.le_refl _
   | cons y ys => have := hy y (by simp); omega
  | succ m ih =>
   intro ys hn hy
   have hf := ih (ys.filter (fun y => y != (m : Int))) (hn.filter _) (fun y hyy => by
    have a := hy y (List.mem_filter.1 hyy).1
    have b := (List.mem_filter.1 hyy).2
    have b : y ≠ (m : Int) := by simpa using b
    omega)
   have hc : ys.length ≤ (ys.filter (fun y => y != (m : Int))).length + 1 := by
    clear ih hf hy
    induction ys with
    | nil => simp
    | cons y ys ih2 =>
     obtain ⟨q1, q2⟩ := List.nodup_cons.1 hn
     by_cases he : y = (m : Int)
     ·subst he
      have : ys.filter (fun y => y != (m : Int)) = ys := List.filter_eq_self.2 (fun z hz => by
       have : z ≠ (m : Int) := fun e => q1 (e ▸ hz)
       simpa using this)
      rw [List.filter_cons, this]
      simp
     ·have := ih2 q2
      rw [List.filter_cons, if_pos (by simpa using he), List.length_cons, List.length_cons]
      omega
   omega
 -- with i put in the place of n less 1 (or where it stands) there would be too few numbers
 have hk := key (n - 1) (xs.map (fun y => if y = ((n - 1 : Nat) : Int) then (i : Int) else y)) ?_ ?_
 ·rw [List.length_map, h.len] at hk
  omega
 ·refine List.Pairwise.map _ ?_ (List.Pairwise.and_mem.1 h.nodup)
  rintro a b ⟨ha, hb, hab⟩
  split
  ·split
   ·exact fun _ => hab (by omega)
   ·exact fun e => hno (e ▸ hb)
  ·split
   ·exact fun e => hno (e ▸ ha)
   ·exact hab
 ·intro y hy
  obtain ⟨z, hz, rfl⟩ := List.mem_map.1 hy
  have := h.ran z hz
  split
  ·rename_i e
   have : (i : Int) ≠ ((n - 1 : Nat) : Int) := fun e' => hno (by rw [e', ← e]; exact hz)
   omega
  ·rename_i e
   omega
theorem own_ge {w : World} {B : Nat} {v : Value} {xs : List Int} (h : OwnInts w B v xs) {k : Nat} (hk : v.ownBlock = some k) : B ≤ k := by
 obtain ⟨hl, ⟨rfl, _⟩ | ⟨g, cap, cur, rfl, hB, hg, r⟩⟩ := h
 ·cases hk
 ·cases hk; exact hB

def spotP (la : List Hf) (k : Nat) (i : Nat) : Bool := ((la[i]?).map Hf.spot).getD 0 == (k : Int)
theorem idxs_yes {p : Nat → Bool} {i : Nat} (h : p i = true) : idxs p (i + 1) = idxs p i ++ [(i : Int)] := by
 simp [idxs, List.range_succ, h]
theorem idxs_no {p : Nat → Bool} {i : Nat} (h : p i = false) : idxs p (i + 1) = idxs p i := by
 simp [idxs, List.range_succ, h]
theorem idxs_len (p : Nat → Bool) (n : Nat) : (idxs p n).length ≤ n := (idxs_rising p n).len
theorem row_ge {w : World} {B : Nat} {v : Value} {xs : List Int} (h : OwnInts w B v xs) {k : Nat} (hk : v.ownBlock = some k) : B ≤ k := own_ge h hk
end Go.Proofs.Ytifffonoipapgaa
