
import Derived.Test.YtdpgfaikmahmpaaGAA
import Derived.Test.YtdpgfaikmahmpaaGAC
import Derived.Test.YtdpgfaikmahmpaaGAT
import Derived.Test.YtdpgfaikmahmpaaGAU
set_option linter.unusedSimpArgs false
set_option linter.unusedVariables false
namespace Go.Proofs.Ytdpgfaikmahmpaa
open Go.RowKit
theorem agree_iff {miss : Int} {p : Nat → Bool} {hs : List Hf} (hn : ∀ h ∈ hs, 0 < h.sum) : (boundsOf miss p hs).empty = false ↔
  ∃ m0 m1 m2 m3 : Int, m0 + m1 + m2 + m3 = 40 ∧ Bx.any.has m0 m1 m2 m3 ∧ ∀ k h, hs[k]? = some h → p k = true → h.fitsM miss m0 m1 m2 m3 := by
 constructor
 ·intro he
  have t := bounds_tight he
  obtain ⟨x, y, z, hs40, hh⟩ := t.at0 (Int.le_refl _) t.k0
  have := (bounds_has hn hs40).1 hh
  exact ⟨_, _, _, _, hs40, this.1, this.2⟩
 ·rintro ⟨m0, m1, m2, m3, h40, ha, hf⟩
  exact bounds_nonempty h40 ((bounds_has hn h40).2 ⟨ha, hf⟩)
theorem empty_mono {miss : Int} {p p' : Nat → Bool} {hs hs' : List Hf} (hn : ∀ h ∈ hs, 0 < h.sum) (hn' : ∀ h ∈ hs', 0 < h.sum)
  (hp : ∀ k h, hs[k]? = some h → p k = true → ∃ j, hs'[j]? = some h ∧ p' j = true) (he : (boundsOf miss p hs).empty = true) : (boundsOf miss p' hs').empty = true := by
 cases hq : (boundsOf miss p' hs').empty with
 | true => rfl
 | false =>
  obtain ⟨m0, m1, m2, m3, h40, ha, hf⟩ := (agree_iff hn').1 hq
  have := (agree_iff (miss := miss) (p := p) hn).2 ⟨m0, m1, m2, m3, h40, ha, fun k h hk hpk => by
   obtain ⟨j, hj, hpj⟩ := hp k h hk hpk
   exact hf j h hj hpj⟩
  rw [this] at he
  cases he
theorem empty_same {miss : Int} {p p' : Nat → Bool} {hs hs' : List Hf} (hn : ∀ h ∈ hs, 0 < h.sum) (hn' : ∀ h ∈ hs', 0 < h.sum)
  (h1 : ∀ k h, hs[k]? = some h → p k = true → ∃ j, hs'[j]? = some h ∧ p' j = true) (h2 : ∀ k h, hs'[k]? = some h → p' k = true → ∃ j, hs[j]? = some h ∧ p j = true) :
  (boundsOf miss p hs).empty = (boundsOf miss p' hs').empty := by
 cases he : (boundsOf miss p hs).empty with
 | true => rw [empty_mono hn hn' h1 he]
 | false =>
  cases he' : (boundsOf miss p' hs').empty with
  | false => rfl
  | true => rw [empty_mono hn' hn h2 he'] at he; cases he
theorem none_agree {miss : Int} {p : Nat → Bool} {hs : List Hf} (hn : ∀ h ∈ hs, 0 < h.sum) (hp : ∀ k, k < hs.length → p k = false) : (boundsOf miss p hs).empty = false := by
 refine (agree_iff hn).2 ⟨40, 0, 0, 0, by decide, ?_, fun k h hk hpk => ?_⟩
 ·simp [Bx.has, Bx.any]
 ·have := (List.getElem?_eq_some_iff.1 hk).1
  rw [hp k this] at hpk
  cases hpk
theorem mem_choose (n : Int) (size : Nat) : ∀ (k : Nat) (l t : List Int), (l ++ t).length = size → t.Pairwise (· < ·) → (∀ y ∈ t, n - (k : Int) ≤ y ∧ y < n) → l ++ t ∈ chooseK n size k l := by
 intro k
 induction k with
 | zero =>
  intro l t hl _ hy
  cases t with
  | nil => rw [List.append_nil] at hl ⊢; simp [chooseK, hl]
  | cons y t => have := hy y (by simp); omega
 | succ k ih =>
  intro l t hl hp hy
  unfold chooseK
  cases t with
  | nil => rw [List.append_nil] at hl ⊢; simp [hl]
  | cons y t =>
   have hne : l.length ≠ size := by rw [List.length_append, List.length_cons] at hl; omega
   rw [if_neg hne]
   obtain ⟨p1, p2⟩ := List.pairwise_cons.1 hp
   refine List.mem_append.2 ?_
   by_cases he : y = n - ((k + 1 : Nat) : Int)
   ·subst he
    left
    have := ih (l ++ [n - ((k + 1 : Nat) : Int)]) t (by rw [List.append_assoc]; exact hl) p2 (fun z hz => by
     have a := p1 z hz
     have b := hy z (by simp [hz])
     omega)
    rw [List.append_assoc] at this
    exact this
   ·right
    refine ih l (y :: t) hl hp (fun z hz => ?_)
    have b := hy z hz
    have c := hy y (by simp)
    rcases List.mem_cons.1 hz with e | hz
    ·subst e; omega
    ·have := p1 z hz; omega
theorem choose_mem (n : Int) (size : Nat) : ∀ (k : Nat) (l x : List Int), x ∈ chooseK n size k l → ∃ t, x = l ++ t ∧ t.Pairwise (· < ·) ∧ (∀ y ∈ t, n - (k : Int) ≤ y ∧ y < n) := by
 intro k
 induction k with
 | zero =>
  intro l x hx
  unfold chooseK at hx
  split at hx
  ·rw [List.mem_singleton] at hx; subst hx; exact ⟨[], by simp, .nil, fun y h => by cases h⟩
  ·cases hx
 | succ k ih =>
  intro l x hx
  unfold chooseK at hx
  split at hx
  ·rw [List.mem_singleton] at hx; subst hx; exact ⟨[], by simp, .nil, fun y h => by cases h⟩
  ·rcases List.mem_append.1 hx with hx | hx
   ·obtain ⟨t, e, hp, hy⟩ := ih _ _ hx
    refine ⟨(n - ((k + 1 : Nat) : Int)) :: t, by rw [e, List.append_assoc]; rfl, ?_, ?_⟩
    ·refine List.pairwise_cons.2 ⟨fun z hz => ?_, hp⟩
     have := hy z hz; omega
    ·intro z hz
     rcases List.mem_cons.1 hz with rfl | hz
     ·omega
     ·have := hy z hz; omega
   ·obtain ⟨t, e, hp, hy⟩ := ih _ _ hx
    refine ⟨t, e, hp, fun z hz => ?_⟩
    have := hy z hz; omega
def Rising (n : Nat) (x : List Int) : Prop := x.Pairwise (· < ·) ∧ ∀ y ∈ x, 0 ≤ y ∧ y < (n : Int)
theorem rising_len : ∀ (x : List Int) (a b : Int), x.Pairwise (· < ·) → (∀ y ∈ x, a ≤ y ∧ y < b) → a ≤ b → (x.length : Int) ≤ b - a := by
 intro x
 induction x with
 | nil => intro a b _ _ h; simp; omega
 | cons y x ih =>
  intro a b hp hy h
  obtain ⟨p1, p2⟩ := List.pairwise_cons.1 hp
  have c := hy y (by simp)
  have := ih (y + 1) b p2 (fun z hz => by have := p1 z hz; have := hy z (by simp [hz]); omega) (by omega)
  rw [List.length_cons]
  omega
theorem Rising.len {n : Nat} {x : List Int} (h : Rising n x) : x.length ≤ n := by
 have := rising_len x 0 n h.1 h.2 (by omega)
 omega
theorem later_len (n : Nat) : ∀ (k : Nat), k ≤ n → ∀ x ∈ laterLists n k, n - k < x.length + 1 := by
 intro k
 induction k with
 | zero => intro _ x hx; cases hx
 | succ k ih =>
  intro hk x hx
  rw [laterLists] at hx
  rcases List.mem_append.1 hx with hx | hx
  ·have := len_choose _ _ _ _ (by simp) x hx; omega
  ·have := ih (by omega) x hx; omega
theorem mem_later (n : Nat) : ∀ (k : Nat), k ≤ n → ∀ x, Rising n x → n - k < x.length → x ∈ laterLists n k := by
 intro k
 induction k with
 | zero => intro _ x hx hl; have := hx.len; omega
 | succ k ih =>
  intro hk x hx hl
  rw [laterLists]
  refine List.mem_append.2 ?_
  by_cases he : x.length = n - k
  ·left; exact mem_choose (n : Int) (n - k) n [] x (by simpa using he) hx.1 (fun y hy => by have := hx.2 y hy; omega)
  ·right; exact ih (by omega) x hx (by omega)
theorem later_rising (n : Nat) : ∀ (k : Nat), ∀ x ∈ laterLists n k, Rising n x := by
 intro k
 induction k with
 | zero => intro x hx; cases hx
 | succ k ih =>
  intro x hx
  rw [laterLists] at hx
  rcases List.mem_append.1 hx with hx | hx
  ·obtain ⟨t, e, hp, hy⟩ := choose_mem _ _ _ _ _ hx
   rw [List.nil_append] at e
   subst e
   exact ⟨hp, fun y hy' => by have := hy y hy'; omega⟩
  ·exact ih x hx
theorem later_first (n : Nat) (p : List Int → Bool) : ∀ (k : Nat), k ≤ n → ∀ l, (laterLists n k).find? p = some l → ∀ x ∈ laterLists n k, p x = true → l.length ≤ x.length := by
 intro k
 induction k with
 | zero => intro _ l h; simp [laterLists] at h
 | succ k ih =>
  intro hk l h x hx hpx
  rw [laterLists, List.find?_append] at h
  rw [laterLists] at hx
  cases hq : (chooseK n (n - k) n []).find? p with
  | some l' =>
   rw [hq] at h
   simp at h
   subst h
   have a := len_choose _ _ _ _ (by simp) l' (List.mem_of_find?_eq_some hq)
   rcases List.mem_append.1 hx with hx | hx
   ·have := len_choose _ _ _ _ (by simp) x hx; omega
   ·have := later_len n k (by omega) x hx; omega
  | none =>
   rw [hq] at h
   simp at h
   rcases List.mem_append.1 hx with hx | hx
   ·have := List.find?_eq_none.1 hq x hx; exact absurd hpx this
   ·exact ih (by omega) l h x hx hpx
theorem clash_some {miss : Int} {hs : List Hf} {x : List Int} (hx : Rising hs.length x) (h1 : 1 ≤ x.length) (hc : clashes miss hs x = true) :
  Rising hs.length (clashOf miss hs) ∧ clashes miss hs (clashOf miss hs) = true ∧ 1 ≤ (clashOf miss hs).length ∧ (clashOf miss hs).length ≤ x.length := by
 have hm := mem_later hs.length hs.length (Nat.le_refl _) x hx (by omega)
 unfold clashOf firstClash
 cases hq : (laterLists hs.length hs.length).find? (clashes miss hs) with
 | none => have := List.find?_eq_none.1 hq x hm; exact absurd hc this
 | some l =>
  have hl := List.mem_of_find?_eq_some hq
  refine ⟨later_rising _ _ l hl, List.find?_some hq, ?_, later_first _ _ _ (Nat.le_refl _) l hq x hm hc⟩
  rw [Option.getD_some]
  have := later_len hs.length hs.length (Nat.le_refl _) l hl
  cases l with
  | cons => simp
  | nil =>
   exfalso
   have : ∀ (k : Nat), k ≤ hs.length → ([] : List Int) ∉ laterLists hs.length k := by
    intro k
    induction k with
    | zero => intro _ h; cases h
    | succ k ih =>
     intro hk h
     rw [laterLists] at h
     rcases List.mem_append.1 h with h | h
     ·have := len_choose _ _ _ _ (by simp) [] h; simp at this; omega
     ·exact ih (by omega) h
   exact this _ (Nat.le_refl _) hl
theorem clash_none {miss : Int} {hs : List Hf} (h : ∀ x, Rising hs.length x → clashes miss hs x = false) : clashOf miss hs = [] := by
 unfold clashOf firstClash
 cases hq : (laterLists hs.length hs.length).find? (clashes miss hs) with
 | none => rfl
 | some l =>
  have := List.find?_some hq
  rw [h l (later_rising _ _ l (List.mem_of_find?_eq_some hq))] at this
  cases this
def idxs (p : Nat → Bool) (n : Nat) : List Int := ((List.range n).filter p).map Int.ofNat
theorem idxs_rising (p : Nat → Bool) (n : Nat) : Rising n (idxs p n) := by
 refine ⟨?_, fun y hy => ?_⟩
 ·refine List.Pairwise.map _ (fun a b h => ?_) ((List.pairwise_lt_range (n := n)).filter p)
  exact Int.ofNat_lt.2 h
 ·obtain ⟨i, hi, rfl⟩ := List.mem_map.1 hy
  have := List.mem_range.1 (List.mem_filter.1 hi).1
  exact ⟨Int.natCast_nonneg _, Int.ofNat_lt.2 this⟩
theorem idxs_mem {p : Nat → Bool} {n i : Nat} (hi : i < n) : (idxs p n).contains (i : Int) = p i := by
 cases hp : p i with
 | true => exact List.contains_iff_mem.2 (List.mem_map.2 ⟨i, List.mem_filter.2 ⟨List.mem_range.2 hi, hp⟩, rfl⟩)
 | false =>
  cases hc : (idxs p n).contains (i : Int) with
  | false => rfl
  | true =>
   obtain ⟨j, hj, e⟩ := List.mem_map.1 (List.contains_iff_mem.1 hc)
   have : j = i := by have e : (j : Int) = i := e; omega
   subst this
   rw [(List.mem_filter.1 hj).2] at hp
   cases hp
theorem idxs_clash {miss : Int} {hs : List Hf} (hn : ∀ h ∈ hs, 0 < h.sum) (p : Nat → Bool) : clashes miss hs (idxs p hs.length) = (boundsOf miss p hs).empty := by
 unfold clashes listBx
 exact empty_same hn hn (fun k h hk hp => ⟨k, hk, by have := idxs_mem (p := p) (List.getElem?_eq_some_iff.1 hk).1; simp only [this] at hp; exact hp⟩)
  (fun k h hk hp => ⟨k, hk, by have := idxs_mem (p := p) (List.getElem?_eq_some_iff.1 hk).1; simp only [this]; exact hp⟩)
theorem clash_le {miss : Int} {hs : List Hf} (hn : ∀ h ∈ hs, 0 < h.sum) {p : Nat → Bool} (he : (boundsOf miss p hs).empty = true) :
  Rising hs.length (clashOf miss hs) ∧ clashes miss hs (clashOf miss hs) = true ∧ 1 ≤ (clashOf miss hs).length ∧ (clashOf miss hs).length ≤ ((List.range hs.length).filter p).length := by
 have hx := idxs_rising p hs.length
 have hc : clashes miss hs (idxs p hs.length) = true := (idxs_clash hn p).trans he
 have hl : (idxs p hs.length).length = ((List.range hs.length).filter p).length := by unfold idxs; rw [List.length_map]
 have h1 : 1 ≤ (idxs p hs.length).length := by
  cases hz : idxs p hs.length with
  | cons => simp
  | nil =>
   rw [hz] at hc
   unfold clashes listBx at hc
   rw [none_agree (p := fun i : Nat => ([] : List Int).contains (i : Int)) hn (fun k _ => rfl)] at hc
   cases hc
 have := clash_some hx h1 hc
 rw [hl] at this
 exact this
theorem filter_or (p q : Nat → Bool) : ∀ (l : List Nat), (l.filter (fun j => p j || q j)).length ≤ (l.filter p).length + (l.filter q).length := by
 intro l
 induction l with
 | nil => simp
 | cons a l ih =>
  simp only [List.filter_cons]
  cases p a <;> cases q a <;> simp <;> omega
theorem filter_one (i : Nat) : ∀ (l : List Nat), l.Nodup → (l.filter (fun j => j == i)).length ≤ 1 := by
 intro l
 induction l with
 | nil => simp
 | cons a l ih =>
  intro h
  obtain ⟨h1, h2⟩ := List.nodup_cons.1 h
  rw [List.filter_cons]
  cases he : a == i with
  | false => simpa using ih h2
  | true =>
   have e : a = i := by simpa using he
   subst e
   have : l.filter (fun j => j == a) = [] := List.filter_eq_nil_iff.2 (fun x hx hh => by
    have e : x = a := by simpa using hh
    exact h1 (e ▸ hx))
   simp [this]
def four (i j k l : Nat) (x : Nat) : Bool := ((x == i) || (x == j)) || ((x == k) || (x == l))
theorem four_len (n i j k l : Nat) : ((List.range n).filter (four i j k l)).length ≤ 4 := by
 have h := fun i => filter_one i (List.range n) List.nodup_range
 have a := filter_or (fun x => (x == i) || (x == j)) (fun x => (x == k) || (x == l)) (List.range n)
 have b := filter_or (fun x => (x == i)) (fun x => (x == j)) (List.range n)
 have c := filter_or (fun x => (x == k)) (fun x => (x == l)) (List.range n)
 have := h i
 have := h j
 have := h k
 have := h l
 unfold four
 omega
theorem greatest_of (f : Hf → Int) (hs : List Hf) : ∃ (i : Nat) (L : Int), (∀ (j : Nat) (h : Hf), hs[j]? = some h → f h ≤ L) ∧ 0 ≤ L ∧ (L = 0 ∨ ∃ h, hs[i]? = some h ∧ L = f h) := by
 induction hs with
 | nil => exact ⟨0, 0, fun j h e => by simp at e, Int.le_refl _, .inl rfl⟩
 | cons a hs ih =>
  obtain ⟨i, L, h1, h2, h3⟩ := ih
  by_cases h : f a ≤ L
  ·refine ⟨i + 1, L, fun j x e => ?_, h2, ?_⟩
   ·cases j with
    | zero => simp at e; subst e; exact h
    | succ j => exact h1 j x (by simpa using e)
   ·rcases h3 with h3 | ⟨x, h4, h5⟩
    ·exact .inl h3
    ·exact .inr ⟨x, by simpa using h4, h5⟩
  ·refine ⟨0, f a, fun j x e => ?_, by omega, .inr ⟨a, rfl, rfl⟩⟩
   cases j with
   | zero => simp at e; subst e; exact Int.le_refl _
   | succ j => have := h1 j x (by simpa using e); omega
theorem least_of (f : Hf → Int) (hs : List Hf) : ∃ (i : Nat) (H : Int), (∀ (j : Nat) (h : Hf), hs[j]? = some h → H ≤ f h) ∧ H ≤ 40 ∧ (H = 40 ∨ ∃ h, hs[i]? = some h ∧ H = f h) := by
 obtain ⟨i, L, h1, h2, h3⟩ := greatest_of (fun h => 40 - f h) hs
 refine ⟨i, 40 - L, fun j h e => ?_, by omega, ?_⟩
 ·have := h1 j h e
  omega
 ·rcases h3 with h3 | ⟨h, h4, h5⟩
  ·exact .inl (by omega)
  ·exact .inr ⟨h, h4, by omega⟩
theorem four_agree {miss : Int} {hs : List Hf} (hn : ∀ h ∈ hs, 0 < h.sum) (h4 : ∀ i j k l : Nat, (boundsOf miss (four i j k l) hs).empty = false) : (boundsOf miss (fun _ => true) hs).empty = false := by
 obtain ⟨i0, L0, a0, b0, c0⟩ := greatest_of (fun h => (letBx miss h).l0) hs
 obtain ⟨i1, L1, a1, b1, c1⟩ := greatest_of (fun h => (letBx miss h).l1) hs
 obtain ⟨i2, L2, a2, b2, c2⟩ := greatest_of (fun h => (letBx miss h).l2) hs
 obtain ⟨i3, L3, a3, b3, c3⟩ := greatest_of (fun h => (letBx miss h).l3) hs
 obtain ⟨j0, H0, d0, e0, f0⟩ := least_of (fun h => (letBx miss h).h0) hs
 obtain ⟨j1, H1, d1, e1, f1⟩ := least_of (fun h => (letBx miss h).h1) hs
 obtain ⟨j2, H2, d2, e2, f2⟩ := least_of (fun h => (letBx miss h).h2) hs
 obtain ⟨j3, H3, d3, e3, f3⟩ := least_of (fun h => (letBx miss h).h3) hs
 have key : ∀ i j k l : Nat, ∃ m0 m1 m2 m3 : Int, m0 + m1 + m2 + m3 = 40 ∧ Bx.any.has m0 m1 m2 m3 ∧ ∀ q x, hs[q]? = some x → (q = i ∨ q = j ∨ q = k ∨ q = l) → (letBx miss x).has m0 m1 m2 m3 := by
  intro i j k l
  obtain ⟨m0, m1, m2, m3, h40, ha, hf⟩ := (agree_iff hn).1 (h4 i j k l)
  refine ⟨m0, m1, m2, m3, h40, ha, fun q x hq hqq => ?_⟩
  refine (letBx_has (hn x (List.mem_of_getElem? hq)) ha).2 (hf q x hq ?_)
  unfold four
  simp only [Bool.or_eq_true, beq_iff_eq]
  rcases hqq with h | h | h | h
  ·exact .inl (.inl h)
  ·exact .inl (.inr h)
  ·exact .inr (.inl h)
  ·exact .inr (.inr h)
 simp only [Bx.has, Bx.any] at key
 have lo : L0 + L1 + L2 + L3 ≤ 40 := by
  obtain ⟨m0, m1, m2, m3, h40, ha, hf⟩ := key i0 i1 i2 i3
  have q0 : L0 ≤ m0 := by
   rcases c0 with h | ⟨x, hx, h⟩
   ·omega
   ·have := hf _ x hx (.inl rfl); omega
  have q1 : L1 ≤ m1 := by
   rcases c1 with h | ⟨x, hx, h⟩
   ·omega
   ·have := hf _ x hx (.inr (.inl rfl)); omega
  have q2 : L2 ≤ m2 := by
   rcases c2 with h | ⟨x, hx, h⟩
   ·omega
   ·have := hf _ x hx (.inr (.inr (.inl rfl))); omega
  have q3 : L3 ≤ m3 := by
   rcases c3 with h | ⟨x, hx, h⟩
   ·omega
   ·have := hf _ x hx (.inr (.inr (.inr rfl))); omega
  omega
 have hi : 40 ≤ H0 + H1 + H2 + H3 := by
  obtain ⟨m0, m1, m2, m3, h40, ha, hf⟩ := key j0 j1 j2 j3
  have q0 : m0 ≤ H0 := by
   rcases f0 with h | ⟨x, hx, h⟩
   ·omega
   ·have := hf _ x hx (.inl rfl); omega
  have q1 : m1 ≤ H1 := by
   rcases f1 with h | ⟨x, hx, h⟩
   ·omega
   ·have := hf _ x hx (.inr (.inl rfl)); omega
  have q2 : m2 ≤ H2 := by
   rcases f2 with h | ⟨x, hx, h⟩
   ·omega
   ·have := hf _ x hx (.inr (.inr (.inl rfl))); omega
  have q3 : m3 ≤ H3 := by
   rcases f3 with h | ⟨x, hx, h⟩
   ·omega
   ·have := hf _ x hx (.inr (.inr (.inr rfl))); omega
  omega
 have g0 : L0 ≤ H0 := by
  obtain ⟨m0, m1, m2, m3, h40, ha, hf⟩ := key i0 j0 i0 j0
  rcases c0 with h | ⟨x, hx, h⟩ <;> rcases f0 with h' | ⟨y, hy, h'⟩
  ·omega
  ·have := hf _ y hy (.inr (.inl rfl)); omega
  ·have := hf _ x hx (.inl rfl); omega
  ·have := hf _ x hx (.inl rfl); have := hf _ y hy (.inr (.inl rfl)); omega
 have g1 : L1 ≤ H1 := by
  obtain ⟨m0, m1, m2, m3, h40, ha, hf⟩ := key i1 j1 i1 j1
  rcases c1 with h | ⟨x, hx, h⟩ <;> rcases f1 with h' | ⟨y, hy, h'⟩
  ·omega
  ·have := hf _ y hy (.inr (.inl rfl)); omega
  ·have := hf _ x hx (.inl rfl); omega
  ·have := hf _ x hx (.inl rfl); have := hf _ y hy (.inr (.inl rfl)); omega
 have g2 : L2 ≤ H2 := by
  obtain ⟨m0, m1, m2, m3, h40, ha, hf⟩ := key i2 j2 i2 j2
  rcases c2 with h | ⟨x, hx, h⟩ <;> rcases f2 with h' | ⟨y, hy, h'⟩
  ·omega
  ·have := hf _ y hy (.inr (.inl rfl)); omega
  ·have := hf _ x hx (.inl rfl); omega
  ·have := hf _ x hx (.inl rfl); have := hf _ y hy (.inr (.inl rfl)); omega
 have g3 : L3 ≤ H3 := by
  obtain ⟨m0, m1, m2, m3, h40, ha, hf⟩ := key i3 j3 i3 j3
  rcases c3 with h | ⟨x, hx, h⟩ <;> rcases f3 with h' | ⟨y, hy, h'⟩
  ·omega
  ·have := hf _ y hy (.inr (.inl rfl)); omega
  ·have := hf _ x hx (.inl rfl); omega
  ·have := hf _ x hx (.inl rfl); have := hf _ y hy (.inr (.inl rfl)); omega
 obtain ⟨m0, hm0, hm0', r1, r2⟩ : ∃ m0, L0 ≤ m0 ∧ m0 ≤ H0 ∧ L1 + L2 + L3 ≤ 40 - m0 ∧ 40 - m0 ≤ H1 + H2 + H3 := by
  by_cases h : 40 - L0 ≤ H1 + H2 + H3
  ·exact ⟨L0, by omega, by omega, by omega, h⟩
  ·exact ⟨40 - (H1 + H2 + H3), by omega, by omega, by omega, by omega⟩
 obtain ⟨m1, m2, m3, hs3, s1, s2, s3⟩ := three_of g1 g2 g3 r1 r2
 have ha : Bx.any.has m0 m1 m2 m3 := by simp only [Bx.has, Bx.any]; omega
 refine (agree_iff hn).2 ⟨m0, m1, m2, m3, by omega, ha, fun k x hk _ => (letBx_has (hn x (List.mem_of_getElem? hk)) ha).1 ?_⟩
 have := a0 k x hk
 have := a1 k x hk
 have := a2 k x hk
 have := a3 k x hk
 have := d0 k x hk
 have := d1 k x hk
 have := d2 k x hk
 have := d3 k x hk
 simp only at *
 unfold Bx.has
 omega
theorem clash_yes {miss : Int} {hs : List Hf} (hn : ∀ h ∈ hs, 0 < h.sum) (he : (boundsOf miss (fun _ => true) hs).empty = true) :
  Rising hs.length (clashOf miss hs) ∧ clashes miss hs (clashOf miss hs) = true ∧ 1 ≤ (clashOf miss hs).length ∧ (clashOf miss hs).length ≤ 4 := by
 have : ∃ i j k l : Nat, (boundsOf miss (four i j k l) hs).empty = true := by
  refine Classical.byContradiction fun h => ?_
  have := four_agree (miss := miss) hn (fun i j k l => by
   cases hq : (boundsOf miss (four i j k l) hs).empty with
   | false => rfl
   | true => exact absurd ⟨i, j, k, l, hq⟩ h)
  rw [this] at he
  cases he
 obtain ⟨i, j, k, l, h⟩ := this
 obtain ⟨a, b, c, d⟩ := clash_le hn h
 exact ⟨a, b, c, Nat.le_trans d (four_len _ _ _ _ _)⟩
theorem clash_no {miss : Int} {hs : List Hf} (hn : ∀ h ∈ hs, 0 < h.sum) (he : (boundsOf miss (fun _ => true) hs).empty = false) : clashOf miss hs = [] := by
 refine clash_none fun x _ => ?_
 cases hq : clashes miss hs x with
 | false => rfl
 | true =>
  have := empty_mono (p' := fun _ => true) hn hn (fun k h hk _ => ⟨k, hk, rfl⟩) hq
  rw [this] at he
  cases he
theorem Rising.within {n : Nat} {x : List Int} (h : Rising n x) : ∀ y ∈ x, within y 0 ((n : Int) - 1) = true := fun y hy => by
 have := h.2 y hy
 simp only [Go.Proofs.Ytdpgfaikmahmpaa.within, Bool.and_eq_true, decide_eq_true_eq]
 omega
theorem Rising.nodup {n : Nat} {x : List Int} (h : Rising n x) : x.Nodup := h.1.imp (fun hab e => by omega)
theorem clash_sub {miss : Int} {hs ds : List Hf} (hn : ∀ h ∈ hs, 0 < h.sum) (hn' : ∀ h ∈ ds, 0 < h.sum) (hm : ∀ x ∈ hs, x ∈ ds) (h : clashOf miss hs ≠ []) : clashOf miss ds ≠ [] ∧ (clashOf miss ds).length ≤ (clashOf miss hs).length := by
 have he : (boundsOf miss (fun _ => true) hs).empty = true := by
  cases hq : (boundsOf miss (fun _ => true) hs).empty with
  | true => rfl
  | false => exact absurd (clash_no hn hq) h
 obtain ⟨hr, hc, -, -⟩ := clash_yes hn he
 -- a place among the others for each handful of the clash
 have pl : ∀ (l : List Int), (∀ y ∈ l, 0 ≤ y ∧ y < (hs.length : Int)) → ∃ P : Nat → Bool, (∀ (k : Nat) (x : Hf), hs[k]? = some x → l.contains (k : Int) = true → ∃ j : Nat, ds[j]? = some x ∧ P j = true) ∧ ((List.range ds.length).filter P).length ≤ l.length := by
  intro l
  induction l with
  | nil => intro _; exact ⟨fun _ => false, fun k x _ h => by simp at h, by simp⟩
  | cons y l ih =>
   intro hy
   obtain ⟨P, h1, h2⟩ := ih (fun z hz => hy z (by simp [hz]))
   have hy0 := hy y (by simp)
   obtain ⟨x, hx⟩ : ∃ x, hs[y.toNat]? = some x := ⟨_, List.getElem?_eq_getElem (by omega)⟩
   obtain ⟨j, hj⟩ := List.getElem?_of_mem (hm x (List.mem_of_getElem? hx))
   refine ⟨fun k => P k || (k == j), fun k z hk hc => ?_, ?_⟩
   ·rw [List.contains_cons, Bool.or_eq_true] at hc
    rcases hc with hc | hc
    ·have e : (k : Int) = y := by simpa using hc
     have : y.toNat = k := by omega
     rw [this, hk] at hx
     cases hx
     exact ⟨j, hj, by simp⟩
    ·obtain ⟨j', a, b⟩ := h1 k z hk hc
     exact ⟨j', a, by simp [b]⟩
   ·have a := filter_or P (fun k => k == j) (List.range ds.length)
    have b := filter_one j (List.range ds.length) List.nodup_range
    rw [List.length_cons]
    omega
 obtain ⟨P, h1, h2⟩ := pl _ hr.2
 have hd : (boundsOf miss P ds).empty = true := empty_mono hn hn' h1 hc
 obtain ⟨-, -, a, b⟩ := clash_le hn' hd
 exact ⟨fun e => by rw [e] at a; simp at a, by omega⟩
theorem clash_len {miss : Int} {hs ds : List Hf} (hn : ∀ h ∈ hs, 0 < h.sum) (hn' : ∀ h ∈ ds, 0 < h.sum) (hm : ∀ x, x ∈ hs ↔ x ∈ ds) : (clashOf miss hs).length = (clashOf miss ds).length := by
 by_cases h : clashOf miss hs = []
 ·by_cases h' : clashOf miss ds = []
  ·rw [h, h']
  ·exact absurd h (clash_sub hn' hn (fun x hx => (hm x).2 hx) h').1
 ·obtain ⟨a, b⟩ := clash_sub hn hn' (fun x hx => (hm x).1 hx) h
  have := (clash_sub hn' hn (fun x hx => (hm x).2 hx) a).2
  omega
theorem bounds_same {miss : Int} {hs ds : List Hf} (hn : ∀ h ∈ hs, 0 < h.sum) (hn' : ∀ h ∈ ds, 0 < h.sum) (hm : ∀ x, x ∈ hs ↔ x ∈ ds) :
  (boundsOf miss (fun _ => true) hs).empty = (boundsOf miss (fun _ => true) ds).empty ∧ ((boundsOf miss (fun _ => true) hs).empty = false → boundsOf miss (fun _ => true) hs = boundsOf miss (fun _ => true) ds) := by
 have to : ∀ {hs ds : List Hf}, (∀ x, x ∈ hs → x ∈ ds) → ∀ (k : Nat) (h : Hf), hs[k]? = some h → (fun _ : Nat => true) k = true → ∃ j : Nat, ds[j]? = some h ∧ (fun _ : Nat => true) j = true := by
  intro hs ds hm k h hk _
  obtain ⟨j, hj⟩ := List.getElem?_of_mem (hm h (List.mem_of_getElem? hk))
  exact ⟨j, hj, rfl⟩
 have he := empty_same (miss := miss) hn hn' (to fun x hx => (hm x).1 hx) (to fun x hx => (hm x).2 hx)
 refine ⟨he, fun h0 => ?_⟩
 have t := bounds_tight h0
 have t' := bounds_tight (he ▸ h0)
 have hh : ∀ m0 m1 m2 m3 : Int, m0 + m1 + m2 + m3 = 40 → ((boundsOf miss (fun _ => true) hs).has m0 m1 m2 m3 ↔ (boundsOf miss (fun _ => true) ds).has m0 m1 m2 m3) := by
  intro m0 m1 m2 m3 h40
  rw [bounds_has hn h40, bounds_has hn' h40]
  constructor
  ·rintro ⟨a, b⟩
   refine ⟨a, fun k h hk _ => ?_⟩
   obtain ⟨j, hj⟩ := List.getElem?_of_mem ((hm h).2 (List.mem_of_getElem? hk))
   exact b j h hj rfl
  ·rintro ⟨a, b⟩
   refine ⟨a, fun k h hk _ => ?_⟩
   obtain ⟨j, hj⟩ := List.getElem?_of_mem ((hm h).1 (List.mem_of_getElem? hk))
   exact b j h hj rfl
 generalize boundsOf miss (fun _ => true) hs = b at *
 generalize boundsOf miss (fun _ => true) ds = c at *
 have a0 : b.l0 = c.l0 ∧ b.h0 = c.h0 := by
  obtain ⟨x, y, z, e, p⟩ := t.at0 (Int.le_refl _) t.k0
  have p1 := ((hh _ _ _ _ e).1 p).1
  obtain ⟨x, y, z, e, p⟩ := t.at0 t.k0 (Int.le_refl _)
  have p2 := ((hh _ _ _ _ e).1 p).1
  obtain ⟨x, y, z, e, p⟩ := t'.at0 (Int.le_refl _) t'.k0
  have p3 := ((hh _ _ _ _ e).2 p).1
  obtain ⟨x, y, z, e, p⟩ := t'.at0 t'.k0 (Int.le_refl _)
  have p4 := ((hh _ _ _ _ e).2 p).1
  omega
 have a1 : b.l1 = c.l1 ∧ b.h1 = c.h1 := by
  obtain ⟨x, y, z, e, p⟩ := t.at1 (Int.le_refl _) t.k1
  have p1 := ((hh _ _ _ _ e).1 p).2.1
  obtain ⟨x, y, z, e, p⟩ := t.at1 t.k1 (Int.le_refl _)
  have p2 := ((hh _ _ _ _ e).1 p).2.1
  obtain ⟨x, y, z, e, p⟩ := t'.at1 (Int.le_refl _) t'.k1
  have p3 := ((hh _ _ _ _ e).2 p).2.1
  obtain ⟨x, y, z, e, p⟩ := t'.at1 t'.k1 (Int.le_refl _)
  have p4 := ((hh _ _ _ _ e).2 p).2.1
  omega
 have a2 : b.l2 = c.l2 ∧ b.h2 = c.h2 := by
  obtain ⟨x, y, z, e, p⟩ := t.at2 (Int.le_refl _) t.k2
  have p1 := ((hh _ _ _ _ e).1 p).2.2.1
  obtain ⟨x, y, z, e, p⟩ := t.at2 t.k2 (Int.le_refl _)
  have p2 := ((hh _ _ _ _ e).1 p).2.2.1
  obtain ⟨x, y, z, e, p⟩ := t'.at2 (Int.le_refl _) t'.k2
  have p3 := ((hh _ _ _ _ e).2 p).2.2.1
  obtain ⟨x, y, z, e, p⟩ := t'.at2 t'.k2 (Int.le_refl _)
  have p4 := ((hh _ _ _ _ e).2 p).2.2.1
  omega
 have a3 : b.l3 = c.l3 ∧ b.h3 = c.h3 := by
  obtain ⟨x, y, z, e, p⟩ := t.at3 (Int.le_refl _) t.k3
  have p1 := ((hh _ _ _ _ e).1 p).2.2.2
  obtain ⟨x, y, z, e, p⟩ := t.at3 t.k3 (Int.le_refl _)
  have p2 := ((hh _ _ _ _ e).1 p).2.2.2
  obtain ⟨x, y, z, e, p⟩ := t'.at3 (Int.le_refl _) t'.k3
  have p3 := ((hh _ _ _ _ e).2 p).2.2.2
  obtain ⟨x, y, z, e, p⟩ := t'.at3 t'.k3 (Int.le_refl _)
  have p4 := ((hh _ _ _ _ e).2 p).2.2.2
  omega
 obtain ⟨_, _, _, _, _, _, _, _⟩ := b
 obtain ⟨_, _, _, _, _, _, _, _⟩ := c
 simp only at a0 a1 a2 a3
 rw [a0.1, a0.2, a1.1, a1.2, a2.1, a2.2, a3.1, a3.2]
theorem spot_same {miss : Int} {hs ds : List Hf} (hn : ∀ h ∈ hs, 0 < h.sum) (hn' : ∀ h ∈ ds, 0 < h.sum) (hm : ∀ x, x ∈ hs ↔ x ∈ ds) (s : Int) :
  (boundsOf miss (fun i => ((hs[i]?).map Hf.spot).getD 0 == s) hs).empty = (boundsOf miss (fun i => ((ds[i]?).map Hf.spot).getD 0 == s) ds).empty := by
 have to : ∀ {hs ds : List Hf}, (∀ x, x ∈ hs → x ∈ ds) → ∀ (k : Nat) (h : Hf), hs[k]? = some h → (((hs[k]?).map Hf.spot).getD 0 == s) = true → ∃ j : Nat, ds[j]? = some h ∧ (((ds[j]?).map Hf.spot).getD 0 == s) = true := by
  intro hs ds hm k h hk hp
  obtain ⟨j, hj⟩ := List.getElem?_of_mem (hm h (List.mem_of_getElem? hk))
  exact ⟨j, hj, by rw [hj]; rw [hk] at hp; exact hp⟩
 exact empty_same hn hn' (to fun x hx => (hm x).1 hx) (to fun x hx => (hm x).2 hx)
end Go.Proofs.Ytdpgfaikmahmpaa
