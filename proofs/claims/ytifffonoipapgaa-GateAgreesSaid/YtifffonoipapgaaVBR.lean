
import Derived.Test.YtifffonoipapgaaVAA
import Derived.Test.YtifffonoipapgaaVAC
import Derived.Test.YtifffonoipapgaaVAT
import Derived.Test.YtifffonoipapgaaVBG
import Derived.Test.YtifffonoipapgaaVBI
import Derived.Test.YtifffonoipapgaaVBJ
import Derived.Test.YtifffonoipapgaaVBK
import Derived.Test.YtifffonoipapgaaVBQ
set_option linter.unusedSimpArgs false
set_option linter.unusedVariables false
namespace Go.Proofs.Ytifffonoipapgaa
open Go.RowKit
def tabL (miss : Int) (hs : List Hf) : Nat → List Mx := listOf miss hs (preM 41 0 0)
theorem pos_of {hs : List Hf} (hn : ∀ x ∈ hs, x.enough = true) : ∀ h ∈ hs, 0 < h.sum := fun x hx => by have := enough_parts (hn x hx); unfold Hf.sum; omega
theorem agreeB_bounds {miss : Int} {hs : List Hf} (hn : ∀ x ∈ hs, x.enough = true) (h6 : hs.length ≤ 6) (s : Nat) : agreeB (tabL miss hs) s = !(boundsOf miss (fun i => s.testBit i) hs).empty := by
 have hp := pos_of hn
 rw [Bool.eq_iff_iff, Bool.not_eq_true', agree_iff hp]
 constructor
 ·intro h
  obtain ⟨m, _, hm⟩ := List.any_eq_true.1 h
  unfold hitB at hm
  rw [Bool.and_eq_true, decide_eq_true_eq] at hm
  obtain ⟨h0, ha⟩ := hm
  obtain ⟨x, hx⟩ := List.exists_mem_of_length_pos h0
  obtain ⟨hxa, hxm⟩ := List.mem_filter.1 hx
  have hm4 := mem_all.1 hxa
  refine ⟨x.a, x.b, x.c, x.d, hm4.sum, hm4.any, fun k y hk hs' => ?_⟩
  rw [← fitH_iff]
  cases hf : fitH miss x.a x.b x.c x.d y with
  | true => rfl
  | false =>
   exfalso
   have hb := missTo_bit miss hs x hs.length k y (List.getElem?_eq_some_iff.1 hk).1 hk
   rw [hf, beq_iff_eq.1 hxm] at hb
   have h2 : (m &&& s).testBit k = true := by rw [Nat.testBit_and, hb, hs']; rfl
   unfold apartB at ha
   rw [beq_iff_eq.1 ha, Nat.zero_testBit] at h2
   cases h2
 ·rintro ⟨m0, m1, m2, m3, h40, hany, hf⟩
  obtain ⟨x, hxe⟩ : ∃ x : Mx, x = ⟨m0, m1, m2, m3⟩ := ⟨_, rfl⟩
  have hmx : Mix4 x.a x.b x.c x.d := by
   rw [hxe]
   simp only [Bx.has, Bx.any] at hany
   constructor <;> simp only <;> omega
  have hlt : missTo miss hs x hs.length < 64 := Nat.lt_of_lt_of_le (missTo_lt miss hs x hs.length) (pow_seven h6).2
  refine agreeB_true (m := missTo miss hs x hs.length) hlt ?_
  unfold hitB
  rw [Bool.and_eq_true, decide_eq_true_eq]
  refine ⟨List.length_pos_of_mem (List.mem_filter.2 ⟨mem_all.2 hmx, beq_self_eq_true _⟩), ?_⟩
  unfold apartB
  rw [beq_iff_eq]
  refine Nat.eq_of_testBit_eq fun i => ?_
  rw [Nat.testBit_and, Nat.zero_testBit]
  by_cases hi : i < hs.length
  ·have hk := List.getElem?_eq_getElem hi
   rw [missTo_bit miss hs x hs.length i _ hi hk]
   cases hb : s.testBit i with
   | false => rw [Bool.and_false]
   | true =>
    have := fitH_iff.2 (hf i _ hk hb)
    rw [hxe, this]
    rfl
  ·rw [Nat.testBit_lt_two_pow (Nat.lt_of_lt_of_le (missTo_lt miss hs x hs.length) (Nat.pow_le_pow_right (by decide) (by omega))), Bool.false_and]
theorem agreeB_bits {miss : Int} {hs : List Hf} (hn : ∀ x ∈ hs, x.enough = true) (h6 : hs.length ≤ 6) {s : Nat} {xs : List Int} (h : BitsOf s xs) : agreeB (tabL miss hs) s = !(boundsOf miss (fun i => xs.contains (i : Int)) hs).empty := by
 rw [agreeB_bounds hn h6, show (fun i : Nat => s.testBit i) = fun i : Nat => xs.contains (i : Int) from funext h.2]
theorem lexLt_irrefl (a : List Int) : lexLt a a = false := by
 induction a with
 | nil => rfl
 | cons x a ih => rw [lexLt, if_pos rfl]; exact ih
theorem lexLt_trans : ∀ {a b c : List Int}, lexLt a b = true → lexLt b c = true → lexLt a c = true := by
 intro a
 induction a with
 | nil => intro b c h; simp [lexLt] at h
 | cons x a ih =>
  intro b c h1 h2
  cases b with
  | nil => simp [lexLt] at h1
  | cons y b =>
   cases c with
   | nil => simp [lexLt] at h2
   | cons z c =>
    rw [lexLt] at h1 h2 ⊢
    by_cases e1 : x = y
    ·by_cases e2 : y = z
     ·rw [if_pos e1] at h1; rw [if_pos e2] at h2; rw [if_pos (e1.trans e2)]; exact ih h1 h2
     ·rw [if_neg e2] at h2; rw [if_neg (fun e => e2 (e1.symm.trans e)), e1]; exact h2
    ·rw [if_neg e1, decide_eq_true_eq] at h1
     by_cases e2 : y = z
     ·rw [if_neg (fun e => e1 (e.trans e2.symm)), decide_eq_true_eq]; omega
     ·rw [if_neg e2, decide_eq_true_eq] at h2
      rw [if_neg (by omega), decide_eq_true_eq]; omega
theorem lexLt_total : ∀ {a b : List Int}, a.length = b.length → lexLt a b = false → a = b ∨ lexLt b a = true := by
 intro a
 induction a with
 | nil => intro b h _; exact .inl (List.eq_nil_of_length_eq_zero h.symm).symm
 | cons x a ih =>
  intro b h hl
  cases b with
  | nil => cases h
  | cons y b =>
   rw [lexLt] at hl ⊢
   by_cases e : x = y
   ·rw [if_pos e] at hl
    rw [if_pos e.symm, e]
    rcases ih (by simpa using h) hl with h2 | h2
    ·exact .inl (by rw [h2])
    ·exact .inr h2
   ·rw [if_neg e, decide_eq_false_iff_not] at hl
    rw [if_neg (fun h => e h.symm), decide_eq_true_eq]
    exact .inr (by omega)
theorem ahead_irrefl (a : List Int) : aheadL a a = false := by unfold aheadL; rw [if_pos rfl]; exact lexLt_irrefl a
theorem ahead_trans {a b c : List Int} (h1 : aheadL a b = true) (h2 : aheadL b c = true) : aheadL a c = true := by
 unfold aheadL at *
 by_cases e1 : a.length = b.length
 ·by_cases e2 : b.length = c.length
  ·rw [if_pos e1] at h1; rw [if_pos e2] at h2; rw [if_pos (e1.trans e2)]; exact lexLt_trans h1 h2
  ·rw [if_neg e2, decide_eq_true_eq] at h2; rw [if_neg (by omega), decide_eq_true_eq]; omega
 ·rw [if_neg e1, decide_eq_true_eq] at h1
  by_cases e2 : b.length = c.length
  ·rw [if_neg (by omega), decide_eq_true_eq]; omega
  ·rw [if_neg e2, decide_eq_true_eq] at h2; rw [if_neg (by omega), decide_eq_true_eq]; omega
theorem ahead_total {a b : List Int} (h : aheadL a b = false) : a = b ∨ aheadL b a = true := by
 unfold aheadL at *
 by_cases e : a.length = b.length
 ·rw [if_pos e] at h; rw [if_pos e.symm]; exact lexLt_total e h
 ·rw [if_neg e, decide_eq_false_iff_not] at h; rw [if_neg (fun x => e x.symm), decide_eq_true_eq]; exact .inr (by omega)
theorem lexLt_prefix (l : List Int) {a b : List Int} : lexLt (l ++ a) (l ++ b) = lexLt a b := by
 induction l with
 | nil => rfl
 | cons x l ih => rw [List.cons_append, List.cons_append, lexLt, if_pos rfl]; exact ih
theorem choose_sorted (n : Int) (size : Nat) : ∀ (k : Nat) (l : List Int), l.length ≤ size → (chooseK n size k l).Pairwise (fun x y => lexLt x y = true) := by
 intro k
 induction k with
 | zero => intro l _; unfold chooseK; split <;> simp
 | succ k ih =>
  intro l hl
  unfold chooseK
  split
  ·simp
  ·rename_i hne
   refine List.pairwise_append.2 ⟨ih _ (by simp; omega), ih _ hl, fun x hx y hy => ?_⟩
   obtain ⟨t, ex, _, _⟩ := choose_mem _ _ _ _ _ hx
   obtain ⟨u, ey, _, hu⟩ := choose_mem _ _ _ _ _ hy
   have hyl := len_choose _ _ _ _ hl y hy
   rw [ex, ey, List.append_assoc, lexLt_prefix]
   cases u with
   | nil => rw [ey, List.append_nil] at hyl; omega
   | cons v u =>
    have := hu v (by simp)
    show lexLt (_ :: t) (v :: u) = true
    rw [lexLt, if_neg (by omega), decide_eq_true_eq]
    omega
theorem later_gt (n : Nat) : ∀ (k : Nat), k ≤ n → ∀ x ∈ laterLists n k, n - k < x.length := by
 intro k
 induction k with
 | zero => intro _ x hx; cases hx
 | succ k ih =>
  intro hk x hx
  rw [laterLists] at hx
  rcases List.mem_append.1 hx with hx | hx
  ·have := len_choose _ _ _ _ (by simp) x hx; omega
  ·have := ih (by omega) x hx; omega
theorem later_sorted (n : Nat) : ∀ (k : Nat), k ≤ n → (laterLists n k).Pairwise (fun x y => aheadL x y = true) := by
 intro k
 induction k with
 | zero => intro _; exact .nil
 | succ k ih =>
  intro hk
  rw [laterLists]
  refine List.pairwise_append.2 ⟨?_, ih (by omega), fun x hx y hy => ?_⟩
  ·refine List.Pairwise.imp_of_mem ?_ (choose_sorted (n : Int) (n - k) n [] (by simp))
   intro x y hx hy h
   have e1 := len_choose _ _ _ _ (by simp) x hx
   have e2 := len_choose _ _ _ _ (by simp) y hy
   unfold aheadL
   rw [if_pos (by omega)]
   exact h
  ·have e1 := len_choose _ _ _ _ (by simp) x hx
   have e2 := later_gt n k (by omega) y hy
   unfold aheadL
   rw [if_neg (by omega), decide_eq_true_eq]
   omega
theorem find_first {R : List Int → List Int → Prop} {p : List Int → Bool} {l : List Int} : ∀ {xs : List (List Int)}, xs.Pairwise R → xs.find? p = some l → ∀ y ∈ xs, p y = true → y = l ∨ R l y := by
 intro xs
 induction xs with
 | nil => intro _ _ y hy; cases hy
 | cons a t ih =>
  intro hp hf y hy hpy
  obtain ⟨p1, p2⟩ := List.pairwise_cons.1 hp
  rw [List.find?_cons] at hf
  cases ha : p a with
  | true =>
   rw [ha] at hf
   cases hf
   rcases List.mem_cons.1 hy with rfl | hy
   ·exact .inl rfl
   ·exact .inr (p1 y hy)
  | false =>
   rw [ha] at hf
   rcases List.mem_cons.1 hy with rfl | hy
   ·rw [hpy] at ha; cases ha
   ·exact ih p2 hf y hy hpy
theorem clash_first {miss : Int} {hs : List Hf} {x : List Int} (hx : Rising hs.length x) (h1 : 1 ≤ x.length) (hc : clashes miss hs x = true) : x = clashOf miss hs ∨ aheadL (clashOf miss hs) x = true := by
 have hm := mem_later hs.length hs.length (Nat.le_refl _) x hx (by omega)
 unfold clashOf firstClash
 cases hq : (laterLists hs.length hs.length).find? (clashes miss hs) with
 | none => exact absurd hc (List.find?_eq_none.1 hq x hm)
 | some l => exact find_first (later_sorted hs.length hs.length (Nat.le_refl _)) hq x hm hc
def setP (p : Nat → Bool) : Nat → Nat
 | 0 => 0
 | i + 1 => setP p i + (if p i = true then 2 ^ i else 0)
theorem setP_lt (p : Nat → Bool) (i : Nat) : setP p i < 2 ^ i := by
 induction i with
 | zero => exact Nat.one_pos
 | succ i ih =>
  have : 2 ^ (i + 1) = 2 * 2 ^ i := by rw [Nat.pow_succ]; omega
  unfold setP
  split <;> omega
theorem setP_bit (p : Nat → Bool) (n i : Nat) : (setP p n).testBit i = (decide (i < n) && p i) := by
 induction n with
 | zero => rw [setP, Nat.zero_testBit]; simp
 | succ n ih =>
  have hlt := setP_lt p n
  unfold setP
  by_cases e : i = n
  ·subst e
   rw [decide_eq_true (Nat.lt_succ_self i), Bool.true_and]
   cases p i with
   | true => simp only [if_true]; rw [Nat.add_comm, Nat.testBit_two_pow_add_eq, Nat.testBit_lt_two_pow hlt]; rfl
   | false => simp only [Bool.false_eq_true, if_false, Nat.add_zero]; exact Nat.testBit_lt_two_pow hlt
  ·have h2 : decide (i < n + 1) = decide (i < n) := by
    by_cases h : i < n
    ·rw [decide_eq_true h, decide_eq_true (by omega)]
    ·rw [decide_eq_false h, decide_eq_false (by omega)]
   rw [h2, ← ih]
   split
   ·by_cases h : i < n
    ·rw [Nat.add_comm, Nat.testBit_two_pow_add_gt (by omega)]
    ·have h3 : setP p n + 2 ^ n < 2 ^ i := Nat.lt_of_lt_of_le (by have : 2 ^ (n + 1) = 2 * 2 ^ n := (by rw [Nat.pow_succ]; omega); omega : setP p n + 2 ^ n < 2 ^ (n + 1)) (Nat.pow_le_pow_right (by decide) (by omega))
     rw [Nat.testBit_lt_two_pow h3, Nat.testBit_lt_two_pow (Nat.lt_of_lt_of_le hlt (Nat.pow_le_pow_right (by decide) (by omega)))]
   ·rw [Nat.add_zero]
theorem setTo_eq (hs : List Hf) (sp i : Nat) : setTo hs sp i = setP (spotP hs sp) i := by
 induction i with
 | zero => rfl
 | succ i ih => rw [setTo, setP, ih]
theorem bounds_setP {miss : Int} {p : Nat → Bool} {hs : List Hf} (hn : ∀ h ∈ hs, 0 < h.sum) : (boundsOf miss (fun i => (setP p hs.length).testBit i) hs).empty = (boundsOf miss p hs).empty := by
 refine empty_same hn hn (fun k h hk hp => ⟨k, hk, ?_⟩) (fun k h hk hp => ⟨k, hk, ?_⟩)
 ·rw [setP_bit, decide_eq_true (List.getElem?_eq_some_iff.1 hk).1, Bool.true_and] at hp; exact hp
 ·rw [setP_bit, decide_eq_true (List.getElem?_eq_some_iff.1 hk).1, Bool.true_and]; exact hp
theorem whole_eq {hs : List Hf} (ht : ∀ x ∈ hs, x.taken = true) : ∀ i, i ≤ hs.length → setTo hs 0 i + setTo hs 1 i + setTo hs 2 i = setP (fun _ => true) i := by
 intro i
 induction i with
 | zero => intro _; rfl
 | succ i ih =>
  intro hi
  have hk := List.getElem?_eq_getElem (by omega : i < hs.length)
  have hx := ht hs[i] (List.getElem_mem _)
  simp only [Hf.taken, within, Bool.and_eq_true, decide_eq_true_eq] at hx
  have h3 := ih (by omega)
  obtain ⟨h0, h2⟩ := hx.1
  rw [setP, if_pos rfl]
  by_cases e0 : (hs[i]).spot = ((0 : Nat) : Int)
  ·rw [setTo_yes hk e0, setTo_no (sp := 1) hk (by omega), setTo_no (sp := 2) hk (by omega)]; omega
  ·by_cases e1 : (hs[i]).spot = ((1 : Nat) : Int)
   ·rw [setTo_no hk e0, setTo_yes (sp := 1) hk e1, setTo_no (sp := 2) hk (by omega)]; omega
   ·rw [setTo_no hk e0, setTo_no (sp := 1) hk e1, setTo_yes (sp := 2) hk (by omega)]; omega
theorem toppedR_eq {miss : Int} {hs : List Hf} (ht : ∀ x ∈ hs, x.taken = true) (hn : ∀ x ∈ hs, x.enough = true) (h6 : hs.length ≤ 6) : toppedR (tabL miss hs) hs = toppedOf miss hs := by
 have hp := pos_of hn
 have hw : wholeTo hs 3 = setP (fun _ => true) hs.length := by
  rw [← whole_eq ht hs.length (Nat.le_refl _)]
  show 0 + setTo hs 0 hs.length + setTo hs 1 hs.length + setTo hs 2 hs.length = _
  omega
 have key : ∀ sp : Nat, agreeB (tabL miss hs) (setTo hs sp hs.length) = !(spotBx miss hs (sp : Int)).empty := fun sp => by
  rw [agreeB_bounds hn h6, setTo_eq, bounds_setP hp]
  rfl
 unfold toppedR toppedOf
 rw [key 0, key 1, key 2, hw, agreeB_bounds hn h6, bounds_setP hp, Bool.not_not]
 rfl
theorem idxs_six {n s : Nat} (hn : n ≤ 6) (hs : s < 2 ^ n) : idxs s.testBit 6 = idxs s.testBit n := by
 have h64 := (pow_seven hn).2
 exact (idxs_top ⟨s, by omega⟩ ⟨n, by omega⟩ (Nat.div_eq_of_lt hs)).symm
theorem idxs_of {n : Nat} {x : List Int} (hx : Rising n x) : idxs (fun i => x.contains (i : Int)) n = x := by
 have h1 := idxs_rising (fun i => x.contains (i : Int)) n
 refine List.Perm.eq_of_pairwise (le := (· < ·)) (fun a b _ _ h1 h2 => by omega) h1.1 hx.1 ?_
 refine (List.perm_ext_iff_of_nodup (h1.1.imp (fun h => by omega)) (hx.1.imp (fun h => by omega))).2 fun a => ?_
 constructor
 ·intro ha
  obtain ⟨i, hi, rfl⟩ := List.mem_map.1 ha
  have := (List.mem_filter.1 hi).2
  exact List.contains_iff_mem.1 this
 ·intro ha
  obtain ⟨h0, h2⟩ := hx.2 a ha
  refine List.mem_map.2 ⟨a.toNat, List.mem_filter.2 ⟨List.mem_range.2 (by omega), ?_⟩, by show ((a.toNat : Nat) : Int) = a; omega⟩
  rw [List.contains_iff_mem, show ((a.toNat : Nat) : Int) = a from by omega]
  exact ha
def Least (miss : Int) (hs : List Hf) (s : Nat) (r : List Int × Bool) : Prop :=
 (r = ([], false) ∧ ∀ t, 1 ≤ t → t < s → clashes miss hs (idxs t.testBit hs.length) = false) ∨
 (r.2 = true ∧ clashes miss hs r.1 = true ∧ Rising hs.length r.1 ∧ ∀ t, 1 ≤ t → t < s → clashes miss hs (idxs t.testBit hs.length) = true → idxs t.testBit hs.length = r.1 ∨ aheadL r.1 (idxs t.testBit hs.length) = true)
theorem least_to {miss : Int} {hs : List Hf} (hn : ∀ x ∈ hs, x.enough = true) (h6 : hs.length ≤ 6) : ∀ s, s ≤ 2 ^ hs.length → Least miss hs s (clashTo (tabL miss hs) s) := by
 have hp := pos_of hn
 intro s
 induction s with
 | zero => intro _; exact .inl ⟨rfl, fun t _ h => absurd h (Nat.not_lt_zero t)⟩
 | succ s ih =>
  intro hs2
  by_cases h0 : s = 0
  ·subst h0
   exact .inl ⟨rfl, fun t h1 h2 => by omega⟩
  ·rw [clashTo_succ _ (by omega)]
   have hI := ih (by omega)
   obtain ⟨r, hr⟩ : ∃ r, r = clashTo (tabL miss hs) s := ⟨_, rfl⟩
   rw [← hr] at hI ⊢
   clear hr ih
   have hc : clashes miss hs (idxs s.testBit hs.length) = !agreeB (tabL miss hs) s := by rw [idxs_clash hp, agreeB_bounds hn h6, Bool.not_not]
   have hx := idxs_rising s.testBit hs.length
   unfold clashStep
   rw [idxs_six h6 (by omega), ← hc]
   obtain ⟨l, hl⟩ : ∃ l, l = idxs s.testBit hs.length := ⟨_, rfl⟩
   rw [← hl] at hc hx ⊢
   rcases hI with ⟨rfl, hno⟩ | ⟨hf, hcl, hri, hle⟩
   ·cases hq : clashes miss hs l with
    | true =>
     right
     refine ⟨rfl, hq, hx, fun t h1 h2 h3 => ?_⟩
     by_cases e : t = s
     ·left; rw [e, ← hl]; rfl
     ·rw [hno t h1 (by omega)] at h3; cases h3
    | false =>
     left
     refine ⟨by simp, fun t h1 h2 => ?_⟩
     by_cases e : t = s
     ·rw [e, ← hl]; exact hq
     ·exact hno t h1 (by omega)
   ·rw [hf]
    cases hq : clashes miss hs l with
    | false =>
     right
     rw [Bool.and_false, if_neg Bool.false_ne_true]
     refine ⟨hf, hcl, hri, fun t h1 h2 h3 => ?_⟩
     by_cases e : t = s
     ·rw [e, ← hl, hq] at h3; cases h3
     ·exact hle t h1 (by omega) h3
    | true =>
     right
     cases ha : aheadL l r.1 with
     | true =>
      rw [if_pos (by simp)]
      refine ⟨rfl, hq, hx, fun t h1 h2 h3 => ?_⟩
      by_cases e : t = s
      ·left; rw [e, ← hl]
      ·right
       rcases hle t h1 (by omega) h3 with h | h
       ·rw [h]; exact ha
       ·exact ahead_trans ha h
     | false =>
      rw [if_neg (by simp)]
      refine ⟨hf, hcl, hri, fun t h1 h2 h3 => ?_⟩
      by_cases e : t = s
      ·rw [e, ← hl]; exact ahead_total ha
      ·exact hle t h1 (by omega) h3
theorem set_of {n : Nat} {x : List Int} (hx : Rising n x) (h1 : 1 ≤ x.length) : ∃ t, 1 ≤ t ∧ t < 2 ^ n ∧ idxs t.testBit n = x := by
 refine ⟨setP (fun i => x.contains (i : Int)) n, ?_, setP_lt _ n, ?_⟩
 ·rcases Nat.eq_zero_or_pos (setP (fun i => x.contains (i : Int)) n) with h | h
  ·exfalso
   cases x with
   | nil => simp at h1
   | cons y x =>
    obtain ⟨a, b⟩ := hx.2 y (by simp)
    have hb := setP_bit (fun i => (y :: x).contains (i : Int)) n y.toNat
    rw [h, Nat.zero_testBit, decide_eq_true (by omega), Bool.true_and, show ((y.toNat : Nat) : Int) = y from by omega] at hb
    simp at hb
  ·exact h
 ·refine Eq.trans ?_ (idxs_of hx)
  unfold idxs
  congr 1
  refine List.filter_congr fun i hi => ?_
  rw [setP_bit, decide_eq_true (List.mem_range.1 hi), Bool.true_and]
theorem clash_ref {miss : Int} {hs : List Hf} (hn : ∀ x ∈ hs, x.enough = true) (h6 : hs.length ≤ 6) : clashTo (tabL miss hs) (2 ^ hs.length) = (clashOf miss hs, decide (0 < (clashOf miss hs).length)) := by
 have hp := pos_of hn
 have empt : ∀ x, clashes miss hs x = true → 1 ≤ x.length := fun x hc => by
  cases x with
  | nil => unfold clashes listBx at hc; rw [none_agree (p := fun i : Nat => ([] : List Int).contains (i : Int)) hp (fun k _ => rfl)] at hc; cases hc
  | cons => simp
 rcases least_to (miss := miss) hn h6 _ (Nat.le_refl _) with ⟨e, hno⟩ | ⟨hf, hcl, hri, hle⟩
 ·rw [e, clash_none (fun x hx => ?_)]
  ·rfl
  ·cases hc : clashes miss hs x with
   | false => rfl
   | true =>
    obtain ⟨t, t1, t2, rfl⟩ := set_of hx (empt x hc)
    rw [hno t t1 t2] at hc
    cases hc
 ·obtain ⟨r, hr⟩ : ∃ r, r = clashTo (tabL miss hs) (2 ^ hs.length) := ⟨_, rfl⟩
  rw [← hr] at hf hcl hri hle ⊢
  clear hr
  obtain ⟨c1, c2, c3, _⟩ := clash_some hri (empt _ hcl) hcl
  obtain ⟨t, t1, t2, ht⟩ := set_of c1 c3
  have a := hle t t1 t2 (by rw [ht]; exact c2)
  rw [ht] at a
  have b := clash_first hri (empt _ hcl) hcl
  have e : r.1 = clashOf miss hs := by
   rcases b with b | b
   ·exact b
   ·rcases a with a | a
    ·exact a.symm
    ·have := ahead_trans a b
     rw [ahead_irrefl] at this
     cases this
  refine Prod.ext e ?_
  rw [hf, decide_eq_true (by omega)]

end Go.Proofs.Ytifffonoipapgaa
