
import Derived.Test.YtifffonoipapgaaVAA
import Derived.Test.YtifffonoipapgaaVAC
import Derived.Test.YtifffonoipapgaaVBJ
import Derived.Test.YtifffonoipapgaaVBL
set_option linter.unusedSimpArgs false
set_option linter.unusedVariables false
namespace Go.Proofs.Ytifffonoipapgaa
open Go.RowKit
def listErr (n : Nat) (xs : List Int) : Int := if (xs.all fun x => within x 0 ((n : Int) - 1)) then (if twice xs then 5 else 0) else 1
theorem listErr_out {n : Nat} {xs : List Int} {x : Int} (hx : x ∈ xs) (h : within x 0 ((n : Int) - 1) = false) : listErr n xs = 1 := by
 unfold listErr
 rw [if_neg]
 intro ha
 have := List.all_eq_true.1 ha x hx
 rw [h] at this
 cases this
theorem listErr_in {n : Nat} {xs : List Int} (h : ∀ x ∈ xs, within x 0 ((n : Int) - 1) = true) : listErr n xs = if twice xs then 5 else 0 := by
 unfold listErr
 rw [if_pos (List.all_eq_true.2 h)]
theorem in_next {p : Int → Bool} {xs : List Int} {k : Nat} {x : Int} (h : ∀ j x, j < k → xs[j]? = some x → p x = true) (hx : xs[k]? = some x) (hp : p x = true) : ∀ j x, j < k + 1 → xs[j]? = some x → p x = true := by
 intro j z hj hz
 by_cases e : j = k
 ·subst e; rw [hx] at hz; cases hz; exact hp
 ·exact h j z (by omega) hz
theorem in_all {p : Int → Bool} {xs : List Int} (h : ∀ j x, j < xs.length → xs[j]? = some x → p x = true) : ∀ x ∈ xs, p x = true := by
 intro x hx
 obtain ⟨j, hj, rfl⟩ := List.getElem_of_mem hx
 exact h j _ hj (List.getElem?_eq_getElem hj)
def BitsOf (s : Nat) (xs : List Int) : Prop := s < 64 ∧ ∀ j : Nat, s.testBit j = xs.contains (j : Int)
theorem bits_nil : BitsOf 0 [] := ⟨by decide, fun j => by simp⟩
theorem bits_or : ∀ s : Fin 64, ∀ x : Fin 6, s.1.testBit x.1 = false → s.1 + 2 ^ x.1 = s.1 ||| 2 ^ x.1 ∧ s.1 + 2 ^ x.1 < 64 := by decide +kernel
theorem bits_snoc {s : Nat} {xs : List Int} {x : Nat} (h : BitsOf s xs) (hx : x < 6) (hn : s.testBit x = false) : BitsOf (s + 2 ^ x) (xs ++ [(x : Int)]) := by
 obtain ⟨h1, h2⟩ := bits_or ⟨s, h.1⟩ ⟨x, hx⟩ hn
 refine ⟨h2, fun j => ?_⟩
 have h1' : s + 2 ^ x = s ||| 2 ^ x := h1
 rw [h1', Nat.testBit_or, h.2, Nat.testBit_two_pow, Bool.eq_iff_iff]
 simp only [Bool.or_eq_true, List.contains_eq_mem, decide_eq_true_eq, List.mem_append, List.mem_singleton]
 exact or_congr Iff.rfl ⟨fun e => by omega, fun e => by omega⟩
theorem twice_take {xs : List Int} {k : Nat} {x : Int} (hx : xs[k]? = some x) (h : x ∈ xs.take k) : twice xs = true := by
 unfold twice
 rw [Bool.not_eq_true', decide_eq_false_iff_not]
 intro hd
 obtain ⟨j, hj, e⟩ := List.getElem_of_mem h
 have hjk : j < k := by rw [List.length_take] at hj; omega
 have hkl := (List.getElem?_eq_some_iff.1 hx).1
 have h1 := (List.getElem?_eq_some_iff.1 hx).2
 rw [List.getElem_take] at e
 have := (List.pairwise_iff_getElem.1 hd) j k (by omega) hkl hjk
 exact this (e.trans h1.symm)
theorem nodup_snoc {l : List Int} {x : Int} (h : l.Nodup) (hn : x ∉ l) : (l ++ [x]).Nodup := by
 rw [List.nodup_append]
 exact ⟨h, by simp, fun a ha b hb => by rw [List.mem_singleton] at hb; subst hb; exact fun e => hn (e ▸ ha)⟩
theorem bits_next {s k m : Nat} {xs : List Int} (hg : BitsOf s (xs.take k) ∧ (xs.take k).Nodup) (hx : xs[k]? = some (m : Int)) (hm : m < 6) (htb : s.testBit m = false) : BitsOf (s + 2 ^ m) (xs.take (k + 1)) ∧ (xs.take (k + 1)).Nodup := by
 rw [List.take_add_one, hx]
 refine ⟨bits_snoc hg.1 hm htb, nodup_snoc hg.2 (fun h => ?_)⟩
 have h2 := hg.1.2 m
 rw [htb, List.contains_iff_mem.2 h] at h2
 cases h2
theorem twice_no {xs : List Int} (h : xs.Nodup) : twice xs = false := by simp [twice, h]
theorem bit_div (s x : Nat) : ((s / 2 ^ x % 2 : Nat) : Int) = (s : Int) / ((2 ^ x : Nat) : Int) % 2 := by rw [Int.natCast_emod, Int.natCast_ediv]; rfl
theorem pow_lt_six {x : Nat} (h : x < 6) : 1 ≤ 2 ^ x ∧ 2 ^ x ≤ 32 := ⟨Nat.one_le_two_pow, Nat.le_trans (Nat.pow_le_pow_right (by decide) (by omega : x ≤ 5)) (by decide)⟩
set_option maxRecDepth 100000 in
set_option maxHeartbeats 8000000 in
theorem refListed_any (full emp : Int) (A : Option Addr) (n c : Nat) (hn : n ≤ 6) (L : Option Addr) (lc : Nat) (xs : List Int) (hlx : xs.length ≤ 1000) (w : World) (hX : IntsAt w L xs) :
  Calls Try.prog 47 #[.agg #[.int .i64 full, .int .i64 emp, .slice A n c], .slice L xs.length lc] w fun e w' => ∃ s : Nat, e = .returned (.tuple #[.int .i64 (s : Int), .int .i64 (listErr n xs)]) ∧ (listErr n xs = 0 → BitsOf s xs) ∧ s < 64 ∧ Below w.heap.size w w' := by
 have HX := Lib.hid hX
 clear hX
 go_enter Try.func47, Try.ntmps47
 go_wp2_with fail
 go_loopw [6] (fun v6 wr => ∃ k : Nat, k ≤ xs.length ∧ v6 = .int .i64 (k : Int) ∧ Hid (∀ j x, j < k → xs[j]? = some x → within x 0 ((n : Int) - 1) = true) ∧ Holds wr (w.heap.size) 37 #[.int .i64 full, .int .i64 emp, .slice A n c] ∧ Below w.heap.size w wr) (fun v6 _ => xs.length - (intOf v6).toNat)
 case atStart => exact ⟨0, Nat.zero_le _, rfl, Lib.hid (fun j x h => absurd h (Nat.not_lt_zero j)), by (repeat first | (with_reducible first | assumption | apply Holds.set3 | apply Holds.set4 | apply Holds.putL | ((refine Holds.new' _ _ ?_); (simp; done)) | refine Holds.alloc ?_ _ | refine Holds.drew ?_ | refine Holds.far ?_ (by simp only [ne_eq]; omega) _) | rfl), zg⟩
 case round =>
  obtain ⟨k, hk, rfl, hg, hY, hB⟩ := hrel
  have HY := Lib.hid hY
  clear hY
  obtain ⟨ky0, ky1, ky2⟩ := HY.out.c3
  by_cases hlt : k < xs.length
  ·have hx : xs[k]? = some xs[k] := List.getElem?_eq_getElem hlt
   obtain ⟨x, hxe⟩ : ∃ x, x = xs[k] := ⟨_, rfl⟩
   rw [← hxe] at hx
   clear hxe
   obtain ⟨B, o, rfl, hc⟩ := (HX.out.up hB) (by omega)
   have c0 := hc k _ hx
   clear hc
   have HXK := Lib.hid hx
   have hmem := List.mem_of_getElem? hx
   clear hx
   have hS := hB.size
   have hlt' : (k : Int) < (xs.length : Int) := by omega
   obtain ⟨bq, hbq⟩ : ∃ b, b = !within x 0 ((n : Int) - 1) := ⟨_, rfl⟩
   have HV := Lib.hid hbq.symm
   clear hbq
   go_wp2_with fail
   rename_i Kc hKc
   have HSL := Lib.hid (show slotsOf [some 17, some 18, some 19, some 20, some 21, some 22, some 23, some 24, some 25] = [17, 18, 19, 20, 21, 22, 23, 24, 25] from rfl)
   refine wp_region_partsG (by kernel_rfl) [some 17, some 18, some 19, some 20, some 21, some 22, some 23, some 24, some 25] (fun jq xq w' => match jq with
    | 0 => xq 17 = .slice (some ⟨B, o, none⟩) xs.length lc
    | 1 => xq 18 = .int .i64 (k : Int)
    | 2 => xq 19 = .pointer (some ⟨B, o + k, none⟩)
    | 3 => xq 20 = .int .i64 x
    | 4 => xq 21 = .pointer (some ⟨w.heap.size, 2, none⟩)
    | 5 => xq 22 = .slice A n c
    | 6 => xq 23 = .int .i64 (n : Int)
    | 7 => xq 24 = .int .i64 ((n : Int) - 1)
    | 8 => xq 25 = .bool bq
    | _ => True) [[17], [18], [19], [20], [21], [22], [23], [24], [25]] [] (fun w' => Below wr.heap.size wr w') (by kernel_rfl)  ?_ ?_ (fun w' w'' hb h => h.trans (hb.mono h.size)) (Below.refl _ _) ?_ ?_ ?_
   ·intro jq xq xq' wqq h hv
    match jq, h, hv with
    | 0, h, hv => show xq' 17 = .slice (some ⟨B, o, none⟩) xs.length lc; rw [← h 17 (by decide)]; exact hv
    | 1, h, hv => show xq' 18 = .int .i64 (k : Int); rw [← h 18 (by decide)]; exact hv
    | 2, h, hv => show xq' 19 = .pointer (some ⟨B, o + k, none⟩); rw [← h 19 (by decide)]; exact hv
    | 3, h, hv => show xq' 20 = .int .i64 x; rw [← h 20 (by decide)]; exact hv
    | 4, h, hv => show xq' 21 = .pointer (some ⟨w.heap.size, 2, none⟩); rw [← h 21 (by decide)]; exact hv
    | 5, h, hv => show xq' 22 = .slice A n c; rw [← h 22 (by decide)]; exact hv
    | 6, h, hv => show xq' 23 = .int .i64 (n : Int); rw [← h 23 (by decide)]; exact hv
    | 7, h, hv => show xq' 24 = .int .i64 ((n : Int) - 1); rw [← h 24 (by decide)]; exact hv
    | 8, h, hv => show xq' 25 = .bool bq; rw [← h 25 (by decide)]; exact hv
    | _ + 9, _, _ => trivial
   ·intro jq xq wqq w' hb' hv
    match jq, hv with
    | 0, hv => exact hv
    | 1, hv => exact hv
    | 2, hv => exact hv
    | 3, hv => exact hv
    | 4, hv => exact hv
    | 5, hv => exact hv
    | 6, hv => exact hv
    | 7, hv => exact hv
    | 8, hv => exact hv
    | _ + 9, _ => trivial
   ·intro jq hj
    match jq, hj with
    | 0, hj => exact absurd hj (by decide)
    | 1, hj => exact absurd hj (by decide)
    | 2, hj => exact absurd hj (by decide)
    | 3, hj => exact absurd hj (by decide)
    | 4, hj => exact absurd hj (by decide)
    | 5, hj => exact absurd hj (by decide)
    | 6, hj => exact absurd hj (by decide)
    | 7, hj => exact absurd hj (by decide)
    | 8, hj => exact absurd hj (by decide)
    | _ + 9, _ => trivial
   ·refine ⟨?_, ?_, ?_, ?_, ?_, ?_, ?_, ?_, ?_, trivial⟩
    ·intro xq w1 hb1 hx K hK0
     have hK := fun v w' hb => hK0 v w' (.inl hb)
     clear hx hKc hK0
     simp only [frameOf, fill, setSlot, sg, Nat.reduceBEq, if_true, if_false, Nat.reduceAdd, Nat.reduceEqDiff, HSL.out] at hK ⊢
     go_wp2_with (fail)
     exact hK _ _ (Below.refl _ _) rfl
    ·intro xq w1 hb1 hx K hK0
     have hK := fun v w' hb => hK0 v w' (.inl hb)
     clear hx hKc hK0
     simp only [frameOf, fill, setSlot, sg, Nat.reduceBEq, if_true, if_false, Nat.reduceAdd, Nat.reduceEqDiff, HSL.out] at hK ⊢
     go_wp2_with (fail)
     exact hK _ _ (Below.refl _ _) rfl
    ·intro xq w1 hb1 hx K hK0
     have hK := fun v w' hb => hK0 v w' (.inl hb)
     have e17 : xq 17 = .slice (some ⟨B, o, none⟩) xs.length lc := hx 0 (by rfl) (by rfl)
     have e18 : xq 18 = .int .i64 (k : Int) := hx 1 (by rfl) (by rfl)
     clear hx hKc hK0
     simp only [frameOf, fill, setSlot, sg, Nat.reduceBEq, if_true, if_false, Nat.reduceAdd, Nat.reduceEqDiff, HSL.out] at hK ⊢
     simp only [e17, e18] at hK ⊢
     clear e17 e18
     go_wp2_with (fail)
     exact hK _ _ (Below.refl _ _) rfl
    ·intro xq w1 hb1 hx K hK0
     have hK := fun v w' hb => hK0 v w' (.inl hb)
     have e19 : xq 19 = .pointer (some ⟨B, o + k, none⟩) := hx 2 (by rfl) (by rfl)
     clear hx hKc hK0
     have ck : w1.cell? ⟨B, o + k, none⟩ = some (.int .i64 x) := up_cell hb1 c0
     simp only [frameOf, fill, setSlot, sg, Nat.reduceBEq, if_true, if_false, Nat.reduceAdd, Nat.reduceEqDiff, HSL.out] at hK ⊢
     simp only [e19] at hK ⊢
     clear e19
     go_wp2_with (fail)
     exact hK _ _ (Below.refl _ _) rfl
    ·intro xq w1 hb1 hx K hK0
     have hK := fun v w' hb => hK0 v w' (.inl hb)
     clear hx hKc hK0
     simp only [frameOf, fill, setSlot, sg, Nat.reduceBEq, if_true, if_false, Nat.reduceAdd, Nat.reduceEqDiff, HSL.out] at hK ⊢
     go_wp2_with (fail)
     exact hK _ _ (Below.refl _ _) rfl
    ·intro xq w1 hb1 hx K hK0
     have hK := fun v w' hb => hK0 v w' (.inl hb)
     have e21 : xq 21 = .pointer (some ⟨w.heap.size, 2, none⟩) := hx 4 (by rfl) (by rfl)
     clear hx hKc hK0
     have ck : w1.cell? ⟨w.heap.size, 2, none⟩ = some (.slice A n c) := (HY.out.up hb1).cell 2
     simp only [frameOf, fill, setSlot, sg, Nat.reduceBEq, if_true, if_false, Nat.reduceAdd, Nat.reduceEqDiff, HSL.out] at hK ⊢
     simp only [e21] at hK ⊢
     clear e21
     go_wp2_with (fail)
     exact hK _ _ (Below.refl _ _) rfl
    ·intro xq w1 hb1 hx K hK0
     have hK := fun v w' hb => hK0 v w' (.inl hb)
     have e22 : xq 22 = .slice A n c := hx 5 (by rfl) (by rfl)
     clear hx hKc hK0
     simp only [frameOf, fill, setSlot, sg, Nat.reduceBEq, if_true, if_false, Nat.reduceAdd, Nat.reduceEqDiff, HSL.out] at hK ⊢
     simp only [e22] at hK ⊢
     clear e22
     go_wp2_with (fail)
     exact hK _ _ (Below.refl _ _) rfl
    ·intro xq w1 hb1 hx K hK0
     have hK := fun v w' hb => hK0 v w' (.inl hb)
     have e23 : xq 23 = .int .i64 (n : Int) := hx 6 (by rfl) (by rfl)
     clear hx hKc hK0
     simp only [frameOf, fill, setSlot, sg, Nat.reduceBEq, if_true, if_false, Nat.reduceAdd, Nat.reduceEqDiff, HSL.out] at hK ⊢
     simp only [e23] at hK ⊢
     clear e23
     go_wp2_with (fail)
     exact hK _ _ (Below.refl _ _) rfl
    ·intro xq w1 hb1 hx K hK0
     have hK := fun v w' hb => hK0 v w' (.inl hb)
     have e20 : xq 20 = .int .i64 x := hx 3 (by rfl) (by rfl)
     have e24 : xq 24 = .int .i64 ((n : Int) - 1) := hx 7 (by rfl) (by rfl)
     clear hx hKc hK0
     simp only [frameOf, fill, setSlot, sg, Nat.reduceBEq, if_true, if_false, Nat.reduceAdd, Nat.reduceEqDiff, HSL.out] at hK ⊢
     simp only [e20, e24] at hK ⊢
     clear e20 e24
     go_wp2_with (go_at_call 86; refine (off_any _ _ _ _).mono ?_; rw [HV.out]; rintro e w2_ ⟨rfl, rfl⟩)
     exact hK _ _ (Below.refl _ _) rfl
   ·intro xq w1 hb1 hx
    have e17 : xq 17 = .slice (some ⟨B, o, none⟩) xs.length lc := hx 0 (by decide)
    have e18 : xq 18 = .int .i64 (k : Int) := hx 1 (by decide)
    have e19 : xq 19 = .pointer (some ⟨B, o + k, none⟩) := hx 2 (by decide)
    have e20 : xq 20 = .int .i64 x := hx 3 (by decide)
    have e21 : xq 21 = .pointer (some ⟨w.heap.size, 2, none⟩) := hx 4 (by decide)
    have e22 : xq 22 = .slice A n c := hx 5 (by decide)
    have e23 : xq 23 = .int .i64 (n : Int) := hx 6 (by decide)
    have e24 : xq 24 = .int .i64 ((n : Int) - 1) := hx 7 (by decide)
    have e25 : xq 25 = .bool bq := hx 8 (by decide)
    clear hx
    simp only [frameOf, fill, setSlot, sg, Nat.reduceBEq, if_true, if_false, Nat.reduceAdd, Nat.reduceEqDiff, HSL.out]
    simp only [e17, e18, e19, e20, e21, e22, e23, e24, e25]
    clear e17 e18 e19 e20 e21 e22 e23 e24 e25
    refine hKc _ _ ?_
    cases bq with
    | false =>
     have hq : within x 0 ((n : Int) - 1) = true := by have h := HV.out; simpa using h
     have HG : Hid (∀ j x, j < k + 1 → xs[j]? = some x → within x 0 ((n : Int) - 1) = true) := Lib.hid (in_next (p := fun x => within x 0 ((n : Int) - 1)) hg.out HXK.out hq)
     clear hq
     go_wp2_with fail
     go_roundw
     case rel => exact ⟨k + 1, by omega, by go_num, HG, HY.out.up hb1, hB.trans (hb1.mono hS)⟩
     case measure => first | (simp [intOf]; done) | (simp [intOf]; omega)
    | true =>
     have hq : within x 0 ((n : Int) - 1) = false := by have h := HV.out; simpa using h
     have HE : Hid (listErr n xs = 1) := Lib.hid (listErr_out hmem hq)
     clear hq
     go_wp2_with fail
     go_ret2
     exact ⟨0, by rw [HE.out]; rfl, by rw [HE.out]; exact fun h => absurd h (by decide), by decide, hB.trans (hb1.mono hS)⟩
  ·have hlt' : ¬ (k : Int) < (xs.length : Int) := by omega
   obtain rfl : k = xs.length := by omega
   have HIN : Hid (∀ x ∈ xs, within x 0 ((n : Int) - 1) = true) := Lib.hid (in_all (p := fun x => within x 0 ((n : Int) - 1)) hg.out)
   have HLE : Hid (listErr n xs = if twice xs then 5 else 0) := Lib.hid (listErr_in HIN.out)
   clear hg
   rename World => wa
   have HYa := HY
   have HBa := Lib.hid hB
   clear hB
   go_wp2_with fail
   go_loopw [7, 8, 9, 10] (fun v7 v8 v9 v10 wr => ∃ (k s : Nat), k ≤ xs.length ∧ v8 = .int .i64 (k : Int) ∧ v7 = .int .i64 (s : Int) ∧ Hid (BitsOf s (xs.take k) ∧ (xs.take k).Nodup) ∧ s < 64 ∧ wr = wa) (fun _ v8 _ _ _ => xs.length - (intOf v8).toNat)
   case atStart => exact ⟨0, 0, Nat.zero_le _, rfl, rfl, Lib.hid ⟨bits_nil, List.nodup_nil⟩, by decide, rfl⟩
   case round =>
    obtain ⟨k, s, hk, rfl, rfl, hg, hs64, rfl⟩ := hrel
    rename World => wb
    by_cases hlt : k < xs.length
    ·have hx : xs[k]? = some xs[k] := List.getElem?_eq_getElem hlt
     obtain ⟨x, hxe⟩ : ∃ x, x = xs[k] := ⟨_, rfl⟩
     rw [← hxe] at hx
     clear hxe
     obtain ⟨B, o, rfl, hc⟩ := (HX.out.up HBa.out) (by omega)
     have c0 := hc k _ hx
     clear hc
     have HXK := Lib.hid hx
     have hmem := List.mem_of_getElem? hx
     clear hx
     have hS := HBa.out.size
     have hlt' : (k : Int) < (xs.length : Int) := by omega
     have hwi := HIN.out x hmem
     simp only [within, Bool.and_eq_true, decide_eq_true_eq] at hwi
     obtain ⟨y, rfl⟩ : ∃ y : Nat, x = (y : Int) := ⟨x.toNat, by omega⟩
     have hy6 : y < 6 := by omega
     clear hwi
     go_wp2_with fail
     go_loopw [9, 10] (fun v9 v10 wr => ∃ m : Nat, m ≤ y ∧ v10 = .int .i64 (m : Int) ∧ v9 = .int .i64 ((2 ^ m : Nat) : Int) ∧ wr = wb) (fun _ v10 _ => y - (intOf v10).toNat)
     case atStart => exact ⟨0, Nat.zero_le _, rfl, rfl, rfl⟩
     case round =>
      obtain ⟨m, hm, rfl, rfl, rfl⟩ := hrel
      by_cases hlt3 : m < y
      ·have hp := pow_lt_six (by omega : m < 6)
       have hpn : 2 ^ (m + 1) = 2 * 2 ^ m := by rw [Nat.pow_succ]; omega
       obtain ⟨b, hb⟩ : ∃ b, b = 2 ^ m := ⟨_, rfl⟩
       rw [← hb] at hp hpn ⊢
       clear hb
       have hlt3' : (m : Int) < (y : Int) := by omega
       go_wp2_with fail
       go_roundw
       case rel => exact ⟨m + 1, by omega, by go_num, by rw [hpn]; go_num, by first | rfl | exact True.intro⟩
       case measure => first | (simp [intOf]; done) | (simp [intOf]; omega)
      ·obtain rfl : m = y := by omega
       have hlt3' : ¬ (m : Int) < (m : Int) := by omega
       have hp := pow_lt_six hy6
       have hdv := bit_div s m
       cases htb : s.testBit m with
       | true =>
        have HT2 : Hid (twice xs = true) := Lib.hid (twice_take HXK.out (by have h := hg.out.1.2 m; rw [htb] at h; exact List.contains_iff_mem.1 h.symm))
        rw [Nat.testBit_eq_decide_div_mod_eq] at htb
        have hd2 := of_decide_eq_true htb
        rw [hd2] at hdv
        have hdv' := hdv.symm
        clear hdv hd2 htb
        obtain ⟨b, hb⟩ : ∃ b, b = 2 ^ m := ⟨_, rfl⟩
        rw [← hb] at hp hdv' ⊢
        clear hb
        have hb0 : (b : Int) ≠ 0 := by omega
        have hq0 : 0 ≤ (s : Int) / (b : Int) := Int.ediv_nonneg (by omega) (by omega)
        have hq1 : (s : Int) / (b : Int) ≤ 63 := Int.le_trans (Int.ediv_le_self _ (by omega)) (by omega)
        go_wp2_with fail
        go_ret2
        exact ⟨0, by rw [HLE.out, HT2.out]; rfl, by rw [HLE.out, HT2.out]; exact fun h => absurd h (by decide), by decide, HBa.out⟩
       | false =>
        have HN : Hid (BitsOf (s + 2 ^ m) (xs.take (k + 1)) ∧ (xs.take (k + 1)).Nodup) := Lib.hid (bits_next hg.out HXK.out hy6 htb)
        have hs64' : s + 2 ^ m < 64 := HN.out.1.1
        rw [Nat.testBit_eq_decide_div_mod_eq] at htb
        have hd2 : ¬ s / 2 ^ m % 2 = 1 := of_decide_eq_false htb
        have hdv' : ¬ (s : Int) / ((2 ^ m : Nat) : Int) % 2 = 1 := by omega
        clear hdv hd2 htb
        obtain ⟨b, hb⟩ : ∃ b, b = 2 ^ m := ⟨_, rfl⟩
        rw [← hb] at hp hdv' hs64' HN ⊢
        clear hb
        have hb0 : (b : Int) ≠ 0 := by omega
        have hq0 : 0 ≤ (s : Int) / (b : Int) := Int.ediv_nonneg (by omega) (by omega)
        have hq1 : (s : Int) / (b : Int) ≤ 63 := Int.le_trans (Int.ediv_le_self _ (by omega)) (by omega)
        go_wp2_with fail
        go_roundw
        case rel => exact ⟨k + 1, s + b, by omega, by go_num, by go_num, HN, by omega, by first | rfl | exact True.intro⟩
        case measure => first | (simp [intOf]; done) | (simp [intOf]; omega)
    ·have hlt' : ¬ (k : Int) < (xs.length : Int) := by omega
     obtain rfl : k = xs.length := by omega
     have HF : Hid (BitsOf s xs ∧ xs.Nodup) := Lib.hid (by have h := hg.out; rw [List.take_length] at h; exact h)
     go_wp2_with fail
     go_ret2
     exact ⟨s, by rw [HLE.out, twice_no HF.out.2]; rfl, fun _ => HF.out.1, hs64, HBa.out⟩
end Go.Proofs.Ytifffonoipapgaa
