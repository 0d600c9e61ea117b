
import Derived.Test.YtifffonoipapgaaVAA
import Derived.Test.YtifffonoipapgaaVAC
import Derived.Test.YtifffonoipapgaaVBM
import Derived.Test.YtifffonoipapgaaVBN
set_option linter.unusedSimpArgs false
set_option linter.unusedVariables false
namespace Go.Proofs.Ytifffonoipapgaa
open Go.RowKit
theorem idxs_top : ∀ s : Fin 64, ∀ k : Fin 7, s.1 / 2 ^ k.1 = 0 → idxs s.1.testBit k.1 = idxs s.1.testBit 6 := by decide +kernel
set_option maxRecDepth 100000 in
set_option maxHeartbeats 4000000 in
theorem members_any (s : Nat) (hs : s < 64) (w : World) : Calls Try.prog 111 #[.int .i64 (s : Int)] w fun e w' => ∃ v, e = .returned v ∧ OwnInts w' w.heap.size v (idxs s.testBit 6) ∧ Below w.heap.size w w' := by
 obtain ⟨ii, hii, hii0, hii1, hii2⟩ := info_parts info_int
 go_enter Try.func111, Try.ntmps111
 go_wp2_with fail
 go_loopw [0, 3, 4] (fun v0 v3 v4 wr => ∃ (k r : Nat), v0 = .int .i64 (r : Int) ∧ v4 = .int .i64 (k : Int) ∧ k ≤ 6 ∧ r < 64 ∧ Hid (r = s / 2 ^ k) ∧ OwnInts wr w.heap.size v3 (idxs s.testBit k) ∧ Below w.heap.size w wr) (fun v0 _ _ _ => (intOf v0).toNat)
 case atStart => exact ⟨0, s, rfl, rfl, by decide, hs, Lib.hid (by simp), ⟨rfl, .inl ⟨rfl, rfl⟩⟩, zg⟩
 case round =>
  rename World => wa
  obtain ⟨k, r, rfl, rfl, hk, hr, hq, hown, hB⟩ := hrel
  have HOX := Lib.hid hown
  have hsz := hB.size
  have hlen := idxs_len s.testBit k
  obtain ⟨A4, c4, rfl, _⟩ := ints_of_row hown
  clear hown
  by_cases h0 : 0 < r
  ·have h0' : (0 : Int) < (r : Int) := by omega
   have hk6 : k < 6 := by
    rcases Nat.lt_or_ge k 6 with h | h
    ·exact h
    ·have hk6 : k = 6 := by omega
     have h2 := hq.out
     rw [hk6] at h2
     have : s / 2 ^ 6 = 0 := Nat.div_eq_of_lt hs
     omega
   have HN : Hid (r / 2 = s / 2 ^ (k + 1)) := Lib.hid (by rw [hq.out, Nat.div_div_eq_div_mul, Nat.pow_succ])
   have hb : s.testBit k = decide (r % 2 = 1) := by rw [Nat.testBit_eq_decide_div_mod_eq, ← hq.out]
   by_cases h1 : r % 2 = 1
   ·have h1' : (r : Int) % 2 = 1 := by omega
    have HPP : Hid (s.testBit k = true) := Lib.hid (by rw [hb, decide_eq_true h1])
    clear hb hq
    go_wp2_with (at_builtin; (refine wpList_append_own _ rfl _ _ 87 rfl w.heap.size 3 ii (.int .i64 0) 1 8 und_ints hii hii0 hii1 hii2 rfl (by decide) _ _ _ rfl (HOX.out.up zg) ⟨_, 0, none⟩ 1 1 [.int .i64 (k : Int)] rfl rfl (cell_one_new' (by simp)) (by simp [Value.oneCell']) (by unfold maxLen; omega) (by omega) (by simp; omega) ?_); intro v5 w5_ hown5 hgrow5 _; have HO5 := Lib.hid (ints_snoc hown5); have HG5 := Lib.hid hgrow5; clear hown5 hgrow5)
    go_roundw
    case rel => exact ⟨k + 1, r / 2, by go_num, by go_num, by omega, by omega, HN, (by rw [idxs_yes HPP.out]; exact HO5.out), (hB.trans zg).grown HG5.out (by simp; omega) (fun j hj => row_ge HOX.out hj)⟩
    case measure => first | (simp [intOf]; done) | (simp [intOf]; omega)
   ·have h1' : ¬ (r : Int) % 2 = 1 := by omega
    have HPP : Hid (s.testBit k = false) := Lib.hid (by rw [hb, decide_eq_false h1])
    clear hb hq
    go_wp2_with fail
    go_roundw
    case rel => exact ⟨k + 1, r / 2, by go_num, by go_num, by omega, by omega, HN, (by rw [idxs_no HPP.out]; exact HOX.out.up zg), hB.trans zg⟩
    case measure => first | (simp [intOf]; done) | (simp [intOf]; omega)
  ·have h0' : ¬ (0 : Int) < (r : Int) := by omega
   have HT : Hid (idxs s.testBit k = idxs s.testBit 6) := Lib.hid (idxs_top ⟨s, hs⟩ ⟨k, by omega⟩ (by show s / 2 ^ k = 0; rw [← hq.out]; omega))
   clear hq
   go_wp2_with fail
   go_ret
   exact ⟨_, rfl, by rw [← HT.out]; exact HOX.out, hB⟩
def lexLt : List Int → List Int → Bool
 | x :: a, y :: b => if x = y then lexLt a b else decide (x < y)
 | _, _ => false
def aheadL (a b : List Int) : Bool := if a.length = b.length then lexLt a b else decide (a.length < b.length)
theorem lex_eq {a b : List Int} {k : Nat} {x : Int} (ha : a[k]? = some x) (hb : b[k]? = some x) : lexLt (a.drop k) (b.drop k) = lexLt (a.drop (k + 1)) (b.drop (k + 1)) := by
 obtain ⟨h1, e1⟩ := List.getElem?_eq_some_iff.1 ha
 obtain ⟨h2, e2⟩ := List.getElem?_eq_some_iff.1 hb
 rw [List.drop_eq_getElem_cons h1, List.drop_eq_getElem_cons h2, e1, e2, lexLt, if_pos rfl]
theorem lex_ne {a b : List Int} {k : Nat} {x y : Int} (ha : a[k]? = some x) (hb : b[k]? = some y) (h : x ≠ y) : lexLt (a.drop k) (b.drop k) = decide (x < y) := by
 obtain ⟨h1, e1⟩ := List.getElem?_eq_some_iff.1 ha
 obtain ⟨h2, e2⟩ := List.getElem?_eq_some_iff.1 hb
 rw [List.drop_eq_getElem_cons h1, List.drop_eq_getElem_cons h2, e1, e2, lexLt, if_neg h]
set_option maxRecDepth 100000 in
set_option maxHeartbeats 4000000 in
theorem ahead_any (A B : Option Addr) (c d : Nat) (a b : List Int) (hla : a.length ≤ 1000) (hlb : b.length ≤ 1000) (w : World) (hA : IntsAt w A a) (hB : IntsAt w B b) : Calls Try.prog 112 #[.slice A a.length c, .slice B b.length d] w fun e w' => e = .returned (.bool (aheadL a b)) ∧ Below w.heap.size w w' := by
 have HA := Lib.hid hA
 have HB := Lib.hid hB
 clear hA hB
 by_cases hl : a.length = b.length
 ·have HL : Hid (aheadL a b = lexLt (a.drop 0) (b.drop 0)) := Lib.hid (by unfold aheadL; rw [if_pos hl]; rfl)
  obtain ⟨n, hn⟩ : ∃ n, n = a.length := ⟨_, rfl⟩
  have HNA := Lib.hid hn
  have HNB : Hid (n = b.length) := Lib.hid (by omega)
  rw [← hl, ← hn]
  have hn1 : n ≤ 1000 := by omega
  clear hl hn hla hlb
  go_enter Try.func112, Try.ntmps112
  go_wp2_with fail
  go_loopw [5] (fun v5 wr => ∃ k : Nat, v5 = .int .i64 (k : Int) ∧ k ≤ n ∧ Hid (aheadL a b = lexLt (a.drop k) (b.drop k)) ∧ Below w.heap.size w wr) (fun v5 _ => n - (intOf v5).toNat)
  case atStart => exact ⟨0, rfl, Nat.zero_le _, HL, Below.refl _ _⟩
  case round =>
   obtain ⟨k, rfl, hk, hq, hB⟩ := hrel
   have hz := hB.size
   by_cases hlt : k < n
   ·have hlt' : (k : Int) < (n : Int) := by omega
    have ga : k < a.length := by have := HNA.out; omega
    have gb : k < b.length := by have := HNB.out; omega
    obtain ⟨x, hx⟩ : ∃ x, a[k]? = some x := ⟨_, List.getElem?_eq_getElem ga⟩
    obtain ⟨y, hy⟩ : ∃ y, b[k]? = some y := ⟨_, List.getElem?_eq_getElem gb⟩
    obtain ⟨X, o, rfl, hca⟩ := (HA.out.up hB) (by omega)
    obtain ⟨Y, p, rfl, hcb⟩ := (HB.out.up hB) (by omega)
    have c0 := hca k x hx
    have c1 := hcb k y hy
    have HX := Lib.hid hx
    have HY := Lib.hid hy
    clear hca hcb hx hy ga gb
    by_cases he : x = y
    ·subst he
     have HN : Hid (aheadL a b = lexLt (a.drop (k + 1)) (b.drop (k + 1))) := Lib.hid (by rw [hq.out, lex_eq HX.out HY.out])
     go_wp2_with fail
     rename_i Kc hKc
     have HSL := Lib.hid (show slotsOf [some 22, some 23, some 24, some 25, some 26, some 27, some 28, some 29, some 30] = [22, 23, 24, 25, 26, 27, 28, 29, 30] from rfl)
     refine wp_region_partsG (by kernel_rfl) [some 22, some 23, some 24, some 25, some 26, some 27, some 28, some 29, some 30] (fun jq xq w' => match jq with
      | 0 => xq 22 = .slice (some ⟨X, o, none⟩) n c
      | 1 => xq 23 = .int .i64 (k : Int)
      | 2 => xq 24 = .pointer (some ⟨X, o + k, none⟩)
      | 3 => xq 25 = .int .i64 x
      | 4 => xq 26 = .slice (some ⟨Y, p, none⟩) n d
      | 5 => xq 27 = .int .i64 (k : Int)
      | 6 => xq 28 = .pointer (some ⟨Y, p + k, none⟩)
      | 7 => xq 29 = .int .i64 x
      | 8 => xq 30 = .bool false
      | _ => True) [[22], [23], [24], [25], [26], [27], [28], [29], [30]] [] (fun w' => Below wr.heap.size wr w') (by kernel_rfl)  ?_ ?_ (fun w' w'' hb h => h.trans (hb.mono h.size)) (Below.refl _ _) ?_ ?_ ?_
     ·intro jq xq xq' wqq h hv
      match jq, h, hv with
      | 0, h, hv => show xq' 22 = .slice (some ⟨X, o, none⟩) n c; rw [← h 22 (by decide)]; exact hv
      | 1, h, hv => show xq' 23 = .int .i64 (k : Int); rw [← h 23 (by decide)]; exact hv
      | 2, h, hv => show xq' 24 = .pointer (some ⟨X, o + k, none⟩); rw [← h 24 (by decide)]; exact hv
      | 3, h, hv => show xq' 25 = .int .i64 x; rw [← h 25 (by decide)]; exact hv
      | 4, h, hv => show xq' 26 = .slice (some ⟨Y, p, none⟩) n d; rw [← h 26 (by decide)]; exact hv
      | 5, h, hv => show xq' 27 = .int .i64 (k : Int); rw [← h 27 (by decide)]; exact hv
      | 6, h, hv => show xq' 28 = .pointer (some ⟨Y, p + k, none⟩); rw [← h 28 (by decide)]; exact hv
      | 7, h, hv => show xq' 29 = .int .i64 x; rw [← h 29 (by decide)]; exact hv
      | 8, h, hv => show xq' 30 = .bool false; rw [← h 30 (by decide)]; exact hv
      | _ + 9, _, _ => trivial
     ·intro jq xq wqq w' hb' hv
      match jq, hv with
      | 0, hv => exact hv
      | 1, hv => exact hv
      | 2, hv => exact hv
      | 3, hv => exact hv
      | 4, hv => exact hv
      | 5, hv => exact hv
      | 6, hv => exact hv
      | 7, hv => exact hv
      | 8, hv => exact hv
      | _ + 9, _ => trivial
     ·intro jq hj
      match jq, hj with
      | 0, hj => exact absurd hj (by decide)
      | 1, hj => exact absurd hj (by decide)
      | 2, hj => exact absurd hj (by decide)
      | 3, hj => exact absurd hj (by decide)
      | 4, hj => exact absurd hj (by decide)
      | 5, hj => exact absurd hj (by decide)
      | 6, hj => exact absurd hj (by decide)
      | 7, hj => exact absurd hj (by decide)
      | 8, hj => exact absurd hj (by decide)
      | _ + 9, _ => trivial
     ·refine ⟨?_, ?_, ?_, ?_, ?_, ?_, ?_, ?_, ?_, trivial⟩
      ·intro xq w1 hb1 hx K hK0
       have hK := fun v w' hb => hK0 v w' (.inl hb)
       clear hx hKc hK0
       simp only [frameOf, fill, setSlot, sg, Nat.reduceBEq, if_true, if_false, Nat.reduceAdd, Nat.reduceEqDiff, HSL.out] at hK ⊢
       go_wp2_with (fail)
       exact hK _ _ (Below.refl _ _) rfl
      ·intro xq w1 hb1 hx K hK0
       have hK := fun v w' hb => hK0 v w' (.inl hb)
       clear hx hKc hK0
       simp only [frameOf, fill, setSlot, sg, Nat.reduceBEq, if_true, if_false, Nat.reduceAdd, Nat.reduceEqDiff, HSL.out] at hK ⊢
       go_wp2_with (fail)
       exact hK _ _ (Below.refl _ _) rfl
      ·intro xq w1 hb1 hx K hK0
       have hK := fun v w' hb => hK0 v w' (.inl hb)
       have e22 : xq 22 = .slice (some ⟨X, o, none⟩) n c := hx 0 (by rfl) (by rfl)
       have e23 : xq 23 = .int .i64 (k : Int) := hx 1 (by rfl) (by rfl)
       clear hx hKc hK0
       simp only [frameOf, fill, setSlot, sg, Nat.reduceBEq, if_true, if_false, Nat.reduceAdd, Nat.reduceEqDiff, HSL.out] at hK ⊢
       simp only [e22, e23] at hK ⊢
       clear e22 e23
       go_wp2_with (fail)
       exact hK _ _ (Below.refl _ _) rfl
      ·intro xq w1 hb1 hx K hK0
       have hK := fun v w' hb => hK0 v w' (.inl hb)
       have e24 : xq 24 = .pointer (some ⟨X, o + k, none⟩) := hx 2 (by rfl) (by rfl)
       clear hx hKc hK0
       have ck : w1.cell? ⟨X, o + k, none⟩ = some (.int .i64 x) := up_cell hb1 c0
       simp only [frameOf, fill, setSlot, sg, Nat.reduceBEq, if_true, if_false, Nat.reduceAdd, Nat.reduceEqDiff, HSL.out] at hK ⊢
       simp only [e24] at hK ⊢
       clear e24
       go_wp2_with (fail)
       exact hK _ _ (Below.refl _ _) rfl
      ·intro xq w1 hb1 hx K hK0
       have hK := fun v w' hb => hK0 v w' (.inl hb)
       clear hx hKc hK0
       simp only [frameOf, fill, setSlot, sg, Nat.reduceBEq, if_true, if_false, Nat.reduceAdd, Nat.reduceEqDiff, HSL.out] at hK ⊢
       go_wp2_with (fail)
       exact hK _ _ (Below.refl _ _) rfl
      ·intro xq w1 hb1 hx K hK0
       have hK := fun v w' hb => hK0 v w' (.inl hb)
       clear hx hKc hK0
       simp only [frameOf, fill, setSlot, sg, Nat.reduceBEq, if_true, if_false, Nat.reduceAdd, Nat.reduceEqDiff, HSL.out] at hK ⊢
       go_wp2_with (fail)
       exact hK _ _ (Below.refl _ _) rfl
      ·intro xq w1 hb1 hx K hK0
       have hK := fun v w' hb => hK0 v w' (.inl hb)
       have e26 : xq 26 = .slice (some ⟨Y, p, none⟩) n d := hx 4 (by rfl) (by rfl)
       have e27 : xq 27 = .int .i64 (k : Int) := hx 5 (by rfl) (by rfl)
       clear hx hKc hK0
       simp only [frameOf, fill, setSlot, sg, Nat.reduceBEq, if_true, if_false, Nat.reduceAdd, Nat.reduceEqDiff, HSL.out] at hK ⊢
       simp only [e26, e27] at hK ⊢
       clear e26 e27
       go_wp2_with (fail)
       exact hK _ _ (Below.refl _ _) rfl
      ·intro xq w1 hb1 hx K hK0
       have hK := fun v w' hb => hK0 v w' (.inl hb)
       have e28 : xq 28 = .pointer (some ⟨Y, p + k, none⟩) := hx 6 (by rfl) (by rfl)
       clear hx hKc hK0
       have ck : w1.cell? ⟨Y, p + k, none⟩ = some (.int .i64 x) := up_cell hb1 c1
       simp only [frameOf, fill, setSlot, sg, Nat.reduceBEq, if_true, if_false, Nat.reduceAdd, Nat.reduceEqDiff, HSL.out] at hK ⊢
       simp only [e28] at hK ⊢
       clear e28
       go_wp2_with (fail)
       exact hK _ _ (Below.refl _ _) rfl
      ·intro xq w1 hb1 hx K hK0
       have hK := fun v w' hb => hK0 v w' (.inl hb)
       have e25 : xq 25 = .int .i64 x := hx 3 (by rfl) (by rfl)
       have e29 : xq 29 = .int .i64 x := hx 7 (by rfl) (by rfl)
       clear hx hKc hK0
       simp only [frameOf, fill, setSlot, sg, Nat.reduceBEq, if_true, if_false, Nat.reduceAdd, Nat.reduceEqDiff, HSL.out] at hK ⊢
       simp only [e25, e29] at hK ⊢
       clear e25 e29
       go_wp2_with (fail)
       exact hK _ _ (Below.refl _ _) rfl
     ·intro xq w1 hb1 hx
      have e22 : xq 22 = .slice (some ⟨X, o, none⟩) n c := hx 0 (by decide)
      have e23 : xq 23 = .int .i64 (k : Int) := hx 1 (by decide)
      have e24 : xq 24 = .pointer (some ⟨X, o + k, none⟩) := hx 2 (by decide)
      have e25 : xq 25 = .int .i64 x := hx 3 (by decide)
      have e26 : xq 26 = .slice (some ⟨Y, p, none⟩) n d := hx 4 (by decide)
      have e27 : xq 27 = .int .i64 (k : Int) := hx 5 (by decide)
      have e28 : xq 28 = .pointer (some ⟨Y, p + k, none⟩) := hx 6 (by decide)
      have e29 : xq 29 = .int .i64 x := hx 7 (by decide)
      have e30 : xq 30 = .bool false := hx 8 (by decide)
      clear hx
      simp only [frameOf, fill, setSlot, sg, Nat.reduceBEq, if_true, if_false, Nat.reduceAdd, Nat.reduceEqDiff, HSL.out]
      simp only [e22, e23, e24, e25, e26, e27, e28, e29, e30]
      clear e22 e23 e24 e25 e26 e27 e28 e29 e30
      refine hKc _ _ ?_
      go_wp2_with fail
      go_roundw
      case rel => exact ⟨k + 1, by go_num, by omega, HN, hB.trans (hb1.mono hz)⟩
      case measure => first | (simp [intOf]; done) | (simp [intOf]; omega)
    ·have HN : Hid (aheadL a b = decide (x < y)) := Lib.hid (by rw [hq.out, lex_ne HX.out HY.out he])
     go_wp2_with fail
     rename_i Kc hKc
     have HSL := Lib.hid (show slotsOf [some 22, some 23, some 24, some 25, some 26, some 27, some 28, some 29, some 30] = [22, 23, 24, 25, 26, 27, 28, 29, 30] from rfl)
     refine wp_region_partsG (by kernel_rfl) [some 22, some 23, some 24, some 25, some 26, some 27, some 28, some 29, some 30] (fun jq xq w' => match jq with
      | 0 => xq 22 = .slice (some ⟨X, o, none⟩) n c
      | 1 => xq 23 = .int .i64 (k : Int)
      | 2 => xq 24 = .pointer (some ⟨X, o + k, none⟩)
      | 3 => xq 25 = .int .i64 x
      | 4 => xq 26 = .slice (some ⟨Y, p, none⟩) n d
      | 5 => xq 27 = .int .i64 (k : Int)
      | 6 => xq 28 = .pointer (some ⟨Y, p + k, none⟩)
      | 7 => xq 29 = .int .i64 y
      | 8 => xq 30 = .bool true
      | _ => True) [[22], [23], [24], [25], [26], [27], [28], [29], [30]] [] (fun w' => Below wr.heap.size wr w') (by kernel_rfl)  ?_ ?_ (fun w' w'' hb h => h.trans (hb.mono h.size)) (Below.refl _ _) ?_ ?_ ?_
     ·intro jq xq xq' wqq h hv
      match jq, h, hv with
      | 0, h, hv => show xq' 22 = .slice (some ⟨X, o, none⟩) n c; rw [← h 22 (by decide)]; exact hv
      | 1, h, hv => show xq' 23 = .int .i64 (k : Int); rw [← h 23 (by decide)]; exact hv
      | 2, h, hv => show xq' 24 = .pointer (some ⟨X, o + k, none⟩); rw [← h 24 (by decide)]; exact hv
      | 3, h, hv => show xq' 25 = .int .i64 x; rw [← h 25 (by decide)]; exact hv
      | 4, h, hv => show xq' 26 = .slice (some ⟨Y, p, none⟩) n d; rw [← h 26 (by decide)]; exact hv
      | 5, h, hv => show xq' 27 = .int .i64 (k : Int); rw [← h 27 (by decide)]; exact hv
      | 6, h, hv => show xq' 28 = .pointer (some ⟨Y, p + k, none⟩); rw [← h 28 (by decide)]; exact hv
      | 7, h, hv => show xq' 29 = .int .i64 y; rw [← h 29 (by decide)]; exact hv
      | 8, h, hv => show xq' 30 = .bool true; rw [← h 30 (by decide)]; exact hv
      | _ + 9, _, _ => trivial
     ·intro jq xq wqq w' hb' hv
      match jq, hv with
      | 0, hv => exact hv
      | 1, hv => exact hv
      | 2, hv => exact hv
      | 3, hv => exact hv
      | 4, hv => exact hv
      | 5, hv => exact hv
      | 6, hv => exact hv
      | 7, hv => exact hv
      | 8, hv => exact hv
      | _ + 9, _ => trivial
     ·intro jq hj
      match jq, hj with
      | 0, hj => exact absurd hj (by decide)
      | 1, hj => exact absurd hj (by decide)
      | 2, hj => exact absurd hj (by decide)
      | 3, hj => exact absurd hj (by decide)
      | 4, hj => exact absurd hj (by decide)
      | 5, hj => exact absurd hj (by decide)
      | 6, hj => exact absurd hj (by decide)
      | 7, hj => exact absurd hj (by decide)
      | 8, hj => exact absurd hj (by decide)
      | _ + 9, _ => trivial
     ·refine ⟨?_, ?_, ?_, ?_, ?_, ?_, ?_, ?_, ?_, trivial⟩
      ·intro xq w1 hb1 hx K hK0
       have hK := fun v w' hb => hK0 v w' (.inl hb)
       clear hx hKc hK0
       simp only [frameOf, fill, setSlot, sg, Nat.reduceBEq, if_true, if_false, Nat.reduceAdd, Nat.reduceEqDiff, HSL.out] at hK ⊢
       go_wp2_with (fail)
       exact hK _ _ (Below.refl _ _) rfl
      ·intro xq w1 hb1 hx K hK0
       have hK := fun v w' hb => hK0 v w' (.inl hb)
       clear hx hKc hK0
       simp only [frameOf, fill, setSlot, sg, Nat.reduceBEq, if_true, if_false, Nat.reduceAdd, Nat.reduceEqDiff, HSL.out] at hK ⊢
       go_wp2_with (fail)
       exact hK _ _ (Below.refl _ _) rfl
      ·intro xq w1 hb1 hx K hK0
       have hK := fun v w' hb => hK0 v w' (.inl hb)
       have e22 : xq 22 = .slice (some ⟨X, o, none⟩) n c := hx 0 (by rfl) (by rfl)
       have e23 : xq 23 = .int .i64 (k : Int) := hx 1 (by rfl) (by rfl)
       clear hx hKc hK0
       simp only [frameOf, fill, setSlot, sg, Nat.reduceBEq, if_true, if_false, Nat.reduceAdd, Nat.reduceEqDiff, HSL.out] at hK ⊢
       simp only [e22, e23] at hK ⊢
       clear e22 e23
       go_wp2_with (fail)
       exact hK _ _ (Below.refl _ _) rfl
      ·intro xq w1 hb1 hx K hK0
       have hK := fun v w' hb => hK0 v w' (.inl hb)
       have e24 : xq 24 = .pointer (some ⟨X, o + k, none⟩) := hx 2 (by rfl) (by rfl)
       clear hx hKc hK0
       have ck : w1.cell? ⟨X, o + k, none⟩ = some (.int .i64 x) := up_cell hb1 c0
       simp only [frameOf, fill, setSlot, sg, Nat.reduceBEq, if_true, if_false, Nat.reduceAdd, Nat.reduceEqDiff, HSL.out] at hK ⊢
       simp only [e24] at hK ⊢
       clear e24
       go_wp2_with (fail)
       exact hK _ _ (Below.refl _ _) rfl
      ·intro xq w1 hb1 hx K hK0
       have hK := fun v w' hb => hK0 v w' (.inl hb)
       clear hx hKc hK0
       simp only [frameOf, fill, setSlot, sg, Nat.reduceBEq, if_true, if_false, Nat.reduceAdd, Nat.reduceEqDiff, HSL.out] at hK ⊢
       go_wp2_with (fail)
       exact hK _ _ (Below.refl _ _) rfl
      ·intro xq w1 hb1 hx K hK0
       have hK := fun v w' hb => hK0 v w' (.inl hb)
       clear hx hKc hK0
       simp only [frameOf, fill, setSlot, sg, Nat.reduceBEq, if_true, if_false, Nat.reduceAdd, Nat.reduceEqDiff, HSL.out] at hK ⊢
       go_wp2_with (fail)
       exact hK _ _ (Below.refl _ _) rfl
      ·intro xq w1 hb1 hx K hK0
       have hK := fun v w' hb => hK0 v w' (.inl hb)
       have e26 : xq 26 = .slice (some ⟨Y, p, none⟩) n d := hx 4 (by rfl) (by rfl)
       have e27 : xq 27 = .int .i64 (k : Int) := hx 5 (by rfl) (by rfl)
       clear hx hKc hK0
       simp only [frameOf, fill, setSlot, sg, Nat.reduceBEq, if_true, if_false, Nat.reduceAdd, Nat.reduceEqDiff, HSL.out] at hK ⊢
       simp only [e26, e27] at hK ⊢
       clear e26 e27
       go_wp2_with (fail)
       exact hK _ _ (Below.refl _ _) rfl
      ·intro xq w1 hb1 hx K hK0
       have hK := fun v w' hb => hK0 v w' (.inl hb)
       have e28 : xq 28 = .pointer (some ⟨Y, p + k, none⟩) := hx 6 (by rfl) (by rfl)
       clear hx hKc hK0
       have ck : w1.cell? ⟨Y, p + k, none⟩ = some (.int .i64 y) := up_cell hb1 c1
       simp only [frameOf, fill, setSlot, sg, Nat.reduceBEq, if_true, if_false, Nat.reduceAdd, Nat.reduceEqDiff, HSL.out] at hK ⊢
       simp only [e28] at hK ⊢
       clear e28
       go_wp2_with (fail)
       exact hK _ _ (Below.refl _ _) rfl
      ·intro xq w1 hb1 hx K hK0
       have hK := fun v w' hb => hK0 v w' (.inl hb)
       have e25 : xq 25 = .int .i64 x := hx 3 (by rfl) (by rfl)
       have e29 : xq 29 = .int .i64 y := hx 7 (by rfl) (by rfl)
       clear hx hKc hK0
       simp only [frameOf, fill, setSlot, sg, Nat.reduceBEq, if_true, if_false, Nat.reduceAdd, Nat.reduceEqDiff, HSL.out] at hK ⊢
       simp only [e25, e29] at hK ⊢
       clear e25 e29
       go_wp2_with (fail)
       exact hK _ _ (Below.refl _ _) (congrArg Value.bool (bne_iff_ne.2 he))
     ·intro xq wc hbc hx
      have e22 : xq 22 = .slice (some ⟨X, o, none⟩) n c := hx 0 (by decide)
      have e23 : xq 23 = .int .i64 (k : Int) := hx 1 (by decide)
      have e24 : xq 24 = .pointer (some ⟨X, o + k, none⟩) := hx 2 (by decide)
      have e25 : xq 25 = .int .i64 x := hx 3 (by decide)
      have e26 : xq 26 = .slice (some ⟨Y, p, none⟩) n d := hx 4 (by decide)
      have e27 : xq 27 = .int .i64 (k : Int) := hx 5 (by decide)
      have e28 : xq 28 = .pointer (some ⟨Y, p + k, none⟩) := hx 6 (by decide)
      have e29 : xq 29 = .int .i64 y := hx 7 (by decide)
      have e30 : xq 30 = .bool true := hx 8 (by decide)
      clear hx
      simp only [frameOf, fill, setSlot, sg, Nat.reduceBEq, if_true, if_false, Nat.reduceAdd, Nat.reduceEqDiff, HSL.out]
      simp only [e22, e23, e24, e25, e26, e27, e28, e29, e30]
      clear e22 e23 e24 e25 e26 e27 e28 e29 e30
      refine hKc _ _ ?_
      have d0 := up_cell hbc c0
      have d1 := up_cell hbc c1
      go_wp2_with fail
      rename_i Kc7 hKc7
      have HSL := Lib.hid (show slotsOf [some 31, some 32, some 33, some 34, some 35, some 36, some 37, some 38, some 39, some 4] = [31, 32, 33, 34, 35, 36, 37, 38, 39, 4] from rfl)
      refine wp_region_partsG (by kernel_rfl) [some 31, some 32, some 33, some 34, some 35, some 36, some 37, some 38, some 39, some 4] (fun jq xq w' => match jq with
       | 0 => xq 31 = .slice (some ⟨X, o, none⟩) n c
       | 1 => xq 32 = .int .i64 (k : Int)
       | 2 => xq 33 = .pointer (some ⟨X, o + k, none⟩)
       | 3 => xq 34 = .int .i64 x
       | 4 => xq 35 = .slice (some ⟨Y, p, none⟩) n d
       | 5 => xq 36 = .int .i64 (k : Int)
       | 6 => xq 37 = .pointer (some ⟨Y, p + k, none⟩)
       | 7 => xq 38 = .int .i64 y
       | 8 => xq 39 = .bool (decide (x < y))
       | 9 => xq 4 = .bool (decide (x < y))
       | _ => True) [[31], [32], [33], [34], [35], [36], [37], [38], [39], [4]] [] (fun w' => Below wc.heap.size wc w') (by kernel_rfl)  ?_ ?_ (fun w' w'' hb h => h.trans (hb.mono h.size)) (Below.refl _ _) ?_ ?_ ?_
      ·intro jq xq xq' wqq h hv
       match jq, h, hv with
       | 0, h, hv => show xq' 31 = .slice (some ⟨X, o, none⟩) n c; rw [← h 31 (by decide)]; exact hv
       | 1, h, hv => show xq' 32 = .int .i64 (k : Int); rw [← h 32 (by decide)]; exact hv
       | 2, h, hv => show xq' 33 = .pointer (some ⟨X, o + k, none⟩); rw [← h 33 (by decide)]; exact hv
       | 3, h, hv => show xq' 34 = .int .i64 x; rw [← h 34 (by decide)]; exact hv
       | 4, h, hv => show xq' 35 = .slice (some ⟨Y, p, none⟩) n d; rw [← h 35 (by decide)]; exact hv
       | 5, h, hv => show xq' 36 = .int .i64 (k : Int); rw [← h 36 (by decide)]; exact hv
       | 6, h, hv => show xq' 37 = .pointer (some ⟨Y, p + k, none⟩); rw [← h 37 (by decide)]; exact hv
       | 7, h, hv => show xq' 38 = .int .i64 y; rw [← h 38 (by decide)]; exact hv
       | 8, h, hv => show xq' 39 = .bool (decide (x < y)); rw [← h 39 (by decide)]; exact hv
       | 9, h, hv => show xq' 4 = .bool (decide (x < y)); rw [← h 4 (by decide)]; exact hv
       | _ + 10, _, _ => trivial
      ·intro jq xq wqq w' hb' hv
       match jq, hv with
       | 0, hv => exact hv
       | 1, hv => exact hv
       | 2, hv => exact hv
       | 3, hv => exact hv
       | 4, hv => exact hv
       | 5, hv => exact hv
       | 6, hv => exact hv
       | 7, hv => exact hv
       | 8, hv => exact hv
       | 9, hv => exact hv
       | _ + 10, _ => trivial
      ·intro jq hj
       match jq, hj with
       | 0, hj => exact absurd hj (by decide)
       | 1, hj => exact absurd hj (by decide)
       | 2, hj => exact absurd hj (by decide)
       | 3, hj => exact absurd hj (by decide)
       | 4, hj => exact absurd hj (by decide)
       | 5, hj => exact absurd hj (by decide)
       | 6, hj => exact absurd hj (by decide)
       | 7, hj => exact absurd hj (by decide)
       | 8, hj => exact absurd hj (by decide)
       | 9, hj => exact absurd hj (by decide)
       | _ + 10, _ => trivial
      ·refine ⟨?_, ?_, ?_, ?_, ?_, ?_, ?_, ?_, ?_, ?_, trivial⟩
       ·intro xq w1 hb1 hx K hK0
        have hK := fun v w' hb => hK0 v w' (.inl hb)
        clear hx hKc hK0
        simp only [frameOf, fill, setSlot, sg, Nat.reduceBEq, if_true, if_false, Nat.reduceAdd, Nat.reduceEqDiff, HSL.out] at hK ⊢
        go_wp2_with (fail)
        exact hK _ _ (Below.refl _ _) rfl
       ·intro xq w1 hb1 hx K hK0
        have hK := fun v w' hb => hK0 v w' (.inl hb)
        clear hx hKc hK0
        simp only [frameOf, fill, setSlot, sg, Nat.reduceBEq, if_true, if_false, Nat.reduceAdd, Nat.reduceEqDiff, HSL.out] at hK ⊢
        go_wp2_with (fail)
        exact hK _ _ (Below.refl _ _) rfl
       ·intro xq w1 hb1 hx K hK0
        have hK := fun v w' hb => hK0 v w' (.inl hb)
        have e31 : xq 31 = .slice (some ⟨X, o, none⟩) n c := hx 0 (by rfl) (by rfl)
        have e32 : xq 32 = .int .i64 (k : Int) := hx 1 (by rfl) (by rfl)
        clear hx hKc hK0
        simp only [frameOf, fill, setSlot, sg, Nat.reduceBEq, if_true, if_false, Nat.reduceAdd, Nat.reduceEqDiff, HSL.out] at hK ⊢
        simp only [e31, e32] at hK ⊢
        clear e31 e32
        go_wp2_with (fail)
        exact hK _ _ (Below.refl _ _) rfl
       ·intro xq w1 hb1 hx K hK0
        have hK := fun v w' hb => hK0 v w' (.inl hb)
        have e33 : xq 33 = .pointer (some ⟨X, o + k, none⟩) := hx 2 (by rfl) (by rfl)
        clear hx hKc hK0
        have ck : w1.cell? ⟨X, o + k, none⟩ = some (.int .i64 x) := up_cell hb1 d0
        simp only [frameOf, fill, setSlot, sg, Nat.reduceBEq, if_true, if_false, Nat.reduceAdd, Nat.reduceEqDiff, HSL.out] at hK ⊢
        simp only [e33] at hK ⊢
        clear e33
        go_wp2_with (fail)
        exact hK _ _ (Below.refl _ _) rfl
       ·intro xq w1 hb1 hx K hK0
        have hK := fun v w' hb => hK0 v w' (.inl hb)
        clear hx hKc hK0
        simp only [frameOf, fill, setSlot, sg, Nat.reduceBEq, if_true, if_false, Nat.reduceAdd, Nat.reduceEqDiff, HSL.out] at hK ⊢
        go_wp2_with (fail)
        exact hK _ _ (Below.refl _ _) rfl
       ·intro xq w1 hb1 hx K hK0
        have hK := fun v w' hb => hK0 v w' (.inl hb)
        clear hx hKc hK0
        simp only [frameOf, fill, setSlot, sg, Nat.reduceBEq, if_true, if_false, Nat.reduceAdd, Nat.reduceEqDiff, HSL.out] at hK ⊢
        go_wp2_with (fail)
        exact hK _ _ (Below.refl _ _) rfl
       ·intro xq w1 hb1 hx K hK0
        have hK := fun v w' hb => hK0 v w' (.inl hb)
        have e35 : xq 35 = .slice (some ⟨Y, p, none⟩) n d := hx 4 (by rfl) (by rfl)
        have e36 : xq 36 = .int .i64 (k : Int) := hx 5 (by rfl) (by rfl)
        clear hx hKc hK0
        simp only [frameOf, fill, setSlot, sg, Nat.reduceBEq, if_true, if_false, Nat.reduceAdd, Nat.reduceEqDiff, HSL.out] at hK ⊢
        simp only [e35, e36] at hK ⊢
        clear e35 e36
        go_wp2_with (fail)
        exact hK _ _ (Below.refl _ _) rfl
       ·intro xq w1 hb1 hx K hK0
        have hK := fun v w' hb => hK0 v w' (.inl hb)
        have e37 : xq 37 = .pointer (some ⟨Y, p + k, none⟩) := hx 6 (by rfl) (by rfl)
        clear hx hKc hK0
        have ck : w1.cell? ⟨Y, p + k, none⟩ = some (.int .i64 y) := up_cell hb1 d1
        simp only [frameOf, fill, setSlot, sg, Nat.reduceBEq, if_true, if_false, Nat.reduceAdd, Nat.reduceEqDiff, HSL.out] at hK ⊢
        simp only [e37] at hK ⊢
        clear e37
        go_wp2_with (fail)
        exact hK _ _ (Below.refl _ _) rfl
       ·intro xq w1 hb1 hx K hK0
        have hK := fun v w' hb => hK0 v w' (.inl hb)
        have e34 : xq 34 = .int .i64 x := hx 3 (by rfl) (by rfl)
        have e38 : xq 38 = .int .i64 y := hx 7 (by rfl) (by rfl)
        clear hx hKc hK0
        simp only [frameOf, fill, setSlot, sg, Nat.reduceBEq, if_true, if_false, Nat.reduceAdd, Nat.reduceEqDiff, HSL.out] at hK ⊢
        simp only [e34, e38] at hK ⊢
        clear e34 e38
        go_wp2_with (fail)
        exact hK _ _ (Below.refl _ _) rfl
       ·intro xq w1 hb1 hx K hK0
        have hK := fun v w' hb => hK0 v w' (.inl hb)
        have e39 : xq 39 = .bool (decide (x < y)) := hx 8 (by rfl) (by rfl)
        clear hx hKc hK0
        simp only [frameOf, fill, setSlot, sg, Nat.reduceBEq, if_true, if_false, Nat.reduceAdd, Nat.reduceEqDiff, HSL.out] at hK ⊢
        simp only [e39] at hK ⊢
        clear e39
        go_wp2_with (fail)
        exact hK _ _ (Below.refl _ _) rfl
      ·intro xq w1 hb1 hx
       have e31 : xq 31 = .slice (some ⟨X, o, none⟩) n c := hx 0 (by decide)
       have e32 : xq 32 = .int .i64 (k : Int) := hx 1 (by decide)
       have e33 : xq 33 = .pointer (some ⟨X, o + k, none⟩) := hx 2 (by decide)
       have e34 : xq 34 = .int .i64 x := hx 3 (by decide)
       have e35 : xq 35 = .slice (some ⟨Y, p, none⟩) n d := hx 4 (by decide)
       have e36 : xq 36 = .int .i64 (k : Int) := hx 5 (by decide)
       have e37 : xq 37 = .pointer (some ⟨Y, p + k, none⟩) := hx 6 (by decide)
       have e38 : xq 38 = .int .i64 y := hx 7 (by decide)
       have e39 : xq 39 = .bool (decide (x < y)) := hx 8 (by decide)
       have e4 : xq 4 = .bool (decide (x < y)) := hx 9 (by decide)
       clear hx
       simp only [frameOf, fill, setSlot, sg, Nat.reduceBEq, if_true, if_false, Nat.reduceAdd, Nat.reduceEqDiff, HSL.out]
       simp only [e31, e32, e33, e34, e35, e36, e37, e38, e39, e4]
       clear e31 e32 e33 e34 e35 e36 e37 e38 e39 e4
       refine hKc7 _ _ ?_
       go_wp2_with fail
       go_ret
       exact ⟨by rw [HN.out]; rfl, (hB.trans (hbc.mono hz)).trans (hb1.mono (by have := hbc.size; omega))⟩
   ·have hlt' : ¬ (k : Int) < (n : Int) := by omega
    have HN : Hid (aheadL a b = false) := Lib.hid (by rw [hq.out, List.drop_eq_nil_of_le (by have := HNA.out; omega)]; rfl)
    go_wp2_with fail
    go_ret
    exact ⟨by rw [HN.out]; rfl, hB⟩
 ·have HL : Hid (aheadL a b = decide (a.length < b.length)) := Lib.hid (by unfold aheadL; rw [if_neg hl])
  have hl' : ¬ (a.length : Int) = (b.length : Int) := by omega
  go_enter Try.func112, Try.ntmps112
  go_wp2_with fail
  go_ret
  exact ⟨by rw [HL.out]; first | rfl | (simp; done), Below.refl _ _⟩
end Go.Proofs.Ytifffonoipapgaa
