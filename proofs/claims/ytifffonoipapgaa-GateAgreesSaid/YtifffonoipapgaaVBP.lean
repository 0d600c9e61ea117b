
import Derived.Test.YtifffonoipapgaaVAA
import Derived.Test.YtifffonoipapgaaVAC
import Derived.Test.YtifffonoipapgaaVBK
import Derived.Test.YtifffonoipapgaaVBO
set_option linter.unusedSimpArgs false
set_option linter.unusedVariables false
namespace Go.Proofs.Ytifffonoipapgaa
open Go.RowKit
def clashStep (L : Nat → List Mx) (s : Nat) (r : List Int × Bool) : List Int × Bool := if (!r.2 || aheadL (idxs s.testBit 6) r.1) && !agreeB L s then (idxs s.testBit 6, true) else r
def clashTo (L : Nat → List Mx) : Nat → List Int × Bool
 | 0 => ([], false)
 | s + 1 => if s = 0 then ([], false) else clashStep L s (clashTo L s)
theorem clashTo_one (L : Nat → List Mx) : clashTo L 1 = ([], false) := rfl
theorem clashTo_succ (L : Nat → List Mx) {s : Nat} (h : 1 ≤ s) : clashTo L (s + 1) = clashStep L s (clashTo L s) := by
 show (if s = 0 then _ else _) = _
 rw [if_neg (by omega)]
theorem clashTo_len (L : Nat → List Mx) (s : Nat) : (clashTo L s).1.length ≤ 6 := by
 induction s with
 | zero => exact Nat.zero_le _
 | succ s ih =>
  unfold clashTo
  split
  ·exact Nat.zero_le _
  ·unfold clashStep
   split
   ·exact idxs_len _ 6
   ·exact ih
theorem pow_seven {i : Nat} (h : i ≤ 6) : 1 ≤ 2 ^ i ∧ 2 ^ i ≤ 64 := ⟨Nat.one_le_two_pow, Nat.le_trans (Nat.pow_le_pow_right (by decide) h) (by decide : 2 ^ 6 ≤ 64)⟩
set_option maxRecDepth 100000 in
set_option maxHeartbeats 8000000 in
theorem refClash_any (O B : Nat) (f : Nat → Value) (L : Nat → List Mx) (n : Nat) (hn : n ≤ 6) (w : World) (hT : Tab w O B f f L) :
  Calls Try.prog 49 #[.slice (some ⟨O, 0, none⟩) 64 64, .int .i64 (n : Int)] w fun e w' => ∃ v, e = .returned (.tuple #[v, .bool (clashTo L (2 ^ n)).2]) ∧ OwnInts w' w.heap.size v (clashTo L (2 ^ n)).1 ∧ Below w.heap.size w w' := by
 have HT := Lib.hid hT
 clear hT
 go_enter Try.func49, Try.ntmps49
 go_wp2_with fail
 go_loopw [6, 7] (fun v6 v7 wr => ∃ i : Nat, i ≤ n ∧ v7 = .int .i64 (i : Int) ∧ v6 = .int .i64 ((2 ^ i : Nat) : Int) ∧ wr = w) (fun _ v7 _ => n - (intOf v7).toNat)
 case atStart => exact ⟨0, Nat.zero_le _, rfl, rfl, rfl⟩
 case round =>
  obtain ⟨i, hi, rfl, rfl, rfl⟩ := hrel
  have hp := pow_seven (by omega : i ≤ 6)
  by_cases hlt : i < n
  ·have hpn : 2 ^ (i + 1) = 2 * 2 ^ i := by rw [Nat.pow_succ]; omega
   obtain ⟨b, hb⟩ : ∃ b, b = 2 ^ i := ⟨_, rfl⟩
   rw [← hb] at hp hpn ⊢
   clear hb
   have hlt' : (i : Int) < (n : Int) := by omega
   go_wp2_with fail
   go_roundw
   case rel => exact ⟨i + 1, by omega, by go_num, by rw [hpn]; go_num, by first | rfl | exact True.intro⟩
   case measure => first | (simp [intOf]; done) | (simp [intOf]; omega)
  ·obtain rfl : i = n := by omega
   have hlt' : ¬ (i : Int) < (i : Int) := by omega
   obtain ⟨b, hb⟩ : ∃ b, b = 2 ^ i := ⟨_, rfl⟩
   rw [← hb] at hp ⊢
   have HBI := Lib.hid hb
   clear hb
   rename World => wa
   go_wp2_with fail
   go_loopw [8, 9, 10, 11] (fun v8 v9 v10 v11 wr => ∃ (s : Nat) (l : List Int) (t : Bool), v10 = .int .i64 (s : Int) ∧ v9 = .bool t ∧ 1 ≤ s ∧ s ≤ b ∧ Hid (clashTo L s = (l, t)) ∧ OwnInts wr wa.heap.size v8 l ∧ Below wa.heap.size wa wr) (fun _ _ v10 _ _ => b - (intOf v10).toNat)
   case atStart => exact ⟨1, [], false, rfl, rfl, by decide, by omega, Lib.hid (clashTo_one L), ⟨rfl, .inl ⟨rfl, rfl⟩⟩, zg⟩
   case round =>
    rename World => wb
    obtain ⟨s, l, t, rfl, rfl, hs1, hsb, hq, hown, hB⟩ := hrel
    have HO := Lib.hid hown
    have hz := hB.size
    have hll : l.length ≤ 6 := by have h := clashTo_len L s; rw [hq.out] at h; exact h
    obtain ⟨A4, c4, rfl, hi4⟩ := ints_of_row hown
    have HI4 := Lib.hid hi4
    have HBB := Lib.hid hB
    clear hown hi4 hB
    by_cases hlt2 : s < b
    ·have hlt2' : (s : Int) < (b : Int) := by omega
     obtain ⟨m, hm⟩ : ∃ m, idxs s.testBit 6 = m := ⟨_, rfl⟩
     have hml : m.length ≤ 6 := by rw [← hm]; exact idxs_len _ 6
     have HLI := Lib.hid hm
     obtain ⟨ag, hag⟩ : ∃ g, agreeB L s = g := ⟨_, rfl⟩
     obtain ⟨ah, hah⟩ : ∃ g, aheadL m l = g := ⟨_, rfl⟩
     have HAG := Lib.hid hag
     have HAH := Lib.hid hah
     have HST : Hid (clashTo L (s + 1) = if (!t || ah) && !ag then (m, true) else (l, t)) := Lib.hid (by rw [clashTo_succ L hs1, hq.out, clashStep, hm, hah, hag])
     clear hm hag hah
     cases t with
     | false =>
      cases ag with
      | false =>
       go_wp2_with (first | (go_at_call 111; refine (members_any s (by omega) _).mono ?_; rw [HLI.out]; rintro e w2_ ⟨v2, rfl, hown2, hb2⟩; have HM := Lib.hid hown2; obtain ⟨A2, c2, rfl, hi2⟩ := ints_of_row hown2; have HI2 := Lib.hid hi2; have HB2 := Lib.hid hb2; have hz2 := hb2.size; clear hown2 hi2 hb2) | (go_at_call 48; refine (refAgree_any O B f L s (by omega) _ (HT.out.up (HBB.out.trans (HB2.out.mono hz)))).mono ?_; rw [HAG.out]; rintro e w4_ ⟨rfl, rfl⟩))
       go_roundw
       case rel => exact ⟨s + 1, m, true, by go_num, rfl, by omega, by omega, Lib.hid HST.out, (OwnInts.mono HM.out (by omega)), HBB.out.trans (HB2.out.mono hz)⟩
       case measure => first | (simp [intOf]; done) | (simp [intOf]; omega)
      | true =>
       go_wp2_with (first | (go_at_call 111; refine (members_any s (by omega) _).mono ?_; rw [HLI.out]; rintro e w2_ ⟨v2, rfl, hown2, hb2⟩; have HM := Lib.hid hown2; obtain ⟨A2, c2, rfl, hi2⟩ := ints_of_row hown2; have HI2 := Lib.hid hi2; have HB2 := Lib.hid hb2; have hz2 := hb2.size; clear hown2 hi2 hb2) | (go_at_call 48; refine (refAgree_any O B f L s (by omega) _ (HT.out.up (HBB.out.trans (HB2.out.mono hz)))).mono ?_; rw [HAG.out]; rintro e w4_ ⟨rfl, rfl⟩))
       go_roundw
       case rel => exact ⟨s + 1, l, false, by go_num, rfl, by omega, by omega, Lib.hid HST.out, (HO.out.up HB2.out), HBB.out.trans (HB2.out.mono hz)⟩
       case measure => first | (simp [intOf]; done) | (simp [intOf]; omega)
     | true =>
      cases ag with
      | false =>
       cases ah with
       | false =>
        go_wp2_with (first | (go_at_call 111; refine (members_any s (by omega) _).mono ?_; rw [HLI.out]; rintro e w2_ ⟨v2, rfl, hown2, hb2⟩; have HM := Lib.hid hown2; obtain ⟨A2, c2, rfl, hi2⟩ := ints_of_row hown2; have HI2 := Lib.hid hi2; have HB2 := Lib.hid hb2; have hz2 := hb2.size; clear hown2 hi2 hb2) | (go_at_call 112; refine (ahead_any A2 A4 c2 c4 m l (by omega) (by omega) _ HI2.out (HI4.out.up HB2.out)).mono ?_; rw [HAH.out]; rintro e w3_ ⟨rfl, hb3⟩; have HB3 := Lib.hid hb3; have hz3 := hb3.size; clear hb3))
        go_roundw
        case rel => exact ⟨s + 1, l, true, by go_num, rfl, by omega, by omega, Lib.hid HST.out, ((HO.out.up HB2.out).up HB3.out), HBB.out.trans ((HB2.out.mono hz).trans (HB3.out.mono (by omega)))⟩
        case measure => first | (simp [intOf]; done) | (simp [intOf]; omega)
       | true =>
        go_wp2_with (first | (go_at_call 111; refine (members_any s (by omega) _).mono ?_; rw [HLI.out]; rintro e w2_ ⟨v2, rfl, hown2, hb2⟩; have HM := Lib.hid hown2; obtain ⟨A2, c2, rfl, hi2⟩ := ints_of_row hown2; have HI2 := Lib.hid hi2; have HB2 := Lib.hid hb2; have hz2 := hb2.size; clear hown2 hi2 hb2) | (go_at_call 112; refine (ahead_any A2 A4 c2 c4 m l (by omega) (by omega) _ HI2.out (HI4.out.up HB2.out)).mono ?_; rw [HAH.out]; rintro e w3_ ⟨rfl, hb3⟩; have HB3 := Lib.hid hb3; have hz3 := hb3.size; clear hb3) | (go_at_call 48; refine (refAgree_any O B f L s (by omega) _ (HT.out.up (HBB.out.trans ((HB2.out.mono hz).trans (HB3.out.mono (by omega)))))).mono ?_; rw [HAG.out]; rintro e w4_ ⟨rfl, rfl⟩))
        go_roundw
        case rel => exact ⟨s + 1, m, true, by go_num, rfl, by omega, by omega, Lib.hid HST.out, (OwnInts.mono (HM.out.up HB3.out) (by omega)), HBB.out.trans ((HB2.out.mono hz).trans (HB3.out.mono (by omega)))⟩
        case measure => first | (simp [intOf]; done) | (simp [intOf]; omega)
      | true =>
       cases ah with
       | false =>
        go_wp2_with (first | (go_at_call 111; refine (members_any s (by omega) _).mono ?_; rw [HLI.out]; rintro e w2_ ⟨v2, rfl, hown2, hb2⟩; have HM := Lib.hid hown2; obtain ⟨A2, c2, rfl, hi2⟩ := ints_of_row hown2; have HI2 := Lib.hid hi2; have HB2 := Lib.hid hb2; have hz2 := hb2.size; clear hown2 hi2 hb2) | (go_at_call 112; refine (ahead_any A2 A4 c2 c4 m l (by omega) (by omega) _ HI2.out (HI4.out.up HB2.out)).mono ?_; rw [HAH.out]; rintro e w3_ ⟨rfl, hb3⟩; have HB3 := Lib.hid hb3; have hz3 := hb3.size; clear hb3))
        go_roundw
        case rel => exact ⟨s + 1, l, true, by go_num, rfl, by omega, by omega, Lib.hid HST.out, ((HO.out.up HB2.out).up HB3.out), HBB.out.trans ((HB2.out.mono hz).trans (HB3.out.mono (by omega)))⟩
        case measure => first | (simp [intOf]; done) | (simp [intOf]; omega)
       | true =>
        go_wp2_with (first | (go_at_call 111; refine (members_any s (by omega) _).mono ?_; rw [HLI.out]; rintro e w2_ ⟨v2, rfl, hown2, hb2⟩; have HM := Lib.hid hown2; obtain ⟨A2, c2, rfl, hi2⟩ := ints_of_row hown2; have HI2 := Lib.hid hi2; have HB2 := Lib.hid hb2; have hz2 := hb2.size; clear hown2 hi2 hb2) | (go_at_call 112; refine (ahead_any A2 A4 c2 c4 m l (by omega) (by omega) _ HI2.out (HI4.out.up HB2.out)).mono ?_; rw [HAH.out]; rintro e w3_ ⟨rfl, hb3⟩; have HB3 := Lib.hid hb3; have hz3 := hb3.size; clear hb3) | (go_at_call 48; refine (refAgree_any O B f L s (by omega) _ (HT.out.up (HBB.out.trans ((HB2.out.mono hz).trans (HB3.out.mono (by omega)))))).mono ?_; rw [HAG.out]; rintro e w4_ ⟨rfl, rfl⟩))
        go_roundw
        case rel => exact ⟨s + 1, l, true, by go_num, rfl, by omega, by omega, Lib.hid HST.out, ((HO.out.up HB2.out).up HB3.out), HBB.out.trans ((HB2.out.mono hz).trans (HB3.out.mono (by omega)))⟩
        case measure => first | (simp [intOf]; done) | (simp [intOf]; omega)
    ·have hlt2' : ¬ (s : Int) < (b : Int) := by omega
     obtain rfl : s = b := by omega
     go_wp2_with fail
     go_ret2
     exact ⟨_, by rw [← HBI.out, hq.out]; rfl, by rw [← HBI.out, hq.out]; exact HO.out, HBB.out⟩
def setTo (hs : List Hf) (sp : Nat) : Nat → Nat
 | 0 => 0
 | i + 1 => setTo hs sp i + (if spotP hs sp i = true then 2 ^ i else 0)
def wholeTo (hs : List Hf) : Nat → Nat
 | 0 => 0
 | k + 1 => wholeTo hs k + setTo hs k hs.length
theorem setTo_lt (hs : List Hf) (sp i : Nat) : setTo hs sp i < 2 ^ i := by
 induction i with
 | zero => exact Nat.one_pos
 | succ i ih =>
  have : 2 ^ (i + 1) = 2 * 2 ^ i := by rw [Nat.pow_succ]; omega
  unfold setTo
  split <;> omega
theorem wholeTo_le (hs : List Hf) (k : Nat) (hl : hs.length ≤ 6) : wholeTo hs k ≤ 64 * k := by
 induction k with
 | zero => exact Nat.le_refl _
 | succ k ih =>
  have := setTo_lt hs k hs.length
  have h6 : 2 ^ hs.length ≤ 64 := (pow_seven hl).2
  unfold wholeTo
  omega
def toppedR (L : Nat → List Mx) (hs : List Hf) : Bool := agreeB L (setTo hs 0 hs.length) && (agreeB L (setTo hs 1 hs.length) && (agreeB L (setTo hs 2 hs.length) && !agreeB L (wholeTo hs 3)))
theorem topped_no {L : Nat → List Mx} {hs : List Hf} {k : Nat} (hk : k < 3) (h : agreeB L (setTo hs k hs.length) = false) : toppedR L hs = false := by
 unfold toppedR
 match k, hk with
 | 0, _ => rw [h]; rfl
 | 1, _ => rw [h, Bool.false_and, Bool.and_false]
 | 2, _ => rw [h, Bool.false_and, Bool.and_false, Bool.and_false]
theorem topped_yes {L : Nat → List Mx} {hs : List Hf} (h : ∀ j, j < 3 → agreeB L (setTo hs j hs.length) = true) : toppedR L hs = !agreeB L (wholeTo hs 3) := by
 unfold toppedR
 rw [h 0 (by decide), h 1 (by decide), h 2 (by decide), Bool.true_and, Bool.true_and, Bool.true_and]
theorem agrees_next {L : Nat → List Mx} {hs : List Hf} {k : Nat} (h : ∀ j, j < k → agreeB L (setTo hs j hs.length) = true) (hk : agreeB L (setTo hs k hs.length) = true) : ∀ j, j < k + 1 → agreeB L (setTo hs j hs.length) = true := by
 intro j hj
 by_cases e : j = k
 ·rw [e, hk]
 ·exact h j (by omega)
theorem setTo_yes {hs : List Hf} {sp i : Nat} {y : Hf} (hy : hs[i]? = some y) (h : y.spot = (sp : Int)) : setTo hs sp (i + 1) = setTo hs sp i + 2 ^ i := by
 show _ + (if _ then _ else _) = _
 rw [if_pos (by unfold spotP; rw [hy]; simp [h])]
theorem setTo_no {hs : List Hf} {sp i : Nat} {y : Hf} (hy : hs[i]? = some y) (h : ¬ y.spot = (sp : Int)) : setTo hs sp (i + 1) = setTo hs sp i := by
 show _ + (if _ then _ else _) = _
 rw [if_neg (by unfold spotP; rw [hy]; simp [h])]
 rfl
set_option maxRecDepth 100000 in
set_option maxHeartbeats 8000000 in
theorem refTopped_any (full emp : Int) (A : Option Addr) (c : Nat) (hs : List Hf) (hl : hs.length ≤ 6) (O B : Nat) (f : Nat → Value) (L : Nat → List Mx) (w : World) (hA : HandsAt w A hs) (hT : Tab w O B f f L) :
  Calls Try.prog 50 #[.agg #[.int .i64 full, .int .i64 emp, .slice A hs.length c], .slice (some ⟨O, 0, none⟩) 64 64] w fun e w' => e = .returned (.bool (toppedR L hs)) ∧ Below w.heap.size w w' := by
 have HT := Lib.hid hT
 have HA := Lib.hid hA
 clear hT hA
 go_enter Try.func50, Try.ntmps50
 go_wp2_with fail
 go_loopw [5, 6, 7, 8, 9] (fun v5 v6 v7 v8 v9 wr => ∃ k : Nat, v6 = .int .i64 (k : Int) ∧ k ≤ 3 ∧ v5 = .int .i64 ((wholeTo hs k : Nat) : Int) ∧ Hid (∀ j, j < k → agreeB L (setTo hs j hs.length) = true) ∧ Holds wr (w.heap.size) 37 #[.int .i64 full, .int .i64 emp, .slice A hs.length c] ∧ Below w.heap.size w wr) (fun _ v6 _ _ _ _ => 3 - (intOf v6).toNat)
 case atStart => exact ⟨0, rfl, by decide, rfl, Lib.hid (fun j hj => absurd hj (Nat.not_lt_zero j)), by (repeat first | (with_reducible first | assumption | apply Holds.set3 | apply Holds.set4 | apply Holds.putL | ((refine Holds.new' _ _ ?_); (simp; done)) | refine Holds.alloc ?_ _ | refine Holds.drew ?_ | refine Holds.far ?_ (by simp only [ne_eq]; omega) _) | rfl), zg⟩
 case round =>
  rename World => wa
  obtain ⟨k, rfl, hk, rfl, hg, hy_, hB⟩ := hrel
  have HY := Lib.hid hy_
  have HBB := Lib.hid hB
  have hz := hB.size
  have hw := wholeTo_le hs k hl
  obtain ⟨u, hu⟩ : ∃ u, u = wholeTo hs k := ⟨_, rfl⟩
  rw [← hu] at hw ⊢
  have HU := Lib.hid hu
  clear hu hy_ hB
  obtain ⟨ky0, ky1, ky2⟩ := HY.out.c3
  by_cases h3 : k < 3
  ·have h3' : (k : Int) < 3 := by omega
   go_wp2_with fail
   go_loopw [7, 8, 9] (fun v7 v8 v9 wr => ∃ i : Nat, i ≤ hs.length ∧ v9 = .int .i64 (i : Int) ∧ v7 = .int .i64 ((setTo hs k i : Nat) : Int) ∧ v8 = .int .i64 ((2 ^ i : Nat) : Int) ∧ wr = wa) (fun _ _ v9 _ => hs.length - (intOf v9).toNat)
   case atStart => exact ⟨0, Nat.zero_le _, rfl, rfl, rfl, rfl⟩
   case round =>
    obtain ⟨i, hi, rfl, rfl, rfl, rfl⟩ := hrel
    have hp := pow_seven (by omega : i ≤ 6)
    have hst := setTo_lt hs k i
    obtain ⟨b, hb⟩ : ∃ b, b = 2 ^ i := ⟨_, rfl⟩
    obtain ⟨t, ht⟩ : ∃ t, t = setTo hs k i := ⟨_, rfl⟩
    rw [← hb] at hp hst
    rw [← ht] at hst
    rw [← hb, ← ht]
    by_cases hlt : i < hs.length
    ·have hpn : 2 ^ (i + 1) = 2 * b := by rw [Nat.pow_succ, hb]; omega
     have hlt' : (i : Int) < (hs.length : Int) := by omega
     obtain ⟨y, hy2⟩ : ∃ y, hs[i]? = some y := ⟨_, List.getElem?_eq_getElem hlt⟩
     obtain ⟨E, oo, eH, hcell⟩ := (HA.out.up HBB.out) (by omega)
     subst eH
     obtain ⟨ke0, ke1, ke2, ke3, ke4⟩ := hcell i y hy2
     clear hcell ke1 ke2 ke3 ke4
     have HYY := Lib.hid hy2
     clear hy2
     obtain ⟨ys, hys⟩ : ∃ z, z = y.spot := ⟨_, rfl⟩
     rw [← hys] at ke0
     by_cases hsp : ys = (k : Int)
     ·have HS : Hid (setTo hs k (i + 1) = t + b) := Lib.hid (by rw [setTo_yes HYY.out (hys ▸ hsp), ← hb, ← ht])
      clear ht hb hys
      subst hsp
      go_wp2_with fail
      go_roundw
      case rel => exact ⟨i + 1, by omega, by go_num, (by rw [HS.out]; first | done | go_num), by rw [hpn]; go_num, by first | rfl | exact True.intro⟩
      case measure => first | (simp [intOf]; done) | (simp [intOf]; omega)
     ·have HS : Hid (setTo hs k (i + 1) = t) := Lib.hid (by rw [setTo_no HYY.out (hys ▸ hsp), ← ht])
      clear ht hb hys
      go_wp2_with fail
      go_roundw
      case rel => exact ⟨i + 1, by omega, by go_num, (by rw [HS.out]; first | done | go_num), by rw [hpn]; go_num, by first | rfl | exact True.intro⟩
      case measure => first | (simp [intOf]; done) | (simp [intOf]; omega)
    ·obtain rfl : i = hs.length := by omega
     have hlt' : ¬ (hs.length : Int) < (hs.length : Int) := by omega
     have HW : Hid (wholeTo hs (k + 1) = u + t) := Lib.hid (by rw [wholeTo, ← HU.out, ← ht])
     obtain ⟨ag, hag⟩ : ∃ g, agreeB L t = g := ⟨_, rfl⟩
     have HAG := Lib.hid hag
     have HTT := Lib.hid ht
     clear ht hb hag
     cases ag with
     | true =>
      have HN := Lib.hid (agrees_next hg.out (by rw [← HTT.out]; exact HAG.out))
      go_wp2_with (go_at_call 48; refine (refAgree_any O B f L t (by omega) _ (HT.out.up HBB.out)).mono ?_; rw [HAG.out]; rintro e w4_ ⟨rfl, rfl⟩)
      go_roundw
      case rel => exact ⟨k + 1, by go_num, by omega, by rw [HW.out]; go_num, HN, HY.out, HBB.out⟩
      case measure => first | (simp [intOf]; done) | (simp [intOf]; omega)
     | false =>
      have HN : Hid (toppedR L hs = false) := Lib.hid (topped_no h3 (by rw [← HTT.out]; exact HAG.out))
      go_wp2_with (go_at_call 48; refine (refAgree_any O B f L t (by omega) _ (HT.out.up HBB.out)).mono ?_; rw [HAG.out]; rintro e w4_ ⟨rfl, rfl⟩)
      go_ret
      exact ⟨by rw [HN.out]; rfl, HBB.out⟩
  ·obtain rfl : k = 3 := by omega
   obtain ⟨ag, hag⟩ : ∃ g, agreeB L u = g := ⟨_, rfl⟩
   have HAG := Lib.hid hag
   have HN : Hid (toppedR L hs = !ag) := Lib.hid (by rw [topped_yes hg.out, ← HU.out, hag])
   clear hag
   go_wp2_with (go_at_call 48; refine (refAgree_any O B f L u (by omega) _ (HT.out.up HBB.out)).mono ?_; rw [HAG.out]; rintro e w4_ ⟨rfl, rfl⟩)
   go_ret
   exact ⟨by rw [HN.out]; rfl, HBB.out⟩
theorem append_ints (w : World) (ty : TypeId) (g n d B : Nat) (G : Option Addr) (xs : List Int) (hown : w.ownsRow B 3 1 (.slice (some ⟨g, 0, none⟩) 0 n) 0 []) (hn : xs.length ≤ n) (hG : IntsAt w G xs) (hd : G = none → xs.length = 0 ∧ d = 0) :
  ∃ v w', (Builtin.append_ #[87, 87] ty #[.slice (some ⟨g, 0, none⟩) 0 n, .slice G xs.length d]).run Try.prog w = .ok v w' ∧ OwnInts w' B v xs ∧ w.grownBy w' (some g) := by
 obtain ⟨i0, hi, hz0, hz1, hz2⟩ := info_parts info_int
 cases G with
 | none =>
  obtain ⟨h0, rfl⟩ := hd rfl
  have e : xs = [] := List.eq_nil_of_length_eq_zero h0
  subst e
  exact ⟨_, w, run_append_owned_none (P := Try.prog) (w := w) B 87 ty 3 i0 1 und_ints hi _ 0 [] hown, hown, grow_refl w g⟩
 | some a =>
  obtain ⟨w', hrun, ho, hg⟩ := run_append_fits (P := Try.prog) (w := w) B 87 ty 3 i0 1 und_ints hi hz1 g 0 n [] hown a xs.length d (xs.map (Value.int .i64)) (by simp) (by
   intro j u hj
   rw [List.getElem?_map] at hj
   cases hx : xs[j]? with
   | none => rw [hx] at hj; cases hj
   | some x =>
    rw [hx] at hj
    cases hj
    obtain ⟨B', o, e, hc⟩ := hG (by have := (List.getElem?_eq_some_iff.1 hx).1; omega)
    cases e
    rw [Addr.add_mid]
    exact hc j x hx) (by
   intro v hv
   obtain ⟨x, _, rfl⟩ := List.mem_map.1 hv
   rfl) (by omega)
  simp only [Nat.zero_add, List.nil_append] at ho hrun
  exact ⟨_, w', hrun, ho, hg⟩
set_option maxRecDepth 100000 in
set_option maxHeartbeats 2000000 in
theorem DupInts_any (G : Option Addr) (d : Nat) (xs : List Int) (w : World) (hG : IntsAt w G xs) (hl : xs.length ≤ 1000) (hd : G = none → xs.length = 0 ∧ d = 0) :
  Calls Try.prog 46 #[.slice G xs.length d] w fun e w' => ∃ v, e = .returned v ∧ OwnInts w' w.heap.size v xs ∧ Below w.heap.size w w' := by
 obtain ⟨i0, hi, hz0, hz1, hz2⟩ := info_parts info_int
 obtain ⟨w2, hrun2, hown2, hgr2⟩ := run_make_own (P := Try.prog) (w := w) w.heap.size 87 3 i0 _ 1 und_ints hi hz0 hz1 .i64 .i64 xs.length (by rw [hz2]; omega) (by unfold maxLen; omega) (Nat.le_refl _)
 have hb2 := below_none hgr2
 obtain ⟨v, w3, hrun3, hown3, hgr3⟩ := append_ints w2 87 w.heap.size xs.length d w.heap.size G xs hown2 (Nat.le_refl _) (hG.up hb2) hd
 have HO := Lib.hid hown3
 have HB : Hid (Below w.heap.size w w3) := Lib.hid (hb2.grown hgr3 hb2.size (fun k hk => by cases hk; exact Nat.le_refl _))
 clear hG hown2 hgr2 hown3 hgr3 hb2
 go_enter Try.func46, Try.ntmps46
 go_wp2_with (at_builtin; (refine wpList_append_run _ rfl _ _ _ _ rfl _ _ rfl rfl hrun3 ?_))
 go_ret
 exact ⟨v, rfl, HO.out, HB.out⟩
end Go.Proofs.Ytifffonoipapgaa
