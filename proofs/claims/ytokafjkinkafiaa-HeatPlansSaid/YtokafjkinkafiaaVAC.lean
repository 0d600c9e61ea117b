
import Derived.Test.YtokafjkinkafiaaVAA
import Derived.Test.YtokafjkinkafiaaVAB
set_option linter.unusedSimpArgs false
set_option linter.unusedVariables false
namespace Go.Proofs.Ytokafjkinkafiaa
open Go.RowKit
theorem off_any (n lo hi : Int) (w : World) : Calls Try.prog 50 #[.int .i64 n, .int .i64 lo, .int .i64 hi] w fun e w' => e = .returned (.bool (!within n lo hi)) ∧ w' = w := by
 by_cases h1 : n < lo
 ·have hw : within n lo hi = false := by simp only [within, Bool.and_eq_false_iff, decide_eq_false_iff_not]; omega
  go_enter Try.func50, Try.ntmps50
  go_wp2_with fail
  go_ret
  exact ⟨by first | rfl | (rw [hw]; rfl), rfl⟩
 ·by_cases h2 : hi < n
  ·have hw : within n lo hi = false := by simp only [within, Bool.and_eq_false_iff, decide_eq_false_iff_not]; omega
   go_enter Try.func50, Try.ntmps50
   go_wp2_with fail
   go_ret
   exact ⟨by first | rfl | (rw [hw]; rfl), rfl⟩
  ·have hw : within n lo hi = true := by simp only [within, Bool.and_eq_true, decide_eq_true_eq]; omega
   go_enter Try.func50, Try.ntmps50
   go_wp2_with fail
   go_ret
   exact ⟨by first | rfl | (rw [hw]; rfl), rfl⟩
theorem rise_cell {w : World} {B i : Nat} {t : TypeId} {b : Br} {v : Value} {r : Int} (h : Holds w B t #[.int .i64 b.cool, .int .i64 b.gangs, .int .i64 b.r0, .int .i64 b.r1, .int .i64 b.r2, .int .i64 b.r3, .int .i64 b.r4, .int .i64 b.r5, v]) (hr : b.rises[i]? = some r) : w.cell? ⟨B, 2 + i, none⟩ = some (.int .i64 r) := by
 obtain ⟨B', o', e, hc⟩ := rises_at h (by simp [Br.rises])
 cases e
 exact hc i r hr
theorem sorted_not {xs : List Int} {j : Nat} {x y : Int} (hx : xs[j]? = some x) (hy : xs[j + 1]? = some y) (h : y < x) : risesFrom xs = false := by
 cases hr : risesFrom xs with
 | false => rfl
 | true =>
  have := sorted_drop (j := j) hr
  rw [sorted_step hx hy, decide_eq_false (by omega)] at this
  cases this
theorem sorted_all : ∀ {xs : List Int}, (∀ (j : Nat) (x y : Int), xs[j]? = some x → xs[j + 1]? = some y → x ≤ y) → risesFrom xs = true := by
 intro xs
 induction xs with
 | nil => intro _; rfl
 | cons a l ih =>
  intro h
  match l, ih, h with
  | [], _, _ => rfl
  | b :: l, ih, h =>
   rw [risesFrom, ih (fun j x y hx hy => h (j + 1) x y hx hy), decide_eq_true (h 0 a b rfl rfl)]
   rfl
def UpTo (xs : List Int) (i : Nat) : Prop := ∀ (j : Nat) (x y : Int), j + 1 < i → xs[j]? = some x → xs[j + 1]? = some y → x ≤ y
theorem UpTo.next {xs : List Int} {k : Nat} {x y : Int} (h : UpTo xs (k + 1)) (hx : xs[k]? = some x) (hy : xs[k + 1]? = some y) (hp : x ≤ y) : UpTo xs (k + 1 + 1) := by
 intro j a b hj ha hb
 by_cases e : j = k
 ·subst e; rw [hx] at ha; rw [hy] at hb; cases ha; cases hb; exact hp
 ·exact h j a b (by omega) ha hb
set_option maxRecDepth 100000 in
set_option maxHeartbeats 4000000 in
theorem refCheck_any (b : Br) (A : Option Addr) (c : Nat) (bs : List Bn) (w : World) (hA : BinsAt w A bs) (hl : bs.length ≤ 1000) :
  Calls Try.prog 13 #[.agg #[.int .i64 b.cool, .int .i64 b.gangs, .int .i64 b.r0, .int .i64 b.r1, .int .i64 b.r2, .int .i64 b.r3, .int .i64 b.r4, .int .i64 b.r5, .slice A bs.length c]] w fun e w' => e = .returned (.int .i64 (barnErr b bs)) ∧ Below w.heap.size w w' := by
 have HA := Lib.hid hA
 clear hA
 obtain ⟨E, hE⟩ : ∃ z, z = barnErr b bs := ⟨_, rfl⟩
 rw [← hE]
 have HEQ := Lib.hid hE
 clear hE
 cases hw : within (bs.length : Int) 1 4 with
 | false =>
  go_enter Try.func13, Try.ntmps13
  go_wp2_with (go_at_call 50; refine (off_any _ _ _ _).mono ?_; simp only [hw, Bool.not_true, Bool.not_false]; rintro e w2_ ⟨rfl, rfl⟩)
  go_ret
  exact ⟨by rw [HEQ.out, barnErr_many hw]; rfl, zg⟩
 | true =>
  have hl4 : bs.length ≤ 4 := by simp only [within, Bool.and_eq_true, decide_eq_true_eq] at hw; omega
  cases hw0 : within b.cool 0 60 with
  | false =>
   go_enter Try.func13, Try.ntmps13
   go_wp2_with (go_at_call 50; refine (off_any _ _ _ _).mono ?_; simp only [hw, hw0, Bool.not_true, Bool.not_false]; rintro e w2_ ⟨rfl, rfl⟩)
   go_ret
   exact ⟨by rw [HEQ.out, barnErr_range hw (by rw [hw0]; rfl)]; rfl, zg⟩
  | true =>
   cases hw1 : within b.gangs 0 3 with
   | false =>
    go_enter Try.func13, Try.ntmps13
    go_wp2_with (go_at_call 50; refine (off_any _ _ _ _).mono ?_; simp only [hw, hw0, hw1, Bool.not_true, Bool.not_false]; rintro e w2_ ⟨rfl, rfl⟩)
    go_ret
    exact ⟨by rw [HEQ.out, barnErr_range hw (by rw [hw0, hw1]; rfl)]; rfl, zg⟩
   | true =>
    go_enter Try.func13, Try.ntmps13
    go_wp2_with (go_at_call 50; refine (off_any _ _ _ _).mono ?_; simp only [hw, hw0, hw1, Bool.not_true, Bool.not_false]; rintro e w2_ ⟨rfl, rfl⟩)
    go_loopw [3] (fun v3 wz => ∃ i : Nat, v3 = .int .i64 (i : Int) ∧ i ≤ 6 ∧ (∀ y ∈ b.rises.take i, riseOk y = true) ∧ Below w.heap.size w wz ∧ Holds wz w.heap.size 33 #[.int .i64 b.cool, .int .i64 b.gangs, .int .i64 b.r0, .int .i64 b.r1, .int .i64 b.r2, .int .i64 b.r3, .int .i64 b.r4, .int .i64 b.r5, .slice A bs.length c]) (fun v3 _ => 6 - (intOf v3).toNat)
    case atStart => exact ⟨0, rfl, by decide, (fun y hy => by simp at hy), zg, by (repeat first | (with_reducible assumption) | ((with_reducible refine Holds.new' _ _ ?_); (simp; done)) | (with_reducible refine Holds.alloc ?_ _) | ((with_reducible refine Holds.far ?_ (by simp only [ne_eq]; omega) _)) | rfl)⟩
    case round =>
     obtain ⟨i, rfl, hi, hall, hB, hH⟩ := hrel
     have HALL := Lib.hid hall
     have HB := Lib.hid hB
     have HH := Lib.hid hH
     clear hall hB hH
     have kb8 : wr.cell? ⟨w.heap.size, 8, none⟩ = some (.slice A bs.length c) := HH.out.cell 8
     have lb := HH.out.lt
     by_cases hlt : i < 6
     ·have hlt' : (i : Int) < 6 := by omega
      obtain ⟨r, hr⟩ : ∃ g, b.rises[i]? = some g := ⟨_, List.getElem?_eq_getElem (by simp [Br.rises]; omega)⟩
      have kr := rise_cell HH.out hr
      have HR := Lib.hid hr
      clear hr
      by_cases hz : r = 0
      ·subst hz
       go_wp2_with fail
       go_roundw
       case rel => exact ⟨i + 1, by go_num, by omega, take_next HR.out HALL.out (rfl), HB.out, HH.out⟩
       case measure => first | (simp [intOf]; done) | (simp [intOf]; omega)
      ·cases hk : within r 6 20 with
       | false =>
        go_wp2_with (go_at_call 50; refine (off_any _ _ _ _).mono ?_; simp only [hk, Bool.not_true, Bool.not_false]; rintro e w2_ ⟨rfl, rfl⟩)
        go_ret
        exact ⟨by rw [HEQ.out, barnErr_range hw (by rw [all_not HR.out (by simp [riseOk, hk, hz])]; simp)]; rfl, HB.out⟩
       | true =>
        go_wp2_with (go_at_call 50; refine (off_any _ _ _ _).mono ?_; simp only [hk, Bool.not_true, Bool.not_false]; rintro e w2_ ⟨rfl, rfl⟩)
        go_roundw
        case rel => exact ⟨i + 1, by go_num, by omega, take_next HR.out HALL.out (by simp [riseOk, hk]), HB.out, HH.out⟩
        case measure => first | (simp [intOf]; done) | (simp [intOf]; omega)
     ·have hie : i = 6 := by omega
      have HR6 : Hid (b.rises.all riseOk = true) := Lib.hid (List.all_eq_true.2 (fun x hx => HALL.out x (by rw [hie]; exact hx)))
      have hlt' : ¬ (i : Int) < 6 := by omega
      go_wp2_with fail
      go_loopw [4] (fun v4 wz => ∃ i : Nat, v4 = .int .i64 (i : Int) ∧ i ≤ bs.length ∧ (∀ y ∈ bs.take i, y.inRange = true) ∧ Below wr.heap.size wr wz) (fun v4 _ => bs.length - (intOf v4).toNat)
      case atStart => exact ⟨0, rfl, Nat.zero_le _, (fun y hy => by simp at hy), zg⟩
      case round =>
       rename World => w2
       obtain ⟨i, rfl, hi, hall, hb2⟩ := hrel
       have HALL := Lib.hid hall
       have HB2 := Lib.hid (HB.out.trans (hb2.mono HB.out.size))
       have HH2 := Lib.hid (HH.out.up hb2)
       have HV2 := Lib.hid hb2
       clear hall hb2 kb8
       have kb8 : w2.cell? ⟨w.heap.size, 8, none⟩ = some (.slice A bs.length c) := HH2.out.cell 8
       have lb2 := HH2.out.lt
       have ls2 := HV2.out.size
       have lt2 := HB2.out.size
       by_cases hlt : i < bs.length
       ·have hlt' : (i : Int) < bs.length := by omega
        obtain ⟨g, hg⟩ : ∃ g, bs[i]? = some g := ⟨_, List.getElem?_eq_getElem hlt⟩
        obtain ⟨E0, oo, rfl, hcell⟩ := (HA.out.up HB2.out) (by omega)
        have ke0 : w2.cell? ⟨E0, oo + i * 4, none⟩ = some (.int .i64 g.warm) := hcell i g hg 0 _ rfl
        have ke1 : w2.cell? ⟨E0, oo + i * 4 + 1, none⟩ = some (.int .i64 g.mark) := hcell i g hg 1 _ rfl
        have ke2 : w2.cell? ⟨E0, oo + i * 4 + 2, none⟩ = some (.int .i64 g.lo) := hcell i g hg 2 _ rfl
        have ke3 : w2.cell? ⟨E0, oo + i * 4 + 3, none⟩ = some (.int .i64 g.hi) := hcell i g hg 3 _ rfl
        have lE := World.block_lt_of_cell? w2 _ ke0
        have HG := Lib.hid hg
        clear hcell hg
        cases hr0 : within g.mark 0 60 with
        | false =>
         go_wp2_with (go_at_call 50; refine (off_any _ _ _ _).mono ?_; simp only [hr0, Bool.not_true, Bool.not_false]; rintro e w2_ ⟨rfl, rfl⟩)
         go_ret
         exact ⟨by rw [HEQ.out, barnErr_range hw (by rw [all_not HG.out (by simp only [Bn.inRange, hr0, Bool.and_false, Bool.false_and])]; simp)]; rfl, HB2.out.trans zg⟩
        | true =>
         cases hr1 : within g.warm 0 g.mark with
         | false =>
          go_wp2_with (go_at_call 50; refine (off_any _ _ _ _).mono ?_; simp only [hr0, hr1, Bool.not_true, Bool.not_false]; rintro e w2_ ⟨rfl, rfl⟩)
          go_ret
          exact ⟨by rw [HEQ.out, barnErr_range hw (by rw [all_not HG.out (by simp only [Bn.inRange, hr0, hr1, Bool.and_false, Bool.false_and])]; simp)]; rfl, HB2.out.trans zg⟩
         | true =>
          cases hr2 : within g.lo 0 5 with
          | false =>
           go_wp2_with (go_at_call 50; refine (off_any _ _ _ _).mono ?_; simp only [hr0, hr1, hr2, Bool.not_true, Bool.not_false]; rintro e w2_ ⟨rfl, rfl⟩)
           go_ret
           exact ⟨by rw [HEQ.out, barnErr_range hw (by rw [all_not HG.out (by simp only [Bn.inRange, hr0, hr1, hr2, Bool.and_false, Bool.false_and])]; simp)]; rfl, HB2.out.trans zg⟩
          | true =>
           cases hr3 : within g.hi 0 5 with
           | false =>
            go_wp2_with (go_at_call 50; refine (off_any _ _ _ _).mono ?_; simp only [hr0, hr1, hr2, hr3, Bool.not_true, Bool.not_false]; rintro e w2_ ⟨rfl, rfl⟩)
            go_ret
            exact ⟨by rw [HEQ.out, barnErr_range hw (by rw [all_not HG.out (by simp only [Bn.inRange, hr0, hr1, hr2, hr3, Bool.and_false, Bool.false_and])]; simp)]; rfl, HB2.out.trans zg⟩
           | true =>
            go_wp2_with (go_at_call 50; refine (off_any _ _ _ _).mono ?_; simp only [hr0, hr1, hr2, hr3, Bool.not_true, Bool.not_false]; rintro e w2_ ⟨rfl, rfl⟩)
            go_roundw
            case rel => exact ⟨i + 1, by go_num, by omega, take_next HG.out HALL.out (by simp only [Bn.inRange, hr0, hr1, hr2, hr3, Bool.and_self]), HV2.out.trans zg⟩
            case measure => first | (simp [intOf]; done) | (simp [intOf]; omega)
       ·have hie : i = bs.length := by omega
        have hrr : bs.all Bn.inRange = true := List.all_eq_true.2 (fun x hx => HALL.out x (by rw [hie, List.take_length]; exact hx))
        have HRR : Hid ((within b.cool 0 60 && within b.gangs 0 3 && b.rises.all riseOk && bs.all Bn.inRange) = true) := Lib.hid (by rw [hw0, hw1, HR6.out, hrr]; rfl)
        clear hrr
        have hlt' : ¬ (i : Int) < bs.length := by omega
        go_wp2_with fail
        go_loopw [6] (fun v6 wz => ∃ i : Nat, v6 = .int .i64 (i : Int) ∧ 1 ≤ i ∧ i ≤ 6 ∧ UpTo b.rises i ∧ Below w2.heap.size w2 wz) (fun v6 _ => 6 - (intOf v6).toNat)
        case atStart => exact ⟨1, rfl, Nat.le_refl _, by decide, (fun j a b h => by omega), zg⟩
        case round =>
         rename World => w3
         obtain ⟨i, rfl, hi1, hi6, hf, hb3⟩ := hrel
         have HF := Lib.hid hf
         have HB3 := Lib.hid (HB2.out.trans (hb3.mono HB2.out.size))
         have HH3 := Lib.hid (HH2.out.up hb3)
         have HV3 := Lib.hid hb3
         clear hf hb3 kb8
         have kb8 : w3.cell? ⟨w.heap.size, 8, none⟩ = some (.slice A bs.length c) := HH3.out.cell 8
         have lb3 := HH3.out.lt
         by_cases hlt : i < 6
         ·have hlt' : (i : Int) < 6 := by omega
          obtain ⟨k, rfl⟩ : ∃ k, i = k + 1 := ⟨i - 1, by omega⟩
          obtain ⟨x, hx⟩ : ∃ g, b.rises[k]? = some g := ⟨_, List.getElem?_eq_getElem (by simp [Br.rises]; omega)⟩
          obtain ⟨y, hy⟩ : ∃ g, b.rises[k + 1]? = some g := ⟨_, List.getElem?_eq_getElem (by simp [Br.rises]; omega)⟩
          have kx := rise_cell HH3.out hx
          have ky := rise_cell HH3.out hy
          have HX := Lib.hid hx
          have HY := Lib.hid hy
          clear hx hy
          by_cases hp : x ≤ y
          ·go_wp2_with fail
           rename_i Kc hKc
           have HSL := Lib.hid (show slotsOf [some 74, some 75, some 76, some 77, some 78, some 79, some 80, some 81, some 82, some 83] = [74, 75, 76, 77, 78, 79, 80, 81, 82, 83] from rfl)
           refine wp_region_partsG (by kernel_rfl) [some 74, some 75, some 76, some 77, some 78, some 79, some 80, some 81, some 82, some 83] (fun jq xq w' => match jq with
            | 0 => xq 74 = .int .i64 ((k + 1 : Nat) : Int)
            | 1 => xq 75 = .pointer (some ⟨w.heap.size, 2, none⟩)
            | 2 => xq 76 = .pointer (some ⟨w.heap.size, 2 + (k + 1), none⟩)
            | 3 => xq 77 = .int .i64 y
            | 4 => xq 78 = .int .i64 ((k + 1 : Nat) : Int)
            | 5 => xq 79 = .int .i64 (k : Int)
            | 6 => xq 80 = .pointer (some ⟨w.heap.size, 2, none⟩)
            | 7 => xq 81 = .pointer (some ⟨w.heap.size, 2 + k, none⟩)
            | 8 => xq 82 = .int .i64 x
            | 9 => xq 83 = .bool false
            | _ => True) [[74], [75], [76], [77], [78], [79], [80], [81], [82], [83]] [] (fun w' => Below w3.heap.size w3 w') (by kernel_rfl)  ?_ ?_ (fun w' w'' hb h => h.trans (hb.mono h.size)) (Below.refl _ _) ?_ ?_ ?_
           ·intro jq xq xq' wqq h hv
            match jq, h, hv with
            | 0, h, hv => show xq' 74 = .int .i64 ((k + 1 : Nat) : Int); rw [← h 74 (by decide)]; exact hv
            | 1, h, hv => show xq' 75 = .pointer (some ⟨w.heap.size, 2, none⟩); rw [← h 75 (by decide)]; exact hv
            | 2, h, hv => show xq' 76 = .pointer (some ⟨w.heap.size, 2 + (k + 1), none⟩); rw [← h 76 (by decide)]; exact hv
            | 3, h, hv => show xq' 77 = .int .i64 y; rw [← h 77 (by decide)]; exact hv
            | 4, h, hv => show xq' 78 = .int .i64 ((k + 1 : Nat) : Int); rw [← h 78 (by decide)]; exact hv
            | 5, h, hv => show xq' 79 = .int .i64 (k : Int); rw [← h 79 (by decide)]; exact hv
            | 6, h, hv => show xq' 80 = .pointer (some ⟨w.heap.size, 2, none⟩); rw [← h 80 (by decide)]; exact hv
            | 7, h, hv => show xq' 81 = .pointer (some ⟨w.heap.size, 2 + k, none⟩); rw [← h 81 (by decide)]; exact hv
            | 8, h, hv => show xq' 82 = .int .i64 x; rw [← h 82 (by decide)]; exact hv
            | 9, h, hv => show xq' 83 = .bool false; rw [← h 83 (by decide)]; exact hv
            | _ + 10, _, _ => trivial
           ·intro jq xq wqq w' hb' hv
            match jq, hv with
            | 0, hv => exact hv
            | 1, hv => exact hv
            | 2, hv => exact hv
            | 3, hv => exact hv
            | 4, hv => exact hv
            | 5, hv => exact hv
            | 6, hv => exact hv
            | 7, hv => exact hv
            | 8, hv => exact hv
            | 9, hv => exact hv
            | _ + 10, _ => trivial
           ·intro jq hj
            match jq, hj with
            | 0, hj => exact absurd hj (by decide)
            | 1, hj => exact absurd hj (by decide)
            | 2, hj => exact absurd hj (by decide)
            | 3, hj => exact absurd hj (by decide)
            | 4, hj => exact absurd hj (by decide)
            | 5, hj => exact absurd hj (by decide)
            | 6, hj => exact absurd hj (by decide)
            | 7, hj => exact absurd hj (by decide)
            | 8, hj => exact absurd hj (by decide)
            | 9, hj => exact absurd hj (by decide)
            | _ + 10, _ => trivial
           ·refine ⟨?_, ?_, ?_, ?_, ?_, ?_, ?_, ?_, ?_, ?_, trivial⟩
            ·intro xq w1 hb1 hx K hK0
             have hK := fun v w' hb => hK0 v w' (.inl hb)
             clear hx hKc hK0
             simp only [frameOf, fill, setSlot, sg, Nat.reduceBEq, if_true, if_false, Nat.reduceAdd, Nat.reduceEqDiff, HSL.out] at hK ⊢
             go_wp2_with (fail)
             first | exact hK _ _ (Below.refl _ _) rfl | exact hK _ _ (Below.refl _ _) (by go_num)
            ·intro xq w1 hb1 hx K hK0
             have hK := fun v w' hb => hK0 v w' (.inl hb)
             clear hx hKc hK0
             simp only [frameOf, fill, setSlot, sg, Nat.reduceBEq, if_true, if_false, Nat.reduceAdd, Nat.reduceEqDiff, HSL.out] at hK ⊢
             go_wp2_with (fail)
             exact hK _ _ (Below.refl _ _) rfl
            ·intro xq w1 hb1 hx K hK0
             have hK := fun v w' hb => hK0 v w' (.inl hb)
             have e74 : xq 74 = .int .i64 ((k + 1 : Nat) : Int) := hx 0 (by rfl) (by rfl)
             have e75 : xq 75 = .pointer (some ⟨w.heap.size, 2, none⟩) := hx 1 (by rfl) (by rfl)
             clear hx hKc hK0
             have hk1 : ((k + 1 : Nat) : Int) < 6 := by omega
             simp only [frameOf, fill, setSlot, sg, Nat.reduceBEq, if_true, if_false, Nat.reduceAdd, Nat.reduceEqDiff, HSL.out] at hK ⊢
             simp only [e74, e75] at hK ⊢
             clear e74 e75
             go_wp2_with (fail)
             exact hK _ _ (Below.refl _ _) rfl
            ·intro xq w1 hb1 hx K hK0
             have hK := fun v w' hb => hK0 v w' (.inl hb)
             have e76 : xq 76 = .pointer (some ⟨w.heap.size, 2 + (k + 1), none⟩) := hx 2 (by rfl) (by rfl)
             clear hx hKc hK0
             have ky' := up_cell hb1 ky
             simp only [frameOf, fill, setSlot, sg, Nat.reduceBEq, if_true, if_false, Nat.reduceAdd, Nat.reduceEqDiff, HSL.out] at hK ⊢
             simp only [e76] at hK ⊢
             clear e76
             go_wp2_with (fail)
             exact hK _ _ (Below.refl _ _) rfl
            ·intro xq w1 hb1 hx K hK0
             have hK := fun v w' hb => hK0 v w' (.inl hb)
             clear hx hKc hK0
             simp only [frameOf, fill, setSlot, sg, Nat.reduceBEq, if_true, if_false, Nat.reduceAdd, Nat.reduceEqDiff, HSL.out] at hK ⊢
             go_wp2_with (fail)
             first | exact hK _ _ (Below.refl _ _) rfl | exact hK _ _ (Below.refl _ _) (by go_num)
            ·intro xq w1 hb1 hx K hK0
             have hK := fun v w' hb => hK0 v w' (.inl hb)
             have e78 : xq 78 = .int .i64 ((k + 1 : Nat) : Int) := hx 4 (by rfl) (by rfl)
             clear hx hKc hK0
             simp only [frameOf, fill, setSlot, sg, Nat.reduceBEq, if_true, if_false, Nat.reduceAdd, Nat.reduceEqDiff, HSL.out] at hK ⊢
             simp only [e78] at hK ⊢
             clear e78
             go_wp2_with (fail)
             first | exact hK _ _ (Below.refl _ _) rfl | exact hK _ _ (Below.refl _ _) (by go_num)
            ·intro xq w1 hb1 hx K hK0
             have hK := fun v w' hb => hK0 v w' (.inl hb)
             clear hx hKc hK0
             simp only [frameOf, fill, setSlot, sg, Nat.reduceBEq, if_true, if_false, Nat.reduceAdd, Nat.reduceEqDiff, HSL.out] at hK ⊢
             go_wp2_with (fail)
             exact hK _ _ (Below.refl _ _) rfl
            ·intro xq w1 hb1 hx K hK0
             have hK := fun v w' hb => hK0 v w' (.inl hb)
             have e79 : xq 79 = .int .i64 (k : Int) := hx 5 (by rfl) (by rfl)
             have e80 : xq 80 = .pointer (some ⟨w.heap.size, 2, none⟩) := hx 6 (by rfl) (by rfl)
             clear hx hKc hK0
             have hk1 : (k : Int) < 6 := by omega
             simp only [frameOf, fill, setSlot, sg, Nat.reduceBEq, if_true, if_false, Nat.reduceAdd, Nat.reduceEqDiff, HSL.out] at hK ⊢
             simp only [e79, e80] at hK ⊢
             clear e79 e80
             go_wp2_with (fail)
             exact hK _ _ (Below.refl _ _) rfl
            ·intro xq w1 hb1 hx K hK0
             have hK := fun v w' hb => hK0 v w' (.inl hb)
             have e81 : xq 81 = .pointer (some ⟨w.heap.size, 2 + k, none⟩) := hx 7 (by rfl) (by rfl)
             clear hx hKc hK0
             have kx' := up_cell hb1 kx
             simp only [frameOf, fill, setSlot, sg, Nat.reduceBEq, if_true, if_false, Nat.reduceAdd, Nat.reduceEqDiff, HSL.out] at hK ⊢
             simp only [e81] at hK ⊢
             clear e81
             go_wp2_with (fail)
             exact hK _ _ (Below.refl _ _) rfl
            ·intro xq w1 hb1 hx K hK0
             have hK := fun v w' hb => hK0 v w' (.inl hb)
             have e77 : xq 77 = .int .i64 y := hx 3 (by rfl) (by rfl)
             have e82 : xq 82 = .int .i64 x := hx 8 (by rfl) (by rfl)
             clear hx hKc hK0
             simp only [frameOf, fill, setSlot, sg, Nat.reduceBEq, if_true, if_false, Nat.reduceAdd, Nat.reduceEqDiff, HSL.out] at hK ⊢
             simp only [e77, e82] at hK ⊢
             clear e77 e82
             go_wp2_with (fail)
             first | exact hK _ _ (Below.refl _ _) rfl | exact hK _ _ (Below.refl _ _) (congrArg Value.bool (decide_eq_false (by omega)))
           ·intro xq w1 hb1 hx
            have e74 : xq 74 = .int .i64 ((k + 1 : Nat) : Int) := hx 0 (by decide)
            have e75 : xq 75 = .pointer (some ⟨w.heap.size, 2, none⟩) := hx 1 (by decide)
            have e76 : xq 76 = .pointer (some ⟨w.heap.size, 2 + (k + 1), none⟩) := hx 2 (by decide)
            have e77 : xq 77 = .int .i64 y := hx 3 (by decide)
            have e78 : xq 78 = .int .i64 ((k + 1 : Nat) : Int) := hx 4 (by decide)
            have e79 : xq 79 = .int .i64 (k : Int) := hx 5 (by decide)
            have e80 : xq 80 = .pointer (some ⟨w.heap.size, 2, none⟩) := hx 6 (by decide)
            have e81 : xq 81 = .pointer (some ⟨w.heap.size, 2 + k, none⟩) := hx 7 (by decide)
            have e82 : xq 82 = .int .i64 x := hx 8 (by decide)
            have e83 : xq 83 = .bool false := hx 9 (by decide)
            clear hx
            simp only [frameOf, fill, setSlot, sg, Nat.reduceBEq, if_true, if_false, Nat.reduceAdd, Nat.reduceEqDiff, HSL.out]
            simp only [e74, e75, e76, e77, e78, e79, e80, e81, e82, e83]
            clear e74 e75 e76 e77 e78 e79 e80 e81 e82 e83
            refine hKc _ _ ?_
            go_wp2_with fail
            go_roundw
            case rel => exact ⟨k + 1 + 1, by go_num, by omega, by omega, HF.out.next HX.out HY.out hp, HV3.out.trans (hb1.mono HV3.out.size)⟩
            case measure => first | (simp [intOf]; done) | (simp [intOf]; omega)
          ·have hp' : y < x := by omega
           go_wp2_with fail
           rename_i Kc hKc
           have HSL := Lib.hid (show slotsOf [some 74, some 75, some 76, some 77, some 78, some 79, some 80, some 81, some 82, some 83] = [74, 75, 76, 77, 78, 79, 80, 81, 82, 83] from rfl)
           refine wp_region_partsG (by kernel_rfl) [some 74, some 75, some 76, some 77, some 78, some 79, some 80, some 81, some 82, some 83] (fun jq xq w' => match jq with
            | 0 => xq 74 = .int .i64 ((k + 1 : Nat) : Int)
            | 1 => xq 75 = .pointer (some ⟨w.heap.size, 2, none⟩)
            | 2 => xq 76 = .pointer (some ⟨w.heap.size, 2 + (k + 1), none⟩)
            | 3 => xq 77 = .int .i64 y
            | 4 => xq 78 = .int .i64 ((k + 1 : Nat) : Int)
            | 5 => xq 79 = .int .i64 (k : Int)
            | 6 => xq 80 = .pointer (some ⟨w.heap.size, 2, none⟩)
            | 7 => xq 81 = .pointer (some ⟨w.heap.size, 2 + k, none⟩)
            | 8 => xq 82 = .int .i64 x
            | 9 => xq 83 = .bool true
            | _ => True) [[74], [75], [76], [77], [78], [79], [80], [81], [82], [83]] [] (fun w' => Below w3.heap.size w3 w') (by kernel_rfl)  ?_ ?_ (fun w' w'' hb h => h.trans (hb.mono h.size)) (Below.refl _ _) ?_ ?_ ?_
           ·intro jq xq xq' wqq h hv
            match jq, h, hv with
            | 0, h, hv => show xq' 74 = .int .i64 ((k + 1 : Nat) : Int); rw [← h 74 (by decide)]; exact hv
            | 1, h, hv => show xq' 75 = .pointer (some ⟨w.heap.size, 2, none⟩); rw [← h 75 (by decide)]; exact hv
            | 2, h, hv => show xq' 76 = .pointer (some ⟨w.heap.size, 2 + (k + 1), none⟩); rw [← h 76 (by decide)]; exact hv
            | 3, h, hv => show xq' 77 = .int .i64 y; rw [← h 77 (by decide)]; exact hv
            | 4, h, hv => show xq' 78 = .int .i64 ((k + 1 : Nat) : Int); rw [← h 78 (by decide)]; exact hv
            | 5, h, hv => show xq' 79 = .int .i64 (k : Int); rw [← h 79 (by decide)]; exact hv
            | 6, h, hv => show xq' 80 = .pointer (some ⟨w.heap.size, 2, none⟩); rw [← h 80 (by decide)]; exact hv
            | 7, h, hv => show xq' 81 = .pointer (some ⟨w.heap.size, 2 + k, none⟩); rw [← h 81 (by decide)]; exact hv
            | 8, h, hv => show xq' 82 = .int .i64 x; rw [← h 82 (by decide)]; exact hv
            | 9, h, hv => show xq' 83 = .bool true; rw [← h 83 (by decide)]; exact hv
            | _ + 10, _, _ => trivial
           ·intro jq xq wqq w' hb' hv
            match jq, hv with
            | 0, hv => exact hv
            | 1, hv => exact hv
            | 2, hv => exact hv
            | 3, hv => exact hv
            | 4, hv => exact hv
            | 5, hv => exact hv
            | 6, hv => exact hv
            | 7, hv => exact hv
            | 8, hv => exact hv
            | 9, hv => exact hv
            | _ + 10, _ => trivial
           ·intro jq hj
            match jq, hj with
            | 0, hj => exact absurd hj (by decide)
            | 1, hj => exact absurd hj (by decide)
            | 2, hj => exact absurd hj (by decide)
            | 3, hj => exact absurd hj (by decide)
            | 4, hj => exact absurd hj (by decide)
            | 5, hj => exact absurd hj (by decide)
            | 6, hj => exact absurd hj (by decide)
            | 7, hj => exact absurd hj (by decide)
            | 8, hj => exact absurd hj (by decide)
            | 9, hj => exact absurd hj (by decide)
            | _ + 10, _ => trivial
           ·refine ⟨?_, ?_, ?_, ?_, ?_, ?_, ?_, ?_, ?_, ?_, trivial⟩
            ·intro xq w1 hb1 hx K hK0
             have hK := fun v w' hb => hK0 v w' (.inl hb)
             clear hx hKc hK0
             simp only [frameOf, fill, setSlot, sg, Nat.reduceBEq, if_true, if_false, Nat.reduceAdd, Nat.reduceEqDiff, HSL.out] at hK ⊢
             go_wp2_with (fail)
             first | exact hK _ _ (Below.refl _ _) rfl | exact hK _ _ (Below.refl _ _) (by go_num)
            ·intro xq w1 hb1 hx K hK0
             have hK := fun v w' hb => hK0 v w' (.inl hb)
             clear hx hKc hK0
             simp only [frameOf, fill, setSlot, sg, Nat.reduceBEq, if_true, if_false, Nat.reduceAdd, Nat.reduceEqDiff, HSL.out] at hK ⊢
             go_wp2_with (fail)
             exact hK _ _ (Below.refl _ _) rfl
            ·intro xq w1 hb1 hx K hK0
             have hK := fun v w' hb => hK0 v w' (.inl hb)
             have e74 : xq 74 = .int .i64 ((k + 1 : Nat) : Int) := hx 0 (by rfl) (by rfl)
             have e75 : xq 75 = .pointer (some ⟨w.heap.size, 2, none⟩) := hx 1 (by rfl) (by rfl)
             clear hx hKc hK0
             have hk1 : ((k + 1 : Nat) : Int) < 6 := by omega
             simp only [frameOf, fill, setSlot, sg, Nat.reduceBEq, if_true, if_false, Nat.reduceAdd, Nat.reduceEqDiff, HSL.out] at hK ⊢
             simp only [e74, e75] at hK ⊢
             clear e74 e75
             go_wp2_with (fail)
             exact hK _ _ (Below.refl _ _) rfl
            ·intro xq w1 hb1 hx K hK0
             have hK := fun v w' hb => hK0 v w' (.inl hb)
             have e76 : xq 76 = .pointer (some ⟨w.heap.size, 2 + (k + 1), none⟩) := hx 2 (by rfl) (by rfl)
             clear hx hKc hK0
             have ky' := up_cell hb1 ky
             simp only [frameOf, fill, setSlot, sg, Nat.reduceBEq, if_true, if_false, Nat.reduceAdd, Nat.reduceEqDiff, HSL.out] at hK ⊢
             simp only [e76] at hK ⊢
             clear e76
             go_wp2_with (fail)
             exact hK _ _ (Below.refl _ _) rfl
            ·intro xq w1 hb1 hx K hK0
             have hK := fun v w' hb => hK0 v w' (.inl hb)
             clear hx hKc hK0
             simp only [frameOf, fill, setSlot, sg, Nat.reduceBEq, if_true, if_false, Nat.reduceAdd, Nat.reduceEqDiff, HSL.out] at hK ⊢
             go_wp2_with (fail)
             first | exact hK _ _ (Below.refl _ _) rfl | exact hK _ _ (Below.refl _ _) (by go_num)
            ·intro xq w1 hb1 hx K hK0
             have hK := fun v w' hb => hK0 v w' (.inl hb)
             have e78 : xq 78 = .int .i64 ((k + 1 : Nat) : Int) := hx 4 (by rfl) (by rfl)
             clear hx hKc hK0
             simp only [frameOf, fill, setSlot, sg, Nat.reduceBEq, if_true, if_false, Nat.reduceAdd, Nat.reduceEqDiff, HSL.out] at hK ⊢
             simp only [e78] at hK ⊢
             clear e78
             go_wp2_with (fail)
             first | exact hK _ _ (Below.refl _ _) rfl | exact hK _ _ (Below.refl _ _) (by go_num)
            ·intro xq w1 hb1 hx K hK0
             have hK := fun v w' hb => hK0 v w' (.inl hb)
             clear hx hKc hK0
             simp only [frameOf, fill, setSlot, sg, Nat.reduceBEq, if_true, if_false, Nat.reduceAdd, Nat.reduceEqDiff, HSL.out] at hK ⊢
             go_wp2_with (fail)
             exact hK _ _ (Below.refl _ _) rfl
            ·intro xq w1 hb1 hx K hK0
             have hK := fun v w' hb => hK0 v w' (.inl hb)
             have e79 : xq 79 = .int .i64 (k : Int) := hx 5 (by rfl) (by rfl)
             have e80 : xq 80 = .pointer (some ⟨w.heap.size, 2, none⟩) := hx 6 (by rfl) (by rfl)
             clear hx hKc hK0
             have hk1 : (k : Int) < 6 := by omega
             simp only [frameOf, fill, setSlot, sg, Nat.reduceBEq, if_true, if_false, Nat.reduceAdd, Nat.reduceEqDiff, HSL.out] at hK ⊢
             simp only [e79, e80] at hK ⊢
             clear e79 e80
             go_wp2_with (fail)
             exact hK _ _ (Below.refl _ _) rfl
            ·intro xq w1 hb1 hx K hK0
             have hK := fun v w' hb => hK0 v w' (.inl hb)
             have e81 : xq 81 = .pointer (some ⟨w.heap.size, 2 + k, none⟩) := hx 7 (by rfl) (by rfl)
             clear hx hKc hK0
             have kx' := up_cell hb1 kx
             simp only [frameOf, fill, setSlot, sg, Nat.reduceBEq, if_true, if_false, Nat.reduceAdd, Nat.reduceEqDiff, HSL.out] at hK ⊢
             simp only [e81] at hK ⊢
             clear e81
             go_wp2_with (fail)
             exact hK _ _ (Below.refl _ _) rfl
            ·intro xq w1 hb1 hx K hK0
             have hK := fun v w' hb => hK0 v w' (.inl hb)
             have e77 : xq 77 = .int .i64 y := hx 3 (by rfl) (by rfl)
             have e82 : xq 82 = .int .i64 x := hx 8 (by rfl) (by rfl)
             clear hx hKc hK0
             simp only [frameOf, fill, setSlot, sg, Nat.reduceBEq, if_true, if_false, Nat.reduceAdd, Nat.reduceEqDiff, HSL.out] at hK ⊢
             simp only [e77, e82] at hK ⊢
             clear e77 e82
             go_wp2_with (fail)
             first | exact hK _ _ (Below.refl _ _) rfl | exact hK _ _ (Below.refl _ _) (congrArg Value.bool (decide_eq_true (by omega)))
           ·intro xq w1 hb1 hx
            have e74 : xq 74 = .int .i64 ((k + 1 : Nat) : Int) := hx 0 (by decide)
            have e75 : xq 75 = .pointer (some ⟨w.heap.size, 2, none⟩) := hx 1 (by decide)
            have e76 : xq 76 = .pointer (some ⟨w.heap.size, 2 + (k + 1), none⟩) := hx 2 (by decide)
            have e77 : xq 77 = .int .i64 y := hx 3 (by decide)
            have e78 : xq 78 = .int .i64 ((k + 1 : Nat) : Int) := hx 4 (by decide)
            have e79 : xq 79 = .int .i64 (k : Int) := hx 5 (by decide)
            have e80 : xq 80 = .pointer (some ⟨w.heap.size, 2, none⟩) := hx 6 (by decide)
            have e81 : xq 81 = .pointer (some ⟨w.heap.size, 2 + k, none⟩) := hx 7 (by decide)
            have e82 : xq 82 = .int .i64 x := hx 8 (by decide)
            have e83 : xq 83 = .bool true := hx 9 (by decide)
            clear hx
            simp only [frameOf, fill, setSlot, sg, Nat.reduceBEq, if_true, if_false, Nat.reduceAdd, Nat.reduceEqDiff, HSL.out]
            simp only [e74, e75, e76, e77, e78, e79, e80, e81, e82, e83]
            clear e74 e75 e76 e77 e78 e79 e80 e81 e82 e83
            refine hKc _ _ ?_
            go_wp2_with fail
            go_ret
            exact ⟨by rw [HEQ.out, barnErr_order hw HRR.out (by rw [sorted_not HX.out HY.out (by omega)]; rfl)]; rfl, HB3.out.trans (hb1.mono HB3.out.size)⟩
         ·have HSS : Hid (risesFrom b.rises = true) := Lib.hid (sorted_all (fun j x y hx hy => HF.out j x y (by have := (List.getElem?_eq_some_iff.1 hy).1; simp [Br.rises] at this; omega) hx hy))
          have hlt' : ¬ (i : Int) < 6 := by omega
          go_wp2_with fail
          go_loopw [7] (fun v7 wz => ∃ i : Nat, v7 = .int .i64 (i : Int) ∧ i ≤ bs.length ∧ (∀ y ∈ bs.take i, y.inOrder = true) ∧ Below w3.heap.size w3 wz) (fun v7 _ => bs.length - (intOf v7).toNat)
          case atStart => exact ⟨0, rfl, Nat.zero_le _, (fun y hy => by simp at hy), zg⟩
          case round =>
           rename World => w4
           obtain ⟨i, rfl, hi, hall, hb4⟩ := hrel
           have HALL := Lib.hid hall
           have HB4 := Lib.hid (HB3.out.trans (hb4.mono HB3.out.size))
           have HH4 := Lib.hid (HH3.out.up hb4)
           have HV4 := Lib.hid hb4
           clear hall hb4 kb8
           have kb8 : w4.cell? ⟨w.heap.size, 8, none⟩ = some (.slice A bs.length c) := HH4.out.cell 8
           have lb4 := HH4.out.lt
           by_cases hlt : i < bs.length
           ·have hlt' : (i : Int) < bs.length := by omega
            obtain ⟨g, hg⟩ : ∃ g, bs[i]? = some g := ⟨_, List.getElem?_eq_getElem hlt⟩
            obtain ⟨E0, oo, rfl, hcell⟩ := (HA.out.up HB4.out) (by omega)
            have kl : w4.cell? ⟨E0, oo + i * 4 + 2, none⟩ = some (.int .i64 g.lo) := hcell i g hg 2 _ rfl
            have kh : w4.cell? ⟨E0, oo + i * 4 + 2 + 1, none⟩ = some (.int .i64 g.hi) := hcell i g hg 3 _ rfl
            have lE := World.block_lt_of_cell? w4 _ kl
            have HG := Lib.hid hg
            clear hcell hg
            by_cases hp : g.lo ≤ g.hi
            ·go_wp2_with fail
             rename_i Kc hKc
             have HSL := Lib.hid (show slotsOf [some 91, some 92, some 93, some 94, some 95, some 96, some 97, some 98, some 99, some 100, some 101, some 102, some 103, some 104, some 105] = [91, 92, 93, 94, 95, 96, 97, 98, 99, 100, 101, 102, 103, 104, 105] from rfl)
             refine wp_region_partsG (by kernel_rfl) [some 91, some 92, some 93, some 94, some 95, some 96, some 97, some 98, some 99, some 100, some 101, some 102, some 103, some 104, some 105] (fun jq xq w' => match jq with
              | 0 => xq 91 = .pointer (some ⟨w.heap.size, 8, none⟩)
              | 1 => xq 92 = .slice (some ⟨E0, oo, none⟩) bs.length c
              | 2 => xq 93 = .int .i64 (i : Int)
              | 3 => xq 94 = .pointer (some ⟨E0, oo + i * 4, none⟩)
              | 4 => xq 95 = .pointer (some ⟨E0, oo + i * 4 + 2, none⟩)
              | 5 => xq 96 = .pointer (some ⟨E0, oo + i * 4 + 2, none⟩)
              | 6 => xq 97 = .int .i64 g.lo
              | 7 => xq 98 = .pointer (some ⟨w.heap.size, 8, none⟩)
              | 8 => xq 99 = .slice (some ⟨E0, oo, none⟩) bs.length c
              | 9 => xq 100 = .int .i64 (i : Int)
              | 10 => xq 101 = .pointer (some ⟨E0, oo + i * 4, none⟩)
              | 11 => xq 102 = .pointer (some ⟨E0, oo + i * 4 + 2, none⟩)
              | 12 => xq 103 = .pointer (some ⟨E0, oo + i * 4 + 2 + 1, none⟩)
              | 13 => xq 104 = .int .i64 g.hi
              | 14 => xq 105 = .bool false
              | _ => True) [[91], [92], [93], [94], [95], [96], [97], [98], [99], [100], [101], [102], [103], [104], [105]] [] (fun w' => Below w4.heap.size w4 w') (by kernel_rfl)  ?_ ?_ (fun w' w'' hb h => h.trans (hb.mono h.size)) (Below.refl _ _) ?_ ?_ ?_
             ·intro jq xq xq' wqq h hv
              match jq, h, hv with
              | 0, h, hv => show xq' 91 = .pointer (some ⟨w.heap.size, 8, none⟩); rw [← h 91 (by decide)]; exact hv
              | 1, h, hv => show xq' 92 = .slice (some ⟨E0, oo, none⟩) bs.length c; rw [← h 92 (by decide)]; exact hv
              | 2, h, hv => show xq' 93 = .int .i64 (i : Int); rw [← h 93 (by decide)]; exact hv
              | 3, h, hv => show xq' 94 = .pointer (some ⟨E0, oo + i * 4, none⟩); rw [← h 94 (by decide)]; exact hv
              | 4, h, hv => show xq' 95 = .pointer (some ⟨E0, oo + i * 4 + 2, none⟩); rw [← h 95 (by decide)]; exact hv
              | 5, h, hv => show xq' 96 = .pointer (some ⟨E0, oo + i * 4 + 2, none⟩); rw [← h 96 (by decide)]; exact hv
              | 6, h, hv => show xq' 97 = .int .i64 g.lo; rw [← h 97 (by decide)]; exact hv
              | 7, h, hv => show xq' 98 = .pointer (some ⟨w.heap.size, 8, none⟩); rw [← h 98 (by decide)]; exact hv
              | 8, h, hv => show xq' 99 = .slice (some ⟨E0, oo, none⟩) bs.length c; rw [← h 99 (by decide)]; exact hv
              | 9, h, hv => show xq' 100 = .int .i64 (i : Int); rw [← h 100 (by decide)]; exact hv
              | 10, h, hv => show xq' 101 = .pointer (some ⟨E0, oo + i * 4, none⟩); rw [← h 101 (by decide)]; exact hv
              | 11, h, hv => show xq' 102 = .pointer (some ⟨E0, oo + i * 4 + 2, none⟩); rw [← h 102 (by decide)]; exact hv
              | 12, h, hv => show xq' 103 = .pointer (some ⟨E0, oo + i * 4 + 2 + 1, none⟩); rw [← h 103 (by decide)]; exact hv
              | 13, h, hv => show xq' 104 = .int .i64 g.hi; rw [← h 104 (by decide)]; exact hv
              | 14, h, hv => show xq' 105 = .bool false; rw [← h 105 (by decide)]; exact hv
              | _ + 15, _, _ => trivial
             ·intro jq xq wqq w' hb' hv
              match jq, hv with
              | 0, hv => exact hv
              | 1, hv => exact hv
              | 2, hv => exact hv
              | 3, hv => exact hv
              | 4, hv => exact hv
              | 5, hv => exact hv
              | 6, hv => exact hv
              | 7, hv => exact hv
              | 8, hv => exact hv
              | 9, hv => exact hv
              | 10, hv => exact hv
              | 11, hv => exact hv
              | 12, hv => exact hv
              | 13, hv => exact hv
              | 14, hv => exact hv
              | _ + 15, _ => trivial
             ·intro jq hj
              match jq, hj with
              | 0, hj => exact absurd hj (by decide)
              | 1, hj => exact absurd hj (by decide)
              | 2, hj => exact absurd hj (by decide)
              | 3, hj => exact absurd hj (by decide)
              | 4, hj => exact absurd hj (by decide)
              | 5, hj => exact absurd hj (by decide)
              | 6, hj => exact absurd hj (by decide)
              | 7, hj => exact absurd hj (by decide)
              | 8, hj => exact absurd hj (by decide)
              | 9, hj => exact absurd hj (by decide)
              | 10, hj => exact absurd hj (by decide)
              | 11, hj => exact absurd hj (by decide)
              | 12, hj => exact absurd hj (by decide)
              | 13, hj => exact absurd hj (by decide)
              | 14, hj => exact absurd hj (by decide)
              | _ + 15, _ => trivial
             ·refine ⟨?_, ?_, ?_, ?_, ?_, ?_, ?_, ?_, ?_, ?_, ?_, ?_, ?_, ?_, ?_, trivial⟩
              ·intro xq w1 hb1 hx K hK0
               have hK := fun v w' hb => hK0 v w' (.inl hb)
               clear hx hKc hK0
               simp only [frameOf, fill, setSlot, sg, Nat.reduceBEq, if_true, if_false, Nat.reduceAdd, Nat.reduceEqDiff, HSL.out] at hK ⊢
               go_wp2_with (fail)
               exact hK _ _ (Below.refl _ _) rfl
              ·intro xq w1 hb1 hx K hK0
               have hK := fun v w' hb => hK0 v w' (.inl hb)
               have e91 : xq 91 = .pointer (some ⟨w.heap.size, 8, none⟩) := hx 0 (by rfl) (by rfl)
               clear hx hKc hK0
               have kb8' : w1.cell? ⟨w.heap.size, 8, none⟩ = some (.slice (some ⟨E0, oo, none⟩) bs.length c) := up_cell hb1 kb8
               simp only [frameOf, fill, setSlot, sg, Nat.reduceBEq, if_true, if_false, Nat.reduceAdd, Nat.reduceEqDiff, HSL.out] at hK ⊢
               simp only [e91] at hK ⊢
               clear e91
               go_wp2_with (fail)
               exact hK _ _ (Below.refl _ _) rfl
              ·intro xq w1 hb1 hx K hK0
               have hK := fun v w' hb => hK0 v w' (.inl hb)
               clear hx hKc hK0
               simp only [frameOf, fill, setSlot, sg, Nat.reduceBEq, if_true, if_false, Nat.reduceAdd, Nat.reduceEqDiff, HSL.out] at hK ⊢
               go_wp2_with (fail)
               exact hK _ _ (Below.refl _ _) rfl
              ·intro xq w1 hb1 hx K hK0
               have hK := fun v w' hb => hK0 v w' (.inl hb)
               have e92 : xq 92 = .slice (some ⟨E0, oo, none⟩) bs.length c := hx 1 (by rfl) (by rfl)
               have e93 : xq 93 = .int .i64 (i : Int) := hx 2 (by rfl) (by rfl)
               clear hx hKc hK0
               simp only [frameOf, fill, setSlot, sg, Nat.reduceBEq, if_true, if_false, Nat.reduceAdd, Nat.reduceEqDiff, HSL.out] at hK ⊢
               simp only [e92, e93] at hK ⊢
               clear e92 e93
               go_wp2_with (fail)
               exact hK _ _ (Below.refl _ _) rfl
              ·intro xq w1 hb1 hx K hK0
               have hK := fun v w' hb => hK0 v w' (.inl hb)
               have e94 : xq 94 = .pointer (some ⟨E0, oo + i * 4, none⟩) := hx 3 (by rfl) (by rfl)
               clear hx hKc hK0
               simp only [frameOf, fill, setSlot, sg, Nat.reduceBEq, if_true, if_false, Nat.reduceAdd, Nat.reduceEqDiff, HSL.out] at hK ⊢
               simp only [e94] at hK ⊢
               clear e94
               go_wp2_with (fail)
               exact hK _ _ (Below.refl _ _) rfl
              ·intro xq w1 hb1 hx K hK0
               have hK := fun v w' hb => hK0 v w' (.inl hb)
               have e95 : xq 95 = .pointer (some ⟨E0, oo + i * 4 + 2, none⟩) := hx 4 (by rfl) (by rfl)
               clear hx hKc hK0
               simp only [frameOf, fill, setSlot, sg, Nat.reduceBEq, if_true, if_false, Nat.reduceAdd, Nat.reduceEqDiff, HSL.out] at hK ⊢
               simp only [e95] at hK ⊢
               clear e95
               go_wp2_with (fail)
               exact hK _ _ (Below.refl _ _) rfl
              ·intro xq w1 hb1 hx K hK0
               have hK := fun v w' hb => hK0 v w' (.inl hb)
               have e96 : xq 96 = .pointer (some ⟨E0, oo + i * 4 + 2, none⟩) := hx 5 (by rfl) (by rfl)
               clear hx hKc hK0
               have kl' := up_cell hb1 kl
               simp only [frameOf, fill, setSlot, sg, Nat.reduceBEq, if_true, if_false, Nat.reduceAdd, Nat.reduceEqDiff, HSL.out] at hK ⊢
               simp only [e96] at hK ⊢
               clear e96
               go_wp2_with (fail)
               exact hK _ _ (Below.refl _ _) rfl
              ·intro xq w1 hb1 hx K hK0
               have hK := fun v w' hb => hK0 v w' (.inl hb)
               clear hx hKc hK0
               simp only [frameOf, fill, setSlot, sg, Nat.reduceBEq, if_true, if_false, Nat.reduceAdd, Nat.reduceEqDiff, HSL.out] at hK ⊢
               go_wp2_with (fail)
               exact hK _ _ (Below.refl _ _) rfl
              ·intro xq w1 hb1 hx K hK0
               have hK := fun v w' hb => hK0 v w' (.inl hb)
               have e98 : xq 98 = .pointer (some ⟨w.heap.size, 8, none⟩) := hx 7 (by rfl) (by rfl)
               clear hx hKc hK0
               have kb8' : w1.cell? ⟨w.heap.size, 8, none⟩ = some (.slice (some ⟨E0, oo, none⟩) bs.length c) := up_cell hb1 kb8
               simp only [frameOf, fill, setSlot, sg, Nat.reduceBEq, if_true, if_false, Nat.reduceAdd, Nat.reduceEqDiff, HSL.out] at hK ⊢
               simp only [e98] at hK ⊢
               clear e98
               go_wp2_with (fail)
               exact hK _ _ (Below.refl _ _) rfl
              ·intro xq w1 hb1 hx K hK0
               have hK := fun v w' hb => hK0 v w' (.inl hb)
               clear hx hKc hK0
               simp only [frameOf, fill, setSlot, sg, Nat.reduceBEq, if_true, if_false, Nat.reduceAdd, Nat.reduceEqDiff, HSL.out] at hK ⊢
               go_wp2_with (fail)
               exact hK _ _ (Below.refl _ _) rfl
              ·intro xq w1 hb1 hx K hK0
               have hK := fun v w' hb => hK0 v w' (.inl hb)
               have e99 : xq 99 = .slice (some ⟨E0, oo, none⟩) bs.length c := hx 8 (by rfl) (by rfl)
               have e100 : xq 100 = .int .i64 (i : Int) := hx 9 (by rfl) (by rfl)
               clear hx hKc hK0
               simp only [frameOf, fill, setSlot, sg, Nat.reduceBEq, if_true, if_false, Nat.reduceAdd, Nat.reduceEqDiff, HSL.out] at hK ⊢
               simp only [e99, e100] at hK ⊢
               clear e99 e100
               go_wp2_with (fail)
               exact hK _ _ (Below.refl _ _) rfl
              ·intro xq w1 hb1 hx K hK0
               have hK := fun v w' hb => hK0 v w' (.inl hb)
               have e101 : xq 101 = .pointer (some ⟨E0, oo + i * 4, none⟩) := hx 10 (by rfl) (by rfl)
               clear hx hKc hK0
               simp only [frameOf, fill, setSlot, sg, Nat.reduceBEq, if_true, if_false, Nat.reduceAdd, Nat.reduceEqDiff, HSL.out] at hK ⊢
               simp only [e101] at hK ⊢
               clear e101
               go_wp2_with (fail)
               exact hK _ _ (Below.refl _ _) rfl
              ·intro xq w1 hb1 hx K hK0
               have hK := fun v w' hb => hK0 v w' (.inl hb)
               have e102 : xq 102 = .pointer (some ⟨E0, oo + i * 4 + 2, none⟩) := hx 11 (by rfl) (by rfl)
               clear hx hKc hK0
               simp only [frameOf, fill, setSlot, sg, Nat.reduceBEq, if_true, if_false, Nat.reduceAdd, Nat.reduceEqDiff, HSL.out] at hK ⊢
               simp only [e102] at hK ⊢
               clear e102
               go_wp2_with (fail)
               exact hK _ _ (Below.refl _ _) rfl
              ·intro xq w1 hb1 hx K hK0
               have hK := fun v w' hb => hK0 v w' (.inl hb)
               have e103 : xq 103 = .pointer (some ⟨E0, oo + i * 4 + 2 + 1, none⟩) := hx 12 (by rfl) (by rfl)
               clear hx hKc hK0
               have kh' := up_cell hb1 kh
               simp only [frameOf, fill, setSlot, sg, Nat.reduceBEq, if_true, if_false, Nat.reduceAdd, Nat.reduceEqDiff, HSL.out] at hK ⊢
               simp only [e103] at hK ⊢
               clear e103
               go_wp2_with (fail)
               exact hK _ _ (Below.refl _ _) rfl
              ·intro xq w1 hb1 hx K hK0
               have hK := fun v w' hb => hK0 v w' (.inl hb)
               have e97 : xq 97 = .int .i64 g.lo := hx 6 (by rfl) (by rfl)
               have e104 : xq 104 = .int .i64 g.hi := hx 13 (by rfl) (by rfl)
               clear hx hKc hK0
               simp only [frameOf, fill, setSlot, sg, Nat.reduceBEq, if_true, if_false, Nat.reduceAdd, Nat.reduceEqDiff, HSL.out] at hK ⊢
               simp only [e97, e104] at hK ⊢
               clear e97 e104
               go_wp2_with (fail)
               first | exact hK _ _ (Below.refl _ _) rfl | exact hK _ _ (Below.refl _ _) (congrArg Value.bool (decide_eq_false (by omega)))
             ·intro xq w1 hb1 hx
              have e91 : xq 91 = .pointer (some ⟨w.heap.size, 8, none⟩) := hx 0 (by decide)
              have e92 : xq 92 = .slice (some ⟨E0, oo, none⟩) bs.length c := hx 1 (by decide)
              have e93 : xq 93 = .int .i64 (i : Int) := hx 2 (by decide)
              have e94 : xq 94 = .pointer (some ⟨E0, oo + i * 4, none⟩) := hx 3 (by decide)
              have e95 : xq 95 = .pointer (some ⟨E0, oo + i * 4 + 2, none⟩) := hx 4 (by decide)
              have e96 : xq 96 = .pointer (some ⟨E0, oo + i * 4 + 2, none⟩) := hx 5 (by decide)
              have e97 : xq 97 = .int .i64 g.lo := hx 6 (by decide)
              have e98 : xq 98 = .pointer (some ⟨w.heap.size, 8, none⟩) := hx 7 (by decide)
              have e99 : xq 99 = .slice (some ⟨E0, oo, none⟩) bs.length c := hx 8 (by decide)
              have e100 : xq 100 = .int .i64 (i : Int) := hx 9 (by decide)
              have e101 : xq 101 = .pointer (some ⟨E0, oo + i * 4, none⟩) := hx 10 (by decide)
              have e102 : xq 102 = .pointer (some ⟨E0, oo + i * 4 + 2, none⟩) := hx 11 (by decide)
              have e103 : xq 103 = .pointer (some ⟨E0, oo + i * 4 + 2 + 1, none⟩) := hx 12 (by decide)
              have e104 : xq 104 = .int .i64 g.hi := hx 13 (by decide)
              have e105 : xq 105 = .bool false := hx 14 (by decide)
              clear hx
              simp only [frameOf, fill, setSlot, sg, Nat.reduceBEq, if_true, if_false, Nat.reduceAdd, Nat.reduceEqDiff, HSL.out]
              simp only [e91, e92, e93, e94, e95, e96, e97, e98, e99, e100, e101, e102, e103, e104, e105]
              clear e91 e92 e93 e94 e95 e96 e97 e98 e99 e100 e101 e102 e103 e104 e105
              refine hKc _ _ ?_
              go_wp2_with fail
              go_roundw
              case rel => exact ⟨i + 1, by go_num, by omega, take_next HG.out HALL.out (by simp [Bn.inOrder]; omega), HV4.out.trans (hb1.mono HV4.out.size)⟩
              case measure => first | (simp [intOf]; done) | (simp [intOf]; omega)
            ·have hp' : g.hi < g.lo := by omega
             go_wp2_with fail
             rename_i Kc hKc
             have HSL := Lib.hid (show slotsOf [some 91, some 92, some 93, some 94, some 95, some 96, some 97, some 98, some 99, some 100, some 101, some 102, some 103, some 104, some 105] = [91, 92, 93, 94, 95, 96, 97, 98, 99, 100, 101, 102, 103, 104, 105] from rfl)
             refine wp_region_partsG (by kernel_rfl) [some 91, some 92, some 93, some 94, some 95, some 96, some 97, some 98, some 99, some 100, some 101, some 102, some 103, some 104, some 105] (fun jq xq w' => match jq with
              | 0 => xq 91 = .pointer (some ⟨w.heap.size, 8, none⟩)
              | 1 => xq 92 = .slice (some ⟨E0, oo, none⟩) bs.length c
              | 2 => xq 93 = .int .i64 (i : Int)
              | 3 => xq 94 = .pointer (some ⟨E0, oo + i * 4, none⟩)
              | 4 => xq 95 = .pointer (some ⟨E0, oo + i * 4 + 2, none⟩)
              | 5 => xq 96 = .pointer (some ⟨E0, oo + i * 4 + 2, none⟩)
              | 6 => xq 97 = .int .i64 g.lo
              | 7 => xq 98 = .pointer (some ⟨w.heap.size, 8, none⟩)
              | 8 => xq 99 = .slice (some ⟨E0, oo, none⟩) bs.length c
              | 9 => xq 100 = .int .i64 (i : Int)
              | 10 => xq 101 = .pointer (some ⟨E0, oo + i * 4, none⟩)
              | 11 => xq 102 = .pointer (some ⟨E0, oo + i * 4 + 2, none⟩)
              | 12 => xq 103 = .pointer (some ⟨E0, oo + i * 4 + 2 + 1, none⟩)
              | 13 => xq 104 = .int .i64 g.hi
              | 14 => xq 105 = .bool true
              | _ => True) [[91], [92], [93], [94], [95], [96], [97], [98], [99], [100], [101], [102], [103], [104], [105]] [] (fun w' => Below w4.heap.size w4 w') (by kernel_rfl)  ?_ ?_ (fun w' w'' hb h => h.trans (hb.mono h.size)) (Below.refl _ _) ?_ ?_ ?_
             ·intro jq xq xq' wqq h hv
              match jq, h, hv with
              | 0, h, hv => show xq' 91 = .pointer (some ⟨w.heap.size, 8, none⟩); rw [← h 91 (by decide)]; exact hv
              | 1, h, hv => show xq' 92 = .slice (some ⟨E0, oo, none⟩) bs.length c; rw [← h 92 (by decide)]; exact hv
              | 2, h, hv => show xq' 93 = .int .i64 (i : Int); rw [← h 93 (by decide)]; exact hv
              | 3, h, hv => show xq' 94 = .pointer (some ⟨E0, oo + i * 4, none⟩); rw [← h 94 (by decide)]; exact hv
              | 4, h, hv => show xq' 95 = .pointer (some ⟨E0, oo + i * 4 + 2, none⟩); rw [← h 95 (by decide)]; exact hv
              | 5, h, hv => show xq' 96 = .pointer (some ⟨E0, oo + i * 4 + 2, none⟩); rw [← h 96 (by decide)]; exact hv
              | 6, h, hv => show xq' 97 = .int .i64 g.lo; rw [← h 97 (by decide)]; exact hv
              | 7, h, hv => show xq' 98 = .pointer (some ⟨w.heap.size, 8, none⟩); rw [← h 98 (by decide)]; exact hv
              | 8, h, hv => show xq' 99 = .slice (some ⟨E0, oo, none⟩) bs.length c; rw [← h 99 (by decide)]; exact hv
              | 9, h, hv => show xq' 100 = .int .i64 (i : Int); rw [← h 100 (by decide)]; exact hv
              | 10, h, hv => show xq' 101 = .pointer (some ⟨E0, oo + i * 4, none⟩); rw [← h 101 (by decide)]; exact hv
              | 11, h, hv => show xq' 102 = .pointer (some ⟨E0, oo + i * 4 + 2, none⟩); rw [← h 102 (by decide)]; exact hv
              | 12, h, hv => show xq' 103 = .pointer (some ⟨E0, oo + i * 4 + 2 + 1, none⟩); rw [← h 103 (by decide)]; exact hv
              | 13, h, hv => show xq' 104 = .int .i64 g.hi; rw [← h 104 (by decide)]; exact hv
              | 14, h, hv => show xq' 105 = .bool true; rw [← h 105 (by decide)]; exact hv
              | _ + 15, _, _ => trivial
             ·intro jq xq wqq w' hb' hv
              match jq, hv with
              | 0, hv => exact hv
              | 1, hv => exact hv
              | 2, hv => exact hv
              | 3, hv => exact hv
              | 4, hv => exact hv
              | 5, hv => exact hv
              | 6, hv => exact hv
              | 7, hv => exact hv
              | 8, hv => exact hv
              | 9, hv => exact hv
              | 10, hv => exact hv
              | 11, hv => exact hv
              | 12, hv => exact hv
              | 13, hv => exact hv
              | 14, hv => exact hv
              | _ + 15, _ => trivial
             ·intro jq hj
              match jq, hj with
              | 0, hj => exact absurd hj (by decide)
              | 1, hj => exact absurd hj (by decide)
              | 2, hj => exact absurd hj (by decide)
              | 3, hj => exact absurd hj (by decide)
              | 4, hj => exact absurd hj (by decide)
              | 5, hj => exact absurd hj (by decide)
              | 6, hj => exact absurd hj (by decide)
              | 7, hj => exact absurd hj (by decide)
              | 8, hj => exact absurd hj (by decide)
              | 9, hj => exact absurd hj (by decide)
              | 10, hj => exact absurd hj (by decide)
              | 11, hj => exact absurd hj (by decide)
              | 12, hj => exact absurd hj (by decide)
              | 13, hj => exact absurd hj (by decide)
              | 14, hj => exact absurd hj (by decide)
              | _ + 15, _ => trivial
             ·refine ⟨?_, ?_, ?_, ?_, ?_, ?_, ?_, ?_, ?_, ?_, ?_, ?_, ?_, ?_, ?_, trivial⟩
              ·intro xq w1 hb1 hx K hK0
               have hK := fun v w' hb => hK0 v w' (.inl hb)
               clear hx hKc hK0
               simp only [frameOf, fill, setSlot, sg, Nat.reduceBEq, if_true, if_false, Nat.reduceAdd, Nat.reduceEqDiff, HSL.out] at hK ⊢
               go_wp2_with (fail)
               exact hK _ _ (Below.refl _ _) rfl
              ·intro xq w1 hb1 hx K hK0
               have hK := fun v w' hb => hK0 v w' (.inl hb)
               have e91 : xq 91 = .pointer (some ⟨w.heap.size, 8, none⟩) := hx 0 (by rfl) (by rfl)
               clear hx hKc hK0
               have kb8' : w1.cell? ⟨w.heap.size, 8, none⟩ = some (.slice (some ⟨E0, oo, none⟩) bs.length c) := up_cell hb1 kb8
               simp only [frameOf, fill, setSlot, sg, Nat.reduceBEq, if_true, if_false, Nat.reduceAdd, Nat.reduceEqDiff, HSL.out] at hK ⊢
               simp only [e91] at hK ⊢
               clear e91
               go_wp2_with (fail)
               exact hK _ _ (Below.refl _ _) rfl
              ·intro xq w1 hb1 hx K hK0
               have hK := fun v w' hb => hK0 v w' (.inl hb)
               clear hx hKc hK0
               simp only [frameOf, fill, setSlot, sg, Nat.reduceBEq, if_true, if_false, Nat.reduceAdd, Nat.reduceEqDiff, HSL.out] at hK ⊢
               go_wp2_with (fail)
               exact hK _ _ (Below.refl _ _) rfl
              ·intro xq w1 hb1 hx K hK0
               have hK := fun v w' hb => hK0 v w' (.inl hb)
               have e92 : xq 92 = .slice (some ⟨E0, oo, none⟩) bs.length c := hx 1 (by rfl) (by rfl)
               have e93 : xq 93 = .int .i64 (i : Int) := hx 2 (by rfl) (by rfl)
               clear hx hKc hK0
               simp only [frameOf, fill, setSlot, sg, Nat.reduceBEq, if_true, if_false, Nat.reduceAdd, Nat.reduceEqDiff, HSL.out] at hK ⊢
               simp only [e92, e93] at hK ⊢
               clear e92 e93
               go_wp2_with (fail)
               exact hK _ _ (Below.refl _ _) rfl
              ·intro xq w1 hb1 hx K hK0
               have hK := fun v w' hb => hK0 v w' (.inl hb)
               have e94 : xq 94 = .pointer (some ⟨E0, oo + i * 4, none⟩) := hx 3 (by rfl) (by rfl)
               clear hx hKc hK0
               simp only [frameOf, fill, setSlot, sg, Nat.reduceBEq, if_true, if_false, Nat.reduceAdd, Nat.reduceEqDiff, HSL.out] at hK ⊢
               simp only [e94] at hK ⊢
               clear e94
               go_wp2_with (fail)
               exact hK _ _ (Below.refl _ _) rfl
              ·intro xq w1 hb1 hx K hK0
               have hK := fun v w' hb => hK0 v w' (.inl hb)
               have e95 : xq 95 = .pointer (some ⟨E0, oo + i * 4 + 2, none⟩) := hx 4 (by rfl) (by rfl)
               clear hx hKc hK0
               simp only [frameOf, fill, setSlot, sg, Nat.reduceBEq, if_true, if_false, Nat.reduceAdd, Nat.reduceEqDiff, HSL.out] at hK ⊢
               simp only [e95] at hK ⊢
               clear e95
               go_wp2_with (fail)
               exact hK _ _ (Below.refl _ _) rfl
              ·intro xq w1 hb1 hx K hK0
               have hK := fun v w' hb => hK0 v w' (.inl hb)
               have e96 : xq 96 = .pointer (some ⟨E0, oo + i * 4 + 2, none⟩) := hx 5 (by rfl) (by rfl)
               clear hx hKc hK0
               have kl' := up_cell hb1 kl
               simp only [frameOf, fill, setSlot, sg, Nat.reduceBEq, if_true, if_false, Nat.reduceAdd, Nat.reduceEqDiff, HSL.out] at hK ⊢
               simp only [e96] at hK ⊢
               clear e96
               go_wp2_with (fail)
               exact hK _ _ (Below.refl _ _) rfl
              ·intro xq w1 hb1 hx K hK0
               have hK := fun v w' hb => hK0 v w' (.inl hb)
               clear hx hKc hK0
               simp only [frameOf, fill, setSlot, sg, Nat.reduceBEq, if_true, if_false, Nat.reduceAdd, Nat.reduceEqDiff, HSL.out] at hK ⊢
               go_wp2_with (fail)
               exact hK _ _ (Below.refl _ _) rfl
              ·intro xq w1 hb1 hx K hK0
               have hK := fun v w' hb => hK0 v w' (.inl hb)
               have e98 : xq 98 = .pointer (some ⟨w.heap.size, 8, none⟩) := hx 7 (by rfl) (by rfl)
               clear hx hKc hK0
               have kb8' : w1.cell? ⟨w.heap.size, 8, none⟩ = some (.slice (some ⟨E0, oo, none⟩) bs.length c) := up_cell hb1 kb8
               simp only [frameOf, fill, setSlot, sg, Nat.reduceBEq, if_true, if_false, Nat.reduceAdd, Nat.reduceEqDiff, HSL.out] at hK ⊢
               simp only [e98] at hK ⊢
               clear e98
               go_wp2_with (fail)
               exact hK _ _ (Below.refl _ _) rfl
              ·intro xq w1 hb1 hx K hK0
               have hK := fun v w' hb => hK0 v w' (.inl hb)
               clear hx hKc hK0
               simp only [frameOf, fill, setSlot, sg, Nat.reduceBEq, if_true, if_false, Nat.reduceAdd, Nat.reduceEqDiff, HSL.out] at hK ⊢
               go_wp2_with (fail)
               exact hK _ _ (Below.refl _ _) rfl
              ·intro xq w1 hb1 hx K hK0
               have hK := fun v w' hb => hK0 v w' (.inl hb)
               have e99 : xq 99 = .slice (some ⟨E0, oo, none⟩) bs.length c := hx 8 (by rfl) (by rfl)
               have e100 : xq 100 = .int .i64 (i : Int) := hx 9 (by rfl) (by rfl)
               clear hx hKc hK0
               simp only [frameOf, fill, setSlot, sg, Nat.reduceBEq, if_true, if_false, Nat.reduceAdd, Nat.reduceEqDiff, HSL.out] at hK ⊢
               simp only [e99, e100] at hK ⊢
               clear e99 e100
               go_wp2_with (fail)
               exact hK _ _ (Below.refl _ _) rfl
              ·intro xq w1 hb1 hx K hK0
               have hK := fun v w' hb => hK0 v w' (.inl hb)
               have e101 : xq 101 = .pointer (some ⟨E0, oo + i * 4, none⟩) := hx 10 (by rfl) (by rfl)
               clear hx hKc hK0
               simp only [frameOf, fill, setSlot, sg, Nat.reduceBEq, if_true, if_false, Nat.reduceAdd, Nat.reduceEqDiff, HSL.out] at hK ⊢
               simp only [e101] at hK ⊢
               clear e101
               go_wp2_with (fail)
               exact hK _ _ (Below.refl _ _) rfl
              ·intro xq w1 hb1 hx K hK0
               have hK := fun v w' hb => hK0 v w' (.inl hb)
               have e102 : xq 102 = .pointer (some ⟨E0, oo + i * 4 + 2, none⟩) := hx 11 (by rfl) (by rfl)
               clear hx hKc hK0
               simp only [frameOf, fill, setSlot, sg, Nat.reduceBEq, if_true, if_false, Nat.reduceAdd, Nat.reduceEqDiff, HSL.out] at hK ⊢
               simp only [e102] at hK ⊢
               clear e102
               go_wp2_with (fail)
               exact hK _ _ (Below.refl _ _) rfl
              ·intro xq w1 hb1 hx K hK0
               have hK := fun v w' hb => hK0 v w' (.inl hb)
               have e103 : xq 103 = .pointer (some ⟨E0, oo + i * 4 + 2 + 1, none⟩) := hx 12 (by rfl) (by rfl)
               clear hx hKc hK0
               have kh' := up_cell hb1 kh
               simp only [frameOf, fill, setSlot, sg, Nat.reduceBEq, if_true, if_false, Nat.reduceAdd, Nat.reduceEqDiff, HSL.out] at hK ⊢
               simp only [e103] at hK ⊢
               clear e103
               go_wp2_with (fail)
               exact hK _ _ (Below.refl _ _) rfl
              ·intro xq w1 hb1 hx K hK0
               have hK := fun v w' hb => hK0 v w' (.inl hb)
               have e97 : xq 97 = .int .i64 g.lo := hx 6 (by rfl) (by rfl)
               have e104 : xq 104 = .int .i64 g.hi := hx 13 (by rfl) (by rfl)
               clear hx hKc hK0
               simp only [frameOf, fill, setSlot, sg, Nat.reduceBEq, if_true, if_false, Nat.reduceAdd, Nat.reduceEqDiff, HSL.out] at hK ⊢
               simp only [e97, e104] at hK ⊢
               clear e97 e104
               go_wp2_with (fail)
               first | exact hK _ _ (Below.refl _ _) rfl | exact hK _ _ (Below.refl _ _) (congrArg Value.bool (decide_eq_true (by omega)))
             ·intro xq w1 hb1 hx
              have e91 : xq 91 = .pointer (some ⟨w.heap.size, 8, none⟩) := hx 0 (by decide)
              have e92 : xq 92 = .slice (some ⟨E0, oo, none⟩) bs.length c := hx 1 (by decide)
              have e93 : xq 93 = .int .i64 (i : Int) := hx 2 (by decide)
              have e94 : xq 94 = .pointer (some ⟨E0, oo + i * 4, none⟩) := hx 3 (by decide)
              have e95 : xq 95 = .pointer (some ⟨E0, oo + i * 4 + 2, none⟩) := hx 4 (by decide)
              have e96 : xq 96 = .pointer (some ⟨E0, oo + i * 4 + 2, none⟩) := hx 5 (by decide)
              have e97 : xq 97 = .int .i64 g.lo := hx 6 (by decide)
              have e98 : xq 98 = .pointer (some ⟨w.heap.size, 8, none⟩) := hx 7 (by decide)
              have e99 : xq 99 = .slice (some ⟨E0, oo, none⟩) bs.length c := hx 8 (by decide)
              have e100 : xq 100 = .int .i64 (i : Int) := hx 9 (by decide)
              have e101 : xq 101 = .pointer (some ⟨E0, oo + i * 4, none⟩) := hx 10 (by decide)
              have e102 : xq 102 = .pointer (some ⟨E0, oo + i * 4 + 2, none⟩) := hx 11 (by decide)
              have e103 : xq 103 = .pointer (some ⟨E0, oo + i * 4 + 2 + 1, none⟩) := hx 12 (by decide)
              have e104 : xq 104 = .int .i64 g.hi := hx 13 (by decide)
              have e105 : xq 105 = .bool true := hx 14 (by decide)
              clear hx
              simp only [frameOf, fill, setSlot, sg, Nat.reduceBEq, if_true, if_false, Nat.reduceAdd, Nat.reduceEqDiff, HSL.out]
              simp only [e91, e92, e93, e94, e95, e96, e97, e98, e99, e100, e101, e102, e103, e104, e105]
              clear e91 e92 e93 e94 e95 e96 e97 e98 e99 e100 e101 e102 e103 e104 e105
              refine hKc _ _ ?_
              go_wp2_with fail
              go_ret
              exact ⟨by rw [HEQ.out, barnErr_order hw HRR.out (by rw [all_not HG.out (by simp [Bn.inOrder]; omega)]; simp)]; rfl, HB4.out.trans (hb1.mono HB4.out.size)⟩
           ·have hie : i = bs.length := by omega
            have HOO : Hid (bs.all Bn.inOrder = true) := Lib.hid (List.all_eq_true.2 (fun x hx => HALL.out x (by rw [hie, List.take_length]; exact hx)))
            have hlt' : ¬ (i : Int) < bs.length := by omega
            go_wp2_with fail
            go_ret
            exact ⟨by rw [HEQ.out, barnErr_ok hw HRR.out (by rw [HSS.out, HOO.out]; rfl)]; rfl, HB4.out⟩
end Go.Proofs.Ytokafjkinkafiaa
