
import Derived.Test.YtifffonoipapgaaVAA
import Derived.Test.YtifffonoipapgaaVAC
import Derived.Test.YtifffonoipapgaaVBK
set_option linter.unusedSimpArgs false
set_option linter.unusedVariables false
namespace Go.Proofs.Ytifffonoipapgaa
open Go.RowKit
theorem off_any (n lo hi : Int) (w : World) : Calls Try.prog 86 #[.int .i64 n, .int .i64 lo, .int .i64 hi] w fun e w' => e = .returned (.bool (!within n lo hi)) ∧ w' = w := by
 by_cases h1 : n < lo
 ·have hw : within n lo hi = false := by simp only [within, Bool.and_eq_false_iff, decide_eq_false_iff_not]; omega
  go_enter Try.func86, Try.ntmps86
  go_wp2_with fail
  go_ret
  exact ⟨by first | rfl | (rw [hw]; rfl), rfl⟩
 ·by_cases h2 : hi < n
  ·have hw : within n lo hi = false := by simp only [within, Bool.and_eq_false_iff, decide_eq_false_iff_not]; omega
   go_enter Try.func86, Try.ntmps86
   go_wp2_with fail
   go_ret
   exact ⟨by first | rfl | (rw [hw]; rfl), rfl⟩
  ·have hw : within n lo hi = true := by simp only [within, Bool.and_eq_true, decide_eq_true_eq]; omega
   go_enter Try.func86, Try.ntmps86
   go_wp2_with fail
   go_ret
   exact ⟨by first | rfl | (rw [hw]; rfl), rfl⟩
theorem gateErr_many {err miss : Int} {gs : List Gr} (h : 4 < gs.length) : gateErr err miss gs = 2 := by unfold gateErr; rw [if_pos h]
theorem gateErr_range {err miss : Int} {gs : List Gr} (hl : gs.length ≤ 4) (h : (within err 0 50 && within miss 0 20 && gs.all Gr.right) = false) : gateErr err miss gs = 3 := by unfold gateErr; rw [if_neg (by omega), if_pos h]
theorem gateErr_order {err miss : Int} {gs : List Gr} (hl : gs.length ≤ 4) (h : (within err 0 50 && within miss 0 20 && gs.all Gr.right) = true) (hf : falls gs = false) : gateErr err miss gs = 4 := by unfold gateErr; rw [if_neg (by omega), h, hf]; simp
theorem gateErr_ok {err miss : Int} {gs : List Gr} (hl : gs.length ≤ 4) (h : (within err 0 50 && within miss 0 20 && gs.all Gr.right) = true) (hf : falls gs = true) : gateErr err miss gs = 0 := by unfold gateErr; rw [if_neg (by omega), h, hf]; simp
theorem all_not {α : Type} {p : α → Bool} {xs : List α} {i : Nat} {x : α} (h : xs[i]? = some x) (hp : p x = false) : xs.all p = false := by
 cases hq : xs.all p with
 | false => rfl
 | true => rw [List.all_eq_true.1 hq x (List.mem_of_getElem? h)] at hp; cases hp
theorem take_next {α : Type} {p : α → Bool} {xs : List α} {i : Nat} {x : α} (h : xs[i]? = some x) (hall : ∀ y ∈ xs.take i, p y = true) (hp : p x = true) : ∀ y ∈ xs.take (i + 1), p y = true := by
 rw [List.take_add_one, h]
 intro y hy
 rcases List.mem_append.1 hy with hy | hy
 ·exact hall y hy
 ·simp at hy; subst hy; exact hp
theorem fall_next {gs : List Gr} {k : Nat} {x y : Gr} (h : ∀ (j : Nat) (a b : Gr), j + 1 < k + 1 → gs[j]? = some a → gs[j + 1]? = some b → b.price ≤ a.price) (hx : gs[k]? = some x) (hy : gs[k + 1]? = some y) (hp : y.price ≤ x.price) : ∀ (j : Nat) (a b : Gr), j + 1 < k + 1 + 1 → gs[j]? = some a → gs[j + 1]? = some b → b.price ≤ a.price := by
 intro j a b hj ha hb
 by_cases e : j = k
 ·subst e; rw [hx] at ha; rw [hy] at hb; cases ha; cases hb; exact hp
 ·exact h j a b (by omega) ha hb
def FallTo (gs : List Gr) (i : Nat) : Prop := ∀ (j : Nat) (a b : Gr), j + 1 < i → gs[j]? = some a → gs[j + 1]? = some b → b.price ≤ a.price
theorem falls_all : ∀ (gs : List Gr), (∀ (j : Nat) (a b : Gr), gs[j]? = some a → gs[j + 1]? = some b → b.price ≤ a.price) → falls gs = true := by
 intro gs
 induction gs with
 | nil => intro _; rfl
 | cons a gs ih =>
  intro h
  cases gs with
  | nil => rfl
  | cons b gs =>
   have h0 := h 0 a b rfl rfl
   have := ih (fun j x y hx hy => h (j + 1) x y (by simpa using hx) (by simpa using hy))
   rw [falls, this]
   simpa using h0
theorem falls_not : ∀ (gs : List Gr) (j : Nat) (a b : Gr), gs[j]? = some a → gs[j + 1]? = some b → a.price < b.price → falls gs = false := by
 intro gs
 induction gs with
 | nil => intro j a b h; simp at h
 | cons c gs ih =>
  intro j a b h h2 hl
  cases gs with
  | nil => simp at h2
  | cons d gs =>
   rw [falls]
   cases j with
   | zero =>
    simp at h h2
    subst h
    subst h2
    have : decide (d.price ≤ c.price) = false := decide_eq_false (by omega)
    rw [this]; rfl
   | succ j =>
    rw [ih j a b (by simpa using h) (by simpa using h2) hl]
    simp
theorem zp7 {p : Prop} (h : p := by (repeat first | (with_reducible first | assumption | apply Holds.putL | ((refine Holds.new' _ _ ?_); (simp; done)) | refine Holds.alloc ?_ _ | refine Holds.drew ?_ | refine Holds.far ?_ (by simp only [ne_eq]; omega) _) | rfl)) : p := h
set_option maxRecDepth 100000 in
set_option maxHeartbeats 4000000 in
theorem refCheck_any (err miss : Int) (A : Option Addr) (c : Nat) (gs : List Gr) (w : World) (hA : GradesAt w A gs) (hl : gs.length ≤ 1000) :
  Calls Try.prog 23 #[.agg #[.int .i64 err, .int .i64 miss, .slice A gs.length c]] w fun e w' => e = .returned (.int .i64 (gateErr err miss gs)) ∧ Below w.heap.size w w' := by
 have HA := Lib.hid hA
 clear hA
 obtain ⟨E, hE⟩ : ∃ z, z = gateErr err miss gs := ⟨_, rfl⟩
 rw [← hE]
 have HEQ := Lib.hid hE
 clear hE
 by_cases h4 : 4 < gs.length
 ·have h4' : (4 : Int) < gs.length := by omega
  go_enter Try.func23, Try.ntmps23
  go_wp2_with fail
  go_ret
  exact ⟨by rw [HEQ.out, gateErr_many h4]; rfl, zg⟩
 ·have h4' : ¬ (4 : Int) < gs.length := by omega
  have h4l : gs.length ≤ 4 := by omega
  cases hw0 : within err 0 50 with
  | false =>
   go_enter Try.func23, Try.ntmps23
   go_wp2_with (go_at_call 86; refine (off_any _ _ _ _).mono ?_; simp only [hw0, Bool.not_true, Bool.not_false]; rintro e w2_ ⟨rfl, rfl⟩)
   go_ret
   exact ⟨by rw [HEQ.out, gateErr_range h4l (by rw [hw0]; rfl)]; rfl, zg⟩
  | true =>
   cases hw1 : within miss 0 20 with
   | false =>
    go_enter Try.func23, Try.ntmps23
    go_wp2_with (go_at_call 86; refine (off_any _ _ _ _).mono ?_; simp only [hw0, hw1, Bool.not_true, Bool.not_false]; rintro e w2_ ⟨rfl, rfl⟩)
    go_ret
    exact ⟨by rw [HEQ.out, gateErr_range h4l (by rw [hw0, hw1]; rfl)]; rfl, zg⟩
   | true =>
    go_enter Try.func23, Try.ntmps23
    go_wp2_with (go_at_call 86; refine (off_any _ _ _ _).mono ?_; simp only [hw0, hw1, Bool.not_true, Bool.not_false]; rintro e w2_ ⟨rfl, rfl⟩)
    go_loopw [3] (fun v3 wr => ∃ i : Nat, v3 = .int .i64 (i : Int) ∧ i ≤ gs.length ∧ (∀ y ∈ gs.take i, y.right = true) ∧ Below w.heap.size w wr ∧ Holds wr w.heap.size 49 #[.int .i64 err, .int .i64 miss, .slice A gs.length c]) (fun v3 _ => gs.length - (intOf v3).toNat)
    case atStart => exact ⟨0, rfl, Nat.zero_le _, (fun y hy => by simp at hy), zg, by (repeat first | (with_reducible first | assumption | apply Holds.putL | ((refine Holds.new' _ _ ?_); (simp; done)) | refine Holds.alloc ?_ _ | refine Holds.drew ?_ | refine Holds.far ?_ (by simp only [ne_eq]; omega) _) | rfl)⟩
    case round =>
     obtain ⟨i, rfl, hi, hall, hB, hH⟩ := hrel
     have HALL := Lib.hid hall
     have HB := Lib.hid hB
     have HH := Lib.hid hH
     obtain ⟨kb0, kb1, kb2⟩ := hH.c3
     have lb := hH.lt
     clear hall hB hH
     by_cases hlt : i < gs.length
     ·have hlt' : (i : Int) < gs.length := by omega
      obtain ⟨g, hg⟩ : ∃ g, gs[i]? = some g := ⟨_, List.getElem?_eq_getElem hlt⟩
      obtain ⟨E0, oo, rfl, hcell⟩ := (HA.out.up HB.out) (by omega)
      obtain ⟨ke0, ke1, ke2, ke3, ke4⟩ := hcell i g hg
      have HG_ := Lib.hid hg
      have lE := World.block_lt_of_cell? wr _ ke0
      clear hcell hg
      cases hr0 : within g.corn 0 40 with
      | false =>
       go_wp2_with (go_at_call 86; refine (off_any _ _ _ _).mono ?_; simp only [hr0, Bool.not_true, Bool.not_false]; rintro e w2_ ⟨rfl, rfl⟩)
       go_ret
       exact ⟨by rw [HEQ.out, gateErr_range h4l (by rw [all_not HG_.out (by simp only [Gr.right, hr0, Bool.and_false, Bool.false_and])]; simp)]; rfl, HB.out.trans zg⟩
      | true =>
       cases hr1 : within g.chaff 0 40 with
       | false =>
        go_wp2_with (go_at_call 86; refine (off_any _ _ _ _).mono ?_; simp only [hr0, hr1, Bool.not_true, Bool.not_false]; rintro e w2_ ⟨rfl, rfl⟩)
        go_ret
        exact ⟨by rw [HEQ.out, gateErr_range h4l (by rw [all_not HG_.out (by simp only [Gr.right, hr0, hr1, Bool.and_false, Bool.false_and])]; simp)]; rfl, HB.out.trans zg⟩
       | true =>
        cases hr2 : within g.stones 0 40 with
        | false =>
         go_wp2_with (go_at_call 86; refine (off_any _ _ _ _).mono ?_; simp only [hr0, hr1, hr2, Bool.not_true, Bool.not_false]; rintro e w2_ ⟨rfl, rfl⟩)
         go_ret
         exact ⟨by rw [HEQ.out, gateErr_range h4l (by rw [all_not HG_.out (by simp only [Gr.right, hr0, hr1, hr2, Bool.and_false, Bool.false_and])]; simp)]; rfl, HB.out.trans zg⟩
        | true =>
         cases hr3 : within g.damp 0 40 with
         | false =>
          go_wp2_with (go_at_call 86; refine (off_any _ _ _ _).mono ?_; simp only [hr0, hr1, hr2, hr3, Bool.not_true, Bool.not_false]; rintro e w2_ ⟨rfl, rfl⟩)
          go_ret
          exact ⟨by rw [HEQ.out, gateErr_range h4l (by rw [all_not HG_.out (by simp only [Gr.right, hr0, hr1, hr2, hr3, Bool.and_false, Bool.false_and])]; simp)]; rfl, HB.out.trans zg⟩
         | true =>
          cases hr4 : within g.price 0 100 with
          | false =>
           go_wp2_with (go_at_call 86; refine (off_any _ _ _ _).mono ?_; simp only [hr0, hr1, hr2, hr3, hr4, Bool.not_true, Bool.not_false]; rintro e w2_ ⟨rfl, rfl⟩)
           go_ret
           exact ⟨by rw [HEQ.out, gateErr_range h4l (by rw [all_not HG_.out (by simp only [Gr.right, hr0, hr1, hr2, hr3, hr4, Bool.and_false, Bool.false_and])]; simp)]; rfl, HB.out.trans zg⟩
          | true =>
           go_wp2_with (go_at_call 86; refine (off_any _ _ _ _).mono ?_; simp only [hr0, hr1, hr2, hr3, hr4, Bool.not_true, Bool.not_false]; rintro e w2_ ⟨rfl, rfl⟩)
           go_roundw
           case rel => exact ⟨i + 1, by go_num, by omega, take_next HG_.out HALL.out (by simp only [Gr.right, hr0, hr1, hr2, hr3, hr4, Bool.and_self]), HB.out.trans zg, by have h := HH.out; exact zp7⟩
           case measure => first | (simp [intOf]; done) | (simp [intOf]; omega)
     ·have hie : i = gs.length := by omega
      subst hie
      have hrr : gs.all Gr.right = true := List.all_eq_true.2 (fun x hx => HALL.out x (by rw [List.take_length]; exact hx))
      have HRR : Hid ((within err 0 50 && within miss 0 20 && gs.all Gr.right) = true) := Lib.hid (by rw [hw0, hw1, hrr]; rfl)
      clear hrr
      go_wp2_with fail
      go_loopw [5] (fun v5 wz => ∃ i : Nat, v5 = .int .i64 (i : Int) ∧ 1 ≤ i ∧ (i ≤ gs.length ∨ i = 1) ∧ FallTo gs i ∧ Below wr.heap.size wr wz) (fun v5 _ => gs.length + 1 - (intOf v5).toNat)
      case atStart => exact ⟨1, rfl, Nat.le_refl _, .inr rfl, (fun j a b h => by omega), Below.refl _ _⟩
      case round =>
       rename World => wy
       obtain ⟨i, rfl, h1i, hi2, hf, hby⟩ := hrel
       have HF := Lib.hid hf
       have HBy := Lib.hid hby
       have kb2 := up_cell hby kb2
       have hyz := hby.size
       have HB := Lib.hid (HB.out.trans (hby.mono HB.out.size))
       clear hf hby
       by_cases hlt2 : i < gs.length
       ·have hlt' : (i : Int) < gs.length := by omega
        obtain ⟨k, rfl⟩ : ∃ k, i = k + 1 := ⟨i - 1, by omega⟩
        obtain ⟨x, hx⟩ : ∃ g, gs[k]? = some g := ⟨_, List.getElem?_eq_getElem (by omega)⟩
        obtain ⟨y, hy⟩ : ∃ g, gs[k + 1]? = some g := ⟨_, List.getElem?_eq_getElem hlt2⟩
        obtain ⟨E0, oo, rfl, hcell⟩ := (HA.out.up HB.out) (by omega)
        obtain ⟨_, _, _, _, kx⟩ := hcell k x hx
        obtain ⟨_, _, _, _, ky⟩ := hcell (k + 1) y hy
        have lE := World.block_lt_of_cell? _ _ kx
        have HX := Lib.hid hx
        have HY := Lib.hid hy
        clear hcell hx hy
        by_cases hp : x.price < y.price
        ·go_wp2_with fail
         rename_i Kc hKc
         have HSL := Lib.hid (show slotsOf [some 60, some 61, some 62, some 63, some 64, some 65, some 66, some 67, some 68, some 69, some 70, some 71, some 72, some 73] = [60, 61, 62, 63, 64, 65, 66, 67, 68, 69, 70, 71, 72, 73] from rfl)
         refine wp_region_partsG (by kernel_rfl) [some 60, some 61, some 62, some 63, some 64, some 65, some 66, some 67, some 68, some 69, some 70, some 71, some 72, some 73] (fun jq xq w' => match jq with
          | 0 => xq 60 = .pointer (some ⟨w.heap.size, 2, none⟩)
          | 1 => xq 61 = .slice (some ⟨E0, oo, none⟩) gs.length c
          | 2 => xq 62 = .int .i64 ((k + 1 : Nat) : Int)
          | 3 => xq 63 = .pointer (some ⟨E0, oo + (k + 1) * 5, none⟩)
          | 4 => xq 64 = .pointer (some ⟨E0, oo + (k + 1) * 5 + 4, none⟩)
          | 5 => xq 65 = .int .i64 y.price
          | 6 => xq 66 = .pointer (some ⟨w.heap.size, 2, none⟩)
          | 7 => xq 67 = .slice (some ⟨E0, oo, none⟩) gs.length c
          | 8 => xq 68 = .int .i64 ((k + 1 : Nat) : Int)
          | 9 => xq 69 = .int .i64 (k : Int)
          | 10 => xq 70 = .pointer (some ⟨E0, oo + k * 5, none⟩)
          | 11 => xq 71 = .pointer (some ⟨E0, oo + k * 5 + 4, none⟩)
          | 12 => xq 72 = .int .i64 x.price
          | 13 => xq 73 = .bool true
          | _ => True) [[60], [61], [62], [63], [64], [65], [66], [67], [68], [69], [70], [71], [72], [73]] [] (fun w' => Below wy.heap.size wy w') (by kernel_rfl)  ?_ ?_ (fun w' w'' hb h => h.trans (hb.mono h.size)) (Below.refl _ _) ?_ ?_ ?_
         ·intro jq xq xq' wqq h hv
          match jq, h, hv with
          | 0, h, hv => show xq' 60 = .pointer (some ⟨w.heap.size, 2, none⟩); rw [← h 60 (by decide)]; exact hv
          | 1, h, hv => show xq' 61 = .slice (some ⟨E0, oo, none⟩) gs.length c; rw [← h 61 (by decide)]; exact hv
          | 2, h, hv => show xq' 62 = .int .i64 ((k + 1 : Nat) : Int); rw [← h 62 (by decide)]; exact hv
          | 3, h, hv => show xq' 63 = .pointer (some ⟨E0, oo + (k + 1) * 5, none⟩); rw [← h 63 (by decide)]; exact hv
          | 4, h, hv => show xq' 64 = .pointer (some ⟨E0, oo + (k + 1) * 5 + 4, none⟩); rw [← h 64 (by decide)]; exact hv
          | 5, h, hv => show xq' 65 = .int .i64 y.price; rw [← h 65 (by decide)]; exact hv
          | 6, h, hv => show xq' 66 = .pointer (some ⟨w.heap.size, 2, none⟩); rw [← h 66 (by decide)]; exact hv
          | 7, h, hv => show xq' 67 = .slice (some ⟨E0, oo, none⟩) gs.length c; rw [← h 67 (by decide)]; exact hv
          | 8, h, hv => show xq' 68 = .int .i64 ((k + 1 : Nat) : Int); rw [← h 68 (by decide)]; exact hv
          | 9, h, hv => show xq' 69 = .int .i64 (k : Int); rw [← h 69 (by decide)]; exact hv
          | 10, h, hv => show xq' 70 = .pointer (some ⟨E0, oo + k * 5, none⟩); rw [← h 70 (by decide)]; exact hv
          | 11, h, hv => show xq' 71 = .pointer (some ⟨E0, oo + k * 5 + 4, none⟩); rw [← h 71 (by decide)]; exact hv
          | 12, h, hv => show xq' 72 = .int .i64 x.price; rw [← h 72 (by decide)]; exact hv
          | 13, h, hv => show xq' 73 = .bool true; rw [← h 73 (by decide)]; exact hv
          | _ + 14, _, _ => trivial
         ·intro jq xq wqq w' hb' hv
          match jq, hv with
          | 0, hv => exact hv
          | 1, hv => exact hv
          | 2, hv => exact hv
          | 3, hv => exact hv
          | 4, hv => exact hv
          | 5, hv => exact hv
          | 6, hv => exact hv
          | 7, hv => exact hv
          | 8, hv => exact hv
          | 9, hv => exact hv
          | 10, hv => exact hv
          | 11, hv => exact hv
          | 12, hv => exact hv
          | 13, hv => exact hv
          | _ + 14, _ => trivial
         ·intro jq hj
          match jq, hj with
          | 0, hj => exact absurd hj (by decide)
          | 1, hj => exact absurd hj (by decide)
          | 2, hj => exact absurd hj (by decide)
          | 3, hj => exact absurd hj (by decide)
          | 4, hj => exact absurd hj (by decide)
          | 5, hj => exact absurd hj (by decide)
          | 6, hj => exact absurd hj (by decide)
          | 7, hj => exact absurd hj (by decide)
          | 8, hj => exact absurd hj (by decide)
          | 9, hj => exact absurd hj (by decide)
          | 10, hj => exact absurd hj (by decide)
          | 11, hj => exact absurd hj (by decide)
          | 12, hj => exact absurd hj (by decide)
          | 13, hj => exact absurd hj (by decide)
          | _ + 14, _ => trivial
         ·refine ⟨?_, ?_, ?_, ?_, ?_, ?_, ?_, ?_, ?_, ?_, ?_, ?_, ?_, ?_, trivial⟩
          ·intro xq w1 hb1 hx K hK0
           have hK := fun v w' hb => hK0 v w' (.inl hb)
           clear hx hKc hK0
           simp only [frameOf, fill, setSlot, sg, Nat.reduceBEq, if_true, if_false, Nat.reduceAdd, Nat.reduceEqDiff, HSL.out] at hK ⊢
           go_wp2_with (fail)
           exact hK _ _ (Below.refl _ _) rfl
          ·intro xq w1 hb1 hx K hK0
           have hK := fun v w' hb => hK0 v w' (.inl hb)
           have e60 : xq 60 = .pointer (some ⟨w.heap.size, 2, none⟩) := hx 0 (by rfl) (by rfl)
           clear hx hKc hK0
           have kb2' : w1.cell? ⟨w.heap.size, 2, none⟩ = some (.slice (some ⟨E0, oo, none⟩) gs.length c) := up_cell hb1 kb2
           simp only [frameOf, fill, setSlot, sg, Nat.reduceBEq, if_true, if_false, Nat.reduceAdd, Nat.reduceEqDiff, HSL.out] at hK ⊢
           simp only [e60] at hK ⊢
           clear e60
           go_wp2_with (fail)
           exact hK _ _ (Below.refl _ _) rfl
          ·intro xq w1 hb1 hx K hK0
           have hK := fun v w' hb => hK0 v w' (.inl hb)
           clear hx hKc hK0
           simp only [frameOf, fill, setSlot, sg, Nat.reduceBEq, if_true, if_false, Nat.reduceAdd, Nat.reduceEqDiff, HSL.out] at hK ⊢
           go_wp2_with (fail)
           exact hK _ _ (Below.refl _ _) rfl
          ·intro xq w1 hb1 hx K hK0
           have hK := fun v w' hb => hK0 v w' (.inl hb)
           have e61 : xq 61 = .slice (some ⟨E0, oo, none⟩) gs.length c := hx 1 (by rfl) (by rfl)
           have e62 : xq 62 = .int .i64 ((k + 1 : Nat) : Int) := hx 2 (by rfl) (by rfl)
           clear hx hKc hK0
           have hk1 : ((k + 1 : Nat) : Int) < gs.length := by omega
           simp only [frameOf, fill, setSlot, sg, Nat.reduceBEq, if_true, if_false, Nat.reduceAdd, Nat.reduceEqDiff, HSL.out] at hK ⊢
           simp only [e61, e62] at hK ⊢
           clear e61 e62
           go_wp2_with (fail)
           exact hK _ _ (Below.refl _ _) rfl
          ·intro xq w1 hb1 hx K hK0
           have hK := fun v w' hb => hK0 v w' (.inl hb)
           have e63 : xq 63 = .pointer (some ⟨E0, oo + (k + 1) * 5, none⟩) := hx 3 (by rfl) (by rfl)
           clear hx hKc hK0
           simp only [frameOf, fill, setSlot, sg, Nat.reduceBEq, if_true, if_false, Nat.reduceAdd, Nat.reduceEqDiff, HSL.out] at hK ⊢
           simp only [e63] at hK ⊢
           clear e63
           go_wp2_with (fail)
           exact hK _ _ (Below.refl _ _) rfl
          ·intro xq w1 hb1 hx K hK0
           have hK := fun v w' hb => hK0 v w' (.inl hb)
           have e64 : xq 64 = .pointer (some ⟨E0, oo + (k + 1) * 5 + 4, none⟩) := hx 4 (by rfl) (by rfl)
           clear hx hKc hK0
           have ky' := up_cell hb1 ky
           simp only [frameOf, fill, setSlot, sg, Nat.reduceBEq, if_true, if_false, Nat.reduceAdd, Nat.reduceEqDiff, HSL.out] at hK ⊢
           simp only [e64] at hK ⊢
           clear e64
           go_wp2_with (fail)
           exact hK _ _ (Below.refl _ _) rfl
          ·intro xq w1 hb1 hx K hK0
           have hK := fun v w' hb => hK0 v w' (.inl hb)
           clear hx hKc hK0
           simp only [frameOf, fill, setSlot, sg, Nat.reduceBEq, if_true, if_false, Nat.reduceAdd, Nat.reduceEqDiff, HSL.out] at hK ⊢
           go_wp2_with (fail)
           exact hK _ _ (Below.refl _ _) rfl
          ·intro xq w1 hb1 hx K hK0
           have hK := fun v w' hb => hK0 v w' (.inl hb)
           have e66 : xq 66 = .pointer (some ⟨w.heap.size, 2, none⟩) := hx 6 (by rfl) (by rfl)
           clear hx hKc hK0
           have kb2' : w1.cell? ⟨w.heap.size, 2, none⟩ = some (.slice (some ⟨E0, oo, none⟩) gs.length c) := up_cell hb1 kb2
           simp only [frameOf, fill, setSlot, sg, Nat.reduceBEq, if_true, if_false, Nat.reduceAdd, Nat.reduceEqDiff, HSL.out] at hK ⊢
           simp only [e66] at hK ⊢
           clear e66
           go_wp2_with (fail)
           exact hK _ _ (Below.refl _ _) rfl
          ·intro xq w1 hb1 hx K hK0
           have hK := fun v w' hb => hK0 v w' (.inl hb)
           clear hx hKc hK0
           simp only [frameOf, fill, setSlot, sg, Nat.reduceBEq, if_true, if_false, Nat.reduceAdd, Nat.reduceEqDiff, HSL.out] at hK ⊢
           go_wp2_with (fail)
           exact hK _ _ (Below.refl _ _) rfl
          ·intro xq w1 hb1 hx K hK0
           have hK := fun v w' hb => hK0 v w' (.inl hb)
           have e68 : xq 68 = .int .i64 ((k + 1 : Nat) : Int) := hx 8 (by rfl) (by rfl)
           clear hx hKc hK0
           simp only [frameOf, fill, setSlot, sg, Nat.reduceBEq, if_true, if_false, Nat.reduceAdd, Nat.reduceEqDiff, HSL.out] at hK ⊢
           simp only [e68] at hK ⊢
           clear e68
           go_wp2_with (fail)
           exact hK _ _ (Below.refl _ _) (congrArg (Value.int .i64) (by omega))
          ·intro xq w1 hb1 hx K hK0
           have hK := fun v w' hb => hK0 v w' (.inl hb)
           have e67 : xq 67 = .slice (some ⟨E0, oo, none⟩) gs.length c := hx 7 (by rfl) (by rfl)
           have e69 : xq 69 = .int .i64 (k : Int) := hx 9 (by rfl) (by rfl)
           clear hx hKc hK0
           have hk0 : (k : Int) < gs.length := by omega
           simp only [frameOf, fill, setSlot, sg, Nat.reduceBEq, if_true, if_false, Nat.reduceAdd, Nat.reduceEqDiff, HSL.out] at hK ⊢
           simp only [e67, e69] at hK ⊢
           clear e67 e69
           go_wp2_with (fail)
           exact hK _ _ (Below.refl _ _) rfl
          ·intro xq w1 hb1 hx K hK0
           have hK := fun v w' hb => hK0 v w' (.inl hb)
           have e70 : xq 70 = .pointer (some ⟨E0, oo + k * 5, none⟩) := hx 10 (by rfl) (by rfl)
           clear hx hKc hK0
           simp only [frameOf, fill, setSlot, sg, Nat.reduceBEq, if_true, if_false, Nat.reduceAdd, Nat.reduceEqDiff, HSL.out] at hK ⊢
           simp only [e70] at hK ⊢
           clear e70
           go_wp2_with (fail)
           exact hK _ _ (Below.refl _ _) rfl
          ·intro xq w1 hb1 hx K hK0
           have hK := fun v w' hb => hK0 v w' (.inl hb)
           have e71 : xq 71 = .pointer (some ⟨E0, oo + k * 5 + 4, none⟩) := hx 11 (by rfl) (by rfl)
           clear hx hKc hK0
           have kx' := up_cell hb1 kx
           simp only [frameOf, fill, setSlot, sg, Nat.reduceBEq, if_true, if_false, Nat.reduceAdd, Nat.reduceEqDiff, HSL.out] at hK ⊢
           simp only [e71] at hK ⊢
           clear e71
           go_wp2_with (fail)
           exact hK _ _ (Below.refl _ _) rfl
          ·intro xq w1 hb1 hx K hK0
           have hK := fun v w' hb => hK0 v w' (.inl hb)
           have e65 : xq 65 = .int .i64 y.price := hx 5 (by rfl) (by rfl)
           have e72 : xq 72 = .int .i64 x.price := hx 12 (by rfl) (by rfl)
           clear hx hKc hK0
           simp only [frameOf, fill, setSlot, sg, Nat.reduceBEq, if_true, if_false, Nat.reduceAdd, Nat.reduceEqDiff, HSL.out] at hK ⊢
           simp only [e65, e72] at hK ⊢
           clear e65 e72
           go_wp2_with (fail)
           first | exact hK _ _ (Below.refl _ _) rfl | exact hK _ _ (Below.refl _ _) (congrArg Value.bool (decide_eq_true (by omega)))
         ·intro xq w1 hb1 hx
          have e60 : xq 60 = .pointer (some ⟨w.heap.size, 2, none⟩) := hx 0 (by decide)
          have e61 : xq 61 = .slice (some ⟨E0, oo, none⟩) gs.length c := hx 1 (by decide)
          have e62 : xq 62 = .int .i64 ((k + 1 : Nat) : Int) := hx 2 (by decide)
          have e63 : xq 63 = .pointer (some ⟨E0, oo + (k + 1) * 5, none⟩) := hx 3 (by decide)
          have e64 : xq 64 = .pointer (some ⟨E0, oo + (k + 1) * 5 + 4, none⟩) := hx 4 (by decide)
          have e65 : xq 65 = .int .i64 y.price := hx 5 (by decide)
          have e66 : xq 66 = .pointer (some ⟨w.heap.size, 2, none⟩) := hx 6 (by decide)
          have e67 : xq 67 = .slice (some ⟨E0, oo, none⟩) gs.length c := hx 7 (by decide)
          have e68 : xq 68 = .int .i64 ((k + 1 : Nat) : Int) := hx 8 (by decide)
          have e69 : xq 69 = .int .i64 (k : Int) := hx 9 (by decide)
          have e70 : xq 70 = .pointer (some ⟨E0, oo + k * 5, none⟩) := hx 10 (by decide)
          have e71 : xq 71 = .pointer (some ⟨E0, oo + k * 5 + 4, none⟩) := hx 11 (by decide)
          have e72 : xq 72 = .int .i64 x.price := hx 12 (by decide)
          have e73 : xq 73 = .bool true := hx 13 (by decide)
          clear hx
          simp only [frameOf, fill, setSlot, sg, Nat.reduceBEq, if_true, if_false, Nat.reduceAdd, Nat.reduceEqDiff, HSL.out]
          simp only [e60, e61, e62, e63, e64, e65, e66, e67, e68, e69, e70, e71, e72, e73]
          clear e60 e61 e62 e63 e64 e65 e66 e67 e68 e69 e70 e71 e72 e73
          refine hKc _ _ ?_
          go_wp2_with fail
          go_ret
          exact ⟨by rw [HEQ.out, gateErr_order h4l HRR.out (falls_not gs k x y HX.out HY.out hp)]; rfl, HB.out.trans (hb1.mono HB.out.size)⟩
        ·go_wp2_with fail
         rename_i Kc hKc
         have HSL := Lib.hid (show slotsOf [some 60, some 61, some 62, some 63, some 64, some 65, some 66, some 67, some 68, some 69, some 70, some 71, some 72, some 73] = [60, 61, 62, 63, 64, 65, 66, 67, 68, 69, 70, 71, 72, 73] from rfl)
         refine wp_region_partsG (by kernel_rfl) [some 60, some 61, some 62, some 63, some 64, some 65, some 66, some 67, some 68, some 69, some 70, some 71, some 72, some 73] (fun jq xq w' => match jq with
          | 0 => xq 60 = .pointer (some ⟨w.heap.size, 2, none⟩)
          | 1 => xq 61 = .slice (some ⟨E0, oo, none⟩) gs.length c
          | 2 => xq 62 = .int .i64 ((k + 1 : Nat) : Int)
          | 3 => xq 63 = .pointer (some ⟨E0, oo + (k + 1) * 5, none⟩)
          | 4 => xq 64 = .pointer (some ⟨E0, oo + (k + 1) * 5 + 4, none⟩)
          | 5 => xq 65 = .int .i64 y.price
          | 6 => xq 66 = .pointer (some ⟨w.heap.size, 2, none⟩)
          | 7 => xq 67 = .slice (some ⟨E0, oo, none⟩) gs.length c
          | 8 => xq 68 = .int .i64 ((k + 1 : Nat) : Int)
          | 9 => xq 69 = .int .i64 (k : Int)
          | 10 => xq 70 = .pointer (some ⟨E0, oo + k * 5, none⟩)
          | 11 => xq 71 = .pointer (some ⟨E0, oo + k * 5 + 4, none⟩)
          | 12 => xq 72 = .int .i64 x.price
          | 13 => xq 73 = .bool false
          | _ => True) [[60], [61], [62], [63], [64], [65], [66], [67], [68], [69], [70], [71], [72], [73]] [] (fun w' => Below wy.heap.size wy w') (by kernel_rfl)  ?_ ?_ (fun w' w'' hb h => h.trans (hb.mono h.size)) (Below.refl _ _) ?_ ?_ ?_
         ·intro jq xq xq' wqq h hv
          match jq, h, hv with
          | 0, h, hv => show xq' 60 = .pointer (some ⟨w.heap.size, 2, none⟩); rw [← h 60 (by decide)]; exact hv
          | 1, h, hv => show xq' 61 = .slice (some ⟨E0, oo, none⟩) gs.length c; rw [← h 61 (by decide)]; exact hv
          | 2, h, hv => show xq' 62 = .int .i64 ((k + 1 : Nat) : Int); rw [← h 62 (by decide)]; exact hv
          | 3, h, hv => show xq' 63 = .pointer (some ⟨E0, oo + (k + 1) * 5, none⟩); rw [← h 63 (by decide)]; exact hv
          | 4, h, hv => show xq' 64 = .pointer (some ⟨E0, oo + (k + 1) * 5 + 4, none⟩); rw [← h 64 (by decide)]; exact hv
          | 5, h, hv => show xq' 65 = .int .i64 y.price; rw [← h 65 (by decide)]; exact hv
          | 6, h, hv => show xq' 66 = .pointer (some ⟨w.heap.size, 2, none⟩); rw [← h 66 (by decide)]; exact hv
          | 7, h, hv => show xq' 67 = .slice (some ⟨E0, oo, none⟩) gs.length c; rw [← h 67 (by decide)]; exact hv
          | 8, h, hv => show xq' 68 = .int .i64 ((k + 1 : Nat) : Int); rw [← h 68 (by decide)]; exact hv
          | 9, h, hv => show xq' 69 = .int .i64 (k : Int); rw [← h 69 (by decide)]; exact hv
          | 10, h, hv => show xq' 70 = .pointer (some ⟨E0, oo + k * 5, none⟩); rw [← h 70 (by decide)]; exact hv
          | 11, h, hv => show xq' 71 = .pointer (some ⟨E0, oo + k * 5 + 4, none⟩); rw [← h 71 (by decide)]; exact hv
          | 12, h, hv => show xq' 72 = .int .i64 x.price; rw [← h 72 (by decide)]; exact hv
          | 13, h, hv => show xq' 73 = .bool false; rw [← h 73 (by decide)]; exact hv
          | _ + 14, _, _ => trivial
         ·intro jq xq wqq w' hb' hv
          match jq, hv with
          | 0, hv => exact hv
          | 1, hv => exact hv
          | 2, hv => exact hv
          | 3, hv => exact hv
          | 4, hv => exact hv
          | 5, hv => exact hv
          | 6, hv => exact hv
          | 7, hv => exact hv
          | 8, hv => exact hv
          | 9, hv => exact hv
          | 10, hv => exact hv
          | 11, hv => exact hv
          | 12, hv => exact hv
          | 13, hv => exact hv
          | _ + 14, _ => trivial
         ·intro jq hj
          match jq, hj with
          | 0, hj => exact absurd hj (by decide)
          | 1, hj => exact absurd hj (by decide)
          | 2, hj => exact absurd hj (by decide)
          | 3, hj => exact absurd hj (by decide)
          | 4, hj => exact absurd hj (by decide)
          | 5, hj => exact absurd hj (by decide)
          | 6, hj => exact absurd hj (by decide)
          | 7, hj => exact absurd hj (by decide)
          | 8, hj => exact absurd hj (by decide)
          | 9, hj => exact absurd hj (by decide)
          | 10, hj => exact absurd hj (by decide)
          | 11, hj => exact absurd hj (by decide)
          | 12, hj => exact absurd hj (by decide)
          | 13, hj => exact absurd hj (by decide)
          | _ + 14, _ => trivial
         ·refine ⟨?_, ?_, ?_, ?_, ?_, ?_, ?_, ?_, ?_, ?_, ?_, ?_, ?_, ?_, trivial⟩
          ·intro xq w1 hb1 hx K hK0
           have hK := fun v w' hb => hK0 v w' (.inl hb)
           clear hx hKc hK0
           simp only [frameOf, fill, setSlot, sg, Nat.reduceBEq, if_true, if_false, Nat.reduceAdd, Nat.reduceEqDiff, HSL.out] at hK ⊢
           go_wp2_with (fail)
           exact hK _ _ (Below.refl _ _) rfl
          ·intro xq w1 hb1 hx K hK0
           have hK := fun v w' hb => hK0 v w' (.inl hb)
           have e60 : xq 60 = .pointer (some ⟨w.heap.size, 2, none⟩) := hx 0 (by rfl) (by rfl)
           clear hx hKc hK0
           have kb2' : w1.cell? ⟨w.heap.size, 2, none⟩ = some (.slice (some ⟨E0, oo, none⟩) gs.length c) := up_cell hb1 kb2
           simp only [frameOf, fill, setSlot, sg, Nat.reduceBEq, if_true, if_false, Nat.reduceAdd, Nat.reduceEqDiff, HSL.out] at hK ⊢
           simp only [e60] at hK ⊢
           clear e60
           go_wp2_with (fail)
           exact hK _ _ (Below.refl _ _) rfl
          ·intro xq w1 hb1 hx K hK0
           have hK := fun v w' hb => hK0 v w' (.inl hb)
           clear hx hKc hK0
           simp only [frameOf, fill, setSlot, sg, Nat.reduceBEq, if_true, if_false, Nat.reduceAdd, Nat.reduceEqDiff, HSL.out] at hK ⊢
           go_wp2_with (fail)
           exact hK _ _ (Below.refl _ _) rfl
          ·intro xq w1 hb1 hx K hK0
           have hK := fun v w' hb => hK0 v w' (.inl hb)
           have e61 : xq 61 = .slice (some ⟨E0, oo, none⟩) gs.length c := hx 1 (by rfl) (by rfl)
           have e62 : xq 62 = .int .i64 ((k + 1 : Nat) : Int) := hx 2 (by rfl) (by rfl)
           clear hx hKc hK0
           have hk1 : ((k + 1 : Nat) : Int) < gs.length := by omega
           simp only [frameOf, fill, setSlot, sg, Nat.reduceBEq, if_true, if_false, Nat.reduceAdd, Nat.reduceEqDiff, HSL.out] at hK ⊢
           simp only [e61, e62] at hK ⊢
           clear e61 e62
           go_wp2_with (fail)
           exact hK _ _ (Below.refl _ _) rfl
          ·intro xq w1 hb1 hx K hK0
           have hK := fun v w' hb => hK0 v w' (.inl hb)
           have e63 : xq 63 = .pointer (some ⟨E0, oo + (k + 1) * 5, none⟩) := hx 3 (by rfl) (by rfl)
           clear hx hKc hK0
           simp only [frameOf, fill, setSlot, sg, Nat.reduceBEq, if_true, if_false, Nat.reduceAdd, Nat.reduceEqDiff, HSL.out] at hK ⊢
           simp only [e63] at hK ⊢
           clear e63
           go_wp2_with (fail)
           exact hK _ _ (Below.refl _ _) rfl
          ·intro xq w1 hb1 hx K hK0
           have hK := fun v w' hb => hK0 v w' (.inl hb)
           have e64 : xq 64 = .pointer (some ⟨E0, oo + (k + 1) * 5 + 4, none⟩) := hx 4 (by rfl) (by rfl)
           clear hx hKc hK0
           have ky' := up_cell hb1 ky
           simp only [frameOf, fill, setSlot, sg, Nat.reduceBEq, if_true, if_false, Nat.reduceAdd, Nat.reduceEqDiff, HSL.out] at hK ⊢
           simp only [e64] at hK ⊢
           clear e64
           go_wp2_with (fail)
           exact hK _ _ (Below.refl _ _) rfl
          ·intro xq w1 hb1 hx K hK0
           have hK := fun v w' hb => hK0 v w' (.inl hb)
           clear hx hKc hK0
           simp only [frameOf, fill, setSlot, sg, Nat.reduceBEq, if_true, if_false, Nat.reduceAdd, Nat.reduceEqDiff, HSL.out] at hK ⊢
           go_wp2_with (fail)
           exact hK _ _ (Below.refl _ _) rfl
          ·intro xq w1 hb1 hx K hK0
           have hK := fun v w' hb => hK0 v w' (.inl hb)
           have e66 : xq 66 = .pointer (some ⟨w.heap.size, 2, none⟩) := hx 6 (by rfl) (by rfl)
           clear hx hKc hK0
           have kb2' : w1.cell? ⟨w.heap.size, 2, none⟩ = some (.slice (some ⟨E0, oo, none⟩) gs.length c) := up_cell hb1 kb2
           simp only [frameOf, fill, setSlot, sg, Nat.reduceBEq, if_true, if_false, Nat.reduceAdd, Nat.reduceEqDiff, HSL.out] at hK ⊢
           simp only [e66] at hK ⊢
           clear e66
           go_wp2_with (fail)
           exact hK _ _ (Below.refl _ _) rfl
          ·intro xq w1 hb1 hx K hK0
           have hK := fun v w' hb => hK0 v w' (.inl hb)
           clear hx hKc hK0
           simp only [frameOf, fill, setSlot, sg, Nat.reduceBEq, if_true, if_false, Nat.reduceAdd, Nat.reduceEqDiff, HSL.out] at hK ⊢
           go_wp2_with (fail)
           exact hK _ _ (Below.refl _ _) rfl
          ·intro xq w1 hb1 hx K hK0
           have hK := fun v w' hb => hK0 v w' (.inl hb)
           have e68 : xq 68 = .int .i64 ((k + 1 : Nat) : Int) := hx 8 (by rfl) (by rfl)
           clear hx hKc hK0
           simp only [frameOf, fill, setSlot, sg, Nat.reduceBEq, if_true, if_false, Nat.reduceAdd, Nat.reduceEqDiff, HSL.out] at hK ⊢
           simp only [e68] at hK ⊢
           clear e68
           go_wp2_with (fail)
           exact hK _ _ (Below.refl _ _) (congrArg (Value.int .i64) (by omega))
          ·intro xq w1 hb1 hx K hK0
           have hK := fun v w' hb => hK0 v w' (.inl hb)
           have e67 : xq 67 = .slice (some ⟨E0, oo, none⟩) gs.length c := hx 7 (by rfl) (by rfl)
           have e69 : xq 69 = .int .i64 (k : Int) := hx 9 (by rfl) (by rfl)
           clear hx hKc hK0
           have hk0 : (k : Int) < gs.length := by omega
           simp only [frameOf, fill, setSlot, sg, Nat.reduceBEq, if_true, if_false, Nat.reduceAdd, Nat.reduceEqDiff, HSL.out] at hK ⊢
           simp only [e67, e69] at hK ⊢
           clear e67 e69
           go_wp2_with (fail)
           exact hK _ _ (Below.refl _ _) rfl
          ·intro xq w1 hb1 hx K hK0
           have hK := fun v w' hb => hK0 v w' (.inl hb)
           have e70 : xq 70 = .pointer (some ⟨E0, oo + k * 5, none⟩) := hx 10 (by rfl) (by rfl)
           clear hx hKc hK0
           simp only [frameOf, fill, setSlot, sg, Nat.reduceBEq, if_true, if_false, Nat.reduceAdd, Nat.reduceEqDiff, HSL.out] at hK ⊢
           simp only [e70] at hK ⊢
           clear e70
           go_wp2_with (fail)
           exact hK _ _ (Below.refl _ _) rfl
          ·intro xq w1 hb1 hx K hK0
           have hK := fun v w' hb => hK0 v w' (.inl hb)
           have e71 : xq 71 = .pointer (some ⟨E0, oo + k * 5 + 4, none⟩) := hx 11 (by rfl) (by rfl)
           clear hx hKc hK0
           have kx' := up_cell hb1 kx
           simp only [frameOf, fill, setSlot, sg, Nat.reduceBEq, if_true, if_false, Nat.reduceAdd, Nat.reduceEqDiff, HSL.out] at hK ⊢
           simp only [e71] at hK ⊢
           clear e71
           go_wp2_with (fail)
           exact hK _ _ (Below.refl _ _) rfl
          ·intro xq w1 hb1 hx K hK0
           have hK := fun v w' hb => hK0 v w' (.inl hb)
           have e65 : xq 65 = .int .i64 y.price := hx 5 (by rfl) (by rfl)
           have e72 : xq 72 = .int .i64 x.price := hx 12 (by rfl) (by rfl)
           clear hx hKc hK0
           simp only [frameOf, fill, setSlot, sg, Nat.reduceBEq, if_true, if_false, Nat.reduceAdd, Nat.reduceEqDiff, HSL.out] at hK ⊢
           simp only [e65, e72] at hK ⊢
           clear e65 e72
           go_wp2_with (fail)
           first | exact hK _ _ (Below.refl _ _) rfl | exact hK _ _ (Below.refl _ _) (congrArg Value.bool (decide_eq_false (by omega)))
         ·intro xq w1 hb1 hx
          have e60 : xq 60 = .pointer (some ⟨w.heap.size, 2, none⟩) := hx 0 (by decide)
          have e61 : xq 61 = .slice (some ⟨E0, oo, none⟩) gs.length c := hx 1 (by decide)
          have e62 : xq 62 = .int .i64 ((k + 1 : Nat) : Int) := hx 2 (by decide)
          have e63 : xq 63 = .pointer (some ⟨E0, oo + (k + 1) * 5, none⟩) := hx 3 (by decide)
          have e64 : xq 64 = .pointer (some ⟨E0, oo + (k + 1) * 5 + 4, none⟩) := hx 4 (by decide)
          have e65 : xq 65 = .int .i64 y.price := hx 5 (by decide)
          have e66 : xq 66 = .pointer (some ⟨w.heap.size, 2, none⟩) := hx 6 (by decide)
          have e67 : xq 67 = .slice (some ⟨E0, oo, none⟩) gs.length c := hx 7 (by decide)
          have e68 : xq 68 = .int .i64 ((k + 1 : Nat) : Int) := hx 8 (by decide)
          have e69 : xq 69 = .int .i64 (k : Int) := hx 9 (by decide)
          have e70 : xq 70 = .pointer (some ⟨E0, oo + k * 5, none⟩) := hx 10 (by decide)
          have e71 : xq 71 = .pointer (some ⟨E0, oo + k * 5 + 4, none⟩) := hx 11 (by decide)
          have e72 : xq 72 = .int .i64 x.price := hx 12 (by decide)
          have e73 : xq 73 = .bool false := hx 13 (by decide)
          clear hx
          simp only [frameOf, fill, setSlot, sg, Nat.reduceBEq, if_true, if_false, Nat.reduceAdd, Nat.reduceEqDiff, HSL.out]
          simp only [e60, e61, e62, e63, e64, e65, e66, e67, e68, e69, e70, e71, e72, e73]
          clear e60 e61 e62 e63 e64 e65 e66 e67 e68 e69 e70 e71 e72 e73
          refine hKc _ _ ?_
          go_wp2_with fail
          go_roundw
          case rel => exact ⟨k + 1 + 1, by go_num, by omega, .inl (by omega), fall_next HF.out HX.out HY.out (by omega), HBy.out.trans (hb1.mono HBy.out.size)⟩
          case measure => first | (simp [intOf]; done) | (simp [intOf]; omega)
       ·go_wp2_with fail
        go_ret
        exact ⟨by rw [HEQ.out, gateErr_ok h4l HRR.out (falls_all gs (fun j a b ha hb => HF.out j a b (by have := (List.getElem?_eq_some_iff.1 hb).1; omega) ha hb))]; rfl, HB.out⟩
end Go.Proofs.Ytifffonoipapgaa
