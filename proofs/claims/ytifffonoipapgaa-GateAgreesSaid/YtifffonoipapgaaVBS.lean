
import Derived.Test.YtifffonoipapgaaVAA
import Derived.Test.YtifffonoipapgaaVAC
import Derived.Test.YtifffonoipapgaaVBL
set_option linter.unusedSimpArgs false
set_option linter.unusedVariables false
namespace Go.Proofs.Ytifffonoipapgaa
open Go.RowKit
set_option maxRecDepth 100000 in
set_option maxHeartbeats 4000000 in
theorem refTotal_any (h : Hf) (ht : h.taken = true) (w : World) : Calls Try.prog 91 #[.agg #[.int .i64 h.spot, .int .i64 h.g0, .int .i64 h.g1, .int .i64 h.g2, .int .i64 h.g3]] w fun e w' => e = .returned (.int .i64 h.sum) ∧ Below w.heap.size w w' := by
 obtain ⟨_, ⟨a0, b0⟩, ⟨a1, b1⟩, ⟨a2, b2⟩, a3, b3⟩ := taken_parts ht
 obtain ⟨S, hS⟩ : ∃ z, z = h.sum := ⟨_, rfl⟩
 rw [← hS]
 have HS := Lib.hid hS
 clear hS ht
 go_enter Try.func91, Try.ntmps91
 go_wp2_with fail
 refine wp_loop_rounds 5 ?_
 repeat any_goals (rw [rounds_succ]; go_wp2_with fail)
 go_ret
 exact ⟨by rw [HS.out]; first | rfl | (unfold Hf.sum; congr 2; omega), zg⟩
theorem cartErr_many {full emp : Int} {hs : List Hf} (h : 6 < hs.length) : cartErr full emp hs = 2 := by unfold cartErr; rw [if_pos h]
theorem cartErr_range {full emp : Int} {hs : List Hf} (hl : hs.length ≤ 6) (h : (within full 0 10000 && within emp 0 10000 && hs.all Hf.taken) = false) : cartErr full emp hs = 3 := by unfold cartErr; rw [if_neg (by omega), if_pos h]
theorem cartErr_wrong {full emp : Int} {hs : List Hf} (hl : hs.length ≤ 6) (h : (within full 0 10000 && within emp 0 10000 && hs.all Hf.taken) = true) (hf : hs.all Hf.enough = false) : cartErr full emp hs = 8 := by unfold cartErr; rw [if_neg (by omega), h, hf]; simp
theorem cartErr_ok {full emp : Int} {hs : List Hf} (hl : hs.length ≤ 6) (h : (within full 0 10000 && within emp 0 10000 && hs.all Hf.taken) = true) (hf : hs.all Hf.enough = true) : cartErr full emp hs = 0 := by unfold cartErr; rw [if_neg (by omega), h, hf]; simp
set_option maxRecDepth 100000 in
set_option maxHeartbeats 4000000 in
theorem refCheckCart_any (full emp : Int) (A : Option Addr) (c : Nat) (hs : List Hf) (w : World) (hA : HandsAt w A hs) (hl : hs.length ≤ 1000) :
  Calls Try.prog 26 #[.agg #[.int .i64 full, .int .i64 emp, .slice A hs.length c]] w fun e w' => e = .returned (.int .i64 (cartErr full emp hs)) ∧ Below w.heap.size w w' := by
 have HA := Lib.hid hA
 clear hA
 obtain ⟨E, hE⟩ : ∃ z, z = cartErr full emp hs := ⟨_, rfl⟩
 rw [← hE]
 have HEQ := Lib.hid hE
 clear hE
 by_cases h4 : 6 < hs.length
 ·have h4' : (6 : Int) < hs.length := by omega
  go_enter Try.func26, Try.ntmps26
  go_wp2_with fail
  go_ret
  exact ⟨by rw [HEQ.out, cartErr_many h4]; rfl, zg⟩
 ·have h4' : ¬ (6 : Int) < hs.length := by omega
  have h4l : hs.length ≤ 6 := by omega
  cases hw0 : within full 0 10000 with
  | false =>
   go_enter Try.func26, Try.ntmps26
   go_wp2_with (go_at_call 86; refine (off_any _ _ _ _).mono ?_; simp only [hw0, Bool.not_true, Bool.not_false]; rintro e w2_ ⟨rfl, rfl⟩)
   go_ret
   exact ⟨by rw [HEQ.out, cartErr_range h4l (by rw [hw0]; rfl)]; rfl, zg⟩
  | true =>
   cases hw1 : within emp 0 10000 with
   | false =>
    go_enter Try.func26, Try.ntmps26
    go_wp2_with (go_at_call 86; refine (off_any _ _ _ _).mono ?_; simp only [hw0, hw1, Bool.not_true, Bool.not_false]; rintro e w2_ ⟨rfl, rfl⟩)
    go_ret
    exact ⟨by rw [HEQ.out, cartErr_range h4l (by rw [hw0, hw1]; rfl)]; rfl, zg⟩
   | true =>
    go_enter Try.func26, Try.ntmps26
    go_wp2_with (go_at_call 86; refine (off_any _ _ _ _).mono ?_; simp only [hw0, hw1, Bool.not_true, Bool.not_false]; rintro e w2_ ⟨rfl, rfl⟩)
    go_loopw [3] (fun v3 wr => ∃ i : Nat, v3 = .int .i64 (i : Int) ∧ i ≤ hs.length ∧ (∀ y ∈ hs.take i, y.taken = true) ∧ Below w.heap.size w wr ∧ Holds wr w.heap.size 37 #[.int .i64 full, .int .i64 emp, .slice A hs.length c]) (fun v3 _ => hs.length - (intOf v3).toNat)
    case atStart => exact ⟨0, rfl, Nat.zero_le _, (fun y hy => by simp at hy), zg, by (repeat first | (with_reducible first | assumption | apply Holds.putL | ((refine Holds.new' _ _ ?_); (simp; done)) | refine Holds.alloc ?_ _ | refine Holds.drew ?_ | refine Holds.far ?_ (by simp only [ne_eq]; omega) _) | rfl)⟩
    case round =>
     obtain ⟨i, rfl, hi, hall, hB, hH⟩ := hrel
     have HALL := Lib.hid hall
     have HB := Lib.hid hB
     have HH := Lib.hid hH
     obtain ⟨kb0, kb1, kb2⟩ := hH.c3
     have lb := hH.lt
     clear hall hB hH
     by_cases hlt : i < hs.length
     ·have hlt' : (i : Int) < hs.length := by omega
      obtain ⟨g, hg⟩ : ∃ g, hs[i]? = some g := ⟨_, List.getElem?_eq_getElem hlt⟩
      obtain ⟨E0, oo, rfl, hcell⟩ := (HA.out.up HB.out) (by omega)
      obtain ⟨ke0, ke1, ke2, ke3, ke4⟩ := hcell i g hg
      have HG_ := Lib.hid hg
      have lE := World.block_lt_of_cell? wr _ ke0
      clear hcell hg
      cases hr0 : within g.spot 0 2 with
      | false =>
       go_wp2_with (go_at_call 86; refine (off_any _ _ _ _).mono ?_; simp only [hr0, Bool.not_true, Bool.not_false]; rintro e w2_ ⟨rfl, rfl⟩)
       go_ret
       exact ⟨by rw [HEQ.out, cartErr_range h4l (by rw [all_not HG_.out (by simp only [Hf.taken, hr0, Bool.and_false, Bool.false_and])]; simp)]; rfl, HB.out.trans zg⟩
      | true =>
       cases hr1 : within g.g0 0 200 with
       | false =>
        go_wp2_with (go_at_call 86; refine (off_any _ _ _ _).mono ?_; simp only [hr0, hr1, Bool.not_true, Bool.not_false]; rintro e w2_ ⟨rfl, rfl⟩)
        refine wp_loop_rounds 1 ?_
        repeat any_goals (rw [rounds_succ]; go_wp2_with (go_at_call 86; refine (off_any _ _ _ _).mono ?_; simp only [hr0, hr1, Bool.not_true, Bool.not_false]; rintro e w2_ ⟨rfl, rfl⟩))
        go_ret
        exact ⟨by rw [HEQ.out, cartErr_range h4l (by rw [all_not HG_.out (by simp only [Hf.taken, hr0, hr1, Bool.and_false, Bool.false_and])]; simp)]; rfl, HB.out.trans zg⟩
       | true =>
        cases hr2 : within g.g1 0 200 with
        | false =>
         go_wp2_with (go_at_call 86; refine (off_any _ _ _ _).mono ?_; simp only [hr0, hr1, hr2, Bool.not_true, Bool.not_false]; rintro e w2_ ⟨rfl, rfl⟩)
         refine wp_loop_rounds 2 ?_
         repeat any_goals (rw [rounds_succ]; go_wp2_with (go_at_call 86; refine (off_any _ _ _ _).mono ?_; simp only [hr0, hr1, hr2, Bool.not_true, Bool.not_false]; rintro e w2_ ⟨rfl, rfl⟩))
         go_ret
         exact ⟨by rw [HEQ.out, cartErr_range h4l (by rw [all_not HG_.out (by simp only [Hf.taken, hr0, hr1, hr2, Bool.and_false, Bool.false_and])]; simp)]; rfl, HB.out.trans zg⟩
        | true =>
         cases hr3 : within g.g2 0 200 with
         | false =>
          go_wp2_with (go_at_call 86; refine (off_any _ _ _ _).mono ?_; simp only [hr0, hr1, hr2, hr3, Bool.not_true, Bool.not_false]; rintro e w2_ ⟨rfl, rfl⟩)
          refine wp_loop_rounds 3 ?_
          repeat any_goals (rw [rounds_succ]; go_wp2_with (go_at_call 86; refine (off_any _ _ _ _).mono ?_; simp only [hr0, hr1, hr2, hr3, Bool.not_true, Bool.not_false]; rintro e w2_ ⟨rfl, rfl⟩))
          go_ret
          exact ⟨by rw [HEQ.out, cartErr_range h4l (by rw [all_not HG_.out (by simp only [Hf.taken, hr0, hr1, hr2, hr3, Bool.and_false, Bool.false_and])]; simp)]; rfl, HB.out.trans zg⟩
         | true =>
          cases hr4 : within g.g3 0 200 with
          | false =>
           go_wp2_with (go_at_call 86; refine (off_any _ _ _ _).mono ?_; simp only [hr0, hr1, hr2, hr3, hr4, Bool.not_true, Bool.not_false]; rintro e w2_ ⟨rfl, rfl⟩)
           refine wp_loop_rounds 4 ?_
           repeat any_goals (rw [rounds_succ]; go_wp2_with (go_at_call 86; refine (off_any _ _ _ _).mono ?_; simp only [hr0, hr1, hr2, hr3, hr4, Bool.not_true, Bool.not_false]; rintro e w2_ ⟨rfl, rfl⟩))
           go_ret
           exact ⟨by rw [HEQ.out, cartErr_range h4l (by rw [all_not HG_.out (by simp only [Hf.taken, hr0, hr1, hr2, hr3, hr4, Bool.and_false, Bool.false_and])]; simp)]; rfl, HB.out.trans zg⟩
          | true =>
           go_wp2_with (go_at_call 86; refine (off_any _ _ _ _).mono ?_; simp only [hr0, hr1, hr2, hr3, hr4, Bool.not_true, Bool.not_false]; rintro e w2_ ⟨rfl, rfl⟩)
           refine wp_loop_rounds 5 ?_
           repeat any_goals (rw [rounds_succ]; go_wp2_with (go_at_call 86; refine (off_any _ _ _ _).mono ?_; simp only [hr0, hr1, hr2, hr3, hr4, Bool.not_true, Bool.not_false]; rintro e w2_ ⟨rfl, rfl⟩))
           go_roundw
           case rel => exact ⟨i + 1, by go_num, by omega, take_next HG_.out HALL.out (by simp only [Hf.taken, hr0, hr1, hr2, hr3, hr4, Bool.and_self]), HB.out.trans zg, by have h := HH.out; exact zp7⟩
           case measure => first | (simp [intOf]; done) | (simp [intOf]; omega)
     ·have hie : i = hs.length := by omega
      subst hie
      have htk : ∀ x ∈ hs, x.taken = true := fun x hx => HALL.out x (by rw [List.take_length]; exact hx)
      have hrr : hs.all Hf.taken = true := List.all_eq_true.2 htk
      have HTK := Lib.hid htk
      have HRR : Hid ((within full 0 10000 && within emp 0 10000 && hs.all Hf.taken) = true) := Lib.hid (by rw [hw0, hw1, hrr]; rfl)
      clear hrr htk
      go_wp2_with fail
      go_loopw [6] (fun v6 wz => ∃ i : Nat, v6 = .int .i64 (i : Int) ∧ i ≤ hs.length ∧ (∀ y ∈ hs.take i, y.enough = true) ∧ Below wr.heap.size wr wz) (fun v6 _ => hs.length - (intOf v6).toNat)
      case atStart => exact ⟨0, rfl, Nat.zero_le _, (fun y hy => by simp at hy), Below.refl _ _⟩
      case round =>
       rename World => wy
       obtain ⟨i, rfl, hi2, hf, hby⟩ := hrel
       have HF := Lib.hid hf
       have HBy := Lib.hid hby
       have kb2 := up_cell hby kb2
       have hyz := hby.size
       have HB2 := Lib.hid (HB.out.trans (hby.mono HB.out.size))
       have lb2 : w.heap.size < wy.heap.size := by omega
       clear hf hby
       by_cases hlt2 : i < hs.length
       ·have hlt' : (i : Int) < hs.length := by omega
        obtain ⟨g, hg⟩ : ∃ g, hs[i]? = some g := ⟨_, List.getElem?_eq_getElem hlt2⟩
        obtain ⟨E0, oo, rfl, hcell⟩ := (HA.out.up HB2.out) (by omega)
        obtain ⟨ke0, ke1, ke2, ke3, ke4⟩ := hcell i g hg
        have HG_ := Lib.hid hg
        have HTG := Lib.hid (HTK.out g (List.mem_of_getElem? hg))
        have lE := World.block_lt_of_cell? wy _ ke0
        obtain ⟨sm, hsm⟩ : ∃ z, z = g.sum := ⟨_, rfl⟩
        have HSM := Lib.hid hsm
        clear hcell hg hsm
        cases hen : within sm 10 200 with
        | false =>
         go_wp2_with (first | (go_at_call 91; refine (refTotal_any g HTG.out _).mono ?_; rw [← HSM.out]; rintro e w3_ ⟨rfl, hb3⟩; have HB3 := Lib.hid hb3; clear hb3) | (go_at_call 86; refine (off_any _ _ _ _).mono ?_; simp only [hen, Bool.not_true, Bool.not_false]; rintro e w2_ ⟨rfl, rfl⟩))
         go_ret
         exact ⟨by rw [HEQ.out, cartErr_wrong h4l HRR.out (all_not HG_.out (by unfold Hf.enough; rw [← HSM.out]; exact hen))]; rfl, HB2.out.trans (HB3.out.mono HB2.out.size)⟩
        | true =>
         go_wp2_with (first | (go_at_call 91; refine (refTotal_any g HTG.out _).mono ?_; rw [← HSM.out]; rintro e w3_ ⟨rfl, hb3⟩; have HB3 := Lib.hid hb3; clear hb3) | (go_at_call 86; refine (off_any _ _ _ _).mono ?_; simp only [hen, Bool.not_true, Bool.not_false]; rintro e w2_ ⟨rfl, rfl⟩))
         go_roundw
         case rel => exact ⟨i + 1, by go_num, by omega, take_next HG_.out HF.out (by unfold Hf.enough; rw [← HSM.out]; exact hen), HBy.out.trans (HB3.out.mono HBy.out.size)⟩
         case measure => first | (simp [intOf]; done) | (simp [intOf]; omega)
       ·have hie : i = hs.length := by omega
        subst hie
        go_wp2_with fail
        go_ret
        exact ⟨by rw [HEQ.out, cartErr_ok h4l HRR.out (List.all_eq_true.2 (fun x hx => HF.out x (by rw [List.take_length]; exact hx)))]; rfl, HB2.out⟩
end Go.Proofs.Ytifffonoipapgaa
