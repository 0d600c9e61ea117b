
import Derived.Test.YtdpgfaikmahmpaaKAA
import Derived.Test.YtdpgfaikmahmpaaKAC
import Derived.Test.YtdpgfaikmahmpaaKBL
set_option linter.unusedSimpArgs false
set_option linter.unusedVariables false
namespace Go.Proofs.Ytdpgfaikmahmpaa
open Go.RowKit
set_option maxRecDepth 100000 in
set_option maxHeartbeats 4000000 in
theorem refTotal_any (h : Hf) (ht : h.taken = true) (w : World) : Calls Try.prog 91 #[.agg #[.int .i64 h.spot, .int .i64 h.g0, .int .i64 h.g1, .int .i64 h.g2, .int .i64 h.g3]] w fun e w' => e = .returned (.int .i64 h.sum) ∧ Below w.heap.size w w' := by
 obtain ⟨_, ⟨a0, b0⟩, ⟨a1, b1⟩, ⟨a2, b2⟩, a3, b3⟩ := taken_parts ht
 obtain ⟨S, hS⟩ : ∃ z, z = h.sum := ⟨_, rfl⟩
 rw [← hS]
 have HS := Lib.hid hS
 clear hS ht
 go_enter Try.func91, Try.ntmps91
 go_wp2_with fail
 refine wp_loop_rounds 5 ?_
 repeat any_goals (rw [rounds_succ]; go_wp2_with fail)
 go_ret
 exact ⟨by rw [HS.out]; first | rfl | (unfold Hf.sum; congr 2; omega), zg⟩
theorem cartErr_many {full emp : Int} {hs : List Hf} (h : 6 < hs.length) : cartErr full emp hs = 2 := by unfold cartErr; rw [if_pos h]
theorem cartErr_range {full emp : Int} {hs : List Hf} (hl : hs.length ≤ 6) (h : (within full 0 10000 && within emp 0 10000 && hs.all Hf.taken) = false) : cartErr full emp hs = 3 := by unfold cartErr; rw [if_neg (by omega), if_pos h]
theorem cartErr_wrong {full emp : Int} {hs : List Hf} (hl : hs.length ≤ 6) (h : (within full 0 10000 && within emp 0 10000 && hs.all Hf.taken) = true) (hf : hs.all Hf.enough = false) : cartErr full emp hs = 8 := by unfold cartErr; rw [if_neg (by omega), h, hf]; simp
theorem cartErr_ok {full emp : Int} {hs : List Hf} (hl : hs.length ≤ 6) (h : (within full 0 10000 && within emp 0 10000 && hs.all Hf.taken) = true) (hf : hs.all Hf.enough = true) : cartErr full emp hs = 0 := by unfold cartErr; rw [if_neg (by omega), h, hf]; simp
set_option maxRecDepth 100000 in
set_option maxHeartbeats 4000000 in
theorem refCheckCart_any (full emp : Int) (A : Option Addr) (c : Nat) (hs : List Hf) (w : World) (hA : HandsAt w A hs) (hl : hs.length ≤ 1000) :
  Calls Try.prog 26 #[.agg #[.int .i64 full, .int .i64 emp, .slice A hs.length c]] w fun e w' => e = .returned (.int .i64 (cartErr full emp hs)) ∧ Below w.heap.size w w' := by
 have HA := Lib.hid hA
 clear hA
 obtain ⟨E, hE⟩ : ∃ z, z = cartErr full emp hs := ⟨_, rfl⟩
 rw [← hE]
 have HEQ := Lib.hid hE
 clear hE
 by_cases h4 : 6 < hs.length
 ·have h4' : (6 : Int) < hs.length := by omega
  go_enter Try.func26, Try.ntmps26
  go_wp2_with fail
  go_ret
  exact ⟨by rw [HEQ.out, cartErr_many h4]; rfl, zg⟩
 ·have h4' : ¬ (6 : Int) < hs.length := by omega
  have h4l : hs.length ≤ 6 := by omega
  cases hw0 : within full 0 10000 with
  | false =>
   go_enter Try.func26, Try.ntmps26
   go_wp2_with (go_at_call 86; refine (off_any _ _ _ _).mono ?_; simp only [hw0, Bool.not_true, Bool.not_false]; rintro e w2_ ⟨rfl, rfl⟩)
   go_ret
   exact ⟨by rw [HEQ.out, cartErr_range h4l (by rw [hw0]; rfl)]; rfl, zg⟩
  | true =>
   cases hw1 : within emp 0 10000 with
   | false =>
    go_enter Try.func26, Try.ntmps26
    go_wp2_with (go_at_call 86; refine (off_any _ _ _ _).mono ?_; simp only [hw0, hw1, Bool.not_true, Bool.not_false]; rintro e w2_ ⟨rfl, rfl⟩)
    go_ret
    exact ⟨by rw [HEQ.out, cartErr_range h4l (by rw [hw0, hw1]; rfl)]; rfl, zg⟩
   | true =>
    go_enter Try.func26, Try.ntmps26
    go_wp2_with (go_at_call 86; refine (off_any _ _ _ _).mono ?_; simp only [hw0, hw1, Bool.not_true, Bool.not_false]; rintro e w2_ ⟨rfl, rfl⟩)
    go_loopw [3] (fun v3 wr => ∃ i : Nat, v3 = .int .i64 (i : Int) ∧ i ≤ hs.length ∧ (∀ y ∈ hs.take i, y.taken = true) ∧ Below w.heap.size w wr ∧ Holds wr w.heap.size 37 #[.int .i64 full, .int .i64 emp, .slice A hs.length c]) (fun v3 _ => hs.length - (intOf v3).toNat)
    case atStart => exact ⟨0, rfl, Nat.zero_le _, (fun y hy => by simp at hy), zg, by (repeat first | (with_reducible first | assumption | apply Holds.putL | ((refine Holds.new' _ _ ?_); (simp; done)) | refine Holds.alloc ?_ _ | refine Holds.drew ?_ | refine Holds.far ?_ (by simp only [ne_eq]; omega) _) | rfl)⟩
    case round =>
     obtain ⟨i, rfl, hi, hall, hB, hH⟩ := hrel
     have HALL := Lib.hid hall
     have HB := Lib.hid hB
     have HH := Lib.hid hH
     obtain ⟨kb0, kb1, kb2⟩ := hH.c3
     have lb := hH.lt
     clear hall hB hH
     by_cases hlt : i < hs.length
     ·have hlt' : (i : Int) < hs.length := by omega
      obtain ⟨g, hg⟩ : ∃ g, hs[i]? = some g := ⟨_, List.getElem?_eq_getElem hlt⟩
      obtain ⟨E0, oo, rfl, hcell⟩ := (HA.out.up HB.out) (by omega)
      obtain ⟨ke0, ke1, ke2, ke3, ke4⟩ := hcell i g hg
      have HG_ := Lib.hid hg
      have lE := World.block_lt_of_cell? wr _ ke0
      clear hcell hg
      cases hr0 : within g.spot 0 2 with
      | false =>
       go_wp2_with (go_at_call 86; refine (off_any _ _ _ _).mono ?_; simp only [hr0, Bool.not_true, Bool.not_false]; rintro e w2_ ⟨rfl, rfl⟩)
       go_ret
       exact ⟨by rw [HEQ.out, cartErr_range h4l (by rw [all_not HG_.out (by simp only [Hf.taken, hr0, Bool.and_false, Bool.false_and])]; simp)]; rfl, HB.out.trans zg⟩
      | true =>
       cases hr1 : within g.g0 0 200 with
       | false =>
        go_wp2_with (go_at_call 86; refine (off_any _ _ _ _).mono ?_; simp only [hr0, hr1, Bool.not_true, Bool.not_false]; rintro e w2_ ⟨rfl, rfl⟩)
        refine wp_loop_rounds 1 ?_
        repeat any_goals (rw [rounds_succ]; go_wp2_with (go_at_call 86; refine (off_any _ _ _ _).mono ?_; simp only [hr0, hr1, Bool.not_true, Bool.not_false]; rintro e w2_ ⟨rfl, rfl⟩))
        go_ret
        exact ⟨by rw [HEQ.out, cartErr_range h4l (by rw [all_not HG_.out (by simp only [Hf.taken, hr0, hr1, Bool.and_false, Bool.false_and])]; simp)]; rfl, HB.out.trans zg⟩
       | true =>
        cases hr2 : within g.g1 0 200 with
        | false =>
         go_wp2_with (go_at_call 86; refine (off_any _ _ _ _).mono ?_; simp only [hr0, hr1, hr2, Bool.not_true, Bool.not_false]; rintro e w2_ ⟨rfl, rfl⟩)
         refine wp_loop_rounds 2 ?_
         repeat any_goals (rw [rounds_succ]; go_wp2_with (go_at_call 86; refine (off_any _ _ _ _).mono ?_; simp only [hr0, hr1, hr2, Bool.not_true, Bool.not_false]; rintro e w2_ ⟨rfl, rfl⟩))
         go_ret
         exact ⟨by rw [HEQ.out, cartErr_range h4l (by rw [all_not HG_.out (by simp only [Hf.taken, hr0, hr1, hr2, Bool.and_false, Bool.false_and])]; simp)]; rfl, HB.out.trans zg⟩
        | true =>
         cases hr3 : within g.g2 0 200 with
         | false =>
          go_wp2_with (go_at_call 86; refine (off_any _ _ _ _).mono ?_; simp only [hr0, hr1, hr2, hr3, Bool.not_true, Bool.not_false]; rintro e w2_ ⟨rfl, rfl⟩)
          refine wp_loop_rounds 3 ?_
          repeat any_goals (rw [rounds_succ]; go_wp2_with (go_at_call 86; refine (off_any _ _ _ _).mono ?_; simp only [hr0, hr1, hr2, hr3, Bool.not_true, Bool.not_false]; rintro e w2_ ⟨rfl, rfl⟩))
          go_ret
          exact ⟨by rw [HEQ.out, cartErr_range h4l (by rw [all_not HG_.out (by simp only [Hf.taken, hr0, hr1, hr2, hr3, Bool.and_false, Bool.false_and])]; simp)]; rfl, HB.out.trans zg⟩
         | true =>
          cases hr4 : within g.g3 0 200 with
          | false =>
           go_wp2_with (go_at_call 86; refine (off_any _ _ _ _).mono ?_; simp only [hr0, hr1, hr2, hr3, hr4, Bool.not_true, Bool.not_false]; rintro e w2_ ⟨rfl, rfl⟩)
           refine wp_loop_rounds 4 ?_
           repeat any_goals (rw [rounds_succ]; go_wp2_with (go_at_call 86; refine (off_any _ _ _ _).mono ?_; simp only [hr0, hr1, hr2, hr3, hr4, Bool.not_true, Bool.not_false]; rintro e w2_ ⟨rfl, rfl⟩))
           go_ret
           exact ⟨by rw [HEQ.out, cartErr_range h4l (by rw [all_not HG_.out (by simp only [Hf.taken, hr0, hr1, hr2, hr3, hr4, Bool.and_false, Bool.false_and])]; simp)]; rfl, HB.out.trans zg⟩
          | true =>
           go_wp2_with (go_at_call 86; refine (off_any _ _ _ _).mono ?_; simp only [hr0, hr1, hr2, hr3, hr4, Bool.not_true, Bool.not_false]; rintro e w2_ ⟨rfl, rfl⟩)
           refine wp_loop_rounds 5 ?_
           repeat any_goals (rw [rounds_succ]; go_wp2_with (go_at_call 86; refine (off_any _ _ _ _).mono ?_; simp only [hr0, hr1, hr2, hr3, hr4, Bool.not_true, Bool.not_false]; rintro e w2_ ⟨rfl, rfl⟩))
           go_roundw
           case rel => exact ⟨i + 1, by go_num, by omega, take_next HG_.out HALL.out (by simp only [Hf.taken, hr0, hr1, hr2, hr3, hr4, Bool.and_self]), HB.out.trans zg, by have h := HH.out; exact zp6⟩
           case measure => first | (simp [intOf]; done) | (simp [intOf]; omega)
     ·have hie : i = hs.length := by omega
      subst hie
      have htk : ∀ x ∈ hs, x.taken = true := fun x hx => HALL.out x (by rw [List.take_length]; exact hx)
      have hrr : hs.all Hf.taken = true := List.all_eq_true.2 htk
      have HTK := Lib.hid htk
      have HRR : Hid ((within full 0 10000 && within emp 0 10000 && hs.all Hf.taken) = true) := Lib.hid (by rw [hw0, hw1, hrr]; rfl)
      clear hrr htk
      go_wp2_with fail
      go_loopw [6] (fun v6 wz => ∃ i : Nat, v6 = .int .i64 (i : Int) ∧ i ≤ hs.length ∧ (∀ y ∈ hs.take i, y.enough = true) ∧ Below wr.heap.size wr wz) (fun v6 _ => hs.length - (intOf v6).toNat)
      case atStart => exact ⟨0, rfl, Nat.zero_le _, (fun y hy => by simp at hy), Below.refl _ _⟩
      case round =>
       rename World => wy
       obtain ⟨i, rfl, hi2, hf, hby⟩ := hrel
       have HF := Lib.hid hf
       have HBy := Lib.hid hby
       have kb2 := up_cell hby kb2
       have hyz := hby.size
       have HB2 := Lib.hid (HB.out.trans (hby.mono HB.out.size))
       have lb2 : w.heap.size < wy.heap.size := by omega
       clear hf hby
       by_cases hlt2 : i < hs.length
       ·have hlt' : (i : Int) < hs.length := by omega
        obtain ⟨g, hg⟩ : ∃ g, hs[i]? = some g := ⟨_, List.getElem?_eq_getElem hlt2⟩
        obtain ⟨E0, oo, rfl, hcell⟩ := (HA.out.up HB2.out) (by omega)
        obtain ⟨ke0, ke1, ke2, ke3, ke4⟩ := hcell i g hg
        have HG_ := Lib.hid hg
        have HTG := Lib.hid (HTK.out g (List.mem_of_getElem? hg))
        have lE := World.block_lt_of_cell? wy _ ke0
        obtain ⟨sm, hsm⟩ : ∃ z, z = g.sum := ⟨_, rfl⟩
        have HSM := Lib.hid hsm
        clear hcell hg hsm
        cases hen : within sm 10 200 with
        | false =>
         go_wp2_with (first | (go_at_call 91; refine (refTotal_any g HTG.out _).mono ?_; rw [← HSM.out]; rintro e w3_ ⟨rfl, hb3⟩; have HB3 := Lib.hid hb3; clear hb3) | (go_at_call 86; refine (off_any _ _ _ _).mono ?_; simp only [hen, Bool.not_true, Bool.not_false]; rintro e w2_ ⟨rfl, rfl⟩))
         go_ret
         exact ⟨by rw [HEQ.out, cartErr_wrong h4l HRR.out (all_not HG_.out (by unfold Hf.enough; rw [← HSM.out]; exact hen))]; rfl, HB2.out.trans (HB3.out.mono HB2.out.size)⟩
        | true =>
         go_wp2_with (first | (go_at_call 91; refine (refTotal_any g HTG.out _).mono ?_; rw [← HSM.out]; rintro e w3_ ⟨rfl, hb3⟩; have HB3 := Lib.hid hb3; clear hb3) | (go_at_call 86; refine (off_any _ _ _ _).mono ?_; simp only [hen, Bool.not_true, Bool.not_false]; rintro e w2_ ⟨rfl, rfl⟩))
         go_roundw
         case rel => exact ⟨i + 1, by go_num, by omega, take_next HG_.out HF.out (by unfold Hf.enough; rw [← HSM.out]; exact hen), HBy.out.trans (HB3.out.mono HBy.out.size)⟩
         case measure => first | (simp [intOf]; done) | (simp [intOf]; omega)
       ·have hie : i = hs.length := by omega
        subst hie
        go_wp2_with fail
        go_ret
        exact ⟨by rw [HEQ.out, cartErr_ok h4l HRR.out (List.all_eq_true.2 (fun x hx => HF.out x (by rw [List.take_length]; exact hx)))]; rfl, HB2.out⟩
theorem row5_at {w : World} {B n : Nat} {e : TypeId} {v : Value} {xs : List Value} (h : w.ownsRow B e 5 v n xs) {b : Nat} {t : TypeId} {cs : Array Value} (s : Holds w b t cs) (ht : t ≠ e) : v.ownBlock ≠ some b := by
 intro hb
 obtain ⟨_, ⟨rfl, _⟩ | ⟨g, cap, cur, rfl, _, hg, _⟩⟩ := h
 ·cases hb
 ·cases hb; have := s.symm.trans hg; simp at this; first | exact ht this.2 | exact ht this.2.1
theorem held_row {w w' : World} {b : Nat} {t : TypeId} {cs : Array Value} (s : Holds w b t cs) {row : Option Nat} (g : w.grownBy w' row) (hne : row ≠ some b) : Holds w' b t cs := (g.block b s.lt (fun e => hne e.symm)).trans s
theorem info_come : (Try.prog.info? 42).map (fun i => (i.zero, i.size, i.bytes)) = some (some (.agg #[.int .i64 0, .int .i64 0, .int .i64 0, .int .i64 0, .int .i64 0]), 5, 40) := by kernel_rfl
theorem und_come : Try.prog.underlying 35 = some (.slice 42) := by kernel_rfl
theorem come_at {w : World} {B : Nat} {v : Value} {hs : List Hf} (h : w.ownsRow B 42 5 v hs.length (hs.flatMap Hf.cells)) : ∃ A q, v = .slice A hs.length q ∧ hs.length ≤ q ∧ HandsAt w A hs := by
 obtain ⟨A, q, rfl, hq, hc⟩ := row5_val h
 refine ⟨A, q, rfl, hq, fun h0 => ?_⟩
 obtain ⟨g, rfl, _, hcell⟩ := hc h0
 refine ⟨g, 0, rfl, fun k x hx => ?_⟩
 have f := fun j (hj : j < 5) => flat_at Hf.cells (fun _ => rfl) hs k j x hx hj
 simp only [Nat.zero_add]
 exact ⟨hcell (k * 5) _ (f 0 (by decide)), hcell (k * 5 + 1) _ (f 1 (by decide)), hcell (k * 5 + 2) _ (f 2 (by decide)), hcell (k * 5 + 3) _ (f 3 (by decide)), hcell (k * 5 + 4) _ (f 4 (by decide))⟩
theorem come_snoc {w : World} {B : Nat} {v : Value} {hs : List Hf} {i : Nat} {y : Hf} (hy : hs[i]? = some y) (h : w.ownsRow B 42 5 v (i + 1) ((hs.take i).flatMap Hf.cells ++ y.cells)) : w.ownsRow B 42 5 v (i + 1) ((hs.take (i + 1)).flatMap Hf.cells) := by
 have e : hs.take (i + 1) = hs.take i ++ [y] := by rw [List.take_add_one, hy]; rfl
 rw [e, List.flatMap_append]
 simpa using h
theorem zp7 {p : Prop} (h : p := by (repeat first | (with_reducible first | assumption | apply Holds.set3 | apply Holds.putL | ((refine Holds.new' _ _ ?_); (simp; done)) | refine Holds.alloc ?_ _ | refine Holds.drew ?_ | refine Holds.far ?_ (by simp only [ne_eq]; omega) _) | rfl)) : p := h
set_option maxRecDepth 100000 in
set_option maxHeartbeats 4000000 in
theorem come_any (full emp : Int) (A : Option Addr) (c : Nat) (hs : List Hf) (w : World) (hA : HandsAt w A hs) (hl : hs.length ≤ 1000) :
  Calls Try.prog 20 #[.agg #[.int .i64 full, .int .i64 emp, .slice A hs.length c]] w fun e w' => ∃ A' c', e = .returned (.agg #[.int .i64 full, .int .i64 emp, .slice A' hs.length c']) ∧ w'.ownsRow w.heap.size 42 5 (.slice A' hs.length c') hs.length (hs.flatMap Hf.cells) ∧ Below w.heap.size w w' := by
 have HA := Lib.hid hA
 clear hA
 obtain ⟨ti, hti, hti0, hti1, hti2⟩ := info_parts info_come
 go_enter Try.func20, Try.ntmps20
 go_wp2_with fail
 go_loopw [14] (fun v14 wr => ∃ (i : Nat) (sv : Value), v14 = .int .i64 (i : Int) ∧ i ≤ hs.length ∧ Holds wr (w.heap.size + 1) 37 #[.int .i64 0, .int .i64 0, .slice none 0 0] ∧ Holds wr (w.heap.size + 1 + 1) 37 #[.int .i64 full, .int .i64 emp, sv] ∧ wr.ownsRow (w.heap.size + 1 + 1 + 1) 42 5 sv i ((hs.take i).flatMap Hf.cells) ∧ Below w.heap.size w wr) (fun v14 _ => hs.length - (intOf v14).toNat)
 case atStart => exact ⟨0, .slice none 0 0, rfl, Nat.zero_le _, by (repeat first | (with_reducible first | assumption | apply Holds.set3 | apply Holds.putL | ((refine Holds.new' _ _ ?_); (simp; done)) | refine Holds.alloc ?_ _ | refine Holds.drew ?_ | refine Holds.far ?_ (by simp only [ne_eq]; omega) _) | rfl), by (repeat first | (with_reducible first | assumption | apply Holds.set3 | apply Holds.putL | ((refine Holds.new' _ _ ?_); (simp; done)) | refine Holds.alloc ?_ _ | refine Holds.drew ?_ | refine Holds.far ?_ (by simp only [ne_eq]; omega) _) | rfl), ⟨rfl, .inl ⟨rfl, rfl⟩⟩, zg⟩
 case round =>
  obtain ⟨i, sv, rfl, hi, hres, hout, hrow, hB⟩ := hrel
  obtain ⟨SA, sc, esv, hsc, _⟩ := row5_val hrow
  subst esv
  have HRES := Lib.hid hres
  have HOUT := Lib.hid hout
  have HROW := Lib.hid hrow
  have HB := Lib.hid hB
  have lr := hres.lt
  have lo := hout.lt
  clear hres hrow hB
  obtain ⟨ko0, ko1, ko2⟩ := hout.c3
  clear hout
  by_cases hlt : i < hs.length
  ·have hlt' : (i : Int) < hs.length := by omega
   obtain ⟨y, hy⟩ : ∃ g, hs[i]? = some g := ⟨_, List.getElem?_eq_getElem hlt⟩
   obtain ⟨E0, oo, rfl, hcell⟩ := (HA.out.up HB.out) (by omega)
   obtain ⟨ke0, ke1, ke2, ke3, ke4⟩ := hcell i y hy
   have HY := Lib.hid hy
   have lE := World.block_lt_of_cell? wr _ ke0
   clear hcell hy
   go_wp2_with (at_builtin; (refine wpList_append_own _ rfl _ _ 35 rfl (w.heap.size + 1 + 1 + 1) 42 ti _ 5 40 und_come hti hti0 hti1 hti2 rfl (by decide) _ _ _ rfl (row5_up HROW.out zg) ⟨_, 0, none⟩ 1 1 y.cells rfl rfl (holds_news (Holds.new' _ _ (by simp))) (hand_one _) (by unfold maxLen; omega) (by omega) (by simp; omega) ?_); intro v5 w5 hown5 hgrow5 _; obtain ⟨A5, c5, rfl, _⟩ := row5_val hown5; have HG5 := Lib.hid hgrow5; have HO5 := Lib.hid (come_snoc HY.out hown5); have HOUT5 := Lib.hid (held_row (by have h := HOUT.out; exact zp7 : Holds _ (w.heap.size + 1 + 1) 37 #[.int .i64 full, .int .i64 emp, .slice SA i sc]) hgrow5 (row5_at (row5_up HROW.out zg) (by have h := HOUT.out; exact zp7 : Holds _ (w.heap.size + 1 + 1) 37 #[.int .i64 full, .int .i64 emp, .slice SA i sc]) (by decide))); have HRES5 := Lib.hid (held_row (by have h := HRES.out; exact zp7 : Holds _ (w.heap.size + 1) 37 #[.int .i64 0, .int .i64 0, .slice none 0 0]) hgrow5 (row5_at (row5_up HROW.out zg) (by have h := HRES.out; exact zp7 : Holds _ (w.heap.size + 1) 37 #[.int .i64 0, .int .i64 0, .slice none 0 0]) (by decide))); have hb5 : Below w.heap.size w w5 := Below.grown (HB.out.trans zg) hgrow5 (by simp; omega) (fun k hk => by have := row5_block HROW.out k hk; omega); have HB5 := Lib.hid hb5; have lo5 := HOUT5.out.lt; have ko5 : w5.cell? ⟨w.heap.size + 1 + 1, 2, none⟩ = some (.slice SA i sc) := HOUT5.out.cell 2; have zo5 : w5.frozen? ⟨w.heap.size + 1 + 1, 2, none⟩ = false := HOUT5.out.frozen 2; clear hown5 hgrow5 hb5)
   go_roundw
   case rel => exact ⟨i + 1, _, by go_num, by omega, (by have h := HRES5.out; exact zp7), (by have h := HOUT5.out; exact zp7), row5_far HO5.out (by simp only []; omega) _, HB5.out.trans zg⟩
   case measure => first | (simp [intOf]; done) | (simp [intOf]; omega)
  ·have hie : i = hs.length := by omega
   subst hie
   obtain ⟨kr0, kr1, kr2⟩ := HRES.out.c3
   obtain ⟨zr0, zr1, zr2⟩ := HRES.out.f3
   have hrow := HROW.out
   go_wp2_with fail
   refine ret_cell (t := 37) (cs := #[.int .i64 full, .int .i64 emp, .slice SA hs.length sc]) rfl rfl (by have h := HRES.out; exact zp7) Try.underlying37 rfl (by kernel_rfl) rfl ⟨SA, sc, rfl, ?_, HB.out.trans zg⟩
   rw [List.take_length] at hrow
   exact row5_mono (row5_far (row5_far (row5_far hrow (p := ⟨w.heap.size + 1, 0, none⟩) (by simp only []; omega) _) (p := ⟨w.heap.size + 1, 1, none⟩) (by simp only []; omega) _) (p := ⟨w.heap.size + 1, 2, none⟩) (by simp only []; omega) _) (by omega)
theorem info_theirs : (Try.prog.info? 139).map (fun i => (i.zero, i.size, i.bytes)) = some (some (.agg #[.int .i64 0, .int .i64 0, .int .i64 0, .int .i64 0, .int .i64 0]), 5, 40) := by kernel_rfl
theorem und_theirs : Try.prog.underlying 47 = some (.slice 139) := by kernel_rfl
theorem theirs_at {w : World} {B : Nat} {v : Value} {hs : List Gr} (h : w.ownsRow B 139 5 v hs.length (hs.flatMap Gr.cells)) : ∃ A q, v = .slice A hs.length q ∧ hs.length ≤ q ∧ GradesAt w A hs := by
 obtain ⟨A, q, rfl, hq, hc⟩ := row5_val h
 refine ⟨A, q, rfl, hq, fun h0 => ?_⟩
 obtain ⟨g, rfl, _, hcell⟩ := hc h0
 refine ⟨g, 0, rfl, fun k x hx => ?_⟩
 have f := fun j (hj : j < 5) => flat_at Gr.cells (fun _ => rfl) hs k j x hx hj
 simp only [Nat.zero_add]
 exact ⟨hcell (k * 5) _ (f 0 (by decide)), hcell (k * 5 + 1) _ (f 1 (by decide)), hcell (k * 5 + 2) _ (f 2 (by decide)), hcell (k * 5 + 3) _ (f 3 (by decide)), hcell (k * 5 + 4) _ (f 4 (by decide))⟩
theorem theirs_snoc {w : World} {B : Nat} {v : Value} {hs : List Gr} {i : Nat} {y : Gr} (hy : hs[i]? = some y) (h : w.ownsRow B 139 5 v (i + 1) ((hs.take i).flatMap Gr.cells ++ y.cells)) : w.ownsRow B 139 5 v (i + 1) ((hs.take (i + 1)).flatMap Gr.cells) := by
 have e : hs.take (i + 1) = hs.take i ++ [y] := by rw [List.take_add_one, hy]; rfl
 rw [e, List.flatMap_append]
 simpa using h
set_option maxRecDepth 100000 in
set_option maxHeartbeats 4000000 in
theorem theirs_any (err miss : Int) (A : Option Addr) (c : Nat) (hs : List Gr) (w : World) (hA : GradesAt w A hs) (hl : hs.length ≤ 1000) :
  Calls Try.prog 24 #[.agg #[.int .i64 err, .int .i64 miss, .slice A hs.length c]] w fun e w' => ∃ A' c', e = .returned (.agg #[.int .i64 err, .int .i64 miss, .slice A' hs.length c']) ∧ w'.ownsRow w.heap.size 139 5 (.slice A' hs.length c') hs.length (hs.flatMap Gr.cells) ∧ Below w.heap.size w w' := by
 have HA := Lib.hid hA
 clear hA
 obtain ⟨ti, hti, hti0, hti1, hti2⟩ := info_parts info_theirs
 go_enter Try.func24, Try.ntmps24
 go_wp2_with fail
 go_loopw [14] (fun v14 wr => ∃ (i : Nat) (sv : Value), v14 = .int .i64 (i : Int) ∧ i ≤ hs.length ∧ Holds wr (w.heap.size + 1) 49 #[.int .i64 0, .int .i64 0, .slice none 0 0] ∧ Holds wr (w.heap.size + 1 + 1) 49 #[.int .i64 err, .int .i64 miss, sv] ∧ wr.ownsRow (w.heap.size + 1 + 1 + 1) 139 5 sv i ((hs.take i).flatMap Gr.cells) ∧ Below w.heap.size w wr) (fun v14 _ => hs.length - (intOf v14).toNat)
 case atStart => exact ⟨0, .slice none 0 0, rfl, Nat.zero_le _, by (repeat first | (with_reducible first | assumption | apply Holds.set3 | apply Holds.putL | ((refine Holds.new' _ _ ?_); (simp; done)) | refine Holds.alloc ?_ _ | refine Holds.drew ?_ | refine Holds.far ?_ (by simp only [ne_eq]; omega) _) | rfl), by (repeat first | (with_reducible first | assumption | apply Holds.set3 | apply Holds.putL | ((refine Holds.new' _ _ ?_); (simp; done)) | refine Holds.alloc ?_ _ | refine Holds.drew ?_ | refine Holds.far ?_ (by simp only [ne_eq]; omega) _) | rfl), ⟨rfl, .inl ⟨rfl, rfl⟩⟩, zg⟩
 case round =>
  obtain ⟨i, sv, rfl, hi, hres, hout, hrow, hB⟩ := hrel
  obtain ⟨SA, sc, esv, hsc, _⟩ := row5_val hrow
  subst esv
  have HRES := Lib.hid hres
  have HOUT := Lib.hid hout
  have HROW := Lib.hid hrow
  have HB := Lib.hid hB
  have lr := hres.lt
  have lo := hout.lt
  clear hres hrow hB
  obtain ⟨ko0, ko1, ko2⟩ := hout.c3
  clear hout
  by_cases hlt : i < hs.length
  ·have hlt' : (i : Int) < hs.length := by omega
   obtain ⟨y, hy⟩ : ∃ g, hs[i]? = some g := ⟨_, List.getElem?_eq_getElem hlt⟩
   obtain ⟨E0, oo, rfl, hcell⟩ := (HA.out.up HB.out) (by omega)
   obtain ⟨ke0, ke1, ke2, ke3, ke4⟩ := hcell i y hy
   have HY := Lib.hid hy
   have lE := World.block_lt_of_cell? wr _ ke0
   clear hcell hy
   go_wp2_with (at_builtin; (refine wpList_append_own _ rfl _ _ 47 rfl (w.heap.size + 1 + 1 + 1) 139 ti _ 5 40 und_theirs hti hti0 hti1 hti2 rfl (by decide) _ _ _ rfl (row5_up HROW.out zg) ⟨_, 0, none⟩ 1 1 y.cells rfl rfl (holds_news (Holds.new' _ _ (by simp))) (grade_one _) (by unfold maxLen; omega) (by omega) (by simp; omega) ?_); intro v5 w5 hown5 hgrow5 _; obtain ⟨A5, c5, rfl, _⟩ := row5_val hown5; have HG5 := Lib.hid hgrow5; have HO5 := Lib.hid (theirs_snoc HY.out hown5); have HOUT5 := Lib.hid (held_row (by have h := HOUT.out; exact zp7 : Holds _ (w.heap.size + 1 + 1) 49 #[.int .i64 err, .int .i64 miss, .slice SA i sc]) hgrow5 (row5_at (row5_up HROW.out zg) (by have h := HOUT.out; exact zp7 : Holds _ (w.heap.size + 1 + 1) 49 #[.int .i64 err, .int .i64 miss, .slice SA i sc]) (by decide))); have HRES5 := Lib.hid (held_row (by have h := HRES.out; exact zp7 : Holds _ (w.heap.size + 1) 49 #[.int .i64 0, .int .i64 0, .slice none 0 0]) hgrow5 (row5_at (row5_up HROW.out zg) (by have h := HRES.out; exact zp7 : Holds _ (w.heap.size + 1) 49 #[.int .i64 0, .int .i64 0, .slice none 0 0]) (by decide))); have hb5 : Below w.heap.size w w5 := Below.grown (HB.out.trans zg) hgrow5 (by simp; omega) (fun k hk => by have := row5_block HROW.out k hk; omega); have HB5 := Lib.hid hb5; have lo5 := HOUT5.out.lt; have ko5 : w5.cell? ⟨w.heap.size + 1 + 1, 2, none⟩ = some (.slice SA i sc) := HOUT5.out.cell 2; have zo5 : w5.frozen? ⟨w.heap.size + 1 + 1, 2, none⟩ = false := HOUT5.out.frozen 2; clear hown5 hgrow5 hb5)
   go_roundw
   case rel => exact ⟨i + 1, _, by go_num, by omega, (by have h := HRES5.out; exact zp7), (by have h := HOUT5.out; exact zp7), row5_far HO5.out (by simp only []; omega) _, HB5.out.trans zg⟩
   case measure => first | (simp [intOf]; done) | (simp [intOf]; omega)
  ·have hie : i = hs.length := by omega
   subst hie
   obtain ⟨kr0, kr1, kr2⟩ := HRES.out.c3
   obtain ⟨zr0, zr1, zr2⟩ := HRES.out.f3
   have hrow := HROW.out
   go_wp2_with fail
   refine ret_cell (t := 49) (cs := #[.int .i64 err, .int .i64 miss, .slice SA hs.length sc]) rfl rfl (by have h := HRES.out; exact zp7) Try.underlying49 rfl (by kernel_rfl) rfl ⟨SA, sc, rfl, ?_, HB.out.trans zg⟩
   rw [List.take_length] at hrow
   exact row5_mono (row5_far (row5_far (row5_far hrow (p := ⟨w.heap.size + 1, 0, none⟩) (by simp only []; omega) _) (p := ⟨w.heap.size + 1, 1, none⟩) (by simp only []; omega) _) (p := ⟨w.heap.size + 1, 2, none⟩) (by simp only []; omega) _) (by omega)
end Go.Proofs.Ytdpgfaikmahmpaa
