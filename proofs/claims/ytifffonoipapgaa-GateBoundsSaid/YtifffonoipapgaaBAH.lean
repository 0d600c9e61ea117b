import Derived.Laws.EntriesVeiled
import Derived.Test.YtifffonoipapgaaLAA
import Derived.Test.YtifffonoipapgaaBAC
import Derived.Test.YtifffonoipapgaaBAD
import Derived.Test.YtifffonoipapgaaBAG
set_option linter.unusedSimpArgs false
set_option linter.unusedVariables false
namespace Go.Proofs.Ytifffonoipapgaa
open Go.RowKit
attribute [local go_sem] ix4_0 ix4_1 ix4_2 ix4_3 ix8_0 ix8_1 ix8_2 ix8_3
theorem within_eq (n lo hi : Int) : within n lo hi = (decide (lo ≤ n) && decide (n ≤ hi)) := rfl
theorem isGrains_fits (n : Int) (w : World) : Calls Try.prog 132 #[.int .i64 n] w fun e w' => e = .returned (.bool (within n 0 200)) ∧ Below w.heap.size w w' :=
 (isGrains_any n w).mono fun _ _ ⟨h1, h2⟩ => ⟨h1, h2 ▸ Below.refl _ _⟩
theorem isParts_fits (n : Int) (w : World) : Calls Try.prog 131 #[.int .i64 n] w fun e w' => e = .returned (.bool (within n 0 40)) ∧ Below w.heap.size w w' :=
 (isParts_any n w).mono fun _ _ ⟨h1, h2⟩ => ⟨h1, h2 ▸ Below.refl _ _⟩
set_option maxRecDepth 100000 in
set_option maxHeartbeats 1000000 in
theorem isTaken_any (h : Hf) (w : World) :
  Calls Try.prog 89 #[.agg #[.int .i64 h.spot, .int .i64 h.g0, .int .i64 h.g1, .int .i64 h.g2, .int .i64 h.g3]] w fun e w' => e = .returned (.bool h.taken) ∧ Below w.heap.size w w' := by
 have hbox := Holds.new w 30 #[.int .i64 h.spot, .int .i64 h.g0, .int .i64 h.g1, .int .i64 h.g2, .int .i64 h.g3]
 have hA : IntsAt (w.alloc (.cells #[.int .i64 h.spot, .int .i64 h.g0, .int .i64 h.g1, .int .i64 h.g2, .int .i64 h.g3] 30)) (some ⟨w.heap.size, 1, none⟩) [h.g0, h.g1, h.g2, h.g3] := fun _ => by
  refine ⟨w.heap.size, 1, rfl, fun k x hx => ?_⟩
  match k, hx with
  | 0, hx | 1, hx | 2, hx | 3, hx => simp at hx; subst hx; exact hbox.cell _
 have HA := Lib.hid hA
 clear hA hbox
 have e : h.taken = (within h.spot 0 2 && ([h.g0, h.g1, h.g2, h.g3].all fun n => within n 0 200)) := by
  simp [Hf.taken, List.all_cons, Bool.and_assoc]
 cases hw : within h.spot 0 2 with
 | true =>
  have E := Lib.hid e
  clear e
  go_enter Try.func89, Try.ntmps89
  go_wp2_with (first
   | (go_at_call 82; refine (within_any _ _ _ _).mono ?_; rw [← within_eq, hw]; rintro e w' ⟨rfl, rfl⟩)
   | (go_at_call 113; refine (everyInt_any 132 (fun n => within n 0 200) [h.g0, h.g1, h.g2, h.g3] cf_isGrains (fun n _ w => isGrains_fits n w) (some ⟨w.heap.size, 1, none⟩) 4 _ HA.out (by simp)).mono ?_; rintro e w' ⟨rfl, hb2⟩))
  go_ret
  exact ⟨by rw [E.out, hw]; simp, Below.trans zg (hb2.mono (by simp))⟩
 | false =>
  have E := Lib.hid e
  clear e
  go_enter Try.func89, Try.ntmps89
  go_wp2_with (go_at_call 82; refine (within_any _ _ _ _).mono ?_; rw [← within_eq, hw]; rintro e w' ⟨rfl, rfl⟩)
  go_ret
  exact ⟨by rw [E.out, hw, Bool.false_and]; rfl, zg⟩
set_option maxRecDepth 100000 in
theorem isEnough_any (h : Hf) (ht : h.taken = true) (w : World) :
  Calls Try.prog 90 #[.agg #[.int .i64 h.spot, .int .i64 h.g0, .int .i64 h.g1, .int .i64 h.g2, .int .i64 h.g3]] w fun e w' => e = .returned (.bool h.enough) ∧ Below w.heap.size w w' := by
 simp only [Hf.taken, within, Bool.and_eq_true, decide_eq_true_eq] at ht
 obtain ⟨_, ⟨⟨⟨⟨a0, a1⟩, b0, b1⟩, c0, c1⟩, d0, d1⟩⟩ := ht
 go_enter Try.func90, Try.ntmps90
 go_wp2_with (first
  | (go_at_call 133; refine (sum_any _ _ _ _ _ (by omega) (by omega) (by omega) (by omega) (by omega) (by omega) (by omega) (by omega)).mono ?_; rintro e w2 ⟨rfl, hb2⟩)
  | (go_at_call 82; refine (within_any _ _ _ _).mono ?_; rintro e w' ⟨rfl, rfl⟩))
 go_ret
 exact ⟨rfl, Below.trans zg (hb2.mono (by simp))⟩
attribute [local go_sem] ix4_0 ix4_1 ix4_2 ix4_3 ix8_0 ix8_1 ix8_2 ix8_3
theorem within_w (n lo hi : Int) (w : World) : Calls Try.prog 82 #[.int .i64 n, .int .i64 lo, .int .i64 hi] w fun e w' => e = .returned (.bool (within n lo hi)) ∧ w = w' := within_any n lo hi w
set_option maxRecDepth 100000 in
set_option maxHeartbeats 1000000 in
theorem isGrade_any (g : Gr) (w : World) :
  Calls Try.prog 84 #[.agg #[.int .i64 g.corn, .int .i64 g.chaff, .int .i64 g.stones, .int .i64 g.damp, .int .i64 g.price]] w fun e w' => e = .returned (.bool g.right) ∧ Below w.heap.size w w' := by
 have hA : ∀ W : World, IntsAt (W.alloc (.cells #[.int .i64 g.corn, .int .i64 g.chaff, .int .i64 g.stones, .int .i64 g.damp] 3)) (some ⟨W.heap.size, 0, none⟩) [g.corn, g.chaff, g.stones, g.damp] := fun W _ => by
  refine ⟨W.heap.size, 0, rfl, fun k x hx => ?_⟩
  have hbox := Holds.new W 3 #[.int .i64 g.corn, .int .i64 g.chaff, .int .i64 g.stones, .int .i64 g.damp]
  match k, hx with
  | 0, hx | 1, hx | 2, hx | 3, hx => simp at hx; subst hx; exact hbox.cell _
 have HA := Lib.hid (hA (w.alloc (.cells #[.int .i64 g.corn, .int .i64 g.chaff, .int .i64 g.stones, .int .i64 g.damp, .int .i64 g.price] 128)))
 clear hA
 simp only [World.size_alloc] at HA
 have e : g.right = (([g.corn, g.chaff, g.stones, g.damp].all fun n => within n 0 40) && within g.price 0 100) := by
  simp [Gr.right, List.all_cons, Bool.and_assoc]
 cases hw : [g.corn, g.chaff, g.stones, g.damp].all fun n => within n 0 40 with
 | true =>
  have E := Lib.hid e
  have HW := Lib.hid hw
  clear e hw
  go_enter Try.func84, Try.ntmps84
  go_wp2_with (first
   | (go_at_call 113; refine (everyInt_any 131 (fun n => within n 0 40) [g.corn, g.chaff, g.stones, g.damp] cf_isParts (fun n _ w => isParts_fits n w) (some ⟨w.heap.size + 1, 0, none⟩) 4 _ HA.out (by simp)).mono ?_; rw [HW.out]; rintro e w2 ⟨rfl, hb2⟩; have c4 : w2.cell? ⟨w.heap.size, 4, none⟩ = some (.int .i64 g.price) := up_cell hb2 (by go_simp); have hs2 := hb2.size; simp only [World.size_alloc] at hs2)
   | (go_at_call 82; refine (within_w _ _ _ _).mono ?_; rintro e w' ⟨rfl, rfl⟩))
  go_ret
  exact ⟨by rw [E.out, HW.out]; simp, Below.trans zg (hb2.mono (by simp; omega))⟩
 | false =>
  have E := Lib.hid e
  have HW := Lib.hid hw
  clear e hw
  go_enter Try.func84, Try.ntmps84
  go_wp2_with (go_at_call 113; refine (everyInt_any 131 (fun n => within n 0 40) [g.corn, g.chaff, g.stones, g.damp] cf_isParts (fun n _ w => isParts_fits n w) (some ⟨w.heap.size + 1, 0, none⟩) 4 _ HA.out (by simp)).mono ?_; rw [HW.out]; rintro e w2 ⟨rfl, hb2⟩)
  go_ret
  exact ⟨by rw [E.out, HW.out]; simp, Below.trans zg (hb2.mono (by simp; omega))⟩
set_option maxRecDepth 100000 in
set_option maxHeartbeats 1000000 in
theorem CheckCart_any (full empty : Int) (A : Option Addr) (c : Nat) (hs : List Hf) (w : World) (hA : HandsAt w A hs) (hl : hs.length ≤ 1000) :
  Calls Try.prog 25 #[.agg #[.int .i64 full, .int .i64 empty, .slice A hs.length c]] w fun e w' => e = .returned (.int .i64 (cartErr full empty hs)) ∧ Below w.heap.size w w' := by
 have HA := Lib.hid hA
 clear hA
 by_cases h6 : hs.length > 6
 ·have E := Lib.hid (show cartErr full empty hs = 2 by simp [cartErr, h6])
  go_enter Try.func25, Try.ntmps25
  go_wp2_with fail
  go_ret
  exact ⟨by rw [E.out]; rfl, zg⟩
 ·cases h1 : within full 0 10000 with
  | false =>
   have E := Lib.hid (show cartErr full empty hs = 3 by simp [cartErr, h6, h1])
   go_enter Try.func25, Try.ntmps25
   go_wp2_with (go_at_call 87; refine (isReading_any _ _).mono ?_; rw [← within_eq]; rintro e w' ⟨rfl, rfl⟩)
   go_ret
   exact ⟨by rw [E.out]; rfl, zg⟩
  | true =>
   cases h2 : within empty 0 10000 with
   | false =>
    have E := Lib.hid (show cartErr full empty hs = 3 by simp [cartErr, h6, h1, h2])
    go_enter Try.func25, Try.ntmps25
    go_wp2_with (go_at_call 87; refine (isReading_any _ _).mono ?_; rw [← within_eq]; rintro e w' ⟨rfl, rfl⟩)
    go_ret
    exact ⟨by rw [E.out]; rfl, zg⟩
   | true =>
    cases h3 : hs.all Hf.taken with
    | false =>
     have E := Lib.hid (show cartErr full empty hs = 3 by simp only [cartErr, h6, h1, h2, h3]; rfl)
     go_enter Try.func25, Try.ntmps25
     go_wp2_with (first
      | (go_at_call 87; refine (isReading_any _ _).mono ?_; rw [← within_eq]; rintro e w' ⟨rfl, rfl⟩)
      | (go_at_call 88; refine (everyHand_any 89 Hf.taken hs cf_isTaken (fun h _ w => isTaken_any h w) A c _ (HA.out.up zg) hl).mono ?_; rw [h3]; rintro e w2 ⟨rfl, hb2⟩))
     go_ret
     exact ⟨by rw [E.out]; rfl, Below.trans zg (hb2.mono (by simp))⟩
    | true =>
     have ht := List.all_eq_true.1 h3
     have HT := Lib.hid ht
     clear ht
     cases h4 : hs.all Hf.enough with
     | _ =>
      have E := Lib.hid (show cartErr full empty hs = if hs.all Hf.enough = false then 8 else 0 by simp only [cartErr, h6, h1, h2, h3]; rfl)
      have tok : True := trivial
      go_enter Try.func25, Try.ntmps25
      go_wp2_with (first
       | (go_at_call 87; refine (isReading_any _ _).mono ?_; rw [← within_eq]; rintro e w' ⟨rfl, rfl⟩)
       | (go_at_call 88; have tok2 := tok; clear tok tok2; refine (everyHand_any 89 Hf.taken hs cf_isTaken (fun h _ w => isTaken_any h w) A c _ (HA.out.up zg) hl).mono ?_; rw [h3]; rintro e w2 ⟨rfl, hb2⟩; have hs2 := hb2.size; simp only [World.size_alloc] at hs2; have hB2 : Below w.heap.size w w2 := Below.trans zg (hb2.mono (by simp)); have c2 : w2.cell? ⟨w.heap.size, 2, none⟩ = some (.slice A hs.length c) := up_cell hb2 (by go_simp))
       | (go_at_call 88; refine (everyHand_any 90 Hf.enough hs cf_isEnough (fun h hm w => isEnough_any h (HT.out h hm) w) A c _ (HA.out.up zg) hl).mono ?_; rw [h4]; rintro e w3 ⟨rfl, hb3⟩))
      go_ret
      exact ⟨by rw [E.out, h4]; rfl, Below.trans zg (hb3.mono (by omega))⟩
set_option maxRecDepth 100000 in
set_option maxHeartbeats 1000000 in
theorem checkMixture_any (a b c d : Int) (w : World) :
  Calls Try.prog 103 #[.agg #[.int .i64 a, .int .i64 b, .int .i64 c, .int .i64 d]] w fun e w' => e = .returned (.int .i64 (mixErr a b c d)) ∧ Below w.heap.size w w' := by
 have hbox := Holds.new w 28 #[.int .i64 a, .int .i64 b, .int .i64 c, .int .i64 d]
 have hA : IntsAt (w.alloc (.cells #[.int .i64 a, .int .i64 b, .int .i64 c, .int .i64 d] 28)) (some ⟨w.heap.size, 0, none⟩) [a, b, c, d] := fun _ => by
  refine ⟨w.heap.size, 0, rfl, fun k x hx => ?_⟩
  match k, hx with
  | 0, hx | 1, hx | 2, hx | 3, hx => simp at hx; subst hx; exact hbox.cell _
 have HA := Lib.hid hA
 have HX := Lib.hid hbox
 clear hA hbox
 cases hw : [a, b, c, d].all fun n => within n 0 40 with
 | false =>
  have E := Lib.hid (show mixErr a b c d = 3 by simp [List.all_cons] at hw; simp only [mixErr]; rw [if_pos]; revert hw; cases within a 0 40 <;> cases within b 0 40 <;> cases within c 0 40 <;> cases within d 0 40 <;> simp)
  have HW := Lib.hid hw
  clear hw
  go_enter Try.func103, Try.ntmps103
  go_wp2_with (go_at_call 113; refine (everyInt_any 131 (fun n => within n 0 40) [a, b, c, d] cf_isParts (fun n _ w => isParts_fits n w) (some ⟨w.heap.size, 0, none⟩) 4 _ HA.out (by simp)).mono ?_; rw [HW.out]; rintro e w2 ⟨rfl, hb2⟩)
  go_ret
  exact ⟨by rw [E.out]; rfl, Below.trans zg (hb2.mono (by simp))⟩
 | true =>
  have hall : within a 0 40 = true ∧ within b 0 40 = true ∧ within c 0 40 = true ∧ within d 0 40 = true := by simpa [List.all_cons] using hw
  obtain ⟨ha, hb, hc, hd⟩ := hall
  have hval : mixErr a b c d = if a + b + c + d ≠ 40 then 8 else 0 := by simp [mixErr, ha, hb, hc, hd]
  simp only [within, Bool.and_eq_true, decide_eq_true_eq] at ha hb hc hd
  obtain ⟨a0, a1⟩ := ha
  obtain ⟨b0, b1⟩ := hb
  obtain ⟨c0, c1⟩ := hc
  obtain ⟨d0, d1⟩ := hd
  have HW := Lib.hid hw
  have E := Lib.hid hval
  clear hw hval
  have hq : ∃ q : Bool, (a + b + c + d != 40) = q := ⟨_, rfl⟩
  obtain ⟨q, hq⟩ := hq
  cases q
  all_goals
   have HS := Lib.hid hq
   go_enter Try.func103, Try.ntmps103
   go_wp2_with (first
    | (go_at_call 113; refine (everyInt_any 131 (fun n => within n 0 40) [a, b, c, d] cf_isParts (fun n _ w => isParts_fits n w) (some ⟨w.heap.size, 0, none⟩) 4 _ HA.out (by simp)).mono ?_; rw [HW.out]; rintro e w2 ⟨rfl, hb2⟩; have Hx2 := HX.out.up hb2; have k0 : w2.cell? ⟨w.heap.size, 0, none⟩ = some (.int .i64 a) := Hx2.cell 0; have k1 : w2.cell? ⟨w.heap.size, 1, none⟩ = some (.int .i64 b) := Hx2.cell 1; have k2 : w2.cell? ⟨w.heap.size, 2, none⟩ = some (.int .i64 c) := Hx2.cell 2; have k3 : w2.cell? ⟨w.heap.size, 3, none⟩ = some (.int .i64 d) := Hx2.cell 3; have hs2 := hb2.size; simp only [World.size_alloc] at hs2; have hB2 : Below w.heap.size w w2 := Below.trans zg (hb2.mono (by simp)))
    | (go_at_call 133; refine (sum_any _ _ _ _ _ (by omega) (by omega) (by omega) (by omega) (by omega) (by omega) (by omega) (by omega)).mono ?_; rintro e w3 ⟨rfl, hb3⟩))
   go_ret
   refine ⟨?_, hB2.trans (hb3.mono (by omega))⟩
   rw [E.out]
   have HQ := HS.out
   first | (rw [if_pos (by simpa using HQ)]; rfl) | (rw [if_neg (by simpa using HQ)]; rfl)
end Go.Proofs.Ytifffonoipapgaa
