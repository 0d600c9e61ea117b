import Derived.Laws.EntriesVeiled
import Derived.Test.YtifffonoipapgaaVAA
import Derived.Test.YtifffonoipapgaaVAC
import Derived.Test.YtifffonoipapgaaVAG
set_option linter.unusedSimpArgs false
set_option linter.unusedVariables false
namespace Go.Proofs.Ytifffonoipapgaa
open Go.RowKit
attribute [local go_sem] ix4_0 ix4_1 ix4_2 ix4_3 ix8_0 ix8_1 ix8_2 ix8_3
theorem within_w (n lo hi : Int) (w : World) : Calls Try.prog 82 #[.int .i64 n, .int .i64 lo, .int .i64 hi] w fun e w' => e = .returned (.bool (within n lo hi)) ∧ w = w' := within_any n lo hi w
set_option maxRecDepth 100000 in
set_option maxHeartbeats 1000000 in
theorem isGrade_any (g : Gr) (w : World) :
  Calls Try.prog 84 #[.agg #[.int .i64 g.corn, .int .i64 g.chaff, .int .i64 g.stones, .int .i64 g.damp, .int .i64 g.price]] w fun e w' => e = .returned (.bool g.right) ∧ Below w.heap.size w w' := by
 have hA : ∀ W : World, IntsAt (W.alloc (.cells #[.int .i64 g.corn, .int .i64 g.chaff, .int .i64 g.stones, .int .i64 g.damp] 3)) (some ⟨W.heap.size, 0, none⟩) [g.corn, g.chaff, g.stones, g.damp] := fun W _ => by
  refine ⟨W.heap.size, 0, rfl, fun k x hx => ?_⟩
  have hbox := Holds.new W 3 #[.int .i64 g.corn, .int .i64 g.chaff, .int .i64 g.stones, .int .i64 g.damp]
  match k, hx with
  | 0, hx | 1, hx | 2, hx | 3, hx => simp at hx; subst hx; exact hbox.cell _
 have HA := Lib.hid (hA (w.alloc (.cells #[.int .i64 g.corn, .int .i64 g.chaff, .int .i64 g.stones, .int .i64 g.damp, .int .i64 g.price] 128)))
 clear hA
 simp only [World.size_alloc] at HA
 have e : g.right = (([g.corn, g.chaff, g.stones, g.damp].all fun n => within n 0 40) && within g.price 0 100) := by
  simp [Gr.right, List.all_cons, Bool.and_assoc]
 cases hw : [g.corn, g.chaff, g.stones, g.damp].all fun n => within n 0 40 with
 | true =>
  have E := Lib.hid e
  have HW := Lib.hid hw
  clear e hw
  go_enter Try.func84, Try.ntmps84
  go_wp2_with (first
   | (go_at_call 113; refine (everyInt_any 131 (fun n => within n 0 40) [g.corn, g.chaff, g.stones, g.damp] cf_isParts (fun n _ w => isParts_fits n w) (some ⟨w.heap.size + 1, 0, none⟩) 4 _ HA.out (by simp)).mono ?_; rw [HW.out]; rintro e w2 ⟨rfl, hb2⟩; have c4 : w2.cell? ⟨w.heap.size, 4, none⟩ = some (.int .i64 g.price) := up_cell hb2 (by go_simp); have hs2 := hb2.size; simp only [World.size_alloc] at hs2)
   | (go_at_call 82; refine (within_w _ _ _ _).mono ?_; rintro e w' ⟨rfl, rfl⟩))
  go_ret
  exact ⟨by rw [E.out, HW.out]; simp, Below.trans zg (hb2.mono (by simp; omega))⟩
 | false =>
  have E := Lib.hid e
  have HW := Lib.hid hw
  clear e hw
  go_enter Try.func84, Try.ntmps84
  go_wp2_with (go_at_call 113; refine (everyInt_any 131 (fun n => within n 0 40) [g.corn, g.chaff, g.stones, g.damp] cf_isParts (fun n _ w => isParts_fits n w) (some ⟨w.heap.size + 1, 0, none⟩) 4 _ HA.out (by simp)).mono ?_; rw [HW.out]; rintro e w2 ⟨rfl, hb2⟩)
  go_ret
  exact ⟨by rw [E.out, HW.out]; simp, Below.trans zg (hb2.mono (by simp; omega))⟩
set_option maxRecDepth 100000 in
set_option maxHeartbeats 1000000 in
theorem CheckCart_any (full empty : Int) (A : Option Addr) (c : Nat) (hs : List Hf) (w : World) (hA : HandsAt w A hs) (hl : hs.length ≤ 1000) :
  Calls Try.prog 25 #[.agg #[.int .i64 full, .int .i64 empty, .slice A hs.length c]] w fun e w' => e = .returned (.int .i64 (cartErr full empty hs)) ∧ Below w.heap.size w w' := by
 have HA := Lib.hid hA
 clear hA
 by_cases h6 : hs.length > 6
 ·have E := Lib.hid (show cartErr full empty hs = 2 by simp [cartErr, h6])
  go_enter Try.func25, Try.ntmps25
  go_wp2_with fail
  go_ret
  exact ⟨by rw [E.out]; rfl, zg⟩
 ·cases h1 : within full 0 10000 with
  | false =>
   have E := Lib.hid (show cartErr full empty hs = 3 by simp [cartErr, h6, h1])
   go_enter Try.func25, Try.ntmps25
   go_wp2_with (go_at_call 87; refine (isReading_any _ _).mono ?_; rw [← within_eq]; rintro e w' ⟨rfl, rfl⟩)
   go_ret
   exact ⟨by rw [E.out]; rfl, zg⟩
  | true =>
   cases h2 : within empty 0 10000 with
   | false =>
    have E := Lib.hid (show cartErr full empty hs = 3 by simp [cartErr, h6, h1, h2])
    go_enter Try.func25, Try.ntmps25
    go_wp2_with (go_at_call 87; refine (isReading_any _ _).mono ?_; rw [← within_eq]; rintro e w' ⟨rfl, rfl⟩)
    go_ret
    exact ⟨by rw [E.out]; rfl, zg⟩
   | true =>
    cases h3 : hs.all Hf.taken with
    | false =>
     have E := Lib.hid (show cartErr full empty hs = 3 by simp only [cartErr, h6, h1, h2, h3]; rfl)
     go_enter Try.func25, Try.ntmps25
     go_wp2_with (first
      | (go_at_call 87; refine (isReading_any _ _).mono ?_; rw [← within_eq]; rintro e w' ⟨rfl, rfl⟩)
      | (go_at_call 88; refine (everyHand_any 89 Hf.taken hs cf_isTaken (fun h _ w => isTaken_any h w) A c _ (HA.out.up zg) hl).mono ?_; rw [h3]; rintro e w2 ⟨rfl, hb2⟩))
     go_ret
     exact ⟨by rw [E.out]; rfl, Below.trans zg (hb2.mono (by simp))⟩
    | true =>
     have ht := List.all_eq_true.1 h3
     have HT := Lib.hid ht
     clear ht
     cases h4 : hs.all Hf.enough with
     | _ =>
      have E := Lib.hid (show cartErr full empty hs = if hs.all Hf.enough = false then 8 else 0 by simp only [cartErr, h6, h1, h2, h3]; rfl)
      have tok : True := trivial
      go_enter Try.func25, Try.ntmps25
      go_wp2_with (first
       | (go_at_call 87; refine (isReading_any _ _).mono ?_; rw [← within_eq]; rintro e w' ⟨rfl, rfl⟩)
       | (go_at_call 88; have tok2 := tok; clear tok tok2; refine (everyHand_any 89 Hf.taken hs cf_isTaken (fun h _ w => isTaken_any h w) A c _ (HA.out.up zg) hl).mono ?_; rw [h3]; rintro e w2 ⟨rfl, hb2⟩; have hs2 := hb2.size; simp only [World.size_alloc] at hs2; have hB2 : Below w.heap.size w w2 := Below.trans zg (hb2.mono (by simp)); have c2 : w2.cell? ⟨w.heap.size, 2, none⟩ = some (.slice A hs.length c) := up_cell hb2 (by go_simp))
       | (go_at_call 88; refine (everyHand_any 90 Hf.enough hs cf_isEnough (fun h hm w => isEnough_any h (HT.out h hm) w) A c _ (HA.out.up zg) hl).mono ?_; rw [h4]; rintro e w3 ⟨rfl, hb3⟩))
      go_ret
      exact ⟨by rw [E.out, h4]; rfl, Below.trans zg (hb3.mono (by omega))⟩
end Go.Proofs.Ytifffonoipapgaa
