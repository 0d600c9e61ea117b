/- Package heat's Check. -/
import Derived.Test.YtfghfmlcfbkmjaaHG
set_option linter.unusedSimpArgs false
set_option linter.unusedVariables false
namespace Go.Proofs.Ytfghfmlcfbkmjaa
open Go.RowKit

theorem isRise_fits (n : Int) (w : World) : Calls Try.prog 53 #[.int .i64 n] w fun e w' => e = .returned (.bool (riseOk n)) ∧ Below w.heap.size w w' := isRise_any n w
theorem rises_at {w : World} {B : Nat} {t : TypeId} {b : Br} {v : Value} (h : Holds w B t #[.int .i64 b.cool, .int .i64 b.gangs, .int .i64 b.r0, .int .i64 b.r1, .int .i64 b.r2, .int .i64 b.r3, .int .i64 b.r4, .int .i64 b.r5, v]) : IntsAt w (some ⟨B, 2, none⟩) b.rises := fun _ => by
  refine ⟨B, 2, rfl, fun k x hx => ?_⟩
  match k, hx with
  | 0, hx | 1, hx | 2, hx | 3, hx | 4, hx | 5, hx => simp [Br.rises] at hx; subst hx; exact h.cell _
  | k + 6, hx => simp [Br.rises] at hx
set_option maxRecDepth 100000 in
set_option maxHeartbeats 4000000 in
theorem Check_any (b : Br) (A : Option Addr) (c : Nat) (bs : List Bn) (w : World) (hA : BinsAt w A bs) (hl : bs.length ≤ 1000) :
    Calls Try.prog 14 #[.agg #[.int .i64 b.cool, .int .i64 b.gangs, .int .i64 b.r0, .int .i64 b.r1, .int .i64 b.r2, .int .i64 b.r3, .int .i64 b.r4, .int .i64 b.r5, .slice A bs.length c]] w fun e w' => e = .returned (.int .i64 (barnErr b bs)) ∧ Below w.heap.size w w' := by
  have HA := Lib.hid hA
  clear hA
  have HX := Lib.hid (Holds.new w 25 #[.int .i64 b.cool, .int .i64 b.gangs, .int .i64 b.r0, .int .i64 b.r1, .int .i64 b.r2, .int .i64 b.r3, .int .i64 b.r4, .int .i64 b.r5, .slice A bs.length c])
  obtain ⟨E, hE⟩ : ∃ z, z = barnErr b bs := ⟨_, rfl⟩
  rw [← hE]
  have HEQ := Lib.hid hE
  clear hE
  cases h0 : within (bs.length : Int) 1 4 with
  | false =>
    go_enter Try.func14, Try.ntmps14
    go_wp2_with (first
      | (go_at_call 51; refine (within_any _ _ _ _).mono ?_; simp only [h0, Bool.not_true, Bool.not_false]; rintro e w' ⟨rfl, rfl⟩)
      )
    go_ret
    exact ⟨by rw [HEQ.out, barnErr_many h0 ]; rfl, by (repeat' (first | (with_reducible exact Below.refl _ _) | (with_reducible assumption) | (with_reducible refine Below.alloc ?_ ?_ _) | (with_reducible refine Below.drew ?_) | (with_reducible refine Below.setCell ?_ ?_ _) | (with_reducible exact Nat.le_refl _) | omega | (simp only [World.size_alloc, World.size_setCell, World.size_drew]; omega) | (simp; omega) | (simp; done)))⟩
  | true =>
    cases h1 : within b.cool 0 60 with
    | false =>
      go_enter Try.func14, Try.ntmps14
      go_wp2_with (first
        | (go_at_call 51; refine (within_any _ _ _ _).mono ?_; simp only [h0, h1, Bool.not_true, Bool.not_false]; rintro e w' ⟨rfl, rfl⟩)
        )
      go_ret
      exact ⟨by rw [HEQ.out, barnErr_range h0 (by rw [h1]; rfl)]; rfl, by (repeat' (first | (with_reducible exact Below.refl _ _) | (with_reducible assumption) | (with_reducible refine Below.alloc ?_ ?_ _) | (with_reducible refine Below.drew ?_) | (with_reducible refine Below.setCell ?_ ?_ _) | (with_reducible exact Nat.le_refl _) | omega | (simp only [World.size_alloc, World.size_setCell, World.size_drew]; omega) | (simp; omega) | (simp; done)))⟩
    | true =>
      cases h2 : within b.gangs 0 3 with
      | false =>
        go_enter Try.func14, Try.ntmps14
        go_wp2_with (first
          | (go_at_call 51; refine (within_any _ _ _ _).mono ?_; simp only [h0, h1, h2, Bool.not_true, Bool.not_false]; rintro e w' ⟨rfl, rfl⟩)
          )
        go_ret
        exact ⟨by rw [HEQ.out, barnErr_range h0 (by rw [h1, h2]; rfl)]; rfl, by (repeat' (first | (with_reducible exact Below.refl _ _) | (with_reducible assumption) | (with_reducible refine Below.alloc ?_ ?_ _) | (with_reducible refine Below.drew ?_) | (with_reducible refine Below.setCell ?_ ?_ _) | (with_reducible exact Nat.le_refl _) | omega | (simp only [World.size_alloc, World.size_setCell, World.size_drew]; omega) | (simp; omega) | (simp; done)))⟩
      | true =>
        cases h3 : b.rises.all riseOk with
        | false =>
          have tok1 : True := trivial
          have tok2 : True := trivial
          go_enter Try.func14, Try.ntmps14
          go_wp2_with (first
            | (go_at_call 51; refine (within_any _ _ _ _).mono ?_; simp only [h0, h1, h2, Bool.not_true, Bool.not_false]; rintro e w' ⟨rfl, rfl⟩)
            | (go_at_call 52; have tk1 := tok1; clear tok1; refine (everyInt_any 53 riseOk b.rises cf_isRise (fun n _ w => isRise_any n w) (some ⟨w.heap.size, 2, none⟩) 6 _ (rises_at HX.out) (by simp [Br.rises])).mono ?_; simp only [h3]; rintro e w2 ⟨rfl, hb2⟩; have hB2 : Below (w.heap.size + 1) (w.alloc (.cells #[.int .i64 b.cool, .int .i64 b.gangs, .int .i64 b.r0, .int .i64 b.r1, .int .i64 b.r2, .int .i64 b.r3, .int .i64 b.r4, .int .i64 b.r5, .slice A bs.length c] 25)) w2 := (hb2.mono (by simp)); have hs2 : w.heap.size + 1 ≤ w2.heap.size := (by have h := hB2.size; simp only [World.size_alloc] at h; exact h); have k82 : w2.cell? ⟨w.heap.size, 8, none⟩ = some (.slice A bs.length c) := (HX.out.up (hB2.mono (by simp))).cell 8; have lt2 : w.heap.size < w2.heap.size := by omega)
            )
          go_ret
          exact ⟨by rw [HEQ.out, barnErr_range h0 (by rw [h1, h2, h3]; rfl)]; rfl, Below.trans (by (repeat' (first | (with_reducible exact Below.refl _ _) | (with_reducible assumption) | (with_reducible refine Below.alloc ?_ ?_ _) | (with_reducible refine Below.drew ?_) | (with_reducible refine Below.setCell ?_ ?_ _) | (with_reducible exact Nat.le_refl _) | omega | (simp only [World.size_alloc, World.size_setCell, World.size_drew]; omega) | (simp; omega) | (simp; done)))) (hB2.mono (by simp))⟩
        | true =>
          cases h4 : bs.all Bn.inRange with
          | false =>
            have tok1 : True := trivial
            have tok2 : True := trivial
            go_enter Try.func14, Try.ntmps14
            go_wp2_with (first
              | (go_at_call 51; refine (within_any _ _ _ _).mono ?_; simp only [h0, h1, h2, Bool.not_true, Bool.not_false]; rintro e w' ⟨rfl, rfl⟩)
              | (go_at_call 52; have tk1 := tok1; clear tok1; refine (everyInt_any 53 riseOk b.rises cf_isRise (fun n _ w => isRise_any n w) (some ⟨w.heap.size, 2, none⟩) 6 _ (rises_at HX.out) (by simp [Br.rises])).mono ?_; simp only [h3]; rintro e w2 ⟨rfl, hb2⟩; have hB2 : Below (w.heap.size + 1) (w.alloc (.cells #[.int .i64 b.cool, .int .i64 b.gangs, .int .i64 b.r0, .int .i64 b.r1, .int .i64 b.r2, .int .i64 b.r3, .int .i64 b.r4, .int .i64 b.r5, .slice A bs.length c] 25)) w2 := (hb2.mono (by simp)); have hs2 : w.heap.size + 1 ≤ w2.heap.size := (by have h := hB2.size; simp only [World.size_alloc] at h; exact h); have k82 : w2.cell? ⟨w.heap.size, 8, none⟩ = some (.slice A bs.length c) := (HX.out.up (hB2.mono (by simp))).cell 8; have lt2 : w.heap.size < w2.heap.size := by omega)
              | (go_at_call 54; have tk2 := tok2; clear tok2; refine (everyBin_any 55 Bn.inRange bs cf_isBin (fun h _ w => isBin_any h w) A c _ (HA.out.up (Below.trans (by (repeat' (first | (with_reducible exact Below.refl _ _) | (with_reducible assumption) | (with_reducible refine Below.alloc ?_ ?_ _) | (with_reducible refine Below.drew ?_) | (with_reducible refine Below.setCell ?_ ?_ _) | (with_reducible exact Nat.le_refl _) | omega | (simp only [World.size_alloc, World.size_setCell, World.size_drew]; omega) | (simp; omega) | (simp; done)))) (hB2.mono (by simp)))) hl).mono ?_; simp only [h4]; rintro e w3 ⟨rfl, hb3⟩; have hB3 : Below (w.heap.size + 1) (w.alloc (.cells #[.int .i64 b.cool, .int .i64 b.gangs, .int .i64 b.r0, .int .i64 b.r1, .int .i64 b.r2, .int .i64 b.r3, .int .i64 b.r4, .int .i64 b.r5, .slice A bs.length c] 25)) w3 := hB2.trans (hb3.mono hs2); have hs3 : w.heap.size + 1 ≤ w3.heap.size := (by have h := hB3.size; simp only [World.size_alloc] at h; exact h); have k83 : w3.cell? ⟨w.heap.size, 8, none⟩ = some (.slice A bs.length c) := (HX.out.up (hB3.mono (by simp))).cell 8; have lt3 : w.heap.size < w3.heap.size := by omega)
              )
            go_ret
            exact ⟨by rw [HEQ.out, barnErr_range h0 (by rw [h1, h2, h3, h4]; rfl)]; rfl, Below.trans (by (repeat' (first | (with_reducible exact Below.refl _ _) | (with_reducible assumption) | (with_reducible refine Below.alloc ?_ ?_ _) | (with_reducible refine Below.drew ?_) | (with_reducible refine Below.setCell ?_ ?_ _) | (with_reducible exact Nat.le_refl _) | omega | (simp only [World.size_alloc, World.size_setCell, World.size_drew]; omega) | (simp; omega) | (simp; done)))) (hB3.mono (by simp))⟩
          | true =>
            cases h5 : risesFrom b.rises with
            | false =>
              have tok1 : True := trivial
              have tok2 : True := trivial
              go_enter Try.func14, Try.ntmps14
              go_wp2_with (first
                | (go_at_call 51; refine (within_any _ _ _ _).mono ?_; simp only [h0, h1, h2, Bool.not_true, Bool.not_false]; rintro e w' ⟨rfl, rfl⟩)
                | (go_at_call 52; have tk1 := tok1; clear tok1; refine (everyInt_any 53 riseOk b.rises cf_isRise (fun n _ w => isRise_any n w) (some ⟨w.heap.size, 2, none⟩) 6 _ (rises_at HX.out) (by simp [Br.rises])).mono ?_; simp only [h3]; rintro e w2 ⟨rfl, hb2⟩; have hB2 : Below (w.heap.size + 1) (w.alloc (.cells #[.int .i64 b.cool, .int .i64 b.gangs, .int .i64 b.r0, .int .i64 b.r1, .int .i64 b.r2, .int .i64 b.r3, .int .i64 b.r4, .int .i64 b.r5, .slice A bs.length c] 25)) w2 := (hb2.mono (by simp)); have hs2 : w.heap.size + 1 ≤ w2.heap.size := (by have h := hB2.size; simp only [World.size_alloc] at h; exact h); have k82 : w2.cell? ⟨w.heap.size, 8, none⟩ = some (.slice A bs.length c) := (HX.out.up (hB2.mono (by simp))).cell 8; have lt2 : w.heap.size < w2.heap.size := by omega)
                | (go_at_call 54; have tk2 := tok2; clear tok2; refine (everyBin_any 55 Bn.inRange bs cf_isBin (fun h _ w => isBin_any h w) A c _ (HA.out.up (Below.trans (by (repeat' (first | (with_reducible exact Below.refl _ _) | (with_reducible assumption) | (with_reducible refine Below.alloc ?_ ?_ _) | (with_reducible refine Below.drew ?_) | (with_reducible refine Below.setCell ?_ ?_ _) | (with_reducible exact Nat.le_refl _) | omega | (simp only [World.size_alloc, World.size_setCell, World.size_drew]; omega) | (simp; omega) | (simp; done)))) (hB2.mono (by simp)))) hl).mono ?_; simp only [h4]; rintro e w3 ⟨rfl, hb3⟩; have hB3 : Below (w.heap.size + 1) (w.alloc (.cells #[.int .i64 b.cool, .int .i64 b.gangs, .int .i64 b.r0, .int .i64 b.r1, .int .i64 b.r2, .int .i64 b.r3, .int .i64 b.r4, .int .i64 b.r5, .slice A bs.length c] 25)) w3 := hB2.trans (hb3.mono hs2); have hs3 : w.heap.size + 1 ≤ w3.heap.size := (by have h := hB3.size; simp only [World.size_alloc] at h; exact h); have k83 : w3.cell? ⟨w.heap.size, 8, none⟩ = some (.slice A bs.length c) := (HX.out.up (hB3.mono (by simp))).cell 8; have lt3 : w.heap.size < w3.heap.size := by omega)
                | (go_at_call 56; refine (IsSorted_any (some ⟨w.heap.size, 2, none⟩) 6 b.rises _ (rises_at (HX.out.up (hB3.mono (by simp)))) (by simp [Br.rises]) (by simp [Br.rises])).mono ?_; simp only [h5]; rintro e w4 ⟨rfl, hb4⟩; have hB4 : Below (w.heap.size + 1) (w.alloc (.cells #[.int .i64 b.cool, .int .i64 b.gangs, .int .i64 b.r0, .int .i64 b.r1, .int .i64 b.r2, .int .i64 b.r3, .int .i64 b.r4, .int .i64 b.r5, .slice A bs.length c] 25)) w4 := hB3.trans (hb4.mono hs3); have hs4 : w.heap.size + 1 ≤ w4.heap.size := (by have h := hB4.size; simp only [World.size_alloc] at h; exact h); have k84 : w4.cell? ⟨w.heap.size, 8, none⟩ = some (.slice A bs.length c) := (HX.out.up (hB4.mono (by simp))).cell 8; have lt4 : w.heap.size < w4.heap.size := by omega)
                )
              go_ret
              exact ⟨by rw [HEQ.out, barnErr_order h0 (by rw [h1, h2, h3, h4]; rfl) (by rw [h5]; rfl)]; rfl, Below.trans (by (repeat' (first | (with_reducible exact Below.refl _ _) | (with_reducible assumption) | (with_reducible refine Below.alloc ?_ ?_ _) | (with_reducible refine Below.drew ?_) | (with_reducible refine Below.setCell ?_ ?_ _) | (with_reducible exact Nat.le_refl _) | omega | (simp only [World.size_alloc, World.size_setCell, World.size_drew]; omega) | (simp; omega) | (simp; done)))) (hB4.mono (by simp))⟩
            | true =>
              cases h6 : bs.all Bn.inOrder with
              | false =>
                have tok1 : True := trivial
                have tok2 : True := trivial
                go_enter Try.func14, Try.ntmps14
                go_wp2_with (first
                  | (go_at_call 51; refine (within_any _ _ _ _).mono ?_; simp only [h0, h1, h2, Bool.not_true, Bool.not_false]; rintro e w' ⟨rfl, rfl⟩)
                  | (go_at_call 52; have tk1 := tok1; clear tok1; refine (everyInt_any 53 riseOk b.rises cf_isRise (fun n _ w => isRise_any n w) (some ⟨w.heap.size, 2, none⟩) 6 _ (rises_at HX.out) (by simp [Br.rises])).mono ?_; simp only [h3]; rintro e w2 ⟨rfl, hb2⟩; have hB2 : Below (w.heap.size + 1) (w.alloc (.cells #[.int .i64 b.cool, .int .i64 b.gangs, .int .i64 b.r0, .int .i64 b.r1, .int .i64 b.r2, .int .i64 b.r3, .int .i64 b.r4, .int .i64 b.r5, .slice A bs.length c] 25)) w2 := (hb2.mono (by simp)); have hs2 : w.heap.size + 1 ≤ w2.heap.size := (by have h := hB2.size; simp only [World.size_alloc] at h; exact h); have k82 : w2.cell? ⟨w.heap.size, 8, none⟩ = some (.slice A bs.length c) := (HX.out.up (hB2.mono (by simp))).cell 8; have lt2 : w.heap.size < w2.heap.size := by omega)
                  | (go_at_call 54; have tk2 := tok2; clear tok2; refine (everyBin_any 55 Bn.inRange bs cf_isBin (fun h _ w => isBin_any h w) A c _ (HA.out.up (Below.trans (by (repeat' (first | (with_reducible exact Below.refl _ _) | (with_reducible assumption) | (with_reducible refine Below.alloc ?_ ?_ _) | (with_reducible refine Below.drew ?_) | (with_reducible refine Below.setCell ?_ ?_ _) | (with_reducible exact Nat.le_refl _) | omega | (simp only [World.size_alloc, World.size_setCell, World.size_drew]; omega) | (simp; omega) | (simp; done)))) (hB2.mono (by simp)))) hl).mono ?_; simp only [h4]; rintro e w3 ⟨rfl, hb3⟩; have hB3 : Below (w.heap.size + 1) (w.alloc (.cells #[.int .i64 b.cool, .int .i64 b.gangs, .int .i64 b.r0, .int .i64 b.r1, .int .i64 b.r2, .int .i64 b.r3, .int .i64 b.r4, .int .i64 b.r5, .slice A bs.length c] 25)) w3 := hB2.trans (hb3.mono hs2); have hs3 : w.heap.size + 1 ≤ w3.heap.size := (by have h := hB3.size; simp only [World.size_alloc] at h; exact h); have k83 : w3.cell? ⟨w.heap.size, 8, none⟩ = some (.slice A bs.length c) := (HX.out.up (hB3.mono (by simp))).cell 8; have lt3 : w.heap.size < w3.heap.size := by omega)
                  | (go_at_call 56; refine (IsSorted_any (some ⟨w.heap.size, 2, none⟩) 6 b.rises _ (rises_at (HX.out.up (hB3.mono (by simp)))) (by simp [Br.rises]) (by simp [Br.rises])).mono ?_; simp only [h5]; rintro e w4 ⟨rfl, hb4⟩; have hB4 : Below (w.heap.size + 1) (w.alloc (.cells #[.int .i64 b.cool, .int .i64 b.gangs, .int .i64 b.r0, .int .i64 b.r1, .int .i64 b.r2, .int .i64 b.r3, .int .i64 b.r4, .int .i64 b.r5, .slice A bs.length c] 25)) w4 := hB3.trans (hb4.mono hs3); have hs4 : w.heap.size + 1 ≤ w4.heap.size := (by have h := hB4.size; simp only [World.size_alloc] at h; exact h); have k84 : w4.cell? ⟨w.heap.size, 8, none⟩ = some (.slice A bs.length c) := (HX.out.up (hB4.mono (by simp))).cell 8; have lt4 : w.heap.size < w4.heap.size := by omega)
                  | (go_at_call 54; refine (everyBin_any 57 Bn.inOrder bs cf_isInOrder (fun h _ w => isInOrder_any h w) A c _ (HA.out.up (Below.trans (by (repeat' (first | (with_reducible exact Below.refl _ _) | (with_reducible assumption) | (with_reducible refine Below.alloc ?_ ?_ _) | (with_reducible refine Below.drew ?_) | (with_reducible refine Below.setCell ?_ ?_ _) | (with_reducible exact Nat.le_refl _) | omega | (simp only [World.size_alloc, World.size_setCell, World.size_drew]; omega) | (simp; omega) | (simp; done)))) (hB4.mono (by simp)))) hl).mono ?_; simp only [h6]; rintro e w5 ⟨rfl, hb5⟩; have hB5 : Below (w.heap.size + 1) (w.alloc (.cells #[.int .i64 b.cool, .int .i64 b.gangs, .int .i64 b.r0, .int .i64 b.r1, .int .i64 b.r2, .int .i64 b.r3, .int .i64 b.r4, .int .i64 b.r5, .slice A bs.length c] 25)) w5 := hB4.trans (hb5.mono hs4); have hs5 : w.heap.size + 1 ≤ w5.heap.size := (by have h := hB5.size; simp only [World.size_alloc] at h; exact h); have k85 : w5.cell? ⟨w.heap.size, 8, none⟩ = some (.slice A bs.length c) := (HX.out.up (hB5.mono (by simp))).cell 8; have lt5 : w.heap.size < w5.heap.size := by omega)
                  )
                go_ret
                exact ⟨by rw [HEQ.out, barnErr_order h0 (by rw [h1, h2, h3, h4]; rfl) (by rw [h5, h6]; rfl)]; rfl, Below.trans (by (repeat' (first | (with_reducible exact Below.refl _ _) | (with_reducible assumption) | (with_reducible refine Below.alloc ?_ ?_ _) | (with_reducible refine Below.drew ?_) | (with_reducible refine Below.setCell ?_ ?_ _) | (with_reducible exact Nat.le_refl _) | omega | (simp only [World.size_alloc, World.size_setCell, World.size_drew]; omega) | (simp; omega) | (simp; done)))) (hB5.mono (by simp))⟩
              | true =>
                have tok1 : True := trivial
                have tok2 : True := trivial
                go_enter Try.func14, Try.ntmps14
                go_wp2_with (first
                  | (go_at_call 51; refine (within_any _ _ _ _).mono ?_; simp only [h0, h1, h2, Bool.not_true, Bool.not_false]; rintro e w' ⟨rfl, rfl⟩)
                  | (go_at_call 52; have tk1 := tok1; clear tok1; refine (everyInt_any 53 riseOk b.rises cf_isRise (fun n _ w => isRise_any n w) (some ⟨w.heap.size, 2, none⟩) 6 _ (rises_at HX.out) (by simp [Br.rises])).mono ?_; simp only [h3]; rintro e w2 ⟨rfl, hb2⟩; have hB2 : Below (w.heap.size + 1) (w.alloc (.cells #[.int .i64 b.cool, .int .i64 b.gangs, .int .i64 b.r0, .int .i64 b.r1, .int .i64 b.r2, .int .i64 b.r3, .int .i64 b.r4, .int .i64 b.r5, .slice A bs.length c] 25)) w2 := (hb2.mono (by simp)); have hs2 : w.heap.size + 1 ≤ w2.heap.size := (by have h := hB2.size; simp only [World.size_alloc] at h; exact h); have k82 : w2.cell? ⟨w.heap.size, 8, none⟩ = some (.slice A bs.length c) := (HX.out.up (hB2.mono (by simp))).cell 8; have lt2 : w.heap.size < w2.heap.size := by omega)
                  | (go_at_call 54; have tk2 := tok2; clear tok2; refine (everyBin_any 55 Bn.inRange bs cf_isBin (fun h _ w => isBin_any h w) A c _ (HA.out.up (Below.trans (by (repeat' (first | (with_reducible exact Below.refl _ _) | (with_reducible assumption) | (with_reducible refine Below.alloc ?_ ?_ _) | (with_reducible refine Below.drew ?_) | (with_reducible refine Below.setCell ?_ ?_ _) | (with_reducible exact Nat.le_refl _) | omega | (simp only [World.size_alloc, World.size_setCell, World.size_drew]; omega) | (simp; omega) | (simp; done)))) (hB2.mono (by simp)))) hl).mono ?_; simp only [h4]; rintro e w3 ⟨rfl, hb3⟩; have hB3 : Below (w.heap.size + 1) (w.alloc (.cells #[.int .i64 b.cool, .int .i64 b.gangs, .int .i64 b.r0, .int .i64 b.r1, .int .i64 b.r2, .int .i64 b.r3, .int .i64 b.r4, .int .i64 b.r5, .slice A bs.length c] 25)) w3 := hB2.trans (hb3.mono hs2); have hs3 : w.heap.size + 1 ≤ w3.heap.size := (by have h := hB3.size; simp only [World.size_alloc] at h; exact h); have k83 : w3.cell? ⟨w.heap.size, 8, none⟩ = some (.slice A bs.length c) := (HX.out.up (hB3.mono (by simp))).cell 8; have lt3 : w.heap.size < w3.heap.size := by omega)
                  | (go_at_call 56; refine (IsSorted_any (some ⟨w.heap.size, 2, none⟩) 6 b.rises _ (rises_at (HX.out.up (hB3.mono (by simp)))) (by simp [Br.rises]) (by simp [Br.rises])).mono ?_; simp only [h5]; rintro e w4 ⟨rfl, hb4⟩; have hB4 : Below (w.heap.size + 1) (w.alloc (.cells #[.int .i64 b.cool, .int .i64 b.gangs, .int .i64 b.r0, .int .i64 b.r1, .int .i64 b.r2, .int .i64 b.r3, .int .i64 b.r4, .int .i64 b.r5, .slice A bs.length c] 25)) w4 := hB3.trans (hb4.mono hs3); have hs4 : w.heap.size + 1 ≤ w4.heap.size := (by have h := hB4.size; simp only [World.size_alloc] at h; exact h); have k84 : w4.cell? ⟨w.heap.size, 8, none⟩ = some (.slice A bs.length c) := (HX.out.up (hB4.mono (by simp))).cell 8; have lt4 : w.heap.size < w4.heap.size := by omega)
                  | (go_at_call 54; refine (everyBin_any 57 Bn.inOrder bs cf_isInOrder (fun h _ w => isInOrder_any h w) A c _ (HA.out.up (Below.trans (by (repeat' (first | (with_reducible exact Below.refl _ _) | (with_reducible assumption) | (with_reducible refine Below.alloc ?_ ?_ _) | (with_reducible refine Below.drew ?_) | (with_reducible refine Below.setCell ?_ ?_ _) | (with_reducible exact Nat.le_refl _) | omega | (simp only [World.size_alloc, World.size_setCell, World.size_drew]; omega) | (simp; omega) | (simp; done)))) (hB4.mono (by simp)))) hl).mono ?_; simp only [h6]; rintro e w5 ⟨rfl, hb5⟩; have hB5 : Below (w.heap.size + 1) (w.alloc (.cells #[.int .i64 b.cool, .int .i64 b.gangs, .int .i64 b.r0, .int .i64 b.r1, .int .i64 b.r2, .int .i64 b.r3, .int .i64 b.r4, .int .i64 b.r5, .slice A bs.length c] 25)) w5 := hB4.trans (hb5.mono hs4); have hs5 : w.heap.size + 1 ≤ w5.heap.size := (by have h := hB5.size; simp only [World.size_alloc] at h; exact h); have k85 : w5.cell? ⟨w.heap.size, 8, none⟩ = some (.slice A bs.length c) := (HX.out.up (hB5.mono (by simp))).cell 8; have lt5 : w.heap.size < w5.heap.size := by omega)
                  )
                go_ret
                exact ⟨by rw [HEQ.out, barnErr_ok h0 (by rw [h1, h2, h3, h4]; rfl) (by rw [h5, h6]; rfl)]; rfl, Below.trans (by (repeat' (first | (with_reducible exact Below.refl _ _) | (with_reducible assumption) | (with_reducible refine Below.alloc ?_ ?_ _) | (with_reducible refine Below.drew ?_) | (with_reducible refine Below.setCell ?_ ?_ _) | (with_reducible exact Nat.le_refl _) | omega | (simp only [World.size_alloc, World.size_setCell, World.size_drew]; omega) | (simp; omega) | (simp; done)))) (hB5.mono (by simp))⟩
end Go.Proofs.Ytfghfmlcfbkmjaa
