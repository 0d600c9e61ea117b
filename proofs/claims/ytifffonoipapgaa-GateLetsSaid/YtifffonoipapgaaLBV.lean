
import Derived.Test.YtifffonoipapgaaLAA
import Derived.Test.YtifffonoipapgaaLAC
import Derived.Test.YtifffonoipapgaaLBF
import Derived.Test.YtifffonoipapgaaLBH
import Derived.Test.YtifffonoipapgaaLBL
import Derived.Test.YtifffonoipapgaaLBU
set_option linter.unusedSimpArgs false
set_option linter.unusedVariables false
namespace Go.Proofs.Ytifffonoipapgaa
open Go.RowKit
set_option maxRecDepth 100000 in
set_option maxHeartbeats 16000000 in
theorem GateLets_any (err miss full emp : Int) (G : Option Addr) (d : Nat) (gs : List Gr) (A : Option Addr) (c : Nat) (hs : List Hf) (i k m0 m1 m2 m3 : Int) (w : World) (gd : gs.length ≤ d) (gm : d ≤ maxLen) (hG : GradesAt w G gs) (gn : G = none → gs.length = 0 ∧ d = 0) (cd : hs.length ≤ c) (cm : c ≤ maxLen) (hA : HandsAt w A hs) (cn : A = none → hs.length = 0 ∧ c = 0) :
  Calls Try.prog 4 #[.agg #[.int .i64 err, .int .i64 miss, .slice G gs.length d], .agg #[.int .i64 full, .int .i64 emp, .slice A hs.length c], .int .i64 i, .int .i64 k, .agg #[.int .i64 m0, .int .i64 m1, .int .i64 m2, .int .i64 m3]] w fun e w' => e = .returned (.bool true) ∧ Below w.heap.size w w' := by
 have HG := Lib.hid hG
 have HA := Lib.hid hA
 have HGN := Lib.hid gn
 have HAN := Lib.hid cn
 have gl : gs.length ≤ 9223372036854775807 := by unfold maxLen at gm; omega
 have al : hs.length ≤ 9223372036854775807 := by unfold maxLen at cm; omega
 clear hG hA gn cn gm cm
 cases hgt : greatB gs.length hs.length with
 | true =>
  have HGT := Lib.hid hgt
  clear hgt
  go_enter Try.func4, Try.ntmps4
  go_wp2_with fail
  refine (great_any err miss full emp G A gs.length d hs.length c _ gl al).mono ?_
  rw [HGT.out]
  rintro e wq ⟨rfl, hbq⟩
  have Hgq := Lib.hid (Holds.up (zp4 : Holds _ (w.heap.size) 24 #[.int .i64 err, .int .i64 miss, .slice G gs.length d]) hbq)
  have Hcq := Lib.hid (Holds.up (zp4 : Holds _ (w.heap.size + 1) 27 #[.int .i64 full, .int .i64 emp, .slice A hs.length c]) hbq)
  have Hmq := Lib.hid (Holds.up (zp4 : Holds _ (w.heap.size + 1 + 1) 28 #[.int .i64 m0, .int .i64 m1, .int .i64 m2, .int .i64 m3]) hbq)
  have HSq : Hid (Below w.heap.size w wq) := Lib.hid (Below.trans zg (hbq.mono (by first | exact Nat.le_refl _ | omega | (simp; done) | (simp; omega))))
  have HBq := HSq
  have hsq := HBq.out.size
  have hstq := HSq.out.size
  have HGq := Lib.hid (HG.out.up HSq.out)
  have HAq := Lib.hid (HA.out.up HSq.out)
  clear hbq
  go_wp2_with fail
  refine (awake_any _).mono ?_
  rintro e wz ⟨rfl, hbz⟩
  go_wp2_with fail
  go_ret
  exact ⟨rfl, HBq.out.trans (hbz.mono hsq)⟩
 | false =>
  have HGT := Lib.hid hgt
  obtain ⟨g7, h9⟩ := great_no hgt
  have g7' : gs.length ≤ 1000 := by omega
  have h9' : hs.length ≤ 1000 := by omega
  clear hgt
  obtain ⟨E, hE⟩ : ∃ z, z = bothErr err miss gs full emp hs := ⟨_, rfl⟩
  obtain ⟨eg, heg⟩ : ∃ z, z = gateErr err miss gs := ⟨_, rfl⟩
  obtain ⟨mE, hmE⟩ : ∃ z, z = mixErr m0 m1 m2 m3 := ⟨_, rfl⟩
  obtain ⟨NL, hNL⟩ : ∃ z, z = netOf E (full - emp - 2 * err) := ⟨_, rfl⟩
  obtain ⟨NH, hNH⟩ : ∃ z, z = netOf E (full - emp + 2 * err) := ⟨_, rfl⟩
  obtain ⟨LL, LH, LE, hL⟩ : ∃ a b c, (a, b, c) = letsVal miss E hs i k := ⟨_, _, _, rfl⟩
  obtain ⟨FB, FE, hF⟩ : ∃ a b, (a, b) = fitsVal miss E mE hs m0 m1 m2 m3 := ⟨_, _, rfl⟩
  obtain ⟨HN, HE, hH⟩ : ∃ a b, (a, b) = hasVal eg mE gs m0 m1 m2 m3 := ⟨_, _, rfl⟩
  have QE := Lib.hid hE
  have QG := Lib.hid heg
  have QM := Lib.hid hmE
  have QNL := Lib.hid hNL
  have QNH := Lib.hid hNH
  have QL := Lib.hid hL
  have QF := Lib.hid hF
  have QH := Lib.hid hH
  clear hE heg hmE hNL hNH hL hF hH
  go_enter Try.func4, Try.ntmps4
  go_wp2_with fail
  refine (great_any err miss full emp G A gs.length d hs.length c _ gl al).mono ?_
  rw [HGT.out]
  rintro e wq ⟨rfl, hbq⟩
  have Hgq := Lib.hid (Holds.up (zp4 : Holds _ (w.heap.size) 24 #[.int .i64 err, .int .i64 miss, .slice G gs.length d]) hbq)
  have Hcq := Lib.hid (Holds.up (zp4 : Holds _ (w.heap.size + 1) 27 #[.int .i64 full, .int .i64 emp, .slice A hs.length c]) hbq)
  have Hmq := Lib.hid (Holds.up (zp4 : Holds _ (w.heap.size + 1 + 1) 28 #[.int .i64 m0, .int .i64 m1, .int .i64 m2, .int .i64 m3]) hbq)
  have HSq : Hid (Below w.heap.size w wq) := Lib.hid (Below.trans zg (hbq.mono (by first | exact Nat.le_refl _ | omega | (simp; done) | (simp; omega))))
  have HBq := HSq
  have hsq := HBq.out.size
  have hstq := HSq.out.size
  have HGq := Lib.hid (HG.out.up HSq.out)
  have HAq := Lib.hid (HA.out.up HSq.out)
  clear hbq
  go_wp2_with fail
  rename_i Kc hKc
  have HSL := Lib.hid (show slotsOf [some 36, some 37, some 38, some 39, some 40, some 41, some 42, some 43, some 11, some 12, some 13, some 14, none, none, none, none] = [36, 37, 38, 39, 40, 41, 42, 43, 11, 12, 13, 14] from rfl)
  refine wp_region_partsG (by kernel_rfl) [some 36, some 37, some 38, some 39, some 40, some 41, some 42, some 43, some 11, some 12, some 13, some 14, none, none, none, none] (fun jq xq w' => match jq with
   | 0 => xq 36 = .agg #[.int .i64 err, .int .i64 miss, .slice G gs.length d]
   | 1 => ∃ G1 d1, xq 37 = .agg #[.int .i64 err, .int .i64 miss, .slice G1 gs.length d1] ∧ OwnGrades w' wq.heap.size (.slice G1 gs.length d1) gs
   | 2 => xq 38 = .agg #[.int .i64 full, .int .i64 emp, .slice A hs.length c]
   | 3 => ∃ A1 c1, xq 39 = .agg #[.int .i64 full, .int .i64 emp, .slice A1 hs.length c1] ∧ OwnHands w' wq.heap.size (.slice A1 hs.length c1) hs
   | 4 => xq 40 = .agg #[.int .i64 err, .int .i64 miss, .slice G gs.length d]
   | 5 => ∃ A8 c8, xq 41 = .agg #[.int .i64 err, .int .i64 miss, .slice A8 gs.length c8] ∧ Rowed w' wq.heap.size 139 (.slice A8 gs.length c8) gs.length (gs.flatMap Gr.cells)
   | 6 => xq 42 = .agg #[.int .i64 full, .int .i64 emp, .slice A hs.length c]
   | 7 => ∃ A9 c9, xq 43 = .agg #[.int .i64 full, .int .i64 emp, .slice A9 hs.length c9] ∧ Rowed w' wq.heap.size 42 (.slice A9 hs.length c9) hs.length (hs.flatMap Hf.cells)
   | 8 => ∃ b, xq 11 = .pointer (some ⟨b, 0, none⟩) ∧ wq.heap.size ≤ b ∧ Holds w' b 24 #[.int .i64 0, .int .i64 0, .slice none 0 0]
   | 9 => ∃ b, xq 12 = .pointer (some ⟨b, 0, none⟩) ∧ wq.heap.size ≤ b ∧ Holds w' b 27 #[.int .i64 0, .int .i64 0, .slice none 0 0]
   | 10 => ∃ b, xq 13 = .pointer (some ⟨b, 0, none⟩) ∧ wq.heap.size ≤ b ∧ Holds w' b 49 #[.int .i64 0, .int .i64 0, .slice none 0 0]
   | 11 => ∃ b, xq 14 = .pointer (some ⟨b, 0, none⟩) ∧ wq.heap.size ≤ b ∧ Holds w' b 37 #[.int .i64 0, .int .i64 0, .slice none 0 0]
   | 12 => ∃ b G1 d1, xq 11 = .pointer (some ⟨b, 0, none⟩) ∧ Holds w' b 24 #[.int .i64 err, .int .i64 miss, .slice G1 gs.length d1] ∧ OwnGrades w' wq.heap.size (.slice G1 gs.length d1) gs
   | 13 => ∃ b A1 c1, xq 12 = .pointer (some ⟨b, 0, none⟩) ∧ Holds w' b 27 #[.int .i64 full, .int .i64 emp, .slice A1 hs.length c1] ∧ OwnHands w' wq.heap.size (.slice A1 hs.length c1) hs
   | 14 => ∃ b A8 c8, xq 13 = .pointer (some ⟨b, 0, none⟩) ∧ Holds w' b 49 #[.int .i64 err, .int .i64 miss, .slice A8 gs.length c8] ∧ Rowed w' wq.heap.size 139 (.slice A8 gs.length c8) gs.length (gs.flatMap Gr.cells)
   | 15 => ∃ b A9 c9, xq 14 = .pointer (some ⟨b, 0, none⟩) ∧ Holds w' b 37 #[.int .i64 full, .int .i64 emp, .slice A9 hs.length c9] ∧ Rowed w' wq.heap.size 42 (.slice A9 hs.length c9) hs.length (hs.flatMap Hf.cells)
   | _ => True) [[36], [37], [38], [39], [40], [41], [42], [43], [11], [12], [13], [14], [11], [12], [13], [14]] [(12, 8), (13, 9), (14, 10), (15, 11)] (fun w' => Below wq.heap.size wq w') (by kernel_rfl)  ?_ ?_ (fun w' w'' hb h => h.trans (hb.mono h.size)) (Below.refl _ _) ?_ ?_ ?_
  ·intro jq xq xq' wqq h hv
   match jq, h, hv with
   | 0, h, hv => show xq' 36 = .agg #[.int .i64 err, .int .i64 miss, .slice G gs.length d]; rw [← h 36 (by decide)]; exact hv
   | 1, h, hv => show ∃ G1 d1, xq' 37 = .agg #[.int .i64 err, .int .i64 miss, .slice G1 gs.length d1] ∧ OwnGrades wqq wq.heap.size (.slice G1 gs.length d1) gs; rw [← h 37 (by decide)]; exact hv
   | 2, h, hv => show xq' 38 = .agg #[.int .i64 full, .int .i64 emp, .slice A hs.length c]; rw [← h 38 (by decide)]; exact hv
   | 3, h, hv => show ∃ A1 c1, xq' 39 = .agg #[.int .i64 full, .int .i64 emp, .slice A1 hs.length c1] ∧ OwnHands wqq wq.heap.size (.slice A1 hs.length c1) hs; rw [← h 39 (by decide)]; exact hv
   | 4, h, hv => show xq' 40 = .agg #[.int .i64 err, .int .i64 miss, .slice G gs.length d]; rw [← h 40 (by decide)]; exact hv
   | 5, h, hv => show ∃ A8 c8, xq' 41 = .agg #[.int .i64 err, .int .i64 miss, .slice A8 gs.length c8] ∧ Rowed wqq wq.heap.size 139 (.slice A8 gs.length c8) gs.length (gs.flatMap Gr.cells); rw [← h 41 (by decide)]; exact hv
   | 6, h, hv => show xq' 42 = .agg #[.int .i64 full, .int .i64 emp, .slice A hs.length c]; rw [← h 42 (by decide)]; exact hv
   | 7, h, hv => show ∃ A9 c9, xq' 43 = .agg #[.int .i64 full, .int .i64 emp, .slice A9 hs.length c9] ∧ Rowed wqq wq.heap.size 42 (.slice A9 hs.length c9) hs.length (hs.flatMap Hf.cells); rw [← h 43 (by decide)]; exact hv
   | 8, h, hv => show ∃ b, xq' 11 = .pointer (some ⟨b, 0, none⟩) ∧ wq.heap.size ≤ b ∧ Holds wqq b 24 #[.int .i64 0, .int .i64 0, .slice none 0 0]; rw [← h 11 (by decide)]; exact hv
   | 9, h, hv => show ∃ b, xq' 12 = .pointer (some ⟨b, 0, none⟩) ∧ wq.heap.size ≤ b ∧ Holds wqq b 27 #[.int .i64 0, .int .i64 0, .slice none 0 0]; rw [← h 12 (by decide)]; exact hv
   | 10, h, hv => show ∃ b, xq' 13 = .pointer (some ⟨b, 0, none⟩) ∧ wq.heap.size ≤ b ∧ Holds wqq b 49 #[.int .i64 0, .int .i64 0, .slice none 0 0]; rw [← h 13 (by decide)]; exact hv
   | 11, h, hv => show ∃ b, xq' 14 = .pointer (some ⟨b, 0, none⟩) ∧ wq.heap.size ≤ b ∧ Holds wqq b 37 #[.int .i64 0, .int .i64 0, .slice none 0 0]; rw [← h 14 (by decide)]; exact hv
   | 12, h, hv => show ∃ b G1 d1, xq' 11 = .pointer (some ⟨b, 0, none⟩) ∧ Holds wqq b 24 #[.int .i64 err, .int .i64 miss, .slice G1 gs.length d1] ∧ OwnGrades wqq wq.heap.size (.slice G1 gs.length d1) gs; rw [← h 11 (by decide)]; exact hv
   | 13, h, hv => show ∃ b A1 c1, xq' 12 = .pointer (some ⟨b, 0, none⟩) ∧ Holds wqq b 27 #[.int .i64 full, .int .i64 emp, .slice A1 hs.length c1] ∧ OwnHands wqq wq.heap.size (.slice A1 hs.length c1) hs; rw [← h 12 (by decide)]; exact hv
   | 14, h, hv => show ∃ b A8 c8, xq' 13 = .pointer (some ⟨b, 0, none⟩) ∧ Holds wqq b 49 #[.int .i64 err, .int .i64 miss, .slice A8 gs.length c8] ∧ Rowed wqq wq.heap.size 139 (.slice A8 gs.length c8) gs.length (gs.flatMap Gr.cells); rw [← h 13 (by decide)]; exact hv
   | 15, h, hv => show ∃ b A9 c9, xq' 14 = .pointer (some ⟨b, 0, none⟩) ∧ Holds wqq b 37 #[.int .i64 full, .int .i64 emp, .slice A9 hs.length c9] ∧ Rowed wqq wq.heap.size 42 (.slice A9 hs.length c9) hs.length (hs.flatMap Hf.cells); rw [← h 14 (by decide)]; exact hv
   | _ + 16, _, _ => trivial
  ·intro jq xq wqq w' hb' hv
   match jq, hv with
   | 0, hv => exact hv
   | 1, ⟨b0, b1, h0, h1⟩ => exact ⟨b0, b1, h0, h1.up hb'⟩
   | 2, hv => exact hv
   | 3, ⟨b0, b1, h0, h1⟩ => exact ⟨b0, b1, h0, h1.up hb'⟩
   | 4, hv => exact hv
   | 5, ⟨b0, b1, h0, h1⟩ => exact ⟨b0, b1, h0, h1.up hb'⟩
   | 6, hv => exact hv
   | 7, ⟨b0, b1, h0, h1⟩ => exact ⟨b0, b1, h0, h1.up hb'⟩
   | 8, ⟨b0, h0, h1, h2⟩ => exact ⟨b0, h0, h1, h2.up hb'⟩
   | 9, ⟨b0, h0, h1, h2⟩ => exact ⟨b0, h0, h1, h2.up hb'⟩
   | 10, ⟨b0, h0, h1, h2⟩ => exact ⟨b0, h0, h1, h2.up hb'⟩
   | 11, ⟨b0, h0, h1, h2⟩ => exact ⟨b0, h0, h1, h2.up hb'⟩
   | 12, ⟨b0, b1, b2, h0, h1, h2⟩ => exact ⟨b0, b1, b2, h0, h1.up hb', h2.up hb'⟩
   | 13, ⟨b0, b1, b2, h0, h1, h2⟩ => exact ⟨b0, b1, b2, h0, h1.up hb', h2.up hb'⟩
   | 14, ⟨b0, b1, b2, h0, h1, h2⟩ => exact ⟨b0, b1, b2, h0, h1.up hb', h2.up hb'⟩
   | 15, ⟨b0, b1, b2, h0, h1, h2⟩ => exact ⟨b0, b1, b2, h0, h1.up hb', h2.up hb'⟩
   | _ + 16, _ => trivial
  ·intro jq hj
   match jq, hj with
   | 0, hj => exact absurd hj (by decide)
   | 1, hj => exact absurd hj (by decide)
   | 2, hj => exact absurd hj (by decide)
   | 3, hj => exact absurd hj (by decide)
   | 4, hj => exact absurd hj (by decide)
   | 5, hj => exact absurd hj (by decide)
   | 6, hj => exact absurd hj (by decide)
   | 7, hj => exact absurd hj (by decide)
   | 8, hj => exact absurd hj (by decide)
   | 9, hj => exact absurd hj (by decide)
   | 10, hj => exact absurd hj (by decide)
   | 11, hj => exact absurd hj (by decide)
   | 12, hj => exact absurd hj (by decide)
   | 13, hj => exact absurd hj (by decide)
   | 14, hj => exact absurd hj (by decide)
   | 15, hj => exact absurd hj (by decide)
   | _ + 16, _ => trivial
  ·refine ⟨?_, ?_, ?_, ?_, ?_, ?_, ?_, ?_, ?_, ?_, ?_, ?_, ?_, ?_, ?_, ?_, trivial⟩
   ·intro xq wa hba hx K hK0
    have hK := fun v w' hb => hK0 v w' (.inl hb)
    clear hx hKc hK0
    have kg0' : wa.cell? ⟨w.heap.size, 0, none⟩ = some (.int .i64 err) := (Hgq.out.up hba).cell 0
    have kg1' : wa.cell? ⟨w.heap.size, 1, none⟩ = some (.int .i64 miss) := (Hgq.out.up hba).cell 1
    have kg2' : wa.cell? ⟨w.heap.size, 2, none⟩ = some (.slice G gs.length d) := (Hgq.out.up hba).cell 2
    simp only [frameOf, fill, setSlot, sg, Nat.reduceBEq, if_true, if_false, Nat.reduceAdd, Nat.reduceEqDiff, HSL.out] at hK ⊢
    go_wp2_with (fail)
    exact hK _ _ (Below.refl _ _) rfl
   ·intro xq wa hba hx K hK0
    have hK := fun v w' hb => hK0 v w' (.inl hb)
    have e36 : xq 36 = .agg #[.int .i64 err, .int .i64 miss, .slice G gs.length d] := hx 0 (by rfl) (by rfl)
    clear hx hKc hK0
    simp only [frameOf, fill, setSlot, sg, Nat.reduceBEq, if_true, if_false, Nat.reduceAdd, Nat.reduceEqDiff, HSL.out] at hK ⊢
    simp only [e36] at hK ⊢
    clear e36
    go_wp2_with (go_at_call 17; refine (Own_any err miss G d gs _ (HGq.out.up hba) g7' HGN.out).mono ?_; rintro e w2_ ⟨G1, d1, rfl, hown, _, hb_⟩)
    exact hK _ _ hb_ ⟨_, _, rfl, row5_mono hown hba.size⟩
   ·intro xq wa hba hx K hK0
    have hK := fun v w' hb => hK0 v w' (.inl hb)
    clear hx hKc hK0
    have kc0' : wa.cell? ⟨w.heap.size + 1, 0, none⟩ = some (.int .i64 full) := (Hcq.out.up hba).cell 0
    have kc1' : wa.cell? ⟨w.heap.size + 1, 1, none⟩ = some (.int .i64 emp) := (Hcq.out.up hba).cell 1
    have kc2' : wa.cell? ⟨w.heap.size + 1, 2, none⟩ = some (.slice A hs.length c) := (Hcq.out.up hba).cell 2
    simp only [frameOf, fill, setSlot, sg, Nat.reduceBEq, if_true, if_false, Nat.reduceAdd, Nat.reduceEqDiff, HSL.out] at hK ⊢
    go_wp2_with (fail)
    exact hK _ _ (Below.refl _ _) rfl
   ·intro xq wa hba hx K hK0
    have hK := fun v w' hb => hK0 v w' (.inl hb)
    have e38 : xq 38 = .agg #[.int .i64 full, .int .i64 emp, .slice A hs.length c] := hx 2 (by rfl) (by rfl)
    clear hx hKc hK0
    simp only [frameOf, fill, setSlot, sg, Nat.reduceBEq, if_true, if_false, Nat.reduceAdd, Nat.reduceEqDiff, HSL.out] at hK ⊢
    simp only [e38] at hK ⊢
    clear e38
    go_wp2_with (go_at_call 18; refine (Owned_any full emp A c hs _ (HAq.out.up hba) h9' HAN.out).mono ?_; rintro e w2_ ⟨A1, c1, rfl, hown, _, hb_⟩)
    exact hK _ _ hb_ ⟨_, _, rfl, row5_mono hown hba.size⟩
   ·intro xq wa hba hx K hK0
    have hK := fun v w' hb => hK0 v w' (.inl hb)
    clear hx hKc hK0
    have kg0' : wa.cell? ⟨w.heap.size, 0, none⟩ = some (.int .i64 err) := (Hgq.out.up hba).cell 0
    have kg1' : wa.cell? ⟨w.heap.size, 1, none⟩ = some (.int .i64 miss) := (Hgq.out.up hba).cell 1
    have kg2' : wa.cell? ⟨w.heap.size, 2, none⟩ = some (.slice G gs.length d) := (Hgq.out.up hba).cell 2
    simp only [frameOf, fill, setSlot, sg, Nat.reduceBEq, if_true, if_false, Nat.reduceAdd, Nat.reduceEqDiff, HSL.out] at hK ⊢
    go_wp2_with (fail)
    exact hK _ _ (Below.refl _ _) rfl
   ·intro xq wa hba hx K hK0
    have hK := fun v w' hb => hK0 v w' (.inl hb)
    have e40 : xq 40 = .agg #[.int .i64 err, .int .i64 miss, .slice G gs.length d] := hx 4 (by rfl) (by rfl)
    clear hx hKc hK0
    simp only [frameOf, fill, setSlot, sg, Nat.reduceBEq, if_true, if_false, Nat.reduceAdd, Nat.reduceEqDiff, HSL.out] at hK ⊢
    simp only [e40] at hK ⊢
    clear e40
    go_wp2_with (go_at_call 24; refine (theirs_any err miss G d gs _ (HGq.out.up hba) g7').mono ?_; rintro e w2_ ⟨A8, c8, rfl, hown, hb_⟩)
    exact hK _ _ hb_ ⟨_, _, rfl, row5_mono hown hba.size⟩
   ·intro xq wa hba hx K hK0
    have hK := fun v w' hb => hK0 v w' (.inl hb)
    clear hx hKc hK0
    have kc0' : wa.cell? ⟨w.heap.size + 1, 0, none⟩ = some (.int .i64 full) := (Hcq.out.up hba).cell 0
    have kc1' : wa.cell? ⟨w.heap.size + 1, 1, none⟩ = some (.int .i64 emp) := (Hcq.out.up hba).cell 1
    have kc2' : wa.cell? ⟨w.heap.size + 1, 2, none⟩ = some (.slice A hs.length c) := (Hcq.out.up hba).cell 2
    simp only [frameOf, fill, setSlot, sg, Nat.reduceBEq, if_true, if_false, Nat.reduceAdd, Nat.reduceEqDiff, HSL.out] at hK ⊢
    go_wp2_with (fail)
    exact hK _ _ (Below.refl _ _) rfl
   ·intro xq wa hba hx K hK0
    have hK := fun v w' hb => hK0 v w' (.inl hb)
    have e42 : xq 42 = .agg #[.int .i64 full, .int .i64 emp, .slice A hs.length c] := hx 6 (by rfl) (by rfl)
    clear hx hKc hK0
    simp only [frameOf, fill, setSlot, sg, Nat.reduceBEq, if_true, if_false, Nat.reduceAdd, Nat.reduceEqDiff, HSL.out] at hK ⊢
    simp only [e42] at hK ⊢
    clear e42
    go_wp2_with (go_at_call 20; refine (come_any full emp A c hs _ (HAq.out.up hba) h9').mono ?_; rintro e w2_ ⟨A9, c9, rfl, hown, hb_⟩)
    exact hK _ _ hb_ ⟨_, _, rfl, row5_mono hown hba.size⟩
   ·intro xq wa hba hx K hK0
    have hK := fun v w' hb => hK0 v w' (.inl hb)
    clear hx hKc hK0
    simp only [frameOf, fill, setSlot, sg, Nat.reduceBEq, if_true, if_false, Nat.reduceAdd, Nat.reduceEqDiff, HSL.out] at hK ⊢
    go_wp2_with (fail)
    exact hK _ _ ((Below.refl _ _).alloc (Nat.le_refl _) _) ⟨_, rfl, hba.size, Holds.new _ _ _⟩
   ·intro xq wa hba hx K hK0
    have hK := fun v w' hb => hK0 v w' (.inl hb)
    clear hx hKc hK0
    simp only [frameOf, fill, setSlot, sg, Nat.reduceBEq, if_true, if_false, Nat.reduceAdd, Nat.reduceEqDiff, HSL.out] at hK ⊢
    go_wp2_with (fail)
    exact hK _ _ ((Below.refl _ _).alloc (Nat.le_refl _) _) ⟨_, rfl, hba.size, Holds.new _ _ _⟩
   ·intro xq wa hba hx K hK0
    have hK := fun v w' hb => hK0 v w' (.inl hb)
    clear hx hKc hK0
    simp only [frameOf, fill, setSlot, sg, Nat.reduceBEq, if_true, if_false, Nat.reduceAdd, Nat.reduceEqDiff, HSL.out] at hK ⊢
    go_wp2_with (fail)
    exact hK _ _ ((Below.refl _ _).alloc (Nat.le_refl _) _) ⟨_, rfl, hba.size, Holds.new _ _ _⟩
   ·intro xq wa hba hx K hK0
    have hK := fun v w' hb => hK0 v w' (.inl hb)
    clear hx hKc hK0
    simp only [frameOf, fill, setSlot, sg, Nat.reduceBEq, if_true, if_false, Nat.reduceAdd, Nat.reduceEqDiff, HSL.out] at hK ⊢
    go_wp2_with (fail)
    exact hK _ _ ((Below.refl _ _).alloc (Nat.le_refl _) _) ⟨_, rfl, hba.size, Holds.new _ _ _⟩
   ·intro xq wa hba hx K hK0
    have hK := fun v w' hb => hK0 v w' (.inr hb)
    obtain ⟨G137, d137, e37, f37_0⟩ := hx 1 (by rfl) (by rfl)
    obtain ⟨b11, e11, f11_0, f11_1⟩ := hx 8 (by rfl) (by rfl)
    clear hx hKc hK0
    obtain ⟨kb0, kb1, kb2⟩ := f11_1.c3
    obtain ⟨zb0, zb1, zb2⟩ := f11_1.f3
    simp only [frameOf, fill, setSlot, sg, Nat.reduceBEq, if_true, if_false, Nat.reduceAdd, Nat.reduceEqDiff, HSL.out] at hK ⊢
    have E37 := Lib.hid e37
    have E11 := Lib.hid e11
    simp only [e37, e11] at hK ⊢
    clear e37 e11
    go_wp2_with (fail)
    refine hK undef _ ⟨(by have h := hba; exact zg), ?_⟩ ⟨_, _, _, rfl, Holds.set3 _ _ _ f11_1, row5_set3 f37_0 f11_1 (by decide)⟩
    intro jq xq hd hne hv
    match jq, hd, hne, hv with
    | 0, _, _, hv => exact hv
    | 1, _, _, hv => obtain ⟨a1_, d1_, e1, h1⟩ := hv; exact ⟨a1_, d1_, e1, row5_set3 h1 f11_1 (by decide)⟩
    | 2, _, _, hv => exact hv
    | 3, _, _, hv => obtain ⟨a1_, d1_, e1, h1⟩ := hv; exact ⟨a1_, d1_, e1, row5_set3 h1 f11_1 (by decide)⟩
    | 4, _, _, hv => exact hv
    | 5, _, _, hv => obtain ⟨a1_, d1_, e1, h1⟩ := hv; exact ⟨a1_, d1_, e1, row5_set3 h1 f11_1 (by decide)⟩
    | 6, _, _, hv => exact hv
    | 7, _, _, hv => obtain ⟨a1_, d1_, e1, h1⟩ := hv; exact ⟨a1_, d1_, e1, row5_set3 h1 f11_1 (by decide)⟩
    | 8, hd, _, _ => exact absurd hd (by decide)
    | 9, _, _, hv => obtain ⟨b_, e1, h0, h1⟩ := hv; exact ⟨b_, e1, h0, h1.set3_ne f11_1 (by decide)⟩
    | 10, _, _, hv => obtain ⟨b_, e1, h0, h1⟩ := hv; exact ⟨b_, e1, h0, h1.set3_ne f11_1 (by decide)⟩
    | 11, _, _, hv => obtain ⟨b_, e1, h0, h1⟩ := hv; exact ⟨b_, e1, h0, h1.set3_ne f11_1 (by decide)⟩
    | 12, _, hne, _ => exact absurd rfl hne
    | 13, _, _, hv => obtain ⟨b_, a1_, d1_, e1, h0, h1⟩ := hv; exact ⟨b_, a1_, d1_, e1, h0.set3_ne f11_1 (by decide), row5_set3 h1 f11_1 (by decide)⟩
    | 14, _, _, hv => obtain ⟨b_, a1_, d1_, e1, h0, h1⟩ := hv; exact ⟨b_, a1_, d1_, e1, h0.set3_ne f11_1 (by decide), row5_set3 h1 f11_1 (by decide)⟩
    | 15, _, _, hv => obtain ⟨b_, a1_, d1_, e1, h0, h1⟩ := hv; exact ⟨b_, a1_, d1_, e1, h0.set3_ne f11_1 (by decide), row5_set3 h1 f11_1 (by decide)⟩
    | _ + 16, _, _, _ => trivial
   ·intro xq wa hba hx K hK0
    have hK := fun v w' hb => hK0 v w' (.inr hb)
    obtain ⟨A139, c139, e39, f39_0⟩ := hx 3 (by rfl) (by rfl)
    obtain ⟨b12, e12, f12_0, f12_1⟩ := hx 9 (by rfl) (by rfl)
    clear hx hKc hK0
    obtain ⟨kb0, kb1, kb2⟩ := f12_1.c3
    obtain ⟨zb0, zb1, zb2⟩ := f12_1.f3
    simp only [frameOf, fill, setSlot, sg, Nat.reduceBEq, if_true, if_false, Nat.reduceAdd, Nat.reduceEqDiff, HSL.out] at hK ⊢
    have E39 := Lib.hid e39
    have E12 := Lib.hid e12
    simp only [e39, e12] at hK ⊢
    clear e39 e12
    go_wp2_with (fail)
    refine hK undef _ ⟨(by have h := hba; exact zg), ?_⟩ ⟨_, _, _, rfl, Holds.set3 _ _ _ f12_1, row5_set3 f39_0 f12_1 (by decide)⟩
    intro jq xq hd hne hv
    match jq, hd, hne, hv with
    | 0, _, _, hv => exact hv
    | 1, _, _, hv => obtain ⟨a1_, d1_, e1, h1⟩ := hv; exact ⟨a1_, d1_, e1, row5_set3 h1 f12_1 (by decide)⟩
    | 2, _, _, hv => exact hv
    | 3, _, _, hv => obtain ⟨a1_, d1_, e1, h1⟩ := hv; exact ⟨a1_, d1_, e1, row5_set3 h1 f12_1 (by decide)⟩
    | 4, _, _, hv => exact hv
    | 5, _, _, hv => obtain ⟨a1_, d1_, e1, h1⟩ := hv; exact ⟨a1_, d1_, e1, row5_set3 h1 f12_1 (by decide)⟩
    | 6, _, _, hv => exact hv
    | 7, _, _, hv => obtain ⟨a1_, d1_, e1, h1⟩ := hv; exact ⟨a1_, d1_, e1, row5_set3 h1 f12_1 (by decide)⟩
    | 8, _, _, hv => obtain ⟨b_, e1, h0, h1⟩ := hv; exact ⟨b_, e1, h0, h1.set3_ne f12_1 (by decide)⟩
    | 9, hd, _, _ => exact absurd hd (by decide)
    | 10, _, _, hv => obtain ⟨b_, e1, h0, h1⟩ := hv; exact ⟨b_, e1, h0, h1.set3_ne f12_1 (by decide)⟩
    | 11, _, _, hv => obtain ⟨b_, e1, h0, h1⟩ := hv; exact ⟨b_, e1, h0, h1.set3_ne f12_1 (by decide)⟩
    | 12, _, _, hv => obtain ⟨b_, a1_, d1_, e1, h0, h1⟩ := hv; exact ⟨b_, a1_, d1_, e1, h0.set3_ne f12_1 (by decide), row5_set3 h1 f12_1 (by decide)⟩
    | 13, _, hne, _ => exact absurd rfl hne
    | 14, _, _, hv => obtain ⟨b_, a1_, d1_, e1, h0, h1⟩ := hv; exact ⟨b_, a1_, d1_, e1, h0.set3_ne f12_1 (by decide), row5_set3 h1 f12_1 (by decide)⟩
    | 15, _, _, hv => obtain ⟨b_, a1_, d1_, e1, h0, h1⟩ := hv; exact ⟨b_, a1_, d1_, e1, h0.set3_ne f12_1 (by decide), row5_set3 h1 f12_1 (by decide)⟩
    | _ + 16, _, _, _ => trivial
   ·intro xq wa hba hx K hK0
    have hK := fun v w' hb => hK0 v w' (.inr hb)
    obtain ⟨A841, c841, e41, f41_0⟩ := hx 5 (by rfl) (by rfl)
    obtain ⟨b13, e13, f13_0, f13_1⟩ := hx 10 (by rfl) (by rfl)
    clear hx hKc hK0
    obtain ⟨kb0, kb1, kb2⟩ := f13_1.c3
    obtain ⟨zb0, zb1, zb2⟩ := f13_1.f3
    simp only [frameOf, fill, setSlot, sg, Nat.reduceBEq, if_true, if_false, Nat.reduceAdd, Nat.reduceEqDiff, HSL.out] at hK ⊢
    have E41 := Lib.hid e41
    have E13 := Lib.hid e13
    simp only [e41, e13] at hK ⊢
    clear e41 e13
    go_wp2_with (fail)
    refine hK undef _ ⟨(by have h := hba; exact zg), ?_⟩ ⟨_, _, _, rfl, Holds.set3 _ _ _ f13_1, row5_set3 f41_0 f13_1 (by decide)⟩
    intro jq xq hd hne hv
    match jq, hd, hne, hv with
    | 0, _, _, hv => exact hv
    | 1, _, _, hv => obtain ⟨a1_, d1_, e1, h1⟩ := hv; exact ⟨a1_, d1_, e1, row5_set3 h1 f13_1 (by decide)⟩
    | 2, _, _, hv => exact hv
    | 3, _, _, hv => obtain ⟨a1_, d1_, e1, h1⟩ := hv; exact ⟨a1_, d1_, e1, row5_set3 h1 f13_1 (by decide)⟩
    | 4, _, _, hv => exact hv
    | 5, _, _, hv => obtain ⟨a1_, d1_, e1, h1⟩ := hv; exact ⟨a1_, d1_, e1, row5_set3 h1 f13_1 (by decide)⟩
    | 6, _, _, hv => exact hv
    | 7, _, _, hv => obtain ⟨a1_, d1_, e1, h1⟩ := hv; exact ⟨a1_, d1_, e1, row5_set3 h1 f13_1 (by decide)⟩
    | 8, _, _, hv => obtain ⟨b_, e1, h0, h1⟩ := hv; exact ⟨b_, e1, h0, h1.set3_ne f13_1 (by decide)⟩
    | 9, _, _, hv => obtain ⟨b_, e1, h0, h1⟩ := hv; exact ⟨b_, e1, h0, h1.set3_ne f13_1 (by decide)⟩
    | 10, hd, _, _ => exact absurd hd (by decide)
    | 11, _, _, hv => obtain ⟨b_, e1, h0, h1⟩ := hv; exact ⟨b_, e1, h0, h1.set3_ne f13_1 (by decide)⟩
    | 12, _, _, hv => obtain ⟨b_, a1_, d1_, e1, h0, h1⟩ := hv; exact ⟨b_, a1_, d1_, e1, h0.set3_ne f13_1 (by decide), row5_set3 h1 f13_1 (by decide)⟩
    | 13, _, _, hv => obtain ⟨b_, a1_, d1_, e1, h0, h1⟩ := hv; exact ⟨b_, a1_, d1_, e1, h0.set3_ne f13_1 (by decide), row5_set3 h1 f13_1 (by decide)⟩
    | 14, _, hne, _ => exact absurd rfl hne
    | 15, _, _, hv => obtain ⟨b_, a1_, d1_, e1, h0, h1⟩ := hv; exact ⟨b_, a1_, d1_, e1, h0.set3_ne f13_1 (by decide), row5_set3 h1 f13_1 (by decide)⟩
    | _ + 16, _, _, _ => trivial
   ·intro xq wa hba hx K hK0
    have hK := fun v w' hb => hK0 v w' (.inr hb)
    obtain ⟨A943, c943, e43, f43_0⟩ := hx 7 (by rfl) (by rfl)
    obtain ⟨b14, e14, f14_0, f14_1⟩ := hx 11 (by rfl) (by rfl)
    clear hx hKc hK0
    obtain ⟨kb0, kb1, kb2⟩ := f14_1.c3
    obtain ⟨zb0, zb1, zb2⟩ := f14_1.f3
    simp only [frameOf, fill, setSlot, sg, Nat.reduceBEq, if_true, if_false, Nat.reduceAdd, Nat.reduceEqDiff, HSL.out] at hK ⊢
    have E43 := Lib.hid e43
    have E14 := Lib.hid e14
    simp only [e43, e14] at hK ⊢
    clear e43 e14
    go_wp2_with (fail)
    refine hK undef _ ⟨(by have h := hba; exact zg), ?_⟩ ⟨_, _, _, rfl, Holds.set3 _ _ _ f14_1, row5_set3 f43_0 f14_1 (by decide)⟩
    intro jq xq hd hne hv
    match jq, hd, hne, hv with
    | 0, _, _, hv => exact hv
    | 1, _, _, hv => obtain ⟨a1_, d1_, e1, h1⟩ := hv; exact ⟨a1_, d1_, e1, row5_set3 h1 f14_1 (by decide)⟩
    | 2, _, _, hv => exact hv
    | 3, _, _, hv => obtain ⟨a1_, d1_, e1, h1⟩ := hv; exact ⟨a1_, d1_, e1, row5_set3 h1 f14_1 (by decide)⟩
    | 4, _, _, hv => exact hv
    | 5, _, _, hv => obtain ⟨a1_, d1_, e1, h1⟩ := hv; exact ⟨a1_, d1_, e1, row5_set3 h1 f14_1 (by decide)⟩
    | 6, _, _, hv => exact hv
    | 7, _, _, hv => obtain ⟨a1_, d1_, e1, h1⟩ := hv; exact ⟨a1_, d1_, e1, row5_set3 h1 f14_1 (by decide)⟩
    | 8, _, _, hv => obtain ⟨b_, e1, h0, h1⟩ := hv; exact ⟨b_, e1, h0, h1.set3_ne f14_1 (by decide)⟩
    | 9, _, _, hv => obtain ⟨b_, e1, h0, h1⟩ := hv; exact ⟨b_, e1, h0, h1.set3_ne f14_1 (by decide)⟩
    | 10, _, _, hv => obtain ⟨b_, e1, h0, h1⟩ := hv; exact ⟨b_, e1, h0, h1.set3_ne f14_1 (by decide)⟩
    | 11, hd, _, _ => exact absurd hd (by decide)
    | 12, _, _, hv => obtain ⟨b_, a1_, d1_, e1, h0, h1⟩ := hv; exact ⟨b_, a1_, d1_, e1, h0.set3_ne f14_1 (by decide), row5_set3 h1 f14_1 (by decide)⟩
    | 13, _, _, hv => obtain ⟨b_, a1_, d1_, e1, h0, h1⟩ := hv; exact ⟨b_, a1_, d1_, e1, h0.set3_ne f14_1 (by decide), row5_set3 h1 f14_1 (by decide)⟩
    | 14, _, _, hv => obtain ⟨b_, a1_, d1_, e1, h0, h1⟩ := hv; exact ⟨b_, a1_, d1_, e1, h0.set3_ne f14_1 (by decide), row5_set3 h1 f14_1 (by decide)⟩
    | 15, _, hne, _ => exact absurd rfl hne
    | _ + 16, _, _, _ => trivial
  ·intro xq wa hba hx
   have e36 : xq 36 = .agg #[.int .i64 err, .int .i64 miss, .slice G gs.length d] := hx 0 (by decide)
   obtain ⟨G137, d137, e37, f37_0⟩ := hx 1 (by decide)
   have e38 : xq 38 = .agg #[.int .i64 full, .int .i64 emp, .slice A hs.length c] := hx 2 (by decide)
   obtain ⟨A139, c139, e39, f39_0⟩ := hx 3 (by decide)
   have e40 : xq 40 = .agg #[.int .i64 err, .int .i64 miss, .slice G gs.length d] := hx 4 (by decide)
   obtain ⟨A841, c841, e41, f41_0⟩ := hx 5 (by decide)
   have e42 : xq 42 = .agg #[.int .i64 full, .int .i64 emp, .slice A hs.length c] := hx 6 (by decide)
   obtain ⟨A943, c943, e43, f43_0⟩ := hx 7 (by decide)
   obtain ⟨bn12, G1n12, d1n12, fn12_0, fn12_1, fn12_2⟩ := hx 12 (by decide)
   obtain ⟨bn13, A1n13, c1n13, fn13_0, fn13_1, fn13_2⟩ := hx 13 (by decide)
   obtain ⟨bn14, A8n14, c8n14, fn14_0, fn14_1, fn14_2⟩ := hx 14 (by decide)
   obtain ⟨bn15, A9n15, c9n15, fn15_0, fn15_1, fn15_2⟩ := hx 15 (by decide)
   clear hx
   simp only [frameOf, fill, setSlot, sg, Nat.reduceBEq, if_true, if_false, Nat.reduceAdd, Nat.reduceEqDiff, HSL.out]
   simp only [e36, e37, e38, e39, e40, e41, e42, e43, fn12_0, fn13_0, fn14_0, fn15_0]
   clear e36 e37 e38 e39 e40 e41 e42 e43 fn12_0 fn13_0 fn14_0 fn15_0
   refine hKc _ _ ?_
   have HSa := Lib.hid hba
   have HBa := Lib.hid (HBq.out.trans (hba.mono hsq))
   have hsa := HBa.out.size
   have hsta := hba.size
   have Hgoa := Lib.hid fn12_1
   have Hcoa := Lib.hid fn13_1
   have Hgxa := Lib.hid fn14_1
   have Hcxa := Lib.hid fn15_1
   obtain ⟨_, _, e1, _, hh1⟩ := OwnGrades.at_ fn12_2
   cases e1
   obtain ⟨_, _, e1, _, hh2⟩ := OwnHands.at_ fn13_2
   cases e1
   have HPa := Lib.hid hh1
   have HMa := Lib.hid hh2
   have HXa := Lib.hid (their_at fn14_2)
   have HYa := Lib.hid (rowed_at fn15_2)
   clear fn12_1 fn12_2 fn13_1 fn13_2 fn14_1 fn14_2 fn15_1 fn15_2 hh1 hh2
   have Hga := Lib.hid (Hgq.out.up hba)
   have Hca := Lib.hid (Hcq.out.up hba)
   have Hma := Lib.hid (Hmq.out.up hba)
   have HGa := Lib.hid (HGq.out.up hba)
   have HAa := Lib.hid (HAq.out.up hba)
   clear hba
   obtain ⟨kgx0, kgx1, kgx2⟩ := Hgxa.out.c3
   have lt_gx : bn14 < wa.heap.size := Hgxa.out.lt
   obtain ⟨kcx0, kcx1, kcx2⟩ := Hcxa.out.c3
   have lt_cx : bn15 < wa.heap.size := Hcxa.out.lt
   go_wp2_with fail
   refine (refBoth_any err miss A8n14 c8n14 gs full emp A9n15 c9n15 hs _ (HXa.out.up zg) g7' (HYa.out.up zg) h9').mono ?_
   rw [← QE.out]
   rintro e wb ⟨rfl, hbb⟩
   have Hgb := Lib.hid (Holds.up (by have h := Hga.out; exact zp4 : Holds _ (w.heap.size) 24 #[.int .i64 err, .int .i64 miss, .slice G gs.length d]) hbb)
   have Hcb := Lib.hid (Holds.up (by have h := Hca.out; exact zp4 : Holds _ (w.heap.size + 1) 27 #[.int .i64 full, .int .i64 emp, .slice A hs.length c]) hbb)
   have Hmb := Lib.hid (Holds.up (by have h := Hma.out; exact zp4 : Holds _ (w.heap.size + 1 + 1) 28 #[.int .i64 m0, .int .i64 m1, .int .i64 m2, .int .i64 m3]) hbb)
   have Hgob := Lib.hid (Holds.up (by have h := Hgoa.out; exact zp4 : Holds _ (bn12) 24 #[.int .i64 err, .int .i64 miss, .slice G1n12 gs.length d1n12]) hbb)
   have Hcob := Lib.hid (Holds.up (by have h := Hcoa.out; exact zp4 : Holds _ (bn13) 27 #[.int .i64 full, .int .i64 emp, .slice A1n13 hs.length c1n13]) hbb)
   have Hgxb := Lib.hid (Holds.up (by have h := Hgxa.out; exact zp4 : Holds _ (bn14) 49 #[.int .i64 err, .int .i64 miss, .slice A8n14 gs.length c8n14]) hbb)
   have Hcxb := Lib.hid (Holds.up (by have h := Hcxa.out; exact zp4 : Holds _ (bn15) 37 #[.int .i64 full, .int .i64 emp, .slice A9n15 hs.length c9n15]) hbb)
   have HSb : Hid (Below wa.heap.size wa wb) := Lib.hid (Below.trans zg (hbb.mono (by first | exact Nat.le_refl _ | omega | (simp; done) | (simp; omega))))
   have HBb : Hid (Below w.heap.size w wb) := Lib.hid (HBa.out.trans (HSb.out.mono hsa))
   have hsb := HBb.out.size
   have hstb := HSb.out.size
   have HGb := Lib.hid (HGa.out.up HSb.out)
   have HAb := Lib.hid (HAa.out.up HSb.out)
   have HPb := Lib.hid (HPa.out.up HSb.out)
   have HMb := Lib.hid (HMa.out.up HSb.out)
   have HXb := Lib.hid (HXa.out.up HSb.out)
   have HYb := Lib.hid (HYa.out.up HSb.out)
   clear hbb
   clear kcx0 kcx1 kcx2 lt_cx kgx0 kgx1 kgx2 lt_gx
   obtain ⟨kgx0, kgx1, kgx2⟩ := Hgxb.out.c3
   have lt_gx : bn14 < wb.heap.size := Hgxb.out.lt
   go_wp2_with fail
   refine (refCheck_any err miss A8n14 c8n14 gs _ (HXb.out.up zg) g7').mono ?_
   rw [← QG.out]
   rintro e wd ⟨rfl, hbd⟩
   have Hgd := Lib.hid (Holds.up (by have h := Hgb.out; exact zp4 : Holds _ (w.heap.size) 24 #[.int .i64 err, .int .i64 miss, .slice G gs.length d]) hbd)
   have Hcd := Lib.hid (Holds.up (by have h := Hcb.out; exact zp4 : Holds _ (w.heap.size + 1) 27 #[.int .i64 full, .int .i64 emp, .slice A hs.length c]) hbd)
   have Hmd := Lib.hid (Holds.up (by have h := Hmb.out; exact zp4 : Holds _ (w.heap.size + 1 + 1) 28 #[.int .i64 m0, .int .i64 m1, .int .i64 m2, .int .i64 m3]) hbd)
   have Hgod := Lib.hid (Holds.up (by have h := Hgob.out; exact zp4 : Holds _ (bn12) 24 #[.int .i64 err, .int .i64 miss, .slice G1n12 gs.length d1n12]) hbd)
   have Hcod := Lib.hid (Holds.up (by have h := Hcob.out; exact zp4 : Holds _ (bn13) 27 #[.int .i64 full, .int .i64 emp, .slice A1n13 hs.length c1n13]) hbd)
   have Hgxd := Lib.hid (Holds.up (by have h := Hgxb.out; exact zp4 : Holds _ (bn14) 49 #[.int .i64 err, .int .i64 miss, .slice A8n14 gs.length c8n14]) hbd)
   have Hcxd := Lib.hid (Holds.up (by have h := Hcxb.out; exact zp4 : Holds _ (bn15) 37 #[.int .i64 full, .int .i64 emp, .slice A9n15 hs.length c9n15]) hbd)
   have HSd : Hid (Below wb.heap.size wb wd) := Lib.hid (Below.trans zg (hbd.mono (by first | exact Nat.le_refl _ | omega | (simp; done) | (simp; omega))))
   have HBd : Hid (Below w.heap.size w wd) := Lib.hid (HBb.out.trans (HSd.out.mono hsb))
   have hsd := HBd.out.size
   have hstd := HSd.out.size
   have HGd := Lib.hid (HGb.out.up HSd.out)
   have HAd := Lib.hid (HAb.out.up HSd.out)
   have HPd := Lib.hid (HPb.out.up HSd.out)
   have HMd := Lib.hid (HMb.out.up HSd.out)
   have HXd := Lib.hid (HXb.out.up HSd.out)
   have HYd := Lib.hid (HYb.out.up HSd.out)
   clear hbd
   clear kgx0 kgx1 kgx2 lt_gx
   obtain ⟨kgx0, kgx1, kgx2⟩ := Hgxd.out.c3
   have lt_gx : bn14 < wd.heap.size := Hgxd.out.lt
   obtain ⟨kcx0, kcx1, kcx2⟩ := Hcxd.out.c3
   have lt_cx : bn15 < wd.heap.size := Hcxd.out.lt
   obtain ⟨km0, km1, km2, km3⟩ := Hmd.out.c4
   have lt_m : w.heap.size + 1 + 1 < wd.heap.size := Hmd.out.lt
   obtain ⟨kc0, kc1, kc2⟩ := Hcd.out.c3
   have lt_c : w.heap.size + 1 < wd.heap.size := Hcd.out.lt
   have lt_d1 : ∀ b, b < wd.heap.size → b < wd.heap.size + 1 := fun b h => Nat.lt_succ_of_lt h
   have l1_gx := lt_d1 _ lt_gx
   have l1_cx := lt_d1 _ lt_cx
   have l1_m := lt_d1 _ lt_m
   have l1_c := lt_d1 _ lt_c
   go_upto_if 52 with fail
   go_cut [16, 17, 21, 23] from 51 to 93 (fun s16 s17 s21 s23 wx => s16 = .int .i64 LE ∧ s17 = .int .i64 FE ∧ s21 = .bool FB ∧ Holds wx (wd.heap.size) 60 #[.int .i64 NL, .int .i64 NH] ∧ Holds wx (wd.heap.size + 1) 60 #[.int .i64 LL, .int .i64 LH] ∧ Below wd.heap.size wd wx)
   case first =>
    by_cases hE0 : E = 0
    ·have hE0' := hE0
     subst hE0
     have hq : ((0 : Int) == 0) = true := rfl
     obtain ⟨hg0, hc0⟩ := bothErr_zero QE.out.symm
     obtain ⟨_, r0, r1, i0, i1, _, _⟩ := gateErr_zero hg0
     obtain ⟨h6, f0, f1, e0, e1, ht, hn⟩ := cartErr_zero hc0
     have HT := Lib.hid ht
     have HNN := Lib.hid hn
     have h6' : hs.length ≤ 6 := h6
     clear hg0 hc0 ht hn hE0'
     go_wp2_with fail
     refine (refNet_any err miss A8n14 c8n14 gs full emp A9n15 c9n15 hs _ r0 r1 f0 f1 e0 e1).mono ?_
     rw [← show NL = max 0 (full - emp - 2 * err) from QNL.out, ← show NH = max 0 (full - emp + 2 * err) from QNH.out]
     rintro e wn ⟨rfl, hbn⟩
     have Hgn := Lib.hid (Holds.up (by have h := Hgd.out; exact zp7 : Holds _ (w.heap.size) 24 #[.int .i64 err, .int .i64 miss, .slice G gs.length d]) hbn)
     have Hcn := Lib.hid (Holds.up (by have h := Hcd.out; exact zp7 : Holds _ (w.heap.size + 1) 27 #[.int .i64 full, .int .i64 emp, .slice A hs.length c]) hbn)
     have Hmn := Lib.hid (Holds.up (by have h := Hmd.out; exact zp7 : Holds _ (w.heap.size + 1 + 1) 28 #[.int .i64 m0, .int .i64 m1, .int .i64 m2, .int .i64 m3]) hbn)
     have Hgon := Lib.hid (Holds.up (by have h := Hgod.out; exact zp7 : Holds _ (bn12) 24 #[.int .i64 err, .int .i64 miss, .slice G1n12 gs.length d1n12]) hbn)
     have Hcon := Lib.hid (Holds.up (by have h := Hcod.out; exact zp7 : Holds _ (bn13) 27 #[.int .i64 full, .int .i64 emp, .slice A1n13 hs.length c1n13]) hbn)
     have Hgxn := Lib.hid (Holds.up (by have h := Hgxd.out; exact zp7 : Holds _ (bn14) 49 #[.int .i64 err, .int .i64 miss, .slice A8n14 gs.length c8n14]) hbn)
     have Hcxn := Lib.hid (Holds.up (by have h := Hcxd.out; exact zp7 : Holds _ (bn15) 37 #[.int .i64 full, .int .i64 emp, .slice A9n15 hs.length c9n15]) hbn)
     have Hntn := Lib.hid (Holds.up (zp7 : Holds _ (wd.heap.size) 60 #[.int .i64 0, .int .i64 0]) hbn)
     have Hltn := Lib.hid (Holds.up (zp7 : Holds _ (wd.heap.size + 1) 60 #[.int .i64 0, .int .i64 0]) hbn)
     have HSn : Hid (Below wd.heap.size wd wn) := Lib.hid (Below.trans zg (hbn.mono (by first | exact Nat.le_refl _ | omega | (simp; done) | (simp; omega))))
     have HBn : Hid (Below w.heap.size w wn) := Lib.hid (HBd.out.trans (HSn.out.mono hsd))
     have hsn := HBn.out.size
     have hstn := HSn.out.size
     have HGn := Lib.hid (HGd.out.up HSn.out)
     have HAn := Lib.hid (HAd.out.up HSn.out)
     have HPn := Lib.hid (HPd.out.up HSn.out)
     have HMn := Lib.hid (HMd.out.up HSn.out)
     have HXn := Lib.hid (HXd.out.up HSn.out)
     have HYn := Lib.hid (HYd.out.up HSn.out)
     clear hbn
     clear kgx0 kgx1 kgx2 lt_gx kcx0 kcx1 kcx2 lt_cx km0 km1 km2 km3 lt_m kc0 kc1 kc2 lt_c
     obtain ⟨knt0, knt1⟩ := Hntn.out.c2
     obtain ⟨znt0, znt1⟩ := Hntn.out.f2
     have lt_nt : wd.heap.size < wn.heap.size := Hntn.out.lt
     obtain ⟨klt0, klt1⟩ := Hltn.out.c2
     obtain ⟨zlt0, zlt1⟩ := Hltn.out.f2
     have lt_lt : wd.heap.size + 1 < wn.heap.size := Hltn.out.lt
     obtain ⟨kgx0, kgx1, kgx2⟩ := Hgxn.out.c3
     have lt_gx : bn14 < wn.heap.size := Hgxn.out.lt
     obtain ⟨kcx0, kcx1, kcx2⟩ := Hcxn.out.c3
     have lt_cx : bn15 < wn.heap.size := Hcxn.out.lt
     obtain ⟨km0, km1, km2, km3⟩ := Hmn.out.c4
     have lt_m : w.heap.size + 1 + 1 < wn.heap.size := Hmn.out.lt
     obtain ⟨kc0, kc1, kc2⟩ := Hcn.out.c3
     have lt_c : w.heap.size + 1 < wn.heap.size := Hcn.out.lt
     obtain ⟨bv, hbv⟩ : ∃ z, z = (within i 0 ((hs.length : Int) - 1) && (decide (0 ≤ k) && decide (k ≤ 3))) := ⟨_, rfl⟩
     have QV := Lib.hid hbv
     clear hbv
     go_upto_region 11 with fail
     go_cut [72] from 56 to 71 (fun s72 wx => s72 = .bool bv ∧ Holds wx (wd.heap.size) 60 #[.int .i64 NL, .int .i64 NH] ∧ Holds wx (wd.heap.size + 1) 60 #[.int .i64 0, .int .i64 0] ∧ Below wd.heap.size wd wx)
     case first =>
      by_cases t0 : 0 ≤ i
      ·by_cases t1 : i < hs.length
       ·by_cases t2 : 0 ≤ k
        ·by_cases t3 : k ≤ 3
         ·have hv : bv = true := by rw [QV.out]; simp only [within, Bool.and_eq_true, Bool.and_eq_false_iff, decide_eq_true_eq, decide_eq_false_iff_not]; omega
          have HV := Lib.hid hv
          clear hv
          go_wp2_with fail
          go_meet
          exact ⟨by rw [HV.out], (by have h := Hntn.out; exact zp7), (by have h := Hltn.out; exact zp7), HSn.out.trans (by have h := hstn; (repeat' (first | (with_reducible first | exact Below.refl _ _ | assumption | refine Below.alloc ?_ ?_ _ | refine Below.drew ?_ | refine Below.setCell ?_ ?_ _ | exact Nat.le_refl _) | omega | (simp only [World.size_alloc, World.size_setCell, World.size_drew]; omega) | (simp; omega) | (simp; done))))⟩
         ·have hv : bv = false := by rw [QV.out]; simp only [within, Bool.and_eq_true, Bool.and_eq_false_iff, decide_eq_true_eq, decide_eq_false_iff_not]; omega
          have HV := Lib.hid hv
          clear hv
          go_wp2_with fail
          go_meet
          exact ⟨by rw [HV.out], (by have h := Hntn.out; exact zp7), (by have h := Hltn.out; exact zp7), HSn.out.trans (by have h := hstn; (repeat' (first | (with_reducible first | exact Below.refl _ _ | assumption | refine Below.alloc ?_ ?_ _ | refine Below.drew ?_ | refine Below.setCell ?_ ?_ _ | exact Nat.le_refl _) | omega | (simp only [World.size_alloc, World.size_setCell, World.size_drew]; omega) | (simp; omega) | (simp; done))))⟩
        ·have hv : bv = false := by rw [QV.out]; simp only [within, Bool.and_eq_true, Bool.and_eq_false_iff, decide_eq_true_eq, decide_eq_false_iff_not]; omega
         have HV := Lib.hid hv
         clear hv
         go_wp2_with fail
         go_meet
         exact ⟨by rw [HV.out], (by have h := Hntn.out; exact zp7), (by have h := Hltn.out; exact zp7), HSn.out.trans (by have h := hstn; (repeat' (first | (with_reducible first | exact Below.refl _ _ | assumption | refine Below.alloc ?_ ?_ _ | refine Below.drew ?_ | refine Below.setCell ?_ ?_ _ | exact Nat.le_refl _) | omega | (simp only [World.size_alloc, World.size_setCell, World.size_drew]; omega) | (simp; omega) | (simp; done))))⟩
       ·have hv : bv = false := by rw [QV.out]; simp only [within, Bool.and_eq_true, Bool.and_eq_false_iff, decide_eq_true_eq, decide_eq_false_iff_not]; omega
        have HV := Lib.hid hv
        clear hv
        go_wp2_with fail
        go_meet
        exact ⟨by rw [HV.out], (by have h := Hntn.out; exact zp7), (by have h := Hltn.out; exact zp7), HSn.out.trans (by have h := hstn; (repeat' (first | (with_reducible first | exact Below.refl _ _ | assumption | refine Below.alloc ?_ ?_ _ | refine Below.drew ?_ | refine Below.setCell ?_ ?_ _ | exact Nat.le_refl _) | omega | (simp only [World.size_alloc, World.size_setCell, World.size_drew]; omega) | (simp; omega) | (simp; done))))⟩
      ·have hv : bv = false := by rw [QV.out]; simp only [within, Bool.and_eq_true, Bool.and_eq_false_iff, decide_eq_true_eq, decide_eq_false_iff_not]; omega
       have HV := Lib.hid hv
       clear hv
       go_wp2_with fail
       go_meet
       exact ⟨by rw [HV.out], (by have h := Hntn.out; exact zp7), (by have h := Hltn.out; exact zp7), HSn.out.trans (by have h := hstn; (repeat' (first | (with_reducible first | exact Below.refl _ _ | assumption | refine Below.alloc ?_ ?_ _ | refine Below.drew ?_ | refine Below.setCell ?_ ?_ _ | exact Nat.le_refl _) | omega | (simp only [World.size_alloc, World.size_setCell, World.size_drew]; omega) | (simp; omega) | (simp; done))))⟩
     case rest =>
      rename World => wg
      obtain ⟨rfl, hnt, hlt_, hbg⟩ := hcut
      have HNT0 := Lib.hid hnt
      have HLT0 := Lib.hid hlt_
      have HSg := Lib.hid hbg
      have Hgg := Lib.hid (Hgd.out.up hbg)
      have Hcg := Lib.hid (Hcd.out.up hbg)
      have Hmg := Lib.hid (Hmd.out.up hbg)
      have Hgog := Lib.hid (Hgod.out.up hbg)
      have Hcog := Lib.hid (Hcod.out.up hbg)
      have Hgxg := Lib.hid (Hgxd.out.up hbg)
      have Hcxg := Lib.hid (Hcxd.out.up hbg)
      have HGg := Lib.hid (HGd.out.up hbg)
      have HAg := Lib.hid (HAd.out.up hbg)
      have HPg := Lib.hid (HPd.out.up hbg)
      have HMg := Lib.hid (HMd.out.up hbg)
      have HXg := Lib.hid (HXd.out.up hbg)
      have HYg := Lib.hid (HYd.out.up hbg)
      have hst0 := hbg.size
      clear hnt hlt_ hbg
      clear kgx0 kgx1 kgx2 lt_gx kcx0 kcx1 kcx2 lt_cx km0 km1 km2 km3 lt_m kc0 kc1 kc2 lt_c
      clear knt0 knt1 znt0 znt1 lt_nt klt0 klt1 zlt0 zlt1 lt_lt
      go_upto_if 72 with fail
      go_cut [16, 23] from 73 to 85 (fun s16 s23 wx => s16 = .int .i64 LE ∧ Holds wx (wd.heap.size) 60 #[.int .i64 NL, .int .i64 NH] ∧ Holds wx (wd.heap.size + 1) 60 #[.int .i64 LL, .int .i64 LH] ∧ Below wd.heap.size wd wx)
      case first =>
       cases bv with
       | false =>
        have e1 := QL.out.trans (lets_no (miss := miss) (hs := hs) (i := i) (k := k) QV.out.symm)
        simp only [Prod.mk.injEq] at e1
        obtain ⟨f1, f2, f3⟩ := e1
        have F1 := Lib.hid f1
        have F2 := Lib.hid f2
        have F3 := Lib.hid f3
        clear f1 f2 f3
        go_wp2_with fail
        go_meet
        exact ⟨by rw [F3.out], HNT0.out, (by rw [F1.out, F2.out]; exact HLT0.out), HSg.out⟩
       | true =>
        have hv := QV.out.symm
        simp only [within, Bool.and_eq_true, decide_eq_true_eq] at hv
        obtain ⟨iN, rfl⟩ : ∃ n : Nat, i = (n : Int) := ⟨i.toNat, by omega⟩
        obtain ⟨kN, rfl⟩ : ∃ n : Nat, k = (n : Int) := ⟨k.toNat, by omega⟩
        have hin : iN < hs.length := by omega
        have hk4 : kN < 4 := by omega
        clear hv
        obtain ⟨y, hy⟩ : ∃ y, hs[iN]? = some y := ⟨_, List.getElem?_eq_getElem hin⟩
        have e1 := QL.out.trans (lets_yes (miss := miss) hy hk4)
        have HTY := Lib.hid (HT.out y (List.mem_of_getElem? hy))
        have hny := enough_parts (HNN.out y (List.mem_of_getElem? hy))
        have hn0 : 0 < y.sum := by unfold Hf.sum; omega
        obtain ⟨B, o, rfl, hcell⟩ := HYg.out (by omega)
        obtain ⟨c0, c1, c2, c3, c4⟩ := hcell iN y hy
        clear hcell
        have hres : ∃ fb : Bool, letsRes miss y kN = .tuple #[.agg #[.int .i64 LL, .int .i64 LH], .bool fb] ∧ LE = foundErr fb := lets_res e1
        obtain ⟨fb, hr1, hr2⟩ := hres
        have HR1 := Lib.hid hr1
        have HR2 := Lib.hid hr2
        have HHY := Lib.hid hy
        have lB := World.block_lt_of_cell? wg _ c0
        clear e1 hr1 hr2 hy hny
        have lBd : B < wd.heap.size := row_lt HYd.out HHY.out
        go_wp2_with fail
        rename_i Kc hKc
        have HSL := Lib.hid (show slotsOf [some 74, some 75, some 76, some 77, some 78, some 79, some 80, some 81, some 73, some 82, some 83, none, some 23] = [74, 75, 76, 77, 78, 79, 80, 81, 73, 82, 83, 23] from rfl)
        refine wp_region_partsG (by kernel_rfl) [some 74, some 75, some 76, some 77, some 78, some 79, some 80, some 81, some 73, some 82, some 83, none, some 23] (fun jq xq w' => match jq with
         | 0 => xq 74 = .agg #[.int .i64 err, .int .i64 miss, .slice A8n14 gs.length c8n14]
         | 1 => xq 75 = .pointer (some ⟨bn15, 2, none⟩)
         | 2 => xq 76 = .slice (some ⟨B, o, none⟩) hs.length c9n15
         | 3 => xq 77 = .int .i64 (iN : Int)
         | 4 => xq 78 = .pointer (some ⟨B, o + iN * 5, none⟩)
         | 5 => xq 79 = .agg #[.int .i64 y.spot, .int .i64 y.g0, .int .i64 y.g1, .int .i64 y.g2, .int .i64 y.g3]
         | 6 => xq 80 = .int .i64 (kN : Int)
         | 7 => xq 81 = .tuple #[.agg #[.int .i64 LL, .int .i64 LH], .bool fb]
         | 8 => xq 73 = .tuple #[.agg #[.int .i64 LL, .int .i64 LH], .bool fb]
         | 9 => xq 82 = .agg #[.int .i64 LL, .int .i64 LH]
         | 10 => xq 83 = .bool fb
         | 11 => Holds w' (wd.heap.size + 1) 60 #[.int .i64 LL, .int .i64 LH] ∧ Holds w' (wd.heap.size) 60 #[.int .i64 NL, .int .i64 NH]
         | 12 => xq 23 = .bool fb
         | 13 => Holds w' (wd.heap.size + 1) 60 #[.int .i64 0, .int .i64 0]
         | 14 => Holds w' (wd.heap.size) 60 #[.int .i64 NL, .int .i64 NH]
         | _ => True) [[74], [75], [76], [77], [78], [79], [80], [81], [73], [82], [83], [], [23], [], []] [(11, 13)] (fun w' => Below wd.heap.size wg w') (by kernel_rfl)  ?_ ?_ (fun w' w'' hb h => h.trans (hb.mono (Nat.le_trans hst0 h.size))) (Below.refl _ _) ?_ ?_ ?_
        ·intro jq xq xq' wqq h hv
         match jq, h, hv with
         | 0, h, hv => show xq' 74 = .agg #[.int .i64 err, .int .i64 miss, .slice A8n14 gs.length c8n14]; rw [← h 74 (by decide)]; exact hv
         | 1, h, hv => show xq' 75 = .pointer (some ⟨bn15, 2, none⟩); rw [← h 75 (by decide)]; exact hv
         | 2, h, hv => show xq' 76 = .slice (some ⟨B, o, none⟩) hs.length c9n15; rw [← h 76 (by decide)]; exact hv
         | 3, h, hv => show xq' 77 = .int .i64 (iN : Int); rw [← h 77 (by decide)]; exact hv
         | 4, h, hv => show xq' 78 = .pointer (some ⟨B, o + iN * 5, none⟩); rw [← h 78 (by decide)]; exact hv
         | 5, h, hv => show xq' 79 = .agg #[.int .i64 y.spot, .int .i64 y.g0, .int .i64 y.g1, .int .i64 y.g2, .int .i64 y.g3]; rw [← h 79 (by decide)]; exact hv
         | 6, h, hv => show xq' 80 = .int .i64 (kN : Int); rw [← h 80 (by decide)]; exact hv
         | 7, h, hv => show xq' 81 = .tuple #[.agg #[.int .i64 LL, .int .i64 LH], .bool fb]; rw [← h 81 (by decide)]; exact hv
         | 8, h, hv => show xq' 73 = .tuple #[.agg #[.int .i64 LL, .int .i64 LH], .bool fb]; rw [← h 73 (by decide)]; exact hv
         | 9, h, hv => show xq' 82 = .agg #[.int .i64 LL, .int .i64 LH]; rw [← h 82 (by decide)]; exact hv
         | 10, h, hv => show xq' 83 = .bool fb; rw [← h 83 (by decide)]; exact hv
         | 11, h, hv => exact hv
         | 12, h, hv => show xq' 23 = .bool fb; rw [← h 23 (by decide)]; exact hv
         | 13, h, hv => exact hv
         | 14, h, hv => exact hv
         | _ + 15, _, _ => trivial
        ·intro jq xq wqq w' hb' hv
         match jq, hv with
         | 0, hv => exact hv
         | 1, hv => exact hv
         | 2, hv => exact hv
         | 3, hv => exact hv
         | 4, hv => exact hv
         | 5, hv => exact hv
         | 6, hv => exact hv
         | 7, hv => exact hv
         | 8, hv => exact hv
         | 9, hv => exact hv
         | 10, hv => exact hv
         | 11, ⟨h0, h1⟩ => exact ⟨h0.up hb', h1.up hb'⟩
         | 12, hv => exact hv
         | 13, h0 => exact h0.up hb'
         | 14, h0 => exact h0.up hb'
         | _ + 15, _ => trivial
        ·intro jq hj
         match jq, hj with
         | 0, hj => exact absurd hj (by decide)
         | 1, hj => exact absurd hj (by decide)
         | 2, hj => exact absurd hj (by decide)
         | 3, hj => exact absurd hj (by decide)
         | 4, hj => exact absurd hj (by decide)
         | 5, hj => exact absurd hj (by decide)
         | 6, hj => exact absurd hj (by decide)
         | 7, hj => exact absurd hj (by decide)
         | 8, hj => exact absurd hj (by decide)
         | 9, hj => exact absurd hj (by decide)
         | 10, hj => exact absurd hj (by decide)
         | 11, hj => exact absurd hj (by decide)
         | 12, hj => exact absurd hj (by decide)
         | 13, _ => exact HLT0.out
         | 14, _ => exact HNT0.out
         | _ + 15, _ => trivial
        ·refine ⟨?_, ?_, ?_, ?_, ?_, ?_, ?_, ?_, ?_, ?_, ?_, ?_, ?_, trivial⟩
         ·intro xq wa hba hx K hK0
          have hK := fun v w' hb => hK0 v w' (.inl hb)
          clear hx hKc hK0
          have kgxg0' : wa.cell? ⟨bn14, 0, none⟩ = some (.int .i64 err) := (Hgxg.out.low hba (Hgxd.out.lt)).cell 0
          have kgxg1' : wa.cell? ⟨bn14, 1, none⟩ = some (.int .i64 miss) := (Hgxg.out.low hba (Hgxd.out.lt)).cell 1
          have kgxg2' : wa.cell? ⟨bn14, 2, none⟩ = some (.slice A8n14 gs.length c8n14) := (Hgxg.out.low hba (Hgxd.out.lt)).cell 2
          simp only [frameOf, fill, setSlot, sg, Nat.reduceBEq, if_true, if_false, Nat.reduceAdd, Nat.reduceEqDiff, HSL.out] at hK ⊢
          go_wp2_with (fail)
          exact hK _ _ (Below.refl _ _) rfl
         ·intro xq wa hba hx K hK0
          have hK := fun v w' hb => hK0 v w' (.inl hb)
          clear hx hKc hK0
          simp only [frameOf, fill, setSlot, sg, Nat.reduceBEq, if_true, if_false, Nat.reduceAdd, Nat.reduceEqDiff, HSL.out] at hK ⊢
          go_wp2_with (fail)
          exact hK _ _ (Below.refl _ _) rfl
         ·intro xq wa hba hx K hK0
          have hK := fun v w' hb => hK0 v w' (.inl hb)
          have e75 : xq 75 = .pointer (some ⟨bn15, 2, none⟩) := hx 1 (by rfl) (by rfl)
          clear hx hKc hK0
          have kc2' : wa.cell? ⟨bn15, 2, none⟩ = some (.slice (some ⟨B, o, none⟩) hs.length c9n15) := (Hcxg.out.low hba Hcxd.out.lt).cell 2
          simp only [frameOf, fill, setSlot, sg, Nat.reduceBEq, if_true, if_false, Nat.reduceAdd, Nat.reduceEqDiff, HSL.out] at hK ⊢
          simp only [e75] at hK ⊢
          clear e75
          go_wp2_with (fail)
          exact hK _ _ (Below.refl _ _) rfl
         ·intro xq wa hba hx K hK0
          have hK := fun v w' hb => hK0 v w' (.inl hb)
          clear hx hKc hK0
          simp only [frameOf, fill, setSlot, sg, Nat.reduceBEq, if_true, if_false, Nat.reduceAdd, Nat.reduceEqDiff, HSL.out] at hK ⊢
          go_wp2_with (fail)
          exact hK _ _ (Below.refl _ _) rfl
         ·intro xq wa hba hx K hK0
          have hK := fun v w' hb => hK0 v w' (.inl hb)
          have e76 : xq 76 = .slice (some ⟨B, o, none⟩) hs.length c9n15 := hx 2 (by rfl) (by rfl)
          have e77 : xq 77 = .int .i64 (iN : Int) := hx 3 (by rfl) (by rfl)
          clear hx hKc hK0
          have hki : (iN : Int) < hs.length := by omega
          simp only [frameOf, fill, setSlot, sg, Nat.reduceBEq, if_true, if_false, Nat.reduceAdd, Nat.reduceEqDiff, HSL.out] at hK ⊢
          simp only [e76, e77] at hK ⊢
          clear e76 e77
          go_wp2_with (fail)
          exact hK _ _ (Below.refl _ _) rfl
         ·intro xq wa hba hx K hK0
          have hK := fun v w' hb => hK0 v w' (.inl hb)
          have e78 : xq 78 = .pointer (some ⟨B, o + iN * 5, none⟩) := hx 4 (by rfl) (by rfl)
          clear hx hKc hK0
          have ky0 : wa.cell? ⟨B, o + iN * 5, none⟩ = some (.int .i64 y.spot) := (hba.cell (p := ⟨B, o + iN * 5, none⟩) lBd).trans c0
          have ky1 : wa.cell? ⟨B, o + iN * 5 + 1, none⟩ = some (.int .i64 y.g0) := (hba.cell (p := ⟨B, o + iN * 5 + 1, none⟩) lBd).trans c1
          have ky2 : wa.cell? ⟨B, o + iN * 5 + 2, none⟩ = some (.int .i64 y.g1) := (hba.cell (p := ⟨B, o + iN * 5 + 2, none⟩) lBd).trans c2
          have ky3 : wa.cell? ⟨B, o + iN * 5 + 3, none⟩ = some (.int .i64 y.g2) := (hba.cell (p := ⟨B, o + iN * 5 + 3, none⟩) lBd).trans c3
          have ky4 : wa.cell? ⟨B, o + iN * 5 + 4, none⟩ = some (.int .i64 y.g3) := (hba.cell (p := ⟨B, o + iN * 5 + 4, none⟩) lBd).trans c4
          simp only [frameOf, fill, setSlot, sg, Nat.reduceBEq, if_true, if_false, Nat.reduceAdd, Nat.reduceEqDiff, HSL.out] at hK ⊢
          simp only [e78] at hK ⊢
          clear e78
          go_wp2_with (fail)
          exact hK _ _ (Below.refl _ _) rfl
         ·intro xq wa hba hx K hK0
          have hK := fun v w' hb => hK0 v w' (.inl hb)
          clear hx hKc hK0
          simp only [frameOf, fill, setSlot, sg, Nat.reduceBEq, if_true, if_false, Nat.reduceAdd, Nat.reduceEqDiff, HSL.out] at hK ⊢
          go_wp2_with (fail)
          exact hK _ _ (Below.refl _ _) rfl
         ·intro xq wa hba hx K hK0
          have hK := fun v w' hb => hK0 v w' (.inl hb)
          have e74 : xq 74 = .agg #[.int .i64 err, .int .i64 miss, .slice A8n14 gs.length c8n14] := hx 0 (by rfl) (by rfl)
          have e79 : xq 79 = .agg #[.int .i64 y.spot, .int .i64 y.g0, .int .i64 y.g1, .int .i64 y.g2, .int .i64 y.g3] := hx 5 (by rfl) (by rfl)
          have e80 : xq 80 = .int .i64 (kN : Int) := hx 6 (by rfl) (by rfl)
          clear hx hKc hK0
          simp only [frameOf, fill, setSlot, sg, Nat.reduceBEq, if_true, if_false, Nat.reduceAdd, Nat.reduceEqDiff, HSL.out] at hK ⊢
          simp only [e74, e79, e80] at hK ⊢
          clear e74 e79 e80
          go_wp2_with (go_at_call 32; refine (refLets_any err miss A8n14 gs.length c8n14 y kN hk4 i0 i1 HTY.out hn0 _).mono ?_; rw [HR1.out]; rintro e w2_ ⟨rfl, hb_⟩)
          exact hK _ _ hb_ rfl
         ·intro xq wa hba hx K hK0
          have hK := fun v w' hb => hK0 v w' (.inl hb)
          have e81 : xq 81 = .tuple #[.agg #[.int .i64 LL, .int .i64 LH], .bool fb] := hx 7 (by rfl) (by rfl)
          clear hx hKc hK0
          simp only [frameOf, fill, setSlot, sg, Nat.reduceBEq, if_true, if_false, Nat.reduceAdd, Nat.reduceEqDiff, HSL.out] at hK ⊢
          simp only [e81] at hK ⊢
          clear e81
          go_wp2_with (fail)
          exact hK _ _ (Below.refl _ _) rfl
         ·intro xq wa hba hx K hK0
          have hK := fun v w' hb => hK0 v w' (.inl hb)
          have e73 : xq 73 = .tuple #[.agg #[.int .i64 LL, .int .i64 LH], .bool fb] := hx 8 (by rfl) (by rfl)
          clear hx hKc hK0
          simp only [frameOf, fill, setSlot, sg, Nat.reduceBEq, if_true, if_false, Nat.reduceAdd, Nat.reduceEqDiff, HSL.out] at hK ⊢
          simp only [e73] at hK ⊢
          clear e73
          go_wp2_with (fail)
          exact hK _ _ (Below.refl _ _) rfl
         ·intro xq wa hba hx K hK0
          have hK := fun v w' hb => hK0 v w' (.inl hb)
          have e73 : xq 73 = .tuple #[.agg #[.int .i64 LL, .int .i64 LH], .bool fb] := hx 8 (by rfl) (by rfl)
          clear hx hKc hK0
          simp only [frameOf, fill, setSlot, sg, Nat.reduceBEq, if_true, if_false, Nat.reduceAdd, Nat.reduceEqDiff, HSL.out] at hK ⊢
          simp only [e73] at hK ⊢
          clear e73
          go_wp2_with (fail)
          exact hK _ _ (Below.refl _ _) rfl
         ·intro xq wa hba hx K hK0
          have hK := fun v w' hb => hK0 v w' (.inr hb)
          have e82 : xq 82 = .agg #[.int .i64 LL, .int .i64 LH] := hx 9 (by rfl) (by rfl)
          have fil_0 : Holds wa (wd.heap.size + 1) 60 #[.int .i64 0, .int .i64 0] := hx 13 (by rfl) (by rfl)
          have fin_0 : Holds wa (wd.heap.size) 60 #[.int .i64 NL, .int .i64 NH] := hx 14 (by rfl) (by rfl)
          clear hx hKc hK0
          obtain ⟨kl0, kl1⟩ := fil_0.c2
          obtain ⟨zl0, zl1⟩ := fil_0.f2
          have lw1 := fil_0.lt
          simp only [frameOf, fill, setSlot, sg, Nat.reduceBEq, if_true, if_false, Nat.reduceAdd, Nat.reduceEqDiff, HSL.out] at hK ⊢
          have E82 := Lib.hid e82
          simp only [e82] at hK ⊢
          clear e82
          go_wp2_with (fail)
          refine hK undef _ ⟨(by have h := hba; exact zg), ?_⟩ ⟨(by have h := fil_0; exact zp7), (by have h := fin_0; exact zp7)⟩
          intro jq xq hd hne hv
          match jq, hd, hne, hv with
          | 0, _, _, hv => exact hv
          | 1, _, _, hv => exact hv
          | 2, _, _, hv => exact hv
          | 3, _, _, hv => exact hv
          | 4, _, _, hv => exact hv
          | 5, _, _, hv => exact hv
          | 6, _, _, hv => exact hv
          | 7, _, _, hv => exact hv
          | 8, _, _, hv => exact hv
          | 9, _, _, hv => exact hv
          | 10, _, _, hv => exact hv
          | 11, _, hne, _ => exact absurd rfl hne
          | 12, _, _, hv => exact hv
          | 13, hd, _, _ => exact absurd hd (by decide)
          | 14, _, _, hv => have h : Holds _ _ _ _ := hv; show Holds _ _ _ _; (repeat first | (with_reducible first | assumption | apply Holds.set2 | apply Holds.set4 | apply Holds.putL | ((refine Holds.new' _ _ ?_); (simp; done)) | refine Holds.alloc ?_ _ | refine Holds.drew ?_ | refine Holds.far ?_ (by simp only [ne_eq]; omega) _) | rfl)
          | _ + 15, _, _, _ => trivial
         ·intro xq wa hba hx K hK0
          have hK := fun v w' hb => hK0 v w' (.inl hb)
          have e83 : xq 83 = .bool fb := hx 10 (by rfl) (by rfl)
          clear hx hKc hK0
          simp only [frameOf, fill, setSlot, sg, Nat.reduceBEq, if_true, if_false, Nat.reduceAdd, Nat.reduceEqDiff, HSL.out] at hK ⊢
          simp only [e83] at hK ⊢
          clear e83
          go_wp2_with (fail)
          exact hK _ _ (Below.refl _ _) rfl
        ·intro xq wa hba hx
         have e74 : xq 74 = .agg #[.int .i64 err, .int .i64 miss, .slice A8n14 gs.length c8n14] := hx 0 (by decide)
         have e75 : xq 75 = .pointer (some ⟨bn15, 2, none⟩) := hx 1 (by decide)
         have e76 : xq 76 = .slice (some ⟨B, o, none⟩) hs.length c9n15 := hx 2 (by decide)
         have e77 : xq 77 = .int .i64 (iN : Int) := hx 3 (by decide)
         have e78 : xq 78 = .pointer (some ⟨B, o + iN * 5, none⟩) := hx 4 (by decide)
         have e79 : xq 79 = .agg #[.int .i64 y.spot, .int .i64 y.g0, .int .i64 y.g1, .int .i64 y.g2, .int .i64 y.g3] := hx 5 (by decide)
         have e80 : xq 80 = .int .i64 (kN : Int) := hx 6 (by decide)
         have e81 : xq 81 = .tuple #[.agg #[.int .i64 LL, .int .i64 LH], .bool fb] := hx 7 (by decide)
         have e73 : xq 73 = .tuple #[.agg #[.int .i64 LL, .int .i64 LH], .bool fb] := hx 8 (by decide)
         have e82 : xq 82 = .agg #[.int .i64 LL, .int .i64 LH] := hx 9 (by decide)
         have e83 : xq 83 = .bool fb := hx 10 (by decide)
         obtain ⟨fn11_0, fn11_1⟩ := hx 11 (by decide)
         have e23 : xq 23 = .bool fb := hx 12 (by decide)
         clear hx
         simp only [frameOf, fill, setSlot, sg, Nat.reduceBEq, if_true, if_false, Nat.reduceAdd, Nat.reduceEqDiff, HSL.out]
         simp only [e74, e75, e76, e77, e78, e79, e80, e81, e73, e82, e83, e23]
         clear e74 e75 e76 e77 e78 e79 e80 e81 e73 e82 e83 e23
         refine hKc _ _ ?_
         have HLT1 := Lib.hid fn11_0
         have HNT1 := Lib.hid fn11_1
         have HSR := Lib.hid (HSg.out.trans hba)
         have lrr := HLT1.out.lt
         clear hba fn11_0 fn11_1
         go_wp2_with fail
         refine (refNone_any fb _).mono ?_
         rw [← HR2.out]
         rintro e wr ⟨rfl, hbr⟩
         have HLT2 := Lib.hid (HLT1.out.up hbr)
         have HNT2 := Lib.hid (HNT1.out.up hbr)
         have HSR2 := Lib.hid (HSR.out.trans (hbr.mono (by have := HSR.out.size; omega)))
         clear hbr
         go_wp2_with fail
         go_meet
         exact ⟨rfl, HNT2.out, HLT2.out, HSR2.out⟩
      case rest =>
       rename World => wf
       obtain ⟨rfl, hnt, hlt_, hbf⟩ := hcut
       have Hntf := Lib.hid hnt
       have Hltf := Lib.hid hlt_
       have HSf := Lib.hid hbf
       have Hgf := Lib.hid (Hgd.out.up hbf)
       have Hcf := Lib.hid (Hcd.out.up hbf)
       have Hmf := Lib.hid (Hmd.out.up hbf)
       have Hgof := Lib.hid (Hgod.out.up hbf)
       have Hcof := Lib.hid (Hcod.out.up hbf)
       have Hgxf := Lib.hid (Hgxd.out.up hbf)
       have Hcxf := Lib.hid (Hcxd.out.up hbf)
       have HGf := Lib.hid (HGd.out.up hbf)
       have HAf := Lib.hid (HAd.out.up hbf)
       have HPf := Lib.hid (HPd.out.up hbf)
       have HMf := Lib.hid (HMd.out.up hbf)
       have HXf := Lib.hid (HXd.out.up hbf)
       have HYf := Lib.hid (HYd.out.up hbf)
       clear hnt hlt_ hbf
       have HBf := HSf
       have hsf := HBf.out.size
       have hstf := hsf
       obtain ⟨km0, km1, km2, km3⟩ := Hmf.out.c4
       have lt_m : w.heap.size + 1 + 1 < wf.heap.size := Hmf.out.lt
       obtain ⟨kgx0, kgx1, kgx2⟩ := Hgxf.out.c3
       have lt_gx : bn14 < wf.heap.size := Hgxf.out.lt
       obtain ⟨kcx0, kcx1, kcx2⟩ := Hcxf.out.c3
       have lt_cx : bn15 < wf.heap.size := Hcxf.out.lt
       go_wp2_with fail
       refine (refMixed_any m0 m1 m2 m3 _).mono ?_
       rw [← QM.out]
       rintro e wh ⟨rfl, hbh⟩
       have Hgh := Lib.hid (Holds.up (by have h := Hgf.out; exact zp7 : Holds _ (w.heap.size) 24 #[.int .i64 err, .int .i64 miss, .slice G gs.length d]) hbh)
       have Hch := Lib.hid (Holds.up (by have h := Hcf.out; exact zp7 : Holds _ (w.heap.size + 1) 27 #[.int .i64 full, .int .i64 emp, .slice A hs.length c]) hbh)
       have Hmh := Lib.hid (Holds.up (by have h := Hmf.out; exact zp7 : Holds _ (w.heap.size + 1 + 1) 28 #[.int .i64 m0, .int .i64 m1, .int .i64 m2, .int .i64 m3]) hbh)
       have Hgoh := Lib.hid (Holds.up (by have h := Hgof.out; exact zp7 : Holds _ (bn12) 24 #[.int .i64 err, .int .i64 miss, .slice G1n12 gs.length d1n12]) hbh)
       have Hcoh := Lib.hid (Holds.up (by have h := Hcof.out; exact zp7 : Holds _ (bn13) 27 #[.int .i64 full, .int .i64 emp, .slice A1n13 hs.length c1n13]) hbh)
       have Hgxh := Lib.hid (Holds.up (by have h := Hgxf.out; exact zp7 : Holds _ (bn14) 49 #[.int .i64 err, .int .i64 miss, .slice A8n14 gs.length c8n14]) hbh)
       have Hcxh := Lib.hid (Holds.up (by have h := Hcxf.out; exact zp7 : Holds _ (bn15) 37 #[.int .i64 full, .int .i64 emp, .slice A9n15 hs.length c9n15]) hbh)
       have Hnth := Lib.hid (Holds.up (by have h := Hntf.out; exact zp7 : Holds _ (wd.heap.size) 60 #[.int .i64 NL, .int .i64 NH]) hbh)
       have Hlth := Lib.hid (Holds.up (by have h := Hltf.out; exact zp7 : Holds _ (wd.heap.size + 1) 60 #[.int .i64 LL, .int .i64 LH]) hbh)
       have HSh : Hid (Below wf.heap.size wf wh) := Lib.hid (Below.trans zg (hbh.mono (by first | exact Nat.le_refl _ | omega | (simp; done) | (simp; omega))))
       have HBh : Hid (Below wd.heap.size wd wh) := Lib.hid (HBf.out.trans (HSh.out.mono hsf))
       have hsh := HBh.out.size
       have hsth := HSh.out.size
       have HGh := Lib.hid (HGf.out.up HSh.out)
       have HAh := Lib.hid (HAf.out.up HSh.out)
       have HPh := Lib.hid (HPf.out.up HSh.out)
       have HMh := Lib.hid (HMf.out.up HSh.out)
       have HXh := Lib.hid (HXf.out.up HSh.out)
       have HYh := Lib.hid (HYf.out.up HSh.out)
       clear hbh
       clear km0 km1 km2 km3 lt_m kgx0 kgx1 kgx2 lt_gx kcx0 kcx1 kcx2 lt_cx
       obtain ⟨km0, km1, km2, km3⟩ := Hmh.out.c4
       have lt_m : w.heap.size + 1 + 1 < wh.heap.size := Hmh.out.lt
       obtain ⟨kgx0, kgx1, kgx2⟩ := Hgxh.out.c3
       have lt_gx : bn14 < wh.heap.size := Hgxh.out.lt
       obtain ⟨kcx0, kcx1, kcx2⟩ := Hcxh.out.c3
       have lt_cx : bn15 < wh.heap.size := Hcxh.out.lt
       by_cases hm0 : mE = 0
       ·have hq2 : (mE == 0) = true := by simp [hm0]
        obtain ⟨q0, q1, q2, q3, _⟩ := mix_parts (QM.out.symm.trans hm0)
        have e2 : fitsVal miss 0 mE hs m0 m1 m2 m3 = (hs.all (fitH miss m0 m1 m2 m3), 0) := by unfold fitsVal; rw [if_neg (by simp), if_neg (by simpa using hm0)]
        have e4 := QF.out.trans e2
        simp only [Prod.mk.injEq] at e4
        obtain ⟨f4, f5⟩ := e4
        have F4 := Lib.hid f4
        have F5 := Lib.hid f5
        have QM0 := Lib.hid hm0
        clear e2 f4 f5 hm0
        go_wp2_with fail
        refine (refFits_any err miss A8n14 gs.length c8n14 full emp A9n15 c9n15 hs m0 m1 m2 m3 q0 q1 q2 q3 i0 i1 _ (HYh.out.up zg) h9' HT.out).mono ?_
        rw [← F4.out]
        rintro e wj ⟨rfl, hbj⟩
        have Hgj := Lib.hid (Holds.up (by have h := Hgh.out; exact zp7 : Holds _ (w.heap.size) 24 #[.int .i64 err, .int .i64 miss, .slice G gs.length d]) hbj)
        have Hcj := Lib.hid (Holds.up (by have h := Hch.out; exact zp7 : Holds _ (w.heap.size + 1) 27 #[.int .i64 full, .int .i64 emp, .slice A hs.length c]) hbj)
        have Hmj := Lib.hid (Holds.up (by have h := Hmh.out; exact zp7 : Holds _ (w.heap.size + 1 + 1) 28 #[.int .i64 m0, .int .i64 m1, .int .i64 m2, .int .i64 m3]) hbj)
        have Hgoj := Lib.hid (Holds.up (by have h := Hgoh.out; exact zp7 : Holds _ (bn12) 24 #[.int .i64 err, .int .i64 miss, .slice G1n12 gs.length d1n12]) hbj)
        have Hcoj := Lib.hid (Holds.up (by have h := Hcoh.out; exact zp7 : Holds _ (bn13) 27 #[.int .i64 full, .int .i64 emp, .slice A1n13 hs.length c1n13]) hbj)
        have Hgxj := Lib.hid (Holds.up (by have h := Hgxh.out; exact zp7 : Holds _ (bn14) 49 #[.int .i64 err, .int .i64 miss, .slice A8n14 gs.length c8n14]) hbj)
        have Hcxj := Lib.hid (Holds.up (by have h := Hcxh.out; exact zp7 : Holds _ (bn15) 37 #[.int .i64 full, .int .i64 emp, .slice A9n15 hs.length c9n15]) hbj)
        have Hntj := Lib.hid (Holds.up (by have h := Hnth.out; exact zp7 : Holds _ (wd.heap.size) 60 #[.int .i64 NL, .int .i64 NH]) hbj)
        have Hltj := Lib.hid (Holds.up (by have h := Hlth.out; exact zp7 : Holds _ (wd.heap.size + 1) 60 #[.int .i64 LL, .int .i64 LH]) hbj)
        have HSj : Hid (Below wh.heap.size wh wj) := Lib.hid (Below.trans zg (hbj.mono (by first | exact Nat.le_refl _ | omega | (simp; done) | (simp; omega))))
        have HBj : Hid (Below wd.heap.size wd wj) := Lib.hid (HBh.out.trans (HSj.out.mono hsh))
        have hsj := HBj.out.size
        have hstj := HSj.out.size
        have HGj := Lib.hid (HGh.out.up HSj.out)
        have HAj := Lib.hid (HAh.out.up HSj.out)
        have HPj := Lib.hid (HPh.out.up HSj.out)
        have HMj := Lib.hid (HMh.out.up HSj.out)
        have HXj := Lib.hid (HXh.out.up HSj.out)
        have HYj := Lib.hid (HYh.out.up HSj.out)
        clear hbj
        clear km0 km1 km2 km3 lt_m kgx0 kgx1 kgx2 lt_gx kcx0 kcx1 kcx2 lt_cx
        go_wp2_with fail
        go_meet
        exact ⟨rfl, by rw [F5.out, QM0.out], rfl, Hntj.out, Hltj.out, HBj.out⟩
       ·have hq2 : (mE == 0) = false := by simp [hm0]
        have e2 : fitsVal miss 0 mE hs m0 m1 m2 m3 = (false, mE) := by unfold fitsVal; rw [if_neg (by simp), if_pos hm0]
        have e4 := QF.out.trans e2
        simp only [Prod.mk.injEq] at e4
        obtain ⟨f4, f5⟩ := e4
        have F4 := Lib.hid f4
        have F5 := Lib.hid f5
        clear e2 f4 f5
        go_wp2_with fail
        go_meet
        exact ⟨rfl, by rw [F5.out], by rw [F4.out], Hnth.out, Hlth.out, HBh.out⟩
    ·have hq : (E == 0) = false := by simp [hE0]
     have e1 := lets_bad (miss := miss) (hs := hs) (i := i) (k := k) hE0
     have e2 : fitsVal miss E mE hs m0 m1 m2 m3 = (false, E) := by unfold fitsVal; rw [if_pos hE0]
     have e3 := QL.out.trans e1
     have e4 := QF.out.trans e2
     simp only [Prod.mk.injEq] at e3 e4
     obtain ⟨f1, f2, f3⟩ := e3
     obtain ⟨f4, f5⟩ := e4
     have f6 : NL = 0 := by rw [QNL.out, netOf, if_neg hE0]
     have f7 : NH = 0 := by rw [QNH.out, netOf, if_neg hE0]
     have F1 := Lib.hid f1
     have F2 := Lib.hid f2
     have F3 := Lib.hid f3
     have F4 := Lib.hid f4
     have F5 := Lib.hid f5
     have F6 := Lib.hid f6
     have F7 := Lib.hid f7
     clear e1 e2 f1 f2 f3 f4 f5 f6 f7
     go_wp2_with fail
     go_meet
     exact ⟨by rw [F3.out], by rw [F5.out], by rw [F4.out], (by rw [F6.out, F7.out]; exact zp7), (by rw [F1.out, F2.out]; exact zp7), zg⟩
   case rest =>
    rename World => wu
    obtain ⟨rfl, rfl, rfl, hnt, hlt_, hbu⟩ := hcut
    have Hntu := Lib.hid hnt
    have Hltu := Lib.hid hlt_
    have HSu := Lib.hid hbu
    have HBu := Lib.hid (HBd.out.trans (hbu.mono hsd))
    have hsu := HBu.out.size
    have hstu := hbu.size
    have Hgu := Lib.hid (Hgd.out.up hbu)
    have Hcu := Lib.hid (Hcd.out.up hbu)
    have Hmu := Lib.hid (Hmd.out.up hbu)
    have Hgou := Lib.hid (Hgod.out.up hbu)
    have Hcou := Lib.hid (Hcod.out.up hbu)
    have Hgxu := Lib.hid (Hgxd.out.up hbu)
    have Hcxu := Lib.hid (Hcxd.out.up hbu)
    have HGu := Lib.hid (HGd.out.up hbu)
    have HAu := Lib.hid (HAd.out.up hbu)
    have HPu := Lib.hid (HPd.out.up hbu)
    have HMu := Lib.hid (HMd.out.up hbu)
    have HXu := Lib.hid (HXd.out.up hbu)
    have HYu := Lib.hid (HYd.out.up hbu)
    clear hnt hlt_ hbu lt_d1 l1_gx l1_cx l1_m l1_c
    clear kgx0 kgx1 kgx2 lt_gx kcx0 kcx1 kcx2 lt_cx km0 km1 km2 km3 lt_m kc0 kc1 kc2 lt_c
    obtain ⟨km0, km1, km2, km3⟩ := Hmu.out.c4
    have lt_m : w.heap.size + 1 + 1 < wu.heap.size := Hmu.out.lt
    obtain ⟨kgx0, kgx1, kgx2⟩ := Hgxu.out.c3
    have lt_gx : bn14 < wu.heap.size := Hgxu.out.lt
    go_upto_if 95 with fail
    go_cut [18, 22] from 94 to 102 (fun s18 s22 wx => s18 = .int .i64 HE ∧ s22 = .int .i64 HN ∧ Below wu.heap.size wu wx)
    case first =>
     by_cases hg0 : eg = 0
     ·have hqg : (eg == 0) = true := by simp [hg0]
      have HG0 := Lib.hid hg0
      clear hg0
      have HBU0 : Hid (Below wu.heap.size wu wu) := Lib.hid (Below.refl _ _)
      go_wp2_with fail
      refine (refMixed_any m0 m1 m2 m3 _).mono ?_
      rw [← QM.out]
      rintro e wk ⟨rfl, hbk⟩
      have Hmk := Lib.hid (Hmu.out.up hbk)
      have Hgxk := Lib.hid (Hgxu.out.up hbk)
      have HXk := Lib.hid (HXu.out.up hbk)
      have HBk := Lib.hid hbk
      have hsk := hbk.size
      clear hbk
      clear km0 km1 km2 km3 lt_m kgx0 kgx1 kgx2 lt_gx
      obtain ⟨km0, km1, km2, km3⟩ := Hmk.out.c4
      have lt_m : w.heap.size + 1 + 1 < wk.heap.size := Hmk.out.lt
      obtain ⟨kgx0, kgx1, kgx2⟩ := Hgxk.out.c3
      have lt_gx : bn14 < wk.heap.size := Hgxk.out.lt
      by_cases hm0 : mE = 0
      ·have hq2 : (mE == 0) = true := by simp [hm0]
       have e2 : hasVal eg mE gs m0 m1 m2 m3 = (hasN gs m0 m1 m2 m3, 0) := by unfold hasVal; rw [if_neg (by have h := HG0.out; simpa using h), if_neg (by simpa using hm0)]
       have e4 := QH.out.trans e2
       simp only [Prod.mk.injEq] at e4
       obtain ⟨f4, f5⟩ := e4
       have F4 := Lib.hid f4
       have F5 := Lib.hid f5
       clear e2 f4 f5
       have QM0 := Lib.hid hm0
       clear hm0
       go_wp2_with fail
       refine (refHas_any err miss A8n14 c8n14 gs m0 m1 m2 m3 _ (HXk.out.up zg) g7').mono ?_
       rw [← F4.out]
       rintro e wl ⟨rfl, hbl⟩
       have HBl := Lib.hid (HBk.out.trans (hbl.mono hsk))
       clear hbl
       go_wp2_with fail
       go_meet
       exact ⟨by rw [F5.out, QM0.out], rfl, HBl.out⟩
      ·have hq2 : (mE == 0) = false := by simp [hm0]
       have e2 : hasVal eg mE gs m0 m1 m2 m3 = (0, mE) := by unfold hasVal; rw [if_neg (by have h := HG0.out; simpa using h), if_pos hm0]
       have e4 := QH.out.trans e2
       simp only [Prod.mk.injEq] at e4
       obtain ⟨f4, f5⟩ := e4
       have F4 := Lib.hid f4
       have F5 := Lib.hid f5
       clear e2 f4 f5
       go_wp2_with fail
       go_meet
       exact ⟨by rw [F5.out], by rw [F4.out], HBk.out⟩
     ·have hqg : (eg == 0) = false := by simp [hg0]
      have e2 : hasVal eg mE gs m0 m1 m2 m3 = (0, eg) := by unfold hasVal; rw [if_pos hg0]
      have e4 := QH.out.trans e2
      simp only [Prod.mk.injEq] at e4
      obtain ⟨f4, f5⟩ := e4
      have F4 := Lib.hid f4
      have F5 := Lib.hid f5
      clear e2 f4 f5
      go_wp2_with fail
      go_meet
      exact ⟨by rw [F5.out], by rw [F4.out], Below.refl _ _⟩
    case rest =>
     rename World => wv
     obtain ⟨rfl, rfl, hbv⟩ := hcut
     have HSv := Lib.hid hbv
     have HBv := Lib.hid (HBu.out.trans (hbv.mono hsu))
     have hsv := HBv.out.size
     have hstv := hbv.size
     have Hgv := Lib.hid (Hgu.out.up hbv)
     have Hcv := Lib.hid (Hcu.out.up hbv)
     have Hmv := Lib.hid (Hmu.out.up hbv)
     have Hgov := Lib.hid (Hgou.out.up hbv)
     have Hcov := Lib.hid (Hcou.out.up hbv)
     have Hgxv := Lib.hid (Hgxu.out.up hbv)
     have Hcxv := Lib.hid (Hcxu.out.up hbv)
     have Hntv := Lib.hid (Hntu.out.up hbv)
     have Hltv := Lib.hid (Hltu.out.up hbv)
     have HGv := Lib.hid (HGu.out.up hbv)
     have HAv := Lib.hid (HAu.out.up hbv)
     have HPv := Lib.hid (HPu.out.up hbv)
     have HMv := Lib.hid (HMu.out.up hbv)
     have HXv := Lib.hid (HXu.out.up hbv)
     have HYv := Lib.hid (HYu.out.up hbv)
     clear hbv
     clear km0 km1 km2 km3 lt_m kgx0 kgx1 kgx2 lt_gx
     obtain ⟨kgo0, kgo1, kgo2⟩ := Hgov.out.c3
     have lt_go : bn12 < wv.heap.size := Hgov.out.lt
     obtain ⟨kco0, kco1, kco2⟩ := Hcov.out.c3
     have lt_co : bn13 < wv.heap.size := Hcov.out.lt
     go_wp2_with fail
     refine (Net_tot err miss full emp G1n12 A1n13 d1n12 c1n13 gs hs _ (HPv.out.up zg) g7' (HMv.out.up zg) h9' QE.out QNL.out QNH.out).mono ?_
     rintro e wx ⟨rfl, hbx⟩
     have Hgx := Lib.hid (Holds.up (by have h := Hgv.out; exact zp7 : Holds _ (w.heap.size) 24 #[.int .i64 err, .int .i64 miss, .slice G gs.length d]) hbx)
     have Hcx := Lib.hid (Holds.up (by have h := Hcv.out; exact zp7 : Holds _ (w.heap.size + 1) 27 #[.int .i64 full, .int .i64 emp, .slice A hs.length c]) hbx)
     have Hmx := Lib.hid (Holds.up (by have h := Hmv.out; exact zp7 : Holds _ (w.heap.size + 1 + 1) 28 #[.int .i64 m0, .int .i64 m1, .int .i64 m2, .int .i64 m3]) hbx)
     have Hgox := Lib.hid (Holds.up (by have h := Hgov.out; exact zp7 : Holds _ (bn12) 24 #[.int .i64 err, .int .i64 miss, .slice G1n12 gs.length d1n12]) hbx)
     have Hcox := Lib.hid (Holds.up (by have h := Hcov.out; exact zp7 : Holds _ (bn13) 27 #[.int .i64 full, .int .i64 emp, .slice A1n13 hs.length c1n13]) hbx)
     have Hgxx := Lib.hid (Holds.up (by have h := Hgxv.out; exact zp7 : Holds _ (bn14) 49 #[.int .i64 err, .int .i64 miss, .slice A8n14 gs.length c8n14]) hbx)
     have Hcxx := Lib.hid (Holds.up (by have h := Hcxv.out; exact zp7 : Holds _ (bn15) 37 #[.int .i64 full, .int .i64 emp, .slice A9n15 hs.length c9n15]) hbx)
     have Hntx := Lib.hid (Holds.up (by have h := Hntv.out; exact zp7 : Holds _ (wd.heap.size) 60 #[.int .i64 NL, .int .i64 NH]) hbx)
     have Hltx := Lib.hid (Holds.up (by have h := Hltv.out; exact zp7 : Holds _ (wd.heap.size + 1) 60 #[.int .i64 LL, .int .i64 LH]) hbx)
     have HSx : Hid (Below wv.heap.size wv wx) := Lib.hid (Below.trans zg (hbx.mono (by first | exact Nat.le_refl _ | omega | (simp; done) | (simp; omega))))
     have HBx : Hid (Below w.heap.size w wx) := Lib.hid (HBv.out.trans (HSx.out.mono hsv))
     have hsx := HBx.out.size
     have hstx := HSx.out.size
     have HGx := Lib.hid (HGv.out.up HSx.out)
     have HAx := Lib.hid (HAv.out.up HSx.out)
     have HPx := Lib.hid (HPv.out.up HSx.out)
     have HMx := Lib.hid (HMv.out.up HSx.out)
     have HXx := Lib.hid (HXv.out.up HSx.out)
     have HYx := Lib.hid (HYv.out.up HSx.out)
     clear hbx
     clear kgo0 kgo1 kgo2 lt_go kco0 kco1 kco2 lt_co
     obtain ⟨kgo0, kgo1, kgo2⟩ := Hgox.out.c3
     have lt_go : bn12 < wx.heap.size := Hgox.out.lt
     obtain ⟨kco0, kco1, kco2⟩ := Hcox.out.c3
     have lt_co : bn13 < wx.heap.size := Hcox.out.lt
     have l2_go := Nat.lt_succ_of_lt lt_go
     have l2_co := Nat.lt_succ_of_lt lt_co
     go_wp2_with fail
     refine (Lets_tot err miss full emp G1n12 A1n13 d1n12 c1n13 gs hs i k _ (HPx.out.up zg) g7' (HMx.out.up zg) h9' QE.out QL.out).mono ?_
     rintro e wy ⟨rfl, hby⟩
     have Hgy := Lib.hid (Holds.up (by have h := Hgx.out; exact zp7 : Holds _ (w.heap.size) 24 #[.int .i64 err, .int .i64 miss, .slice G gs.length d]) hby)
     have Hcy := Lib.hid (Holds.up (by have h := Hcx.out; exact zp7 : Holds _ (w.heap.size + 1) 27 #[.int .i64 full, .int .i64 emp, .slice A hs.length c]) hby)
     have Hmy := Lib.hid (Holds.up (by have h := Hmx.out; exact zp7 : Holds _ (w.heap.size + 1 + 1) 28 #[.int .i64 m0, .int .i64 m1, .int .i64 m2, .int .i64 m3]) hby)
     have Hgoy := Lib.hid (Holds.up (by have h := Hgox.out; exact zp7 : Holds _ (bn12) 24 #[.int .i64 err, .int .i64 miss, .slice G1n12 gs.length d1n12]) hby)
     have Hcoy := Lib.hid (Holds.up (by have h := Hcox.out; exact zp7 : Holds _ (bn13) 27 #[.int .i64 full, .int .i64 emp, .slice A1n13 hs.length c1n13]) hby)
     have Hgxy := Lib.hid (Holds.up (by have h := Hgxx.out; exact zp7 : Holds _ (bn14) 49 #[.int .i64 err, .int .i64 miss, .slice A8n14 gs.length c8n14]) hby)
     have Hcxy := Lib.hid (Holds.up (by have h := Hcxx.out; exact zp7 : Holds _ (bn15) 37 #[.int .i64 full, .int .i64 emp, .slice A9n15 hs.length c9n15]) hby)
     have Hnty := Lib.hid (Holds.up (by have h := Hntx.out; exact zp7 : Holds _ (wd.heap.size) 60 #[.int .i64 NL, .int .i64 NH]) hby)
     have Hlty := Lib.hid (Holds.up (by have h := Hltx.out; exact zp7 : Holds _ (wd.heap.size + 1) 60 #[.int .i64 LL, .int .i64 LH]) hby)
     have Hn1y := Lib.hid (Holds.up (zp7 : Holds _ (wx.heap.size) 60 #[.int .i64 NL, .int .i64 NH]) hby)
     have HSy : Hid (Below wx.heap.size wx wy) := Lib.hid (Below.trans zg (hby.mono (by first | exact Nat.le_refl _ | omega | (simp; done) | (simp; omega))))
     have HBy : Hid (Below w.heap.size w wy) := Lib.hid (HBx.out.trans (HSy.out.mono hsx))
     have hsy := HBy.out.size
     have hsty := HSy.out.size
     have HGy := Lib.hid (HGx.out.up HSy.out)
     have HAy := Lib.hid (HAx.out.up HSy.out)
     have HPy := Lib.hid (HPx.out.up HSy.out)
     have HMy := Lib.hid (HMx.out.up HSy.out)
     have HXy := Lib.hid (HXx.out.up HSy.out)
     have HYy := Lib.hid (HYx.out.up HSy.out)
     clear hby
     clear kgo0 kgo1 kgo2 lt_go kco0 kco1 kco2 lt_co
     obtain ⟨kgo0, kgo1, kgo2⟩ := Hgoy.out.c3
     have lt_go : bn12 < wy.heap.size := Hgoy.out.lt
     obtain ⟨kco0, kco1, kco2⟩ := Hcoy.out.c3
     have lt_co : bn13 < wy.heap.size := Hcoy.out.lt
     obtain ⟨km0, km1, km2, km3⟩ := Hmy.out.c4
     have lt_m : w.heap.size + 1 + 1 < wy.heap.size := Hmy.out.lt
     clear l2_go l2_co
     have l2_go := Nat.lt_succ_of_lt lt_go
     have l2_co := Nat.lt_succ_of_lt lt_co
     have l2_m := Nat.lt_succ_of_lt lt_m
     go_wp2_with fail
     refine (Fits_tot err miss full emp G1n12 A1n13 d1n12 c1n13 gs hs m0 m1 m2 m3 _ (HPy.out.up zg) g7' (HMy.out.up zg) h9' QE.out QM.out QF.out).mono ?_
     rintro e wp ⟨rfl, hbp⟩
     have Hgp := Lib.hid (Holds.up (by have h := Hgy.out; exact zp7 : Holds _ (w.heap.size) 24 #[.int .i64 err, .int .i64 miss, .slice G gs.length d]) hbp)
     have Hcp := Lib.hid (Holds.up (by have h := Hcy.out; exact zp7 : Holds _ (w.heap.size + 1) 27 #[.int .i64 full, .int .i64 emp, .slice A hs.length c]) hbp)
     have Hmp := Lib.hid (Holds.up (by have h := Hmy.out; exact zp7 : Holds _ (w.heap.size + 1 + 1) 28 #[.int .i64 m0, .int .i64 m1, .int .i64 m2, .int .i64 m3]) hbp)
     have Hgop := Lib.hid (Holds.up (by have h := Hgoy.out; exact zp7 : Holds _ (bn12) 24 #[.int .i64 err, .int .i64 miss, .slice G1n12 gs.length d1n12]) hbp)
     have Hcop := Lib.hid (Holds.up (by have h := Hcoy.out; exact zp7 : Holds _ (bn13) 27 #[.int .i64 full, .int .i64 emp, .slice A1n13 hs.length c1n13]) hbp)
     have Hgxp := Lib.hid (Holds.up (by have h := Hgxy.out; exact zp7 : Holds _ (bn14) 49 #[.int .i64 err, .int .i64 miss, .slice A8n14 gs.length c8n14]) hbp)
     have Hcxp := Lib.hid (Holds.up (by have h := Hcxy.out; exact zp7 : Holds _ (bn15) 37 #[.int .i64 full, .int .i64 emp, .slice A9n15 hs.length c9n15]) hbp)
     have Hntp := Lib.hid (Holds.up (by have h := Hnty.out; exact zp7 : Holds _ (wd.heap.size) 60 #[.int .i64 NL, .int .i64 NH]) hbp)
     have Hltp := Lib.hid (Holds.up (by have h := Hlty.out; exact zp7 : Holds _ (wd.heap.size + 1) 60 #[.int .i64 LL, .int .i64 LH]) hbp)
     have Hn1p := Lib.hid (Holds.up (by have h := Hn1y.out; exact zp7 : Holds _ (wx.heap.size) 60 #[.int .i64 NL, .int .i64 NH]) hbp)
     have Hl1p := Lib.hid (Holds.up (zp7 : Holds _ (wy.heap.size) 60 #[.int .i64 LL, .int .i64 LH]) hbp)
     have HSp : Hid (Below wy.heap.size wy wp) := Lib.hid (Below.trans zg (hbp.mono (by first | exact Nat.le_refl _ | omega | (simp; done) | (simp; omega))))
     have HBp : Hid (Below w.heap.size w wp) := Lib.hid (HBy.out.trans (HSp.out.mono hsy))
     have hsp := HBp.out.size
     have hstp := HSp.out.size
     have HGp := Lib.hid (HGy.out.up HSp.out)
     have HAp := Lib.hid (HAy.out.up HSp.out)
     have HPp := Lib.hid (HPy.out.up HSp.out)
     have HMp := Lib.hid (HMy.out.up HSp.out)
     have HXp := Lib.hid (HXy.out.up HSp.out)
     have HYp := Lib.hid (HYy.out.up HSp.out)
     clear hbp
     clear kgo0 kgo1 kgo2 lt_go kco0 kco1 kco2 lt_co km0 km1 km2 km3 lt_m
     obtain ⟨kgo0, kgo1, kgo2⟩ := Hgop.out.c3
     have lt_go : bn12 < wp.heap.size := Hgop.out.lt
     obtain ⟨km0, km1, km2, km3⟩ := Hmp.out.c4
     have lt_m : w.heap.size + 1 + 1 < wp.heap.size := Hmp.out.lt
     clear l2_go l2_co l2_m
     go_wp2_with fail
     refine (Has_tot err miss G1n12 d1n12 gs m0 m1 m2 m3 _ (HPp.out.up zg) g7' QG.out QM.out QH.out).mono ?_
     rintro e wr ⟨rfl, hbr⟩
     have Hgr := Lib.hid (Holds.up (by have h := Hgp.out; exact zp7 : Holds _ (w.heap.size) 24 #[.int .i64 err, .int .i64 miss, .slice G gs.length d]) hbr)
     have Hcr := Lib.hid (Holds.up (by have h := Hcp.out; exact zp7 : Holds _ (w.heap.size + 1) 27 #[.int .i64 full, .int .i64 emp, .slice A hs.length c]) hbr)
     have Hmr := Lib.hid (Holds.up (by have h := Hmp.out; exact zp7 : Holds _ (w.heap.size + 1 + 1) 28 #[.int .i64 m0, .int .i64 m1, .int .i64 m2, .int .i64 m3]) hbr)
     have Hgor := Lib.hid (Holds.up (by have h := Hgop.out; exact zp7 : Holds _ (bn12) 24 #[.int .i64 err, .int .i64 miss, .slice G1n12 gs.length d1n12]) hbr)
     have Hcor := Lib.hid (Holds.up (by have h := Hcop.out; exact zp7 : Holds _ (bn13) 27 #[.int .i64 full, .int .i64 emp, .slice A1n13 hs.length c1n13]) hbr)
     have Hgxr := Lib.hid (Holds.up (by have h := Hgxp.out; exact zp7 : Holds _ (bn14) 49 #[.int .i64 err, .int .i64 miss, .slice A8n14 gs.length c8n14]) hbr)
     have Hcxr := Lib.hid (Holds.up (by have h := Hcxp.out; exact zp7 : Holds _ (bn15) 37 #[.int .i64 full, .int .i64 emp, .slice A9n15 hs.length c9n15]) hbr)
     have Hntr := Lib.hid (Holds.up (by have h := Hntp.out; exact zp7 : Holds _ (wd.heap.size) 60 #[.int .i64 NL, .int .i64 NH]) hbr)
     have Hltr := Lib.hid (Holds.up (by have h := Hltp.out; exact zp7 : Holds _ (wd.heap.size + 1) 60 #[.int .i64 LL, .int .i64 LH]) hbr)
     have Hn1r := Lib.hid (Holds.up (by have h := Hn1p.out; exact zp7 : Holds _ (wx.heap.size) 60 #[.int .i64 NL, .int .i64 NH]) hbr)
     have Hl1r := Lib.hid (Holds.up (by have h := Hl1p.out; exact zp7 : Holds _ (wy.heap.size) 60 #[.int .i64 LL, .int .i64 LH]) hbr)
     have HSr : Hid (Below wp.heap.size wp wr) := Lib.hid (Below.trans zg (hbr.mono (by first | exact Nat.le_refl _ | omega | (simp; done) | (simp; omega))))
     have HBr : Hid (Below w.heap.size w wr) := Lib.hid (HBp.out.trans (HSr.out.mono hsp))
     have hsr := HBr.out.size
     have hstr := HSr.out.size
     have HGr := Lib.hid (HGp.out.up HSr.out)
     have HAr := Lib.hid (HAp.out.up HSr.out)
     have HPr := Lib.hid (HPp.out.up HSr.out)
     have HMr := Lib.hid (HMp.out.up HSr.out)
     have HXr := Lib.hid (HXp.out.up HSr.out)
     have HYr := Lib.hid (HYp.out.up HSr.out)
     clear hbr
     clear kgo0 kgo1 kgo2 lt_go km0 km1 km2 km3 lt_m
     obtain ⟨knt0, knt1⟩ := Hntr.out.c2
     have lt_nt : wd.heap.size < wr.heap.size := Hntr.out.lt
     obtain ⟨klt0, klt1⟩ := Hltr.out.c2
     have lt_lt : wd.heap.size + 1 < wr.heap.size := Hltr.out.lt
     obtain ⟨kn10, kn11⟩ := Hn1r.out.c2
     have lt_n1 : wx.heap.size < wr.heap.size := Hn1r.out.lt
     obtain ⟨kl10, kl11⟩ := Hl1r.out.c2
     have lt_l1 : wy.heap.size < wr.heap.size := Hl1r.out.lt
     obtain ⟨kg0, kg1, kg2⟩ := Hgr.out.c3
     have lt_g : w.heap.size < wr.heap.size := Hgr.out.lt
     obtain ⟨kgo0, kgo1, kgo2⟩ := Hgor.out.c3
     have lt_go : bn12 < wr.heap.size := Hgor.out.lt
     have hq1 := fun w => eql_span NL NH NL NH w
     have hq2 := fun w => eql_span LL LH LL LH w
     simp only [beq_self_eq_true, Bool.and_self] at hq1 hq2
     go_wp2_with fail
     refine (same_same err miss G1n12 G d1n12 d gs _ (HPr.out.up zg) (HGr.out.up zg) g7').mono ?_
     rintro e ws ⟨rfl, hbs⟩
     have Hgs := Lib.hid (Holds.up (by have h := Hgr.out; exact zp7 : Holds _ (w.heap.size) 24 #[.int .i64 err, .int .i64 miss, .slice G gs.length d]) hbs)
     have Hcs := Lib.hid (Holds.up (by have h := Hcr.out; exact zp7 : Holds _ (w.heap.size + 1) 27 #[.int .i64 full, .int .i64 emp, .slice A hs.length c]) hbs)
     have Hms := Lib.hid (Holds.up (by have h := Hmr.out; exact zp7 : Holds _ (w.heap.size + 1 + 1) 28 #[.int .i64 m0, .int .i64 m1, .int .i64 m2, .int .i64 m3]) hbs)
     have Hgos := Lib.hid (Holds.up (by have h := Hgor.out; exact zp7 : Holds _ (bn12) 24 #[.int .i64 err, .int .i64 miss, .slice G1n12 gs.length d1n12]) hbs)
     have Hcos := Lib.hid (Holds.up (by have h := Hcor.out; exact zp7 : Holds _ (bn13) 27 #[.int .i64 full, .int .i64 emp, .slice A1n13 hs.length c1n13]) hbs)
     have Hgxs := Lib.hid (Holds.up (by have h := Hgxr.out; exact zp7 : Holds _ (bn14) 49 #[.int .i64 err, .int .i64 miss, .slice A8n14 gs.length c8n14]) hbs)
     have Hcxs := Lib.hid (Holds.up (by have h := Hcxr.out; exact zp7 : Holds _ (bn15) 37 #[.int .i64 full, .int .i64 emp, .slice A9n15 hs.length c9n15]) hbs)
     have Hnts := Lib.hid (Holds.up (by have h := Hntr.out; exact zp7 : Holds _ (wd.heap.size) 60 #[.int .i64 NL, .int .i64 NH]) hbs)
     have Hlts := Lib.hid (Holds.up (by have h := Hltr.out; exact zp7 : Holds _ (wd.heap.size + 1) 60 #[.int .i64 LL, .int .i64 LH]) hbs)
     have Hn1s := Lib.hid (Holds.up (by have h := Hn1r.out; exact zp7 : Holds _ (wx.heap.size) 60 #[.int .i64 NL, .int .i64 NH]) hbs)
     have Hl1s := Lib.hid (Holds.up (by have h := Hl1r.out; exact zp7 : Holds _ (wy.heap.size) 60 #[.int .i64 LL, .int .i64 LH]) hbs)
     have HSs : Hid (Below wr.heap.size wr ws) := Lib.hid (Below.trans zg (hbs.mono (by first | exact Nat.le_refl _ | omega | (simp; done) | (simp; omega))))
     have HBs : Hid (Below w.heap.size w ws) := Lib.hid (HBr.out.trans (HSs.out.mono hsr))
     have hss := HBs.out.size
     have hsts := HSs.out.size
     have HGs := Lib.hid (HGr.out.up HSs.out)
     have HAs := Lib.hid (HAr.out.up HSs.out)
     have HPs := Lib.hid (HPr.out.up HSs.out)
     have HMs := Lib.hid (HMr.out.up HSs.out)
     have HXs := Lib.hid (HXr.out.up HSs.out)
     have HYs := Lib.hid (HYr.out.up HSs.out)
     clear hbs
     clear knt0 knt1 lt_nt klt0 klt1 lt_lt kn10 kn11 lt_n1 kl10 kl11 lt_l1 kg0 kg1 kg2 lt_g kgo0 kgo1 kgo2 lt_go
     obtain ⟨kc0, kc1, kc2⟩ := Hcs.out.c3
     have lt_c : w.heap.size + 1 < ws.heap.size := Hcs.out.lt
     obtain ⟨kco0, kco1, kco2⟩ := Hcos.out.c3
     have lt_co : bn13 < ws.heap.size := Hcos.out.lt
     go_wp2_with fail
     refine (alike_same full emp A1n13 A c1n13 c hs _ (HMs.out.up zg) (HAs.out.up zg) h9').mono ?_
     rintro e wt ⟨rfl, hbt⟩
     have Hgt := Lib.hid (Holds.up (by have h := Hgs.out; exact zp7 : Holds _ (w.heap.size) 24 #[.int .i64 err, .int .i64 miss, .slice G gs.length d]) hbt)
     have Hct := Lib.hid (Holds.up (by have h := Hcs.out; exact zp7 : Holds _ (w.heap.size + 1) 27 #[.int .i64 full, .int .i64 emp, .slice A hs.length c]) hbt)
     have Hmt := Lib.hid (Holds.up (by have h := Hms.out; exact zp7 : Holds _ (w.heap.size + 1 + 1) 28 #[.int .i64 m0, .int .i64 m1, .int .i64 m2, .int .i64 m3]) hbt)
     have Hgot := Lib.hid (Holds.up (by have h := Hgos.out; exact zp7 : Holds _ (bn12) 24 #[.int .i64 err, .int .i64 miss, .slice G1n12 gs.length d1n12]) hbt)
     have Hcot := Lib.hid (Holds.up (by have h := Hcos.out; exact zp7 : Holds _ (bn13) 27 #[.int .i64 full, .int .i64 emp, .slice A1n13 hs.length c1n13]) hbt)
     have Hgxt := Lib.hid (Holds.up (by have h := Hgxs.out; exact zp7 : Holds _ (bn14) 49 #[.int .i64 err, .int .i64 miss, .slice A8n14 gs.length c8n14]) hbt)
     have Hcxt := Lib.hid (Holds.up (by have h := Hcxs.out; exact zp7 : Holds _ (bn15) 37 #[.int .i64 full, .int .i64 emp, .slice A9n15 hs.length c9n15]) hbt)
     have Hntt := Lib.hid (Holds.up (by have h := Hnts.out; exact zp7 : Holds _ (wd.heap.size) 60 #[.int .i64 NL, .int .i64 NH]) hbt)
     have Hltt := Lib.hid (Holds.up (by have h := Hlts.out; exact zp7 : Holds _ (wd.heap.size + 1) 60 #[.int .i64 LL, .int .i64 LH]) hbt)
     have Hn1t := Lib.hid (Holds.up (by have h := Hn1s.out; exact zp7 : Holds _ (wx.heap.size) 60 #[.int .i64 NL, .int .i64 NH]) hbt)
     have Hl1t := Lib.hid (Holds.up (by have h := Hl1s.out; exact zp7 : Holds _ (wy.heap.size) 60 #[.int .i64 LL, .int .i64 LH]) hbt)
     have HSt : Hid (Below ws.heap.size ws wt) := Lib.hid (Below.trans zg (hbt.mono (by first | exact Nat.le_refl _ | omega | (simp; done) | (simp; omega))))
     have HBt : Hid (Below w.heap.size w wt) := Lib.hid (HBs.out.trans (HSt.out.mono hss))
     have hst := HBt.out.size
     have hstt := HSt.out.size
     have HGt := Lib.hid (HGs.out.up HSt.out)
     have HAt := Lib.hid (HAs.out.up HSt.out)
     have HPt := Lib.hid (HPs.out.up HSt.out)
     have HMt := Lib.hid (HMs.out.up HSt.out)
     have HXt := Lib.hid (HXs.out.up HSt.out)
     have HYt := Lib.hid (HYs.out.up HSt.out)
     clear hbt
     clear kc0 kc1 kc2 lt_c kco0 kco1 kco2 lt_co
     go_wp2_with fail
     refine (awake_any _).mono ?_
     rintro e wz ⟨rfl, hbz⟩
     go_wp2_with fail
     go_ret
     exact ⟨rfl, HBt.out.trans (hbz.mono hst)⟩
end Go.Proofs.Ytifffonoipapgaa
