
import Derived.Test.YtifffonoipapgaaLAA
import Derived.Test.YtifffonoipapgaaBAC
import Derived.Test.YtifffonoipapgaaBAV
import Derived.Test.YtifffonoipapgaaBBF
import Derived.Test.YtifffonoipapgaaBBH
import Derived.Test.YtifffonoipapgaaBCA
set_option linter.unusedSimpArgs false
set_option linter.unusedVariables false
namespace Go.Proofs.Ytifffonoipapgaa
open Go.RowKit
set_option maxRecDepth 100000 in
set_option maxHeartbeats 16000000 in
theorem GateBounds_any (err miss full emp : Int) (G : Option Addr) (d : Nat) (gs : List Gr) (A : Option Addr) (c : Nat) (hs : List Hf) (k : Int) (w : World) (gd : gs.length ≤ d) (gm : d ≤ maxLen) (hG : GradesAt w G gs) (gn : G = none → gs.length = 0 ∧ d = 0) (cd : hs.length ≤ c) (cm : c ≤ maxLen) (hA : HandsAt w A hs) (cn : A = none → hs.length = 0 ∧ c = 0) :
  Calls Try.prog 5 #[.agg #[.int .i64 err, .int .i64 miss, .slice G gs.length d], .agg #[.int .i64 full, .int .i64 emp, .slice A hs.length c], .int .i64 k] w fun e w' => e = .returned (.bool true) ∧ Below w.heap.size w w' := by
 have HG := Lib.hid hG
 have HA := Lib.hid hA
 have HGN := Lib.hid gn
 have HAN := Lib.hid cn
 have gl : gs.length ≤ 9223372036854775807 := by unfold maxLen at gm; omega
 have al : hs.length ≤ 9223372036854775807 := by unfold maxLen at cm; omega
 clear hG hA gn cn gm cm
 cases hgt : greatB gs.length hs.length with
 | true =>
  have HGT := Lib.hid hgt
  clear hgt
  go_enter Try.func5, Try.ntmps5
  go_wp2_with fail
  refine (great_any err miss full emp G A gs.length d hs.length c _ gl al).mono ?_
  rw [HGT.out]
  rintro e wq ⟨rfl, hbq⟩
  have Hgq := Lib.hid (Holds.up (zp4 : Holds _ (w.heap.size) 24 #[.int .i64 err, .int .i64 miss, .slice G gs.length d]) hbq)
  have Hcq := Lib.hid (Holds.up (zp4 : Holds _ (w.heap.size + 1) 27 #[.int .i64 full, .int .i64 emp, .slice A hs.length c]) hbq)
  have HSq : Hid (Below w.heap.size w wq) := Lib.hid (Below.trans zg (hbq.mono (by first | exact Nat.le_refl _ | omega | (simp; done) | (simp; omega))))
  have HBq := HSq
  have hsq := HBq.out.size
  have hstq := HSq.out.size
  have HGq := Lib.hid (HG.out.up HSq.out)
  have HAq := Lib.hid (HA.out.up HSq.out)
  clear hbq
  go_wp2_with fail
  refine (awake_any _).mono ?_
  rintro e wz ⟨rfl, hbz⟩
  go_wp2_with fail
  go_ret
  exact ⟨rfl, HBq.out.trans (hbz.mono hsq)⟩
 | false =>
  have HGT := Lib.hid hgt
  obtain ⟨g7, h9⟩ := great_no hgt
  have g7' : gs.length ≤ 1000 := by omega
  have h9' : hs.length ≤ 1000 := by omega
  clear hgt
  obtain ⟨E, hE⟩ : ∃ z, z = bothErr err miss gs full emp hs := ⟨_, rfl⟩
  obtain ⟨B, hB⟩ : ∃ z, z = boundsOf miss (fun _ => true) hs := ⟨_, rfl⟩
  obtain ⟨W, hW⟩ : ∃ z, z = boundErr E B := ⟨_, rfl⟩
  obtain ⟨U, hU⟩ : ∃ z, z = weighErr E k B := ⟨_, rfl⟩
  obtain ⟨Z, hZ⟩ : ∃ z, z = boxIf W B := ⟨_, rfl⟩
  obtain ⟨NL, hNL⟩ : ∃ z, z = netOf E (full - emp - 2 * err) := ⟨_, rfl⟩
  obtain ⟨NH, hNH⟩ : ∃ z, z = netOf E (full - emp + 2 * err) := ⟨_, rfl⟩
  obtain ⟨WL, hWL⟩ : ∃ z, z = zIf U (NL * kLo B k / 40) := ⟨_, rfl⟩
  obtain ⟨WH, hWH⟩ : ∃ z, z = zIf U (NH * kHi B k / 40) := ⟨_, rfl⟩
  obtain ⟨M0, hM0⟩ : ∃ z, z = zIf W (B.l0 + B.t0) := ⟨_, rfl⟩
  obtain ⟨M1, hM1⟩ : ∃ z, z = zIf W (B.l1 + B.t1) := ⟨_, rfl⟩
  obtain ⟨M2, hM2⟩ : ∃ z, z = zIf W (B.l2 + B.t2) := ⟨_, rfl⟩
  obtain ⟨M3, hM3⟩ : ∃ z, z = zIf W (B.l3 + B.t3) := ⟨_, rfl⟩
  have QE := Lib.hid hE
  have QB := Lib.hid hB
  have QW := Lib.hid hW
  have QU := Lib.hid hU
  have QZ := Lib.hid hZ
  have QNL := Lib.hid hNL
  have QNH := Lib.hid hNH
  have QWL := Lib.hid hWL
  have QWH := Lib.hid hWH
  have QM0 := Lib.hid hM0
  have QM1 := Lib.hid hM1
  have QM2 := Lib.hid hM2
  have QM3 := Lib.hid hM3
  clear hE hB hW hU hZ hNL hNH hWL hWH hM0 hM1 hM2 hM3
  go_enter Try.func5, Try.ntmps5
  go_wp2_with fail
  refine (great_any err miss full emp G A gs.length d hs.length c _ gl al).mono ?_
  rw [HGT.out]
  rintro e wq ⟨rfl, hbq⟩
  have Hgq := Lib.hid (Holds.up (zp4 : Holds _ (w.heap.size) 24 #[.int .i64 err, .int .i64 miss, .slice G gs.length d]) hbq)
  have Hcq := Lib.hid (Holds.up (zp4 : Holds _ (w.heap.size + 1) 27 #[.int .i64 full, .int .i64 emp, .slice A hs.length c]) hbq)
  have HSq : Hid (Below w.heap.size w wq) := Lib.hid (Below.trans zg (hbq.mono (by first | exact Nat.le_refl _ | omega | (simp; done) | (simp; omega))))
  have HBq := HSq
  have hsq := HBq.out.size
  have hstq := HSq.out.size
  have HGq := Lib.hid (HG.out.up HSq.out)
  have HAq := Lib.hid (HA.out.up HSq.out)
  clear hbq
  go_wp2_with fail
  rename_i Kc hKc
  have HSL := Lib.hid (show slotsOf [some 27, some 28, some 29, some 30, some 31, some 32, some 33, some 34, some 7, some 8, some 9, some 10, none, none, none, none] = [27, 28, 29, 30, 31, 32, 33, 34, 7, 8, 9, 10] from rfl)
  refine wp_region_partsG (by kernel_rfl) [some 27, some 28, some 29, some 30, some 31, some 32, some 33, some 34, some 7, some 8, some 9, some 10, none, none, none, none] (fun jq xq w' => match jq with
   | 0 => xq 27 = .agg #[.int .i64 err, .int .i64 miss, .slice G gs.length d]
   | 1 => ∃ G1 d1, xq 28 = .agg #[.int .i64 err, .int .i64 miss, .slice G1 gs.length d1] ∧ OwnGrades w' wq.heap.size (.slice G1 gs.length d1) gs
   | 2 => xq 29 = .agg #[.int .i64 full, .int .i64 emp, .slice A hs.length c]
   | 3 => ∃ A1 c1, xq 30 = .agg #[.int .i64 full, .int .i64 emp, .slice A1 hs.length c1] ∧ OwnHands w' wq.heap.size (.slice A1 hs.length c1) hs
   | 4 => xq 31 = .agg #[.int .i64 err, .int .i64 miss, .slice G gs.length d]
   | 5 => ∃ A8 c8, xq 32 = .agg #[.int .i64 err, .int .i64 miss, .slice A8 gs.length c8] ∧ Rowed w' wq.heap.size 139 (.slice A8 gs.length c8) gs.length (gs.flatMap Gr.cells)
   | 6 => xq 33 = .agg #[.int .i64 full, .int .i64 emp, .slice A hs.length c]
   | 7 => ∃ A9 c9, xq 34 = .agg #[.int .i64 full, .int .i64 emp, .slice A9 hs.length c9] ∧ Rowed w' wq.heap.size 42 (.slice A9 hs.length c9) hs.length (hs.flatMap Hf.cells)
   | 8 => ∃ b, xq 7 = .pointer (some ⟨b, 0, none⟩) ∧ wq.heap.size ≤ b ∧ Holds w' b 24 #[.int .i64 0, .int .i64 0, .slice none 0 0]
   | 9 => ∃ b, xq 8 = .pointer (some ⟨b, 0, none⟩) ∧ wq.heap.size ≤ b ∧ Holds w' b 27 #[.int .i64 0, .int .i64 0, .slice none 0 0]
   | 10 => ∃ b, xq 9 = .pointer (some ⟨b, 0, none⟩) ∧ wq.heap.size ≤ b ∧ Holds w' b 49 #[.int .i64 0, .int .i64 0, .slice none 0 0]
   | 11 => ∃ b, xq 10 = .pointer (some ⟨b, 0, none⟩) ∧ wq.heap.size ≤ b ∧ Holds w' b 37 #[.int .i64 0, .int .i64 0, .slice none 0 0]
   | 12 => ∃ b G1 d1, xq 7 = .pointer (some ⟨b, 0, none⟩) ∧ Holds w' b 24 #[.int .i64 err, .int .i64 miss, .slice G1 gs.length d1] ∧ OwnGrades w' wq.heap.size (.slice G1 gs.length d1) gs
   | 13 => ∃ b A1 c1, xq 8 = .pointer (some ⟨b, 0, none⟩) ∧ Holds w' b 27 #[.int .i64 full, .int .i64 emp, .slice A1 hs.length c1] ∧ OwnHands w' wq.heap.size (.slice A1 hs.length c1) hs
   | 14 => ∃ b A8 c8, xq 9 = .pointer (some ⟨b, 0, none⟩) ∧ Holds w' b 49 #[.int .i64 err, .int .i64 miss, .slice A8 gs.length c8] ∧ Rowed w' wq.heap.size 139 (.slice A8 gs.length c8) gs.length (gs.flatMap Gr.cells)
   | 15 => ∃ b A9 c9, xq 10 = .pointer (some ⟨b, 0, none⟩) ∧ Holds w' b 37 #[.int .i64 full, .int .i64 emp, .slice A9 hs.length c9] ∧ Rowed w' wq.heap.size 42 (.slice A9 hs.length c9) hs.length (hs.flatMap Hf.cells)
   | _ => True) [[27], [28], [29], [30], [31], [32], [33], [34], [7], [8], [9], [10], [7], [8], [9], [10]] [(12, 8), (13, 9), (14, 10), (15, 11)] (fun w' => Below wq.heap.size wq w') (by kernel_rfl)  ?_ ?_ (fun w' w'' hb h => h.trans (hb.mono h.size)) (Below.refl _ _) ?_ ?_ ?_
  ·intro jq xq xq' wqq h hv
   match jq, h, hv with
   | 0, h, hv => show xq' 27 = .agg #[.int .i64 err, .int .i64 miss, .slice G gs.length d]; rw [← h 27 (by decide)]; exact hv
   | 1, h, hv => show ∃ G1 d1, xq' 28 = .agg #[.int .i64 err, .int .i64 miss, .slice G1 gs.length d1] ∧ OwnGrades wqq wq.heap.size (.slice G1 gs.length d1) gs; rw [← h 28 (by decide)]; exact hv
   | 2, h, hv => show xq' 29 = .agg #[.int .i64 full, .int .i64 emp, .slice A hs.length c]; rw [← h 29 (by decide)]; exact hv
   | 3, h, hv => show ∃ A1 c1, xq' 30 = .agg #[.int .i64 full, .int .i64 emp, .slice A1 hs.length c1] ∧ OwnHands wqq wq.heap.size (.slice A1 hs.length c1) hs; rw [← h 30 (by decide)]; exact hv
   | 4, h, hv => show xq' 31 = .agg #[.int .i64 err, .int .i64 miss, .slice G gs.length d]; rw [← h 31 (by decide)]; exact hv
   | 5, h, hv => show ∃ A8 c8, xq' 32 = .agg #[.int .i64 err, .int .i64 miss, .slice A8 gs.length c8] ∧ Rowed wqq wq.heap.size 139 (.slice A8 gs.length c8) gs.length (gs.flatMap Gr.cells); rw [← h 32 (by decide)]; exact hv
   | 6, h, hv => show xq' 33 = .agg #[.int .i64 full, .int .i64 emp, .slice A hs.length c]; rw [← h 33 (by decide)]; exact hv
   | 7, h, hv => show ∃ A9 c9, xq' 34 = .agg #[.int .i64 full, .int .i64 emp, .slice A9 hs.length c9] ∧ Rowed wqq wq.heap.size 42 (.slice A9 hs.length c9) hs.length (hs.flatMap Hf.cells); rw [← h 34 (by decide)]; exact hv
   | 8, h, hv => show ∃ b, xq' 7 = .pointer (some ⟨b, 0, none⟩) ∧ wq.heap.size ≤ b ∧ Holds wqq b 24 #[.int .i64 0, .int .i64 0, .slice none 0 0]; rw [← h 7 (by decide)]; exact hv
   | 9, h, hv => show ∃ b, xq' 8 = .pointer (some ⟨b, 0, none⟩) ∧ wq.heap.size ≤ b ∧ Holds wqq b 27 #[.int .i64 0, .int .i64 0, .slice none 0 0]; rw [← h 8 (by decide)]; exact hv
   | 10, h, hv => show ∃ b, xq' 9 = .pointer (some ⟨b, 0, none⟩) ∧ wq.heap.size ≤ b ∧ Holds wqq b 49 #[.int .i64 0, .int .i64 0, .slice none 0 0]; rw [← h 9 (by decide)]; exact hv
   | 11, h, hv => show ∃ b, xq' 10 = .pointer (some ⟨b, 0, none⟩) ∧ wq.heap.size ≤ b ∧ Holds wqq b 37 #[.int .i64 0, .int .i64 0, .slice none 0 0]; rw [← h 10 (by decide)]; exact hv
   | 12, h, hv => show ∃ b G1 d1, xq' 7 = .pointer (some ⟨b, 0, none⟩) ∧ Holds wqq b 24 #[.int .i64 err, .int .i64 miss, .slice G1 gs.length d1] ∧ OwnGrades wqq wq.heap.size (.slice G1 gs.length d1) gs; rw [← h 7 (by decide)]; exact hv
   | 13, h, hv => show ∃ b A1 c1, xq' 8 = .pointer (some ⟨b, 0, none⟩) ∧ Holds wqq b 27 #[.int .i64 full, .int .i64 emp, .slice A1 hs.length c1] ∧ OwnHands wqq wq.heap.size (.slice A1 hs.length c1) hs; rw [← h 8 (by decide)]; exact hv
   | 14, h, hv => show ∃ b A8 c8, xq' 9 = .pointer (some ⟨b, 0, none⟩) ∧ Holds wqq b 49 #[.int .i64 err, .int .i64 miss, .slice A8 gs.length c8] ∧ Rowed wqq wq.heap.size 139 (.slice A8 gs.length c8) gs.length (gs.flatMap Gr.cells); rw [← h 9 (by decide)]; exact hv
   | 15, h, hv => show ∃ b A9 c9, xq' 10 = .pointer (some ⟨b, 0, none⟩) ∧ Holds wqq b 37 #[.int .i64 full, .int .i64 emp, .slice A9 hs.length c9] ∧ Rowed wqq wq.heap.size 42 (.slice A9 hs.length c9) hs.length (hs.flatMap Hf.cells); rw [← h 10 (by decide)]; exact hv
   | _ + 16, _, _ => trivial
  ·intro jq xq wqq w' hb' hv
   match jq, hv with
   | 0, hv => exact hv
   | 1, ⟨b0, b1, h0, h1⟩ => exact ⟨b0, b1, h0, h1.up hb'⟩
   | 2, hv => exact hv
   | 3, ⟨b0, b1, h0, h1⟩ => exact ⟨b0, b1, h0, h1.up hb'⟩
   | 4, hv => exact hv
   | 5, ⟨b0, b1, h0, h1⟩ => exact ⟨b0, b1, h0, h1.up hb'⟩
   | 6, hv => exact hv
   | 7, ⟨b0, b1, h0, h1⟩ => exact ⟨b0, b1, h0, h1.up hb'⟩
   | 8, ⟨b0, h0, h1, h2⟩ => exact ⟨b0, h0, h1, h2.up hb'⟩
   | 9, ⟨b0, h0, h1, h2⟩ => exact ⟨b0, h0, h1, h2.up hb'⟩
   | 10, ⟨b0, h0, h1, h2⟩ => exact ⟨b0, h0, h1, h2.up hb'⟩
   | 11, ⟨b0, h0, h1, h2⟩ => exact ⟨b0, h0, h1, h2.up hb'⟩
   | 12, ⟨b0, b1, b2, h0, h1, h2⟩ => exact ⟨b0, b1, b2, h0, h1.up hb', h2.up hb'⟩
   | 13, ⟨b0, b1, b2, h0, h1, h2⟩ => exact ⟨b0, b1, b2, h0, h1.up hb', h2.up hb'⟩
   | 14, ⟨b0, b1, b2, h0, h1, h2⟩ => exact ⟨b0, b1, b2, h0, h1.up hb', h2.up hb'⟩
   | 15, ⟨b0, b1, b2, h0, h1, h2⟩ => exact ⟨b0, b1, b2, h0, h1.up hb', h2.up hb'⟩
   | _ + 16, _ => trivial
  ·intro jq hj
   match jq, hj with
   | 0, hj => exact absurd hj (by decide)
   | 1, hj => exact absurd hj (by decide)
   | 2, hj => exact absurd hj (by decide)
   | 3, hj => exact absurd hj (by decide)
   | 4, hj => exact absurd hj (by decide)
   | 5, hj => exact absurd hj (by decide)
   | 6, hj => exact absurd hj (by decide)
   | 7, hj => exact absurd hj (by decide)
   | 8, hj => exact absurd hj (by decide)
   | 9, hj => exact absurd hj (by decide)
   | 10, hj => exact absurd hj (by decide)
   | 11, hj => exact absurd hj (by decide)
   | 12, hj => exact absurd hj (by decide)
   | 13, hj => exact absurd hj (by decide)
   | 14, hj => exact absurd hj (by decide)
   | 15, hj => exact absurd hj (by decide)
   | _ + 16, _ => trivial
  ·refine ⟨?_, ?_, ?_, ?_, ?_, ?_, ?_, ?_, ?_, ?_, ?_, ?_, ?_, ?_, ?_, ?_, trivial⟩
   ·intro xq wa hba hx K hK0
    have hK := fun v w' hb => hK0 v w' (.inl hb)
    clear hx hKc hK0
    have kg0' : wa.cell? ⟨w.heap.size, 0, none⟩ = some (.int .i64 err) := (Hgq.out.up hba).cell 0
    have kg1' : wa.cell? ⟨w.heap.size, 1, none⟩ = some (.int .i64 miss) := (Hgq.out.up hba).cell 1
    have kg2' : wa.cell? ⟨w.heap.size, 2, none⟩ = some (.slice G gs.length d) := (Hgq.out.up hba).cell 2
    simp only [frameOf, fill, setSlot, sg, Nat.reduceBEq, if_true, if_false, Nat.reduceAdd, Nat.reduceEqDiff, HSL.out] at hK ⊢
    go_wp2_with (fail)
    exact hK _ _ (Below.refl _ _) rfl
   ·intro xq wa hba hx K hK0
    have hK := fun v w' hb => hK0 v w' (.inl hb)
    have e27 : xq 27 = .agg #[.int .i64 err, .int .i64 miss, .slice G gs.length d] := hx 0 (by rfl) (by rfl)
    clear hx hKc hK0
    simp only [frameOf, fill, setSlot, sg, Nat.reduceBEq, if_true, if_false, Nat.reduceAdd, Nat.reduceEqDiff, HSL.out] at hK ⊢
    simp only [e27] at hK ⊢
    clear e27
    go_wp2_with (go_at_call 17; refine (Own_any err miss G d gs _ (HGq.out.up hba) g7' HGN.out).mono ?_; rintro e w2_ ⟨G1, d1, rfl, hown, _, hb_⟩)
    exact hK _ _ hb_ ⟨_, _, rfl, row5_mono hown hba.size⟩
   ·intro xq wa hba hx K hK0
    have hK := fun v w' hb => hK0 v w' (.inl hb)
    clear hx hKc hK0
    have kc0' : wa.cell? ⟨w.heap.size + 1, 0, none⟩ = some (.int .i64 full) := (Hcq.out.up hba).cell 0
    have kc1' : wa.cell? ⟨w.heap.size + 1, 1, none⟩ = some (.int .i64 emp) := (Hcq.out.up hba).cell 1
    have kc2' : wa.cell? ⟨w.heap.size + 1, 2, none⟩ = some (.slice A hs.length c) := (Hcq.out.up hba).cell 2
    simp only [frameOf, fill, setSlot, sg, Nat.reduceBEq, if_true, if_false, Nat.reduceAdd, Nat.reduceEqDiff, HSL.out] at hK ⊢
    go_wp2_with (fail)
    exact hK _ _ (Below.refl _ _) rfl
   ·intro xq wa hba hx K hK0
    have hK := fun v w' hb => hK0 v w' (.inl hb)
    have e29 : xq 29 = .agg #[.int .i64 full, .int .i64 emp, .slice A hs.length c] := hx 2 (by rfl) (by rfl)
    clear hx hKc hK0
    simp only [frameOf, fill, setSlot, sg, Nat.reduceBEq, if_true, if_false, Nat.reduceAdd, Nat.reduceEqDiff, HSL.out] at hK ⊢
    simp only [e29] at hK ⊢
    clear e29
    go_wp2_with (go_at_call 18; refine (Owned_any full emp A c hs _ (HAq.out.up hba) h9' HAN.out).mono ?_; rintro e w2_ ⟨A1, c1, rfl, hown, _, hb_⟩)
    exact hK _ _ hb_ ⟨_, _, rfl, row5_mono hown hba.size⟩
   ·intro xq wa hba hx K hK0
    have hK := fun v w' hb => hK0 v w' (.inl hb)
    clear hx hKc hK0
    have kg0' : wa.cell? ⟨w.heap.size, 0, none⟩ = some (.int .i64 err) := (Hgq.out.up hba).cell 0
    have kg1' : wa.cell? ⟨w.heap.size, 1, none⟩ = some (.int .i64 miss) := (Hgq.out.up hba).cell 1
    have kg2' : wa.cell? ⟨w.heap.size, 2, none⟩ = some (.slice G gs.length d) := (Hgq.out.up hba).cell 2
    simp only [frameOf, fill, setSlot, sg, Nat.reduceBEq, if_true, if_false, Nat.reduceAdd, Nat.reduceEqDiff, HSL.out] at hK ⊢
    go_wp2_with (fail)
    exact hK _ _ (Below.refl _ _) rfl
   ·intro xq wa hba hx K hK0
    have hK := fun v w' hb => hK0 v w' (.inl hb)
    have e31 : xq 31 = .agg #[.int .i64 err, .int .i64 miss, .slice G gs.length d] := hx 4 (by rfl) (by rfl)
    clear hx hKc hK0
    simp only [frameOf, fill, setSlot, sg, Nat.reduceBEq, if_true, if_false, Nat.reduceAdd, Nat.reduceEqDiff, HSL.out] at hK ⊢
    simp only [e31] at hK ⊢
    clear e31
    go_wp2_with (go_at_call 24; refine (theirs_any err miss G d gs _ (HGq.out.up hba) g7').mono ?_; rintro e w2_ ⟨A8, c8, rfl, hown, hb_⟩)
    exact hK _ _ hb_ ⟨_, _, rfl, row5_mono hown hba.size⟩
   ·intro xq wa hba hx K hK0
    have hK := fun v w' hb => hK0 v w' (.inl hb)
    clear hx hKc hK0
    have kc0' : wa.cell? ⟨w.heap.size + 1, 0, none⟩ = some (.int .i64 full) := (Hcq.out.up hba).cell 0
    have kc1' : wa.cell? ⟨w.heap.size + 1, 1, none⟩ = some (.int .i64 emp) := (Hcq.out.up hba).cell 1
    have kc2' : wa.cell? ⟨w.heap.size + 1, 2, none⟩ = some (.slice A hs.length c) := (Hcq.out.up hba).cell 2
    simp only [frameOf, fill, setSlot, sg, Nat.reduceBEq, if_true, if_false, Nat.reduceAdd, Nat.reduceEqDiff, HSL.out] at hK ⊢
    go_wp2_with (fail)
    exact hK _ _ (Below.refl _ _) rfl
   ·intro xq wa hba hx K hK0
    have hK := fun v w' hb => hK0 v w' (.inl hb)
    have e33 : xq 33 = .agg #[.int .i64 full, .int .i64 emp, .slice A hs.length c] := hx 6 (by rfl) (by rfl)
    clear hx hKc hK0
    simp only [frameOf, fill, setSlot, sg, Nat.reduceBEq, if_true, if_false, Nat.reduceAdd, Nat.reduceEqDiff, HSL.out] at hK ⊢
    simp only [e33] at hK ⊢
    clear e33
    go_wp2_with (go_at_call 20; refine (come_any full emp A c hs _ (HAq.out.up hba) h9').mono ?_; rintro e w2_ ⟨A9, c9, rfl, hown, hb_⟩)
    exact hK _ _ hb_ ⟨_, _, rfl, row5_mono hown hba.size⟩
   ·intro xq wa hba hx K hK0
    have hK := fun v w' hb => hK0 v w' (.inl hb)
    clear hx hKc hK0
    simp only [frameOf, fill, setSlot, sg, Nat.reduceBEq, if_true, if_false, Nat.reduceAdd, Nat.reduceEqDiff, HSL.out] at hK ⊢
    go_wp2_with (fail)
    exact hK _ _ ((Below.refl _ _).alloc (Nat.le_refl _) _) ⟨_, rfl, hba.size, Holds.new _ _ _⟩
   ·intro xq wa hba hx K hK0
    have hK := fun v w' hb => hK0 v w' (.inl hb)
    clear hx hKc hK0
    simp only [frameOf, fill, setSlot, sg, Nat.reduceBEq, if_true, if_false, Nat.reduceAdd, Nat.reduceEqDiff, HSL.out] at hK ⊢
    go_wp2_with (fail)
    exact hK _ _ ((Below.refl _ _).alloc (Nat.le_refl _) _) ⟨_, rfl, hba.size, Holds.new _ _ _⟩
   ·intro xq wa hba hx K hK0
    have hK := fun v w' hb => hK0 v w' (.inl hb)
    clear hx hKc hK0
    simp only [frameOf, fill, setSlot, sg, Nat.reduceBEq, if_true, if_false, Nat.reduceAdd, Nat.reduceEqDiff, HSL.out] at hK ⊢
    go_wp2_with (fail)
    exact hK _ _ ((Below.refl _ _).alloc (Nat.le_refl _) _) ⟨_, rfl, hba.size, Holds.new _ _ _⟩
   ·intro xq wa hba hx K hK0
    have hK := fun v w' hb => hK0 v w' (.inl hb)
    clear hx hKc hK0
    simp only [frameOf, fill, setSlot, sg, Nat.reduceBEq, if_true, if_false, Nat.reduceAdd, Nat.reduceEqDiff, HSL.out] at hK ⊢
    go_wp2_with (fail)
    exact hK _ _ ((Below.refl _ _).alloc (Nat.le_refl _) _) ⟨_, rfl, hba.size, Holds.new _ _ _⟩
   ·intro xq wa hba hx K hK0
    have hK := fun v w' hb => hK0 v w' (.inr hb)
    obtain ⟨G128, d128, e28, f28_0⟩ := hx 1 (by rfl) (by rfl)
    obtain ⟨b7, e7, f7_0, f7_1⟩ := hx 8 (by rfl) (by rfl)
    clear hx hKc hK0
    obtain ⟨kb0, kb1, kb2⟩ := f7_1.c3
    obtain ⟨zb0, zb1, zb2⟩ := f7_1.f3
    simp only [frameOf, fill, setSlot, sg, Nat.reduceBEq, if_true, if_false, Nat.reduceAdd, Nat.reduceEqDiff, HSL.out] at hK ⊢
    have E28 := Lib.hid e28
    have E7 := Lib.hid e7
    simp only [e28, e7] at hK ⊢
    clear e28 e7
    go_wp2_with (fail)
    refine hK undef _ ⟨(by have h := hba; exact zg), ?_⟩ ⟨_, _, _, rfl, Holds.set3 _ _ _ f7_1, row5_set3 f28_0 f7_1 (by decide)⟩
    intro jq xq hd hne hv
    match jq, hd, hne, hv with
    | 0, _, _, hv => exact hv
    | 1, _, _, hv => obtain ⟨a1_, d1_, e1, h1⟩ := hv; exact ⟨a1_, d1_, e1, row5_set3 h1 f7_1 (by decide)⟩
    | 2, _, _, hv => exact hv
    | 3, _, _, hv => obtain ⟨a1_, d1_, e1, h1⟩ := hv; exact ⟨a1_, d1_, e1, row5_set3 h1 f7_1 (by decide)⟩
    | 4, _, _, hv => exact hv
    | 5, _, _, hv => obtain ⟨a1_, d1_, e1, h1⟩ := hv; exact ⟨a1_, d1_, e1, row5_set3 h1 f7_1 (by decide)⟩
    | 6, _, _, hv => exact hv
    | 7, _, _, hv => obtain ⟨a1_, d1_, e1, h1⟩ := hv; exact ⟨a1_, d1_, e1, row5_set3 h1 f7_1 (by decide)⟩
    | 8, hd, _, _ => exact absurd hd (by decide)
    | 9, _, _, hv => obtain ⟨b_, e1, h0, h1⟩ := hv; exact ⟨b_, e1, h0, h1.set3_ne f7_1 (by decide)⟩
    | 10, _, _, hv => obtain ⟨b_, e1, h0, h1⟩ := hv; exact ⟨b_, e1, h0, h1.set3_ne f7_1 (by decide)⟩
    | 11, _, _, hv => obtain ⟨b_, e1, h0, h1⟩ := hv; exact ⟨b_, e1, h0, h1.set3_ne f7_1 (by decide)⟩
    | 12, _, hne, _ => exact absurd rfl hne
    | 13, _, _, hv => obtain ⟨b_, a1_, d1_, e1, h0, h1⟩ := hv; exact ⟨b_, a1_, d1_, e1, h0.set3_ne f7_1 (by decide), row5_set3 h1 f7_1 (by decide)⟩
    | 14, _, _, hv => obtain ⟨b_, a1_, d1_, e1, h0, h1⟩ := hv; exact ⟨b_, a1_, d1_, e1, h0.set3_ne f7_1 (by decide), row5_set3 h1 f7_1 (by decide)⟩
    | 15, _, _, hv => obtain ⟨b_, a1_, d1_, e1, h0, h1⟩ := hv; exact ⟨b_, a1_, d1_, e1, h0.set3_ne f7_1 (by decide), row5_set3 h1 f7_1 (by decide)⟩
    | _ + 16, _, _, _ => trivial
   ·intro xq wa hba hx K hK0
    have hK := fun v w' hb => hK0 v w' (.inr hb)
    obtain ⟨A130, c130, e30, f30_0⟩ := hx 3 (by rfl) (by rfl)
    obtain ⟨b8, e8, f8_0, f8_1⟩ := hx 9 (by rfl) (by rfl)
    clear hx hKc hK0
    obtain ⟨kb0, kb1, kb2⟩ := f8_1.c3
    obtain ⟨zb0, zb1, zb2⟩ := f8_1.f3
    simp only [frameOf, fill, setSlot, sg, Nat.reduceBEq, if_true, if_false, Nat.reduceAdd, Nat.reduceEqDiff, HSL.out] at hK ⊢
    have E30 := Lib.hid e30
    have E8 := Lib.hid e8
    simp only [e30, e8] at hK ⊢
    clear e30 e8
    go_wp2_with (fail)
    refine hK undef _ ⟨(by have h := hba; exact zg), ?_⟩ ⟨_, _, _, rfl, Holds.set3 _ _ _ f8_1, row5_set3 f30_0 f8_1 (by decide)⟩
    intro jq xq hd hne hv
    match jq, hd, hne, hv with
    | 0, _, _, hv => exact hv
    | 1, _, _, hv => obtain ⟨a1_, d1_, e1, h1⟩ := hv; exact ⟨a1_, d1_, e1, row5_set3 h1 f8_1 (by decide)⟩
    | 2, _, _, hv => exact hv
    | 3, _, _, hv => obtain ⟨a1_, d1_, e1, h1⟩ := hv; exact ⟨a1_, d1_, e1, row5_set3 h1 f8_1 (by decide)⟩
    | 4, _, _, hv => exact hv
    | 5, _, _, hv => obtain ⟨a1_, d1_, e1, h1⟩ := hv; exact ⟨a1_, d1_, e1, row5_set3 h1 f8_1 (by decide)⟩
    | 6, _, _, hv => exact hv
    | 7, _, _, hv => obtain ⟨a1_, d1_, e1, h1⟩ := hv; exact ⟨a1_, d1_, e1, row5_set3 h1 f8_1 (by decide)⟩
    | 8, _, _, hv => obtain ⟨b_, e1, h0, h1⟩ := hv; exact ⟨b_, e1, h0, h1.set3_ne f8_1 (by decide)⟩
    | 9, hd, _, _ => exact absurd hd (by decide)
    | 10, _, _, hv => obtain ⟨b_, e1, h0, h1⟩ := hv; exact ⟨b_, e1, h0, h1.set3_ne f8_1 (by decide)⟩
    | 11, _, _, hv => obtain ⟨b_, e1, h0, h1⟩ := hv; exact ⟨b_, e1, h0, h1.set3_ne f8_1 (by decide)⟩
    | 12, _, _, hv => obtain ⟨b_, a1_, d1_, e1, h0, h1⟩ := hv; exact ⟨b_, a1_, d1_, e1, h0.set3_ne f8_1 (by decide), row5_set3 h1 f8_1 (by decide)⟩
    | 13, _, hne, _ => exact absurd rfl hne
    | 14, _, _, hv => obtain ⟨b_, a1_, d1_, e1, h0, h1⟩ := hv; exact ⟨b_, a1_, d1_, e1, h0.set3_ne f8_1 (by decide), row5_set3 h1 f8_1 (by decide)⟩
    | 15, _, _, hv => obtain ⟨b_, a1_, d1_, e1, h0, h1⟩ := hv; exact ⟨b_, a1_, d1_, e1, h0.set3_ne f8_1 (by decide), row5_set3 h1 f8_1 (by decide)⟩
    | _ + 16, _, _, _ => trivial
   ·intro xq wa hba hx K hK0
    have hK := fun v w' hb => hK0 v w' (.inr hb)
    obtain ⟨A832, c832, e32, f32_0⟩ := hx 5 (by rfl) (by rfl)
    obtain ⟨b9, e9, f9_0, f9_1⟩ := hx 10 (by rfl) (by rfl)
    clear hx hKc hK0
    obtain ⟨kb0, kb1, kb2⟩ := f9_1.c3
    obtain ⟨zb0, zb1, zb2⟩ := f9_1.f3
    simp only [frameOf, fill, setSlot, sg, Nat.reduceBEq, if_true, if_false, Nat.reduceAdd, Nat.reduceEqDiff, HSL.out] at hK ⊢
    have E32 := Lib.hid e32
    have E9 := Lib.hid e9
    simp only [e32, e9] at hK ⊢
    clear e32 e9
    go_wp2_with (fail)
    refine hK undef _ ⟨(by have h := hba; exact zg), ?_⟩ ⟨_, _, _, rfl, Holds.set3 _ _ _ f9_1, row5_set3 f32_0 f9_1 (by decide)⟩
    intro jq xq hd hne hv
    match jq, hd, hne, hv with
    | 0, _, _, hv => exact hv
    | 1, _, _, hv => obtain ⟨a1_, d1_, e1, h1⟩ := hv; exact ⟨a1_, d1_, e1, row5_set3 h1 f9_1 (by decide)⟩
    | 2, _, _, hv => exact hv
    | 3, _, _, hv => obtain ⟨a1_, d1_, e1, h1⟩ := hv; exact ⟨a1_, d1_, e1, row5_set3 h1 f9_1 (by decide)⟩
    | 4, _, _, hv => exact hv
    | 5, _, _, hv => obtain ⟨a1_, d1_, e1, h1⟩ := hv; exact ⟨a1_, d1_, e1, row5_set3 h1 f9_1 (by decide)⟩
    | 6, _, _, hv => exact hv
    | 7, _, _, hv => obtain ⟨a1_, d1_, e1, h1⟩ := hv; exact ⟨a1_, d1_, e1, row5_set3 h1 f9_1 (by decide)⟩
    | 8, _, _, hv => obtain ⟨b_, e1, h0, h1⟩ := hv; exact ⟨b_, e1, h0, h1.set3_ne f9_1 (by decide)⟩
    | 9, _, _, hv => obtain ⟨b_, e1, h0, h1⟩ := hv; exact ⟨b_, e1, h0, h1.set3_ne f9_1 (by decide)⟩
    | 10, hd, _, _ => exact absurd hd (by decide)
    | 11, _, _, hv => obtain ⟨b_, e1, h0, h1⟩ := hv; exact ⟨b_, e1, h0, h1.set3_ne f9_1 (by decide)⟩
    | 12, _, _, hv => obtain ⟨b_, a1_, d1_, e1, h0, h1⟩ := hv; exact ⟨b_, a1_, d1_, e1, h0.set3_ne f9_1 (by decide), row5_set3 h1 f9_1 (by decide)⟩
    | 13, _, _, hv => obtain ⟨b_, a1_, d1_, e1, h0, h1⟩ := hv; exact ⟨b_, a1_, d1_, e1, h0.set3_ne f9_1 (by decide), row5_set3 h1 f9_1 (by decide)⟩
    | 14, _, hne, _ => exact absurd rfl hne
    | 15, _, _, hv => obtain ⟨b_, a1_, d1_, e1, h0, h1⟩ := hv; exact ⟨b_, a1_, d1_, e1, h0.set3_ne f9_1 (by decide), row5_set3 h1 f9_1 (by decide)⟩
    | _ + 16, _, _, _ => trivial
   ·intro xq wa hba hx K hK0
    have hK := fun v w' hb => hK0 v w' (.inr hb)
    obtain ⟨A934, c934, e34, f34_0⟩ := hx 7 (by rfl) (by rfl)
    obtain ⟨b10, e10, f10_0, f10_1⟩ := hx 11 (by rfl) (by rfl)
    clear hx hKc hK0
    obtain ⟨kb0, kb1, kb2⟩ := f10_1.c3
    obtain ⟨zb0, zb1, zb2⟩ := f10_1.f3
    simp only [frameOf, fill, setSlot, sg, Nat.reduceBEq, if_true, if_false, Nat.reduceAdd, Nat.reduceEqDiff, HSL.out] at hK ⊢
    have E34 := Lib.hid e34
    have E10 := Lib.hid e10
    simp only [e34, e10] at hK ⊢
    clear e34 e10
    go_wp2_with (fail)
    refine hK undef _ ⟨(by have h := hba; exact zg), ?_⟩ ⟨_, _, _, rfl, Holds.set3 _ _ _ f10_1, row5_set3 f34_0 f10_1 (by decide)⟩
    intro jq xq hd hne hv
    match jq, hd, hne, hv with
    | 0, _, _, hv => exact hv
    | 1, _, _, hv => obtain ⟨a1_, d1_, e1, h1⟩ := hv; exact ⟨a1_, d1_, e1, row5_set3 h1 f10_1 (by decide)⟩
    | 2, _, _, hv => exact hv
    | 3, _, _, hv => obtain ⟨a1_, d1_, e1, h1⟩ := hv; exact ⟨a1_, d1_, e1, row5_set3 h1 f10_1 (by decide)⟩
    | 4, _, _, hv => exact hv
    | 5, _, _, hv => obtain ⟨a1_, d1_, e1, h1⟩ := hv; exact ⟨a1_, d1_, e1, row5_set3 h1 f10_1 (by decide)⟩
    | 6, _, _, hv => exact hv
    | 7, _, _, hv => obtain ⟨a1_, d1_, e1, h1⟩ := hv; exact ⟨a1_, d1_, e1, row5_set3 h1 f10_1 (by decide)⟩
    | 8, _, _, hv => obtain ⟨b_, e1, h0, h1⟩ := hv; exact ⟨b_, e1, h0, h1.set3_ne f10_1 (by decide)⟩
    | 9, _, _, hv => obtain ⟨b_, e1, h0, h1⟩ := hv; exact ⟨b_, e1, h0, h1.set3_ne f10_1 (by decide)⟩
    | 10, _, _, hv => obtain ⟨b_, e1, h0, h1⟩ := hv; exact ⟨b_, e1, h0, h1.set3_ne f10_1 (by decide)⟩
    | 11, hd, _, _ => exact absurd hd (by decide)
    | 12, _, _, hv => obtain ⟨b_, a1_, d1_, e1, h0, h1⟩ := hv; exact ⟨b_, a1_, d1_, e1, h0.set3_ne f10_1 (by decide), row5_set3 h1 f10_1 (by decide)⟩
    | 13, _, _, hv => obtain ⟨b_, a1_, d1_, e1, h0, h1⟩ := hv; exact ⟨b_, a1_, d1_, e1, h0.set3_ne f10_1 (by decide), row5_set3 h1 f10_1 (by decide)⟩
    | 14, _, _, hv => obtain ⟨b_, a1_, d1_, e1, h0, h1⟩ := hv; exact ⟨b_, a1_, d1_, e1, h0.set3_ne f10_1 (by decide), row5_set3 h1 f10_1 (by decide)⟩
    | 15, _, hne, _ => exact absurd rfl hne
    | _ + 16, _, _, _ => trivial
  ·intro xq wa hba hx
   have e27 : xq 27 = .agg #[.int .i64 err, .int .i64 miss, .slice G gs.length d] := hx 0 (by decide)
   obtain ⟨G128, d128, e28, f28_0⟩ := hx 1 (by decide)
   have e29 : xq 29 = .agg #[.int .i64 full, .int .i64 emp, .slice A hs.length c] := hx 2 (by decide)
   obtain ⟨A130, c130, e30, f30_0⟩ := hx 3 (by decide)
   have e31 : xq 31 = .agg #[.int .i64 err, .int .i64 miss, .slice G gs.length d] := hx 4 (by decide)
   obtain ⟨A832, c832, e32, f32_0⟩ := hx 5 (by decide)
   have e33 : xq 33 = .agg #[.int .i64 full, .int .i64 emp, .slice A hs.length c] := hx 6 (by decide)
   obtain ⟨A934, c934, e34, f34_0⟩ := hx 7 (by decide)
   obtain ⟨bn12, G1n12, d1n12, fn12_0, fn12_1, fn12_2⟩ := hx 12 (by decide)
   obtain ⟨bn13, A1n13, c1n13, fn13_0, fn13_1, fn13_2⟩ := hx 13 (by decide)
   obtain ⟨bn14, A8n14, c8n14, fn14_0, fn14_1, fn14_2⟩ := hx 14 (by decide)
   obtain ⟨bn15, A9n15, c9n15, fn15_0, fn15_1, fn15_2⟩ := hx 15 (by decide)
   clear hx
   simp only [frameOf, fill, setSlot, sg, Nat.reduceBEq, if_true, if_false, Nat.reduceAdd, Nat.reduceEqDiff, HSL.out]
   simp only [e27, e28, e29, e30, e31, e32, e33, e34, fn12_0, fn13_0, fn14_0, fn15_0]
   clear e27 e28 e29 e30 e31 e32 e33 e34 fn12_0 fn13_0 fn14_0 fn15_0
   refine hKc _ _ ?_
   have HSa := Lib.hid hba
   have HBa := Lib.hid (HBq.out.trans (hba.mono hsq))
   have hsa := HBa.out.size
   have hsta := hba.size
   have Hgoa := Lib.hid fn12_1
   have Hcoa := Lib.hid fn13_1
   have Hgxa := Lib.hid fn14_1
   have Hcxa := Lib.hid fn15_1
   obtain ⟨_, _, e1, _, hh1⟩ := OwnGrades.at_ fn12_2
   cases e1
   obtain ⟨_, _, e1, _, hh2⟩ := OwnHands.at_ fn13_2
   cases e1
   have HPa := Lib.hid hh1
   have HMa := Lib.hid hh2
   have HXa := Lib.hid (their_at fn14_2)
   have HYa := Lib.hid (rowed_at fn15_2)
   clear fn12_1 fn12_2 fn13_1 fn13_2 fn14_1 fn14_2 fn15_1 fn15_2 hh1 hh2
   have Hga := Lib.hid (Hgq.out.up hba)
   have Hca := Lib.hid (Hcq.out.up hba)
   have HGa := Lib.hid (HGq.out.up hba)
   have HAa := Lib.hid (HAq.out.up hba)
   clear hba
   obtain ⟨kgx0, kgx1, kgx2⟩ := Hgxa.out.c3
   have lt_gx : bn14 < wa.heap.size := Hgxa.out.lt
   obtain ⟨kcx0, kcx1, kcx2⟩ := Hcxa.out.c3
   have lt_cx : bn15 < wa.heap.size := Hcxa.out.lt
   go_wp2_with fail
   refine (refBoth_any err miss A8n14 c8n14 gs full emp A9n15 c9n15 hs _ (HXa.out.up zg) g7' (HYa.out.up zg) h9').mono ?_
   rw [← QE.out]
   rintro e wb ⟨rfl, hbb⟩
   have Hgb := Lib.hid (Holds.up (by have h := Hga.out; exact zp4 : Holds _ (w.heap.size) 24 #[.int .i64 err, .int .i64 miss, .slice G gs.length d]) hbb)
   have Hcb := Lib.hid (Holds.up (by have h := Hca.out; exact zp4 : Holds _ (w.heap.size + 1) 27 #[.int .i64 full, .int .i64 emp, .slice A hs.length c]) hbb)
   have Hgob := Lib.hid (Holds.up (by have h := Hgoa.out; exact zp4 : Holds _ (bn12) 24 #[.int .i64 err, .int .i64 miss, .slice G1n12 gs.length d1n12]) hbb)
   have Hcob := Lib.hid (Holds.up (by have h := Hcoa.out; exact zp4 : Holds _ (bn13) 27 #[.int .i64 full, .int .i64 emp, .slice A1n13 hs.length c1n13]) hbb)
   have Hgxb := Lib.hid (Holds.up (by have h := Hgxa.out; exact zp4 : Holds _ (bn14) 49 #[.int .i64 err, .int .i64 miss, .slice A8n14 gs.length c8n14]) hbb)
   have Hcxb := Lib.hid (Holds.up (by have h := Hcxa.out; exact zp4 : Holds _ (bn15) 37 #[.int .i64 full, .int .i64 emp, .slice A9n15 hs.length c9n15]) hbb)
   have HSb : Hid (Below wa.heap.size wa wb) := Lib.hid (Below.trans zg (hbb.mono (by first | exact Nat.le_refl _ | omega | (simp; done) | (simp; omega))))
   have HBb : Hid (Below w.heap.size w wb) := Lib.hid (HBa.out.trans (HSb.out.mono hsa))
   have hsb := HBb.out.size
   have hstb := HSb.out.size
   have HGb := Lib.hid (HGa.out.up HSb.out)
   have HAb := Lib.hid (HAa.out.up HSb.out)
   have HPb := Lib.hid (HPa.out.up HSb.out)
   have HMb := Lib.hid (HMa.out.up HSb.out)
   have HXb := Lib.hid (HXa.out.up HSb.out)
   have HYb := Lib.hid (HYa.out.up HSb.out)
   clear hbb
   clear kcx0 kcx1 kcx2 lt_cx kgx0 kgx1 kgx2 lt_gx
   obtain ⟨kgx0, kgx1, kgx2⟩ := Hgxb.out.c3
   have lt_gx : bn14 < wb.heap.size := Hgxb.out.lt
   obtain ⟨kcx0, kcx1, kcx2⟩ := Hcxb.out.c3
   have lt_cx : bn15 < wb.heap.size := Hcxb.out.lt
   have lt_b1 : ∀ b, b < wb.heap.size → b < wb.heap.size + 1 := fun b h => Nat.lt_succ_of_lt h
   have l1_gx := lt_b1 _ lt_gx
   have l1_cx := lt_b1 _ lt_cx
   go_upto_if 40 with fail
   go_cut [11, 12, 15, 16] from 39 to 79 (fun s11 s12 s15 s16 wx => s11 = .int .i64 W ∧ s12 = .int .i64 U ∧ Holds wx (wb.heap.size) 76 #[.int .i64 Z.l0, .int .i64 Z.h0, .int .i64 Z.l1, .int .i64 Z.h1, .int .i64 Z.l2, .int .i64 Z.h2, .int .i64 Z.l3, .int .i64 Z.h3] ∧ Holds wx (wb.heap.size + 1) 60 #[.int .i64 WL, .int .i64 WH] ∧ Below wb.heap.size wb wx)
   case first =>
    by_cases hE0 : E = 0
    ·subst hE0
     have hq : ((0 : Int) == 0) = true := rfl
     obtain ⟨hg0, hc0⟩ := bothErr_zero QE.out.symm
     obtain ⟨_, r0, r1, i0, i1, _, _⟩ := gateErr_zero hg0
     obtain ⟨h6, f0, f1, e0, e1, ht, hn⟩ := cartErr_zero hc0
     have HT := Lib.hid ht
     have HNN := Lib.hid hn
     have h6' : hs.length ≤ 6 := h6
     clear hg0 hc0 ht hn
     obtain ⟨n, hnn⟩ : ∃ z, z = (fitL miss hs).length := ⟨_, rfl⟩
     have QN := Lib.hid hnn
     have hn8 : n ≤ 80000 := by rw [hnn]; exact fitL_len _ _
     clear hnn
     go_wp2_with fail
     refine (refAll_zero err miss A8n14 gs.length c8n14 full emp A9n15 c9n15 hs i0 i1 _ (HYb.out.up zg) h6 HT.out).mono ?_
     rw [← QN.out]
     rintro e wl ⟨O, Aq, qq, rfl, kz, hml, hbl⟩
     have Hwtl := Lib.hid (Holds.up (zp2 : Holds _ (wb.heap.size) 76 #[.int .i64 0, .int .i64 0, .int .i64 0, .int .i64 0, .int .i64 0, .int .i64 0, .int .i64 0, .int .i64 0]) hbl)
     have Hwhl := Lib.hid (Holds.up (zp2 : Holds _ (wb.heap.size + 1) 60 #[.int .i64 0, .int .i64 0]) hbl)
     have HBl : Hid (Below wb.heap.size wb wl) := Lib.hid (Below.trans zg (hbl.mono (by first | omega | (simp; done) | (simp; omega))))
     have Hgxl := Lib.hid (Hgxb.out.up HBl.out)
     have Hcxl := Lib.hid (Hcxb.out.up HBl.out)
     have HMLl := Lib.hid hml
     have hsl := HBl.out.size
     have hlO := World.block_lt_of_cell? wl _ kz
     clear hbl hml
     clear kgx0 kgx1 kgx2 lt_gx kcx0 kcx1 kcx2 lt_cx
     clear l1_gx l1_cx lt_b1
     by_cases hn0 : 0 < n
     ·have he : B.empty = false := by rw [QB.out]; exact fitL_some HNN.out (by rw [← QN.out]; exact hn0)
      have hw : W = 0 := by rw [QW.out, boundErr_ok he]
      have HW1 := Lib.hid hw
      have hz : Z = B := by rw [QZ.out, boxIf, if_pos hw]
      have HZ1 := Lib.hid hz
      have HEB := Lib.hid he
      clear hw hz he
      have hn0' : (0 : Int) < n := by omega
      have hsl := HBl.out.size
      obtain ⟨kwt0, kwt1, kwt2, kwt3, kwt4, kwt5, kwt6, kwt7⟩ := Hwtl.out.c8
      obtain ⟨zwt0, zwt1, zwt2, zwt3, zwt4, zwt5, zwt6, zwt7⟩ := Hwtl.out.f8
      have lt_wt : wb.heap.size < wl.heap.size := Hwtl.out.lt
      have hcon := refBounds_any B Aq qq (fitL miss hs) (by rw [← QN.out]; exact hn0) (fitL_len _ _) wl HMLl.out (by rw [QB.out]; exact fitL_lo HNN.out) (by rw [QB.out]; exact fitL_at HNN.out (by rw [← QB.out]; exact HEB.out))
      rw [← QN.out] at hcon
      have HCON := Lib.hid hcon
      clear hcon
      go_wp2_with fail
      refine HCON.out.mono ?_
      rintro e wm ⟨rfl, hbm⟩
      have Hwtm := Lib.hid (Hwtl.out.up hbm)
      have Hwhm := Lib.hid (Hwhl.out.up hbm)
      have Hgxm := Lib.hid (Hgxl.out.up hbm)
      have Hcxm := Lib.hid (Hcxl.out.up hbm)
      have HBm := Lib.hid (HBl.out.trans (hbm.mono HBl.out.size))
      have hsm := HBm.out.size
      clear hbm
      clear kwt0 kwt1 kwt2 kwt3 kwt4 kwt5 kwt6 kwt7 zwt0 zwt1 zwt2 zwt3 zwt4 zwt5 zwt6 zwt7 lt_wt
      obtain ⟨kwt0, kwt1, kwt2, kwt3, kwt4, kwt5, kwt6, kwt7⟩ := Hwtm.out.c8
      obtain ⟨zwt0, zwt1, zwt2, zwt3, zwt4, zwt5, zwt6, zwt7⟩ := Hwtm.out.f8
      have lt_wt : wb.heap.size < wm.heap.size := Hwtm.out.lt
      by_cases t2 : 0 ≤ k
      ·by_cases t3 : k ≤ 3
       ·have hk0 : (decide (0 ≤ k) && decide (k ≤ 3)) = true := by simp only [Bool.and_eq_true, decide_eq_true_eq]; omega
        have hu : U = 0 := by rw [QU.out, weighErr, if_neg (by simp), if_neg (by simp [hk0]), if_neg (by simp [HEB.out])]
        have HU1 := Lib.hid hu
        obtain ⟨kN, rfl⟩ : ∃ m : Nat, k = (m : Int) := ⟨k.toNat, by omega⟩
        have hk4 : kN < 4 := by omega
        have hwl : WL = NL * bLo B kN / 40 := by rw [QWL.out, zIf, if_pos hu]; rfl
        have hwh : WH = NH * bHi B kN / 40 := by rw [QWH.out, zIf, if_pos hu]; rfl
        have HWL := Lib.hid hwl
        have HWH := Lib.hid hwh
        clear hu hk0 hwl hwh
        obtain ⟨lb, hlb⟩ : ∃ z, z = bLo B kN := ⟨_, rfl⟩
        obtain ⟨ub, hub⟩ : ∃ z, z = bHi B kN := ⟨_, rfl⟩
        have hlu : 0 ≤ lb ∧ lb ≤ 40 ∧ 0 ≤ ub ∧ ub ≤ 40 := by rw [hlb, hub, ← (bxl_bLo B hk4).1, ← (bxl_bLo B hk4).2, QB.out]; exact ok_at (bounds_ok _ _ _) kN
        rw [← hlb] at HWL
        rw [← hub] at HWH
        have HLB := Lib.hid hlb
        have HUB := Lib.hid hub
        clear hlb hub
        obtain ⟨s0, s1, s2, s3⟩ := hlu
        have hnl : NL = max 0 (full - emp - 2 * err) := QNL.out
        have hnh : NH = max 0 (full - emp + 2 * err) := QNH.out
        have hl0 : 0 ≤ NL ∧ NL ≤ 10100 := by omega
        have hh0 : 0 ≤ NH ∧ NH ≤ 10100 := by omega
        have HNL := Lib.hid hnl
        have HNH := Lib.hid hnh
        clear hnl hnh
        have p0 : 0 ≤ NL * lb := Int.mul_nonneg hl0.1 s0
        have p1 : NL * lb ≤ 10100 * 41 := Int.mul_le_mul hl0.2 (by omega) (by omega) (by decide)
        have p2 : 0 ≤ NH * ub := Int.mul_nonneg hh0.1 s2
        have p3 : NH * ub ≤ 10100 * 41 := Int.mul_le_mul hh0.2 (by omega) (by omega) (by decide)
        obtain ⟨kgx0, kgx1, kgx2⟩ := Hgxm.out.c3
        obtain ⟨kcx0, kcx1, kcx2⟩ := Hcxm.out.c3
        have lt_gx := Hgxm.out.lt
        have lt_cx := Hcxm.out.lt
        have hne1 : bn14 ≠ wb.heap.size := by have := Hgxb.out.lt; omega
        have hne2 : bn15 ≠ wb.heap.size := by have := Hcxb.out.lt; omega
        go_wp2_with fail
        refine (refNet_any err miss A8n14 c8n14 gs full emp A9n15 c9n15 hs _ r0 r1 f0 f1 e0 e1).mono ?_
        rw [← HNL.out, ← HNH.out]
        rintro e wp ⟨rfl, hbp⟩
        have Hwtp := Lib.hid (Holds.up (by have h := Hwtm.out; exact zp2 : Holds _ (wb.heap.size) 76 #[.int .i64 B.l0, .int .i64 B.h0, .int .i64 B.l1, .int .i64 B.h1, .int .i64 B.l2, .int .i64 B.h2, .int .i64 B.l3, .int .i64 B.h3]) hbp)
        have Hwhp := Lib.hid (Holds.up (by have h := Hwhm.out; exact zp2 : Holds _ (wb.heap.size + 1) 60 #[.int .i64 0, .int .i64 0]) hbp)
        have HBp : Hid (Below wb.heap.size wb wp) := Lib.hid ((HBm.out.trans (by have h := hsm; (repeat' (first | (with_reducible first | exact Below.refl _ _ | assumption | refine Below.alloc ?_ ?_ _ | refine Below.drew ?_ | refine Below.setCell ?_ ?_ _ | exact Nat.le_refl _) | omega | (simp only [World.size_alloc, World.size_setCell, World.size_drew]; omega) | (simp; omega) | (simp; done))))).trans (hbp.mono (by simp only [World.size_setCell]; exact hsm)))
        have hsp := HBp.out.size
        have lwp := Hwtp.out.lt
        have lwp2 := Hwhp.out.lt
        clear hbp kgx0 kcx0 kgx1 kcx1 kgx2 kcx2 lt_gx lt_cx
        clear kwt0 kwt1 kwt2 kwt3 kwt4 kwt5 kwt6 kwt7 zwt0 zwt1 zwt2 zwt3 zwt4 zwt5 zwt6 zwt7 lt_wt
        go_wp2_with fail
        have hKc := True.intro
        have HSL := Lib.hid (show slotsOf [some 63, some 64, some 65, some 66, some 67, some 68, some 69, some 70, some 71, some 72, some 73, some 74, some 75, some 76, some 77, some 78, some 79, none] = [63, 64, 65, 66, 67, 68, 69, 70, 71, 72, 73, 74, 75, 76, 77, 78, 79] from rfl)
        refine wp_region_partsG (by kernel_rfl) [some 63, some 64, some 65, some 66, some 67, some 68, some 69, some 70, some 71, some 72, some 73, some 74, some 75, some 76, some 77, some 78, some 79, none] (fun jq xq w' => match jq with
         | 0 => xq 63 = .pointer (some ⟨wp.heap.size, 0, none⟩)
         | 1 => xq 64 = .int .i64 NL
         | 2 => xq 65 = .int .i64 (kN : Int)
         | 3 => xq 66 = .pointer (some ⟨wb.heap.size, kN * 2, none⟩)
         | 4 => xq 67 = .pointer (some ⟨wb.heap.size, kN * 2, none⟩)
         | 5 => xq 68 = .int .i64 lb
         | 6 => xq 69 = .int .i64 (NL * lb)
         | 7 => xq 70 = .int .i64 (NL * lb / 40)
         | 8 => xq 71 = .pointer (some ⟨wp.heap.size, 1, none⟩)
         | 9 => xq 72 = .int .i64 NH
         | 10 => xq 73 = .int .i64 (kN : Int)
         | 11 => xq 74 = .pointer (some ⟨wb.heap.size, kN * 2, none⟩)
         | 12 => xq 75 = .pointer (some ⟨wb.heap.size, kN * 2 + 1, none⟩)
         | 13 => xq 76 = .int .i64 ub
         | 14 => xq 77 = .int .i64 (NH * ub)
         | 15 => xq 78 = .int .i64 (NH * ub / 40)
         | 16 => xq 79 = .agg #[.int .i64 (NL * lb / 40), .int .i64 (NH * ub / 40)]
         | 17 => Holds w' (wb.heap.size + 1) 60 #[.int .i64 (NL * lb / 40), .int .i64 (NH * ub / 40)] ∧ Holds w' (wb.heap.size) 76 #[.int .i64 B.l0, .int .i64 B.h0, .int .i64 B.l1, .int .i64 B.h1, .int .i64 B.l2, .int .i64 B.h2, .int .i64 B.l3, .int .i64 B.h3]
         | 18 => Holds w' (wp.heap.size) 60 #[.int .i64 NL, .int .i64 NH]
         | 19 => Holds w' (wb.heap.size) 76 #[.int .i64 B.l0, .int .i64 B.h0, .int .i64 B.l1, .int .i64 B.h1, .int .i64 B.l2, .int .i64 B.h2, .int .i64 B.l3, .int .i64 B.h3]
         | 20 => Holds w' (wb.heap.size + 1) 60 #[.int .i64 0, .int .i64 0]
         | _ => True) [[63], [64], [65], [66], [67], [68], [69], [70], [71], [72], [73], [74], [75], [76], [77], [78], [79], [], [], [], []] [(17, 20)] (fun w' => Below wb.heap.size wp w') (by kernel_rfl)  ?_ ?_ (fun w' w'' hb h => h.trans (hb.mono (Nat.le_trans hsp h.size))) (by have h := hsp; (repeat' (first | (with_reducible first | exact Below.refl _ _ | assumption | refine Below.alloc ?_ ?_ _ | refine Below.drew ?_ | refine Below.setCell ?_ ?_ _ | exact Nat.le_refl _) | omega | (simp only [World.size_alloc, World.size_setCell, World.size_drew]; omega) | (simp; omega) | (simp; done)))) ?_ ?_ ?_
        ·intro jq xq xq' wqq h hv
         match jq, h, hv with
         | 0, h, hv => show xq' 63 = .pointer (some ⟨wp.heap.size, 0, none⟩); rw [← h 63 (by decide)]; exact hv
         | 1, h, hv => show xq' 64 = .int .i64 NL; rw [← h 64 (by decide)]; exact hv
         | 2, h, hv => show xq' 65 = .int .i64 (kN : Int); rw [← h 65 (by decide)]; exact hv
         | 3, h, hv => show xq' 66 = .pointer (some ⟨wb.heap.size, kN * 2, none⟩); rw [← h 66 (by decide)]; exact hv
         | 4, h, hv => show xq' 67 = .pointer (some ⟨wb.heap.size, kN * 2, none⟩); rw [← h 67 (by decide)]; exact hv
         | 5, h, hv => show xq' 68 = .int .i64 lb; rw [← h 68 (by decide)]; exact hv
         | 6, h, hv => show xq' 69 = .int .i64 (NL * lb); rw [← h 69 (by decide)]; exact hv
         | 7, h, hv => show xq' 70 = .int .i64 (NL * lb / 40); rw [← h 70 (by decide)]; exact hv
         | 8, h, hv => show xq' 71 = .pointer (some ⟨wp.heap.size, 1, none⟩); rw [← h 71 (by decide)]; exact hv
         | 9, h, hv => show xq' 72 = .int .i64 NH; rw [← h 72 (by decide)]; exact hv
         | 10, h, hv => show xq' 73 = .int .i64 (kN : Int); rw [← h 73 (by decide)]; exact hv
         | 11, h, hv => show xq' 74 = .pointer (some ⟨wb.heap.size, kN * 2, none⟩); rw [← h 74 (by decide)]; exact hv
         | 12, h, hv => show xq' 75 = .pointer (some ⟨wb.heap.size, kN * 2 + 1, none⟩); rw [← h 75 (by decide)]; exact hv
         | 13, h, hv => show xq' 76 = .int .i64 ub; rw [← h 76 (by decide)]; exact hv
         | 14, h, hv => show xq' 77 = .int .i64 (NH * ub); rw [← h 77 (by decide)]; exact hv
         | 15, h, hv => show xq' 78 = .int .i64 (NH * ub / 40); rw [← h 78 (by decide)]; exact hv
         | 16, h, hv => show xq' 79 = .agg #[.int .i64 (NL * lb / 40), .int .i64 (NH * ub / 40)]; rw [← h 79 (by decide)]; exact hv
         | 17, h, hv => exact hv
         | 18, h, hv => exact hv
         | 19, h, hv => exact hv
         | 20, h, hv => exact hv
         | _ + 21, _, _ => trivial
        ·intro jq xq wqq w' hb' hv
         match jq, hv with
         | 0, hv => exact hv
         | 1, hv => exact hv
         | 2, hv => exact hv
         | 3, hv => exact hv
         | 4, hv => exact hv
         | 5, hv => exact hv
         | 6, hv => exact hv
         | 7, hv => exact hv
         | 8, hv => exact hv
         | 9, hv => exact hv
         | 10, hv => exact hv
         | 11, hv => exact hv
         | 12, hv => exact hv
         | 13, hv => exact hv
         | 14, hv => exact hv
         | 15, hv => exact hv
         | 16, hv => exact hv
         | 17, ⟨h0, h1⟩ => exact ⟨h0.up hb', h1.up hb'⟩
         | 18, h0 => exact h0.up hb'
         | 19, h0 => exact h0.up hb'
         | 20, h0 => exact h0.up hb'
         | _ + 21, _ => trivial
        ·intro jq hj
         match jq, hj with
         | 0, hj => exact absurd hj (by decide)
         | 1, hj => exact absurd hj (by decide)
         | 2, hj => exact absurd hj (by decide)
         | 3, hj => exact absurd hj (by decide)
         | 4, hj => exact absurd hj (by decide)
         | 5, hj => exact absurd hj (by decide)
         | 6, hj => exact absurd hj (by decide)
         | 7, hj => exact absurd hj (by decide)
         | 8, hj => exact absurd hj (by decide)
         | 9, hj => exact absurd hj (by decide)
         | 10, hj => exact absurd hj (by decide)
         | 11, hj => exact absurd hj (by decide)
         | 12, hj => exact absurd hj (by decide)
         | 13, hj => exact absurd hj (by decide)
         | 14, hj => exact absurd hj (by decide)
         | 15, hj => exact absurd hj (by decide)
         | 16, hj => exact absurd hj (by decide)
         | 17, hj => exact absurd hj (by decide)
         | 18, _ => exact Holds.new _ _ _
         | 19, _ => exact Holds.alloc Hwtp.out _
         | 20, _ => exact Holds.alloc Hwhp.out _
         | _ + 21, _ => trivial
        ·refine ⟨?_, ?_, ?_, ?_, ?_, ?_, ?_, ?_, ?_, ?_, ?_, ?_, ?_, ?_, ?_, ?_, ?_, ?_, trivial⟩
         ·intro xq wa hba hx K hK0
          have hK := fun v w' hb => hK0 v w' (.inl hb)
          clear hx hKc hK0
          simp only [frameOf, fill, setSlot, sg, Nat.reduceBEq, if_true, if_false, Nat.reduceAdd, Nat.reduceEqDiff, HSL.out] at hK ⊢
          go_wp2_with (fail)
          exact hK _ _ (Below.refl _ _) rfl
         ·intro xq wa hba hx K hK0
          have hK := fun v w' hb => hK0 v w' (.inl hb)
          have e63 : xq 63 = .pointer (some ⟨wp.heap.size, 0, none⟩) := hx 0 (by rfl) (by rfl)
          have fin_0 : Holds wa (wp.heap.size) 60 #[.int .i64 NL, .int .i64 NH] := hx 18 (by rfl) (by rfl)
          clear hx hKc hK0
          have kn0 : wa.cell? ⟨wp.heap.size, 0, none⟩ = some (.int .i64 NL) := fin_0.cell 0
          simp only [frameOf, fill, setSlot, sg, Nat.reduceBEq, if_true, if_false, Nat.reduceAdd, Nat.reduceEqDiff, HSL.out] at hK ⊢
          simp only [e63] at hK ⊢
          clear e63
          go_wp2_with (fail)
          exact hK _ _ (Below.refl _ _) rfl
         ·intro xq wa hba hx K hK0
          have hK := fun v w' hb => hK0 v w' (.inl hb)
          clear hx hKc hK0
          simp only [frameOf, fill, setSlot, sg, Nat.reduceBEq, if_true, if_false, Nat.reduceAdd, Nat.reduceEqDiff, HSL.out] at hK ⊢
          go_wp2_with (fail)
          exact hK _ _ (Below.refl _ _) rfl
         ·intro xq wa hba hx K hK0
          have hK := fun v w' hb => hK0 v w' (.inl hb)
          have e65 : xq 65 = .int .i64 (kN : Int) := hx 2 (by rfl) (by rfl)
          clear hx hKc hK0
          have hki : (kN : Int) < 4 := by omega
          simp only [frameOf, fill, setSlot, sg, Nat.reduceBEq, if_true, if_false, Nat.reduceAdd, Nat.reduceEqDiff, HSL.out] at hK ⊢
          simp only [e65] at hK ⊢
          clear e65
          go_wp2_with (fail)
          exact hK _ _ (Below.refl _ _) rfl
         ·intro xq wa hba hx K hK0
          have hK := fun v w' hb => hK0 v w' (.inl hb)
          have e66 : xq 66 = .pointer (some ⟨wb.heap.size, kN * 2, none⟩) := hx 3 (by rfl) (by rfl)
          clear hx hKc hK0
          simp only [frameOf, fill, setSlot, sg, Nat.reduceBEq, if_true, if_false, Nat.reduceAdd, Nat.reduceEqDiff, HSL.out] at hK ⊢
          simp only [e66] at hK ⊢
          clear e66
          go_wp2_with (fail)
          exact hK _ _ (Below.refl _ _) rfl
         ·intro xq wa hba hx K hK0
          have hK := fun v w' hb => hK0 v w' (.inl hb)
          have e67 : xq 67 = .pointer (some ⟨wb.heap.size, kN * 2, none⟩) := hx 4 (by rfl) (by rfl)
          have fit_0 : Holds wa (wb.heap.size) 76 #[.int .i64 B.l0, .int .i64 B.h0, .int .i64 B.l1, .int .i64 B.h1, .int .i64 B.l2, .int .i64 B.h2, .int .i64 B.l3, .int .i64 B.h3] := hx 19 (by rfl) (by rfl)
          clear hx hKc hK0
          have kl : wa.cell? ⟨wb.heap.size, kN * 2, none⟩ = some (.int .i64 lb) := by rw [HLB.out, ← (bxl_bLo B hk4).1]; exact box_lo fit_0 hk4
          simp only [frameOf, fill, setSlot, sg, Nat.reduceBEq, if_true, if_false, Nat.reduceAdd, Nat.reduceEqDiff, HSL.out] at hK ⊢
          simp only [e67] at hK ⊢
          clear e67
          go_wp2_with (fail)
          exact hK _ _ (Below.refl _ _) rfl
         ·intro xq wa hba hx K hK0
          have hK := fun v w' hb => hK0 v w' (.inl hb)
          have e64 : xq 64 = .int .i64 NL := hx 1 (by rfl) (by rfl)
          have e68 : xq 68 = .int .i64 lb := hx 5 (by rfl) (by rfl)
          clear hx hKc hK0
          simp only [frameOf, fill, setSlot, sg, Nat.reduceBEq, if_true, if_false, Nat.reduceAdd, Nat.reduceEqDiff, HSL.out] at hK ⊢
          simp only [e64, e68] at hK ⊢
          clear e64 e68
          go_wp2_with (fail)
          exact hK _ _ (Below.refl _ _) rfl
         ·intro xq wa hba hx K hK0
          have hK := fun v w' hb => hK0 v w' (.inl hb)
          have e69 : xq 69 = .int .i64 (NL * lb) := hx 6 (by rfl) (by rfl)
          clear hx hKc hK0
          simp only [frameOf, fill, setSlot, sg, Nat.reduceBEq, if_true, if_false, Nat.reduceAdd, Nat.reduceEqDiff, HSL.out] at hK ⊢
          simp only [e69] at hK ⊢
          clear e69
          go_wp2_with (fail)
          exact hK _ _ (Below.refl _ _) rfl
         ·intro xq wa hba hx K hK0
          have hK := fun v w' hb => hK0 v w' (.inl hb)
          clear hx hKc hK0
          simp only [frameOf, fill, setSlot, sg, Nat.reduceBEq, if_true, if_false, Nat.reduceAdd, Nat.reduceEqDiff, HSL.out] at hK ⊢
          go_wp2_with (fail)
          exact hK _ _ (Below.refl _ _) rfl
         ·intro xq wa hba hx K hK0
          have hK := fun v w' hb => hK0 v w' (.inl hb)
          have e71 : xq 71 = .pointer (some ⟨wp.heap.size, 1, none⟩) := hx 8 (by rfl) (by rfl)
          have fin_0 : Holds wa (wp.heap.size) 60 #[.int .i64 NL, .int .i64 NH] := hx 18 (by rfl) (by rfl)
          clear hx hKc hK0
          have kn1 : wa.cell? ⟨wp.heap.size, 1, none⟩ = some (.int .i64 NH) := fin_0.cell 1
          simp only [frameOf, fill, setSlot, sg, Nat.reduceBEq, if_true, if_false, Nat.reduceAdd, Nat.reduceEqDiff, HSL.out] at hK ⊢
          simp only [e71] at hK ⊢
          clear e71
          go_wp2_with (fail)
          exact hK _ _ (Below.refl _ _) rfl
         ·intro xq wa hba hx K hK0
          have hK := fun v w' hb => hK0 v w' (.inl hb)
          clear hx hKc hK0
          simp only [frameOf, fill, setSlot, sg, Nat.reduceBEq, if_true, if_false, Nat.reduceAdd, Nat.reduceEqDiff, HSL.out] at hK ⊢
          go_wp2_with (fail)
          exact hK _ _ (Below.refl _ _) rfl
         ·intro xq wa hba hx K hK0
          have hK := fun v w' hb => hK0 v w' (.inl hb)
          have e73 : xq 73 = .int .i64 (kN : Int) := hx 10 (by rfl) (by rfl)
          clear hx hKc hK0
          have hki : (kN : Int) < 4 := by omega
          simp only [frameOf, fill, setSlot, sg, Nat.reduceBEq, if_true, if_false, Nat.reduceAdd, Nat.reduceEqDiff, HSL.out] at hK ⊢
          simp only [e73] at hK ⊢
          clear e73
          go_wp2_with (fail)
          exact hK _ _ (Below.refl _ _) rfl
         ·intro xq wa hba hx K hK0
          have hK := fun v w' hb => hK0 v w' (.inl hb)
          have e74 : xq 74 = .pointer (some ⟨wb.heap.size, kN * 2, none⟩) := hx 11 (by rfl) (by rfl)
          clear hx hKc hK0
          simp only [frameOf, fill, setSlot, sg, Nat.reduceBEq, if_true, if_false, Nat.reduceAdd, Nat.reduceEqDiff, HSL.out] at hK ⊢
          simp only [e74] at hK ⊢
          clear e74
          go_wp2_with (fail)
          exact hK _ _ (Below.refl _ _) rfl
         ·intro xq wa hba hx K hK0
          have hK := fun v w' hb => hK0 v w' (.inl hb)
          have e75 : xq 75 = .pointer (some ⟨wb.heap.size, kN * 2 + 1, none⟩) := hx 12 (by rfl) (by rfl)
          have fit_0 : Holds wa (wb.heap.size) 76 #[.int .i64 B.l0, .int .i64 B.h0, .int .i64 B.l1, .int .i64 B.h1, .int .i64 B.l2, .int .i64 B.h2, .int .i64 B.l3, .int .i64 B.h3] := hx 19 (by rfl) (by rfl)
          clear hx hKc hK0
          have ku : wa.cell? ⟨wb.heap.size, kN * 2 + 1, none⟩ = some (.int .i64 ub) := by rw [HUB.out, ← (bxl_bLo B hk4).2]; exact box_hi fit_0 hk4
          simp only [frameOf, fill, setSlot, sg, Nat.reduceBEq, if_true, if_false, Nat.reduceAdd, Nat.reduceEqDiff, HSL.out] at hK ⊢
          simp only [e75] at hK ⊢
          clear e75
          go_wp2_with (fail)
          exact hK _ _ (Below.refl _ _) rfl
         ·intro xq wa hba hx K hK0
          have hK := fun v w' hb => hK0 v w' (.inl hb)
          have e72 : xq 72 = .int .i64 NH := hx 9 (by rfl) (by rfl)
          have e76 : xq 76 = .int .i64 ub := hx 13 (by rfl) (by rfl)
          clear hx hKc hK0
          simp only [frameOf, fill, setSlot, sg, Nat.reduceBEq, if_true, if_false, Nat.reduceAdd, Nat.reduceEqDiff, HSL.out] at hK ⊢
          simp only [e72, e76] at hK ⊢
          clear e72 e76
          go_wp2_with (fail)
          exact hK _ _ (Below.refl _ _) rfl
         ·intro xq wa hba hx K hK0
          have hK := fun v w' hb => hK0 v w' (.inl hb)
          have e77 : xq 77 = .int .i64 (NH * ub) := hx 14 (by rfl) (by rfl)
          clear hx hKc hK0
          simp only [frameOf, fill, setSlot, sg, Nat.reduceBEq, if_true, if_false, Nat.reduceAdd, Nat.reduceEqDiff, HSL.out] at hK ⊢
          simp only [e77] at hK ⊢
          clear e77
          go_wp2_with (fail)
          exact hK _ _ (Below.refl _ _) rfl
         ·intro xq wa hba hx K hK0
          have hK := fun v w' hb => hK0 v w' (.inl hb)
          have e70 : xq 70 = .int .i64 (NL * lb / 40) := hx 7 (by rfl) (by rfl)
          have e78 : xq 78 = .int .i64 (NH * ub / 40) := hx 15 (by rfl) (by rfl)
          clear hx hKc hK0
          simp only [frameOf, fill, setSlot, sg, Nat.reduceBEq, if_true, if_false, Nat.reduceAdd, Nat.reduceEqDiff, HSL.out] at hK ⊢
          simp only [e70, e78] at hK ⊢
          clear e70 e78
          go_wp2_with (fail)
          exact hK _ _ (Below.refl _ _) rfl
         ·intro xq wa hba hx K hK0
          have hK := fun v w' hb => hK0 v w' (.inr hb)
          have e79 : xq 79 = .agg #[.int .i64 (NL * lb / 40), .int .i64 (NH * ub / 40)] := hx 16 (by rfl) (by rfl)
          have fih_0 : Holds wa (wb.heap.size + 1) 60 #[.int .i64 0, .int .i64 0] := hx 20 (by rfl) (by rfl)
          have fit_0 : Holds wa (wb.heap.size) 76 #[.int .i64 B.l0, .int .i64 B.h0, .int .i64 B.l1, .int .i64 B.h1, .int .i64 B.l2, .int .i64 B.h2, .int .i64 B.l3, .int .i64 B.h3] := hx 19 (by rfl) (by rfl)
          clear hx hKc hK0
          obtain ⟨kh0, kh1⟩ := fih_0.c2
          obtain ⟨zh0, zh1⟩ := fih_0.f2
          simp only [frameOf, fill, setSlot, sg, Nat.reduceBEq, if_true, if_false, Nat.reduceAdd, Nat.reduceEqDiff, HSL.out] at hK ⊢
          have E79 := Lib.hid e79
          simp only [e79] at hK ⊢
          clear e79
          go_wp2_with (fail)
          refine hK undef _ ⟨(by have h := hba; exact zg), ?_⟩ ⟨(by have h := fih_0; exact zp2), (by have h := fit_0; exact zp2)⟩
          intro jq xq hd hne hv
          match jq, hd, hne, hv with
          | 0, _, _, hv => exact hv
          | 1, _, _, hv => exact hv
          | 2, _, _, hv => exact hv
          | 3, _, _, hv => exact hv
          | 4, _, _, hv => exact hv
          | 5, _, _, hv => exact hv
          | 6, _, _, hv => exact hv
          | 7, _, _, hv => exact hv
          | 8, _, _, hv => exact hv
          | 9, _, _, hv => exact hv
          | 10, _, _, hv => exact hv
          | 11, _, _, hv => exact hv
          | 12, _, _, hv => exact hv
          | 13, _, _, hv => exact hv
          | 14, _, _, hv => exact hv
          | 15, _, _, hv => exact hv
          | 16, _, _, hv => exact hv
          | 17, _, hne, _ => exact absurd rfl hne
          | 18, _, _, hv => have h : Holds _ _ _ _ := hv; show Holds _ _ _ _; (repeat first | (with_reducible first | assumption | apply Holds.set8 | apply Holds.set2 | apply Holds.set4 | apply Holds.putL | ((refine Holds.new' _ _ ?_); (simp; done)) | refine Holds.alloc ?_ _ | refine Holds.drew ?_ | refine Holds.far ?_ (by simp only [ne_eq]; omega) _) | rfl)
          | 19, _, _, hv => have h : Holds _ _ _ _ := hv; show Holds _ _ _ _; (repeat first | (with_reducible first | assumption | apply Holds.set8 | apply Holds.set2 | apply Holds.set4 | apply Holds.putL | ((refine Holds.new' _ _ ?_); (simp; done)) | refine Holds.alloc ?_ _ | refine Holds.drew ?_ | refine Holds.far ?_ (by simp only [ne_eq]; omega) _) | rfl)
          | 20, hd, _, _ => exact absurd hd (by decide)
          | _ + 21, _, _, _ => trivial
        ·intro xq wa hba hx
         have e63 : xq 63 = .pointer (some ⟨wp.heap.size, 0, none⟩) := hx 0 (by decide)
         have e64 : xq 64 = .int .i64 NL := hx 1 (by decide)
         have e65 : xq 65 = .int .i64 (kN : Int) := hx 2 (by decide)
         have e66 : xq 66 = .pointer (some ⟨wb.heap.size, kN * 2, none⟩) := hx 3 (by decide)
         have e67 : xq 67 = .pointer (some ⟨wb.heap.size, kN * 2, none⟩) := hx 4 (by decide)
         have e68 : xq 68 = .int .i64 lb := hx 5 (by decide)
         have e69 : xq 69 = .int .i64 (NL * lb) := hx 6 (by decide)
         have e70 : xq 70 = .int .i64 (NL * lb / 40) := hx 7 (by decide)
         have e71 : xq 71 = .pointer (some ⟨wp.heap.size, 1, none⟩) := hx 8 (by decide)
         have e72 : xq 72 = .int .i64 NH := hx 9 (by decide)
         have e73 : xq 73 = .int .i64 (kN : Int) := hx 10 (by decide)
         have e74 : xq 74 = .pointer (some ⟨wb.heap.size, kN * 2, none⟩) := hx 11 (by decide)
         have e75 : xq 75 = .pointer (some ⟨wb.heap.size, kN * 2 + 1, none⟩) := hx 12 (by decide)
         have e76 : xq 76 = .int .i64 ub := hx 13 (by decide)
         have e77 : xq 77 = .int .i64 (NH * ub) := hx 14 (by decide)
         have e78 : xq 78 = .int .i64 (NH * ub / 40) := hx 15 (by decide)
         have e79 : xq 79 = .agg #[.int .i64 (NL * lb / 40), .int .i64 (NH * ub / 40)] := hx 16 (by decide)
         obtain ⟨fn17_0, fn17_1⟩ := hx 17 (by decide)
         clear hx
         simp only [frameOf, fill, setSlot, sg, Nat.reduceBEq, if_true, if_false, Nat.reduceAdd, Nat.reduceEqDiff, HSL.out]
         simp only [e63, e64, e65, e66, e67, e68, e69, e70, e71, e72, e73, e74, e75, e76, e77, e78, e79]
         clear e63 e64 e65 e66 e67 e68 e69 e70 e71 e72 e73 e74 e75 e76 e77 e78 e79
         have hne : Hid (Below wb.heap.size wb wa) := Lib.hid (HBp.out.trans hba)
         have HF0 := Lib.hid fn17_0
         have HF1 := Lib.hid fn17_1
         clear hba fn17_0 fn17_1
         go_wp2_with fail
         go_meet
         exact ⟨by rw [HW1.out], by rw [HU1.out], (by rw [HZ1.out]; exact HF1.out), (by rw [HWL.out, HWH.out]; exact HF0.out), hne.out⟩
       ·have hk0 : (decide (0 ≤ k) && decide (k ≤ 3)) = false := by simp only [Bool.and_eq_false_iff, decide_eq_false_iff_not]; omega
        have hu : U = 1 := by rw [QU.out, weighErr, if_neg (by simp), if_pos hk0]
        have HU1 := Lib.hid hu
        have HU0 : Hid (¬ U = 0) := Lib.hid (by rw [hu]; decide)
        clear hu hk0
        have f2 : WL = 0 := by rw [QWL.out, zIf, if_neg HU0.out]
        have f3 : WH = 0 := by rw [QWH.out, zIf, if_neg HU0.out]
        have F2 := Lib.hid f2
        have F3 := Lib.hid f3
        clear f2 f3
        go_wp2_with fail
        go_meet
        exact ⟨by rw [HW1.out], by rw [HU1.out], (by rw [HZ1.out]; have h := Hwtm.out; exact zp2), (by rw [F2.out, F3.out]; have h := Hwhm.out; exact zp2), HBm.out.trans (by have h := hsm; (repeat' (first | (with_reducible first | exact Below.refl _ _ | assumption | refine Below.alloc ?_ ?_ _ | refine Below.drew ?_ | refine Below.setCell ?_ ?_ _ | exact Nat.le_refl _) | omega | (simp only [World.size_alloc, World.size_setCell, World.size_drew]; omega) | (simp; omega) | (simp; done))))⟩
      ·have hk0 : (decide (0 ≤ k) && decide (k ≤ 3)) = false := by simp only [Bool.and_eq_false_iff, decide_eq_false_iff_not]; omega
       have hu : U = 1 := by rw [QU.out, weighErr, if_neg (by simp), if_pos hk0]
       have HU1 := Lib.hid hu
       have HU0 : Hid (¬ U = 0) := Lib.hid (by rw [hu]; decide)
       clear hu hk0
       have f2 : WL = 0 := by rw [QWL.out, zIf, if_neg HU0.out]
       have f3 : WH = 0 := by rw [QWH.out, zIf, if_neg HU0.out]
       have F2 := Lib.hid f2
       have F3 := Lib.hid f3
       clear f2 f3
       go_wp2_with fail
       go_meet
       exact ⟨by rw [HW1.out], by rw [HU1.out], (by rw [HZ1.out]; have h := Hwtm.out; exact zp2), (by rw [F2.out, F3.out]; have h := Hwhm.out; exact zp2), HBm.out.trans (by have h := hsm; (repeat' (first | (with_reducible first | exact Below.refl _ _ | assumption | refine Below.alloc ?_ ?_ _ | refine Below.drew ?_ | refine Below.setCell ?_ ?_ _ | exact Nat.le_refl _) | omega | (simp only [World.size_alloc, World.size_setCell, World.size_drew]; omega) | (simp; omega) | (simp; done))))⟩
     ·have hn0 : n = 0 := by omega
      have he : B.empty = true := by rw [QB.out]; exact (fitL_nil HNN.out).2 (by rw [← QN.out]; exact hn0)
      have hw : W = 7 := by rw [QW.out, boundErr_clash he]
      have HW1 := Lib.hid hw
      have HW0 : Hid (¬ W = 0) := Lib.hid (by rw [hw]; decide)
      have HEB := Lib.hid he
      clear hw he hn0
      have f1 : Z = Bx.zero := by rw [QZ.out, boxIf, if_neg HW0.out]
      have F1 := Lib.hid f1
      clear f1
      by_cases t2 : 0 ≤ k
      ·by_cases t3 : k ≤ 3
       ·have hk0 : (decide (0 ≤ k) && decide (k ≤ 3)) = true := by simp only [Bool.and_eq_true, decide_eq_true_eq]; omega
        have hu : U = 7 := by rw [QU.out, weighErr, if_neg (by simp), if_neg (by simp [hk0]), if_pos HEB.out]
        have HU1 := Lib.hid hu
        have HU0 : Hid (¬ U = 0) := Lib.hid (by rw [hu]; decide)
        clear hu hk0
        have f2 : WL = 0 := by rw [QWL.out, zIf, if_neg HU0.out]
        have f3 : WH = 0 := by rw [QWH.out, zIf, if_neg HU0.out]
        have F2 := Lib.hid f2
        have F3 := Lib.hid f3
        clear f2 f3
        go_wp2_with fail
        go_meet
        exact ⟨by rw [HW1.out], by rw [HU1.out], (by rw [F1.out]; exact Hwtl.out), (by rw [F2.out, F3.out]; exact Hwhl.out), HBl.out⟩
       ·have hk0 : (decide (0 ≤ k) && decide (k ≤ 3)) = false := by simp only [Bool.and_eq_false_iff, decide_eq_false_iff_not]; omega
        have hu : U = 1 := by rw [QU.out, weighErr, if_neg (by simp), if_pos hk0]
        have HU1 := Lib.hid hu
        have HU0 : Hid (¬ U = 0) := Lib.hid (by rw [hu]; decide)
        clear hu hk0
        have f2 : WL = 0 := by rw [QWL.out, zIf, if_neg HU0.out]
        have f3 : WH = 0 := by rw [QWH.out, zIf, if_neg HU0.out]
        have F2 := Lib.hid f2
        have F3 := Lib.hid f3
        clear f2 f3
        go_wp2_with fail
        go_meet
        exact ⟨by rw [HW1.out], by rw [HU1.out], (by rw [F1.out]; exact Hwtl.out), (by rw [F2.out, F3.out]; exact Hwhl.out), HBl.out⟩
      ·have hk0 : (decide (0 ≤ k) && decide (k ≤ 3)) = false := by simp only [Bool.and_eq_false_iff, decide_eq_false_iff_not]; omega
       have hu : U = 1 := by rw [QU.out, weighErr, if_neg (by simp), if_pos hk0]
       have HU1 := Lib.hid hu
       have HU0 : Hid (¬ U = 0) := Lib.hid (by rw [hu]; decide)
       clear hu hk0
       have f2 : WL = 0 := by rw [QWL.out, zIf, if_neg HU0.out]
       have f3 : WH = 0 := by rw [QWH.out, zIf, if_neg HU0.out]
       have F2 := Lib.hid f2
       have F3 := Lib.hid f3
       clear f2 f3
       go_wp2_with fail
       go_meet
       exact ⟨by rw [HW1.out], by rw [HU1.out], (by rw [F1.out]; exact Hwtl.out), (by rw [F2.out, F3.out]; exact Hwhl.out), HBl.out⟩
    ·have hq : (E == 0) = false := by simp [hE0]
     have hw : W = E := by rw [QW.out, boundErr_bad hE0]
     have hu : U = E := by rw [QU.out, weighErr, if_pos hE0]
     have HW1 := Lib.hid hw
     have HU1 := Lib.hid hu
     have HU0 : Hid (¬ U = 0) := Lib.hid (by rw [hu]; exact hE0)
     have HW0 : Hid (¬ W = 0) := Lib.hid (by rw [hw]; exact hE0)
     clear hw hu
     have f1 : Z = Bx.zero := by rw [QZ.out, boxIf, if_neg HW0.out]
     have F1 := Lib.hid f1
     clear f1
     have f2 : WL = 0 := by rw [QWL.out, zIf, if_neg HU0.out]
     have f3 : WH = 0 := by rw [QWH.out, zIf, if_neg HU0.out]
     have F2 := Lib.hid f2
     have F3 := Lib.hid f3
     clear f2 f3
     go_wp2_with fail
     go_meet
     exact ⟨by rw [HW1.out], by rw [HU1.out], (by rw [F1.out]; show Holds _ (wb.heap.size) 76 #[.int .i64 0, .int .i64 0, .int .i64 0, .int .i64 0, .int .i64 0, .int .i64 0, .int .i64 0, .int .i64 0]; exact zp2), (by rw [F2.out, F3.out]; exact zp2), zg⟩
   case rest =>
    rename World => wu
    obtain ⟨rfl, rfl, hwt, hwh, hbu⟩ := hcut
    have Hwtu := Lib.hid hwt
    have Hwhu := Lib.hid hwh
    have HSu := Lib.hid hbu
    have HBu := Lib.hid (HBb.out.trans (hbu.mono hsb))
    have hsu := HBu.out.size
    have hstu := hbu.size
    have Hgu := Lib.hid (Hgb.out.up hbu)
    have Hcu := Lib.hid (Hcb.out.up hbu)
    have Hgou := Lib.hid (Hgob.out.up hbu)
    have Hcou := Lib.hid (Hcob.out.up hbu)
    have Hgxu := Lib.hid (Hgxb.out.up hbu)
    have Hcxu := Lib.hid (Hcxb.out.up hbu)
    have HGu := Lib.hid (HGb.out.up hbu)
    have HAu := Lib.hid (HAb.out.up hbu)
    have HPu := Lib.hid (HPb.out.up hbu)
    have HMu := Lib.hid (HMb.out.up hbu)
    have HXu := Lib.hid (HXb.out.up hbu)
    have HYu := Lib.hid (HYb.out.up hbu)
    clear hwt hwh hbu lt_b1 l1_gx l1_cx
    clear kgx0 kgx1 kgx2 lt_gx kcx0 kcx1 kcx2 lt_cx
    obtain ⟨kgo0, kgo1, kgo2⟩ := Hgou.out.c3
    have lt_go : bn12 < wu.heap.size := Hgou.out.lt
    obtain ⟨kco0, kco1, kco2⟩ := Hcou.out.c3
    have lt_co : bn13 < wu.heap.size := Hcou.out.lt
    go_wp2_with fail
    refine (Bounds_z err miss full emp G1n12 A1n13 d1n12 c1n13 gs hs _ (HPu.out.up zg) g7' (HMu.out.up zg) h9' QE.out QB.out QW.out QZ.out).mono ?_
    rintro e wd ⟨rfl, hbd⟩
    have Hgd := Lib.hid (Holds.up (by have h := Hgu.out; exact zp2 : Holds _ (w.heap.size) 24 #[.int .i64 err, .int .i64 miss, .slice G gs.length d]) hbd)
    have Hcd := Lib.hid (Holds.up (by have h := Hcu.out; exact zp2 : Holds _ (w.heap.size + 1) 27 #[.int .i64 full, .int .i64 emp, .slice A hs.length c]) hbd)
    have Hgod := Lib.hid (Holds.up (by have h := Hgou.out; exact zp2 : Holds _ (bn12) 24 #[.int .i64 err, .int .i64 miss, .slice G1n12 gs.length d1n12]) hbd)
    have Hcod := Lib.hid (Holds.up (by have h := Hcou.out; exact zp2 : Holds _ (bn13) 27 #[.int .i64 full, .int .i64 emp, .slice A1n13 hs.length c1n13]) hbd)
    have Hgxd := Lib.hid (Holds.up (by have h := Hgxu.out; exact zp2 : Holds _ (bn14) 49 #[.int .i64 err, .int .i64 miss, .slice A8n14 gs.length c8n14]) hbd)
    have Hcxd := Lib.hid (Holds.up (by have h := Hcxu.out; exact zp2 : Holds _ (bn15) 37 #[.int .i64 full, .int .i64 emp, .slice A9n15 hs.length c9n15]) hbd)
    have Hwtd := Lib.hid (Holds.up (by have h := Hwtu.out; exact zp2 : Holds _ (wb.heap.size) 76 #[.int .i64 Z.l0, .int .i64 Z.h0, .int .i64 Z.l1, .int .i64 Z.h1, .int .i64 Z.l2, .int .i64 Z.h2, .int .i64 Z.l3, .int .i64 Z.h3]) hbd)
    have Hwhd := Lib.hid (Holds.up (by have h := Hwhu.out; exact zp2 : Holds _ (wb.heap.size + 1) 60 #[.int .i64 WL, .int .i64 WH]) hbd)
    have HSd : Hid (Below wu.heap.size wu wd) := Lib.hid (Below.trans zg (hbd.mono (by first | exact Nat.le_refl _ | omega | (simp; done) | (simp; omega))))
    have HBd : Hid (Below w.heap.size w wd) := Lib.hid (HBu.out.trans (HSd.out.mono hsu))
    have hsd := HBd.out.size
    have hstd := HSd.out.size
    have HGd := Lib.hid (HGu.out.up HSd.out)
    have HAd := Lib.hid (HAu.out.up HSd.out)
    have HPd := Lib.hid (HPu.out.up HSd.out)
    have HMd := Lib.hid (HMu.out.up HSd.out)
    have HXd := Lib.hid (HXu.out.up HSd.out)
    have HYd := Lib.hid (HYu.out.up HSd.out)
    clear hbd
    clear kgo0 kgo1 kgo2 lt_go kco0 kco1 kco2 lt_co
    obtain ⟨kgo0, kgo1, kgo2⟩ := Hgod.out.c3
    have lt_go : bn12 < wd.heap.size := Hgod.out.lt
    obtain ⟨kco0, kco1, kco2⟩ := Hcod.out.c3
    have lt_co : bn13 < wd.heap.size := Hcod.out.lt
    have l2_go := Nat.lt_succ_of_lt lt_go
    have l2_co := Nat.lt_succ_of_lt lt_co
    go_wp2_with fail
    refine (Mixture_m err miss full emp G1n12 A1n13 d1n12 c1n13 gs hs _ (HPd.out.up zg) g7' (HMd.out.up zg) h9' QE.out QB.out QW.out QM0.out QM1.out QM2.out QM3.out).mono ?_
    rintro e wf ⟨rfl, hbf⟩
    have Hgf := Lib.hid (Holds.up (by have h := Hgd.out; exact zp2 : Holds _ (w.heap.size) 24 #[.int .i64 err, .int .i64 miss, .slice G gs.length d]) hbf)
    have Hcf := Lib.hid (Holds.up (by have h := Hcd.out; exact zp2 : Holds _ (w.heap.size + 1) 27 #[.int .i64 full, .int .i64 emp, .slice A hs.length c]) hbf)
    have Hgof := Lib.hid (Holds.up (by have h := Hgod.out; exact zp2 : Holds _ (bn12) 24 #[.int .i64 err, .int .i64 miss, .slice G1n12 gs.length d1n12]) hbf)
    have Hcof := Lib.hid (Holds.up (by have h := Hcod.out; exact zp2 : Holds _ (bn13) 27 #[.int .i64 full, .int .i64 emp, .slice A1n13 hs.length c1n13]) hbf)
    have Hgxf := Lib.hid (Holds.up (by have h := Hgxd.out; exact zp2 : Holds _ (bn14) 49 #[.int .i64 err, .int .i64 miss, .slice A8n14 gs.length c8n14]) hbf)
    have Hcxf := Lib.hid (Holds.up (by have h := Hcxd.out; exact zp2 : Holds _ (bn15) 37 #[.int .i64 full, .int .i64 emp, .slice A9n15 hs.length c9n15]) hbf)
    have Hwtf := Lib.hid (Holds.up (by have h := Hwtd.out; exact zp2 : Holds _ (wb.heap.size) 76 #[.int .i64 Z.l0, .int .i64 Z.h0, .int .i64 Z.l1, .int .i64 Z.h1, .int .i64 Z.l2, .int .i64 Z.h2, .int .i64 Z.l3, .int .i64 Z.h3]) hbf)
    have Hwhf := Lib.hid (Holds.up (by have h := Hwhd.out; exact zp2 : Holds _ (wb.heap.size + 1) 60 #[.int .i64 WL, .int .i64 WH]) hbf)
    have Hb1f := Lib.hid (Holds.up (zp2 : Holds _ (wd.heap.size) 76 #[.int .i64 Z.l0, .int .i64 Z.h0, .int .i64 Z.l1, .int .i64 Z.h1, .int .i64 Z.l2, .int .i64 Z.h2, .int .i64 Z.l3, .int .i64 Z.h3]) hbf)
    have HSf : Hid (Below wd.heap.size wd wf) := Lib.hid (Below.trans zg (hbf.mono (by first | exact Nat.le_refl _ | omega | (simp; done) | (simp; omega))))
    have HBf : Hid (Below w.heap.size w wf) := Lib.hid (HBd.out.trans (HSf.out.mono hsd))
    have hsf := HBf.out.size
    have hstf := HSf.out.size
    have HGf := Lib.hid (HGd.out.up HSf.out)
    have HAf := Lib.hid (HAd.out.up HSf.out)
    have HPf := Lib.hid (HPd.out.up HSf.out)
    have HMf := Lib.hid (HMd.out.up HSf.out)
    have HXf := Lib.hid (HXd.out.up HSf.out)
    have HYf := Lib.hid (HYd.out.up HSf.out)
    clear hbf
    clear kgo0 kgo1 kgo2 lt_go kco0 kco1 kco2 lt_co
    obtain ⟨kgo0, kgo1, kgo2⟩ := Hgof.out.c3
    have lt_go : bn12 < wf.heap.size := Hgof.out.lt
    obtain ⟨kco0, kco1, kco2⟩ := Hcof.out.c3
    have lt_co : bn13 < wf.heap.size := Hcof.out.lt
    clear l2_go l2_co
    have l2_go := Nat.lt_succ_of_lt lt_go
    have l2_co := Nat.lt_succ_of_lt lt_co
    go_wp2_with fail
    refine (Weight_w err miss full emp G1n12 A1n13 d1n12 c1n13 gs hs k _ (HPf.out.up zg) g7' (HMf.out.up zg) h9' QE.out QB.out QU.out QNL.out QNH.out QWL.out QWH.out).mono ?_
    rintro e wh ⟨rfl, hbh⟩
    have Hgh := Lib.hid (Holds.up (by have h := Hgf.out; exact zp2 : Holds _ (w.heap.size) 24 #[.int .i64 err, .int .i64 miss, .slice G gs.length d]) hbh)
    have Hch := Lib.hid (Holds.up (by have h := Hcf.out; exact zp2 : Holds _ (w.heap.size + 1) 27 #[.int .i64 full, .int .i64 emp, .slice A hs.length c]) hbh)
    have Hgoh := Lib.hid (Holds.up (by have h := Hgof.out; exact zp2 : Holds _ (bn12) 24 #[.int .i64 err, .int .i64 miss, .slice G1n12 gs.length d1n12]) hbh)
    have Hcoh := Lib.hid (Holds.up (by have h := Hcof.out; exact zp2 : Holds _ (bn13) 27 #[.int .i64 full, .int .i64 emp, .slice A1n13 hs.length c1n13]) hbh)
    have Hgxh := Lib.hid (Holds.up (by have h := Hgxf.out; exact zp2 : Holds _ (bn14) 49 #[.int .i64 err, .int .i64 miss, .slice A8n14 gs.length c8n14]) hbh)
    have Hcxh := Lib.hid (Holds.up (by have h := Hcxf.out; exact zp2 : Holds _ (bn15) 37 #[.int .i64 full, .int .i64 emp, .slice A9n15 hs.length c9n15]) hbh)
    have Hwth := Lib.hid (Holds.up (by have h := Hwtf.out; exact zp2 : Holds _ (wb.heap.size) 76 #[.int .i64 Z.l0, .int .i64 Z.h0, .int .i64 Z.l1, .int .i64 Z.h1, .int .i64 Z.l2, .int .i64 Z.h2, .int .i64 Z.l3, .int .i64 Z.h3]) hbh)
    have Hwhh := Lib.hid (Holds.up (by have h := Hwhf.out; exact zp2 : Holds _ (wb.heap.size + 1) 60 #[.int .i64 WL, .int .i64 WH]) hbh)
    have Hb1h := Lib.hid (Holds.up (by have h := Hb1f.out; exact zp2 : Holds _ (wd.heap.size) 76 #[.int .i64 Z.l0, .int .i64 Z.h0, .int .i64 Z.l1, .int .i64 Z.h1, .int .i64 Z.l2, .int .i64 Z.h2, .int .i64 Z.l3, .int .i64 Z.h3]) hbh)
    have Hm1h := Lib.hid (Holds.up (zp2 : Holds _ (wf.heap.size) 28 #[.int .i64 M0, .int .i64 M1, .int .i64 M2, .int .i64 M3]) hbh)
    have HSh : Hid (Below wf.heap.size wf wh) := Lib.hid (Below.trans zg (hbh.mono (by first | exact Nat.le_refl _ | omega | (simp; done) | (simp; omega))))
    have HBh : Hid (Below w.heap.size w wh) := Lib.hid (HBf.out.trans (HSh.out.mono hsf))
    have hsh := HBh.out.size
    have hsth := HSh.out.size
    have HGh := Lib.hid (HGf.out.up HSh.out)
    have HAh := Lib.hid (HAf.out.up HSh.out)
    have HPh := Lib.hid (HPf.out.up HSh.out)
    have HMh := Lib.hid (HMf.out.up HSh.out)
    have HXh := Lib.hid (HXf.out.up HSh.out)
    have HYh := Lib.hid (HYf.out.up HSh.out)
    clear hbh
    clear kgo0 kgo1 kgo2 lt_go kco0 kco1 kco2 lt_co
    obtain ⟨kwt0, kwt1, kwt2, kwt3, kwt4, kwt5, kwt6, kwt7⟩ := Hwth.out.c8
    have lt_wt : wb.heap.size < wh.heap.size := Hwth.out.lt
    obtain ⟨kwh0, kwh1⟩ := Hwhh.out.c2
    have lt_wh : wb.heap.size + 1 < wh.heap.size := Hwhh.out.lt
    obtain ⟨kb10, kb11, kb12, kb13, kb14, kb15, kb16, kb17⟩ := Hb1h.out.c8
    have lt_b1 : wd.heap.size < wh.heap.size := Hb1h.out.lt
    obtain ⟨km10, km11, km12, km13⟩ := Hm1h.out.c4
    have lt_m1 : wf.heap.size < wh.heap.size := Hm1h.out.lt
    clear l2_go l2_co
    have l2_wt := Nat.lt_succ_of_lt lt_wt
    have l2_wh := Nat.lt_succ_of_lt lt_wh
    have l2_b1 := Nat.lt_succ_of_lt lt_b1
    have l2_m1 := Nat.lt_succ_of_lt lt_m1
    have hq1 := neq_spans Z
    have hq2 := neq_span WL WH
    by_cases hW0 : W = 0
    ·have hqw : (W != 0) = false := by simp [hW0]
     have hE0 : E = 0 := boundErr_E (QW.out.symm.trans hW0)
     have hBe : B.empty = false := boundErr_B (QW.out.symm.trans hW0)
     obtain ⟨hg0, hc0⟩ := bothErr_zero (QE.out.symm.trans hE0)
     obtain ⟨_, _, _, i0, i1, _, _⟩ := gateErr_zero hg0
     obtain ⟨_, _, _, _, _, ht, hn⟩ := cartErr_zero hc0
     have HT := Lib.hid ht
     rw [QB.out] at hBe
     obtain ⟨m0, m1, m2, m3, e0, e1, e2, e3, hmz, hfz⟩ := mix_good hn hBe
     rw [← QB.out] at e0 e1 e2 e3
     have g0 : M0 = m0 := by rw [QM0.out, zIf, if_pos hW0]; exact e0
     have g1 : M1 = m1 := by rw [QM1.out, zIf, if_pos hW0]; exact e1
     have g2 : M2 = m2 := by rw [QM2.out, zIf, if_pos hW0]; exact e2
     have g3 : M3 = m3 := by rw [QM3.out, zIf, if_pos hW0]; exact e3
     subst g0
     subst g1
     subst g2
     subst g3
     have HMZ := Lib.hid hmz
     have HFZ := Lib.hid hfz
     have HW0 := Lib.hid hW0
     obtain ⟨q0, q1, q2, q3, _⟩ := mix_parts hmz
     clear hg0 hc0 ht hn hBe hE0 hmz hfz hW0 e0 e1 e2 e3
     go_wp2_with fail
     refine (refMixed_any M0 M1 M2 M3 _).mono ?_
     rw [HMZ.out]
     rintro e wi ⟨rfl, hbi⟩
     have Hgi := Lib.hid (Holds.up (by have h := Hgh.out; exact zp2 : Holds _ (w.heap.size) 24 #[.int .i64 err, .int .i64 miss, .slice G gs.length d]) hbi)
     have Hci := Lib.hid (Holds.up (by have h := Hch.out; exact zp2 : Holds _ (w.heap.size + 1) 27 #[.int .i64 full, .int .i64 emp, .slice A hs.length c]) hbi)
     have Hgoi := Lib.hid (Holds.up (by have h := Hgoh.out; exact zp2 : Holds _ (bn12) 24 #[.int .i64 err, .int .i64 miss, .slice G1n12 gs.length d1n12]) hbi)
     have Hcoi := Lib.hid (Holds.up (by have h := Hcoh.out; exact zp2 : Holds _ (bn13) 27 #[.int .i64 full, .int .i64 emp, .slice A1n13 hs.length c1n13]) hbi)
     have Hgxi := Lib.hid (Holds.up (by have h := Hgxh.out; exact zp2 : Holds _ (bn14) 49 #[.int .i64 err, .int .i64 miss, .slice A8n14 gs.length c8n14]) hbi)
     have Hcxi := Lib.hid (Holds.up (by have h := Hcxh.out; exact zp2 : Holds _ (bn15) 37 #[.int .i64 full, .int .i64 emp, .slice A9n15 hs.length c9n15]) hbi)
     have Hwti := Lib.hid (Holds.up (by have h := Hwth.out; exact zp2 : Holds _ (wb.heap.size) 76 #[.int .i64 Z.l0, .int .i64 Z.h0, .int .i64 Z.l1, .int .i64 Z.h1, .int .i64 Z.l2, .int .i64 Z.h2, .int .i64 Z.l3, .int .i64 Z.h3]) hbi)
     have Hwhi := Lib.hid (Holds.up (by have h := Hwhh.out; exact zp2 : Holds _ (wb.heap.size + 1) 60 #[.int .i64 WL, .int .i64 WH]) hbi)
     have Hb1i := Lib.hid (Holds.up (by have h := Hb1h.out; exact zp2 : Holds _ (wd.heap.size) 76 #[.int .i64 Z.l0, .int .i64 Z.h0, .int .i64 Z.l1, .int .i64 Z.h1, .int .i64 Z.l2, .int .i64 Z.h2, .int .i64 Z.l3, .int .i64 Z.h3]) hbi)
     have Hm1i := Lib.hid (Holds.up (by have h := Hm1h.out; exact zp2 : Holds _ (wf.heap.size) 28 #[.int .i64 M0, .int .i64 M1, .int .i64 M2, .int .i64 M3]) hbi)
     have Hn1i := Lib.hid (Holds.up (zp2 : Holds _ (wh.heap.size) 60 #[.int .i64 WL, .int .i64 WH]) hbi)
     have HSi : Hid (Below wh.heap.size wh wi) := Lib.hid (Below.trans zg (hbi.mono (by first | exact Nat.le_refl _ | omega | (simp; done) | (simp; omega))))
     have HBi : Hid (Below w.heap.size w wi) := Lib.hid (HBh.out.trans (HSi.out.mono hsh))
     have hsi := HBi.out.size
     have hsti := HSi.out.size
     have HGi := Lib.hid (HGh.out.up HSi.out)
     have HAi := Lib.hid (HAh.out.up HSi.out)
     have HPi := Lib.hid (HPh.out.up HSi.out)
     have HMi := Lib.hid (HMh.out.up HSi.out)
     have HXi := Lib.hid (HXh.out.up HSi.out)
     have HYi := Lib.hid (HYh.out.up HSi.out)
     clear hbi
     clear kwt0 kwt1 kwt2 kwt3 kwt4 kwt5 kwt6 kwt7 lt_wt kwh0 kwh1 lt_wh kb10 kb11 kb12 kb13 kb14 kb15 kb16 kb17 lt_b1 km10 km11 km12 km13 lt_m1
     obtain ⟨km10, km11, km12, km13⟩ := Hm1i.out.c4
     have lt_m1 : wf.heap.size < wi.heap.size := Hm1i.out.lt
     obtain ⟨kgx0, kgx1, kgx2⟩ := Hgxi.out.c3
     have lt_gx : bn14 < wi.heap.size := Hgxi.out.lt
     obtain ⟨kcx0, kcx1, kcx2⟩ := Hcxi.out.c3
     skip
     have lt_cx : bn15 < wi.heap.size := Hcxi.out.lt
     go_wp2_with fail
     refine (refFits_any err miss A8n14 gs.length c8n14 full emp A9n15 c9n15 hs M0 M1 M2 M3 q0 q1 q2 q3 i0 i1 _ (HYi.out.up zg) h9' HT.out).mono ?_
     rw [HFZ.out]
     rintro e wj ⟨rfl, hbj⟩
     have Hgj := Lib.hid (Holds.up (by have h := Hgi.out; exact zp2 : Holds _ (w.heap.size) 24 #[.int .i64 err, .int .i64 miss, .slice G gs.length d]) hbj)
     have Hcj := Lib.hid (Holds.up (by have h := Hci.out; exact zp2 : Holds _ (w.heap.size + 1) 27 #[.int .i64 full, .int .i64 emp, .slice A hs.length c]) hbj)
     have Hgoj := Lib.hid (Holds.up (by have h := Hgoi.out; exact zp2 : Holds _ (bn12) 24 #[.int .i64 err, .int .i64 miss, .slice G1n12 gs.length d1n12]) hbj)
     have Hcoj := Lib.hid (Holds.up (by have h := Hcoi.out; exact zp2 : Holds _ (bn13) 27 #[.int .i64 full, .int .i64 emp, .slice A1n13 hs.length c1n13]) hbj)
     have Hgxj := Lib.hid (Holds.up (by have h := Hgxi.out; exact zp2 : Holds _ (bn14) 49 #[.int .i64 err, .int .i64 miss, .slice A8n14 gs.length c8n14]) hbj)
     have Hcxj := Lib.hid (Holds.up (by have h := Hcxi.out; exact zp2 : Holds _ (bn15) 37 #[.int .i64 full, .int .i64 emp, .slice A9n15 hs.length c9n15]) hbj)
     have Hwtj := Lib.hid (Holds.up (by have h := Hwti.out; exact zp2 : Holds _ (wb.heap.size) 76 #[.int .i64 Z.l0, .int .i64 Z.h0, .int .i64 Z.l1, .int .i64 Z.h1, .int .i64 Z.l2, .int .i64 Z.h2, .int .i64 Z.l3, .int .i64 Z.h3]) hbj)
     have Hwhj := Lib.hid (Holds.up (by have h := Hwhi.out; exact zp2 : Holds _ (wb.heap.size + 1) 60 #[.int .i64 WL, .int .i64 WH]) hbj)
     have Hb1j := Lib.hid (Holds.up (by have h := Hb1i.out; exact zp2 : Holds _ (wd.heap.size) 76 #[.int .i64 Z.l0, .int .i64 Z.h0, .int .i64 Z.l1, .int .i64 Z.h1, .int .i64 Z.l2, .int .i64 Z.h2, .int .i64 Z.l3, .int .i64 Z.h3]) hbj)
     have Hm1j := Lib.hid (Holds.up (by have h := Hm1i.out; exact zp2 : Holds _ (wf.heap.size) 28 #[.int .i64 M0, .int .i64 M1, .int .i64 M2, .int .i64 M3]) hbj)
     have Hn1j := Lib.hid (Holds.up (by have h := Hn1i.out; exact zp2 : Holds _ (wh.heap.size) 60 #[.int .i64 WL, .int .i64 WH]) hbj)
     have HSj : Hid (Below wi.heap.size wi wj) := Lib.hid (Below.trans zg (hbj.mono (by first | exact Nat.le_refl _ | omega | (simp; done) | (simp; omega))))
     have HBj : Hid (Below w.heap.size w wj) := Lib.hid (HBi.out.trans (HSj.out.mono hsi))
     have hsj := HBj.out.size
     have hstj := HSj.out.size
     have HGj := Lib.hid (HGi.out.up HSj.out)
     have HAj := Lib.hid (HAi.out.up HSj.out)
     have HPj := Lib.hid (HPi.out.up HSj.out)
     have HMj := Lib.hid (HMi.out.up HSj.out)
     have HXj := Lib.hid (HXi.out.up HSj.out)
     have HYj := Lib.hid (HYi.out.up HSj.out)
     clear hbj
     clear km10 km11 km12 km13 lt_m1 kgx0 kgx1 kgx2 lt_gx kcx0 kcx1 kcx2 lt_cx
     obtain ⟨kg0, kg1, kg2⟩ := Hgj.out.c3
     have lt_g : w.heap.size < wj.heap.size := Hgj.out.lt
     obtain ⟨kgo0, kgo1, kgo2⟩ := Hgoj.out.c3
     have lt_go : bn12 < wj.heap.size := Hgoj.out.lt
     go_wp2_with fail
     refine (same_same err miss G1n12 G d1n12 d gs _ (HPj.out.up zg) (HGj.out.up zg) g7').mono ?_
     rintro e ws ⟨rfl, hbs⟩
     have Hgs := Lib.hid (Holds.up (by have h := Hgj.out; exact zp2 : Holds _ (w.heap.size) 24 #[.int .i64 err, .int .i64 miss, .slice G gs.length d]) hbs)
     have Hcs := Lib.hid (Holds.up (by have h := Hcj.out; exact zp2 : Holds _ (w.heap.size + 1) 27 #[.int .i64 full, .int .i64 emp, .slice A hs.length c]) hbs)
     have Hgos := Lib.hid (Holds.up (by have h := Hgoj.out; exact zp2 : Holds _ (bn12) 24 #[.int .i64 err, .int .i64 miss, .slice G1n12 gs.length d1n12]) hbs)
     have Hcos := Lib.hid (Holds.up (by have h := Hcoj.out; exact zp2 : Holds _ (bn13) 27 #[.int .i64 full, .int .i64 emp, .slice A1n13 hs.length c1n13]) hbs)
     have Hgxs := Lib.hid (Holds.up (by have h := Hgxj.out; exact zp2 : Holds _ (bn14) 49 #[.int .i64 err, .int .i64 miss, .slice A8n14 gs.length c8n14]) hbs)
     have Hcxs := Lib.hid (Holds.up (by have h := Hcxj.out; exact zp2 : Holds _ (bn15) 37 #[.int .i64 full, .int .i64 emp, .slice A9n15 hs.length c9n15]) hbs)
     have Hwts := Lib.hid (Holds.up (by have h := Hwtj.out; exact zp2 : Holds _ (wb.heap.size) 76 #[.int .i64 Z.l0, .int .i64 Z.h0, .int .i64 Z.l1, .int .i64 Z.h1, .int .i64 Z.l2, .int .i64 Z.h2, .int .i64 Z.l3, .int .i64 Z.h3]) hbs)
     have Hwhs := Lib.hid (Holds.up (by have h := Hwhj.out; exact zp2 : Holds _ (wb.heap.size + 1) 60 #[.int .i64 WL, .int .i64 WH]) hbs)
     have Hb1s := Lib.hid (Holds.up (by have h := Hb1j.out; exact zp2 : Holds _ (wd.heap.size) 76 #[.int .i64 Z.l0, .int .i64 Z.h0, .int .i64 Z.l1, .int .i64 Z.h1, .int .i64 Z.l2, .int .i64 Z.h2, .int .i64 Z.l3, .int .i64 Z.h3]) hbs)
     have Hm1s := Lib.hid (Holds.up (by have h := Hm1j.out; exact zp2 : Holds _ (wf.heap.size) 28 #[.int .i64 M0, .int .i64 M1, .int .i64 M2, .int .i64 M3]) hbs)
     have Hn1s := Lib.hid (Holds.up (by have h := Hn1j.out; exact zp2 : Holds _ (wh.heap.size) 60 #[.int .i64 WL, .int .i64 WH]) hbs)
     have HSs : Hid (Below wj.heap.size wj ws) := Lib.hid (Below.trans zg (hbs.mono (by first | exact Nat.le_refl _ | omega | (simp; done) | (simp; omega))))
     have HBs : Hid (Below w.heap.size w ws) := Lib.hid (HBj.out.trans (HSs.out.mono hsj))
     have hss := HBs.out.size
     have hsts := HSs.out.size
     have HGs := Lib.hid (HGj.out.up HSs.out)
     have HAs := Lib.hid (HAj.out.up HSs.out)
     have HPs := Lib.hid (HPj.out.up HSs.out)
     have HMs := Lib.hid (HMj.out.up HSs.out)
     have HXs := Lib.hid (HXj.out.up HSs.out)
     have HYs := Lib.hid (HYj.out.up HSs.out)
     clear hbs
     clear kg0 kg1 kg2 lt_g kgo0 kgo1 kgo2 lt_go
     obtain ⟨kc0, kc1, kc2⟩ := Hcs.out.c3
     have lt_c : w.heap.size + 1 < ws.heap.size := Hcs.out.lt
     obtain ⟨kco0, kco1, kco2⟩ := Hcos.out.c3
     have lt_co : bn13 < ws.heap.size := Hcos.out.lt
     go_wp2_with fail
     refine (alike_same full emp A1n13 A c1n13 c hs _ (HMs.out.up zg) (HAs.out.up zg) h9').mono ?_
     rintro e wt ⟨rfl, hbt⟩
     have Hgt := Lib.hid (Holds.up (by have h := Hgs.out; exact zp2 : Holds _ (w.heap.size) 24 #[.int .i64 err, .int .i64 miss, .slice G gs.length d]) hbt)
     have Hct := Lib.hid (Holds.up (by have h := Hcs.out; exact zp2 : Holds _ (w.heap.size + 1) 27 #[.int .i64 full, .int .i64 emp, .slice A hs.length c]) hbt)
     have Hgot := Lib.hid (Holds.up (by have h := Hgos.out; exact zp2 : Holds _ (bn12) 24 #[.int .i64 err, .int .i64 miss, .slice G1n12 gs.length d1n12]) hbt)
     have Hcot := Lib.hid (Holds.up (by have h := Hcos.out; exact zp2 : Holds _ (bn13) 27 #[.int .i64 full, .int .i64 emp, .slice A1n13 hs.length c1n13]) hbt)
     have Hgxt := Lib.hid (Holds.up (by have h := Hgxs.out; exact zp2 : Holds _ (bn14) 49 #[.int .i64 err, .int .i64 miss, .slice A8n14 gs.length c8n14]) hbt)
     have Hcxt := Lib.hid (Holds.up (by have h := Hcxs.out; exact zp2 : Holds _ (bn15) 37 #[.int .i64 full, .int .i64 emp, .slice A9n15 hs.length c9n15]) hbt)
     have Hwtt := Lib.hid (Holds.up (by have h := Hwts.out; exact zp2 : Holds _ (wb.heap.size) 76 #[.int .i64 Z.l0, .int .i64 Z.h0, .int .i64 Z.l1, .int .i64 Z.h1, .int .i64 Z.l2, .int .i64 Z.h2, .int .i64 Z.l3, .int .i64 Z.h3]) hbt)
     have Hwht := Lib.hid (Holds.up (by have h := Hwhs.out; exact zp2 : Holds _ (wb.heap.size + 1) 60 #[.int .i64 WL, .int .i64 WH]) hbt)
     have Hb1t := Lib.hid (Holds.up (by have h := Hb1s.out; exact zp2 : Holds _ (wd.heap.size) 76 #[.int .i64 Z.l0, .int .i64 Z.h0, .int .i64 Z.l1, .int .i64 Z.h1, .int .i64 Z.l2, .int .i64 Z.h2, .int .i64 Z.l3, .int .i64 Z.h3]) hbt)
     have Hm1t := Lib.hid (Holds.up (by have h := Hm1s.out; exact zp2 : Holds _ (wf.heap.size) 28 #[.int .i64 M0, .int .i64 M1, .int .i64 M2, .int .i64 M3]) hbt)
     have Hn1t := Lib.hid (Holds.up (by have h := Hn1s.out; exact zp2 : Holds _ (wh.heap.size) 60 #[.int .i64 WL, .int .i64 WH]) hbt)
     have HSt : Hid (Below ws.heap.size ws wt) := Lib.hid (Below.trans zg (hbt.mono (by first | exact Nat.le_refl _ | omega | (simp; done) | (simp; omega))))
     have HBt : Hid (Below w.heap.size w wt) := Lib.hid (HBs.out.trans (HSt.out.mono hss))
     have hst := HBt.out.size
     have hstt := HSt.out.size
     have HGt := Lib.hid (HGs.out.up HSt.out)
     have HAt := Lib.hid (HAs.out.up HSt.out)
     have HPt := Lib.hid (HPs.out.up HSt.out)
     have HMt := Lib.hid (HMs.out.up HSt.out)
     have HXt := Lib.hid (HXs.out.up HSt.out)
     have HYt := Lib.hid (HYs.out.up HSt.out)
     clear hbt
     clear kc0 kc1 kc2 lt_c kco0 kco1 kco2 lt_co
     go_wp2_with fail
     refine (awake_any _).mono ?_
     rintro e wz ⟨rfl, hbz⟩
     go_wp2_with fail
     go_ret
     exact ⟨rfl, HBt.out.trans (hbz.mono hst)⟩
    ·have hqw : (W != 0) = true := by simp [hW0]
     obtain rfl : M0 = 0 := by rw [QM0.out, zIf, if_neg hW0]
     obtain rfl : M1 = 0 := by rw [QM1.out, zIf, if_neg hW0]
     obtain rfl : M2 = 0 := by rw [QM2.out, zIf, if_neg hW0]
     obtain rfl : M3 = 0 := by rw [QM3.out, zIf, if_neg hW0]
     have hq4 := eql_four
     go_wp2_with fail
     refine (awake_any _).mono ?_
     rintro e wz ⟨rfl, hbz⟩
     go_wp2_with fail
     go_ret
     exact ⟨rfl, (HBh.out.trans (by have h := hsh; (repeat' (first | (with_reducible first | exact Below.refl _ _ | assumption | refine Below.alloc ?_ ?_ _ | refine Below.drew ?_ | refine Below.setCell ?_ ?_ _ | exact Nat.le_refl _) | omega | (simp only [World.size_alloc, World.size_setCell, World.size_drew]; omega) | (simp; omega) | (simp; done))))).trans (hbz.mono (by have := hsh; simp; omega))⟩
end Go.Proofs.Ytifffonoipapgaa
