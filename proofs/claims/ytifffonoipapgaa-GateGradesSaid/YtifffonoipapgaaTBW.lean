
import Derived.Test.YtifffonoipapgaaTAA
import Derived.Test.YtifffonoipapgaaTAC
import Derived.Test.YtifffonoipapgaaTAE
import Derived.Test.YtifffonoipapgaaTAO
import Derived.Test.YtifffonoipapgaaTBF
import Derived.Test.YtifffonoipapgaaTBH
import Derived.Test.YtifffonoipapgaaTBI
import Derived.Test.YtifffonoipapgaaTBV
set_option linter.unusedSimpArgs false
set_option linter.unusedVariables false
namespace Go.Proofs.Ytifffonoipapgaa
open Go.RowKit
set_option maxRecDepth 100000 in
set_option maxHeartbeats 16000000 in
theorem GateGrades_any (err miss full emp : Int) (G : Option Addr) (d : Nat) (gs : List Gr) (A : Option Addr) (c : Nat) (hs : List Hf) (k : Int) (w : World) (gd : gs.length ≤ d) (gm : d ≤ maxLen) (hG : GradesAt w G gs) (gn : G = none → gs.length = 0 ∧ d = 0) (cd : hs.length ≤ c) (cm : c ≤ maxLen) (hA : HandsAt w A hs) (cn : A = none → hs.length = 0 ∧ c = 0) :
  Calls Try.prog 7 #[.agg #[.int .i64 err, .int .i64 miss, .slice G gs.length d], .agg #[.int .i64 full, .int .i64 emp, .slice A hs.length c], .int .i64 k] w fun e w' => e = .returned (.bool true) ∧ Below w.heap.size w w' := by
 have HG := Lib.hid hG
 have HA := Lib.hid hA
 have HGN := Lib.hid gn
 have HAN := Lib.hid cn
 have gl : gs.length ≤ 9223372036854775807 := by unfold maxLen at gm; omega
 have al : hs.length ≤ 9223372036854775807 := by unfold maxLen at cm; omega
 clear hG hA gn cn gm cm
 cases hgt : greatB gs.length hs.length with
 | true =>
  have HGT := Lib.hid hgt
  clear hgt
  go_enter Try.func7, Try.ntmps7
  go_wp2_with fail
  refine (great_any err miss full emp G A gs.length d hs.length c _ gl al).mono ?_
  rw [HGT.out]
  rintro e wq ⟨rfl, hbq⟩
  have Hgq := Lib.hid (Holds.up (zp4 : Holds _ (w.heap.size) 24 #[.int .i64 err, .int .i64 miss, .slice G gs.length d]) hbq)
  have Hcq := Lib.hid (Holds.up (zp4 : Holds _ (w.heap.size + 1) 27 #[.int .i64 full, .int .i64 emp, .slice A hs.length c]) hbq)
  have HSq : Hid (Below w.heap.size w wq) := Lib.hid (Below.trans zg (hbq.mono (by first | exact Nat.le_refl _ | omega | (simp; done) | (simp; omega))))
  have HBq := HSq
  have hsq := HBq.out.size
  have hstq := HSq.out.size
  have HGq := Lib.hid (HG.out.up HSq.out)
  have HAq := Lib.hid (HA.out.up HSq.out)
  clear hbq
  go_wp2_with fail
  refine (awake_any _).mono ?_
  rintro e wz ⟨rfl, hbz⟩
  go_wp2_with fail
  go_ret
  exact ⟨rfl, HBq.out.trans (hbz.mono hsq)⟩
 | false =>
  have HGT := Lib.hid hgt
  obtain ⟨g7, h9⟩ := great_no hgt
  have g7' : gs.length ≤ 1000 := by omega
  have h9' : hs.length ≤ 1000 := by omega
  clear hgt
  obtain ⟨E, hE⟩ : ∃ z, z = bothErr err miss gs full emp hs := ⟨_, rfl⟩
  obtain ⟨B, hB⟩ : ∃ z, z = boundsOf miss (fun _ => true) hs := ⟨_, rfl⟩
  obtain ⟨W, hW⟩ : ∃ z, z = boundErr E B := ⟨_, rfl⟩
  obtain ⟨C, hC⟩ : ∃ z, z = canIf W B gs := ⟨_, rfl⟩
  obtain ⟨U, hU⟩ : ∃ z, z = sureE W C := ⟨_, rfl⟩
  obtain ⟨SN, hSN⟩ : ∃ z, z = sureN W C := ⟨_, rfl⟩
  obtain ⟨S, hS⟩ : ∃ z, z = showErr E k B gs := ⟨_, rfl⟩
  obtain ⟨PL, hPL⟩ : ∃ z, z = zIf W (max 0 (full - emp - 2 * err) * loPrice gs (canOf B gs)) := ⟨_, rfl⟩
  obtain ⟨PH, hPH⟩ : ∃ z, z = zIf W (max 0 (full - emp + 2 * err) * hiPrice gs (canOf B gs)) := ⟨_, rfl⟩
  have QE := Lib.hid hE
  have QB := Lib.hid hB
  have QW := Lib.hid hW
  have QC := Lib.hid hC
  have QU := Lib.hid hU
  have QSN := Lib.hid hSN
  have QS := Lib.hid hS
  have QPL := Lib.hid hPL
  have QPH := Lib.hid hPH
  have hcl : C.length ≤ gs.length + 1 := by rw [hC]; exact canIf_len _ _ _
  clear hE hB hW hC hU hSN hS hPL hPH
  go_enter Try.func7, Try.ntmps7
  go_wp2_with fail
  refine (great_any err miss full emp G A gs.length d hs.length c _ gl al).mono ?_
  rw [HGT.out]
  rintro e wq ⟨rfl, hbq⟩
  have Hgq := Lib.hid (Holds.up (zp4 : Holds _ (w.heap.size) 24 #[.int .i64 err, .int .i64 miss, .slice G gs.length d]) hbq)
  have Hcq := Lib.hid (Holds.up (zp4 : Holds _ (w.heap.size + 1) 27 #[.int .i64 full, .int .i64 emp, .slice A hs.length c]) hbq)
  have HSq : Hid (Below w.heap.size w wq) := Lib.hid (Below.trans zg (hbq.mono (by first | exact Nat.le_refl _ | omega | (simp; done) | (simp; omega))))
  have HBq := HSq
  have hsq := HBq.out.size
  have hstq := HSq.out.size
  have HGq := Lib.hid (HG.out.up HSq.out)
  have HAq := Lib.hid (HA.out.up HSq.out)
  clear hbq
  go_wp2_with fail
  rename_i Kc hKc
  have HSL := Lib.hid (show slotsOf [some 30, some 31, some 32, some 33, some 34, some 35, some 36, some 37, some 7, some 8, some 9, some 10, none, none, none, none] = [30, 31, 32, 33, 34, 35, 36, 37, 7, 8, 9, 10] from rfl)
  refine wp_region_partsG (by kernel_rfl) [some 30, some 31, some 32, some 33, some 34, some 35, some 36, some 37, some 7, some 8, some 9, some 10, none, none, none, none] (fun jq xq w' => match jq with
   | 0 => xq 30 = .agg #[.int .i64 err, .int .i64 miss, .slice G gs.length d]
   | 1 => ∃ G1 d1, xq 31 = .agg #[.int .i64 err, .int .i64 miss, .slice G1 gs.length d1] ∧ OwnGrades w' wq.heap.size (.slice G1 gs.length d1) gs
   | 2 => xq 32 = .agg #[.int .i64 full, .int .i64 emp, .slice A hs.length c]
   | 3 => ∃ A1 c1, xq 33 = .agg #[.int .i64 full, .int .i64 emp, .slice A1 hs.length c1] ∧ OwnHands w' wq.heap.size (.slice A1 hs.length c1) hs
   | 4 => xq 34 = .agg #[.int .i64 err, .int .i64 miss, .slice G gs.length d]
   | 5 => ∃ A8 c8, xq 35 = .agg #[.int .i64 err, .int .i64 miss, .slice A8 gs.length c8] ∧ Rowed w' wq.heap.size 139 (.slice A8 gs.length c8) gs.length (gs.flatMap Gr.cells)
   | 6 => xq 36 = .agg #[.int .i64 full, .int .i64 emp, .slice A hs.length c]
   | 7 => ∃ A9 c9, xq 37 = .agg #[.int .i64 full, .int .i64 emp, .slice A9 hs.length c9] ∧ Rowed w' wq.heap.size 42 (.slice A9 hs.length c9) hs.length (hs.flatMap Hf.cells)
   | 8 => ∃ b, xq 7 = .pointer (some ⟨b, 0, none⟩) ∧ wq.heap.size ≤ b ∧ Holds w' b 24 #[.int .i64 0, .int .i64 0, .slice none 0 0]
   | 9 => ∃ b, xq 8 = .pointer (some ⟨b, 0, none⟩) ∧ wq.heap.size ≤ b ∧ Holds w' b 27 #[.int .i64 0, .int .i64 0, .slice none 0 0]
   | 10 => ∃ b, xq 9 = .pointer (some ⟨b, 0, none⟩) ∧ wq.heap.size ≤ b ∧ Holds w' b 49 #[.int .i64 0, .int .i64 0, .slice none 0 0]
   | 11 => ∃ b, xq 10 = .pointer (some ⟨b, 0, none⟩) ∧ wq.heap.size ≤ b ∧ Holds w' b 37 #[.int .i64 0, .int .i64 0, .slice none 0 0]
   | 12 => ∃ b G1 d1, xq 7 = .pointer (some ⟨b, 0, none⟩) ∧ Holds w' b 24 #[.int .i64 err, .int .i64 miss, .slice G1 gs.length d1] ∧ OwnGrades w' wq.heap.size (.slice G1 gs.length d1) gs
   | 13 => ∃ b A1 c1, xq 8 = .pointer (some ⟨b, 0, none⟩) ∧ Holds w' b 27 #[.int .i64 full, .int .i64 emp, .slice A1 hs.length c1] ∧ OwnHands w' wq.heap.size (.slice A1 hs.length c1) hs
   | 14 => ∃ b A8 c8, xq 9 = .pointer (some ⟨b, 0, none⟩) ∧ Holds w' b 49 #[.int .i64 err, .int .i64 miss, .slice A8 gs.length c8] ∧ Rowed w' wq.heap.size 139 (.slice A8 gs.length c8) gs.length (gs.flatMap Gr.cells)
   | 15 => ∃ b A9 c9, xq 10 = .pointer (some ⟨b, 0, none⟩) ∧ Holds w' b 37 #[.int .i64 full, .int .i64 emp, .slice A9 hs.length c9] ∧ Rowed w' wq.heap.size 42 (.slice A9 hs.length c9) hs.length (hs.flatMap Hf.cells)
   | _ => True) [[30], [31], [32], [33], [34], [35], [36], [37], [7], [8], [9], [10], [7], [8], [9], [10]] [(12, 8), (13, 9), (14, 10), (15, 11)] (fun w' => Below wq.heap.size wq w') (by kernel_rfl)  ?_ ?_ (fun w' w'' hb h => h.trans (hb.mono h.size)) (Below.refl _ _) ?_ ?_ ?_
  ·intro jq xq xq' wqq h hv
   match jq, h, hv with
   | 0, h, hv => show xq' 30 = .agg #[.int .i64 err, .int .i64 miss, .slice G gs.length d]; rw [← h 30 (by decide)]; exact hv
   | 1, h, hv => show ∃ G1 d1, xq' 31 = .agg #[.int .i64 err, .int .i64 miss, .slice G1 gs.length d1] ∧ OwnGrades wqq wq.heap.size (.slice G1 gs.length d1) gs; rw [← h 31 (by decide)]; exact hv
   | 2, h, hv => show xq' 32 = .agg #[.int .i64 full, .int .i64 emp, .slice A hs.length c]; rw [← h 32 (by decide)]; exact hv
   | 3, h, hv => show ∃ A1 c1, xq' 33 = .agg #[.int .i64 full, .int .i64 emp, .slice A1 hs.length c1] ∧ OwnHands wqq wq.heap.size (.slice A1 hs.length c1) hs; rw [← h 33 (by decide)]; exact hv
   | 4, h, hv => show xq' 34 = .agg #[.int .i64 err, .int .i64 miss, .slice G gs.length d]; rw [← h 34 (by decide)]; exact hv
   | 5, h, hv => show ∃ A8 c8, xq' 35 = .agg #[.int .i64 err, .int .i64 miss, .slice A8 gs.length c8] ∧ Rowed wqq wq.heap.size 139 (.slice A8 gs.length c8) gs.length (gs.flatMap Gr.cells); rw [← h 35 (by decide)]; exact hv
   | 6, h, hv => show xq' 36 = .agg #[.int .i64 full, .int .i64 emp, .slice A hs.length c]; rw [← h 36 (by decide)]; exact hv
   | 7, h, hv => show ∃ A9 c9, xq' 37 = .agg #[.int .i64 full, .int .i64 emp, .slice A9 hs.length c9] ∧ Rowed wqq wq.heap.size 42 (.slice A9 hs.length c9) hs.length (hs.flatMap Hf.cells); rw [← h 37 (by decide)]; exact hv
   | 8, h, hv => show ∃ b, xq' 7 = .pointer (some ⟨b, 0, none⟩) ∧ wq.heap.size ≤ b ∧ Holds wqq b 24 #[.int .i64 0, .int .i64 0, .slice none 0 0]; rw [← h 7 (by decide)]; exact hv
   | 9, h, hv => show ∃ b, xq' 8 = .pointer (some ⟨b, 0, none⟩) ∧ wq.heap.size ≤ b ∧ Holds wqq b 27 #[.int .i64 0, .int .i64 0, .slice none 0 0]; rw [← h 8 (by decide)]; exact hv
   | 10, h, hv => show ∃ b, xq' 9 = .pointer (some ⟨b, 0, none⟩) ∧ wq.heap.size ≤ b ∧ Holds wqq b 49 #[.int .i64 0, .int .i64 0, .slice none 0 0]; rw [← h 9 (by decide)]; exact hv
   | 11, h, hv => show ∃ b, xq' 10 = .pointer (some ⟨b, 0, none⟩) ∧ wq.heap.size ≤ b ∧ Holds wqq b 37 #[.int .i64 0, .int .i64 0, .slice none 0 0]; rw [← h 10 (by decide)]; exact hv
   | 12, h, hv => show ∃ b G1 d1, xq' 7 = .pointer (some ⟨b, 0, none⟩) ∧ Holds wqq b 24 #[.int .i64 err, .int .i64 miss, .slice G1 gs.length d1] ∧ OwnGrades wqq wq.heap.size (.slice G1 gs.length d1) gs; rw [← h 7 (by decide)]; exact hv
   | 13, h, hv => show ∃ b A1 c1, xq' 8 = .pointer (some ⟨b, 0, none⟩) ∧ Holds wqq b 27 #[.int .i64 full, .int .i64 emp, .slice A1 hs.length c1] ∧ OwnHands wqq wq.heap.size (.slice A1 hs.length c1) hs; rw [← h 8 (by decide)]; exact hv
   | 14, h, hv => show ∃ b A8 c8, xq' 9 = .pointer (some ⟨b, 0, none⟩) ∧ Holds wqq b 49 #[.int .i64 err, .int .i64 miss, .slice A8 gs.length c8] ∧ Rowed wqq wq.heap.size 139 (.slice A8 gs.length c8) gs.length (gs.flatMap Gr.cells); rw [← h 9 (by decide)]; exact hv
   | 15, h, hv => show ∃ b A9 c9, xq' 10 = .pointer (some ⟨b, 0, none⟩) ∧ Holds wqq b 37 #[.int .i64 full, .int .i64 emp, .slice A9 hs.length c9] ∧ Rowed wqq wq.heap.size 42 (.slice A9 hs.length c9) hs.length (hs.flatMap Hf.cells); rw [← h 10 (by decide)]; exact hv
   | _ + 16, _, _ => trivial
  ·intro jq xq wqq w' hb' hv
   match jq, hv with
   | 0, hv => exact hv
   | 1, ⟨b0, b1, h0, h1⟩ => exact ⟨b0, b1, h0, h1.up hb'⟩
   | 2, hv => exact hv
   | 3, ⟨b0, b1, h0, h1⟩ => exact ⟨b0, b1, h0, h1.up hb'⟩
   | 4, hv => exact hv
   | 5, ⟨b0, b1, h0, h1⟩ => exact ⟨b0, b1, h0, h1.up hb'⟩
   | 6, hv => exact hv
   | 7, ⟨b0, b1, h0, h1⟩ => exact ⟨b0, b1, h0, h1.up hb'⟩
   | 8, ⟨b0, h0, h1, h2⟩ => exact ⟨b0, h0, h1, h2.up hb'⟩
   | 9, ⟨b0, h0, h1, h2⟩ => exact ⟨b0, h0, h1, h2.up hb'⟩
   | 10, ⟨b0, h0, h1, h2⟩ => exact ⟨b0, h0, h1, h2.up hb'⟩
   | 11, ⟨b0, h0, h1, h2⟩ => exact ⟨b0, h0, h1, h2.up hb'⟩
   | 12, ⟨b0, b1, b2, h0, h1, h2⟩ => exact ⟨b0, b1, b2, h0, h1.up hb', h2.up hb'⟩
   | 13, ⟨b0, b1, b2, h0, h1, h2⟩ => exact ⟨b0, b1, b2, h0, h1.up hb', h2.up hb'⟩
   | 14, ⟨b0, b1, b2, h0, h1, h2⟩ => exact ⟨b0, b1, b2, h0, h1.up hb', h2.up hb'⟩
   | 15, ⟨b0, b1, b2, h0, h1, h2⟩ => exact ⟨b0, b1, b2, h0, h1.up hb', h2.up hb'⟩
   | _ + 16, _ => trivial
  ·intro jq hj
   match jq, hj with
   | 0, hj => exact absurd hj (by decide)
   | 1, hj => exact absurd hj (by decide)
   | 2, hj => exact absurd hj (by decide)
   | 3, hj => exact absurd hj (by decide)
   | 4, hj => exact absurd hj (by decide)
   | 5, hj => exact absurd hj (by decide)
   | 6, hj => exact absurd hj (by decide)
   | 7, hj => exact absurd hj (by decide)
   | 8, hj => exact absurd hj (by decide)
   | 9, hj => exact absurd hj (by decide)
   | 10, hj => exact absurd hj (by decide)
   | 11, hj => exact absurd hj (by decide)
   | 12, hj => exact absurd hj (by decide)
   | 13, hj => exact absurd hj (by decide)
   | 14, hj => exact absurd hj (by decide)
   | 15, hj => exact absurd hj (by decide)
   | _ + 16, _ => trivial
  ·refine ⟨?_, ?_, ?_, ?_, ?_, ?_, ?_, ?_, ?_, ?_, ?_, ?_, ?_, ?_, ?_, ?_, trivial⟩
   ·intro xq wa hba hx K hK0
    have hK := fun v w' hb => hK0 v w' (.inl hb)
    clear hx hKc hK0
    have kg0' : wa.cell? ⟨w.heap.size, 0, none⟩ = some (.int .i64 err) := (Hgq.out.up hba).cell 0
    have kg1' : wa.cell? ⟨w.heap.size, 1, none⟩ = some (.int .i64 miss) := (Hgq.out.up hba).cell 1
    have kg2' : wa.cell? ⟨w.heap.size, 2, none⟩ = some (.slice G gs.length d) := (Hgq.out.up hba).cell 2
    simp only [frameOf, fill, setSlot, sg, Nat.reduceBEq, if_true, if_false, Nat.reduceAdd, Nat.reduceEqDiff, HSL.out] at hK ⊢
    go_wp2_with (fail)
    exact hK _ _ (Below.refl _ _) rfl
   ·intro xq wa hba hx K hK0
    have hK := fun v w' hb => hK0 v w' (.inl hb)
    have e30 : xq 30 = .agg #[.int .i64 err, .int .i64 miss, .slice G gs.length d] := hx 0 (by rfl) (by rfl)
    clear hx hKc hK0
    simp only [frameOf, fill, setSlot, sg, Nat.reduceBEq, if_true, if_false, Nat.reduceAdd, Nat.reduceEqDiff, HSL.out] at hK ⊢
    simp only [e30] at hK ⊢
    clear e30
    go_wp2_with (go_at_call 17; refine (Own_any err miss G d gs _ (HGq.out.up hba) g7' HGN.out).mono ?_; rintro e w2_ ⟨G1, d1, rfl, hown, _, hb_⟩)
    exact hK _ _ hb_ ⟨_, _, rfl, row5_mono hown hba.size⟩
   ·intro xq wa hba hx K hK0
    have hK := fun v w' hb => hK0 v w' (.inl hb)
    clear hx hKc hK0
    have kc0' : wa.cell? ⟨w.heap.size + 1, 0, none⟩ = some (.int .i64 full) := (Hcq.out.up hba).cell 0
    have kc1' : wa.cell? ⟨w.heap.size + 1, 1, none⟩ = some (.int .i64 emp) := (Hcq.out.up hba).cell 1
    have kc2' : wa.cell? ⟨w.heap.size + 1, 2, none⟩ = some (.slice A hs.length c) := (Hcq.out.up hba).cell 2
    simp only [frameOf, fill, setSlot, sg, Nat.reduceBEq, if_true, if_false, Nat.reduceAdd, Nat.reduceEqDiff, HSL.out] at hK ⊢
    go_wp2_with (fail)
    exact hK _ _ (Below.refl _ _) rfl
   ·intro xq wa hba hx K hK0
    have hK := fun v w' hb => hK0 v w' (.inl hb)
    have e32 : xq 32 = .agg #[.int .i64 full, .int .i64 emp, .slice A hs.length c] := hx 2 (by rfl) (by rfl)
    clear hx hKc hK0
    simp only [frameOf, fill, setSlot, sg, Nat.reduceBEq, if_true, if_false, Nat.reduceAdd, Nat.reduceEqDiff, HSL.out] at hK ⊢
    simp only [e32] at hK ⊢
    clear e32
    go_wp2_with (go_at_call 18; refine (Owned_any full emp A c hs _ (HAq.out.up hba) h9' HAN.out).mono ?_; rintro e w2_ ⟨A1, c1, rfl, hown, _, hb_⟩)
    exact hK _ _ hb_ ⟨_, _, rfl, row5_mono hown hba.size⟩
   ·intro xq wa hba hx K hK0
    have hK := fun v w' hb => hK0 v w' (.inl hb)
    clear hx hKc hK0
    have kg0' : wa.cell? ⟨w.heap.size, 0, none⟩ = some (.int .i64 err) := (Hgq.out.up hba).cell 0
    have kg1' : wa.cell? ⟨w.heap.size, 1, none⟩ = some (.int .i64 miss) := (Hgq.out.up hba).cell 1
    have kg2' : wa.cell? ⟨w.heap.size, 2, none⟩ = some (.slice G gs.length d) := (Hgq.out.up hba).cell 2
    simp only [frameOf, fill, setSlot, sg, Nat.reduceBEq, if_true, if_false, Nat.reduceAdd, Nat.reduceEqDiff, HSL.out] at hK ⊢
    go_wp2_with (fail)
    exact hK _ _ (Below.refl _ _) rfl
   ·intro xq wa hba hx K hK0
    have hK := fun v w' hb => hK0 v w' (.inl hb)
    have e34 : xq 34 = .agg #[.int .i64 err, .int .i64 miss, .slice G gs.length d] := hx 4 (by rfl) (by rfl)
    clear hx hKc hK0
    simp only [frameOf, fill, setSlot, sg, Nat.reduceBEq, if_true, if_false, Nat.reduceAdd, Nat.reduceEqDiff, HSL.out] at hK ⊢
    simp only [e34] at hK ⊢
    clear e34
    go_wp2_with (go_at_call 24; refine (theirs_any err miss G d gs _ (HGq.out.up hba) g7').mono ?_; rintro e w2_ ⟨A8, c8, rfl, hown, hb_⟩)
    exact hK _ _ hb_ ⟨_, _, rfl, row5_mono hown hba.size⟩
   ·intro xq wa hba hx K hK0
    have hK := fun v w' hb => hK0 v w' (.inl hb)
    clear hx hKc hK0
    have kc0' : wa.cell? ⟨w.heap.size + 1, 0, none⟩ = some (.int .i64 full) := (Hcq.out.up hba).cell 0
    have kc1' : wa.cell? ⟨w.heap.size + 1, 1, none⟩ = some (.int .i64 emp) := (Hcq.out.up hba).cell 1
    have kc2' : wa.cell? ⟨w.heap.size + 1, 2, none⟩ = some (.slice A hs.length c) := (Hcq.out.up hba).cell 2
    simp only [frameOf, fill, setSlot, sg, Nat.reduceBEq, if_true, if_false, Nat.reduceAdd, Nat.reduceEqDiff, HSL.out] at hK ⊢
    go_wp2_with (fail)
    exact hK _ _ (Below.refl _ _) rfl
   ·intro xq wa hba hx K hK0
    have hK := fun v w' hb => hK0 v w' (.inl hb)
    have e36 : xq 36 = .agg #[.int .i64 full, .int .i64 emp, .slice A hs.length c] := hx 6 (by rfl) (by rfl)
    clear hx hKc hK0
    simp only [frameOf, fill, setSlot, sg, Nat.reduceBEq, if_true, if_false, Nat.reduceAdd, Nat.reduceEqDiff, HSL.out] at hK ⊢
    simp only [e36] at hK ⊢
    clear e36
    go_wp2_with (go_at_call 20; refine (come_any full emp A c hs _ (HAq.out.up hba) h9').mono ?_; rintro e w2_ ⟨A9, c9, rfl, hown, hb_⟩)
    exact hK _ _ hb_ ⟨_, _, rfl, row5_mono hown hba.size⟩
   ·intro xq wa hba hx K hK0
    have hK := fun v w' hb => hK0 v w' (.inl hb)
    clear hx hKc hK0
    simp only [frameOf, fill, setSlot, sg, Nat.reduceBEq, if_true, if_false, Nat.reduceAdd, Nat.reduceEqDiff, HSL.out] at hK ⊢
    go_wp2_with (fail)
    exact hK _ _ ((Below.refl _ _).alloc (Nat.le_refl _) _) ⟨_, rfl, hba.size, Holds.new _ _ _⟩
   ·intro xq wa hba hx K hK0
    have hK := fun v w' hb => hK0 v w' (.inl hb)
    clear hx hKc hK0
    simp only [frameOf, fill, setSlot, sg, Nat.reduceBEq, if_true, if_false, Nat.reduceAdd, Nat.reduceEqDiff, HSL.out] at hK ⊢
    go_wp2_with (fail)
    exact hK _ _ ((Below.refl _ _).alloc (Nat.le_refl _) _) ⟨_, rfl, hba.size, Holds.new _ _ _⟩
   ·intro xq wa hba hx K hK0
    have hK := fun v w' hb => hK0 v w' (.inl hb)
    clear hx hKc hK0
    simp only [frameOf, fill, setSlot, sg, Nat.reduceBEq, if_true, if_false, Nat.reduceAdd, Nat.reduceEqDiff, HSL.out] at hK ⊢
    go_wp2_with (fail)
    exact hK _ _ ((Below.refl _ _).alloc (Nat.le_refl _) _) ⟨_, rfl, hba.size, Holds.new _ _ _⟩
   ·intro xq wa hba hx K hK0
    have hK := fun v w' hb => hK0 v w' (.inl hb)
    clear hx hKc hK0
    simp only [frameOf, fill, setSlot, sg, Nat.reduceBEq, if_true, if_false, Nat.reduceAdd, Nat.reduceEqDiff, HSL.out] at hK ⊢
    go_wp2_with (fail)
    exact hK _ _ ((Below.refl _ _).alloc (Nat.le_refl _) _) ⟨_, rfl, hba.size, Holds.new _ _ _⟩
   ·intro xq wa hba hx K hK0
    have hK := fun v w' hb => hK0 v w' (.inr hb)
    obtain ⟨G131, d131, e31, f31_0⟩ := hx 1 (by rfl) (by rfl)
    obtain ⟨b7, e7, f7_0, f7_1⟩ := hx 8 (by rfl) (by rfl)
    clear hx hKc hK0
    obtain ⟨kb0, kb1, kb2⟩ := f7_1.c3
    obtain ⟨zb0, zb1, zb2⟩ := f7_1.f3
    simp only [frameOf, fill, setSlot, sg, Nat.reduceBEq, if_true, if_false, Nat.reduceAdd, Nat.reduceEqDiff, HSL.out] at hK ⊢
    have E31 := Lib.hid e31
    have E7 := Lib.hid e7
    simp only [e31, e7] at hK ⊢
    clear e31 e7
    go_wp2_with (fail)
    refine hK undef _ ⟨(by have h := hba; exact zg), ?_⟩ ⟨_, _, _, rfl, Holds.set3 _ _ _ f7_1, row5_set3 f31_0 f7_1 (by decide)⟩
    intro jq xq hd hne hv
    match jq, hd, hne, hv with
    | 0, _, _, hv => exact hv
    | 1, _, _, hv => obtain ⟨a1_, d1_, e1, h1⟩ := hv; exact ⟨a1_, d1_, e1, row5_set3 h1 f7_1 (by decide)⟩
    | 2, _, _, hv => exact hv
    | 3, _, _, hv => obtain ⟨a1_, d1_, e1, h1⟩ := hv; exact ⟨a1_, d1_, e1, row5_set3 h1 f7_1 (by decide)⟩
    | 4, _, _, hv => exact hv
    | 5, _, _, hv => obtain ⟨a1_, d1_, e1, h1⟩ := hv; exact ⟨a1_, d1_, e1, row5_set3 h1 f7_1 (by decide)⟩
    | 6, _, _, hv => exact hv
    | 7, _, _, hv => obtain ⟨a1_, d1_, e1, h1⟩ := hv; exact ⟨a1_, d1_, e1, row5_set3 h1 f7_1 (by decide)⟩
    | 8, hd, _, _ => exact absurd hd (by decide)
    | 9, _, _, hv => obtain ⟨b_, e1, h0, h1⟩ := hv; exact ⟨b_, e1, h0, h1.set3_ne f7_1 (by decide)⟩
    | 10, _, _, hv => obtain ⟨b_, e1, h0, h1⟩ := hv; exact ⟨b_, e1, h0, h1.set3_ne f7_1 (by decide)⟩
    | 11, _, _, hv => obtain ⟨b_, e1, h0, h1⟩ := hv; exact ⟨b_, e1, h0, h1.set3_ne f7_1 (by decide)⟩
    | 12, _, hne, _ => exact absurd rfl hne
    | 13, _, _, hv => obtain ⟨b_, a1_, d1_, e1, h0, h1⟩ := hv; exact ⟨b_, a1_, d1_, e1, h0.set3_ne f7_1 (by decide), row5_set3 h1 f7_1 (by decide)⟩
    | 14, _, _, hv => obtain ⟨b_, a1_, d1_, e1, h0, h1⟩ := hv; exact ⟨b_, a1_, d1_, e1, h0.set3_ne f7_1 (by decide), row5_set3 h1 f7_1 (by decide)⟩
    | 15, _, _, hv => obtain ⟨b_, a1_, d1_, e1, h0, h1⟩ := hv; exact ⟨b_, a1_, d1_, e1, h0.set3_ne f7_1 (by decide), row5_set3 h1 f7_1 (by decide)⟩
    | _ + 16, _, _, _ => trivial
   ·intro xq wa hba hx K hK0
    have hK := fun v w' hb => hK0 v w' (.inr hb)
    obtain ⟨A133, c133, e33, f33_0⟩ := hx 3 (by rfl) (by rfl)
    obtain ⟨b8, e8, f8_0, f8_1⟩ := hx 9 (by rfl) (by rfl)
    clear hx hKc hK0
    obtain ⟨kb0, kb1, kb2⟩ := f8_1.c3
    obtain ⟨zb0, zb1, zb2⟩ := f8_1.f3
    simp only [frameOf, fill, setSlot, sg, Nat.reduceBEq, if_true, if_false, Nat.reduceAdd, Nat.reduceEqDiff, HSL.out] at hK ⊢
    have E33 := Lib.hid e33
    have E8 := Lib.hid e8
    simp only [e33, e8] at hK ⊢
    clear e33 e8
    go_wp2_with (fail)
    refine hK undef _ ⟨(by have h := hba; exact zg), ?_⟩ ⟨_, _, _, rfl, Holds.set3 _ _ _ f8_1, row5_set3 f33_0 f8_1 (by decide)⟩
    intro jq xq hd hne hv
    match jq, hd, hne, hv with
    | 0, _, _, hv => exact hv
    | 1, _, _, hv => obtain ⟨a1_, d1_, e1, h1⟩ := hv; exact ⟨a1_, d1_, e1, row5_set3 h1 f8_1 (by decide)⟩
    | 2, _, _, hv => exact hv
    | 3, _, _, hv => obtain ⟨a1_, d1_, e1, h1⟩ := hv; exact ⟨a1_, d1_, e1, row5_set3 h1 f8_1 (by decide)⟩
    | 4, _, _, hv => exact hv
    | 5, _, _, hv => obtain ⟨a1_, d1_, e1, h1⟩ := hv; exact ⟨a1_, d1_, e1, row5_set3 h1 f8_1 (by decide)⟩
    | 6, _, _, hv => exact hv
    | 7, _, _, hv => obtain ⟨a1_, d1_, e1, h1⟩ := hv; exact ⟨a1_, d1_, e1, row5_set3 h1 f8_1 (by decide)⟩
    | 8, _, _, hv => obtain ⟨b_, e1, h0, h1⟩ := hv; exact ⟨b_, e1, h0, h1.set3_ne f8_1 (by decide)⟩
    | 9, hd, _, _ => exact absurd hd (by decide)
    | 10, _, _, hv => obtain ⟨b_, e1, h0, h1⟩ := hv; exact ⟨b_, e1, h0, h1.set3_ne f8_1 (by decide)⟩
    | 11, _, _, hv => obtain ⟨b_, e1, h0, h1⟩ := hv; exact ⟨b_, e1, h0, h1.set3_ne f8_1 (by decide)⟩
    | 12, _, _, hv => obtain ⟨b_, a1_, d1_, e1, h0, h1⟩ := hv; exact ⟨b_, a1_, d1_, e1, h0.set3_ne f8_1 (by decide), row5_set3 h1 f8_1 (by decide)⟩
    | 13, _, hne, _ => exact absurd rfl hne
    | 14, _, _, hv => obtain ⟨b_, a1_, d1_, e1, h0, h1⟩ := hv; exact ⟨b_, a1_, d1_, e1, h0.set3_ne f8_1 (by decide), row5_set3 h1 f8_1 (by decide)⟩
    | 15, _, _, hv => obtain ⟨b_, a1_, d1_, e1, h0, h1⟩ := hv; exact ⟨b_, a1_, d1_, e1, h0.set3_ne f8_1 (by decide), row5_set3 h1 f8_1 (by decide)⟩
    | _ + 16, _, _, _ => trivial
   ·intro xq wa hba hx K hK0
    have hK := fun v w' hb => hK0 v w' (.inr hb)
    obtain ⟨A835, c835, e35, f35_0⟩ := hx 5 (by rfl) (by rfl)
    obtain ⟨b9, e9, f9_0, f9_1⟩ := hx 10 (by rfl) (by rfl)
    clear hx hKc hK0
    obtain ⟨kb0, kb1, kb2⟩ := f9_1.c3
    obtain ⟨zb0, zb1, zb2⟩ := f9_1.f3
    simp only [frameOf, fill, setSlot, sg, Nat.reduceBEq, if_true, if_false, Nat.reduceAdd, Nat.reduceEqDiff, HSL.out] at hK ⊢
    have E35 := Lib.hid e35
    have E9 := Lib.hid e9
    simp only [e35, e9] at hK ⊢
    clear e35 e9
    go_wp2_with (fail)
    refine hK undef _ ⟨(by have h := hba; exact zg), ?_⟩ ⟨_, _, _, rfl, Holds.set3 _ _ _ f9_1, row5_set3 f35_0 f9_1 (by decide)⟩
    intro jq xq hd hne hv
    match jq, hd, hne, hv with
    | 0, _, _, hv => exact hv
    | 1, _, _, hv => obtain ⟨a1_, d1_, e1, h1⟩ := hv; exact ⟨a1_, d1_, e1, row5_set3 h1 f9_1 (by decide)⟩
    | 2, _, _, hv => exact hv
    | 3, _, _, hv => obtain ⟨a1_, d1_, e1, h1⟩ := hv; exact ⟨a1_, d1_, e1, row5_set3 h1 f9_1 (by decide)⟩
    | 4, _, _, hv => exact hv
    | 5, _, _, hv => obtain ⟨a1_, d1_, e1, h1⟩ := hv; exact ⟨a1_, d1_, e1, row5_set3 h1 f9_1 (by decide)⟩
    | 6, _, _, hv => exact hv
    | 7, _, _, hv => obtain ⟨a1_, d1_, e1, h1⟩ := hv; exact ⟨a1_, d1_, e1, row5_set3 h1 f9_1 (by decide)⟩
    | 8, _, _, hv => obtain ⟨b_, e1, h0, h1⟩ := hv; exact ⟨b_, e1, h0, h1.set3_ne f9_1 (by decide)⟩
    | 9, _, _, hv => obtain ⟨b_, e1, h0, h1⟩ := hv; exact ⟨b_, e1, h0, h1.set3_ne f9_1 (by decide)⟩
    | 10, hd, _, _ => exact absurd hd (by decide)
    | 11, _, _, hv => obtain ⟨b_, e1, h0, h1⟩ := hv; exact ⟨b_, e1, h0, h1.set3_ne f9_1 (by decide)⟩
    | 12, _, _, hv => obtain ⟨b_, a1_, d1_, e1, h0, h1⟩ := hv; exact ⟨b_, a1_, d1_, e1, h0.set3_ne f9_1 (by decide), row5_set3 h1 f9_1 (by decide)⟩
    | 13, _, _, hv => obtain ⟨b_, a1_, d1_, e1, h0, h1⟩ := hv; exact ⟨b_, a1_, d1_, e1, h0.set3_ne f9_1 (by decide), row5_set3 h1 f9_1 (by decide)⟩
    | 14, _, hne, _ => exact absurd rfl hne
    | 15, _, _, hv => obtain ⟨b_, a1_, d1_, e1, h0, h1⟩ := hv; exact ⟨b_, a1_, d1_, e1, h0.set3_ne f9_1 (by decide), row5_set3 h1 f9_1 (by decide)⟩
    | _ + 16, _, _, _ => trivial
   ·intro xq wa hba hx K hK0
    have hK := fun v w' hb => hK0 v w' (.inr hb)
    obtain ⟨A937, c937, e37, f37_0⟩ := hx 7 (by rfl) (by rfl)
    obtain ⟨b10, e10, f10_0, f10_1⟩ := hx 11 (by rfl) (by rfl)
    clear hx hKc hK0
    obtain ⟨kb0, kb1, kb2⟩ := f10_1.c3
    obtain ⟨zb0, zb1, zb2⟩ := f10_1.f3
    simp only [frameOf, fill, setSlot, sg, Nat.reduceBEq, if_true, if_false, Nat.reduceAdd, Nat.reduceEqDiff, HSL.out] at hK ⊢
    have E37 := Lib.hid e37
    have E10 := Lib.hid e10
    simp only [e37, e10] at hK ⊢
    clear e37 e10
    go_wp2_with (fail)
    refine hK undef _ ⟨(by have h := hba; exact zg), ?_⟩ ⟨_, _, _, rfl, Holds.set3 _ _ _ f10_1, row5_set3 f37_0 f10_1 (by decide)⟩
    intro jq xq hd hne hv
    match jq, hd, hne, hv with
    | 0, _, _, hv => exact hv
    | 1, _, _, hv => obtain ⟨a1_, d1_, e1, h1⟩ := hv; exact ⟨a1_, d1_, e1, row5_set3 h1 f10_1 (by decide)⟩
    | 2, _, _, hv => exact hv
    | 3, _, _, hv => obtain ⟨a1_, d1_, e1, h1⟩ := hv; exact ⟨a1_, d1_, e1, row5_set3 h1 f10_1 (by decide)⟩
    | 4, _, _, hv => exact hv
    | 5, _, _, hv => obtain ⟨a1_, d1_, e1, h1⟩ := hv; exact ⟨a1_, d1_, e1, row5_set3 h1 f10_1 (by decide)⟩
    | 6, _, _, hv => exact hv
    | 7, _, _, hv => obtain ⟨a1_, d1_, e1, h1⟩ := hv; exact ⟨a1_, d1_, e1, row5_set3 h1 f10_1 (by decide)⟩
    | 8, _, _, hv => obtain ⟨b_, e1, h0, h1⟩ := hv; exact ⟨b_, e1, h0, h1.set3_ne f10_1 (by decide)⟩
    | 9, _, _, hv => obtain ⟨b_, e1, h0, h1⟩ := hv; exact ⟨b_, e1, h0, h1.set3_ne f10_1 (by decide)⟩
    | 10, _, _, hv => obtain ⟨b_, e1, h0, h1⟩ := hv; exact ⟨b_, e1, h0, h1.set3_ne f10_1 (by decide)⟩
    | 11, hd, _, _ => exact absurd hd (by decide)
    | 12, _, _, hv => obtain ⟨b_, a1_, d1_, e1, h0, h1⟩ := hv; exact ⟨b_, a1_, d1_, e1, h0.set3_ne f10_1 (by decide), row5_set3 h1 f10_1 (by decide)⟩
    | 13, _, _, hv => obtain ⟨b_, a1_, d1_, e1, h0, h1⟩ := hv; exact ⟨b_, a1_, d1_, e1, h0.set3_ne f10_1 (by decide), row5_set3 h1 f10_1 (by decide)⟩
    | 14, _, _, hv => obtain ⟨b_, a1_, d1_, e1, h0, h1⟩ := hv; exact ⟨b_, a1_, d1_, e1, h0.set3_ne f10_1 (by decide), row5_set3 h1 f10_1 (by decide)⟩
    | 15, _, hne, _ => exact absurd rfl hne
    | _ + 16, _, _, _ => trivial
  ·intro xq wa hba hx
   have e30 : xq 30 = .agg #[.int .i64 err, .int .i64 miss, .slice G gs.length d] := hx 0 (by decide)
   obtain ⟨G131, d131, e31, f31_0⟩ := hx 1 (by decide)
   have e32 : xq 32 = .agg #[.int .i64 full, .int .i64 emp, .slice A hs.length c] := hx 2 (by decide)
   obtain ⟨A133, c133, e33, f33_0⟩ := hx 3 (by decide)
   have e34 : xq 34 = .agg #[.int .i64 err, .int .i64 miss, .slice G gs.length d] := hx 4 (by decide)
   obtain ⟨A835, c835, e35, f35_0⟩ := hx 5 (by decide)
   have e36 : xq 36 = .agg #[.int .i64 full, .int .i64 emp, .slice A hs.length c] := hx 6 (by decide)
   obtain ⟨A937, c937, e37, f37_0⟩ := hx 7 (by decide)
   obtain ⟨bn12, G1n12, d1n12, fn12_0, fn12_1, fn12_2⟩ := hx 12 (by decide)
   obtain ⟨bn13, A1n13, c1n13, fn13_0, fn13_1, fn13_2⟩ := hx 13 (by decide)
   obtain ⟨bn14, A8n14, c8n14, fn14_0, fn14_1, fn14_2⟩ := hx 14 (by decide)
   obtain ⟨bn15, A9n15, c9n15, fn15_0, fn15_1, fn15_2⟩ := hx 15 (by decide)
   clear hx
   simp only [frameOf, fill, setSlot, sg, Nat.reduceBEq, if_true, if_false, Nat.reduceAdd, Nat.reduceEqDiff, HSL.out]
   simp only [e30, e31, e32, e33, e34, e35, e36, e37, fn12_0, fn13_0, fn14_0, fn15_0]
   clear e30 e31 e32 e33 e34 e35 e36 e37 fn12_0 fn13_0 fn14_0 fn15_0
   refine hKc _ _ ?_
   have HSa := Lib.hid hba
   have HBa := Lib.hid (HBq.out.trans (hba.mono hsq))
   have hsa := HBa.out.size
   have hsta := hba.size
   have Hgoa := Lib.hid fn12_1
   have Hcoa := Lib.hid fn13_1
   have Hgxa := Lib.hid fn14_1
   have Hcxa := Lib.hid fn15_1
   obtain ⟨_, _, e1, hdn, hh1⟩ := OwnGrades.at_ fn12_2
   cases e1
   obtain ⟨_, _, e1, _, hh2⟩ := OwnHands.at_ fn13_2
   cases e1
   have HPa := Lib.hid hh1
   have HMa := Lib.hid hh2
   have HXa := Lib.hid (their_at fn14_2)
   have HYa := Lib.hid (rowed_at fn15_2)
   clear fn12_1 fn12_2 fn13_1 fn13_2 fn14_1 fn14_2 fn15_1 fn15_2 hh1 hh2
   have Hga := Lib.hid (Hgq.out.up hba)
   have Hca := Lib.hid (Hcq.out.up hba)
   have HGa := Lib.hid (HGq.out.up hba)
   have HAa := Lib.hid (HAq.out.up hba)
   clear hba
   obtain ⟨kgx0, kgx1, kgx2⟩ := Hgxa.out.c3
   have lt_gx : bn14 < wa.heap.size := Hgxa.out.lt
   obtain ⟨kcx0, kcx1, kcx2⟩ := Hcxa.out.c3
   have lt_cx : bn15 < wa.heap.size := Hcxa.out.lt
   go_wp2_with fail
   refine (refBoth_any err miss A8n14 c8n14 gs full emp A9n15 c9n15 hs _ (HXa.out.up zg) g7' (HYa.out.up zg) h9').mono ?_
   rw [← QE.out]
   rintro e wb ⟨rfl, hbb⟩
   have Hgb := Lib.hid (Holds.up (by have h := Hga.out; exact zp4 : Holds _ (w.heap.size) 24 #[.int .i64 err, .int .i64 miss, .slice G gs.length d]) hbb)
   have Hcb := Lib.hid (Holds.up (by have h := Hca.out; exact zp4 : Holds _ (w.heap.size + 1) 27 #[.int .i64 full, .int .i64 emp, .slice A hs.length c]) hbb)
   have Hgob := Lib.hid (Holds.up (by have h := Hgoa.out; exact zp4 : Holds _ (bn12) 24 #[.int .i64 err, .int .i64 miss, .slice G1n12 gs.length d1n12]) hbb)
   have Hcob := Lib.hid (Holds.up (by have h := Hcoa.out; exact zp4 : Holds _ (bn13) 27 #[.int .i64 full, .int .i64 emp, .slice A1n13 hs.length c1n13]) hbb)
   have Hgxb := Lib.hid (Holds.up (by have h := Hgxa.out; exact zp4 : Holds _ (bn14) 49 #[.int .i64 err, .int .i64 miss, .slice A8n14 gs.length c8n14]) hbb)
   have Hcxb := Lib.hid (Holds.up (by have h := Hcxa.out; exact zp4 : Holds _ (bn15) 37 #[.int .i64 full, .int .i64 emp, .slice A9n15 hs.length c9n15]) hbb)
   have HSb : Hid (Below wa.heap.size wa wb) := Lib.hid (Below.trans zg (hbb.mono (by first | exact Nat.le_refl _ | omega | (simp; done) | (simp; omega))))
   have HBb : Hid (Below w.heap.size w wb) := Lib.hid (HBa.out.trans (HSb.out.mono hsa))
   have hsb := HBb.out.size
   have hstb := HSb.out.size
   have HGb := Lib.hid (HGa.out.up HSb.out)
   have HAb := Lib.hid (HAa.out.up HSb.out)
   have HPb := Lib.hid (HPa.out.up HSb.out)
   have HMb := Lib.hid (HMa.out.up HSb.out)
   have HXb := Lib.hid (HXa.out.up HSb.out)
   have HYb := Lib.hid (HYa.out.up HSb.out)
   clear hbb
   clear kcx0 kcx1 kcx2 lt_cx kgx0 kgx1 kgx2 lt_gx
   obtain ⟨kgx0, kgx1, kgx2⟩ := Hgxb.out.c3
   have lt_gx : bn14 < wb.heap.size := Hgxb.out.lt
   obtain ⟨kcx0, kcx1, kcx2⟩ := Hcxb.out.c3
   have lt_cx : bn15 < wb.heap.size := Hcxb.out.lt
   obtain ⟨kg0, kg1, kg2⟩ := Hgb.out.c3
   have lt_g : w.heap.size < wb.heap.size := Hgb.out.lt
   go_upto_if 44 with fail
   go_cut [11, 12, 13, 14, 16, 17] from 45 to 86 (fun s11 s12 s13 s14 s16 s17 wx => s11 = .int .i64 W ∧ s12 = .int .i64 U ∧ s13 = .int .i64 S ∧ (∃ L q, s14 = .slice L C.length q ∧ IntsAt wx L C) ∧ s16 = .int .i64 SN ∧ Holds wx (wb.heap.size) 60 #[.int .i64 PL, .int .i64 PH] ∧ Below wb.heap.size wb wx)
   case first =>
    by_cases hE0 : E = 0
    ·subst hE0
     have hq : ((0 : Int) == 0) = true := rfl
     obtain ⟨hg0, hc0⟩ := bothErr_zero QE.out.symm
     obtain ⟨hg4, r0, r1, i0, i1, hgr, _⟩ := gateErr_zero hg0
     obtain ⟨h6, f0, f1, e0, e1, ht, hn⟩ := cartErr_zero hc0
     have HT := Lib.hid ht
     have HNN := Lib.hid hn
     have HGR := Lib.hid hgr
     have h6' : hs.length ≤ 6 := h6
     clear hg0 hc0 ht hn hgr
     obtain ⟨n, hnn⟩ : ∃ z, z = (fitL miss hs).length := ⟨_, rfl⟩
     have QN := Lib.hid hnn
     have hn8 : n ≤ 80000 := by rw [hnn]; exact fitL_len _ _
     clear hnn
     go_wp2_with fail
     refine (refAll_zero err miss A8n14 gs.length c8n14 full emp A9n15 c9n15 hs i0 i1 _ (HYb.out.up zg) h6 HT.out).mono ?_
     rw [← QN.out]
     rintro e wl ⟨O, Aq, qq, rfl, kz, hml, hbl⟩
     have Hpyl := Lib.hid (Holds.up (zp7 : Holds _ (wb.heap.size) 60 #[.int .i64 0, .int .i64 0]) hbl)
     have HBl : Hid (Below wb.heap.size wb wl) := Lib.hid (Below.trans zg (hbl.mono (by first | omega | (simp; done) | (simp; omega))))
     have Hgxl := Lib.hid (Hgxb.out.up HBl.out)
     have Hcxl := Lib.hid (Hcxb.out.up HBl.out)
     have Hgl := Lib.hid (Hgb.out.up HBl.out)
     have HXl := Lib.hid (HXb.out.up HBl.out)
     have HMLl := Lib.hid hml
     have hsl := HBl.out.size
     have hlO := World.block_lt_of_cell? wl _ kz
     clear hbl hml
     clear kgx0 kgx1 kgx2 lt_gx kcx0 kcx1 kcx2 lt_cx kg0 kg1 kg2 lt_g
     by_cases hn0 : 0 < n
     ·have he : B.empty = false := by rw [QB.out]; exact fitL_some HNN.out (by rw [← QN.out]; exact hn0)
      have hw : W = 0 := by rw [QW.out, boundErr_ok he]
      have HW1 := Lib.hid hw
      have hc : C = canOf B gs := by rw [QC.out, canIf, if_pos hw]
      have HC1 := Lib.hid hc
      have hc0 : 0 < C.length := by rw [hc, QB.out]; exact can_some HNN.out (by rw [← QN.out]; exact hn0)
      have hpl : PL = max 0 (full - emp - 2 * err) * loPriceR gs C := by rw [QPL.out, zIf, if_pos hw, hc, loR_eq HGR.out _ (by intro h; rw [← hc] at h; rw [h] at hc0; exact absurd hc0 (Nat.lt_irrefl 0))]
      have hph : PH = max 0 (full - emp + 2 * err) * hiPrice gs C := by rw [QPH.out, zIf, if_pos hw, hc]
      have HPL := Lib.hid hpl
      have HPH := Lib.hid hph
      have HEB := Lib.hid he
      have hcon := refCan_any err miss A8n14 c8n14 gs B Aq qq (fitL miss hs) (fitL_len _ _) wl HXl.out g7' hg4 HMLl.out (by rw [QB.out]; exact had_is HNN.out)
      rw [← QN.out, ← hc] at hcon
      have HCON := Lib.hid hcon
      clear hcon hw hc hpl hph he
      have hn0' : (0 : Int) < n := by omega
      obtain ⟨kgx0, kgx1, kgx2⟩ := Hgxl.out.c3
      have lt_gx := Hgxl.out.lt
      go_wp2_with fail
      refine HCON.out.mono ?_
      rintro e wm ⟨v, rfl, hown, hbm⟩
      obtain ⟨L, q, rfl, hL⟩ := ints_of_row hown
      have Hpym := Lib.hid (Hpyl.out.up hbm)
      have Hgxm := Lib.hid (Hgxl.out.up hbm)
      have Hcxm := Lib.hid (Hcxl.out.up hbm)
      have Hgm := Lib.hid (Hgl.out.up hbm)
      have HXm := Lib.hid (HXl.out.up hbm)
      have HLm := Lib.hid hL
      have HOm := Lib.hid hown
      have hplt : wb.heap.size < wl.heap.size := Hpyl.out.lt
      have HBm := Lib.hid (HBl.out.trans (hbm.mono HBl.out.size))
      clear hown hL hbm kgx0 kgx1 kgx2 lt_gx
      obtain ⟨kgx0, kgx1, kgx2⟩ := Hgxm.out.c3
      have lt_gx := Hgxm.out.lt
      obtain ⟨kcx0, kcx1, kcx2⟩ := Hcxm.out.c3
      have lt_cx := Hcxm.out.lt
      have lpm := Hpym.out.lt
      go_wp2_with fail
      refine (refPay_any err miss A8n14 c8n14 gs full emp A9n15 c9n15 hs L q C _ (HXm.out.up zg) g7' (HLm.out.up zg) (by omega) HGR.out (fun n hn => canOf_mem (by rw [← HC1.out]; exact hn)) r0 r1 f0 f1 e0 e1).mono ?_
      rw [← HPL.out, ← HPH.out]
      rintro e wp ⟨rfl, hbp⟩
      have Hpyp := Lib.hid (Hpym.out.up hbp)
      have Hgp := Lib.hid (Hgm.out.up hbp)
      have HLp := Lib.hid (HLm.out.up hbp)
      have HOp := Lib.hid (rk_up HOm.out hbp)
      have HBp := Lib.hid (HBm.out.trans (hbp.mono HBm.out.size))
      have hsp := HBp.out.size
      clear hbp kgx0 kgx1 kgx2 lt_gx kcx0 kcx1 kcx2 lt_cx
      obtain ⟨kg0, kg1, kg2⟩ := Hgp.out.c3
      have lt_g := Hgp.out.lt
      obtain ⟨kp0, kp1⟩ := Hpyp.out.c2
      obtain ⟨zp0, zp1⟩ := Hpyp.out.f2
      have lpp := Hpyp.out.lt
      have hgne : w.heap.size ≠ wb.heap.size := by have := Hgb.out.lt; omega
      obtain ⟨LB, lo_, rfl, hlc⟩ := HLp.out hc0
      have HLC := Lib.hid hlc
      clear hlc
      by_cases hc1 : 1 < C.length
      ·have hc1' : (1 : Int) < C.length := by omega
       have hu : U = 6 := by rw [QU.out, sureE, if_pos HW1.out]; exact (many_sure hc1).2
       have hsn : SN = 0 := by rw [QSN.out, sureN, if_pos HW1.out]; exact (many_sure hc1).1
       have HU1 := Lib.hid hu
       have HSN := Lib.hid hsn
       clear hu hsn
       by_cases t2 : -1 ≤ k
       ·by_cases t3 : k < gs.length
        ·cases hct : C.contains k with
         | true =>
          have hk0 : within k (-1) ((gs.length : Int) - 1) = true := by simp only [within, Bool.and_eq_true, decide_eq_true_eq]; omega
          have hs0 : S = 0 := by rw [QS.out, showErr, if_neg (by simp), if_neg (by simp [hk0]), if_neg (by simp [HEB.out]), ← HC1.out, if_pos hct]
          have HS1 := Lib.hid hs0
          have HCT := Lib.hid hct
          clear hk0 hs0 hct
          go_wp2_with fail
          refine (contains_bel (some ⟨LB, lo_, none⟩) q C k _ (ints_at (rk_far (p := ⟨wb.heap.size, 1, none⟩) (rk_far (p := ⟨wb.heap.size, 0, none⟩) HOp.out hplt _) hplt _)) (by omega)).mono ?_
          rw [HCT.out]
          rintro e wt ⟨rfl, hbt⟩
          have Hpyt := Lib.hid (Holds.up (by have h := Hpyp.out; exact zp7 : Holds _ (wb.heap.size) 60 #[.int .i64 PL, .int .i64 PH]) hbt)
          have HLt := Lib.hid ((ints_at (rk_far (p := ⟨wb.heap.size, 1, none⟩) (rk_far (p := ⟨wb.heap.size, 0, none⟩) HOp.out hplt _) hplt _)).up hbt)
          have HBt : Hid (Below wb.heap.size wb wt) := Lib.hid (HBp.out.trans (Below.trans (by have h := hsp; (repeat' (first | (with_reducible first | exact Below.refl _ _ | assumption | refine Below.alloc ?_ ?_ _ | refine Below.drew ?_ | refine Below.setCell ?_ ?_ _ | exact Nat.le_refl _) | omega | (simp only [World.size_alloc, World.size_setCell, World.size_drew]; omega) | (simp; omega) | (simp; done)))) (hbt.mono (by simp; omega))))
          clear hbt
          go_wp2_with fail
          go_meet
          exact ⟨by rw [HW1.out], by rw [HU1.out], by rw [HS1.out], ⟨_, q, rfl, HLt.out⟩, by rw [HSN.out], Hpyt.out, HBt.out⟩
         | false =>
          have hk0 : within k (-1) ((gs.length : Int) - 1) = true := by simp only [within, Bool.and_eq_true, decide_eq_true_eq]; omega
          have hs0 : S = 6 := by rw [QS.out, showErr, if_neg (by simp), if_neg (by simp [hk0]), if_neg (by simp [HEB.out]), ← HC1.out, if_neg (by rw [hct]; exact Bool.false_ne_true)]
          have HS1 := Lib.hid hs0
          have HCT := Lib.hid hct
          clear hk0 hs0 hct
          go_wp2_with fail
          refine (contains_bel (some ⟨LB, lo_, none⟩) q C k _ (ints_at (rk_far (p := ⟨wb.heap.size, 1, none⟩) (rk_far (p := ⟨wb.heap.size, 0, none⟩) HOp.out hplt _) hplt _)) (by omega)).mono ?_
          rw [HCT.out]
          rintro e wt ⟨rfl, hbt⟩
          have Hpyt := Lib.hid (Holds.up (by have h := Hpyp.out; exact zp7 : Holds _ (wb.heap.size) 60 #[.int .i64 PL, .int .i64 PH]) hbt)
          have HLt := Lib.hid ((ints_at (rk_far (p := ⟨wb.heap.size, 1, none⟩) (rk_far (p := ⟨wb.heap.size, 0, none⟩) HOp.out hplt _) hplt _)).up hbt)
          have HBt : Hid (Below wb.heap.size wb wt) := Lib.hid (HBp.out.trans (Below.trans (by have h := hsp; (repeat' (first | (with_reducible first | exact Below.refl _ _ | assumption | refine Below.alloc ?_ ?_ _ | refine Below.drew ?_ | refine Below.setCell ?_ ?_ _ | exact Nat.le_refl _) | omega | (simp only [World.size_alloc, World.size_setCell, World.size_drew]; omega) | (simp; omega) | (simp; done)))) (hbt.mono (by simp; omega))))
          clear hbt
          go_wp2_with fail
          go_meet
          exact ⟨by rw [HW1.out], by rw [HU1.out], by rw [HS1.out], ⟨_, q, rfl, HLt.out⟩, by rw [HSN.out], Hpyt.out, HBt.out⟩
        ·have hk0 : within k (-1) ((gs.length : Int) - 1) = false := by simp only [within, Bool.and_eq_false_iff, decide_eq_false_iff_not]; omega
         have hs0 : S = 1 := by rw [QS.out, showErr, if_neg (by simp), if_pos hk0]
         have HS1 := Lib.hid hs0
         clear hk0 hs0
         go_wp2_with fail
         go_meet
         exact ⟨by rw [HW1.out], by rw [HU1.out], by rw [HS1.out], ⟨_, q, rfl, ints_at (rk_far (p := ⟨wb.heap.size, 1, none⟩) (rk_far (p := ⟨wb.heap.size, 0, none⟩) HOp.out hplt _) hplt _)⟩, by rw [HSN.out], (by have h := Hpyp.out; exact zp7), HBp.out.trans (by have h := hsp; (repeat' (first | (with_reducible first | exact Below.refl _ _ | assumption | refine Below.alloc ?_ ?_ _ | refine Below.drew ?_ | refine Below.setCell ?_ ?_ _ | exact Nat.le_refl _) | omega | (simp only [World.size_alloc, World.size_setCell, World.size_drew]; omega) | (simp; omega) | (simp; done))))⟩
       ·have hk0 : within k (-1) ((gs.length : Int) - 1) = false := by simp only [within, Bool.and_eq_false_iff, decide_eq_false_iff_not]; omega
        have hs0 : S = 1 := by rw [QS.out, showErr, if_neg (by simp), if_pos hk0]
        have HS1 := Lib.hid hs0
        clear hk0 hs0
        go_wp2_with fail
        go_meet
        exact ⟨by rw [HW1.out], by rw [HU1.out], by rw [HS1.out], ⟨_, q, rfl, ints_at (rk_far (p := ⟨wb.heap.size, 1, none⟩) (rk_far (p := ⟨wb.heap.size, 0, none⟩) HOp.out hplt _) hplt _)⟩, by rw [HSN.out], (by have h := Hpyp.out; exact zp7), HBp.out.trans (by have h := hsp; (repeat' (first | (with_reducible first | exact Below.refl _ _ | assumption | refine Below.alloc ?_ ?_ _ | refine Below.drew ?_ | refine Below.setCell ?_ ?_ _ | exact Nat.le_refl _) | omega | (simp only [World.size_alloc, World.size_setCell, World.size_drew]; omega) | (simp; omega) | (simp; done))))⟩
      ·have hc1' : ¬ (1 : Int) < C.length := by omega
       have hc1e : C.length = 1 := by omega
       obtain ⟨g0, hg0⟩ : ∃ x, C[0]? = some x := ⟨_, List.getElem?_eq_getElem hc0⟩
       have kl0 : wp.cell? ⟨LB, lo_, none⟩ = some (.int .i64 g0) := by have := HLC.out 0 g0 hg0; simpa using this
       have lLB := World.block_lt_of_cell? wp _ kl0
       have hlne : LB ≠ wb.heap.size := by have := (World.ownsRow.lt HOp.out LB rfl).1; omega
       have hu : U = 0 := by rw [QU.out, sureE, if_pos HW1.out]; exact (one_head hc1e hg0).2
       have hsn : SN = g0 := by rw [QSN.out, sureN, if_pos HW1.out]; exact (one_head hc1e hg0).1
       have hc0' : (0 : Int) < C.length := by omega
       clear hc1e hg0
       have HU1 := Lib.hid hu
       have HSN := Lib.hid hsn
       clear hu hsn
       by_cases t2 : -1 ≤ k
       ·by_cases t3 : k < gs.length
        ·cases hct : C.contains k with
         | true =>
          have hk0 : within k (-1) ((gs.length : Int) - 1) = true := by simp only [within, Bool.and_eq_true, decide_eq_true_eq]; omega
          have hs0 : S = 0 := by rw [QS.out, showErr, if_neg (by simp), if_neg (by simp [hk0]), if_neg (by simp [HEB.out]), ← HC1.out, if_pos hct]
          have HS1 := Lib.hid hs0
          have HCT := Lib.hid hct
          clear hk0 hs0 hct
          go_wp2_with fail
          refine (contains_bel (some ⟨LB, lo_, none⟩) q C k _ (ints_at (rk_far (p := ⟨wb.heap.size, 1, none⟩) (rk_far (p := ⟨wb.heap.size, 0, none⟩) HOp.out hplt _) hplt _)) (by omega)).mono ?_
          rw [HCT.out]
          rintro e wt ⟨rfl, hbt⟩
          have Hpyt := Lib.hid (Holds.up (by have h := Hpyp.out; exact zp7 : Holds _ (wb.heap.size) 60 #[.int .i64 PL, .int .i64 PH]) hbt)
          have HLt := Lib.hid ((ints_at (rk_far (p := ⟨wb.heap.size, 1, none⟩) (rk_far (p := ⟨wb.heap.size, 0, none⟩) HOp.out hplt _) hplt _)).up hbt)
          have HBt : Hid (Below wb.heap.size wb wt) := Lib.hid (HBp.out.trans (Below.trans (by have h := hsp; (repeat' (first | (with_reducible first | exact Below.refl _ _ | assumption | refine Below.alloc ?_ ?_ _ | refine Below.drew ?_ | refine Below.setCell ?_ ?_ _ | exact Nat.le_refl _) | omega | (simp only [World.size_alloc, World.size_setCell, World.size_drew]; omega) | (simp; omega) | (simp; done)))) (hbt.mono (by simp; omega))))
          clear hbt
          go_wp2_with fail
          go_meet
          exact ⟨by rw [HW1.out], by rw [HU1.out], by rw [HS1.out], ⟨_, q, rfl, HLt.out⟩, by rw [HSN.out], Hpyt.out, HBt.out⟩
         | false =>
          have hk0 : within k (-1) ((gs.length : Int) - 1) = true := by simp only [within, Bool.and_eq_true, decide_eq_true_eq]; omega
          have hs0 : S = 6 := by rw [QS.out, showErr, if_neg (by simp), if_neg (by simp [hk0]), if_neg (by simp [HEB.out]), ← HC1.out, if_neg (by rw [hct]; exact Bool.false_ne_true)]
          have HS1 := Lib.hid hs0
          have HCT := Lib.hid hct
          clear hk0 hs0 hct
          go_wp2_with fail
          refine (contains_bel (some ⟨LB, lo_, none⟩) q C k _ (ints_at (rk_far (p := ⟨wb.heap.size, 1, none⟩) (rk_far (p := ⟨wb.heap.size, 0, none⟩) HOp.out hplt _) hplt _)) (by omega)).mono ?_
          rw [HCT.out]
          rintro e wt ⟨rfl, hbt⟩
          have Hpyt := Lib.hid (Holds.up (by have h := Hpyp.out; exact zp7 : Holds _ (wb.heap.size) 60 #[.int .i64 PL, .int .i64 PH]) hbt)
          have HLt := Lib.hid ((ints_at (rk_far (p := ⟨wb.heap.size, 1, none⟩) (rk_far (p := ⟨wb.heap.size, 0, none⟩) HOp.out hplt _) hplt _)).up hbt)
          have HBt : Hid (Below wb.heap.size wb wt) := Lib.hid (HBp.out.trans (Below.trans (by have h := hsp; (repeat' (first | (with_reducible first | exact Below.refl _ _ | assumption | refine Below.alloc ?_ ?_ _ | refine Below.drew ?_ | refine Below.setCell ?_ ?_ _ | exact Nat.le_refl _) | omega | (simp only [World.size_alloc, World.size_setCell, World.size_drew]; omega) | (simp; omega) | (simp; done)))) (hbt.mono (by simp; omega))))
          clear hbt
          go_wp2_with fail
          go_meet
          exact ⟨by rw [HW1.out], by rw [HU1.out], by rw [HS1.out], ⟨_, q, rfl, HLt.out⟩, by rw [HSN.out], Hpyt.out, HBt.out⟩
        ·have hk0 : within k (-1) ((gs.length : Int) - 1) = false := by simp only [within, Bool.and_eq_false_iff, decide_eq_false_iff_not]; omega
         have hs0 : S = 1 := by rw [QS.out, showErr, if_neg (by simp), if_pos hk0]
         have HS1 := Lib.hid hs0
         clear hk0 hs0
         go_wp2_with fail
         go_meet
         exact ⟨by rw [HW1.out], by rw [HU1.out], by rw [HS1.out], ⟨_, q, rfl, ints_at (rk_far (p := ⟨wb.heap.size, 1, none⟩) (rk_far (p := ⟨wb.heap.size, 0, none⟩) HOp.out hplt _) hplt _)⟩, by rw [HSN.out], (by have h := Hpyp.out; exact zp7), HBp.out.trans (by have h := hsp; (repeat' (first | (with_reducible first | exact Below.refl _ _ | assumption | refine Below.alloc ?_ ?_ _ | refine Below.drew ?_ | refine Below.setCell ?_ ?_ _ | exact Nat.le_refl _) | omega | (simp only [World.size_alloc, World.size_setCell, World.size_drew]; omega) | (simp; omega) | (simp; done))))⟩
       ·have hk0 : within k (-1) ((gs.length : Int) - 1) = false := by simp only [within, Bool.and_eq_false_iff, decide_eq_false_iff_not]; omega
        have hs0 : S = 1 := by rw [QS.out, showErr, if_neg (by simp), if_pos hk0]
        have HS1 := Lib.hid hs0
        clear hk0 hs0
        go_wp2_with fail
        go_meet
        exact ⟨by rw [HW1.out], by rw [HU1.out], by rw [HS1.out], ⟨_, q, rfl, ints_at (rk_far (p := ⟨wb.heap.size, 1, none⟩) (rk_far (p := ⟨wb.heap.size, 0, none⟩) HOp.out hplt _) hplt _)⟩, by rw [HSN.out], (by have h := Hpyp.out; exact zp7), HBp.out.trans (by have h := hsp; (repeat' (first | (with_reducible first | exact Below.refl _ _ | assumption | refine Below.alloc ?_ ?_ _ | refine Below.drew ?_ | refine Below.setCell ?_ ?_ _ | exact Nat.le_refl _) | omega | (simp only [World.size_alloc, World.size_setCell, World.size_drew]; omega) | (simp; omega) | (simp; done))))⟩
     ·have hn0 : n = 0 := by omega
      have he : B.empty = true := by rw [QB.out]; exact (fitL_nil HNN.out).2 (by rw [← QN.out]; exact hn0)
      have hw : W = 7 := by rw [QW.out, boundErr_clash he]
      have HW1 := Lib.hid hw
      have HW0 : Hid (¬ W = 0) := Lib.hid (by rw [hw]; decide)
      have HEB := Lib.hid he
      clear hw he hn0
      have f0 : C = [] := by rw [QC.out, canIf, if_neg HW0.out]
      have f1 : U = W := by rw [QU.out, sureE, if_neg HW0.out]
      have f2 : SN = 0 := by rw [QSN.out, sureN, if_neg HW0.out]
      have f3 : PL = 0 := by rw [QPL.out, zIf, if_neg HW0.out]
      have f4 : PH = 0 := by rw [QPH.out, zIf, if_neg HW0.out]
      have F0 := Lib.hid f0
      have F1 := Lib.hid f1
      have F2 := Lib.hid f2
      have F3 := Lib.hid f3
      have F4 := Lib.hid f4
      clear f0 f1 f2 f3 f4
      obtain ⟨kg0, kg1, kg2⟩ := Hgl.out.c3
      have lt_g := Hgl.out.lt
      by_cases t2 : -1 ≤ k
      ·by_cases t3 : k < gs.length
       ·have hk0 : within k (-1) ((gs.length : Int) - 1) = true := by simp only [within, Bool.and_eq_true, decide_eq_true_eq]; omega
        have hs0 : S = 7 := by rw [QS.out, showErr, if_neg (by simp), if_neg (by simp [hk0]), if_pos HEB.out]
        have HS1 := Lib.hid hs0
        clear hk0 hs0
        go_wp2_with fail
        go_meet
        exact ⟨by rw [HW1.out], by rw [F1.out, HW1.out], by rw [HS1.out], ⟨none, 0, by rw [F0.out]; rfl, fun h => by rw [F0.out] at h; exact absurd h (Nat.lt_irrefl 0)⟩, by rw [F2.out], (by rw [F3.out, F4.out]; exact Hpyl.out), HBl.out⟩
       ·have hk0 : within k (-1) ((gs.length : Int) - 1) = false := by simp only [within, Bool.and_eq_false_iff, decide_eq_false_iff_not]; omega
        have hs0 : S = 1 := by rw [QS.out, showErr, if_neg (by simp), if_pos hk0]
        have HS1 := Lib.hid hs0
        clear hk0 hs0
        go_wp2_with fail
        go_meet
        exact ⟨by rw [HW1.out], by rw [F1.out, HW1.out], by rw [HS1.out], ⟨none, 0, by rw [F0.out]; rfl, fun h => by rw [F0.out] at h; exact absurd h (Nat.lt_irrefl 0)⟩, by rw [F2.out], (by rw [F3.out, F4.out]; exact Hpyl.out), HBl.out⟩
      ·have hk0 : within k (-1) ((gs.length : Int) - 1) = false := by simp only [within, Bool.and_eq_false_iff, decide_eq_false_iff_not]; omega
       have hs0 : S = 1 := by rw [QS.out, showErr, if_neg (by simp), if_pos hk0]
       have HS1 := Lib.hid hs0
       clear hk0 hs0
       go_wp2_with fail
       go_meet
       exact ⟨by rw [HW1.out], by rw [F1.out, HW1.out], by rw [HS1.out], ⟨none, 0, by rw [F0.out]; rfl, fun h => by rw [F0.out] at h; exact absurd h (Nat.lt_irrefl 0)⟩, by rw [F2.out], (by rw [F3.out, F4.out]; exact Hpyl.out), HBl.out⟩
    ·have hq : (E == 0) = false := by simp [hE0]
     have hw : W = E := by rw [QW.out, boundErr_bad hE0]
     have hs0 : S = E := by rw [QS.out, showErr, if_pos hE0]
     have HW1 := Lib.hid hw
     have HS1 := Lib.hid hs0
     have HW0 : Hid (¬ W = 0) := Lib.hid (by rw [hw]; exact hE0)
     clear hw hs0
     have f0 : C = [] := by rw [QC.out, canIf, if_neg HW0.out]
     have f1 : U = W := by rw [QU.out, sureE, if_neg HW0.out]
     have f2 : SN = 0 := by rw [QSN.out, sureN, if_neg HW0.out]
     have f3 : PL = 0 := by rw [QPL.out, zIf, if_neg HW0.out]
     have f4 : PH = 0 := by rw [QPH.out, zIf, if_neg HW0.out]
     have F0 := Lib.hid f0
     have F1 := Lib.hid f1
     have F2 := Lib.hid f2
     have F3 := Lib.hid f3
     have F4 := Lib.hid f4
     clear f0 f1 f2 f3 f4
     go_wp2_with fail
     go_meet
     exact ⟨by rw [HW1.out], by rw [F1.out, HW1.out], by rw [HS1.out], ⟨none, 0, by rw [F0.out]; rfl, fun h => by rw [F0.out] at h; exact absurd h (Nat.lt_irrefl 0)⟩, by rw [F2.out], (by rw [F3.out, F4.out]; exact zp7), zg⟩
   case rest =>
    rename World => wu
    obtain ⟨rfl, rfl, rfl, ⟨L1, q1, rfl, hL1⟩, rfl, hpy, hbu⟩ := hcut
    have HKu := Lib.hid hL1
    have Hpyu := Lib.hid hpy
    have HSu := Lib.hid hbu
    have HBu := Lib.hid (HBb.out.trans (hbu.mono hsb))
    have hsu := HBu.out.size
    have hstu := hbu.size
    have Hgu := Lib.hid (Hgb.out.up hbu)
    have Hcu := Lib.hid (Hcb.out.up hbu)
    have Hgou := Lib.hid (Hgob.out.up hbu)
    have Hcou := Lib.hid (Hcob.out.up hbu)
    have Hgxu := Lib.hid (Hgxb.out.up hbu)
    have Hcxu := Lib.hid (Hcxb.out.up hbu)
    have HGu := Lib.hid (HGb.out.up hbu)
    have HAu := Lib.hid (HAb.out.up hbu)
    have HPu := Lib.hid (HPb.out.up hbu)
    have HMu := Lib.hid (HMb.out.up hbu)
    have HXu := Lib.hid (HXb.out.up hbu)
    have HYu := Lib.hid (HYb.out.up hbu)
    clear hL1 hpy hbu
    clear kgx0 kgx1 kgx2 lt_gx kcx0 kcx1 kcx2 lt_cx kg0 kg1 kg2 lt_g
    obtain ⟨kgo0, kgo1, kgo2⟩ := Hgou.out.c3
    have lt_go : bn12 < wu.heap.size := Hgou.out.lt
    obtain ⟨kco0, kco1, kco2⟩ := Hcou.out.c3
    have lt_co : bn13 < wu.heap.size := Hcou.out.lt
    go_wp2_with fail
    refine (Can_tot err miss full emp G1n12 A1n13 d1n12 c1n13 gs hs _ (HPu.out.up zg) g7' hdn (HMu.out.up zg) h9' QE.out QB.out QW.out).mono ?_
    rw [← QC.out]
    rintro e wd ⟨L2, q2, rfl, hL2, hbd⟩
    have Hgd := Lib.hid (Holds.up (by have h := Hgu.out; exact zp7 : Holds _ (w.heap.size) 24 #[.int .i64 err, .int .i64 miss, .slice G gs.length d]) hbd)
    have Hcd := Lib.hid (Holds.up (by have h := Hcu.out; exact zp7 : Holds _ (w.heap.size + 1) 27 #[.int .i64 full, .int .i64 emp, .slice A hs.length c]) hbd)
    have Hgod := Lib.hid (Holds.up (by have h := Hgou.out; exact zp7 : Holds _ (bn12) 24 #[.int .i64 err, .int .i64 miss, .slice G1n12 gs.length d1n12]) hbd)
    have Hcod := Lib.hid (Holds.up (by have h := Hcou.out; exact zp7 : Holds _ (bn13) 27 #[.int .i64 full, .int .i64 emp, .slice A1n13 hs.length c1n13]) hbd)
    have Hgxd := Lib.hid (Holds.up (by have h := Hgxu.out; exact zp7 : Holds _ (bn14) 49 #[.int .i64 err, .int .i64 miss, .slice A8n14 gs.length c8n14]) hbd)
    have Hcxd := Lib.hid (Holds.up (by have h := Hcxu.out; exact zp7 : Holds _ (bn15) 37 #[.int .i64 full, .int .i64 emp, .slice A9n15 hs.length c9n15]) hbd)
    have Hpyd := Lib.hid (Holds.up (by have h := Hpyu.out; exact zp7 : Holds _ (wb.heap.size) 60 #[.int .i64 PL, .int .i64 PH]) hbd)
    have HSd : Hid (Below wu.heap.size wu wd) := Lib.hid (Below.trans zg (hbd.mono (by first | exact Nat.le_refl _ | omega | (simp; done) | (simp; omega))))
    have HBd : Hid (Below w.heap.size w wd) := Lib.hid (HBu.out.trans (HSd.out.mono hsu))
    have hsd := HBd.out.size
    have hstd := HSd.out.size
    have HGd := Lib.hid (HGu.out.up HSd.out)
    have HAd := Lib.hid (HAu.out.up HSd.out)
    have HPd := Lib.hid (HPu.out.up HSd.out)
    have HMd := Lib.hid (HMu.out.up HSd.out)
    have HXd := Lib.hid (HXu.out.up HSd.out)
    have HYd := Lib.hid (HYu.out.up HSd.out)
    have HKd := Lib.hid (HKu.out.up HSd.out)
    clear hbd
    have HJd := Lib.hid hL2
    clear hL2
    clear kgo0 kgo1 kgo2 lt_go kco0 kco1 kco2 lt_co
    obtain ⟨kgo0, kgo1, kgo2⟩ := Hgod.out.c3
    have lt_go : bn12 < wd.heap.size := Hgod.out.lt
    obtain ⟨kco0, kco1, kco2⟩ := Hcod.out.c3
    have lt_co : bn13 < wd.heap.size := Hcod.out.lt
    go_wp2_with fail
    refine (Sure_tot err miss full emp G1n12 A1n13 d1n12 c1n13 gs hs _ (HPd.out.up zg) g7' hdn (HMd.out.up zg) h9' QE.out QB.out QW.out).mono ?_
    rw [← QC.out, ← QSN.out, ← QU.out]
    rintro e wf ⟨rfl, hbf⟩
    have Hgf := Lib.hid (Holds.up (by have h := Hgd.out; exact zp7 : Holds _ (w.heap.size) 24 #[.int .i64 err, .int .i64 miss, .slice G gs.length d]) hbf)
    have Hcf := Lib.hid (Holds.up (by have h := Hcd.out; exact zp7 : Holds _ (w.heap.size + 1) 27 #[.int .i64 full, .int .i64 emp, .slice A hs.length c]) hbf)
    have Hgof := Lib.hid (Holds.up (by have h := Hgod.out; exact zp7 : Holds _ (bn12) 24 #[.int .i64 err, .int .i64 miss, .slice G1n12 gs.length d1n12]) hbf)
    have Hcof := Lib.hid (Holds.up (by have h := Hcod.out; exact zp7 : Holds _ (bn13) 27 #[.int .i64 full, .int .i64 emp, .slice A1n13 hs.length c1n13]) hbf)
    have Hgxf := Lib.hid (Holds.up (by have h := Hgxd.out; exact zp7 : Holds _ (bn14) 49 #[.int .i64 err, .int .i64 miss, .slice A8n14 gs.length c8n14]) hbf)
    have Hcxf := Lib.hid (Holds.up (by have h := Hcxd.out; exact zp7 : Holds _ (bn15) 37 #[.int .i64 full, .int .i64 emp, .slice A9n15 hs.length c9n15]) hbf)
    have Hpyf := Lib.hid (Holds.up (by have h := Hpyd.out; exact zp7 : Holds _ (wb.heap.size) 60 #[.int .i64 PL, .int .i64 PH]) hbf)
    have HSf : Hid (Below wd.heap.size wd wf) := Lib.hid (Below.trans zg (hbf.mono (by first | exact Nat.le_refl _ | omega | (simp; done) | (simp; omega))))
    have HBf : Hid (Below w.heap.size w wf) := Lib.hid (HBd.out.trans (HSf.out.mono hsd))
    have hsf := HBf.out.size
    have hstf := HSf.out.size
    have HGf := Lib.hid (HGd.out.up HSf.out)
    have HAf := Lib.hid (HAd.out.up HSf.out)
    have HPf := Lib.hid (HPd.out.up HSf.out)
    have HMf := Lib.hid (HMd.out.up HSf.out)
    have HXf := Lib.hid (HXd.out.up HSf.out)
    have HYf := Lib.hid (HYd.out.up HSf.out)
    have HKf := Lib.hid (HKd.out.up HSf.out)
    have HJf := Lib.hid (HJd.out.up HSf.out)
    clear hbf
    clear kgo0 kgo1 kgo2 lt_go kco0 kco1 kco2 lt_co
    obtain ⟨kgo0, kgo1, kgo2⟩ := Hgof.out.c3
    have lt_go : bn12 < wf.heap.size := Hgof.out.lt
    obtain ⟨kco0, kco1, kco2⟩ := Hcof.out.c3
    have lt_co : bn13 < wf.heap.size := Hcof.out.lt
    go_wp2_with fail
    refine (Show_tot err miss full emp G1n12 A1n13 d1n12 c1n13 gs hs k _ (HPf.out.up zg) g7' hdn (HMf.out.up zg) h9' QE.out QB.out QS.out).mono ?_
    rintro e wh ⟨m0, m1, m2, m3, rfl, hsm, hbh⟩
    have Hgh := Lib.hid (Holds.up (by have h := Hgf.out; exact zp7 : Holds _ (w.heap.size) 24 #[.int .i64 err, .int .i64 miss, .slice G gs.length d]) hbh)
    have Hch := Lib.hid (Holds.up (by have h := Hcf.out; exact zp7 : Holds _ (w.heap.size + 1) 27 #[.int .i64 full, .int .i64 emp, .slice A hs.length c]) hbh)
    have Hgoh := Lib.hid (Holds.up (by have h := Hgof.out; exact zp7 : Holds _ (bn12) 24 #[.int .i64 err, .int .i64 miss, .slice G1n12 gs.length d1n12]) hbh)
    have Hcoh := Lib.hid (Holds.up (by have h := Hcof.out; exact zp7 : Holds _ (bn13) 27 #[.int .i64 full, .int .i64 emp, .slice A1n13 hs.length c1n13]) hbh)
    have Hgxh := Lib.hid (Holds.up (by have h := Hgxf.out; exact zp7 : Holds _ (bn14) 49 #[.int .i64 err, .int .i64 miss, .slice A8n14 gs.length c8n14]) hbh)
    have Hcxh := Lib.hid (Holds.up (by have h := Hcxf.out; exact zp7 : Holds _ (bn15) 37 #[.int .i64 full, .int .i64 emp, .slice A9n15 hs.length c9n15]) hbh)
    have Hpyh := Lib.hid (Holds.up (by have h := Hpyf.out; exact zp7 : Holds _ (wb.heap.size) 60 #[.int .i64 PL, .int .i64 PH]) hbh)
    have HSh : Hid (Below wf.heap.size wf wh) := Lib.hid (Below.trans zg (hbh.mono (by first | exact Nat.le_refl _ | omega | (simp; done) | (simp; omega))))
    have HBh : Hid (Below w.heap.size w wh) := Lib.hid (HBf.out.trans (HSh.out.mono hsf))
    have hsh := HBh.out.size
    have hsth := HSh.out.size
    have HGh := Lib.hid (HGf.out.up HSh.out)
    have HAh := Lib.hid (HAf.out.up HSh.out)
    have HPh := Lib.hid (HPf.out.up HSh.out)
    have HMh := Lib.hid (HMf.out.up HSh.out)
    have HXh := Lib.hid (HXf.out.up HSh.out)
    have HYh := Lib.hid (HYf.out.up HSh.out)
    have HKh := Lib.hid (HKf.out.up HSh.out)
    have HJh := Lib.hid (HJf.out.up HSh.out)
    clear hbh
    have HSM := Lib.hid hsm
    clear hsm
    clear kgo0 kgo1 kgo2 lt_go kco0 kco1 kco2 lt_co
    obtain ⟨kgo0, kgo1, kgo2⟩ := Hgoh.out.c3
    have lt_go : bn12 < wh.heap.size := Hgoh.out.lt
    obtain ⟨kco0, kco1, kco2⟩ := Hcoh.out.c3
    have lt_co : bn13 < wh.heap.size := Hcoh.out.lt
    have l2_go := Nat.lt_succ_of_lt lt_go
    have l2_co := Nat.lt_succ_of_lt lt_co
    go_wp2_with fail
    refine (Pay_tot err miss full emp G1n12 A1n13 d1n12 c1n13 gs hs _ (HPh.out.up zg) g7' hdn (HMh.out.up zg) h9' QE.out QB.out QW.out QPL.out QPH.out).mono ?_
    rintro e wi ⟨rfl, hbi⟩
    have Hgi := Lib.hid (Holds.up (by have h := Hgh.out; exact zp7 : Holds _ (w.heap.size) 24 #[.int .i64 err, .int .i64 miss, .slice G gs.length d]) hbi)
    have Hci := Lib.hid (Holds.up (by have h := Hch.out; exact zp7 : Holds _ (w.heap.size + 1) 27 #[.int .i64 full, .int .i64 emp, .slice A hs.length c]) hbi)
    have Hgoi := Lib.hid (Holds.up (by have h := Hgoh.out; exact zp7 : Holds _ (bn12) 24 #[.int .i64 err, .int .i64 miss, .slice G1n12 gs.length d1n12]) hbi)
    have Hcoi := Lib.hid (Holds.up (by have h := Hcoh.out; exact zp7 : Holds _ (bn13) 27 #[.int .i64 full, .int .i64 emp, .slice A1n13 hs.length c1n13]) hbi)
    have Hgxi := Lib.hid (Holds.up (by have h := Hgxh.out; exact zp7 : Holds _ (bn14) 49 #[.int .i64 err, .int .i64 miss, .slice A8n14 gs.length c8n14]) hbi)
    have Hcxi := Lib.hid (Holds.up (by have h := Hcxh.out; exact zp7 : Holds _ (bn15) 37 #[.int .i64 full, .int .i64 emp, .slice A9n15 hs.length c9n15]) hbi)
    have Hpyi := Lib.hid (Holds.up (by have h := Hpyh.out; exact zp7 : Holds _ (wb.heap.size) 60 #[.int .i64 PL, .int .i64 PH]) hbi)
    have Hm1i := Lib.hid (Holds.up (zp7 : Holds _ (wh.heap.size) 28 #[.int .i64 m0, .int .i64 m1, .int .i64 m2, .int .i64 m3]) hbi)
    have HSi : Hid (Below wh.heap.size wh wi) := Lib.hid (Below.trans zg (hbi.mono (by first | exact Nat.le_refl _ | omega | (simp; done) | (simp; omega))))
    have HBi : Hid (Below w.heap.size w wi) := Lib.hid (HBh.out.trans (HSi.out.mono hsh))
    have hsi := HBi.out.size
    have hsti := HSi.out.size
    have HGi := Lib.hid (HGh.out.up HSi.out)
    have HAi := Lib.hid (HAh.out.up HSi.out)
    have HPi := Lib.hid (HPh.out.up HSi.out)
    have HMi := Lib.hid (HMh.out.up HSi.out)
    have HXi := Lib.hid (HXh.out.up HSi.out)
    have HYi := Lib.hid (HYh.out.up HSi.out)
    have HKi := Lib.hid (HKh.out.up HSi.out)
    have HJi := Lib.hid (HJh.out.up HSi.out)
    clear hbi
    clear kgo0 kgo1 kgo2 lt_go kco0 kco1 kco2 lt_co
    obtain ⟨kpy0, kpy1⟩ := Hpyi.out.c2
    have lt_py : wb.heap.size < wi.heap.size := Hpyi.out.lt
    obtain ⟨km10, km11, km12, km13⟩ := Hm1i.out.c4
    have lt_m1 : wh.heap.size < wi.heap.size := Hm1i.out.lt
    clear l2_go l2_co
    have l2_py := Nat.lt_succ_of_lt lt_py
    have l2_m1 := Nat.lt_succ_of_lt lt_m1
    have hq2 := neq_span PL PH
    go_wp2_with fail
    refine (eqInt_same L2 L1 q2 q1 C _ (HJi.out.up zg) (HKi.out.up zg) (by omega)).mono ?_
    rintro e wj ⟨rfl, hbj⟩
    have Hgj := Lib.hid (Holds.up (by have h := Hgi.out; exact zp7 : Holds _ (w.heap.size) 24 #[.int .i64 err, .int .i64 miss, .slice G gs.length d]) hbj)
    have Hcj := Lib.hid (Holds.up (by have h := Hci.out; exact zp7 : Holds _ (w.heap.size + 1) 27 #[.int .i64 full, .int .i64 emp, .slice A hs.length c]) hbj)
    have Hgoj := Lib.hid (Holds.up (by have h := Hgoi.out; exact zp7 : Holds _ (bn12) 24 #[.int .i64 err, .int .i64 miss, .slice G1n12 gs.length d1n12]) hbj)
    have Hcoj := Lib.hid (Holds.up (by have h := Hcoi.out; exact zp7 : Holds _ (bn13) 27 #[.int .i64 full, .int .i64 emp, .slice A1n13 hs.length c1n13]) hbj)
    have Hgxj := Lib.hid (Holds.up (by have h := Hgxi.out; exact zp7 : Holds _ (bn14) 49 #[.int .i64 err, .int .i64 miss, .slice A8n14 gs.length c8n14]) hbj)
    have Hcxj := Lib.hid (Holds.up (by have h := Hcxi.out; exact zp7 : Holds _ (bn15) 37 #[.int .i64 full, .int .i64 emp, .slice A9n15 hs.length c9n15]) hbj)
    have Hpyj := Lib.hid (Holds.up (by have h := Hpyi.out; exact zp7 : Holds _ (wb.heap.size) 60 #[.int .i64 PL, .int .i64 PH]) hbj)
    have Hm1j := Lib.hid (Holds.up (by have h := Hm1i.out; exact zp7 : Holds _ (wh.heap.size) 28 #[.int .i64 m0, .int .i64 m1, .int .i64 m2, .int .i64 m3]) hbj)
    have Hp1j := Lib.hid (Holds.up (zp7 : Holds _ (wi.heap.size) 60 #[.int .i64 PL, .int .i64 PH]) hbj)
    have HSj : Hid (Below wi.heap.size wi wj) := Lib.hid (Below.trans zg (hbj.mono (by first | exact Nat.le_refl _ | omega | (simp; done) | (simp; omega))))
    have HBj : Hid (Below w.heap.size w wj) := Lib.hid (HBi.out.trans (HSj.out.mono hsi))
    have hsj := HBj.out.size
    have hstj := HSj.out.size
    have HGj := Lib.hid (HGi.out.up HSj.out)
    have HAj := Lib.hid (HAi.out.up HSj.out)
    have HPj := Lib.hid (HPi.out.up HSj.out)
    have HMj := Lib.hid (HMi.out.up HSj.out)
    have HXj := Lib.hid (HXi.out.up HSj.out)
    have HYj := Lib.hid (HYi.out.up HSj.out)
    have HKj := Lib.hid (HKi.out.up HSj.out)
    have HJj := Lib.hid (HJi.out.up HSj.out)
    clear hbj
    clear kpy0 kpy1 lt_py km10 km11 km12 km13 lt_m1
    obtain ⟨kpy0, kpy1⟩ := Hpyj.out.c2
    have lt_py : wb.heap.size < wj.heap.size := Hpyj.out.lt
    obtain ⟨km10, km11, km12, km13⟩ := Hm1j.out.c4
    have lt_m1 : wh.heap.size < wj.heap.size := Hm1j.out.lt
    obtain ⟨kp10, kp11⟩ := Hp1j.out.c2
    have lt_p1 : wi.heap.size < wj.heap.size := Hp1j.out.lt
    by_cases hS0 : S = 0
    ·have hqs : (S != 0) = false := by simp [hS0]
     have hm := HSM.out
     rw [ShownM, if_pos hS0] at hm
     obtain ⟨hmz, hfz, hgz⟩ := hm
     have hE0 : E = 0 := showErr_E (QS.out.symm.trans hS0)
     obtain ⟨hg0, hc0⟩ := bothErr_zero (QE.out.symm.trans hE0)
     obtain ⟨_, _, _, i0, i1, _, _⟩ := gateErr_zero hg0
     obtain ⟨_, _, _, _, _, ht, hn⟩ := cartErr_zero hc0
     have HT := Lib.hid ht
     obtain ⟨q0', q1', q2', q3', _⟩ := mix_parts hmz
     have HMZ := Lib.hid hmz
     have HFZ := Lib.hid hfz
     have HGZ := Lib.hid hgz
     have HS0 := Lib.hid hS0
     clear hg0 hc0 ht hn hE0 hmz hfz hgz hS0
     go_wp2_with fail
     refine (refMixed_any m0 m1 m2 m3 _).mono ?_
     rw [HMZ.out]
     rintro e wr ⟨rfl, hbr⟩
     have Hgr := Lib.hid (Holds.up (by have h := Hgj.out; exact zp7 : Holds _ (w.heap.size) 24 #[.int .i64 err, .int .i64 miss, .slice G gs.length d]) hbr)
     have Hcr := Lib.hid (Holds.up (by have h := Hcj.out; exact zp7 : Holds _ (w.heap.size + 1) 27 #[.int .i64 full, .int .i64 emp, .slice A hs.length c]) hbr)
     have Hgor := Lib.hid (Holds.up (by have h := Hgoj.out; exact zp7 : Holds _ (bn12) 24 #[.int .i64 err, .int .i64 miss, .slice G1n12 gs.length d1n12]) hbr)
     have Hcor := Lib.hid (Holds.up (by have h := Hcoj.out; exact zp7 : Holds _ (bn13) 27 #[.int .i64 full, .int .i64 emp, .slice A1n13 hs.length c1n13]) hbr)
     have Hgxr := Lib.hid (Holds.up (by have h := Hgxj.out; exact zp7 : Holds _ (bn14) 49 #[.int .i64 err, .int .i64 miss, .slice A8n14 gs.length c8n14]) hbr)
     have Hcxr := Lib.hid (Holds.up (by have h := Hcxj.out; exact zp7 : Holds _ (bn15) 37 #[.int .i64 full, .int .i64 emp, .slice A9n15 hs.length c9n15]) hbr)
     have Hpyr := Lib.hid (Holds.up (by have h := Hpyj.out; exact zp7 : Holds _ (wb.heap.size) 60 #[.int .i64 PL, .int .i64 PH]) hbr)
     have Hm1r := Lib.hid (Holds.up (by have h := Hm1j.out; exact zp7 : Holds _ (wh.heap.size) 28 #[.int .i64 m0, .int .i64 m1, .int .i64 m2, .int .i64 m3]) hbr)
     have Hp1r := Lib.hid (Holds.up (by have h := Hp1j.out; exact zp7 : Holds _ (wi.heap.size) 60 #[.int .i64 PL, .int .i64 PH]) hbr)
     have HSr : Hid (Below wj.heap.size wj wr) := Lib.hid (Below.trans zg (hbr.mono (by first | exact Nat.le_refl _ | omega | (simp; done) | (simp; omega))))
     have HBr : Hid (Below w.heap.size w wr) := Lib.hid (HBj.out.trans (HSr.out.mono hsj))
     have hsr := HBr.out.size
     have hstr := HSr.out.size
     have HGr := Lib.hid (HGj.out.up HSr.out)
     have HAr := Lib.hid (HAj.out.up HSr.out)
     have HPr := Lib.hid (HPj.out.up HSr.out)
     have HMr := Lib.hid (HMj.out.up HSr.out)
     have HXr := Lib.hid (HXj.out.up HSr.out)
     have HYr := Lib.hid (HYj.out.up HSr.out)
     have HKr := Lib.hid (HKj.out.up HSr.out)
     have HJr := Lib.hid (HJj.out.up HSr.out)
     clear hbr
     clear kpy0 kpy1 lt_py km10 km11 km12 km13 lt_m1 kp10 kp11 lt_p1
     obtain ⟨km10, km11, km12, km13⟩ := Hm1r.out.c4
     have lt_m1 : wh.heap.size < wr.heap.size := Hm1r.out.lt
     obtain ⟨kgx0, kgx1, kgx2⟩ := Hgxr.out.c3
     have lt_gx : bn14 < wr.heap.size := Hgxr.out.lt
     obtain ⟨kcx0, kcx1, kcx2⟩ := Hcxr.out.c3
     have lt_cx : bn15 < wr.heap.size := Hcxr.out.lt
     go_wp2_with fail
     refine (refFits_any err miss A8n14 gs.length c8n14 full emp A9n15 c9n15 hs m0 m1 m2 m3 q0' q1' q2' q3' i0 i1 _ (HYr.out.up zg) h9' HT.out).mono ?_
     rw [HFZ.out]
     rintro e ws ⟨rfl, hbs⟩
     have Hgs := Lib.hid (Holds.up (by have h := Hgr.out; exact zp7 : Holds _ (w.heap.size) 24 #[.int .i64 err, .int .i64 miss, .slice G gs.length d]) hbs)
     have Hcs := Lib.hid (Holds.up (by have h := Hcr.out; exact zp7 : Holds _ (w.heap.size + 1) 27 #[.int .i64 full, .int .i64 emp, .slice A hs.length c]) hbs)
     have Hgos := Lib.hid (Holds.up (by have h := Hgor.out; exact zp7 : Holds _ (bn12) 24 #[.int .i64 err, .int .i64 miss, .slice G1n12 gs.length d1n12]) hbs)
     have Hcos := Lib.hid (Holds.up (by have h := Hcor.out; exact zp7 : Holds _ (bn13) 27 #[.int .i64 full, .int .i64 emp, .slice A1n13 hs.length c1n13]) hbs)
     have Hgxs := Lib.hid (Holds.up (by have h := Hgxr.out; exact zp7 : Holds _ (bn14) 49 #[.int .i64 err, .int .i64 miss, .slice A8n14 gs.length c8n14]) hbs)
     have Hcxs := Lib.hid (Holds.up (by have h := Hcxr.out; exact zp7 : Holds _ (bn15) 37 #[.int .i64 full, .int .i64 emp, .slice A9n15 hs.length c9n15]) hbs)
     have Hpys := Lib.hid (Holds.up (by have h := Hpyr.out; exact zp7 : Holds _ (wb.heap.size) 60 #[.int .i64 PL, .int .i64 PH]) hbs)
     have Hm1s := Lib.hid (Holds.up (by have h := Hm1r.out; exact zp7 : Holds _ (wh.heap.size) 28 #[.int .i64 m0, .int .i64 m1, .int .i64 m2, .int .i64 m3]) hbs)
     have Hp1s := Lib.hid (Holds.up (by have h := Hp1r.out; exact zp7 : Holds _ (wi.heap.size) 60 #[.int .i64 PL, .int .i64 PH]) hbs)
     have HSs : Hid (Below wr.heap.size wr ws) := Lib.hid (Below.trans zg (hbs.mono (by first | exact Nat.le_refl _ | omega | (simp; done) | (simp; omega))))
     have HBs : Hid (Below w.heap.size w ws) := Lib.hid (HBr.out.trans (HSs.out.mono hsr))
     have hss := HBs.out.size
     have hsts := HSs.out.size
     have HGs := Lib.hid (HGr.out.up HSs.out)
     have HAs := Lib.hid (HAr.out.up HSs.out)
     have HPs := Lib.hid (HPr.out.up HSs.out)
     have HMs := Lib.hid (HMr.out.up HSs.out)
     have HXs := Lib.hid (HXr.out.up HSs.out)
     have HYs := Lib.hid (HYr.out.up HSs.out)
     have HKs := Lib.hid (HKr.out.up HSs.out)
     have HJs := Lib.hid (HJr.out.up HSs.out)
     clear hbs
     clear km10 km11 km12 km13 lt_m1 kgx0 kgx1 kgx2 lt_gx kcx0 kcx1 kcx2 lt_cx
     obtain ⟨km10, km11, km12, km13⟩ := Hm1s.out.c4
     have lt_m1 : wh.heap.size < ws.heap.size := Hm1s.out.lt
     obtain ⟨kgx0, kgx1, kgx2⟩ := Hgxs.out.c3
     have lt_gx : bn14 < ws.heap.size := Hgxs.out.lt
     go_wp2_with fail
     refine (refHas_any err miss A8n14 c8n14 gs m0 m1 m2 m3 _ (HXs.out.up zg) g7').mono ?_
     rw [HGZ.out]
     rintro e wt ⟨rfl, hbt⟩
     have Hgt := Lib.hid (Holds.up (by have h := Hgs.out; exact zp7 : Holds _ (w.heap.size) 24 #[.int .i64 err, .int .i64 miss, .slice G gs.length d]) hbt)
     have Hct := Lib.hid (Holds.up (by have h := Hcs.out; exact zp7 : Holds _ (w.heap.size + 1) 27 #[.int .i64 full, .int .i64 emp, .slice A hs.length c]) hbt)
     have Hgot := Lib.hid (Holds.up (by have h := Hgos.out; exact zp7 : Holds _ (bn12) 24 #[.int .i64 err, .int .i64 miss, .slice G1n12 gs.length d1n12]) hbt)
     have Hcot := Lib.hid (Holds.up (by have h := Hcos.out; exact zp7 : Holds _ (bn13) 27 #[.int .i64 full, .int .i64 emp, .slice A1n13 hs.length c1n13]) hbt)
     have Hgxt := Lib.hid (Holds.up (by have h := Hgxs.out; exact zp7 : Holds _ (bn14) 49 #[.int .i64 err, .int .i64 miss, .slice A8n14 gs.length c8n14]) hbt)
     have Hcxt := Lib.hid (Holds.up (by have h := Hcxs.out; exact zp7 : Holds _ (bn15) 37 #[.int .i64 full, .int .i64 emp, .slice A9n15 hs.length c9n15]) hbt)
     have Hpyt := Lib.hid (Holds.up (by have h := Hpys.out; exact zp7 : Holds _ (wb.heap.size) 60 #[.int .i64 PL, .int .i64 PH]) hbt)
     have Hm1t := Lib.hid (Holds.up (by have h := Hm1s.out; exact zp7 : Holds _ (wh.heap.size) 28 #[.int .i64 m0, .int .i64 m1, .int .i64 m2, .int .i64 m3]) hbt)
     have Hp1t := Lib.hid (Holds.up (by have h := Hp1s.out; exact zp7 : Holds _ (wi.heap.size) 60 #[.int .i64 PL, .int .i64 PH]) hbt)
     have HSt : Hid (Below ws.heap.size ws wt) := Lib.hid (Below.trans zg (hbt.mono (by first | exact Nat.le_refl _ | omega | (simp; done) | (simp; omega))))
     have HBt : Hid (Below w.heap.size w wt) := Lib.hid (HBs.out.trans (HSt.out.mono hss))
     have hst := HBt.out.size
     have hstt := HSt.out.size
     have HGt := Lib.hid (HGs.out.up HSt.out)
     have HAt := Lib.hid (HAs.out.up HSt.out)
     have HPt := Lib.hid (HPs.out.up HSt.out)
     have HMt := Lib.hid (HMs.out.up HSt.out)
     have HXt := Lib.hid (HXs.out.up HSt.out)
     have HYt := Lib.hid (HYs.out.up HSt.out)
     have HKt := Lib.hid (HKs.out.up HSt.out)
     have HJt := Lib.hid (HJs.out.up HSt.out)
     clear hbt
     clear km10 km11 km12 km13 lt_m1 kgx0 kgx1 kgx2 lt_gx
     obtain ⟨kg0, kg1, kg2⟩ := Hgt.out.c3
     have lt_g : w.heap.size < wt.heap.size := Hgt.out.lt
     obtain ⟨kgo0, kgo1, kgo2⟩ := Hgot.out.c3
     have lt_go : bn12 < wt.heap.size := Hgot.out.lt
     go_wp2_with fail
     refine (same_same err miss G1n12 G d1n12 d gs _ (HPt.out.up zg) (HGt.out.up zg) g7').mono ?_
     rintro e wv ⟨rfl, hbv⟩
     have Hgv := Lib.hid (Holds.up (by have h := Hgt.out; exact zp7 : Holds _ (w.heap.size) 24 #[.int .i64 err, .int .i64 miss, .slice G gs.length d]) hbv)
     have Hcv := Lib.hid (Holds.up (by have h := Hct.out; exact zp7 : Holds _ (w.heap.size + 1) 27 #[.int .i64 full, .int .i64 emp, .slice A hs.length c]) hbv)
     have Hgov := Lib.hid (Holds.up (by have h := Hgot.out; exact zp7 : Holds _ (bn12) 24 #[.int .i64 err, .int .i64 miss, .slice G1n12 gs.length d1n12]) hbv)
     have Hcov := Lib.hid (Holds.up (by have h := Hcot.out; exact zp7 : Holds _ (bn13) 27 #[.int .i64 full, .int .i64 emp, .slice A1n13 hs.length c1n13]) hbv)
     have Hgxv := Lib.hid (Holds.up (by have h := Hgxt.out; exact zp7 : Holds _ (bn14) 49 #[.int .i64 err, .int .i64 miss, .slice A8n14 gs.length c8n14]) hbv)
     have Hcxv := Lib.hid (Holds.up (by have h := Hcxt.out; exact zp7 : Holds _ (bn15) 37 #[.int .i64 full, .int .i64 emp, .slice A9n15 hs.length c9n15]) hbv)
     have Hpyv := Lib.hid (Holds.up (by have h := Hpyt.out; exact zp7 : Holds _ (wb.heap.size) 60 #[.int .i64 PL, .int .i64 PH]) hbv)
     have Hm1v := Lib.hid (Holds.up (by have h := Hm1t.out; exact zp7 : Holds _ (wh.heap.size) 28 #[.int .i64 m0, .int .i64 m1, .int .i64 m2, .int .i64 m3]) hbv)
     have Hp1v := Lib.hid (Holds.up (by have h := Hp1t.out; exact zp7 : Holds _ (wi.heap.size) 60 #[.int .i64 PL, .int .i64 PH]) hbv)
     have HSv : Hid (Below wt.heap.size wt wv) := Lib.hid (Below.trans zg (hbv.mono (by first | exact Nat.le_refl _ | omega | (simp; done) | (simp; omega))))
     have HBv : Hid (Below w.heap.size w wv) := Lib.hid (HBt.out.trans (HSv.out.mono hst))
     have hsv := HBv.out.size
     have hstv := HSv.out.size
     have HGv := Lib.hid (HGt.out.up HSv.out)
     have HAv := Lib.hid (HAt.out.up HSv.out)
     have HPv := Lib.hid (HPt.out.up HSv.out)
     have HMv := Lib.hid (HMt.out.up HSv.out)
     have HXv := Lib.hid (HXt.out.up HSv.out)
     have HYv := Lib.hid (HYt.out.up HSv.out)
     have HKv := Lib.hid (HKt.out.up HSv.out)
     have HJv := Lib.hid (HJt.out.up HSv.out)
     clear hbv
     clear kg0 kg1 kg2 lt_g kgo0 kgo1 kgo2 lt_go
     obtain ⟨kc0, kc1, kc2⟩ := Hcv.out.c3
     have lt_c : w.heap.size + 1 < wv.heap.size := Hcv.out.lt
     obtain ⟨kco0, kco1, kco2⟩ := Hcov.out.c3
     have lt_co : bn13 < wv.heap.size := Hcov.out.lt
     go_wp2_with fail
     refine (alike_same full emp A1n13 A c1n13 c hs _ (HMv.out.up zg) (HAv.out.up zg) h9').mono ?_
     rintro e wx ⟨rfl, hbx⟩
     have Hgx := Lib.hid (Holds.up (by have h := Hgv.out; exact zp7 : Holds _ (w.heap.size) 24 #[.int .i64 err, .int .i64 miss, .slice G gs.length d]) hbx)
     have Hcx := Lib.hid (Holds.up (by have h := Hcv.out; exact zp7 : Holds _ (w.heap.size + 1) 27 #[.int .i64 full, .int .i64 emp, .slice A hs.length c]) hbx)
     have Hgox := Lib.hid (Holds.up (by have h := Hgov.out; exact zp7 : Holds _ (bn12) 24 #[.int .i64 err, .int .i64 miss, .slice G1n12 gs.length d1n12]) hbx)
     have Hcox := Lib.hid (Holds.up (by have h := Hcov.out; exact zp7 : Holds _ (bn13) 27 #[.int .i64 full, .int .i64 emp, .slice A1n13 hs.length c1n13]) hbx)
     have Hgxx := Lib.hid (Holds.up (by have h := Hgxv.out; exact zp7 : Holds _ (bn14) 49 #[.int .i64 err, .int .i64 miss, .slice A8n14 gs.length c8n14]) hbx)
     have Hcxx := Lib.hid (Holds.up (by have h := Hcxv.out; exact zp7 : Holds _ (bn15) 37 #[.int .i64 full, .int .i64 emp, .slice A9n15 hs.length c9n15]) hbx)
     have Hpyx := Lib.hid (Holds.up (by have h := Hpyv.out; exact zp7 : Holds _ (wb.heap.size) 60 #[.int .i64 PL, .int .i64 PH]) hbx)
     have Hm1x := Lib.hid (Holds.up (by have h := Hm1v.out; exact zp7 : Holds _ (wh.heap.size) 28 #[.int .i64 m0, .int .i64 m1, .int .i64 m2, .int .i64 m3]) hbx)
     have Hp1x := Lib.hid (Holds.up (by have h := Hp1v.out; exact zp7 : Holds _ (wi.heap.size) 60 #[.int .i64 PL, .int .i64 PH]) hbx)
     have HSx : Hid (Below wv.heap.size wv wx) := Lib.hid (Below.trans zg (hbx.mono (by first | exact Nat.le_refl _ | omega | (simp; done) | (simp; omega))))
     have HBx : Hid (Below w.heap.size w wx) := Lib.hid (HBv.out.trans (HSx.out.mono hsv))
     have hsx := HBx.out.size
     have hstx := HSx.out.size
     have HGx := Lib.hid (HGv.out.up HSx.out)
     have HAx := Lib.hid (HAv.out.up HSx.out)
     have HPx := Lib.hid (HPv.out.up HSx.out)
     have HMx := Lib.hid (HMv.out.up HSx.out)
     have HXx := Lib.hid (HXv.out.up HSx.out)
     have HYx := Lib.hid (HYv.out.up HSx.out)
     have HKx := Lib.hid (HKv.out.up HSx.out)
     have HJx := Lib.hid (HJv.out.up HSx.out)
     clear hbx
     clear kc0 kc1 kc2 lt_c kco0 kco1 kco2 lt_co
     go_wp2_with fail
     refine (awake_any _).mono ?_
     rintro e wz ⟨rfl, hbz⟩
     go_wp2_with fail
     go_ret
     exact ⟨rfl, HBx.out.trans (hbz.mono hsx)⟩
    ·have hqs : (S != 0) = true := by simp [hS0]
     have hm := HSM.out
     rw [ShownM, if_neg hS0] at hm
     obtain ⟨rfl, rfl, rfl, rfl⟩ := hm
     have hq4 := eql_four
     go_wp2_with fail
     refine (awake_any _).mono ?_
     rintro e wz ⟨rfl, hbz⟩
     go_wp2_with fail
     go_ret
     exact ⟨rfl, HBj.out.trans (hbz.mono hsj)⟩
end Go.Proofs.Ytifffonoipapgaa
