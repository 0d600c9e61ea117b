
import Derived.Test.YtifffonoipapgaaVAA
import Derived.Test.YtifffonoipapgaaVAC
import Derived.Test.YtifffonoipapgaaVBF
import Derived.Test.YtifffonoipapgaaVBH
import Derived.Test.YtifffonoipapgaaVBX
import Derived.Test.YtifffonoipapgaaVBY
set_option linter.unusedSimpArgs false
set_option linter.unusedVariables false
namespace Go.Proofs.Ytifffonoipapgaa
open Go.RowKit
theorem clashL_len {E miss : Int} (hs : List Hf) (h : hs.length ≤ 1000) : (clashL E miss hs).length ≤ 1000 := by
 unfold clashL
 split
 ·cases hc : (clashOf miss hs).length with
  | zero => omega
  | succ n =>
   have : Rising hs.length (clashOf miss hs) := by
    unfold clashOf firstClash at hc ⊢
    cases hq : (laterLists hs.length hs.length).find? (clashes miss hs) with
    | none => rw [hq] at hc; cases hc
    | some l => exact later_rising _ _ l (List.mem_of_find?_eq_some hq)
   have := this.len
   omega
 ·exact Nat.zero_le _
set_option maxRecDepth 100000 in
set_option maxHeartbeats 16000000 in
theorem GateAgrees_any (err miss full emp : Int) (G : Option Addr) (d : Nat) (gs : List Gr) (A : Option Addr) (c : Nat) (hs : List Hf) (X : Option Addr) (xc : Nat) (xs : List Int) (w : World) (gd : gs.length ≤ d) (gm : d ≤ maxLen) (hG : GradesAt w G gs) (gn : G = none → gs.length = 0 ∧ d = 0) (cd : hs.length ≤ c) (cm : c ≤ maxLen) (hA : HandsAt w A hs) (cn : A = none → hs.length = 0 ∧ c = 0) (xd : xs.length ≤ xc) (xm : xc ≤ maxLen) (hX : IntsAt w X xs) (xn : X = none → xs.length = 0 ∧ xc = 0) :
  Calls Try.prog 6 #[.agg #[.int .i64 err, .int .i64 miss, .slice G gs.length d], .agg #[.int .i64 full, .int .i64 emp, .slice A hs.length c], .slice X xs.length xc] w fun e w' => e = .returned (.bool true) ∧ Below w.heap.size w w' := by
 have HG := Lib.hid hG
 have HA := Lib.hid hA
 have HL := Lib.hid hX
 have HGN := Lib.hid gn
 have HAN := Lib.hid cn
 have HLN := Lib.hid xn
 have gl : gs.length ≤ 9223372036854775807 := by unfold maxLen at gm; omega
 have al : hs.length ≤ 9223372036854775807 := by unfold maxLen at cm; omega
 have xl : xs.length ≤ 9223372036854775807 := by unfold maxLen at xm; omega
 clear hG hA hX gn cn xn gm cm xm
 cases hgt : greatB gs.length hs.length with
 | true =>
  have HGT := Lib.hid hgt
  clear hgt
  go_enter Try.func6, Try.ntmps6
  go_wp2_with fail
  refine (great_any err miss full emp G A gs.length d hs.length c _ gl al).mono ?_
  rw [HGT.out]
  rintro e wq ⟨rfl, hbq⟩
  have Hgq := Lib.hid (Holds.up (zp4 : Holds _ (w.heap.size) 24 #[.int .i64 err, .int .i64 miss, .slice G gs.length d]) hbq)
  have Hcq := Lib.hid (Holds.up (zp4 : Holds _ (w.heap.size + 1) 27 #[.int .i64 full, .int .i64 emp, .slice A hs.length c]) hbq)
  have HSq : Hid (Below w.heap.size w wq) := Lib.hid (Below.trans zg (hbq.mono (by first | exact Nat.le_refl _ | omega | (simp; done) | (simp; omega))))
  have HBq := HSq
  have hsq := HBq.out.size
  have hstq := HSq.out.size
  have HGq := Lib.hid (HG.out.up HSq.out)
  have HAq := Lib.hid (HA.out.up HSq.out)
  have HLq := Lib.hid (HL.out.up HSq.out)
  clear hbq
  go_wp2_with fail
  refine (awake_any _).mono ?_
  rintro e wz ⟨rfl, hbz⟩
  go_wp2_with fail
  go_ret
  exact ⟨rfl, HBq.out.trans (hbz.mono hsq)⟩
 | false =>
  have HGT := Lib.hid hgt
  obtain ⟨g7, h9⟩ := great_no hgt
  have g7' : gs.length ≤ 1000 := by omega
  have h9' : hs.length ≤ 1000 := by omega
  clear hgt
  obtain ⟨E, hE⟩ : ∃ z, z = bothErr err miss gs full emp hs := ⟨_, rfl⟩
  obtain ⟨KS, hKS⟩ : ∃ z, z = clashL E miss hs := ⟨_, rfl⟩
  obtain ⟨U, hU⟩ : ∃ z, z = clashU E miss hs := ⟨_, rfl⟩
  obtain ⟨V, hV⟩ : ∃ z, z = agreeErr E hs.length xs := ⟨_, rfl⟩
  obtain ⟨R, hR⟩ : ∃ z, z = agreeRes miss V hs xs := ⟨_, rfl⟩
  obtain ⟨T, hT⟩ : ∃ z, z = toppedT E miss hs := ⟨_, rfl⟩
  have QE := Lib.hid hE
  have QKS := Lib.hid hKS
  have QU := Lib.hid hU
  have QV := Lib.hid hV
  have QR := Lib.hid hR
  have QT := Lib.hid hT
  clear hE hKS hU hV hR hT
  go_enter Try.func6, Try.ntmps6
  go_wp2_with fail
  refine (great_any err miss full emp G A gs.length d hs.length c _ gl al).mono ?_
  rw [HGT.out]
  rintro e wq ⟨rfl, hbq⟩
  have Hgq := Lib.hid (Holds.up (zp4 : Holds _ (w.heap.size) 24 #[.int .i64 err, .int .i64 miss, .slice G gs.length d]) hbq)
  have Hcq := Lib.hid (Holds.up (zp4 : Holds _ (w.heap.size + 1) 27 #[.int .i64 full, .int .i64 emp, .slice A hs.length c]) hbq)
  have HSq : Hid (Below w.heap.size w wq) := Lib.hid (Below.trans zg (hbq.mono (by first | exact Nat.le_refl _ | omega | (simp; done) | (simp; omega))))
  have HBq := HSq
  have hsq := HBq.out.size
  have hstq := HSq.out.size
  have HGq := Lib.hid (HG.out.up HSq.out)
  have HAq := Lib.hid (HA.out.up HSq.out)
  have HLq := Lib.hid (HL.out.up HSq.out)
  clear hbq
  by_cases hx9 : 9 < xs.length
  ·have hx9' : (9 : Int) < (xs.length : Int) := by omega
   go_wp2_with fail
   refine (awake_any _).mono ?_
   rintro e wz ⟨rfl, hbz⟩
   go_wp2_with fail
   go_ret
   exact ⟨rfl, HBq.out.trans (hbz.mono hsq)⟩
  ·have hx9' : ¬ (9 : Int) < (xs.length : Int) := by omega
   have hkl : KS.length ≤ 1000 := by rw [QKS.out]; exact clashL_len _ h9'
   go_wp2_with fail
   rename_i Kc hKc
   have HSL := Lib.hid (show slotsOf [some 36, some 37, some 38, some 39, some 40, some 41, some 42, some 43, some 44, some 45, some 7, some 8, some 10, some 11, none, none, some 9, none, none] = [36, 37, 38, 39, 40, 41, 42, 43, 44, 45, 7, 8, 10, 11, 9] from rfl)
   refine wp_region_partsG (by kernel_rfl) [some 36, some 37, some 38, some 39, some 40, some 41, some 42, some 43, some 44, some 45, some 7, some 8, some 10, some 11, none, none, some 9, none, none] (fun jq xq w' => match jq with
    | 0 => xq 36 = .agg #[.int .i64 err, .int .i64 miss, .slice G gs.length d]
    | 1 => ∃ G1 d1, xq 37 = .agg #[.int .i64 err, .int .i64 miss, .slice G1 gs.length d1] ∧ OwnGrades w' wq.heap.size (.slice G1 gs.length d1) gs
    | 2 => xq 38 = .agg #[.int .i64 full, .int .i64 emp, .slice A hs.length c]
    | 3 => ∃ A1 c1, xq 39 = .agg #[.int .i64 full, .int .i64 emp, .slice A1 hs.length c1] ∧ OwnHands w' wq.heap.size (.slice A1 hs.length c1) hs
    | 4 => xq 40 = .slice X xs.length xc
    | 5 => ∃ A5 c5, xq 41 = .slice A5 xs.length c5 ∧ OwnInts w' wq.heap.size (.slice A5 xs.length c5) xs
    | 6 => xq 42 = .agg #[.int .i64 err, .int .i64 miss, .slice G gs.length d]
    | 7 => ∃ A8 c8, xq 43 = .agg #[.int .i64 err, .int .i64 miss, .slice A8 gs.length c8] ∧ Rowed w' wq.heap.size 139 (.slice A8 gs.length c8) gs.length (gs.flatMap Gr.cells)
    | 8 => xq 44 = .agg #[.int .i64 full, .int .i64 emp, .slice A hs.length c]
    | 9 => ∃ A9 c9, xq 45 = .agg #[.int .i64 full, .int .i64 emp, .slice A9 hs.length c9] ∧ Rowed w' wq.heap.size 42 (.slice A9 hs.length c9) hs.length (hs.flatMap Hf.cells)
    | 10 => ∃ b, xq 7 = .pointer (some ⟨b, 0, none⟩) ∧ wq.heap.size ≤ b ∧ Holds w' b 24 #[.int .i64 0, .int .i64 0, .slice none 0 0]
    | 11 => ∃ b, xq 8 = .pointer (some ⟨b, 0, none⟩) ∧ wq.heap.size ≤ b ∧ Holds w' b 27 #[.int .i64 0, .int .i64 0, .slice none 0 0]
    | 12 => ∃ b, xq 10 = .pointer (some ⟨b, 0, none⟩) ∧ wq.heap.size ≤ b ∧ Holds w' b 49 #[.int .i64 0, .int .i64 0, .slice none 0 0]
    | 13 => ∃ b, xq 11 = .pointer (some ⟨b, 0, none⟩) ∧ wq.heap.size ≤ b ∧ Holds w' b 37 #[.int .i64 0, .int .i64 0, .slice none 0 0]
    | 14 => ∃ b G1 d1, xq 7 = .pointer (some ⟨b, 0, none⟩) ∧ Holds w' b 24 #[.int .i64 err, .int .i64 miss, .slice G1 gs.length d1] ∧ OwnGrades w' wq.heap.size (.slice G1 gs.length d1) gs
    | 15 => ∃ b A1 c1, xq 8 = .pointer (some ⟨b, 0, none⟩) ∧ Holds w' b 27 #[.int .i64 full, .int .i64 emp, .slice A1 hs.length c1] ∧ OwnHands w' wq.heap.size (.slice A1 hs.length c1) hs
    | 16 => ∃ A5 c5, xq 9 = .slice A5 xs.length c5 ∧ OwnInts w' wq.heap.size (.slice A5 xs.length c5) xs
    | 17 => ∃ b A8 c8, xq 10 = .pointer (some ⟨b, 0, none⟩) ∧ Holds w' b 49 #[.int .i64 err, .int .i64 miss, .slice A8 gs.length c8] ∧ Rowed w' wq.heap.size 139 (.slice A8 gs.length c8) gs.length (gs.flatMap Gr.cells)
    | 18 => ∃ b A9 c9, xq 11 = .pointer (some ⟨b, 0, none⟩) ∧ Holds w' b 37 #[.int .i64 full, .int .i64 emp, .slice A9 hs.length c9] ∧ Rowed w' wq.heap.size 42 (.slice A9 hs.length c9) hs.length (hs.flatMap Hf.cells)
    | _ => True) [[36], [37], [38], [39], [40], [41], [42], [43], [44], [45], [7], [8], [10], [11], [7], [8], [9], [10], [11]] [(14, 10), (15, 11), (17, 12), (18, 13)] (fun w' => Below wq.heap.size wq w') (by kernel_rfl)  ?_ ?_ (fun w' w'' hb h => h.trans (hb.mono h.size)) (Below.refl _ _) ?_ ?_ ?_
   ·intro jq xq xq' wqq h hv
    match jq, h, hv with
    | 0, h, hv => show xq' 36 = .agg #[.int .i64 err, .int .i64 miss, .slice G gs.length d]; rw [← h 36 (by decide)]; exact hv
    | 1, h, hv => show ∃ G1 d1, xq' 37 = .agg #[.int .i64 err, .int .i64 miss, .slice G1 gs.length d1] ∧ OwnGrades wqq wq.heap.size (.slice G1 gs.length d1) gs; rw [← h 37 (by decide)]; exact hv
    | 2, h, hv => show xq' 38 = .agg #[.int .i64 full, .int .i64 emp, .slice A hs.length c]; rw [← h 38 (by decide)]; exact hv
    | 3, h, hv => show ∃ A1 c1, xq' 39 = .agg #[.int .i64 full, .int .i64 emp, .slice A1 hs.length c1] ∧ OwnHands wqq wq.heap.size (.slice A1 hs.length c1) hs; rw [← h 39 (by decide)]; exact hv
    | 4, h, hv => show xq' 40 = .slice X xs.length xc; rw [← h 40 (by decide)]; exact hv
    | 5, h, hv => show ∃ A5 c5, xq' 41 = .slice A5 xs.length c5 ∧ OwnInts wqq wq.heap.size (.slice A5 xs.length c5) xs; rw [← h 41 (by decide)]; exact hv
    | 6, h, hv => show xq' 42 = .agg #[.int .i64 err, .int .i64 miss, .slice G gs.length d]; rw [← h 42 (by decide)]; exact hv
    | 7, h, hv => show ∃ A8 c8, xq' 43 = .agg #[.int .i64 err, .int .i64 miss, .slice A8 gs.length c8] ∧ Rowed wqq wq.heap.size 139 (.slice A8 gs.length c8) gs.length (gs.flatMap Gr.cells); rw [← h 43 (by decide)]; exact hv
    | 8, h, hv => show xq' 44 = .agg #[.int .i64 full, .int .i64 emp, .slice A hs.length c]; rw [← h 44 (by decide)]; exact hv
    | 9, h, hv => show ∃ A9 c9, xq' 45 = .agg #[.int .i64 full, .int .i64 emp, .slice A9 hs.length c9] ∧ Rowed wqq wq.heap.size 42 (.slice A9 hs.length c9) hs.length (hs.flatMap Hf.cells); rw [← h 45 (by decide)]; exact hv
    | 10, h, hv => show ∃ b, xq' 7 = .pointer (some ⟨b, 0, none⟩) ∧ wq.heap.size ≤ b ∧ Holds wqq b 24 #[.int .i64 0, .int .i64 0, .slice none 0 0]; rw [← h 7 (by decide)]; exact hv
    | 11, h, hv => show ∃ b, xq' 8 = .pointer (some ⟨b, 0, none⟩) ∧ wq.heap.size ≤ b ∧ Holds wqq b 27 #[.int .i64 0, .int .i64 0, .slice none 0 0]; rw [← h 8 (by decide)]; exact hv
    | 12, h, hv => show ∃ b, xq' 10 = .pointer (some ⟨b, 0, none⟩) ∧ wq.heap.size ≤ b ∧ Holds wqq b 49 #[.int .i64 0, .int .i64 0, .slice none 0 0]; rw [← h 10 (by decide)]; exact hv
    | 13, h, hv => show ∃ b, xq' 11 = .pointer (some ⟨b, 0, none⟩) ∧ wq.heap.size ≤ b ∧ Holds wqq b 37 #[.int .i64 0, .int .i64 0, .slice none 0 0]; rw [← h 11 (by decide)]; exact hv
    | 14, h, hv => show ∃ b G1 d1, xq' 7 = .pointer (some ⟨b, 0, none⟩) ∧ Holds wqq b 24 #[.int .i64 err, .int .i64 miss, .slice G1 gs.length d1] ∧ OwnGrades wqq wq.heap.size (.slice G1 gs.length d1) gs; rw [← h 7 (by decide)]; exact hv
    | 15, h, hv => show ∃ b A1 c1, xq' 8 = .pointer (some ⟨b, 0, none⟩) ∧ Holds wqq b 27 #[.int .i64 full, .int .i64 emp, .slice A1 hs.length c1] ∧ OwnHands wqq wq.heap.size (.slice A1 hs.length c1) hs; rw [← h 8 (by decide)]; exact hv
    | 16, h, hv => show ∃ A5 c5, xq' 9 = .slice A5 xs.length c5 ∧ OwnInts wqq wq.heap.size (.slice A5 xs.length c5) xs; rw [← h 9 (by decide)]; exact hv
    | 17, h, hv => show ∃ b A8 c8, xq' 10 = .pointer (some ⟨b, 0, none⟩) ∧ Holds wqq b 49 #[.int .i64 err, .int .i64 miss, .slice A8 gs.length c8] ∧ Rowed wqq wq.heap.size 139 (.slice A8 gs.length c8) gs.length (gs.flatMap Gr.cells); rw [← h 10 (by decide)]; exact hv
    | 18, h, hv => show ∃ b A9 c9, xq' 11 = .pointer (some ⟨b, 0, none⟩) ∧ Holds wqq b 37 #[.int .i64 full, .int .i64 emp, .slice A9 hs.length c9] ∧ Rowed wqq wq.heap.size 42 (.slice A9 hs.length c9) hs.length (hs.flatMap Hf.cells); rw [← h 11 (by decide)]; exact hv
    | _ + 19, _, _ => trivial
   ·intro jq xq wqq w' hb' hv
    match jq, hv with
    | 0, hv => exact hv
    | 1, ⟨b0, b1, h0, h1⟩ => exact ⟨b0, b1, h0, h1.up hb'⟩
    | 2, hv => exact hv
    | 3, ⟨b0, b1, h0, h1⟩ => exact ⟨b0, b1, h0, h1.up hb'⟩
    | 4, hv => exact hv
    | 5, ⟨b0, b1, h0, h1⟩ => exact ⟨b0, b1, h0, h1.up hb'⟩
    | 6, hv => exact hv
    | 7, ⟨b0, b1, h0, h1⟩ => exact ⟨b0, b1, h0, h1.up hb'⟩
    | 8, hv => exact hv
    | 9, ⟨b0, b1, h0, h1⟩ => exact ⟨b0, b1, h0, h1.up hb'⟩
    | 10, ⟨b0, h0, h1, h2⟩ => exact ⟨b0, h0, h1, h2.up hb'⟩
    | 11, ⟨b0, h0, h1, h2⟩ => exact ⟨b0, h0, h1, h2.up hb'⟩
    | 12, ⟨b0, h0, h1, h2⟩ => exact ⟨b0, h0, h1, h2.up hb'⟩
    | 13, ⟨b0, h0, h1, h2⟩ => exact ⟨b0, h0, h1, h2.up hb'⟩
    | 14, ⟨b0, b1, b2, h0, h1, h2⟩ => exact ⟨b0, b1, b2, h0, h1.up hb', h2.up hb'⟩
    | 15, ⟨b0, b1, b2, h0, h1, h2⟩ => exact ⟨b0, b1, b2, h0, h1.up hb', h2.up hb'⟩
    | 16, ⟨b0, b1, h0, h1⟩ => exact ⟨b0, b1, h0, h1.up hb'⟩
    | 17, ⟨b0, b1, b2, h0, h1, h2⟩ => exact ⟨b0, b1, b2, h0, h1.up hb', h2.up hb'⟩
    | 18, ⟨b0, b1, b2, h0, h1, h2⟩ => exact ⟨b0, b1, b2, h0, h1.up hb', h2.up hb'⟩
    | _ + 19, _ => trivial
   ·intro jq hj
    match jq, hj with
    | 0, hj => exact absurd hj (by decide)
    | 1, hj => exact absurd hj (by decide)
    | 2, hj => exact absurd hj (by decide)
    | 3, hj => exact absurd hj (by decide)
    | 4, hj => exact absurd hj (by decide)
    | 5, hj => exact absurd hj (by decide)
    | 6, hj => exact absurd hj (by decide)
    | 7, hj => exact absurd hj (by decide)
    | 8, hj => exact absurd hj (by decide)
    | 9, hj => exact absurd hj (by decide)
    | 10, hj => exact absurd hj (by decide)
    | 11, hj => exact absurd hj (by decide)
    | 12, hj => exact absurd hj (by decide)
    | 13, hj => exact absurd hj (by decide)
    | 14, hj => exact absurd hj (by decide)
    | 15, hj => exact absurd hj (by decide)
    | 16, hj => exact absurd hj (by decide)
    | 17, hj => exact absurd hj (by decide)
    | 18, hj => exact absurd hj (by decide)
    | _ + 19, _ => trivial
   ·refine ⟨?_, ?_, ?_, ?_, ?_, ?_, ?_, ?_, ?_, ?_, ?_, ?_, ?_, ?_, ?_, ?_, ?_, ?_, ?_, trivial⟩
    ·intro xq wa hba hx K hK0
     have hK := fun v w' hb => hK0 v w' (.inl hb)
     clear hx hKc hK0
     have kg0' : wa.cell? ⟨w.heap.size, 0, none⟩ = some (.int .i64 err) := (Hgq.out.up hba).cell 0
     have kg1' : wa.cell? ⟨w.heap.size, 1, none⟩ = some (.int .i64 miss) := (Hgq.out.up hba).cell 1
     have kg2' : wa.cell? ⟨w.heap.size, 2, none⟩ = some (.slice G gs.length d) := (Hgq.out.up hba).cell 2
     simp only [frameOf, fill, setSlot, sg, Nat.reduceBEq, if_true, if_false, Nat.reduceAdd, Nat.reduceEqDiff, HSL.out] at hK ⊢
     go_wp2_with (fail)
     exact hK _ _ (Below.refl _ _) rfl
    ·intro xq wa hba hx K hK0
     have hK := fun v w' hb => hK0 v w' (.inl hb)
     have e36 : xq 36 = .agg #[.int .i64 err, .int .i64 miss, .slice G gs.length d] := hx 0 (by rfl) (by rfl)
     clear hx hKc hK0
     simp only [frameOf, fill, setSlot, sg, Nat.reduceBEq, if_true, if_false, Nat.reduceAdd, Nat.reduceEqDiff, HSL.out] at hK ⊢
     simp only [e36] at hK ⊢
     clear e36
     go_wp2_with (go_at_call 17; refine (Own_any err miss G d gs _ (HGq.out.up hba) g7' HGN.out).mono ?_; rintro e w2_ ⟨G1, d1, rfl, hown, _, hb_⟩)
     exact hK _ _ hb_ ⟨_, _, rfl, row5_mono hown hba.size⟩
    ·intro xq wa hba hx K hK0
     have hK := fun v w' hb => hK0 v w' (.inl hb)
     clear hx hKc hK0
     have kc0' : wa.cell? ⟨w.heap.size + 1, 0, none⟩ = some (.int .i64 full) := (Hcq.out.up hba).cell 0
     have kc1' : wa.cell? ⟨w.heap.size + 1, 1, none⟩ = some (.int .i64 emp) := (Hcq.out.up hba).cell 1
     have kc2' : wa.cell? ⟨w.heap.size + 1, 2, none⟩ = some (.slice A hs.length c) := (Hcq.out.up hba).cell 2
     simp only [frameOf, fill, setSlot, sg, Nat.reduceBEq, if_true, if_false, Nat.reduceAdd, Nat.reduceEqDiff, HSL.out] at hK ⊢
     go_wp2_with (fail)
     exact hK _ _ (Below.refl _ _) rfl
    ·intro xq wa hba hx K hK0
     have hK := fun v w' hb => hK0 v w' (.inl hb)
     have e38 : xq 38 = .agg #[.int .i64 full, .int .i64 emp, .slice A hs.length c] := hx 2 (by rfl) (by rfl)
     clear hx hKc hK0
     simp only [frameOf, fill, setSlot, sg, Nat.reduceBEq, if_true, if_false, Nat.reduceAdd, Nat.reduceEqDiff, HSL.out] at hK ⊢
     simp only [e38] at hK ⊢
     clear e38
     go_wp2_with (go_at_call 18; refine (Owned_any full emp A c hs _ (HAq.out.up hba) h9' HAN.out).mono ?_; rintro e w2_ ⟨A1, c1, rfl, hown, _, hb_⟩)
     exact hK _ _ hb_ ⟨_, _, rfl, row5_mono hown hba.size⟩
    ·intro xq wa hba hx K hK0
     have hK := fun v w' hb => hK0 v w' (.inl hb)
     clear hx hKc hK0
     simp only [frameOf, fill, setSlot, sg, Nat.reduceBEq, if_true, if_false, Nat.reduceAdd, Nat.reduceEqDiff, HSL.out] at hK ⊢
     go_wp2_with (fail)
     exact hK _ _ (Below.refl _ _) rfl
    ·intro xq wa hba hx K hK0
     have hK := fun v w' hb => hK0 v w' (.inl hb)
     have e40 : xq 40 = .slice X xs.length xc := hx 4 (by rfl) (by rfl)
     clear hx hKc hK0
     simp only [frameOf, fill, setSlot, sg, Nat.reduceBEq, if_true, if_false, Nat.reduceAdd, Nat.reduceEqDiff, HSL.out] at hK ⊢
     simp only [e40] at hK ⊢
     clear e40
     go_wp2_with (go_at_call 46; refine (DupInts_any X xc xs _ (HLq.out.up hba) (by omega) HLN.out).mono ?_; rintro e w2_ ⟨v5_, rfl, hown, hb_⟩; obtain ⟨A5, c5, rfl, _⟩ := ints_of_row hown)
     exact hK _ _ hb_ ⟨_, _, rfl, OwnInts.mono hown hba.size⟩
    ·intro xq wa hba hx K hK0
     have hK := fun v w' hb => hK0 v w' (.inl hb)
     clear hx hKc hK0
     have kg0' : wa.cell? ⟨w.heap.size, 0, none⟩ = some (.int .i64 err) := (Hgq.out.up hba).cell 0
     have kg1' : wa.cell? ⟨w.heap.size, 1, none⟩ = some (.int .i64 miss) := (Hgq.out.up hba).cell 1
     have kg2' : wa.cell? ⟨w.heap.size, 2, none⟩ = some (.slice G gs.length d) := (Hgq.out.up hba).cell 2
     simp only [frameOf, fill, setSlot, sg, Nat.reduceBEq, if_true, if_false, Nat.reduceAdd, Nat.reduceEqDiff, HSL.out] at hK ⊢
     go_wp2_with (fail)
     exact hK _ _ (Below.refl _ _) rfl
    ·intro xq wa hba hx K hK0
     have hK := fun v w' hb => hK0 v w' (.inl hb)
     have e42 : xq 42 = .agg #[.int .i64 err, .int .i64 miss, .slice G gs.length d] := hx 6 (by rfl) (by rfl)
     clear hx hKc hK0
     simp only [frameOf, fill, setSlot, sg, Nat.reduceBEq, if_true, if_false, Nat.reduceAdd, Nat.reduceEqDiff, HSL.out] at hK ⊢
     simp only [e42] at hK ⊢
     clear e42
     go_wp2_with (go_at_call 24; refine (theirs_any err miss G d gs _ (HGq.out.up hba) g7').mono ?_; rintro e w2_ ⟨A8, c8, rfl, hown, hb_⟩)
     exact hK _ _ hb_ ⟨_, _, rfl, row5_mono hown hba.size⟩
    ·intro xq wa hba hx K hK0
     have hK := fun v w' hb => hK0 v w' (.inl hb)
     clear hx hKc hK0
     have kc0' : wa.cell? ⟨w.heap.size + 1, 0, none⟩ = some (.int .i64 full) := (Hcq.out.up hba).cell 0
     have kc1' : wa.cell? ⟨w.heap.size + 1, 1, none⟩ = some (.int .i64 emp) := (Hcq.out.up hba).cell 1
     have kc2' : wa.cell? ⟨w.heap.size + 1, 2, none⟩ = some (.slice A hs.length c) := (Hcq.out.up hba).cell 2
     simp only [frameOf, fill, setSlot, sg, Nat.reduceBEq, if_true, if_false, Nat.reduceAdd, Nat.reduceEqDiff, HSL.out] at hK ⊢
     go_wp2_with (fail)
     exact hK _ _ (Below.refl _ _) rfl
    ·intro xq wa hba hx K hK0
     have hK := fun v w' hb => hK0 v w' (.inl hb)
     have e44 : xq 44 = .agg #[.int .i64 full, .int .i64 emp, .slice A hs.length c] := hx 8 (by rfl) (by rfl)
     clear hx hKc hK0
     simp only [frameOf, fill, setSlot, sg, Nat.reduceBEq, if_true, if_false, Nat.reduceAdd, Nat.reduceEqDiff, HSL.out] at hK ⊢
     simp only [e44] at hK ⊢
     clear e44
     go_wp2_with (go_at_call 20; refine (come_any full emp A c hs _ (HAq.out.up hba) h9').mono ?_; rintro e w2_ ⟨A9, c9, rfl, hown, hb_⟩)
     exact hK _ _ hb_ ⟨_, _, rfl, row5_mono hown hba.size⟩
    ·intro xq wa hba hx K hK0
     have hK := fun v w' hb => hK0 v w' (.inl hb)
     clear hx hKc hK0
     simp only [frameOf, fill, setSlot, sg, Nat.reduceBEq, if_true, if_false, Nat.reduceAdd, Nat.reduceEqDiff, HSL.out] at hK ⊢
     go_wp2_with (fail)
     exact hK _ _ ((Below.refl _ _).alloc (Nat.le_refl _) _) ⟨_, rfl, hba.size, Holds.new _ _ _⟩
    ·intro xq wa hba hx K hK0
     have hK := fun v w' hb => hK0 v w' (.inl hb)
     clear hx hKc hK0
     simp only [frameOf, fill, setSlot, sg, Nat.reduceBEq, if_true, if_false, Nat.reduceAdd, Nat.reduceEqDiff, HSL.out] at hK ⊢
     go_wp2_with (fail)
     exact hK _ _ ((Below.refl _ _).alloc (Nat.le_refl _) _) ⟨_, rfl, hba.size, Holds.new _ _ _⟩
    ·intro xq wa hba hx K hK0
     have hK := fun v w' hb => hK0 v w' (.inl hb)
     clear hx hKc hK0
     simp only [frameOf, fill, setSlot, sg, Nat.reduceBEq, if_true, if_false, Nat.reduceAdd, Nat.reduceEqDiff, HSL.out] at hK ⊢
     go_wp2_with (fail)
     exact hK _ _ ((Below.refl _ _).alloc (Nat.le_refl _) _) ⟨_, rfl, hba.size, Holds.new _ _ _⟩
    ·intro xq wa hba hx K hK0
     have hK := fun v w' hb => hK0 v w' (.inl hb)
     clear hx hKc hK0
     simp only [frameOf, fill, setSlot, sg, Nat.reduceBEq, if_true, if_false, Nat.reduceAdd, Nat.reduceEqDiff, HSL.out] at hK ⊢
     go_wp2_with (fail)
     exact hK _ _ ((Below.refl _ _).alloc (Nat.le_refl _) _) ⟨_, rfl, hba.size, Holds.new _ _ _⟩
    ·intro xq wa hba hx K hK0
     have hK := fun v w' hb => hK0 v w' (.inr hb)
     obtain ⟨G137, d137, e37, f37_0⟩ := hx 1 (by rfl) (by rfl)
     obtain ⟨b7, e7, f7_0, f7_1⟩ := hx 10 (by rfl) (by rfl)
     clear hx hKc hK0
     obtain ⟨kb0, kb1, kb2⟩ := f7_1.c3
     obtain ⟨zb0, zb1, zb2⟩ := f7_1.f3
     simp only [frameOf, fill, setSlot, sg, Nat.reduceBEq, if_true, if_false, Nat.reduceAdd, Nat.reduceEqDiff, HSL.out] at hK ⊢
     have E37 := Lib.hid e37
     have E7 := Lib.hid e7
     simp only [e37, e7] at hK ⊢
     clear e37 e7
     go_wp2_with (fail)
     refine hK undef _ ⟨(by have h := hba; exact zg), ?_⟩ ⟨_, _, _, rfl, Holds.set3 _ _ _ f7_1, row5_set3 f37_0 f7_1 (by decide)⟩
     intro jq xq hd hne hv
     match jq, hd, hne, hv with
     | 0, _, _, hv => exact hv
     | 1, _, _, hv => obtain ⟨a1_, d1_, e1, h1⟩ := hv; exact ⟨a1_, d1_, e1, row5_set3 h1 f7_1 (by decide)⟩
     | 2, _, _, hv => exact hv
     | 3, _, _, hv => obtain ⟨a1_, d1_, e1, h1⟩ := hv; exact ⟨a1_, d1_, e1, row5_set3 h1 f7_1 (by decide)⟩
     | 4, _, _, hv => exact hv
     | 5, _, _, hv => obtain ⟨a1_, d1_, e1, h1⟩ := hv; exact ⟨a1_, d1_, e1, row1_set3 h1 f7_1 (by decide)⟩
     | 6, _, _, hv => exact hv
     | 7, _, _, hv => obtain ⟨a1_, d1_, e1, h1⟩ := hv; exact ⟨a1_, d1_, e1, row5_set3 h1 f7_1 (by decide)⟩
     | 8, _, _, hv => exact hv
     | 9, _, _, hv => obtain ⟨a1_, d1_, e1, h1⟩ := hv; exact ⟨a1_, d1_, e1, row5_set3 h1 f7_1 (by decide)⟩
     | 10, hd, _, _ => exact absurd hd (by decide)
     | 11, _, _, hv => obtain ⟨b_, e1, h0, h1⟩ := hv; exact ⟨b_, e1, h0, h1.set3_ne f7_1 (by decide)⟩
     | 12, _, _, hv => obtain ⟨b_, e1, h0, h1⟩ := hv; exact ⟨b_, e1, h0, h1.set3_ne f7_1 (by decide)⟩
     | 13, _, _, hv => obtain ⟨b_, e1, h0, h1⟩ := hv; exact ⟨b_, e1, h0, h1.set3_ne f7_1 (by decide)⟩
     | 14, _, hne, _ => exact absurd rfl hne
     | 15, _, _, hv => obtain ⟨b_, a1_, d1_, e1, h0, h1⟩ := hv; exact ⟨b_, a1_, d1_, e1, h0.set3_ne f7_1 (by decide), row5_set3 h1 f7_1 (by decide)⟩
     | 16, _, _, hv => obtain ⟨a1_, d1_, e1, h1⟩ := hv; exact ⟨a1_, d1_, e1, row1_set3 h1 f7_1 (by decide)⟩
     | 17, _, _, hv => obtain ⟨b_, a1_, d1_, e1, h0, h1⟩ := hv; exact ⟨b_, a1_, d1_, e1, h0.set3_ne f7_1 (by decide), row5_set3 h1 f7_1 (by decide)⟩
     | 18, _, _, hv => obtain ⟨b_, a1_, d1_, e1, h0, h1⟩ := hv; exact ⟨b_, a1_, d1_, e1, h0.set3_ne f7_1 (by decide), row5_set3 h1 f7_1 (by decide)⟩
     | _ + 19, _, _, _ => trivial
    ·intro xq wa hba hx K hK0
     have hK := fun v w' hb => hK0 v w' (.inr hb)
     obtain ⟨A139, c139, e39, f39_0⟩ := hx 3 (by rfl) (by rfl)
     obtain ⟨b8, e8, f8_0, f8_1⟩ := hx 11 (by rfl) (by rfl)
     clear hx hKc hK0
     obtain ⟨kb0, kb1, kb2⟩ := f8_1.c3
     obtain ⟨zb0, zb1, zb2⟩ := f8_1.f3
     simp only [frameOf, fill, setSlot, sg, Nat.reduceBEq, if_true, if_false, Nat.reduceAdd, Nat.reduceEqDiff, HSL.out] at hK ⊢
     have E39 := Lib.hid e39
     have E8 := Lib.hid e8
     simp only [e39, e8] at hK ⊢
     clear e39 e8
     go_wp2_with (fail)
     refine hK undef _ ⟨(by have h := hba; exact zg), ?_⟩ ⟨_, _, _, rfl, Holds.set3 _ _ _ f8_1, row5_set3 f39_0 f8_1 (by decide)⟩
     intro jq xq hd hne hv
     match jq, hd, hne, hv with
     | 0, _, _, hv => exact hv
     | 1, _, _, hv => obtain ⟨a1_, d1_, e1, h1⟩ := hv; exact ⟨a1_, d1_, e1, row5_set3 h1 f8_1 (by decide)⟩
     | 2, _, _, hv => exact hv
     | 3, _, _, hv => obtain ⟨a1_, d1_, e1, h1⟩ := hv; exact ⟨a1_, d1_, e1, row5_set3 h1 f8_1 (by decide)⟩
     | 4, _, _, hv => exact hv
     | 5, _, _, hv => obtain ⟨a1_, d1_, e1, h1⟩ := hv; exact ⟨a1_, d1_, e1, row1_set3 h1 f8_1 (by decide)⟩
     | 6, _, _, hv => exact hv
     | 7, _, _, hv => obtain ⟨a1_, d1_, e1, h1⟩ := hv; exact ⟨a1_, d1_, e1, row5_set3 h1 f8_1 (by decide)⟩
     | 8, _, _, hv => exact hv
     | 9, _, _, hv => obtain ⟨a1_, d1_, e1, h1⟩ := hv; exact ⟨a1_, d1_, e1, row5_set3 h1 f8_1 (by decide)⟩
     | 10, _, _, hv => obtain ⟨b_, e1, h0, h1⟩ := hv; exact ⟨b_, e1, h0, h1.set3_ne f8_1 (by decide)⟩
     | 11, hd, _, _ => exact absurd hd (by decide)
     | 12, _, _, hv => obtain ⟨b_, e1, h0, h1⟩ := hv; exact ⟨b_, e1, h0, h1.set3_ne f8_1 (by decide)⟩
     | 13, _, _, hv => obtain ⟨b_, e1, h0, h1⟩ := hv; exact ⟨b_, e1, h0, h1.set3_ne f8_1 (by decide)⟩
     | 14, _, _, hv => obtain ⟨b_, a1_, d1_, e1, h0, h1⟩ := hv; exact ⟨b_, a1_, d1_, e1, h0.set3_ne f8_1 (by decide), row5_set3 h1 f8_1 (by decide)⟩
     | 15, _, hne, _ => exact absurd rfl hne
     | 16, _, _, hv => obtain ⟨a1_, d1_, e1, h1⟩ := hv; exact ⟨a1_, d1_, e1, row1_set3 h1 f8_1 (by decide)⟩
     | 17, _, _, hv => obtain ⟨b_, a1_, d1_, e1, h0, h1⟩ := hv; exact ⟨b_, a1_, d1_, e1, h0.set3_ne f8_1 (by decide), row5_set3 h1 f8_1 (by decide)⟩
     | 18, _, _, hv => obtain ⟨b_, a1_, d1_, e1, h0, h1⟩ := hv; exact ⟨b_, a1_, d1_, e1, h0.set3_ne f8_1 (by decide), row5_set3 h1 f8_1 (by decide)⟩
     | _ + 19, _, _, _ => trivial
    ·intro xq wa hba hx K hK0
     have hK := fun v w' hb => hK0 v w' (.inl hb)
     obtain ⟨A541, c541, e41, f41_0⟩ := hx 5 (by rfl) (by rfl)
     clear hx hKc hK0
     simp only [frameOf, fill, setSlot, sg, Nat.reduceBEq, if_true, if_false, Nat.reduceAdd, Nat.reduceEqDiff, HSL.out] at hK ⊢
     simp only [e41] at hK ⊢
     clear e41
     go_wp2_with (fail)
     exact hK _ _ (Below.refl _ _) ⟨_, _, rfl, f41_0⟩
    ·intro xq wa hba hx K hK0
     have hK := fun v w' hb => hK0 v w' (.inr hb)
     obtain ⟨A843, c843, e43, f43_0⟩ := hx 7 (by rfl) (by rfl)
     obtain ⟨b10, e10, f10_0, f10_1⟩ := hx 12 (by rfl) (by rfl)
     clear hx hKc hK0
     obtain ⟨kb0, kb1, kb2⟩ := f10_1.c3
     obtain ⟨zb0, zb1, zb2⟩ := f10_1.f3
     simp only [frameOf, fill, setSlot, sg, Nat.reduceBEq, if_true, if_false, Nat.reduceAdd, Nat.reduceEqDiff, HSL.out] at hK ⊢
     have E43 := Lib.hid e43
     have E10 := Lib.hid e10
     simp only [e43, e10] at hK ⊢
     clear e43 e10
     go_wp2_with (fail)
     refine hK undef _ ⟨(by have h := hba; exact zg), ?_⟩ ⟨_, _, _, rfl, Holds.set3 _ _ _ f10_1, row5_set3 f43_0 f10_1 (by decide)⟩
     intro jq xq hd hne hv
     match jq, hd, hne, hv with
     | 0, _, _, hv => exact hv
     | 1, _, _, hv => obtain ⟨a1_, d1_, e1, h1⟩ := hv; exact ⟨a1_, d1_, e1, row5_set3 h1 f10_1 (by decide)⟩
     | 2, _, _, hv => exact hv
     | 3, _, _, hv => obtain ⟨a1_, d1_, e1, h1⟩ := hv; exact ⟨a1_, d1_, e1, row5_set3 h1 f10_1 (by decide)⟩
     | 4, _, _, hv => exact hv
     | 5, _, _, hv => obtain ⟨a1_, d1_, e1, h1⟩ := hv; exact ⟨a1_, d1_, e1, row1_set3 h1 f10_1 (by decide)⟩
     | 6, _, _, hv => exact hv
     | 7, _, _, hv => obtain ⟨a1_, d1_, e1, h1⟩ := hv; exact ⟨a1_, d1_, e1, row5_set3 h1 f10_1 (by decide)⟩
     | 8, _, _, hv => exact hv
     | 9, _, _, hv => obtain ⟨a1_, d1_, e1, h1⟩ := hv; exact ⟨a1_, d1_, e1, row5_set3 h1 f10_1 (by decide)⟩
     | 10, _, _, hv => obtain ⟨b_, e1, h0, h1⟩ := hv; exact ⟨b_, e1, h0, h1.set3_ne f10_1 (by decide)⟩
     | 11, _, _, hv => obtain ⟨b_, e1, h0, h1⟩ := hv; exact ⟨b_, e1, h0, h1.set3_ne f10_1 (by decide)⟩
     | 12, hd, _, _ => exact absurd hd (by decide)
     | 13, _, _, hv => obtain ⟨b_, e1, h0, h1⟩ := hv; exact ⟨b_, e1, h0, h1.set3_ne f10_1 (by decide)⟩
     | 14, _, _, hv => obtain ⟨b_, a1_, d1_, e1, h0, h1⟩ := hv; exact ⟨b_, a1_, d1_, e1, h0.set3_ne f10_1 (by decide), row5_set3 h1 f10_1 (by decide)⟩
     | 15, _, _, hv => obtain ⟨b_, a1_, d1_, e1, h0, h1⟩ := hv; exact ⟨b_, a1_, d1_, e1, h0.set3_ne f10_1 (by decide), row5_set3 h1 f10_1 (by decide)⟩
     | 16, _, _, hv => obtain ⟨a1_, d1_, e1, h1⟩ := hv; exact ⟨a1_, d1_, e1, row1_set3 h1 f10_1 (by decide)⟩
     | 17, _, hne, _ => exact absurd rfl hne
     | 18, _, _, hv => obtain ⟨b_, a1_, d1_, e1, h0, h1⟩ := hv; exact ⟨b_, a1_, d1_, e1, h0.set3_ne f10_1 (by decide), row5_set3 h1 f10_1 (by decide)⟩
     | _ + 19, _, _, _ => trivial
    ·intro xq wa hba hx K hK0
     have hK := fun v w' hb => hK0 v w' (.inr hb)
     obtain ⟨A945, c945, e45, f45_0⟩ := hx 9 (by rfl) (by rfl)
     obtain ⟨b11, e11, f11_0, f11_1⟩ := hx 13 (by rfl) (by rfl)
     clear hx hKc hK0
     obtain ⟨kb0, kb1, kb2⟩ := f11_1.c3
     obtain ⟨zb0, zb1, zb2⟩ := f11_1.f3
     simp only [frameOf, fill, setSlot, sg, Nat.reduceBEq, if_true, if_false, Nat.reduceAdd, Nat.reduceEqDiff, HSL.out] at hK ⊢
     have E45 := Lib.hid e45
     have E11 := Lib.hid e11
     simp only [e45, e11] at hK ⊢
     clear e45 e11
     go_wp2_with (fail)
     refine hK undef _ ⟨(by have h := hba; exact zg), ?_⟩ ⟨_, _, _, rfl, Holds.set3 _ _ _ f11_1, row5_set3 f45_0 f11_1 (by decide)⟩
     intro jq xq hd hne hv
     match jq, hd, hne, hv with
     | 0, _, _, hv => exact hv
     | 1, _, _, hv => obtain ⟨a1_, d1_, e1, h1⟩ := hv; exact ⟨a1_, d1_, e1, row5_set3 h1 f11_1 (by decide)⟩
     | 2, _, _, hv => exact hv
     | 3, _, _, hv => obtain ⟨a1_, d1_, e1, h1⟩ := hv; exact ⟨a1_, d1_, e1, row5_set3 h1 f11_1 (by decide)⟩
     | 4, _, _, hv => exact hv
     | 5, _, _, hv => obtain ⟨a1_, d1_, e1, h1⟩ := hv; exact ⟨a1_, d1_, e1, row1_set3 h1 f11_1 (by decide)⟩
     | 6, _, _, hv => exact hv
     | 7, _, _, hv => obtain ⟨a1_, d1_, e1, h1⟩ := hv; exact ⟨a1_, d1_, e1, row5_set3 h1 f11_1 (by decide)⟩
     | 8, _, _, hv => exact hv
     | 9, _, _, hv => obtain ⟨a1_, d1_, e1, h1⟩ := hv; exact ⟨a1_, d1_, e1, row5_set3 h1 f11_1 (by decide)⟩
     | 10, _, _, hv => obtain ⟨b_, e1, h0, h1⟩ := hv; exact ⟨b_, e1, h0, h1.set3_ne f11_1 (by decide)⟩
     | 11, _, _, hv => obtain ⟨b_, e1, h0, h1⟩ := hv; exact ⟨b_, e1, h0, h1.set3_ne f11_1 (by decide)⟩
     | 12, _, _, hv => obtain ⟨b_, e1, h0, h1⟩ := hv; exact ⟨b_, e1, h0, h1.set3_ne f11_1 (by decide)⟩
     | 13, hd, _, _ => exact absurd hd (by decide)
     | 14, _, _, hv => obtain ⟨b_, a1_, d1_, e1, h0, h1⟩ := hv; exact ⟨b_, a1_, d1_, e1, h0.set3_ne f11_1 (by decide), row5_set3 h1 f11_1 (by decide)⟩
     | 15, _, _, hv => obtain ⟨b_, a1_, d1_, e1, h0, h1⟩ := hv; exact ⟨b_, a1_, d1_, e1, h0.set3_ne f11_1 (by decide), row5_set3 h1 f11_1 (by decide)⟩
     | 16, _, _, hv => obtain ⟨a1_, d1_, e1, h1⟩ := hv; exact ⟨a1_, d1_, e1, row1_set3 h1 f11_1 (by decide)⟩
     | 17, _, _, hv => obtain ⟨b_, a1_, d1_, e1, h0, h1⟩ := hv; exact ⟨b_, a1_, d1_, e1, h0.set3_ne f11_1 (by decide), row5_set3 h1 f11_1 (by decide)⟩
     | 18, _, hne, _ => exact absurd rfl hne
     | _ + 19, _, _, _ => trivial
   ·intro xq wa hba hx
    have e36 : xq 36 = .agg #[.int .i64 err, .int .i64 miss, .slice G gs.length d] := hx 0 (by decide)
    obtain ⟨G137, d137, e37, f37_0⟩ := hx 1 (by decide)
    have e38 : xq 38 = .agg #[.int .i64 full, .int .i64 emp, .slice A hs.length c] := hx 2 (by decide)
    obtain ⟨A139, c139, e39, f39_0⟩ := hx 3 (by decide)
    have e40 : xq 40 = .slice X xs.length xc := hx 4 (by decide)
    obtain ⟨A541, c541, e41, f41_0⟩ := hx 5 (by decide)
    have e42 : xq 42 = .agg #[.int .i64 err, .int .i64 miss, .slice G gs.length d] := hx 6 (by decide)
    obtain ⟨A843, c843, e43, f43_0⟩ := hx 7 (by decide)
    have e44 : xq 44 = .agg #[.int .i64 full, .int .i64 emp, .slice A hs.length c] := hx 8 (by decide)
    obtain ⟨A945, c945, e45, f45_0⟩ := hx 9 (by decide)
    obtain ⟨bn14, G1n14, d1n14, fn14_0, fn14_1, fn14_2⟩ := hx 14 (by decide)
    obtain ⟨bn15, A1n15, c1n15, fn15_0, fn15_1, fn15_2⟩ := hx 15 (by decide)
    obtain ⟨A59, c59, e9, f9_0⟩ := hx 16 (by decide)
    obtain ⟨bn17, A8n17, c8n17, fn17_0, fn17_1, fn17_2⟩ := hx 17 (by decide)
    obtain ⟨bn18, A9n18, c9n18, fn18_0, fn18_1, fn18_2⟩ := hx 18 (by decide)
    clear hx
    simp only [frameOf, fill, setSlot, sg, Nat.reduceBEq, if_true, if_false, Nat.reduceAdd, Nat.reduceEqDiff, HSL.out]
    simp only [e36, e37, e38, e39, e40, e41, e42, e43, e44, e45, fn14_0, fn15_0, e9, fn17_0, fn18_0]
    clear e36 e37 e38 e39 e40 e41 e42 e43 e44 e45 fn14_0 fn15_0 e9 fn17_0 fn18_0
    refine hKc _ _ ?_
    have HSa := Lib.hid hba
    have HBa := Lib.hid (HBq.out.trans (hba.mono hsq))
    have hsa := HBa.out.size
    have hsta := hba.size
    have Hgoa := Lib.hid fn14_1
    have Hcoa := Lib.hid fn15_1
    have Hgxa := Lib.hid fn17_1
    have Hcxa := Lib.hid fn18_1
    obtain ⟨_, _, e1, _, hh1⟩ := OwnGrades.at_ fn14_2
    cases e1
    obtain ⟨_, _, e1, _, hh2⟩ := OwnHands.at_ fn15_2
    cases e1
    have HPa := Lib.hid hh1
    have HMa := Lib.hid hh2
    have HXa := Lib.hid (their_at fn17_2)
    have HYa := Lib.hid (rowed_at fn18_2)
    have HIa := Lib.hid (ints_at f9_0)
    clear fn14_1 fn14_2 fn15_1 fn15_2 fn17_1 fn17_2 fn18_1 fn18_2 hh1 hh2 f9_0
    have Hga := Lib.hid (Hgq.out.up hba)
    have Hca := Lib.hid (Hcq.out.up hba)
    have HGa := Lib.hid (HGq.out.up hba)
    have HAa := Lib.hid (HAq.out.up hba)
    have HLa := Lib.hid (HLq.out.up hba)
    clear hba
    obtain ⟨kgx0, kgx1, kgx2⟩ := Hgxa.out.c3
    have lt_gx : bn17 < wa.heap.size := Hgxa.out.lt
    obtain ⟨kcx0, kcx1, kcx2⟩ := Hcxa.out.c3
    have lt_cx : bn18 < wa.heap.size := Hcxa.out.lt
    go_wp2_with fail
    refine (refBoth_any err miss A8n17 c8n17 gs full emp A9n18 c9n18 hs _ (HXa.out.up zg) g7' (HYa.out.up zg) h9').mono ?_
    rw [← QE.out]
    rintro e wb ⟨rfl, hbb⟩
    have Hgb := Lib.hid (Holds.up (by have h := Hga.out; exact zp4 : Holds _ (w.heap.size) 24 #[.int .i64 err, .int .i64 miss, .slice G gs.length d]) hbb)
    have Hcb := Lib.hid (Holds.up (by have h := Hca.out; exact zp4 : Holds _ (w.heap.size + 1) 27 #[.int .i64 full, .int .i64 emp, .slice A hs.length c]) hbb)
    have Hgob := Lib.hid (Holds.up (by have h := Hgoa.out; exact zp4 : Holds _ (bn14) 24 #[.int .i64 err, .int .i64 miss, .slice G1n14 gs.length d1n14]) hbb)
    have Hcob := Lib.hid (Holds.up (by have h := Hcoa.out; exact zp4 : Holds _ (bn15) 27 #[.int .i64 full, .int .i64 emp, .slice A1n15 hs.length c1n15]) hbb)
    have Hgxb := Lib.hid (Holds.up (by have h := Hgxa.out; exact zp4 : Holds _ (bn17) 49 #[.int .i64 err, .int .i64 miss, .slice A8n17 gs.length c8n17]) hbb)
    have Hcxb := Lib.hid (Holds.up (by have h := Hcxa.out; exact zp4 : Holds _ (bn18) 37 #[.int .i64 full, .int .i64 emp, .slice A9n18 hs.length c9n18]) hbb)
    have HSb : Hid (Below wa.heap.size wa wb) := Lib.hid (Below.trans zg (hbb.mono (by first | exact Nat.le_refl _ | omega | (simp; done) | (simp; omega))))
    have HBb : Hid (Below w.heap.size w wb) := Lib.hid (HBa.out.trans (HSb.out.mono hsa))
    have hsb := HBb.out.size
    have hstb := HSb.out.size
    have HGb := Lib.hid (HGa.out.up HSb.out)
    have HAb := Lib.hid (HAa.out.up HSb.out)
    have HLb := Lib.hid (HLa.out.up HSb.out)
    have HPb := Lib.hid (HPa.out.up HSb.out)
    have HMb := Lib.hid (HMa.out.up HSb.out)
    have HXb := Lib.hid (HXa.out.up HSb.out)
    have HYb := Lib.hid (HYa.out.up HSb.out)
    have HIb := Lib.hid (HIa.out.up HSb.out)
    clear hbb
    clear kcx0 kcx1 kcx2 lt_cx kgx0 kgx1 kgx2 lt_gx
    obtain ⟨kgx0, kgx1, kgx2⟩ := Hgxb.out.c3
    have lt_gx : bn17 < wb.heap.size := Hgxb.out.lt
    obtain ⟨kcx0, kcx1, kcx2⟩ := Hcxb.out.c3
    have lt_cx : bn18 < wb.heap.size := Hcxb.out.lt
    go_upto_if 52 with fail
    go_cut [13, 14, 15, 16, 17] from 51 to 79 (fun s13 s14 s15 s16 s17 wx => s13 = .int .i64 U ∧ s14 = .int .i64 V ∧ s15 = .bool R ∧ s16 = .bool T ∧ (∃ L q, s17 = .slice L KS.length q ∧ IntsAt wx L KS) ∧ Below wb.heap.size wb wx)
    case first =>
     by_cases hE0 : E = 0
     ·subst hE0
      have hq : ((0 : Int) == 0) = true := rfl
      obtain ⟨hg0, hc0⟩ := bothErr_zero QE.out.symm
      obtain ⟨hg4, r0, r1, i0, i1, hgr, _⟩ := gateErr_zero hg0
      obtain ⟨h6, f0, f1, e0, e1, ht, hn⟩ := cartErr_zero hc0
      have HT := Lib.hid ht
      have HNN := Lib.hid hn
      have h6' : hs.length ≤ 6 := h6
      have HK1 : Hid (KS = (clashTo (tabL miss hs) (2 ^ hs.length)).1) := Lib.hid (by rw [QKS.out, clashL, if_pos rfl, clash_ref hn h6])
      have HU1 : Hid (U = foundErr (clashTo (tabL miss hs) (2 ^ hs.length)).2) := Lib.hid (by rw [QU.out, clashU, if_pos rfl, clash_ref hn h6])
      have HT1 : Hid (T = toppedR (tabL miss hs) hs) := Lib.hid (by rw [QT.out, toppedT, if_pos rfl, toppedR_eq ht hn h6])
      have HV1 : Hid (V = listErr hs.length xs) := Lib.hid (by rw [QV.out, agreeErr, if_pos rfl])
      clear hg0 hc0 ht hn hgr
      go_wp2_with fail
      refine (refAll_any err miss A8n17 gs.length c8n17 full emp A9n18 c9n18 hs i0 i1 _ (HYb.out.up zg) h6 HT.out).mono ?_
      rintro e wl ⟨f, rfl, htab, hbl⟩
      have Hgxl := Lib.hid (Holds.up (by have h := Hgxb.out; exact zp4 : Holds _ (bn17) 49 #[.int .i64 err, .int .i64 miss, .slice A8n17 gs.length c8n17]) hbl)
      have Hcxl := Lib.hid (Holds.up (by have h := Hcxb.out; exact zp4 : Holds _ (bn18) 37 #[.int .i64 full, .int .i64 emp, .slice A9n18 hs.length c9n18]) hbl)
      have Hcl := Lib.hid (Holds.up (by have h := Hcb.out; exact zp4 : Holds _ (w.heap.size + 1) 27 #[.int .i64 full, .int .i64 emp, .slice A hs.length c]) hbl)
      have HTAB := Lib.hid (show Tab wl _ _ f f (tabL miss hs) from htab)
      have HLl := Lib.hid (HLb.out.up hbl)
      have HYl := Lib.hid (HYb.out.up hbl)
      have HBl : Hid (Below wb.heap.size wb wl) := Lib.hid hbl
      have hsl := HBl.out.size
      clear htab hbl
      clear kgx0 kgx1 kgx2 lt_gx kcx0 kcx1 kcx2 lt_cx
      obtain ⟨kcxl0, kcxl1, kcxl2⟩ := Hcxl.out.c3
      have lt_cxl := Hcxl.out.lt
      go_wp2_with fail
      refine (refListed_any full emp A9n18 hs.length c9n18 h6 X xc xs (by omega) _ (HLl.out.up zg)).mono ?_
      rw [← HV1.out]
      rintro e wm ⟨s, rfl, hbit, hs64, hbm⟩
      have HBIT := Lib.hid hbit
      clear hbit
      have Hcxm := Lib.hid (Holds.up (by have h := Hcxl.out; exact zp4 : Holds _ (bn18) 37 #[.int .i64 full, .int .i64 emp, .slice A9n18 hs.length c9n18]) hbm)
      have Hcm := Lib.hid (Holds.up (by have h := Hcl.out; exact zp4 : Holds _ (w.heap.size + 1) 27 #[.int .i64 full, .int .i64 emp, .slice A hs.length c]) hbm)
      have HTm := Lib.hid (HTAB.out.up hbm)
      have HYm := Lib.hid (HYl.out.up hbm)
      have HBm := Lib.hid (HBl.out.trans (hbm.mono hsl))
      have hsm := HBm.out.size
      clear hbm kcxl0 kcxl1 kcxl2 lt_cxl
      obtain ⟨kcm0, kcm1, kcm2⟩ := Hcm.out.c3
      have lt_cm := Hcm.out.lt
      by_cases hV0 : V = 0
      ·have hvq : (V == 0) = true := by simp [hV0]
       have HR1 : Hid (R = agreeB (tabL miss hs) s) := Lib.hid (by rw [QR.out, agreeRes, if_pos hV0, agreeB_bits HNN.out h6 (HBIT.out hV0)])
       have HV0 := Lib.hid hV0
       clear hV0
       go_wp2_with (go_at_call 48; refine (refAgree_any _ _ f (tabL miss hs) s (by omega) _ HTm.out).mono ?_; rw [← HR1.out]; rintro e w2_ ⟨rfl, rfl⟩)
       refine (refClash_any _ _ f (tabL miss hs) hs.length h6 _ HTm.out).mono ?_
       rintro e wn ⟨v, rfl, hown, hbn⟩
       obtain ⟨L, q, rfl, hL⟩ := ints_of_row hown
       have HLn := Lib.hid hL
       have Hcxn := Lib.hid (Holds.up (by have h := Hcxm.out; exact zp4 : Holds _ (bn18) 37 #[.int .i64 full, .int .i64 emp, .slice A9n18 hs.length c9n18]) hbn)
       have HTn := Lib.hid (HTm.out.up hbn)
       have HYn := Lib.hid (HYm.out.up hbn)
       have HBn := Lib.hid (HBm.out.trans (hbn.mono hsm))
       have hsn := HBn.out.size
       obtain ⟨fb, hfb⟩ : ∃ b, b = (clashTo (tabL miss hs) (2 ^ hs.length)).2 := ⟨_, rfl⟩
       rw [← hfb] at HU1
       rw [← hfb]
       clear hfb hown hL hbn kcm0 kcm1 kcm2 lt_cm
       obtain ⟨kcxn0, kcxn1, kcxn2⟩ := Hcxn.out.c3
       have lt_cxn := Hcxn.out.lt
       go_wp2_with fail
       have hKc := True.intro
       have HSL := Lib.hid (show slotsOf [some 75, some 76, some 77, some 78, some 79, some 13, some 16] = [75, 76, 77, 78, 79, 13, 16] from rfl)
       refine wp_region_partsG (by kernel_rfl) [some 75, some 76, some 77, some 78, some 79, some 13, some 16] (fun jq xq w' => match jq with
        | 0 => xq 75 = .bool fb
        | 1 => xq 76 = .int .i64 U
        | 2 => xq 77 = .agg #[.int .i64 full, .int .i64 emp, .slice A9n18 hs.length c9n18]
        | 3 => xq 78 = .slice (some ⟨wb.heap.size + 1 + 1, 0, none⟩) 64 64
        | 4 => xq 79 = .bool T
        | 5 => xq 13 = .int .i64 U
        | 6 => xq 16 = .bool T
        | _ => True) [[75], [76], [77], [78], [79], [13], [16]] [] (fun w' => Below wn.heap.size wn w') (by kernel_rfl)  ?_ ?_ (fun w' w'' hb h => h.trans (hb.mono h.size)) (Below.refl _ _) ?_ ?_ ?_
       ·intro jq xq xq' wqq h hv
        match jq, h, hv with
        | 0, h, hv => show xq' 75 = .bool fb; rw [← h 75 (by decide)]; exact hv
        | 1, h, hv => show xq' 76 = .int .i64 U; rw [← h 76 (by decide)]; exact hv
        | 2, h, hv => show xq' 77 = .agg #[.int .i64 full, .int .i64 emp, .slice A9n18 hs.length c9n18]; rw [← h 77 (by decide)]; exact hv
        | 3, h, hv => show xq' 78 = .slice (some ⟨wb.heap.size + 1 + 1, 0, none⟩) 64 64; rw [← h 78 (by decide)]; exact hv
        | 4, h, hv => show xq' 79 = .bool T; rw [← h 79 (by decide)]; exact hv
        | 5, h, hv => show xq' 13 = .int .i64 U; rw [← h 13 (by decide)]; exact hv
        | 6, h, hv => show xq' 16 = .bool T; rw [← h 16 (by decide)]; exact hv
        | _ + 7, _, _ => trivial
       ·intro jq xq wqq w' hb' hv
        match jq, hv with
        | 0, hv => exact hv
        | 1, hv => exact hv
        | 2, hv => exact hv
        | 3, hv => exact hv
        | 4, hv => exact hv
        | 5, hv => exact hv
        | 6, hv => exact hv
        | _ + 7, _ => trivial
       ·intro jq hj
        match jq, hj with
        | 0, hj => exact absurd hj (by decide)
        | 1, hj => exact absurd hj (by decide)
        | 2, hj => exact absurd hj (by decide)
        | 3, hj => exact absurd hj (by decide)
        | 4, hj => exact absurd hj (by decide)
        | 5, hj => exact absurd hj (by decide)
        | 6, hj => exact absurd hj (by decide)
        | _ + 7, _ => trivial
       ·refine ⟨?_, ?_, ?_, ?_, ?_, ?_, ?_, trivial⟩
        ·intro xq wa hba hx K hK0
         have hK := fun v w' hb => hK0 v w' (.inl hb)
         clear hx hKc hK0
         simp only [frameOf, fill, setSlot, sg, Nat.reduceBEq, if_true, if_false, Nat.reduceAdd, Nat.reduceEqDiff, HSL.out] at hK ⊢
         go_wp2_with (fail)
         exact hK _ _ (Below.refl _ _) rfl
        ·intro xq wa hba hx K hK0
         have hK := fun v w' hb => hK0 v w' (.inl hb)
         have e75 : xq 75 = .bool fb := hx 0 (by rfl) (by rfl)
         clear hx hKc hK0
         simp only [frameOf, fill, setSlot, sg, Nat.reduceBEq, if_true, if_false, Nat.reduceAdd, Nat.reduceEqDiff, HSL.out] at hK ⊢
         simp only [e75] at hK ⊢
         clear e75
         go_wp2_with (go_at_call 33; refine (refNone_any fb _).mono ?_; rw [← HU1.out]; rintro e w2_ ⟨rfl, hb_⟩)
         exact hK _ _ hb_ rfl
        ·intro xq wa hba hx K hK0
         have hK := fun v w' hb => hK0 v w' (.inl hb)
         clear hx hKc hK0
         obtain ⟨kq0, kq1, kq2⟩ := (Hcxn.out.up hba).c3
         simp only [frameOf, fill, setSlot, sg, Nat.reduceBEq, if_true, if_false, Nat.reduceAdd, Nat.reduceEqDiff, HSL.out] at hK ⊢
         go_wp2_with (fail)
         exact hK _ _ (Below.refl _ _) rfl
        ·intro xq wa hba hx K hK0
         have hK := fun v w' hb => hK0 v w' (.inl hb)
         clear hx hKc hK0
         simp only [frameOf, fill, setSlot, sg, Nat.reduceBEq, if_true, if_false, Nat.reduceAdd, Nat.reduceEqDiff, HSL.out] at hK ⊢
         go_wp2_with (fail)
         exact hK _ _ (Below.refl _ _) rfl
        ·intro xq wa hba hx K hK0
         have hK := fun v w' hb => hK0 v w' (.inl hb)
         have e77 : xq 77 = .agg #[.int .i64 full, .int .i64 emp, .slice A9n18 hs.length c9n18] := hx 2 (by rfl) (by rfl)
         have e78 : xq 78 = .slice (some ⟨wb.heap.size + 1 + 1, 0, none⟩) 64 64 := hx 3 (by rfl) (by rfl)
         clear hx hKc hK0
         simp only [frameOf, fill, setSlot, sg, Nat.reduceBEq, if_true, if_false, Nat.reduceAdd, Nat.reduceEqDiff, HSL.out] at hK ⊢
         simp only [e77, e78] at hK ⊢
         clear e77 e78
         go_wp2_with (go_at_call 50; refine (refTopped_any full emp A9n18 c9n18 hs h6 _ _ f (tabL miss hs) _ (HYn.out.up hba) (HTn.out.up hba)).mono ?_; rw [← HT1.out]; rintro e w2_ ⟨rfl, hb_⟩)
         exact hK _ _ hb_ rfl
        ·intro xq wa hba hx K hK0
         have hK := fun v w' hb => hK0 v w' (.inl hb)
         have e76 : xq 76 = .int .i64 U := hx 1 (by rfl) (by rfl)
         clear hx hKc hK0
         simp only [frameOf, fill, setSlot, sg, Nat.reduceBEq, if_true, if_false, Nat.reduceAdd, Nat.reduceEqDiff, HSL.out] at hK ⊢
         simp only [e76] at hK ⊢
         clear e76
         go_wp2_with (fail)
         exact hK _ _ (Below.refl _ _) rfl
        ·intro xq wa hba hx K hK0
         have hK := fun v w' hb => hK0 v w' (.inl hb)
         have e79 : xq 79 = .bool T := hx 4 (by rfl) (by rfl)
         clear hx hKc hK0
         simp only [frameOf, fill, setSlot, sg, Nat.reduceBEq, if_true, if_false, Nat.reduceAdd, Nat.reduceEqDiff, HSL.out] at hK ⊢
         simp only [e79] at hK ⊢
         clear e79
         go_wp2_with (fail)
         exact hK _ _ (Below.refl _ _) rfl
       ·intro xq wa hba hx
        have e75 : xq 75 = .bool fb := hx 0 (by decide)
        have e76 : xq 76 = .int .i64 U := hx 1 (by decide)
        have e77 : xq 77 = .agg #[.int .i64 full, .int .i64 emp, .slice A9n18 hs.length c9n18] := hx 2 (by decide)
        have e78 : xq 78 = .slice (some ⟨wb.heap.size + 1 + 1, 0, none⟩) 64 64 := hx 3 (by decide)
        have e79 : xq 79 = .bool T := hx 4 (by decide)
        have e13 : xq 13 = .int .i64 U := hx 5 (by decide)
        have e16 : xq 16 = .bool T := hx 6 (by decide)
        clear hx
        simp only [frameOf, fill, setSlot, sg, Nat.reduceBEq, if_true, if_false, Nat.reduceAdd, Nat.reduceEqDiff, HSL.out]
        simp only [e75, e76, e77, e78, e79, e13, e16]
        clear e75 e76 e77 e78 e79 e13 e16
        go_wp2_with fail
        go_meet
        exact ⟨rfl, by rw [HV0.out], rfl, rfl, ⟨L, q, by rw [HK1.out], by rw [HK1.out]; exact HLn.out.up hba⟩, HBn.out.trans (hba.mono hsn)⟩
      ·have hvq : (V == 0) = false := by simp [hV0]
       have HR1 : Hid (R = false) := Lib.hid (by rw [QR.out, agreeRes, if_neg hV0])
       go_wp2_with fail
       refine (refClash_any _ _ f (tabL miss hs) hs.length h6 _ HTm.out).mono ?_
       rintro e wn ⟨v, rfl, hown, hbn⟩
       obtain ⟨L, q, rfl, hL⟩ := ints_of_row hown
       have HLn := Lib.hid hL
       have Hcxn := Lib.hid (Holds.up (by have h := Hcxm.out; exact zp4 : Holds _ (bn18) 37 #[.int .i64 full, .int .i64 emp, .slice A9n18 hs.length c9n18]) hbn)
       have HTn := Lib.hid (HTm.out.up hbn)
       have HYn := Lib.hid (HYm.out.up hbn)
       have HBn := Lib.hid (HBm.out.trans (hbn.mono hsm))
       have hsn := HBn.out.size
       obtain ⟨fb, hfb⟩ : ∃ b, b = (clashTo (tabL miss hs) (2 ^ hs.length)).2 := ⟨_, rfl⟩
       rw [← hfb] at HU1
       rw [← hfb]
       clear hfb hown hL hbn kcm0 kcm1 kcm2 lt_cm
       obtain ⟨kcxn0, kcxn1, kcxn2⟩ := Hcxn.out.c3
       have lt_cxn := Hcxn.out.lt
       go_wp2_with fail
       have hKc := True.intro
       have HSL := Lib.hid (show slotsOf [some 75, some 76, some 77, some 78, some 79, some 13, some 16] = [75, 76, 77, 78, 79, 13, 16] from rfl)
       refine wp_region_partsG (by kernel_rfl) [some 75, some 76, some 77, some 78, some 79, some 13, some 16] (fun jq xq w' => match jq with
        | 0 => xq 75 = .bool fb
        | 1 => xq 76 = .int .i64 U
        | 2 => xq 77 = .agg #[.int .i64 full, .int .i64 emp, .slice A9n18 hs.length c9n18]
        | 3 => xq 78 = .slice (some ⟨wb.heap.size + 1 + 1, 0, none⟩) 64 64
        | 4 => xq 79 = .bool T
        | 5 => xq 13 = .int .i64 U
        | 6 => xq 16 = .bool T
        | _ => True) [[75], [76], [77], [78], [79], [13], [16]] [] (fun w' => Below wn.heap.size wn w') (by kernel_rfl)  ?_ ?_ (fun w' w'' hb h => h.trans (hb.mono h.size)) (Below.refl _ _) ?_ ?_ ?_
       ·intro jq xq xq' wqq h hv
        match jq, h, hv with
        | 0, h, hv => show xq' 75 = .bool fb; rw [← h 75 (by decide)]; exact hv
        | 1, h, hv => show xq' 76 = .int .i64 U; rw [← h 76 (by decide)]; exact hv
        | 2, h, hv => show xq' 77 = .agg #[.int .i64 full, .int .i64 emp, .slice A9n18 hs.length c9n18]; rw [← h 77 (by decide)]; exact hv
        | 3, h, hv => show xq' 78 = .slice (some ⟨wb.heap.size + 1 + 1, 0, none⟩) 64 64; rw [← h 78 (by decide)]; exact hv
        | 4, h, hv => show xq' 79 = .bool T; rw [← h 79 (by decide)]; exact hv
        | 5, h, hv => show xq' 13 = .int .i64 U; rw [← h 13 (by decide)]; exact hv
        | 6, h, hv => show xq' 16 = .bool T; rw [← h 16 (by decide)]; exact hv
        | _ + 7, _, _ => trivial
       ·intro jq xq wqq w' hb' hv
        match jq, hv with
        | 0, hv => exact hv
        | 1, hv => exact hv
        | 2, hv => exact hv
        | 3, hv => exact hv
        | 4, hv => exact hv
        | 5, hv => exact hv
        | 6, hv => exact hv
        | _ + 7, _ => trivial
       ·intro jq hj
        match jq, hj with
        | 0, hj => exact absurd hj (by decide)
        | 1, hj => exact absurd hj (by decide)
        | 2, hj => exact absurd hj (by decide)
        | 3, hj => exact absurd hj (by decide)
        | 4, hj => exact absurd hj (by decide)
        | 5, hj => exact absurd hj (by decide)
        | 6, hj => exact absurd hj (by decide)
        | _ + 7, _ => trivial
       ·refine ⟨?_, ?_, ?_, ?_, ?_, ?_, ?_, trivial⟩
        ·intro xq wa hba hx K hK0
         have hK := fun v w' hb => hK0 v w' (.inl hb)
         clear hx hKc hK0
         simp only [frameOf, fill, setSlot, sg, Nat.reduceBEq, if_true, if_false, Nat.reduceAdd, Nat.reduceEqDiff, HSL.out] at hK ⊢
         go_wp2_with (fail)
         exact hK _ _ (Below.refl _ _) rfl
        ·intro xq wa hba hx K hK0
         have hK := fun v w' hb => hK0 v w' (.inl hb)
         have e75 : xq 75 = .bool fb := hx 0 (by rfl) (by rfl)
         clear hx hKc hK0
         simp only [frameOf, fill, setSlot, sg, Nat.reduceBEq, if_true, if_false, Nat.reduceAdd, Nat.reduceEqDiff, HSL.out] at hK ⊢
         simp only [e75] at hK ⊢
         clear e75
         go_wp2_with (go_at_call 33; refine (refNone_any fb _).mono ?_; rw [← HU1.out]; rintro e w2_ ⟨rfl, hb_⟩)
         exact hK _ _ hb_ rfl
        ·intro xq wa hba hx K hK0
         have hK := fun v w' hb => hK0 v w' (.inl hb)
         clear hx hKc hK0
         obtain ⟨kq0, kq1, kq2⟩ := (Hcxn.out.up hba).c3
         simp only [frameOf, fill, setSlot, sg, Nat.reduceBEq, if_true, if_false, Nat.reduceAdd, Nat.reduceEqDiff, HSL.out] at hK ⊢
         go_wp2_with (fail)
         exact hK _ _ (Below.refl _ _) rfl
        ·intro xq wa hba hx K hK0
         have hK := fun v w' hb => hK0 v w' (.inl hb)
         clear hx hKc hK0
         simp only [frameOf, fill, setSlot, sg, Nat.reduceBEq, if_true, if_false, Nat.reduceAdd, Nat.reduceEqDiff, HSL.out] at hK ⊢
         go_wp2_with (fail)
         exact hK _ _ (Below.refl _ _) rfl
        ·intro xq wa hba hx K hK0
         have hK := fun v w' hb => hK0 v w' (.inl hb)
         have e77 : xq 77 = .agg #[.int .i64 full, .int .i64 emp, .slice A9n18 hs.length c9n18] := hx 2 (by rfl) (by rfl)
         have e78 : xq 78 = .slice (some ⟨wb.heap.size + 1 + 1, 0, none⟩) 64 64 := hx 3 (by rfl) (by rfl)
         clear hx hKc hK0
         simp only [frameOf, fill, setSlot, sg, Nat.reduceBEq, if_true, if_false, Nat.reduceAdd, Nat.reduceEqDiff, HSL.out] at hK ⊢
         simp only [e77, e78] at hK ⊢
         clear e77 e78
         go_wp2_with (go_at_call 50; refine (refTopped_any full emp A9n18 c9n18 hs h6 _ _ f (tabL miss hs) _ (HYn.out.up hba) (HTn.out.up hba)).mono ?_; rw [← HT1.out]; rintro e w2_ ⟨rfl, hb_⟩)
         exact hK _ _ hb_ rfl
        ·intro xq wa hba hx K hK0
         have hK := fun v w' hb => hK0 v w' (.inl hb)
         have e76 : xq 76 = .int .i64 U := hx 1 (by rfl) (by rfl)
         clear hx hKc hK0
         simp only [frameOf, fill, setSlot, sg, Nat.reduceBEq, if_true, if_false, Nat.reduceAdd, Nat.reduceEqDiff, HSL.out] at hK ⊢
         simp only [e76] at hK ⊢
         clear e76
         go_wp2_with (fail)
         exact hK _ _ (Below.refl _ _) rfl
        ·intro xq wa hba hx K hK0
         have hK := fun v w' hb => hK0 v w' (.inl hb)
         have e79 : xq 79 = .bool T := hx 4 (by rfl) (by rfl)
         clear hx hKc hK0
         simp only [frameOf, fill, setSlot, sg, Nat.reduceBEq, if_true, if_false, Nat.reduceAdd, Nat.reduceEqDiff, HSL.out] at hK ⊢
         simp only [e79] at hK ⊢
         clear e79
         go_wp2_with (fail)
         exact hK _ _ (Below.refl _ _) rfl
       ·intro xq wa hba hx
        have e75 : xq 75 = .bool fb := hx 0 (by decide)
        have e76 : xq 76 = .int .i64 U := hx 1 (by decide)
        have e77 : xq 77 = .agg #[.int .i64 full, .int .i64 emp, .slice A9n18 hs.length c9n18] := hx 2 (by decide)
        have e78 : xq 78 = .slice (some ⟨wb.heap.size + 1 + 1, 0, none⟩) 64 64 := hx 3 (by decide)
        have e79 : xq 79 = .bool T := hx 4 (by decide)
        have e13 : xq 13 = .int .i64 U := hx 5 (by decide)
        have e16 : xq 16 = .bool T := hx 6 (by decide)
        clear hx
        simp only [frameOf, fill, setSlot, sg, Nat.reduceBEq, if_true, if_false, Nat.reduceAdd, Nat.reduceEqDiff, HSL.out]
        simp only [e75, e76, e77, e78, e79, e13, e16]
        clear e75 e76 e77 e78 e79 e13 e16
        go_wp2_with fail
        go_meet
        exact ⟨rfl, rfl, by rw [HR1.out], rfl, ⟨L, q, by rw [HK1.out], by rw [HK1.out]; exact HLn.out.up hba⟩, HBn.out.trans (hba.mono hsn)⟩
     ·have hq : (E == 0) = false := by simp [hE0]
      have HU1 : Hid (U = E) := Lib.hid (by rw [QU.out, clashU, if_neg hE0])
      have HV1 : Hid (V = E) := Lib.hid (by rw [QV.out, agreeErr, if_neg hE0])
      have HK1 : Hid (KS = []) := Lib.hid (by rw [QKS.out, clashL, if_neg hE0])
      have HT1 : Hid (T = false) := Lib.hid (by rw [QT.out, toppedT, if_neg hE0])
      have HR1 : Hid (R = false) := Lib.hid (by rw [QR.out, agreeRes, if_neg (by rw [HV1.out]; exact hE0)])
      go_wp2_with fail
      go_meet
      exact ⟨by rw [HU1.out], by rw [HV1.out], by rw [HR1.out], by rw [HT1.out], ⟨none, 0, by rw [HK1.out]; rfl, fun h => by rw [HK1.out] at h; exact absurd h (Nat.lt_irrefl 0)⟩, zg⟩
    case rest =>
     rename World => wu
     obtain ⟨rfl, rfl, rfl, rfl, ⟨L1, q1, rfl, hL1⟩, hbu⟩ := hcut
     have HKu := Lib.hid hL1
     have HSu := Lib.hid hbu
     have HBu := Lib.hid (HBb.out.trans (hbu.mono hsb))
     have hsu := HBu.out.size
     have hstu := hbu.size
     have Hgu := Lib.hid (Hgb.out.up hbu)
     have Hcu := Lib.hid (Hcb.out.up hbu)
     have Hgou := Lib.hid (Hgob.out.up hbu)
     have Hcou := Lib.hid (Hcob.out.up hbu)
     have Hgxu := Lib.hid (Hgxb.out.up hbu)
     have Hcxu := Lib.hid (Hcxb.out.up hbu)
     have HGu := Lib.hid (HGb.out.up hbu)
     have HAu := Lib.hid (HAb.out.up hbu)
     have HLu := Lib.hid (HLb.out.up hbu)
     have HPu := Lib.hid (HPb.out.up hbu)
     have HMu := Lib.hid (HMb.out.up hbu)
     have HXu := Lib.hid (HXb.out.up hbu)
     have HYu := Lib.hid (HYb.out.up hbu)
     have HIu := Lib.hid (HIb.out.up hbu)
     clear hL1 hbu
     clear kgx0 kgx1 kgx2 lt_gx kcx0 kcx1 kcx2 lt_cx
     obtain ⟨kgo0, kgo1, kgo2⟩ := Hgou.out.c3
     have lt_go : bn14 < wu.heap.size := Hgou.out.lt
     obtain ⟨kco0, kco1, kco2⟩ := Hcou.out.c3
     have lt_co : bn15 < wu.heap.size := Hcou.out.lt
     go_wp2_with fail
     refine (Agree_tot err miss full emp G1n14 A1n15 d1n14 c1n15 gs hs A59 c59 xs _ (HPu.out.up zg) g7' (HMu.out.up zg) h9' (HIu.out.up zg) (by omega) QE.out QV.out QR.out).mono ?_
     rintro e wd ⟨rfl, hbd⟩
     have Hgd := Lib.hid (Holds.up (by have h := Hgu.out; exact zp4 : Holds _ (w.heap.size) 24 #[.int .i64 err, .int .i64 miss, .slice G gs.length d]) hbd)
     have Hcd := Lib.hid (Holds.up (by have h := Hcu.out; exact zp4 : Holds _ (w.heap.size + 1) 27 #[.int .i64 full, .int .i64 emp, .slice A hs.length c]) hbd)
     have Hgod := Lib.hid (Holds.up (by have h := Hgou.out; exact zp4 : Holds _ (bn14) 24 #[.int .i64 err, .int .i64 miss, .slice G1n14 gs.length d1n14]) hbd)
     have Hcod := Lib.hid (Holds.up (by have h := Hcou.out; exact zp4 : Holds _ (bn15) 27 #[.int .i64 full, .int .i64 emp, .slice A1n15 hs.length c1n15]) hbd)
     have Hgxd := Lib.hid (Holds.up (by have h := Hgxu.out; exact zp4 : Holds _ (bn17) 49 #[.int .i64 err, .int .i64 miss, .slice A8n17 gs.length c8n17]) hbd)
     have Hcxd := Lib.hid (Holds.up (by have h := Hcxu.out; exact zp4 : Holds _ (bn18) 37 #[.int .i64 full, .int .i64 emp, .slice A9n18 hs.length c9n18]) hbd)
     have HSd : Hid (Below wu.heap.size wu wd) := Lib.hid (Below.trans zg (hbd.mono (by first | exact Nat.le_refl _ | omega | (simp; done) | (simp; omega))))
     have HBd : Hid (Below w.heap.size w wd) := Lib.hid (HBu.out.trans (HSd.out.mono hsu))
     have hsd := HBd.out.size
     have hstd := HSd.out.size
     have HGd := Lib.hid (HGu.out.up HSd.out)
     have HAd := Lib.hid (HAu.out.up HSd.out)
     have HLd := Lib.hid (HLu.out.up HSd.out)
     have HPd := Lib.hid (HPu.out.up HSd.out)
     have HMd := Lib.hid (HMu.out.up HSd.out)
     have HXd := Lib.hid (HXu.out.up HSd.out)
     have HYd := Lib.hid (HYu.out.up HSd.out)
     have HId := Lib.hid (HIu.out.up HSd.out)
     have HKd := Lib.hid (HKu.out.up HSd.out)
     clear hbd
     clear kgo0 kgo1 kgo2 lt_go kco0 kco1 kco2 lt_co
     obtain ⟨kgo0, kgo1, kgo2⟩ := Hgod.out.c3
     have lt_go : bn14 < wd.heap.size := Hgod.out.lt
     obtain ⟨kco0, kco1, kco2⟩ := Hcod.out.c3
     have lt_co : bn15 < wd.heap.size := Hcod.out.lt
     go_wp2_with fail
     refine (Clash_tot err miss full emp G1n14 A1n15 d1n14 c1n15 gs hs _ (HPd.out.up zg) g7' (HMd.out.up zg) h9' QE.out QU.out QKS.out).mono ?_
     rintro e wf ⟨L2, q2, rfl, hL2, hbf⟩
     have Hgf := Lib.hid (Holds.up (by have h := Hgd.out; exact zp4 : Holds _ (w.heap.size) 24 #[.int .i64 err, .int .i64 miss, .slice G gs.length d]) hbf)
     have Hcf := Lib.hid (Holds.up (by have h := Hcd.out; exact zp4 : Holds _ (w.heap.size + 1) 27 #[.int .i64 full, .int .i64 emp, .slice A hs.length c]) hbf)
     have Hgof := Lib.hid (Holds.up (by have h := Hgod.out; exact zp4 : Holds _ (bn14) 24 #[.int .i64 err, .int .i64 miss, .slice G1n14 gs.length d1n14]) hbf)
     have Hcof := Lib.hid (Holds.up (by have h := Hcod.out; exact zp4 : Holds _ (bn15) 27 #[.int .i64 full, .int .i64 emp, .slice A1n15 hs.length c1n15]) hbf)
     have Hgxf := Lib.hid (Holds.up (by have h := Hgxd.out; exact zp4 : Holds _ (bn17) 49 #[.int .i64 err, .int .i64 miss, .slice A8n17 gs.length c8n17]) hbf)
     have Hcxf := Lib.hid (Holds.up (by have h := Hcxd.out; exact zp4 : Holds _ (bn18) 37 #[.int .i64 full, .int .i64 emp, .slice A9n18 hs.length c9n18]) hbf)
     have HSf : Hid (Below wd.heap.size wd wf) := Lib.hid (Below.trans zg (hbf.mono (by first | exact Nat.le_refl _ | omega | (simp; done) | (simp; omega))))
     have HBf : Hid (Below w.heap.size w wf) := Lib.hid (HBd.out.trans (HSf.out.mono hsd))
     have hsf := HBf.out.size
     have hstf := HSf.out.size
     have HGf := Lib.hid (HGd.out.up HSf.out)
     have HAf := Lib.hid (HAd.out.up HSf.out)
     have HLf := Lib.hid (HLd.out.up HSf.out)
     have HPf := Lib.hid (HPd.out.up HSf.out)
     have HMf := Lib.hid (HMd.out.up HSf.out)
     have HXf := Lib.hid (HXd.out.up HSf.out)
     have HYf := Lib.hid (HYd.out.up HSf.out)
     have HIf := Lib.hid (HId.out.up HSf.out)
     have HKf := Lib.hid (HKd.out.up HSf.out)
     clear hbf
     have HJf := Lib.hid hL2
     clear hL2
     clear kgo0 kgo1 kgo2 lt_go kco0 kco1 kco2 lt_co
     obtain ⟨kgo0, kgo1, kgo2⟩ := Hgof.out.c3
     have lt_go : bn14 < wf.heap.size := Hgof.out.lt
     obtain ⟨kco0, kco1, kco2⟩ := Hcof.out.c3
     have lt_co : bn15 < wf.heap.size := Hcof.out.lt
     go_wp2_with fail
     refine (Topped_tot err miss full emp G1n14 A1n15 d1n14 c1n15 gs hs _ (HPf.out.up zg) g7' (HMf.out.up zg) h9' QE.out QT.out).mono ?_
     rintro e wh ⟨rfl, hbh⟩
     have Hgh := Lib.hid (Holds.up (by have h := Hgf.out; exact zp4 : Holds _ (w.heap.size) 24 #[.int .i64 err, .int .i64 miss, .slice G gs.length d]) hbh)
     have Hch := Lib.hid (Holds.up (by have h := Hcf.out; exact zp4 : Holds _ (w.heap.size + 1) 27 #[.int .i64 full, .int .i64 emp, .slice A hs.length c]) hbh)
     have Hgoh := Lib.hid (Holds.up (by have h := Hgof.out; exact zp4 : Holds _ (bn14) 24 #[.int .i64 err, .int .i64 miss, .slice G1n14 gs.length d1n14]) hbh)
     have Hcoh := Lib.hid (Holds.up (by have h := Hcof.out; exact zp4 : Holds _ (bn15) 27 #[.int .i64 full, .int .i64 emp, .slice A1n15 hs.length c1n15]) hbh)
     have Hgxh := Lib.hid (Holds.up (by have h := Hgxf.out; exact zp4 : Holds _ (bn17) 49 #[.int .i64 err, .int .i64 miss, .slice A8n17 gs.length c8n17]) hbh)
     have Hcxh := Lib.hid (Holds.up (by have h := Hcxf.out; exact zp4 : Holds _ (bn18) 37 #[.int .i64 full, .int .i64 emp, .slice A9n18 hs.length c9n18]) hbh)
     have HSh : Hid (Below wf.heap.size wf wh) := Lib.hid (Below.trans zg (hbh.mono (by first | exact Nat.le_refl _ | omega | (simp; done) | (simp; omega))))
     have HBh : Hid (Below w.heap.size w wh) := Lib.hid (HBf.out.trans (HSh.out.mono hsf))
     have hsh := HBh.out.size
     have hsth := HSh.out.size
     have HGh := Lib.hid (HGf.out.up HSh.out)
     have HAh := Lib.hid (HAf.out.up HSh.out)
     have HLh := Lib.hid (HLf.out.up HSh.out)
     have HPh := Lib.hid (HPf.out.up HSh.out)
     have HMh := Lib.hid (HMf.out.up HSh.out)
     have HXh := Lib.hid (HXf.out.up HSh.out)
     have HYh := Lib.hid (HYf.out.up HSh.out)
     have HIh := Lib.hid (HIf.out.up HSh.out)
     have HKh := Lib.hid (HKf.out.up HSh.out)
     have HJh := Lib.hid (HJf.out.up HSh.out)
     clear hbh
     clear kgo0 kgo1 kgo2 lt_go kco0 kco1 kco2 lt_co
     go_wp2_with fail
     refine (eqInt_same L2 L1 q2 q1 KS _ (HJh.out.up zg) (HKh.out.up zg) hkl).mono ?_
     rintro e wj ⟨rfl, hbj⟩
     have Hgj := Lib.hid (Holds.up (by have h := Hgh.out; exact zp4 : Holds _ (w.heap.size) 24 #[.int .i64 err, .int .i64 miss, .slice G gs.length d]) hbj)
     have Hcj := Lib.hid (Holds.up (by have h := Hch.out; exact zp4 : Holds _ (w.heap.size + 1) 27 #[.int .i64 full, .int .i64 emp, .slice A hs.length c]) hbj)
     have Hgoj := Lib.hid (Holds.up (by have h := Hgoh.out; exact zp4 : Holds _ (bn14) 24 #[.int .i64 err, .int .i64 miss, .slice G1n14 gs.length d1n14]) hbj)
     have Hcoj := Lib.hid (Holds.up (by have h := Hcoh.out; exact zp4 : Holds _ (bn15) 27 #[.int .i64 full, .int .i64 emp, .slice A1n15 hs.length c1n15]) hbj)
     have Hgxj := Lib.hid (Holds.up (by have h := Hgxh.out; exact zp4 : Holds _ (bn17) 49 #[.int .i64 err, .int .i64 miss, .slice A8n17 gs.length c8n17]) hbj)
     have Hcxj := Lib.hid (Holds.up (by have h := Hcxh.out; exact zp4 : Holds _ (bn18) 37 #[.int .i64 full, .int .i64 emp, .slice A9n18 hs.length c9n18]) hbj)
     have HSj : Hid (Below wh.heap.size wh wj) := Lib.hid (Below.trans zg (hbj.mono (by first | exact Nat.le_refl _ | omega | (simp; done) | (simp; omega))))
     have HBj : Hid (Below w.heap.size w wj) := Lib.hid (HBh.out.trans (HSj.out.mono hsh))
     have hsj := HBj.out.size
     have hstj := HSj.out.size
     have HGj := Lib.hid (HGh.out.up HSj.out)
     have HAj := Lib.hid (HAh.out.up HSj.out)
     have HLj := Lib.hid (HLh.out.up HSj.out)
     have HPj := Lib.hid (HPh.out.up HSj.out)
     have HMj := Lib.hid (HMh.out.up HSj.out)
     have HXj := Lib.hid (HXh.out.up HSj.out)
     have HYj := Lib.hid (HYh.out.up HSj.out)
     have HIj := Lib.hid (HIh.out.up HSj.out)
     have HKj := Lib.hid (HKh.out.up HSj.out)
     have HJj := Lib.hid (HJh.out.up HSj.out)
     clear hbj
     go_wp2_with fail
     refine (eqInt_same A59 X c59 xc xs _ (HIj.out.up zg) (HLj.out.up zg) (by omega)).mono ?_
     rintro e wr ⟨rfl, hbr⟩
     have Hgr := Lib.hid (Holds.up (by have h := Hgj.out; exact zp4 : Holds _ (w.heap.size) 24 #[.int .i64 err, .int .i64 miss, .slice G gs.length d]) hbr)
     have Hcr := Lib.hid (Holds.up (by have h := Hcj.out; exact zp4 : Holds _ (w.heap.size + 1) 27 #[.int .i64 full, .int .i64 emp, .slice A hs.length c]) hbr)
     have Hgor := Lib.hid (Holds.up (by have h := Hgoj.out; exact zp4 : Holds _ (bn14) 24 #[.int .i64 err, .int .i64 miss, .slice G1n14 gs.length d1n14]) hbr)
     have Hcor := Lib.hid (Holds.up (by have h := Hcoj.out; exact zp4 : Holds _ (bn15) 27 #[.int .i64 full, .int .i64 emp, .slice A1n15 hs.length c1n15]) hbr)
     have Hgxr := Lib.hid (Holds.up (by have h := Hgxj.out; exact zp4 : Holds _ (bn17) 49 #[.int .i64 err, .int .i64 miss, .slice A8n17 gs.length c8n17]) hbr)
     have Hcxr := Lib.hid (Holds.up (by have h := Hcxj.out; exact zp4 : Holds _ (bn18) 37 #[.int .i64 full, .int .i64 emp, .slice A9n18 hs.length c9n18]) hbr)
     have HSr : Hid (Below wj.heap.size wj wr) := Lib.hid (Below.trans zg (hbr.mono (by first | exact Nat.le_refl _ | omega | (simp; done) | (simp; omega))))
     have HBr : Hid (Below w.heap.size w wr) := Lib.hid (HBj.out.trans (HSr.out.mono hsj))
     have hsr := HBr.out.size
     have hstr := HSr.out.size
     have HGr := Lib.hid (HGj.out.up HSr.out)
     have HAr := Lib.hid (HAj.out.up HSr.out)
     have HLr := Lib.hid (HLj.out.up HSr.out)
     have HPr := Lib.hid (HPj.out.up HSr.out)
     have HMr := Lib.hid (HMj.out.up HSr.out)
     have HXr := Lib.hid (HXj.out.up HSr.out)
     have HYr := Lib.hid (HYj.out.up HSr.out)
     have HIr := Lib.hid (HIj.out.up HSr.out)
     have HKr := Lib.hid (HKj.out.up HSr.out)
     have HJr := Lib.hid (HJj.out.up HSr.out)
     clear hbr
     obtain ⟨kg0, kg1, kg2⟩ := Hgr.out.c3
     have lt_g : w.heap.size < wr.heap.size := Hgr.out.lt
     obtain ⟨kgo0, kgo1, kgo2⟩ := Hgor.out.c3
     have lt_go : bn14 < wr.heap.size := Hgor.out.lt
     go_wp2_with fail
     refine (same_same err miss G1n14 G d1n14 d gs _ (HPr.out.up zg) (HGr.out.up zg) g7').mono ?_
     rintro e wv ⟨rfl, hbv⟩
     have Hgv := Lib.hid (Holds.up (by have h := Hgr.out; exact zp4 : Holds _ (w.heap.size) 24 #[.int .i64 err, .int .i64 miss, .slice G gs.length d]) hbv)
     have Hcv := Lib.hid (Holds.up (by have h := Hcr.out; exact zp4 : Holds _ (w.heap.size + 1) 27 #[.int .i64 full, .int .i64 emp, .slice A hs.length c]) hbv)
     have Hgov := Lib.hid (Holds.up (by have h := Hgor.out; exact zp4 : Holds _ (bn14) 24 #[.int .i64 err, .int .i64 miss, .slice G1n14 gs.length d1n14]) hbv)
     have Hcov := Lib.hid (Holds.up (by have h := Hcor.out; exact zp4 : Holds _ (bn15) 27 #[.int .i64 full, .int .i64 emp, .slice A1n15 hs.length c1n15]) hbv)
     have Hgxv := Lib.hid (Holds.up (by have h := Hgxr.out; exact zp4 : Holds _ (bn17) 49 #[.int .i64 err, .int .i64 miss, .slice A8n17 gs.length c8n17]) hbv)
     have Hcxv := Lib.hid (Holds.up (by have h := Hcxr.out; exact zp4 : Holds _ (bn18) 37 #[.int .i64 full, .int .i64 emp, .slice A9n18 hs.length c9n18]) hbv)
     have HSv : Hid (Below wr.heap.size wr wv) := Lib.hid (Below.trans zg (hbv.mono (by first | exact Nat.le_refl _ | omega | (simp; done) | (simp; omega))))
     have HBv : Hid (Below w.heap.size w wv) := Lib.hid (HBr.out.trans (HSv.out.mono hsr))
     have hsv := HBv.out.size
     have hstv := HSv.out.size
     have HGv := Lib.hid (HGr.out.up HSv.out)
     have HAv := Lib.hid (HAr.out.up HSv.out)
     have HLv := Lib.hid (HLr.out.up HSv.out)
     have HPv := Lib.hid (HPr.out.up HSv.out)
     have HMv := Lib.hid (HMr.out.up HSv.out)
     have HXv := Lib.hid (HXr.out.up HSv.out)
     have HYv := Lib.hid (HYr.out.up HSv.out)
     have HIv := Lib.hid (HIr.out.up HSv.out)
     have HKv := Lib.hid (HKr.out.up HSv.out)
     have HJv := Lib.hid (HJr.out.up HSv.out)
     clear hbv
     clear kg0 kg1 kg2 lt_g kgo0 kgo1 kgo2 lt_go
     obtain ⟨kc0, kc1, kc2⟩ := Hcv.out.c3
     have lt_c : w.heap.size + 1 < wv.heap.size := Hcv.out.lt
     obtain ⟨kco0, kco1, kco2⟩ := Hcov.out.c3
     have lt_co : bn15 < wv.heap.size := Hcov.out.lt
     go_wp2_with fail
     refine (alike_same full emp A1n15 A c1n15 c hs _ (HMv.out.up zg) (HAv.out.up zg) h9').mono ?_
     rintro e wx ⟨rfl, hbx⟩
     have Hgx := Lib.hid (Holds.up (by have h := Hgv.out; exact zp4 : Holds _ (w.heap.size) 24 #[.int .i64 err, .int .i64 miss, .slice G gs.length d]) hbx)
     have Hcx := Lib.hid (Holds.up (by have h := Hcv.out; exact zp4 : Holds _ (w.heap.size + 1) 27 #[.int .i64 full, .int .i64 emp, .slice A hs.length c]) hbx)
     have Hgox := Lib.hid (Holds.up (by have h := Hgov.out; exact zp4 : Holds _ (bn14) 24 #[.int .i64 err, .int .i64 miss, .slice G1n14 gs.length d1n14]) hbx)
     have Hcox := Lib.hid (Holds.up (by have h := Hcov.out; exact zp4 : Holds _ (bn15) 27 #[.int .i64 full, .int .i64 emp, .slice A1n15 hs.length c1n15]) hbx)
     have Hgxx := Lib.hid (Holds.up (by have h := Hgxv.out; exact zp4 : Holds _ (bn17) 49 #[.int .i64 err, .int .i64 miss, .slice A8n17 gs.length c8n17]) hbx)
     have Hcxx := Lib.hid (Holds.up (by have h := Hcxv.out; exact zp4 : Holds _ (bn18) 37 #[.int .i64 full, .int .i64 emp, .slice A9n18 hs.length c9n18]) hbx)
     have HSx : Hid (Below wv.heap.size wv wx) := Lib.hid (Below.trans zg (hbx.mono (by first | exact Nat.le_refl _ | omega | (simp; done) | (simp; omega))))
     have HBx : Hid (Below w.heap.size w wx) := Lib.hid (HBv.out.trans (HSx.out.mono hsv))
     have hsx := HBx.out.size
     have hstx := HSx.out.size
     have HGx := Lib.hid (HGv.out.up HSx.out)
     have HAx := Lib.hid (HAv.out.up HSx.out)
     have HLx := Lib.hid (HLv.out.up HSx.out)
     have HPx := Lib.hid (HPv.out.up HSx.out)
     have HMx := Lib.hid (HMv.out.up HSx.out)
     have HXx := Lib.hid (HXv.out.up HSx.out)
     have HYx := Lib.hid (HYv.out.up HSx.out)
     have HIx := Lib.hid (HIv.out.up HSx.out)
     have HKx := Lib.hid (HKv.out.up HSx.out)
     have HJx := Lib.hid (HJv.out.up HSx.out)
     clear hbx
     clear kc0 kc1 kc2 lt_c kco0 kco1 kco2 lt_co
     go_wp2_with fail
     refine (awake_any _).mono ?_
     rintro e wz ⟨rfl, hbz⟩
     go_wp2_with fail
     go_ret
     exact ⟨rfl, HBx.out.trans (hbz.mono hsx)⟩
end Go.Proofs.Ytifffonoipapgaa
