
import Derived.Test.YtdpgfaikmahmpaaKAA
import Derived.Test.YtdpgfaikmahmpaaKAC
import Derived.Test.YtdpgfaikmahmpaaKBF
import Derived.Test.YtdpgfaikmahmpaaKBH
import Derived.Test.YtdpgfaikmahmpaaKBK
import Derived.Test.YtdpgfaikmahmpaaKBQ
set_option linter.unusedSimpArgs false
set_option linter.unusedVariables false
namespace Go.Proofs.Ytdpgfaikmahmpaa
open Go.RowKit
theorem rowed_at {w : World} {B c n : Nat} {A : Option Addr} {hs : List Hf} (h : Rowed w B 42 (.slice A hs.length c) n (hs.flatMap Hf.cells)) (e : n = hs.length := by rfl) : HandsAt w A hs := by
 subst e
 obtain ⟨A', q, ev, _, hh⟩ := come_at h
 cases ev
 exact hh
theorem their_at {w : World} {B c n : Nat} {A : Option Addr} {hs : List Gr} (h : Rowed w B 139 (.slice A hs.length c) n (hs.flatMap Gr.cells)) (e : n = hs.length := by rfl) : GradesAt w A hs := by
 subst e
 obtain ⟨A', q, ev, _, hh⟩ := theirs_at h
 cases ev
 exact hh
set_option maxRecDepth 100000 in
set_option maxHeartbeats 16000000 in
theorem GateChecks_any (err miss full emp : Int) (G : Option Addr) (d : Nat) (gs : List Gr) (A : Option Addr) (c : Nat) (hs : List Hf) (x : Hf) (w : World) (gd : gs.length ≤ d) (gm : d ≤ maxLen) (hG : GradesAt w G gs) (gn : G = none → gs.length = 0 ∧ d = 0) (cd : hs.length ≤ c) (cm : c ≤ maxLen) (hA : HandsAt w A hs) (cn : A = none → hs.length = 0 ∧ c = 0) :
  Calls Try.prog 3 #[.agg #[.int .i64 err, .int .i64 miss, .slice G gs.length d], .agg #[.int .i64 full, .int .i64 emp, .slice A hs.length c], .agg #[.int .i64 x.spot, .int .i64 x.g0, .int .i64 x.g1, .int .i64 x.g2, .int .i64 x.g3]] w fun e w' => e = .returned (.bool true) ∧ Below w.heap.size w w' := by
 have HG := Lib.hid hG
 have HA := Lib.hid hA
 have HGN := Lib.hid gn
 have HAN := Lib.hid cn
 have gl : gs.length ≤ 9223372036854775807 := by unfold maxLen at gm; omega
 have al : hs.length ≤ 9223372036854775807 := by unfold maxLen at cm; omega
 clear hG hA gn cn gm cm
 cases hgt : greatB gs.length hs.length with
 | true =>
  have HGT := Lib.hid hgt
  clear hgt
  go_enter Try.func3, Try.ntmps3
  go_wp2_with fail
  refine (great_any err miss full emp G A gs.length d hs.length c _ gl al).mono ?_
  rw [HGT.out]
  rintro e wq ⟨rfl, hbq⟩
  have Hgq := Lib.hid (Holds.up (zp4 : Holds _ (w.heap.size) 24 #[.int .i64 err, .int .i64 miss, .slice G gs.length d]) hbq)
  have Hcq := Lib.hid (Holds.up (zp4 : Holds _ (w.heap.size + 1) 27 #[.int .i64 full, .int .i64 emp, .slice A hs.length c]) hbq)
  have Hhq := Lib.hid (Holds.up (zp4 : Holds _ (w.heap.size + 1 + 1) 30 #[.int .i64 x.spot, .int .i64 x.g0, .int .i64 x.g1, .int .i64 x.g2, .int .i64 x.g3]) hbq)
  have HSq : Hid (Below w.heap.size w wq) := Lib.hid (Below.trans zg (hbq.mono (by first | exact Nat.le_refl _ | omega | (simp; done) | (simp; omega))))
  have HBq := HSq
  have hsq := HBq.out.size
  have hstq := HSq.out.size
  have HGq := Lib.hid (HG.out.up HSq.out)
  have HAq := Lib.hid (HA.out.up HSq.out)
  clear hbq
  go_wp2_with fail
  refine (awake_any _).mono ?_
  rintro e w40 ⟨rfl, hb40⟩
  go_wp2_with fail
  go_ret
  exact ⟨rfl, HBq.out.trans (hb40.mono hsq)⟩
 | false =>
  have HGT := Lib.hid hgt
  obtain ⟨g7, h9⟩ := great_no hgt
  have g7' : gs.length ≤ 1000 := by omega
  have h9' : hs.length ≤ 1000 := by omega
  clear hgt
  go_enter Try.func3, Try.ntmps3
  go_wp2_with fail
  refine (great_any err miss full emp G A gs.length d hs.length c _ gl al).mono ?_
  rw [HGT.out]
  rintro e wq ⟨rfl, hbq⟩
  have Hgq := Lib.hid (Holds.up (zp4 : Holds _ (w.heap.size) 24 #[.int .i64 err, .int .i64 miss, .slice G gs.length d]) hbq)
  have Hcq := Lib.hid (Holds.up (zp4 : Holds _ (w.heap.size + 1) 27 #[.int .i64 full, .int .i64 emp, .slice A hs.length c]) hbq)
  have Hhq := Lib.hid (Holds.up (zp4 : Holds _ (w.heap.size + 1 + 1) 30 #[.int .i64 x.spot, .int .i64 x.g0, .int .i64 x.g1, .int .i64 x.g2, .int .i64 x.g3]) hbq)
  have HSq : Hid (Below w.heap.size w wq) := Lib.hid (Below.trans zg (hbq.mono (by first | exact Nat.le_refl _ | omega | (simp; done) | (simp; omega))))
  have HBq := HSq
  have hsq := HBq.out.size
  have hstq := HSq.out.size
  have HGq := Lib.hid (HG.out.up HSq.out)
  have HAq := Lib.hid (HA.out.up HSq.out)
  clear hbq
  go_wp2_with fail
  rename_i Kc hKc
  have HSL := Lib.hid (show slotsOf [some 18, some 19, some 20, some 21, some 7, some 8, none, none] = [18, 19, 20, 21, 7, 8] from rfl)
  refine wp_region_partsG (by kernel_rfl) [some 18, some 19, some 20, some 21, some 7, some 8, none, none] (fun jq xq w' => match jq with
   | 0 => xq 18 = .agg #[.int .i64 err, .int .i64 miss, .slice G gs.length d]
   | 1 => ∃ G1 d1, xq 19 = .agg #[.int .i64 err, .int .i64 miss, .slice G1 gs.length d1] ∧ OwnGrades w' wq.heap.size (.slice G1 gs.length d1) gs
   | 2 => xq 20 = .agg #[.int .i64 full, .int .i64 emp, .slice A hs.length c]
   | 3 => ∃ A1 c1, xq 21 = .agg #[.int .i64 full, .int .i64 emp, .slice A1 hs.length c1] ∧ OwnHands w' wq.heap.size (.slice A1 hs.length c1) hs
   | 4 => ∃ b, xq 7 = .pointer (some ⟨b, 0, none⟩) ∧ wq.heap.size ≤ b ∧ Holds w' b 24 #[.int .i64 0, .int .i64 0, .slice none 0 0]
   | 5 => ∃ b, xq 8 = .pointer (some ⟨b, 0, none⟩) ∧ wq.heap.size ≤ b ∧ Holds w' b 27 #[.int .i64 0, .int .i64 0, .slice none 0 0]
   | 6 => ∃ b G1 d1, xq 7 = .pointer (some ⟨b, 0, none⟩) ∧ Holds w' b 24 #[.int .i64 err, .int .i64 miss, .slice G1 gs.length d1] ∧ OwnGrades w' wq.heap.size (.slice G1 gs.length d1) gs
   | 7 => ∃ b A1 c1, xq 8 = .pointer (some ⟨b, 0, none⟩) ∧ Holds w' b 27 #[.int .i64 full, .int .i64 emp, .slice A1 hs.length c1] ∧ OwnHands w' wq.heap.size (.slice A1 hs.length c1) hs
   | _ => True) [[18], [19], [20], [21], [7], [8], [7], [8]] [(6, 4), (7, 5)] (fun w' => Below wq.heap.size wq w') (by kernel_rfl)  ?_ ?_ (fun w' w'' hb h => h.trans (hb.mono h.size)) (Below.refl _ _) ?_ ?_ ?_
  ·intro jq xq xq' wqq h hv
   match jq, h, hv with
   | 0, h, hv => show xq' 18 = .agg #[.int .i64 err, .int .i64 miss, .slice G gs.length d]; rw [← h 18 (by decide)]; exact hv
   | 1, h, hv => show ∃ G1 d1, xq' 19 = .agg #[.int .i64 err, .int .i64 miss, .slice G1 gs.length d1] ∧ OwnGrades wqq wq.heap.size (.slice G1 gs.length d1) gs; rw [← h 19 (by decide)]; exact hv
   | 2, h, hv => show xq' 20 = .agg #[.int .i64 full, .int .i64 emp, .slice A hs.length c]; rw [← h 20 (by decide)]; exact hv
   | 3, h, hv => show ∃ A1 c1, xq' 21 = .agg #[.int .i64 full, .int .i64 emp, .slice A1 hs.length c1] ∧ OwnHands wqq wq.heap.size (.slice A1 hs.length c1) hs; rw [← h 21 (by decide)]; exact hv
   | 4, h, hv => show ∃ b, xq' 7 = .pointer (some ⟨b, 0, none⟩) ∧ wq.heap.size ≤ b ∧ Holds wqq b 24 #[.int .i64 0, .int .i64 0, .slice none 0 0]; rw [← h 7 (by decide)]; exact hv
   | 5, h, hv => show ∃ b, xq' 8 = .pointer (some ⟨b, 0, none⟩) ∧ wq.heap.size ≤ b ∧ Holds wqq b 27 #[.int .i64 0, .int .i64 0, .slice none 0 0]; rw [← h 8 (by decide)]; exact hv
   | 6, h, hv => show ∃ b G1 d1, xq' 7 = .pointer (some ⟨b, 0, none⟩) ∧ Holds wqq b 24 #[.int .i64 err, .int .i64 miss, .slice G1 gs.length d1] ∧ OwnGrades wqq wq.heap.size (.slice G1 gs.length d1) gs; rw [← h 7 (by decide)]; exact hv
   | 7, h, hv => show ∃ b A1 c1, xq' 8 = .pointer (some ⟨b, 0, none⟩) ∧ Holds wqq b 27 #[.int .i64 full, .int .i64 emp, .slice A1 hs.length c1] ∧ OwnHands wqq wq.heap.size (.slice A1 hs.length c1) hs; rw [← h 8 (by decide)]; exact hv
   | _ + 8, _, _ => trivial
  ·intro jq xq wqq w' hb' hv
   match jq, hv with
   | 0, hv => exact hv
   | 1, ⟨b0, b1, h0, h1⟩ => exact ⟨b0, b1, h0, h1.up hb'⟩
   | 2, hv => exact hv
   | 3, ⟨b0, b1, h0, h1⟩ => exact ⟨b0, b1, h0, h1.up hb'⟩
   | 4, ⟨b0, h0, h1, h2⟩ => exact ⟨b0, h0, h1, h2.up hb'⟩
   | 5, ⟨b0, h0, h1, h2⟩ => exact ⟨b0, h0, h1, h2.up hb'⟩
   | 6, ⟨b0, b1, b2, h0, h1, h2⟩ => exact ⟨b0, b1, b2, h0, h1.up hb', h2.up hb'⟩
   | 7, ⟨b0, b1, b2, h0, h1, h2⟩ => exact ⟨b0, b1, b2, h0, h1.up hb', h2.up hb'⟩
   | _ + 8, _ => trivial
  ·intro jq hj
   match jq, hj with
   | 0, hj => exact absurd hj (by decide)
   | 1, hj => exact absurd hj (by decide)
   | 2, hj => exact absurd hj (by decide)
   | 3, hj => exact absurd hj (by decide)
   | 4, hj => exact absurd hj (by decide)
   | 5, hj => exact absurd hj (by decide)
   | 6, hj => exact absurd hj (by decide)
   | 7, hj => exact absurd hj (by decide)
   | _ + 8, _ => trivial
  ·refine ⟨?_, ?_, ?_, ?_, ?_, ?_, ?_, ?_, trivial⟩
   ·intro xq wa hba hx K hK0
    have hK := fun v w' hb => hK0 v w' (.inl hb)
    clear hx hKc hK0
    have kg0' : wa.cell? ⟨w.heap.size, 0, none⟩ = some (.int .i64 err) := (Hgq.out.up hba).cell 0
    have kg1' : wa.cell? ⟨w.heap.size, 1, none⟩ = some (.int .i64 miss) := (Hgq.out.up hba).cell 1
    have kg2' : wa.cell? ⟨w.heap.size, 2, none⟩ = some (.slice G gs.length d) := (Hgq.out.up hba).cell 2
    simp only [frameOf, fill, setSlot, sg, Nat.reduceBEq, if_true, if_false, Nat.reduceAdd, Nat.reduceEqDiff, HSL.out] at hK ⊢
    go_wp2_with (fail)
    exact hK _ _ (Below.refl _ _) rfl
   ·intro xq wa hba hx K hK0
    have hK := fun v w' hb => hK0 v w' (.inl hb)
    have e18 : xq 18 = .agg #[.int .i64 err, .int .i64 miss, .slice G gs.length d] := hx 0 (by rfl) (by rfl)
    clear hx hKc hK0
    simp only [frameOf, fill, setSlot, sg, Nat.reduceBEq, if_true, if_false, Nat.reduceAdd, Nat.reduceEqDiff, HSL.out] at hK ⊢
    simp only [e18] at hK ⊢
    clear e18
    go_wp2_with (go_at_call 17; refine (Own_any err miss G d gs _ (HGq.out.up hba) g7' HGN.out).mono ?_; rintro e w2_ ⟨G1, d1, rfl, hown, _, hb_⟩)
    exact hK _ _ hb_ ⟨_, _, rfl, row5_mono hown hba.size⟩
   ·intro xq wa hba hx K hK0
    have hK := fun v w' hb => hK0 v w' (.inl hb)
    clear hx hKc hK0
    have kc0' : wa.cell? ⟨w.heap.size + 1, 0, none⟩ = some (.int .i64 full) := (Hcq.out.up hba).cell 0
    have kc1' : wa.cell? ⟨w.heap.size + 1, 1, none⟩ = some (.int .i64 emp) := (Hcq.out.up hba).cell 1
    have kc2' : wa.cell? ⟨w.heap.size + 1, 2, none⟩ = some (.slice A hs.length c) := (Hcq.out.up hba).cell 2
    simp only [frameOf, fill, setSlot, sg, Nat.reduceBEq, if_true, if_false, Nat.reduceAdd, Nat.reduceEqDiff, HSL.out] at hK ⊢
    go_wp2_with (fail)
    exact hK _ _ (Below.refl _ _) rfl
   ·intro xq wa hba hx K hK0
    have hK := fun v w' hb => hK0 v w' (.inl hb)
    have e20 : xq 20 = .agg #[.int .i64 full, .int .i64 emp, .slice A hs.length c] := hx 2 (by rfl) (by rfl)
    clear hx hKc hK0
    simp only [frameOf, fill, setSlot, sg, Nat.reduceBEq, if_true, if_false, Nat.reduceAdd, Nat.reduceEqDiff, HSL.out] at hK ⊢
    simp only [e20] at hK ⊢
    clear e20
    go_wp2_with (go_at_call 18; refine (Owned_any full emp A c hs _ (HAq.out.up hba) h9' HAN.out).mono ?_; rintro e w2_ ⟨A1, c1, rfl, hown, _, hb_⟩)
    exact hK _ _ hb_ ⟨_, _, rfl, row5_mono hown hba.size⟩
   ·intro xq wa hba hx K hK0
    have hK := fun v w' hb => hK0 v w' (.inl hb)
    clear hx hKc hK0
    simp only [frameOf, fill, setSlot, sg, Nat.reduceBEq, if_true, if_false, Nat.reduceAdd, Nat.reduceEqDiff, HSL.out] at hK ⊢
    go_wp2_with (fail)
    exact hK _ _ ((Below.refl _ _).alloc (Nat.le_refl _) _) ⟨_, rfl, hba.size, Holds.new _ _ _⟩
   ·intro xq wa hba hx K hK0
    have hK := fun v w' hb => hK0 v w' (.inl hb)
    clear hx hKc hK0
    simp only [frameOf, fill, setSlot, sg, Nat.reduceBEq, if_true, if_false, Nat.reduceAdd, Nat.reduceEqDiff, HSL.out] at hK ⊢
    go_wp2_with (fail)
    exact hK _ _ ((Below.refl _ _).alloc (Nat.le_refl _) _) ⟨_, rfl, hba.size, Holds.new _ _ _⟩
   ·intro xq wa hba hx K hK0
    have hK := fun v w' hb => hK0 v w' (.inr hb)
    obtain ⟨G119, d119, e19, f19_0⟩ := hx 1 (by rfl) (by rfl)
    obtain ⟨b7, e7, f7_0, f7_1⟩ := hx 4 (by rfl) (by rfl)
    clear hx hKc hK0
    obtain ⟨kb0, kb1, kb2⟩ := f7_1.c3
    obtain ⟨zb0, zb1, zb2⟩ := f7_1.f3
    simp only [frameOf, fill, setSlot, sg, Nat.reduceBEq, if_true, if_false, Nat.reduceAdd, Nat.reduceEqDiff, HSL.out] at hK ⊢
    have E19 := Lib.hid e19
    have E7 := Lib.hid e7
    simp only [e19, e7] at hK ⊢
    clear e19 e7
    go_wp2_with (fail)
    refine hK undef _ ⟨(by have h := hba; exact zg), ?_⟩ ⟨_, _, _, rfl, Holds.set3 _ _ _ f7_1, row5_set3 f19_0 f7_1 (by decide)⟩
    intro jq xq hd hne hv
    match jq, hd, hne, hv with
    | 0, _, _, hv => exact hv
    | 1, _, _, hv => obtain ⟨a1_, d1_, e1, h1⟩ := hv; exact ⟨a1_, d1_, e1, row5_set3 h1 f7_1 (by decide)⟩
    | 2, _, _, hv => exact hv
    | 3, _, _, hv => obtain ⟨a1_, d1_, e1, h1⟩ := hv; exact ⟨a1_, d1_, e1, row5_set3 h1 f7_1 (by decide)⟩
    | 4, hd, _, _ => exact absurd hd (by decide)
    | 5, _, _, hv => obtain ⟨b_, e1, h0, h1⟩ := hv; exact ⟨b_, e1, h0, h1.set3_ne f7_1 (by decide)⟩
    | 6, _, hne, _ => exact absurd rfl hne
    | 7, _, _, hv => obtain ⟨b_, a1_, d1_, e1, h0, h1⟩ := hv; exact ⟨b_, a1_, d1_, e1, h0.set3_ne f7_1 (by decide), row5_set3 h1 f7_1 (by decide)⟩
    | _ + 8, _, _, _ => trivial
   ·intro xq wa hba hx K hK0
    have hK := fun v w' hb => hK0 v w' (.inr hb)
    obtain ⟨A121, c121, e21, f21_0⟩ := hx 3 (by rfl) (by rfl)
    obtain ⟨b8, e8, f8_0, f8_1⟩ := hx 5 (by rfl) (by rfl)
    clear hx hKc hK0
    obtain ⟨kb0, kb1, kb2⟩ := f8_1.c3
    obtain ⟨zb0, zb1, zb2⟩ := f8_1.f3
    simp only [frameOf, fill, setSlot, sg, Nat.reduceBEq, if_true, if_false, Nat.reduceAdd, Nat.reduceEqDiff, HSL.out] at hK ⊢
    have E21 := Lib.hid e21
    have E8 := Lib.hid e8
    simp only [e21, e8] at hK ⊢
    clear e21 e8
    go_wp2_with (fail)
    refine hK undef _ ⟨(by have h := hba; exact zg), ?_⟩ ⟨_, _, _, rfl, Holds.set3 _ _ _ f8_1, row5_set3 f21_0 f8_1 (by decide)⟩
    intro jq xq hd hne hv
    match jq, hd, hne, hv with
    | 0, _, _, hv => exact hv
    | 1, _, _, hv => obtain ⟨a1_, d1_, e1, h1⟩ := hv; exact ⟨a1_, d1_, e1, row5_set3 h1 f8_1 (by decide)⟩
    | 2, _, _, hv => exact hv
    | 3, _, _, hv => obtain ⟨a1_, d1_, e1, h1⟩ := hv; exact ⟨a1_, d1_, e1, row5_set3 h1 f8_1 (by decide)⟩
    | 4, _, _, hv => obtain ⟨b_, e1, h0, h1⟩ := hv; exact ⟨b_, e1, h0, h1.set3_ne f8_1 (by decide)⟩
    | 5, hd, _, _ => exact absurd hd (by decide)
    | 6, _, _, hv => obtain ⟨b_, a1_, d1_, e1, h0, h1⟩ := hv; exact ⟨b_, a1_, d1_, e1, h0.set3_ne f8_1 (by decide), row5_set3 h1 f8_1 (by decide)⟩
    | 7, _, hne, _ => exact absurd rfl hne
    | _ + 8, _, _, _ => trivial
  ·intro xq wa hba hx
   have e18 : xq 18 = .agg #[.int .i64 err, .int .i64 miss, .slice G gs.length d] := hx 0 (by decide)
   obtain ⟨G119, d119, e19, f19_0⟩ := hx 1 (by decide)
   have e20 : xq 20 = .agg #[.int .i64 full, .int .i64 emp, .slice A hs.length c] := hx 2 (by decide)
   obtain ⟨A121, c121, e21, f21_0⟩ := hx 3 (by decide)
   obtain ⟨bn6, G1n6, d1n6, fn6_0, fn6_1, fn6_2⟩ := hx 6 (by decide)
   obtain ⟨bn7, A1n7, c1n7, fn7_0, fn7_1, fn7_2⟩ := hx 7 (by decide)
   clear hx
   simp only [frameOf, fill, setSlot, sg, Nat.reduceBEq, if_true, if_false, Nat.reduceAdd, Nat.reduceEqDiff, HSL.out]
   simp only [e18, e19, e20, e21, fn6_0, fn7_0]
   clear e18 e19 e20 e21 fn6_0 fn7_0
   refine hKc _ _ ?_
   have HSa := Lib.hid hba
   have HBa := Lib.hid (HBq.out.trans (hba.mono hsq))
   have hsa := HBa.out.size
   have hsta := hba.size
   have Hgoa := Lib.hid fn6_1
   have Hcoa := Lib.hid fn7_1
   obtain ⟨_, _, e1, _, hh1⟩ := OwnGrades.at_ fn6_2
   cases e1
   obtain ⟨_, _, e1, _, hh2⟩ := OwnHands.at_ fn7_2
   cases e1
   have HPa := Lib.hid hh1
   have HMa := Lib.hid hh2
   clear fn6_1 fn7_1 fn6_2 fn7_2 hh1 hh2
   have Hga := Lib.hid (Hgq.out.up hba)
   have Hca := Lib.hid (Hcq.out.up hba)
   have Hha := Lib.hid (Hhq.out.up hba)
   have HGa := Lib.hid (HGq.out.up hba)
   have HAa := Lib.hid (HAq.out.up hba)
   clear hba
   obtain ⟨E, hE⟩ : ∃ z, z = takeErr full emp hs x := ⟨_, rfl⟩
   have HE := Lib.hid hE
   by_cases hE0 : E = 0
   ·subst hE0
    have he0 : takeErr full emp hs x = 0 := hE.symm
    have HE0 := Lib.hid he0
    obtain ⟨ls, hls⟩ : ∃ z, z = hs ++ [x] := ⟨_, rfl⟩
    have HLS := Lib.hid hls
    have hll : ls.length ≤ 1000 := by rw [hls, List.length_append]; show hs.length + 1 ≤ 1000; omega
    clear hls he0 hE
    go_wp2_with fail
    rename_i Kc hKc
    have HSL := Lib.hid (show slotsOf [some 23, some 24, some 25, some 26, some 22, some 27, some 28, some 9, none, some 10] = [23, 24, 25, 26, 22, 27, 28, 9, 10] from rfl)
    refine wp_region_partsG (by kernel_rfl) [some 23, some 24, some 25, some 26, some 22, some 27, some 28, some 9, none, some 10] (fun jq xq w' => match jq with
     | 0 => xq 23 = .agg #[.int .i64 full, .int .i64 emp, .slice A hs.length c]
     | 1 => ∃ A4 c4, xq 24 = .agg #[.int .i64 full, .int .i64 emp, .slice A4 hs.length c4] ∧ Rowed w' wa.heap.size 42 (.slice A4 hs.length c4) hs.length (hs.flatMap Hf.cells)
     | 2 => xq 25 = .agg #[.int .i64 x.spot, .int .i64 x.g0, .int .i64 x.g1, .int .i64 x.g2, .int .i64 x.g3]
     | 3 => ∃ A6 c6, xq 26 = .tuple #[.agg #[.int .i64 full, .int .i64 emp, .slice A6 ls.length c6], .int .i64 0] ∧ Rowed w' wa.heap.size 42 (.slice A6 ls.length c6) ls.length (ls.flatMap Hf.cells)
     | 4 => ∃ A6 c6, xq 22 = .tuple #[.agg #[.int .i64 full, .int .i64 emp, .slice A6 ls.length c6], .int .i64 0] ∧ Rowed w' wa.heap.size 42 (.slice A6 ls.length c6) ls.length (ls.flatMap Hf.cells)
     | 5 => ∃ A6 c6, xq 27 = .agg #[.int .i64 full, .int .i64 emp, .slice A6 ls.length c6] ∧ Rowed w' wa.heap.size 42 (.slice A6 ls.length c6) ls.length (ls.flatMap Hf.cells)
     | 6 => xq 28 = .int .i64 0
     | 7 => ∃ b, xq 9 = .pointer (some ⟨b, 0, none⟩) ∧ wa.heap.size ≤ b ∧ Holds w' b 37 #[.int .i64 0, .int .i64 0, .slice none 0 0]
     | 8 => ∃ b A6 c6, xq 9 = .pointer (some ⟨b, 0, none⟩) ∧ Holds w' b 37 #[.int .i64 full, .int .i64 emp, .slice A6 ls.length c6] ∧ Rowed w' wa.heap.size 42 (.slice A6 ls.length c6) ls.length (ls.flatMap Hf.cells)
     | 9 => xq 10 = .int .i64 0
     | _ => True) [[23], [24], [25], [26], [22], [27], [28], [9], [9], [10]] [(8, 7)] (fun w' => Below wa.heap.size wa w') (by kernel_rfl)  ?_ ?_ (fun w' w'' hb h => h.trans (hb.mono h.size)) (Below.refl _ _) ?_ ?_ ?_
    ·intro jq xq xq' wqq h hv
     match jq, h, hv with
     | 0, h, hv => show xq' 23 = .agg #[.int .i64 full, .int .i64 emp, .slice A hs.length c]; rw [← h 23 (by decide)]; exact hv
     | 1, h, hv => show ∃ A4 c4, xq' 24 = .agg #[.int .i64 full, .int .i64 emp, .slice A4 hs.length c4] ∧ Rowed wqq wa.heap.size 42 (.slice A4 hs.length c4) hs.length (hs.flatMap Hf.cells); rw [← h 24 (by decide)]; exact hv
     | 2, h, hv => show xq' 25 = .agg #[.int .i64 x.spot, .int .i64 x.g0, .int .i64 x.g1, .int .i64 x.g2, .int .i64 x.g3]; rw [← h 25 (by decide)]; exact hv
     | 3, h, hv => show ∃ A6 c6, xq' 26 = .tuple #[.agg #[.int .i64 full, .int .i64 emp, .slice A6 ls.length c6], .int .i64 0] ∧ Rowed wqq wa.heap.size 42 (.slice A6 ls.length c6) ls.length (ls.flatMap Hf.cells); rw [← h 26 (by decide)]; exact hv
     | 4, h, hv => show ∃ A6 c6, xq' 22 = .tuple #[.agg #[.int .i64 full, .int .i64 emp, .slice A6 ls.length c6], .int .i64 0] ∧ Rowed wqq wa.heap.size 42 (.slice A6 ls.length c6) ls.length (ls.flatMap Hf.cells); rw [← h 22 (by decide)]; exact hv
     | 5, h, hv => show ∃ A6 c6, xq' 27 = .agg #[.int .i64 full, .int .i64 emp, .slice A6 ls.length c6] ∧ Rowed wqq wa.heap.size 42 (.slice A6 ls.length c6) ls.length (ls.flatMap Hf.cells); rw [← h 27 (by decide)]; exact hv
     | 6, h, hv => show xq' 28 = .int .i64 0; rw [← h 28 (by decide)]; exact hv
     | 7, h, hv => show ∃ b, xq' 9 = .pointer (some ⟨b, 0, none⟩) ∧ wa.heap.size ≤ b ∧ Holds wqq b 37 #[.int .i64 0, .int .i64 0, .slice none 0 0]; rw [← h 9 (by decide)]; exact hv
     | 8, h, hv => show ∃ b A6 c6, xq' 9 = .pointer (some ⟨b, 0, none⟩) ∧ Holds wqq b 37 #[.int .i64 full, .int .i64 emp, .slice A6 ls.length c6] ∧ Rowed wqq wa.heap.size 42 (.slice A6 ls.length c6) ls.length (ls.flatMap Hf.cells); rw [← h 9 (by decide)]; exact hv
     | 9, h, hv => show xq' 10 = .int .i64 0; rw [← h 10 (by decide)]; exact hv
     | _ + 10, _, _ => trivial
    ·intro jq xq wqq w' hb' hv
     match jq, hv with
     | 0, hv => exact hv
     | 1, ⟨b0, b1, h0, h1⟩ => exact ⟨b0, b1, h0, h1.up hb'⟩
     | 2, hv => exact hv
     | 3, ⟨b0, b1, h0, h1⟩ => exact ⟨b0, b1, h0, h1.up hb'⟩
     | 4, ⟨b0, b1, h0, h1⟩ => exact ⟨b0, b1, h0, h1.up hb'⟩
     | 5, ⟨b0, b1, h0, h1⟩ => exact ⟨b0, b1, h0, h1.up hb'⟩
     | 6, hv => exact hv
     | 7, ⟨b0, h0, h1, h2⟩ => exact ⟨b0, h0, h1, h2.up hb'⟩
     | 8, ⟨b0, b1, b2, h0, h1, h2⟩ => exact ⟨b0, b1, b2, h0, h1.up hb', h2.up hb'⟩
     | 9, hv => exact hv
     | _ + 10, _ => trivial
    ·intro jq hj
     match jq, hj with
     | 0, hj => exact absurd hj (by decide)
     | 1, hj => exact absurd hj (by decide)
     | 2, hj => exact absurd hj (by decide)
     | 3, hj => exact absurd hj (by decide)
     | 4, hj => exact absurd hj (by decide)
     | 5, hj => exact absurd hj (by decide)
     | 6, hj => exact absurd hj (by decide)
     | 7, hj => exact absurd hj (by decide)
     | 8, hj => exact absurd hj (by decide)
     | 9, hj => exact absurd hj (by decide)
     | _ + 10, _ => trivial
    ·refine ⟨?_, ?_, ?_, ?_, ?_, ?_, ?_, ?_, ?_, ?_, trivial⟩
     ·intro xq wb hbb hx K hK0
      have hK := fun v w' hb => hK0 v w' (.inl hb)
      clear hx hKc hK0
      have kc0' : wb.cell? ⟨w.heap.size + 1, 0, none⟩ = some (.int .i64 full) := (Hca.out.up hbb).cell 0
      have kc1' : wb.cell? ⟨w.heap.size + 1, 1, none⟩ = some (.int .i64 emp) := (Hca.out.up hbb).cell 1
      have kc2' : wb.cell? ⟨w.heap.size + 1, 2, none⟩ = some (.slice A hs.length c) := (Hca.out.up hbb).cell 2
      simp only [frameOf, fill, setSlot, sg, Nat.reduceBEq, if_true, if_false, Nat.reduceAdd, Nat.reduceEqDiff, HSL.out] at hK ⊢
      go_wp2_with (fail)
      exact hK _ _ (Below.refl _ _) rfl
     ·intro xq wb hbb hx K hK0
      have hK := fun v w' hb => hK0 v w' (.inl hb)
      have e23 : xq 23 = .agg #[.int .i64 full, .int .i64 emp, .slice A hs.length c] := hx 0 (by rfl) (by rfl)
      clear hx hKc hK0
      simp only [frameOf, fill, setSlot, sg, Nat.reduceBEq, if_true, if_false, Nat.reduceAdd, Nat.reduceEqDiff, HSL.out] at hK ⊢
      simp only [e23] at hK ⊢
      clear e23
      go_wp2_with (go_at_call 20; refine (come_any full emp A c hs _ (HAa.out.up hbb) h9').mono ?_; rintro e w2_ ⟨A4, c4, rfl, hown, hb_⟩)
      exact hK _ _ hb_ ⟨_, _, rfl, row5_mono hown hbb.size⟩
     ·intro xq wb hbb hx K hK0
      have hK := fun v w' hb => hK0 v w' (.inl hb)
      clear hx hKc hK0
      have kh0' : wb.cell? ⟨w.heap.size + 1 + 1, 0, none⟩ = some (.int .i64 x.spot) := (Hha.out.up hbb).cell 0
      have kh1' : wb.cell? ⟨w.heap.size + 1 + 1, 1, none⟩ = some (.int .i64 x.g0) := (Hha.out.up hbb).cell 1
      have kh2' : wb.cell? ⟨w.heap.size + 1 + 1, 2, none⟩ = some (.int .i64 x.g1) := (Hha.out.up hbb).cell 2
      have kh3' : wb.cell? ⟨w.heap.size + 1 + 1, 3, none⟩ = some (.int .i64 x.g2) := (Hha.out.up hbb).cell 3
      have kh4' : wb.cell? ⟨w.heap.size + 1 + 1, 4, none⟩ = some (.int .i64 x.g3) := (Hha.out.up hbb).cell 4
      simp only [frameOf, fill, setSlot, sg, Nat.reduceBEq, if_true, if_false, Nat.reduceAdd, Nat.reduceEqDiff, HSL.out] at hK ⊢
      go_wp2_with (fail)
      exact hK _ _ (Below.refl _ _) rfl
     ·intro xq wb hbb hx K hK0
      have hK := fun v w' hb => hK0 v w' (.inl hb)
      obtain ⟨A424, c424, e24, f24_0⟩ := hx 1 (by rfl) (by rfl)
      have e25 : xq 25 = .agg #[.int .i64 x.spot, .int .i64 x.g0, .int .i64 x.g1, .int .i64 x.g2, .int .i64 x.g3] := hx 2 (by rfl) (by rfl)
      clear hx hKc hK0
      simp only [frameOf, fill, setSlot, sg, Nat.reduceBEq, if_true, if_false, Nat.reduceAdd, Nat.reduceEqDiff, HSL.out] at hK ⊢
      simp only [e24, e25] at hK ⊢
      clear e24 e25
      go_wp2_with (go_at_call 19; refine (refTake_good full emp A424 c424 hs ls x _ HLS.out (rowed_at f24_0) (nil_row f24_0) HE0.out).mono ?_; rintro e w2_ ⟨A6, c6, rfl, hrow, hb_⟩)
      exact hK _ _ hb_ ⟨_, _, rfl, row5_mono hrow hbb.size⟩
     ·intro xq wb hbb hx K hK0
      have hK := fun v w' hb => hK0 v w' (.inl hb)
      obtain ⟨A626, c626, e26, f26_0⟩ := hx 3 (by rfl) (by rfl)
      clear hx hKc hK0
      simp only [frameOf, fill, setSlot, sg, Nat.reduceBEq, if_true, if_false, Nat.reduceAdd, Nat.reduceEqDiff, HSL.out] at hK ⊢
      simp only [e26] at hK ⊢
      clear e26
      go_wp2_with (fail)
      exact hK _ _ (Below.refl _ _) ⟨_, _, rfl, f26_0⟩
     ·intro xq wb hbb hx K hK0
      have hK := fun v w' hb => hK0 v w' (.inl hb)
      obtain ⟨A622, c622, e22, f22_0⟩ := hx 4 (by rfl) (by rfl)
      clear hx hKc hK0
      simp only [frameOf, fill, setSlot, sg, Nat.reduceBEq, if_true, if_false, Nat.reduceAdd, Nat.reduceEqDiff, HSL.out] at hK ⊢
      simp only [e22] at hK ⊢
      clear e22
      go_wp2_with (fail)
      exact hK _ _ (Below.refl _ _) ⟨_, _, rfl, f22_0⟩
     ·intro xq wb hbb hx K hK0
      have hK := fun v w' hb => hK0 v w' (.inl hb)
      obtain ⟨A622, c622, e22, f22_0⟩ := hx 4 (by rfl) (by rfl)
      clear hx hKc hK0
      simp only [frameOf, fill, setSlot, sg, Nat.reduceBEq, if_true, if_false, Nat.reduceAdd, Nat.reduceEqDiff, HSL.out] at hK ⊢
      simp only [e22] at hK ⊢
      clear e22
      go_wp2_with (fail)
      exact hK _ _ (Below.refl _ _) rfl
     ·intro xq wb hbb hx K hK0
      have hK := fun v w' hb => hK0 v w' (.inl hb)
      clear hx hKc hK0
      simp only [frameOf, fill, setSlot, sg, Nat.reduceBEq, if_true, if_false, Nat.reduceAdd, Nat.reduceEqDiff, HSL.out] at hK ⊢
      go_wp2_with (fail)
      exact hK _ _ ((Below.refl _ _).alloc (Nat.le_refl _) _) ⟨_, rfl, hbb.size, Holds.new _ _ _⟩
     ·intro xq wb hbb hx K hK0
      have hK := fun v w' hb => hK0 v w' (.inr hb)
      obtain ⟨A627, c627, e27, f27_0⟩ := hx 5 (by rfl) (by rfl)
      obtain ⟨b9, e9, f9_0, f9_1⟩ := hx 7 (by rfl) (by rfl)
      clear hx hKc hK0
      obtain ⟨kb0, kb1, kb2⟩ := f9_1.c3
      obtain ⟨zb0, zb1, zb2⟩ := f9_1.f3
      simp only [frameOf, fill, setSlot, sg, Nat.reduceBEq, if_true, if_false, Nat.reduceAdd, Nat.reduceEqDiff, HSL.out] at hK ⊢
      have E27 := Lib.hid e27
      have E9 := Lib.hid e9
      simp only [e27, e9] at hK ⊢
      clear e27 e9
      go_wp2_with (fail)
      refine hK undef _ ⟨(by have h := hbb; exact zg), ?_⟩ ⟨_, _, _, rfl, Holds.set3 _ _ _ f9_1, row5_set3 f27_0 f9_1 (by decide)⟩
      intro jq xq hd hne hv
      match jq, hd, hne, hv with
      | 0, _, _, hv => exact hv
      | 1, _, _, hv => obtain ⟨a1_, d1_, e1, h1⟩ := hv; exact ⟨a1_, d1_, e1, row5_set3 h1 f9_1 (by decide)⟩
      | 2, _, _, hv => exact hv
      | 3, _, _, hv => obtain ⟨a1_, d1_, e1, h1⟩ := hv; exact ⟨a1_, d1_, e1, row5_set3 h1 f9_1 (by decide)⟩
      | 4, _, _, hv => obtain ⟨a1_, d1_, e1, h1⟩ := hv; exact ⟨a1_, d1_, e1, row5_set3 h1 f9_1 (by decide)⟩
      | 5, _, _, hv => obtain ⟨a1_, d1_, e1, h1⟩ := hv; exact ⟨a1_, d1_, e1, row5_set3 h1 f9_1 (by decide)⟩
      | 6, _, _, hv => exact hv
      | 7, hd, _, _ => exact absurd hd (by decide)
      | 8, _, hne, _ => exact absurd rfl hne
      | 9, _, _, hv => exact hv
      | _ + 10, _, _, _ => trivial
     ·intro xq wb hbb hx K hK0
      have hK := fun v w' hb => hK0 v w' (.inl hb)
      have e28 : xq 28 = .int .i64 0 := hx 6 (by rfl) (by rfl)
      clear hx hKc hK0
      simp only [frameOf, fill, setSlot, sg, Nat.reduceBEq, if_true, if_false, Nat.reduceAdd, Nat.reduceEqDiff, HSL.out] at hK ⊢
      simp only [e28] at hK ⊢
      clear e28
      go_wp2_with (fail)
      exact hK _ _ (Below.refl _ _) rfl
    ·intro xq wb hbb hx
     have e23 : xq 23 = .agg #[.int .i64 full, .int .i64 emp, .slice A hs.length c] := hx 0 (by decide)
     obtain ⟨A424, c424, e24, f24_0⟩ := hx 1 (by decide)
     have e25 : xq 25 = .agg #[.int .i64 x.spot, .int .i64 x.g0, .int .i64 x.g1, .int .i64 x.g2, .int .i64 x.g3] := hx 2 (by decide)
     obtain ⟨A626, c626, e26, f26_0⟩ := hx 3 (by decide)
     obtain ⟨A622, c622, e22, f22_0⟩ := hx 4 (by decide)
     obtain ⟨A627, c627, e27, f27_0⟩ := hx 5 (by decide)
     have e28 : xq 28 = .int .i64 0 := hx 6 (by decide)
     obtain ⟨bn8, A6n8, c6n8, fn8_0, fn8_1, fn8_2⟩ := hx 8 (by decide)
     have e10 : xq 10 = .int .i64 0 := hx 9 (by decide)
     clear hx
     simp only [frameOf, fill, setSlot, sg, Nat.reduceBEq, if_true, if_false, Nat.reduceAdd, Nat.reduceEqDiff, HSL.out]
     simp only [e23, e24, e25, e26, e22, e27, e28, fn8_0, e10]
     clear e23 e24 e25 e26 e22 e27 e28 fn8_0 e10
     refine hKc _ _ ?_
     have HSb := Lib.hid hbb
     have HBb := Lib.hid (HBa.out.trans (hbb.mono hsa))
     have hsb := HBb.out.size
     have hstb := hbb.size
     have Hrmb := Lib.hid fn8_1
     have HQb := Lib.hid (rowed_at fn8_2)
     have Hgb := Lib.hid (Hga.out.up HSb.out)
     have Hcb := Lib.hid (Hca.out.up HSb.out)
     have Hhb := Lib.hid (Hha.out.up HSb.out)
     have Hgob := Lib.hid (Hgoa.out.up HSb.out)
     have Hcob := Lib.hid (Hcoa.out.up HSb.out)
     have HGb := Lib.hid (HGa.out.up HSb.out)
     have HAb := Lib.hid (HAa.out.up HSb.out)
     have HPb := Lib.hid (HPa.out.up HSb.out)
     have HMb := Lib.hid (HMa.out.up HSb.out)
     clear hbb fn8_1 fn8_2
     obtain ⟨kco0, kco1, kco2⟩ := Hcob.out.c3
     have lt_co : bn7 < wb.heap.size := Hcob.out.lt
     obtain ⟨kh0, kh1, kh2, kh3, kh4⟩ := Hhb.out.c5
     have lt_h : w.heap.size + 1 + 1 < wb.heap.size := Hhb.out.lt
     go_wp2_with fail
     refine (Take_good full emp A1n7 c1n7 hs ls x _ HLS.out (HMb.out.up zg) HE0.out).mono ?_
     rintro e wc ⟨B5, rfl, hB5, hle5, hbc⟩
     have Hgc := Lib.hid (Holds.up (by have h := Hgb.out; exact zp4 : Holds _ (w.heap.size) 24 #[.int .i64 err, .int .i64 miss, .slice G gs.length d]) hbc)
     have Hcc := Lib.hid (Holds.up (by have h := Hcb.out; exact zp4 : Holds _ (w.heap.size + 1) 27 #[.int .i64 full, .int .i64 emp, .slice A hs.length c]) hbc)
     have Hhc := Lib.hid (Holds.up (by have h := Hhb.out; exact zp4 : Holds _ (w.heap.size + 1 + 1) 30 #[.int .i64 x.spot, .int .i64 x.g0, .int .i64 x.g1, .int .i64 x.g2, .int .i64 x.g3]) hbc)
     have Hgoc := Lib.hid (Holds.up (by have h := Hgob.out; exact zp4 : Holds _ (bn6) 24 #[.int .i64 err, .int .i64 miss, .slice G1n6 gs.length d1n6]) hbc)
     have Hcoc := Lib.hid (Holds.up (by have h := Hcob.out; exact zp4 : Holds _ (bn7) 27 #[.int .i64 full, .int .i64 emp, .slice A1n7 hs.length c1n7]) hbc)
     have Hrmc := Lib.hid (Holds.up (by have h := Hrmb.out; exact zp4 : Holds _ (bn8) 37 #[.int .i64 full, .int .i64 emp, .slice A6n8 ls.length c6n8]) hbc)
     have HSc : Hid (Below wb.heap.size wb wc) := Lib.hid (Below.trans zg (hbc.mono (by first | exact Nat.le_refl _ | omega | (simp; done) | (simp; omega))))
     have HBc : Hid (Below w.heap.size w wc) := Lib.hid (HBb.out.trans (HSc.out.mono hsb))
     have hsc := HBc.out.size
     have hstc := HSc.out.size
     have HGc := Lib.hid (HGb.out.up HSc.out)
     have HAc := Lib.hid (HAb.out.up HSc.out)
     have HPc := Lib.hid (HPb.out.up HSc.out)
     have HMc := Lib.hid (HMb.out.up HSc.out)
     have HQc := Lib.hid (HQb.out.up HSc.out)
     clear hbc
     have HB5c := Lib.hid hB5
     clear hB5
     clear kco0 kco1 kco2 lt_co kh0 kh1 kh2 kh3 kh4 lt_h
     have HLc := Lib.hid (hands_of HB5c.out)
     obtain ⟨eg, heg⟩ : ∃ z, z = gateErr err miss gs := ⟨_, rfl⟩
     have HEG := Lib.hid heg
     obtain ⟨ec, hec⟩ : ∃ z, z = cartErr full emp hs := ⟨_, rfl⟩
     have HEC := Lib.hid hec
     clear heg hec
     go_wp2_with fail
     rename_i Kc hKc
     have HRL := Lib.hid (show List.range' 35 19 = [35, 36, 37, 38, 39, 40, 41, 42, 43, 44, 45, 46, 47, 48, 49, 50, 51, 52, 53] from rfl)
     refine wp_region_partsR 35 19 (by kernel_rfl) [some 35, some 36, some 37, some 38, some 39, some 40, some 41, some 42, some 43, some 44, some 45, some 46, some 47, some 48, some 49, some 50, some 51, some 52, some 53] (fun jq xq w' => match jq with
      | 0 => xq 35 = .agg #[.int .i64 err, .int .i64 miss, .slice G1n6 gs.length d1n6]
      | 1 => xq 36 = .int .i64 eg
      | 2 => xq 37 = .agg #[.int .i64 err, .int .i64 miss, .slice G gs.length d]
      | 3 => ∃ A8 c8, xq 38 = .agg #[.int .i64 err, .int .i64 miss, .slice A8 gs.length c8] ∧ Rowed w' wc.heap.size 139 (.slice A8 gs.length c8) gs.length (gs.flatMap Gr.cells)
      | 4 => xq 39 = .int .i64 eg
      | 5 => xq 40 = .bool false
      | 6 => xq 41 = .bool false
      | 7 => xq 42 = .agg #[.int .i64 full, .int .i64 emp, .slice A1n7 hs.length c1n7]
      | 8 => xq 43 = .int .i64 ec
      | 9 => xq 44 = .agg #[.int .i64 full, .int .i64 emp, .slice A hs.length c]
      | 10 => ∃ A9 c9, xq 45 = .agg #[.int .i64 full, .int .i64 emp, .slice A9 hs.length c9] ∧ Rowed w' wc.heap.size 42 (.slice A9 hs.length c9) hs.length (hs.flatMap Hf.cells)
      | 11 => xq 46 = .int .i64 ec
      | 12 => xq 47 = .bool false
      | 13 => xq 48 = .bool false
      | 14 => xq 49 = .bool false
      | 15 => xq 50 = .int .i64 0
      | 16 => xq 51 = .int .i64 0
      | 17 => xq 52 = .bool false
      | 18 => xq 53 = .bool false
      | 19 => Holds w' wc.heap.size 27 #[.int .i64 full, .int .i64 emp, .slice (some ⟨B5, 0, none⟩) ls.length ls.length]
      | _ => True) [[35], [36], [37], [38], [39], [40], [41], [42], [43], [44], [45], [46], [47], [48], [49], [50], [51], [52], [53], []] [] (fun w' => Below wc.heap.size wc w') (by kernel_rfl) (by kernel_rfl) (by rfl) ?_ ?_ (fun w' w'' hb h => h.trans (hb.mono h.size)) zg ?_ ?_ ?_
     ·intro jq xq xq' wqq h hv
      match jq, h, hv with
      | 0, h, hv => show xq' 35 = .agg #[.int .i64 err, .int .i64 miss, .slice G1n6 gs.length d1n6]; rw [← h 35 (by decide)]; exact hv
      | 1, h, hv => show xq' 36 = .int .i64 eg; rw [← h 36 (by decide)]; exact hv
      | 2, h, hv => show xq' 37 = .agg #[.int .i64 err, .int .i64 miss, .slice G gs.length d]; rw [← h 37 (by decide)]; exact hv
      | 3, h, hv => show ∃ A8 c8, xq' 38 = .agg #[.int .i64 err, .int .i64 miss, .slice A8 gs.length c8] ∧ Rowed wqq wc.heap.size 139 (.slice A8 gs.length c8) gs.length (gs.flatMap Gr.cells); rw [← h 38 (by decide)]; exact hv
      | 4, h, hv => show xq' 39 = .int .i64 eg; rw [← h 39 (by decide)]; exact hv
      | 5, h, hv => show xq' 40 = .bool false; rw [← h 40 (by decide)]; exact hv
      | 6, h, hv => show xq' 41 = .bool false; rw [← h 41 (by decide)]; exact hv
      | 7, h, hv => show xq' 42 = .agg #[.int .i64 full, .int .i64 emp, .slice A1n7 hs.length c1n7]; rw [← h 42 (by decide)]; exact hv
      | 8, h, hv => show xq' 43 = .int .i64 ec; rw [← h 43 (by decide)]; exact hv
      | 9, h, hv => show xq' 44 = .agg #[.int .i64 full, .int .i64 emp, .slice A hs.length c]; rw [← h 44 (by decide)]; exact hv
      | 10, h, hv => show ∃ A9 c9, xq' 45 = .agg #[.int .i64 full, .int .i64 emp, .slice A9 hs.length c9] ∧ Rowed wqq wc.heap.size 42 (.slice A9 hs.length c9) hs.length (hs.flatMap Hf.cells); rw [← h 45 (by decide)]; exact hv
      | 11, h, hv => show xq' 46 = .int .i64 ec; rw [← h 46 (by decide)]; exact hv
      | 12, h, hv => show xq' 47 = .bool false; rw [← h 47 (by decide)]; exact hv
      | 13, h, hv => show xq' 48 = .bool false; rw [← h 48 (by decide)]; exact hv
      | 14, h, hv => show xq' 49 = .bool false; rw [← h 49 (by decide)]; exact hv
      | 15, h, hv => show xq' 50 = .int .i64 0; rw [← h 50 (by decide)]; exact hv
      | 16, h, hv => show xq' 51 = .int .i64 0; rw [← h 51 (by decide)]; exact hv
      | 17, h, hv => show xq' 52 = .bool false; rw [← h 52 (by decide)]; exact hv
      | 18, h, hv => show xq' 53 = .bool false; rw [← h 53 (by decide)]; exact hv
      | 19, h, hv => exact hv
      | _ + 20, _, _ => trivial
     ·intro jq xq wqq w' hb' hv
      match jq, hv with
      | 0, hv => exact hv
      | 1, hv => exact hv
      | 2, hv => exact hv
      | 3, ⟨b0, b1, h0, h1⟩ => exact ⟨b0, b1, h0, h1.up hb'⟩
      | 4, hv => exact hv
      | 5, hv => exact hv
      | 6, hv => exact hv
      | 7, hv => exact hv
      | 8, hv => exact hv
      | 9, hv => exact hv
      | 10, ⟨b0, b1, h0, h1⟩ => exact ⟨b0, b1, h0, h1.up hb'⟩
      | 11, hv => exact hv
      | 12, hv => exact hv
      | 13, hv => exact hv
      | 14, hv => exact hv
      | 15, hv => exact hv
      | 16, hv => exact hv
      | 17, hv => exact hv
      | 18, hv => exact hv
      | 19, h0 => exact h0.up hb'
      | _ + 20, _ => trivial
     ·intro jq hj
      match jq, hj with
      | 0, hj => exact absurd hj (by decide)
      | 1, hj => exact absurd hj (by decide)
      | 2, hj => exact absurd hj (by decide)
      | 3, hj => exact absurd hj (by decide)
      | 4, hj => exact absurd hj (by decide)
      | 5, hj => exact absurd hj (by decide)
      | 6, hj => exact absurd hj (by decide)
      | 7, hj => exact absurd hj (by decide)
      | 8, hj => exact absurd hj (by decide)
      | 9, hj => exact absurd hj (by decide)
      | 10, hj => exact absurd hj (by decide)
      | 11, hj => exact absurd hj (by decide)
      | 12, hj => exact absurd hj (by decide)
      | 13, hj => exact absurd hj (by decide)
      | 14, hj => exact absurd hj (by decide)
      | 15, hj => exact absurd hj (by decide)
      | 16, hj => exact absurd hj (by decide)
      | 17, hj => exact absurd hj (by decide)
      | 18, hj => exact absurd hj (by decide)
      | 19, _ => exact Holds.new _ _ _
      | _ + 20, _ => trivial
     ·refine ⟨?_, ?_, ?_, ?_, ?_, ?_, ?_, ?_, ?_, ?_, ?_, ?_, ?_, ?_, ?_, ?_, ?_, ?_, ?_, trivial⟩
      ·intro xq wd hbd hx K hK0
       have hK := fun v w' hb => hK0 v w' (.inl hb)
       clear hx hKc hK0
       have kgo0' : wd.cell? ⟨bn6, 0, none⟩ = some (.int .i64 err) := (Hgoc.out.up hbd).cell 0
       have kgo1' : wd.cell? ⟨bn6, 1, none⟩ = some (.int .i64 miss) := (Hgoc.out.up hbd).cell 1
       have kgo2' : wd.cell? ⟨bn6, 2, none⟩ = some (.slice G1n6 gs.length d1n6) := (Hgoc.out.up hbd).cell 2
       simp only [runOf, setSlot, HRL.out, sr, Nat.reduceAdd, Nat.reduceEqDiff, if_true, if_false] at hK ⊢
       go_wp2_with (fail)
       exact hK _ _ (Below.refl _ _) rfl
      ·intro xq wd hbd hx K hK0
       have hK := fun v w' hb => hK0 v w' (.inl hb)
       have e35 : xq 35 = .agg #[.int .i64 err, .int .i64 miss, .slice G1n6 gs.length d1n6] := hx 0 (by rfl) (by rfl)
       clear hx hKc hK0
       simp only [runOf, setSlot, HRL.out, sr, Nat.reduceAdd, Nat.reduceEqDiff, if_true, if_false] at hK ⊢
       simp only [e35] at hK ⊢
       clear e35
       go_wp2_with (go_at_call 22; refine (Check_any err miss G1n6 d1n6 gs _ (HPc.out.up hbd) g7').mono ?_; rw [← HEG.out]; rintro e w2_ ⟨rfl, hb_⟩)
       exact hK _ _ hb_ rfl
      ·intro xq wd hbd hx K hK0
       have hK := fun v w' hb => hK0 v w' (.inl hb)
       clear hx hKc hK0
       have kg0' : wd.cell? ⟨w.heap.size, 0, none⟩ = some (.int .i64 err) := (Hgc.out.up hbd).cell 0
       have kg1' : wd.cell? ⟨w.heap.size, 1, none⟩ = some (.int .i64 miss) := (Hgc.out.up hbd).cell 1
       have kg2' : wd.cell? ⟨w.heap.size, 2, none⟩ = some (.slice G gs.length d) := (Hgc.out.up hbd).cell 2
       simp only [runOf, setSlot, HRL.out, sr, Nat.reduceAdd, Nat.reduceEqDiff, if_true, if_false] at hK ⊢
       go_wp2_with (fail)
       exact hK _ _ (Below.refl _ _) rfl
      ·intro xq wd hbd hx K hK0
       have hK := fun v w' hb => hK0 v w' (.inl hb)
       have e37 : xq 37 = .agg #[.int .i64 err, .int .i64 miss, .slice G gs.length d] := hx 2 (by rfl) (by rfl)
       clear hx hKc hK0
       simp only [runOf, setSlot, HRL.out, sr, Nat.reduceAdd, Nat.reduceEqDiff, if_true, if_false] at hK ⊢
       simp only [e37] at hK ⊢
       clear e37
       go_wp2_with (go_at_call 24; refine (theirs_any err miss G d gs _ (HGc.out.up hbd) g7').mono ?_; rintro e w2_ ⟨A8, c8, rfl, hown, hb_⟩)
       exact hK _ _ hb_ ⟨_, _, rfl, row5_mono hown hbd.size⟩
      ·intro xq wd hbd hx K hK0
       have hK := fun v w' hb => hK0 v w' (.inl hb)
       obtain ⟨A838, c838, e38, f38_0⟩ := hx 3 (by rfl) (by rfl)
       clear hx hKc hK0
       simp only [runOf, setSlot, HRL.out, sr, Nat.reduceAdd, Nat.reduceEqDiff, if_true, if_false] at hK ⊢
       simp only [e38] at hK ⊢
       clear e38
       go_wp2_with (go_at_call 23; refine (refCheck_any err miss A838 c838 gs _ (their_at f38_0) g7').mono ?_; rw [← HEG.out]; rintro e w2_ ⟨rfl, hb_⟩)
       exact hK _ _ hb_ rfl
      ·intro xq wd hbd hx K hK0
       have hK := fun v w' hb => hK0 v w' (.inl hb)
       have e36 : xq 36 = .int .i64 eg := hx 1 (by rfl) (by rfl)
       have e39 : xq 39 = .int .i64 eg := hx 4 (by rfl) (by rfl)
       clear hx hKc hK0
       simp only [runOf, setSlot, HRL.out, sr, Nat.reduceAdd, Nat.reduceEqDiff, if_true, if_false] at hK ⊢
       simp only [e36, e39] at hK ⊢
       clear e36 e39
       go_wp2_with (fail)
       first | exact hK _ _ (Below.refl _ _) rfl | exact hK _ _ (Below.refl _ _) (congrArg Value.bool (by simp))
      ·intro xq wd hbd hx K hK0
       have hK := fun v w' hb => hK0 v w' (.inl hb)
       have e40 : xq 40 = .bool false := hx 5 (by rfl) (by rfl)
       clear hx hKc hK0
       simp only [runOf, setSlot, HRL.out, sr, Nat.reduceAdd, Nat.reduceEqDiff, if_true, if_false] at hK ⊢
       simp only [e40] at hK ⊢
       clear e40
       go_wp2_with (fail)
       exact hK _ _ (Below.refl _ _) rfl
      ·intro xq wd hbd hx K hK0
       have hK := fun v w' hb => hK0 v w' (.inl hb)
       have e41 : xq 41 = .bool false := hx 6 (by rfl) (by rfl)
       clear hx hKc hK0
       have kco0' : wd.cell? ⟨bn7, 0, none⟩ = some (.int .i64 full) := (Hcoc.out.up hbd).cell 0
       have kco1' : wd.cell? ⟨bn7, 1, none⟩ = some (.int .i64 emp) := (Hcoc.out.up hbd).cell 1
       have kco2' : wd.cell? ⟨bn7, 2, none⟩ = some (.slice A1n7 hs.length c1n7) := (Hcoc.out.up hbd).cell 2
       simp only [runOf, setSlot, HRL.out, sr, Nat.reduceAdd, Nat.reduceEqDiff, if_true, if_false] at hK ⊢
       simp only [e41] at hK ⊢
       clear e41
       go_wp2_with (fail)
       exact hK _ _ (Below.refl _ _) rfl
      ·intro xq wd hbd hx K hK0
       have hK := fun v w' hb => hK0 v w' (.inl hb)
       have e41 : xq 41 = .bool false := hx 6 (by rfl) (by rfl)
       have e42 : xq 42 = .agg #[.int .i64 full, .int .i64 emp, .slice A1n7 hs.length c1n7] := hx 7 (by rfl) (by rfl)
       clear hx hKc hK0
       simp only [runOf, setSlot, HRL.out, sr, Nat.reduceAdd, Nat.reduceEqDiff, if_true, if_false] at hK ⊢
       simp only [e41, e42] at hK ⊢
       clear e41 e42
       go_wp2_with (go_at_call 25; refine (CheckCart_any full emp A1n7 c1n7 hs _ (HMc.out.up hbd) h9').mono ?_; rw [← HEC.out]; rintro e w2_ ⟨rfl, hb_⟩)
       exact hK _ _ hb_ rfl
      ·intro xq wd hbd hx K hK0
       have hK := fun v w' hb => hK0 v w' (.inl hb)
       have e41 : xq 41 = .bool false := hx 6 (by rfl) (by rfl)
       clear hx hKc hK0
       have kc0' : wd.cell? ⟨w.heap.size + 1, 0, none⟩ = some (.int .i64 full) := (Hcc.out.up hbd).cell 0
       have kc1' : wd.cell? ⟨w.heap.size + 1, 1, none⟩ = some (.int .i64 emp) := (Hcc.out.up hbd).cell 1
       have kc2' : wd.cell? ⟨w.heap.size + 1, 2, none⟩ = some (.slice A hs.length c) := (Hcc.out.up hbd).cell 2
       simp only [runOf, setSlot, HRL.out, sr, Nat.reduceAdd, Nat.reduceEqDiff, if_true, if_false] at hK ⊢
       simp only [e41] at hK ⊢
       clear e41
       go_wp2_with (fail)
       exact hK _ _ (Below.refl _ _) rfl
      ·intro xq wd hbd hx K hK0
       have hK := fun v w' hb => hK0 v w' (.inl hb)
       have e41 : xq 41 = .bool false := hx 6 (by rfl) (by rfl)
       have e44 : xq 44 = .agg #[.int .i64 full, .int .i64 emp, .slice A hs.length c] := hx 9 (by rfl) (by rfl)
       clear hx hKc hK0
       simp only [runOf, setSlot, HRL.out, sr, Nat.reduceAdd, Nat.reduceEqDiff, if_true, if_false] at hK ⊢
       simp only [e41, e44] at hK ⊢
       clear e41 e44
       go_wp2_with (go_at_call 20; refine (come_any full emp A c hs _ (HAc.out.up hbd) h9').mono ?_; rintro e w2_ ⟨A9, c9, rfl, hown, hb_⟩)
       exact hK _ _ hb_ ⟨_, _, rfl, row5_mono hown hbd.size⟩
      ·intro xq wd hbd hx K hK0
       have hK := fun v w' hb => hK0 v w' (.inl hb)
       have e41 : xq 41 = .bool false := hx 6 (by rfl) (by rfl)
       obtain ⟨A945, c945, e45, f45_0⟩ := hx 10 (by rfl) (by rfl)
       clear hx hKc hK0
       simp only [runOf, setSlot, HRL.out, sr, Nat.reduceAdd, Nat.reduceEqDiff, if_true, if_false] at hK ⊢
       simp only [e41, e45] at hK ⊢
       clear e41 e45
       go_wp2_with (go_at_call 26; refine (refCheckCart_any full emp A945 c945 hs _ (rowed_at f45_0) h9').mono ?_; rw [← HEC.out]; rintro e w2_ ⟨rfl, hb_⟩)
       exact hK _ _ hb_ rfl
      ·intro xq wd hbd hx K hK0
       have hK := fun v w' hb => hK0 v w' (.inl hb)
       have e41 : xq 41 = .bool false := hx 6 (by rfl) (by rfl)
       have e43 : xq 43 = .int .i64 ec := hx 8 (by rfl) (by rfl)
       have e46 : xq 46 = .int .i64 ec := hx 11 (by rfl) (by rfl)
       clear hx hKc hK0
       simp only [runOf, setSlot, HRL.out, sr, Nat.reduceAdd, Nat.reduceEqDiff, if_true, if_false] at hK ⊢
       simp only [e41, e43, e46] at hK ⊢
       clear e41 e43 e46
       go_wp2_with (fail)
       first | exact hK _ _ (Below.refl _ _) rfl | exact hK _ _ (Below.refl _ _) (congrArg Value.bool (by simp))
      ·intro xq wd hbd hx K hK0
       have hK := fun v w' hb => hK0 v w' (.inl hb)
       have e41 : xq 41 = .bool false := hx 6 (by rfl) (by rfl)
       have e47 : xq 47 = .bool false := hx 12 (by rfl) (by rfl)
       clear hx hKc hK0
       simp only [runOf, setSlot, HRL.out, sr, Nat.reduceAdd, Nat.reduceEqDiff, if_true, if_false] at hK ⊢
       simp only [e41, e47] at hK ⊢
       clear e41 e47
       go_wp2_with (fail)
       exact hK _ _ (Below.refl _ _) rfl
      ·intro xq wd hbd hx K hK0
       have hK := fun v w' hb => hK0 v w' (.inl hb)
       have e48 : xq 48 = .bool false := hx 13 (by rfl) (by rfl)
       clear hx hKc hK0
       simp only [runOf, setSlot, HRL.out, sr, Nat.reduceAdd, Nat.reduceEqDiff, if_true, if_false] at hK ⊢
       simp only [e48] at hK ⊢
       clear e48
       go_wp2_with (fail)
       exact hK _ _ (Below.refl _ _) rfl
      ·intro xq wd hbd hx K hK0
       have hK := fun v w' hb => hK0 v w' (.inl hb)
       have e49 : xq 49 = .bool false := hx 14 (by rfl) (by rfl)
       clear hx hKc hK0
       simp only [runOf, setSlot, HRL.out, sr, Nat.reduceAdd, Nat.reduceEqDiff, if_true, if_false] at hK ⊢
       simp only [e49] at hK ⊢
       clear e49
       go_wp2_with (fail)
       exact hK _ _ (Below.refl _ _) rfl
      ·intro xq wd hbd hx K hK0
       have hK := fun v w' hb => hK0 v w' (.inl hb)
       have e49 : xq 49 = .bool false := hx 14 (by rfl) (by rfl)
       clear hx hKc hK0
       simp only [runOf, setSlot, HRL.out, sr, Nat.reduceAdd, Nat.reduceEqDiff, if_true, if_false] at hK ⊢
       simp only [e49] at hK ⊢
       clear e49
       go_wp2_with (fail)
       exact hK _ _ (Below.refl _ _) rfl
      ·intro xq wd hbd hx K hK0
       have hK := fun v w' hb => hK0 v w' (.inl hb)
       have e49 : xq 49 = .bool false := hx 14 (by rfl) (by rfl)
       have e50 : xq 50 = .int .i64 0 := hx 15 (by rfl) (by rfl)
       have e51 : xq 51 = .int .i64 0 := hx 16 (by rfl) (by rfl)
       clear hx hKc hK0
       simp only [runOf, setSlot, HRL.out, sr, Nat.reduceAdd, Nat.reduceEqDiff, if_true, if_false] at hK ⊢
       simp only [e49, e50, e51] at hK ⊢
       clear e49 e50 e51
       go_wp2_with (fail)
       first | exact hK _ _ (Below.refl _ _) rfl | exact hK _ _ (Below.refl _ _) (congrArg Value.bool (by simp))
      ·intro xq wd hbd hx K hK0
       have hK := fun v w' hb => hK0 v w' (.inl hb)
       have e49 : xq 49 = .bool false := hx 14 (by rfl) (by rfl)
       have e52 : xq 52 = .bool false := hx 17 (by rfl) (by rfl)
       clear hx hKc hK0
       simp only [runOf, setSlot, HRL.out, sr, Nat.reduceAdd, Nat.reduceEqDiff, if_true, if_false] at hK ⊢
       simp only [e49, e52] at hK ⊢
       clear e49 e52
       go_wp2_with (fail)
       exact hK _ _ (Below.refl _ _) rfl
     ·intro xq wd hbd hx
      have e35 : xq 35 = .agg #[.int .i64 err, .int .i64 miss, .slice G1n6 gs.length d1n6] := hx 0 (by decide)
      have e36 : xq 36 = .int .i64 eg := hx 1 (by decide)
      have e37 : xq 37 = .agg #[.int .i64 err, .int .i64 miss, .slice G gs.length d] := hx 2 (by decide)
      obtain ⟨A838, c838, e38, f38_0⟩ := hx 3 (by decide)
      have e39 : xq 39 = .int .i64 eg := hx 4 (by decide)
      have e40 : xq 40 = .bool false := hx 5 (by decide)
      have e41 : xq 41 = .bool false := hx 6 (by decide)
      have e42 : xq 42 = .agg #[.int .i64 full, .int .i64 emp, .slice A1n7 hs.length c1n7] := hx 7 (by decide)
      have e43 : xq 43 = .int .i64 ec := hx 8 (by decide)
      have e44 : xq 44 = .agg #[.int .i64 full, .int .i64 emp, .slice A hs.length c] := hx 9 (by decide)
      obtain ⟨A945, c945, e45, f45_0⟩ := hx 10 (by decide)
      have e46 : xq 46 = .int .i64 ec := hx 11 (by decide)
      have e47 : xq 47 = .bool false := hx 12 (by decide)
      have e48 : xq 48 = .bool false := hx 13 (by decide)
      have e49 : xq 49 = .bool false := hx 14 (by decide)
      have e50 : xq 50 = .int .i64 0 := hx 15 (by decide)
      have e51 : xq 51 = .int .i64 0 := hx 16 (by decide)
      have e52 : xq 52 = .bool false := hx 17 (by decide)
      have e53 : xq 53 = .bool false := hx 18 (by decide)
      have fiot_0 : Holds wd wc.heap.size 27 #[.int .i64 full, .int .i64 emp, .slice (some ⟨B5, 0, none⟩) ls.length ls.length] := hx 19 (by decide)
      clear hx
      simp only [runOf, setSlot, HRL.out, sr, Nat.reduceAdd, Nat.reduceEqDiff, if_true, if_false]
      simp only [e35, e36, e37, e38, e39, e40, e41, e42, e43, e44, e45, e46, e47, e48, e49, e50, e51, e52, e53]
      clear e35 e36 e37 e38 e39 e40 e41 e42 e43 e44 e45 e46 e47 e48 e49 e50 e51 e52 e53
      refine hKc _ _ ?_
      have HSd := Lib.hid hbd
      have HBd := Lib.hid (HBc.out.trans (hbd.mono hsc))
      have hsd := HBd.out.size
      have hstd := hbd.size
      have Hotd := Lib.hid fiot_0
      have Hgd := Lib.hid (Hgc.out.up HSd.out)
      have Hcd := Lib.hid (Hcc.out.up HSd.out)
      have Hhd := Lib.hid (Hhc.out.up HSd.out)
      have Hgod := Lib.hid (Hgoc.out.up HSd.out)
      have Hcod := Lib.hid (Hcoc.out.up HSd.out)
      have Hrmd := Lib.hid (Hrmc.out.up HSd.out)
      have HGd := Lib.hid (HGc.out.up HSd.out)
      have HAd := Lib.hid (HAc.out.up HSd.out)
      have HPd := Lib.hid (HPc.out.up HSd.out)
      have HMd := Lib.hid (HMc.out.up HSd.out)
      have HQd := Lib.hid (HQc.out.up HSd.out)
      have HLd := Lib.hid (HLc.out.up HSd.out)
      clear hbd fiot_0
      obtain ⟨kot0, kot1, kot2⟩ := Hotd.out.c3
      have lt_ot : wc.heap.size < wd.heap.size := Hotd.out.lt
      go_wp2_with fail
      refine (come_any full emp (some ⟨B5, 0, none⟩) ls.length ls _ (HLd.out.up zg) hll).mono ?_
      rintro e we ⟨A8, c8, rfl, hrow, hbe⟩
      have Hge := Lib.hid (Holds.up (by have h := Hgd.out; exact zp4 : Holds _ (w.heap.size) 24 #[.int .i64 err, .int .i64 miss, .slice G gs.length d]) hbe)
      have Hce := Lib.hid (Holds.up (by have h := Hcd.out; exact zp4 : Holds _ (w.heap.size + 1) 27 #[.int .i64 full, .int .i64 emp, .slice A hs.length c]) hbe)
      have Hhe := Lib.hid (Holds.up (by have h := Hhd.out; exact zp4 : Holds _ (w.heap.size + 1 + 1) 30 #[.int .i64 x.spot, .int .i64 x.g0, .int .i64 x.g1, .int .i64 x.g2, .int .i64 x.g3]) hbe)
      have Hgoe := Lib.hid (Holds.up (by have h := Hgod.out; exact zp4 : Holds _ (bn6) 24 #[.int .i64 err, .int .i64 miss, .slice G1n6 gs.length d1n6]) hbe)
      have Hcoe := Lib.hid (Holds.up (by have h := Hcod.out; exact zp4 : Holds _ (bn7) 27 #[.int .i64 full, .int .i64 emp, .slice A1n7 hs.length c1n7]) hbe)
      have Hrme := Lib.hid (Holds.up (by have h := Hrmd.out; exact zp4 : Holds _ (bn8) 37 #[.int .i64 full, .int .i64 emp, .slice A6n8 ls.length c6n8]) hbe)
      have Hote := Lib.hid (Holds.up (by have h := Hotd.out; exact zp4 : Holds _ (wc.heap.size) 27 #[.int .i64 full, .int .i64 emp, .slice (some ⟨B5, 0, none⟩) ls.length ls.length]) hbe)
      have HSe : Hid (Below wd.heap.size wd we) := Lib.hid (Below.trans zg (hbe.mono (by first | exact Nat.le_refl _ | omega | (simp; done) | (simp; omega))))
      have HBe : Hid (Below w.heap.size w we) := Lib.hid (HBd.out.trans (HSe.out.mono hsd))
      have hse := HBe.out.size
      have hste := HSe.out.size
      have HGe := Lib.hid (HGd.out.up HSe.out)
      have HAe := Lib.hid (HAd.out.up HSe.out)
      have HPe := Lib.hid (HPd.out.up HSe.out)
      have HMe := Lib.hid (HMd.out.up HSe.out)
      have HQe := Lib.hid (HQd.out.up HSe.out)
      have HLe := Lib.hid (HLd.out.up HSe.out)
      clear hbe
      have HRe := Lib.hid (rowed_at hrow)
      clear hrow
      clear kot0 kot1 kot2 lt_ot
      obtain ⟨krm0, krm1, krm2⟩ := Hrme.out.c3
      have lt_rm : bn8 < we.heap.size := Hrme.out.lt
      go_wp2_with fail
      refine (eqRefHand_same A8 A6n8 c8 c6n8 ls _ (HRe.out.up zg) (HQe.out.up zg) hll).mono ?_
      rintro e wf ⟨rfl, hbf⟩
      have Hgf := Lib.hid (Holds.up (by have h := Hge.out; exact zp4 : Holds _ (w.heap.size) 24 #[.int .i64 err, .int .i64 miss, .slice G gs.length d]) hbf)
      have Hcf := Lib.hid (Holds.up (by have h := Hce.out; exact zp4 : Holds _ (w.heap.size + 1) 27 #[.int .i64 full, .int .i64 emp, .slice A hs.length c]) hbf)
      have Hhf := Lib.hid (Holds.up (by have h := Hhe.out; exact zp4 : Holds _ (w.heap.size + 1 + 1) 30 #[.int .i64 x.spot, .int .i64 x.g0, .int .i64 x.g1, .int .i64 x.g2, .int .i64 x.g3]) hbf)
      have Hgof := Lib.hid (Holds.up (by have h := Hgoe.out; exact zp4 : Holds _ (bn6) 24 #[.int .i64 err, .int .i64 miss, .slice G1n6 gs.length d1n6]) hbf)
      have Hcof := Lib.hid (Holds.up (by have h := Hcoe.out; exact zp4 : Holds _ (bn7) 27 #[.int .i64 full, .int .i64 emp, .slice A1n7 hs.length c1n7]) hbf)
      have Hrmf := Lib.hid (Holds.up (by have h := Hrme.out; exact zp4 : Holds _ (bn8) 37 #[.int .i64 full, .int .i64 emp, .slice A6n8 ls.length c6n8]) hbf)
      have Hotf := Lib.hid (Holds.up (by have h := Hote.out; exact zp4 : Holds _ (wc.heap.size) 27 #[.int .i64 full, .int .i64 emp, .slice (some ⟨B5, 0, none⟩) ls.length ls.length]) hbf)
      have HSf : Hid (Below we.heap.size we wf) := Lib.hid (Below.trans zg (hbf.mono (by first | exact Nat.le_refl _ | omega | (simp; done) | (simp; omega))))
      have HBf : Hid (Below w.heap.size w wf) := Lib.hid (HBe.out.trans (HSf.out.mono hse))
      have hsf := HBf.out.size
      have hstf := HSf.out.size
      have HGf := Lib.hid (HGe.out.up HSf.out)
      have HAf := Lib.hid (HAe.out.up HSf.out)
      have HPf := Lib.hid (HPe.out.up HSf.out)
      have HMf := Lib.hid (HMe.out.up HSf.out)
      have HQf := Lib.hid (HQe.out.up HSf.out)
      have HLf := Lib.hid (HLe.out.up HSf.out)
      have HRf := Lib.hid (HRe.out.up HSf.out)
      clear hbf
      clear krm0 krm1 krm2 lt_rm
      obtain ⟨kot0, kot1, kot2⟩ := Hotf.out.c3
      have lt_ot : wc.heap.size < wf.heap.size := Hotf.out.lt
      have HVf : Hid (Below wb.heap.size wb wf) := Lib.hid (HSc.out.trans ((HSd.out.trans ((HSe.out.trans (HSf.out.mono hste)).mono hstd)).mono hstc))
      have hvf := HVf.out.size
      have hlp : 0 < ls.length := by rw [HLS.out, List.length_append]; show 0 < hs.length + 1; omega
      have HB5f := HB5c.out.up (HSd.out.trans ((HSe.out.trans (HSf.out.mono hste)).mono hstd))
      obtain ⟨wg, hclr, hgr⟩ := run_clear_hands wf 0 B5 ls.length ls HB5f hlp
      have HVg : Hid (Below wb.heap.size wb wg) := Lib.hid (HVf.out.grown hgr hvf (fun k hk => by cases hk; exact hle5))
      clear HB5f hgr
      have HBg := Lib.hid (HBb.out.trans (HVg.out.mono hsb))
      have hsg := HBg.out.size
      have Hgg := Lib.hid (Hgb.out.up HVg.out)
      have Hcg := Lib.hid (Hcb.out.up HVg.out)
      have Hgog := Lib.hid (Hgob.out.up HVg.out)
      have Hcog := Lib.hid (Hcob.out.up HVg.out)
      have HGg := Lib.hid (HGb.out.up HVg.out)
      have HAg := Lib.hid (HAb.out.up HVg.out)
      have HPg := Lib.hid (HPb.out.up HVg.out)
      have HMg := Lib.hid (HMb.out.up HVg.out)
      obtain ⟨kg0, kg1, kg2⟩ := Hgg.out.c3
      have lt_g : w.heap.size < wg.heap.size := Hgg.out.lt
      obtain ⟨kgo0, kgo1, kgo2⟩ := Hgog.out.c3
      have lt_go : bn6 < wg.heap.size := Hgog.out.lt
      go_wp2_with (at_builtin; (refine wpList_clear_run _ rfl _ _ rfl _ rfl hclr ?_))
      refine (same_same err miss G1n6 G d1n6 d gs _ (HPg.out.up zg) (HGg.out.up zg) g7').mono ?_
      rintro e wi ⟨rfl, hbi⟩
      have Hgi := Lib.hid (Holds.up (by have h := Hgg.out; exact zp4 : Holds _ (w.heap.size) 24 #[.int .i64 err, .int .i64 miss, .slice G gs.length d]) hbi)
      have Hci := Lib.hid (Holds.up (by have h := Hcg.out; exact zp4 : Holds _ (w.heap.size + 1) 27 #[.int .i64 full, .int .i64 emp, .slice A hs.length c]) hbi)
      have Hgoi := Lib.hid (Holds.up (by have h := Hgog.out; exact zp4 : Holds _ (bn6) 24 #[.int .i64 err, .int .i64 miss, .slice G1n6 gs.length d1n6]) hbi)
      have Hcoi := Lib.hid (Holds.up (by have h := Hcog.out; exact zp4 : Holds _ (bn7) 27 #[.int .i64 full, .int .i64 emp, .slice A1n7 hs.length c1n7]) hbi)
      have HSi : Hid (Below wg.heap.size wg wi) := Lib.hid (Below.trans zg (hbi.mono (by first | exact Nat.le_refl _ | omega | (simp; done) | (simp; omega))))
      have HBi : Hid (Below w.heap.size w wi) := Lib.hid (HBg.out.trans (HSi.out.mono hsg))
      have hsi := HBi.out.size
      have hsti := HSi.out.size
      have HGi := Lib.hid (HGg.out.up HSi.out)
      have HAi := Lib.hid (HAg.out.up HSi.out)
      have HPi := Lib.hid (HPg.out.up HSi.out)
      have HMi := Lib.hid (HMg.out.up HSi.out)
      clear hbi
      clear kg0 kg1 kg2 lt_g kgo0 kgo1 kgo2 lt_go
      obtain ⟨kc0, kc1, kc2⟩ := Hci.out.c3
      have lt_c : w.heap.size + 1 < wi.heap.size := Hci.out.lt
      obtain ⟨kco0, kco1, kco2⟩ := Hcoi.out.c3
      have lt_co : bn7 < wi.heap.size := Hcoi.out.lt
      go_wp2_with fail
      refine (alike_same full emp A1n7 A c1n7 c hs _ (HMi.out.up zg) (HAi.out.up zg) h9').mono ?_
      rintro e wj ⟨rfl, hbj⟩
      have Hgj := Lib.hid (Holds.up (by have h := Hgi.out; exact zp4 : Holds _ (w.heap.size) 24 #[.int .i64 err, .int .i64 miss, .slice G gs.length d]) hbj)
      have Hcj := Lib.hid (Holds.up (by have h := Hci.out; exact zp4 : Holds _ (w.heap.size + 1) 27 #[.int .i64 full, .int .i64 emp, .slice A hs.length c]) hbj)
      have Hgoj := Lib.hid (Holds.up (by have h := Hgoi.out; exact zp4 : Holds _ (bn6) 24 #[.int .i64 err, .int .i64 miss, .slice G1n6 gs.length d1n6]) hbj)
      have Hcoj := Lib.hid (Holds.up (by have h := Hcoi.out; exact zp4 : Holds _ (bn7) 27 #[.int .i64 full, .int .i64 emp, .slice A1n7 hs.length c1n7]) hbj)
      have HSj : Hid (Below wi.heap.size wi wj) := Lib.hid (Below.trans zg (hbj.mono (by first | exact Nat.le_refl _ | omega | (simp; done) | (simp; omega))))
      have HBj : Hid (Below w.heap.size w wj) := Lib.hid (HBi.out.trans (HSj.out.mono hsi))
      have hsj := HBj.out.size
      have hstj := HSj.out.size
      have HGj := Lib.hid (HGi.out.up HSj.out)
      have HAj := Lib.hid (HAi.out.up HSj.out)
      have HPj := Lib.hid (HPi.out.up HSj.out)
      have HMj := Lib.hid (HMi.out.up HSj.out)
      clear hbj
      clear kc0 kc1 kc2 lt_c kco0 kco1 kco2 lt_co
      go_wp2_with fail
      refine (awake_any _).mono ?_
      rintro e w40 ⟨rfl, hb40⟩
      go_wp2_with fail
      go_ret
      exact ⟨rfl, HBj.out.trans (hb40.mono hsj)⟩
   ·have he0 : takeErr full emp hs x ≠ 0 := hE ▸ hE0
    have HE0 := Lib.hid he0
    clear he0 hE
    go_wp2_with fail
    rename_i Kc hKc
    have HSL := Lib.hid (show slotsOf [some 23, some 24, some 25, some 26, some 22, some 27, some 28, some 9, none, some 10] = [23, 24, 25, 26, 22, 27, 28, 9, 10] from rfl)
    refine wp_region_partsG (by kernel_rfl) [some 23, some 24, some 25, some 26, some 22, some 27, some 28, some 9, none, some 10] (fun jq xq w' => match jq with
     | 0 => xq 23 = .agg #[.int .i64 full, .int .i64 emp, .slice A hs.length c]
     | 1 => ∃ A4 c4, xq 24 = .agg #[.int .i64 full, .int .i64 emp, .slice A4 hs.length c4] ∧ Rowed w' wa.heap.size 42 (.slice A4 hs.length c4) hs.length (hs.flatMap Hf.cells)
     | 2 => xq 25 = .agg #[.int .i64 x.spot, .int .i64 x.g0, .int .i64 x.g1, .int .i64 x.g2, .int .i64 x.g3]
     | 3 => xq 26 = .tuple #[.agg #[.int .i64 0, .int .i64 0, .slice none 0 0], .int .i64 E]
     | 4 => xq 22 = .tuple #[.agg #[.int .i64 0, .int .i64 0, .slice none 0 0], .int .i64 E]
     | 5 => xq 27 = .agg #[.int .i64 0, .int .i64 0, .slice none 0 0]
     | 6 => xq 28 = .int .i64 E
     | 7 => ∃ b, xq 9 = .pointer (some ⟨b, 0, none⟩) ∧ wa.heap.size ≤ b ∧ Holds w' b 37 #[.int .i64 0, .int .i64 0, .slice none 0 0]
     | 8 => ∃ b, xq 9 = .pointer (some ⟨b, 0, none⟩) ∧ Holds w' b 37 #[.int .i64 0, .int .i64 0, .slice none 0 0]
     | 9 => xq 10 = .int .i64 E
     | _ => True) [[23], [24], [25], [26], [22], [27], [28], [9], [9], [10]] [(8, 7)] (fun w' => Below wa.heap.size wa w') (by kernel_rfl)  ?_ ?_ (fun w' w'' hb h => h.trans (hb.mono h.size)) (Below.refl _ _) ?_ ?_ ?_
    ·intro jq xq xq' wqq h hv
     match jq, h, hv with
     | 0, h, hv => show xq' 23 = .agg #[.int .i64 full, .int .i64 emp, .slice A hs.length c]; rw [← h 23 (by decide)]; exact hv
     | 1, h, hv => show ∃ A4 c4, xq' 24 = .agg #[.int .i64 full, .int .i64 emp, .slice A4 hs.length c4] ∧ Rowed wqq wa.heap.size 42 (.slice A4 hs.length c4) hs.length (hs.flatMap Hf.cells); rw [← h 24 (by decide)]; exact hv
     | 2, h, hv => show xq' 25 = .agg #[.int .i64 x.spot, .int .i64 x.g0, .int .i64 x.g1, .int .i64 x.g2, .int .i64 x.g3]; rw [← h 25 (by decide)]; exact hv
     | 3, h, hv => show xq' 26 = .tuple #[.agg #[.int .i64 0, .int .i64 0, .slice none 0 0], .int .i64 E]; rw [← h 26 (by decide)]; exact hv
     | 4, h, hv => show xq' 22 = .tuple #[.agg #[.int .i64 0, .int .i64 0, .slice none 0 0], .int .i64 E]; rw [← h 22 (by decide)]; exact hv
     | 5, h, hv => show xq' 27 = .agg #[.int .i64 0, .int .i64 0, .slice none 0 0]; rw [← h 27 (by decide)]; exact hv
     | 6, h, hv => show xq' 28 = .int .i64 E; rw [← h 28 (by decide)]; exact hv
     | 7, h, hv => show ∃ b, xq' 9 = .pointer (some ⟨b, 0, none⟩) ∧ wa.heap.size ≤ b ∧ Holds wqq b 37 #[.int .i64 0, .int .i64 0, .slice none 0 0]; rw [← h 9 (by decide)]; exact hv
     | 8, h, hv => show ∃ b, xq' 9 = .pointer (some ⟨b, 0, none⟩) ∧ Holds wqq b 37 #[.int .i64 0, .int .i64 0, .slice none 0 0]; rw [← h 9 (by decide)]; exact hv
     | 9, h, hv => show xq' 10 = .int .i64 E; rw [← h 10 (by decide)]; exact hv
     | _ + 10, _, _ => trivial
    ·intro jq xq wqq w' hb' hv
     match jq, hv with
     | 0, hv => exact hv
     | 1, ⟨b0, b1, h0, h1⟩ => exact ⟨b0, b1, h0, h1.up hb'⟩
     | 2, hv => exact hv
     | 3, hv => exact hv
     | 4, hv => exact hv
     | 5, hv => exact hv
     | 6, hv => exact hv
     | 7, ⟨b0, h0, h1, h2⟩ => exact ⟨b0, h0, h1, h2.up hb'⟩
     | 8, ⟨b0, h0, h1⟩ => exact ⟨b0, h0, h1.up hb'⟩
     | 9, hv => exact hv
     | _ + 10, _ => trivial
    ·intro jq hj
     match jq, hj with
     | 0, hj => exact absurd hj (by decide)
     | 1, hj => exact absurd hj (by decide)
     | 2, hj => exact absurd hj (by decide)
     | 3, hj => exact absurd hj (by decide)
     | 4, hj => exact absurd hj (by decide)
     | 5, hj => exact absurd hj (by decide)
     | 6, hj => exact absurd hj (by decide)
     | 7, hj => exact absurd hj (by decide)
     | 8, hj => exact absurd hj (by decide)
     | 9, hj => exact absurd hj (by decide)
     | _ + 10, _ => trivial
    ·refine ⟨?_, ?_, ?_, ?_, ?_, ?_, ?_, ?_, ?_, ?_, trivial⟩
     ·intro xq wb hbb hx K hK0
      have hK := fun v w' hb => hK0 v w' (.inl hb)
      clear hx hKc hK0
      have kc0' : wb.cell? ⟨w.heap.size + 1, 0, none⟩ = some (.int .i64 full) := (Hca.out.up hbb).cell 0
      have kc1' : wb.cell? ⟨w.heap.size + 1, 1, none⟩ = some (.int .i64 emp) := (Hca.out.up hbb).cell 1
      have kc2' : wb.cell? ⟨w.heap.size + 1, 2, none⟩ = some (.slice A hs.length c) := (Hca.out.up hbb).cell 2
      simp only [frameOf, fill, setSlot, sg, Nat.reduceBEq, if_true, if_false, Nat.reduceAdd, Nat.reduceEqDiff, HSL.out] at hK ⊢
      go_wp2_with (fail)
      exact hK _ _ (Below.refl _ _) rfl
     ·intro xq wb hbb hx K hK0
      have hK := fun v w' hb => hK0 v w' (.inl hb)
      have e23 : xq 23 = .agg #[.int .i64 full, .int .i64 emp, .slice A hs.length c] := hx 0 (by rfl) (by rfl)
      clear hx hKc hK0
      simp only [frameOf, fill, setSlot, sg, Nat.reduceBEq, if_true, if_false, Nat.reduceAdd, Nat.reduceEqDiff, HSL.out] at hK ⊢
      simp only [e23] at hK ⊢
      clear e23
      go_wp2_with (go_at_call 20; refine (come_any full emp A c hs _ (HAa.out.up hbb) h9').mono ?_; rintro e w2_ ⟨A4, c4, rfl, hown, hb_⟩)
      exact hK _ _ hb_ ⟨_, _, rfl, row5_mono hown hbb.size⟩
     ·intro xq wb hbb hx K hK0
      have hK := fun v w' hb => hK0 v w' (.inl hb)
      clear hx hKc hK0
      have kh0' : wb.cell? ⟨w.heap.size + 1 + 1, 0, none⟩ = some (.int .i64 x.spot) := (Hha.out.up hbb).cell 0
      have kh1' : wb.cell? ⟨w.heap.size + 1 + 1, 1, none⟩ = some (.int .i64 x.g0) := (Hha.out.up hbb).cell 1
      have kh2' : wb.cell? ⟨w.heap.size + 1 + 1, 2, none⟩ = some (.int .i64 x.g1) := (Hha.out.up hbb).cell 2
      have kh3' : wb.cell? ⟨w.heap.size + 1 + 1, 3, none⟩ = some (.int .i64 x.g2) := (Hha.out.up hbb).cell 3
      have kh4' : wb.cell? ⟨w.heap.size + 1 + 1, 4, none⟩ = some (.int .i64 x.g3) := (Hha.out.up hbb).cell 4
      simp only [frameOf, fill, setSlot, sg, Nat.reduceBEq, if_true, if_false, Nat.reduceAdd, Nat.reduceEqDiff, HSL.out] at hK ⊢
      go_wp2_with (fail)
      exact hK _ _ (Below.refl _ _) rfl
     ·intro xq wb hbb hx K hK0
      have hK := fun v w' hb => hK0 v w' (.inl hb)
      obtain ⟨A424, c424, e24, f24_0⟩ := hx 1 (by rfl) (by rfl)
      have e25 : xq 25 = .agg #[.int .i64 x.spot, .int .i64 x.g0, .int .i64 x.g1, .int .i64 x.g2, .int .i64 x.g3] := hx 2 (by rfl) (by rfl)
      clear hx hKc hK0
      simp only [frameOf, fill, setSlot, sg, Nat.reduceBEq, if_true, if_false, Nat.reduceAdd, Nat.reduceEqDiff, HSL.out] at hK ⊢
      simp only [e24, e25] at hK ⊢
      clear e24 e25
      go_wp2_with (go_at_call 19; refine (refTake_err full emp A424 c424 hs x _ (rowed_at f24_0) (nil_row f24_0) h9' HE0.out).mono ?_; rw [← HE.out]; rintro e w2_ ⟨rfl, hb_⟩)
      exact hK _ _ hb_ rfl
     ·intro xq wb hbb hx K hK0
      have hK := fun v w' hb => hK0 v w' (.inl hb)
      have e26 : xq 26 = .tuple #[.agg #[.int .i64 0, .int .i64 0, .slice none 0 0], .int .i64 E] := hx 3 (by rfl) (by rfl)
      clear hx hKc hK0
      simp only [frameOf, fill, setSlot, sg, Nat.reduceBEq, if_true, if_false, Nat.reduceAdd, Nat.reduceEqDiff, HSL.out] at hK ⊢
      simp only [e26] at hK ⊢
      clear e26
      go_wp2_with (fail)
      exact hK _ _ (Below.refl _ _) rfl
     ·intro xq wb hbb hx K hK0
      have hK := fun v w' hb => hK0 v w' (.inl hb)
      have e22 : xq 22 = .tuple #[.agg #[.int .i64 0, .int .i64 0, .slice none 0 0], .int .i64 E] := hx 4 (by rfl) (by rfl)
      clear hx hKc hK0
      simp only [frameOf, fill, setSlot, sg, Nat.reduceBEq, if_true, if_false, Nat.reduceAdd, Nat.reduceEqDiff, HSL.out] at hK ⊢
      simp only [e22] at hK ⊢
      clear e22
      go_wp2_with (fail)
      exact hK _ _ (Below.refl _ _) rfl
     ·intro xq wb hbb hx K hK0
      have hK := fun v w' hb => hK0 v w' (.inl hb)
      have e22 : xq 22 = .tuple #[.agg #[.int .i64 0, .int .i64 0, .slice none 0 0], .int .i64 E] := hx 4 (by rfl) (by rfl)
      clear hx hKc hK0
      simp only [frameOf, fill, setSlot, sg, Nat.reduceBEq, if_true, if_false, Nat.reduceAdd, Nat.reduceEqDiff, HSL.out] at hK ⊢
      simp only [e22] at hK ⊢
      clear e22
      go_wp2_with (fail)
      exact hK _ _ (Below.refl _ _) rfl
     ·intro xq wb hbb hx K hK0
      have hK := fun v w' hb => hK0 v w' (.inl hb)
      clear hx hKc hK0
      simp only [frameOf, fill, setSlot, sg, Nat.reduceBEq, if_true, if_false, Nat.reduceAdd, Nat.reduceEqDiff, HSL.out] at hK ⊢
      go_wp2_with (fail)
      exact hK _ _ ((Below.refl _ _).alloc (Nat.le_refl _) _) ⟨_, rfl, hbb.size, Holds.new _ _ _⟩
     ·intro xq wb hbb hx K hK0
      have hK := fun v w' hb => hK0 v w' (.inr hb)
      have e27 : xq 27 = .agg #[.int .i64 0, .int .i64 0, .slice none 0 0] := hx 5 (by rfl) (by rfl)
      obtain ⟨b9, e9, f9_0, f9_1⟩ := hx 7 (by rfl) (by rfl)
      clear hx hKc hK0
      obtain ⟨kb0, kb1, kb2⟩ := f9_1.c3
      obtain ⟨zb0, zb1, zb2⟩ := f9_1.f3
      simp only [frameOf, fill, setSlot, sg, Nat.reduceBEq, if_true, if_false, Nat.reduceAdd, Nat.reduceEqDiff, HSL.out] at hK ⊢
      have E27 := Lib.hid e27
      have E9 := Lib.hid e9
      simp only [e27, e9] at hK ⊢
      clear e27 e9
      go_wp2_with (fail)
      refine hK undef _ ⟨(by have h := hbb; exact zg), ?_⟩ ⟨_, rfl, Holds.set3 _ _ _ f9_1⟩
      intro jq xq hd hne hv
      match jq, hd, hne, hv with
      | 0, _, _, hv => exact hv
      | 1, _, _, hv => obtain ⟨a1_, d1_, e1, h1⟩ := hv; exact ⟨a1_, d1_, e1, row5_set3 h1 f9_1 (by decide)⟩
      | 2, _, _, hv => exact hv
      | 3, _, _, hv => exact hv
      | 4, _, _, hv => exact hv
      | 5, _, _, hv => exact hv
      | 6, _, _, hv => exact hv
      | 7, hd, _, _ => exact absurd hd (by decide)
      | 8, _, hne, _ => exact absurd rfl hne
      | 9, _, _, hv => exact hv
      | _ + 10, _, _, _ => trivial
     ·intro xq wb hbb hx K hK0
      have hK := fun v w' hb => hK0 v w' (.inl hb)
      have e28 : xq 28 = .int .i64 E := hx 6 (by rfl) (by rfl)
      clear hx hKc hK0
      simp only [frameOf, fill, setSlot, sg, Nat.reduceBEq, if_true, if_false, Nat.reduceAdd, Nat.reduceEqDiff, HSL.out] at hK ⊢
      simp only [e28] at hK ⊢
      clear e28
      go_wp2_with (fail)
      exact hK _ _ (Below.refl _ _) rfl
    ·intro xq wb hbb hx
     have e23 : xq 23 = .agg #[.int .i64 full, .int .i64 emp, .slice A hs.length c] := hx 0 (by decide)
     obtain ⟨A424, c424, e24, f24_0⟩ := hx 1 (by decide)
     have e25 : xq 25 = .agg #[.int .i64 x.spot, .int .i64 x.g0, .int .i64 x.g1, .int .i64 x.g2, .int .i64 x.g3] := hx 2 (by decide)
     have e26 : xq 26 = .tuple #[.agg #[.int .i64 0, .int .i64 0, .slice none 0 0], .int .i64 E] := hx 3 (by decide)
     have e22 : xq 22 = .tuple #[.agg #[.int .i64 0, .int .i64 0, .slice none 0 0], .int .i64 E] := hx 4 (by decide)
     have e27 : xq 27 = .agg #[.int .i64 0, .int .i64 0, .slice none 0 0] := hx 5 (by decide)
     have e28 : xq 28 = .int .i64 E := hx 6 (by decide)
     obtain ⟨bn8, fn8_0, fn8_1⟩ := hx 8 (by decide)
     have e10 : xq 10 = .int .i64 E := hx 9 (by decide)
     clear hx
     simp only [frameOf, fill, setSlot, sg, Nat.reduceBEq, if_true, if_false, Nat.reduceAdd, Nat.reduceEqDiff, HSL.out]
     simp only [e23, e24, e25, e26, e22, e27, e28, fn8_0, e10]
     clear e23 e24 e25 e26 e22 e27 e28 fn8_0 e10
     refine hKc _ _ ?_
     have HSb := Lib.hid hbb
     have HBb := Lib.hid (HBa.out.trans (hbb.mono hsa))
     have hsb := HBb.out.size
     have hstb := hbb.size
     have Hrmb := Lib.hid fn8_1
     have Hgb := Lib.hid (Hga.out.up HSb.out)
     have Hcb := Lib.hid (Hca.out.up HSb.out)
     have Hhb := Lib.hid (Hha.out.up HSb.out)
     have Hgob := Lib.hid (Hgoa.out.up HSb.out)
     have Hcob := Lib.hid (Hcoa.out.up HSb.out)
     have HGb := Lib.hid (HGa.out.up HSb.out)
     have HAb := Lib.hid (HAa.out.up HSb.out)
     have HPb := Lib.hid (HPa.out.up HSb.out)
     have HMb := Lib.hid (HMa.out.up HSb.out)
     clear hbb fn8_1
     obtain ⟨kco0, kco1, kco2⟩ := Hcob.out.c3
     have lt_co : bn7 < wb.heap.size := Hcob.out.lt
     obtain ⟨kh0, kh1, kh2, kh3, kh4⟩ := Hhb.out.c5
     have lt_h : w.heap.size + 1 + 1 < wb.heap.size := Hhb.out.lt
     go_wp2_with fail
     refine (Take_err full emp A1n7 c1n7 hs x _ (HMb.out.up zg) h9' HE0.out).mono ?_
     rw [← HE.out]
     rintro e wc ⟨rfl, hbc⟩
     have Hgc := Lib.hid (Holds.up (by have h := Hgb.out; exact zp4 : Holds _ (w.heap.size) 24 #[.int .i64 err, .int .i64 miss, .slice G gs.length d]) hbc)
     have Hcc := Lib.hid (Holds.up (by have h := Hcb.out; exact zp4 : Holds _ (w.heap.size + 1) 27 #[.int .i64 full, .int .i64 emp, .slice A hs.length c]) hbc)
     have Hhc := Lib.hid (Holds.up (by have h := Hhb.out; exact zp4 : Holds _ (w.heap.size + 1 + 1) 30 #[.int .i64 x.spot, .int .i64 x.g0, .int .i64 x.g1, .int .i64 x.g2, .int .i64 x.g3]) hbc)
     have Hgoc := Lib.hid (Holds.up (by have h := Hgob.out; exact zp4 : Holds _ (bn6) 24 #[.int .i64 err, .int .i64 miss, .slice G1n6 gs.length d1n6]) hbc)
     have Hcoc := Lib.hid (Holds.up (by have h := Hcob.out; exact zp4 : Holds _ (bn7) 27 #[.int .i64 full, .int .i64 emp, .slice A1n7 hs.length c1n7]) hbc)
     have Hrmc := Lib.hid (Holds.up (by have h := Hrmb.out; exact zp4 : Holds _ (bn8) 37 #[.int .i64 0, .int .i64 0, .slice none 0 0]) hbc)
     have HSc : Hid (Below wb.heap.size wb wc) := Lib.hid (Below.trans zg (hbc.mono (by first | exact Nat.le_refl _ | omega | (simp; done) | (simp; omega))))
     have HBc : Hid (Below w.heap.size w wc) := Lib.hid (HBb.out.trans (HSc.out.mono hsb))
     have hsc := HBc.out.size
     have hstc := HSc.out.size
     have HGc := Lib.hid (HGb.out.up HSc.out)
     have HAc := Lib.hid (HAb.out.up HSc.out)
     have HPc := Lib.hid (HPb.out.up HSc.out)
     have HMc := Lib.hid (HMb.out.up HSc.out)
     clear hbc
     clear kco0 kco1 kco2 lt_co kh0 kh1 kh2 kh3 kh4 lt_h
     obtain ⟨eg, heg⟩ : ∃ z, z = gateErr err miss gs := ⟨_, rfl⟩
     have HEG := Lib.hid heg
     obtain ⟨ec, hec⟩ : ∃ z, z = cartErr full emp hs := ⟨_, rfl⟩
     have HEC := Lib.hid hec
     clear heg hec
     go_wp2_with fail
     rename_i Kc hKc
     have HRL := Lib.hid (show List.range' 35 19 = [35, 36, 37, 38, 39, 40, 41, 42, 43, 44, 45, 46, 47, 48, 49, 50, 51, 52, 53] from rfl)
     refine wp_region_partsR 35 19 (by kernel_rfl) [some 35, some 36, some 37, some 38, some 39, some 40, some 41, some 42, some 43, some 44, some 45, some 46, some 47, some 48, some 49, some 50, some 51, some 52, some 53] (fun jq xq w' => match jq with
      | 0 => xq 35 = .agg #[.int .i64 err, .int .i64 miss, .slice G1n6 gs.length d1n6]
      | 1 => xq 36 = .int .i64 eg
      | 2 => xq 37 = .agg #[.int .i64 err, .int .i64 miss, .slice G gs.length d]
      | 3 => ∃ A8 c8, xq 38 = .agg #[.int .i64 err, .int .i64 miss, .slice A8 gs.length c8] ∧ Rowed w' wc.heap.size 139 (.slice A8 gs.length c8) gs.length (gs.flatMap Gr.cells)
      | 4 => xq 39 = .int .i64 eg
      | 5 => xq 40 = .bool false
      | 6 => xq 41 = .bool false
      | 7 => xq 42 = .agg #[.int .i64 full, .int .i64 emp, .slice A1n7 hs.length c1n7]
      | 8 => xq 43 = .int .i64 ec
      | 9 => xq 44 = .agg #[.int .i64 full, .int .i64 emp, .slice A hs.length c]
      | 10 => ∃ A9 c9, xq 45 = .agg #[.int .i64 full, .int .i64 emp, .slice A9 hs.length c9] ∧ Rowed w' wc.heap.size 42 (.slice A9 hs.length c9) hs.length (hs.flatMap Hf.cells)
      | 11 => xq 46 = .int .i64 ec
      | 12 => xq 47 = .bool false
      | 13 => xq 48 = .bool false
      | 14 => xq 49 = .bool false
      | 15 => xq 50 = .int .i64 E
      | 16 => xq 51 = .int .i64 E
      | 17 => xq 52 = .bool false
      | 18 => xq 53 = .bool false
      | 19 => Holds w' wc.heap.size 27 #[.int .i64 0, .int .i64 0, .slice none 0 0]
      | _ => True) [[35], [36], [37], [38], [39], [40], [41], [42], [43], [44], [45], [46], [47], [48], [49], [50], [51], [52], [53], []] [] (fun w' => Below wc.heap.size wc w') (by kernel_rfl) (by kernel_rfl) (by rfl) ?_ ?_ (fun w' w'' hb h => h.trans (hb.mono h.size)) zg ?_ ?_ ?_
     ·intro jq xq xq' wqq h hv
      match jq, h, hv with
      | 0, h, hv => show xq' 35 = .agg #[.int .i64 err, .int .i64 miss, .slice G1n6 gs.length d1n6]; rw [← h 35 (by decide)]; exact hv
      | 1, h, hv => show xq' 36 = .int .i64 eg; rw [← h 36 (by decide)]; exact hv
      | 2, h, hv => show xq' 37 = .agg #[.int .i64 err, .int .i64 miss, .slice G gs.length d]; rw [← h 37 (by decide)]; exact hv
      | 3, h, hv => show ∃ A8 c8, xq' 38 = .agg #[.int .i64 err, .int .i64 miss, .slice A8 gs.length c8] ∧ Rowed wqq wc.heap.size 139 (.slice A8 gs.length c8) gs.length (gs.flatMap Gr.cells); rw [← h 38 (by decide)]; exact hv
      | 4, h, hv => show xq' 39 = .int .i64 eg; rw [← h 39 (by decide)]; exact hv
      | 5, h, hv => show xq' 40 = .bool false; rw [← h 40 (by decide)]; exact hv
      | 6, h, hv => show xq' 41 = .bool false; rw [← h 41 (by decide)]; exact hv
      | 7, h, hv => show xq' 42 = .agg #[.int .i64 full, .int .i64 emp, .slice A1n7 hs.length c1n7]; rw [← h 42 (by decide)]; exact hv
      | 8, h, hv => show xq' 43 = .int .i64 ec; rw [← h 43 (by decide)]; exact hv
      | 9, h, hv => show xq' 44 = .agg #[.int .i64 full, .int .i64 emp, .slice A hs.length c]; rw [← h 44 (by decide)]; exact hv
      | 10, h, hv => show ∃ A9 c9, xq' 45 = .agg #[.int .i64 full, .int .i64 emp, .slice A9 hs.length c9] ∧ Rowed wqq wc.heap.size 42 (.slice A9 hs.length c9) hs.length (hs.flatMap Hf.cells); rw [← h 45 (by decide)]; exact hv
      | 11, h, hv => show xq' 46 = .int .i64 ec; rw [← h 46 (by decide)]; exact hv
      | 12, h, hv => show xq' 47 = .bool false; rw [← h 47 (by decide)]; exact hv
      | 13, h, hv => show xq' 48 = .bool false; rw [← h 48 (by decide)]; exact hv
      | 14, h, hv => show xq' 49 = .bool false; rw [← h 49 (by decide)]; exact hv
      | 15, h, hv => show xq' 50 = .int .i64 E; rw [← h 50 (by decide)]; exact hv
      | 16, h, hv => show xq' 51 = .int .i64 E; rw [← h 51 (by decide)]; exact hv
      | 17, h, hv => show xq' 52 = .bool false; rw [← h 52 (by decide)]; exact hv
      | 18, h, hv => show xq' 53 = .bool false; rw [← h 53 (by decide)]; exact hv
      | 19, h, hv => exact hv
      | _ + 20, _, _ => trivial
     ·intro jq xq wqq w' hb' hv
      match jq, hv with
      | 0, hv => exact hv
      | 1, hv => exact hv
      | 2, hv => exact hv
      | 3, ⟨b0, b1, h0, h1⟩ => exact ⟨b0, b1, h0, h1.up hb'⟩
      | 4, hv => exact hv
      | 5, hv => exact hv
      | 6, hv => exact hv
      | 7, hv => exact hv
      | 8, hv => exact hv
      | 9, hv => exact hv
      | 10, ⟨b0, b1, h0, h1⟩ => exact ⟨b0, b1, h0, h1.up hb'⟩
      | 11, hv => exact hv
      | 12, hv => exact hv
      | 13, hv => exact hv
      | 14, hv => exact hv
      | 15, hv => exact hv
      | 16, hv => exact hv
      | 17, hv => exact hv
      | 18, hv => exact hv
      | 19, h0 => exact h0.up hb'
      | _ + 20, _ => trivial
     ·intro jq hj
      match jq, hj with
      | 0, hj => exact absurd hj (by decide)
      | 1, hj => exact absurd hj (by decide)
      | 2, hj => exact absurd hj (by decide)
      | 3, hj => exact absurd hj (by decide)
      | 4, hj => exact absurd hj (by decide)
      | 5, hj => exact absurd hj (by decide)
      | 6, hj => exact absurd hj (by decide)
      | 7, hj => exact absurd hj (by decide)
      | 8, hj => exact absurd hj (by decide)
      | 9, hj => exact absurd hj (by decide)
      | 10, hj => exact absurd hj (by decide)
      | 11, hj => exact absurd hj (by decide)
      | 12, hj => exact absurd hj (by decide)
      | 13, hj => exact absurd hj (by decide)
      | 14, hj => exact absurd hj (by decide)
      | 15, hj => exact absurd hj (by decide)
      | 16, hj => exact absurd hj (by decide)
      | 17, hj => exact absurd hj (by decide)
      | 18, hj => exact absurd hj (by decide)
      | 19, _ => exact Holds.new _ _ _
      | _ + 20, _ => trivial
     ·refine ⟨?_, ?_, ?_, ?_, ?_, ?_, ?_, ?_, ?_, ?_, ?_, ?_, ?_, ?_, ?_, ?_, ?_, ?_, ?_, trivial⟩
      ·intro xq wd hbd hx K hK0
       have hK := fun v w' hb => hK0 v w' (.inl hb)
       clear hx hKc hK0
       have kgo0' : wd.cell? ⟨bn6, 0, none⟩ = some (.int .i64 err) := (Hgoc.out.up hbd).cell 0
       have kgo1' : wd.cell? ⟨bn6, 1, none⟩ = some (.int .i64 miss) := (Hgoc.out.up hbd).cell 1
       have kgo2' : wd.cell? ⟨bn6, 2, none⟩ = some (.slice G1n6 gs.length d1n6) := (Hgoc.out.up hbd).cell 2
       simp only [runOf, setSlot, HRL.out, sr, Nat.reduceAdd, Nat.reduceEqDiff, if_true, if_false] at hK ⊢
       go_wp2_with (fail)
       exact hK _ _ (Below.refl _ _) rfl
      ·intro xq wd hbd hx K hK0
       have hK := fun v w' hb => hK0 v w' (.inl hb)
       have e35 : xq 35 = .agg #[.int .i64 err, .int .i64 miss, .slice G1n6 gs.length d1n6] := hx 0 (by rfl) (by rfl)
       clear hx hKc hK0
       simp only [runOf, setSlot, HRL.out, sr, Nat.reduceAdd, Nat.reduceEqDiff, if_true, if_false] at hK ⊢
       simp only [e35] at hK ⊢
       clear e35
       go_wp2_with (go_at_call 22; refine (Check_any err miss G1n6 d1n6 gs _ (HPc.out.up hbd) g7').mono ?_; rw [← HEG.out]; rintro e w2_ ⟨rfl, hb_⟩)
       exact hK _ _ hb_ rfl
      ·intro xq wd hbd hx K hK0
       have hK := fun v w' hb => hK0 v w' (.inl hb)
       clear hx hKc hK0
       have kg0' : wd.cell? ⟨w.heap.size, 0, none⟩ = some (.int .i64 err) := (Hgc.out.up hbd).cell 0
       have kg1' : wd.cell? ⟨w.heap.size, 1, none⟩ = some (.int .i64 miss) := (Hgc.out.up hbd).cell 1
       have kg2' : wd.cell? ⟨w.heap.size, 2, none⟩ = some (.slice G gs.length d) := (Hgc.out.up hbd).cell 2
       simp only [runOf, setSlot, HRL.out, sr, Nat.reduceAdd, Nat.reduceEqDiff, if_true, if_false] at hK ⊢
       go_wp2_with (fail)
       exact hK _ _ (Below.refl _ _) rfl
      ·intro xq wd hbd hx K hK0
       have hK := fun v w' hb => hK0 v w' (.inl hb)
       have e37 : xq 37 = .agg #[.int .i64 err, .int .i64 miss, .slice G gs.length d] := hx 2 (by rfl) (by rfl)
       clear hx hKc hK0
       simp only [runOf, setSlot, HRL.out, sr, Nat.reduceAdd, Nat.reduceEqDiff, if_true, if_false] at hK ⊢
       simp only [e37] at hK ⊢
       clear e37
       go_wp2_with (go_at_call 24; refine (theirs_any err miss G d gs _ (HGc.out.up hbd) g7').mono ?_; rintro e w2_ ⟨A8, c8, rfl, hown, hb_⟩)
       exact hK _ _ hb_ ⟨_, _, rfl, row5_mono hown hbd.size⟩
      ·intro xq wd hbd hx K hK0
       have hK := fun v w' hb => hK0 v w' (.inl hb)
       obtain ⟨A838, c838, e38, f38_0⟩ := hx 3 (by rfl) (by rfl)
       clear hx hKc hK0
       simp only [runOf, setSlot, HRL.out, sr, Nat.reduceAdd, Nat.reduceEqDiff, if_true, if_false] at hK ⊢
       simp only [e38] at hK ⊢
       clear e38
       go_wp2_with (go_at_call 23; refine (refCheck_any err miss A838 c838 gs _ (their_at f38_0) g7').mono ?_; rw [← HEG.out]; rintro e w2_ ⟨rfl, hb_⟩)
       exact hK _ _ hb_ rfl
      ·intro xq wd hbd hx K hK0
       have hK := fun v w' hb => hK0 v w' (.inl hb)
       have e36 : xq 36 = .int .i64 eg := hx 1 (by rfl) (by rfl)
       have e39 : xq 39 = .int .i64 eg := hx 4 (by rfl) (by rfl)
       clear hx hKc hK0
       simp only [runOf, setSlot, HRL.out, sr, Nat.reduceAdd, Nat.reduceEqDiff, if_true, if_false] at hK ⊢
       simp only [e36, e39] at hK ⊢
       clear e36 e39
       go_wp2_with (fail)
       first | exact hK _ _ (Below.refl _ _) rfl | exact hK _ _ (Below.refl _ _) (congrArg Value.bool (by simp))
      ·intro xq wd hbd hx K hK0
       have hK := fun v w' hb => hK0 v w' (.inl hb)
       have e40 : xq 40 = .bool false := hx 5 (by rfl) (by rfl)
       clear hx hKc hK0
       simp only [runOf, setSlot, HRL.out, sr, Nat.reduceAdd, Nat.reduceEqDiff, if_true, if_false] at hK ⊢
       simp only [e40] at hK ⊢
       clear e40
       go_wp2_with (fail)
       exact hK _ _ (Below.refl _ _) rfl
      ·intro xq wd hbd hx K hK0
       have hK := fun v w' hb => hK0 v w' (.inl hb)
       have e41 : xq 41 = .bool false := hx 6 (by rfl) (by rfl)
       clear hx hKc hK0
       have kco0' : wd.cell? ⟨bn7, 0, none⟩ = some (.int .i64 full) := (Hcoc.out.up hbd).cell 0
       have kco1' : wd.cell? ⟨bn7, 1, none⟩ = some (.int .i64 emp) := (Hcoc.out.up hbd).cell 1
       have kco2' : wd.cell? ⟨bn7, 2, none⟩ = some (.slice A1n7 hs.length c1n7) := (Hcoc.out.up hbd).cell 2
       simp only [runOf, setSlot, HRL.out, sr, Nat.reduceAdd, Nat.reduceEqDiff, if_true, if_false] at hK ⊢
       simp only [e41] at hK ⊢
       clear e41
       go_wp2_with (fail)
       exact hK _ _ (Below.refl _ _) rfl
      ·intro xq wd hbd hx K hK0
       have hK := fun v w' hb => hK0 v w' (.inl hb)
       have e41 : xq 41 = .bool false := hx 6 (by rfl) (by rfl)
       have e42 : xq 42 = .agg #[.int .i64 full, .int .i64 emp, .slice A1n7 hs.length c1n7] := hx 7 (by rfl) (by rfl)
       clear hx hKc hK0
       simp only [runOf, setSlot, HRL.out, sr, Nat.reduceAdd, Nat.reduceEqDiff, if_true, if_false] at hK ⊢
       simp only [e41, e42] at hK ⊢
       clear e41 e42
       go_wp2_with (go_at_call 25; refine (CheckCart_any full emp A1n7 c1n7 hs _ (HMc.out.up hbd) h9').mono ?_; rw [← HEC.out]; rintro e w2_ ⟨rfl, hb_⟩)
       exact hK _ _ hb_ rfl
      ·intro xq wd hbd hx K hK0
       have hK := fun v w' hb => hK0 v w' (.inl hb)
       have e41 : xq 41 = .bool false := hx 6 (by rfl) (by rfl)
       clear hx hKc hK0
       have kc0' : wd.cell? ⟨w.heap.size + 1, 0, none⟩ = some (.int .i64 full) := (Hcc.out.up hbd).cell 0
       have kc1' : wd.cell? ⟨w.heap.size + 1, 1, none⟩ = some (.int .i64 emp) := (Hcc.out.up hbd).cell 1
       have kc2' : wd.cell? ⟨w.heap.size + 1, 2, none⟩ = some (.slice A hs.length c) := (Hcc.out.up hbd).cell 2
       simp only [runOf, setSlot, HRL.out, sr, Nat.reduceAdd, Nat.reduceEqDiff, if_true, if_false] at hK ⊢
       simp only [e41] at hK ⊢
       clear e41
       go_wp2_with (fail)
       exact hK _ _ (Below.refl _ _) rfl
      ·intro xq wd hbd hx K hK0
       have hK := fun v w' hb => hK0 v w' (.inl hb)
       have e41 : xq 41 = .bool false := hx 6 (by rfl) (by rfl)
       have e44 : xq 44 = .agg #[.int .i64 full, .int .i64 emp, .slice A hs.length c] := hx 9 (by rfl) (by rfl)
       clear hx hKc hK0
       simp only [runOf, setSlot, HRL.out, sr, Nat.reduceAdd, Nat.reduceEqDiff, if_true, if_false] at hK ⊢
       simp only [e41, e44] at hK ⊢
       clear e41 e44
       go_wp2_with (go_at_call 20; refine (come_any full emp A c hs _ (HAc.out.up hbd) h9').mono ?_; rintro e w2_ ⟨A9, c9, rfl, hown, hb_⟩)
       exact hK _ _ hb_ ⟨_, _, rfl, row5_mono hown hbd.size⟩
      ·intro xq wd hbd hx K hK0
       have hK := fun v w' hb => hK0 v w' (.inl hb)
       have e41 : xq 41 = .bool false := hx 6 (by rfl) (by rfl)
       obtain ⟨A945, c945, e45, f45_0⟩ := hx 10 (by rfl) (by rfl)
       clear hx hKc hK0
       simp only [runOf, setSlot, HRL.out, sr, Nat.reduceAdd, Nat.reduceEqDiff, if_true, if_false] at hK ⊢
       simp only [e41, e45] at hK ⊢
       clear e41 e45
       go_wp2_with (go_at_call 26; refine (refCheckCart_any full emp A945 c945 hs _ (rowed_at f45_0) h9').mono ?_; rw [← HEC.out]; rintro e w2_ ⟨rfl, hb_⟩)
       exact hK _ _ hb_ rfl
      ·intro xq wd hbd hx K hK0
       have hK := fun v w' hb => hK0 v w' (.inl hb)
       have e41 : xq 41 = .bool false := hx 6 (by rfl) (by rfl)
       have e43 : xq 43 = .int .i64 ec := hx 8 (by rfl) (by rfl)
       have e46 : xq 46 = .int .i64 ec := hx 11 (by rfl) (by rfl)
       clear hx hKc hK0
       simp only [runOf, setSlot, HRL.out, sr, Nat.reduceAdd, Nat.reduceEqDiff, if_true, if_false] at hK ⊢
       simp only [e41, e43, e46] at hK ⊢
       clear e41 e43 e46
       go_wp2_with (fail)
       first | exact hK _ _ (Below.refl _ _) rfl | exact hK _ _ (Below.refl _ _) (congrArg Value.bool (by simp))
      ·intro xq wd hbd hx K hK0
       have hK := fun v w' hb => hK0 v w' (.inl hb)
       have e41 : xq 41 = .bool false := hx 6 (by rfl) (by rfl)
       have e47 : xq 47 = .bool false := hx 12 (by rfl) (by rfl)
       clear hx hKc hK0
       simp only [runOf, setSlot, HRL.out, sr, Nat.reduceAdd, Nat.reduceEqDiff, if_true, if_false] at hK ⊢
       simp only [e41, e47] at hK ⊢
       clear e41 e47
       go_wp2_with (fail)
       exact hK _ _ (Below.refl _ _) rfl
      ·intro xq wd hbd hx K hK0
       have hK := fun v w' hb => hK0 v w' (.inl hb)
       have e48 : xq 48 = .bool false := hx 13 (by rfl) (by rfl)
       clear hx hKc hK0
       simp only [runOf, setSlot, HRL.out, sr, Nat.reduceAdd, Nat.reduceEqDiff, if_true, if_false] at hK ⊢
       simp only [e48] at hK ⊢
       clear e48
       go_wp2_with (fail)
       exact hK _ _ (Below.refl _ _) rfl
      ·intro xq wd hbd hx K hK0
       have hK := fun v w' hb => hK0 v w' (.inl hb)
       have e49 : xq 49 = .bool false := hx 14 (by rfl) (by rfl)
       clear hx hKc hK0
       simp only [runOf, setSlot, HRL.out, sr, Nat.reduceAdd, Nat.reduceEqDiff, if_true, if_false] at hK ⊢
       simp only [e49] at hK ⊢
       clear e49
       go_wp2_with (fail)
       exact hK _ _ (Below.refl _ _) rfl
      ·intro xq wd hbd hx K hK0
       have hK := fun v w' hb => hK0 v w' (.inl hb)
       have e49 : xq 49 = .bool false := hx 14 (by rfl) (by rfl)
       clear hx hKc hK0
       simp only [runOf, setSlot, HRL.out, sr, Nat.reduceAdd, Nat.reduceEqDiff, if_true, if_false] at hK ⊢
       simp only [e49] at hK ⊢
       clear e49
       go_wp2_with (fail)
       exact hK _ _ (Below.refl _ _) rfl
      ·intro xq wd hbd hx K hK0
       have hK := fun v w' hb => hK0 v w' (.inl hb)
       have e49 : xq 49 = .bool false := hx 14 (by rfl) (by rfl)
       have e50 : xq 50 = .int .i64 E := hx 15 (by rfl) (by rfl)
       have e51 : xq 51 = .int .i64 E := hx 16 (by rfl) (by rfl)
       clear hx hKc hK0
       simp only [runOf, setSlot, HRL.out, sr, Nat.reduceAdd, Nat.reduceEqDiff, if_true, if_false] at hK ⊢
       simp only [e49, e50, e51] at hK ⊢
       clear e49 e50 e51
       go_wp2_with (fail)
       first | exact hK _ _ (Below.refl _ _) rfl | exact hK _ _ (Below.refl _ _) (congrArg Value.bool (by simp))
      ·intro xq wd hbd hx K hK0
       have hK := fun v w' hb => hK0 v w' (.inl hb)
       have e49 : xq 49 = .bool false := hx 14 (by rfl) (by rfl)
       have e52 : xq 52 = .bool false := hx 17 (by rfl) (by rfl)
       clear hx hKc hK0
       simp only [runOf, setSlot, HRL.out, sr, Nat.reduceAdd, Nat.reduceEqDiff, if_true, if_false] at hK ⊢
       simp only [e49, e52] at hK ⊢
       clear e49 e52
       go_wp2_with (fail)
       exact hK _ _ (Below.refl _ _) rfl
     ·intro xq wd hbd hx
      have e35 : xq 35 = .agg #[.int .i64 err, .int .i64 miss, .slice G1n6 gs.length d1n6] := hx 0 (by decide)
      have e36 : xq 36 = .int .i64 eg := hx 1 (by decide)
      have e37 : xq 37 = .agg #[.int .i64 err, .int .i64 miss, .slice G gs.length d] := hx 2 (by decide)
      obtain ⟨A838, c838, e38, f38_0⟩ := hx 3 (by decide)
      have e39 : xq 39 = .int .i64 eg := hx 4 (by decide)
      have e40 : xq 40 = .bool false := hx 5 (by decide)
      have e41 : xq 41 = .bool false := hx 6 (by decide)
      have e42 : xq 42 = .agg #[.int .i64 full, .int .i64 emp, .slice A1n7 hs.length c1n7] := hx 7 (by decide)
      have e43 : xq 43 = .int .i64 ec := hx 8 (by decide)
      have e44 : xq 44 = .agg #[.int .i64 full, .int .i64 emp, .slice A hs.length c] := hx 9 (by decide)
      obtain ⟨A945, c945, e45, f45_0⟩ := hx 10 (by decide)
      have e46 : xq 46 = .int .i64 ec := hx 11 (by decide)
      have e47 : xq 47 = .bool false := hx 12 (by decide)
      have e48 : xq 48 = .bool false := hx 13 (by decide)
      have e49 : xq 49 = .bool false := hx 14 (by decide)
      have e50 : xq 50 = .int .i64 E := hx 15 (by decide)
      have e51 : xq 51 = .int .i64 E := hx 16 (by decide)
      have e52 : xq 52 = .bool false := hx 17 (by decide)
      have e53 : xq 53 = .bool false := hx 18 (by decide)
      have fiot_0 : Holds wd wc.heap.size 27 #[.int .i64 0, .int .i64 0, .slice none 0 0] := hx 19 (by decide)
      clear hx
      simp only [runOf, setSlot, HRL.out, sr, Nat.reduceAdd, Nat.reduceEqDiff, if_true, if_false]
      simp only [e35, e36, e37, e38, e39, e40, e41, e42, e43, e44, e45, e46, e47, e48, e49, e50, e51, e52, e53]
      clear e35 e36 e37 e38 e39 e40 e41 e42 e43 e44 e45 e46 e47 e48 e49 e50 e51 e52 e53
      refine hKc _ _ ?_
      have HSd := Lib.hid hbd
      have HBd := Lib.hid (HBc.out.trans (hbd.mono hsc))
      have hsd := HBd.out.size
      have hstd := hbd.size
      have Hotd := Lib.hid fiot_0
      have Hgd := Lib.hid (Hgc.out.up HSd.out)
      have Hcd := Lib.hid (Hcc.out.up HSd.out)
      have Hhd := Lib.hid (Hhc.out.up HSd.out)
      have Hgod := Lib.hid (Hgoc.out.up HSd.out)
      have Hcod := Lib.hid (Hcoc.out.up HSd.out)
      have Hrmd := Lib.hid (Hrmc.out.up HSd.out)
      have HGd := Lib.hid (HGc.out.up HSd.out)
      have HAd := Lib.hid (HAc.out.up HSd.out)
      have HPd := Lib.hid (HPc.out.up HSd.out)
      have HMd := Lib.hid (HMc.out.up HSd.out)
      clear hbd fiot_0
      obtain ⟨kot0, kot1, kot2⟩ := Hotd.out.c3
      have lt_ot : wc.heap.size < wd.heap.size := Hotd.out.lt
      go_wp2_with fail
      refine (come_any 0 0 none 0 [] _ (fun h => absurd h (Nat.lt_irrefl 0)) (by decide)).mono ?_
      rintro e we ⟨A8, c8, rfl, hrow, hbe⟩
      have Hge := Lib.hid (Holds.up (by have h := Hgd.out; exact zp4 : Holds _ (w.heap.size) 24 #[.int .i64 err, .int .i64 miss, .slice G gs.length d]) hbe)
      have Hce := Lib.hid (Holds.up (by have h := Hcd.out; exact zp4 : Holds _ (w.heap.size + 1) 27 #[.int .i64 full, .int .i64 emp, .slice A hs.length c]) hbe)
      have Hhe := Lib.hid (Holds.up (by have h := Hhd.out; exact zp4 : Holds _ (w.heap.size + 1 + 1) 30 #[.int .i64 x.spot, .int .i64 x.g0, .int .i64 x.g1, .int .i64 x.g2, .int .i64 x.g3]) hbe)
      have Hgoe := Lib.hid (Holds.up (by have h := Hgod.out; exact zp4 : Holds _ (bn6) 24 #[.int .i64 err, .int .i64 miss, .slice G1n6 gs.length d1n6]) hbe)
      have Hcoe := Lib.hid (Holds.up (by have h := Hcod.out; exact zp4 : Holds _ (bn7) 27 #[.int .i64 full, .int .i64 emp, .slice A1n7 hs.length c1n7]) hbe)
      have Hrme := Lib.hid (Holds.up (by have h := Hrmd.out; exact zp4 : Holds _ (bn8) 37 #[.int .i64 0, .int .i64 0, .slice none 0 0]) hbe)
      have Hote := Lib.hid (Holds.up (by have h := Hotd.out; exact zp4 : Holds _ (wc.heap.size) 27 #[.int .i64 0, .int .i64 0, .slice none 0 0]) hbe)
      have HSe : Hid (Below wd.heap.size wd we) := Lib.hid (Below.trans zg (hbe.mono (by first | exact Nat.le_refl _ | omega | (simp; done) | (simp; omega))))
      have HBe : Hid (Below w.heap.size w we) := Lib.hid (HBd.out.trans (HSe.out.mono hsd))
      have hse := HBe.out.size
      have hste := HSe.out.size
      have HGe := Lib.hid (HGd.out.up HSe.out)
      have HAe := Lib.hid (HAd.out.up HSe.out)
      have HPe := Lib.hid (HPd.out.up HSe.out)
      have HMe := Lib.hid (HMd.out.up HSe.out)
      clear hbe
      have HRe := Lib.hid (rowed_at hrow)
      clear hrow
      clear kot0 kot1 kot2 lt_ot
      obtain ⟨krm0, krm1, krm2⟩ := Hrme.out.c3
      have lt_rm : bn8 < we.heap.size := Hrme.out.lt
      go_wp2_with fail
      refine (eqRefHand_same A8 none c8 0 [] _ (HRe.out.up zg) (fun h => absurd h (Nat.lt_irrefl 0)) (by decide)).mono ?_
      rintro e wf ⟨rfl, hbf⟩
      have Hgf := Lib.hid (Holds.up (by have h := Hge.out; exact zp4 : Holds _ (w.heap.size) 24 #[.int .i64 err, .int .i64 miss, .slice G gs.length d]) hbf)
      have Hcf := Lib.hid (Holds.up (by have h := Hce.out; exact zp4 : Holds _ (w.heap.size + 1) 27 #[.int .i64 full, .int .i64 emp, .slice A hs.length c]) hbf)
      have Hhf := Lib.hid (Holds.up (by have h := Hhe.out; exact zp4 : Holds _ (w.heap.size + 1 + 1) 30 #[.int .i64 x.spot, .int .i64 x.g0, .int .i64 x.g1, .int .i64 x.g2, .int .i64 x.g3]) hbf)
      have Hgof := Lib.hid (Holds.up (by have h := Hgoe.out; exact zp4 : Holds _ (bn6) 24 #[.int .i64 err, .int .i64 miss, .slice G1n6 gs.length d1n6]) hbf)
      have Hcof := Lib.hid (Holds.up (by have h := Hcoe.out; exact zp4 : Holds _ (bn7) 27 #[.int .i64 full, .int .i64 emp, .slice A1n7 hs.length c1n7]) hbf)
      have Hrmf := Lib.hid (Holds.up (by have h := Hrme.out; exact zp4 : Holds _ (bn8) 37 #[.int .i64 0, .int .i64 0, .slice none 0 0]) hbf)
      have Hotf := Lib.hid (Holds.up (by have h := Hote.out; exact zp4 : Holds _ (wc.heap.size) 27 #[.int .i64 0, .int .i64 0, .slice none 0 0]) hbf)
      have HSf : Hid (Below we.heap.size we wf) := Lib.hid (Below.trans zg (hbf.mono (by first | exact Nat.le_refl _ | omega | (simp; done) | (simp; omega))))
      have HBf : Hid (Below w.heap.size w wf) := Lib.hid (HBe.out.trans (HSf.out.mono hse))
      have hsf := HBf.out.size
      have hstf := HSf.out.size
      have HGf := Lib.hid (HGe.out.up HSf.out)
      have HAf := Lib.hid (HAe.out.up HSf.out)
      have HPf := Lib.hid (HPe.out.up HSf.out)
      have HMf := Lib.hid (HMe.out.up HSf.out)
      have HRf := Lib.hid (HRe.out.up HSf.out)
      clear hbf
      clear krm0 krm1 krm2 lt_rm
      obtain ⟨kot0, kot1, kot2⟩ := Hotf.out.c3
      have lt_ot : wc.heap.size < wf.heap.size := Hotf.out.lt
      have HVf : Hid (Below wb.heap.size wb wf) := Lib.hid (HSc.out.trans ((HSd.out.trans ((HSe.out.trans (HSf.out.mono hste)).mono hstd)).mono hstc))
      have hvf := HVf.out.size
      have hclr := run_clear_nil wf 0
      have HVg := HVf
      have HBg := Lib.hid (HBb.out.trans (HVg.out.mono hsb))
      have hsg := HBg.out.size
      have Hgg := Lib.hid (Hgb.out.up HVg.out)
      have Hcg := Lib.hid (Hcb.out.up HVg.out)
      have Hgog := Lib.hid (Hgob.out.up HVg.out)
      have Hcog := Lib.hid (Hcob.out.up HVg.out)
      have HGg := Lib.hid (HGb.out.up HVg.out)
      have HAg := Lib.hid (HAb.out.up HVg.out)
      have HPg := Lib.hid (HPb.out.up HVg.out)
      have HMg := Lib.hid (HMb.out.up HVg.out)
      obtain ⟨kg0, kg1, kg2⟩ := Hgg.out.c3
      have lt_g : w.heap.size < wf.heap.size := Hgg.out.lt
      obtain ⟨kgo0, kgo1, kgo2⟩ := Hgog.out.c3
      have lt_go : bn6 < wf.heap.size := Hgog.out.lt
      go_wp2_with (at_builtin; (refine wpList_clear_run _ rfl _ _ rfl _ rfl hclr ?_))
      refine (same_same err miss G1n6 G d1n6 d gs _ (HPg.out.up zg) (HGg.out.up zg) g7').mono ?_
      rintro e wi ⟨rfl, hbi⟩
      have Hgi := Lib.hid (Holds.up (by have h := Hgg.out; exact zp4 : Holds _ (w.heap.size) 24 #[.int .i64 err, .int .i64 miss, .slice G gs.length d]) hbi)
      have Hci := Lib.hid (Holds.up (by have h := Hcg.out; exact zp4 : Holds _ (w.heap.size + 1) 27 #[.int .i64 full, .int .i64 emp, .slice A hs.length c]) hbi)
      have Hgoi := Lib.hid (Holds.up (by have h := Hgog.out; exact zp4 : Holds _ (bn6) 24 #[.int .i64 err, .int .i64 miss, .slice G1n6 gs.length d1n6]) hbi)
      have Hcoi := Lib.hid (Holds.up (by have h := Hcog.out; exact zp4 : Holds _ (bn7) 27 #[.int .i64 full, .int .i64 emp, .slice A1n7 hs.length c1n7]) hbi)
      have HSi : Hid (Below wf.heap.size wf wi) := Lib.hid (Below.trans zg (hbi.mono (by first | exact Nat.le_refl _ | omega | (simp; done) | (simp; omega))))
      have HBi : Hid (Below w.heap.size w wi) := Lib.hid (HBg.out.trans (HSi.out.mono hsg))
      have hsi := HBi.out.size
      have hsti := HSi.out.size
      have HGi := Lib.hid (HGg.out.up HSi.out)
      have HAi := Lib.hid (HAg.out.up HSi.out)
      have HPi := Lib.hid (HPg.out.up HSi.out)
      have HMi := Lib.hid (HMg.out.up HSi.out)
      clear hbi
      clear kg0 kg1 kg2 lt_g kgo0 kgo1 kgo2 lt_go
      obtain ⟨kc0, kc1, kc2⟩ := Hci.out.c3
      have lt_c : w.heap.size + 1 < wi.heap.size := Hci.out.lt
      obtain ⟨kco0, kco1, kco2⟩ := Hcoi.out.c3
      have lt_co : bn7 < wi.heap.size := Hcoi.out.lt
      go_wp2_with fail
      refine (alike_same full emp A1n7 A c1n7 c hs _ (HMi.out.up zg) (HAi.out.up zg) h9').mono ?_
      rintro e wj ⟨rfl, hbj⟩
      have Hgj := Lib.hid (Holds.up (by have h := Hgi.out; exact zp4 : Holds _ (w.heap.size) 24 #[.int .i64 err, .int .i64 miss, .slice G gs.length d]) hbj)
      have Hcj := Lib.hid (Holds.up (by have h := Hci.out; exact zp4 : Holds _ (w.heap.size + 1) 27 #[.int .i64 full, .int .i64 emp, .slice A hs.length c]) hbj)
      have Hgoj := Lib.hid (Holds.up (by have h := Hgoi.out; exact zp4 : Holds _ (bn6) 24 #[.int .i64 err, .int .i64 miss, .slice G1n6 gs.length d1n6]) hbj)
      have Hcoj := Lib.hid (Holds.up (by have h := Hcoi.out; exact zp4 : Holds _ (bn7) 27 #[.int .i64 full, .int .i64 emp, .slice A1n7 hs.length c1n7]) hbj)
      have HSj : Hid (Below wi.heap.size wi wj) := Lib.hid (Below.trans zg (hbj.mono (by first | exact Nat.le_refl _ | omega | (simp; done) | (simp; omega))))
      have HBj : Hid (Below w.heap.size w wj) := Lib.hid (HBi.out.trans (HSj.out.mono hsi))
      have hsj := HBj.out.size
      have hstj := HSj.out.size
      have HGj := Lib.hid (HGi.out.up HSj.out)
      have HAj := Lib.hid (HAi.out.up HSj.out)
      have HPj := Lib.hid (HPi.out.up HSj.out)
      have HMj := Lib.hid (HMi.out.up HSj.out)
      clear hbj
      clear kc0 kc1 kc2 lt_c kco0 kco1 kco2 lt_co
      go_wp2_with fail
      refine (awake_any _).mono ?_
      rintro e w40 ⟨rfl, hb40⟩
      go_wp2_with fail
      go_ret
      exact ⟨rfl, HBj.out.trans (hb40.mono hsj)⟩
end Go.Proofs.Ytdpgfaikmahmpaa
